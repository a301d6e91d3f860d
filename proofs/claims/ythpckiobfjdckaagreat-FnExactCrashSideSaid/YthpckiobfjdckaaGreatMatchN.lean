/-
  Chapter 1's matching of names.
-/
import Derived.Deep.QuietTactic
import Derived.BigQuiet
import Derived.WalkSmall
import Derived.Test.YthpckiobfjdckaaGreatNameP
namespace Go.Proofs.YthpckiobfjdckaaGreat
open Go.RowKit Go.Shelf

theorem cell_lt {w : World} {g o : Nat} {v : Value} (h : w.cell? ⟨g, o, none⟩ = some v) : g < w.heap.size := by
  simp only [World.cell?] at h
  by_cases hl : g < w.heap.size
  · exact hl
  · rw [Array.getElem?_eq_none (by omega)] at h
    cases h
def eqB (x y : ByteArray) : Bool := x.toList == y.toList
/-- The piece x stands for y. -/
def stB (x y : ByteArray) : Bool := starB x || eqB x y
def mnB (l m : List ByteArray) : Bool := match l, m with
  | [x, y], [u, v] => stB x u && stB y v
  | _, _ => false

end Go.Proofs.YthpckiobfjdckaaGreat
