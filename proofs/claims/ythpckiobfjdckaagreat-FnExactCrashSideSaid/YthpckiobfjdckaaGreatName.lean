/-
  Chapter 1's names: both programs tell alike which texts are names and which are patterns of names.
-/
import Derived.Test.YthpckiobfjdckaaGreatIter
namespace Go.Proofs.YthpckiobfjdckaaGreat
open Go.RowKit Go.Shelf

/-- A row of texts, cell by cell. -/
theorem row_cell {w : World} {base g cap : Nat} {xs : List ByteArray} (hrow : w.ownsRow base 9 1 (.slice (some ⟨g, 0, none⟩) xs.length cap) xs.length (xs.map Value.string)) (k : Nat) (h : k < xs.length) : w.cell? ⟨g, k, none⟩ = some (.string xs[k]) := by
  rw [hrow.cellAt k (by omega)]
  simp [h]

theorem gnB_two (x y : ByteArray) : gnB [x, y] = (wordB x && wordB y) := by simp [gnB]
theorem gnB_no {l : List ByteArray} (h : ¬ l.length = 2) : gnB l = false := by simp [gnB, h]
theorem gnB_nm (l : List ByteArray) (h : nmB l = true) : gnB l = l.all wordB := by
  rw [nmB_eq] at h
  simp at h
  simp [gnB, h.1]
theorem gnB_not (l : List ByteArray) (h : nmB l = false) : gnB l = false := by
  rw [nmB_eq] at h
  cases e : gnB l with
  | false => rfl
  | true =>
    simp [gnB] at e
    have : l.all wsB = true := by
      rw [List.all_eq_true]
      intro x hx
      simp [wsB, e.2 x hx]
    rw [this] at h
    simp [e.1] at h
theorem two_of {l : List ByteArray} (h : l.length = 2) : ∃ x y, l = [x, y] := by
  match l, h with
  | [x, y], _ => exact ⟨x, y, rfl⟩

/-- A row of two texts. -/
theorem row_two {w : World} {base : Nat} {v : Value} {x y : ByteArray} (hrow : w.ownsRow base 9 1 v [x, y].length ([x, y].map Value.string)) : ∃ g cap, v = .slice (some ⟨g, 0, none⟩) 2 cap ∧ w.cell? ⟨g, 0, none⟩ = some (.string x) ∧ w.cell? ⟨g, 1, none⟩ = some (.string y) := by
  obtain ⟨g, cap, rfl⟩ := ownsRow_succ hrow
  exact ⟨g, cap, rfl, row_cell (xs := [x, y]) hrow 0 (by simp), row_cell (xs := [x, y]) hrow 1 (by simp)⟩

set_option maxHeartbeats 1000000 in
theorem implGoodNamePattern_any (s : ByteArray) (w : World) (hs : s.size ≤ 1048576) :
    Calls Tryz.prog 106 #[.string s] w fun e w' => e = .returned (.bool (nmB (split s 47))) ∧ Below w.heap.size w w' := by
  go_enter Tryz.func106, Tryz.ntmps106
  go_wp2_with (go_at_call 132; refine (wordsOfName_any s _ hs).mono ?_; rintro e w1 ⟨v, rfl, hrow, hB⟩)
  go_ret
  exact ⟨rfl, hB⟩

end Go.Proofs.YthpckiobfjdckaaGreat
