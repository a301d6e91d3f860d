/-
  Chapter 1's covering of path patterns and matching of paths: both programs answer alike.
-/
import Derived.Test.YtmmjiocmldnamaaGreatNameM
import Derived.Test.YtmmjiocmldnamaaGreatSpecPath
namespace Go.Proofs.YtmmjiocmldnamaaGreat
open Go.RowKit Go.Shelf

def cpOk (s t : ByteArray) : Bool := ptBs s && ptBs t
/-- A path pattern covers another. -/
def cpB (s t : ByteArray) : Bool := cpOk s t && cvB (ptLs s) (ptLs t)
/-- A path pattern matches a path. -/
def mtpB (s t : ByteArray) : Bool := (cpOk s t && cpB s t) && gpB t

theorem ret_slice {a : Option Addr} {n m cap : Nat} {b c : Bool} (h : n = m) (h' : b = c) : Ending.returned (.tuple #[.slice a n cap, .bool b]) = .returned (.tuple #[.slice a m cap, .bool c]) := by rw [h, h']

/-- The end of two stars, and what stands ahead of it. -/
def opB (xs : List ByteArray) : Bool := match xs.getLast? with
  | some x => star2B x
  | none => false
def oL (xs : List ByteArray) : List ByteArray := if opB xs = true then xs.dropLast else xs
theorem opB_last {xs : List ByteArray} (h : 0 < xs.length) : opB xs = star2B (xs[xs.length - 1]'(by omega)) := by
  unfold opB
  rw [List.getLast?_eq_getElem?, List.getElem?_eq_getElem (by omega)]
theorem oL_no {xs : List ByteArray} (h : opB xs = false) : oL xs = xs := if_neg (by rw [h]; exact Bool.false_ne_true)
theorem oL_yes {xs : List ByteArray} (h : opB xs = true) : oL xs = xs.dropLast := if_pos h
theorem oL_len (xs : List ByteArray) : (oL xs).length ≤ xs.length := by
  unfold oL
  split
  · simp
  · exact Nat.le_refl _
theorem oL_at {xs : List ByteArray} {k : Nat} (h : k < (oL xs).length) : (oL xs)[k] = xs[k]'(Nat.lt_of_lt_of_le h (oL_len xs)) := by
  cases ho : opB xs
  · simp [oL_no ho]
  · simp [oL_yes ho]

end Go.Proofs.YtmmjiocmldnamaaGreat
