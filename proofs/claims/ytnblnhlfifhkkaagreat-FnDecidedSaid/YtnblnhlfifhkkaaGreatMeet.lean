/-
  Chapter 1's meeting of path patterns: both programs answer alike.
-/
import Derived.Test.YtnblnhlfifhkkaaGreatCovP
namespace Go.Proofs.YtnblnhlfifhkkaaGreat
open Go.RowKit Go.Shelf

/-- Two words meet. -/
def mtB (x y : ByteArray) : Bool := (eqB x y || starB x) || starB y
/-- Two lists of words meet. -/
def mwB : List ByteArray → List ByteArray → Bool
  | [], [] => true
  | [], y :: _ => star2B y
  | x :: _, [] => star2B x
  | x :: xs, y :: ys => (star2B x || star2B y) || (mtB x y && mwB xs ys)
theorem mwB_rest {xs ys : List ByteArray} {k : Nat} (h : restB xs k = true) : mwB (xs.drop k) (ys.drop k) = true := by
  by_cases hk : k < xs.length
  · rw [restB_lt hk] at h
    rw [List.drop_eq_getElem_cons hk]
    cases ys.drop k with
    | nil => exact h
    | cons y r => simp [mwB, h]
  · rw [restB_ge hk] at h
    cases h
theorem mwB_rest2 {xs ys : List ByteArray} {k : Nat} (h : restB ys k = true) : mwB (xs.drop k) (ys.drop k) = true := by
  by_cases hk : k < ys.length
  · rw [restB_lt hk] at h
    rw [List.drop_eq_getElem_cons hk]
    cases xs.drop k with
    | nil => exact h
    | cons y r => simp [mwB, h]
  · rw [restB_ge hk] at h
    cases h
theorem mwB_end {xs ys : List ByteArray} {k : Nat} (hx : k ≤ xs.length) (hy : k ≤ ys.length) (h : restB xs k = false) (h' : restB ys k = false) (he : k = xs.length ∨ k = ys.length) : mwB (xs.drop k) (ys.drop k) = decide (xs.length = ys.length) := by
  by_cases hk : k < xs.length
  · obtain rfl : k = ys.length := by omega
    rw [restB_lt hk] at h
    rw [List.drop_eq_getElem_cons hk, List.drop_length, mwB, h]
    exact (decide_eq_false (by omega)).symm
  · obtain rfl : k = xs.length := by omega
    rw [List.drop_length]
    by_cases hl : xs.length < ys.length
    · rw [restB_lt hl] at h'
      rw [List.drop_eq_getElem_cons hl, mwB, h']
      exact (decide_eq_false (by omega)).symm
    · rw [List.drop_of_length_le (by omega), mwB]
      exact (decide_eq_true (by omega)).symm
theorem mwB_step {xs ys : List ByteArray} {k : Nat} (hx : k < xs.length) (hy : k < ys.length) (h : restB xs k = false) (h' : restB ys k = false) : mwB (xs.drop k) (ys.drop k) = (mtB xs[k] ys[k] && mwB (xs.drop (k + 1)) (ys.drop (k + 1))) := by
  rw [restB_lt hx] at h
  rw [restB_lt hy] at h'
  rw [List.drop_eq_getElem_cons hx, List.drop_eq_getElem_cons hy, mwB, h, h']
  rfl

/-- Two path patterns meet. -/
def mpB (s t : ByteArray) : Bool := cpOk s t && mwB (ptLs s) (ptLs t)

end Go.Proofs.YtnblnhlfifhkkaaGreat
