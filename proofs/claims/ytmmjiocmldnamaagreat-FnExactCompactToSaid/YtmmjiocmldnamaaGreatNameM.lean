/-
  Chapter 1's matching and covering of names: both programs answer alike.
-/
import Derived.Test.YtmmjiocmldnamaaGreatCovers
namespace Go.Proofs.YtmmjiocmldnamaaGreat
open Go.RowKit Go.Shelf

theorem ws_not2 {x : ByteArray} (h : wsB x = true) : star2B x = false := by
  cases h2 : star2B x with
  | false => rfl
  | true => rw [star2_not_ws x h2] at h; cases h
theorem cw_st {x u : ByteArray} (h : wsB u = true) : cwB x u = stB x u := by
  unfold cwB stB
  rw [ws_not2 h, Bool.not_false, Bool.and_true, Bool.or_comm]
theorem cv_names {x y u v : ByteArray} (h : nmB [x, y] = true) (h' : nmB [u, v] = true) : cvB [x, y] [u, v] = (stB x u && stB y v) := by
  rw [nmB_two, Bool.and_eq_true] at h h'
  simp only [cvB, ws_not2 h.1, ws_not2 h.2, cw_st h'.1, cw_st h'.2, Bool.false_or, Bool.and_true]
theorem nm_two {s : ByteArray} (h : nmB (split s 47) = true) : ∃ x y, split s 47 = [x, y] := by
  rw [nmB_eq, Bool.and_eq_true] at h
  exact two_of (of_decide_eq_true h.1)
theorem gn_nm {l : List ByteArray} (h : gnB l = true) : nmB l = true := by
  cases hn : nmB l with
  | true => rfl
  | false => rw [gnB_not l hn] at h; cases h
/-- A name pattern matches a name. -/
def mtnB (s t : ByteArray) : Bool := (cnOk s t && cnB s t) && gnB (split t 47)

end Go.Proofs.YtmmjiocmldnamaaGreat
