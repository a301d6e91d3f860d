/-
  Chapter 1's matching and covering of names: both programs answer alike.
-/
import Derived.Test.YtnblnhlfifhkkaaGreatCovers
namespace Go.Proofs.YtnblnhlfifhkkaaGreat
open Go.RowKit Go.Shelf

theorem ws_not2 {x : ByteArray} (h : wsB x = true) : star2B x = false := by
  cases h2 : star2B x with
  | false => rfl
  | true => rw [star2_not_ws x h2] at h; cases h
theorem cw_st {x u : ByteArray} (h : wsB u = true) : cwB x u = stB x u := by
  unfold cwB stB
  rw [ws_not2 h, Bool.not_false, Bool.and_true, Bool.or_comm]
theorem cv_names {x y u v : ByteArray} (h : nmB [x, y] = true) (h' : nmB [u, v] = true) : cvB [x, y] [u, v] = (stB x u && stB y v) := by
  rw [nmB_two, Bool.and_eq_true] at h h'
  simp only [cvB, ws_not2 h.1, ws_not2 h.2, cw_st h'.1, cw_st h'.2, Bool.false_or, Bool.and_true]
theorem nm_two {s : ByteArray} (h : nmB (split s 47) = true) : ∃ x y, split s 47 = [x, y] := by
  rw [nmB_eq, Bool.and_eq_true] at h
  exact two_of (of_decide_eq_true h.1)
theorem gn_nm {l : List ByteArray} (h : gnB l = true) : nmB l = true := by
  cases hn : nmB l with
  | true => rfl
  | false => rw [gnB_not l hn] at h; cases h
/-- A name pattern matches a name. -/
def mtnB (s t : ByteArray) : Bool := (cnOk s t && cnB s t) && gnB (split t 47)

set_option maxHeartbeats 1000000 in
theorem implMatchName_any (s t : ByteArray) (w : World) (hs : s.size ≤ 1048576) (ht : t.size ≤ 1048576) :
    Calls Tryz.prog 118 #[.string s, .string t] w fun e w' => e = .returned (.bool (mtnB s t)) ∧ Below w.heap.size w w' := by
  cases h1 : cnOk s t
  · have HR := hid (show mtnB s t = false by unfold mtnB; rw [h1]; rfl)
    go_enter Tryz.func118, Tryz.ntmps118
    go_wp2_with (go_at_call 115; refine (implCoversName_any s t _ hs ht).mono ?_; rintro e w1 ⟨rfl, hB1⟩)
    go_ret
    exact ⟨ret_bool HR.out.symm, hB1⟩
  · cases h2 : cnB s t
    · have HR := hid (show mtnB s t = false by unfold mtnB; rw [h1, h2]; rfl)
      go_enter Tryz.func118, Tryz.ntmps118
      go_wp2_with (go_at_call 115; refine (implCoversName_any s t _ hs ht).mono ?_; rintro e w1 ⟨rfl, hB1⟩)
      go_ret
      exact ⟨ret_bool HR.out.symm, hB1⟩
    · have HR := hid (show mtnB s t = gnB (split t 47) by unfold mtnB; rw [h1, h2]; rfl)
      go_enter Tryz.func118, Tryz.ntmps118
      go_wp2_with (first | (go_at_call 115; refine (implCoversName_any s t _ hs ht).mono ?_; rintro e w1 ⟨rfl, hB1⟩) | (go_at_call 37; refine (implGoodName_any t _ ht).mono ?_; rintro e w2 ⟨rfl, hB2⟩))
      go_ret
      exact ⟨ret_bool HR.out.symm, hB1.trans (hB2.mono hB1.size)⟩

end Go.Proofs.YtnblnhlfifhkkaaGreat
