/-
  Chapter 1's covering of name patterns by the specification.
-/
import Derived.Test.YtnblnhlfifhkkaaNameM
namespace Go.Proofs.Ytnblnhlfifhkkaa
open Go.RowKit Go.Shelf

set_option maxHeartbeats 1000000 in
theorem specCoversName_any (s t : ByteArray) (w : World) (hs : s.size ≤ 1048576) (ht : t.size ≤ 1048576) :
    Calls Try.prog 14 #[.string s, .string t] w fun e w' => e = .returned (.tuple #[.bool (cnB s t), .bool (cnOk s t)]) ∧ Below w.heap.size w w' := by
  cases h1 : nmB (split s 47)
  · have HR := hid (show cnB s t = false by unfold cnB; rw [h1]; rfl)
    have HO := hid (show cnOk s t = false by unfold cnOk; rw [h1]; rfl)
    go_enter Try.func14, Try.ntmps14
    go_wp2_with fail
    refine (specGoodNamePattern_any s _ hs).mono ?_
    rintro e w1 ⟨rfl, hB1⟩
    go_wp2_with fail
    go_ret2
    exact ⟨ret_bools HR.out.symm HO.out.symm, hB1⟩
  · cases h2 : nmB (split t 47)
    · have HR := hid (show cnB s t = false by unfold cnB; rw [h1, h2]; rfl)
      have HO := hid (show cnOk s t = false by unfold cnOk; rw [h1, h2]; rfl)
      go_enter Try.func14, Try.ntmps14
      go_wp2_with fail
      refine (specGoodNamePattern_any s _ hs).mono ?_
      rintro e w1 ⟨rfl, hB1⟩
      go_wp2_with fail
      refine (specGoodNamePattern_any t _ ht).mono ?_
      rintro e w2 ⟨rfl, hB2⟩
      go_wp2_with fail
      go_ret2
      exact ⟨ret_bools HR.out.symm HO.out.symm, hB1.trans (hB2.mono hB1.size)⟩
    · obtain ⟨x, y, he⟩ := nm_two h1
      obtain ⟨u, v, hf⟩ := nm_two h2
      have HR := hid (show cnB s t = (stB x u && stB y v) by
        unfold cnB
        rw [h1, h2, he, hf, cv_names (by rw [← he]; exact h1) (by rw [← hf]; exact h2)]
        rfl)
      have HO := hid (show cnOk s t = true by unfold cnOk; rw [h1, h2]; rfl)
      have HE := hid he
      have HF := hid hf
      clear he hf
      go_enter Try.func14, Try.ntmps14
      go_wp2_with fail
      refine (specGoodNamePattern_any s _ hs).mono ?_
      rintro e w1 ⟨rfl, hB1⟩
      go_wp2_with fail
      refine (specGoodNamePattern_any t _ ht).mono ?_
      rintro e w2 ⟨rfl, hB2⟩
      go_wp2_with fail
      refine (l1MatchName_any s t _ hs ht x y u v HE.out HF.out).mono ?_
      rintro e w3 ⟨rfl, hB3⟩
      go_wp2_with fail
      go_ret2
      exact ⟨ret_bools HR.out.symm HO.out.symm, (hB1.trans (hB2.mono hB1.size)).trans (hB3.mono (Nat.le_trans hB1.size hB2.size))⟩

end Go.Proofs.Ytnblnhlfifhkkaa
