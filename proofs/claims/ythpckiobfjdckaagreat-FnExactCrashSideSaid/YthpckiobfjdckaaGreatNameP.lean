/-
  Chapter 1's patterns of names: the specification's answer is the same list of pieces held against words and stars.
-/
import Derived.Test.YthpckiobfjdckaaGreatName
namespace Go.Proofs.YthpckiobfjdckaaGreat
open Go.RowKit Go.Shelf

set_option maxHeartbeats 2000000 in
theorem specGoodNamePattern_any (s : ByteArray) (w : World) (hs : s.size ≤ 1048576) :
    Calls Tryz.prog 103 #[.string s] w fun e w' => e = .returned (.bool (nmB (split s 47))) ∧ Below w.heap.size w w' := by
  by_cases h2 : (split s 47).length = 2
  · obtain ⟨x, y, he⟩ := two_of h2
    have hx : x.size ≤ 1048576 := Nat.le_trans (split_size s 47 x (by rw [he]; simp)) hs
    have hy : y.size ≤ 1048576 := Nat.le_trans (split_size s 47 y (by rw [he]; simp)) hs
    have HE : Hid (split s 47 = [x, y]) := he
    clear he h2
    cases bx : wordB x
    all_goals cases sx : starB x
    all_goals cases b2 : wordB y
    all_goals
      have hg : nmB (split s 47) = (wsB x && wsB y) := by rw [HE.out, nmB_two]
      have HG := hid hg
      clear hg
      have ex : (x.toList == [42]) = starB x := rfl
      rw [sx] at ex
      have SX := hid sx
      clear sx
      go_enter Tryz.func103, Tryz.ntmps103
      go_wp2_with (first | (go_at_call 129; refine (l1Split_any s 47 47 rfl _ hs).mono ?_; rintro e w1 ⟨v, rfl, hrow, hB⟩; rw [HE.out] at hrow; obtain ⟨g, cap, rfl, hc0, hc1⟩ := row_two hrow) | (go_at_call 130; refine (l1Word_any _ _ (by first | exact hx | exact hy)).mono ?_; rintro e w' ⟨rfl, rfl⟩))
      go_ret
      exact ⟨ret_bool (by rw [HG.out]; simp only [wsB, bx, SX.out, b2, Bool.or_false, Bool.or_true, Bool.and_true, Bool.true_and, Bool.false_and] <;> rfl), hB⟩
  · have HG := hid (nmB_len h2)
    have e1 : (((split s 47).length : Int) == 2) = false := by simp; omega
    clear h2
    go_enter Tryz.func103, Tryz.ntmps103
    go_wp2_with (go_at_call 129; refine (l1Split_any s 47 47 rfl _ hs).mono ?_; rintro e w1 ⟨v, rfl, hrow, hB⟩; obtain ⟨a, cap, rfl⟩ := ownsRow_len hrow)
    go_ret
    exact ⟨ret_bool HG.out.symm, hB⟩

end Go.Proofs.YthpckiobfjdckaaGreat
