/-
  Chapter 3: good links and good tokens, by the specification.
-/
import Derived.Deep.RegionHeld3
import Derived.Test.YthejifjjaknifagLinkV
import Derived.Test.YthejifjjaknifagName
namespace Go.Proofs.Ythejifjjaknifag
open Go.RowKit Go.Shelf

def inB (lo hi n : Int) : Bool := decide (lo ≤ n ∧ n ≤ hi)

theorem l1In_any (n lo hi : Int) (w : World) :
    Calls Try.prog 39 #[.int .i64 n, .int .i64 lo, .int .i64 hi] w fun e w' => e = .returned (.bool (inB lo hi n)) ∧ w' = w := by
  by_cases c1 : lo ≤ n
  · by_cases c2 : n ≤ hi
    · have HR := hid (show inB lo hi n = true from decide_eq_true ⟨c1, c2⟩)
      go_enter Try.func39, Try.ntmps39
      go_wp2
      go_ret
      exact ⟨ret_bool HR.out.symm, rfl⟩
    · have HR := hid (show inB lo hi n = false from decide_eq_false (fun h => c2 h.2))
      go_enter Try.func39, Try.ntmps39
      go_wp2
      go_ret
      exact ⟨ret_bool HR.out.symm, rfl⟩
  · have HR := hid (show inB lo hi n = false from decide_eq_false (fun h => c1 h.1))
    go_enter Try.func39, Try.ntmps39
    go_wp2
    go_ret
    exact ⟨ret_bool HR.out.symm, rfl⟩

theorem l3Time_any (n : Int) (w : World) :
    Calls Try.prog 60 #[.int .i64 n] w fun e w' => e = .returned (.bool (tmB n)) ∧ w' = w := by
  go_enter Try.func60, Try.ntmps60
  go_wp2_with (go_at_call 39; refine (l1In_any n 0 100000 _).mono ?_; rintro e w1 ⟨rfl, rfl⟩)
  go_ret
  exact ⟨ret_bool (show inB 0 100000 n = tmB n from rfl), rfl⟩

theorem l3Serial_any (n : Int) (w : World) :
    Calls Try.prog 59 #[.int .i64 n] w fun e w' => e = .returned (.bool (seB n)) ∧ w' = w := by
  go_enter Try.func59, Try.ntmps59
  go_wp2_with (go_at_call 39; refine (l1In_any n 1 100000 _).mono ?_; rintro e w1 ⟨rfl, rfl⟩)
  go_ret
  exact ⟨ret_bool (show inB 1 100000 n = seB n from rfl), rfl⟩

set_option maxHeartbeats 1000000 in
theorem l3Link_any (k : Lk) (w : World) (hs : k.who.size ≤ 1048576) (ht : k.to.size ≤ 1048576) :
    Calls Try.prog 49 #[k.val] w fun e w' => e = .returned (.bool k.good) ∧ Below w.heap.size w w' := by
  cases h1 : gnB (split k.who 47)
  · have HR := hid (show k.good = false by unfold Lk.good nmOk; rw [h1]; rfl)
    go_enter Try.func49, Try.ntmps49
    go_wp2_with (first | (go_at_call 40; first | (have hz1 := hz; refine (specGoodName_any k.to _ ht).mono ?_; rintro e w2 ⟨rfl, hB2⟩; obtain ⟨hc2, hf2⟩ := bcell hB2; have hz2 := Nat.lt_of_lt_of_le hz hB2.size) | (refine (specGoodName_any k.who _ hs).mono ?_; rintro e w1 ⟨rfl, hB1⟩; obtain ⟨hc1, hf1⟩ := bcell hB1; have hz : w.heap.size < w1.heap.size := (by have := hB1.size; simp at this; omega))) | (go_at_call 59; refine (l3Serial_any _ _).mono ?_; rintro e w3 ⟨rfl, rfl⟩) | (go_at_call 60; refine (l3Time_any _ _).mono ?_; rintro e w3 ⟨rfl, rfl⟩))
    go_ret
    exact ⟨ret_bool HR.out.symm, below_one ((Below.refl _ w).alloc (Nat.le_refl _) _) hB1⟩
  · cases h2 : gnB (split k.to 47)
    · have HR := hid (show k.good = false by unfold Lk.good nmOk; rw [h1, h2]; rfl)
      go_enter Try.func49, Try.ntmps49
      go_wp2_with (first | (go_at_call 40; first | (have hz1 := hz; refine (specGoodName_any k.to _ ht).mono ?_; rintro e w2 ⟨rfl, hB2⟩; obtain ⟨hc2, hf2⟩ := bcell hB2; have hz2 := Nat.lt_of_lt_of_le hz hB2.size) | (refine (specGoodName_any k.who _ hs).mono ?_; rintro e w1 ⟨rfl, hB1⟩; obtain ⟨hc1, hf1⟩ := bcell hB1; have hz : w.heap.size < w1.heap.size := (by have := hB1.size; simp at this; omega))) | (go_at_call 59; refine (l3Serial_any _ _).mono ?_; rintro e w3 ⟨rfl, rfl⟩) | (go_at_call 60; refine (l3Time_any _ _).mono ?_; rintro e w3 ⟨rfl, rfl⟩))
      go_ret
      exact ⟨ret_bool HR.out.symm, below_two ((Below.refl _ w).alloc (Nat.le_refl _) _) hB1 hB2⟩
    · cases h3 : seB k.se
      · have HR := hid (show k.good = false by unfold Lk.good nmOk; rw [h1, h2, h3]; rfl)
        go_enter Try.func49, Try.ntmps49
        go_wp2_with (first | (go_at_call 40; first | (have hz1 := hz; refine (specGoodName_any k.to _ ht).mono ?_; rintro e w2 ⟨rfl, hB2⟩; obtain ⟨hc2, hf2⟩ := bcell hB2; have hz2 := Nat.lt_of_lt_of_le hz hB2.size) | (refine (specGoodName_any k.who _ hs).mono ?_; rintro e w1 ⟨rfl, hB1⟩; obtain ⟨hc1, hf1⟩ := bcell hB1; have hz : w.heap.size < w1.heap.size := (by have := hB1.size; simp at this; omega))) | (go_at_call 59; refine (l3Serial_any _ _).mono ?_; rintro e w3 ⟨rfl, rfl⟩) | (go_at_call 60; refine (l3Time_any _ _).mono ?_; rintro e w3 ⟨rfl, rfl⟩))
        go_ret
        exact ⟨ret_bool HR.out.symm, below_two ((Below.refl _ w).alloc (Nat.le_refl _) _) hB1 hB2⟩
      · cases h4 : tmB k.fr
        · have HR := hid (show k.good = false by unfold Lk.good nmOk; rw [h1, h2, h3, h4]; rfl)
          go_enter Try.func49, Try.ntmps49
          go_wp2_with (first | (go_at_call 40; first | (have hz1 := hz; refine (specGoodName_any k.to _ ht).mono ?_; rintro e w2 ⟨rfl, hB2⟩; obtain ⟨hc2, hf2⟩ := bcell hB2; have hz2 := Nat.lt_of_lt_of_le hz hB2.size) | (refine (specGoodName_any k.who _ hs).mono ?_; rintro e w1 ⟨rfl, hB1⟩; obtain ⟨hc1, hf1⟩ := bcell hB1; have hz : w.heap.size < w1.heap.size := (by have := hB1.size; simp at this; omega))) | (go_at_call 59; refine (l3Serial_any _ _).mono ?_; rintro e w3 ⟨rfl, rfl⟩) | (go_at_call 60; refine (l3Time_any _ _).mono ?_; rintro e w3 ⟨rfl, rfl⟩))
          go_ret
          exact ⟨ret_bool HR.out.symm, below_two ((Below.refl _ w).alloc (Nat.le_refl _) _) hB1 hB2⟩
        · cases h5 : tmB k.un
          · have HR := hid (show k.good = false by unfold Lk.good nmOk; rw [h1, h2, h3, h4, h5]; rfl)
            go_enter Try.func49, Try.ntmps49
            go_wp2_with (first | (go_at_call 40; first | (have hz1 := hz; refine (specGoodName_any k.to _ ht).mono ?_; rintro e w2 ⟨rfl, hB2⟩; obtain ⟨hc2, hf2⟩ := bcell hB2; have hz2 := Nat.lt_of_lt_of_le hz hB2.size) | (refine (specGoodName_any k.who _ hs).mono ?_; rintro e w1 ⟨rfl, hB1⟩; obtain ⟨hc1, hf1⟩ := bcell hB1; have hz : w.heap.size < w1.heap.size := (by have := hB1.size; simp at this; omega))) | (go_at_call 59; refine (l3Serial_any _ _).mono ?_; rintro e w3 ⟨rfl, rfl⟩) | (go_at_call 60; refine (l3Time_any _ _).mono ?_; rintro e w3 ⟨rfl, rfl⟩))
            go_ret
            exact ⟨ret_bool HR.out.symm, below_two ((Below.refl _ w).alloc (Nat.le_refl _) _) hB1 hB2⟩
          · cases h6 : decide (k.fr ≤ k.un)
            · have HR := hid (show k.good = false by unfold Lk.good nmOk; rw [h1, h2, h3, h4, h5, h6]; rfl)
              go_enter Try.func49, Try.ntmps49
              go_wp2_with (first | (go_at_call 40; first | (have hz1 := hz; refine (specGoodName_any k.to _ ht).mono ?_; rintro e w2 ⟨rfl, hB2⟩; obtain ⟨hc2, hf2⟩ := bcell hB2; have hz2 := Nat.lt_of_lt_of_le hz hB2.size) | (refine (specGoodName_any k.who _ hs).mono ?_; rintro e w1 ⟨rfl, hB1⟩; obtain ⟨hc1, hf1⟩ := bcell hB1; have hz : w.heap.size < w1.heap.size := (by have := hB1.size; simp at this; omega))) | (go_at_call 59; refine (l3Serial_any _ _).mono ?_; rintro e w3 ⟨rfl, rfl⟩) | (go_at_call 60; refine (l3Time_any _ _).mono ?_; rintro e w3 ⟨rfl, rfl⟩))
              go_ret
              exact ⟨ret_bool HR.out.symm, below_two ((Below.refl _ w).alloc (Nat.le_refl _) _) hB1 hB2⟩
            · have HR := hid (show k.good = true by unfold Lk.good nmOk; rw [h1, h2, h3, h4, h5, h6]; rfl)
              go_enter Try.func49, Try.ntmps49
              go_wp2_with (first | (go_at_call 40; first | (have hz1 := hz; refine (specGoodName_any k.to _ ht).mono ?_; rintro e w2 ⟨rfl, hB2⟩; obtain ⟨hc2, hf2⟩ := bcell hB2; have hz2 := Nat.lt_of_lt_of_le hz hB2.size) | (refine (specGoodName_any k.who _ hs).mono ?_; rintro e w1 ⟨rfl, hB1⟩; obtain ⟨hc1, hf1⟩ := bcell hB1; have hz : w.heap.size < w1.heap.size := (by have := hB1.size; simp at this; omega))) | (go_at_call 59; refine (l3Serial_any _ _).mono ?_; rintro e w3 ⟨rfl, rfl⟩) | (go_at_call 60; refine (l3Time_any _ _).mono ?_; rintro e w3 ⟨rfl, rfl⟩))
              go_ret
              exact ⟨ret_bool HR.out.symm, below_two ((Below.refl _ w).alloc (Nat.le_refl _) _) hB1 hB2⟩

end Go.Proofs.Ythejifjjaknifag
