/-
  Patterns, paths and names that the wide laws draw: they are short.
-/
import Derived.Test.YtnblnhlfifhkkaaGreatCur
namespace Go.Proofs.YtnblnhlfifhkkaaGreat
open Go.RowKit Go.Shelf

set_option maxHeartbeats 1000000 in
theorem drawNP_any (b : Nat) (a : Option Addr) (n c k : Nat) (w : World) (hB : ByS w a n) (hC : CurB w b a n c k) (hk : k ≤ 10000000) :
    Calls Tryz.prog 48 #[.pointer (some ⟨b, 0, none⟩)] w fun e w' => ∃ x : ByteArray, x.size ≤ 100 ∧ e = .returned (.string x) ∧ ByS w' a n ∧ (∃ k', k' ≤ k + 10 ∧ CurB w' b a n c k') ∧ w.grownBy w' (some b) := by
  go_enter Tryz.func48, Tryz.ntmps48
  go_wp2_with fail
  refine (one_any b a n c k 30 w (by omega) (by omega) hB hC (by omega)).mono ?_
  rintro e w1 ⟨z, rfl, hC1, hg1⟩
  have hB1 := curB_grown hB hC.apart hC.lt hg1
  cases z
  · go_wp2_with fail
    refine (ofNew_any b a n c (k + 1) [⟨#[112, 114, 111, 100]⟩, ⟨#[100, 101, 118]⟩, ⟨#[42]⟩] w1 (by decide) (by decide) hB1 hC1 (by omega)).mono ?_
    rintro e w2 ⟨x, hx, rfl, hB2, hC2, hg2⟩
    have hz : x.size ≤ 4 := by
      simp only [List.mem_cons, List.mem_nil_iff, or_false] at hx
      rcases hx with rfl | rfl | rfl <;> decide
    clear hx
    go_wp2_with fail
    refine (ofNew_any b a n c (k + 1 + 1) [⟨#[119, 101, 98]⟩, ⟨#[97, 112, 105]⟩, ⟨#[100, 98]⟩, ⟨#[42]⟩] w2 (by decide) (by decide) hB2 hC2 (by omega)).mono ?_
    rintro e w3 ⟨y, hy, rfl, hB3, hC3, hg3⟩
    have hy' : y.size ≤ 4 := by
      simp only [List.mem_cons, List.mem_nil_iff, or_false] at hy
      rcases hy with rfl | rfl | rfl | rfl <;> decide
    clear hy
    go_wp2_with fail
    go_ret
    exact ⟨_, by simp only [ByteArray.size_append]; show _ + 1 + _ ≤ 100; omega, rfl, hB3, ⟨_, by omega, hC3⟩, g2 (g2 hg1 hg2) hg3⟩
  · go_wp2_with fail
    refine (ofNew_any b a n c (k + 1) [⟨#[]⟩, ⟨#[42]⟩, ⟨#[42, 47, 42, 47, 42]⟩, ⟨#[42, 42, 47, 97]⟩] w1 (by decide) (by decide) hB1 hC1 (by omega)).mono ?_
    rintro e w2 ⟨x, hx, rfl, hB2, hC2, hg2⟩
    have hz : x.size ≤ 100 := by
      simp only [List.mem_cons, List.mem_nil_iff, or_false] at hx
      rcases hx with rfl | rfl | rfl | rfl <;> decide
    clear hx
    go_wp2_with fail
    go_ret
    exact ⟨x, hz, rfl, hB2, ⟨_, by omega, hC2⟩, g2 hg1 hg2⟩


set_option maxHeartbeats 1000000 in
theorem drawN_any (b : Nat) (a : Option Addr) (n c k : Nat) (w : World) (hB : ByS w a n) (hC : CurB w b a n c k) (hk : k ≤ 10000000) :
    Calls Tryz.prog 32 #[.pointer (some ⟨b, 0, none⟩)] w fun e w' => ∃ x : ByteArray, x.size ≤ 100 ∧ e = .returned (.string x) ∧ ByS w' a n ∧ (∃ k', k' ≤ k + 10 ∧ CurB w' b a n c k') ∧ w.grownBy w' (some b) := by
  go_enter Tryz.func32, Tryz.ntmps32
  go_wp2_with fail
  refine (one_any b a n c k 30 w (by omega) (by omega) hB hC (by omega)).mono ?_
  rintro e w1 ⟨z, rfl, hC1, hg1⟩
  have hB1 := curB_grown hB hC.apart hC.lt hg1
  cases z
  · go_wp2_with fail
    refine (ofNew_any b a n c (k + 1) [⟨#[112, 114, 111, 100]⟩, ⟨#[100, 101, 118]⟩] w1 (by decide) (by decide) hB1 hC1 (by omega)).mono ?_
    rintro e w2 ⟨x, hx, rfl, hB2, hC2, hg2⟩
    have hz : x.size ≤ 4 := by
      simp only [List.mem_cons, List.mem_nil_iff, or_false] at hx
      rcases hx with rfl | rfl <;> decide
    clear hx
    go_wp2_with fail
    refine (ofNew_any b a n c (k + 1 + 1) [⟨#[119, 101, 98]⟩, ⟨#[97, 112, 105]⟩, ⟨#[100, 98]⟩] w2 (by decide) (by decide) hB2 hC2 (by omega)).mono ?_
    rintro e w3 ⟨y, hy, rfl, hB3, hC3, hg3⟩
    have hy' : y.size ≤ 4 := by
      simp only [List.mem_cons, List.mem_nil_iff, or_false] at hy
      rcases hy with rfl | rfl | rfl <;> decide
    clear hy
    go_wp2_with fail
    go_ret
    exact ⟨_, by simp only [ByteArray.size_append]; show _ + 1 + _ ≤ 100; omega, rfl, hB3, ⟨_, by omega, hC3⟩, g2 (g2 hg1 hg2) hg3⟩
  · go_wp2_with fail
    refine (ofNew_any b a n c (k + 1) [⟨#[]⟩, ⟨#[97]⟩, ⟨#[97, 47, 98, 47, 99]⟩, ⟨#[65, 47, 98]⟩, ⟨#[97, 47]⟩] w1 (by decide) (by decide) hB1 hC1 (by omega)).mono ?_
    rintro e w2 ⟨x, hx, rfl, hB2, hC2, hg2⟩
    have hz : x.size ≤ 100 := by
      simp only [List.mem_cons, List.mem_nil_iff, or_false] at hx
      rcases hx with rfl | rfl | rfl | rfl | rfl <;> decide
    clear hx
    go_wp2_with fail
    go_ret
    exact ⟨x, hz, rfl, hB2, ⟨_, by omega, hC2⟩, g2 hg1 hg2⟩


end Go.Proofs.YtnblnhlfifhkkaaGreat
