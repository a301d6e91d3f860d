/-
  Drawn paths and path patterns.
-/
import Derived.Test.YtnblnhlfifhkkaaGreatCurP
namespace Go.Proofs.YtnblnhlfifhkkaaGreat
open Go.RowKit Go.Shelf

set_option maxHeartbeats 2000000 in
theorem drawP_any (b : Nat) (a : Option Addr) (n c k : Nat) (w : World) (hB : ByS w a n) (hC : CurB w b a n c k) (hk : k ≤ 10000000) :
    Calls Tryz.prog 34 #[.pointer (some ⟨b, 0, none⟩)] w fun e w' => ∃ x : ByteArray, x.size ≤ 100 ∧ e = .returned (.string x) ∧ ByS w' a n ∧ (∃ k', k' ≤ k + 20 ∧ CurB w' b a n c k') ∧ w.grownBy w' (some b) := by
  go_enter Tryz.func34, Tryz.ntmps34
  go_wp2_with fail
  refine (pick_any b a n c k 4 w (by omega) (by omega) hB hC (by omega)).mono ?_
  rintro e w9 ⟨m, hm, rfl, hC9, hg9⟩
  have hB9 := curB_grown hB hC.apart hC.lt hg9
  go_wp2_with fail
  go_loopw [3, 4] (fun sv nv wr => ∃ (t : ByteArray) (j q : Nat), sv = .string t ∧ nv = .int .i64 j ∧ j ≤ 4 ∧ t.size + j * 8 ≤ 32 ∧ q + 2 * j ≤ k + 9 ∧ ByS wr a n ∧ CurB wr b a n c q ∧ w.grownBy wr (some b)) (fun _ nv _ => (intOf nv).toNat)
  case atStart => exact ⟨⟨#[]⟩, m, k + 1, rfl, rfl, by omega, by show 0 + _ ≤ _; omega, by omega, hB9, hC9, hg9⟩
  case round =>
    obtain ⟨t, j, q, rfl, rfl, hj, ht, hq, hB1, hC1, hg1⟩ := hrel
    clear hB9 hC9 hg9 hB hC
    by_cases hjz : 0 < j
    · have hj0 : 0 < j := by omega
      have d0 : decide ((j : Int) > 0) = true := by simp; omega
      go_wp2_with fail
      refine (word_any b a n c q wr hB1 hC1 (by omega)).mono ?_
      rintro e w2 ⟨x, hx, rfl, hB2, hC2, hG2⟩
      have hg2 := g2 hg1 hG2
      clear hG2
      go_wp2
      go_roundw
      case rel =>
        refine ⟨_, j - 1, q + 1, rfl, by go_num, by omega, ?_, by omega, hB2, hC2, hg2⟩
        simp only [ByteArray.size_append]
        show _ + (1 + _) + _ ≤ 32
        omega
      case measure => simp [intOf]; omega
    · obtain rfl : j = 0 := by omega
      have d0 : decide (((0 : Nat) : Int) > 0) = false := by decide
      cases hx : t.toList.isEmpty
      · go_wp2_with fail
        refine (one_any b a n c q 30 wr (by omega) (by omega) hB1 hC1 (by omega)).mono ?_
        rintro e w2 ⟨z1, rfl, hC2, hG2⟩
        have hB2 := curB_grown hB1 hC1.apart hC1.lt hG2
        have hg2 := g2 hg1 hG2
        clear hG2
        cases z1
        · go_wp2
          go_ret
          exact ⟨_, by omega, rfl, hB2, ⟨_, by omega, hC2⟩, hg2⟩
        · go_wp2_with fail
          refine (ofNew_any b a n c (q + 1) [⟨#[]⟩, ⟨#[97]⟩, ⟨#[47, 97, 47, 47, 98]⟩, ⟨#[47, 65]⟩, ⟨#[47, 97, 47, 98, 47, 97, 47, 98, 47, 97, 47, 98]⟩, ⟨#[47, 97, 47, 98, 47, 97, 47, 98, 47, 97, 47, 98, 47, 97]⟩, ⟨#[47, 97, 98, 99, 100, 101, 102, 103, 104, 105]⟩] w2 (by simp) (by simp) hB2 hC2 (by omega)).mono ?_
          rintro e w3 ⟨o, ho, rfl, hB3, hC3, hG3⟩
          have hg3 := g2 hg2 hG3
          have ho' : o.size ≤ 100 := by
            simp only [List.mem_cons, List.mem_nil_iff, or_false] at ho
            rcases ho with rfl | rfl | rfl | rfl | rfl | rfl | rfl <;> decide
          clear ho hG3
          go_wp2
          go_ret
          exact ⟨_, ho', rfl, hB3, ⟨_, by omega, hC3⟩, hg3⟩
      · go_wp2_with fail
        refine (one_any b a n c q 30 wr (by omega) (by omega) hB1 hC1 (by omega)).mono ?_
        rintro e w2 ⟨z1, rfl, hC2, hG2⟩
        have hB2 := curB_grown hB1 hC1.apart hC1.lt hG2
        have hg2 := g2 hg1 hG2
        clear hG2
        cases z1
        · go_wp2
          go_ret
          exact ⟨_, by decide, rfl, hB2, ⟨_, by omega, hC2⟩, hg2⟩
        · go_wp2_with fail
          refine (ofNew_any b a n c (q + 1) [⟨#[]⟩, ⟨#[97]⟩, ⟨#[47, 97, 47, 47, 98]⟩, ⟨#[47, 65]⟩, ⟨#[47, 97, 47, 98, 47, 97, 47, 98, 47, 97, 47, 98]⟩, ⟨#[47, 97, 47, 98, 47, 97, 47, 98, 47, 97, 47, 98, 47, 97]⟩, ⟨#[47, 97, 98, 99, 100, 101, 102, 103, 104, 105]⟩] w2 (by simp) (by simp) hB2 hC2 (by omega)).mono ?_
          rintro e w3 ⟨o, ho, rfl, hB3, hC3, hG3⟩
          have hg3 := g2 hg2 hG3
          have ho' : o.size ≤ 100 := by
            simp only [List.mem_cons, List.mem_nil_iff, or_false] at ho
            rcases ho with rfl | rfl | rfl | rfl | rfl | rfl | rfl <;> decide
          clear ho hG3
          go_wp2
          go_ret
          exact ⟨_, ho', rfl, hB3, ⟨_, by omega, hC3⟩, hg3⟩

set_option maxHeartbeats 2000000 in
theorem drawPP_any (b : Nat) (a : Option Addr) (n c k : Nat) (w : World) (hB : ByS w a n) (hC : CurB w b a n c k) (hk : k ≤ 10000000) :
    Calls Tryz.prog 49 #[.pointer (some ⟨b, 0, none⟩)] w fun e w' => ∃ x : ByteArray, x.size ≤ 100 ∧ e = .returned (.string x) ∧ ByS w' a n ∧ (∃ k', k' ≤ k + 20 ∧ CurB w' b a n c k') ∧ w.grownBy w' (some b) := by
  go_enter Tryz.func49, Tryz.ntmps49
  go_wp2_with fail
  refine (pick_any b a n c k 4 w (by omega) (by omega) hB hC (by omega)).mono ?_
  rintro e w9 ⟨m, hm, rfl, hC9, hg9⟩
  have hB9 := curB_grown hB hC.apart hC.lt hg9
  go_wp2_with fail
  go_loopw [3, 4] (fun sv nv wr => ∃ (t : ByteArray) (j q : Nat), sv = .string t ∧ nv = .int .i64 j ∧ j ≤ 4 ∧ t.size + j * 8 ≤ 32 ∧ q + 2 * j ≤ k + 9 ∧ ByS wr a n ∧ CurB wr b a n c q ∧ w.grownBy wr (some b)) (fun _ nv _ => (intOf nv).toNat)
  case atStart => exact ⟨⟨#[]⟩, m, k + 1, rfl, rfl, by omega, by show 0 + _ ≤ _; omega, by omega, hB9, hC9, hg9⟩
  case round =>
    obtain ⟨t, j, q, rfl, rfl, hj, ht, hq, hB1, hC1, hg1⟩ := hrel
    clear hB9 hC9 hg9 hB hC
    by_cases hjz : 0 < j
    · have hj0 : 0 < j := by omega
      have d0 : decide ((j : Int) > 0) = true := by simp; omega
      go_wp2_with fail
      refine (word_any b a n c q wr hB1 hC1 (by omega)).mono ?_
      rintro e w2 ⟨x, hx, rfl, hB2, hC2, hG2⟩
      have hg2 := g2 hg1 hG2
      clear hG2
      go_wp2_with fail
      refine (ofNew_any b a n c (q + 1) [x, ⟨#[42]⟩, ⟨#[97]⟩] w2 (by simp) (by simp) hB2 hC2 (by omega)).mono ?_
      rintro e w3 ⟨y, hy, rfl, hB3, hC3, hG3⟩
      have hg3 := g2 hg2 hG3
      have hy' : y.size ≤ 3 := by
        simp only [List.mem_cons, List.mem_nil_iff, or_false] at hy
        rcases hy with rfl | rfl | rfl <;> first | omega | decide
      clear hy hG3
      go_wp2
      go_roundw
      case rel =>
        refine ⟨_, j - 1, q + 1 + 1, rfl, by go_num, by omega, ?_, by omega, hB3, hC3, hg3⟩
        simp only [ByteArray.size_append]
        show _ + (1 + _) + _ ≤ 32
        omega
      case measure => simp [intOf]; omega
    · obtain rfl : j = 0 := by omega
      have d0 : decide (((0 : Nat) : Int) > 0) = false := by decide
      cases hx : t.toList.isEmpty
      · go_wp2_with fail
        refine (one_any b a n c q 3 wr (by omega) (by omega) hB1 hC1 (by omega)).mono ?_
        rintro e w2 ⟨u, rfl, hC2, hG2⟩
        have hB2 := curB_grown hB1 hC1.apart hC1.lt hG2
        have hg2 := g2 hg1 hG2
        clear hG2
        cases u
        · go_wp2_with fail
          refine (one_any b a n c (q + 1) 30 w2 (by omega) (by omega) hB2 hC2 (by omega)).mono ?_
          rintro e w3 ⟨z2, rfl, hC3, hG3⟩
          have hB3 := curB_grown hB2 hC2.apart hC2.lt hG3
          have hg3 := g2 hg2 hG3
          clear hG3
          cases z2
          · go_wp2
            go_ret
            exact ⟨_, by omega, rfl, hB3, ⟨_, by omega, hC3⟩, hg3⟩
          · go_wp2_with fail
            refine (ofNew_any b a n c ((q + 1) + 1) [⟨#[47]⟩, ⟨#[]⟩, ⟨#[47, 42, 42, 47, 97]⟩, ⟨#[47, 42, 42, 42]⟩, ⟨#[47, 97, 47, 98, 47, 97, 47, 98, 47, 97, 47, 98]⟩, ⟨#[47, 97, 47, 98, 47, 97, 47, 98, 47, 97, 47, 42, 42]⟩, ⟨#[47, 97, 47, 98, 47, 97, 47, 98, 47, 97, 47, 98, 47, 42, 42]⟩] w3 (by simp) (by simp) hB3 hC3 (by omega)).mono ?_
            rintro e w4 ⟨o, ho, rfl, hB4, hC4, hG4⟩
            have hg4 := g2 hg3 hG4
            have ho' : o.size ≤ 100 := by
              simp only [List.mem_cons, List.mem_nil_iff, or_false] at ho
              rcases ho with rfl | rfl | rfl | rfl | rfl | rfl | rfl <;> decide
            clear ho hG4
            go_wp2
            go_ret
            exact ⟨_, ho', rfl, hB4, ⟨_, by omega, hC4⟩, hg4⟩
        · go_wp2_with fail
          refine (ofNew_any b a n c (q + 1) [⟨#[47, 42, 42]⟩, ⟨#[47]⟩] w2 (by simp) (by simp) hB2 hC2 (by omega)).mono ?_
          rintro e w3 ⟨y, hy, rfl, hB3, hC3, hG3⟩
          have hg3 := g2 hg2 hG3
          have hy' : y.size ≤ 3 := by
            simp only [List.mem_cons, List.mem_nil_iff, or_false] at hy
            rcases hy with rfl | rfl <;> decide
          clear hy hG3
          go_wp2_with fail
          refine (one_any b a n c (q + 1 + 1) 30 w3 (by omega) (by omega) hB3 hC3 (by omega)).mono ?_
          rintro e w4 ⟨z3, rfl, hC4, hG4⟩
          have hB4 := curB_grown hB3 hC3.apart hC3.lt hG4
          have hg4 := g2 hg3 hG4
          clear hG4
          cases z3
          · go_wp2
            go_ret
            exact ⟨_, by simp only [ByteArray.size_append]; omega, rfl, hB4, ⟨_, by omega, hC4⟩, hg4⟩
          · go_wp2_with fail
            refine (ofNew_any b a n c ((q + 1 + 1) + 1) [⟨#[47]⟩, ⟨#[]⟩, ⟨#[47, 42, 42, 47, 97]⟩, ⟨#[47, 42, 42, 42]⟩, ⟨#[47, 97, 47, 98, 47, 97, 47, 98, 47, 97, 47, 98]⟩, ⟨#[47, 97, 47, 98, 47, 97, 47, 98, 47, 97, 47, 42, 42]⟩, ⟨#[47, 97, 47, 98, 47, 97, 47, 98, 47, 97, 47, 98, 47, 42, 42]⟩] w4 (by simp) (by simp) hB4 hC4 (by omega)).mono ?_
            rintro e w5 ⟨o, ho, rfl, hB5, hC5, hG5⟩
            have hg5 := g2 hg4 hG5
            have ho' : o.size ≤ 100 := by
              simp only [List.mem_cons, List.mem_nil_iff, or_false] at ho
              rcases ho with rfl | rfl | rfl | rfl | rfl | rfl | rfl <;> decide
            clear ho hG5
            go_wp2
            go_ret
            exact ⟨_, ho', rfl, hB5, ⟨_, by omega, hC5⟩, hg5⟩
      · go_wp2_with fail
        refine (ofNew_any b a n c q [⟨#[47, 42, 42]⟩, ⟨#[47]⟩] wr (by simp) (by simp) hB1 hC1 (by omega)).mono ?_
        rintro e w2 ⟨y, hy, rfl, hB2, hC2, hG2⟩
        have hg2 := g2 hg1 hG2
        have hy' : y.size ≤ 3 := by
          simp only [List.mem_cons, List.mem_nil_iff, or_false] at hy
          rcases hy with rfl | rfl <;> decide
        clear hy hG2
        go_wp2_with fail
        refine (one_any b a n c (q + 1) 30 w2 (by omega) (by omega) hB2 hC2 (by omega)).mono ?_
        rintro e w3 ⟨z2, rfl, hC3, hG3⟩
        have hB3 := curB_grown hB2 hC2.apart hC2.lt hG3
        have hg3 := g2 hg2 hG3
        clear hG3
        cases z2
        · go_wp2
          go_ret
          exact ⟨_, by simp only [ByteArray.size_append]; omega, rfl, hB3, ⟨_, by omega, hC3⟩, hg3⟩
        · go_wp2_with fail
          refine (ofNew_any b a n c ((q + 1) + 1) [⟨#[47]⟩, ⟨#[]⟩, ⟨#[47, 42, 42, 47, 97]⟩, ⟨#[47, 42, 42, 42]⟩, ⟨#[47, 97, 47, 98, 47, 97, 47, 98, 47, 97, 47, 98]⟩, ⟨#[47, 97, 47, 98, 47, 97, 47, 98, 47, 97, 47, 42, 42]⟩, ⟨#[47, 97, 47, 98, 47, 97, 47, 98, 47, 97, 47, 98, 47, 42, 42]⟩] w3 (by simp) (by simp) hB3 hC3 (by omega)).mono ?_
          rintro e w4 ⟨o, ho, rfl, hB4, hC4, hG4⟩
          have hg4 := g2 hg3 hG4
          have ho' : o.size ≤ 100 := by
            simp only [List.mem_cons, List.mem_nil_iff, or_false] at ho
            rcases ho with rfl | rfl | rfl | rfl | rfl | rfl | rfl <;> decide
          clear ho hG4
          go_wp2
          go_ret
          exact ⟨_, ho', rfl, hB4, ⟨_, by omega, hC4⟩, hg4⟩

end Go.Proofs.YtnblnhlfifhkkaaGreat
