/-
  The law FnPolicies, walked.
-/
import Derived.Test.YtnblnhlfifhkkaaDoorRtM
import Derived.Test.YtnblnhlfifhkkaaDoorPolT
import Derived.Test.YtnblnhlfifhkkaaDoorPlainI
import Derived.Test.YtnblnhlfifhkkaaDoorReadI
import Derived.Test.YtnblnhlfifhkkaaDoorSameR
namespace Go.Proofs.YtnblnhlfifhkkaaDoor
open Go.RowKit Go.Shelf

theorem flat_pol (rs : List Ru) : polL rs rs.length = flatT rs := by
  unfold polL flatT
  rw [List.take_length]
theorem rdS_back {rs : List Ru} (h : ptOkB rs = true) : rdS (ptX rs) = (rs, 0, 0) := by
  have h' := h
  unfold ptOkB at h'
  rw [Bool.and_eq_true] at h'
  have hl : (polL rs rs.length).length ≤ 1500 := of_decide_eq_true h'.2
  obtain ⟨hg, hn⟩ := pol_all h'.1
  rw [ptX_yes h]
  unfold rdS
  rw [if_neg (by rw [polA_size]; omega)]
  unfold polA
  rw [flat_pol]
  have := rdL_flat rs 0 [] hg (by simpa using hn)
  simpa using this
theorem plX_mem {rs : List Ru} (h : polB rs = true) (r : Ru) : r ∈ plX rs ↔ r ∈ rs := by
  rw [plX_yes h, plTo_mem _ (Nat.le_refl _), List.take_length]
theorem plX_pol {rs : List Ru} (h : polB rs = true) : polB (plX rs) = true := by
  obtain ⟨hg, hn⟩ := pol_all h
  unfold polB
  rw [Bool.and_eq_true, List.all_eq_true]
  refine ⟨fun r hr => hg r ((plX_mem h r).1 hr), decide_eq_true ?_⟩
  rw [plX_yes h]
  have := plTo_len rs rs.length (Nat.le_refl _)
  omega
theorem plX_again {rs : List Ru} (h : polB rs = true) : plX (plX rs) = plX rs := by
  rw [plX_yes (plX_pol h), plTo_self (by rw [plX_yes h]; exact plTo_ss (pol_all h).1 _ (Nat.le_refl _)) _ (Nat.le_refl _), List.take_length]
theorem ptOk_pol {rs : List Ru} (h : ptOkB rs = true) : polB rs = true ∧ (ptX rs).size ≤ 1500 := by
  have h' := h
  unfold ptOkB at h'
  rw [Bool.and_eq_true] at h'
  refine ⟨h'.1, ?_⟩
  rw [ptX_yes h, polA_size]
  exact of_decide_eq_true h'.2
theorem below_2 {w W w1 : World} (h : Below w.heap.size w W) (h1 : Below W.heap.size W w1) : Below w.heap.size w w1 := h.trans (h1.mono h.size)

set_option maxHeartbeats 4000000 in
set_option maxRecDepth 100000 in
theorem policiesWalk (a : Option Addr) (n c : Nat) (w : World) (m : Int) (hle : n ≤ c) (hn : n ≤ 1048576) (hB : ByS w a n) (hap : ∀ p, a = some p → p.block < w.heap.size) (hm : w.cell? ⟨0, 0, none⟩ = some (.int .i64 m)) :
    Calls Tryd.prog 3 #[.slice a n c] w fun e w' => e = .returned (.bool true) ∧ Below w.heap.size w w' := by
  have h0 := World.block_lt_of_cell? w ⟨0, 0, none⟩ hm
  go_enter Tryd.func3, Tryd.ntmps3
  go_wp2_with fail
  refine (drawPT_any a n c w hle hB hap).mono ?_
  rintro e w1 ⟨v, rs, rfl, hlen, hsm, hrow1, hB1⟩
  have hf : ∀ r ∈ rs, r.size ≤ 1048576 := fun r hr => by have := hsm r hr; omega
  obtain ⟨a1, c1, rfl⟩ := ownsRow_len hrow1
  clear hB hap
  go_wp2_with fail
  refine (implPolicyText_any _ rs _ (by omega) hf (RuS.own hrow1)).mono ?_
  rintro e w2 ⟨rfl, hB2⟩
  have hrow2 := ownsRow_below hrow1 hB2
  have hBB2 := below_2 hB1 hB2
  clear hrow1 hB1 hB2
  go_wp2_with fail
  refine (specPolicyText_any _ rs _ (by omega) hf (RuS.own hrow2)).mono ?_
  rintro e w3 ⟨rfl, hB3⟩
  have hrow3 := ownsRow_below hrow2 hB3
  have hBB3 := below_2 hBB2 hB3
  clear hrow2 hBB2 hB3
  cases hok : ptOkB rs
  · have HX := hid (ptX_no hok)
    rw [HX.out]
    go_wp2
    go_ret
    exact ⟨rfl, hBB3⟩
  · obtain ⟨hpol, hsz⟩ := ptOk_pol hok
    have HR := hid (rdS_back hok)
    have HP := hid (plX_pol hpol)
    have HA := hid (plX_again hpol)
    have HM := hid (fun r => plX_mem hpol r)
    have HL := hid (pol_all (plX_pol hpol)).2
    generalize ptX rs = tx at *
    go_wp2_with fail
    refine (readPolicy_any tx m _ (by omega) ((hBB3.cell (p := ⟨0, 0, none⟩) h0).trans hm)).mono ?_
    rintro e w4 ⟨v4, rfl, hrow4, hB4⟩
    rw [HR.out] at hrow4 ⊢
    have hrow3' := ownsRow_below hrow3 hB4
    have hBB4 := below_2 hBB3 hB4
    obtain ⟨a4, c4, rfl⟩ := ownsRow_len hrow4
    clear hrow3 hBB3 hB4
    go_wp2_with fail
    refine (implPlainPolicy_any _ rs _ _ (by omega) hf hrow3').mono ?_
    rintro e w5 ⟨v5, rfl, hrow5, hB5⟩
    rw [hpol]
    have hrowl := ownsRow_below hrow3' hB5
    have hrowm := ownsRow_below hrow4 hB5
    have hBB5 := below_2 hBB4 hB5
    obtain ⟨a5, c5, rfl⟩ := ownsRow_len hrow5
    clear hrow3' hrow4 hBB4 hB5
    go_wp2_with fail
    refine (implPlainPolicy_any _ (plX rs) _ _ (by have := HL.out; omega) (fun r hr => hf r ((HM.out r).1 hr)) hrow5).mono ?_
    rintro e w6 ⟨v6, rfl, hrow6, hB6⟩
    rw [HA.out] at hrow6
    rw [HP.out]
    have hrowl' := ownsRow_below hrowl hB6
    have hrowm' := ownsRow_below hrowm hB6
    have hrowp := ownsRow_below hrow5 hB6
    have hBB6 := below_2 hBB5 hB6
    obtain ⟨a6, c6, rfl⟩ := ownsRow_len hrow6
    clear hrowl hrowm hrow5 hBB5 hB6
    go_wp2_with fail
    refine (sameRules_any _ _ rs _ (by omega) (RuS.own hrowl') (RuS.own hrowm')).mono ?_
    rintro e w7 ⟨rfl, hB7⟩
    have hrowp' := ownsRow_below hrowp hB7
    have hrowq := ownsRow_below hrow6 hB7
    have hBB7 := below_2 hBB6 hB7
    clear hrowl' hrowm' hrowp hrow6 hBB6 hB7
    go_wp2_with fail
    refine (sameRules_any _ _ (plX rs) _ (by have := HL.out; omega) (RuS.own hrowp') (RuS.own hrowq)).mono ?_
    rintro e w8 ⟨rfl, hB8⟩
    have hBB8 := below_2 hBB7 hB8
    go_wp2
    go_ret
    exact ⟨rfl, hBB8⟩

end Go.Proofs.YtnblnhlfifhkkaaDoor
