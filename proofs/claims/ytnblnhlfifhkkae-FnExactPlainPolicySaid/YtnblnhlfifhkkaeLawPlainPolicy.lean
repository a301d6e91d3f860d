/-
  Proved: at every argument PlainPolicy answers as the specification, changes nothing, and its answer owns its memory.
-/
import Derived.Test.YtnblnhlfifhkkaeRows
import Derived.Test.YtnblnhlfifhkkaeRuleE
import Derived.Test.YtnblnhlfifhkkaeOpenRu
import Derived.Test.YtnblnhlfifhkkaePlainQ
import Derived.WalkKit
import Derived.ProofKit
import Derived.OpenShut
import Derived.ShutString
import Derived.ChangeOld
import Derived.Below
import Derived.Lib.SmallJoins
import Derived.Deep.Slices
namespace Go.Proofs.Ytnblnhlfifhkkae.fnExactPlainPolicy
open Go.ChangeShapes Go.WideShapes Go.ChangeAt Go.RowKit Go.Joins Go.Deep Go.Proofs.Ytnblnhlfifhkkae
open Go.ChangeMaps (open_string shut_string)

theorem own : ownKnob Try.prog.godebug = none := by kernel_rfl
theorem laidOut : laidOutB Try.prog = true := by kernel_rfl

theorem plX_len {rs : List Ru} (h : rs.length ≤ 1048577) : (plX rs).length ≤ 1048577 := by
  unfold plX
  split
  · exact Nat.le_trans (plTo_len _ (Nat.le_refl _)) h
  · exact Nat.zero_le _

set_option maxHeartbeats 4000000 in
theorem walk (a : Option Addr) (n c : Nat) (rs : List Ru) (w : World) (w0 : RuS w (.slice a n c) rs ∧ rs.length = n ∧ n ≤ maxLen ∧ ∀ r ∈ rs, r.fits) :
    Calls Try.prog 4 #[.slice a n c] w fun e w' => e = .returned (.bool true) ∧ Below w.heap.size w w' := by
  obtain ⟨hr, rfl, hml, hfit⟩ := w0
  by_cases hA : (szAll rs : Int) ≤ 1048576
  · have HV := hid (show leftS 1048576 rs = 1048576 - szAll rs from if_pos hA)
    have hsz : (szAll rs : Int) = rs.length + szTo rs rs.length := by unfold szAll; omega
    have hm : rs.length ≤ 1048576 := by omega
    have hm' : rs.length ≤ 1048577 := by omega
    have hfz : ∀ r ∈ rs, r.size ≤ 1048576 := fun r hr => by have := sz_mem hr; omega
    have d1 : decide ((1048576 : Int) - szAll rs < 0) = false := by simp; omega
    have hlx := plX_len hm'
    obtain ⟨K, hK⟩ : ∃ K : Nat, K = 1 + 4 * rs.length := ⟨_, rfl⟩
    obtain ⟨M, hM⟩ : ∃ M : Nat, M = 1 + 4 * (plX rs).length := ⟨_, rfl⟩
    have dK : decide ((K : Int) < 0) = false := by simp
    have dM : decide ((M : Int) < 0) = false := by simp
    clear hsz
    go_enter Try.func4, Try.ntmps4
    go_wp2_with fail
    refine (szRuleS_any _ rs _ _ (by omega) (by omega) hml hfit hr).mono ?_
    rintro e w1 ⟨rfl, hBB1⟩
    rw [HV.out]
    go_wp2_with fail
    refine (toRuleS_any _ rs _ hm (hr.below hBB1)).mono ?_
    rintro e w2 ⟨v2, rfl, hrow2, hB2⟩
    obtain ⟨a2, cap2, rfl⟩ := ownsRow_len hrow2
    have hBB2 := below_one hBB1 hB2
    clear hBB1 hB2
    go_wp2_with fail
    refine (specPlainPolicy_any _ rs _ hm' hfz (RuS.own hrow2)).mono ?_
    rintro e w3 ⟨v3, rfl, hR, hB3⟩
    have hBB3 := below_one hBB2 hB3
    have hR3 := hR.lt
    clear hBB2 hB3 hrow2
    obtain ⟨aR, capR, rfl⟩ := ownsRow_len hR
    go_wp2_with fail
    refine (toRuleS_any _ rs _ hm (hr.below hBB3)).mono ?_
    rintro e w4 ⟨v4, rfl, hX, hB4⟩
    have hR4 := ownsRow_below hR hB4
    have hBB4 := below_one hBB3 hB4
    have hzz34 := hB4.size
    have hX4 := hX.lt
    clear hR hB4
    obtain ⟨aX, capX, rfl⟩ := ownsRow_len hX
    go_wp2_with fail
    refine (implPlainPolicy_any _ rs _ _ hm' hfz hX).mono ?_
    rintro e w5 ⟨v5, rfl, hG, hB5⟩
    have hR5 := ownsRow_below hR4 hB5
    have hX5 := ownsRow_below hX hB5
    have hBB5 := below_one hBB4 hB5
    have hG5 := hG.lt
    have hzz4 : w.heap.size ≤ w4.heap.size := hBB4.size
    have hzz3 : w.heap.size ≤ w3.heap.size := hBB3.size
    clear hR4 hX hBB4 hB5
    obtain ⟨aG, capG, rfl⟩ := ownsRow_len hG
    go_wp2_with fail
    refine (eqRuleS_any _ _ (plX rs) (plX rs) _ hlx hlx (RuS.own hG) (RuS.own hR5)).mono ?_
    rintro e w6 ⟨rfl, hB6⟩
    rw [sameS_refl]
    have hR6 := ownsRow_below hR5 hB6
    have hX6 := ownsRow_below hX5 hB6
    have hG6 := ownsRow_below hG hB6
    have hBB6 := below_one hBB5 hB6
    clear hR5 hX5 hG hBB5 hB6
    go_wp2_with fail
    refine (toRuleS_any _ rs _ hm (hr.below hBB6)).mono ?_
    rintro e w7 ⟨v7, rfl, hT, hB7⟩
    have hR7 := ownsRow_below hR6 hB7
    have hX7 := ownsRow_below hX6 hB7
    have hG7 := ownsRow_below hG6 hB7
    have hBB7 := below_one hBB6 hB7
    clear hR6 hX6 hG6 hBB6 hB7
    obtain ⟨aT, capT, rfl⟩ := ownsRow_len hT
    go_wp2_with fail
    refine (eqRuleS_any _ _ rs rs _ hm' hm' (RuS.own hX7) (RuS.own hT)).mono ?_
    rintro e w8 ⟨rfl, hB8⟩
    rw [sameS_refl]
    have hR8 := ownsRow_below hR7 hB8
    have hX8 := ownsRow_below hX7 hB8
    have hG8 := ownsRow_below hG7 hB8
    have hBB8 := below_one hBB7 hB8
    clear hR7 hX7 hG7 hBB7 hB8 hT
    go_wp2_with fail
    refine (markRuleS_one _ rs.length _ K _ _ hm' hK hX8).mono ?_
    rintro e w9 ⟨rfl, _, hg9⟩
    have hR9 := kept_apart hR8 hg9 (fun k h1 h2 => by have := (hR3 k h1).2; have := (hX4 k h2).1; omega)
    have hG9 := kept_apart hG8 hg9 (fun k h1 h2 => by have := (hG5 k h1).1; have := (hX4 k h2).2; omega)
    have hBB9 : Below w.heap.size w w9 := hBB8.grown hg9 hBB8.size (fun k hk => Nat.le_trans hzz3 (hX4 k hk).1)
    clear hR8 hX8 hG8 hBB8 hg9
    go_wp2_with fail
    refine (eqRuleS_any _ _ (plX rs) (plX rs) _ hlx hlx (RuS.own hG9) (RuS.own hR9)).mono ?_
    rintro e w10 ⟨rfl, hB10⟩
    rw [sameS_refl]
    have hR10 := ownsRow_below hR9 hB10
    have hG10 := ownsRow_below hG9 hB10
    have hBB10 := below_one hBB9 hB10
    clear hR9 hG9 hBB9 hB10
    go_wp2_with fail
    refine (markRuleS_one _ (plX rs).length _ M _ _ hlx hM hG10).mono ?_
    rintro e w11 ⟨rfl, hG11, hg11⟩
    have hR11 := kept_apart hR10 hg11 (fun k h1 h2 => by have := (hR3 k h1).2; have := (hG5 k h2).1; omega)
    have hBB11 : Below w.heap.size w w11 := hBB10.grown hg11 hBB10.size (fun k hk => Nat.le_trans hzz4 (hG5 k hk).1)
    clear hR10 hG10 hBB10 hg11
    go_wp2_with fail
    refine (heldRuleS_one _ (plX rs).length _ M _ hlx hM hG11).mono ?_
    rintro e w12 ⟨rfl, hB12⟩
    have hR12 := ownsRow_below hR11 hB12
    have hG12 := ownsRow_below hG11 hB12
    have hBB12 := below_one hBB11 hB12
    clear hR11 hG11 hBB11 hB12
    go_wp2_with fail
    refine (toRuleS_any _ rs _ hm (hr.below hBB12)).mono ?_
    rintro e w13 ⟨v13, rfl, hT, hB13⟩
    have hR13 := ownsRow_below hR12 hB13
    have hG13 := ownsRow_below hG12 hB13
    have hBB13 := below_one hBB12 hB13
    clear hR12 hG12 hBB12 hB13
    obtain ⟨aT, capT, rfl⟩ := ownsRow_len hT
    go_wp2_with fail
    refine (implPlainPolicy_any _ rs _ _ hm' hfz hT).mono ?_
    rintro e w14 ⟨v14, rfl, hH, hB14⟩
    have hR14 := ownsRow_below hR13 hB14
    have hG14 := ownsRow_below hG13 hB14
    have hBB14 := below_one hBB13 hB14
    clear hR13 hG13 hBB13 hB14 hT
    obtain ⟨aH, capH, rfl⟩ := ownsRow_len hH
    go_wp2_with fail
    refine (eqRuleS_any _ _ (plX rs) (plX rs) _ hlx hlx (RuS.own hH) (RuS.own hR14)).mono ?_
    rintro e w15 ⟨rfl, hB15⟩
    rw [sameS_refl]
    have hG15 := ownsRow_below hG14 hB15
    have hBB15 := below_one hBB14 hB15
    clear hR14 hG14 hBB14 hB15 hH
    go_wp2_with fail
    refine (heldRuleS_one _ (plX rs).length _ M _ hlx hM hG15).mono ?_
    rintro e w16 ⟨rfl, hB16⟩
    have hBB16 := below_one hBB15 hB16
    go_wp2_with fail
    go_ret
    exact ⟨rfl, hBB16⟩
  · have HV := hid (show leftS 1048576 rs = -1 from if_neg hA)
    go_enter Try.func4, Try.ntmps4
    go_wp2_with fail
    refine (szRuleS_any _ rs _ _ (by omega) (by omega) hml hfit hr).mono ?_
    rintro e w1 ⟨rfl, hB1⟩
    rw [HV.out]
    go_wp2_with fail
    go_ret
    exact ⟨rfl, hB1⟩

set_option maxRecDepth 100000 in
theorem lifted (os : Os) (started : os.Started) (H : Type) (enc : TypeId × Value → H) :
    ReturnsInHanded {} Try.checked os 4 .any (Rows.fnExactPlainPolicySpec.pre6 enc Try.prog Try.f4 Rows.fnExactPlainPolicyRow.domain false) (Rows.fnExactPlainPolicySpec.post enc Try.prog Try.f4 false true false false) := by
  refine returnsInHanded_of_change (C := Try.checked) own started (by kernel_rfl) Try.func4
    (ChangeSpec.witness6 (enc := enc) (C := Try.checked) false ⟨#[], #[.slice none 0 0], []⟩ 8 (by kernel_rfl) (by kernel_rfl) (by kernel_rfl) (by kernel_rfl)) ?_
  intro W base args ds gs before hval0 hW hcnd _
  have hval : ∀ (j : Nat) t v, Try.f4.params[j]? = some t → args[j]? = some v → Value.okWide Try.prog W .any base t v := hval0
  have hW' := hW
  obtain ⟨p, q, hA0, hV, rfl, _, _⟩ := hW
  have hA : DataW.TrodAll enc Try.prog W 0 (fun _ => true) true Try.f4.params.toList args.toList ds p := hA0
  rw [Try.params4] at hA hval
  obtain ⟨v0, vs0, d0, ds0, p0, q0, hargs, rfl, rfl, h0, r0⟩ := trodAll_cons hA
  obtain ⟨rfl, rfl, rfl⟩ := trodAll_nil r0
  obtain rfl : args = #[v0] := by cases args; simp_all
  obtain ⟨rfl, rfl⟩ := trodVars_none hV
  have k0 := h0
  have lt0 : ∀ x ∈ p0, x.block < W.heap.size := by obtain ⟨m, hm⟩ := k0; exact DataW.trod_lt m _ _ _ hm
  obtain ⟨a0, n0, c0, rfl⟩ := okWide_slice Try.underlying22 (hval 0 22 v0 rfl rfl)
  obtain ⟨l0, w0⟩ := openRuS h0
  clear hA0 hval0
  refine (walk a0 n0 c0 l0 W w0).mono fun e W' ⟨he, bel⟩ => ?_
  subst he
  exact ⟨_, rfl, _, _, _, [], _, [], hW', trodAll_mk1 (shut_bool Try.underlying4 _), (trodAll_cons_mk (Below.trod laidOut (by kernel_rfl) (of_decide_eq_true (by kernel_rfl)) k0 bel lt0) trodAll_mk0), rfl, bel.frame _, fun h => by cases h⟩

theorem over : Rows.fnExactPlainPolicyRow.holds Try.pinned (OpenSpec.ofChange Rows.fnExactPlainPolicySpec) :=
  OpenClaim.holds_of_wide 4 Try.f4 rfl rfl rfl rfl rfl rfl rfl ⟨rfl, rfl, rfl, rfl, rfl⟩ rfl rfl rfl rfl rfl (by kernel_rfl) Try.func4 (by kernel_rfl)
    (of_decide_eq_true (by kernel_rfl)) (by unfold Func.isWrapper; first | (rw [if_pos (by decide +kernel)]; kernel_rfl) | (rw [if_neg (by decide +kernel)]; exact ⟨rfl, rfl⟩))
    (fun os started H enc _ => lifted os started H enc)

end Go.Proofs.Ytnblnhlfifhkkae.fnExactPlainPolicy
namespace Go.Proofs.Ytnblnhlfifhkkae
theorem fnExactPlainPolicy_holds : Rows.FnExactPlainPolicySaid := fnExactPlainPolicy.over
#print axioms fnExactPlainPolicy_holds
end Go.Proofs.Ytnblnhlfifhkkae
