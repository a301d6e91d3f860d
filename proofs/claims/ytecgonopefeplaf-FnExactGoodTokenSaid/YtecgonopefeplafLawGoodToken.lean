/-
  Proved: at every argument GoodToken answers as the specification, and changes nothing.
-/
import Derived.Test.YtecgonopefeplafRows
import Derived.Test.YtecgonopefeplafLinkE
import Derived.Test.YtecgonopefeplafTokJ
import Derived.WalkKit
import Derived.ProofKit
import Derived.OpenShut
import Derived.ShutString
import Derived.ChangeOld
import Derived.Below
import Derived.Lib.SmallJoins
import Derived.Deep.Slices
namespace Go.Proofs.Ytecgonopefeplaf.fnExactGoodToken
open Go.ChangeShapes Go.WideShapes Go.ChangeAt Go.RowKit Go.Joins Go.Deep Go.Proofs.Ytecgonopefeplaf
open Go.ChangeMaps (open_string shut_string)

theorem own : ownKnob Try.prog.godebug = none := by kernel_rfl
theorem laidOut : laidOutB Try.prog = true := by kernel_rfl

set_option maxHeartbeats 2000000 in
theorem walk (a : Option Addr) (n c : Nat) (ks : List Lk) (w : World) (w0 : LkS w (.slice a n c) ks ∧ ks.length = n ∧ n ≤ maxLen ∧ ∀ r ∈ ks, r.fits) :
    Calls Try.prog 4 #[.slice a n c] w fun e w' => e = .returned (.bool true) ∧ Below w.heap.size w w' := by
  obtain ⟨hr, rfl, hml, hfit⟩ := w0
  by_cases hA : (lzAll ks : Int) ≤ 1048576
  · have HV := hid (show leftL 1048576 ks = 1048576 - lzAll ks from if_pos hA)
    have hsz : (lzAll ks : Int) = ks.length + lzTo ks ks.length := by unfold lzAll; omega
    have hm : ks.length ≤ 1048576 := by omega
    have hm' : ks.length ≤ 1048577 := by omega
    have hfz : ∀ r ∈ ks, r.size ≤ 1048576 := fun r hr => by have := lz_mem hr; omega
    have d1 : decide ((1048576 : Int) - lzAll ks < 0) = false := by simp; omega
    clear hsz
    go_enter Try.func4, Try.ntmps4
    go_wp2_with fail
    refine (szLinkS_any _ ks _ _ (by omega) (by omega) hml hfit hr).mono ?_
    rintro e w1 ⟨rfl, hB1⟩
    rw [HV.out]
    have hr1 := hr.below hB1
    clear hr
    go_wp2_with fail
    refine (toLinkS_any _ ks _ hm hr1).mono ?_
    rintro e w2 ⟨v2, rfl, hrow2, hB2⟩
    obtain ⟨a2, cap2, rfl⟩ := ownsRow_len hrow2
    have hr2 := hr1.below hB2
    have hBB2 := below_one hB1 hB2
    clear hr1 hB1 hB2
    go_wp2_with fail
    refine (specGoodToken_any _ ks _ hm' hfz (LkS.own hrow2)).mono ?_
    rintro e w3 ⟨rfl, hB3⟩
    have hr3 := hr2.below hB3
    have hBB3 := below_one hBB2 hB3
    clear hr2 hBB2 hB3 hrow2
    go_wp2_with fail
    refine (toLinkS_any _ ks _ hm hr3).mono ?_
    rintro e w4 ⟨v4, rfl, hrow4, hB4⟩
    obtain ⟨a4, cap4, rfl⟩ := ownsRow_len hrow4
    have hr4 := hr3.below hB4
    have hBB4 := below_one hBB3 hB4
    clear hr3 hBB3 hB4
    go_wp2_with fail
    refine (implGoodToken_any _ ks _ hm' hfz (LkS.own hrow4)).mono ?_
    rintro e w5 ⟨rfl, hB5⟩
    have hr5 := hr4.below hB5
    have hrow5 := ownsRow_below hrow4 hB5
    have hBB5 := below_one hBB4 hB5
    clear hr4 hBB4 hB5 hrow4
    go_wp2_with fail
    refine (toLinkS_any _ ks _ hm hr5).mono ?_
    rintro e w6 ⟨v6, rfl, hrow6, hB6⟩
    obtain ⟨a6, cap6, rfl⟩ := ownsRow_len hrow6
    have hr6 := hr5.below hB6
    have hrow56 := ownsRow_below hrow5 hB6
    have hBB6 := below_one hBB5 hB6
    clear hr5 hrow5 hBB5 hB6
    go_wp2_with fail
    refine (eqLinkS_any _ _ ks ks _ hm' hm' (LkS.own hrow56) (LkS.own hrow6)).mono ?_
    rintro e w7 ⟨rfl, hB7⟩
    rw [lsS_refl]
    have hBB7 := below_one hBB6 hB7
    go_wp2_with fail
    go_ret
    exact ⟨rfl, hBB7⟩
  · have HV := hid (show leftL 1048576 ks = -1 from if_neg hA)
    go_enter Try.func4, Try.ntmps4
    go_wp2_with fail
    refine (szLinkS_any _ ks _ _ (by omega) (by omega) hml hfit hr).mono ?_
    rintro e w1 ⟨rfl, hB1⟩
    rw [HV.out]
    go_wp2_with fail
    go_ret
    exact ⟨rfl, hB1⟩

set_option maxRecDepth 100000 in
theorem lifted (os : Os) (started : os.Started) (H : Type) (enc : TypeId × Value → H) :
    ReturnsInHanded {} Try.checked os 4 .any (Rows.fnExactGoodTokenSpec.pre6 enc Try.prog Try.f4 Rows.fnExactGoodTokenRow.domain false) (Rows.fnExactGoodTokenSpec.post enc Try.prog Try.f4 false true false false) := by
  refine returnsInHanded_of_change (C := Try.checked) own started (by kernel_rfl) Try.func4
    (ChangeSpec.witness6 (enc := enc) (C := Try.checked) false ⟨#[], #[.slice none 0 0], []⟩ 8 (by kernel_rfl) (by kernel_rfl) (by kernel_rfl) (by kernel_rfl)) ?_
  intro W base args ds gs before hval0 hW hcnd _
  have hval : ∀ (j : Nat) t v, Try.f4.params[j]? = some t → args[j]? = some v → Value.okWide Try.prog W .any base t v := hval0
  have hW' := hW
  obtain ⟨p, q, hA0, hV, rfl, _, _⟩ := hW
  have hA : DataW.TrodAll enc Try.prog W 0 (fun _ => true) true Try.f4.params.toList args.toList ds p := hA0
  rw [Try.params4] at hA hval
  obtain ⟨v0, vs0, d0, ds0, p0, q0, hargs, rfl, rfl, h0, r0⟩ := trodAll_cons hA
  obtain ⟨rfl, rfl, rfl⟩ := trodAll_nil r0
  obtain rfl : args = #[v0] := by cases args; simp_all
  obtain ⟨rfl, rfl⟩ := trodVars_none hV
  have k0 := h0
  have lt0 : ∀ x ∈ p0, x.block < W.heap.size := by obtain ⟨m, hm⟩ := k0; exact DataW.trod_lt m _ _ _ hm
  obtain ⟨a0, n0, c0, rfl⟩ := okWide_slice Try.underlying30 (hval 0 30 v0 rfl rfl)
  obtain ⟨l0, w0⟩ := openLkS h0
  clear hA0 hval0
  refine (walk a0 n0 c0 l0 W w0).mono fun e W' ⟨he, bel⟩ => ?_
  subst he
  exact ⟨_, rfl, _, _, _, [], _, [], hW', trodAll_mk1 (shut_bool Try.underlying4 _), (trodAll_cons_mk (Below.trod laidOut (by kernel_rfl) (of_decide_eq_true (by kernel_rfl)) k0 bel lt0) trodAll_mk0), rfl, bel.frame _, fun h => by cases h⟩

theorem over : Rows.fnExactGoodTokenRow.holds Try.pinned (OpenSpec.ofChange Rows.fnExactGoodTokenSpec) :=
  OpenClaim.holds_of_wide 4 Try.f4 rfl rfl rfl rfl rfl rfl rfl ⟨rfl, rfl, rfl, rfl, rfl⟩ rfl rfl rfl rfl rfl (by kernel_rfl) Try.func4 (by kernel_rfl)
    (of_decide_eq_true (by kernel_rfl)) (by unfold Func.isWrapper; first | (rw [if_pos (by decide +kernel)]; kernel_rfl) | (rw [if_neg (by decide +kernel)]; exact ⟨rfl, rfl⟩))
    (fun os started H enc _ => lifted os started H enc)

end Go.Proofs.Ytecgonopefeplaf.fnExactGoodToken
namespace Go.Proofs.Ytecgonopefeplaf
theorem fnExactGoodToken_holds : Rows.FnExactGoodTokenSaid := fnExactGoodToken.over
#print axioms fnExactGoodToken_holds
end Go.Proofs.Ytecgonopefeplaf
