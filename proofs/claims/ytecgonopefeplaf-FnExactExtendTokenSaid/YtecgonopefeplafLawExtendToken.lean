/-
  Proved: at every argument ExtendToken answers as the specification, changes nothing, and its answer owns its memory.
-/
import Derived.Test.YtecgonopefeplafRows
import Derived.Test.YtecgonopefeplafLinkE
import Derived.Test.YtecgonopefeplafMarkK
import Derived.Test.YtecgonopefeplafExtI
import Derived.WalkKit
import Derived.ProofKit
import Derived.OpenShut
import Derived.ShutString
import Derived.ChangeOld
import Derived.Below
import Derived.Lib.SmallJoins
import Derived.Deep.Slices
namespace Go.Proofs.Ytecgonopefeplaf.fnExactExtendToken
open Go.ChangeShapes Go.WideShapes Go.ChangeAt Go.RowKit Go.Joins Go.Deep Go.Proofs.Ytecgonopefeplaf
open Go.ChangeMaps (open_string shut_string)

theorem own : ownKnob Try.prog.godebug = none := by kernel_rfl
theorem laidOut : laidOutB Try.prog = true := by kernel_rfl

theorem heldLinkS_one (v : Value) (n base K : Nat) (w : World) (hn : n ≤ 1048577) (hK : K = 1 + 5 * n) (hrow : w.ownsRow base 57 5 v n ((mkKs 1 n).flatMap Lk.cells)) :
    Calls Try.prog 19 #[v, .int .i64 1] w fun e w' => e = .returned (.int .i64 (K : Int)) ∧ Below w.heap.size w w' := by
  subst hK
  exact heldLinkS_any v n 1 w hn (Nat.le_refl _) (LkS.own (by rw [mkKs_len]; exact hrow))
theorem markLinkS_one (v : Value) (n base K : Nat) (xs : List Value) (w : World) (hn : n ≤ 1048577) (hK : K = 1 + 5 * n) (hrow : w.ownsRow base 57 5 v n xs) :
    Calls Try.prog 18 #[v, .int .i64 1] w fun e w' => e = .returned (.int .i64 (K : Int)) ∧ w'.ownsRow base 57 5 v n ((mkKs 1 n).flatMap Lk.cells) ∧ w.grownBy w' v.ownBlock := by
  subst hK
  exact markLinkS_any v n 1 base xs w hn (Nat.le_refl _) hrow

set_option maxHeartbeats 4000000 in
theorem walk (a : Option Addr) (n c : Nat) (ks : List Lk) (tq : ByteArray) (se nw li : Int) (w : World) (w0 : LkS w (.slice a n c) ks ∧ ks.length = n ∧ n ≤ maxLen ∧ ∀ r ∈ ks, r.fits) (hw1 : tq.size ≤ maxLen) (_w2 : (Lit.int .i64 se).wf = true) (_w3 : (Lit.int .i64 nw).wf = true) (_w4 : (Lit.int .i64 li).wf = true) :
    Calls Try.prog 5 #[.slice a n c, .string tq, .int .i64 se, .int .i64 nw, .int .i64 li] w fun e w' => e = .returned (.bool true) ∧ Below w.heap.size w w' := by
  obtain ⟨hr, rfl, hml, hfit⟩ := w0
  unfold maxLen at hw1
  by_cases hT0 : 1048576 < tq.size
  · have dT : decide ((1048576 : Int) < (tq.size : Int)) = true := by simp; omega
    go_enter Try.func5, Try.ntmps5
    go_wp2
    go_ret
    exact ⟨rfl, Below.refl _ _⟩
  have hto : tq.size ≤ 1048576 := by omega
  have dT : decide ((1048576 : Int) < (tq.size : Int)) = false := by simp; omega
  by_cases hA : (lzAll ks : Int) ≤ 1048576
  · have HV := hid (show leftL 1048576 ks = 1048576 - lzAll ks from if_pos hA)
    have hsz : (lzAll ks : Int) = ks.length + lzTo ks ks.length := by unfold lzAll; omega
    have hm : ks.length ≤ 1048576 := by omega
    have hm' : ks.length ≤ 1048577 := by omega
    have hfz : ∀ r ∈ ks, r.size ≤ 1048576 := fun r hr => by have := lz_mem hr; omega
    have d1 : decide ((1048576 : Int) - lzAll ks < 0) = false := by simp; omega
    have hlx : (extL ks tq se nw li).length ≤ 1048577 := by have := ans_len ks tq se nw li; omega
    obtain ⟨K, hK⟩ : ∃ K : Nat, K = 1 + 5 * ks.length := ⟨_, rfl⟩
    obtain ⟨M, hM⟩ : ∃ M : Nat, M = 1 + 5 * (extL ks tq se nw li).length := ⟨_, rfl⟩
    have dK : decide ((K : Int) < 0) = false := by simp
    have dM : decide ((M : Int) < 0) = false := by simp
    clear hsz
    go_enter Try.func5, Try.ntmps5
    go_wp2_with fail
    refine (szLinkS_any _ ks _ _ (by omega) (by omega) hml hfit hr).mono ?_
    rintro e w1 ⟨rfl, hBB1⟩
    rw [HV.out]
    go_wp2_with fail
    refine (toLinkS_any _ ks _ hm (hr.below hBB1)).mono ?_
    rintro e w2 ⟨v2, rfl, hrow2, hB2⟩
    obtain ⟨a2, cap2, rfl⟩ := ownsRow_len hrow2
    have hBB2 := below_one hBB1 hB2
    clear hBB1 hB2
    go_wp2_with fail
    refine (specExtendToken_any _ ks tq se nw li _ hm' hfz hto (LkS.own hrow2)).mono ?_
    rintro e w3 ⟨v3, rfl, hR, hB3⟩
    have hBB3 := below_one hBB2 hB3
    have hR3 := hR.lt
    clear hBB2 hB3 hrow2
    obtain ⟨aR, capR, rfl⟩ := ownsRow_len hR
    go_wp2_with fail
    refine (toLinkS_any _ ks _ hm (hr.below hBB3)).mono ?_
    rintro e w4 ⟨v4, rfl, hX, hB4⟩
    have hR4 := ownsRow_below hR hB4
    have hBB4 := below_one hBB3 hB4
    have hzz34 := hB4.size
    have hX4 := hX.lt
    clear hR hB4
    obtain ⟨aX, capX, rfl⟩ := ownsRow_len hX
    go_wp2_with fail
    refine (implExtendToken_any _ ks tq se nw li _ hm' hfz hto (LkS.own hX)).mono ?_
    rintro e w5 ⟨v5, rfl, hG, hB5⟩
    have hR5 := ownsRow_below hR4 hB5
    have hX5 := ownsRow_below hX hB5
    have hBB5 := below_one hBB4 hB5
    have hG5 := hG.lt
    have hzz4 : w.heap.size ≤ w4.heap.size := hBB4.size
    have hzz3 : w.heap.size ≤ w3.heap.size := hBB3.size
    clear hR4 hX hBB4 hB5
    obtain ⟨aG, capG, rfl⟩ := ownsRow_len hG
    go_wp2_with fail
    refine (eqLinkS_any _ _ (extL ks tq se nw li) (extL ks tq se nw li) _ hlx hlx (LkS.own hG) (LkS.own hR5)).mono ?_
    rintro e w6 ⟨rfl, hB6⟩
    rw [lsS_refl]
    have hR6 := ownsRow_below hR5 hB6
    have hX6 := ownsRow_below hX5 hB6
    have hG6 := ownsRow_below hG hB6
    have hBB6 := below_one hBB5 hB6
    clear hR5 hX5 hG hBB5 hB6
    go_wp2_with fail
    refine (toLinkS_any _ ks _ hm (hr.below hBB6)).mono ?_
    rintro e w7 ⟨v7, rfl, hT, hB7⟩
    have hR7 := ownsRow_below hR6 hB7
    have hX7 := ownsRow_below hX6 hB7
    have hG7 := ownsRow_below hG6 hB7
    have hBB7 := below_one hBB6 hB7
    clear hR6 hX6 hG6 hBB6 hB7
    obtain ⟨aT, capT, rfl⟩ := ownsRow_len hT
    go_wp2_with fail
    refine (eqLinkS_any _ _ ks ks _ hm' hm' (LkS.own hX7) (LkS.own hT)).mono ?_
    rintro e w8 ⟨rfl, hB8⟩
    rw [lsS_refl]
    have hR8 := ownsRow_below hR7 hB8
    have hX8 := ownsRow_below hX7 hB8
    have hG8 := ownsRow_below hG7 hB8
    have hBB8 := below_one hBB7 hB8
    clear hR7 hX7 hG7 hBB7 hB8 hT
    go_wp2_with fail
    refine (markLinkS_one _ ks.length _ K _ _ hm' hK hX8).mono ?_
    rintro e w9 ⟨rfl, _, hg9⟩
    have hR9 := kept_apart hR8 hg9 (fun k h1 h2 => by have := (hR3 k h1).2; have := (hX4 k h2).1; omega)
    have hG9 := kept_apart hG8 hg9 (fun k h1 h2 => by have := (hG5 k h1).1; have := (hX4 k h2).2; omega)
    have hBB9 : Below w.heap.size w w9 := hBB8.grown hg9 hBB8.size (fun k hk => Nat.le_trans hzz3 (hX4 k hk).1)
    clear hR8 hX8 hG8 hBB8 hg9
    go_wp2_with fail
    refine (eqLinkS_any _ _ (extL ks tq se nw li) (extL ks tq se nw li) _ hlx hlx (LkS.own hG9) (LkS.own hR9)).mono ?_
    rintro e w10 ⟨rfl, hB10⟩
    rw [lsS_refl]
    have hR10 := ownsRow_below hR9 hB10
    have hG10 := ownsRow_below hG9 hB10
    have hBB10 := below_one hBB9 hB10
    clear hR9 hG9 hBB9 hB10
    go_wp2_with fail
    refine (markLinkS_one _ (extL ks tq se nw li).length _ M _ _ hlx hM hG10).mono ?_
    rintro e w11 ⟨rfl, hG11, hg11⟩
    have hR11 := kept_apart hR10 hg11 (fun k h1 h2 => by have := (hR3 k h1).2; have := (hG5 k h2).1; omega)
    have hBB11 : Below w.heap.size w w11 := hBB10.grown hg11 hBB10.size (fun k hk => Nat.le_trans hzz4 (hG5 k hk).1)
    clear hR10 hG10 hBB10 hg11
    go_wp2_with fail
    refine (heldLinkS_one _ (extL ks tq se nw li).length _ M _ hlx hM hG11).mono ?_
    rintro e w12 ⟨rfl, hB12⟩
    have hR12 := ownsRow_below hR11 hB12
    have hG12 := ownsRow_below hG11 hB12
    have hBB12 := below_one hBB11 hB12
    clear hR11 hG11 hBB11 hB12
    go_wp2_with fail
    refine (toLinkS_any _ ks _ hm (hr.below hBB12)).mono ?_
    rintro e w13 ⟨v13, rfl, hT, hB13⟩
    have hR13 := ownsRow_below hR12 hB13
    have hG13 := ownsRow_below hG12 hB13
    have hBB13 := below_one hBB12 hB13
    clear hR12 hG12 hBB12 hB13
    obtain ⟨aT, capT, rfl⟩ := ownsRow_len hT
    go_wp2_with fail
    refine (implExtendToken_any _ ks tq se nw li _ hm' hfz hto (LkS.own hT)).mono ?_
    rintro e w14 ⟨v14, rfl, hH, hB14⟩
    have hR14 := ownsRow_below hR13 hB14
    have hG14 := ownsRow_below hG13 hB14
    have hBB14 := below_one hBB13 hB14
    clear hR13 hG13 hBB13 hB14 hT
    obtain ⟨aH, capH, rfl⟩ := ownsRow_len hH
    go_wp2_with fail
    refine (eqLinkS_any _ _ (extL ks tq se nw li) (extL ks tq se nw li) _ hlx hlx (LkS.own hH) (LkS.own hR14)).mono ?_
    rintro e w15 ⟨rfl, hB15⟩
    rw [lsS_refl]
    have hG15 := ownsRow_below hG14 hB15
    have hBB15 := below_one hBB14 hB15
    clear hR14 hG14 hBB14 hB15 hH
    go_wp2_with fail
    refine (heldLinkS_one _ (extL ks tq se nw li).length _ M _ hlx hM hG15).mono ?_
    rintro e w16 ⟨rfl, hB16⟩
    have hBB16 := below_one hBB15 hB16
    go_wp2_with fail
    go_ret
    exact ⟨rfl, hBB16⟩
  · have HV := hid (show leftL 1048576 ks = -1 from if_neg hA)
    go_enter Try.func5, Try.ntmps5
    go_wp2_with fail
    refine (szLinkS_any _ ks _ _ (by omega) (by omega) hml hfit hr).mono ?_
    rintro e w1 ⟨rfl, hB1⟩
    rw [HV.out]
    go_wp2_with fail
    go_ret
    exact ⟨rfl, hB1⟩

set_option maxRecDepth 100000 in
theorem lifted (os : Os) (started : os.Started) (H : Type) (enc : TypeId × Value → H) :
    ReturnsInHanded {} Try.checked os 5 .any (Rows.fnExactExtendTokenSpec.pre6 enc Try.prog Try.f5 Rows.fnExactExtendTokenRow.domain false) (Rows.fnExactExtendTokenSpec.post enc Try.prog Try.f5 false true false false) := by
  refine returnsInHanded_of_change (C := Try.checked) own started (by kernel_rfl) Try.func5
    (ChangeSpec.witness6 (enc := enc) (C := Try.checked) false ⟨#[], #[.slice none 0 0, .string ByteArray.empty, .int .i64 0, .int .i64 0, .int .i64 0], []⟩ 8 (by kernel_rfl) (by kernel_rfl) (by kernel_rfl) (by kernel_rfl)) ?_
  intro W base args ds gs before hval0 hW hcnd _
  have hval : ∀ (j : Nat) t v, Try.f5.params[j]? = some t → args[j]? = some v → Value.okWide Try.prog W .any base t v := hval0
  have hW' := hW
  obtain ⟨p, q, hA0, hV, rfl, _, _⟩ := hW
  have hA : DataW.TrodAll enc Try.prog W 0 (fun _ => true) true Try.f5.params.toList args.toList ds p := hA0
  rw [Try.params5] at hA hval
  obtain ⟨v0, vs0, d0, ds0, p0, q0, hargs, rfl, rfl, h0, r0⟩ := trodAll_cons hA
  obtain ⟨v1, vs1, d1, ds1, p1, q1, rfl, rfl, rfl, h1, r1⟩ := trodAll_cons r0
  obtain ⟨v2, vs2, d2, ds2, p2, q2, rfl, rfl, rfl, h2, r2⟩ := trodAll_cons r1
  obtain ⟨v3, vs3, d3, ds3, p3, q3, rfl, rfl, rfl, h3, r3⟩ := trodAll_cons r2
  obtain ⟨v4, vs4, d4, ds4, p4, q4, rfl, rfl, rfl, h4, r4⟩ := trodAll_cons r3
  obtain ⟨rfl, rfl, rfl⟩ := trodAll_nil r4
  obtain rfl : args = #[v0, v1, v2, v3, v4] := by cases args; simp_all
  obtain ⟨rfl, rfl⟩ := trodVars_none hV
  have k0 := h0
  have lt0 : ∀ x ∈ p0, x.block < W.heap.size := by obtain ⟨m, hm⟩ := k0; exact DataW.trod_lt m _ _ _ hm
  obtain ⟨a0, n0, c0, rfl⟩ := okWide_slice Try.underlying30 (hval 0 30 v0 rfl rfl)
  obtain ⟨l0, w0⟩ := openLkS h0
  have k1 := h1
  have lt1 : ∀ x ∈ p1, x.block < W.heap.size := by obtain ⟨m, hm⟩ := k1; exact DataW.trod_lt m _ _ _ hm
  obtain ⟨a1, rfl, _, _, w1⟩ := open_string Try.underlying9 (hval 1 9 v1 rfl rfl) h1
  have k2 := h2
  have lt2 : ∀ x ∈ p2, x.block < W.heap.size := by obtain ⟨m, hm⟩ := k2; exact DataW.trod_lt m _ _ _ hm
  obtain ⟨a2, rfl, _, _, w2⟩ := open_int Try.underlying3 (hval 2 3 v2 rfl rfl) h2
  have k3 := h3
  have lt3 : ∀ x ∈ p3, x.block < W.heap.size := by obtain ⟨m, hm⟩ := k3; exact DataW.trod_lt m _ _ _ hm
  obtain ⟨a3, rfl, _, _, w3⟩ := open_int Try.underlying3 (hval 3 3 v3 rfl rfl) h3
  have k4 := h4
  have lt4 : ∀ x ∈ p4, x.block < W.heap.size := by obtain ⟨m, hm⟩ := k4; exact DataW.trod_lt m _ _ _ hm
  obtain ⟨a4, rfl, _, _, w4⟩ := open_int Try.underlying3 (hval 4 3 v4 rfl rfl) h4
  clear hA0 hval0
  refine (walk a0 n0 c0 l0 a1 a2 a3 a4 W w0 w1 w2 w3 w4).mono fun e W' ⟨he, bel⟩ => ?_
  subst he
  exact ⟨_, rfl, _, _, _, [], _, [], hW', trodAll_mk1 (shut_bool Try.underlying4 _), (trodAll_cons_mk (Below.trod laidOut (by kernel_rfl) (of_decide_eq_true (by kernel_rfl)) k0 bel lt0) (trodAll_cons_mk (Below.trod laidOut (by kernel_rfl) (of_decide_eq_true (by kernel_rfl)) k1 bel lt1) (trodAll_cons_mk (Below.trod laidOut (by kernel_rfl) (of_decide_eq_true (by kernel_rfl)) k2 bel lt2) (trodAll_cons_mk (Below.trod laidOut (by kernel_rfl) (of_decide_eq_true (by kernel_rfl)) k3 bel lt3) (trodAll_cons_mk (Below.trod laidOut (by kernel_rfl) (of_decide_eq_true (by kernel_rfl)) k4 bel lt4) trodAll_mk0))))), rfl, bel.frame _, fun h => by cases h⟩

theorem over : Rows.fnExactExtendTokenRow.holds Try.pinned (OpenSpec.ofChange Rows.fnExactExtendTokenSpec) :=
  OpenClaim.holds_of_wide 5 Try.f5 rfl rfl rfl rfl rfl rfl rfl ⟨rfl, rfl, rfl, rfl, rfl⟩ rfl rfl rfl rfl rfl (by kernel_rfl) Try.func5 (by kernel_rfl)
    (of_decide_eq_true (by kernel_rfl)) (by unfold Func.isWrapper; first | (rw [if_pos (by decide +kernel)]; kernel_rfl) | (rw [if_neg (by decide +kernel)]; exact ⟨rfl, rfl⟩))
    (fun os started H enc _ => lifted os started H enc)

end Go.Proofs.Ytecgonopefeplaf.fnExactExtendToken
namespace Go.Proofs.Ytecgonopefeplaf
theorem fnExactExtendToken_holds : Rows.FnExactExtendTokenSaid := fnExactExtendToken.over
#print axioms fnExactExtendToken_holds
end Go.Proofs.Ytecgonopefeplaf
