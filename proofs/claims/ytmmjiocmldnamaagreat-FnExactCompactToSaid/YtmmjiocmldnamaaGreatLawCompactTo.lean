/-
  Proved: at every argument CompactTo answers as the specification, changes nothing, and its answer owns its memory.
-/
import Derived.Test.YtmmjiocmldnamaaGreatRows
import Derived.Test.YtmmjiocmldnamaaGreatLstC
import Derived.WalkKit
import Derived.ProofKit
import Derived.OpenShut
import Derived.ShutString
import Derived.ChangeOld
import Derived.Below
import Derived.Lib.SmallJoins
import Derived.Deep.Slices
namespace Go.Proofs.YtmmjiocmldnamaaGreat.fnExactCompactTo
open Go.ChangeShapes Go.WideShapes Go.ChangeAt Go.RowKit Go.Joins Go.Deep Go.Proofs.YtmmjiocmldnamaaGreat
open Go.ChangeMaps (open_string shut_string)

theorem own : ownKnob Tryz.prog.godebug = none := by kernel_rfl
theorem laidOut : laidOutB Tryz.prog = true := by kernel_rfl

theorem ct_short {ss : List Sn} {z : Int} (h : shortS ss) : shortS (ctX ss z) := by
  unfold ctX
  split
  · exact shortS_drop h _
  · exact ⟨by simp, fun s hs => by cases hs⟩
theorem ct_many (ss : List Sn) (z : Int) : mvTo (ctX ss z) (ctX ss z).length ≤ mvTo ss ss.length := by
  unfold ctX
  split
  · unfold mvTo
    rw [List.take_length, List.take_length]
    conv => rhs; rw [← List.take_append_drop (atN (vN ss) z) ss, List.map_append, List.sum_append]
    omega
  · simp [mvTo]

set_option maxHeartbeats 16000000 in
set_option maxRecDepth 100000 in
theorem walk (a : Option Addr) (n c : Nat) (ss : List Sn) (z : Int) (w : World) (w0 : SsA w (.slice a n c) ss ∧ ss.length = n ∧ n ≤ maxLen ∧ ∀ s ∈ ss, s.fits) (_ : (Lit.int IntKind.i64 z).wf = true) :
    Calls Tryz.prog 5 #[.slice a n c, .int .i64 z] w fun e w' => e = .returned (.bool true) ∧ Below w.heap.size w w' := by
  obtain ⟨hA, rfl, hml, hfit⟩ := w0
  by_cases hC : (vzAll ss : Int) ≤ 1048576
  case neg =>
    have HU := hid (show leftVS 1048576 ss = -1 from if_neg hC)
    go_enter Tryz.func5, Tryz.ntmps5
    go_wp2_with fail
    refine (szSnapshotS_any _ ss _ _ (by omega) (by omega) hml hfit hA).mono ?_
    rintro e w1 ⟨rfl, hBB⟩
    rw [HU.out]
    go_wp2_with fail
    go_ret
    exact ⟨rfl, hBB⟩
  have HU := hid (show leftVS 1048576 ss = 1048576 - vzAll ss from if_pos hC)
  have d1 : decide ((1048576 : Int) - (vzAll ss : Int) < 0) = false := by simp; omega
  have hS := shortS_of (ss := ss) (by omega)
  have hmv := mvTo_size ss
  obtain ⟨t, HT⟩ : ∃ t, Hid (t = ctX ss z) := ⟨_, hid rfl⟩
  obtain ⟨ok, HO⟩ : ∃ ok, Hid (thB ss z = ok) := ⟨_, hid rfl⟩
  have hT : shortS t := by rw [HT.out]; exact ct_short hS
  have hmt : mvTo t t.length ≤ mvTo ss ss.length := by rw [HT.out]; exact ct_many ss z
  go_enter Tryz.func5, Tryz.ntmps5
  go_wp2_with fail
  refine (szSnapshotS_any _ ss _ _ (by omega) (by omega) hml hfit hA).mono ?_
  rintro e w1 ⟨rfl, hBB⟩
  rw [HU.out]
  go_wp2_with fail
  refine (toSnapshotS_any _ ss _ hS (hA.below hBB)).mono ?_
  rintro e w2 ⟨v2, rfl, O2, hB2⟩
  obtain ⟨x2, c2, rfl⟩ := O2.a.len
  replace hBB := below_one hBB hB2
  clear hB2
  go_wp2_with fail
  refine (specCompactTo_any _ ss z _ hS O2.r).mono ?_
  rintro e w3 ⟨v3, he, OW, hB3⟩
  rw [← HT.out] at OW
  rw [HO.out] at he
  subst he
  obtain ⟨x3, c3, rfl⟩ := OW.a.len
  replace hBB := below_one hBB hB3
  clear hB3 O2
  have zb := hBB.size
  go_wp2_with fail
  refine (toSnapshotS_any _ ss _ hS (hA.below hBB)).mono ?_
  rintro e w4 ⟨v4, rfl, OX, hB4⟩
  obtain ⟨x4, c4, rfl⟩ := OX.a.len
  have z4 := hB4.size
  replace OW := OW.below hB4
  replace hBB := below_one hBB hB4
  clear hB4
  go_wp2_with fail
  refine (implCompactTo_any _ ss z _ hS OX.r).mono ?_
  rintro e w5 ⟨v5, he, OG, hB5⟩
  rw [← HT.out] at OG
  rw [HO.out] at he
  subst he
  obtain ⟨x5, c5, rfl⟩ := OG.a.len
  have z5 := hB5.size
  replace OW := OW.below hB5
  replace OX := OX.below hB5
  replace hBB := below_one hBB hB5
  clear hB5
  have eo : (ok != ok) = false := by simp
  go_wp2_with fail
  refine (eqSnapshotS_same _ _ t _ hT OG.a OW.a).mono ?_
  rintro e w6 ⟨rfl, hB6⟩
  have z6 := hB6.size
  replace OW := OW.below hB6
  replace OX := OX.below hB6
  replace OG := OG.below hB6
  replace hBB := below_one hBB hB6
  clear hB6
  go_wp2_with fail
  refine (toSnapshotS_any _ ss _ hS (hA.below hBB)).mono ?_
  rintro e w7 ⟨v7, rfl, O7, hB7⟩
  obtain ⟨x7, c7, rfl⟩ := O7.a.len
  replace OW := OW.below hB7
  replace OX := OX.below hB7
  replace OG := OG.below hB7
  replace hBB := below_one hBB hB7
  clear hB7
  go_wp2_with fail
  refine (eqSnapshotS_same _ _ ss _ hS OX.a O7.a).mono ?_
  rintro e w8 ⟨rfl, hB8⟩
  replace OW := OW.below hB8
  replace OX := OX.below hB8
  replace OG := OG.below hB8
  replace hBB := below_one hBB hB8
  clear hB8 O7
  obtain ⟨c1, HC1⟩ : ∃ c, Hid (c = 1 + mvTo ss ss.length) := ⟨_, hid rfl⟩
  obtain ⟨c2, HC2⟩ : ∃ c, Hid (c = 1 + mvTo t t.length) := ⟨_, hid rfl⟩
  go_wp2_with fail
  refine (markSnapshotS_any _ ss 1 _ _ _ hS (by omega) OX).mono ?_
  rintro e w9 ⟨rfl, _, M1⟩
  rw [← HC1.out]
  clear OX
  replace OW := M1.sso OW (by omega)
  replace OG := M1.sso OG (by omega)
  replace hBB := hBB.trans (M1.below (n := w.heap.size) (by omega) hBB.size)
  clear M1
  have dk : decide ((c1 : Int) < 0) = false := by simp
  go_wp2_with fail
  refine (eqSnapshotS_same _ _ t _ hT OG.a OW.a).mono ?_
  rintro e w10 ⟨rfl, hB10⟩
  replace OW := OW.below hB10
  replace OG := OG.below hB10
  replace hBB := below_one hBB hB10
  clear hB10
  go_wp2_with fail
  refine (markSnapshotS_any _ t 1 _ _ _ hT (by omega) OG).mono ?_
  rintro e w11 ⟨rfl, OG', M2⟩
  rw [← HC2.out]
  clear OG
  replace OW := M2.sso OW (by omega)
  replace hBB := hBB.trans (M2.below (n := w.heap.size) (by omega) hBB.size)
  clear M2
  go_wp2_with fail
  refine (heldSnapshotS_any _ t 1 _ hT (by omega) OG'.a).mono ?_
  rintro e w12 ⟨rfl, hB12⟩
  rw [← HC2.out]
  replace OW := OW.below hB12
  replace OG' := OG'.below hB12
  replace hBB := below_one hBB hB12
  clear hB12
  have dq : decide ((c2 : Int) < 0) = false := by simp
  have eq2 : ((c2 : Int) != (c2 : Int)) = false := by simp
  go_wp2_with fail
  refine (toSnapshotS_any _ ss _ hS (hA.below hBB)).mono ?_
  rintro e w13 ⟨v13, rfl, OY, hB13⟩
  obtain ⟨x13, c13, rfl⟩ := OY.a.len
  replace OW := OW.below hB13
  replace OG' := OG'.below hB13
  replace hBB := below_one hBB hB13
  clear hB13
  go_wp2_with fail
  refine (implCompactTo_any _ ss z _ hS OY.r).mono ?_
  rintro e w14 ⟨v14, he, OH, hB14⟩
  rw [← HT.out] at OH
  rw [HO.out] at he
  subst he
  obtain ⟨x14, c14, rfl⟩ := OH.a.len
  replace OW := OW.below hB14
  replace OG' := OG'.below hB14
  replace hBB := below_one hBB hB14
  clear hB14 OY
  go_wp2_with fail
  refine (eqSnapshotS_same _ _ t _ hT OH.a OW.a).mono ?_
  rintro e w15 ⟨rfl, hB15⟩
  replace OG' := OG'.below hB15
  replace hBB := below_one hBB hB15
  clear hB15
  go_wp2_with fail
  refine (heldSnapshotS_any _ t 1 _ hT (by omega) OG'.a).mono ?_
  rintro e w16 ⟨rfl, hB16⟩
  rw [← HC2.out]
  replace hBB := below_one hBB hB16
  clear hB16
  go_wp2_with fail
  go_ret
  exact ⟨rfl, hBB⟩

set_option maxRecDepth 100000 in
theorem lifted (os : Os) (started : os.Started) (H : Type) (enc : TypeId × Value → H) :
    ReturnsInHanded {} Tryz.checked os 5 .any (Rows.fnExactCompactToSpec.pre6 enc Tryz.prog Tryz.f5 Rows.fnExactCompactToRow.domain false) (Rows.fnExactCompactToSpec.post enc Tryz.prog Tryz.f5 false true false false) := by
  refine returnsInHanded_of_change (C := Tryz.checked) own started (by kernel_rfl) Tryz.func5
    (ChangeSpec.witness6 (enc := enc) (C := Tryz.checked) false ⟨#[], #[.slice none 0 0, .int .i64 0], []⟩ 8 (by kernel_rfl) (by kernel_rfl) (by kernel_rfl) (by kernel_rfl)) ?_
  intro W base args ds gs before hval0 hW hcnd _
  have hval : ∀ (j : Nat) t v, Tryz.f5.params[j]? = some t → args[j]? = some v → Value.okWide Tryz.prog W .any base t v := hval0
  have hW' := hW
  obtain ⟨p, q, hA0, hV, rfl, _, _⟩ := hW
  have hA : DataW.TrodAll enc Tryz.prog W 0 (fun _ => true) true Tryz.f5.params.toList args.toList ds p := hA0
  rw [Tryz.params5] at hA hval
  obtain ⟨v0, vs0, d0, ds0, p0, q0, hargs, rfl, rfl, h0, r0⟩ := trodAll_cons hA
  obtain ⟨v1, vs1, d1, ds1, p1, q1, rfl, rfl, rfl, h1, r1⟩ := trodAll_cons r0
  obtain ⟨rfl, rfl, rfl⟩ := trodAll_nil r1
  obtain rfl : args = #[v0, v1] := by cases args; simp_all
  obtain ⟨rfl, rfl⟩ := trodVars_none hV
  have k0 := h0
  have lt0 : ∀ x ∈ p0, x.block < W.heap.size := by obtain ⟨m, hm⟩ := k0; exact DataW.trod_lt m _ _ _ hm
  obtain ⟨a0, n0, c0, rfl⟩ := okWide_slice Tryz.underlying22 (hval 0 22 v0 rfl rfl)
  obtain ⟨l0, w0⟩ := openSsS h0
  have k1 := h1
  have lt1 : ∀ x ∈ p1, x.block < W.heap.size := by obtain ⟨m, hm⟩ := k1; exact DataW.trod_lt m _ _ _ hm
  obtain ⟨a1, rfl, _, _, w1⟩ := open_int Tryz.underlying3 (hval 1 3 v1 rfl rfl) h1
  clear hA0 hval0
  refine (walk a0 n0 c0 l0 a1 W w0 w1).mono fun e W' ⟨he, bel⟩ => ?_
  subst he
  exact ⟨_, rfl, _, _, _, [], _, [], hW', trodAll_mk1 (shut_bool Tryz.underlying4 _), (trodAll_cons_mk (Below.trod laidOut (by kernel_rfl) (of_decide_eq_true (by kernel_rfl)) k0 bel lt0) (trodAll_cons_mk (Below.trod laidOut (by kernel_rfl) (of_decide_eq_true (by kernel_rfl)) k1 bel lt1) trodAll_mk0)), rfl, bel.frame _, fun h => by cases h⟩

theorem over : Rows.fnExactCompactToRow.holds Tryz.pinned (OpenSpec.ofChange Rows.fnExactCompactToSpec) :=
  OpenClaim.holds_of_wide 5 Tryz.f5 rfl rfl rfl rfl rfl rfl rfl ⟨rfl, rfl, rfl, rfl, rfl⟩ rfl rfl rfl rfl rfl (by kernel_rfl) Tryz.func5 (by kernel_rfl)
    (of_decide_eq_true (by kernel_rfl)) (by unfold Func.isWrapper; first | (rw [if_pos (by decide +kernel)]; kernel_rfl) | (rw [if_neg (by decide +kernel)]; exact ⟨rfl, rfl⟩))
    (fun os started H enc _ => lifted os started H enc)

end Go.Proofs.YtmmjiocmldnamaaGreat.fnExactCompactTo
namespace Go.Proofs.YtmmjiocmldnamaaGreat
theorem fnExactCompactTo_holds : Rows.FnExactCompactToSaid := fnExactCompactTo.over
#print axioms fnExactCompactTo_holds
end Go.Proofs.YtmmjiocmldnamaaGreat
