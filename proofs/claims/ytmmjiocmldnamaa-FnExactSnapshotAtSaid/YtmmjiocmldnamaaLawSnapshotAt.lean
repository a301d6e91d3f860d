/-
  Proved: at every argument SnapshotAt answers as the specification, changes nothing, and its answer owns its memory.
-/
import Derived.Test.YtmmjiocmldnamaaRows
import Derived.Test.YtmmjiocmldnamaaLstI
import Derived.Test.YtmmjiocmldnamaaLstO
import Derived.WalkKit
import Derived.ProofKit
import Derived.OpenShut
import Derived.ShutString
import Derived.ChangeOld
import Derived.Below
import Derived.Lib.SmallJoins
import Derived.Deep.Slices
namespace Go.Proofs.Ytmmjiocmldnamaa.fnExactSnapshotAt
open Go.ChangeShapes Go.WideShapes Go.ChangeAt Go.RowKit Go.Joins Go.Deep Go.Proofs.Ytmmjiocmldnamaa
open Go.ChangeMaps (open_string shut_string)

theorem own : ownKnob Try.prog.godebug = none := by kernel_rfl
theorem laidOut : laidOutB Try.prog = true := by kernel_rfl

theorem sa_short {ss : List Sn} {z : Int} (h : shortS ss) : (saX ss z).short := by
  unfold saX
  split
  · cases hg : ss[atN (vN ss) z]? with
    | none => exact ⟨by simp [Sn.none], by simp [Sn.none], fun r hr => by simp [Sn.none] at hr⟩
    | some s => exact h.2 s (List.mem_of_getElem? hg)
  · exact ⟨by simp [Sn.none], by simp [Sn.none], fun r hr => by simp [Sn.none] at hr⟩
theorem many_short {t : Sn} (h : t.short) : t.many ≤ 5242880 := by
  obtain ⟨h1, h2, _⟩ := h
  unfold Sn.many
  omega

set_option maxHeartbeats 16000000 in
set_option maxRecDepth 100000 in
theorem walk (a : Option Addr) (n c : Nat) (ss : List Sn) (z : Int) (w : World) (w0 : SsA w (.slice a n c) ss ∧ ss.length = n ∧ n ≤ maxLen ∧ ∀ s ∈ ss, s.fits) (_ : (Lit.int IntKind.i64 z).wf = true) :
    Calls Try.prog 4 #[.slice a n c, .int .i64 z] w fun e w' => e = .returned (.bool true) ∧ Below w.heap.size w w' := by
  obtain ⟨hA, rfl, hml, hfit⟩ := w0
  by_cases hC : (vzAll ss : Int) ≤ 1048576
  case neg =>
    have HU := hid (show leftVS 1048576 ss = -1 from if_neg hC)
    go_enter Try.func4, Try.ntmps4
    go_wp2_with fail
    refine (szSnapshotS_any _ ss _ _ (by omega) (by omega) hml hfit hA).mono ?_
    rintro e w1 ⟨rfl, hBB⟩
    rw [HU.out]
    go_wp2_with fail
    go_ret
    exact ⟨rfl, hBB⟩
  have HU := hid (show leftVS 1048576 ss = 1048576 - vzAll ss from if_pos hC)
  have d1 : decide ((1048576 : Int) - (vzAll ss : Int) < 0) = false := by simp; omega
  have hS := shortS_of (ss := ss) (by omega)
  have hmv := mvTo_size ss
  obtain ⟨t, HT⟩ : ∃ t, Hid (t = saX ss z) := ⟨_, hid rfl⟩
  obtain ⟨ok, HO⟩ : ∃ ok, Hid (thB ss z = ok) := ⟨_, hid rfl⟩
  have hT : t.short := by rw [HT.out]; exact sa_short hS
  have hmt := many_short hT
  go_enter Try.func4, Try.ntmps4
  go_wp2_with fail
  refine (szSnapshotS_any _ ss _ _ (by omega) (by omega) hml hfit hA).mono ?_
  rintro e w1 ⟨rfl, hBB⟩
  rw [HU.out]
  go_wp2_with fail
  refine (toSnapshotS_any _ ss _ hS (hA.below hBB)).mono ?_
  rintro e w2 ⟨v2, rfl, O2, hB2⟩
  obtain ⟨x2, c2, rfl⟩ := O2.a.len
  replace hBB := below_one hBB hB2
  clear hB2
  go_wp2_with fail
  refine (specSnapshotAt_any _ ss z _ hS O2.r).mono ?_
  rintro e w3 ⟨v3, he, OW, hB3⟩
  rw [← HT.out] at OW
  rw [HO.out] at he
  subst he
  obtain ⟨i0, i1, i2, i3, rfl⟩ := sn_forms OW.a
  replace hBB := below_one hBB hB3
  clear hB3 O2
  have hBv : Below w3.heap.size w3 (w3.alloc (.cells #[.int .i64 t.num, .slice i0 t.pol.length i1, .slice i2 t.rv.length i3] 30)) := (Below.refl _ w3).alloc (Nat.le_refl _) _
  have FW := Three.new w3 (.int .i64 t.num) (.slice i0 t.pol.length i1) (.slice i2 t.rv.length i3) 30
  replace OW := OW.below hBv
  replace hBB := below_one hBB hBv
  clear hBv
  go_wp2_with fail
  generalize w3.alloc (.cells #[.int .i64 t.num, .slice i0 t.pol.length i1, .slice i2 t.rv.length i3] 30) = W3 at *
  generalize w3.heap.size = kw at *
  have zw := FW.lt
  have zb := hBB.size
  refine (toSnapshotS_any _ ss _ hS (hA.below hBB)).mono ?_
  rintro e w4 ⟨v4, rfl, OX, hB4⟩
  obtain ⟨x4, c4, rfl⟩ := OX.a.len
  have z4 := hB4.size
  replace OW := OW.below hB4
  replace FW := FW.below hB4
  replace hBB := below_one hBB hB4
  clear hB4
  go_wp2_with fail
  refine (implSnapshotAt_any _ ss z _ hS OX.r).mono ?_
  rintro e w5 ⟨v5, he, OG, hB5⟩
  rw [← HT.out] at OG
  rw [HO.out] at he
  subst he
  obtain ⟨g0, g1, g2, g3, rfl⟩ := sn_forms OG.a
  have z5 := hB5.size
  replace OW := OW.below hB5
  replace FW := FW.below hB5
  replace OX := OX.below hB5
  replace hBB := below_one hBB hB5
  clear hB5
  have hBv : Below w5.heap.size w5 (w5.alloc (.cells #[.int .i64 t.num, .slice g0 t.pol.length g1, .slice g2 t.rv.length g3] 30)) := (Below.refl _ w5).alloc (Nat.le_refl _) _
  have FG := Three.new w5 (.int .i64 t.num) (.slice g0 t.pol.length g1) (.slice g2 t.rv.length g3) 30
  replace OW := OW.below hBv
  replace FW := FW.below hBv
  replace OX := OX.below hBv
  replace OG := OG.below hBv
  replace hBB := below_one hBB hBv
  clear hBv
  obtain ⟨c0, c1, c2'⟩ := FW.c
  have eo : (ok != ok) = false := by simp
  go_wp2_with fail
  generalize w5.alloc (.cells #[.int .i64 t.num, .slice g0 t.pol.length g1, .slice g2 t.rv.length g3] 30) = W5 at *
  generalize w5.heap.size = kg at *
  have zg := FG.lt
  refine (eqSnapshot_same _ _ t _ hT OG.a OW.a).mono ?_
  rintro e w6 ⟨rfl, hB6⟩
  replace OW := OW.below hB6
  replace FW := FW.below hB6
  replace OX := OX.below hB6
  replace OG := OG.below hB6
  replace FG := FG.below hB6
  replace hBB := below_one hBB hB6
  clear hB6 c0 c1 c2'
  go_wp2_with fail
  refine (toSnapshotS_any _ ss _ hS (hA.below hBB)).mono ?_
  rintro e w7 ⟨v7, rfl, O7, hB7⟩
  obtain ⟨x7, c7, rfl⟩ := O7.a.len
  replace OW := OW.below hB7
  replace FW := FW.below hB7
  replace OX := OX.below hB7
  replace OG := OG.below hB7
  replace FG := FG.below hB7
  replace hBB := below_one hBB hB7
  clear hB7
  go_wp2_with fail
  refine (eqSnapshotS_same _ _ ss _ hS OX.a O7.a).mono ?_
  rintro e w8 ⟨rfl, hB8⟩
  replace OW := OW.below hB8
  replace FW := FW.below hB8
  replace OX := OX.below hB8
  replace OG := OG.below hB8
  replace FG := FG.below hB8
  replace hBB := below_one hBB hB8
  clear hB8 O7
  have hlg := FG.lt
  obtain ⟨c1, HC1⟩ : ∃ c, Hid (c = 1 + mvTo ss ss.length) := ⟨_, hid rfl⟩
  obtain ⟨c2, HC2⟩ : ∃ c, Hid (c = 1 + t.many) := ⟨_, hid rfl⟩
  go_wp2_with fail
  refine (markSnapshotS_any _ ss 1 _ _ _ hS (by omega) OX).mono ?_
  rintro e w9 ⟨rfl, _, M1⟩
  rw [← HC1.out]
  clear OX
  replace OW := M1.sno OW (by omega)
  replace FW := M1.three FW (by omega)
  replace OG := M1.sno OG (by omega)
  replace FG := M1.three FG (by omega)
  replace hBB := hBB.trans (M1.below (n := w.heap.size) (by omega) hBB.size)
  clear M1
  have dk : decide ((c1 : Int) < 0) = false := by simp
  obtain ⟨b0, b1, b2⟩ := FW.c
  obtain ⟨n0, n1, n2⟩ := FG.c
  go_wp2_with fail
  refine (eqSnapshot_same _ _ t _ hT OG.a OW.a).mono ?_
  rintro e w10 ⟨rfl, hB10⟩
  replace OW := OW.below hB10
  replace FW := FW.below hB10
  replace OG := OG.below hB10
  replace FG := FG.below hB10
  replace hBB := below_one hBB hB10
  clear hB10 b0 b1 b2 n0 n1 n2
  obtain ⟨n0, n1, n2⟩ := FG.c
  have hlg2 := FG.lt
  go_wp2_with fail
  refine (markSnapshot_any _ t 1 _ _ _ hT (by omega) (by omega) OG).mono ?_
  rintro e w11 ⟨rfl, OG', M2⟩
  rw [← HC2.out]
  clear OG
  replace OW := M2.sno OW (by omega)
  replace FW := M2.three FW (by omega)
  replace FG := M2.three FG (by omega)
  replace hBB := hBB.trans (M2.below (n := w.heap.size) (by omega) hBB.size)
  clear M2 n0 n1 n2
  obtain ⟨n0, n1, n2⟩ := FG.c
  go_wp2_with fail
  refine (heldSnapshot_any _ t 1 _ hT (by omega) OG'.a).mono ?_
  rintro e w12 ⟨rfl, hB12⟩
  rw [← HC2.out]
  replace OW := OW.below hB12
  replace FW := FW.below hB12
  replace FG := FG.below hB12
  replace OG' := OG'.below hB12
  replace hBB := below_one hBB hB12
  clear hB12 n0 n1 n2
  have dq : decide ((c2 : Int) < 0) = false := by simp
  have eq2 : ((c2 : Int) != (c2 : Int)) = false := by simp
  go_wp2_with fail
  refine (toSnapshotS_any _ ss _ hS (hA.below hBB)).mono ?_
  rintro e w13 ⟨v13, rfl, OY, hB13⟩
  obtain ⟨x13, c13, rfl⟩ := OY.a.len
  replace OW := OW.below hB13
  replace FW := FW.below hB13
  replace FG := FG.below hB13
  replace OG' := OG'.below hB13
  replace hBB := below_one hBB hB13
  clear hB13
  go_wp2_with fail
  refine (implSnapshotAt_any _ ss z _ hS OY.r).mono ?_
  rintro e w14 ⟨v14, he, OH, hB14⟩
  rw [← HT.out] at OH
  rw [HO.out] at he
  subst he
  obtain ⟨q0, q1, q2, q3, rfl⟩ := sn_forms OH.a
  replace OW := OW.below hB14
  replace FW := FW.below hB14
  replace FG := FG.below hB14
  replace OG' := OG'.below hB14
  replace hBB := below_one hBB hB14
  clear hB14 OY
  have hBv : Below w14.heap.size w14 (w14.alloc (.cells #[.int .i64 t.num, .slice q0 t.pol.length q1, .slice q2 t.rv.length q3] 30)) := (Below.refl _ w14).alloc (Nat.le_refl _) _
  have FH := Three.new w14 (.int .i64 t.num) (.slice q0 t.pol.length q1) (.slice q2 t.rv.length q3) 30
  replace OW := OW.below hBv
  replace FW := FW.below hBv
  replace FG := FG.below hBv
  replace OG' := OG'.below hBv
  replace OH := OH.below hBv
  replace hBB := below_one hBB hBv
  clear hBv
  obtain ⟨b0, b1, b2⟩ := FW.c
  go_wp2_with fail
  generalize w14.alloc (.cells #[.int .i64 t.num, .slice q0 t.pol.length q1, .slice q2 t.rv.length q3] 30) = W14 at *
  generalize w14.heap.size = kh at *
  refine (eqSnapshot_same _ _ t _ hT OH.a OW.a).mono ?_
  rintro e w15 ⟨rfl, hB15⟩
  replace FG := FG.below hB15
  replace OG' := OG'.below hB15
  replace hBB := below_one hBB hB15
  clear hB15 b0 b1 b2
  obtain ⟨n0, n1, n2⟩ := FG.c
  go_wp2_with fail
  refine (heldSnapshot_any _ t 1 _ hT (by omega) OG'.a).mono ?_
  rintro e w16 ⟨rfl, hB16⟩
  rw [← HC2.out]
  replace hBB := below_one hBB hB16
  clear hB16 n0 n1 n2
  go_wp2_with fail
  go_ret
  exact ⟨rfl, hBB⟩

set_option maxRecDepth 100000 in
theorem lifted (os : Os) (started : os.Started) (H : Type) (enc : TypeId × Value → H) :
    ReturnsInHanded {} Try.checked os 4 .any (Rows.fnExactSnapshotAtSpec.pre6 enc Try.prog Try.f4 Rows.fnExactSnapshotAtRow.domain false) (Rows.fnExactSnapshotAtSpec.post enc Try.prog Try.f4 false true false false) := by
  refine returnsInHanded_of_change (C := Try.checked) own started (by kernel_rfl) Try.func4
    (ChangeSpec.witness6 (enc := enc) (C := Try.checked) false ⟨#[], #[.slice none 0 0, .int .i64 0], []⟩ 8 (by kernel_rfl) (by kernel_rfl) (by kernel_rfl) (by kernel_rfl)) ?_
  intro W base args ds gs before hval0 hW hcnd _
  have hval : ∀ (j : Nat) t v, Try.f4.params[j]? = some t → args[j]? = some v → Value.okWide Try.prog W .any base t v := hval0
  have hW' := hW
  obtain ⟨p, q, hA0, hV, rfl, _, _⟩ := hW
  have hA : DataW.TrodAll enc Try.prog W 0 (fun _ => true) true Try.f4.params.toList args.toList ds p := hA0
  rw [Try.params4] at hA hval
  obtain ⟨v0, vs0, d0, ds0, p0, q0, hargs, rfl, rfl, h0, r0⟩ := trodAll_cons hA
  obtain ⟨v1, vs1, d1, ds1, p1, q1, rfl, rfl, rfl, h1, r1⟩ := trodAll_cons r0
  obtain ⟨rfl, rfl, rfl⟩ := trodAll_nil r1
  obtain rfl : args = #[v0, v1] := by cases args; simp_all
  obtain ⟨rfl, rfl⟩ := trodVars_none hV
  have k0 := h0
  have lt0 : ∀ x ∈ p0, x.block < W.heap.size := by obtain ⟨m, hm⟩ := k0; exact DataW.trod_lt m _ _ _ hm
  obtain ⟨a0, n0, c0, rfl⟩ := okWide_slice Try.underlying34 (hval 0 34 v0 rfl rfl)
  obtain ⟨l0, w0⟩ := openSsS h0
  have k1 := h1
  have lt1 : ∀ x ∈ p1, x.block < W.heap.size := by obtain ⟨m, hm⟩ := k1; exact DataW.trod_lt m _ _ _ hm
  obtain ⟨a1, rfl, _, _, w1⟩ := open_int Try.underlying3 (hval 1 3 v1 rfl rfl) h1
  clear hA0 hval0
  refine (walk a0 n0 c0 l0 a1 W w0 w1).mono fun e W' ⟨he, bel⟩ => ?_
  subst he
  exact ⟨_, rfl, _, _, _, [], _, [], hW', trodAll_mk1 (shut_bool Try.underlying4 _), (trodAll_cons_mk (Below.trod laidOut (by kernel_rfl) (of_decide_eq_true (by kernel_rfl)) k0 bel lt0) (trodAll_cons_mk (Below.trod laidOut (by kernel_rfl) (of_decide_eq_true (by kernel_rfl)) k1 bel lt1) trodAll_mk0)), rfl, bel.frame _, fun h => by cases h⟩

theorem over : Rows.fnExactSnapshotAtRow.holds Try.pinned (OpenSpec.ofChange Rows.fnExactSnapshotAtSpec) :=
  OpenClaim.holds_of_wide 4 Try.f4 rfl rfl rfl rfl rfl rfl rfl ⟨rfl, rfl, rfl, rfl, rfl⟩ rfl rfl rfl rfl rfl (by kernel_rfl) Try.func4 (by kernel_rfl)
    (of_decide_eq_true (by kernel_rfl)) (by unfold Func.isWrapper; first | (rw [if_pos (by decide +kernel)]; kernel_rfl) | (rw [if_neg (by decide +kernel)]; exact ⟨rfl, rfl⟩))
    (fun os started H enc _ => lifted os started H enc)

end Go.Proofs.Ytmmjiocmldnamaa.fnExactSnapshotAt
namespace Go.Proofs.Ytmmjiocmldnamaa
theorem fnExactSnapshotAt_holds : Rows.FnExactSnapshotAtSaid := fnExactSnapshotAt.over
#print axioms fnExactSnapshotAt_holds
end Go.Proofs.Ytmmjiocmldnamaa
