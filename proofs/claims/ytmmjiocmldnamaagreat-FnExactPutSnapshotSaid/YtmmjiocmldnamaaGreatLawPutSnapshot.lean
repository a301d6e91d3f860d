/-
  Proved: at every argument PutSnapshot answers as the specification, changes nothing, and its answer owns its memory.
-/
import Derived.Test.YtmmjiocmldnamaaGreatRows
import Derived.Test.YtmmjiocmldnamaaGreatPutS
import Derived.WalkKit
import Derived.ProofKit
import Derived.OpenShut
import Derived.ShutString
import Derived.ChangeOld
import Derived.Below
import Derived.Lib.SmallJoins
import Derived.Deep.Slices
namespace Go.Proofs.YtmmjiocmldnamaaGreat.fnExactPutSnapshot
open Go.ChangeShapes Go.WideShapes Go.ChangeAt Go.RowKit Go.Joins Go.Deep Go.Proofs.YtmmjiocmldnamaaGreat
open Go.ChangeMaps (open_string shut_string)

theorem own : ownKnob Tryz.prog.godebug = none := by kernel_rfl
theorem laidOut : laidOutB Tryz.prog = true := by kernel_rfl

theorem same_self (rs : List Ru) : sameS rs rs = true := sameS_refl rs
theorem put_short {ss : List Sn} {rs : List Ru} {zs : List Int} (h : shortS ss) (hf : ∀ r ∈ rs, r.size ≤ 1048576) : shortS (puX ss rs zs) := by
  unfold puX
  split
  · rename_i hb
    unfold puB at hb
    simp only [Bool.and_eq_true] at hb
    have hl := (lsB_all hb.1.1).1
    refine ⟨by rw [List.length_drop, List.length_append]; simp; omega, fun s hs => ?_⟩
    rcases List.mem_append.1 (List.mem_of_mem_drop hs) with h1 | h1
    · exact h.2 s h1
    · rw [List.mem_singleton.1 h1]
      exact nwS_short hb.1.2.1 hb.1.2.2 hf
  · exact ⟨by simp, fun s hs => by cases hs⟩
theorem put_many {ss : List Sn} {rs : List Ru} {zs : List Int} : mvTo (puX ss rs zs) (puX ss rs zs).length ≤ mvTo ss ss.length + 1000 := by
  unfold puX
  split
  · rename_i hb
    unfold puB at hb
    simp only [Bool.and_eq_true] at hb
    have h4 := snB_parts hb.2
    have h30 := (pol_all h4.2.1).2
    have h200 := fewB_len h4.2.2.2.1
    have hn : (nwS ss rs zs).many ≤ 400 := by
      unfold Sn.many
      omega
    unfold mvTo
    rw [List.take_length, List.take_length]
    have e := congrArg (fun l => (l.map (fun s : Sn => 1 + s.many)).sum) (List.take_append_drop (ss.length + 1 - 20) (ss ++ [nwS ss rs zs]))
    simp only [List.map_append, List.sum_append, List.map_cons, List.map_nil, List.sum_cons, List.sum_nil] at e
    omega
  · simp [mvTo]

set_option maxHeartbeats 16000000 in
set_option maxRecDepth 100000 in
theorem walk (a : Option Addr) (n c : Nat) (ss : List Sn) (a1 : Option Addr) (n1 c1 : Nat) (rs : List Ru) (a2 : Option Addr) (n2 c2 : Nat) (zs : List Int) (w : World) (f0 : SsA w (.slice a n c) ss ∧ ss.length = n ∧ n ≤ maxLen ∧ ∀ s ∈ ss, s.fits) (f1 : RuS w (.slice a1 n1 c1) rs ∧ rs.length = n1 ∧ n1 ≤ maxLen ∧ ∀ r ∈ rs, r.fits) (f2 : VS w (.slice a2 n2 c2) (nums zs) ∧ zs.length = n2 ∧ n2 ≤ maxLen) :
    Calls Tryz.prog 3 #[.slice a n c, .slice a1 n1 c1, .slice a2 n2 c2] w fun e w' => e = .returned (.bool true) ∧ Below w.heap.size w w' := by
  obtain ⟨hA, rfl, hml, hfit⟩ := f0
  obtain ⟨hP, rfl, hml1, hfit1⟩ := f1
  obtain ⟨hZ, rfl, hml2⟩ := f2
  by_cases hzl : zs.length ≤ 1048576
  case neg =>
    have dl : decide ((1048576 : Int) < (zs.length : Int)) = true := by simp; omega
    unfold maxLen at hml2
    go_enter Tryz.func3, Tryz.ntmps3
    go_wp2_with fail
    go_ret
    exact ⟨rfl, Below.refl _ _⟩
  have dl : decide ((1048576 : Int) < (zs.length : Int)) = false := by simp; omega
  by_cases hC : (vzAll ss : Int) ≤ 1048576
  case neg =>
    have HU := hid (show leftVS 1048576 ss = -1 from if_neg hC)
    go_enter Tryz.func3, Tryz.ntmps3
    go_wp2_with fail
    refine (szSnapshotS_any _ ss _ _ (by omega) (by omega) hml hfit hA).mono ?_
    rintro e w1 ⟨rfl, hBB⟩
    rw [HU.out]
    go_wp2_with fail
    go_ret
    exact ⟨rfl, hBB⟩
  have HU := hid (show leftVS 1048576 ss = 1048576 - vzAll ss from if_pos hC)
  have d1 : decide ((1048576 : Int) - (vzAll ss : Int) < 0) = false := by simp; omega
  by_cases hD : (szAll rs : Int) ≤ 1048576 - vzAll ss
  case neg =>
    have HV := hid (show leftS (1048576 - vzAll ss) rs = -1 from if_neg hD)
    go_enter Tryz.func3, Tryz.ntmps3
    go_wp2_with fail
    refine (szSnapshotS_any _ ss _ _ (by omega) (by omega) hml hfit hA).mono ?_
    rintro e w1 ⟨rfl, hBB⟩
    rw [HU.out]
    go_wp2_with fail
    refine (szRuleS_any _ rs _ _ (by omega) (by omega) hml1 hfit1 (hP.below hBB)).mono ?_
    rintro e w2 ⟨rfl, hB2⟩
    rw [HV.out]
    go_wp2_with fail
    go_ret
    exact ⟨rfl, below_one hBB hB2⟩
  have HV := hid (show leftS (1048576 - vzAll ss) rs = 1048576 - vzAll ss - szAll rs from if_pos hD)
  have d2 : decide ((1048576 : Int) - (vzAll ss : Int) - (szAll rs : Int) < 0) = false := by simp; omega
  have hS := shortS_of (ss := ss) (by omega)
  have hmv := mvTo_size ss
  have hrl : rs.length ≤ szAll rs := by unfold szAll; omega
  have hfz : ∀ r ∈ rs, r.size ≤ 1048576 := fun r hr => by have := sz_mem hr; unfold szAll at hD; omega
  obtain ⟨t, HT⟩ : ∃ t, Hid (t = puX ss rs zs) := ⟨_, hid rfl⟩
  obtain ⟨ok, HO⟩ : ∃ ok, Hid (puB ss rs zs = ok) := ⟨_, hid rfl⟩
  have hT : shortS t := by rw [HT.out]; exact put_short hS hfz
  have hmt : mvTo t t.length ≤ mvTo ss ss.length + 1000 := by rw [HT.out]; exact put_many
  go_enter Tryz.func3, Tryz.ntmps3
  go_wp2_with fail
  refine (szSnapshotS_any _ ss _ _ (by omega) (by omega) hml hfit hA).mono ?_
  rintro e w1 ⟨rfl, hBB⟩
  rw [HU.out]
  go_wp2_with fail
  refine (szRuleS_any _ rs _ _ (by omega) (by omega) hml1 hfit1 (hP.below hBB)).mono ?_
  rintro e w2 ⟨rfl, hB2⟩
  rw [HV.out]
  replace hBB := below_one hBB hB2
  clear hB2
  go_wp2_with fail
  refine (toSnapshotS_any _ ss _ hS (hA.below hBB)).mono ?_
  rintro e w3 ⟨v3, rfl, O2, hB3⟩
  obtain ⟨x3, c3, rfl⟩ := O2.a.len
  replace hBB := below_one hBB hB3
  clear hB3
  go_wp2_with fail
  refine (toRuleS_any _ rs _ (by omega) (hP.below hBB)).mono ?_
  rintro e w4 ⟨v4, rfl, P2, hB4⟩
  obtain ⟨x4, y4, z4, rfl⟩ := row_slice P2
  replace O2 := O2.below hB4
  replace hBB := below_one hBB hB4
  clear hB4
  go_wp2_with fail
  refine (toIntS_any _ zs _ (by omega) (hZ.below hBB)).mono ?_
  rintro e w5 ⟨v5, rfl, Z2, hB5⟩
  obtain ⟨x5, y5, z5, rfl⟩ := row_slice Z2
  replace O2 := O2.below hB5
  replace P2 := ownsRow_below P2 hB5
  replace hBB := below_one hBB hB5
  clear hB5
  go_wp2_with fail
  refine (specPut_any _ _ _ ss rs zs _ hS (by omega) hfz (by omega) O2.r (RuR.own P2) (NuR.own Z2)).mono ?_
  rintro e w6 ⟨v6, he, OW, hB6⟩
  rw [← HT.out] at OW
  rw [HO.out] at he
  subst he
  obtain ⟨x6, c6, rfl⟩ := OW.a.len
  have zb := hBB.size
  have zs6 := hB6.size
  replace hBB := below_one hBB hB6
  clear hB6 O2 P2 Z2
  go_wp2_with fail
  refine (toSnapshotS_any _ ss _ hS (hA.below hBB)).mono ?_
  rintro e w7 ⟨v7, rfl, OX, hB7⟩
  obtain ⟨x7, c7, rfl⟩ := OX.a.len
  have zs7 := hB7.size
  replace OW := OW.below hB7
  replace hBB := below_one hBB hB7
  clear hB7
  go_wp2_with fail
  refine (toRuleS_any _ rs _ (by omega) (hP.below hBB)).mono ?_
  rintro e w8 ⟨v8, rfl, PX, hB8⟩
  obtain ⟨x8, y8, z8, rfl⟩ := row_slice PX
  have hl8 : ∀ k, (Value.slice x8 y8 z8).ownBlock = some k → w7.heap.size ≤ k ∧ k < w8.heap.size := fun k e => PX.lt k e
  have zs8 := hB8.size
  replace OW := OW.below hB8
  replace OX := OX.below hB8
  replace hBB := below_one hBB hB8
  clear hB8
  go_wp2_with fail
  refine (toIntS_any _ zs _ (by omega) (hZ.below hBB)).mono ?_
  rintro e w9 ⟨v9, rfl, ZX, hB9⟩
  obtain ⟨x9, y9, z9, rfl⟩ := row_slice ZX
  have hl9 : ∀ k, (Value.slice x9 y9 z9).ownBlock = some k → w8.heap.size ≤ k ∧ k < w9.heap.size := fun k e => ZX.lt k e
  have zs9 := hB9.size
  replace OW := OW.below hB9
  replace OX := OX.below hB9
  replace hBB := below_one hBB hB9
  replace PX := ownsRow_below PX hB9
  clear hB9
  go_wp2_with fail
  refine (implPut_any _ _ _ ss rs zs _ hS (by omega) hfz (by omega) OX.r (RuR.own PX) (NuR.own ZX)).mono ?_
  rintro e w10 ⟨v10, he, OG, hB10⟩
  rw [← HT.out] at OG
  rw [HO.out] at he
  subst he
  obtain ⟨x10, c10, rfl⟩ := OG.a.len
  have zs10 := hB10.size
  replace OW := OW.below hB10
  replace OX := OX.below hB10
  replace hBB := below_one hBB hB10
  replace PX := ownsRow_below PX hB10
  replace ZX := ownsRow_below ZX hB10
  clear hB10
  have eo : (ok != ok) = false := by simp
  go_wp2_with fail
  refine (eqSnapshotS_same _ _ t _ hT OG.a OW.a).mono ?_
  rintro e w11 ⟨rfl, hB11⟩
  have zs11 := hB11.size
  replace OW := OW.below hB11
  replace OX := OX.below hB11
  replace OG := OG.below hB11
  replace hBB := below_one hBB hB11
  replace PX := ownsRow_below PX hB11
  replace ZX := ownsRow_below ZX hB11
  clear hB11
  go_wp2_with fail
  refine (toSnapshotS_any _ ss _ hS (hA.below hBB)).mono ?_
  rintro e w12 ⟨v12, rfl, O7, hB12⟩
  obtain ⟨x12, c12, rfl⟩ := O7.a.len
  replace OW := OW.below hB12
  replace OX := OX.below hB12
  replace OG := OG.below hB12
  replace hBB := below_one hBB hB12
  replace PX := ownsRow_below PX hB12
  replace ZX := ownsRow_below ZX hB12
  clear hB12
  go_wp2_with fail
  refine (eqSnapshotS_same _ _ ss _ hS OX.a O7.a).mono ?_
  rintro e w13 ⟨rfl, hB13⟩
  replace OW := OW.below hB13
  replace OX := OX.below hB13
  replace OG := OG.below hB13
  replace hBB := below_one hBB hB13
  replace PX := ownsRow_below PX hB13
  replace ZX := ownsRow_below ZX hB13
  clear hB13 O7
  go_wp2_with fail
  refine (toRuleS_any _ rs _ (by omega) (hP.below hBB)).mono ?_
  rintro e w14 ⟨v14, rfl, P7, hB14⟩
  obtain ⟨x14, y14, z14, rfl⟩ := row_slice P7
  replace OW := OW.below hB14
  replace OX := OX.below hB14
  replace OG := OG.below hB14
  replace hBB := below_one hBB hB14
  replace PX := ownsRow_below PX hB14
  replace ZX := ownsRow_below ZX hB14
  clear hB14
  go_wp2_with fail
  refine (eqRuleS_any _ _ rs rs _ (by omega) (by omega) (RuR.own PX).s (RuR.own P7).s).mono ?_
  rintro e w15 ⟨rfl, hB15⟩
  rw [same_self]
  replace OW := OW.below hB15
  replace OX := OX.below hB15
  replace OG := OG.below hB15
  replace hBB := below_one hBB hB15
  replace PX := ownsRow_below PX hB15
  replace ZX := ownsRow_below ZX hB15
  clear hB15 P7
  go_wp2_with fail
  refine (toIntS_any _ zs _ (by omega) (hZ.below hBB)).mono ?_
  rintro e w16 ⟨v16, rfl, Z7, hB16⟩
  obtain ⟨x16, y16, z16, rfl⟩ := row_slice Z7
  replace OW := OW.below hB16
  replace OX := OX.below hB16
  replace OG := OG.below hB16
  replace hBB := below_one hBB hB16
  replace PX := ownsRow_below PX hB16
  replace ZX := ownsRow_below ZX hB16
  clear hB16
  go_wp2_with fail
  refine (eqIntS_same _ _ zs _ (by omega) (NuR.own ZX).s (NuR.own Z7).s).mono ?_
  rintro e w17 ⟨rfl, hB17⟩
  replace OW := OW.below hB17
  replace OX := OX.below hB17
  replace OG := OG.below hB17
  replace hBB := below_one hBB hB17
  replace PX := ownsRow_below PX hB17
  replace ZX := ownsRow_below ZX hB17
  clear hB17 Z7
  obtain ⟨c1, HC1⟩ : ∃ c, Hid (c = 1 + mvTo ss ss.length) := ⟨_, hid rfl⟩
  obtain ⟨d1, HD1⟩ : ∃ c, Hid (c = c1 + 4 * rs.length) := ⟨_, hid rfl⟩
  obtain ⟨e1, HE1⟩ : ∃ c, Hid (c = d1 + zs.length) := ⟨_, hid rfl⟩
  obtain ⟨c2, HC2⟩ : ∃ c, Hid (c = 1 + mvTo t t.length) := ⟨_, hid rfl⟩
  have hc1 := HC1.out
  have hd1 := HD1.out
  go_wp2_with fail
  refine (markSnapshotS_any _ ss 1 _ _ _ hS (by omega) OX).mono ?_
  rintro e w18 ⟨rfl, _, M1⟩
  rw [← HC1.out]
  have zm := hBB.size
  clear OX
  replace OW := M1.sst OW (by omega)
  replace OG := M1.sso OG (by omega)
  replace hBB := hBB.trans (M1.below (n := w.heap.size) (by omega) hBB.size)
  replace PX := M1.row PX (fun k hk => by have := PX.lt k hk; omega)
  replace ZX := M1.row ZX (fun k hk => by have := ZX.lt k hk; omega)
  clear M1
  clear hc1
  go_wp2_with fail
  refine (markRuleS_to _ rs.length c1 _ _ _ (by omega) (by have := HC1.out; omega) PX).mono ?_
  rintro e w19 ⟨rfl, _, G1⟩
  rw [← HD1.out]
  have M2 : Mid w7.heap.size w8.heap.size w18 w19 := Mid.of_grown G1 (fun k e => hl8 k e)
  clear G1 PX hd1
  replace OW := M2.sst OW (by omega)
  replace OG := M2.sso OG (by omega)
  replace hBB := hBB.trans (M2.below (n := w.heap.size) (by omega) hBB.size)
  replace ZX := M2.row ZX (fun k hk => by have := ZX.lt k hk; omega)
  clear M2
  go_wp2_with fail
  refine (markIntS_to _ zs.length d1 _ _ _ (by omega) (by have := HC1.out; have := HD1.out; omega) ZX).mono ?_
  rintro e w20 ⟨rfl, _, G2⟩
  rw [← HE1.out]
  have M3 : Mid w8.heap.size w9.heap.size w19 w20 := Mid.of_grown G2 (fun k e => hl9 k e)
  clear G2 ZX
  replace OW := M3.sst OW (by omega)
  replace OG := M3.sso OG (by omega)
  replace hBB := hBB.trans (M3.below (n := w.heap.size) (by omega) hBB.size)
  clear M3
  have dk : decide ((e1 : Int) < 0) = false := by simp
  go_wp2_with fail
  refine (eqSnapshotS_same _ _ t _ hT OG.a OW.a).mono ?_
  rintro e w21 ⟨rfl, hB21⟩
  replace OW := OW.below hB21
  replace OG := OG.below hB21
  replace hBB := below_one hBB hB21
  clear hB21
  go_wp2_with fail
  refine (markSnapshotS_any _ t 1 _ _ _ hT (by omega) OG).mono ?_
  rintro e w22 ⟨rfl, OG', M4⟩
  rw [← HC2.out]
  clear OG
  replace OW := M4.sst OW (by omega)
  replace hBB := hBB.trans (M4.below (n := w.heap.size) (by omega) hBB.size)
  clear M4
  go_wp2_with fail
  refine (heldSnapshotS_any _ t 1 _ hT (by omega) OG'.a).mono ?_
  rintro e w23 ⟨rfl, hB23⟩
  rw [← HC2.out]
  replace OW := OW.below hB23
  replace OG' := OG'.below hB23
  replace hBB := below_one hBB hB23
  clear hB23
  have dq : decide ((c2 : Int) < 0) = false := by simp
  have eq2 : ((c2 : Int) != (c2 : Int)) = false := by simp
  go_wp2_with fail
  refine (toSnapshotS_any _ ss _ hS (hA.below hBB)).mono ?_
  rintro e w24 ⟨v24, rfl, OY, hB24⟩
  obtain ⟨x24, c24, rfl⟩ := OY.a.len
  replace OW := OW.below hB24
  replace OG' := OG'.below hB24
  replace hBB := below_one hBB hB24
  clear hB24
  go_wp2_with fail
  refine (toRuleS_any _ rs _ (by omega) (hP.below hBB)).mono ?_
  rintro e w25 ⟨v25, rfl, PY, hB25⟩
  obtain ⟨x25, y25, z25, rfl⟩ := row_slice PY
  replace OY := OY.below hB25
  replace OW := OW.below hB25
  replace OG' := OG'.below hB25
  replace hBB := below_one hBB hB25
  clear hB25
  go_wp2_with fail
  refine (toIntS_any _ zs _ (by omega) (hZ.below hBB)).mono ?_
  rintro e w26 ⟨v26, rfl, ZY, hB26⟩
  obtain ⟨x26, y26, z26, rfl⟩ := row_slice ZY
  replace OY := OY.below hB26
  replace PY := ownsRow_below PY hB26
  replace OW := OW.below hB26
  replace OG' := OG'.below hB26
  replace hBB := below_one hBB hB26
  clear hB26
  go_wp2_with fail
  refine (implPut_any _ _ _ ss rs zs _ hS (by omega) hfz (by omega) OY.r (RuR.own PY) (NuR.own ZY)).mono ?_
  rintro e w27 ⟨v27, he, OH, hB27⟩
  rw [← HT.out] at OH
  rw [HO.out] at he
  subst he
  obtain ⟨x27, c27, rfl⟩ := OH.a.len
  replace OW := OW.below hB27
  replace OG' := OG'.below hB27
  replace hBB := below_one hBB hB27
  clear hB27 OY PY ZY
  go_wp2_with fail
  refine (eqSnapshotS_same _ _ t _ hT OH.a OW.a).mono ?_
  rintro e w28 ⟨rfl, hB28⟩
  replace OG' := OG'.below hB28
  replace hBB := below_one hBB hB28
  clear hB28
  go_wp2_with fail
  refine (heldSnapshotS_any _ t 1 _ hT (by omega) OG'.a).mono ?_
  rintro e w29 ⟨rfl, hB29⟩
  rw [← HC2.out]
  replace hBB := below_one hBB hB29
  clear hB29
  go_wp2_with fail
  go_ret
  exact ⟨rfl, hBB⟩

set_option maxRecDepth 100000 in
theorem lifted (os : Os) (started : os.Started) (H : Type) (enc : TypeId × Value → H) :
    ReturnsInHanded {} Tryz.checked os 3 .any (Rows.fnExactPutSnapshotSpec.pre6 enc Tryz.prog Tryz.f3 Rows.fnExactPutSnapshotRow.domain false) (Rows.fnExactPutSnapshotSpec.post enc Tryz.prog Tryz.f3 false true false false) := by
  refine returnsInHanded_of_change (C := Tryz.checked) own started (by kernel_rfl) Tryz.func3
    (ChangeSpec.witness6 (enc := enc) (C := Tryz.checked) false ⟨#[], #[.slice none 0 0, .slice none 0 0, .slice none 0 0], []⟩ 8 (by kernel_rfl) (by kernel_rfl) (by kernel_rfl) (by kernel_rfl)) ?_
  intro W base args ds gs before hval0 hW hcnd _
  have hval : ∀ (j : Nat) t v, Tryz.f3.params[j]? = some t → args[j]? = some v → Value.okWide Tryz.prog W .any base t v := hval0
  have hW' := hW
  obtain ⟨p, q, hA0, hV, rfl, _, _⟩ := hW
  have hA : DataW.TrodAll enc Tryz.prog W 0 (fun _ => true) true Tryz.f3.params.toList args.toList ds p := hA0
  rw [Tryz.params3] at hA hval
  obtain ⟨v0, vs0, d0, ds0, p0, q0, hargs, rfl, rfl, h0, r0⟩ := trodAll_cons hA
  obtain ⟨v1, vs1, d1, ds1, p1, q1, rfl, rfl, rfl, h1, r1⟩ := trodAll_cons r0
  obtain ⟨v2, vs2, d2, ds2, p2, q2, rfl, rfl, rfl, h2, r2⟩ := trodAll_cons r1
  obtain ⟨rfl, rfl, rfl⟩ := trodAll_nil r2
  obtain rfl : args = #[v0, v1, v2] := by cases args; simp_all
  obtain ⟨rfl, rfl⟩ := trodVars_none hV
  have k0 := h0
  have lt0 : ∀ x ∈ p0, x.block < W.heap.size := by obtain ⟨m, hm⟩ := k0; exact DataW.trod_lt m _ _ _ hm
  obtain ⟨a0, n0, c0, rfl⟩ := okWide_slice Tryz.underlying22 (hval 0 22 v0 rfl rfl)
  obtain ⟨l0, w0⟩ := openSsS h0
  have k1 := h1
  have lt1 : ∀ x ∈ p1, x.block < W.heap.size := by obtain ⟨m, hm⟩ := k1; exact DataW.trod_lt m _ _ _ hm
  obtain ⟨a1, n1, c1, rfl⟩ := okWide_slice Tryz.underlying23 (hval 1 23 v1 rfl rfl)
  obtain ⟨l1, w1⟩ := openRuS h1
  have k2 := h2
  have lt2 : ∀ x ∈ p2, x.block < W.heap.size := by obtain ⟨m, hm⟩ := k2; exact DataW.trod_lt m _ _ _ hm
  obtain ⟨a2, n2, c2, rfl⟩ := okWide_slice Tryz.underlying24 (hval 2 24 v2 rfl rfl)
  obtain ⟨l2, w2⟩ := openInS h2
  clear hA0 hval0
  refine (walk a0 n0 c0 l0 a1 n1 c1 l1 a2 n2 c2 l2 W w0 w1 w2).mono fun e W' ⟨he, bel⟩ => ?_
  subst he
  exact ⟨_, rfl, _, _, _, [], _, [], hW', trodAll_mk1 (shut_bool Tryz.underlying4 _), (trodAll_cons_mk (Below.trod laidOut (by kernel_rfl) (of_decide_eq_true (by kernel_rfl)) k0 bel lt0) (trodAll_cons_mk (Below.trod laidOut (by kernel_rfl) (of_decide_eq_true (by kernel_rfl)) k1 bel lt1) (trodAll_cons_mk (Below.trod laidOut (by kernel_rfl) (of_decide_eq_true (by kernel_rfl)) k2 bel lt2) trodAll_mk0))), rfl, bel.frame _, fun h => by cases h⟩

theorem over : Rows.fnExactPutSnapshotRow.holds Tryz.pinned (OpenSpec.ofChange Rows.fnExactPutSnapshotSpec) :=
  OpenClaim.holds_of_wide 3 Tryz.f3 rfl rfl rfl rfl rfl rfl rfl ⟨rfl, rfl, rfl, rfl, rfl⟩ rfl rfl rfl rfl rfl (by kernel_rfl) Tryz.func3 (by kernel_rfl)
    (of_decide_eq_true (by kernel_rfl)) (by unfold Func.isWrapper; first | (rw [if_pos (by decide +kernel)]; kernel_rfl) | (rw [if_neg (by decide +kernel)]; exact ⟨rfl, rfl⟩))
    (fun os started H enc _ => lifted os started H enc)

end Go.Proofs.YtmmjiocmldnamaaGreat.fnExactPutSnapshot
namespace Go.Proofs.YtmmjiocmldnamaaGreat
theorem fnExactPutSnapshot_holds : Rows.FnExactPutSnapshotSaid := fnExactPutSnapshot.over
#print axioms fnExactPutSnapshot_holds
end Go.Proofs.YtmmjiocmldnamaaGreat
