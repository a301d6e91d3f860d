/-
  Proved: at every argument ApplyDiff answers as the specification, changes nothing, and its answer owns its memory.
-/
import Derived.Test.YthpckiobfjdckaaGreatRows
import Derived.Test.YthpckiobfjdckaaGreatJApplyDiff4
import Derived.Test.YthpckiobfjdckaaGreatJApplyDiff5
import Derived.Test.YthpckiobfjdckaaGreatJApplyDiff2
import Derived.Deep.DeepCutAuto
import Derived.WalkKit
import Derived.ProofKit
import Derived.OpenShut
import Derived.ShutString
import Derived.ChangeOld
import Derived.Below
import Derived.Lib.SmallJoins
import Derived.Deep.Slices
namespace Go.Proofs.YthpckiobfjdckaaGreat.fnExactApplyDiff
open Go.ChangeShapes Go.WideShapes Go.ChangeAt Go.RowKit Go.Joins Go.Deep Go.Proofs.YthpckiobfjdckaaGreat
open Go.ChangeMaps (open_string shut_string)

theorem own : ownKnob Tryz.prog.godebug = none := by kernel_rfl
theorem laidOut : laidOutB Tryz.prog = true := by kernel_rfl

theorem apX_short {s : Sn} {d : Df} (hs : s.short) (hd : d.short) (h2 : s.rv.length + d.rv.length ≤ 1048576) : (apX s d).short := by
  unfold apX
  split
  · rename_i h
    have hp : (rwL s d).length ≤ 60 := by
      unfold apS at h
      simp only [Bool.and_eq_true, decide_eq_true_eq] at h
      obtain ⟨⟨h1, _, _, h4, _⟩, _⟩ := h
      have := (pol_all (snB_parts h1).2.1).2
      have := woR_len s.pol d.dr
      unfold rwL
      rw [List.length_append]
      omega
    exact nd_shortS hp hs.2.2 hd.2.2.2.2 h2
  · exact ⟨by simp [Sn.none], by simp [Sn.none], fun x hx => (by simp [Sn.none] at hx)⟩
theorem apX_many {s : Sn} {d : Df} : (apX s d).many ≤ 4 * s.pol.length + 4 * d.ad.length + (s.rv.length + d.rv.length) := by
  unfold apX
  split
  · have h1 := plTo_len (rs := rwL s d) _ (Nat.le_refl _)
    have h2 := srN_len (s.rv ++ d.rv)
    have h3 := woR_len s.pol d.dr
    have e : (rwL s d).length = (woR s.pol d.dr).length + d.ad.length := by unfold rwL; rw [List.length_append]
    rw [List.length_append] at h2
    show 4 * (plTo (rwL s d) (rwL s d).length).length + (srN (s.rv ++ d.rv)).length ≤ _
    omega
  · simp [Sn.many, Sn.none]

set_option maxHeartbeats 16000000 in
set_option maxRecDepth 100000 in
theorem walk (v : Value) (s : Sn) (v' : Value) (d : Df) (w : World) (hA : SnA w v s) (hfs : s.fits) (hB : DfA w v' d) (hfr : d.fits) :
    Calls Tryz.prog 3 #[v, v'] w fun e w' => e = .returned (.bool true) ∧ Below w.heap.size w w' := by
  obtain ⟨ap, cp, ar, cr, rfl⟩ := sn_forms hA
  obtain ⟨bd0, bd1, bd2, bd3, bd4, bd5, rfl⟩ := df_forms hB
  have hBB : Below w.heap.size w ((w.alloc (.cells #[.int .i64 s.num, .slice ap s.pol.length cp, .slice ar s.rv.length cr] 25)).alloc (.cells #[.int .i64 d.fr, .int .i64 d.tt, .slice bd0 d.dr.length bd1, .slice bd2 d.ad.length bd3, .slice bd4 d.rv.length bd5] 27)) := ((Below.refl _ w).alloc (Nat.le_refl _) _).alloc (by simp) _
  have F := (Three.new w (.int .i64 s.num) (.slice ap s.pol.length cp) (.slice ar s.rv.length cr) 25).below ((Below.refl _ _).alloc (Nat.le_refl _) (.cells #[.int .i64 d.fr, .int .i64 d.tt, .slice bd0 d.dr.length bd1, .slice bd2 d.ad.length bd3, .slice bd4 d.rv.length bd5] 27))
  have FB := Five.at (w.alloc (.cells #[.int .i64 s.num, .slice ap s.pol.length cp, .slice ar s.rv.length cr] 25)) (.int .i64 d.fr) (.int .i64 d.tt) (.slice bd0 d.dr.length bd1) (.slice bd2 d.ad.length bd3) (.slice bd4 d.rv.length bd5) 27 (k := w.heap.size + 1) (by simp)
  by_cases hC : s.size ≤ 1048576
  case neg =>
    have HU := hid (show leftV 1048576 s = -1 from if_neg (by omega))
    go_enter Tryz.func3, Tryz.ntmps3
    go_wp2_with fail
    generalize (w.alloc (.cells #[.int .i64 s.num, .slice ap s.pol.length cp, .slice ar s.rv.length cr] 25)).alloc (.cells #[.int .i64 d.fr, .int .i64 d.tt, .slice bd0 d.dr.length bd1, .slice bd2 d.ad.length bd3, .slice bd4 d.rv.length bd5] 27) = W0 at *
    refine (szSnapshot_any _ s _ _ (by omega) (by omega) hfs (hA.below hBB)).mono ?_
    rintro e w1 ⟨rfl, hB1⟩
    rw [HU.out]
    replace hBB := below_one hBB hB1
    go_wp2_with fail
    go_ret
    exact ⟨rfl, hBB⟩
  have HU := hid (show leftV 1048576 s = 1048576 - s.size from if_pos (by omega))
  have d1 : decide ((1048576 : Int) - (s.size : Int) < 0) = false := by simp; omega
  by_cases hC2 : (d.size : Int) ≤ 1048576 - s.size
  case neg =>
    have HV := hid (show leftD (1048576 - s.size) d = -1 from if_neg hC2)
    go_enter Tryz.func3, Tryz.ntmps3
    go_wp2_with fail
    generalize (w.alloc (.cells #[.int .i64 s.num, .slice ap s.pol.length cp, .slice ar s.rv.length cr] 25)).alloc (.cells #[.int .i64 d.fr, .int .i64 d.tt, .slice bd0 d.dr.length bd1, .slice bd2 d.ad.length bd3, .slice bd4 d.rv.length bd5] 27) = W0 at *
    refine (szSnapshot_any _ s _ _ (by omega) (by omega) hfs (hA.below hBB)).mono ?_
    rintro e w1 ⟨rfl, hB1⟩
    rw [HU.out]
    replace FB := FB.below hB1
    replace hBB := below_one hBB hB1
    obtain ⟨b0, b1, b2, b3, b4⟩ := FB.c
    go_wp2_with fail
    refine (szDiff_any _ d _ _ (by omega) (by omega) hfr (hB.below hBB)).mono ?_
    rintro e w2 ⟨rfl, hB2⟩
    rw [HV.out]
    replace hBB := below_one hBB hB2
    go_wp2_with fail
    go_ret
    exact ⟨rfl, hBB⟩
  have HV := hid (show leftD (1048576 - s.size) d = 1048576 - s.size - d.size from if_pos hC2)
  have d2 : decide ((1048576 : Int) - (s.size : Int) - (d.size : Int) < 0) = false := by simp; omega
  have hS := Sn.short_of hC
  have hR := Df.short_of (d := d) (by omega)
  have hq1 : s.pol.length + d.ad.length ≤ 1048576 := by unfold Sn.size szAll at hC2; unfold Df.size szAll at hC2; omega
  have hq2 : s.rv.length + d.rv.length ≤ 1048576 := by unfold Sn.size szAll at hC2; unfold Df.size szAll at hC2; omega
  have hms : s.many ≤ 4 * s.size := by unfold Sn.many Sn.size szAll; omega
  have hmr : d.many ≤ 4 * d.size := by unfold Df.many Df.size szAll; omega
  obtain ⟨t, HT⟩ : ∃ t, Hid (t = apX s d) := ⟨_, hid rfl⟩
  obtain ⟨ok, HO⟩ : ∃ ok, Hid (apS s d = ok) := ⟨_, hid rfl⟩
  have HTI := hid (show t = apY s d by rw [HT.out]; unfold apX apY; rw [ap_alike])
  have HOI := hid (show apI s d = ok by rw [← ap_alike]; exact HO.out)
  have hD : t.short := by rw [HT.out]; exact apX_short hS hR hq2
  have hmd : t.many ≤ 4 * s.size + 4 * d.size := by rw [HT.out]; have := apX_many (s := s) (d := d); unfold Sn.size Df.size szAll; omega
  go_enter Tryz.func3, Tryz.ntmps3
  go_wp2_with fail
  generalize (w.alloc (.cells #[.int .i64 s.num, .slice ap s.pol.length cp, .slice ar s.rv.length cr] 25)).alloc (.cells #[.int .i64 d.fr, .int .i64 d.tt, .slice bd0 d.dr.length bd1, .slice bd2 d.ad.length bd3, .slice bd4 d.rv.length bd5] 27) = W0 at *
  refine (szSnapshot_any _ s _ _ (by omega) (by omega) hfs (hA.below hBB)).mono ?_
  rintro e w1 ⟨rfl, hB1⟩
  rw [HU.out]
  replace F := F.below hB1
  replace FB := FB.below hB1
  replace hBB := below_one hBB hB1
  clear hB1
  obtain ⟨b0, b1, b2, b3, b4⟩ := FB.c
  go_wp2_with fail
  refine (szDiff_any _ d _ _ (by omega) (by omega) hfr (hB.below hBB)).mono ?_
  rintro e w2 ⟨rfl, hB2⟩
  rw [HV.out]
  replace F := F.below hB2
  replace FB := FB.below hB2
  replace hBB := below_one hBB hB2
  clear hB2 b0 b1 b2 b3 b4
  obtain ⟨a0, a1, a2⟩ := F.c
  obtain ⟨b0, b1, b2, b3, b4⟩ := FB.c
  go_upto_region 8 with fail
  go_cut [6, 7] (fun s0 s1 wx => ∃ (kd : Nat) (i0 : Option Addr) (i1 : Nat) (i2 : Option Addr) (i3 : Nat), s0 = .pointer (some ⟨kd, 0, none⟩) ∧ s1 = .bool ok ∧ Three wx 32 kd (.int .i64 t.num) (.slice i0 t.pol.length i1) (.slice i2 t.rv.length i3) ∧ SnO wx w2.heap.size wx.heap.size (.agg #[.int .i64 t.num, .slice i0 t.pol.length i1, .slice i2 t.rv.length i3]) t ∧ Below w2.heap.size w2 wx)
  case first =>
    refine wp_region_held_drew (S := fun w' => w'.cell? ⟨w.heap.size, 0, none⟩ = some (.int .i64 s.num) ∧ w'.cell? ⟨w.heap.size, 1, none⟩ = some (.slice ap s.pol.length cp) ∧ w'.cell? ⟨w.heap.size, 2, none⟩ = some (.slice ar s.rv.length cr) ∧ w'.cell? ⟨w.heap.size + 1, 0, none⟩ = some (.int .i64 d.fr) ∧ w'.cell? ⟨w.heap.size + 1, 1, none⟩ = some (.int .i64 d.tt) ∧ w'.cell? ⟨w.heap.size + 1, 2, none⟩ = some (.slice bd0 d.dr.length bd1) ∧ w'.cell? ⟨w.heap.size + 1, 3, none⟩ = some (.slice bd2 d.ad.length bd3) ∧ w'.cell? ⟨w.heap.size + 1, 4, none⟩ = some (.slice bd4 d.rv.length bd5)) (by kernel_rfl) ?_ (fun hHeld => ?_)
    · go_keep
    refine takeW 0 (v := ?v1) rfl (by kernel_rfl) (by kernel_rfl) (by kernel_rfl) (fun _ _ _ h => h) (by rfl) (by assumption) ?hy1 ?rest1
    case hy1 => intro w' hSw; (try dsimp only at hSw); go_simp; try with_reducible rfl
    try simp only [Act.put, List.setIfInBounds_toArray, List.set_cons_zero, List.set_cons_succ]
    refine takeW 2 (v := ?v2) rfl (by kernel_rfl) (by kernel_rfl) (by kernel_rfl) (fun _ _ _ h => h) (by rfl) (by assumption) ?hy2 ?rest2
    case hy2 => intro w' hSw; (try dsimp only at hSw); go_simp; try with_reducible rfl
    try simp only [Act.put, List.setIfInBounds_toArray, List.set_cons_zero, List.set_cons_succ]
    have m0 : w.heap.size ≠ w2.heap.size := (by have := F.lt; have := Nat.le_refl w2.heap.size; omega)
    have m0' : w2.heap.size ≠ w.heap.size := (by omega)
    have m1 : w.heap.size + 1 ≠ w2.heap.size := (by have := FB.lt; have := Nat.le_refl w2.heap.size; omega)
    have m1' : w2.heap.size ≠ w.heap.size + 1 := (by omega)
    refine takeC2 1 8 (by kernel_rfl) rfl rfl (fun K hK => ?_) (fun K hK => ?_)
    · go_simp
      refine (toSnapshot_any _ s _ hS (by exact ((hA.below hBB).below (Below.refl _ _).drew))).mono ?_; rintro e wc0 ⟨vA, rfl, OA, hC0⟩; obtain ⟨i0, j0, i1, j1, rfl⟩ := sn_forms OA.a; have hk0_0 := fun o => hC0.cell (p := ⟨w.heap.size, o, none⟩) (by exact F.lt); have hk0_1 := fun o => hC0.cell (p := ⟨w.heap.size + 1, o, none⟩) (by exact FB.lt); have hD0 : Below w2.heap.size w2 wc0 := below_drew1 hC0
      refine hK.out _ _ ?_ (fun hHeld => ?_)
      · go_keep
      clear hK K
      try simp only [Act.put, List.setIfInBounds_toArray, List.set_cons_zero, List.set_cons_succ]
      clear m0 m0' m1 m1'
      have m0 : w.heap.size ≠ wc0.heap.size := (by have := F.lt; have := hD0.size; omega)
      have m0' : wc0.heap.size ≠ w.heap.size := (by omega)
      have m1 : w.heap.size + 1 ≠ wc0.heap.size := (by have := FB.lt; have := hD0.size; omega)
      have m1' : wc0.heap.size ≠ w.heap.size + 1 := (by omega)
      refine takeC2 3 8 (by kernel_rfl) rfl rfl (fun K hK => ?_) (fun K hK => ?_)
      · go_simp
        refine (toDiff_any _ d _ hR (by exact ((hB.below hBB).below hD0))).mono ?_; rintro e wc1 ⟨vB, rfl, OB, hC1⟩; obtain ⟨k0, l0, k1, l1, k2, l2, rfl⟩ := df_forms OB.a; have hk1_0 := fun o => hC1.cell (p := ⟨w.heap.size, o, none⟩) (by exact Nat.lt_of_lt_of_le F.lt hD0.size); have hk1_1 := fun o => hC1.cell (p := ⟨w.heap.size + 1, o, none⟩) (by exact Nat.lt_of_lt_of_le FB.lt hD0.size); have hD1 : Below w2.heap.size w2 wc1 := below_one hD0 hC1
        refine hK.out _ _ ?_ (fun hHeld => ?_)
        · go_keep
        clear hK K
        try simp only [Act.put, List.setIfInBounds_toArray, List.set_cons_zero, List.set_cons_succ]
        clear m0 m0' m1 m1'
        replace OA := OA.below hC1
        have m0 : w.heap.size ≠ wc1.heap.size := (by have := F.lt; have := hD1.size; omega)
        have m0' : wc1.heap.size ≠ w.heap.size := (by omega)
        have m1 : w.heap.size + 1 ≠ wc1.heap.size := (by have := FB.lt; have := hD1.size; omega)
        have m1' : wc1.heap.size ≠ w.heap.size + 1 := (by omega)
        refine takeC2 4 8 (by kernel_rfl) rfl rfl (fun K hK => ?_) (fun K hK => ?_)
        · go_simp
          refine (specApply_any _ _ s d _ hS hR OA.r OB.r).mono ?_; rintro e wc2 ⟨vW, he, OX, hC2⟩; rw [HO.out] at he; subst he; have hk2_0 := fun o => hC2.cell (p := ⟨w.heap.size, o, none⟩) (by exact Nat.lt_of_lt_of_le F.lt hD1.size); have hk2_1 := fun o => hC2.cell (p := ⟨w.heap.size + 1, o, none⟩) (by exact Nat.lt_of_lt_of_le FB.lt hD1.size); have hD2 : Below w2.heap.size w2 wc2 := below_one hD1 hC2
          refine hK.out _ _ ?_ (fun hHeld => ?_)
          · go_keep
          clear hK K
          try simp only [Act.put, List.setIfInBounds_toArray, List.set_cons_zero, List.set_cons_succ]
          clear m0 m0' m1 m1'
          replace OA := OA.below hC2
          replace OB := OB.below hC2
          rw [← HT.out] at OX
          obtain ⟨i0, i1, i2, i3, rfl⟩ := sn_forms OX.a
          have m0 : w.heap.size ≠ wc2.heap.size := (by have := F.lt; have := hD2.size; omega)
          have m0' : wc2.heap.size ≠ w.heap.size := (by omega)
          have m1 : w.heap.size + 1 ≠ wc2.heap.size := (by have := FB.lt; have := hD2.size; omega)
          have m1' : wc2.heap.size ≠ w.heap.size + 1 := (by omega)
          refine takeW 5 (v := ?v3) rfl (by kernel_rfl) (by kernel_rfl) (by kernel_rfl) (fun _ _ _ h => h) (by rfl) (by assumption) ?hy3 ?rest3
          case hy3 => intro w' hSw; (try dsimp only at hSw); go_simp; try with_reducible rfl
          try simp only [Act.put, List.setIfInBounds_toArray, List.set_cons_zero, List.set_cons_succ]
          refine takeW 6 (v := ?v4) rfl (by kernel_rfl) (by kernel_rfl) (by kernel_rfl) (fun _ _ _ h => h) (by rfl) (by assumption) ?hy4 ?rest4
          case hy4 => intro w' hSw; (try dsimp only at hSw); go_simp; try with_reducible rfl
          try simp only [Act.put, List.setIfInBounds_toArray, List.set_cons_zero, List.set_cons_succ]
          refine takeW 7 (v := ?v5) rfl (by kernel_rfl) (by kernel_rfl) (by kernel_rfl) (fun _ _ _ h => h) (by rfl) (by assumption) ?hy5 ?rest5
          case hy5 => intro w' hSw; (try dsimp only at hSw); go_simp; try with_reducible rfl
          try simp only [Act.put, List.setIfInBounds_toArray, List.set_cons_zero, List.set_cons_succ]
          refine takeC 8 (by kernel_rfl) rfl (fun K hK => ?_)
          go_simp
          skip
          refine hK.out _ _ ?_ (fun hHeld => ?_)
          · go_keep
          clear hK K
          try simp only [Act.put, List.setIfInBounds_toArray, List.set_cons_zero, List.set_cons_succ]
          refine takeC 9 (by kernel_rfl) rfl (fun K hK => ?_)
          go_simp
          skip
          refine hK.out _ _ ?_ (fun hHeld => ?_)
          · go_keep
          clear hK K
          try simp only [Act.put, List.setIfInBounds_toArray, List.set_cons_zero, List.set_cons_succ]
          refine takeW 10 (v := ?v6) rfl (by kernel_rfl) (by kernel_rfl) (by kernel_rfl) (fun _ _ _ h => h) (by rfl) (by assumption) ?hy6 ?rest6
          case hy6 => intro w' hSw; (try dsimp only at hSw); go_simp; try with_reducible rfl
          try simp only [Act.put, List.setIfInBounds_toArray, List.set_cons_zero, List.set_cons_succ]
          refine wpAnyH_done (by kernel_rfl) ?_ _
          have hBd : Below wc2.heap.size wc2 (wc2.alloc (.cells #[.int .i64 t.num, .slice i0 t.pol.length i1, .slice i2 t.rv.length i3] 32)) := (Below.refl _ wc2).alloc (Nat.le_refl _) _
          go_wp2_with fail
          go_meet
          exact ⟨wc2.heap.size, i0, i1, i2, i3, rfl, rfl, Three.new wc2 (.int .i64 t.num) (.slice i0 t.pol.length i1) (.slice i2 t.rv.length i3) 32, ((OX.below hBd)).mono (by first | exact hD9.size | exact hD1.size) (by first | (simp only [World.size_alloc]; omega) | (simp only [World.size_setCell]; omega)), (below_one hD2 hBd)⟩
        · go_simp
          skip
          refine hK.out _ _ ?_ (fun hHeld => ?_)
          · go_keep
          clear hK K
          try simp only [Act.put, List.setIfInBounds_toArray, List.set_cons_zero, List.set_cons_succ]
          have hB9 : Below wc1.heap.size wc1 (wc1.alloc (.cells #[.int .i64 0, .slice none 0 0, .slice none 0 0] 32)) := ((Below.refl _ wc1).alloc (Nat.le_refl _) _)
          have FZ : Three (wc1.alloc (.cells #[.int .i64 0, .slice none 0 0, .slice none 0 0] 32)) 32 wc1.heap.size _ _ _ := (Three.new wc1 (.int .i64 0) (.slice none 0 0) (.slice none 0 0) 32)
          have hD9 : Below w2.heap.size w2 (wc1.alloc (.cells #[.int .i64 0, .slice none 0 0, .slice none 0 0] 32)) := below_one hD1 hB9
          have hkd0 : w2.heap.size ≤ wc1.heap.size := hD1.size
          replace OA := OA.below hB9
          replace OB := OB.below hB9
          generalize wc1.alloc (.cells #[.int .i64 0, .slice none 0 0, .slice none 0 0] 32) = Wd at *
          have hkd : wc1.heap.size < Wd.heap.size := FZ.lt
          refine takeC 4 (by kernel_rfl) rfl (fun K hK => ?_)
          go_simp
          refine (specApply_any _ _ s d _ hS hR OA.r OB.r).mono ?_; rintro e wc2 ⟨vW, he, OX, hC2⟩; rw [HO.out] at he; subst he; have hk2_0 := fun o => hC2.cell (p := ⟨w.heap.size, o, none⟩) (by exact Nat.lt_of_lt_of_le F.lt hD9.size); have hk2_1 := fun o => hC2.cell (p := ⟨w.heap.size + 1, o, none⟩) (by exact Nat.lt_of_lt_of_le FB.lt hD9.size); have hD2 : Below w2.heap.size w2 wc2 := below_one hD9 hC2
          refine hK.out _ _ ?_ (fun hHeld => ?_)
          · go_keep
          clear hK K
          try simp only [Act.put, List.setIfInBounds_toArray, List.set_cons_zero, List.set_cons_succ]
          replace FZ := FZ.below hC2
          replace OA := OA.below hC2
          replace OB := OB.below hC2
          rw [← HT.out] at OX
          obtain ⟨i0, i1, i2, i3, rfl⟩ := sn_forms OX.a
          obtain ⟨e0, e1, e2⟩ := FZ.c
          have g0 := FZ.f 0
          have g1 := FZ.f 1
          have g2 := FZ.f 2
          refine takeW 5 (v := ?v7) rfl (by kernel_rfl) (by kernel_rfl) (by kernel_rfl) (fun _ _ _ h => h) (by rfl) (by assumption) ?hy7 ?rest7
          case hy7 => intro w' hSw; (try dsimp only at hSw); go_simp; try with_reducible rfl
          try simp only [Act.put, List.setIfInBounds_toArray, List.set_cons_zero, List.set_cons_succ]
          refine takeW 6 (v := ?v8) rfl (by kernel_rfl) (by kernel_rfl) (by kernel_rfl) (fun _ _ _ h => h) (by rfl) (by assumption) ?hy8 ?rest8
          case hy8 => intro w' hSw; (try dsimp only at hSw); go_simp; try with_reducible rfl
          try simp only [Act.put, List.setIfInBounds_toArray, List.set_cons_zero, List.set_cons_succ]
          refine takeW 7 (v := ?v9) rfl (by kernel_rfl) (by kernel_rfl) (by kernel_rfl) (fun _ _ _ h => h) (by rfl) (by assumption) ?hy9 ?rest9
          case hy9 => intro w' hSw; (try dsimp only at hSw); go_simp; try with_reducible rfl
          try simp only [Act.put, List.setIfInBounds_toArray, List.set_cons_zero, List.set_cons_succ]
          refine takeC 9 (by kernel_rfl) rfl (fun K hK => ?_)
          go_simp
          skip
          refine hK.out _ _ ?_ (fun hHeld => ?_)
          · go_keep
          clear hK K
          try simp only [Act.put, List.setIfInBounds_toArray, List.set_cons_zero, List.set_cons_succ]
          refine takeW 10 (v := ?v10) rfl (by kernel_rfl) (by kernel_rfl) (by kernel_rfl) (fun _ _ _ h => h) (by rfl) (by assumption) ?hy10 ?rest10
          case hy10 => intro w' hSw; (try dsimp only at hSw); go_simp; try with_reducible rfl
          try simp only [Act.put, List.setIfInBounds_toArray, List.set_cons_zero, List.set_cons_succ]
          refine wpAnyH_done (by kernel_rfl) ?_ _
          clear e0 e1 e2 g0 g1 g2
          go_wp2_with fail
          go_meet
          exact ⟨wc1.heap.size, i0, i1, i2, i3, rfl, rfl, (((FZ.s0 (.int .i64 t.num)).s1 (.slice i0 t.pol.length i1)).s2 (.slice i2 t.rv.length i3)), ((OX.three (k := wc1.heap.size) hkd (.int .i64 t.num) (.slice i0 t.pol.length i1) (.slice i2 t.rv.length i3))).mono (by first | exact hD9.size | exact hD1.size) (by first | (simp only [World.size_alloc]; omega) | (simp only [World.size_setCell]; omega)), (below_three hD2 (k := wc1.heap.size) hkd0 (.int .i64 t.num) (.slice i0 t.pol.length i1) (.slice i2 t.rv.length i3))⟩
      · go_simp
        skip
        refine hK.out _ _ ?_ (fun hHeld => ?_)
        · go_keep
        clear hK K
        try simp only [Act.put, List.setIfInBounds_toArray, List.set_cons_zero, List.set_cons_succ]
        have hB9 : Below wc0.heap.size wc0 (wc0.alloc (.cells #[.int .i64 0, .slice none 0 0, .slice none 0 0] 32)) := ((Below.refl _ wc0).alloc (Nat.le_refl _) _)
        have FZ : Three (wc0.alloc (.cells #[.int .i64 0, .slice none 0 0, .slice none 0 0] 32)) 32 wc0.heap.size _ _ _ := (Three.new wc0 (.int .i64 0) (.slice none 0 0) (.slice none 0 0) 32)
        have hD9 : Below w2.heap.size w2 (wc0.alloc (.cells #[.int .i64 0, .slice none 0 0, .slice none 0 0] 32)) := below_one hD0 hB9
        have hkd0 : w2.heap.size ≤ wc0.heap.size := hD0.size
        replace OA := OA.below hB9
        generalize wc0.alloc (.cells #[.int .i64 0, .slice none 0 0, .slice none 0 0] 32) = Wd at *
        have hkd : wc0.heap.size < Wd.heap.size := FZ.lt
        refine takeC 3 (by kernel_rfl) rfl (fun K hK => ?_)
        go_simp
        refine (toDiff_any _ d _ hR (by exact ((hB.below hBB).below hD9))).mono ?_; rintro e wc1 ⟨vB, rfl, OB, hC1⟩; obtain ⟨k0, l0, k1, l1, k2, l2, rfl⟩ := df_forms OB.a; have hk1_0 := fun o => hC1.cell (p := ⟨w.heap.size, o, none⟩) (by exact Nat.lt_of_lt_of_le F.lt hD9.size); have hk1_1 := fun o => hC1.cell (p := ⟨w.heap.size + 1, o, none⟩) (by exact Nat.lt_of_lt_of_le FB.lt hD9.size); have hD1 : Below w2.heap.size w2 wc1 := below_one hD9 hC1
        refine hK.out _ _ ?_ (fun hHeld => ?_)
        · go_keep
        clear hK K
        try simp only [Act.put, List.setIfInBounds_toArray, List.set_cons_zero, List.set_cons_succ]
        replace FZ := FZ.below hC1
        replace OA := OA.below hC1
        replace hkd : wc0.heap.size < wc1.heap.size := FZ.lt
        refine takeC 4 (by kernel_rfl) rfl (fun K hK => ?_)
        go_simp
        refine (specApply_any _ _ s d _ hS hR OA.r OB.r).mono ?_; rintro e wc2 ⟨vW, he, OX, hC2⟩; rw [HO.out] at he; subst he; have hk2_0 := fun o => hC2.cell (p := ⟨w.heap.size, o, none⟩) (by exact Nat.lt_of_lt_of_le F.lt hD1.size); have hk2_1 := fun o => hC2.cell (p := ⟨w.heap.size + 1, o, none⟩) (by exact Nat.lt_of_lt_of_le FB.lt hD1.size); have hD2 : Below w2.heap.size w2 wc2 := below_one hD1 hC2
        refine hK.out _ _ ?_ (fun hHeld => ?_)
        · go_keep
        clear hK K
        try simp only [Act.put, List.setIfInBounds_toArray, List.set_cons_zero, List.set_cons_succ]
        replace FZ := FZ.below hC2
        replace OA := OA.below hC2
        replace OB := OB.below hC2
        rw [← HT.out] at OX
        obtain ⟨i0, i1, i2, i3, rfl⟩ := sn_forms OX.a
        obtain ⟨e0, e1, e2⟩ := FZ.c
        have g0 := FZ.f 0
        have g1 := FZ.f 1
        have g2 := FZ.f 2
        refine takeW 5 (v := ?v11) rfl (by kernel_rfl) (by kernel_rfl) (by kernel_rfl) (fun _ _ _ h => h) (by rfl) (by assumption) ?hy11 ?rest11
        case hy11 => intro w' hSw; (try dsimp only at hSw); go_simp; try with_reducible rfl
        try simp only [Act.put, List.setIfInBounds_toArray, List.set_cons_zero, List.set_cons_succ]
        refine takeW 6 (v := ?v12) rfl (by kernel_rfl) (by kernel_rfl) (by kernel_rfl) (fun _ _ _ h => h) (by rfl) (by assumption) ?hy12 ?rest12
        case hy12 => intro w' hSw; (try dsimp only at hSw); go_simp; try with_reducible rfl
        try simp only [Act.put, List.setIfInBounds_toArray, List.set_cons_zero, List.set_cons_succ]
        refine takeW 7 (v := ?v13) rfl (by kernel_rfl) (by kernel_rfl) (by kernel_rfl) (fun _ _ _ h => h) (by rfl) (by assumption) ?hy13 ?rest13
        case hy13 => intro w' hSw; (try dsimp only at hSw); go_simp; try with_reducible rfl
        try simp only [Act.put, List.setIfInBounds_toArray, List.set_cons_zero, List.set_cons_succ]
        refine takeC 9 (by kernel_rfl) rfl (fun K hK => ?_)
        go_simp
        skip
        refine hK.out _ _ ?_ (fun hHeld => ?_)
        · go_keep
        clear hK K
        try simp only [Act.put, List.setIfInBounds_toArray, List.set_cons_zero, List.set_cons_succ]
        refine takeW 10 (v := ?v14) rfl (by kernel_rfl) (by kernel_rfl) (by kernel_rfl) (fun _ _ _ h => h) (by rfl) (by assumption) ?hy14 ?rest14
        case hy14 => intro w' hSw; (try dsimp only at hSw); go_simp; try with_reducible rfl
        try simp only [Act.put, List.setIfInBounds_toArray, List.set_cons_zero, List.set_cons_succ]
        refine wpAnyH_done (by kernel_rfl) ?_ _
        clear e0 e1 e2 g0 g1 g2
        go_wp2_with fail
        go_meet
        exact ⟨wc0.heap.size, i0, i1, i2, i3, rfl, rfl, (((FZ.s0 (.int .i64 t.num)).s1 (.slice i0 t.pol.length i1)).s2 (.slice i2 t.rv.length i3)), ((OX.three (k := wc0.heap.size) hkd (.int .i64 t.num) (.slice i0 t.pol.length i1) (.slice i2 t.rv.length i3))).mono (by first | exact hD9.size | exact hD1.size) (by first | (simp only [World.size_alloc]; omega) | (simp only [World.size_setCell]; omega)), (below_three hD2 (k := wc0.heap.size) hkd0 (.int .i64 t.num) (.slice i0 t.pol.length i1) (.slice i2 t.rv.length i3))⟩
    · go_simp
      skip
      refine hK.out _ _ ?_ (fun hHeld => ?_)
      · go_keep
      clear hK K
      try simp only [Act.put, List.setIfInBounds_toArray, List.set_cons_zero, List.set_cons_succ]
      have hB9 : Below w2.heap.size w2 ((w2.alloc (.cells #[.int .i64 0, .slice none 0 0, .slice none 0 0] 32)).drew) := ((Below.refl _ w2).alloc (Nat.le_refl _) _).drew
      have FZ : Three ((w2.alloc (.cells #[.int .i64 0, .slice none 0 0, .slice none 0 0] 32)).drew) 32 w2.heap.size _ _ _ := (Three.new w2 (.int .i64 0) (.slice none 0 0) (.slice none 0 0) 32).below (Below.refl _ _).drew
      have hD9 : Below w2.heap.size w2 ((w2.alloc (.cells #[.int .i64 0, .slice none 0 0, .slice none 0 0] 32)).drew) := hB9
      have hkd0 : w2.heap.size ≤ w2.heap.size := Nat.le_refl _
      generalize (w2.alloc (.cells #[.int .i64 0, .slice none 0 0, .slice none 0 0] 32)).drew = Wd at *
      have hkd : w2.heap.size < Wd.heap.size := FZ.lt
      refine takeC 1 (by kernel_rfl) rfl (fun K hK => ?_)
      go_simp
      refine (toSnapshot_any _ s _ hS (by exact ((hA.below hBB).below hD9))).mono ?_; rintro e wc0 ⟨vA, rfl, OA, hC0⟩; obtain ⟨i0, j0, i1, j1, rfl⟩ := sn_forms OA.a; have hk0_0 := fun o => hC0.cell (p := ⟨w.heap.size, o, none⟩) (by exact Nat.lt_of_lt_of_le F.lt hD9.size); have hk0_1 := fun o => hC0.cell (p := ⟨w.heap.size + 1, o, none⟩) (by exact Nat.lt_of_lt_of_le FB.lt hD9.size); have hD0 : Below w2.heap.size w2 wc0 := below_one hD9 hC0
      refine hK.out _ _ ?_ (fun hHeld => ?_)
      · go_keep
      clear hK K
      try simp only [Act.put, List.setIfInBounds_toArray, List.set_cons_zero, List.set_cons_succ]
      replace FZ := FZ.below hC0
      replace hkd : w2.heap.size < wc0.heap.size := FZ.lt
      refine takeC 3 (by kernel_rfl) rfl (fun K hK => ?_)
      go_simp
      refine (toDiff_any _ d _ hR (by exact ((hB.below hBB).below hD0))).mono ?_; rintro e wc1 ⟨vB, rfl, OB, hC1⟩; obtain ⟨k0, l0, k1, l1, k2, l2, rfl⟩ := df_forms OB.a; have hk1_0 := fun o => hC1.cell (p := ⟨w.heap.size, o, none⟩) (by exact Nat.lt_of_lt_of_le F.lt hD0.size); have hk1_1 := fun o => hC1.cell (p := ⟨w.heap.size + 1, o, none⟩) (by exact Nat.lt_of_lt_of_le FB.lt hD0.size); have hD1 : Below w2.heap.size w2 wc1 := below_one hD0 hC1
      refine hK.out _ _ ?_ (fun hHeld => ?_)
      · go_keep
      clear hK K
      try simp only [Act.put, List.setIfInBounds_toArray, List.set_cons_zero, List.set_cons_succ]
      replace FZ := FZ.below hC1
      replace OA := OA.below hC1
      replace hkd : w2.heap.size < wc1.heap.size := FZ.lt
      refine takeC 4 (by kernel_rfl) rfl (fun K hK => ?_)
      go_simp
      refine (specApply_any _ _ s d _ hS hR OA.r OB.r).mono ?_; rintro e wc2 ⟨vW, he, OX, hC2⟩; rw [HO.out] at he; subst he; have hk2_0 := fun o => hC2.cell (p := ⟨w.heap.size, o, none⟩) (by exact Nat.lt_of_lt_of_le F.lt hD1.size); have hk2_1 := fun o => hC2.cell (p := ⟨w.heap.size + 1, o, none⟩) (by exact Nat.lt_of_lt_of_le FB.lt hD1.size); have hD2 : Below w2.heap.size w2 wc2 := below_one hD1 hC2
      refine hK.out _ _ ?_ (fun hHeld => ?_)
      · go_keep
      clear hK K
      try simp only [Act.put, List.setIfInBounds_toArray, List.set_cons_zero, List.set_cons_succ]
      replace FZ := FZ.below hC2
      replace OA := OA.below hC2
      replace OB := OB.below hC2
      rw [← HT.out] at OX
      obtain ⟨i0, i1, i2, i3, rfl⟩ := sn_forms OX.a
      obtain ⟨e0, e1, e2⟩ := FZ.c
      have g0 := FZ.f 0
      have g1 := FZ.f 1
      have g2 := FZ.f 2
      refine takeW 5 (v := ?v15) rfl (by kernel_rfl) (by kernel_rfl) (by kernel_rfl) (fun _ _ _ h => h) (by rfl) (by assumption) ?hy15 ?rest15
      case hy15 => intro w' hSw; (try dsimp only at hSw); go_simp; try with_reducible rfl
      try simp only [Act.put, List.setIfInBounds_toArray, List.set_cons_zero, List.set_cons_succ]
      refine takeW 6 (v := ?v16) rfl (by kernel_rfl) (by kernel_rfl) (by kernel_rfl) (fun _ _ _ h => h) (by rfl) (by assumption) ?hy16 ?rest16
      case hy16 => intro w' hSw; (try dsimp only at hSw); go_simp; try with_reducible rfl
      try simp only [Act.put, List.setIfInBounds_toArray, List.set_cons_zero, List.set_cons_succ]
      refine takeW 7 (v := ?v17) rfl (by kernel_rfl) (by kernel_rfl) (by kernel_rfl) (fun _ _ _ h => h) (by rfl) (by assumption) ?hy17 ?rest17
      case hy17 => intro w' hSw; (try dsimp only at hSw); go_simp; try with_reducible rfl
      try simp only [Act.put, List.setIfInBounds_toArray, List.set_cons_zero, List.set_cons_succ]
      refine takeC 9 (by kernel_rfl) rfl (fun K hK => ?_)
      go_simp
      skip
      refine hK.out _ _ ?_ (fun hHeld => ?_)
      · go_keep
      clear hK K
      try simp only [Act.put, List.setIfInBounds_toArray, List.set_cons_zero, List.set_cons_succ]
      refine takeW 10 (v := ?v18) rfl (by kernel_rfl) (by kernel_rfl) (by kernel_rfl) (fun _ _ _ h => h) (by rfl) (by assumption) ?hy18 ?rest18
      case hy18 => intro w' hSw; (try dsimp only at hSw); go_simp; try with_reducible rfl
      try simp only [Act.put, List.setIfInBounds_toArray, List.set_cons_zero, List.set_cons_succ]
      refine wpAnyH_done (by kernel_rfl) ?_ _
      clear e0 e1 e2 g0 g1 g2
      go_wp2_with fail
      go_meet
      exact ⟨w2.heap.size, i0, i1, i2, i3, rfl, rfl, (((FZ.s0 (.int .i64 t.num)).s1 (.slice i0 t.pol.length i1)).s2 (.slice i2 t.rv.length i3)), ((OX.three (k := w2.heap.size) hkd (.int .i64 t.num) (.slice i0 t.pol.length i1) (.slice i2 t.rv.length i3))).mono (by first | exact hD9.size | exact hD1.size) (by first | (simp only [World.size_alloc]; omega) | (simp only [World.size_setCell]; omega)), (below_three hD2 (k := w2.heap.size) hkd0 (.int .i64 t.num) (.slice i0 t.pol.length i1) (.slice i2 t.rv.length i3))⟩
  case rest =>
    obtain ⟨kw, i0, i1, i2, i3, rfl, rfl, FW, OW, hBw⟩ := hcut
    clear a0 a1 a2 b0 b1 b2 b3 b4
    replace F := F.below hBw
    replace FB := FB.below hBw
    replace hBB := below_one hBB hBw
    have zw := FW.lt
    have z0 := F.lt
    have z1 := FB.lt
    clear hBw
    obtain ⟨a0, a1, a2⟩ := F.c
    go_wp2_with fail
    refine (toSnapshot_any _ s _ hS (hA.below hBB)).mono ?_
    rintro e w4 ⟨v4, rfl, OX, hB4⟩
    obtain ⟨x0, p0, x1, p1, rfl⟩ := sn_forms OX.a
    have z4 := hB4.size
    replace F := F.below hB4
    replace FB := FB.below hB4
    replace FW := FW.below hB4
    replace OW := OW.below hB4
    replace hBB := below_one hBB hB4
    clear hB4 a0 a1 a2
    have hBv : Below w4.heap.size w4 (w4.alloc (.cells #[.int .i64 s.num, .slice x0 s.pol.length p0, .slice x1 s.rv.length p1] 32)) := (Below.refl _ w4).alloc (Nat.le_refl _) _
    have FX := Three.new w4 (.int .i64 s.num) (.slice x0 s.pol.length p0) (.slice x1 s.rv.length p1) 32
    replace F := F.below hBv
    replace FB := FB.below hBv
    replace FW := FW.below hBv
    replace OW := OW.below hBv
    replace OX := OX.below hBv
    replace hBB := below_one hBB hBv
    clear hBv
    obtain ⟨b0, b1, b2, b3, b4⟩ := FB.c
    go_wp2_with fail
    generalize w4.alloc (.cells #[.int .i64 s.num, .slice x0 s.pol.length p0, .slice x1 s.rv.length p1] 32) = W4 at *
    generalize w4.heap.size = kx at *
    have zx := FX.lt
    refine (toDiff_any _ d _ hR (hB.below hBB)).mono ?_
    rintro e w5 ⟨v5, rfl, OY, hB5⟩
    obtain ⟨y0, y1, y2, y3, y4, y5, rfl⟩ := df_forms OY.a
    have z5 := hB5.size
    replace F := F.below hB5
    replace FB := FB.below hB5
    replace FW := FW.below hB5
    replace OW := OW.below hB5
    replace OX := OX.below hB5
    replace FX := FX.below hB5
    replace hBB := below_one hBB hB5
    clear hB5 b0 b1 b2 b3 b4
    have hBv : Below w5.heap.size w5 (w5.alloc (.cells #[.int .i64 d.fr, .int .i64 d.tt, .slice y0 d.dr.length y1, .slice y2 d.ad.length y3, .slice y4 d.rv.length y5] 37)) := (Below.refl _ w5).alloc (Nat.le_refl _) _
    have FY := Five.new w5 (.int .i64 d.fr) (.int .i64 d.tt) (.slice y0 d.dr.length y1) (.slice y2 d.ad.length y3) (.slice y4 d.rv.length y5) 37
    replace F := F.below hBv
    replace FB := FB.below hBv
    replace FW := FW.below hBv
    replace OW := OW.below hBv
    replace OX := OX.below hBv
    replace FX := FX.below hBv
    replace OY := OY.below hBv
    replace hBB := below_one hBB hBv
    clear hBv
    obtain ⟨a0, a1, a2⟩ := FX.c
    go_wp2_with fail
    generalize w5.alloc (.cells #[.int .i64 d.fr, .int .i64 d.tt, .slice y0 d.dr.length y1, .slice y2 d.ad.length y3, .slice y4 d.rv.length y5] 37) = W5 at *
    generalize w5.heap.size = ky at *
    have zy := FY.lt
    refine (implApply_any _ _ s d _ hS hR hq1 hq2 OX.r OY.r).mono ?_
    rintro e w6 ⟨v6, he, OG, hB6⟩
    rw [← HTI.out] at OG
    rw [HOI.out] at he
    subst he
    obtain ⟨g0, g1, g2, g3, rfl⟩ := sn_forms OG.a
    have z6 := hB6.size
    replace F := F.below hB6
    replace FB := FB.below hB6
    replace FW := FW.below hB6
    replace OW := OW.below hB6
    replace OX := OX.below hB6
    replace FX := FX.below hB6
    replace OY := OY.below hB6
    replace FY := FY.below hB6
    replace hBB := below_one hBB hB6
    clear hB6 a0 a1 a2
    have hBv : Below w6.heap.size w6 (w6.alloc (.cells #[.int .i64 t.num, .slice g0 t.pol.length g1, .slice g2 t.rv.length g3] 32)) := (Below.refl _ w6).alloc (Nat.le_refl _) _
    have FG := Three.new w6 (.int .i64 t.num) (.slice g0 t.pol.length g1) (.slice g2 t.rv.length g3) 32
    replace F := F.below hBv
    replace FB := FB.below hBv
    replace FW := FW.below hBv
    replace OW := OW.below hBv
    replace OX := OX.below hBv
    replace FX := FX.below hBv
    replace OY := OY.below hBv
    replace FY := FY.below hBv
    replace OG := OG.below hBv
    replace hBB := below_one hBB hBv
    clear hBv
    obtain ⟨c0, c1, c2⟩ := FW.c
    have eo : (ok != ok) = false := by simp
    go_wp2_with fail
    generalize w6.alloc (.cells #[.int .i64 t.num, .slice g0 t.pol.length g1, .slice g2 t.rv.length g3] 32) = W6 at *
    generalize w6.heap.size = kg at *
    have zg := FG.lt
    refine (eqSnapshot_same _ _ t _ hD OG.a OW.a).mono ?_
    rintro e w7 ⟨rfl, hB7⟩
    replace F := F.below hB7
    replace FB := FB.below hB7
    replace FW := FW.below hB7
    replace OW := OW.below hB7
    replace OX := OX.below hB7
    replace FX := FX.below hB7
    replace OY := OY.below hB7
    replace FY := FY.below hB7
    replace OG := OG.below hB7
    replace FG := FG.below hB7
    replace hBB := below_one hBB hB7
    clear hB7 c0 c1 c2
    obtain ⟨a0, a1, a2⟩ := F.c
    obtain ⟨b0, b1, b2⟩ := FX.c
    go_wp2_with fail
    refine wp_region_held_drew (S := fun w' => w'.cell? ⟨kx, 0, none⟩ = some (.int .i64 s.num) ∧ w'.cell? ⟨kx, 1, none⟩ = some (.slice x0 s.pol.length p0) ∧ w'.cell? ⟨kx, 2, none⟩ = some (.slice x1 s.rv.length p1) ∧ w'.cell? ⟨w.heap.size, 0, none⟩ = some (.int .i64 s.num) ∧ w'.cell? ⟨w.heap.size, 1, none⟩ = some (.slice ap s.pol.length cp) ∧ w'.cell? ⟨w.heap.size, 2, none⟩ = some (.slice ar s.rv.length cr)) (by kernel_rfl) ?_ (fun hHeld => ?_)
    · go_keep
    refine takeW 0 (v := ?v19) rfl (by kernel_rfl) (by kernel_rfl) (by kernel_rfl) (fun _ _ _ h => h) (by rfl) (by assumption) ?hy19 ?rest19
    case hy19 => intro w' hSw; (try dsimp only at hSw); go_simp; try with_reducible rfl
    try simp only [Act.put, List.setIfInBounds_toArray, List.set_cons_zero, List.set_cons_succ]
    refine takeW 1 (v := ?v20) rfl (by kernel_rfl) (by kernel_rfl) (by kernel_rfl) (fun _ _ _ h => h) (by rfl) (by assumption) ?hy20 ?rest20
    case hy20 => intro w' hSw; (try dsimp only at hSw); go_simp; try with_reducible rfl
    try simp only [Act.put, List.setIfInBounds_toArray, List.set_cons_zero, List.set_cons_succ]
    refine takeC 2 (by kernel_rfl) rfl (fun K hK => ?_)
    go_simp
    refine (toSnapshot_any _ s _ hS (by exact (hA.below hBB).below (Below.refl _ _).drew)).mono ?_; rintro e w8 ⟨v9, rfl, O9, hB9⟩; have hcx := fun o => hB9.cell (p := ⟨kx, o, none⟩) (by exact FX.lt); have hca := fun o => hB9.cell (p := ⟨w.heap.size, o, none⟩) (by exact F.lt)
    refine hK.out _ _ ?_ (fun hHeld => ?_)
    · go_keep
    clear hK K
    try simp only [Act.put, List.setIfInBounds_toArray, List.set_cons_zero, List.set_cons_succ]
    refine takeC 3 (by kernel_rfl) rfl (fun K hK => ?_)
    go_simp
    refine (eqSnapshot_same _ _ s _ hS (by exact (OX.below (below_drew1 hB9)).a) O9.a).mono ?_; rintro e w9 ⟨rfl, hB10⟩; have hcx2 := fun o => hB10.cell (p := ⟨kx, o, none⟩) (by exact Nat.lt_of_lt_of_le FX.lt (below_drew1 hB9).size); have hca2 := fun o => hB10.cell (p := ⟨w.heap.size, o, none⟩) (by exact Nat.lt_of_lt_of_le F.lt (below_drew1 hB9).size)
    refine hK.out _ _ ?_ (fun hHeld => ?_)
    · go_keep
    clear hK K
    try simp only [Act.put, List.setIfInBounds_toArray, List.set_cons_zero, List.set_cons_succ]
    refine takeW 4 (v := ?v21) rfl (by kernel_rfl) (by kernel_rfl) (by kernel_rfl) (fun _ _ _ h => h) (by rfl) (by assumption) ?hy21 ?rest21
    case hy21 => intro w' hSw; (try dsimp only at hSw); go_simp; try with_reducible rfl
    try simp only [Act.put, List.setIfInBounds_toArray, List.set_cons_zero, List.set_cons_succ]
    refine wpAnyH_done (by kernel_rfl) ?_ _
    have hBd : Below w7.heap.size w7 w9 := below_one (below_drew1 hB9) hB10
    clear hcx hca hcx2 hca2 hB9 hB10 hHeld O9 a0 a1 a2 b0 b1 b2
    replace F := F.below hBd
    replace FB := FB.below hBd
    replace FW := FW.below hBd
    replace OW := OW.below hBd
    replace OX := OX.below hBd
    replace FX := FX.below hBd
    replace OY := OY.below hBd
    replace FY := FY.below hBd
    replace OG := OG.below hBd
    replace FG := FG.below hBd
    replace hBB := below_one hBB hBd
    clear hBd
    obtain ⟨a0, a1, a2, a3, a4⟩ := FB.c
    obtain ⟨b0, b1, b2, b3, b4⟩ := FY.c
    go_wp2_with fail
    refine wp_region_held_drew (S := fun w' => w'.cell? ⟨ky, 0, none⟩ = some (.int .i64 d.fr) ∧ w'.cell? ⟨ky, 1, none⟩ = some (.int .i64 d.tt) ∧ w'.cell? ⟨ky, 2, none⟩ = some (.slice y0 d.dr.length y1) ∧ w'.cell? ⟨ky, 3, none⟩ = some (.slice y2 d.ad.length y3) ∧ w'.cell? ⟨ky, 4, none⟩ = some (.slice y4 d.rv.length y5) ∧ w'.cell? ⟨w.heap.size + 1, 0, none⟩ = some (.int .i64 d.fr) ∧ w'.cell? ⟨w.heap.size + 1, 1, none⟩ = some (.int .i64 d.tt) ∧ w'.cell? ⟨w.heap.size + 1, 2, none⟩ = some (.slice bd0 d.dr.length bd1) ∧ w'.cell? ⟨w.heap.size + 1, 3, none⟩ = some (.slice bd2 d.ad.length bd3) ∧ w'.cell? ⟨w.heap.size + 1, 4, none⟩ = some (.slice bd4 d.rv.length bd5)) (by kernel_rfl) ?_ (fun hHeld => ?_)
    · go_keep
    refine takeW 0 (v := ?v22) rfl (by kernel_rfl) (by kernel_rfl) (by kernel_rfl) (fun _ _ _ h => h) (by rfl) (by assumption) ?hy22 ?rest22
    case hy22 => intro w' hSw; (try dsimp only at hSw); go_simp; try with_reducible rfl
    try simp only [Act.put, List.setIfInBounds_toArray, List.set_cons_zero, List.set_cons_succ]
    refine takeW 1 (v := ?v23) rfl (by kernel_rfl) (by kernel_rfl) (by kernel_rfl) (fun _ _ _ h => h) (by rfl) (by assumption) ?hy23 ?rest23
    case hy23 => intro w' hSw; (try dsimp only at hSw); go_simp; try with_reducible rfl
    try simp only [Act.put, List.setIfInBounds_toArray, List.set_cons_zero, List.set_cons_succ]
    refine takeC 2 (by kernel_rfl) rfl (fun K hK => ?_)
    go_simp
    refine (toDiff_any _ d _ hR (by exact (hB.below hBB).below (Below.refl _ _).drew)).mono ?_; rintro e w10 ⟨v9, rfl, O9, hB9⟩; have hcx := fun o => hB9.cell (p := ⟨ky, o, none⟩) (by exact FY.lt); have hca := fun o => hB9.cell (p := ⟨w.heap.size + 1, o, none⟩) (by exact FB.lt)
    refine hK.out _ _ ?_ (fun hHeld => ?_)
    · go_keep
    clear hK K
    try simp only [Act.put, List.setIfInBounds_toArray, List.set_cons_zero, List.set_cons_succ]
    refine takeC 3 (by kernel_rfl) rfl (fun K hK => ?_)
    go_simp
    refine (eqDiff_same _ _ d _ hR (by exact (OY.below (below_drew1 hB9)).a) O9.a).mono ?_; rintro e w11 ⟨rfl, hB10⟩; have hcx2 := fun o => hB10.cell (p := ⟨ky, o, none⟩) (by exact Nat.lt_of_lt_of_le FY.lt (below_drew1 hB9).size); have hca2 := fun o => hB10.cell (p := ⟨w.heap.size + 1, o, none⟩) (by exact Nat.lt_of_lt_of_le FB.lt (below_drew1 hB9).size)
    refine hK.out _ _ ?_ (fun hHeld => ?_)
    · go_keep
    clear hK K
    try simp only [Act.put, List.setIfInBounds_toArray, List.set_cons_zero, List.set_cons_succ]
    refine takeW 4 (v := ?v24) rfl (by kernel_rfl) (by kernel_rfl) (by kernel_rfl) (fun _ _ _ h => h) (by rfl) (by assumption) ?hy24 ?rest24
    case hy24 => intro w' hSw; (try dsimp only at hSw); go_simp; try with_reducible rfl
    try simp only [Act.put, List.setIfInBounds_toArray, List.set_cons_zero, List.set_cons_succ]
    refine wpAnyH_done (by kernel_rfl) ?_ _
    have hBd : Below w9.heap.size w9 w11 := below_one (below_drew1 hB9) hB10
    clear hcx hca hcx2 hca2 hB9 hB10 hHeld O9 a0 a1 a2 a3 a4 b0 b1 b2 b3 b4
    replace F := F.below hBd
    replace FB := FB.below hBd
    replace FW := FW.below hBd
    replace OW := OW.below hBd
    replace OX := OX.below hBd
    replace FX := FX.below hBd
    replace OY := OY.below hBd
    replace FY := FY.below hBd
    replace OG := OG.below hBd
    replace FG := FG.below hBd
    replace hBB := below_one hBB hBd
    clear hBd
    obtain ⟨a0, a1, a2⟩ := FX.c
    go_wp2_with fail
    have hlg := FG.lt
    obtain ⟨c1, HC1⟩ : ∃ c, Hid (c = 1 + s.many) := ⟨_, hid rfl⟩
    obtain ⟨c2, HC2⟩ : ∃ c, Hid (c = c1 + d.many) := ⟨_, hid rfl⟩
    obtain ⟨c3, HC3⟩ : ∃ c, Hid (c = 1 + t.many) := ⟨_, hid rfl⟩
    refine (markSnapshot_any _ s 1 _ _ _ hS (by omega) (by omega) OX).mono ?_
    rintro e w12 ⟨rfl, _, M1⟩
    rw [← HC1.out]
    clear OX
    replace F := M1.three F (by omega)
    replace FB := M1.five FB (by omega)
    replace FW := M1.three FW (by omega)
    replace OW := M1.sno OW (by omega)
    replace FX := M1.three FX (by omega)
    replace OY := M1.dfo OY (by omega)
    replace FY := M1.five FY (by omega)
    replace OG := M1.sno OG (by omega)
    replace FG := M1.three FG (by omega)
    replace hBB := hBB.trans (M1.below (n := w.heap.size) (by omega) hBB.size)
    clear M1 a0 a1 a2
    obtain ⟨b0, b1, b2, b3, b4⟩ := FY.c
    have hlg2 := FG.lt
    go_wp2_with fail
    refine (markDiff_any _ d c1 _ _ _ hR (by have := HC1.out; omega) (by omega) OY).mono ?_
    rintro e w13 ⟨rfl, _, M2⟩
    rw [← HC2.out]
    clear OY
    replace F := M2.three F (by omega)
    replace FB := M2.five FB (by omega)
    replace FW := M2.three FW (by omega)
    replace OW := M2.sno OW (by omega)
    replace FX := M2.three FX (by omega)
    replace FY := M2.five FY (by omega)
    replace OG := M2.sno OG (by omega)
    replace FG := M2.three FG (by omega)
    replace hBB := hBB.trans (M2.below (n := w.heap.size) (by omega) hBB.size)
    clear M2 b0 b1 b2 b3 b4
    have dk : decide ((c2 : Int) < 0) = false := by simp
    obtain ⟨b0, b1, b2⟩ := FW.c
    obtain ⟨n0, n1, n2⟩ := FG.c
    go_wp2_with fail
    refine (eqSnapshot_same _ _ t _ hD OG.a OW.a).mono ?_
    rintro e w14 ⟨rfl, hB14⟩
    replace F := F.below hB14
    replace FB := FB.below hB14
    replace FW := FW.below hB14
    replace OW := OW.below hB14
    replace FX := FX.below hB14
    replace FY := FY.below hB14
    replace OG := OG.below hB14
    replace FG := FG.below hB14
    replace hBB := below_one hBB hB14
    clear hB14 b0 b1 b2 n0 n1 n2
    obtain ⟨n0, n1, n2⟩ := FG.c
    have hlg3 := FG.lt
    go_wp2_with fail
    refine (markSnapshot_any _ t 1 _ _ _ hD (by omega) (by omega) OG).mono ?_
    rintro e w15 ⟨rfl, OG', M3⟩
    rw [← HC3.out]
    clear OG
    replace F := M3.three F (by omega)
    replace FB := M3.five FB (by omega)
    replace FW := M3.three FW (by omega)
    replace OW := M3.sno OW (by omega)
    replace FX := M3.three FX (by omega)
    replace FY := M3.five FY (by omega)
    replace FG := M3.three FG (by omega)
    replace hBB := hBB.trans (M3.below (n := w.heap.size) (by omega) hBB.size)
    clear M3 n0 n1 n2
    obtain ⟨n0, n1, n2⟩ := FG.c
    go_wp2_with fail
    refine (heldSnapshot_any _ t 1 _ hD (by omega) OG'.a).mono ?_
    rintro e w16 ⟨rfl, hB16⟩
    rw [← HC3.out]
    replace F := F.below hB16
    replace FB := FB.below hB16
    replace FW := FW.below hB16
    replace OW := OW.below hB16
    replace FX := FX.below hB16
    replace FY := FY.below hB16
    replace FG := FG.below hB16
    replace OG' := OG'.below hB16
    replace hBB := below_one hBB hB16
    clear hB16 n0 n1 n2
    have dq : decide ((c3 : Int) < 0) = false := by simp
    have eq3 : ((c3 : Int) != (c3 : Int)) = false := by simp
    obtain ⟨a0, a1, a2⟩ := F.c
    obtain ⟨b0, b1, b2, b3, b4⟩ := FB.c
    go_upto_region 31 with fail
    go_cut [15, 16] (fun s0 s1 wx => ∃ (kd : Nat) (t0 : Option Addr) (t1 : Nat) (t2 : Option Addr) (t3 : Nat), s0 = .pointer (some ⟨kd, 0, none⟩) ∧ s1 = .bool ok ∧ Three wx 32 kd (.int .i64 t.num) (.slice t0 t.pol.length t1) (.slice t2 t.rv.length t3) ∧ SnO wx w16.heap.size wx.heap.size (.agg #[.int .i64 t.num, .slice t0 t.pol.length t1, .slice t2 t.rv.length t3]) t ∧ Below w16.heap.size w16 wx)
    case first =>
      refine wp_region_held_drew (S := fun w' => w'.cell? ⟨w.heap.size, 0, none⟩ = some (.int .i64 s.num) ∧ w'.cell? ⟨w.heap.size, 1, none⟩ = some (.slice ap s.pol.length cp) ∧ w'.cell? ⟨w.heap.size, 2, none⟩ = some (.slice ar s.rv.length cr) ∧ w'.cell? ⟨w.heap.size + 1, 0, none⟩ = some (.int .i64 d.fr) ∧ w'.cell? ⟨w.heap.size + 1, 1, none⟩ = some (.int .i64 d.tt) ∧ w'.cell? ⟨w.heap.size + 1, 2, none⟩ = some (.slice bd0 d.dr.length bd1) ∧ w'.cell? ⟨w.heap.size + 1, 3, none⟩ = some (.slice bd2 d.ad.length bd3) ∧ w'.cell? ⟨w.heap.size + 1, 4, none⟩ = some (.slice bd4 d.rv.length bd5)) (by kernel_rfl) ?_ (fun hHeld => ?_)
      · go_keep
      refine takeW 0 (v := ?v25) rfl (by kernel_rfl) (by kernel_rfl) (by kernel_rfl) (fun _ _ _ h => h) (by rfl) (by assumption) ?hy25 ?rest25
      case hy25 => intro w' hSw; (try dsimp only at hSw); go_simp; try with_reducible rfl
      try simp only [Act.put, List.setIfInBounds_toArray, List.set_cons_zero, List.set_cons_succ]
      refine takeW 2 (v := ?v26) rfl (by kernel_rfl) (by kernel_rfl) (by kernel_rfl) (fun _ _ _ h => h) (by rfl) (by assumption) ?hy26 ?rest26
      case hy26 => intro w' hSw; (try dsimp only at hSw); go_simp; try with_reducible rfl
      try simp only [Act.put, List.setIfInBounds_toArray, List.set_cons_zero, List.set_cons_succ]
      have m0 : w.heap.size ≠ w16.heap.size := (by have := F.lt; have := Nat.le_refl w16.heap.size; omega)
      have m0' : w16.heap.size ≠ w.heap.size := (by omega)
      have m1 : w.heap.size + 1 ≠ w16.heap.size := (by have := FB.lt; have := Nat.le_refl w16.heap.size; omega)
      have m1' : w16.heap.size ≠ w.heap.size + 1 := (by omega)
      refine takeC2 1 8 (by kernel_rfl) rfl rfl (fun K hK => ?_) (fun K hK => ?_)
      · go_simp
        refine (toSnapshot_any _ s _ hS (by exact ((hA.below hBB).below (Below.refl _ _).drew))).mono ?_; rintro e wc0 ⟨vA, rfl, OA, hC0⟩; obtain ⟨i0, j0, i1, j1, rfl⟩ := sn_forms OA.a; have hk0_0 := fun o => hC0.cell (p := ⟨w.heap.size, o, none⟩) (by exact F.lt); have hk0_1 := fun o => hC0.cell (p := ⟨w.heap.size + 1, o, none⟩) (by exact FB.lt); have hD0 : Below w16.heap.size w16 wc0 := below_drew1 hC0
        refine hK.out _ _ ?_ (fun hHeld => ?_)
        · go_keep
        clear hK K
        try simp only [Act.put, List.setIfInBounds_toArray, List.set_cons_zero, List.set_cons_succ]
        clear m0 m0' m1 m1'
        have m0 : w.heap.size ≠ wc0.heap.size := (by have := F.lt; have := hD0.size; omega)
        have m0' : wc0.heap.size ≠ w.heap.size := (by omega)
        have m1 : w.heap.size + 1 ≠ wc0.heap.size := (by have := FB.lt; have := hD0.size; omega)
        have m1' : wc0.heap.size ≠ w.heap.size + 1 := (by omega)
        refine takeC2 3 8 (by kernel_rfl) rfl rfl (fun K hK => ?_) (fun K hK => ?_)
        · go_simp
          refine (toDiff_any _ d _ hR (by exact ((hB.below hBB).below hD0))).mono ?_; rintro e wc1 ⟨vB, rfl, OB, hC1⟩; obtain ⟨k0, l0, k1, l1, k2, l2, rfl⟩ := df_forms OB.a; have hk1_0 := fun o => hC1.cell (p := ⟨w.heap.size, o, none⟩) (by exact Nat.lt_of_lt_of_le F.lt hD0.size); have hk1_1 := fun o => hC1.cell (p := ⟨w.heap.size + 1, o, none⟩) (by exact Nat.lt_of_lt_of_le FB.lt hD0.size); have hD1 : Below w16.heap.size w16 wc1 := below_one hD0 hC1
          refine hK.out _ _ ?_ (fun hHeld => ?_)
          · go_keep
          clear hK K
          try simp only [Act.put, List.setIfInBounds_toArray, List.set_cons_zero, List.set_cons_succ]
          clear m0 m0' m1 m1'
          replace OA := OA.below hC1
          have m0 : w.heap.size ≠ wc1.heap.size := (by have := F.lt; have := hD1.size; omega)
          have m0' : wc1.heap.size ≠ w.heap.size := (by omega)
          have m1 : w.heap.size + 1 ≠ wc1.heap.size := (by have := FB.lt; have := hD1.size; omega)
          have m1' : wc1.heap.size ≠ w.heap.size + 1 := (by omega)
          refine takeC2 4 8 (by kernel_rfl) rfl rfl (fun K hK => ?_) (fun K hK => ?_)
          · go_simp
            refine (implApply_any _ _ s d _ hS hR hq1 hq2 OA.r OB.r).mono ?_; rintro e wc2 ⟨vW, he, OX, hC2⟩; rw [HOI.out] at he; subst he; have hk2_0 := fun o => hC2.cell (p := ⟨w.heap.size, o, none⟩) (by exact Nat.lt_of_lt_of_le F.lt hD1.size); have hk2_1 := fun o => hC2.cell (p := ⟨w.heap.size + 1, o, none⟩) (by exact Nat.lt_of_lt_of_le FB.lt hD1.size); have hD2 : Below w16.heap.size w16 wc2 := below_one hD1 hC2
            refine hK.out _ _ ?_ (fun hHeld => ?_)
            · go_keep
            clear hK K
            try simp only [Act.put, List.setIfInBounds_toArray, List.set_cons_zero, List.set_cons_succ]
            clear m0 m0' m1 m1'
            replace OA := OA.below hC2
            replace OB := OB.below hC2
            rw [← HTI.out] at OX
            obtain ⟨t0, t1, t2, t3, rfl⟩ := sn_forms OX.a
            have m0 : w.heap.size ≠ wc2.heap.size := (by have := F.lt; have := hD2.size; omega)
            have m0' : wc2.heap.size ≠ w.heap.size := (by omega)
            have m1 : w.heap.size + 1 ≠ wc2.heap.size := (by have := FB.lt; have := hD2.size; omega)
            have m1' : wc2.heap.size ≠ w.heap.size + 1 := (by omega)
            refine takeW 5 (v := ?v27) rfl (by kernel_rfl) (by kernel_rfl) (by kernel_rfl) (fun _ _ _ h => h) (by rfl) (by assumption) ?hy27 ?rest27
            case hy27 => intro w' hSw; (try dsimp only at hSw); go_simp; try with_reducible rfl
            try simp only [Act.put, List.setIfInBounds_toArray, List.set_cons_zero, List.set_cons_succ]
            refine takeW 6 (v := ?v28) rfl (by kernel_rfl) (by kernel_rfl) (by kernel_rfl) (fun _ _ _ h => h) (by rfl) (by assumption) ?hy28 ?rest28
            case hy28 => intro w' hSw; (try dsimp only at hSw); go_simp; try with_reducible rfl
            try simp only [Act.put, List.setIfInBounds_toArray, List.set_cons_zero, List.set_cons_succ]
            refine takeW 7 (v := ?v29) rfl (by kernel_rfl) (by kernel_rfl) (by kernel_rfl) (fun _ _ _ h => h) (by rfl) (by assumption) ?hy29 ?rest29
            case hy29 => intro w' hSw; (try dsimp only at hSw); go_simp; try with_reducible rfl
            try simp only [Act.put, List.setIfInBounds_toArray, List.set_cons_zero, List.set_cons_succ]
            refine takeC 8 (by kernel_rfl) rfl (fun K hK => ?_)
            go_simp
            skip
            refine hK.out _ _ ?_ (fun hHeld => ?_)
            · go_keep
            clear hK K
            try simp only [Act.put, List.setIfInBounds_toArray, List.set_cons_zero, List.set_cons_succ]
            refine takeC 9 (by kernel_rfl) rfl (fun K hK => ?_)
            go_simp
            skip
            refine hK.out _ _ ?_ (fun hHeld => ?_)
            · go_keep
            clear hK K
            try simp only [Act.put, List.setIfInBounds_toArray, List.set_cons_zero, List.set_cons_succ]
            refine takeW 10 (v := ?v30) rfl (by kernel_rfl) (by kernel_rfl) (by kernel_rfl) (fun _ _ _ h => h) (by rfl) (by assumption) ?hy30 ?rest30
            case hy30 => intro w' hSw; (try dsimp only at hSw); go_simp; try with_reducible rfl
            try simp only [Act.put, List.setIfInBounds_toArray, List.set_cons_zero, List.set_cons_succ]
            refine wpAnyH_done (by kernel_rfl) ?_ _
            have hBd : Below wc2.heap.size wc2 (wc2.alloc (.cells #[.int .i64 t.num, .slice t0 t.pol.length t1, .slice t2 t.rv.length t3] 32)) := (Below.refl _ wc2).alloc (Nat.le_refl _) _
            go_wp2_with fail
            go_meet
            exact ⟨wc2.heap.size, t0, t1, t2, t3, rfl, rfl, Three.new wc2 (.int .i64 t.num) (.slice t0 t.pol.length t1) (.slice t2 t.rv.length t3) 32, ((OX.below hBd)).mono (by first | exact hD9.size | exact hD1.size) (by first | (simp only [World.size_alloc]; omega) | (simp only [World.size_setCell]; omega)), (below_one hD2 hBd)⟩
          · go_simp
            skip
            refine hK.out _ _ ?_ (fun hHeld => ?_)
            · go_keep
            clear hK K
            try simp only [Act.put, List.setIfInBounds_toArray, List.set_cons_zero, List.set_cons_succ]
            have hB9 : Below wc1.heap.size wc1 (wc1.alloc (.cells #[.int .i64 0, .slice none 0 0, .slice none 0 0] 32)) := ((Below.refl _ wc1).alloc (Nat.le_refl _) _)
            have FZ : Three (wc1.alloc (.cells #[.int .i64 0, .slice none 0 0, .slice none 0 0] 32)) 32 wc1.heap.size _ _ _ := (Three.new wc1 (.int .i64 0) (.slice none 0 0) (.slice none 0 0) 32)
            have hD9 : Below w16.heap.size w16 (wc1.alloc (.cells #[.int .i64 0, .slice none 0 0, .slice none 0 0] 32)) := below_one hD1 hB9
            have hkd0 : w16.heap.size ≤ wc1.heap.size := hD1.size
            replace OA := OA.below hB9
            replace OB := OB.below hB9
            generalize wc1.alloc (.cells #[.int .i64 0, .slice none 0 0, .slice none 0 0] 32) = Wd at *
            have hkd : wc1.heap.size < Wd.heap.size := FZ.lt
            refine takeC 4 (by kernel_rfl) rfl (fun K hK => ?_)
            go_simp
            refine (implApply_any _ _ s d _ hS hR hq1 hq2 OA.r OB.r).mono ?_; rintro e wc2 ⟨vW, he, OX, hC2⟩; rw [HOI.out] at he; subst he; have hk2_0 := fun o => hC2.cell (p := ⟨w.heap.size, o, none⟩) (by exact Nat.lt_of_lt_of_le F.lt hD9.size); have hk2_1 := fun o => hC2.cell (p := ⟨w.heap.size + 1, o, none⟩) (by exact Nat.lt_of_lt_of_le FB.lt hD9.size); have hD2 : Below w16.heap.size w16 wc2 := below_one hD9 hC2
            refine hK.out _ _ ?_ (fun hHeld => ?_)
            · go_keep
            clear hK K
            try simp only [Act.put, List.setIfInBounds_toArray, List.set_cons_zero, List.set_cons_succ]
            replace FZ := FZ.below hC2
            replace OA := OA.below hC2
            replace OB := OB.below hC2
            rw [← HTI.out] at OX
            obtain ⟨t0, t1, t2, t3, rfl⟩ := sn_forms OX.a
            obtain ⟨e0, e1, e2⟩ := FZ.c
            have g0 := FZ.f 0
            have g1 := FZ.f 1
            have g2 := FZ.f 2
            refine takeW 5 (v := ?v31) rfl (by kernel_rfl) (by kernel_rfl) (by kernel_rfl) (fun _ _ _ h => h) (by rfl) (by assumption) ?hy31 ?rest31
            case hy31 => intro w' hSw; (try dsimp only at hSw); go_simp; try with_reducible rfl
            try simp only [Act.put, List.setIfInBounds_toArray, List.set_cons_zero, List.set_cons_succ]
            refine takeW 6 (v := ?v32) rfl (by kernel_rfl) (by kernel_rfl) (by kernel_rfl) (fun _ _ _ h => h) (by rfl) (by assumption) ?hy32 ?rest32
            case hy32 => intro w' hSw; (try dsimp only at hSw); go_simp; try with_reducible rfl
            try simp only [Act.put, List.setIfInBounds_toArray, List.set_cons_zero, List.set_cons_succ]
            refine takeW 7 (v := ?v33) rfl (by kernel_rfl) (by kernel_rfl) (by kernel_rfl) (fun _ _ _ h => h) (by rfl) (by assumption) ?hy33 ?rest33
            case hy33 => intro w' hSw; (try dsimp only at hSw); go_simp; try with_reducible rfl
            try simp only [Act.put, List.setIfInBounds_toArray, List.set_cons_zero, List.set_cons_succ]
            refine takeC 9 (by kernel_rfl) rfl (fun K hK => ?_)
            go_simp
            skip
            refine hK.out _ _ ?_ (fun hHeld => ?_)
            · go_keep
            clear hK K
            try simp only [Act.put, List.setIfInBounds_toArray, List.set_cons_zero, List.set_cons_succ]
            refine takeW 10 (v := ?v34) rfl (by kernel_rfl) (by kernel_rfl) (by kernel_rfl) (fun _ _ _ h => h) (by rfl) (by assumption) ?hy34 ?rest34
            case hy34 => intro w' hSw; (try dsimp only at hSw); go_simp; try with_reducible rfl
            try simp only [Act.put, List.setIfInBounds_toArray, List.set_cons_zero, List.set_cons_succ]
            refine wpAnyH_done (by kernel_rfl) ?_ _
            clear e0 e1 e2 g0 g1 g2
            go_wp2_with fail
            go_meet
            exact ⟨wc1.heap.size, t0, t1, t2, t3, rfl, rfl, (((FZ.s0 (.int .i64 t.num)).s1 (.slice t0 t.pol.length t1)).s2 (.slice t2 t.rv.length t3)), ((OX.three (k := wc1.heap.size) hkd (.int .i64 t.num) (.slice t0 t.pol.length t1) (.slice t2 t.rv.length t3))).mono (by first | exact hD9.size | exact hD1.size) (by first | (simp only [World.size_alloc]; omega) | (simp only [World.size_setCell]; omega)), (below_three hD2 (k := wc1.heap.size) hkd0 (.int .i64 t.num) (.slice t0 t.pol.length t1) (.slice t2 t.rv.length t3))⟩
        · go_simp
          skip
          refine hK.out _ _ ?_ (fun hHeld => ?_)
          · go_keep
          clear hK K
          try simp only [Act.put, List.setIfInBounds_toArray, List.set_cons_zero, List.set_cons_succ]
          have hB9 : Below wc0.heap.size wc0 (wc0.alloc (.cells #[.int .i64 0, .slice none 0 0, .slice none 0 0] 32)) := ((Below.refl _ wc0).alloc (Nat.le_refl _) _)
          have FZ : Three (wc0.alloc (.cells #[.int .i64 0, .slice none 0 0, .slice none 0 0] 32)) 32 wc0.heap.size _ _ _ := (Three.new wc0 (.int .i64 0) (.slice none 0 0) (.slice none 0 0) 32)
          have hD9 : Below w16.heap.size w16 (wc0.alloc (.cells #[.int .i64 0, .slice none 0 0, .slice none 0 0] 32)) := below_one hD0 hB9
          have hkd0 : w16.heap.size ≤ wc0.heap.size := hD0.size
          replace OA := OA.below hB9
          generalize wc0.alloc (.cells #[.int .i64 0, .slice none 0 0, .slice none 0 0] 32) = Wd at *
          have hkd : wc0.heap.size < Wd.heap.size := FZ.lt
          refine takeC 3 (by kernel_rfl) rfl (fun K hK => ?_)
          go_simp
          refine (toDiff_any _ d _ hR (by exact ((hB.below hBB).below hD9))).mono ?_; rintro e wc1 ⟨vB, rfl, OB, hC1⟩; obtain ⟨k0, l0, k1, l1, k2, l2, rfl⟩ := df_forms OB.a; have hk1_0 := fun o => hC1.cell (p := ⟨w.heap.size, o, none⟩) (by exact Nat.lt_of_lt_of_le F.lt hD9.size); have hk1_1 := fun o => hC1.cell (p := ⟨w.heap.size + 1, o, none⟩) (by exact Nat.lt_of_lt_of_le FB.lt hD9.size); have hD1 : Below w16.heap.size w16 wc1 := below_one hD9 hC1
          refine hK.out _ _ ?_ (fun hHeld => ?_)
          · go_keep
          clear hK K
          try simp only [Act.put, List.setIfInBounds_toArray, List.set_cons_zero, List.set_cons_succ]
          replace FZ := FZ.below hC1
          replace OA := OA.below hC1
          replace hkd : wc0.heap.size < wc1.heap.size := FZ.lt
          refine takeC 4 (by kernel_rfl) rfl (fun K hK => ?_)
          go_simp
          refine (implApply_any _ _ s d _ hS hR hq1 hq2 OA.r OB.r).mono ?_; rintro e wc2 ⟨vW, he, OX, hC2⟩; rw [HOI.out] at he; subst he; have hk2_0 := fun o => hC2.cell (p := ⟨w.heap.size, o, none⟩) (by exact Nat.lt_of_lt_of_le F.lt hD1.size); have hk2_1 := fun o => hC2.cell (p := ⟨w.heap.size + 1, o, none⟩) (by exact Nat.lt_of_lt_of_le FB.lt hD1.size); have hD2 : Below w16.heap.size w16 wc2 := below_one hD1 hC2
          refine hK.out _ _ ?_ (fun hHeld => ?_)
          · go_keep
          clear hK K
          try simp only [Act.put, List.setIfInBounds_toArray, List.set_cons_zero, List.set_cons_succ]
          replace FZ := FZ.below hC2
          replace OA := OA.below hC2
          replace OB := OB.below hC2
          rw [← HTI.out] at OX
          obtain ⟨t0, t1, t2, t3, rfl⟩ := sn_forms OX.a
          obtain ⟨e0, e1, e2⟩ := FZ.c
          have g0 := FZ.f 0
          have g1 := FZ.f 1
          have g2 := FZ.f 2
          refine takeW 5 (v := ?v35) rfl (by kernel_rfl) (by kernel_rfl) (by kernel_rfl) (fun _ _ _ h => h) (by rfl) (by assumption) ?hy35 ?rest35
          case hy35 => intro w' hSw; (try dsimp only at hSw); go_simp; try with_reducible rfl
          try simp only [Act.put, List.setIfInBounds_toArray, List.set_cons_zero, List.set_cons_succ]
          refine takeW 6 (v := ?v36) rfl (by kernel_rfl) (by kernel_rfl) (by kernel_rfl) (fun _ _ _ h => h) (by rfl) (by assumption) ?hy36 ?rest36
          case hy36 => intro w' hSw; (try dsimp only at hSw); go_simp; try with_reducible rfl
          try simp only [Act.put, List.setIfInBounds_toArray, List.set_cons_zero, List.set_cons_succ]
          refine takeW 7 (v := ?v37) rfl (by kernel_rfl) (by kernel_rfl) (by kernel_rfl) (fun _ _ _ h => h) (by rfl) (by assumption) ?hy37 ?rest37
          case hy37 => intro w' hSw; (try dsimp only at hSw); go_simp; try with_reducible rfl
          try simp only [Act.put, List.setIfInBounds_toArray, List.set_cons_zero, List.set_cons_succ]
          refine takeC 9 (by kernel_rfl) rfl (fun K hK => ?_)
          go_simp
          skip
          refine hK.out _ _ ?_ (fun hHeld => ?_)
          · go_keep
          clear hK K
          try simp only [Act.put, List.setIfInBounds_toArray, List.set_cons_zero, List.set_cons_succ]
          refine takeW 10 (v := ?v38) rfl (by kernel_rfl) (by kernel_rfl) (by kernel_rfl) (fun _ _ _ h => h) (by rfl) (by assumption) ?hy38 ?rest38
          case hy38 => intro w' hSw; (try dsimp only at hSw); go_simp; try with_reducible rfl
          try simp only [Act.put, List.setIfInBounds_toArray, List.set_cons_zero, List.set_cons_succ]
          refine wpAnyH_done (by kernel_rfl) ?_ _
          clear e0 e1 e2 g0 g1 g2
          go_wp2_with fail
          go_meet
          exact ⟨wc0.heap.size, t0, t1, t2, t3, rfl, rfl, (((FZ.s0 (.int .i64 t.num)).s1 (.slice t0 t.pol.length t1)).s2 (.slice t2 t.rv.length t3)), ((OX.three (k := wc0.heap.size) hkd (.int .i64 t.num) (.slice t0 t.pol.length t1) (.slice t2 t.rv.length t3))).mono (by first | exact hD9.size | exact hD1.size) (by first | (simp only [World.size_alloc]; omega) | (simp only [World.size_setCell]; omega)), (below_three hD2 (k := wc0.heap.size) hkd0 (.int .i64 t.num) (.slice t0 t.pol.length t1) (.slice t2 t.rv.length t3))⟩
      · go_simp
        skip
        refine hK.out _ _ ?_ (fun hHeld => ?_)
        · go_keep
        clear hK K
        try simp only [Act.put, List.setIfInBounds_toArray, List.set_cons_zero, List.set_cons_succ]
        have hB9 : Below w16.heap.size w16 ((w16.alloc (.cells #[.int .i64 0, .slice none 0 0, .slice none 0 0] 32)).drew) := ((Below.refl _ w16).alloc (Nat.le_refl _) _).drew
        have FZ : Three ((w16.alloc (.cells #[.int .i64 0, .slice none 0 0, .slice none 0 0] 32)).drew) 32 w16.heap.size _ _ _ := (Three.new w16 (.int .i64 0) (.slice none 0 0) (.slice none 0 0) 32).below (Below.refl _ _).drew
        have hD9 : Below w16.heap.size w16 ((w16.alloc (.cells #[.int .i64 0, .slice none 0 0, .slice none 0 0] 32)).drew) := hB9
        have hkd0 : w16.heap.size ≤ w16.heap.size := Nat.le_refl _
        generalize (w16.alloc (.cells #[.int .i64 0, .slice none 0 0, .slice none 0 0] 32)).drew = Wd at *
        have hkd : w16.heap.size < Wd.heap.size := FZ.lt
        refine takeC 1 (by kernel_rfl) rfl (fun K hK => ?_)
        go_simp
        refine (toSnapshot_any _ s _ hS (by exact ((hA.below hBB).below hD9))).mono ?_; rintro e wc0 ⟨vA, rfl, OA, hC0⟩; obtain ⟨i0, j0, i1, j1, rfl⟩ := sn_forms OA.a; have hk0_0 := fun o => hC0.cell (p := ⟨w.heap.size, o, none⟩) (by exact Nat.lt_of_lt_of_le F.lt hD9.size); have hk0_1 := fun o => hC0.cell (p := ⟨w.heap.size + 1, o, none⟩) (by exact Nat.lt_of_lt_of_le FB.lt hD9.size); have hD0 : Below w16.heap.size w16 wc0 := below_one hD9 hC0
        refine hK.out _ _ ?_ (fun hHeld => ?_)
        · go_keep
        clear hK K
        try simp only [Act.put, List.setIfInBounds_toArray, List.set_cons_zero, List.set_cons_succ]
        replace FZ := FZ.below hC0
        replace hkd : w16.heap.size < wc0.heap.size := FZ.lt
        refine takeC 3 (by kernel_rfl) rfl (fun K hK => ?_)
        go_simp
        refine (toDiff_any _ d _ hR (by exact ((hB.below hBB).below hD0))).mono ?_; rintro e wc1 ⟨vB, rfl, OB, hC1⟩; obtain ⟨k0, l0, k1, l1, k2, l2, rfl⟩ := df_forms OB.a; have hk1_0 := fun o => hC1.cell (p := ⟨w.heap.size, o, none⟩) (by exact Nat.lt_of_lt_of_le F.lt hD0.size); have hk1_1 := fun o => hC1.cell (p := ⟨w.heap.size + 1, o, none⟩) (by exact Nat.lt_of_lt_of_le FB.lt hD0.size); have hD1 : Below w16.heap.size w16 wc1 := below_one hD0 hC1
        refine hK.out _ _ ?_ (fun hHeld => ?_)
        · go_keep
        clear hK K
        try simp only [Act.put, List.setIfInBounds_toArray, List.set_cons_zero, List.set_cons_succ]
        replace FZ := FZ.below hC1
        replace OA := OA.below hC1
        replace hkd : w16.heap.size < wc1.heap.size := FZ.lt
        refine takeC 4 (by kernel_rfl) rfl (fun K hK => ?_)
        go_simp
        refine (implApply_any _ _ s d _ hS hR hq1 hq2 OA.r OB.r).mono ?_; rintro e wc2 ⟨vW, he, OX, hC2⟩; rw [HOI.out] at he; subst he; have hk2_0 := fun o => hC2.cell (p := ⟨w.heap.size, o, none⟩) (by exact Nat.lt_of_lt_of_le F.lt hD1.size); have hk2_1 := fun o => hC2.cell (p := ⟨w.heap.size + 1, o, none⟩) (by exact Nat.lt_of_lt_of_le FB.lt hD1.size); have hD2 : Below w16.heap.size w16 wc2 := below_one hD1 hC2
        refine hK.out _ _ ?_ (fun hHeld => ?_)
        · go_keep
        clear hK K
        try simp only [Act.put, List.setIfInBounds_toArray, List.set_cons_zero, List.set_cons_succ]
        replace FZ := FZ.below hC2
        replace OA := OA.below hC2
        replace OB := OB.below hC2
        rw [← HTI.out] at OX
        obtain ⟨t0, t1, t2, t3, rfl⟩ := sn_forms OX.a
        obtain ⟨e0, e1, e2⟩ := FZ.c
        have g0 := FZ.f 0
        have g1 := FZ.f 1
        have g2 := FZ.f 2
        refine takeW 5 (v := ?v39) rfl (by kernel_rfl) (by kernel_rfl) (by kernel_rfl) (fun _ _ _ h => h) (by rfl) (by assumption) ?hy39 ?rest39
        case hy39 => intro w' hSw; (try dsimp only at hSw); go_simp; try with_reducible rfl
        try simp only [Act.put, List.setIfInBounds_toArray, List.set_cons_zero, List.set_cons_succ]
        refine takeW 6 (v := ?v40) rfl (by kernel_rfl) (by kernel_rfl) (by kernel_rfl) (fun _ _ _ h => h) (by rfl) (by assumption) ?hy40 ?rest40
        case hy40 => intro w' hSw; (try dsimp only at hSw); go_simp; try with_reducible rfl
        try simp only [Act.put, List.setIfInBounds_toArray, List.set_cons_zero, List.set_cons_succ]
        refine takeW 7 (v := ?v41) rfl (by kernel_rfl) (by kernel_rfl) (by kernel_rfl) (fun _ _ _ h => h) (by rfl) (by assumption) ?hy41 ?rest41
        case hy41 => intro w' hSw; (try dsimp only at hSw); go_simp; try with_reducible rfl
        try simp only [Act.put, List.setIfInBounds_toArray, List.set_cons_zero, List.set_cons_succ]
        refine takeC 9 (by kernel_rfl) rfl (fun K hK => ?_)
        go_simp
        skip
        refine hK.out _ _ ?_ (fun hHeld => ?_)
        · go_keep
        clear hK K
        try simp only [Act.put, List.setIfInBounds_toArray, List.set_cons_zero, List.set_cons_succ]
        refine takeW 10 (v := ?v42) rfl (by kernel_rfl) (by kernel_rfl) (by kernel_rfl) (fun _ _ _ h => h) (by rfl) (by assumption) ?hy42 ?rest42
        case hy42 => intro w' hSw; (try dsimp only at hSw); go_simp; try with_reducible rfl
        try simp only [Act.put, List.setIfInBounds_toArray, List.set_cons_zero, List.set_cons_succ]
        refine wpAnyH_done (by kernel_rfl) ?_ _
        clear e0 e1 e2 g0 g1 g2
        go_wp2_with fail
        go_meet
        exact ⟨w16.heap.size, t0, t1, t2, t3, rfl, rfl, (((FZ.s0 (.int .i64 t.num)).s1 (.slice t0 t.pol.length t1)).s2 (.slice t2 t.rv.length t3)), ((OX.three (k := w16.heap.size) hkd (.int .i64 t.num) (.slice t0 t.pol.length t1) (.slice t2 t.rv.length t3))).mono (by first | exact hD9.size | exact hD1.size) (by first | (simp only [World.size_alloc]; omega) | (simp only [World.size_setCell]; omega)), (below_three hD2 (k := w16.heap.size) hkd0 (.int .i64 t.num) (.slice t0 t.pol.length t1) (.slice t2 t.rv.length t3))⟩
    case rest =>
      obtain ⟨kh, t0, t1, t2, t3, rfl, rfl, FH, OH, hBw⟩ := hcut
      clear a0 a1 a2 b0 b1 b2 b3 b4
      replace F := F.below hBw
      replace FB := FB.below hBw
      replace FW := FW.below hBw
      replace OW := OW.below hBw
      replace FX := FX.below hBw
      replace FY := FY.below hBw
      replace FG := FG.below hBw
      replace OG' := OG'.below hBw
      replace hBB := below_one hBB hBw
      clear hBw
      obtain ⟨b0, b1, b2⟩ := FW.c
      obtain ⟨n0, n1, n2⟩ := FH.c
      go_wp2_with fail
      refine (eqSnapshot_same _ _ t _ hD OH.a OW.a).mono ?_
      rintro e w18 ⟨rfl, hB18⟩
      replace FG := FG.below hB18
      replace OG' := OG'.below hB18
      replace hBB := below_one hBB hB18
      clear hB18 b0 b1 b2 n0 n1 n2
      obtain ⟨n0, n1, n2⟩ := FG.c
      go_wp2_with fail
      refine (heldSnapshot_any _ t 1 _ hD (by omega) OG'.a).mono ?_
      rintro e w19 ⟨rfl, hB19⟩
      rw [← HC3.out]
      replace hBB := below_one hBB hB19
      clear hB19 n0 n1 n2
      go_wp2_with fail
      go_ret
      exact ⟨rfl, hBB⟩

set_option maxRecDepth 100000 in
theorem lifted (os : Os) (started : os.Started) (H : Type) (enc : TypeId × Value → H) :
    ReturnsInHanded {} Tryz.checked os 3 .any (Rows.fnExactApplyDiffSpec.pre6 enc Tryz.prog Tryz.f3 Rows.fnExactApplyDiffRow.domain false) (Rows.fnExactApplyDiffSpec.post enc Tryz.prog Tryz.f3 false true false false) := by
  refine returnsInHanded_of_change (C := Tryz.checked) own started (by kernel_rfl) Tryz.func3
    (ChangeSpec.witness6 (enc := enc) (C := Tryz.checked) false ⟨#[], #[.agg #[.int .i64 0, .slice none 0 0, .slice none 0 0], .agg #[.int .i64 0, .int .i64 0, .slice none 0 0, .slice none 0 0, .slice none 0 0]], []⟩ 8 (by kernel_rfl) (by kernel_rfl) (by kernel_rfl) (by kernel_rfl)) ?_
  intro W base args ds gs before hval0 hW hcnd _
  have hval : ∀ (j : Nat) t v, Tryz.f3.params[j]? = some t → args[j]? = some v → Value.okWide Tryz.prog W .any base t v := hval0
  have hW' := hW
  obtain ⟨p, q, hA0, hV, rfl, _, _⟩ := hW
  have hA : DataW.TrodAll enc Tryz.prog W 0 (fun _ => true) true Tryz.f3.params.toList args.toList ds p := hA0
  rw [Tryz.params3] at hA hval
  obtain ⟨v0, vs0, d0, ds0, p0, q0, hargs, rfl, rfl, h0, r0⟩ := trodAll_cons hA
  obtain ⟨v1, vs1, d1, ds1, p1, q1, rfl, rfl, rfl, h1, r1⟩ := trodAll_cons r0
  obtain ⟨rfl, rfl, rfl⟩ := trodAll_nil r1
  obtain rfl : args = #[v0, v1] := by cases args; simp_all
  obtain ⟨rfl, rfl⟩ := trodVars_none hV
  have k0 := h0
  have lt0 : ∀ x ∈ p0, x.block < W.heap.size := by obtain ⟨m, hm⟩ := k0; exact DataW.trod_lt m _ _ _ hm
  obtain ⟨a0, w0, f0⟩ := openSn (hval 0 25 v0 rfl rfl) h0
  have k1 := h1
  have lt1 : ∀ x ∈ p1, x.block < W.heap.size := by obtain ⟨m, hm⟩ := k1; exact DataW.trod_lt m _ _ _ hm
  obtain ⟨a1, w1, f1⟩ := openDf (hval 1 27 v1 rfl rfl) h1
  clear hA0 hval0
  refine (walk v0 a0 v1 a1 W w0 f0 w1 f1).mono fun e W' ⟨he, bel⟩ => ?_
  subst he
  exact ⟨_, rfl, _, _, _, [], _, [], hW', trodAll_mk1 (shut_bool Tryz.underlying4 _), (trodAll_cons_mk (Below.trod laidOut (by kernel_rfl) (of_decide_eq_true (by kernel_rfl)) k0 bel lt0) (trodAll_cons_mk (Below.trod laidOut (by kernel_rfl) (of_decide_eq_true (by kernel_rfl)) k1 bel lt1) trodAll_mk0)), rfl, bel.frame _, fun h => by cases h⟩

theorem over : Rows.fnExactApplyDiffRow.holds Tryz.pinned (OpenSpec.ofChange Rows.fnExactApplyDiffSpec) :=
  OpenClaim.holds_of_wide 3 Tryz.f3 rfl rfl rfl rfl rfl rfl rfl ⟨rfl, rfl, rfl, rfl, rfl⟩ rfl rfl rfl rfl rfl (by kernel_rfl) Tryz.func3 (by kernel_rfl)
    (of_decide_eq_true (by kernel_rfl)) (by unfold Func.isWrapper; first | (rw [if_pos (by decide +kernel)]; kernel_rfl) | (rw [if_neg (by decide +kernel)]; exact ⟨rfl, rfl⟩))
    (fun os started H enc _ => lifted os started H enc)

end Go.Proofs.YthpckiobfjdckaaGreat.fnExactApplyDiff
namespace Go.Proofs.YthpckiobfjdckaaGreat
theorem fnExactApplyDiff_holds : Rows.FnExactApplyDiffSaid := fnExactApplyDiff.over
#print axioms fnExactApplyDiff_holds
end Go.Proofs.YthpckiobfjdckaaGreat
