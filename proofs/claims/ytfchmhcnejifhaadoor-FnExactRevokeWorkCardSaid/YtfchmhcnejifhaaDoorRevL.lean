/-
  Chapter 4: what FnExactRevokeWork asks, walked.
-/
import Derived.Test.YtfchmhcnejifhaaDoorRevX
import Derived.Test.YtfchmhcnejifhaaDoorMarkJ
namespace Go.Proofs.YtfchmhcnejifhaaDoor
open Go.RowKit Go.Shelf

/-- What RevokeWork answers is hardly longer than what it was asked. -/
theorem rv_len (zs : List Int) (z : Int) : (rvN zs z).length ≤ zs.length + 1 := by
  unfold rvN insN
  split
  · simp
    omega
  · omega
theorem short_rk {s : Is} {name : ByteArray} (hC : s.size ≤ 1048576) : (rkX s name).1.short := by
  have hs : s.ws.length ≤ 1048576 ∧ s.rv.length ≤ 1048576 ∧ s.sg.length ≤ 1048577 := by
    unfold Is.size wzAll tzAll at hC
    exact ⟨by omega, by omega, by omega⟩
  obtain ⟨h1, h2, h3⟩ := hs
  unfold rkX
  split
  · exact ⟨by simp [Is.none], by simp [Is.none], by simp [Is.none]⟩
  · split
    · exact ⟨Nat.le_succ_of_le h1, Nat.le_succ_of_le h2, h3⟩
    · split
      · rename_i x hx
        have := rv_len s.rv x.se
        refine ⟨?_, by show (rvN s.rv x.se).length ≤ _; omega, h3⟩
        show (liSet s.ws (atW s.ws name) false).length ≤ _
        unfold liSet
        rw [hx]
        simp
        omega
      · exact ⟨Nat.le_succ_of_le h1, Nat.le_succ_of_le h2, h3⟩
theorem many_rk {s : Is} {name : ByteArray} (hC : s.size ≤ 1048576) : 1 + (rkX s name).1.many ≤ 8000000 := by
  have h := short_rk hC (name := name)
  obtain ⟨h1, h2, h3⟩ := h
  unfold Is.many
  omega
theorem many_is {s : Is} (hC : s.size ≤ 1048576) : 1 + s.many ≤ 8000000 := by
  unfold Is.size wzAll tzAll at hC
  unfold Is.many
  omega

set_option maxHeartbeats 8000000 in
set_option maxRecDepth 100000 in
theorem revokeLaw (v : Value) (s : Is) (name : ByteArray) (p0 p1 p2 p3 : Addr) (w : World) (hA : IsA w v s) (hf : s.fits) (hnm : name.size ≤ maxLen) (hE : ErA w p0 p1 p2 p3) :
    Calls Tryd.prog 4 #[v, .string name] w fun e w' => e = .returned (.bool true) ∧ Below w.heap.size w w' := by
  obtain ⟨aw, cw, ar, cr, ag, cg, rfl⟩ := is_forms hA
  have hB0 : Below w.heap.size w (w.alloc (.cells #[.slice aw s.ws.length cw, .int .i64 s.nx, .slice ar s.rv.length cr, .slice ag s.sg.length cg] 26)) := (Below.refl _ w).alloc (Nat.le_refl _) _
  have F := Four.new w (.slice aw s.ws.length cw) (.int .i64 s.nx) (.slice ar s.rv.length cr) (.slice ag s.sg.length cg) 26
  unfold maxLen at hnm
  by_cases hL : 1048576 < name.size
  · have dl : decide ((1048576 : Int) < (name.size : Int)) = true := by simp; omega
    go_enter Tryd.func4, Tryd.ntmps4
    go_wp2_with fail
    go_ret
    exact ⟨rfl, hB0⟩
  have dl : decide ((1048576 : Int) < (name.size : Int)) = false := by simp; omega
  by_cases hC : s.size ≤ 1048576
  · have HU := hid (show leftI 1048576 s = 1048576 - s.size from if_pos (by omega))
    have d1 : decide ((1048576 : Int) - (s.size : Int) < 0) = false := by simp; omega
    have hS := is_short hC
    have hN := is_named hC
    go_enter Tryd.func4, Tryd.ntmps4
    go_wp2_with fail
    generalize w.alloc (.cells #[.slice aw s.ws.length cw, .int .i64 s.nx, .slice ar s.rv.length cr, .slice ag s.sg.length cg] 26) = W0 at *
    refine (szIssuer_any _ s _ hf (hA.below hB0)).mono ?_
    rintro e w1 ⟨rfl, hB1⟩
    rw [HU.out]
    replace F := F.below hB1
    have hBB := below_one hB0 hB1
    clear hB1 hB0
    obtain ⟨a0, a1, a2, a3⟩ := F.c
    go_wp2_with fail
    refine (toIssuer_any _ s _ hC (hA.below hBB)).mono ?_
    rintro e w2 ⟨v2, rfl, O2, hB2⟩
    obtain ⟨i0, i1, i2, i3, i4, i5, rfl⟩ := is_forms O2.a
    replace F := F.below hB2
    replace hBB := below_one hBB hB2
    clear hB2 a0 a1 a2 a3
    go_wp2_with fail
    obtain ⟨t, HT⟩ : ∃ t, Hid (t = (rkX s name).1) := ⟨_, hid rfl⟩
    obtain ⟨ca, HQ⟩ : ∃ ca, Hid (ca = (rkX s name).2.1) := ⟨_, hid rfl⟩
    obtain ⟨cd, HD⟩ : ∃ cd, Hid (cd = (rkX s name).2.2) := ⟨_, hid rfl⟩
    refine (specRevoke_any _ s name _ _ _ hS hN (by omega) O2).mono ?_
    rintro e w3 ⟨v3, he, OW, hB3⟩
    rw [← HT.out] at OW
    rw [← HD.out, ← HQ.out] at he
    subst he
    have hSE := short_rk hC (name := name)
    have hme := many_rk hC (name := name)
    have hms := many_is hC
    rw [← HT.out] at hSE hme
    obtain ⟨j0, j1, j2, j3, j4, j5, rfl⟩ := is_forms OW.a
    replace F := F.below hB3
    replace hBB := below_one hBB hB3
    clear hB3 O2
    have hBv : Below w3.heap.size w3 (w3.alloc (.cells #[.slice j0 t.ws.length j1, .int .i64 t.nx, .slice j2 t.rv.length j3, .slice j4 t.sg.length j5] 30)) := (Below.refl _ w3).alloc (Nat.le_refl _) _
    have FW := Four.new w3 (.slice j0 t.ws.length j1) (.int .i64 t.nx) (.slice j2 t.rv.length j3) (.slice j4 t.sg.length j5) 30
    replace F := F.below hBv
    replace OW := OW.below hBv
    replace hBB := below_one hBB hBv
    clear hBv
    obtain ⟨a0, a1, a2, a3⟩ := F.c
    go_wp2_with fail
    generalize w3.alloc (.cells #[.slice j0 t.ws.length j1, .int .i64 t.nx, .slice j2 t.rv.length j3, .slice j4 t.sg.length j5] 30) = W3' at *
    generalize w3.heap.size = kw at *
    have hkw : kw < W3'.heap.size := FW.lt
    have hT0 : w.heap.size < W3'.heap.size := F.lt
    refine (toIssuer_any _ s _ hC (hA.below hBB)).mono ?_
    rintro e w4 ⟨v4, rfl, OX, hB4⟩
    obtain ⟨x0, x1, x2, x3, x4, x5, rfl⟩ := is_forms OX.a
    have hs4 := hB4.size
    replace F := F.below hB4
    replace FW := FW.below hB4
    replace OW := OW.below hB4
    replace hBB := below_one hBB hB4
    clear hB4 a0 a1 a2 a3
    have hBv : Below w4.heap.size w4 (w4.alloc (.cells #[.slice x0 s.ws.length x1, .int .i64 s.nx, .slice x2 s.rv.length x3, .slice x4 s.sg.length x5] 30)) := (Below.refl _ w4).alloc (Nat.le_refl _) _
    have FX := Four.new w4 (.slice x0 s.ws.length x1) (.int .i64 s.nx) (.slice x2 s.rv.length x3) (.slice x4 s.sg.length x5) 30
    replace F := F.below hBv
    replace FW := FW.below hBv
    replace OW := OW.below hBv
    replace OX := OX.below hBv
    replace hBB := below_one hBB hBv
    clear hBv
    go_wp2_with fail
    generalize w4.alloc (.cells #[.slice x0 s.ws.length x1, .int .i64 s.nx, .slice x2 s.rv.length x3, .slice x4 s.sg.length x5] 30) = W4' at *
    generalize w4.heap.size = kx at *
    have hkx : kx < W4'.heap.size := FX.lt
    refine (implRevoke_any _ s name p0 p1 p2 p3 _ _ _ hS hN (by omega) (hE.below hBB) OX).mono ?_
    rintro e w5 ⟨v5, he, OG, hB5⟩
    rw [← HT.out] at OG
    rw [← HD.out, ← HQ.out] at he
    subst he
    obtain ⟨g0, g1, g2, g3, g4, g5, rfl⟩ := is_forms OG.a
    have hs5 := hB5.size
    replace F := F.below hB5
    replace FW := FW.below hB5
    replace FX := FX.below hB5
    replace OW := OW.below hB5
    replace OX := OX.below hB5
    replace hBB := below_one hBB hB5
    clear hB5
    have hBv : Below w5.heap.size w5 (w5.alloc (.cells #[.slice g0 t.ws.length g1, .int .i64 t.nx, .slice g2 t.rv.length g3, .slice g4 t.sg.length g5] 30)) := (Below.refl _ w5).alloc (Nat.le_refl _) _
    have FG := Four.new w5 (.slice g0 t.ws.length g1) (.int .i64 t.nx) (.slice g2 t.rv.length g3) (.slice g4 t.sg.length g5) 30
    replace F := F.below hBv
    replace FW := FW.below hBv
    replace FX := FX.below hBv
    replace OW := OW.below hBv
    replace OX := OX.below hBv
    replace OG := OG.below hBv
    replace hBB := below_one hBB hBv
    clear hBv
    obtain ⟨b0, b1, b2, b3⟩ := FW.c
    have ec : (cd != cd) = false := by simp
    have ea : (ca != ca) = false := by simp
    go_wp2_with fail
    generalize w5.alloc (.cells #[.slice g0 t.ws.length g1, .int .i64 t.nx, .slice g2 t.rv.length g3, .slice g4 t.sg.length g5] 30) = W5' at *
    generalize w5.heap.size = kg at *
    have hkg : kg < W5'.heap.size := FG.lt
    refine (eqIssuer_same _ _ t _ hSE OG.a OW.a).mono ?_
    rintro e w6 ⟨rfl, hB6⟩
    replace F := F.below hB6
    replace FW := FW.below hB6
    replace FX := FX.below hB6
    replace FG := FG.below hB6
    replace OW := OW.below hB6
    replace OX := OX.below hB6
    replace OG := OG.below hB6
    replace hBB := below_one hBB hB6
    clear hB6 b0 b1 b2 b3
    obtain ⟨a0, a1, a2, a3⟩ := F.c
    obtain ⟨b0, b1, b2, b3⟩ := FX.c
    go_wp2_with fail
    refine wp_region_held_drew (S := fun w' => w'.cell? ⟨kx, 0, none⟩ = some (.slice x0 s.ws.length x1) ∧ w'.cell? ⟨kx, 1, none⟩ = some (.int .i64 s.nx) ∧ w'.cell? ⟨kx, 2, none⟩ = some (.slice x2 s.rv.length x3) ∧ w'.cell? ⟨kx, 3, none⟩ = some (.slice x4 s.sg.length x5) ∧ w'.cell? ⟨w.heap.size, 0, none⟩ = some (.slice aw s.ws.length cw) ∧ w'.cell? ⟨w.heap.size, 1, none⟩ = some (.int .i64 s.nx) ∧ w'.cell? ⟨w.heap.size, 2, none⟩ = some (.slice ar s.rv.length cr) ∧ w'.cell? ⟨w.heap.size, 3, none⟩ = some (.slice ag s.sg.length cg)) (by kernel_rfl) ?_ (fun hHeld => ?_)
    · go_keep
    refine takeW 0 (v := ?v1) rfl (by kernel_rfl) (by kernel_rfl) (by kernel_rfl) (fun _ _ _ h => h) (by rfl) (by assumption) ?hy1 ?rest1
    case hy1 => intro w' hSw; (try dsimp only at hSw); go_simp; try with_reducible rfl
    try simp only [Act.put, List.setIfInBounds_toArray, List.set_cons_zero, List.set_cons_succ]
    refine takeW 1 (v := ?v2) rfl (by kernel_rfl) (by kernel_rfl) (by kernel_rfl) (fun _ _ _ h => h) (by rfl) (by assumption) ?hy2 ?rest2
    case hy2 => intro w' hSw; (try dsimp only at hSw); go_simp; try with_reducible rfl
    try simp only [Act.put, List.setIfInBounds_toArray, List.set_cons_zero, List.set_cons_succ]
    refine takeC 2 (by kernel_rfl) rfl (fun K hK => ?_)
    go_simp
    refine (toIssuer_any _ s _ hC (by exact (hA.below hBB).below (Below.refl _ _).drew)).mono ?_; rintro e w9 ⟨v9, rfl, O9, hB9⟩; have hcx := fun o => hB9.cell (p := ⟨kx, o, none⟩) (by exact FX.lt); have hca := fun o => hB9.cell (p := ⟨w.heap.size, o, none⟩) (by exact F.lt)
    refine hK.out _ _ ?_ (fun hHeld => ?_)
    · go_keep
    clear hK K
    try simp only [Act.put, List.setIfInBounds_toArray, List.set_cons_zero, List.set_cons_succ]
    refine takeC 3 (by kernel_rfl) rfl (fun K hK => ?_)
    go_simp
    refine (eqIssuer_same _ _ s _ hS (by exact (OX.below (below_drew1 hB9)).a) O9.a).mono ?_; rintro e w10 ⟨rfl, hB10⟩; have hcx2 := fun o => hB10.cell (p := ⟨kx, o, none⟩) (by exact Nat.lt_of_lt_of_le FX.lt (below_drew1 hB9).size); have hca2 := fun o => hB10.cell (p := ⟨w.heap.size, o, none⟩) (by exact Nat.lt_of_lt_of_le F.lt (below_drew1 hB9).size)
    refine hK.out _ _ ?_ (fun hHeld => ?_)
    · go_keep
    clear hK K
    try simp only [Act.put, List.setIfInBounds_toArray, List.set_cons_zero, List.set_cons_succ]
    refine takeW 4 (v := ?v3) rfl (by kernel_rfl) (by kernel_rfl) (by kernel_rfl) (fun _ _ _ h => h) (by rfl) (by assumption) ?hy3 ?rest3
    case hy3 => intro w' hSw; (try dsimp only at hSw); go_simp; try with_reducible rfl
    try simp only [Act.put, List.setIfInBounds_toArray, List.set_cons_zero, List.set_cons_succ]
    refine wpAnyH_done (by kernel_rfl) ?_ _
    have hBd : Below w6.heap.size w6 w10 := below_one (below_drew1 hB9) hB10
    clear hcx hca hcx2 hca2 hB9 hB10 hHeld O9 a0 a1 a2 a3 b0 b1 b2 b3
    replace F := F.below hBd
    replace FW := FW.below hBd
    replace FX := FX.below hBd
    replace FG := FG.below hBd
    replace OW := OW.below hBd
    replace OX := OX.below hBd
    replace OG := OG.below hBd
    replace hBB := below_one hBB hBd
    have hsd := hBd.size
    clear hBd
    obtain ⟨b0, b1, b2, b3⟩ := FX.c
    go_wp2_with fail
    obtain ⟨c1, HC1⟩ : ∃ c, Hid (c = 1 + s.many) := ⟨_, hid rfl⟩
    obtain ⟨c2, HC2⟩ : ∃ c, Hid (c = 1 + t.many) := ⟨_, hid rfl⟩
    have hlx := FX.lt
    have hlg := FG.lt
    refine (markIssuer_any _ s 1 _ _ _ hS hms (by omega) OX).mono ?_
    rintro e w11 ⟨rfl, _, M1⟩
    rw [← HC1.out]
    replace F := M1.four F (.inl hT0)
    replace FW := M1.four FW (.inl hkw)
    replace FX := M1.four FX (.inr (Nat.le_refl _))
    replace FG := M1.four FG (.inr (by omega))
    replace OW := M1.iso OW (.inr (by omega))
    replace OG := M1.iso OG (.inl (by omega))
    replace hBB := hBB.trans (M1.below (n := w.heap.size) (by omega) hBB.size)
    clear M1 b0 b1 b2 b3 OX
    have dk : decide ((c1 : Int) < 0) = false := by simp
    obtain ⟨b0, b1, b2, b3⟩ := FW.c
    obtain ⟨n0, n1, n2, n3⟩ := FG.c
    go_wp2_with fail
    refine (eqIssuer_same _ _ t _ hSE OG.a OW.a).mono ?_
    rintro e w12 ⟨rfl, hB12⟩
    replace F := F.below hB12
    replace FW := FW.below hB12
    replace FX := FX.below hB12
    replace FG := FG.below hB12
    replace OW := OW.below hB12
    replace OG := OG.below hB12
    replace hBB := below_one hBB hB12
    clear hB12 b0 b1 b2 b3 n0 n1 n2 n3
    obtain ⟨n0, n1, n2, n3⟩ := FG.c
    have hlg2 := FG.lt
    go_wp2_with fail
    refine (markIssuer_any _ t 1 _ _ _ hSE hme (by omega) OG).mono ?_
    rintro e w13 ⟨rfl, OG', M2⟩
    rw [← HC2.out]
    replace F := M2.four F (.inl (by omega))
    replace FW := M2.four FW (.inl (by omega))
    replace FG := M2.four FG (.inr (Nat.le_refl _))
    replace OW := M2.iso OW (.inr (by omega))
    replace hBB := hBB.trans (M2.below (n := w.heap.size) (by omega) hBB.size)
    clear M2 n0 n1 n2 n3 OG FX
    obtain ⟨n0, n1, n2, n3⟩ := FG.c
    go_wp2_with fail
    refine (heldIssuer_any _ t 1 _ hSE hme OG'.a).mono ?_
    rintro e w14 ⟨rfl, hB14⟩
    rw [← HC2.out]
    replace F := F.below hB14
    replace FW := FW.below hB14
    replace FG := FG.below hB14
    replace OW := OW.below hB14
    replace OG' := OG'.below hB14
    replace hBB := below_one hBB hB14
    clear hB14 n0 n1 n2 n3
    have dq : decide ((c2 : Int) < 0) = false := by simp
    have eq2 : ((c2 : Int) != (c2 : Int)) = false := by simp
    obtain ⟨a0, a1, a2, a3⟩ := F.c
    go_wp2_with fail
    refine (toIssuer_any _ s _ hC (hA.below hBB)).mono ?_
    rintro e w15 ⟨v15, rfl, OY, hB15⟩
    obtain ⟨y0, y1, y2, y3, y4, y5, rfl⟩ := is_forms OY.a
    replace FW := FW.below hB15
    replace FG := FG.below hB15
    replace OW := OW.below hB15
    replace OG' := OG'.below hB15
    replace hBB := below_one hBB hB15
    clear hB15 a0 a1 a2 a3 F
    go_wp2_with fail
    refine (implRevoke_any _ s name p0 p1 p2 p3 _ _ _ hS hN (by omega) (hE.below hBB) OY).mono ?_
    rintro e w16 ⟨v16, he, OH, hB16⟩
    rw [← HT.out] at OH
    rw [← HD.out, ← HQ.out] at he
    subst he
    obtain ⟨q0, q1, q2, q3, q4, q5, rfl⟩ := is_forms OH.a
    replace FW := FW.below hB16
    replace FG := FG.below hB16
    replace OW := OW.below hB16
    replace OG' := OG'.below hB16
    replace hBB := below_one hBB hB16
    clear hB16
    have hBv : Below w16.heap.size w16 (w16.alloc (.cells #[.slice q0 t.ws.length q1, .int .i64 t.nx, .slice q2 t.rv.length q3, .slice q4 t.sg.length q5] 30)) := (Below.refl _ w16).alloc (Nat.le_refl _) _
    have FH := Four.new w16 (.slice q0 t.ws.length q1) (.int .i64 t.nx) (.slice q2 t.rv.length q3) (.slice q4 t.sg.length q5) 30
    replace FW := FW.below hBv
    replace FG := FG.below hBv
    replace OW := OW.below hBv
    replace OG' := OG'.below hBv
    replace OH := OH.below hBv
    replace hBB := below_one hBB hBv
    clear hBv
    obtain ⟨b0, b1, b2, b3⟩ := FW.c
    go_wp2_with fail
    generalize w16.alloc (.cells #[.slice q0 t.ws.length q1, .int .i64 t.nx, .slice q2 t.rv.length q3, .slice q4 t.sg.length q5] 30) = W16' at *
    generalize w16.heap.size = kh at *
    refine (eqIssuer_same _ _ t _ hSE OH.a OW.a).mono ?_
    rintro e w17 ⟨rfl, hB17⟩
    replace FG := FG.below hB17
    replace OG' := OG'.below hB17
    replace hBB := below_one hBB hB17
    clear hB17 b0 b1 b2 b3
    obtain ⟨n0, n1, n2, n3⟩ := FG.c
    go_wp2_with fail
    refine (heldIssuer_any _ t 1 _ hSE hme OG'.a).mono ?_
    rintro e w18 ⟨rfl, hB18⟩
    rw [← HC2.out]
    replace hBB := below_one hBB hB18
    clear hB18 n0 n1 n2 n3
    go_wp2_with fail
    go_ret
    exact ⟨rfl, hBB⟩
  · have HU := hid (show leftI 1048576 s = -1 from if_neg (by omega))
    go_enter Tryd.func4, Tryd.ntmps4
    go_wp2_with fail
    generalize w.alloc (.cells #[.slice aw s.ws.length cw, .int .i64 s.nx, .slice ar s.rv.length cr, .slice ag s.sg.length cg] 26) = W0 at *
    refine (szIssuer_any _ s _ hf (hA.below hB0)).mono ?_
    rintro e w1 ⟨rfl, hB1⟩
    rw [HU.out]
    have hBB1 := below_one hB0 hB1
    clear hB1 hB0
    go_wp2_with fail
    go_ret
    exact ⟨rfl, hBB1⟩

end Go.Proofs.YtfchmhcnejifhaaDoor
