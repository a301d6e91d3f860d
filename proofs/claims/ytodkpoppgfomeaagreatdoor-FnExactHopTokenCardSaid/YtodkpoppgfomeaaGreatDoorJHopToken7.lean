/-
  Proved: for every issuer, token, text and two numbers the law FnExactHopToken returns true, and nothing that was there is changed; the card.
-/
import Derived.Test.YtodkpoppgfomeaaGreatDoorJHopToken6
import Derived.Test.YtodkpoppgfomeaaGreatDoorCards
import Derived.Test.YtodkpoppgfomeaaGreatDoorTie
import Derived.Test.YtodkpoppgfomeaaGreatDoorJHopToken3
import Derived.WalkKit
import Derived.ProofKit
import Derived.OpenShut
import Derived.ShutString
import Derived.ChangeOld
import Derived.Below
import Derived.Lib.SmallJoins
import Derived.Deep.Slices
import Derived.Deep.DeepHandedRow
import Derived.Shelf.Vars
import Derived.Lay
import Derived.OpenVars
import Derived.Stop.LaidErr
namespace Go.Proofs.YtodkpoppgfomeaaGreatDoor
open Go.RowKit Go.Shelf

theorem hpL_len (s : Is) (ks : List Lk) (tq : ByteArray) (nw li : Int) : (hpL s ks tq nw li).length ≤ 6 := by
  cases h : hpE s ks tq nw li
  case nil =>
    rw [hpL_yes h]
    exact (ext_facts (hpE_nil h).2.2.2).2.1
  all_goals
    rw [hpL_no h (by intro h; cases h)]
    simp

set_option maxHeartbeats 8000000 in
set_option maxRecDepth 100000 in
theorem hopLaw (v : Value) (s : Is) (ak : Option Addr) (nk ck : Nat) (ks : List Lk) (tq : ByteArray) (nw li : Int) (p0 p1 p2 p3 : Addr) (w : World) (hA : IsA w v s) (hf : s.fits) (hk0 : LkS w (.slice ak nk ck) ks ∧ ks.length = nk ∧ nk ≤ maxLen ∧ ∀ r ∈ ks, r.fits) (hnt : tq.size ≤ maxLen) (hE : ErA w p0 p1 p2 p3) (ht : Tab w) :
    Calls Tryz.prog 4 #[v, .slice ak nk ck, .string tq, .int .i64 nw, .int .i64 li] w fun e w' => e = .returned (.bool true) ∧ Below w.heap.size w w' := by
  obtain ⟨aw, cw, ar, cr, ag, cg, rfl⟩ := is_forms hA
  have hB0 : Below w.heap.size w (w.alloc (.cells #[.slice aw s.ws.length cw, .int .i64 s.nx, .slice ar s.rv.length cr, .slice ag s.sg.length cg] 26)) := (Below.refl _ w).alloc (Nat.le_refl _) _
  have F := Four.new w (.slice aw s.ws.length cw) (.int .i64 s.nx) (.slice ar s.rv.length cr) (.slice ag s.sg.length cg) 26
  obtain ⟨hr, rfl, hml, hfit⟩ := hk0
  unfold maxLen at hnt
  by_cases hL0 : 1048576 < tq.size
  · have dl0 : decide ((1048576 : Int) < (tq.size : Int)) = true := by simp; omega
    go_enter Tryz.func4, Tryz.ntmps4
    go_wp2_with fail
    go_ret
    exact ⟨rfl, hB0⟩
  have dl0 : decide ((1048576 : Int) < (tq.size : Int)) = false := by simp; omega
  by_cases hC : s.size ≤ 1048576
  · have HU := hid (show leftI 1048576 s = 1048576 - s.size from if_pos (by omega))
    have d1 : decide ((1048576 : Int) - (s.size : Int) < 0) = false := by simp; omega
    have hS := is_short hC
    have hN := is_named hC
    by_cases hC2 : (lzAll ks : Int) ≤ 1048576 - s.size
    case neg =>
      have HV := hid (show leftL (1048576 - s.size) ks = -1 from if_neg hC2)
      go_enter Tryz.func4, Tryz.ntmps4
      go_wp2_with fail
      generalize w.alloc (.cells #[.slice aw s.ws.length cw, .int .i64 s.nx, .slice ar s.rv.length cr, .slice ag s.sg.length cg] 26) = W0 at *
      refine (szIssuer_any _ s _ hf (hA.below hB0)).mono ?_
      rintro e w1 ⟨rfl, hB1⟩
      rw [HU.out]
      have hBB1 := below_one hB0 hB1
      clear hB1 hB0
      go_wp2_with fail
      refine (szLinkS_any _ ks _ _ (by omega) (by omega) hml hfit (hr.below hBB1)).mono ?_
      rintro e w1b ⟨rfl, hB1⟩
      rw [HV.out]
      replace hBB1 := below_one hBB1 hB1
      clear hB1
      go_wp2_with fail
      go_ret
      exact ⟨rfl, hBB1⟩
    have HV := hid (show leftL (1048576 - s.size) ks = 1048576 - s.size - lzAll ks from if_pos hC2)
    have hsz : (lzAll ks : Int) = ks.length + lzTo ks ks.length := by unfold lzAll; omega
    have hm : ks.length ≤ 1048576 := by omega
    have hm' : ks.length ≤ 1048577 := by omega
    have hfz : ∀ r ∈ ks, r.size ≤ 1048576 := fun r hr => by have := lz_mem hr; omega
    have d2 : decide ((1048576 : Int) - (s.size : Int) - (lzAll ks : Int) < 0) = false := by simp; omega
    have hms0 : 1 + s.many + 5 * ks.length ≤ 8000000 := by
      have hCC : s.size + ks.length ≤ 1048576 := by omega
      clear hsz HV hC2 d1 d2 HU
      unfold Is.size wzAll tzAll at hCC
      unfold Is.many
      omega
    clear hsz
    go_enter Tryz.func4, Tryz.ntmps4
    go_wp2_with fail
    generalize w.alloc (.cells #[.slice aw s.ws.length cw, .int .i64 s.nx, .slice ar s.rv.length cr, .slice ag s.sg.length cg] 26) = W0 at *
    refine (szIssuer_any _ s _ hf (hA.below hB0)).mono ?_
    rintro e w1 ⟨rfl, hB1⟩
    rw [HU.out]
    replace F := F.below hB1
    have hBB := below_one hB0 hB1
    clear hB1 hB0
    go_wp2_with fail
    refine (szLinkS_any _ ks _ _ (by omega) (by omega) hml hfit (hr.below hBB)).mono ?_
    rintro e w1b ⟨rfl, hB1⟩
    rw [HV.out]
    replace F := F.below hB1
    replace hBB := below_one hBB hB1
    clear hB1
    obtain ⟨a0, a1, a2, a3⟩ := F.c
    go_wp2_with fail
    refine (toIssuer_any _ s _ hC (hA.below hBB)).mono ?_
    rintro e w2 ⟨v2, rfl, O2, hB2⟩
    obtain ⟨i0, i1, i2, i3, i4, i5, rfl⟩ := is_forms O2.a
    replace F := F.below hB2
    replace hBB := below_one hBB hB2
    clear hB2 a0 a1 a2 a3
    go_wp2_with fail
    refine (toLinkS_any _ ks _ hm (hr.below hBB)).mono ?_
    rintro e w2b ⟨vl2, rfl, R2, hB2⟩
    replace F := F.below hB2
    replace O2 := O2.below hB2
    replace hBB := below_one hBB hB2
    clear hB2
    go_wp2_with fail
    obtain ⟨t, HT⟩ : ∃ t, Hid (t = hdX (hpE s ks tq nw li) s (extL ks tq s.nx nw li) (hpW ks)) := ⟨_, hid rfl⟩
    obtain ⟨cd, HD⟩ : ∃ cd, Hid (cd = (hpE s ks tq nw li).code) := ⟨_, hid rfl⟩
    obtain ⟨rs, HK⟩ : ∃ rs, Hid (rs = hpL s ks tq nw li) := ⟨_, hid rfl⟩
    refine (specHop_any _ s _ ks tq nw li _ _ _ hS hN hm' hfz (by omega) O2 (LkS.own R2)).mono ?_
    rintro e w3 ⟨v3, vlw, he, OW, RW, hB3⟩
    rw [← HT.out] at OW
    rw [← HD.out] at he
    rw [← HK.out] at RW
    subst he
    have hSE := short_sg hC (x := hpE s ks tq nw li) (ks := extL ks tq s.nx nw li) (who := hpW ks)
    rw [← HT.out] at hSE
    have hme := many_sh hSE
    have hms := many_sh hS
    have hkl : rs.length ≤ 6 := by rw [HK.out]; exact hpL_len _ _ _ _ _
    have rwlt : ∀ k, vlw.ownBlock = some k → k < w3.heap.size := fun k hk => (RW.lt k hk).2
    obtain ⟨j0, j1, j2, j3, j4, j5, rfl⟩ := is_forms OW.a
    replace F := F.below hB3
    replace hBB := below_one hBB hB3
    clear hB3 O2 R2
    have hBv : Below w3.heap.size w3 (w3.alloc (.cells #[.slice j0 t.ws.length j1, .int .i64 t.nx, .slice j2 t.rv.length j3, .slice j4 t.sg.length j5] 30)) := (Below.refl _ w3).alloc (Nat.le_refl _) _
    have FW := Four.new w3 (.slice j0 t.ws.length j1) (.int .i64 t.nx) (.slice j2 t.rv.length j3) (.slice j4 t.sg.length j5) 30
    replace F := F.below hBv
    replace OW := OW.below hBv
    replace RW := ownsRow_below RW hBv
    replace hBB := below_one hBB hBv
    clear hBv
    obtain ⟨a0, a1, a2, a3⟩ := F.c
    go_wp2_with fail
    generalize w3.alloc (.cells #[.slice j0 t.ws.length j1, .int .i64 t.nx, .slice j2 t.rv.length j3, .slice j4 t.sg.length j5] 30) = W3' at *
    generalize w3.heap.size = kw at *
    have hkw : kw < W3'.heap.size := FW.lt
    have hT0 : w.heap.size < W3'.heap.size := F.lt
    refine (toIssuer_any _ s _ hC (hA.below hBB)).mono ?_
    rintro e w4 ⟨v4, rfl, OX, hB4⟩
    obtain ⟨x0, x1, x2, x3, x4, x5, rfl⟩ := is_forms OX.a
    have hs4 := hB4.size
    replace F := F.below hB4
    replace FW := FW.below hB4
    replace OW := OW.below hB4
    replace RW := ownsRow_below RW hB4
    replace hBB := below_one hBB hB4
    clear hB4 a0 a1 a2 a3
    have hBv : Below w4.heap.size w4 (w4.alloc (.cells #[.slice x0 s.ws.length x1, .int .i64 s.nx, .slice x2 s.rv.length x3, .slice x4 s.sg.length x5] 30)) := (Below.refl _ w4).alloc (Nat.le_refl _) _
    have FX := Four.new w4 (.slice x0 s.ws.length x1) (.int .i64 s.nx) (.slice x2 s.rv.length x3) (.slice x4 s.sg.length x5) 30
    replace F := F.below hBv
    replace FW := FW.below hBv
    replace OW := OW.below hBv
    replace OX := OX.below hBv
    replace RW := ownsRow_below RW hBv
    replace hBB := below_one hBB hBv
    clear hBv
    go_wp2_with fail
    generalize w4.alloc (.cells #[.slice x0 s.ws.length x1, .int .i64 s.nx, .slice x2 s.rv.length x3, .slice x4 s.sg.length x5] 30) = W4' at *
    generalize w4.heap.size = kx at *
    have hkx : kx < W4'.heap.size := FX.lt
    refine (toLinkS_any _ ks _ hm (hr.below hBB)).mono ?_
    rintro e w4b ⟨vlx, rfl, RX, hB4⟩
    have rxlt : ∀ k, vlx.ownBlock = some k → W4'.heap.size ≤ k ∧ k < w4b.heap.size := fun k hk => RX.lt k hk
    have hs4b := hB4.size
    replace F := F.below hB4
    replace FW := FW.below hB4
    replace FX := FX.below hB4
    replace OW := OW.below hB4
    replace OX := OX.below hB4
    replace RW := ownsRow_below RW hB4
    replace hBB := below_one hBB hB4
    clear hB4
    obtain ⟨z0, z1, z2, z3⟩ := FX.c
    go_wp2_with fail
    refine (implHop_any _ s _ ks tq nw li p0 p1 p2 p3 _ _ _ hS hN hm' hfz (by omega) (hE.below hBB) OX (LkS.own RX) (ht.on hBB)).mono ?_
    rintro e w5 ⟨v5, vlg, m5, he, hm5, OG5, RG, hgm5, hB5⟩
    rw [← HT.out] at OG5
    rw [← HD.out] at he
    rw [← HK.out] at RG
    subst he
    clear z0 z1 z2 z3
    have rglt : ∀ k, vlg.ownBlock = some k → w4b.heap.size ≤ k ∧ k < w5.heap.size := fun k hk => RG.lt k hk
    have hs5 := hB5.size
    obtain ⟨m, hm1, hm2, OG, hgm⟩ : ∃ m, w4b.heap.size ≤ m ∧ m ≤ w5.heap.size ∧ IsO w5 m w5.heap.size v5 t ∧ ∀ k, vlg.ownBlock = some k → k < m :=
      ⟨min m5 w5.heap.size, by omega, by omega, OG5.mono (by omega) (Nat.le_refl _), fun k hk => by have h1 := hgm5 k hk; have h2 := (rglt k hk).2; omega⟩
    clear OG5 hgm5 hm5
    obtain ⟨g0, g1, g2, g3, g4, g5, rfl⟩ := is_forms OG.a
    replace F := F.below hB5
    replace FW := FW.below hB5
    replace FX := FX.below hB5
    replace OW := OW.below hB5
    replace OX := OX.below hB5
    replace RW := ownsRow_below RW hB5
    replace RX := ownsRow_below RX hB5
    replace hBB := below_one hBB hB5
    clear hB5
    have hBv : Below w5.heap.size w5 (w5.alloc (.cells #[.slice g0 t.ws.length g1, .int .i64 t.nx, .slice g2 t.rv.length g3, .slice g4 t.sg.length g5] 30)) := (Below.refl _ w5).alloc (Nat.le_refl _) _
    have FG := Four.new w5 (.slice g0 t.ws.length g1) (.int .i64 t.nx) (.slice g2 t.rv.length g3) (.slice g4 t.sg.length g5) 30
    replace F := F.below hBv
    replace FW := FW.below hBv
    replace FX := FX.below hBv
    replace OW := OW.below hBv
    replace OX := OX.below hBv
    replace OG := OG.below hBv
    replace RW := ownsRow_below RW hBv
    replace RX := ownsRow_below RX hBv
    replace RG := ownsRow_below RG hBv
    replace hBB := below_one hBB hBv
    clear hBv
    obtain ⟨b0, b1, b2, b3⟩ := FW.c
    have ec : (cd != cd) = false := by simp
    go_wp2_with fail
    generalize w5.alloc (.cells #[.slice g0 t.ws.length g1, .int .i64 t.nx, .slice g2 t.rv.length g3, .slice g4 t.sg.length g5] 30) = W5' at *
    generalize w5.heap.size = kg at *
    have hkg : kg < W5'.heap.size := FG.lt
    refine (eqIssuer_same _ _ t _ hSE OG.a OW.a).mono ?_
    rintro e w6a ⟨rfl, hB6⟩
    replace F := F.below hB6
    replace FW := FW.below hB6
    replace FX := FX.below hB6
    replace FG := FG.below hB6
    replace OW := OW.below hB6
    replace OX := OX.below hB6
    replace OG := OG.below hB6
    replace RW := ownsRow_below RW hB6
    replace RX := ownsRow_below RX hB6
    replace RG := ownsRow_below RG hB6
    replace hBB := below_one hBB hB6
    clear hB6 b0 b1 b2 b3
    go_wp2_with fail
    refine (eqLinkS_same _ _ rs _ (by omega) (LkS.own RG) (LkS.own RW)).mono ?_
    rintro e w6 ⟨rfl, hB6⟩
    replace F := F.below hB6
    replace FW := FW.below hB6
    replace FX := FX.below hB6
    replace FG := FG.below hB6
    replace OW := OW.below hB6
    replace OX := OX.below hB6
    replace OG := OG.below hB6
    replace RW := ownsRow_below RW hB6
    replace RX := ownsRow_below RX hB6
    replace RG := ownsRow_below RG hB6
    replace hBB := below_one hBB hB6
    clear hB6
    obtain ⟨a0, a1, a2, a3⟩ := F.c
    obtain ⟨b0, b1, b2, b3⟩ := FX.c
    go_wp2_with fail
    refine wp_region_held_drew (S := fun w' => w'.cell? ⟨kx, 0, none⟩ = some (.slice x0 s.ws.length x1) ∧ w'.cell? ⟨kx, 1, none⟩ = some (.int .i64 s.nx) ∧ w'.cell? ⟨kx, 2, none⟩ = some (.slice x2 s.rv.length x3) ∧ w'.cell? ⟨kx, 3, none⟩ = some (.slice x4 s.sg.length x5) ∧ w'.cell? ⟨w.heap.size, 0, none⟩ = some (.slice aw s.ws.length cw) ∧ w'.cell? ⟨w.heap.size, 1, none⟩ = some (.int .i64 s.nx) ∧ w'.cell? ⟨w.heap.size, 2, none⟩ = some (.slice ar s.rv.length cr) ∧ w'.cell? ⟨w.heap.size, 3, none⟩ = some (.slice ag s.sg.length cg)) (by kernel_rfl) ?_ (fun hHeld => ?_)
    · go_keep
    refine takeW 0 (v := ?v4) rfl (by kernel_rfl) (by kernel_rfl) (by kernel_rfl) (fun _ _ _ h => h) (by rfl) (by assumption) ?hy4 ?rest4
    case hy4 => intro w' hSw; (try dsimp only at hSw); go_simp; try with_reducible rfl
    try simp only [Act.put, List.setIfInBounds_toArray, List.set_cons_zero, List.set_cons_succ]
    refine takeW 1 (v := ?v5) rfl (by kernel_rfl) (by kernel_rfl) (by kernel_rfl) (fun _ _ _ h => h) (by rfl) (by assumption) ?hy5 ?rest5
    case hy5 => intro w' hSw; (try dsimp only at hSw); go_simp; try with_reducible rfl
    try simp only [Act.put, List.setIfInBounds_toArray, List.set_cons_zero, List.set_cons_succ]
    refine takeC 2 (by kernel_rfl) rfl (fun K hK => ?_)
    go_simp
    refine (toIssuer_any _ s _ hC (by exact (hA.below hBB).below (Below.refl _ _).drew)).mono ?_; rintro e w9 ⟨v9, rfl, O9, hB9⟩; have hcx := fun o => hB9.cell (p := ⟨kx, o, none⟩) (by exact FX.lt); have hca := fun o => hB9.cell (p := ⟨w.heap.size, o, none⟩) (by exact F.lt)
    refine hK.out _ _ ?_ (fun hHeld => ?_)
    · go_keep
    clear hK K
    try simp only [Act.put, List.setIfInBounds_toArray, List.set_cons_zero, List.set_cons_succ]
    refine takeC 3 (by kernel_rfl) rfl (fun K hK => ?_)
    go_simp
    refine (eqIssuer_same _ _ s _ hS (by exact (OX.below (below_drew1 hB9)).a) O9.a).mono ?_; rintro e w10 ⟨rfl, hB10⟩; have hcx2 := fun o => hB10.cell (p := ⟨kx, o, none⟩) (by exact Nat.lt_of_lt_of_le FX.lt (below_drew1 hB9).size); have hca2 := fun o => hB10.cell (p := ⟨w.heap.size, o, none⟩) (by exact Nat.lt_of_lt_of_le F.lt (below_drew1 hB9).size)
    refine hK.out _ _ ?_ (fun hHeld => ?_)
    · go_keep
    clear hK K
    try simp only [Act.put, List.setIfInBounds_toArray, List.set_cons_zero, List.set_cons_succ]
    refine takeW 4 (v := ?v6) rfl (by kernel_rfl) (by kernel_rfl) (by kernel_rfl) (fun _ _ _ h => h) (by rfl) (by assumption) ?hy6 ?rest6
    case hy6 => intro w' hSw; (try dsimp only at hSw); go_simp; try with_reducible rfl
    try simp only [Act.put, List.setIfInBounds_toArray, List.set_cons_zero, List.set_cons_succ]
    refine wpAnyH_done (by kernel_rfl) ?_ _
    have hBd : Below w6.heap.size w6 w10 := below_one (below_drew1 hB9) hB10
    clear hcx hca hcx2 hca2 hB9 hB10 hHeld O9 a0 a1 a2 a3 b0 b1 b2 b3
    replace F := F.below hBd
    replace FW := FW.below hBd
    replace FX := FX.below hBd
    replace FG := FG.below hBd
    replace OW := OW.below hBd
    replace OX := OX.below hBd
    replace OG := OG.below hBd
    replace RW := ownsRow_below RW hBd
    replace RX := ownsRow_below RX hBd
    replace RG := ownsRow_below RG hBd
    replace hBB := below_one hBB hBd
    have hsd := hBd.size
    clear hBd
    go_wp2_with fail
    refine (toLinkS_any _ ks _ hm (hr.below hBB)).mono ?_
    rintro e w10b ⟨vly, rfl, RY, hBy⟩
    have hsy := hBy.size
    replace F := F.below hBy
    replace FW := FW.below hBy
    replace FX := FX.below hBy
    replace FG := FG.below hBy
    replace OW := OW.below hBy
    replace OX := OX.below hBy
    replace OG := OG.below hBy
    replace RW := ownsRow_below RW hBy
    replace RG := ownsRow_below RG hBy
    replace RX := ownsRow_below RX hBy
    replace hBB := below_one hBB hBy
    clear hBy
    go_wp2_with fail
    refine (eqLinkS_same _ _ ks _ hm' (LkS.own RX) (LkS.own RY)).mono ?_
    rintro e w10c ⟨rfl, hBy⟩
    have hsz2 := hBy.size
    replace F := F.below hBy
    replace FW := FW.below hBy
    replace FX := FX.below hBy
    replace FG := FG.below hBy
    replace OW := OW.below hBy
    replace OX := OX.below hBy
    replace OG := OG.below hBy
    replace RW := ownsRow_below RW hBy
    replace RG := ownsRow_below RG hBy
    replace RX := ownsRow_below RX hBy
    replace hBB := below_one hBB hBy
    clear hBy RY
    obtain ⟨b0, b1, b2, b3⟩ := FX.c
    go_wp2_with fail
    obtain ⟨c1, HC1⟩ : ∃ c, Hid (c = 1 + s.many) := ⟨_, hid rfl⟩
    obtain ⟨c4, HC4⟩ : ∃ c, Hid (c = c1 + 5 * ks.length) := ⟨_, hid rfl⟩
    have hc4 : c1 + 5 * ks.length ≤ 8000000 := by have := HC1.out; omega
    obtain ⟨c2, HC2⟩ : ∃ c, Hid (c = 1 + t.many) := ⟨_, hid rfl⟩
    obtain ⟨c3, HC3⟩ : ∃ c, Hid (c = c2 + 5 * rs.length) := ⟨_, hid rfl⟩
    have hc3 : c2 + 5 * rs.length ≤ 8000000 := by have := HC2.out; omega
    have hlx := FX.lt
    have hlg := FG.lt
    refine (markIssuer_any _ s 1 _ _ _ hS (by omega) (by omega) OX).mono ?_
    rintro e w11 ⟨rfl, _, M1⟩
    rw [← HC1.out]
    replace F := M1.four F (.inl hT0)
    replace FW := M1.four FW (.inl hkw)
    replace FX := M1.four FX (.inr (Nat.le_refl _))
    replace FG := M1.four FG (.inr (by omega))
    replace OW := M1.iso OW (.inr (by omega))
    replace OG := M1.iso OG (.inl (by omega))
    replace RW := M1.row RW (fun k hk => .inl (by have := rwlt k hk; omega))
    replace RG := M1.row RG (fun k hk => .inr (by have := (rglt k hk).1; omega))
    replace RX := M1.row RX (fun k hk => .inr (by have := (rxlt k hk).1; omega))
    replace hBB := hBB.trans (M1.below (n := w.heap.size) (by omega) hBB.size)
    clear M1 b0 b1 b2 b3 OX
    go_wp2_with fail
    refine (markLinkS_to _ ks.length c1 _ _ _ hm' hc4 RX).mono ?_
    rintro e w11b ⟨rfl, _, hg11⟩
    rw [← HC4.out]
    have M4 : Mid W4'.heap.size w4b.heap.size _ w11b := Mid.of_grown hg11 (fun k hk => rxlt k hk)
    replace F := M4.four F (.inl (by omega))
    replace FW := M4.four FW (.inl (by omega))
    replace FX := M4.four FX (.inl (by omega))
    replace FG := M4.four FG (.inr (by omega))
    replace OW := M4.iso OW (.inr (by omega))
    replace OG := M4.iso OG (.inl (by omega))
    replace RW := M4.row RW (fun k hk => .inl (by have := rwlt k hk; omega))
    replace RG := M4.row RG (fun k hk => .inr (rglt k hk).1)
    replace hBB := hBB.trans (M4.below (n := w.heap.size) (by omega) hBB.size)
    clear M4 hg11 RX
    have dk : decide ((c4 : Int) < 0) = false := by simp
    obtain ⟨b0, b1, b2, b3⟩ := FW.c
    obtain ⟨n0, n1, n2, n3⟩ := FG.c
    go_wp2_with fail
    refine (eqIssuer_same _ _ t _ hSE OG.a OW.a).mono ?_
    rintro e w12a ⟨rfl, hB12⟩
    replace F := F.below hB12
    replace FW := FW.below hB12
    replace FX := FX.below hB12
    replace FG := FG.below hB12
    replace OW := OW.below hB12
    replace OG := OG.below hB12
    replace RW := ownsRow_below RW hB12
    replace RG := ownsRow_below RG hB12
    replace hBB := below_one hBB hB12
    clear hB12 b0 b1 b2 b3 n0 n1 n2 n3
    go_wp2_with fail
    refine (eqLinkS_same _ _ rs _ (by omega) (LkS.own RG) (LkS.own RW)).mono ?_
    rintro e w12 ⟨rfl, hB12⟩
    replace F := F.below hB12
    replace FW := FW.below hB12
    replace FX := FX.below hB12
    replace FG := FG.below hB12
    replace OW := OW.below hB12
    replace OG := OG.below hB12
    replace RW := ownsRow_below RW hB12
    replace RG := ownsRow_below RG hB12
    replace hBB := below_one hBB hB12
    clear hB12
    obtain ⟨n0, n1, n2, n3⟩ := FG.c
    have hlg2 := FG.lt
    go_wp2_with fail
    refine (markIssuer_any _ t 1 _ _ _ hSE (by omega) (by omega) OG).mono ?_
    rintro e w13 ⟨rfl, OG', M2⟩
    rw [← HC2.out]
    replace F := M2.four F (.inl (by omega))
    replace FW := M2.four FW (.inl (by omega))
    replace FG := M2.four FG (.inr (Nat.le_refl _))
    replace OW := M2.iso OW (.inr (by omega))
    replace RW := M2.row RW (fun k hk => .inl (by have := rwlt k hk; omega))
    replace RG := M2.row RG (fun k hk => .inl (hgm k hk))
    replace hBB := hBB.trans (M2.below (n := w.heap.size) (by omega) hBB.size)
    clear M2 n0 n1 n2 n3 OG FX
    go_wp2_with fail
    refine (markLinkS_to _ rs.length c2 _ _ _ (by omega) hc3 RG).mono ?_
    rintro e w13b ⟨rfl, RG', hg13⟩
    rw [← HC3.out]
    have M3 : Mid w4b.heap.size m _ w13b := Mid.of_grown hg13 (fun k hk => ⟨(rglt k hk).1, hgm k hk⟩)
    replace F := M3.four F (.inl (by omega))
    replace FW := M3.four FW (.inl (by omega))
    replace FG := M3.four FG (.inr (by omega))
    replace OW := M3.iso OW (.inr (by omega))
    replace OG' := M3.iso OG' (.inl (Nat.le_refl _))
    replace RW := M3.row RW (fun k hk => .inl (by have := rwlt k hk; omega))
    replace hBB := hBB.trans (M3.below (n := w.heap.size) (by omega) hBB.size)
    clear M3 hg13 RG
    obtain ⟨n0, n1, n2, n3⟩ := FG.c
    go_wp2_with fail
    refine (heldIssuer_any _ t 1 _ hSE (by omega) OG'.a).mono ?_
    rintro e w14a ⟨rfl, hB14⟩
    rw [← HC2.out]
    replace F := F.below hB14
    replace FW := FW.below hB14
    replace FG := FG.below hB14
    replace OW := OW.below hB14
    replace OG' := OG'.below hB14
    replace RW := ownsRow_below RW hB14
    replace RG' := ownsRow_below RG' hB14
    replace hBB := below_one hBB hB14
    clear hB14 n0 n1 n2 n3
    have dq : decide ((c2 : Int) < 0) = false := by simp
    go_wp2_with fail
    refine (heldLinkS_to _ rs.length c2 _ (by omega) hc3 (LkS.own (rs := mkKs c2 rs.length) (by rw [mkKs_len]; exact RG'))).mono ?_
    rintro e w14 ⟨rfl, hB14⟩
    rw [← HC3.out]
    replace F := F.below hB14
    replace FW := FW.below hB14
    replace FG := FG.below hB14
    replace OW := OW.below hB14
    replace OG' := OG'.below hB14
    replace RW := ownsRow_below RW hB14
    replace RG' := ownsRow_below RG' hB14
    replace hBB := below_one hBB hB14
    clear hB14
    have dq3 : decide ((c3 : Int) < 0) = false := by simp
    have eq3 : ((c3 : Int) != (c3 : Int)) = false := by simp
    obtain ⟨a0, a1, a2, a3⟩ := F.c
    go_wp2_with fail
    refine (toIssuer_any _ s _ hC (hA.below hBB)).mono ?_
    rintro e w15 ⟨v15, rfl, OY, hB15⟩
    obtain ⟨y0, y1, y2, y3, y4, y5, rfl⟩ := is_forms OY.a
    clear a0 a1 a2 a3 F
    replace FW := FW.below hB15
    replace FG := FG.below hB15
    replace OW := OW.below hB15
    replace OG' := OG'.below hB15
    replace RW := ownsRow_below RW hB15
    replace RG' := ownsRow_below RG' hB15
    replace hBB := below_one hBB hB15
    clear hB15
    go_wp2_with fail
    refine (toLinkS_any _ ks _ hm (hr.below hBB)).mono ?_
    rintro e w15b ⟨vl15, rfl, R15, hB15⟩
    replace FW := FW.below hB15
    replace FG := FG.below hB15
    replace OW := OW.below hB15
    replace OG' := OG'.below hB15
    replace OY := OY.below hB15
    replace RW := ownsRow_below RW hB15
    replace RG' := ownsRow_below RG' hB15
    replace hBB := below_one hBB hB15
    clear hB15
    go_wp2_with fail
    refine (implHop_any _ s _ ks tq nw li p0 p1 p2 p3 _ _ _ hS hN hm' hfz (by omega) (hE.below hBB) OY (LkS.own R15) (ht.on hBB)).mono ?_
    rintro e w16 ⟨v16, vlh, mh, he, _, OH, RH, _, hB16⟩
    rw [← HT.out] at OH
    rw [← HD.out] at he
    rw [← HK.out] at RH
    subst he
    obtain ⟨q0, q1, q2, q3, q4, q5, rfl⟩ := is_forms OH.a
    replace FW := FW.below hB16
    replace FG := FG.below hB16
    replace OW := OW.below hB16
    replace OG' := OG'.below hB16
    replace RW := ownsRow_below RW hB16
    replace RG' := ownsRow_below RG' hB16
    replace hBB := below_one hBB hB16
    clear hB16
    have hBv : Below w16.heap.size w16 (w16.alloc (.cells #[.slice q0 t.ws.length q1, .int .i64 t.nx, .slice q2 t.rv.length q3, .slice q4 t.sg.length q5] 30)) := (Below.refl _ w16).alloc (Nat.le_refl _) _
    have FH := Four.new w16 (.slice q0 t.ws.length q1) (.int .i64 t.nx) (.slice q2 t.rv.length q3) (.slice q4 t.sg.length q5) 30
    replace FW := FW.below hBv
    replace FG := FG.below hBv
    replace OW := OW.below hBv
    replace OG' := OG'.below hBv
    replace OH := OH.below hBv
    replace RW := ownsRow_below RW hBv
    replace RH := ownsRow_below RH hBv
    replace RG' := ownsRow_below RG' hBv
    replace hBB := below_one hBB hBv
    clear hBv
    obtain ⟨b0, b1, b2, b3⟩ := FW.c
    go_wp2_with fail
    generalize w16.alloc (.cells #[.slice q0 t.ws.length q1, .int .i64 t.nx, .slice q2 t.rv.length q3, .slice q4 t.sg.length q5] 30) = W16' at *
    generalize w16.heap.size = kh at *
    refine (eqIssuer_same _ _ t _ hSE OH.a OW.a).mono ?_
    rintro e w17a ⟨rfl, hB17⟩
    replace FW := FW.below hB17
    replace FG := FG.below hB17
    replace OW := OW.below hB17
    replace OG' := OG'.below hB17
    replace RW := ownsRow_below RW hB17
    replace RH := ownsRow_below RH hB17
    replace RG' := ownsRow_below RG' hB17
    replace hBB := below_one hBB hB17
    clear hB17 b0 b1 b2 b3
    go_wp2_with fail
    refine (eqLinkS_same _ _ rs _ (by omega) (LkS.own RH) (LkS.own RW)).mono ?_
    rintro e w17 ⟨rfl, hB17⟩
    replace FG := FG.below hB17
    replace OG' := OG'.below hB17
    replace RG' := ownsRow_below RG' hB17
    replace hBB := below_one hBB hB17
    clear hB17
    obtain ⟨n0, n1, n2, n3⟩ := FG.c
    go_wp2_with fail
    refine (heldIssuer_any _ t 1 _ hSE (by omega) OG'.a).mono ?_
    rintro e w18a ⟨rfl, hB18⟩
    rw [← HC2.out]
    replace RG' := ownsRow_below RG' hB18
    replace hBB := below_one hBB hB18
    clear hB18 n0 n1 n2 n3
    go_wp2_with fail
    refine (heldLinkS_to _ rs.length c2 _ (by omega) hc3 (LkS.own (rs := mkKs c2 rs.length) (by rw [mkKs_len]; exact RG'))).mono ?_
    rintro e w18 ⟨rfl, hB18⟩
    rw [← HC3.out]
    replace hBB := below_one hBB hB18
    clear hB18
    go_wp2_with fail
    go_ret
    exact ⟨rfl, hBB⟩
  · have HU := hid (show leftI 1048576 s = -1 from if_neg (by omega))
    go_enter Tryz.func4, Tryz.ntmps4
    go_wp2_with fail
    generalize w.alloc (.cells #[.slice aw s.ws.length cw, .int .i64 s.nx, .slice ar s.rv.length cr, .slice ag s.sg.length cg] 26) = W0 at *
    refine (szIssuer_any _ s _ hf (hA.below hB0)).mono ?_
    rintro e w1 ⟨rfl, hB1⟩
    rw [HU.out]
    have hBB1 := below_one hB0 hB1
    clear hB1 hB0
    go_wp2_with fail
    go_ret
    exact ⟨rfl, hBB1⟩

end Go.Proofs.YtodkpoppgfomeaaGreatDoor

namespace Go.Proofs.YtodkpoppgfomeaaGreatDoor.fnExactHopToken
open Go.ChangeShapes Go.WideShapes Go.ChangeAt Go.RowKit Go.Joins Go.Deep Go.Proofs.YtodkpoppgfomeaaGreatDoor
open Go.ChangeMaps (open_string shut_string)

theorem laidOut : laidOutB Tryz.prog = true := by kernel_rfl

set_option maxRecDepth 100000 in
theorem contract (H : Type) (enc : TypeId × Value → H) (W : World) (base : Nat) (args : Array Value) (ds gs : List (DataW H)) (before : List MemPlace)
    (hval : ∀ (j : Nat) t v, Tryz.f4.params[j]? = some t → args[j]? = some v → Value.okWide Tryz.prog W .any base t v)
    (hW : DataW.Whole enc Tryz.prog Tryz.f4.params.toList Rows.fnExactHopTokenSpec.vars false W args.toList ds gs before) (hL : laidMetH Tryz.prog Rows.fnExactHopTokenRow.laid W) :
    Calls Tryz.prog 4 args W fun e W' => ∃ v, e = .returned v ∧ Rows.fnExactHopTokenSpec.post enc Tryz.prog Tryz.f4 false true false false W args v W' := by
  have hW' := hW
  obtain ⟨p, q, hA0, hV, rfl, _, _⟩ := hW
  have hA : DataW.TrodAll enc Tryz.prog W 0 (fun _ => true) true Tryz.f4.params.toList args.toList ds p := hA0
  rw [Tryz.params4] at hA hval
  obtain ⟨v0, vs0, d0, ds0, p0, q0, hargs, rfl, rfl, h0, r0⟩ := trodAll_cons hA
  obtain ⟨v1, vs1, d1, ds1, p1, q1, rfl, rfl, rfl, h1, r1⟩ := trodAll_cons r0
  obtain ⟨v2, vs2, d2, ds2, p2, q2, rfl, rfl, rfl, h2, r2⟩ := trodAll_cons r1
  obtain ⟨v3, vs3, d3, ds3, p3, q3, rfl, rfl, rfl, h3, r3⟩ := trodAll_cons r2
  obtain ⟨v4, vs4, d4, ds4, p4, q4, rfl, rfl, rfl, h4, r4⟩ := trodAll_cons r3
  obtain ⟨rfl, rfl, rfl⟩ := trodAll_nil r4
  obtain rfl : args = #[v0, v1, v2, v3, v4] := by cases args; simp_all
  have hVN : DataW.TrodVars enc Tryz.prog W (fun _ => true) Rows.fnExactHopTokenSpec.vars gs q := hV
  obtain ⟨b0, b1, b2, b3, rfl⟩ : ∃ b0 b1 b2 b3, gs = [b0, b1, b2, b3] := by
    clear hVN hW'
    match gs, hV with
    | [b0, b1, b2, b3], _ => exact ⟨b0, b1, b2, b3, rfl⟩
    | [], h => exact absurd h (by rintro h; exact h)
    | [b0], h => exact absurd h (by rintro ⟨_, _, _, _, _, _, _, _, _, _, h, _⟩; exact h)
    | [b0, b1], h => exact absurd h (by rintro ⟨_, _, _, _, _, _, _, _, _, _, ⟨_, _, _, _, _, _, _, _, _, _, h, _⟩, _⟩; exact h)
    | [b0, b1, b2], h => exact absurd h (by rintro ⟨_, _, _, _, _, _, _, _, _, _, ⟨_, _, _, _, _, _, _, _, _, _, ⟨_, _, _, _, _, _, _, _, _, _, h, _⟩, _⟩, _⟩; exact h)
    | b0 :: b1 :: b2 :: b3 :: _ :: _, h => exact absurd h (by rintro ⟨_, _, _, _, _, _, _, _, _, _, ⟨_, _, _, _, _, _, _, _, _, _, ⟨_, _, _, _, _, _, _, _, _, _, ⟨_, _, _, _, _, _, _, _, _, _, h, _⟩, _⟩, _⟩, _⟩; exact h)
  clear hV
  have k0 := h0
  have lt0 : ∀ x ∈ p0, x.block < W.heap.size := by obtain ⟨m, hm⟩ := k0; exact DataW.trod_lt m _ _ _ hm
  obtain ⟨a0, w0, f0⟩ := openIs (hval 0 26 v0 rfl rfl) h0
  have k1 := h1
  have lt1 : ∀ x ∈ p1, x.block < W.heap.size := by obtain ⟨m, hm⟩ := k1; exact DataW.trod_lt m _ _ _ hm
  obtain ⟨a1, n1, c1, rfl⟩ := okWide_slice Tryz.underlying40 (hval 1 40 v1 rfl rfl)
  obtain ⟨l1, w1⟩ := openLkS h1
  have k2 := h2
  have lt2 : ∀ x ∈ p2, x.block < W.heap.size := by obtain ⟨m, hm⟩ := k2; exact DataW.trod_lt m _ _ _ hm
  obtain ⟨a2, rfl, _, _, w2⟩ := open_string Tryz.underlying9 (hval 2 9 v2 rfl rfl) h2
  have k3 := h3
  have lt3 : ∀ x ∈ p3, x.block < W.heap.size := by obtain ⟨m, hm⟩ := k3; exact DataW.trod_lt m _ _ _ hm
  obtain ⟨a3, rfl, _, _, w3⟩ := open_int Tryz.underlying3 (hval 3 3 v3 rfl rfl) h3
  have k4 := h4
  have lt4 : ∀ x ∈ p4, x.block < W.heap.size := by obtain ⟨m, hm⟩ := k4; exact DataW.trod_lt m _ _ _ hm
  obtain ⟨a4, rfl, _, _, w4⟩ := open_int Tryz.underlying3 (hval 4 3 v4 rfl rfl) h4
  obtain ⟨⟨e0, e1, e2, e3, hE⟩, hT⟩ := fltT_of hL
  clear hA0
  refine (hopLaw v0 a0 a1 n1 c1 l1 a2 a3 a4 e0 e1 e2 e3 W w0 f0 w1 w2 hE hT).mono fun e W' ⟨he, bel⟩ => ?_
  subst he
  exact ⟨_, rfl, _, _, _, [], _, _, hW', trodAll_mk1 (shut_bool Tryz.underlying4 _), (trodAll_cons_mk (Below.trod laidOut (by kernel_rfl) (of_decide_eq_true (by kernel_rfl)) k0 bel lt0) (trodAll_cons_mk (Below.trod laidOut (by kernel_rfl) (of_decide_eq_true (by kernel_rfl)) k1 bel lt1) (trodAll_cons_mk (Below.trod laidOut (by kernel_rfl) (of_decide_eq_true (by kernel_rfl)) k2 bel lt2) (trodAll_cons_mk (Below.trod laidOut (by kernel_rfl) (of_decide_eq_true (by kernel_rfl)) k3 bel lt3) (trodAll_cons_mk (Below.trod laidOut (by kernel_rfl) (of_decide_eq_true (by kernel_rfl)) k4 bel lt4) trodAll_mk0))))), Below.trodVars laidOut bel (by kernel_rfl) hVN, bel.frame _, fun h => by cases h⟩

set_option maxRecDepth 100000 in
theorem lifted (os : Os) (started : os.Started) (H : Type) (enc : TypeId × Value → H) (F : Stop.Interp) :
    ReturnsInHanded {} Tryz.checked os 4 .any ((OpenSpec.ofChange Rows.fnExactHopTokenSpec).preRow enc Tryz.prog Tryz.f4 Rows.fnExactHopTokenRow.domain false Rows.fnExactHopTokenRow.laid) (((OpenSpec.ofChange Rows.fnExactHopTokenSpec).at F).post enc Tryz.prog Tryz.f4 false true false false) := by
  refine returnsInHanded_of_row (C := Tryz.checked) (s := OpenSpec.ofChange Rows.fnExactHopTokenSpec) flt_own started (by kernel_rfl) Tryz.func4
    (witness_row_at (enc := enc) (C := Tryz.checked) false (fltTWorld os) #[.agg #[.slice none 0 0, .int .i64 0, .slice none 0 0, .slice none 0 0], .slice none 0 0, .string ByteArray.empty, .int .i64 0, .int .i64 0] (World.layVars_os _ _ _) (by kernel_rfl) (by kernel_rfl) (by kernel_rfl)
      (OpenSpec.preRow_of_B rfl 8 (by kernel_rfl) (by kernel_rfl) (fltT_met os _))) ?_
  intro W base args ds gs before hval hW _ _ _ hL _ _
  exact contract H enc W base args ds gs before hval hW hL

theorem said : Rows.FnExactHopTokenSaid :=
  OpenClaim.holds_of_cond 4 Tryz.f4 rfl rfl rfl rfl rfl rfl rfl ⟨rfl, rfl, rfl, rfl, rfl⟩ rfl rfl rfl rfl rfl (by kernel_rfl) Tryz.func4 (by kernel_rfl)
    (of_decide_eq_true (by kernel_rfl)) (by unfold Func.isWrapper; first | (rw [if_pos (by decide +kernel)]; kernel_rfl) | (rw [if_neg (by decide +kernel)]; exact ⟨rfl, rfl⟩))
    (fun os started H enc _ F => by rw [OpenClaim.pre_eq_preRow]; exact lifted os started H enc F)

theorem plain (f : FuncId) (fn : Func) (hf : Tryz.pinned.checked.prog.funcNamed "loop.example/g00167/laws.FnExactHopToken" = some f) (hfn : Tryz.pinned.checked.prog.funcs[f]? = some fn) :
    Rows.fnExactHopTokenCard.stood.looks = Tryz.pinned.checked.prog.looks [] ∧ ∀ (j : Nat) t, fn.params[j]? = some t → Tryz.pinned.checked.prog.wantsStandIn t = false := by
  obtain rfl : f = 4 := Option.some.inj ((show Tryz.prog.funcNamed "loop.example/g00167/laws.FnExactHopToken" = some 4 by kernel_rfl).symm.trans hf) |>.symm
  obtain rfl : fn = Tryz.f4 := (Option.some.inj (Tryz.func4.symm.trans hfn)).symm
  refine ⟨by kernel_rfl, fun j t ht => ?_⟩
  rw [Tryz.params4] at ht
  have hm := Array.mem_of_getElem? ht
  have hall : ∀ t, t ∈ #[26, 40, 9, 3, 3] → Tryz.prog.wantsStandIn t = false := by
    have h : (#[26, 40, 9, 3, 3] : Array TypeId).all (fun t => Tryz.prog.wantsStandIn t == false) = true := by kernel_rfl
    intro t ht
    have := (Array.all_eq_true_iff_forall_mem).1 h t ht
    simpa using this
  exact hall t hm

theorem card : Rows.FnExactHopTokenCardSaid :=
  Claim7.holds_tied_plain_at .later [] _ _ _ _ said (fun _ h => by cases h) (by kernel_rfl) (fun _ h => by cases h) fnExactHopToken_row_tie rfl ⟨rfl, rfl⟩ (by kernel_rfl) rfl plain (by kernel_rfl)

end Go.Proofs.YtodkpoppgfomeaaGreatDoor.fnExactHopToken
namespace Go.Proofs.YtodkpoppgfomeaaGreatDoor
theorem fnExactHopToken_holds : Rows.FnExactHopTokenCardSaid := fnExactHopToken.card
#print axioms fnExactHopToken_holds
end Go.Proofs.YtodkpoppgfomeaaGreatDoor
