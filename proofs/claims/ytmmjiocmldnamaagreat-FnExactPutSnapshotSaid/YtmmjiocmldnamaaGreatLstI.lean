/-
  Chapter 5: lists of versions by the program: when one is good, where a number stands, copies, SnapshotAt.
-/
import Derived.Test.YtmmjiocmldnamaaGreatPlainR
import Derived.Test.YtmmjiocmldnamaaGreatSnJ
import Derived.Test.YtmmjiocmldnamaaGreatDfV
import Derived.Test.YtmmjiocmldnamaaGreatTake
namespace Go.Proofs.YtmmjiocmldnamaaGreat
open Go.RowKit Go.Shelf

set_option maxHeartbeats 8000000 in
set_option maxRecDepth 100000 in
theorem goodVersions_any (v : Value) (ss : List Sn) (w : World) (hm : shortS ss) (hr : SsR w v ss) :
    Calls Tryz.prog 43 #[v] w fun e w' => e = .returned (.bool (lsB ss)) ∧ Below w.heap.size w w' := by
  obtain ⟨a, cap, rfl⟩ := hr.len
  have hm1 := hm.1
  by_cases h20 : ss.length ≤ 20
  case neg =>
    have HR := hid (lsB_no1 h20)
    have d0 : (20 : Int) < (ss.length : Int) := by omega
    go_enter Tryz.func43, Tryz.ntmps43
    go_wp2
    go_ret
    exact ⟨ret_bool HR.out.symm, Below.refl _ _⟩
  have d0 : ¬ (20 : Int) < (ss.length : Int) := by omega
  go_enter Tryz.func43, Tryz.ntmps43
  go_wp2
  go_loopw [10] (fun i wr => ∃ n : Nat, n ≤ ss.length ∧ i = .int .i64 n ∧ (∀ j, j < n → gdB ss j = true ∧ nexB ss j = true) ∧ Below w.heap.size w wr) (fun i _ => ss.length - (intOf i).toNat)
  case atStart => exact ⟨0, Nat.zero_le _, rfl, fun _ h => absurd h (Nat.not_lt_zero _), Below.refl _ _⟩
  case round =>
    obtain ⟨n, hnl, rfl, hk, hB⟩ := hrel
    have HK := hid hk
    clear hk
    by_cases hlt : n < ss.length
    · obtain ⟨b, off, xp, cp, xr, cr, rfl, hb, hcap, q0, q1, q2, y1, y2⟩ := (hr.below hB).at hlt
      have hsh := hm.2 ss[n] (List.getElem_mem hlt)
      have HNG := hid (fun h => lsB_no2 (ss := ss) hlt h)
      have HNX := hid (fun h => lsB_no3 (ss := ss) hlt h)
      have HGA := hid (gdB_at hlt)
      have HY := hid (show gdB ss n = true → nexB ss n = true → ∀ j, j < n + 1 → gdB ss j = true ∧ nexB ss j = true from fun hh hu j hjn => (by
        by_cases e : j = n
        · subst e; exact ⟨hh, hu⟩
        · exact HK.out j (by omega)))
      rcases Nat.eq_zero_or_pos n with rfl | hpos
      · rw [Nat.zero_mul, Nat.add_zero] at q0 q1 q2
        have HZ := hid (show nexB ss 0 = true from rfl)
        generalize ss[0] = s at *
        have hBw : Below wr.heap.size wr (wr.alloc (.cells #[.int .i64 s.num, .slice xp s.pol.length cp, .slice xr s.rv.length cr] 48)) := (Below.refl _ wr).alloc (Nat.le_refl _) _
        have F := Three.new wr (.int .i64 s.num) (.slice xp s.pol.length cp) (.slice xr s.rv.length cr) 48
        have hBW := below_one hB hBw
        have z1 := y1.below hBw
        have z2 := y2.below hBw
        have hbW := Nat.lt_of_lt_of_le hb hBw.size
        obtain ⟨x0, x1, x2⟩ := F.c
        clear y1 y2 hBw
        cases hg : snB s
        · have HR := hid (HNG.out (by rw [HGA.out]; exact hg))
          go_wp2_with fail
          generalize wr.alloc (.cells #[.int .i64 s.num, .slice xp s.pol.length cp, .slice xr s.rv.length cr] 48) = Wa at *
          refine wp_region_held_drew (S := fun w' => w'.cell? ⟨wr.heap.size, 0, none⟩ = some (.int .i64 s.num) ∧ w'.cell? ⟨wr.heap.size, 1, none⟩ = some (.slice xp s.pol.length cp) ∧ w'.cell? ⟨wr.heap.size, 2, none⟩ = some (.slice xr s.rv.length cr)) (by kernel_rfl) ?_ (fun hHeld => ?_)
          · go_keep
          refine takeW 0 (v := ?v8) rfl (by kernel_rfl) (by kernel_rfl) (by kernel_rfl) (fun _ _ _ h => h) (by rfl) (by assumption) ?hy8 ?rest8
          case hy8 => intro w' hSw; (try dsimp only at hSw); go_simp; try with_reducible rfl
          try simp only [Act.put, List.setIfInBounds_toArray, List.set_cons_zero, List.set_cons_succ]
          refine takeC 1 (by kernel_rfl) rfl (fun K hK => ?_)
          go_simp
          refine (implGoodSnapshot_any _ s _ hsh (by exact ⟨_, _, rfl, z1.below (Below.refl _ _).drew, z2.below (Below.refl _ _).drew⟩)).mono ?_; rintro e w3 ⟨he, hB3⟩; rw [hg] at he; subst he; have hcn := fun o => hB3.cell (p := ⟨wr.heap.size, o, none⟩) (by exact F.lt); have hcb := fun o => hB3.cell (p := ⟨b, o, none⟩) (by exact hbW)
          refine hK.out _ _ ?_ (fun hHeld => ?_)
          · go_keep
          clear hK K
          try simp only [Act.put, List.setIfInBounds_toArray, List.set_cons_zero, List.set_cons_succ]
          refine takeW 2 (v := ?v9) rfl (by kernel_rfl) (by kernel_rfl) (by kernel_rfl) (fun _ _ _ h => h) (by rfl) (by assumption) ?hy9 ?rest9
          case hy9 => intro w' hSw; (try dsimp only at hSw); go_simp; try with_reducible rfl
          try simp only [Act.put, List.setIfInBounds_toArray, List.set_cons_zero, List.set_cons_succ]
          refine takeW 3 (v := ?v10) rfl (by kernel_rfl) (by kernel_rfl) (by kernel_rfl) (fun _ _ _ h => h) (by rfl) (by assumption) ?hy10 ?rest10
          case hy10 => intro w' hSw; (try dsimp only at hSw); go_simp; try with_reducible rfl
          try simp only [Act.put, List.setIfInBounds_toArray, List.set_cons_zero, List.set_cons_succ]
          refine takeX 4 rfl (by kernel_rfl) (by kernel_rfl) (by kernel_rfl) (fun _ _ _ h => h) (by rfl) (by assumption) ?_
          try simp only [Act.put, List.setIfInBounds_toArray, List.set_cons_zero, List.set_cons_succ]
          refine takeX 5 rfl (by kernel_rfl) (by kernel_rfl) (by kernel_rfl) (fun _ _ _ h => h) (by rfl) (by assumption) ?_
          try simp only [Act.put, List.setIfInBounds_toArray, List.set_cons_zero, List.set_cons_succ]
          refine takeX 6 rfl (by kernel_rfl) (by kernel_rfl) (by kernel_rfl) (fun _ _ _ h => h) (by rfl) (by assumption) ?_
          try simp only [Act.put, List.setIfInBounds_toArray, List.set_cons_zero, List.set_cons_succ]
          refine takeX 7 rfl (by kernel_rfl) (by kernel_rfl) (by kernel_rfl) (fun _ _ _ h => h) (by rfl) (by assumption) ?_
          try simp only [Act.put, List.setIfInBounds_toArray, List.set_cons_zero, List.set_cons_succ]
          refine takeX 8 rfl (by kernel_rfl) (by kernel_rfl) (by kernel_rfl) (fun _ _ _ h => h) (by rfl) (by assumption) ?_
          try simp only [Act.put, List.setIfInBounds_toArray, List.set_cons_zero, List.set_cons_succ]
          refine takeX 9 rfl (by kernel_rfl) (by kernel_rfl) (by kernel_rfl) (fun _ _ _ h => h) (by rfl) (by assumption) ?_
          try simp only [Act.put, List.setIfInBounds_toArray, List.set_cons_zero, List.set_cons_succ]
          refine takeX 10 rfl (by kernel_rfl) (by kernel_rfl) (by kernel_rfl) (fun _ _ _ h => h) (by rfl) (by assumption) ?_
          try simp only [Act.put, List.setIfInBounds_toArray, List.set_cons_zero, List.set_cons_succ]
          refine takeX 11 rfl (by kernel_rfl) (by kernel_rfl) (by kernel_rfl) (fun _ _ _ h => h) (by rfl) (by assumption) ?_
          try simp only [Act.put, List.setIfInBounds_toArray, List.set_cons_zero, List.set_cons_succ]
          refine takeX 12 rfl (by kernel_rfl) (by kernel_rfl) (by kernel_rfl) (fun _ _ _ h => h) (by rfl) (by assumption) ?_
          try simp only [Act.put, List.setIfInBounds_toArray, List.set_cons_zero, List.set_cons_succ]
          refine takeX 13 rfl (by kernel_rfl) (by kernel_rfl) (by kernel_rfl) (fun _ _ _ h => h) (by rfl) (by assumption) ?_
          try simp only [Act.put, List.setIfInBounds_toArray, List.set_cons_zero, List.set_cons_succ]
          refine takeX 14 rfl (by kernel_rfl) (by kernel_rfl) (by kernel_rfl) (fun _ _ _ h => h) (by rfl) (by assumption) ?_
          try simp only [Act.put, List.setIfInBounds_toArray, List.set_cons_zero, List.set_cons_succ]
          refine takeX 15 rfl (by kernel_rfl) (by kernel_rfl) (by kernel_rfl) (fun _ _ _ h => h) (by rfl) (by assumption) ?_
          try simp only [Act.put, List.setIfInBounds_toArray, List.set_cons_zero, List.set_cons_succ]
          refine takeX 16 rfl (by kernel_rfl) (by kernel_rfl) (by kernel_rfl) (fun _ _ _ h => h) (by rfl) (by assumption) ?_
          try simp only [Act.put, List.setIfInBounds_toArray, List.set_cons_zero, List.set_cons_succ]
          refine takeX 17 rfl (by kernel_rfl) (by kernel_rfl) (by kernel_rfl) (fun _ _ _ h => h) (by rfl) (by assumption) ?_
          try simp only [Act.put, List.setIfInBounds_toArray, List.set_cons_zero, List.set_cons_succ]
          refine takeW 18 (v := ?v11) rfl (by kernel_rfl) (by kernel_rfl) (by kernel_rfl) (fun _ _ _ h => h) (by rfl) (by assumption) ?hy11 ?rest11
          case hy11 => intro w' hSw; (try dsimp only at hSw); go_simp; try with_reducible rfl
          try simp only [Act.put, List.setIfInBounds_toArray, List.set_cons_zero, List.set_cons_succ]
          refine wpAnyH_done (by kernel_rfl) ?_ _
          have hBB3 := below_one hBW (below_drew1 hB3)
          clear hcn hcb hB3 hHeld x0 x1 x2 q0 q1 q2
          go_wp2_with fail
          go_ret
          exact ⟨ret_bool HR.out.symm, hBB3⟩
        · have HR := hid (HY.out (by rw [HGA.out]; exact hg) HZ.out)
          go_wp2_with fail
          generalize wr.alloc (.cells #[.int .i64 s.num, .slice xp s.pol.length cp, .slice xr s.rv.length cr] 48) = Wa at *
          refine wp_region_held_drew (S := fun w' => w'.cell? ⟨wr.heap.size, 0, none⟩ = some (.int .i64 s.num) ∧ w'.cell? ⟨wr.heap.size, 1, none⟩ = some (.slice xp s.pol.length cp) ∧ w'.cell? ⟨wr.heap.size, 2, none⟩ = some (.slice xr s.rv.length cr)) (by kernel_rfl) ?_ (fun hHeld => ?_)
          · go_keep
          refine takeW 0 (v := ?v12) rfl (by kernel_rfl) (by kernel_rfl) (by kernel_rfl) (fun _ _ _ h => h) (by rfl) (by assumption) ?hy12 ?rest12
          case hy12 => intro w' hSw; (try dsimp only at hSw); go_simp; try with_reducible rfl
          try simp only [Act.put, List.setIfInBounds_toArray, List.set_cons_zero, List.set_cons_succ]
          refine takeC 1 (by kernel_rfl) rfl (fun K hK => ?_)
          go_simp
          refine (implGoodSnapshot_any _ s _ hsh (by exact ⟨_, _, rfl, z1.below (Below.refl _ _).drew, z2.below (Below.refl _ _).drew⟩)).mono ?_; rintro e w3 ⟨he, hB3⟩; rw [hg] at he; subst he; have hcn := fun o => hB3.cell (p := ⟨wr.heap.size, o, none⟩) (by exact F.lt); have hcb := fun o => hB3.cell (p := ⟨b, o, none⟩) (by exact hbW)
          refine hK.out _ _ ?_ (fun hHeld => ?_)
          · go_keep
          clear hK K
          try simp only [Act.put, List.setIfInBounds_toArray, List.set_cons_zero, List.set_cons_succ]
          refine takeW 2 (v := ?v13) rfl (by kernel_rfl) (by kernel_rfl) (by kernel_rfl) (fun _ _ _ h => h) (by rfl) (by assumption) ?hy13 ?rest13
          case hy13 => intro w' hSw; (try dsimp only at hSw); go_simp; try with_reducible rfl
          try simp only [Act.put, List.setIfInBounds_toArray, List.set_cons_zero, List.set_cons_succ]
          refine takeW 3 (v := ?v14) rfl (by kernel_rfl) (by kernel_rfl) (by kernel_rfl) (fun _ _ _ h => h) (by rfl) (by assumption) ?hy14 ?rest14
          case hy14 => intro w' hSw; (try dsimp only at hSw); go_simp; try with_reducible rfl
          try simp only [Act.put, List.setIfInBounds_toArray, List.set_cons_zero, List.set_cons_succ]
          refine takeW 4 (v := ?v15) rfl (by kernel_rfl) (by kernel_rfl) (by kernel_rfl) (fun _ _ _ h => h) (by rfl) (by assumption) ?hy15 ?rest15
          case hy15 => intro w' hSw; (try dsimp only at hSw); go_simp; try with_reducible rfl
          try simp only [Act.put, List.setIfInBounds_toArray, List.set_cons_zero, List.set_cons_succ]
          refine takeW 5 (v := ?v16) rfl (by kernel_rfl) (by kernel_rfl) (by kernel_rfl) (fun _ _ _ h => h) (by rfl) (by assumption) ?hy16 ?rest16
          case hy16 => intro w' hSw; (try dsimp only at hSw); go_simp; try with_reducible rfl
          try simp only [Act.put, List.setIfInBounds_toArray, List.set_cons_zero, List.set_cons_succ]
          refine takeW 6 (v := ?v17) rfl (by kernel_rfl) (by kernel_rfl) (by kernel_rfl) (fun _ _ _ h => h) (by rfl) (by assumption) ?hy17 ?rest17
          case hy17 => intro w' hSw; (try dsimp only at hSw); go_simp; try with_reducible rfl
          try simp only [Act.put, List.setIfInBounds_toArray, List.set_cons_zero, List.set_cons_succ]
          refine takeX 7 rfl (by kernel_rfl) (by kernel_rfl) (by kernel_rfl) (fun _ _ _ h => h) (by rfl) (by assumption) ?_
          try simp only [Act.put, List.setIfInBounds_toArray, List.set_cons_zero, List.set_cons_succ]
          refine takeX 8 rfl (by kernel_rfl) (by kernel_rfl) (by kernel_rfl) (fun _ _ _ h => h) (by rfl) (by assumption) ?_
          try simp only [Act.put, List.setIfInBounds_toArray, List.set_cons_zero, List.set_cons_succ]
          refine takeX 9 rfl (by kernel_rfl) (by kernel_rfl) (by kernel_rfl) (fun _ _ _ h => h) (by rfl) (by assumption) ?_
          try simp only [Act.put, List.setIfInBounds_toArray, List.set_cons_zero, List.set_cons_succ]
          refine takeX 10 rfl (by kernel_rfl) (by kernel_rfl) (by kernel_rfl) (fun _ _ _ h => h) (by rfl) (by assumption) ?_
          try simp only [Act.put, List.setIfInBounds_toArray, List.set_cons_zero, List.set_cons_succ]
          refine takeX 11 rfl (by kernel_rfl) (by kernel_rfl) (by kernel_rfl) (fun _ _ _ h => h) (by rfl) (by assumption) ?_
          try simp only [Act.put, List.setIfInBounds_toArray, List.set_cons_zero, List.set_cons_succ]
          refine takeX 12 rfl (by kernel_rfl) (by kernel_rfl) (by kernel_rfl) (fun _ _ _ h => h) (by rfl) (by assumption) ?_
          try simp only [Act.put, List.setIfInBounds_toArray, List.set_cons_zero, List.set_cons_succ]
          refine takeX 13 rfl (by kernel_rfl) (by kernel_rfl) (by kernel_rfl) (fun _ _ _ h => h) (by rfl) (by assumption) ?_
          try simp only [Act.put, List.setIfInBounds_toArray, List.set_cons_zero, List.set_cons_succ]
          refine takeX 14 rfl (by kernel_rfl) (by kernel_rfl) (by kernel_rfl) (fun _ _ _ h => h) (by rfl) (by assumption) ?_
          try simp only [Act.put, List.setIfInBounds_toArray, List.set_cons_zero, List.set_cons_succ]
          refine takeX 15 rfl (by kernel_rfl) (by kernel_rfl) (by kernel_rfl) (fun _ _ _ h => h) (by rfl) (by assumption) ?_
          try simp only [Act.put, List.setIfInBounds_toArray, List.set_cons_zero, List.set_cons_succ]
          refine takeX 16 rfl (by kernel_rfl) (by kernel_rfl) (by kernel_rfl) (fun _ _ _ h => h) (by rfl) (by assumption) ?_
          try simp only [Act.put, List.setIfInBounds_toArray, List.set_cons_zero, List.set_cons_succ]
          refine takeW 17 (v := ?v18) rfl (by kernel_rfl) (by kernel_rfl) (by kernel_rfl) (fun _ _ _ h => h) (by rfl) (by assumption) ?hy18 ?rest18
          case hy18 => intro w' hSw; (try dsimp only at hSw); go_simp; try with_reducible rfl
          try simp only [Act.put, List.setIfInBounds_toArray, List.set_cons_zero, List.set_cons_succ]
          refine takeW 18 (v := ?v19) rfl (by kernel_rfl) (by kernel_rfl) (by kernel_rfl) (fun _ _ _ h => h) (by rfl) (by assumption) ?hy19 ?rest19
          case hy19 => intro w' hSw; (try dsimp only at hSw); go_simp; try with_reducible rfl
          try simp only [Act.put, List.setIfInBounds_toArray, List.set_cons_zero, List.set_cons_succ]
          refine wpAnyH_done (by kernel_rfl) ?_ _
          have hBB3 := below_one hBW (below_drew1 hB3)
          clear hcn hcb hB3 hHeld x0 x1 x2 q0 q1 q2
          go_wp2_with fail
          go_roundw
          case rel => first | exact ⟨1, by omega, by go_num, HR.out, hBB3⟩ | ((repeat apply Exists.intro); exact ⟨⟨1, by omega, by go_num, HR.out, hBB3⟩, rfl⟩)
          case measure => simp [intOf]; omega
      · obtain ⟨m, hm2⟩ : ∃ m, n = m + 1 := ⟨n - 1, by omega⟩
        obtain ⟨b', off', _, _, _, _, hbo, _, _, p0, hjk⟩ := (hr.below hB).at (i := m) (by omega)
        clear hjk
        cases hbo
        have HI := hid (show nexB ss n = (ss[n].num == (ss[m]'(by omega)).num + 1) by subst hm2; exact nexB_succ hlt)
        have hpn := snB_num (s := ss[m]'(by omega)) (by have := (HK.out m (by omega)).1; rwa [gdB_at (by omega)] at this)
        have hw1 : IntKind.i64.wrap ((n : Int) - 1) = (m : Int) := by rw [IntKind.wrap_i64]; omega
        have dn : decide (0 < (n : Int)) = true := by simp; omega
        have dn2 : decide (0 < n) = true := by simp; omega
        have hl2 : (m : Int) < (ss.length : Int) := by omega
        generalize ss[n] = s at *
        generalize (ss[m]'(by omega)).num = p at *
        have hw2 : IntKind.i64.wrap (p + 1) = p + 1 := by rw [IntKind.wrap_i64]; omega
        clear hm2 hpos
        have hBw : Below wr.heap.size wr (wr.alloc (.cells #[.int .i64 s.num, .slice xp s.pol.length cp, .slice xr s.rv.length cr] 48)) := (Below.refl _ wr).alloc (Nat.le_refl _) _
        have F := Three.new wr (.int .i64 s.num) (.slice xp s.pol.length cp) (.slice xr s.rv.length cr) 48
        have hBW := below_one hB hBw
        have z1 := y1.below hBw
        have z2 := y2.below hBw
        have hbW := Nat.lt_of_lt_of_le hb hBw.size
        have pW := (hBw.cell (p := ⟨b, off + m * 3, none⟩) hb).trans p0
        obtain ⟨x0, x1, x2⟩ := F.c
        clear y1 y2 hBw p0
        cases hg : snB s
        · have HR := hid (HNG.out (by rw [HGA.out]; exact hg))
          go_wp2_with fail
          generalize wr.alloc (.cells #[.int .i64 s.num, .slice xp s.pol.length cp, .slice xr s.rv.length cr] 48) = Wa at *
          refine wp_region_held_drew (S := fun w' => w'.cell? ⟨wr.heap.size, 0, none⟩ = some (.int .i64 s.num) ∧ w'.cell? ⟨wr.heap.size, 1, none⟩ = some (.slice xp s.pol.length cp) ∧ w'.cell? ⟨wr.heap.size, 2, none⟩ = some (.slice xr s.rv.length cr)) (by kernel_rfl) ?_ (fun hHeld => ?_)
          · go_keep
          refine takeW 0 (v := ?v20) rfl (by kernel_rfl) (by kernel_rfl) (by kernel_rfl) (fun _ _ _ h => h) (by rfl) (by assumption) ?hy20 ?rest20
          case hy20 => intro w' hSw; (try dsimp only at hSw); go_simp; try with_reducible rfl
          try simp only [Act.put, List.setIfInBounds_toArray, List.set_cons_zero, List.set_cons_succ]
          refine takeC 1 (by kernel_rfl) rfl (fun K hK => ?_)
          go_simp
          refine (implGoodSnapshot_any _ s _ hsh (by exact ⟨_, _, rfl, z1.below (Below.refl _ _).drew, z2.below (Below.refl _ _).drew⟩)).mono ?_; rintro e w3 ⟨he, hB3⟩; rw [hg] at he; subst he; have hcn := fun o => hB3.cell (p := ⟨wr.heap.size, o, none⟩) (by exact F.lt); have hcb := fun o => hB3.cell (p := ⟨b, o, none⟩) (by exact hbW)
          refine hK.out _ _ ?_ (fun hHeld => ?_)
          · go_keep
          clear hK K
          try simp only [Act.put, List.setIfInBounds_toArray, List.set_cons_zero, List.set_cons_succ]
          refine takeW 2 (v := ?v21) rfl (by kernel_rfl) (by kernel_rfl) (by kernel_rfl) (fun _ _ _ h => h) (by rfl) (by assumption) ?hy21 ?rest21
          case hy21 => intro w' hSw; (try dsimp only at hSw); go_simp; try with_reducible rfl
          try simp only [Act.put, List.setIfInBounds_toArray, List.set_cons_zero, List.set_cons_succ]
          refine takeW 3 (v := ?v22) rfl (by kernel_rfl) (by kernel_rfl) (by kernel_rfl) (fun _ _ _ h => h) (by rfl) (by assumption) ?hy22 ?rest22
          case hy22 => intro w' hSw; (try dsimp only at hSw); go_simp; try with_reducible rfl
          try simp only [Act.put, List.setIfInBounds_toArray, List.set_cons_zero, List.set_cons_succ]
          refine takeX 4 rfl (by kernel_rfl) (by kernel_rfl) (by kernel_rfl) (fun _ _ _ h => h) (by rfl) (by assumption) ?_
          try simp only [Act.put, List.setIfInBounds_toArray, List.set_cons_zero, List.set_cons_succ]
          refine takeX 5 rfl (by kernel_rfl) (by kernel_rfl) (by kernel_rfl) (fun _ _ _ h => h) (by rfl) (by assumption) ?_
          try simp only [Act.put, List.setIfInBounds_toArray, List.set_cons_zero, List.set_cons_succ]
          refine takeX 6 rfl (by kernel_rfl) (by kernel_rfl) (by kernel_rfl) (fun _ _ _ h => h) (by rfl) (by assumption) ?_
          try simp only [Act.put, List.setIfInBounds_toArray, List.set_cons_zero, List.set_cons_succ]
          refine takeX 7 rfl (by kernel_rfl) (by kernel_rfl) (by kernel_rfl) (fun _ _ _ h => h) (by rfl) (by assumption) ?_
          try simp only [Act.put, List.setIfInBounds_toArray, List.set_cons_zero, List.set_cons_succ]
          refine takeX 8 rfl (by kernel_rfl) (by kernel_rfl) (by kernel_rfl) (fun _ _ _ h => h) (by rfl) (by assumption) ?_
          try simp only [Act.put, List.setIfInBounds_toArray, List.set_cons_zero, List.set_cons_succ]
          refine takeX 9 rfl (by kernel_rfl) (by kernel_rfl) (by kernel_rfl) (fun _ _ _ h => h) (by rfl) (by assumption) ?_
          try simp only [Act.put, List.setIfInBounds_toArray, List.set_cons_zero, List.set_cons_succ]
          refine takeX 10 rfl (by kernel_rfl) (by kernel_rfl) (by kernel_rfl) (fun _ _ _ h => h) (by rfl) (by assumption) ?_
          try simp only [Act.put, List.setIfInBounds_toArray, List.set_cons_zero, List.set_cons_succ]
          refine takeX 11 rfl (by kernel_rfl) (by kernel_rfl) (by kernel_rfl) (fun _ _ _ h => h) (by rfl) (by assumption) ?_
          try simp only [Act.put, List.setIfInBounds_toArray, List.set_cons_zero, List.set_cons_succ]
          refine takeX 12 rfl (by kernel_rfl) (by kernel_rfl) (by kernel_rfl) (fun _ _ _ h => h) (by rfl) (by assumption) ?_
          try simp only [Act.put, List.setIfInBounds_toArray, List.set_cons_zero, List.set_cons_succ]
          refine takeX 13 rfl (by kernel_rfl) (by kernel_rfl) (by kernel_rfl) (fun _ _ _ h => h) (by rfl) (by assumption) ?_
          try simp only [Act.put, List.setIfInBounds_toArray, List.set_cons_zero, List.set_cons_succ]
          refine takeX 14 rfl (by kernel_rfl) (by kernel_rfl) (by kernel_rfl) (fun _ _ _ h => h) (by rfl) (by assumption) ?_
          try simp only [Act.put, List.setIfInBounds_toArray, List.set_cons_zero, List.set_cons_succ]
          refine takeX 15 rfl (by kernel_rfl) (by kernel_rfl) (by kernel_rfl) (fun _ _ _ h => h) (by rfl) (by assumption) ?_
          try simp only [Act.put, List.setIfInBounds_toArray, List.set_cons_zero, List.set_cons_succ]
          refine takeX 16 rfl (by kernel_rfl) (by kernel_rfl) (by kernel_rfl) (fun _ _ _ h => h) (by rfl) (by assumption) ?_
          try simp only [Act.put, List.setIfInBounds_toArray, List.set_cons_zero, List.set_cons_succ]
          refine takeX 17 rfl (by kernel_rfl) (by kernel_rfl) (by kernel_rfl) (fun _ _ _ h => h) (by rfl) (by assumption) ?_
          try simp only [Act.put, List.setIfInBounds_toArray, List.set_cons_zero, List.set_cons_succ]
          refine takeW 18 (v := ?v23) rfl (by kernel_rfl) (by kernel_rfl) (by kernel_rfl) (fun _ _ _ h => h) (by rfl) (by assumption) ?hy23 ?rest23
          case hy23 => intro w' hSw; (try dsimp only at hSw); go_simp; try with_reducible rfl
          try simp only [Act.put, List.setIfInBounds_toArray, List.set_cons_zero, List.set_cons_succ]
          refine wpAnyH_done (by kernel_rfl) ?_ _
          have hBB3 := below_one hBW (below_drew1 hB3)
          clear hcn hcb hB3 hHeld x0 x1 x2 q0 q1 q2
          go_wp2_with fail
          go_ret
          exact ⟨ret_bool HR.out.symm, hBB3⟩
        · cases hx : (s.num == p + 1)
          · have HR := hid (HNX.out (by rw [HI.out]; exact hx))
            have hne : (s.num != p + 1) = true := by simpa using hx
            go_wp2_with fail
            generalize wr.alloc (.cells #[.int .i64 s.num, .slice xp s.pol.length cp, .slice xr s.rv.length cr] 48) = Wa at *
            refine wp_region_held_drew (S := fun w' => w'.cell? ⟨wr.heap.size, 0, none⟩ = some (.int .i64 s.num) ∧ w'.cell? ⟨wr.heap.size, 1, none⟩ = some (.slice xp s.pol.length cp) ∧ w'.cell? ⟨wr.heap.size, 2, none⟩ = some (.slice xr s.rv.length cr) ∧ w'.cell? ⟨b, off + m * 3, none⟩ = some (.int .i64 p)) (by kernel_rfl) ?_ (fun hHeld => ?_)
            · go_keep
            refine takeW 0 (v := ?v24) rfl (by kernel_rfl) (by kernel_rfl) (by kernel_rfl) (fun _ _ _ h => h) (by rfl) (by assumption) ?hy24 ?rest24
            case hy24 => intro w' hSw; (try dsimp only at hSw); go_simp; try with_reducible rfl
            try simp only [Act.put, List.setIfInBounds_toArray, List.set_cons_zero, List.set_cons_succ]
            refine takeC 1 (by kernel_rfl) rfl (fun K hK => ?_)
            go_simp
            refine (implGoodSnapshot_any _ s _ hsh (by exact ⟨_, _, rfl, z1.below (Below.refl _ _).drew, z2.below (Below.refl _ _).drew⟩)).mono ?_; rintro e w3 ⟨he, hB3⟩; rw [hg] at he; subst he; have hcn := fun o => hB3.cell (p := ⟨wr.heap.size, o, none⟩) (by exact F.lt); have hcb := fun o => hB3.cell (p := ⟨b, o, none⟩) (by exact hbW)
            refine hK.out _ _ ?_ (fun hHeld => ?_)
            · go_keep
            clear hK K
            try simp only [Act.put, List.setIfInBounds_toArray, List.set_cons_zero, List.set_cons_succ]
            refine takeW 2 (v := ?v25) rfl (by kernel_rfl) (by kernel_rfl) (by kernel_rfl) (fun _ _ _ h => h) (by rfl) (by assumption) ?hy25 ?rest25
            case hy25 => intro w' hSw; (try dsimp only at hSw); go_simp; try with_reducible rfl
            try simp only [Act.put, List.setIfInBounds_toArray, List.set_cons_zero, List.set_cons_succ]
            refine takeW 3 (v := ?v26) rfl (by kernel_rfl) (by kernel_rfl) (by kernel_rfl) (fun _ _ _ h => h) (by rfl) (by assumption) ?hy26 ?rest26
            case hy26 => intro w' hSw; (try dsimp only at hSw); go_simp; try with_reducible rfl
            try simp only [Act.put, List.setIfInBounds_toArray, List.set_cons_zero, List.set_cons_succ]
            refine takeW 4 (v := ?v27) rfl (by kernel_rfl) (by kernel_rfl) (by kernel_rfl) (fun _ _ _ h => h) (by rfl) (by assumption) ?hy27 ?rest27
            case hy27 => intro w' hSw; (try dsimp only at hSw); go_simp; try with_reducible rfl
            try simp only [Act.put, List.setIfInBounds_toArray, List.set_cons_zero, List.set_cons_succ]
            refine takeW 5 (v := ?v28) rfl (by kernel_rfl) (by kernel_rfl) (by kernel_rfl) (fun _ _ _ h => h) (by rfl) (by assumption) ?hy28 ?rest28
            case hy28 => intro w' hSw; (try dsimp only at hSw); go_simp; try with_reducible rfl
            try simp only [Act.put, List.setIfInBounds_toArray, List.set_cons_zero, List.set_cons_succ]
            refine takeW 6 (v := ?v29) rfl (by kernel_rfl) (by kernel_rfl) (by kernel_rfl) (fun _ _ _ h => h) (by rfl) (by assumption) ?hy29 ?rest29
            case hy29 => intro w' hSw; (try dsimp only at hSw); go_simp; try with_reducible rfl
            try simp only [Act.put, List.setIfInBounds_toArray, List.set_cons_zero, List.set_cons_succ]
            refine takeW 7 (v := ?v30) rfl (by kernel_rfl) (by kernel_rfl) (by kernel_rfl) (fun _ _ _ h => h) (by rfl) (by assumption) ?hy30 ?rest30
            case hy30 => intro w' hSw; (try dsimp only at hSw); go_simp; try with_reducible rfl
            try simp only [Act.put, List.setIfInBounds_toArray, List.set_cons_zero, List.set_cons_succ]
            refine takeW 8 (v := ?v31) rfl (by kernel_rfl) (by kernel_rfl) (by kernel_rfl) (fun _ _ _ h => h) (by rfl) (by assumption) ?hy31 ?rest31
            case hy31 => intro w' hSw; (try dsimp only at hSw); go_simp; try with_reducible rfl
            try simp only [Act.put, List.setIfInBounds_toArray, List.set_cons_zero, List.set_cons_succ]
            refine takeW 9 (v := ?v32) rfl (by kernel_rfl) (by kernel_rfl) (by kernel_rfl) (fun _ _ _ h => h) (by rfl) (by assumption) ?hy32 ?rest32
            case hy32 => intro w' hSw; (try dsimp only at hSw); go_simp; try with_reducible rfl
            try simp only [Act.put, List.setIfInBounds_toArray, List.set_cons_zero, List.set_cons_succ]
            refine takeW 10 (v := ?v33) rfl (by kernel_rfl) (by kernel_rfl) (by kernel_rfl) (fun _ _ _ h => h) (by rfl) (by assumption) ?hy33 ?rest33
            case hy33 => intro w' hSw; (try dsimp only at hSw); go_simp; try with_reducible rfl
            try simp only [Act.put, List.setIfInBounds_toArray, List.set_cons_zero, List.set_cons_succ]
            refine takeW 11 (v := ?v34) rfl (by kernel_rfl) (by kernel_rfl) (by kernel_rfl) (fun _ _ _ h => h) (by rfl) (by assumption) ?hy34 ?rest34
            case hy34 => intro w' hSw; (try dsimp only at hSw); go_simp; try with_reducible rfl
            try simp only [Act.put, List.setIfInBounds_toArray, List.set_cons_zero, List.set_cons_succ]
            refine takeW 12 (v := ?v35) rfl (by kernel_rfl) (by kernel_rfl) (by kernel_rfl) (fun _ _ _ h => h) (by rfl) (by assumption) ?hy35 ?rest35
            case hy35 => intro w' hSw; (try dsimp only at hSw); go_simp; try with_reducible rfl
            try simp only [Act.put, List.setIfInBounds_toArray, List.set_cons_zero, List.set_cons_succ]
            refine takeW 13 (v := ?v36) rfl (by kernel_rfl) (by kernel_rfl) (by kernel_rfl) (fun _ _ _ h => h) (by rfl) (by assumption) ?hy36 ?rest36
            case hy36 => intro w' hSw; (try dsimp only at hSw); go_simp; try with_reducible rfl
            try simp only [Act.put, List.setIfInBounds_toArray, List.set_cons_zero, List.set_cons_succ]
            refine takeW 14 (v := ?v37) rfl (by kernel_rfl) (by kernel_rfl) (by kernel_rfl) (fun _ _ _ h => h) (by rfl) (by assumption) ?hy37 ?rest37
            case hy37 => intro w' hSw; (try dsimp only at hSw); go_simp; try with_reducible rfl
            try simp only [Act.put, List.setIfInBounds_toArray, List.set_cons_zero, List.set_cons_succ]
            refine takeW 15 (v := ?v38) rfl (by kernel_rfl) (by kernel_rfl) (by kernel_rfl) (fun _ _ _ h => h) (by rfl) (by assumption) ?hy38 ?rest38
            case hy38 => intro w' hSw; (try dsimp only at hSw); go_simp; try with_reducible rfl
            try simp only [Act.put, List.setIfInBounds_toArray, List.set_cons_zero, List.set_cons_succ]
            refine takeW 16 (v := ?v39) rfl (by kernel_rfl) (by kernel_rfl) (by kernel_rfl) (fun _ _ _ h => h) (by rfl) (by assumption) ?hy39 ?rest39
            case hy39 => intro w' hSw; (try dsimp only at hSw); go_simp; try with_reducible rfl
            try simp only [Act.put, List.setIfInBounds_toArray, List.set_cons_zero, List.set_cons_succ]
            refine takeW 17 (v := ?v40) rfl (by kernel_rfl) (by kernel_rfl) (by kernel_rfl) (fun _ _ _ h => h) (by rfl) (by assumption) ?hy40 ?rest40
            case hy40 => intro w' hSw; (try dsimp only at hSw); go_simp; try with_reducible rfl
            try simp only [Act.put, List.setIfInBounds_toArray, List.set_cons_zero, List.set_cons_succ]
            refine takeW 18 (v := ?v41) rfl (by kernel_rfl) (by kernel_rfl) (by kernel_rfl) (fun _ _ _ h => h) (by rfl) (by assumption) ?hy41 ?rest41
            case hy41 => intro w' hSw; (try dsimp only at hSw); go_simp; try with_reducible rfl
            try simp only [Act.put, List.setIfInBounds_toArray, List.set_cons_zero, List.set_cons_succ]
            refine wpAnyH_done (by kernel_rfl) ?_ _
            have hBB3 := below_one hBW (below_drew1 hB3)
            clear hcn hcb hB3 hHeld x0 x1 x2 q0 q1 q2
            go_wp2_with fail
            go_ret
            exact ⟨ret_bool HR.out.symm, hBB3⟩
          · have HR := hid (HY.out (by rw [HGA.out]; exact hg) (by rw [HI.out]; exact hx))
            have hne : (s.num != p + 1) = false := by simpa using hx
            go_wp2_with fail
            generalize wr.alloc (.cells #[.int .i64 s.num, .slice xp s.pol.length cp, .slice xr s.rv.length cr] 48) = Wa at *
            refine wp_region_held_drew (S := fun w' => w'.cell? ⟨wr.heap.size, 0, none⟩ = some (.int .i64 s.num) ∧ w'.cell? ⟨wr.heap.size, 1, none⟩ = some (.slice xp s.pol.length cp) ∧ w'.cell? ⟨wr.heap.size, 2, none⟩ = some (.slice xr s.rv.length cr) ∧ w'.cell? ⟨b, off + m * 3, none⟩ = some (.int .i64 p)) (by kernel_rfl) ?_ (fun hHeld => ?_)
            · go_keep
            refine takeW 0 (v := ?v42) rfl (by kernel_rfl) (by kernel_rfl) (by kernel_rfl) (fun _ _ _ h => h) (by rfl) (by assumption) ?hy42 ?rest42
            case hy42 => intro w' hSw; (try dsimp only at hSw); go_simp; try with_reducible rfl
            try simp only [Act.put, List.setIfInBounds_toArray, List.set_cons_zero, List.set_cons_succ]
            refine takeC 1 (by kernel_rfl) rfl (fun K hK => ?_)
            go_simp
            refine (implGoodSnapshot_any _ s _ hsh (by exact ⟨_, _, rfl, z1.below (Below.refl _ _).drew, z2.below (Below.refl _ _).drew⟩)).mono ?_; rintro e w3 ⟨he, hB3⟩; rw [hg] at he; subst he; have hcn := fun o => hB3.cell (p := ⟨wr.heap.size, o, none⟩) (by exact F.lt); have hcb := fun o => hB3.cell (p := ⟨b, o, none⟩) (by exact hbW)
            refine hK.out _ _ ?_ (fun hHeld => ?_)
            · go_keep
            clear hK K
            try simp only [Act.put, List.setIfInBounds_toArray, List.set_cons_zero, List.set_cons_succ]
            refine takeW 2 (v := ?v43) rfl (by kernel_rfl) (by kernel_rfl) (by kernel_rfl) (fun _ _ _ h => h) (by rfl) (by assumption) ?hy43 ?rest43
            case hy43 => intro w' hSw; (try dsimp only at hSw); go_simp; try with_reducible rfl
            try simp only [Act.put, List.setIfInBounds_toArray, List.set_cons_zero, List.set_cons_succ]
            refine takeW 3 (v := ?v44) rfl (by kernel_rfl) (by kernel_rfl) (by kernel_rfl) (fun _ _ _ h => h) (by rfl) (by assumption) ?hy44 ?rest44
            case hy44 => intro w' hSw; (try dsimp only at hSw); go_simp; try with_reducible rfl
            try simp only [Act.put, List.setIfInBounds_toArray, List.set_cons_zero, List.set_cons_succ]
            refine takeW 4 (v := ?v45) rfl (by kernel_rfl) (by kernel_rfl) (by kernel_rfl) (fun _ _ _ h => h) (by rfl) (by assumption) ?hy45 ?rest45
            case hy45 => intro w' hSw; (try dsimp only at hSw); go_simp; try with_reducible rfl
            try simp only [Act.put, List.setIfInBounds_toArray, List.set_cons_zero, List.set_cons_succ]
            refine takeW 5 (v := ?v46) rfl (by kernel_rfl) (by kernel_rfl) (by kernel_rfl) (fun _ _ _ h => h) (by rfl) (by assumption) ?hy46 ?rest46
            case hy46 => intro w' hSw; (try dsimp only at hSw); go_simp; try with_reducible rfl
            try simp only [Act.put, List.setIfInBounds_toArray, List.set_cons_zero, List.set_cons_succ]
            refine takeW 6 (v := ?v47) rfl (by kernel_rfl) (by kernel_rfl) (by kernel_rfl) (fun _ _ _ h => h) (by rfl) (by assumption) ?hy47 ?rest47
            case hy47 => intro w' hSw; (try dsimp only at hSw); go_simp; try with_reducible rfl
            try simp only [Act.put, List.setIfInBounds_toArray, List.set_cons_zero, List.set_cons_succ]
            refine takeW 7 (v := ?v48) rfl (by kernel_rfl) (by kernel_rfl) (by kernel_rfl) (fun _ _ _ h => h) (by rfl) (by assumption) ?hy48 ?rest48
            case hy48 => intro w' hSw; (try dsimp only at hSw); go_simp; try with_reducible rfl
            try simp only [Act.put, List.setIfInBounds_toArray, List.set_cons_zero, List.set_cons_succ]
            refine takeW 8 (v := ?v49) rfl (by kernel_rfl) (by kernel_rfl) (by kernel_rfl) (fun _ _ _ h => h) (by rfl) (by assumption) ?hy49 ?rest49
            case hy49 => intro w' hSw; (try dsimp only at hSw); go_simp; try with_reducible rfl
            try simp only [Act.put, List.setIfInBounds_toArray, List.set_cons_zero, List.set_cons_succ]
            refine takeW 9 (v := ?v50) rfl (by kernel_rfl) (by kernel_rfl) (by kernel_rfl) (fun _ _ _ h => h) (by rfl) (by assumption) ?hy50 ?rest50
            case hy50 => intro w' hSw; (try dsimp only at hSw); go_simp; try with_reducible rfl
            try simp only [Act.put, List.setIfInBounds_toArray, List.set_cons_zero, List.set_cons_succ]
            refine takeW 10 (v := ?v51) rfl (by kernel_rfl) (by kernel_rfl) (by kernel_rfl) (fun _ _ _ h => h) (by rfl) (by assumption) ?hy51 ?rest51
            case hy51 => intro w' hSw; (try dsimp only at hSw); go_simp; try with_reducible rfl
            try simp only [Act.put, List.setIfInBounds_toArray, List.set_cons_zero, List.set_cons_succ]
            refine takeW 11 (v := ?v52) rfl (by kernel_rfl) (by kernel_rfl) (by kernel_rfl) (fun _ _ _ h => h) (by rfl) (by assumption) ?hy52 ?rest52
            case hy52 => intro w' hSw; (try dsimp only at hSw); go_simp; try with_reducible rfl
            try simp only [Act.put, List.setIfInBounds_toArray, List.set_cons_zero, List.set_cons_succ]
            refine takeW 12 (v := ?v53) rfl (by kernel_rfl) (by kernel_rfl) (by kernel_rfl) (fun _ _ _ h => h) (by rfl) (by assumption) ?hy53 ?rest53
            case hy53 => intro w' hSw; (try dsimp only at hSw); go_simp; try with_reducible rfl
            try simp only [Act.put, List.setIfInBounds_toArray, List.set_cons_zero, List.set_cons_succ]
            refine takeW 13 (v := ?v54) rfl (by kernel_rfl) (by kernel_rfl) (by kernel_rfl) (fun _ _ _ h => h) (by rfl) (by assumption) ?hy54 ?rest54
            case hy54 => intro w' hSw; (try dsimp only at hSw); go_simp; try with_reducible rfl
            try simp only [Act.put, List.setIfInBounds_toArray, List.set_cons_zero, List.set_cons_succ]
            refine takeW 14 (v := ?v55) rfl (by kernel_rfl) (by kernel_rfl) (by kernel_rfl) (fun _ _ _ h => h) (by rfl) (by assumption) ?hy55 ?rest55
            case hy55 => intro w' hSw; (try dsimp only at hSw); go_simp; try with_reducible rfl
            try simp only [Act.put, List.setIfInBounds_toArray, List.set_cons_zero, List.set_cons_succ]
            refine takeW 15 (v := ?v56) rfl (by kernel_rfl) (by kernel_rfl) (by kernel_rfl) (fun _ _ _ h => h) (by rfl) (by assumption) ?hy56 ?rest56
            case hy56 => intro w' hSw; (try dsimp only at hSw); go_simp; try with_reducible rfl
            try simp only [Act.put, List.setIfInBounds_toArray, List.set_cons_zero, List.set_cons_succ]
            refine takeW 16 (v := ?v57) rfl (by kernel_rfl) (by kernel_rfl) (by kernel_rfl) (fun _ _ _ h => h) (by rfl) (by assumption) ?hy57 ?rest57
            case hy57 => intro w' hSw; (try dsimp only at hSw); go_simp; try with_reducible rfl
            try simp only [Act.put, List.setIfInBounds_toArray, List.set_cons_zero, List.set_cons_succ]
            refine takeW 17 (v := ?v58) rfl (by kernel_rfl) (by kernel_rfl) (by kernel_rfl) (fun _ _ _ h => h) (by rfl) (by assumption) ?hy58 ?rest58
            case hy58 => intro w' hSw; (try dsimp only at hSw); go_simp; try with_reducible rfl
            try simp only [Act.put, List.setIfInBounds_toArray, List.set_cons_zero, List.set_cons_succ]
            refine takeW 18 (v := ?v59) rfl (by kernel_rfl) (by kernel_rfl) (by kernel_rfl) (fun _ _ _ h => h) (by rfl) (by assumption) ?hy59 ?rest59
            case hy59 => intro w' hSw; (try dsimp only at hSw); go_simp; try with_reducible rfl
            try simp only [Act.put, List.setIfInBounds_toArray, List.set_cons_zero, List.set_cons_succ]
            refine wpAnyH_done (by kernel_rfl) ?_ _
            have hBB3 := below_one hBW (below_drew1 hB3)
            clear hcn hcb hB3 hHeld x0 x1 x2 q0 q1 q2
            go_wp2_with fail
            go_roundw
            case rel => first | exact ⟨n + 1, by omega, by go_num, HR.out, hBB3⟩ | ((repeat apply Exists.intro); exact ⟨⟨n + 1, by omega, by go_num, HR.out, hBB3⟩, rfl⟩)
            case measure => simp [intOf]; omega
    · obtain rfl : n = ss.length := by omega
      have HR := hid (lsB_yes h20 HK.out)
      go_wp2
      go_ret
      exact ⟨ret_bool HR.out.symm, hB⟩

theorem numberOfSnapshot_any (s : Sn) (p r : Value) (w : World) (hp : ∃ a n c, p = .slice a n c) (hr : ∃ a n c, r = .slice a n c) :
    Calls Tryz.prog 88 #[.agg #[.int .i64 s.num, p, r]] w fun e w' => e = .returned (.int .i64 s.num) ∧ Below w.heap.size w w' := by
  obtain ⟨a1, n1, c1, rfl⟩ := hp
  obtain ⟨a2, n2, c2, rfl⟩ := hr
  go_enter Tryz.func88, Tryz.ntmps88
  go_wp2
  go_ret
  exact ⟨rfl, (Below.refl _ w).alloc (Nat.le_refl _) _⟩

set_option maxHeartbeats 4000000 in
/-- Where a number stands or would stand among the versions'. -/
theorem placeOfV_any (v : Value) (ss : List Sn) (z : Int) (w : World) (hm : ss.length ≤ 1048577) (hr : SsA w v ss) :
    Calls Tryz.prog 87 #[v, .func (.func 88) #[] #[], .int .i64 z] w fun e w' => e = .returned (.tuple #[.int .i64 (atN (vN ss) z : Nat), .bool (hasN (vN ss) z)]) ∧ Below w.heap.size w w' := by
  obtain ⟨a, cap, rfl⟩ := hr.len
  have hl := vN_len ss
  have HLE := hid (atN_le (vN ss) z)
  go_enter Tryz.func87, Tryz.ntmps87
  go_wp2
  go_loopw [13] (fun i wr => ∃ n : Nat, n ≤ ss.length ∧ i = .int .i64 n ∧ (∀ j (hj : j < (vN ss).length), j < n → (vN ss)[j] < z) ∧ Below w.heap.size w wr) (fun i _ => ss.length - (intOf i).toNat)
  case atStart => exact ⟨0, Nat.zero_le _, rfl, fun _ _ h => absurd h (Nat.not_lt_zero _), Below.refl _ _⟩
  case round =>
    obtain ⟨n, hn, rfl, ht, hB⟩ := hrel
    have HT := hid ht
    clear ht
    by_cases hlt : n < ss.length
    · obtain ⟨b, off, xp, cp, xr, cr, rfl, hb, hcap, q0, q1, q2, y1, y2⟩ := (hr.below hB).at hlt
      have HA := hid (show ¬ ss[n].num < z → atN (vN ss) z = n from fun h => by
        have hv : n < (vN ss).length := by omega
        rcases Nat.lt_trichotomy (atN (vN ss) z) n with h1 | h1 | h1
        · have h2 := atN_at (zs := vN ss) (n := z) (k := atN (vN ss) z) (by omega) rfl
          exact absurd (HT.out _ (by omega) h1) h2
        · exact h1
        · have := atN_lt (zs := vN ss) (n := z) hv h1
          rw [vN_at] at this
          exact absurd this h)
      have HH := hid (show atN (vN ss) z = n → hasN (vN ss) z = (ss[n].num == z) from fun h => by
        rw [hasN_at (by rw [h]; omega)]
        simp only [h, vN_at])
      have HS := hid (show ss[n].num < z → ∀ j (hj : j < (vN ss).length), j < n + 1 → (vN ss)[j] < z from fun h j hj hjn => by
        by_cases e : j = n
        · subst e; rw [vN_at]; exact h
        · exact HT.out j hj (by omega))
      generalize ss[n] = s at *
      have hBw : Below wr.heap.size wr (wr.alloc (.cells #[.int .i64 s.num, .slice xp s.pol.length cp, .slice xr s.rv.length cr] 48)) := (Below.refl _ wr).alloc (Nat.le_refl _) _
      have hBW := below_one hB hBw
      by_cases hx : s.num < z
      · have HR := hid (HS.out hx)
        have dx : decide (z ≤ s.num) = false := by simp; omega
        go_wp2_with fail
        generalize wr.alloc (.cells #[.int .i64 s.num, .slice xp s.pol.length cp, .slice xr s.rv.length cr] 48) = W1 at *
        refine (numberOfSnapshot_any s _ _ _ ⟨_, _, _, rfl⟩ ⟨_, _, _, rfl⟩).mono ?_
        rintro e w2 ⟨rfl, hB2⟩
        have hB3 := below_one hBW hB2
        clear q0 q1 q2 y1 y2
        go_wp2_with fail
        go_roundw
        case rel => exact ⟨n + 1, by omega, by go_num, HR.out, hB3⟩
        case measure => simp [intOf]; omega
      · have dx : decide (z ≤ s.num) = true := by simp; omega
        have HR1 := hid (HA.out hx)
        have HR2 := hid (HH.out HR1.out)
        go_wp2_with fail
        generalize wr.alloc (.cells #[.int .i64 s.num, .slice xp s.pol.length cp, .slice xr s.rv.length cr] 48) = W1 at *
        refine (numberOfSnapshot_any s _ _ _ ⟨_, _, _, rfl⟩ ⟨_, _, _, rfl⟩).mono ?_
        rintro e w2 ⟨rfl, hB2⟩
        have hB3 := below_one hBW hB2
        clear q0 q1 q2 y1 y2
        go_wp2_with fail
        go_ret2
        exact ⟨by rw [HR1.out, HR2.out]; rfl, hB3⟩
    · obtain rfl : n = ss.length := by omega
      have HR1 := hid (show atN (vN ss) z = ss.length from by
        rcases Nat.lt_or_ge (atN (vN ss) z) ss.length with h1 | h1
        · have h2 := atN_at (zs := vN ss) (n := z) (k := atN (vN ss) z) (by omega) rfl
          exact absurd (HT.out _ (by omega) (by omega)) h2
        · have := HLE.out; omega)
      have HR2 := hid (hasN_end (zs := vN ss) (n := z) (by rw [HR1.out]; omega))
      go_wp2
      go_ret2
      exact ⟨by rw [HR1.out, HR2.out]; rfl, hB⟩

set_option maxHeartbeats 1000000 in
theorem placeOfNumber_any (v : Value) (ss : List Sn) (z : Int) (w : World) (hm : shortS ss) (hr : SsR w v ss) :
    Calls Tryz.prog 61 #[v, .int .i64 z] w fun e w' => (∃ n : Nat, e = .returned (.tuple #[.int .i64 n, .bool (thB ss z)]) ∧ (thB ss z = true → n = atN (vN ss) z)) ∧ Below w.heap.size w w' := by
  obtain ⟨a, cap, rfl⟩ := hr.len
  have hm1 := hm.1
  cases hg : lsB ss
  · have HR := hid (show thB ss z = false by unfold thB; rw [hg]; rfl)
    go_enter Tryz.func61, Tryz.ntmps61
    go_wp2_with fail
    refine (goodVersions_any _ ss _ hm hr).mono ?_
    rintro e w1 ⟨rfl, hB1⟩
    rw [hg]
    go_wp2_with fail
    go_ret2
    exact ⟨⟨0, by rw [HR.out]; rfl, fun h => by rw [HR.out] at h; cases h⟩, hB1⟩
  · have HR := hid (show thB ss z = hasN (vN ss) z by unfold thB; rw [hg]; rfl)
    go_enter Tryz.func61, Tryz.ntmps61
    go_wp2_with fail
    refine (goodVersions_any _ ss _ hm hr).mono ?_
    rintro e w1 ⟨rfl, hB1⟩
    rw [hg]
    go_wp2_with fail
    refine (placeOfV_any _ ss z _ (by omega) (hr.below hB1).a).mono ?_
    rintro e w2 ⟨rfl, hB2⟩
    go_wp2_with fail
    go_ret2
    exact ⟨⟨_, by rw [HR.out]; rfl, fun _ => rfl⟩, below_one hB1 hB2⟩

set_option maxHeartbeats 4000000 in
set_option maxRecDepth 100000 in
theorem copySnapshot_any (v : Value) (s : Sn) (w : World) (hs : s.short) (h : SnR w v s) :
    Calls Tryz.prog 81 #[v] w fun e w' => ∃ v', e = .returned v' ∧ SnO w' w.heap.size w'.heap.size v' s ∧ Below w.heap.size w w' := by
  obtain ⟨vp, vr, rfl, h1, h2⟩ := h
  obtain ⟨l1, l2, _⟩ := hs
  obtain ⟨xp, cp, rfl⟩ := h1.len
  obtain ⟨xr, cr, rfl⟩ := h2.len
  have hBB : Below w.heap.size w ((w.alloc (.cells #[.int .i64 s.num, .slice xp s.pol.length cp, .slice xr s.rv.length cr] 48)).alloc (.cells #[.int .i64 0, .slice none 0 0, .slice none 0 0] 48)) := ((Below.refl _ w).alloc (Nat.le_refl _) _).alloc (by simp) _
  have F1 := (Three.new w (.int .i64 s.num) (.slice xp s.pol.length cp) (.slice xr s.rv.length cr) 48).below ((Below.refl _ _).alloc (Nat.le_refl _) (.cells #[.int .i64 0, .slice none 0 0, .slice none 0 0] 48))
  have F2 := Three.at (w.alloc (.cells #[.int .i64 s.num, .slice xp s.pol.length cp, .slice xr s.rv.length cr] 48)) (.int .i64 0) (.slice none 0 0) (.slice none 0 0) 48 (k := w.heap.size + 1) (by simp)
  have n01 : w.heap.size ≠ w.heap.size + 1 := by omega
  have n10 : w.heap.size + 1 ≠ w.heap.size := by omega
  go_enter Tryz.func81, Tryz.ntmps81
  go_wp2_with fail
  generalize (w.alloc (.cells #[.int .i64 s.num, .slice xp s.pol.length cp, .slice xr s.rv.length cr] 48)).alloc (.cells #[.int .i64 0, .slice none 0 0, .slice none 0 0] 48) = W0 at *
  obtain ⟨a0, a1, a2⟩ := F1.c
  refine wp_region_held_drew (S := fun w' => w'.cell? ⟨w.heap.size, 0, none⟩ = some (.int .i64 s.num) ∧ w'.cell? ⟨w.heap.size, 1, none⟩ = some (.slice xp s.pol.length cp) ∧ w'.cell? ⟨w.heap.size, 2, none⟩ = some (.slice xr s.rv.length cr)) (by kernel_rfl) ?_ (fun hHeld => ?_)
  · go_keep
  refine takeW 0 (v := ?v1) rfl (by kernel_rfl) (by kernel_rfl) (by kernel_rfl) (fun _ _ _ h => h) (by rfl) (by assumption) ?hy1 ?rest1
  case hy1 => intro w' hSw; (try dsimp only at hSw); go_simp; try with_reducible rfl
  try simp only [Act.put, List.setIfInBounds_toArray, List.set_cons_zero, List.set_cons_succ]
  refine takeW 1 (v := ?v2) rfl (by kernel_rfl) (by kernel_rfl) (by kernel_rfl) (fun _ _ _ h => h) (by rfl) (by assumption) ?hy2 ?rest2
  case hy2 => intro w' hSw; (try dsimp only at hSw); go_simp; try with_reducible rfl
  try simp only [Act.put, List.setIfInBounds_toArray, List.set_cons_zero, List.set_cons_succ]
  refine takeW 2 (v := ?v3) rfl (by kernel_rfl) (by kernel_rfl) (by kernel_rfl) (fun _ _ _ h => h) (by rfl) (by assumption) ?hy3 ?rest3
  case hy3 => intro w' hSw; (try dsimp only at hSw); go_simp; try with_reducible rfl
  try simp only [Act.put, List.setIfInBounds_toArray, List.set_cons_zero, List.set_cons_succ]
  refine takeW 3 (v := ?v4) rfl (by kernel_rfl) (by kernel_rfl) (by kernel_rfl) (fun _ _ _ h => h) (by rfl) (by assumption) ?hy4 ?rest4
  case hy4 => intro w' hSw; (try dsimp only at hSw); go_simp; try with_reducible rfl
  try simp only [Act.put, List.setIfInBounds_toArray, List.set_cons_zero, List.set_cons_succ]
  refine takeW 5 (v := ?v5) rfl (by kernel_rfl) (by kernel_rfl) (by kernel_rfl) (fun _ _ _ h => h) (by rfl) (by assumption) ?hy5 ?rest5
  case hy5 => intro w' hSw; (try dsimp only at hSw); go_simp; try with_reducible rfl
  try simp only [Act.put, List.setIfInBounds_toArray, List.set_cons_zero, List.set_cons_succ]
  refine takeW 6 (v := ?v6) rfl (by kernel_rfl) (by kernel_rfl) (by kernel_rfl) (fun _ _ _ h => h) (by rfl) (by assumption) ?hy6 ?rest6
  case hy6 => intro w' hSw; (try dsimp only at hSw); go_simp; try with_reducible rfl
  try simp only [Act.put, List.setIfInBounds_toArray, List.set_cons_zero, List.set_cons_succ]
  refine takeC 4 (by kernel_rfl) rfl (fun K hK => ?_)
  go_simp
  refine (cloneRu_any _ s.pol _ (by omega) (by exact (h1.below hBB).below (Below.refl _ _).drew)).mono ?_; rintro e w4 ⟨u4, rfl, o4, _, hB4⟩; obtain ⟨x4, y4, z4, rfl⟩ := row_slice o4; have hD4 : Below W0.heap.size W0 w4 := below_drew1 hB4; have hc4 := fun o => hB4.cell (p := ⟨w.heap.size, o, none⟩) (by exact F1.lt); have G1 : Three w4 _ _ _ _ _ := F1.below hD4; have G2 : Three w4 _ _ _ _ _ := F2.below hD4; have hBB4 := below_one hBB hD4
  refine hK.out _ _ ?_ (fun hHeld => ?_)
  · go_keep
  clear hK K
  try simp only [Act.put, List.setIfInBounds_toArray, List.set_cons_zero, List.set_cons_succ]
  refine takeC 7 (by kernel_rfl) rfl (fun K hK => ?_)
  go_simp
  refine (cloneNu_any _ s.rv _ (by omega) (h2.below hBB4)).mono ?_; rintro e w5 ⟨u5, rfl, o5, hB5⟩; obtain ⟨x5, y5, z5, rfl⟩ := row_slice o5; have hc5 := fun o => hB5.cell (p := ⟨w.heap.size, o, none⟩) (by exact G1.lt); have H2 := G2.below hB5; have hBB5 := below_one hBB4 hB5; have o4' := ownsRow_below o4 hB5; obtain ⟨r0, r1, r2⟩ := H2.c; have f0 := H2.f 0; have f1 := H2.f 1; have f2 := H2.f 2
  refine hK.out _ _ ?_ (fun hHeld => ?_)
  · go_keep
  clear hK K
  try simp only [Act.put, List.setIfInBounds_toArray, List.set_cons_zero, List.set_cons_succ]
  refine takeW 8 (v := ?v7) rfl (by kernel_rfl) (by kernel_rfl) (by kernel_rfl) (fun _ _ _ h => h) (by rfl) (by assumption) ?hy7 ?rest7
  case hy7 => intro w' hSw; (try dsimp only at hSw); go_simp; try with_reducible rfl
  try simp only [Act.put, List.setIfInBounds_toArray, List.set_cons_zero, List.set_cons_succ]
  refine takeC 9 (by kernel_rfl) rfl (fun K hK => ?_)
  go_simp
  skip
  refine hK.out _ _ ?_ (fun hHeld => ?_)
  · go_keep
  clear hK K
  try simp only [Act.put, List.setIfInBounds_toArray, List.set_cons_zero, List.set_cons_succ]
  refine wpAnyH_done (by kernel_rfl) ?_ _
  have G := ((H2.s0 (.int .i64 s.num)).s1 (.slice x4 y4 z4)).s2 (.slice x5 y5 z5)
  have q4 := row_three o4' (k := w.heap.size + 1) F2.lt (.int .i64 s.num) (.slice x4 y4 z4) (.slice x5 y5 z5)
  have q5 := row_three o5 (k := w.heap.size + 1) G2.lt (.int .i64 s.num) (.slice x4 y4 z4) (.slice x5 y5 z5)
  have pB := below_three hBB5 (k := w.heap.size + 1) (by omega) (.int .i64 s.num) (.slice x4 y4 z4) (.slice x5 y5 z5)
  have s3 := hBB.size
  have s4 := hBB4.size
  go_wp2_with fail
  clear r0 r1 r2 f0 f1 f2 hHeld hc4 hc5
  generalize ((w5.setCell ⟨w.heap.size + 1, 0, none⟩ (.int .i64 s.num)).setCell ⟨w.heap.size + 1, 1, none⟩ (.slice x4 y4 z4)).setCell ⟨w.heap.size + 1, 2, none⟩ (.slice x5 y5 z5) = W9 at *
  obtain ⟨d0, d1, d2⟩ := G.c
  exact bodyPost_ret (v := .agg #[.int .i64 s.num, .slice x4 y4 z4, .slice x5 y5 z5]) (by simp [results, Tryz.results81, go_sem, d0, d1, d2]) rfl ⟨_, rfl, SnO.of (Go.Joins.ownsRow_le q4 s3) (Go.Joins.ownsRow_le q5 s4), pB⟩

end Go.Proofs.YtmmjiocmldnamaaGreat
