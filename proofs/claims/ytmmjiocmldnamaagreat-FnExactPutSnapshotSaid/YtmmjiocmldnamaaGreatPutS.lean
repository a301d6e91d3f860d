/-
  Chapter 5: PutSnapshot, by the specification.
-/
import Derived.Test.YtmmjiocmldnamaaGreatPutM
namespace Go.Proofs.YtmmjiocmldnamaaGreat
open Go.RowKit Go.Shelf

set_option maxHeartbeats 8000000 in
set_option maxRecDepth 100000 in
theorem specPut_any (v vp vz : Value) (ss : List Sn) (rs : List Ru) (zs : List Int) (w : World) (hm : shortS ss) (hmr : rs.length ≤ 1048577) (hf : ∀ r ∈ rs, r.size ≤ 1048576) (hmz : zs.length ≤ 1048577) (hr : SsR w v ss) (hp : RuR w vp rs) (hz : NuR w vz zs) :
    Calls Tryz.prog 8 #[v, vp, vz] w fun e w' => ∃ v', e = .returned (.tuple #[v', .bool (puB ss rs zs)]) ∧ SsT w' w.heap.size w'.heap.size v' (puX ss rs zs) ∧ Below w.heap.size w w' := by
  obtain ⟨a, cap, rfl⟩ := hr.len
  obtain ⟨ap, cp, rfl⟩ := hp.len
  obtain ⟨az, cz, rfl⟩ := hz.len
  have hm1 := hm.1
  go_enter Tryz.func8, Tryz.ntmps8
  go_wp2_with fail
  refine (l5List_any _ ss _ hm hr.a).mono ?_
  rintro e w1 ⟨rfl, hB1⟩
  cases hg : lsB ss
  · have HT := hid (puB_no1 (rs := rs) (zs := zs) hg)
    have HX := hid (puX_no HT.out)
    go_wp2_with fail
    go_ret2
    exact ⟨_, by rw [HT.out]; rfl, by rw [HX.out]; exact .inl (SsO.none _ _ _), hB1⟩
  go_wp2_with fail
  refine (l2Good_any _ rs _ hmr hf (hp.below hB1).s).mono ?_
  rintro e w2 ⟨rfl, hB2⟩
  have hBB := below_one hB1 hB2
  clear hB1 hB2
  cases hg2 : polB rs
  · have HT := hid (puB_no2 (ss := ss) (zs := zs) hg2)
    have HX := hid (puX_no HT.out)
    go_wp2_with fail
    go_ret2
    exact ⟨_, by rw [HT.out]; rfl, by rw [HX.out]; exact .inl (SsO.none _ _ _), hBB⟩
  by_cases h200 : zs.length ≤ 200
  · have d2 : decide ((200 : Int) < (zs.length : Int)) = false := by simp; omega
    go_wp2_with fail
    go_loopw [28] (fun i wr => ∃ n : Nat, n ≤ zs.length ∧ i = .int .i64 n ∧ (∀ j (hj : j < zs.length), j < n → 1 ≤ zs[j] ∧ zs[j] < 100001) ∧ wr = w2) (fun i _ => zs.length - (intOf i).toNat)
    case atStart => exact ⟨0, Nat.zero_le _, rfl, fun _ _ h => absurd h (Nat.not_lt_zero _), rfl⟩
    case round =>
      obtain ⟨n, hn, rfl, ht, rfl⟩ := hrel
      have HT0 := hid ht
      clear ht
      by_cases hlt : n < zs.length
      · obtain ⟨b, off, rfl, hb, hcap, q0⟩ := (hz.below hBB).s.num hlt
        have HN := hid (fun h => puB_no3 (ss := ss) (rs := rs) (fewB_no2 (okN_no (nx := 100001) (zs := zs) hlt h)))
        have HS := hid (show (1 ≤ zs[n] ∧ zs[n] < 100001) → ∀ j (hj : j < zs.length), j < n + 1 → (1 ≤ zs[j] ∧ zs[j] < 100001) from fun h j hj hjn => by
          by_cases e : j = n
          · subst e; exact h
          · exact HT0.out j hj (by omega))
        generalize zs[n] = x at *
        by_cases hx : 1 ≤ x ∧ x < 100001
        · have hin : inB 1 100000 x = true := decide_eq_true (by omega)
          have HR := hid (HS.out hx)
          clear hx
          go_wp2_with (go_at_call 36; refine (l1In_any x 1 100000 _).mono ?_; rintro e w1 ⟨rfl, rfl⟩; rw [hin])
          go_roundw
          case rel => exact ⟨n + 1, by omega, by go_num, HR.out, by trivial⟩
          case measure => simp [intOf]; omega
        · have hin : inB 1 100000 x = false := decide_eq_false (by omega)
          have HT := hid (HN.out hx)
          have HX := hid (puX_no HT.out)
          clear hx
          go_wp2_with (go_at_call 36; refine (l1In_any x 1 100000 _).mono ?_; rintro e w1 ⟨rfl, rfl⟩; rw [hin])
          go_ret2
          exact ⟨_, by rw [HT.out]; rfl, by rw [HX.out]; exact .inl (SsO.none _ _ _), hBB⟩
      · obtain rfl : n = zs.length := by omega
        have hfew : fewB zs = true := fewB_yes h200 (okN_yes fun i hi => HT0.out i hi hi)
        have h30 := (pol_all hg2).2
        have hsh := nwS_short (ss := ss) hg2 hfew hf
        have HNM := hid (lsB_num hg)
        have h20l := (lsB_all hg).1
        have HPY := hid (fun h => puB_yes (zs := zs) hg hg2 hfew h)
        clear HT0 hn hlt
        go_wp2_with fail
        refine (l2Plain_any _ rs _ h30 hf (hp.below hBB).s).mono ?_
        rintro e w3 ⟨v3, rfl, o3, hB3⟩
        rw [← plX_yes hg2] at o3
        obtain ⟨x3, y3, z3, rfl⟩ := row_slice o3
        have hBB3 := below_one hBB hB3
        go_wp2_with fail
        refine (l5Sorted_any _ zs _ (by omega) (hz.s.below hBB3)).mono ?_
        rintro e w4 ⟨v4, rfl, o4, hB4⟩
        obtain ⟨x4, y4, z4, rfl⟩ := row_slice o4
        have hs0 := hBB.size
        have hs3 := hB3.size
        have hBB4 := below_one hBB3 hB4
        have hs4 := hBB4.size
        replace o3 := Go.Joins.ownsRow_le (ownsRow_below o3 hB4) hs0
        replace o4 := Go.Joins.ownsRow_le o4 hBB3.size
        clear hBB hB3 hBB3 hB4 hg hg2 h200 d2 hfew
        rcases Nat.eq_zero_or_pos ss.length with h0 | hpos
        · have HNX := hid (show (1 : Int) = nxN ss by rw [List.eq_nil_of_length_eq_zero h0]; rfl)
          have hBa : Below w4.heap.size w4 (w4.alloc (.cells #[.int .i64 1, .slice x3 y3 z3, .slice x4 y4 z4] 48)) := (Below.refl _ w4).alloc (Nat.le_refl _) _
          have FS := Three.new w4 (.int .i64 1) (.slice x3 y3 z3) (.slice x4 y4 z4) 48
          replace o3 := ownsRow_below o3 hBa
          replace o4 := ownsRow_below o4 hBa
          replace hBB4 := below_one hBB4 hBa
          clear hBa
          obtain ⟨c0, c1, c2⟩ := FS.c
          go_wp2_with fail
          clear c0 c1 c2
          rw [h0] at hr
          clear h0
          generalize w4.alloc (.cells #[.int .i64 1, .slice x3 y3 z3, .slice x4 y4 z4] 48) = W5 at *
          generalize w4.heap.size = k0 at *
          have HNV : (Value.int .i64 1) = .int .i64 (nxN ss) := by rw [← HNX.out]
          rw [HNV] at FS
          rw [HNV]
          clear HNV HNX
          refine (specGoodSnapshot_any _ (nwS ss rs zs) _ hsh ⟨_, _, rfl, (RuR.own o3).s, (NuR.own o4).s⟩).mono ?_
          rintro e w6 ⟨rfl, hB6⟩
          replace FS := FS.below hB6
          replace o3 := ownsRow_below o3 hB6
          replace o4 := ownsRow_below o4 hB6
          replace hBB4 := below_one hBB4 hB6
          clear hB6
          cases hg4 : snB (nwS ss rs zs)
          · have HT := hid (puB_no4 hg4)
            have HX := hid (puX_no HT.out)
            go_wp2_with fail
            go_ret2
            exact ⟨_, by rw [HT.out]; rfl, by rw [HX.out]; exact .inl (SsO.none _ _ _), hBB4⟩
          have HT := hid (HPY.out hg4)
          clear HPY hg4
          obtain ⟨i0, hi, hz0, hz1, hz2⟩ := info_parts infoSnapshot
          have hBd : Below w6.heap.size w6 w6.drew := (Below.refl _ _).drew
          obtain ⟨c0, c1, c2⟩ := FS.c
          go_wp2_with fail
          replace FS := FS.below hBd
          replace o3 := ownsRow_below o3 hBd
          replace o4 := ownsRow_below o4 hBd
          replace hBB4 := below_one hBB4 hBd
          have hrD := hr.below hBB4
          clear hBd
          refine wp_region_held_drew (S := fun w' => w'.cell? ⟨k0, 0, none⟩ = some (.int .i64 (nxN ss)) ∧ w'.cell? ⟨k0, 1, none⟩ = some (.slice x3 y3 z3) ∧ w'.cell? ⟨k0, 2, none⟩ = some (.slice x4 y4 z4)) (by kernel_rfl) ?_ (fun hHeld => ?_)
          · go_keep
          generalize w6.drew = Wd at *
          refine takeW 0 (v := ?v8) rfl (by kernel_rfl) (by kernel_rfl) (by kernel_rfl) (fun _ _ _ h => h) (by rfl) (by assumption) ?hy8 ?rest8
          case hy8 => intro w' hSw; (try dsimp only at hSw); go_simp; try with_reducible rfl
          try simp only [Act.put, List.setIfInBounds_toArray, List.set_cons_zero, List.set_cons_succ]
          refine takeW 2 (v := ?v9) rfl (by kernel_rfl) (by kernel_rfl) (by kernel_rfl) (fun _ _ _ h => h) (by rfl) (by assumption) ?hy9 ?rest9
          case hy9 => intro w' hSw; (try dsimp only at hSw); go_simp; try with_reducible rfl
          try simp only [Act.put, List.setIfInBounds_toArray, List.set_cons_zero, List.set_cons_succ]
          refine takeC2 1 3 (by kernel_rfl) rfl rfl (fun K hK => ?_) (fun K hK => ?_)
          · go_simp
            refine (l5OwnAll_any _ ss _ hm hrD).mono ?_; rintro e w7 ⟨v7, rfl, O7, hB7⟩; have hc7 := fun o => hB7.cell (p := ⟨k0, o, none⟩) (by exact FS.lt)
            refine hK.out _ _ ?_ (fun hHeld => ?_)
            · first | go_keep | exact FS.c
            clear hK K
            try simp only [Act.put, List.setIfInBounds_toArray, List.set_cons_zero, List.set_cons_succ]
            obtain ⟨xs7, vp7, vr7, K7⟩ := O7
            obtain ⟨s7, t7, r7, rfl⟩ := row_slice K7.row
            refine takeC 3 (by kernel_rfl) rfl (fun K hK => ?_)
            go_simp
            skip
            refine hK.out _ _ ?_ (fun hHeld => ?_)
            · first | go_keep | exact FS.c
            clear hK K
            try simp only [Act.put, List.setIfInBounds_toArray, List.set_cons_zero, List.set_cons_succ]
            have hBv : Below w7.heap.size w7 (w7.alloc (.cells #[.int .i64 (nxN ss), .slice x3 y3 z3, .slice x4 y4 z4] 48)) := (Below.refl _ w7).alloc (Nat.le_refl _) _
            have hct := cell_three_w w7 (.int .i64 (nxN ss)) (.slice x3 y3 z3) (.slice x4 y4 z4)
            have hl3 : ∀ j, (Value.slice x3 y3 z3).ownBlock = some j → j < Wd.heap.size := fun j e => (o3.lt j e).2
            have hl4 : ∀ j, (Value.slice x4 y4 z4).ownBlock = some j → j < Wd.heap.size := fun j e => (o4.lt j e).2
            have hkd : k0 < Wd.heap.size := FS.lt
            have FS7 := (FS.below hB7).below hBv
            replace K7 := (K7.below hBv).top hBv.size
            replace o3 := ownsRow_below (ownsRow_below o3 hB7) hBv
            replace o4 := ownsRow_below (ownsRow_below o4 hB7) hBv
            have hb2 : w.heap.size ≤ Wd.heap.size := hBB4.size
            have hB7w := below_one (below_one hBB4 hB7) hBv
            clear hBv hc7 FS hHeld
            generalize w7.alloc (.cells #[.int .i64 (nxN ss), .slice x3 y3 z3, .slice x4 y4 z4] 48) = W7 at *
            generalize w7.heap.size = kt at *
            refine takeC 4 (by kernel_rfl) rfl (fun K hK => ?_)
            refine step_app_own rfl _ _ 27 rfl w.heap.size 48 i0 _ 3 56 Tryz.underlying27 hi hz0 hz1 hz2 rfl (by decide) _ ss.length xs7 rfl (Go.Joins.ownsRow_le K7.row hb2) ⟨kt, 0, none⟩ 1 1 [.int .i64 (nxN ss), .slice x3 y3 z3, .slice x4 y4 z4] rfl rfl hct (by intro u hu; simp at hu; rcases hu with rfl | rfl | rfl <;> rfl) (by unfold maxLen; omega) (by omega) hB7w.size ?_; intro v8 w8 o8 g8; have FS8 : Three w8 _ _ _ _ _ := kept_apart FS7 g8 (fun k e1 e2 => by have := (K7.row.lt k e2).1; simp [Value.ownBlock] at e1; omega)
            refine hK.out _ _ ?_ (fun hHeld => ?_)
            · exact FS8.c
            clear hK K
            try simp only [Act.put, List.setIfInBounds_toArray, List.set_cons_zero, List.set_cons_succ]
            refine takeW 5 (v := ?v10) rfl (by kernel_rfl) (by kernel_rfl) (by kernel_rfl) (fun _ _ _ h => h) (by rfl) (by assumption) ?hy10 ?rest10
            case hy10 => intro w' hSw; (try dsimp only at hSw); go_simp; try with_reducible rfl
            try simp only [Act.put, List.setIfInBounds_toArray, List.set_cons_zero, List.set_cons_succ]
            refine wpAnyH_done (by kernel_rfl) ?_ _
            obtain ⟨xs8, vp8, vr8, K8⟩ := K7.put (s := nwS ss rs zs) hb2 o3 o4 hl3 hl4 o8 g8
            have hB8 := hB7w.grown g8 hB7w.size (fun k e => by have := (K7.row.lt k e).1; omega)
            clear hHeld FS8 FS7 K7 o8 g8
            rcases row_form K8.row with ⟨_, h'⟩ | ⟨g8, c8, rfl, _, hc8⟩
            · exact absurd h' (by omega)
            have hlw : ((ss ++ [nwS ss rs zs]).length : Nat) = ss.length + 1 := by simp
            by_cases h20 : ss.length = 20
            · have HX := hid (puX_many HT.out h20)
              have d20 : decide ((20 : Int) < ((ss.length : Int) + 1)) = true := by simp; omega
              have hb1 : (1 : Int) ≤ (ss.length : Int) + 1 := by omega
              have hb2 : (ss.length : Int) + 1 ≤ (c8 : Int) := by omega
              have hb3 : ¬ (c8 = 1) := by omega
              have hb4 : ((ss.length : Int) + 1).toNat = ss.length + 1 := by omega
              clear h20
              go_wp2_with fail
              go_ret2
              refine ⟨_, by rw [HT.out]; rfl, ?_, hB8⟩
              rw [HX.out]
              exact .inr ⟨g8, ss.length + 1, c8, ss ++ [nwS ss rs zs], ⟨_, _, _, by rw [hlw]; exact K8⟩, by omega, by omega, by rw [hlw]; simp, rfl⟩
            · have HX := hid (puX_few HT.out (by omega))
              have d20 : decide ((20 : Int) < ((ss.length : Int) + 1)) = false := by simp; omega
              clear h20
              go_wp2_with fail
              go_ret2
              refine ⟨_, by rw [HT.out]; rfl, ?_, hB8⟩
              rw [HX.out]
              exact .inl ⟨_, _, _, by rw [hlw]; exact K8⟩
          · go_simp
            skip
            refine hK.out _ _ ?_ (fun hHeld => ?_)
            · first | go_keep | exact FS.c
            clear hK K
            try simp only [Act.put, List.setIfInBounds_toArray, List.set_cons_zero, List.set_cons_succ]
            have hBv : Below Wd.heap.size Wd (Wd.alloc (.cells #[.int .i64 (nxN ss), .slice x3 y3 z3, .slice x4 y4 z4] 48)) := (Below.refl _ Wd).alloc (Nat.le_refl _) _
            have hct := cell_three_w Wd (.int .i64 (nxN ss)) (.slice x3 y3 z3) (.slice x4 y4 z4)
            have hkt : Wd.heap.size < (Wd.alloc (.cells #[.int .i64 (nxN ss), .slice x3 y3 z3, .slice x4 y4 z4] 48)).heap.size := by simp
            replace FS := FS.below hBv
            replace o3 := ownsRow_below o3 hBv
            replace o4 := ownsRow_below o4 hBv
            replace hBB4 := below_one hBB4 hBv
            replace hrD := hrD.below hBv
            clear hBv
            generalize Wd.alloc (.cells #[.int .i64 (nxN ss), .slice x3 y3 z3, .slice x4 y4 z4] 48) = Wa at *
            generalize Wd.heap.size = kt at *
            refine takeC 1 (by kernel_rfl) rfl (fun K hK => ?_)
            go_simp
            refine (l5OwnAll_any _ ss _ hm hrD).mono ?_; rintro e w7 ⟨v7, rfl, O7, hB7⟩; have hc7 := fun o => hB7.cell (p := ⟨k0, o, none⟩) (by exact FS.lt)
            refine hK.out _ _ ?_ (fun hHeld => ?_)
            · first | go_keep | exact FS.c
            clear hK K
            try simp only [Act.put, List.setIfInBounds_toArray, List.set_cons_zero, List.set_cons_succ]
            obtain ⟨xs7, vp7, vr7, K7⟩ := O7
            obtain ⟨s7, t7, r7, rfl⟩ := row_slice K7.row
            have hct7 : ∀ j u, [Value.int .i64 (nxN ss), .slice x3 y3 z3, .slice x4 y4 z4][j]? = some u → w7.cell? ((⟨kt, 0, none⟩ : Addr).add j) = some u := fun j u hu => by have := hct j u hu; rw [Addr.add_lit] at this ⊢; exact (hB7.cell (p := ⟨kt, 0 + j, none⟩) hkt).trans this
            have hl3 : ∀ j, (Value.slice x3 y3 z3).ownBlock = some j → j < Wa.heap.size := fun j e => (o3.lt j e).2
            have hl4 : ∀ j, (Value.slice x4 y4 z4).ownBlock = some j → j < Wa.heap.size := fun j e => (o4.lt j e).2
            have hkd : k0 < Wa.heap.size := FS.lt
            have FS7 := FS.below hB7
            replace o3 := ownsRow_below o3 hB7
            replace o4 := ownsRow_below o4 hB7
            have hb2 : w.heap.size ≤ Wa.heap.size := hBB4.size
            have hB7w := below_one hBB4 hB7
            clear hc7 FS hHeld hct
            refine takeC 4 (by kernel_rfl) rfl (fun K hK => ?_)
            refine step_app_own rfl _ _ 27 rfl w.heap.size 48 i0 _ 3 56 Tryz.underlying27 hi hz0 hz1 hz2 rfl (by decide) _ ss.length xs7 rfl (Go.Joins.ownsRow_le K7.row hb2) ⟨kt, 0, none⟩ 1 1 [.int .i64 (nxN ss), .slice x3 y3 z3, .slice x4 y4 z4] rfl rfl hct7 (by intro u hu; simp at hu; rcases hu with rfl | rfl | rfl <;> rfl) (by unfold maxLen; omega) (by omega) hB7w.size ?_; intro v8 w8 o8 g8; have FS8 : Three w8 _ _ _ _ _ := kept_apart FS7 g8 (fun k e1 e2 => by have := (K7.row.lt k e2).1; simp [Value.ownBlock] at e1; omega)
            refine hK.out _ _ ?_ (fun hHeld => ?_)
            · exact FS8.c
            clear hK K
            try simp only [Act.put, List.setIfInBounds_toArray, List.set_cons_zero, List.set_cons_succ]
            refine takeW 5 (v := ?v11) rfl (by kernel_rfl) (by kernel_rfl) (by kernel_rfl) (fun _ _ _ h => h) (by rfl) (by assumption) ?hy11 ?rest11
            case hy11 => intro w' hSw; (try dsimp only at hSw); go_simp; try with_reducible rfl
            try simp only [Act.put, List.setIfInBounds_toArray, List.set_cons_zero, List.set_cons_succ]
            refine wpAnyH_done (by kernel_rfl) ?_ _
            obtain ⟨xs8, vp8, vr8, K8⟩ := K7.put (s := nwS ss rs zs) hb2 o3 o4 hl3 hl4 o8 g8
            have hB8 := hB7w.grown g8 hB7w.size (fun k e => by have := (K7.row.lt k e).1; omega)
            clear hHeld FS8 FS7 K7 o8 g8
            rcases row_form K8.row with ⟨_, h'⟩ | ⟨g8, c8, rfl, _, hc8⟩
            · exact absurd h' (by omega)
            have hlw : ((ss ++ [nwS ss rs zs]).length : Nat) = ss.length + 1 := by simp
            by_cases h20 : ss.length = 20
            · have HX := hid (puX_many HT.out h20)
              have d20 : decide ((20 : Int) < ((ss.length : Int) + 1)) = true := by simp; omega
              have hb1 : (1 : Int) ≤ (ss.length : Int) + 1 := by omega
              have hb2 : (ss.length : Int) + 1 ≤ (c8 : Int) := by omega
              have hb3 : ¬ (c8 = 1) := by omega
              have hb4 : ((ss.length : Int) + 1).toNat = ss.length + 1 := by omega
              clear h20
              go_wp2_with fail
              go_ret2
              refine ⟨_, by rw [HT.out]; rfl, ?_, hB8⟩
              rw [HX.out]
              exact .inr ⟨g8, ss.length + 1, c8, ss ++ [nwS ss rs zs], ⟨_, _, _, by rw [hlw]; exact K8⟩, by omega, by omega, by rw [hlw]; simp, rfl⟩
            · have HX := hid (puX_few HT.out (by omega))
              have d20 : decide ((20 : Int) < ((ss.length : Int) + 1)) = false := by simp; omega
              clear h20
              go_wp2_with fail
              go_ret2
              refine ⟨_, by rw [HT.out]; rfl, ?_, hB8⟩
              rw [HX.out]
              exact .inl ⟨_, _, _, by rw [hlw]; exact K8⟩
        · obtain ⟨m, hmm⟩ : ∃ m, ss.length = m + 1 := ⟨ss.length - 1, by omega⟩
          have hml : m < ss.length := by omega
          have HNX := hid (show nxN ss = (ss[m]'hml).num + 1 from nxN_at hmm)
          have hne : ¬ ss = [] := fun e => by rw [e] at hml; simp at hml
          obtain ⟨b, off, xp, cp', xr, cr, rfl, hb, hcap, q0, q1, q2, _, _⟩ := hr.at (i := m) hml
          have hnb := HNM.out (ss[m]'hml) (List.getElem_mem _)
          have dz : decide ((0 : Int) < (ss.length : Int)) = true := decide_eq_true (by omega)
          have hw1 : IntKind.i64.wrap ((ss.length : Int) - 1) = (m : Int) := by rw [IntKind.wrap_i64]; omega
          have hl1 : (m : Int) < (ss.length : Int) := by omega
          replace q0 := (hBB4.cell (p := ⟨b, _, none⟩) hb).trans q0
          have hbk : b ≠ w4.heap.size := by omega
          have hkb : w4.heap.size ≠ b := by omega
          clear q1 q2 hmm hpos
          generalize (ss[m]'hml).num = nm at *
          have hw2 : IntKind.i64.wrap (nm + 1) = nm + 1 := by rw [IntKind.wrap_i64]; omega
          have hBa1 : Below w4.heap.size w4 (w4.alloc (.cells #[.int .i64 1, .slice x3 y3 z3, .slice x4 y4 z4] 48)) := (Below.refl _ w4).alloc (Nat.le_refl _) _
          have FS1 := Three.new w4 (.int .i64 1) (.slice x3 y3 z3) (.slice x4 y4 z4) 48
          replace q0 := (hBa1.cell (p := ⟨b, _, none⟩) (Nat.lt_of_lt_of_le hb hs4)).trans q0
          obtain ⟨c0, c1, c2⟩ := FS1.c
          have cf := FS1.f 0
          have hBa : Below w4.heap.size w4 (w4.alloc (.cells #[.int .i64 (nm + 1), .slice x3 y3 z3, .slice x4 y4 z4] 48)) := (Below.refl _ w4).alloc (Nat.le_refl _) _
          have FS := Three.new w4 (.int .i64 (nm + 1)) (.slice x3 y3 z3) (.slice x4 y4 z4) 48
          replace o3 := ownsRow_below o3 hBa
          replace o4 := ownsRow_below o4 hBa
          replace hBB4 := below_one hBB4 hBa
          clear hBa
          obtain ⟨n0, n1, n2⟩ := FS.c
          go_wp2_with fail
          clear c0 c1 c2 cf n0 n1 n2 dz FS1 q0 hne hBa1
          generalize w4.alloc (.cells #[.int .i64 (nm + 1), .slice x3 y3 z3, .slice x4 y4 z4] 48) = W5 at *
          generalize w4.heap.size = k0 at *
          rw [← HNX.out] at FS
          rw [← HNX.out]
          clear HNX hw2
          refine (specGoodSnapshot_any _ (nwS ss rs zs) _ hsh ⟨_, _, rfl, (RuR.own o3).s, (NuR.own o4).s⟩).mono ?_
          rintro e w6 ⟨rfl, hB6⟩
          replace FS := FS.below hB6
          replace o3 := ownsRow_below o3 hB6
          replace o4 := ownsRow_below o4 hB6
          replace hBB4 := below_one hBB4 hB6
          clear hB6
          cases hg4 : snB (nwS ss rs zs)
          · have HT := hid (puB_no4 hg4)
            have HX := hid (puX_no HT.out)
            go_wp2_with fail
            go_ret2
            exact ⟨_, by rw [HT.out]; rfl, by rw [HX.out]; exact .inl (SsO.none _ _ _), hBB4⟩
          have HT := hid (HPY.out hg4)
          clear HPY hg4
          obtain ⟨i0, hi, hz0, hz1, hz2⟩ := info_parts infoSnapshot
          have hBd : Below w6.heap.size w6 w6.drew := (Below.refl _ _).drew
          obtain ⟨c0, c1, c2⟩ := FS.c
          go_wp2_with fail
          replace FS := FS.below hBd
          replace o3 := ownsRow_below o3 hBd
          replace o4 := ownsRow_below o4 hBd
          replace hBB4 := below_one hBB4 hBd
          have hrD := hr.below hBB4
          clear hBd
          refine wp_region_held_drew (S := fun w' => w'.cell? ⟨k0, 0, none⟩ = some (.int .i64 (nxN ss)) ∧ w'.cell? ⟨k0, 1, none⟩ = some (.slice x3 y3 z3) ∧ w'.cell? ⟨k0, 2, none⟩ = some (.slice x4 y4 z4)) (by kernel_rfl) ?_ (fun hHeld => ?_)
          · go_keep
          generalize w6.drew = Wd at *
          refine takeW 0 (v := ?v12) rfl (by kernel_rfl) (by kernel_rfl) (by kernel_rfl) (fun _ _ _ h => h) (by rfl) (by assumption) ?hy12 ?rest12
          case hy12 => intro w' hSw; (try dsimp only at hSw); go_simp; try with_reducible rfl
          try simp only [Act.put, List.setIfInBounds_toArray, List.set_cons_zero, List.set_cons_succ]
          refine takeW 2 (v := ?v13) rfl (by kernel_rfl) (by kernel_rfl) (by kernel_rfl) (fun _ _ _ h => h) (by rfl) (by assumption) ?hy13 ?rest13
          case hy13 => intro w' hSw; (try dsimp only at hSw); go_simp; try with_reducible rfl
          try simp only [Act.put, List.setIfInBounds_toArray, List.set_cons_zero, List.set_cons_succ]
          refine takeC2 1 3 (by kernel_rfl) rfl rfl (fun K hK => ?_) (fun K hK => ?_)
          · go_simp
            refine (l5OwnAll_any _ ss _ hm hrD).mono ?_; rintro e w7 ⟨v7, rfl, O7, hB7⟩; have hc7 := fun o => hB7.cell (p := ⟨k0, o, none⟩) (by exact FS.lt)
            refine hK.out _ _ ?_ (fun hHeld => ?_)
            · first | go_keep | exact FS.c
            clear hK K
            try simp only [Act.put, List.setIfInBounds_toArray, List.set_cons_zero, List.set_cons_succ]
            obtain ⟨xs7, vp7, vr7, K7⟩ := O7
            obtain ⟨s7, t7, r7, rfl⟩ := row_slice K7.row
            refine takeC 3 (by kernel_rfl) rfl (fun K hK => ?_)
            go_simp
            skip
            refine hK.out _ _ ?_ (fun hHeld => ?_)
            · first | go_keep | exact FS.c
            clear hK K
            try simp only [Act.put, List.setIfInBounds_toArray, List.set_cons_zero, List.set_cons_succ]
            have hBv : Below w7.heap.size w7 (w7.alloc (.cells #[.int .i64 (nxN ss), .slice x3 y3 z3, .slice x4 y4 z4] 48)) := (Below.refl _ w7).alloc (Nat.le_refl _) _
            have hct := cell_three_w w7 (.int .i64 (nxN ss)) (.slice x3 y3 z3) (.slice x4 y4 z4)
            have hl3 : ∀ j, (Value.slice x3 y3 z3).ownBlock = some j → j < Wd.heap.size := fun j e => (o3.lt j e).2
            have hl4 : ∀ j, (Value.slice x4 y4 z4).ownBlock = some j → j < Wd.heap.size := fun j e => (o4.lt j e).2
            have hkd : k0 < Wd.heap.size := FS.lt
            have FS7 := (FS.below hB7).below hBv
            replace K7 := (K7.below hBv).top hBv.size
            replace o3 := ownsRow_below (ownsRow_below o3 hB7) hBv
            replace o4 := ownsRow_below (ownsRow_below o4 hB7) hBv
            have hb2 : w.heap.size ≤ Wd.heap.size := hBB4.size
            have hB7w := below_one (below_one hBB4 hB7) hBv
            clear hBv hc7 FS hHeld
            generalize w7.alloc (.cells #[.int .i64 (nxN ss), .slice x3 y3 z3, .slice x4 y4 z4] 48) = W7 at *
            generalize w7.heap.size = kt at *
            refine takeC 4 (by kernel_rfl) rfl (fun K hK => ?_)
            refine step_app_own rfl _ _ 27 rfl w.heap.size 48 i0 _ 3 56 Tryz.underlying27 hi hz0 hz1 hz2 rfl (by decide) _ ss.length xs7 rfl (Go.Joins.ownsRow_le K7.row hb2) ⟨kt, 0, none⟩ 1 1 [.int .i64 (nxN ss), .slice x3 y3 z3, .slice x4 y4 z4] rfl rfl hct (by intro u hu; simp at hu; rcases hu with rfl | rfl | rfl <;> rfl) (by unfold maxLen; omega) (by omega) hB7w.size ?_; intro v8 w8 o8 g8; have FS8 : Three w8 _ _ _ _ _ := kept_apart FS7 g8 (fun k e1 e2 => by have := (K7.row.lt k e2).1; simp [Value.ownBlock] at e1; omega)
            refine hK.out _ _ ?_ (fun hHeld => ?_)
            · exact FS8.c
            clear hK K
            try simp only [Act.put, List.setIfInBounds_toArray, List.set_cons_zero, List.set_cons_succ]
            refine takeW 5 (v := ?v14) rfl (by kernel_rfl) (by kernel_rfl) (by kernel_rfl) (fun _ _ _ h => h) (by rfl) (by assumption) ?hy14 ?rest14
            case hy14 => intro w' hSw; (try dsimp only at hSw); go_simp; try with_reducible rfl
            try simp only [Act.put, List.setIfInBounds_toArray, List.set_cons_zero, List.set_cons_succ]
            refine wpAnyH_done (by kernel_rfl) ?_ _
            obtain ⟨xs8, vp8, vr8, K8⟩ := K7.put (s := nwS ss rs zs) hb2 o3 o4 hl3 hl4 o8 g8
            have hB8 := hB7w.grown g8 hB7w.size (fun k e => by have := (K7.row.lt k e).1; omega)
            clear hHeld FS8 FS7 K7 o8 g8
            rcases row_form K8.row with ⟨_, h'⟩ | ⟨g8, c8, rfl, _, hc8⟩
            · exact absurd h' (by omega)
            have hlw : ((ss ++ [nwS ss rs zs]).length : Nat) = ss.length + 1 := by simp
            by_cases h20 : ss.length = 20
            · have HX := hid (puX_many HT.out h20)
              have d20 : decide ((20 : Int) < ((ss.length : Int) + 1)) = true := by simp; omega
              have hb1 : (1 : Int) ≤ (ss.length : Int) + 1 := by omega
              have hb2 : (ss.length : Int) + 1 ≤ (c8 : Int) := by omega
              have hb3 : ¬ (c8 = 1) := by omega
              have hb4 : ((ss.length : Int) + 1).toNat = ss.length + 1 := by omega
              clear h20
              go_wp2_with fail
              go_ret2
              refine ⟨_, by rw [HT.out]; rfl, ?_, hB8⟩
              rw [HX.out]
              exact .inr ⟨g8, ss.length + 1, c8, ss ++ [nwS ss rs zs], ⟨_, _, _, by rw [hlw]; exact K8⟩, by omega, by omega, by rw [hlw]; simp, rfl⟩
            · have HX := hid (puX_few HT.out (by omega))
              have d20 : decide ((20 : Int) < ((ss.length : Int) + 1)) = false := by simp; omega
              clear h20
              go_wp2_with fail
              go_ret2
              refine ⟨_, by rw [HT.out]; rfl, ?_, hB8⟩
              rw [HX.out]
              exact .inl ⟨_, _, _, by rw [hlw]; exact K8⟩
          · go_simp
            skip
            refine hK.out _ _ ?_ (fun hHeld => ?_)
            · first | go_keep | exact FS.c
            clear hK K
            try simp only [Act.put, List.setIfInBounds_toArray, List.set_cons_zero, List.set_cons_succ]
            have hBv : Below Wd.heap.size Wd (Wd.alloc (.cells #[.int .i64 (nxN ss), .slice x3 y3 z3, .slice x4 y4 z4] 48)) := (Below.refl _ Wd).alloc (Nat.le_refl _) _
            have hct := cell_three_w Wd (.int .i64 (nxN ss)) (.slice x3 y3 z3) (.slice x4 y4 z4)
            have hkt : Wd.heap.size < (Wd.alloc (.cells #[.int .i64 (nxN ss), .slice x3 y3 z3, .slice x4 y4 z4] 48)).heap.size := by simp
            replace FS := FS.below hBv
            replace o3 := ownsRow_below o3 hBv
            replace o4 := ownsRow_below o4 hBv
            replace hBB4 := below_one hBB4 hBv
            replace hrD := hrD.below hBv
            clear hBv
            generalize Wd.alloc (.cells #[.int .i64 (nxN ss), .slice x3 y3 z3, .slice x4 y4 z4] 48) = Wa at *
            generalize Wd.heap.size = kt at *
            refine takeC 1 (by kernel_rfl) rfl (fun K hK => ?_)
            go_simp
            refine (l5OwnAll_any _ ss _ hm hrD).mono ?_; rintro e w7 ⟨v7, rfl, O7, hB7⟩; have hc7 := fun o => hB7.cell (p := ⟨k0, o, none⟩) (by exact FS.lt)
            refine hK.out _ _ ?_ (fun hHeld => ?_)
            · first | go_keep | exact FS.c
            clear hK K
            try simp only [Act.put, List.setIfInBounds_toArray, List.set_cons_zero, List.set_cons_succ]
            obtain ⟨xs7, vp7, vr7, K7⟩ := O7
            obtain ⟨s7, t7, r7, rfl⟩ := row_slice K7.row
            have hct7 : ∀ j u, [Value.int .i64 (nxN ss), .slice x3 y3 z3, .slice x4 y4 z4][j]? = some u → w7.cell? ((⟨kt, 0, none⟩ : Addr).add j) = some u := fun j u hu => by have := hct j u hu; rw [Addr.add_lit] at this ⊢; exact (hB7.cell (p := ⟨kt, 0 + j, none⟩) hkt).trans this
            have hl3 : ∀ j, (Value.slice x3 y3 z3).ownBlock = some j → j < Wa.heap.size := fun j e => (o3.lt j e).2
            have hl4 : ∀ j, (Value.slice x4 y4 z4).ownBlock = some j → j < Wa.heap.size := fun j e => (o4.lt j e).2
            have hkd : k0 < Wa.heap.size := FS.lt
            have FS7 := FS.below hB7
            replace o3 := ownsRow_below o3 hB7
            replace o4 := ownsRow_below o4 hB7
            have hb2 : w.heap.size ≤ Wa.heap.size := hBB4.size
            have hB7w := below_one hBB4 hB7
            clear hc7 FS hHeld hct
            refine takeC 4 (by kernel_rfl) rfl (fun K hK => ?_)
            refine step_app_own rfl _ _ 27 rfl w.heap.size 48 i0 _ 3 56 Tryz.underlying27 hi hz0 hz1 hz2 rfl (by decide) _ ss.length xs7 rfl (Go.Joins.ownsRow_le K7.row hb2) ⟨kt, 0, none⟩ 1 1 [.int .i64 (nxN ss), .slice x3 y3 z3, .slice x4 y4 z4] rfl rfl hct7 (by intro u hu; simp at hu; rcases hu with rfl | rfl | rfl <;> rfl) (by unfold maxLen; omega) (by omega) hB7w.size ?_; intro v8 w8 o8 g8; have FS8 : Three w8 _ _ _ _ _ := kept_apart FS7 g8 (fun k e1 e2 => by have := (K7.row.lt k e2).1; simp [Value.ownBlock] at e1; omega)
            refine hK.out _ _ ?_ (fun hHeld => ?_)
            · exact FS8.c
            clear hK K
            try simp only [Act.put, List.setIfInBounds_toArray, List.set_cons_zero, List.set_cons_succ]
            refine takeW 5 (v := ?v15) rfl (by kernel_rfl) (by kernel_rfl) (by kernel_rfl) (fun _ _ _ h => h) (by rfl) (by assumption) ?hy15 ?rest15
            case hy15 => intro w' hSw; (try dsimp only at hSw); go_simp; try with_reducible rfl
            try simp only [Act.put, List.setIfInBounds_toArray, List.set_cons_zero, List.set_cons_succ]
            refine wpAnyH_done (by kernel_rfl) ?_ _
            obtain ⟨xs8, vp8, vr8, K8⟩ := K7.put (s := nwS ss rs zs) hb2 o3 o4 hl3 hl4 o8 g8
            have hB8 := hB7w.grown g8 hB7w.size (fun k e => by have := (K7.row.lt k e).1; omega)
            clear hHeld FS8 FS7 K7 o8 g8
            rcases row_form K8.row with ⟨_, h'⟩ | ⟨g8, c8, rfl, _, hc8⟩
            · exact absurd h' (by omega)
            have hlw : ((ss ++ [nwS ss rs zs]).length : Nat) = ss.length + 1 := by simp
            by_cases h20 : ss.length = 20
            · have HX := hid (puX_many HT.out h20)
              have d20 : decide ((20 : Int) < ((ss.length : Int) + 1)) = true := by simp; omega
              have hb1 : (1 : Int) ≤ (ss.length : Int) + 1 := by omega
              have hb2 : (ss.length : Int) + 1 ≤ (c8 : Int) := by omega
              have hb3 : ¬ (c8 = 1) := by omega
              have hb4 : ((ss.length : Int) + 1).toNat = ss.length + 1 := by omega
              clear h20
              go_wp2_with fail
              go_ret2
              refine ⟨_, by rw [HT.out]; rfl, ?_, hB8⟩
              rw [HX.out]
              exact .inr ⟨g8, ss.length + 1, c8, ss ++ [nwS ss rs zs], ⟨_, _, _, by rw [hlw]; exact K8⟩, by omega, by omega, by rw [hlw]; simp, rfl⟩
            · have HX := hid (puX_few HT.out (by omega))
              have d20 : decide ((20 : Int) < ((ss.length : Int) + 1)) = false := by simp; omega
              clear h20
              go_wp2_with fail
              go_ret2
              refine ⟨_, by rw [HT.out]; rfl, ?_, hB8⟩
              rw [HX.out]
              exact .inl ⟨_, _, _, by rw [hlw]; exact K8⟩
  · have HT := hid (puB_no3 (ss := ss) (rs := rs) (fewB_no1 h200))
    have HX := hid (puX_no HT.out)
    have d2 : decide ((200 : Int) < (zs.length : Int)) = true := by simp; omega
    go_wp2_with fail
    go_ret2
    exact ⟨_, by rw [HT.out]; rfl, by rw [HX.out]; exact .inl (SsO.none _ _ _), hBB⟩

set_option maxHeartbeats 8000000 in
set_option maxRecDepth 100000 in
theorem implPut_any (v vp vz : Value) (ss : List Sn) (rs : List Ru) (zs : List Int) (w : World) (hm : shortS ss) (hmr : rs.length ≤ 1048577) (hf : ∀ r ∈ rs, r.size ≤ 1048576) (hmz : zs.length ≤ 1048577) (hr : SsR w v ss) (hp : RuR w vp rs) (hz : NuR w vz zs) :
    Calls Tryz.prog 12 #[v, vp, vz] w fun e w' => ∃ v', e = .returned (.tuple #[v', .bool (puB ss rs zs)]) ∧ SsO w' w.heap.size w'.heap.size v' (puX ss rs zs) ∧ Below w.heap.size w w' := by
  obtain ⟨a, cap, rfl⟩ := hr.len
  obtain ⟨ap, cp, rfl⟩ := hp.len
  obtain ⟨az, cz, rfl⟩ := hz.len
  have hm1 := hm.1
  go_enter Tryz.func12, Tryz.ntmps12
  go_wp2_with fail
  refine (implPlain_any _ rs _ hmr hf hp).mono ?_
  rintro e w1 ⟨v1, rfl, o1, hB1⟩
  obtain ⟨x1, y1, z1, rfl⟩ := row_slice o1
  cases hg2 : polB rs
  · have HT := hid (puB_no2 (ss := ss) (zs := zs) hg2)
    have HX := hid (puX_no HT.out)
    go_wp2_with fail
    go_ret2
    exact ⟨_, by rw [HT.out]; rfl, by rw [HX.out]; exact SsO.none _ _ _, hB1⟩
  go_wp2_with fail
  refine (goodVersions_any _ ss _ hm (hr.below hB1)).mono ?_
  rintro e w2 ⟨rfl, hB2⟩
  have hBB := below_one hB1 hB2
  replace o1 := ownsRow_below o1 hB2
  clear hB1 hB2
  cases hg : lsB ss
  · have HT := hid (puB_no1 (rs := rs) (zs := zs) hg)
    have HX := hid (puX_no HT.out)
    go_wp2_with fail
    go_ret2
    exact ⟨_, by rw [HT.out]; rfl, by rw [HX.out]; exact SsO.none _ _ _, hBB⟩
  go_wp2_with fail
  refine (fewSerials_any _ zs _ hmz (hz.below hBB).s).mono ?_
  rintro e w3 ⟨rfl, rfl⟩
  cases hfew : fewB zs
  · have HT := hid (puB_no3 (ss := ss) (rs := rs) hfew)
    have HX := hid (puX_no HT.out)
    go_wp2_with fail
    go_ret2
    exact ⟨_, by rw [HT.out]; rfl, by rw [HX.out]; exact SsO.none _ _ _, hBB⟩
  have h200 := fewB_len hfew
  have hsh := nwS_short (ss := ss) hg2 hfew hf
  have h20l := (lsB_all hg).1
  have HPY := hid (fun h => puB_yes (zs := zs) hg hg2 hfew h)
  go_wp2_with fail
  refine (nextNumber_any _ ss _ hm1 hg (hr.below hBB)).mono ?_
  rintro e w4 ⟨rfl, rfl⟩
  have hBv : Below w4.heap.size w4 (w4.alloc (.cells #[.slice az zs.length cz] 24)) := (Below.refl _ w4).alloc (Nat.le_refl _) _
  have hct : (w4.alloc (.cells #[.slice az zs.length cz] 24)).cell? ⟨w4.heap.size, 0, none⟩ = some (.slice az zs.length cz) := by simp
  have hkt : w4.heap.size < (w4.alloc (.cells #[.slice az zs.length cz] 24)).heap.size := by simp
  replace o1 := ownsRow_below o1 hBv
  replace hBB := below_one hBB hBv
  clear hBv hg hg2 hfew
  go_wp2_with fail
  generalize w4.alloc (.cells #[.slice az zs.length cz] 24) = W4 at *
  generalize w4.heap.size = kv at *
  have hc1 : ∀ j (h : j < [(Value.slice az zs.length cz, zs)].length), W4.cell? ⟨kv, j, none⟩ = some ([(Value.slice az zs.length cz, zs)][j]).1 := fun j hj => by
    obtain rfl : j = 0 := by simpa using hj
    exact hct
  have hc2 : ∀ j (h : j < [(Value.slice az zs.length cz, zs)].length), NuR W4 ([(Value.slice az zs.length cz, zs)][j]).1 ([(Value.slice az zs.length cz, zs)][j]).2 := fun j hj => by
    obtain rfl : j = 0 := by simpa using hj
    exact hz.below hBB
  refine (eachOnce_any kv [(.slice az zs.length cz, zs)] _ (by simp [catT]; omega) (by simp) hc1 hkt hc2).mono ?_
  rintro e w5 ⟨v5, rfl, o4, hB5⟩
  rw [show catT [(Value.slice az zs.length cz, zs)] [(Value.slice az zs.length cz, zs)].length = zs by simp [catT]] at o4
  obtain ⟨x4, y4, z4, rfl⟩ := row_slice o4
  have hBa : Below w5.heap.size w5 (w5.alloc (.cells #[.int .i64 (nxN ss), .slice x1 y1 z1, .slice x4 y4 z4] 48)) := (Below.refl _ w5).alloc (Nat.le_refl _) _
  have FS := Three.new w5 (.int .i64 (nxN ss)) (.slice x1 y1 z1) (.slice x4 y4 z4) 48
  replace o1 := ownsRow_below (ownsRow_below o1 hB5) hBa
  replace o4 := ownsRow_below o4 hBa
  replace hBB := below_one (below_one hBB hB5) hBa
  obtain ⟨c0, c1, c2⟩ := FS.c
  clear hBa hB5 hct hkt hc1 hc2
  go_wp2_with fail
  clear c0 c1 c2
  generalize w5.alloc (.cells #[.int .i64 (nxN ss), .slice x1 y1 z1, .slice x4 y4 z4] 48) = W5 at *
  generalize w5.heap.size = k0 at *
  refine (implGoodSnapshot_any _ (nwS ss rs zs) _ hsh ⟨_, _, rfl, RuR.own o1, NuR.own o4⟩).mono ?_
  rintro e w6 ⟨rfl, hB6⟩
  replace FS := FS.below hB6
  replace o1 := ownsRow_below o1 hB6
  replace o4 := ownsRow_below o4 hB6
  replace hBB := below_one hBB hB6
  clear hB6
  cases hg4 : snB (nwS ss rs zs)
  · have HT := hid (puB_no4 hg4)
    have HX := hid (puX_no HT.out)
    go_wp2_with fail
    go_ret2
    exact ⟨_, by rw [HT.out]; rfl, by rw [HX.out]; exact SsO.none _ _ _, hBB⟩
  have HT := hid (HPY.out hg4)
  clear HPY hg4
  obtain ⟨i0, hi, hz0, hz1, hz2⟩ := info_parts infoSnapshot
  obtain ⟨kk, hkk, hsh9, HX, HK⟩ : ∃ kk : Nat, (kk < ss.length ∨ (kk = 0 ∧ ss = [])) ∧ shortS (ss.drop kk ++ [nwS ss rs zs]) ∧ Hid (puX ss rs zs = ss.drop kk ++ [nwS ss rs zs]) ∧ Hid ((kk = 1 ∧ ss.length = 20) ∨ (kk = 0 ∧ ss.length ≤ 19)) := by
    have hsd : ∀ k, shortS (ss.drop k ++ [nwS ss rs zs]) := fun k => ⟨by simp; omega, fun s hs => by
      rcases List.mem_append.1 hs with h | h
      · exact (shortS_drop hm k).2 s h
      · rw [List.mem_singleton.1 h]; exact hsh⟩
    by_cases h20 : ss.length = 20
    · exact ⟨1, .inl (by omega), hsd 1, hid (by rw [puX_many HT.out h20, List.drop_append_of_le_length (by omega)]), hid (.inl ⟨rfl, h20⟩)⟩
    · refine ⟨0, ?_, hsd 0, hid (by rw [puX_few HT.out (by omega)]; rfl), hid (.inr ⟨rfl, by omega⟩)⟩
      rcases Nat.eq_zero_or_pos ss.length with h0 | h0
      · exact .inr ⟨rfl, List.eq_nil_of_length_eq_zero h0⟩
      · exact .inl h0
  have hww : IntKind.i64.wrap ((ss.length : Int) + 1) = (ss.length : Int) + 1 := by rw [IntKind.wrap_i64]; omega
  have hwx : IntKind.i64.wrap ((ss.length : Int) + 1 - 20) = (ss.length : Int) + 1 - 20 := by rw [IntKind.wrap_i64]; omega
  have hmx : max (0 : Int) ((ss.length : Int) + 1 - 20) = (kk : Int) := by have := HK.out; omega
  obtain ⟨c0, c1, c2⟩ := FS.c
  go_wp2_with fail
  have hBd : Below w6.heap.size w6 w6.drew := (Below.refl _ _).drew
  replace FS := FS.below hBd
  replace o1 := ownsRow_below o1 hBd
  replace o4 := ownsRow_below o4 hBd
  replace hBB := below_one hBB hBd
  have hrD := hr.below hBB
  clear hBd
  refine wp_region_held_drew (S := fun w' => w'.cell? ⟨k0, 0, none⟩ = some (.int .i64 (nxN ss)) ∧ w'.cell? ⟨k0, 1, none⟩ = some (.slice x1 y1 z1) ∧ w'.cell? ⟨k0, 2, none⟩ = some (.slice x4 y4 z4)) (by kernel_rfl) ?_ (fun hHeld => ?_)
  · go_keep
  generalize w6.drew = Wd at *
  refine takeW 0 (v := ?v1) rfl (by kernel_rfl) (by kernel_rfl) (by kernel_rfl) (fun _ _ _ h => h) (by rfl) (by assumption) ?hy1 ?rest1
  case hy1 => intro w' hSw; (try dsimp only at hSw); go_simp; try with_reducible rfl
  try simp only [Act.put, List.setIfInBounds_toArray, List.set_cons_zero, List.set_cons_succ]
  refine takeW 1 (v := ?v2) rfl (by kernel_rfl) (by kernel_rfl) (by kernel_rfl) (fun _ _ _ h => h) (by rfl) (by assumption) ?hy2 ?rest2
  case hy2 => intro w' hSw; (try dsimp only at hSw); go_simp; try with_reducible rfl
  try simp only [Act.put, List.setIfInBounds_toArray, List.set_cons_zero, List.set_cons_succ]
  refine takeW 3 (v := ?v3) rfl (by kernel_rfl) (by kernel_rfl) (by kernel_rfl) (fun _ _ _ h => h) (by rfl) (by assumption) ?hy3 ?rest3
  case hy3 => intro w' hSw; (try dsimp only at hSw); go_simp; try with_reducible rfl
  try simp only [Act.put, List.setIfInBounds_toArray, List.set_cons_zero, List.set_cons_succ]
  refine takeC2 2 4 (by kernel_rfl) rfl rfl (fun K hK => ?_) (fun K hK => ?_)
  · go_simp
    refine (cutFromL_any _ ss kk _ hm1 hkk hrD).mono ?_; rintro e w7 ⟨ac, rfl, hw7, hrc⟩; have hw7' := hw7.symm; clear hw7; subst hw7'
    refine hK.out _ _ ?_ (fun hHeld => ?_)
    · first | go_keep | exact FS.c
    clear hK K
    try simp only [Act.put, List.setIfInBounds_toArray, List.set_cons_zero, List.set_cons_succ]
    refine takeC 4 (by kernel_rfl) rfl (fun K hK => ?_)
    go_simp
    skip
    refine hK.out _ _ ?_ (fun hHeld => ?_)
    · first | go_keep | exact FS.c
    clear hK K
    try simp only [Act.put, List.setIfInBounds_toArray, List.set_cons_zero, List.set_cons_succ]
    have hrX := hrc
    clear hrc
    have hBv : Below Wd.heap.size Wd (Wd.alloc (.cells #[.int .i64 (nxN ss), .slice x1 y1 z1, .slice x4 y4 z4] 48)) := (Below.refl _ Wd).alloc (Nat.le_refl _) _
    have hct := cell_three_w Wd (.int .i64 (nxN ss)) (.slice x1 y1 z1) (.slice x4 y4 z4)
    replace FS := FS.below hBv
    replace o1 := ownsRow_below o1 hBv
    replace o4 := ownsRow_below o4 hBv
    replace hBB := below_one hBB hBv
    replace hrX := hrX.below hBv
    clear hBv
    generalize Wd.alloc (.cells #[.int .i64 (nxN ss), .slice x1 y1 z1, .slice x4 y4 z4] 48) = Wa at *
    generalize Wd.heap.size = kt at *
    have hrc := hrX
    obtain ⟨xs, hxl, hxr, hxc⟩ := hrc.cells
    rw [List.length_drop] at hxl
    have hnn : ac = none → ss.length - kk = 0 ∧ ss.length - kk = 0 := fun e => by
      rcases hrc with ⟨hv, _⟩ | ⟨b, off, cap, hv, _⟩
      · injection hv with _ h1 _
        exact ⟨h1, h1⟩
      · injection hv with h1 _ _
        rw [e] at h1
        cases h1
    refine takeC 5 (by kernel_rfl) rfl (fun K hK => ?_)
    refine step_append_grows rfl _ _ 27 rfl 48 i0 _ 3 56 Tryz.underlying27 hi hz0 hz1 hz2 rfl (by decide) ac (ss.length - kk) (ss.length - kk) xs rfl hnn hxl (hxc _ _ _ rfl) ⟨kt, 0, none⟩ 1 1 [.int .i64 (nxN ss), .slice x1 y1 z1, .slice x4 y4 z4] rfl rfl hct (by intro u hu; simp at hu; rcases hu with rfl | rfl | rfl <;> rfl) (by omega) (by unfold maxLen; omega) (by omega) ?_; intro v8 w8 o8 g8; have hB8 : Below Wa.heap.size Wa w8 := (Below.refl _ _).grown g8 (Nat.le_refl _) (fun k e => by cases e); have FS8 := FS.below hB8
    refine hK.out _ _ ?_ (fun hHeld => ?_)
    · exact FS8.c
    clear hK K
    try simp only [Act.put, List.setIfInBounds_toArray, List.set_cons_zero, List.set_cons_succ]
    have hr8 : SsR w8 v8 (ss.drop kk ++ [nwS ss rs zs]) := SsR.put (w := Wa) (ss := ss.drop kk) (s := nwS ss rs zs) (by rw [List.length_drop]; exact hxl) hxr (RuR.own o1) (NuR.own o4) (by rw [List.length_drop]; exact o8) hB8
    refine takeC 6 (by kernel_rfl) rfl (fun K hK => ?_)
    go_simp
    refine (copySnapshots_any _ (ss.drop kk ++ [nwS ss rs zs]) _ hsh9 hr8).mono ?_; rintro e w9 ⟨v9, rfl, O9, hB9⟩; have FS9 := FS8.below hB9
    refine hK.out _ _ ?_ (fun hHeld => ?_)
    · exact FS9.c
    clear hK K
    try simp only [Act.put, List.setIfInBounds_toArray, List.set_cons_zero, List.set_cons_succ]
    refine takeW 7 (v := ?v4) rfl (by kernel_rfl) (by kernel_rfl) (by kernel_rfl) (fun _ _ _ h => h) (by rfl) (by assumption) ?hy4 ?rest4
    case hy4 => intro w' hSw; (try dsimp only at hSw); go_simp; try with_reducible rfl
    try simp only [Act.put, List.setIfInBounds_toArray, List.set_cons_zero, List.set_cons_succ]
    refine takeW 8 (v := ?v5) rfl (by kernel_rfl) (by kernel_rfl) (by kernel_rfl) (fun _ _ _ h => h) (by rfl) (by assumption) ?hy5 ?rest5
    case hy5 => intro w' hSw; (try dsimp only at hSw); go_simp; try with_reducible rfl
    try simp only [Act.put, List.setIfInBounds_toArray, List.set_cons_zero, List.set_cons_succ]
    refine wpAnyH_done (by kernel_rfl) ?_ _
    have hBE := below_one (below_one hBB hB8) hB9
    go_wp2_with fail
    go_ret2
    exact ⟨_, by rw [HT.out]; rfl, by rw [HX.out]; exact O9.mono (below_one hBB hB8).size (Nat.le_refl _), hBE⟩
  · go_simp
    skip
    refine hK.out _ _ ?_ (fun hHeld => ?_)
    · first | go_keep | exact FS.c
    clear hK K
    try simp only [Act.put, List.setIfInBounds_toArray, List.set_cons_zero, List.set_cons_succ]
    have hBv : Below Wd.heap.size Wd (Wd.alloc (.cells #[.int .i64 (nxN ss), .slice x1 y1 z1, .slice x4 y4 z4] 48)) := (Below.refl _ Wd).alloc (Nat.le_refl _) _
    have hct := cell_three_w Wd (.int .i64 (nxN ss)) (.slice x1 y1 z1) (.slice x4 y4 z4)
    replace FS := FS.below hBv
    replace o1 := ownsRow_below o1 hBv
    replace o4 := ownsRow_below o4 hBv
    replace hBB := below_one hBB hBv
    replace hrD := hrD.below hBv
    clear hBv
    generalize Wd.alloc (.cells #[.int .i64 (nxN ss), .slice x1 y1 z1, .slice x4 y4 z4] 48) = Wa at *
    generalize Wd.heap.size = kt at *
    refine takeC 2 (by kernel_rfl) rfl (fun K hK => ?_)
    go_simp
    refine (cutFromL_any _ ss kk _ hm1 hkk hrD).mono ?_; rintro e w7 ⟨ac, rfl, hw7, hrc⟩; have hw7' := hw7.symm; clear hw7; subst hw7'
    refine hK.out _ _ ?_ (fun hHeld => ?_)
    · first | go_keep | exact FS.c
    clear hK K
    try simp only [Act.put, List.setIfInBounds_toArray, List.set_cons_zero, List.set_cons_succ]
    obtain ⟨xs, hxl, hxr, hxc⟩ := hrc.cells
    rw [List.length_drop] at hxl
    have hnn : ac = none → ss.length - kk = 0 ∧ ss.length - kk = 0 := fun e => by
      rcases hrc with ⟨hv, _⟩ | ⟨b, off, cap, hv, _⟩
      · injection hv with _ h1 _
        exact ⟨h1, h1⟩
      · injection hv with h1 _ _
        rw [e] at h1
        cases h1
    refine takeC 5 (by kernel_rfl) rfl (fun K hK => ?_)
    refine step_append_grows rfl _ _ 27 rfl 48 i0 _ 3 56 Tryz.underlying27 hi hz0 hz1 hz2 rfl (by decide) ac (ss.length - kk) (ss.length - kk) xs rfl hnn hxl (hxc _ _ _ rfl) ⟨kt, 0, none⟩ 1 1 [.int .i64 (nxN ss), .slice x1 y1 z1, .slice x4 y4 z4] rfl rfl hct (by intro u hu; simp at hu; rcases hu with rfl | rfl | rfl <;> rfl) (by omega) (by unfold maxLen; omega) (by omega) ?_; intro v8 w8 o8 g8; have hB8 : Below Wa.heap.size Wa w8 := (Below.refl _ _).grown g8 (Nat.le_refl _) (fun k e => by cases e); have FS8 := FS.below hB8
    refine hK.out _ _ ?_ (fun hHeld => ?_)
    · exact FS8.c
    clear hK K
    try simp only [Act.put, List.setIfInBounds_toArray, List.set_cons_zero, List.set_cons_succ]
    have hr8 : SsR w8 v8 (ss.drop kk ++ [nwS ss rs zs]) := SsR.put (w := Wa) (ss := ss.drop kk) (s := nwS ss rs zs) (by rw [List.length_drop]; exact hxl) hxr (RuR.own o1) (NuR.own o4) (by rw [List.length_drop]; exact o8) hB8
    refine takeC 6 (by kernel_rfl) rfl (fun K hK => ?_)
    go_simp
    refine (copySnapshots_any _ (ss.drop kk ++ [nwS ss rs zs]) _ hsh9 hr8).mono ?_; rintro e w9 ⟨v9, rfl, O9, hB9⟩; have FS9 := FS8.below hB9
    refine hK.out _ _ ?_ (fun hHeld => ?_)
    · exact FS9.c
    clear hK K
    try simp only [Act.put, List.setIfInBounds_toArray, List.set_cons_zero, List.set_cons_succ]
    refine takeW 7 (v := ?v6) rfl (by kernel_rfl) (by kernel_rfl) (by kernel_rfl) (fun _ _ _ h => h) (by rfl) (by assumption) ?hy6 ?rest6
    case hy6 => intro w' hSw; (try dsimp only at hSw); go_simp; try with_reducible rfl
    try simp only [Act.put, List.setIfInBounds_toArray, List.set_cons_zero, List.set_cons_succ]
    refine takeW 8 (v := ?v7) rfl (by kernel_rfl) (by kernel_rfl) (by kernel_rfl) (fun _ _ _ h => h) (by rfl) (by assumption) ?hy7 ?rest7
    case hy7 => intro w' hSw; (try dsimp only at hSw); go_simp; try with_reducible rfl
    try simp only [Act.put, List.setIfInBounds_toArray, List.set_cons_zero, List.set_cons_succ]
    refine wpAnyH_done (by kernel_rfl) ?_ _
    have hBE := below_one (below_one hBB hB8) hB9
    go_wp2_with fail
    go_ret2
    exact ⟨_, by rw [HT.out]; rfl, by rw [HX.out]; exact O9.mono (below_one hBB hB8).size (Nat.le_refl _), hBE⟩

end Go.Proofs.YtmmjiocmldnamaaGreat
