/-
  Chapter 4: RevokeWork, by the program.
-/
import Derived.Test.YtfchmhcnejifhaaDoorIssW
import Derived.Test.YtfchmhcnejifhaaDoorInsN
namespace Go.Proofs.YtfchmhcnejifhaaDoor
open Go.RowKit Go.Shelf

theorem wflat_live : ∀ (ws : List Wk) (n : Nat) (h : n < ws.length), (ws.flatMap Wk.cells).set (n * 3 + 1) (.bool false) = (ws.set n ⟨ws[n].name, false, ws[n].se⟩).flatMap Wk.cells
  | [], n, h => by simp at h
  | x :: ws, 0, _ => rfl
  | x :: ws, n + 1, h => by
    have ih := wflat_live ws n (by simpa using h)
    simp only [List.getElem_cons_succ]
    rw [List.set_cons_succ, List.flatMap_cons, List.flatMap_cons, ← ih, show (n + 1) * 3 + 1 = n * 3 + 1 + 3 by omega]
    rfl
theorem nput (zs : List Int) (n : Nat) (z : Int) : (nums zs).take n ++ [Value.int .i64 z] ++ (nums zs).drop n = nums (zs.take n ++ z :: zs.drop n) := by
  unfold nums
  simp
theorem rk_bad {s : Is} {n : ByteArray} (h : rkE s n = .bad) : rkX s n = (Is.none, 0, 1) := by
  unfold rkE at h
  unfold rkX
  split at h
  · rename_i hb
    rw [if_pos hb]
  · split at h <;> cases h
theorem rk_no {s : Is} {n : ByteArray} (h : rkE s n = .noWork) : rkX s n = (s, (s.rv.length : Int), 3) := by
  unfold rkE at h
  unfold rkX
  split at h
  · cases h
  · rename_i h1
    rw [if_neg h1]
    split at h
    · cases h
    · rename_i h2
      rw [if_pos (by simpa using h2)]
theorem rk_at {s : Is} {n : ByteArray} (hb : isB s = true) (hg : nmOk n = true) (hl : livW s.ws n = true) (h : atW s.ws n < s.ws.length) : rkX s n = (⟨s.ws.set (atW s.ws n) ⟨s.ws[atW s.ws n].name, false, s.ws[atW s.ws n].se⟩, s.nx, rvN s.rv s.ws[atW s.ws n].se, s.sg⟩, ((rvN s.rv s.ws[atW s.ws n].se).length : Int), 0) := by
  unfold rkX
  rw [hb, hg, if_neg (by decide), hl, if_neg (by decide), List.getElem?_eq_getElem h, liSet_at h]
theorem rk_nil {s : Is} {n : ByteArray} (h : rkE s n = .nil) : isB s = true ∧ nmOk n = true ∧ livW s.ws n = true := by
  unfold rkE at h
  split at h
  · cases h
  · rename_i h1
    split at h
    · rename_i h2
      cases hb : isB s
      · rw [hb] at h1
        exact absurd rfl h1
      · cases hg : nmOk n
        · rw [hb, hg] at h1
          exact absurd rfl h1
        · exact ⟨rfl, rfl, h2⟩
    · cases h
theorem rk_not {s : Is} {n : ByteArray} : rkE s n ≠ .twice ∧ rkE s n ≠ .full := by
  unfold rkE
  split
  · exact ⟨fun h => (by cases h), fun h => (by cases h)⟩
  · split <;> exact ⟨fun h => (by cases h), fun h => (by cases h)⟩

set_option maxHeartbeats 8000000 in
set_option maxRecDepth 100000 in
theorem implRevoke_any (v : Value) (s : Is) (name : ByteArray) (p0 p1 p2 p3 : Addr) (base top : Nat) (w : World) (hs : s.short) (hn : s.named) (hm : name.size ≤ 1048576) (hE : ErA w p0 p1 p2 p3) (h : IsO w base top v s) :
    Calls Tryd.prog 13 #[v, .string name] w fun e w' => ∃ v', e = .returned (.tuple #[v', .int .i64 (rkX s name).2.1, .int .i64 (rkX s name).2.2]) ∧ IsO w' w.heap.size w'.heap.size v' (rkX s name).1 ∧ Below w.heap.size w w' := by
  obtain ⟨aw, cw, ar, cr, ag, cg, rfl⟩ := is_forms h.a
  have hB0 : Below w.heap.size w ((w.alloc (.cells #[.slice aw s.ws.length cw, .int .i64 s.nx, .slice ar s.rv.length cr, .slice ag s.sg.length cg] 30)).alloc (.cells #[.slice none 0 0, .int .i64 0, .slice none 0 0, .slice none 0 0] 30)) := ((Below.refl _ w).alloc (Nat.le_refl _) _).alloc (by simp) _
  have F1 := (Four.new w (.slice aw s.ws.length cw) (.int .i64 s.nx) (.slice ar s.rv.length cr) (.slice ag s.sg.length cg) 30).below ((Below.refl _ _).alloc (Nat.le_refl _) (.cells #[.slice none 0 0, .int .i64 0, .slice none 0 0, .slice none 0 0] 30))
  have F2 := Four.at (w.alloc (.cells #[.slice aw s.ws.length cw, .int .i64 s.nx, .slice ar s.rv.length cr, .slice ag s.sg.length cg] 30)) (.slice none 0 0) (.int .i64 0) (.slice none 0 0) (.slice none 0 0) 30 (k := w.heap.size + 1) (by simp)
  go_enter Tryd.func13, Tryd.ntmps13
  go_wp2_with fail
  generalize (w.alloc (.cells #[.slice aw s.ws.length cw, .int .i64 s.nx, .slice ar s.rv.length cr, .slice ag s.sg.length cg] 30)).alloc (.cells #[.slice none 0 0, .int .i64 0, .slice none 0 0, .slice none 0 0] 30) = Wz at *
  refine (mayRevoke_any _ s name p0 p1 p2 p3 _ hs hn hm (hE.below hB0) (h.a.below hB0)).mono ?_
  rintro e w1 ⟨rfl, hB1⟩
  replace F1 := F1.below hB1
  replace F2 := F2.below hB1
  have hBB1 := below_one hB0 hB1
  have hk0 : w.heap.size + 1 < w1.heap.size := F2.lt
  clear hB0 hB1
  obtain ⟨a0, a1, a2, a3⟩ := F1.c
  have E1 := hE.below hBB1
  have O1 := h.below hBB1
  cases he : rkE s name with
  | twice => exact absurd he rk_not.1
  | full => exact absurd he rk_not.2
  | bad =>
    have HR := hid (rk_bad he)
    clear he
    go_wp2_with fail
    refine (beside_bad _ s p0 p0 p1 p2 p3 base top _ E1 O1).mono ?_
    rintro e w2 ⟨rfl, hB2⟩
    have hBa : Below w2.heap.size w2 (w2.alloc (.cells #[(.slice none 0 0), (.int .i64 0), (.slice none 0 0), (.slice none 0 0)] 30)) := (Below.refl _ w2).alloc (Nat.le_refl _) _
    have FA := Four.new w2 (.slice none 0 0) (.int .i64 0) (.slice none 0 0) (.slice none 0 0) 30
    replace F2 := (F2.below hB2).below hBa
    have hBB3 := below_two hBB1 hB2 hBa
    have hkn : w2.heap.size ≠ w.heap.size + 1 := fun hh => by have := hB2.size; omega
    have E3 := hE.below hBB3
    go_wp2_with fail
    generalize w2.alloc (.cells #[(.slice none 0 0), (.int .i64 0), (.slice none 0 0), (.slice none 0 0)] 30) = W3 at *
    generalize w2.heap.size = k2 at *
    obtain ⟨c0, c1, c2, c3⟩ := FA.c
    refine wp_region_held_drew (S := fun w' => w'.cell? ⟨k2, 0, none⟩ = some (.slice none 0 0) ∧ w'.cell? ⟨k2, 1, none⟩ = some (.int .i64 0) ∧ w'.cell? ⟨k2, 2, none⟩ = some (.slice none 0 0) ∧ w'.cell? ⟨k2, 3, none⟩ = some (.slice none 0 0)) (by kernel_rfl) ?_ (fun hHeld => ?_)
    · first | go_keep | exact (((((FA.below (below_drew1 hB4)).other hkn 0 _).other hkn 1 _).other hkn 2 _).other hkn 3 _).c
    refine takeW 0 (v := ?v10) rfl (by kernel_rfl) (by kernel_rfl) (by kernel_rfl) (fun _ _ _ h => h) (by rfl) (by assumption) ?hy10 ?rest10
    case hy10 => intro w' hSw; (try dsimp only at hSw); go_simp; try with_reducible rfl
    try simp only [Act.put, List.setIfInBounds_toArray, List.set_cons_zero, List.set_cons_succ]
    refine takeW 1 (v := ?v11) rfl (by kernel_rfl) (by kernel_rfl) (by kernel_rfl) (fun _ _ _ h => h) (by rfl) (by assumption) ?hy11 ?rest11
    case hy11 => intro w' hSw; (try dsimp only at hSw); go_simp; try with_reducible rfl
    try simp only [Act.put, List.setIfInBounds_toArray, List.set_cons_zero, List.set_cons_succ]
    refine takeW 2 (v := ?v12) rfl (by kernel_rfl) (by kernel_rfl) (by kernel_rfl) (fun _ _ _ h => h) (by rfl) (by assumption) ?hy12 ?rest12
    case hy12 => intro w' hSw; (try dsimp only at hSw); go_simp; try with_reducible rfl
    try simp only [Act.put, List.setIfInBounds_toArray, List.set_cons_zero, List.set_cons_succ]
    refine takeW 3 (v := ?v13) rfl (by kernel_rfl) (by kernel_rfl) (by kernel_rfl) (fun _ _ _ h => h) (by rfl) (by assumption) ?hy13 ?rest13
    case hy13 => intro w' hSw; (try dsimp only at hSw); go_simp; try with_reducible rfl
    try simp only [Act.put, List.setIfInBounds_toArray, List.set_cons_zero, List.set_cons_succ]
    refine takeW 4 (v := ?v14) rfl (by kernel_rfl) (by kernel_rfl) (by kernel_rfl) (fun _ _ _ h => h) (by rfl) (by assumption) ?hy14 ?rest14
    case hy14 => intro w' hSw; (try dsimp only at hSw); go_simp; try with_reducible rfl
    try simp only [Act.put, List.setIfInBounds_toArray, List.set_cons_zero, List.set_cons_succ]
    refine takeC 5 (by kernel_rfl) rfl (fun K hK => ?_)
    go_simp
    refine (codeOf_any .bad p0 p1 p2 p3 _ (fun hh => by cases hh) (by exact E3.below (Below.refl _ _).drew)).mono ?_; rintro e w4 ⟨rfl, hB4⟩; have hc4 := fun o => hB4.cell (p := ⟨k2, o, none⟩) (by exact FA.lt); have G2 : Four w4 _ _ _ _ _ _ := F2.below (below_drew1 hB4); have hBB4 := below_one hBB3 (below_drew1 hB4); obtain ⟨r0, r1, r2, r3⟩ := G2.c; have f0 := G2.f 0; have f1 := G2.f 1; have f2 := G2.f 2; have f3 := G2.f 3
    refine hK.out _ _ ?_ (fun hHeld => ?_)
    · first | go_keep | exact (((((FA.below (below_drew1 hB4)).other hkn 0 _).other hkn 1 _).other hkn 2 _).other hkn 3 _).c
    clear hK K
    try simp only [Act.put, List.setIfInBounds_toArray, List.set_cons_zero, List.set_cons_succ]
    refine takeC 6 (by kernel_rfl) rfl (fun K hK => ?_)
    go_simp
    skip
    refine hK.out _ _ ?_ (fun hHeld => ?_)
    · first | go_keep | exact (((((FA.below (below_drew1 hB4)).other hkn 0 _).other hkn 1 _).other hkn 2 _).other hkn 3 _).c
    clear hK K
    try simp only [Act.put, List.setIfInBounds_toArray, List.set_cons_zero, List.set_cons_succ]
    refine takeW 7 (v := ?v15) rfl (by kernel_rfl) (by kernel_rfl) (by kernel_rfl) (fun _ _ _ h => h) (by rfl) (by assumption) ?hy15 ?rest15
    case hy15 => intro w' hSw; (try dsimp only at hSw); go_simp; try with_reducible rfl
    try simp only [Act.put, List.setIfInBounds_toArray, List.set_cons_zero, List.set_cons_succ]
    refine takeW 8 (v := ?v16) rfl (by kernel_rfl) (by kernel_rfl) (by kernel_rfl) (fun _ _ _ h => h) (by rfl) (by assumption) ?hy16 ?rest16
    case hy16 => intro w' hSw; (try dsimp only at hSw); go_simp; try with_reducible rfl
    try simp only [Act.put, List.setIfInBounds_toArray, List.set_cons_zero, List.set_cons_succ]
    refine wpAnyH_done (by kernel_rfl) ?_ _
    have G := (((G2.s0 (.slice none 0 0)).s1 (.int .i64 0)).s2 (.slice none 0 0)).s3 (.slice none 0 0)
    have pB := below_four hBB4 (k := w.heap.size + 1) (by omega) (.slice none 0 0) (.int .i64 0) (.slice none 0 0) (.slice none 0 0)
    have HI := none_o ((((w4.setCell ⟨w.heap.size + 1, 0, none⟩ (.slice none 0 0)).setCell ⟨w.heap.size + 1, 1, none⟩ (.int .i64 0)).setCell ⟨w.heap.size + 1, 2, none⟩ (.slice none 0 0)).setCell ⟨w.heap.size + 1, 3, none⟩ (.slice none 0 0)) w.heap.size ((((w4.setCell ⟨w.heap.size + 1, 0, none⟩ (.slice none 0 0)).setCell ⟨w.heap.size + 1, 1, none⟩ (.int .i64 0)).setCell ⟨w.heap.size + 1, 2, none⟩ (.slice none 0 0)).setCell ⟨w.heap.size + 1, 3, none⟩ (.slice none 0 0)).heap.size
    go_wp2_with fail
    clear r0 r1 r2 r3 f0 f1 f2 f3 hHeld hc4
    generalize (((w4.setCell ⟨w.heap.size + 1, 0, none⟩ (.slice none 0 0)).setCell ⟨w.heap.size + 1, 1, none⟩ (.int .i64 0)).setCell ⟨w.heap.size + 1, 2, none⟩ (.slice none 0 0)).setCell ⟨w.heap.size + 1, 3, none⟩ (.slice none 0 0) = W5 at *
    obtain ⟨d0, d1, d2, d3⟩ := G.c
    exact bodyPost_ret (v := .tuple #[.agg #[(.slice none 0 0), (.int .i64 0), (.slice none 0 0), (.slice none 0 0)], .int .i64 0, .int .i64 1]) (by simp [results, Tryd.results13, go_sem, d0, d1, d2, d3, Er.code]) rfl ⟨_, by rw [HR.out], by rw [HR.out]; exact HI, pB⟩
  | noWork =>
    have HR := hid (rk_no he)
    clear he
    go_wp2_with fail
    refine (beside_ref _ s p3 p0 p1 p2 p3 base top _ hs E1 O1).mono ?_
    rintro e w2 ⟨v2, rfl, ⟨vw, vr, vs, rfl, o1, o2, o3, _, _, _⟩, hB2⟩
    obtain ⟨x2, y2, z2, rfl⟩ := row_slice o1
    obtain ⟨x3, y3, z3, rfl⟩ := row_slice o2
    obtain ⟨x4, y4, z4, rfl⟩ := row_slice o3
    have hk1 : w.heap.size + 1 < w1.heap.size := F2.lt
    have hBs := hBB1.size
    have hlo : ∀ k, (Value.slice x2 y2 z2).ownBlock = some k → k < w2.heap.size := fun k e => (o1.lt k e).2
    obtain rfl : y3 = s.rv.length := row_len o2
    have hBa : Below w2.heap.size w2 (w2.alloc (.cells #[(.slice x2 y2 z2), (.int .i64 s.nx), (.slice x3 s.rv.length z3), (.slice x4 y4 z4)] 30)) := (Below.refl _ w2).alloc (Nat.le_refl _) _
    have FA := Four.new w2 (.slice x2 y2 z2) (.int .i64 s.nx) (.slice x3 s.rv.length z3) (.slice x4 y4 z4) 30
    replace F2 := (F2.below hB2).below hBa
    have hBB3 := below_two hBB1 hB2 hBa
    have hkn : w2.heap.size ≠ w.heap.size + 1 := fun hh => by have := hB2.size; omega
    have E3 := hE.below hBB3
    replace o1 := ownsRow_below o1 hBa
    replace o2 := ownsRow_below o2 hBa
    replace o3 := ownsRow_below o3 hBa
    go_wp2_with fail
    generalize w2.alloc (.cells #[(.slice x2 y2 z2), (.int .i64 s.nx), (.slice x3 s.rv.length z3), (.slice x4 y4 z4)] 30) = W3 at *
    generalize w2.heap.size = k2 at *
    obtain ⟨c0, c1, c2, c3⟩ := FA.c
    refine wp_region_held_drew (S := fun w' => w'.cell? ⟨k2, 0, none⟩ = some (.slice x2 y2 z2) ∧ w'.cell? ⟨k2, 1, none⟩ = some (.int .i64 s.nx) ∧ w'.cell? ⟨k2, 2, none⟩ = some (.slice x3 s.rv.length z3) ∧ w'.cell? ⟨k2, 3, none⟩ = some (.slice x4 y4 z4)) (by kernel_rfl) ?_ (fun hHeld => ?_)
    · first | go_keep | exact (((((FA.below (below_drew1 hB4)).other hkn 0 _).other hkn 1 _).other hkn 2 _).other hkn 3 _).c
    refine takeW 0 (v := ?v17) rfl (by kernel_rfl) (by kernel_rfl) (by kernel_rfl) (fun _ _ _ h => h) (by rfl) (by assumption) ?hy17 ?rest17
    case hy17 => intro w' hSw; (try dsimp only at hSw); go_simp; try with_reducible rfl
    try simp only [Act.put, List.setIfInBounds_toArray, List.set_cons_zero, List.set_cons_succ]
    refine takeW 1 (v := ?v18) rfl (by kernel_rfl) (by kernel_rfl) (by kernel_rfl) (fun _ _ _ h => h) (by rfl) (by assumption) ?hy18 ?rest18
    case hy18 => intro w' hSw; (try dsimp only at hSw); go_simp; try with_reducible rfl
    try simp only [Act.put, List.setIfInBounds_toArray, List.set_cons_zero, List.set_cons_succ]
    refine takeW 2 (v := ?v19) rfl (by kernel_rfl) (by kernel_rfl) (by kernel_rfl) (fun _ _ _ h => h) (by rfl) (by assumption) ?hy19 ?rest19
    case hy19 => intro w' hSw; (try dsimp only at hSw); go_simp; try with_reducible rfl
    try simp only [Act.put, List.setIfInBounds_toArray, List.set_cons_zero, List.set_cons_succ]
    refine takeW 3 (v := ?v20) rfl (by kernel_rfl) (by kernel_rfl) (by kernel_rfl) (fun _ _ _ h => h) (by rfl) (by assumption) ?hy20 ?rest20
    case hy20 => intro w' hSw; (try dsimp only at hSw); go_simp; try with_reducible rfl
    try simp only [Act.put, List.setIfInBounds_toArray, List.set_cons_zero, List.set_cons_succ]
    refine takeW 4 (v := ?v21) rfl (by kernel_rfl) (by kernel_rfl) (by kernel_rfl) (fun _ _ _ h => h) (by rfl) (by assumption) ?hy21 ?rest21
    case hy21 => intro w' hSw; (try dsimp only at hSw); go_simp; try with_reducible rfl
    try simp only [Act.put, List.setIfInBounds_toArray, List.set_cons_zero, List.set_cons_succ]
    refine takeC 5 (by kernel_rfl) rfl (fun K hK => ?_)
    go_simp
    refine (codeOf_any .noWork p0 p1 p2 p3 _ (fun hh => by cases hh) (by exact E3.below (Below.refl _ _).drew)).mono ?_; rintro e w4 ⟨rfl, hB4⟩; have hc4 := fun o => hB4.cell (p := ⟨k2, o, none⟩) (by exact FA.lt); have G2 : Four w4 _ _ _ _ _ _ := F2.below (below_drew1 hB4); have hBB4 := below_one hBB3 (below_drew1 hB4); obtain ⟨r0, r1, r2, r3⟩ := G2.c; have f0 := G2.f 0; have f1 := G2.f 1; have f2 := G2.f 2; have f3 := G2.f 3
    refine hK.out _ _ ?_ (fun hHeld => ?_)
    · first | go_keep | exact (((((FA.below (below_drew1 hB4)).other hkn 0 _).other hkn 1 _).other hkn 2 _).other hkn 3 _).c
    clear hK K
    try simp only [Act.put, List.setIfInBounds_toArray, List.set_cons_zero, List.set_cons_succ]
    refine takeC 6 (by kernel_rfl) rfl (fun K hK => ?_)
    go_simp
    skip
    refine hK.out _ _ ?_ (fun hHeld => ?_)
    · first | go_keep | exact (((((FA.below (below_drew1 hB4)).other hkn 0 _).other hkn 1 _).other hkn 2 _).other hkn 3 _).c
    clear hK K
    try simp only [Act.put, List.setIfInBounds_toArray, List.set_cons_zero, List.set_cons_succ]
    refine takeW 7 (v := ?v22) rfl (by kernel_rfl) (by kernel_rfl) (by kernel_rfl) (fun _ _ _ h => h) (by rfl) (by assumption) ?hy22 ?rest22
    case hy22 => intro w' hSw; (try dsimp only at hSw); go_simp; try with_reducible rfl
    try simp only [Act.put, List.setIfInBounds_toArray, List.set_cons_zero, List.set_cons_succ]
    refine takeW 8 (v := ?v23) rfl (by kernel_rfl) (by kernel_rfl) (by kernel_rfl) (fun _ _ _ h => h) (by rfl) (by assumption) ?hy23 ?rest23
    case hy23 => intro w' hSw; (try dsimp only at hSw); go_simp; try with_reducible rfl
    try simp only [Act.put, List.setIfInBounds_toArray, List.set_cons_zero, List.set_cons_succ]
    refine wpAnyH_done (by kernel_rfl) ?_ _
    have G := (((G2.s0 (.slice x2 y2 z2)).s1 (.int .i64 s.nx)).s2 (.slice x3 s.rv.length z3)).s3 (.slice x4 y4 z4)
    have pB := below_four hBB4 (k := w.heap.size + 1) (by omega) (.slice x2 y2 z2) (.int .i64 s.nx) (.slice x3 s.rv.length z3) (.slice x4 y4 z4)
    have q1 := row_four (ownsRow_below o1 (below_drew1 hB4)) (k := w.heap.size + 1) hk1 (.slice x2 y2 z2) (.int .i64 s.nx) (.slice x3 s.rv.length z3) (.slice x4 y4 z4)
    have q2 := row_four (ownsRow_below o2 (below_drew1 hB4)) (k := w.heap.size + 1) hk1 (.slice x2 y2 z2) (.int .i64 s.nx) (.slice x3 s.rv.length z3) (.slice x4 y4 z4)
    have q3 := row_four (ownsRow_below o3 (below_drew1 hB4)) (k := w.heap.size + 1) hk1 (.slice x2 y2 z2) (.int .i64 s.nx) (.slice x3 s.rv.length z3) (.slice x4 y4 z4)
    have HI := IsO.of (s := s) (Go.Joins.ownsRow_le q1 hBs) (Go.Joins.ownsRow_le q2 hBs) (Go.Joins.ownsRow_le q3 hBs)
    go_wp2_with fail
    clear r0 r1 r2 r3 f0 f1 f2 f3 hHeld hc4
    generalize (((w4.setCell ⟨w.heap.size + 1, 0, none⟩ (.slice x2 y2 z2)).setCell ⟨w.heap.size + 1, 1, none⟩ (.int .i64 s.nx)).setCell ⟨w.heap.size + 1, 2, none⟩ (.slice x3 s.rv.length z3)).setCell ⟨w.heap.size + 1, 3, none⟩ (.slice x4 y4 z4) = W5 at *
    obtain ⟨d0, d1, d2, d3⟩ := G.c
    exact bodyPost_ret (v := .tuple #[.agg #[(.slice x2 y2 z2), (.int .i64 s.nx), (.slice x3 s.rv.length z3), (.slice x4 y4 z4)], .int .i64 (s.rv.length : Int), .int .i64 3]) (by simp [results, Tryd.results13, go_sem, d0, d1, d2, d3, Er.code]) rfl ⟨_, by rw [HR.out], by rw [HR.out]; exact HI, pB⟩
  | nil =>
    obtain ⟨hg, hg2, hli⟩ := rk_nil he
    have hlt := hasW_lt (livW_has hli)
    have HX := hid (rk_at hg hg2 hli hlt)
    have hh := livW_has hli
    have hlen := (isB_hd hg).1
    clear he hg hg2 hli
    go_wp2_with fail
    refine (beside_nil _ s base top _ hs O1).mono ?_
    rintro e w2 ⟨v2, rfl, ⟨vw, vr, vs, rfl, o1, o2, o3, _, _, _⟩, hB2⟩
    obtain ⟨x2, y2, z2, rfl⟩ := row_slice o1
    obtain ⟨x3, y3, z3, rfl⟩ := row_slice o2
    obtain ⟨x4, y4, z4, rfl⟩ := row_slice o3
    have hk1 : w.heap.size + 1 < w1.heap.size := F2.lt
    have hBs := hBB1.size
    have hlo : ∀ k, (Value.slice x2 y2 z2).ownBlock = some k → k < w2.heap.size := fun k e => (o1.lt k e).2
    obtain rfl : y3 = s.rv.length := row_len o2
    have hBa : Below w2.heap.size w2 (w2.alloc (.cells #[(.slice x2 y2 z2), (.int .i64 s.nx), (.slice x3 s.rv.length z3), (.slice x4 y4 z4)] 30)) := (Below.refl _ w2).alloc (Nat.le_refl _) _
    have FA := Four.new w2 (.slice x2 y2 z2) (.int .i64 s.nx) (.slice x3 s.rv.length z3) (.slice x4 y4 z4) 30
    replace F2 := (F2.below hB2).below hBa
    have hBB3 := below_two hBB1 hB2 hBa
    have hkn : w2.heap.size ≠ w.heap.size + 1 := fun hh => by have := hB2.size; omega
    have E3 := hE.below hBB3
    replace o1 := ownsRow_below o1 hBa
    replace o2 := ownsRow_below o2 hBa
    replace o3 := ownsRow_below o3 hBa
    obtain rfl : y2 = s.ws.length := row_len o1
    have hbs1 : w1.heap.size ≤ w2.heap.size := hB2.size
    go_wp2_with fail
    generalize w2.alloc (.cells #[(.slice x2 s.ws.length z2), (.int .i64 s.nx), (.slice x3 s.rv.length z3), (.slice x4 y4 z4)] 30) = W3 at *
    generalize w2.heap.size = k2 at *
    obtain ⟨c0, c1, c2, c3⟩ := FA.c
    refine (placeW_any _ s.ws name _ (by have := hs.1; omega) (WkS.own o1)).mono ?_
    rintro e w4 ⟨rfl, hB4⟩
    replace o1 := ownsRow_below o1 hB4
    replace o2 := ownsRow_below o2 hB4
    replace o3 := ownsRow_below o3 hB4
    replace FA := FA.below hB4
    replace F2 := F2.below hB4
    have hBB4 := below_one hBB3 hB4
    have hla := FA.lt
    clear hB4 hBa hBB3 E3 c0 c1 c2 c3
    rw [hh]
    clear hh
    obtain ⟨c0, c1, c2, c3⟩ := FA.c
    obtain ⟨g5, hg5⟩ : ∃ g, x2 = some ⟨g, 0, none⟩ := by
      rcases row_form o1 with ⟨_, h0⟩ | ⟨g, z, hv, _, _⟩
      · omega
      · injection hv with hv _ _
        exact ⟨g, hv⟩
    subst hg5
    have hg5b : w1.heap.size ≤ g5 := (o1.lt g5 rfl).1
    have hd1 : k2 ≠ g5 := fun e => row_apart FA o1 (by decide) k2 rfl (by rw [e]; rfl)
    have hd2 : g5 ≠ k2 := fun e => hd1 e.symm
    have hd3 : w.heap.size + 1 ≠ g5 := fun e => row_apart F2 o1 (by decide) (w.heap.size + 1) rfl (by rw [e]; rfl)
    have hd4 : g5 ≠ w.heap.size + 1 := fun e => hd3 e.symm
    have hd5 : w.heap.size + 1 ≠ k2 := fun e => hkn e.symm
    have HW := hid (wflat_live s.ws (atW s.ws name) hlt)
    have hcell := wflat_at s.ws (atW s.ws name) 2 hlt (by omega)
    simp only [List.getElem?_cons_succ, List.getElem?_cons_zero] at hcell
    obtain ⟨ze, HZ⟩ : ∃ z, Hid (z = s.ws[atW s.ws name].se) := ⟨_, hid rfl⟩
    obtain ⟨ne, HNE⟩ : ∃ z, Hid (z = s.ws[atW s.ws name].name) := ⟨_, hid rfl⟩
    rw [← HZ.out] at hcell
    replace HX := hid (HX.out)
    have HX2 := hid (show rkX s name = (⟨s.ws.set (atW s.ws name) ⟨ne, false, ze⟩, s.nx, rvN s.rv ze, s.sg⟩, ((rvN s.rv ze).length : Int), 0) by rw [HX.out, HZ.out, HNE.out])
    replace HW := hid (show (s.ws.flatMap Wk.cells).set (atW s.ws name * 3 + 1) (.bool false) = (s.ws.set (atW s.ws name) ⟨ne, false, ze⟩).flatMap Wk.cells by rw [HW.out, HZ.out, HNE.out])
    clear HX HZ HNE
    generalize atW s.ws name = n at *
    have hl5 := o1.1
    have s1 := o1.cellAt (n * 3 + 1) (by omega)
    rw [List.getElem?_eq_getElem (by omega)] at s1
    have s2 := (o1.cellAt (n * 3 + 2) (by omega)).trans hcell
    have t1 := o1.frozenAt (n * 3 + 1)
    have Q1 := o1.stored (n * 3 + 1) (.bool false)
    have hG := Q1.2
    have e2 := (Q1.1.cellAt (n * 3 + 2) (by omega)).trans ((List.getElem?_set_ne (by omega)).trans hcell)
    replace FA : Four (w4.setCell ⟨g5, n * 3 + 1, none⟩ (.bool false)) _ _ _ _ _ _ := World.ownsRow.kept FA hG (.inr (by simp [Value.ownBlock]; exact hd1))
    replace F2 : Four (w4.setCell ⟨g5, n * 3 + 1, none⟩ (.bool false)) _ _ _ _ _ _ := World.ownsRow.kept F2 hG (.inr (by simp [Value.ownBlock]; exact hd3))
    replace o2 := kept_apart (v2 := (.slice (some ⟨g5, 0, none⟩) s.ws.length z2)) o2 hG (row_apart o2 o1 (by decide))
    replace o3 := kept_apart (v2 := (.slice (some ⟨g5, 0, none⟩) s.ws.length z2)) o3 hG (row_apart o3 o1 (by decide))
    have hBB := hBB4.grown hG hBB4.size (fun k e => by simp at e; omega)
    have o6 := Q1.1
    rw [HW.out] at o6
    have HL := hid (show s.ws.length = (s.ws.set n ⟨ne, false, ze⟩).length by simp)
    have hin : (n : Int) < (s.ws.length : Int) := by omega
    clear Q1 hG o1 hBB4 hcell
    have o1 := o6
    clear o6
    obtain ⟨e0, e1, e22, e3⟩ := FA.c
    go_wp2_with fail
    clear c0 c1 c2 c3 s1 s2 t1 e2 e0 e1 e22 e3
    generalize (w4.setCell ⟨g5, n * 3 + 1, none⟩ (.bool false)) = W4 at *
    refine (placeN_any _ s.rv ze _ (by have := hs.2.1; omega) (VS.ownN o2)).mono ?_
    rintro e w5 ⟨rfl, rfl⟩
    have hle := atN_le s.rv ze
    by_cases hins : (ze != 0 && !(hasN s.rv ze)) = true
    · have HR := hid (show rvN s.rv ze = s.rv.take (atN s.rv ze) ++ ze :: s.rv.drop (atN s.rv ze) by unfold rvN insN; rw [if_pos hins])
      obtain ⟨hz0, hz1⟩ : (ze != 0) = true ∧ hasN s.rv ze = false := by simpa using hins
      clear hins
      rw [hz1]
      clear hz1
      generalize atN s.rv ze = m at *
      obtain ⟨c0, c1, c2, c3⟩ := FA.c
      have hzw : (w5.alloc (.cells #[.int .i64 ze] 3)).heap[w5.heap.size]? = some (.cells [Value.int .i64 ze].toArray 3 (0, 0)) := by show (w5.heap.push _)[w5.heap.size]? = _; rw [Array.getElem?_push_size]
      have hBv : Below w5.heap.size w5 (w5.alloc (.cells #[.int .i64 ze] 3)) := (Below.refl _ w5).alloc (Nat.le_refl _) _
      have hob : (Value.slice x3 s.rv.length z3).ownBlock ≠ some w5.heap.size := fun e => by have := (o2.lt _ e).2; omega
      have hbv : w1.heap.size ≤ (w5.alloc (.cells #[.int .i64 ze] 3)).heap.size := by have := hBB.size; have := hBv.size; have := (o1.lt g5 rfl).2; simp; omega
      have hlo3 : ∀ k, (Value.slice x3 s.rv.length z3).ownBlock = some k → k ≠ k2 := fun k e1 e2 => row_apart FA o2 (by decide) k2 rfl (by rw [e1, e2])
      have hlo4 : ∀ k, (Value.slice x3 s.rv.length z3).ownBlock = some k → k ≠ w.heap.size + 1 := fun k e1 e2 => row_apart F2 o2 (by decide) (w.heap.size + 1) rfl (by rw [e1, e2])
      replace o1 := ownsRow_below o1 hBv
      replace o2 := ownsRow_below o2 hBv
      replace o3 := ownsRow_below o3 hBv
      replace FA := FA.below hBv
      replace F2 := F2.below hBv
      replace hBB := below_one hBB hBv
      go_wp2_with fail
      generalize w5.alloc (.cells #[.int .i64 ze] 3) = W5 at *
      refine (insert_n w1.heap.size s.rv.length m w5.heap.size _ _ [Value.int .i64 ze] _ (by have := hs.2.1; omega) hle hbv rfl one_n (by intro u hu; simp at hu; rw [hu]; rfl) hzw hob o2).mono ?_
      rintro e w6 ⟨v6, rfl, o6, hg6⟩
      obtain ⟨x7, y7, z7, rfl⟩ := row_slice o6
      obtain rfl : y7 = s.rv.length + 1 := row_len o6
      replace o1 := kept_apart o1 hg6 (row_apart o1 o2 (by decide))
      replace o3 := kept_apart o3 hg6 (row_apart o3 o2 (by decide))
      replace FA : Four w6 _ _ _ _ _ _ := kept_apart FA hg6 (fun k e1 e2 => by simp [Value.ownBlock] at e1; exact hlo3 k e2 e1.symm)
      replace F2 : Four w6 _ _ _ _ _ _ := kept_apart F2 hg6 (fun k e1 e2 => by simp [Value.ownBlock] at e1; exact hlo4 k e2 e1.symm)
      replace hBB := hBB.grown hg6 hBB.size (fun k e => by have := (o2.lt k e).1; omega)
      clear o2 hg6 hzw hob hbv hBv c0 c1 c2 c3 hlo3 hlo4
      have o2 := o6
      clear o6
      rw [nput] at o2
      have HL2 := hid (show s.rv.length + 1 = (s.rv.take m ++ ze :: s.rv.drop m).length by simp; omega)
      obtain ⟨c0, c1, c2, c3⟩ := FA.c
      have cf := FA.f 2
      have FA0 := FA
      replace FA := FA.s2 (.slice x7 (s.rv.length + 1) z7)
      replace F2 := F2.other (k' := k2) hd5 2 (.slice x7 (s.rv.length + 1) z7)
      replace o1 := ownsRow_setCell_other o1 (a := ⟨k2, 2, none⟩) (by simp [Value.ownBlock]; exact hd2) (.slice x7 (s.rv.length + 1) z7)
      replace o3 := ownsRow_setCell_other o3 (a := ⟨k2, 2, none⟩) (fun e => row_apart o3 FA0 (by decide) k2 e rfl) (.slice x7 (s.rv.length + 1) z7)
      replace o2 := ownsRow_setCell_other o2 (a := ⟨k2, 2, none⟩) (fun e => row_apart o2 FA0 (by decide) k2 e rfl) (.slice x7 (s.rv.length + 1) z7)
      replace hBB := hBB.setCell (p := ⟨k2, 2, none⟩) (by simp; omega) (.slice x7 (s.rv.length + 1) z7)
      go_wp2_with fail
      clear c0 c1 c2 c3 cf
      have HX3 := hid (show rkX s name = (⟨s.ws.set n ⟨ne, false, ze⟩, s.nx, s.rv.take m ++ ze :: s.rv.drop m, s.sg⟩, ((s.rv.length + 1 : Nat) : Int), 0) by rw [HX2.out, HR.out, ← HL2.out])
      clear HX2 HR
      generalize w6.setCell ⟨k2, 2, none⟩ (.slice x7 (s.rv.length + 1) z7) = W6 at *

      have hBd : Below (W6).heap.size (W6) (W6).drew := (Below.refl _ _).drew
      obtain ⟨c0, c1, c2, c3⟩ := FA.c
      replace FA := FA.below hBd
      replace F2 := F2.below hBd
      replace o1 := ownsRow_below o1 hBd
      replace o2 := ownsRow_below o2 hBd
      replace o3 := ownsRow_below o3 hBd
      replace hBB := below_one hBB hBd
      clear hBd
      obtain ⟨r0, r1, r2, r3⟩ := F2.c
      have f0 := F2.f 0
      have f1 := F2.f 1
      have f2 := F2.f 2
      have f3 := F2.f 3
      refine wp_region_held_drew (S := fun w' => w'.cell? ⟨k2, 0, none⟩ = some (.slice (some ⟨g5, 0, none⟩) s.ws.length z2) ∧ w'.cell? ⟨k2, 1, none⟩ = some (.int .i64 s.nx) ∧ w'.cell? ⟨k2, 2, none⟩ = some (.slice x7 (s.rv.length + 1) z7) ∧ w'.cell? ⟨k2, 3, none⟩ = some (.slice x4 y4 z4)) (by kernel_rfl) ?_ (fun hHeld => ?_)
      · first | go_keep | exact ((((FA.other hkn 0 _).other hkn 1 _).other hkn 2 _).other hkn 3 _).c
      generalize (W6).drew = Wd at *
      refine takeW 0 (v := ?v24) rfl (by kernel_rfl) (by kernel_rfl) (by kernel_rfl) (fun _ _ _ h => h) (by rfl) (by assumption) ?hy24 ?rest24
      case hy24 => intro w' hSw; (try dsimp only at hSw); go_simp; try with_reducible rfl
      try simp only [Act.put, List.setIfInBounds_toArray, List.set_cons_zero, List.set_cons_succ]
      refine takeW 1 (v := ?v25) rfl (by kernel_rfl) (by kernel_rfl) (by kernel_rfl) (fun _ _ _ h => h) (by rfl) (by assumption) ?hy25 ?rest25
      case hy25 => intro w' hSw; (try dsimp only at hSw); go_simp; try with_reducible rfl
      try simp only [Act.put, List.setIfInBounds_toArray, List.set_cons_zero, List.set_cons_succ]
      refine takeW 2 (v := ?v26) rfl (by kernel_rfl) (by kernel_rfl) (by kernel_rfl) (fun _ _ _ h => h) (by rfl) (by assumption) ?hy26 ?rest26
      case hy26 => intro w' hSw; (try dsimp only at hSw); go_simp; try with_reducible rfl
      try simp only [Act.put, List.setIfInBounds_toArray, List.set_cons_zero, List.set_cons_succ]
      refine takeW 3 (v := ?v27) rfl (by kernel_rfl) (by kernel_rfl) (by kernel_rfl) (fun _ _ _ h => h) (by rfl) (by assumption) ?hy27 ?rest27
      case hy27 => intro w' hSw; (try dsimp only at hSw); go_simp; try with_reducible rfl
      try simp only [Act.put, List.setIfInBounds_toArray, List.set_cons_zero, List.set_cons_succ]
      refine takeC 4 (by kernel_rfl) rfl (fun K hK => ?_)
      go_simp
      skip
      refine hK.out _ _ ?_ (fun hHeld => ?_)
      · first | go_keep | exact ((((FA.other hkn 0 _).other hkn 1 _).other hkn 2 _).other hkn 3 _).c
      clear hK K
      try simp only [Act.put, List.setIfInBounds_toArray, List.set_cons_zero, List.set_cons_succ]
      refine takeW 5 (v := ?v28) rfl (by kernel_rfl) (by kernel_rfl) (by kernel_rfl) (fun _ _ _ h => h) (by rfl) (by assumption) ?hy28 ?rest28
      case hy28 => intro w' hSw; (try dsimp only at hSw); go_simp; try with_reducible rfl
      try simp only [Act.put, List.setIfInBounds_toArray, List.set_cons_zero, List.set_cons_succ]
      refine takeW 6 (v := ?v29) rfl (by kernel_rfl) (by kernel_rfl) (by kernel_rfl) (fun _ _ _ h => h) (by rfl) (by assumption) ?hy29 ?rest29
      case hy29 => intro w' hSw; (try dsimp only at hSw); go_simp; try with_reducible rfl
      try simp only [Act.put, List.setIfInBounds_toArray, List.set_cons_zero, List.set_cons_succ]
      refine wpAnyH_done (by kernel_rfl) ?_ _
      have G := (((F2.s0 (.slice (some ⟨g5, 0, none⟩) s.ws.length z2)).s1 (.int .i64 s.nx)).s2 (.slice x7 (s.rv.length + 1) z7)).s3 (.slice x4 y4 z4)
      have pB := below_four hBB (k := w.heap.size + 1) (by omega) (.slice (some ⟨g5, 0, none⟩) s.ws.length z2) (.int .i64 s.nx) (.slice x7 (s.rv.length + 1) z7) (.slice x4 y4 z4)
      have q1 := row_four o1 (k := w.heap.size + 1) hk1 (.slice (some ⟨g5, 0, none⟩) s.ws.length z2) (.int .i64 s.nx) (.slice x7 (s.rv.length + 1) z7) (.slice x4 y4 z4)
      have q2 := row_four o2 (k := w.heap.size + 1) hk1 (.slice (some ⟨g5, 0, none⟩) s.ws.length z2) (.int .i64 s.nx) (.slice x7 (s.rv.length + 1) z7) (.slice x4 y4 z4)
      have q3 := row_four o3 (k := w.heap.size + 1) hk1 (.slice (some ⟨g5, 0, none⟩) s.ws.length z2) (.int .i64 s.nx) (.slice x7 (s.rv.length + 1) z7) (.slice x4 y4 z4)
      go_wp2_with fail
      clear r0 r1 r2 r3 f0 f1 f2 f3 c0 c1 c2 c3 hHeld
      generalize (((Wd.setCell ⟨w.heap.size + 1, 0, none⟩ (.slice (some ⟨g5, 0, none⟩) s.ws.length z2)).setCell ⟨w.heap.size + 1, 1, none⟩ (.int .i64 s.nx)).setCell ⟨w.heap.size + 1, 2, none⟩ (.slice x7 (s.rv.length + 1) z7)).setCell ⟨w.heap.size + 1, 3, none⟩ (.slice x4 y4 z4) = W5 at *
      obtain ⟨d0, d1, d2, d3⟩ := G.c
      exact bodyPost_ret (v := .tuple #[.agg #[(.slice (some ⟨g5, 0, none⟩) s.ws.length z2), (.int .i64 s.nx), (.slice x7 (s.rv.length + 1) z7), (.slice x4 y4 z4)], .int .i64 ((s.rv.length + 1 : Nat) : Int), .int .i64 0]) (by simp [results, Tryd.results13, go_sem, d0, d1, d2, d3]) rfl ⟨_, by rw [HX3.out], by rw [HX3.out]; exact IsO.of (s := ⟨s.ws.set n ⟨ne, false, ze⟩, s.nx, s.rv.take m ++ ze :: s.rv.drop m, s.sg⟩) (Go.Joins.ownsRow_le (row_cast q1 HL.out) hBs) (Go.Joins.ownsRow_le (row_cast q2 HL2.out) hBs) (Go.Joins.ownsRow_le q3 hBs), pB⟩
    · have HR := hid (show rvN s.rv ze = s.rv by unfold rvN; rw [if_neg hins])
      have HX3 := hid (show rkX s name = (⟨s.ws.set n ⟨ne, false, ze⟩, s.nx, s.rv, s.sg⟩, (s.rv.length : Int), 0) by rw [HX2.out, HR.out])
      clear HX2 HR
      have hins2 : (ze != 0 && !(hasN s.rv ze)) = false := by simpa using hins
      clear hins
      generalize atN s.rv ze = m at *
      generalize hasN s.rv ze = hb at *
      cases hz0 : (ze != 0)
      · clear hins2
        obtain ⟨c0, c1, c2, c3⟩ := FA.c
        go_wp2_with fail
        clear c0 c1 c2 c3
        have hBd : Below (w5).heap.size (w5) (w5).drew := (Below.refl _ _).drew
        obtain ⟨c0, c1, c2, c3⟩ := FA.c
        replace FA := FA.below hBd
        replace F2 := F2.below hBd
        replace o1 := ownsRow_below o1 hBd
        replace o2 := ownsRow_below o2 hBd
        replace o3 := ownsRow_below o3 hBd
        replace hBB := below_one hBB hBd
        clear hBd
        obtain ⟨r0, r1, r2, r3⟩ := F2.c
        have f0 := F2.f 0
        have f1 := F2.f 1
        have f2 := F2.f 2
        have f3 := F2.f 3
        refine wp_region_held_drew (S := fun w' => w'.cell? ⟨k2, 0, none⟩ = some (.slice (some ⟨g5, 0, none⟩) s.ws.length z2) ∧ w'.cell? ⟨k2, 1, none⟩ = some (.int .i64 s.nx) ∧ w'.cell? ⟨k2, 2, none⟩ = some (.slice x3 s.rv.length z3) ∧ w'.cell? ⟨k2, 3, none⟩ = some (.slice x4 y4 z4)) (by kernel_rfl) ?_ (fun hHeld => ?_)
        · first | go_keep | exact ((((FA.other hkn 0 _).other hkn 1 _).other hkn 2 _).other hkn 3 _).c
        generalize (w5).drew = Wd at *
        refine takeW 0 (v := ?v30) rfl (by kernel_rfl) (by kernel_rfl) (by kernel_rfl) (fun _ _ _ h => h) (by rfl) (by assumption) ?hy30 ?rest30
        case hy30 => intro w' hSw; (try dsimp only at hSw); go_simp; try with_reducible rfl
        try simp only [Act.put, List.setIfInBounds_toArray, List.set_cons_zero, List.set_cons_succ]
        refine takeW 1 (v := ?v31) rfl (by kernel_rfl) (by kernel_rfl) (by kernel_rfl) (fun _ _ _ h => h) (by rfl) (by assumption) ?hy31 ?rest31
        case hy31 => intro w' hSw; (try dsimp only at hSw); go_simp; try with_reducible rfl
        try simp only [Act.put, List.setIfInBounds_toArray, List.set_cons_zero, List.set_cons_succ]
        refine takeW 2 (v := ?v32) rfl (by kernel_rfl) (by kernel_rfl) (by kernel_rfl) (fun _ _ _ h => h) (by rfl) (by assumption) ?hy32 ?rest32
        case hy32 => intro w' hSw; (try dsimp only at hSw); go_simp; try with_reducible rfl
        try simp only [Act.put, List.setIfInBounds_toArray, List.set_cons_zero, List.set_cons_succ]
        refine takeW 3 (v := ?v33) rfl (by kernel_rfl) (by kernel_rfl) (by kernel_rfl) (fun _ _ _ h => h) (by rfl) (by assumption) ?hy33 ?rest33
        case hy33 => intro w' hSw; (try dsimp only at hSw); go_simp; try with_reducible rfl
        try simp only [Act.put, List.setIfInBounds_toArray, List.set_cons_zero, List.set_cons_succ]
        refine takeC 4 (by kernel_rfl) rfl (fun K hK => ?_)
        go_simp
        skip
        refine hK.out _ _ ?_ (fun hHeld => ?_)
        · first | go_keep | exact ((((FA.other hkn 0 _).other hkn 1 _).other hkn 2 _).other hkn 3 _).c
        clear hK K
        try simp only [Act.put, List.setIfInBounds_toArray, List.set_cons_zero, List.set_cons_succ]
        refine takeW 5 (v := ?v34) rfl (by kernel_rfl) (by kernel_rfl) (by kernel_rfl) (fun _ _ _ h => h) (by rfl) (by assumption) ?hy34 ?rest34
        case hy34 => intro w' hSw; (try dsimp only at hSw); go_simp; try with_reducible rfl
        try simp only [Act.put, List.setIfInBounds_toArray, List.set_cons_zero, List.set_cons_succ]
        refine takeW 6 (v := ?v35) rfl (by kernel_rfl) (by kernel_rfl) (by kernel_rfl) (fun _ _ _ h => h) (by rfl) (by assumption) ?hy35 ?rest35
        case hy35 => intro w' hSw; (try dsimp only at hSw); go_simp; try with_reducible rfl
        try simp only [Act.put, List.setIfInBounds_toArray, List.set_cons_zero, List.set_cons_succ]
        refine wpAnyH_done (by kernel_rfl) ?_ _
        have G := (((F2.s0 (.slice (some ⟨g5, 0, none⟩) s.ws.length z2)).s1 (.int .i64 s.nx)).s2 (.slice x3 s.rv.length z3)).s3 (.slice x4 y4 z4)
        have pB := below_four hBB (k := w.heap.size + 1) (by omega) (.slice (some ⟨g5, 0, none⟩) s.ws.length z2) (.int .i64 s.nx) (.slice x3 s.rv.length z3) (.slice x4 y4 z4)
        have q1 := row_four o1 (k := w.heap.size + 1) hk1 (.slice (some ⟨g5, 0, none⟩) s.ws.length z2) (.int .i64 s.nx) (.slice x3 s.rv.length z3) (.slice x4 y4 z4)
        have q2 := row_four o2 (k := w.heap.size + 1) hk1 (.slice (some ⟨g5, 0, none⟩) s.ws.length z2) (.int .i64 s.nx) (.slice x3 s.rv.length z3) (.slice x4 y4 z4)
        have q3 := row_four o3 (k := w.heap.size + 1) hk1 (.slice (some ⟨g5, 0, none⟩) s.ws.length z2) (.int .i64 s.nx) (.slice x3 s.rv.length z3) (.slice x4 y4 z4)
        go_wp2_with fail
        clear r0 r1 r2 r3 f0 f1 f2 f3 c0 c1 c2 c3 hHeld
        generalize (((Wd.setCell ⟨w.heap.size + 1, 0, none⟩ (.slice (some ⟨g5, 0, none⟩) s.ws.length z2)).setCell ⟨w.heap.size + 1, 1, none⟩ (.int .i64 s.nx)).setCell ⟨w.heap.size + 1, 2, none⟩ (.slice x3 s.rv.length z3)).setCell ⟨w.heap.size + 1, 3, none⟩ (.slice x4 y4 z4) = W5 at *
        obtain ⟨d0, d1, d2, d3⟩ := G.c
        exact bodyPost_ret (v := .tuple #[.agg #[(.slice (some ⟨g5, 0, none⟩) s.ws.length z2), (.int .i64 s.nx), (.slice x3 s.rv.length z3), (.slice x4 y4 z4)], .int .i64 (s.rv.length : Int), .int .i64 0]) (by simp [results, Tryd.results13, go_sem, d0, d1, d2, d3]) rfl ⟨_, by rw [HX3.out], by rw [HX3.out]; exact IsO.of (s := ⟨s.ws.set n ⟨ne, false, ze⟩, s.nx, s.rv, s.sg⟩) (Go.Joins.ownsRow_le (row_cast q1 HL.out) hBs) (Go.Joins.ownsRow_le q2 hBs) (Go.Joins.ownsRow_le q3 hBs), pB⟩
      · rw [hz0] at hins2
        cases hb
        · simp at hins2
        · clear hins2
          obtain ⟨c0, c1, c2, c3⟩ := FA.c
          go_wp2_with fail
          clear c0 c1 c2 c3
          have hBd : Below (w5).heap.size (w5) (w5).drew := (Below.refl _ _).drew
          obtain ⟨c0, c1, c2, c3⟩ := FA.c
          replace FA := FA.below hBd
          replace F2 := F2.below hBd
          replace o1 := ownsRow_below o1 hBd
          replace o2 := ownsRow_below o2 hBd
          replace o3 := ownsRow_below o3 hBd
          replace hBB := below_one hBB hBd
          clear hBd
          obtain ⟨r0, r1, r2, r3⟩ := F2.c
          have f0 := F2.f 0
          have f1 := F2.f 1
          have f2 := F2.f 2
          have f3 := F2.f 3
          refine wp_region_held_drew (S := fun w' => w'.cell? ⟨k2, 0, none⟩ = some (.slice (some ⟨g5, 0, none⟩) s.ws.length z2) ∧ w'.cell? ⟨k2, 1, none⟩ = some (.int .i64 s.nx) ∧ w'.cell? ⟨k2, 2, none⟩ = some (.slice x3 s.rv.length z3) ∧ w'.cell? ⟨k2, 3, none⟩ = some (.slice x4 y4 z4)) (by kernel_rfl) ?_ (fun hHeld => ?_)
          · first | go_keep | exact ((((FA.other hkn 0 _).other hkn 1 _).other hkn 2 _).other hkn 3 _).c
          generalize (w5).drew = Wd at *
          refine takeW 0 (v := ?v36) rfl (by kernel_rfl) (by kernel_rfl) (by kernel_rfl) (fun _ _ _ h => h) (by rfl) (by assumption) ?hy36 ?rest36
          case hy36 => intro w' hSw; (try dsimp only at hSw); go_simp; try with_reducible rfl
          try simp only [Act.put, List.setIfInBounds_toArray, List.set_cons_zero, List.set_cons_succ]
          refine takeW 1 (v := ?v37) rfl (by kernel_rfl) (by kernel_rfl) (by kernel_rfl) (fun _ _ _ h => h) (by rfl) (by assumption) ?hy37 ?rest37
          case hy37 => intro w' hSw; (try dsimp only at hSw); go_simp; try with_reducible rfl
          try simp only [Act.put, List.setIfInBounds_toArray, List.set_cons_zero, List.set_cons_succ]
          refine takeW 2 (v := ?v38) rfl (by kernel_rfl) (by kernel_rfl) (by kernel_rfl) (fun _ _ _ h => h) (by rfl) (by assumption) ?hy38 ?rest38
          case hy38 => intro w' hSw; (try dsimp only at hSw); go_simp; try with_reducible rfl
          try simp only [Act.put, List.setIfInBounds_toArray, List.set_cons_zero, List.set_cons_succ]
          refine takeW 3 (v := ?v39) rfl (by kernel_rfl) (by kernel_rfl) (by kernel_rfl) (fun _ _ _ h => h) (by rfl) (by assumption) ?hy39 ?rest39
          case hy39 => intro w' hSw; (try dsimp only at hSw); go_simp; try with_reducible rfl
          try simp only [Act.put, List.setIfInBounds_toArray, List.set_cons_zero, List.set_cons_succ]
          refine takeC 4 (by kernel_rfl) rfl (fun K hK => ?_)
          go_simp
          skip
          refine hK.out _ _ ?_ (fun hHeld => ?_)
          · first | go_keep | exact ((((FA.other hkn 0 _).other hkn 1 _).other hkn 2 _).other hkn 3 _).c
          clear hK K
          try simp only [Act.put, List.setIfInBounds_toArray, List.set_cons_zero, List.set_cons_succ]
          refine takeW 5 (v := ?v40) rfl (by kernel_rfl) (by kernel_rfl) (by kernel_rfl) (fun _ _ _ h => h) (by rfl) (by assumption) ?hy40 ?rest40
          case hy40 => intro w' hSw; (try dsimp only at hSw); go_simp; try with_reducible rfl
          try simp only [Act.put, List.setIfInBounds_toArray, List.set_cons_zero, List.set_cons_succ]
          refine takeW 6 (v := ?v41) rfl (by kernel_rfl) (by kernel_rfl) (by kernel_rfl) (fun _ _ _ h => h) (by rfl) (by assumption) ?hy41 ?rest41
          case hy41 => intro w' hSw; (try dsimp only at hSw); go_simp; try with_reducible rfl
          try simp only [Act.put, List.setIfInBounds_toArray, List.set_cons_zero, List.set_cons_succ]
          refine wpAnyH_done (by kernel_rfl) ?_ _
          have G := (((F2.s0 (.slice (some ⟨g5, 0, none⟩) s.ws.length z2)).s1 (.int .i64 s.nx)).s2 (.slice x3 s.rv.length z3)).s3 (.slice x4 y4 z4)
          have pB := below_four hBB (k := w.heap.size + 1) (by omega) (.slice (some ⟨g5, 0, none⟩) s.ws.length z2) (.int .i64 s.nx) (.slice x3 s.rv.length z3) (.slice x4 y4 z4)
          have q1 := row_four o1 (k := w.heap.size + 1) hk1 (.slice (some ⟨g5, 0, none⟩) s.ws.length z2) (.int .i64 s.nx) (.slice x3 s.rv.length z3) (.slice x4 y4 z4)
          have q2 := row_four o2 (k := w.heap.size + 1) hk1 (.slice (some ⟨g5, 0, none⟩) s.ws.length z2) (.int .i64 s.nx) (.slice x3 s.rv.length z3) (.slice x4 y4 z4)
          have q3 := row_four o3 (k := w.heap.size + 1) hk1 (.slice (some ⟨g5, 0, none⟩) s.ws.length z2) (.int .i64 s.nx) (.slice x3 s.rv.length z3) (.slice x4 y4 z4)
          go_wp2_with fail
          clear r0 r1 r2 r3 f0 f1 f2 f3 c0 c1 c2 c3 hHeld
          generalize (((Wd.setCell ⟨w.heap.size + 1, 0, none⟩ (.slice (some ⟨g5, 0, none⟩) s.ws.length z2)).setCell ⟨w.heap.size + 1, 1, none⟩ (.int .i64 s.nx)).setCell ⟨w.heap.size + 1, 2, none⟩ (.slice x3 s.rv.length z3)).setCell ⟨w.heap.size + 1, 3, none⟩ (.slice x4 y4 z4) = W5 at *
          obtain ⟨d0, d1, d2, d3⟩ := G.c
          exact bodyPost_ret (v := .tuple #[.agg #[(.slice (some ⟨g5, 0, none⟩) s.ws.length z2), (.int .i64 s.nx), (.slice x3 s.rv.length z3), (.slice x4 y4 z4)], .int .i64 (s.rv.length : Int), .int .i64 0]) (by simp [results, Tryd.results13, go_sem, d0, d1, d2, d3]) rfl ⟨_, by rw [HX3.out], by rw [HX3.out]; exact IsO.of (s := ⟨s.ws.set n ⟨ne, false, ze⟩, s.nx, s.rv, s.sg⟩) (Go.Joins.ownsRow_le (row_cast q1 HL.out) hBs) (Go.Joins.ownsRow_le q2 hBs) (Go.Joins.ownsRow_le q3 hBs), pB⟩

end Go.Proofs.YtfchmhcnejifhaaDoor
