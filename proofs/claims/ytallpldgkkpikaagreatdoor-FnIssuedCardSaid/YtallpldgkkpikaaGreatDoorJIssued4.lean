/-
  Chapter 4: a token is signed, by the specification.
-/
import Derived.Test.YtallpldgkkpikaaGreatDoorJIssued3
import Derived.Test.YtallpldgkkpikaaGreatDoorJIssued2
import Derived.Laws.AppendOwnNone
namespace Go.Proofs.YtallpldgkkpikaaGreatDoor
open Go.RowKit Go.Shelf

set_option maxHeartbeats 8000000 in
set_option maxRecDepth 100000 in
theorem handed_bad (v : Value) (s : Is) (p0 p1 p2 p3 : Addr) (base top : Nat) (w : World) (hE : ErA w p0 p1 p2 p3) (h : IsO w base top v s) :
    Calls Tryz.prog 18 #[v, .slice none 0 0, eV p0] w fun e w' => ∃ v', e = .returned (.tuple #[v', .slice none 0 0, .int .i64 1]) ∧ IsO w' w.heap.size w'.heap.size v' Is.none ∧ Below w.heap.size w w' := by
  obtain ⟨aw, cw, ar, cr, ag, cg, rfl⟩ := is_forms h.a
  have hB0 : Below w.heap.size w ((w.alloc (.cells #[.slice aw s.ws.length cw, .int .i64 s.nx, .slice ar s.rv.length cr, .slice ag s.sg.length cg] 27)).alloc (.cells #[.slice none 0 0, .int .i64 0, .slice none 0 0, .slice none 0 0] 27)) := ((Below.refl _ w).alloc (Nat.le_refl _) _).alloc (by simp) _
  have F1 := (Four.new w (.slice aw s.ws.length cw) (.int .i64 s.nx) (.slice ar s.rv.length cr) (.slice ag s.sg.length cg) 27).below ((Below.refl _ _).alloc (Nat.le_refl _) (.cells #[.slice none 0 0, .int .i64 0, .slice none 0 0, .slice none 0 0] 27))
  have F2 := Four.at (w.alloc (.cells #[.slice aw s.ws.length cw, .int .i64 s.nx, .slice ar s.rv.length cr, .slice ag s.sg.length cg] 27)) (.slice none 0 0) (.int .i64 0) (.slice none 0 0) (.slice none 0 0) 27 (k := w.heap.size + 1) (by simp)
  have E1 := hE.below hB0
  have O1 := h.below hB0
  have hk0 := F2.lt
  go_enter Tryz.func18, Tryz.ntmps18
  go_wp2_with fail
  generalize (w.alloc (.cells #[.slice aw s.ws.length cw, .int .i64 s.nx, .slice ar s.rv.length cr, .slice ag s.sg.length cg] 27)).alloc (.cells #[.slice none 0 0, .int .i64 0, .slice none 0 0, .slice none 0 0] 27) = Wz at *
  refine (beside_bad _ s p0 p0 p1 p2 p3 base top _ E1 O1).mono ?_
  rintro e w2 ⟨rfl, hB2⟩
  have hBa : Below w2.heap.size w2 (w2.alloc (.cells #[.slice none 0 0, .int .i64 0, .slice none 0 0, .slice none 0 0] 27)) := (Below.refl _ w2).alloc (Nat.le_refl _) _
  have FA := Four.new w2 (.slice none 0 0) (.int .i64 0) (.slice none 0 0) (.slice none 0 0) 27
  replace F2 := (F2.below hB2).below hBa
  have hBB3 := below_two hB0 hB2 hBa
  have hkn : w2.heap.size ≠ w.heap.size + 1 := fun hh => by have := hB2.size; omega
  have hk1 : w.heap.size + 1 < Wz.heap.size := hk0
  have hbs := hB2.size
  have E3 := hE.below hBB3
  go_wp2_with fail
  generalize w2.alloc (.cells #[.slice none 0 0, .int .i64 0, .slice none 0 0, .slice none 0 0] 27) = W3 at *
  generalize w2.heap.size = k2 at *
  obtain ⟨c0, c1, c2, c3⟩ := FA.c
  refine wp_region_held_drew (S := fun w' => w'.cell? ⟨k2, 0, none⟩ = some (.slice none 0 0) ∧ w'.cell? ⟨k2, 1, none⟩ = some (.int .i64 0) ∧ w'.cell? ⟨k2, 2, none⟩ = some (.slice none 0 0) ∧ w'.cell? ⟨k2, 3, none⟩ = some (.slice none 0 0)) (by kernel_rfl) ?_ (fun hHeld => ?_)
  · first | go_keep | exact (((((FA.below (below_drew1 hB4)).other hkn 0 _).other hkn 1 _).other hkn 2 _).other hkn 3 _).c
  refine takeW 0 (v := ?v1) rfl (by kernel_rfl) (by kernel_rfl) (by kernel_rfl) (fun _ _ _ h => h) (by rfl) (by assumption) ?hy1 ?rest1
  case hy1 => intro w' hSw; (try dsimp only at hSw); go_simp; try with_reducible rfl
  try simp only [Act.put, List.setIfInBounds_toArray, List.set_cons_zero, List.set_cons_succ]
  refine takeW 1 (v := ?v2) rfl (by kernel_rfl) (by kernel_rfl) (by kernel_rfl) (fun _ _ _ h => h) (by rfl) (by assumption) ?hy2 ?rest2
  case hy2 => intro w' hSw; (try dsimp only at hSw); go_simp; try with_reducible rfl
  try simp only [Act.put, List.setIfInBounds_toArray, List.set_cons_zero, List.set_cons_succ]
  refine takeC 2 (by kernel_rfl) rfl (fun K hK => ?_)
  go_simp
  refine (codeOf_any .bad p0 p1 p2 p3 _ (fun hh => by cases hh) (by exact E3.below (Below.refl _ _).drew)).mono ?_; rintro e w4 ⟨rfl, hB4⟩; have hc4 := fun o => hB4.cell (p := ⟨k2, o, none⟩) (by exact FA.lt); have G2 : Four w4 _ _ _ _ _ _ := F2.below (below_drew1 hB4); have hBB4 := below_one hBB3 (below_drew1 hB4); obtain ⟨r0, r1, r2, r3⟩ := G2.c; have f0 := G2.f 0; have f1 := G2.f 1; have f2 := G2.f 2; have f3 := G2.f 3
  refine hK.out _ _ ?_ (fun hHeld => ?_)
  · first | go_keep | exact (((((FA.below (below_drew1 hB4)).other hkn 0 _).other hkn 1 _).other hkn 2 _).other hkn 3 _).c
  clear hK K
  try simp only [Act.put, List.setIfInBounds_toArray, List.set_cons_zero, List.set_cons_succ]
  refine takeC 3 (by kernel_rfl) rfl (fun K hK => ?_)
  go_simp
  skip
  refine hK.out _ _ ?_ (fun hHeld => ?_)
  · first | go_keep | exact (((((FA.below (below_drew1 hB4)).other hkn 0 _).other hkn 1 _).other hkn 2 _).other hkn 3 _).c
  clear hK K
  try simp only [Act.put, List.setIfInBounds_toArray, List.set_cons_zero, List.set_cons_succ]
  refine takeW 4 (v := ?v3) rfl (by kernel_rfl) (by kernel_rfl) (by kernel_rfl) (fun _ _ _ h => h) (by rfl) (by assumption) ?hy3 ?rest3
  case hy3 => intro w' hSw; (try dsimp only at hSw); go_simp; try with_reducible rfl
  try simp only [Act.put, List.setIfInBounds_toArray, List.set_cons_zero, List.set_cons_succ]
  refine takeW 5 (v := ?v4) rfl (by kernel_rfl) (by kernel_rfl) (by kernel_rfl) (fun _ _ _ h => h) (by rfl) (by assumption) ?hy4 ?rest4
  case hy4 => intro w' hSw; (try dsimp only at hSw); go_simp; try with_reducible rfl
  try simp only [Act.put, List.setIfInBounds_toArray, List.set_cons_zero, List.set_cons_succ]
  refine wpAnyH_done (by kernel_rfl) ?_ _
  have G := (((G2.s0 (.slice none 0 0)).s1 (.int .i64 0)).s2 (.slice none 0 0)).s3 (.slice none 0 0)
  have pB := below_four hBB4 (k := w.heap.size + 1) (by omega) (.slice none 0 0) (.int .i64 0) (.slice none 0 0) (.slice none 0 0)
  have HI := none_o ((((w4.setCell ⟨w.heap.size + 1, 0, none⟩ (.slice none 0 0)).setCell ⟨w.heap.size + 1, 1, none⟩ (.int .i64 0)).setCell ⟨w.heap.size + 1, 2, none⟩ (.slice none 0 0)).setCell ⟨w.heap.size + 1, 3, none⟩ (.slice none 0 0)) w.heap.size ((((w4.setCell ⟨w.heap.size + 1, 0, none⟩ (.slice none 0 0)).setCell ⟨w.heap.size + 1, 1, none⟩ (.int .i64 0)).setCell ⟨w.heap.size + 1, 2, none⟩ (.slice none 0 0)).setCell ⟨w.heap.size + 1, 3, none⟩ (.slice none 0 0)).heap.size
  go_wp2_with fail
  clear r0 r1 r2 r3 f0 f1 f2 f3 hHeld hc4
  generalize (((w4.setCell ⟨w.heap.size + 1, 0, none⟩ (.slice none 0 0)).setCell ⟨w.heap.size + 1, 1, none⟩ (.int .i64 0)).setCell ⟨w.heap.size + 1, 2, none⟩ (.slice none 0 0)).setCell ⟨w.heap.size + 1, 3, none⟩ (.slice none 0 0) = W5 at *
  obtain ⟨d0, d1, d2, d3⟩ := G.c
  exact bodyPost_ret (v := .tuple #[.agg #[.slice none 0 0, .int .i64 0, .slice none 0 0, .slice none 0 0], .slice none 0 0, .int .i64 1]) (by simp [results, Tryz.results18, go_sem, d0, d1, d2, d3, Er.code]) rfl ⟨_, rfl, HI, pB⟩

set_option maxHeartbeats 8000000 in
set_option maxRecDepth 100000 in
theorem handed_no (v : Value) (s : Is) (p0 p1 p2 p3 : Addr) (base top : Nat) (w : World) (hs : s.short) (hE : ErA w p0 p1 p2 p3) (h : IsO w base top v s) :
    Calls Tryz.prog 18 #[v, .slice none 0 0, rV p3] w fun e w' => ∃ v', e = .returned (.tuple #[v', .slice none 0 0, .int .i64 3]) ∧ IsO w' w.heap.size w'.heap.size v' s ∧ Below w.heap.size w w' := by
  obtain ⟨aw, cw, ar, cr, ag, cg, rfl⟩ := is_forms h.a
  have hB0 : Below w.heap.size w ((w.alloc (.cells #[.slice aw s.ws.length cw, .int .i64 s.nx, .slice ar s.rv.length cr, .slice ag s.sg.length cg] 27)).alloc (.cells #[.slice none 0 0, .int .i64 0, .slice none 0 0, .slice none 0 0] 27)) := ((Below.refl _ w).alloc (Nat.le_refl _) _).alloc (by simp) _
  have F1 := (Four.new w (.slice aw s.ws.length cw) (.int .i64 s.nx) (.slice ar s.rv.length cr) (.slice ag s.sg.length cg) 27).below ((Below.refl _ _).alloc (Nat.le_refl _) (.cells #[.slice none 0 0, .int .i64 0, .slice none 0 0, .slice none 0 0] 27))
  have F2 := Four.at (w.alloc (.cells #[.slice aw s.ws.length cw, .int .i64 s.nx, .slice ar s.rv.length cr, .slice ag s.sg.length cg] 27)) (.slice none 0 0) (.int .i64 0) (.slice none 0 0) (.slice none 0 0) 27 (k := w.heap.size + 1) (by simp)
  have E1 := hE.below hB0
  have O1 := h.below hB0
  have hk0 := F2.lt
  go_enter Tryz.func18, Tryz.ntmps18
  go_wp2_with fail
  generalize (w.alloc (.cells #[.slice aw s.ws.length cw, .int .i64 s.nx, .slice ar s.rv.length cr, .slice ag s.sg.length cg] 27)).alloc (.cells #[.slice none 0 0, .int .i64 0, .slice none 0 0, .slice none 0 0] 27) = Wz at *
  refine (beside_ref _ s p3 p0 p1 p2 p3 base top _ hs E1 O1).mono ?_
  rintro e w2 ⟨v2, rfl, OA, hB2⟩
  obtain ⟨vw, vr, vs, rfl, o1, o2, o3, t1, t2, t3⟩ := OA
  obtain ⟨x2, y2, z2, rfl⟩ := row_slice o1
  obtain ⟨x3, y3, z3, rfl⟩ := row_slice o2
  obtain ⟨x4, y4, z4, rfl⟩ := row_slice o3
  have hBa : Below w2.heap.size w2 (w2.alloc (.cells #[.slice x2 y2 z2, .int .i64 s.nx, .slice x3 y3 z3, .slice x4 y4 z4] 27)) := (Below.refl _ w2).alloc (Nat.le_refl _) _
  have FA := Four.new w2 (.slice x2 y2 z2) (.int .i64 s.nx) (.slice x3 y3 z3) (.slice x4 y4 z4) 27
  replace F2 := (F2.below hB2).below hBa
  have hBB3 := below_two hB0 hB2 hBa
  have hkn : w2.heap.size ≠ w.heap.size + 1 := fun hh => by have := hB2.size; omega
  have hk1 : w.heap.size + 1 < Wz.heap.size := hk0
  have hbs := hB2.size
  have E3 := hE.below hBB3
  replace o1 := ownsRow_below o1 hBa
  replace o2 := ownsRow_below o2 hBa
  replace o3 := ownsRow_below o3 hBa
  go_wp2_with fail
  generalize w2.alloc (.cells #[.slice x2 y2 z2, .int .i64 s.nx, .slice x3 y3 z3, .slice x4 y4 z4] 27) = W3 at *
  generalize w2.heap.size = k2 at *
  obtain ⟨c0, c1, c2, c3⟩ := FA.c
  refine wp_region_held_drew (S := fun w' => w'.cell? ⟨k2, 0, none⟩ = some (.slice x2 y2 z2) ∧ w'.cell? ⟨k2, 1, none⟩ = some (.int .i64 s.nx) ∧ w'.cell? ⟨k2, 2, none⟩ = some (.slice x3 y3 z3) ∧ w'.cell? ⟨k2, 3, none⟩ = some (.slice x4 y4 z4)) (by kernel_rfl) ?_ (fun hHeld => ?_)
  · first | go_keep | exact (((((FA.below (below_drew1 hB4)).other hkn 0 _).other hkn 1 _).other hkn 2 _).other hkn 3 _).c
  refine takeW 0 (v := ?v5) rfl (by kernel_rfl) (by kernel_rfl) (by kernel_rfl) (fun _ _ _ h => h) (by rfl) (by assumption) ?hy5 ?rest5
  case hy5 => intro w' hSw; (try dsimp only at hSw); go_simp; try with_reducible rfl
  try simp only [Act.put, List.setIfInBounds_toArray, List.set_cons_zero, List.set_cons_succ]
  refine takeW 1 (v := ?v6) rfl (by kernel_rfl) (by kernel_rfl) (by kernel_rfl) (fun _ _ _ h => h) (by rfl) (by assumption) ?hy6 ?rest6
  case hy6 => intro w' hSw; (try dsimp only at hSw); go_simp; try with_reducible rfl
  try simp only [Act.put, List.setIfInBounds_toArray, List.set_cons_zero, List.set_cons_succ]
  refine takeC 2 (by kernel_rfl) rfl (fun K hK => ?_)
  go_simp
  refine (codeOf_any .noWork p0 p1 p2 p3 _ (fun hh => by cases hh) (by exact E3.below (Below.refl _ _).drew)).mono ?_; rintro e w4 ⟨rfl, hB4⟩; have hc4 := fun o => hB4.cell (p := ⟨k2, o, none⟩) (by exact FA.lt); have G2 : Four w4 _ _ _ _ _ _ := F2.below (below_drew1 hB4); have hBB4 := below_one hBB3 (below_drew1 hB4); obtain ⟨r0, r1, r2, r3⟩ := G2.c; have f0 := G2.f 0; have f1 := G2.f 1; have f2 := G2.f 2; have f3 := G2.f 3
  refine hK.out _ _ ?_ (fun hHeld => ?_)
  · first | go_keep | exact (((((FA.below (below_drew1 hB4)).other hkn 0 _).other hkn 1 _).other hkn 2 _).other hkn 3 _).c
  clear hK K
  try simp only [Act.put, List.setIfInBounds_toArray, List.set_cons_zero, List.set_cons_succ]
  refine takeC 3 (by kernel_rfl) rfl (fun K hK => ?_)
  go_simp
  skip
  refine hK.out _ _ ?_ (fun hHeld => ?_)
  · first | go_keep | exact (((((FA.below (below_drew1 hB4)).other hkn 0 _).other hkn 1 _).other hkn 2 _).other hkn 3 _).c
  clear hK K
  try simp only [Act.put, List.setIfInBounds_toArray, List.set_cons_zero, List.set_cons_succ]
  refine takeW 4 (v := ?v7) rfl (by kernel_rfl) (by kernel_rfl) (by kernel_rfl) (fun _ _ _ h => h) (by rfl) (by assumption) ?hy7 ?rest7
  case hy7 => intro w' hSw; (try dsimp only at hSw); go_simp; try with_reducible rfl
  try simp only [Act.put, List.setIfInBounds_toArray, List.set_cons_zero, List.set_cons_succ]
  refine takeW 5 (v := ?v8) rfl (by kernel_rfl) (by kernel_rfl) (by kernel_rfl) (fun _ _ _ h => h) (by rfl) (by assumption) ?hy8 ?rest8
  case hy8 => intro w' hSw; (try dsimp only at hSw); go_simp; try with_reducible rfl
  try simp only [Act.put, List.setIfInBounds_toArray, List.set_cons_zero, List.set_cons_succ]
  refine wpAnyH_done (by kernel_rfl) ?_ _
  have G := (((G2.s0 (.slice x2 y2 z2)).s1 (.int .i64 s.nx)).s2 (.slice x3 y3 z3)).s3 (.slice x4 y4 z4)
  have pB := below_four hBB4 (k := w.heap.size + 1) (by omega) (.slice x2 y2 z2) (.int .i64 s.nx) (.slice x3 y3 z3) (.slice x4 y4 z4)
  have q1 := row_four (ownsRow_below o1 (below_drew1 hB4)) (k := w.heap.size + 1) hk1 (.slice x2 y2 z2) (.int .i64 s.nx) (.slice x3 y3 z3) (.slice x4 y4 z4)
  have q2 := row_four (ownsRow_below o2 (below_drew1 hB4)) (k := w.heap.size + 1) hk1 (.slice x2 y2 z2) (.int .i64 s.nx) (.slice x3 y3 z3) (.slice x4 y4 z4)
  have q3 := row_four (ownsRow_below o3 (below_drew1 hB4)) (k := w.heap.size + 1) hk1 (.slice x2 y2 z2) (.int .i64 s.nx) (.slice x3 y3 z3) (.slice x4 y4 z4)
  have HI := IsO.of (s := s) (Go.Joins.ownsRow_le q1 hB0.size) (Go.Joins.ownsRow_le q2 hB0.size) (Go.Joins.ownsRow_le q3 hB0.size)
  go_wp2_with fail
  clear r0 r1 r2 r3 f0 f1 f2 f3 hHeld hc4
  generalize (((w4.setCell ⟨w.heap.size + 1, 0, none⟩ (.slice x2 y2 z2)).setCell ⟨w.heap.size + 1, 1, none⟩ (.int .i64 s.nx)).setCell ⟨w.heap.size + 1, 2, none⟩ (.slice x3 y3 z3)).setCell ⟨w.heap.size + 1, 3, none⟩ (.slice x4 y4 z4) = W5 at *
  obtain ⟨d0, d1, d2, d3⟩ := G.c
  exact bodyPost_ret (v := .tuple #[.agg #[.slice x2 y2 z2, .int .i64 s.nx, .slice x3 y3 z3, .slice x4 y4 z4], .slice none 0 0, .int .i64 3]) (by simp [results, Tryz.results18, go_sem, d0, d1, d2, d3, Er.code]) rfl ⟨_, rfl, HI, pB⟩

set_option maxHeartbeats 8000000 in
set_option maxRecDepth 100000 in
theorem handed_full (v : Value) (s : Is) (p0 p1 p2 p3 : Addr) (base top : Nat) (w : World) (hs : s.short) (hE : ErA w p0 p1 p2 p3) (h : IsO w base top v s) :
    Calls Tryz.prog 18 #[v, .slice none 0 0, rV p2] w fun e w' => ∃ v', e = .returned (.tuple #[v', .slice none 0 0, .int .i64 4]) ∧ IsO w' w.heap.size w'.heap.size v' s ∧ Below w.heap.size w w' := by
  obtain ⟨aw, cw, ar, cr, ag, cg, rfl⟩ := is_forms h.a
  have hB0 : Below w.heap.size w ((w.alloc (.cells #[.slice aw s.ws.length cw, .int .i64 s.nx, .slice ar s.rv.length cr, .slice ag s.sg.length cg] 27)).alloc (.cells #[.slice none 0 0, .int .i64 0, .slice none 0 0, .slice none 0 0] 27)) := ((Below.refl _ w).alloc (Nat.le_refl _) _).alloc (by simp) _
  have F1 := (Four.new w (.slice aw s.ws.length cw) (.int .i64 s.nx) (.slice ar s.rv.length cr) (.slice ag s.sg.length cg) 27).below ((Below.refl _ _).alloc (Nat.le_refl _) (.cells #[.slice none 0 0, .int .i64 0, .slice none 0 0, .slice none 0 0] 27))
  have F2 := Four.at (w.alloc (.cells #[.slice aw s.ws.length cw, .int .i64 s.nx, .slice ar s.rv.length cr, .slice ag s.sg.length cg] 27)) (.slice none 0 0) (.int .i64 0) (.slice none 0 0) (.slice none 0 0) 27 (k := w.heap.size + 1) (by simp)
  have E1 := hE.below hB0
  have O1 := h.below hB0
  have hk0 := F2.lt
  go_enter Tryz.func18, Tryz.ntmps18
  go_wp2_with fail
  generalize (w.alloc (.cells #[.slice aw s.ws.length cw, .int .i64 s.nx, .slice ar s.rv.length cr, .slice ag s.sg.length cg] 27)).alloc (.cells #[.slice none 0 0, .int .i64 0, .slice none 0 0, .slice none 0 0] 27) = Wz at *
  refine (beside_ref _ s p2 p0 p1 p2 p3 base top _ hs E1 O1).mono ?_
  rintro e w2 ⟨v2, rfl, OA, hB2⟩
  obtain ⟨vw, vr, vs, rfl, o1, o2, o3, t1, t2, t3⟩ := OA
  obtain ⟨x2, y2, z2, rfl⟩ := row_slice o1
  obtain ⟨x3, y3, z3, rfl⟩ := row_slice o2
  obtain ⟨x4, y4, z4, rfl⟩ := row_slice o3
  have hBa : Below w2.heap.size w2 (w2.alloc (.cells #[.slice x2 y2 z2, .int .i64 s.nx, .slice x3 y3 z3, .slice x4 y4 z4] 27)) := (Below.refl _ w2).alloc (Nat.le_refl _) _
  have FA := Four.new w2 (.slice x2 y2 z2) (.int .i64 s.nx) (.slice x3 y3 z3) (.slice x4 y4 z4) 27
  replace F2 := (F2.below hB2).below hBa
  have hBB3 := below_two hB0 hB2 hBa
  have hkn : w2.heap.size ≠ w.heap.size + 1 := fun hh => by have := hB2.size; omega
  have hk1 : w.heap.size + 1 < Wz.heap.size := hk0
  have hbs := hB2.size
  have E3 := hE.below hBB3
  replace o1 := ownsRow_below o1 hBa
  replace o2 := ownsRow_below o2 hBa
  replace o3 := ownsRow_below o3 hBa
  go_wp2_with fail
  generalize w2.alloc (.cells #[.slice x2 y2 z2, .int .i64 s.nx, .slice x3 y3 z3, .slice x4 y4 z4] 27) = W3 at *
  generalize w2.heap.size = k2 at *
  obtain ⟨c0, c1, c2, c3⟩ := FA.c
  refine wp_region_held_drew (S := fun w' => w'.cell? ⟨k2, 0, none⟩ = some (.slice x2 y2 z2) ∧ w'.cell? ⟨k2, 1, none⟩ = some (.int .i64 s.nx) ∧ w'.cell? ⟨k2, 2, none⟩ = some (.slice x3 y3 z3) ∧ w'.cell? ⟨k2, 3, none⟩ = some (.slice x4 y4 z4)) (by kernel_rfl) ?_ (fun hHeld => ?_)
  · first | go_keep | exact (((((FA.below (below_drew1 hB4)).other hkn 0 _).other hkn 1 _).other hkn 2 _).other hkn 3 _).c
  refine takeW 0 (v := ?v9) rfl (by kernel_rfl) (by kernel_rfl) (by kernel_rfl) (fun _ _ _ h => h) (by rfl) (by assumption) ?hy9 ?rest9
  case hy9 => intro w' hSw; (try dsimp only at hSw); go_simp; try with_reducible rfl
  try simp only [Act.put, List.setIfInBounds_toArray, List.set_cons_zero, List.set_cons_succ]
  refine takeW 1 (v := ?v10) rfl (by kernel_rfl) (by kernel_rfl) (by kernel_rfl) (fun _ _ _ h => h) (by rfl) (by assumption) ?hy10 ?rest10
  case hy10 => intro w' hSw; (try dsimp only at hSw); go_simp; try with_reducible rfl
  try simp only [Act.put, List.setIfInBounds_toArray, List.set_cons_zero, List.set_cons_succ]
  refine takeC 2 (by kernel_rfl) rfl (fun K hK => ?_)
  go_simp
  refine (codeOf_any .full p0 p1 p2 p3 _ (fun hh => by cases hh) (by exact E3.below (Below.refl _ _).drew)).mono ?_; rintro e w4 ⟨rfl, hB4⟩; have hc4 := fun o => hB4.cell (p := ⟨k2, o, none⟩) (by exact FA.lt); have G2 : Four w4 _ _ _ _ _ _ := F2.below (below_drew1 hB4); have hBB4 := below_one hBB3 (below_drew1 hB4); obtain ⟨r0, r1, r2, r3⟩ := G2.c; have f0 := G2.f 0; have f1 := G2.f 1; have f2 := G2.f 2; have f3 := G2.f 3
  refine hK.out _ _ ?_ (fun hHeld => ?_)
  · first | go_keep | exact (((((FA.below (below_drew1 hB4)).other hkn 0 _).other hkn 1 _).other hkn 2 _).other hkn 3 _).c
  clear hK K
  try simp only [Act.put, List.setIfInBounds_toArray, List.set_cons_zero, List.set_cons_succ]
  refine takeC 3 (by kernel_rfl) rfl (fun K hK => ?_)
  go_simp
  skip
  refine hK.out _ _ ?_ (fun hHeld => ?_)
  · first | go_keep | exact (((((FA.below (below_drew1 hB4)).other hkn 0 _).other hkn 1 _).other hkn 2 _).other hkn 3 _).c
  clear hK K
  try simp only [Act.put, List.setIfInBounds_toArray, List.set_cons_zero, List.set_cons_succ]
  refine takeW 4 (v := ?v11) rfl (by kernel_rfl) (by kernel_rfl) (by kernel_rfl) (fun _ _ _ h => h) (by rfl) (by assumption) ?hy11 ?rest11
  case hy11 => intro w' hSw; (try dsimp only at hSw); go_simp; try with_reducible rfl
  try simp only [Act.put, List.setIfInBounds_toArray, List.set_cons_zero, List.set_cons_succ]
  refine takeW 5 (v := ?v12) rfl (by kernel_rfl) (by kernel_rfl) (by kernel_rfl) (fun _ _ _ h => h) (by rfl) (by assumption) ?hy12 ?rest12
  case hy12 => intro w' hSw; (try dsimp only at hSw); go_simp; try with_reducible rfl
  try simp only [Act.put, List.setIfInBounds_toArray, List.set_cons_zero, List.set_cons_succ]
  refine wpAnyH_done (by kernel_rfl) ?_ _
  have G := (((G2.s0 (.slice x2 y2 z2)).s1 (.int .i64 s.nx)).s2 (.slice x3 y3 z3)).s3 (.slice x4 y4 z4)
  have pB := below_four hBB4 (k := w.heap.size + 1) (by omega) (.slice x2 y2 z2) (.int .i64 s.nx) (.slice x3 y3 z3) (.slice x4 y4 z4)
  have q1 := row_four (ownsRow_below o1 (below_drew1 hB4)) (k := w.heap.size + 1) hk1 (.slice x2 y2 z2) (.int .i64 s.nx) (.slice x3 y3 z3) (.slice x4 y4 z4)
  have q2 := row_four (ownsRow_below o2 (below_drew1 hB4)) (k := w.heap.size + 1) hk1 (.slice x2 y2 z2) (.int .i64 s.nx) (.slice x3 y3 z3) (.slice x4 y4 z4)
  have q3 := row_four (ownsRow_below o3 (below_drew1 hB4)) (k := w.heap.size + 1) hk1 (.slice x2 y2 z2) (.int .i64 s.nx) (.slice x3 y3 z3) (.slice x4 y4 z4)
  have HI := IsO.of (s := s) (Go.Joins.ownsRow_le q1 hB0.size) (Go.Joins.ownsRow_le q2 hB0.size) (Go.Joins.ownsRow_le q3 hB0.size)
  go_wp2_with fail
  clear r0 r1 r2 r3 f0 f1 f2 f3 hHeld hc4
  generalize (((w4.setCell ⟨w.heap.size + 1, 0, none⟩ (.slice x2 y2 z2)).setCell ⟨w.heap.size + 1, 1, none⟩ (.int .i64 s.nx)).setCell ⟨w.heap.size + 1, 2, none⟩ (.slice x3 y3 z3)).setCell ⟨w.heap.size + 1, 3, none⟩ (.slice x4 y4 z4) = W5 at *
  obtain ⟨d0, d1, d2, d3⟩ := G.c
  exact bodyPost_ret (v := .tuple #[.agg #[.slice x2 y2 z2, .int .i64 s.nx, .slice x3 y3 z3, .slice x4 y4 z4], .slice none 0 0, .int .i64 4]) (by simp [results, Tryz.results18, go_sem, d0, d1, d2, d3, Er.code]) rfl ⟨_, rfl, HI, pB⟩

theorem wflat_se : ∀ (ws : List Wk) (n : Nat) (z : Int) (h : n < ws.length), (ws.flatMap Wk.cells).set (n * 3 + 2) (.int .i64 z) = (ws.set n ⟨ws[n].name, ws[n].live, z⟩).flatMap Wk.cells
  | [], n, z, h => by simp at h
  | x :: ws, 0, z, _ => rfl
  | x :: ws, n + 1, z, h => by
    have ih := wflat_se ws n z (by simpa using h)
    simp only [List.getElem_cons_succ]
    rw [List.set_cons_succ, List.flatMap_cons, List.flatMap_cons, ← ih, show (n + 1) * 3 + 2 = n * 3 + 2 + 3 by omega]
    rfl

set_option maxHeartbeats 16000000 in
set_option maxRecDepth 100000 in
theorem handed_nil (v : Value) (s : Is) (bl ml cl : Nat) (ks : List Lk) (who : ByteArray) (p0 p1 p2 p3 : Addr) (base top bk : Nat) (w : World) (hs : s.short) (hE : ErA w p0 p1 p2 p3) (h : IsO w base top v s)
    (hnx : 0 ≤ s.nx ∧ s.nx ≤ 100000) (hsg : s.sg.length ≤ 200) (hhas : hasW s.ws who = true) (hml : ml + 1 = ks.length) (hm6 : ks.length ≤ 6) (hg : ∀ k ∈ ks, k.good = true) (hf : ∀ k ∈ ks, k.size ≤ 1048576) (hlast : (ks[ml]'(by omega)).who = who)
    (hrow : w.ownsRow bk 38 5 (.slice (some ⟨bl, 0, none⟩) ks.length cl) ks.length (ks.flatMap Lk.cells)) (ht : Tab w) :
    Calls Tryz.prog 18 #[v, .slice (some ⟨bl, 0, none⟩) ks.length cl, .nilIface] w fun e w' => ∃ v', e = .returned (.tuple #[v', .slice (some ⟨bl, 0, none⟩) ks.length cl, .int .i64 0]) ∧ IsO w' w.heap.size w'.heap.size v' (sgX s ks who) ∧ Below w.heap.size w w' := by
  obtain ⟨aw, cw, ar, cr, ag, cg, rfl⟩ := is_forms h.a
  have hB0 : Below w.heap.size w ((w.alloc (.cells #[.slice aw s.ws.length cw, .int .i64 s.nx, .slice ar s.rv.length cr, .slice ag s.sg.length cg] 27)).alloc (.cells #[.slice none 0 0, .int .i64 0, .slice none 0 0, .slice none 0 0] 27)) := ((Below.refl _ w).alloc (Nat.le_refl _) _).alloc (by simp) _
  have F1 := (Four.new w (.slice aw s.ws.length cw) (.int .i64 s.nx) (.slice ar s.rv.length cr) (.slice ag s.sg.length cg) 27).below ((Below.refl _ _).alloc (Nat.le_refl _) (.cells #[.slice none 0 0, .int .i64 0, .slice none 0 0, .slice none 0 0] 27))
  have F2 := Four.at (w.alloc (.cells #[.slice aw s.ws.length cw, .int .i64 s.nx, .slice ar s.rv.length cr, .slice ag s.sg.length cg] 27)) (.slice none 0 0) (.int .i64 0) (.slice none 0 0) (.slice none 0 0) 27 (k := w.heap.size + 1) (by simp)
  have E1 := hE.below hB0
  have O1 := h.below hB0
  have hk0 := F2.lt
  go_enter Tryz.func18, Tryz.ntmps18
  go_wp2_with fail
  generalize (w.alloc (.cells #[.slice aw s.ws.length cw, .int .i64 s.nx, .slice ar s.rv.length cr, .slice ag s.sg.length cg] 27)).alloc (.cells #[.slice none 0 0, .int .i64 0, .slice none 0 0, .slice none 0 0] 27) = Wz at *
  refine (beside_nil _ s base top _ hs O1).mono ?_
  rintro e w2 ⟨v2, rfl, OA, hB2⟩
  obtain ⟨vw, vr, vs, rfl, o1, o2, o3, t1, t2, t3⟩ := OA
  obtain ⟨x2, y2, z2, rfl⟩ := row_slice o1
  obtain ⟨x3, y3, z3, rfl⟩ := row_slice o2
  obtain ⟨x4, y4, z4, rfl⟩ := row_slice o3
  have hBa : Below w2.heap.size w2 (w2.alloc (.cells #[.slice x2 y2 z2, .int .i64 s.nx, .slice x3 y3 z3, .slice x4 y4 z4] 27)) := (Below.refl _ w2).alloc (Nat.le_refl _) _
  have FA := Four.new w2 (.slice x2 y2 z2) (.int .i64 s.nx) (.slice x3 y3 z3) (.slice x4 y4 z4) 27
  replace F2 := (F2.below hB2).below hBa
  have hBB3 := below_two hB0 hB2 hBa
  have hkn : w2.heap.size ≠ w.heap.size + 1 := fun hh => by have := hB2.size; omega
  have hk1 : w.heap.size + 1 < Wz.heap.size := hk0
  have hbs := hB2.size
  have E3 := hE.below hBB3
  replace o1 := ownsRow_below o1 hBa
  replace o2 := ownsRow_below o2 hBa
  replace o3 := ownsRow_below o3 hBa
  obtain rfl : y2 = s.ws.length := row_len o1
  obtain rfl : y4 = s.sg.length := row_len o3
  have hlt := hasW_lt hhas
  obtain ⟨g5, hg5⟩ : ∃ g, x2 = some ⟨g, 0, none⟩ := by
    rcases row_form o1 with ⟨_, h0⟩ | ⟨g, z, hv, _, _⟩
    · omega
    · injection hv with hv _ _
      exact ⟨g, hv⟩
  subst hg5
  go_wp2_with fail
  generalize w2.alloc (.cells #[.slice (some ⟨g5, 0, none⟩) s.ws.length z2, .int .i64 s.nx, .slice x3 y3 z3, .slice x4 s.sg.length z4] 27) = W3 at *
  generalize w2.heap.size = k2 at *
  have hLk := LkS.own ((ownsRow_below hrow hBB3))
  obtain ⟨bb, off, ebb, hbb, hcl, q0, q1, q2, q3, q4⟩ := hLk.at (i := ml) (by omega)
  cases ebb
  rw [hlast] at q0
  simp only [Nat.zero_add] at q0 q1 q2 q3 q4
  clear q1 q2 q3 q4
  have hTab := ht.on hBB3
  have hlink := ownsRow_below hrow hBB3
  have HW3 := hid (show W3.heap.size = W3.heap.size from rfl)
  have hBd : Below W3.heap.size W3 W3.drew := (Below.refl _ _).drew
  have hBh := below_one hBB3 hBd
  replace FA := FA.below hBd
  replace F2 := F2.below hBd
  replace o1 := ownsRow_below o1 hBd
  replace o2 := ownsRow_below o2 hBd
  replace o3 := ownsRow_below o3 hBd
  replace hlink := ownsRow_below hlink hBd
  have hTd := hTab.on hBd
  have q0d := (hBd.cell (p := ⟨bl, ml * 5, none⟩) hbb).trans q0
  have hbbd : bl < W3.drew.heap.size := Nat.lt_of_lt_of_le hbb hBd.size
  have hwrap : ((ks.length : Int) - 1).toNat = ml := by omega
  have hsubi : (ks.length : Int) - 1 = (ml : Int) := by omega
  have hwm : IntKind.i64.wrap (ml : Int) = (ml : Int) := by rw [IntKind.wrap_i64]; omega
  have hmlt : (ml : Int) < (ks.length : Int) := by omega
  obtain ⟨c0, c1, c2, c3⟩ := FA.c
  clear hBd
  refine wp_region_held_drew (S := fun w' => w'.cell? ⟨k2, 0, none⟩ = some (.slice (some ⟨g5, 0, none⟩) s.ws.length z2) ∧ w'.cell? ⟨bl, ml * 5, none⟩ = some (.string who)) (by kernel_rfl) ?_ (fun hHeld => ?_)
  · exact ⟨c0, q0d⟩
  generalize W3.drew = Wd at *
  clear c0 c1 c2 c3 q0 hTab E3 hBB3
  refine takeW 0 (v := ?v13) rfl (by kernel_rfl) (by kernel_rfl) (by kernel_rfl) (fun _ _ _ h => h) (by rfl) (by assumption) ?hy13 ?rest13
  case hy13 => intro w' hSw; (try dsimp only at hSw); go_simp; try with_reducible rfl
  try simp only [Act.put, List.setIfInBounds_toArray, List.set_cons_zero, List.set_cons_succ]
  refine takeW 1 (v := ?v14) rfl (by kernel_rfl) (by kernel_rfl) (by kernel_rfl) (fun _ _ _ h => h) (by rfl) (by assumption) ?hy14 ?rest14
  case hy14 => intro w' hSw; (try dsimp only at hSw); go_simp; try with_reducible rfl
  try simp only [Act.put, List.setIfInBounds_toArray, List.set_cons_zero, List.set_cons_succ]
  refine takeW 2 (v := ?v15) rfl (by kernel_rfl) (by kernel_rfl) (by kernel_rfl) (fun _ _ _ h => h) (by rfl) (by assumption) ?hy15 ?rest15
  case hy15 => intro w' hSw; (try dsimp only at hSw); go_simp; try with_reducible rfl
  try simp only [Act.put, List.setIfInBounds_toArray, List.set_cons_zero, List.set_cons_succ]
  refine takeW 3 (v := ?v16) rfl (by kernel_rfl) (by kernel_rfl) (by kernel_rfl) (fun _ _ _ h => h) (by rfl) (by assumption) ?hy16 ?rest16
  case hy16 => intro w' hSw; (try dsimp only at hSw); go_simp; try with_reducible rfl
  try simp only [Act.put, List.setIfInBounds_toArray, List.set_cons_zero, List.set_cons_succ]
  refine takeW 4 (v := ?v17) rfl (by kernel_rfl) (by kernel_rfl) (by kernel_rfl) (fun _ _ _ h => h) (by rfl) (by assumption) ?hy17 ?rest17
  case hy17 => intro w' hSw; (try dsimp only at hSw); go_simp; try with_reducible rfl
  try simp only [Act.put, List.setIfInBounds_toArray, List.set_cons_zero, List.set_cons_succ]
  refine takeW 5 (v := ?v18) rfl (by kernel_rfl) (by kernel_rfl) (by kernel_rfl) (fun _ _ _ h => h) (by rfl) (by assumption) ?hy18 ?rest18
  case hy18 => intro w' hSw; (try dsimp only at hSw); go_simp; try with_reducible rfl
  try simp only [Act.put, List.setIfInBounds_toArray, List.set_cons_zero, List.set_cons_succ]
  refine takeW 6 (v := ?v19) rfl (by kernel_rfl) (by kernel_rfl) (by kernel_rfl) (fun _ _ _ h => h) (by rfl) (by assumption) ?hy19 ?rest19
  case hy19 => intro w' hSw; (try dsimp only at hSw); go_simp; try with_reducible rfl
  try simp only [Act.put, List.setIfInBounds_toArray, List.set_cons_zero, List.set_cons_succ]
  refine takeW 7 (v := ?v20) rfl (by kernel_rfl) (by kernel_rfl) (by kernel_rfl) (fun _ _ _ h => h) (by rfl) (by assumption) ?hy20 ?rest20
  case hy20 => intro w' hSw; (try dsimp only at hSw); go_simp; try with_reducible rfl
  try simp only [Act.put, List.setIfInBounds_toArray, List.set_cons_zero, List.set_cons_succ]
  refine takeW 8 (v := ?v21) rfl (by kernel_rfl) (by kernel_rfl) (by kernel_rfl) (fun _ _ _ h => h) (by rfl) (by assumption) ?hy21 ?rest21
  case hy21 => intro w' hSw; (try dsimp only at hSw); go_simp; try with_reducible rfl
  try simp only [Act.put, List.setIfInBounds_toArray, List.set_cons_zero, List.set_cons_succ]
  refine takeC 9 (by kernel_rfl) rfl (fun K hK => ?_)
  go_simp
  refine (placeW_any _ s.ws who _ (by have := hs.1; omega) (WkS.own o1)).mono ?_; rintro e w4 ⟨rfl, hB4⟩; have FA4 := FA.below hB4; have q04 := (hB4.cell (p := ⟨bl, ml * 5, none⟩) hbbd).trans q0d
  refine hK.out _ _ ?_ (fun hHeld => ?_)
  · first | exact ⟨FA4.c.1, q04⟩ | exact ⟨FA.c.1, q0d⟩
  clear hK K
  try simp only [Act.put, List.setIfInBounds_toArray, List.set_cons_zero, List.set_cons_succ]
  refine takeW 10 (v := ?v22) rfl (by kernel_rfl) (by kernel_rfl) (by kernel_rfl) (fun _ _ _ h => h) (by rfl) (by assumption) ?hy22 ?rest22
  case hy22 => intro w' hSw; (try dsimp only at hSw); go_simp; try with_reducible rfl
  try simp only [Act.put, List.setIfInBounds_toArray, List.set_cons_zero, List.set_cons_succ]
  refine takeW 11 (v := ?v23) rfl (by kernel_rfl) (by kernel_rfl) (by kernel_rfl) (fun _ _ _ h => h) (by rfl) (by assumption) ?hy23 ?rest23
  case hy23 => intro w' hSw; (try dsimp only at hSw); go_simp; try with_reducible rfl
  try simp only [Act.put, List.setIfInBounds_toArray, List.set_cons_zero, List.set_cons_succ]
  refine takeW 12 (v := ?v24) rfl (by kernel_rfl) (by kernel_rfl) (by kernel_rfl) (fun _ _ _ h => h) (by rfl) (by assumption) ?hy24 ?rest24
  case hy24 => intro w' hSw; (try dsimp only at hSw); go_simp; try with_reducible rfl
  try simp only [Act.put, List.setIfInBounds_toArray, List.set_cons_zero, List.set_cons_succ]
  refine takeW 13 (v := ?v25) rfl (by kernel_rfl) (by kernel_rfl) (by kernel_rfl) (fun _ _ _ h => h) (by rfl) (by assumption) ?hy25 ?rest25
  case hy25 => intro w' hSw; (try dsimp only at hSw); go_simp; try with_reducible rfl
  try simp only [Act.put, List.setIfInBounds_toArray, List.set_cons_zero, List.set_cons_succ]
  refine takeW 14 (v := ?v26) rfl (by kernel_rfl) (by kernel_rfl) (by kernel_rfl) (fun _ _ _ h => h) (by rfl) (by assumption) ?hy26 ?rest26
  case hy26 => intro w' hSw; (try dsimp only at hSw); go_simp; try with_reducible rfl
  try simp only [Act.put, List.setIfInBounds_toArray, List.set_cons_zero, List.set_cons_succ]
  refine wpAnyH_done (by kernel_rfl) ?_ _
  clear hHeld
  replace FA := FA4
  replace F2 := F2.below hB4
  replace o1 := ownsRow_below o1 hB4
  replace o2 := ownsRow_below o2 hB4
  replace o3 := ownsRow_below o3 hB4
  replace hlink := ownsRow_below hlink hB4
  replace hTd := hTd.on hB4
  have hBB4 := below_one hBh hB4
  have hbb4 : bl < w4.heap.size := Nat.lt_of_lt_of_le hbbd hB4.size
  clear hB4 FA4 q04 q0d hbbd hBh
  have hg5b : Wz.heap.size ≤ g5 := (o1.lt g5 rfl).1
  have hd1 : k2 ≠ g5 := fun e => row_apart FA o1 (by decide) k2 rfl (by rw [e]; rfl)
  have hd2 : g5 ≠ k2 := fun e => hd1 e.symm
  have hd3 : w.heap.size + 1 ≠ g5 := fun e => row_apart F2 o1 (by decide) (w.heap.size + 1) rfl (by rw [e]; rfl)
  have hd5 : w.heap.size + 1 ≠ k2 := fun e => hkn e.symm
  have hd6 : bl ≠ g5 := fun e => row_apart hlink o1 (by decide) bl rfl (by rw [e]; rfl)
  have hd7 : bl ≠ k2 := fun e => row_apart hlink FA (by decide) bl rfl (by rw [e]; rfl)
  have hd8 : bl ≠ w.heap.size + 1 := fun e => row_apart hlink F2 (by decide) bl rfl (by rw [e]; rfl)
  have HW := hid (wflat_se s.ws (atW s.ws who) s.nx hlt)
  have HS := hid (show sgX s ks who = ⟨s.ws.set (atW s.ws who) ⟨s.ws[atW s.ws who].name, s.ws[atW s.ws who].live, s.nx⟩, s.nx + 1, s.rv, s.sg ++ [tkT ks]⟩ by unfold sgX; rw [seSet_at hlt])
  obtain ⟨wk, HWK⟩ : ∃ x : Wk, Hid (x = ⟨s.ws[atW s.ws who].name, s.ws[atW s.ws who].live, s.nx⟩) := ⟨_, hid rfl⟩
  replace HW := hid (show (s.ws.flatMap Wk.cells).set (atW s.ws who * 3 + 2) (.int .i64 s.nx) = (s.ws.set (atW s.ws who) wk).flatMap Wk.cells by rw [HW.out, HWK.out])
  replace HS := hid (show sgX s ks who = ⟨s.ws.set (atW s.ws who) wk, s.nx + 1, s.rv, s.sg ++ [tkT ks]⟩ by rw [HS.out, HWK.out])
  clear HWK
  generalize atW s.ws who = n at *
  have hl5 := o1.1
  have s2 := o1.cellAt (n * 3 + 2) (by omega)
  rw [List.getElem?_eq_getElem (by omega)] at s2
  have t2' := o1.frozenAt (n * 3 + 2)
  have Q1 := o1.stored (n * 3 + 2) (.int .i64 s.nx)
  have hG := Q1.2
  have hin : (n : Int) < (s.ws.length : Int) := by omega
  obtain ⟨c0, c1, c2, c3⟩ := FA.c
  have cf1 := FA.f 1
  have FB : Four (w4.setCell ⟨g5, n * 3 + 2, none⟩ (.int .i64 s.nx)) _ _ _ _ _ _ := World.ownsRow.kept FA hG (.inr (by simp [Value.ownBlock]; exact hd1))
  have FB2 : Four (w4.setCell ⟨g5, n * 3 + 2, none⟩ (.int .i64 s.nx)) _ _ _ _ _ _ := World.ownsRow.kept F2 hG (.inr (by simp [Value.ownBlock]; exact hd3))
  obtain ⟨e0, e1, e2, e3⟩ := FB.c
  have ef1 := FB.f 1
  have p2 := kept_apart (v2 := (.slice (some ⟨g5, 0, none⟩) s.ws.length z2)) o2 hG (row_apart o2 o1 (by decide))
  have p3 := kept_apart (v2 := (.slice (some ⟨g5, 0, none⟩) s.ws.length z2)) o3 hG (row_apart o3 o1 (by decide))
  have pl := kept_apart (v2 := (.slice (some ⟨g5, 0, none⟩) s.ws.length z2)) hlink hG (row_apart hlink o1 (by decide))
  have hBB := hBB4.grown hG hBB4.size (fun k e => by simp at e; omega)
  have p1 := Q1.1
  rw [HW.out] at p1
  go_wp2_with fail
  clear c0 c1 c2 c3 cf1 e0 e1 e2 e3 ef1 s2 t2'
  have FC := FB.s1 (.int .i64 (s.nx + 1))
  have FC2 := FB2.other (k' := k2) hd5 1 (.int .i64 (s.nx + 1))
  have r1 := ownsRow_setCell_other p1 (a := ⟨k2, 1, none⟩) (by simp [Value.ownBlock]; exact hd2) (.int .i64 (s.nx + 1))
  have r2 := ownsRow_setCell_other p2 (a := ⟨k2, 1, none⟩) (fun e => row_apart p2 FB (by decide) k2 e rfl) (.int .i64 (s.nx + 1))
  have r3 := ownsRow_setCell_other p3 (a := ⟨k2, 1, none⟩) (fun e => row_apart p3 FB (by decide) k2 e rfl) (.int .i64 (s.nx + 1))
  have rl := ownsRow_setCell_other pl (a := ⟨k2, 1, none⟩) (by simp [Value.ownBlock]; exact hd7) (.int .i64 (s.nx + 1))
  have hkw : w.heap.size ≤ k2 := by have := hB0.size; omega
  have hBC := hBB.setCell (p := ⟨k2, 1, none⟩) hkw (.int .i64 (s.nx + 1))
  clear FA F2 FB FB2 o1 o2 o3 hlink p1 p2 p3 pl Q1 hG hBB4 hTd hBB
  generalize (w4.setCell ⟨g5, n * 3 + 2, none⟩ (.int .i64 s.nx)).setCell ⟨k2, 1, none⟩ (.int .i64 (s.nx + 1)) = W6 at *
  have hBd : Below W6.heap.size W6 W6.drew := (Below.refl _ _).drew
  have FA := FC.below hBd
  have F2 := FC2.below hBd
  have o1 := ownsRow_below r1 hBd
  have o2 := ownsRow_below r2 hBd
  have o3 := ownsRow_below r3 hBd
  have ol := ownsRow_below rl hBd
  have hBB := below_one hBC hBd
  clear FC FC2 r1 r2 r3 rl hBC hBd
  have hTe := ht.on hBB
  obtain ⟨iS, hiS, hs0, hs1, hs2⟩ := info_parts infoString
  refine wp_region_held_drew (S := fun _ => True) (by kernel_rfl) trivial (fun hHeld => ?_)
  generalize W6.drew = We at *
  refine takeW 0 (v := ?v27) rfl (by kernel_rfl) (by kernel_rfl) (by kernel_rfl) (fun _ _ _ h => h) (by rfl) (by assumption) ?hy27 ?rest27
  case hy27 => intro w' hSw; (try dsimp only at hSw); go_simp; try with_reducible rfl
  try simp only [Act.put, List.setIfInBounds_toArray, List.set_cons_zero, List.set_cons_succ]
  refine takeW 2 (v := ?v28) rfl (by kernel_rfl) (by kernel_rfl) (by kernel_rfl) (fun _ _ _ h => h) (by rfl) (by assumption) ?hy28 ?rest28
  case hy28 => intro w' hSw; (try dsimp only at hSw); go_simp; try with_reducible rfl
  try simp only [Act.put, List.setIfInBounds_toArray, List.set_cons_zero, List.set_cons_succ]
  obtain ⟨c0, c1, c2, c3⟩ := FA.c
  refine takeC2 1 3 (by kernel_rfl) rfl rfl (fun K hK => ?_) (fun K hK => ?_)
  · go_simp
    skip
    refine hK.out _ _ ?_ (fun hHeld => ?_)
    · trivial
    clear hK K
    try simp only [Act.put, List.setIfInBounds_toArray, List.set_cons_zero, List.set_cons_succ]
    clear c0 c1 c2 c3
    refine takeC 3 (by kernel_rfl) rfl (fun K hK => ?_)
    go_simp
    refine (textOfToken_any _ ks _ (by omega) hg hf (LkS.own ol) hTe).mono ?_; rintro e w7 ⟨rfl, hB7⟩
    refine hK.out _ _ ?_ (fun hHeld => ?_)
    · trivial
    clear hK K
    try simp only [Act.put, List.setIfInBounds_toArray, List.set_cons_zero, List.set_cons_succ]
    have FB7 := FA.below hB7
    have qF2 := F2.below hB7
    have qo1 := ownsRow_below o1 hB7
    have qo2 := ownsRow_below o2 hB7
    have qo3 := ownsRow_below o3 hB7
    have hs7 := hB7.size
    have hBs : Below w7.heap.size w7 (w7.alloc (.cells #[.string (tkT ks)] 9)) := (Below.refl _ w7).alloc (Nat.le_refl _) _
    have FB8 := FB7.below hBs
    refine takeC 4 (by kernel_rfl) rfl (fun K hK => ?_)
    go_simp
    skip
    refine hK.out _ _ ?_ (fun hHeld => ?_)
    · trivial
    clear hK K
    try simp only [Act.put, List.setIfInBounds_toArray, List.set_cons_zero, List.set_cons_succ]
    refine takeC 5 (by kernel_rfl) rfl (fun K hK => ?_)
    refine step_append3 rfl _ _ 25 rfl Wz.heap.size 9 iS _ 1 16 Tryz.underlying25 hiS hs0 hs1 hs2 rfl (by decide) (.slice x4 s.sg.length z4) s.sg.length (strs s.sg) rfl (qo3.alloc _) ⟨w7.heap.size, 0, none⟩ 1 1 [.string (tkT ks)] rfl rfl (cell_one_new _ _ _) (by intro u hu; simp at hu; subst hu; rfl) (by unfold maxLen; omega) (by omega) (by simp; have := (qo1.lt g5 rfl).2; omega) ?_; intro v9 w9 o9 g9; obtain ⟨x9, y9, z9, rfl⟩ := row_slice o9; have u1 := kept_apart (ownsRow_below qo1 hBs) g9 (row_apart qo1 qo3 (by decide)); have u2 := kept_apart (ownsRow_below qo2 hBs) g9 (row_apart qo2 qo3 (by decide)); have FA9 : Four w9 _ _ _ _ _ _ := kept_apart FB8 g9 (row_apart FB7 qo3 (by decide)); have F29 : Four w9 _ _ _ _ _ _ := kept_apart (qF2.below hBs) g9 (row_apart qF2 qo3 (by decide)); have hBB9 : Below w.heap.size w w9 := (below_one (below_one hBB hB7) hBs).grown g9 (below_one (below_one hBB hB7) hBs).size (fun k e => by have := (qo3.lt k e).1; have := hB0.size; omega)
    refine hK.out _ _ ?_ (fun hHeld => ?_)
    · trivial
    clear hK K
    try simp only [Act.put, List.setIfInBounds_toArray, List.set_cons_zero, List.set_cons_succ]
    obtain ⟨c0, c1, c2, c3⟩ := FA9.c
    have cf := FA9.f 3
    have FX := FA9.s3 (.slice x9 y9 z9)
    have F2x := F29.other (k' := k2) hd5 3 (.slice x9 y9 z9)
    have ys1 := ownsRow_setCell_other u1 (a := ⟨k2, 3, none⟩) (by simp [Value.ownBlock]; exact hd2) (.slice x9 y9 z9)
    have ys2 := ownsRow_setCell_other u2 (a := ⟨k2, 3, none⟩) (fun e => row_apart u2 FA9 (by decide) k2 e rfl) (.slice x9 y9 z9)
    have ys3 := ownsRow_setCell_other o9 (a := ⟨k2, 3, none⟩) (fun e => row_apart o9 FA9 (by decide) k2 e rfl) (.slice x9 y9 z9)
    have hBX := hBB9.setCell (p := ⟨k2, 3, none⟩) hkw (.slice x9 y9 z9)
    refine takeW 6 (v := ?v29) rfl (by kernel_rfl) (by kernel_rfl) (by kernel_rfl) (fun _ _ _ h => h) (by rfl) (by assumption) ?hy29 ?rest29
    case hy29 => intro w' hSw; (try dsimp only at hSw); go_simp; try with_reducible rfl
    try simp only [Act.put, List.setIfInBounds_toArray, List.set_cons_zero, List.set_cons_succ]
    refine takeC 7 (by kernel_rfl) rfl (fun K hK => ?_)
    go_simp
    skip
    refine hK.out _ _ ?_ (fun hHeld => ?_)
    · trivial
    clear hK K
    try simp only [Act.put, List.setIfInBounds_toArray, List.set_cons_zero, List.set_cons_succ]
    refine wpAnyH_done (by kernel_rfl) ?_ _
    clear c0 c1 c2 c3 cf hHeld FB8 FA9 F29 u1 u2 o9 g9 qo1 qo2 qo3 FB7 qF2 FA F2 o1 o2 o3 ol hBB hB7 hBs hBB9
    generalize w9.setCell ⟨k2, 3, none⟩ (.slice x9 y9 z9) = W9 at *
    obtain ⟨c0, c1, c2, c3⟩ := FX.c
    obtain ⟨r0, r1, r2, r3⟩ := F2x.c
    have f0 := F2x.f 0
    have f1 := F2x.f 1
    have f2 := F2x.f 2
    have f3 := F2x.f 3
    have G := (((F2x.s0 (.slice (some ⟨g5, 0, none⟩) s.ws.length z2)).s1 (.int .i64 (s.nx + 1))).s2 (.slice x3 y3 z3)).s3 (.slice x9 y9 z9)
    have pB := below_four hBX (k := w.heap.size + 1) (by omega) (.slice (some ⟨g5, 0, none⟩) s.ws.length z2) (.int .i64 (s.nx + 1)) (.slice x3 y3 z3) (.slice x9 y9 z9)
    have z1 := row_four ys1 (k := w.heap.size + 1) hk1 (.slice (some ⟨g5, 0, none⟩) s.ws.length z2) (.int .i64 (s.nx + 1)) (.slice x3 y3 z3) (.slice x9 y9 z9)
    have z2' := row_four ys2 (k := w.heap.size + 1) hk1 (.slice (some ⟨g5, 0, none⟩) s.ws.length z2) (.int .i64 (s.nx + 1)) (.slice x3 y3 z3) (.slice x9 y9 z9)
    have z3' := row_four ys3 (k := w.heap.size + 1) hk1 (.slice (some ⟨g5, 0, none⟩) s.ws.length z2) (.int .i64 (s.nx + 1)) (.slice x3 y3 z3) (.slice x9 y9 z9)
    go_wp2_with fail
    clear r0 r1 r2 r3 f0 f1 f2 f3 c0 c1 c2 c3
    generalize (((W9.setCell ⟨w.heap.size + 1, 0, none⟩ (.slice (some ⟨g5, 0, none⟩) s.ws.length z2)).setCell ⟨w.heap.size + 1, 1, none⟩ (.int .i64 (s.nx + 1))).setCell ⟨w.heap.size + 1, 2, none⟩ (.slice x3 y3 z3)).setCell ⟨w.heap.size + 1, 3, none⟩ (.slice x9 y9 z9) = W10 at *
    obtain ⟨d0, d1, d2, d3⟩ := G.c
    exact bodyPost_ret (v := .tuple #[.agg #[.slice (some ⟨g5, 0, none⟩) s.ws.length z2, .int .i64 (s.nx + 1), .slice x3 y3 z3, .slice x9 y9 z9], .slice (some ⟨bl, 0, none⟩) ks.length cl, .int .i64 0]) (by simp [results, Tryz.results18, go_sem, d0, d1, d2, d3]) rfl ⟨_, rfl, by rw [HS.out]; exact IsO.of (s := ⟨s.ws.set n wk, s.nx + 1, s.rv, s.sg ++ [tkT ks]⟩) (Go.Joins.ownsRow_le (by simpa using z1) hB0.size) (Go.Joins.ownsRow_le z2' hB0.size) (Go.Joins.ownsRow_le (by simpa [strs] using z3') hB0.size), pB⟩
  · go_simp
    refine (textOfToken_any _ ks _ (by omega) hg hf (LkS.own ol) hTe).mono ?_; rintro e w7 ⟨rfl, hB7⟩
    refine hK.out _ _ ?_ (fun hHeld => ?_)
    · trivial
    clear hK K
    try simp only [Act.put, List.setIfInBounds_toArray, List.set_cons_zero, List.set_cons_succ]
    clear c0 c1 c2 c3
    have FB7 := FA.below hB7
    have qF2 := F2.below hB7
    have qo1 := ownsRow_below o1 hB7
    have qo2 := ownsRow_below o2 hB7
    have qo3 := ownsRow_below o3 hB7
    have hs7 := hB7.size
    have hBs : Below w7.heap.size w7 (w7.alloc (.cells #[.string (tkT ks)] 9)) := (Below.refl _ w7).alloc (Nat.le_refl _) _
    have FB8 := FB7.below hBs
    obtain ⟨c0, c1, c2, c3⟩ := FB7.c
    refine takeC2 1 4 (by kernel_rfl) rfl rfl (fun K hK => ?_) (fun K hK => ?_)
    · go_simp
      skip
      refine hK.out _ _ ?_ (fun hHeld => ?_)
      · trivial
      clear hK K
      try simp only [Act.put, List.setIfInBounds_toArray, List.set_cons_zero, List.set_cons_succ]
      clear c0 c1 c2 c3
      refine takeC 4 (by kernel_rfl) rfl (fun K hK => ?_)
      go_simp
      skip
      refine hK.out _ _ ?_ (fun hHeld => ?_)
      · trivial
      clear hK K
      try simp only [Act.put, List.setIfInBounds_toArray, List.set_cons_zero, List.set_cons_succ]
      refine takeC 5 (by kernel_rfl) rfl (fun K hK => ?_)
      refine step_append3 rfl _ _ 25 rfl Wz.heap.size 9 iS _ 1 16 Tryz.underlying25 hiS hs0 hs1 hs2 rfl (by decide) (.slice x4 s.sg.length z4) s.sg.length (strs s.sg) rfl (qo3.alloc _) ⟨w7.heap.size, 0, none⟩ 1 1 [.string (tkT ks)] rfl rfl (cell_one_new _ _ _) (by intro u hu; simp at hu; subst hu; rfl) (by unfold maxLen; omega) (by omega) (by simp; have := (qo1.lt g5 rfl).2; omega) ?_; intro v9 w9 o9 g9; obtain ⟨x9, y9, z9, rfl⟩ := row_slice o9; have u1 := kept_apart (ownsRow_below qo1 hBs) g9 (row_apart qo1 qo3 (by decide)); have u2 := kept_apart (ownsRow_below qo2 hBs) g9 (row_apart qo2 qo3 (by decide)); have FA9 : Four w9 _ _ _ _ _ _ := kept_apart FB8 g9 (row_apart FB7 qo3 (by decide)); have F29 : Four w9 _ _ _ _ _ _ := kept_apart (qF2.below hBs) g9 (row_apart qF2 qo3 (by decide)); have hBB9 : Below w.heap.size w w9 := (below_one (below_one hBB hB7) hBs).grown g9 (below_one (below_one hBB hB7) hBs).size (fun k e => by have := (qo3.lt k e).1; have := hB0.size; omega)
      refine hK.out _ _ ?_ (fun hHeld => ?_)
      · trivial
      clear hK K
      try simp only [Act.put, List.setIfInBounds_toArray, List.set_cons_zero, List.set_cons_succ]
      obtain ⟨c0, c1, c2, c3⟩ := FA9.c
      have cf := FA9.f 3
      have FX := FA9.s3 (.slice x9 y9 z9)
      have F2x := F29.other (k' := k2) hd5 3 (.slice x9 y9 z9)
      have ys1 := ownsRow_setCell_other u1 (a := ⟨k2, 3, none⟩) (by simp [Value.ownBlock]; exact hd2) (.slice x9 y9 z9)
      have ys2 := ownsRow_setCell_other u2 (a := ⟨k2, 3, none⟩) (fun e => row_apart u2 FA9 (by decide) k2 e rfl) (.slice x9 y9 z9)
      have ys3 := ownsRow_setCell_other o9 (a := ⟨k2, 3, none⟩) (fun e => row_apart o9 FA9 (by decide) k2 e rfl) (.slice x9 y9 z9)
      have hBX := hBB9.setCell (p := ⟨k2, 3, none⟩) hkw (.slice x9 y9 z9)
      refine takeW 6 (v := ?v30) rfl (by kernel_rfl) (by kernel_rfl) (by kernel_rfl) (fun _ _ _ h => h) (by rfl) (by assumption) ?hy30 ?rest30
      case hy30 => intro w' hSw; (try dsimp only at hSw); go_simp; try with_reducible rfl
      try simp only [Act.put, List.setIfInBounds_toArray, List.set_cons_zero, List.set_cons_succ]
      refine takeC 7 (by kernel_rfl) rfl (fun K hK => ?_)
      go_simp
      skip
      refine hK.out _ _ ?_ (fun hHeld => ?_)
      · trivial
      clear hK K
      try simp only [Act.put, List.setIfInBounds_toArray, List.set_cons_zero, List.set_cons_succ]
      refine wpAnyH_done (by kernel_rfl) ?_ _
      clear c0 c1 c2 c3 cf hHeld FB8 FA9 F29 u1 u2 o9 g9 qo1 qo2 qo3 FB7 qF2 FA F2 o1 o2 o3 ol hBB hB7 hBs hBB9
      generalize w9.setCell ⟨k2, 3, none⟩ (.slice x9 y9 z9) = W9 at *
      obtain ⟨c0, c1, c2, c3⟩ := FX.c
      obtain ⟨r0, r1, r2, r3⟩ := F2x.c
      have f0 := F2x.f 0
      have f1 := F2x.f 1
      have f2 := F2x.f 2
      have f3 := F2x.f 3
      have G := (((F2x.s0 (.slice (some ⟨g5, 0, none⟩) s.ws.length z2)).s1 (.int .i64 (s.nx + 1))).s2 (.slice x3 y3 z3)).s3 (.slice x9 y9 z9)
      have pB := below_four hBX (k := w.heap.size + 1) (by omega) (.slice (some ⟨g5, 0, none⟩) s.ws.length z2) (.int .i64 (s.nx + 1)) (.slice x3 y3 z3) (.slice x9 y9 z9)
      have z1 := row_four ys1 (k := w.heap.size + 1) hk1 (.slice (some ⟨g5, 0, none⟩) s.ws.length z2) (.int .i64 (s.nx + 1)) (.slice x3 y3 z3) (.slice x9 y9 z9)
      have z2' := row_four ys2 (k := w.heap.size + 1) hk1 (.slice (some ⟨g5, 0, none⟩) s.ws.length z2) (.int .i64 (s.nx + 1)) (.slice x3 y3 z3) (.slice x9 y9 z9)
      have z3' := row_four ys3 (k := w.heap.size + 1) hk1 (.slice (some ⟨g5, 0, none⟩) s.ws.length z2) (.int .i64 (s.nx + 1)) (.slice x3 y3 z3) (.slice x9 y9 z9)
      go_wp2_with fail
      clear r0 r1 r2 r3 f0 f1 f2 f3 c0 c1 c2 c3
      generalize (((W9.setCell ⟨w.heap.size + 1, 0, none⟩ (.slice (some ⟨g5, 0, none⟩) s.ws.length z2)).setCell ⟨w.heap.size + 1, 1, none⟩ (.int .i64 (s.nx + 1))).setCell ⟨w.heap.size + 1, 2, none⟩ (.slice x3 y3 z3)).setCell ⟨w.heap.size + 1, 3, none⟩ (.slice x9 y9 z9) = W10 at *
      obtain ⟨d0, d1, d2, d3⟩ := G.c
      exact bodyPost_ret (v := .tuple #[.agg #[.slice (some ⟨g5, 0, none⟩) s.ws.length z2, .int .i64 (s.nx + 1), .slice x3 y3 z3, .slice x9 y9 z9], .slice (some ⟨bl, 0, none⟩) ks.length cl, .int .i64 0]) (by simp [results, Tryz.results18, go_sem, d0, d1, d2, d3]) rfl ⟨_, rfl, by rw [HS.out]; exact IsO.of (s := ⟨s.ws.set n wk, s.nx + 1, s.rv, s.sg ++ [tkT ks]⟩) (Go.Joins.ownsRow_le (by simpa using z1) hB0.size) (Go.Joins.ownsRow_le z2' hB0.size) (Go.Joins.ownsRow_le (by simpa [strs] using z3') hB0.size), pB⟩
    · go_simp
      skip
      refine hK.out _ _ ?_ (fun hHeld => ?_)
      · trivial
      clear hK K
      try simp only [Act.put, List.setIfInBounds_toArray, List.set_cons_zero, List.set_cons_succ]
      clear c0 c1 c2 c3
      obtain ⟨c0, c1, c2, c3⟩ := FB8.c
      refine takeC 1 (by kernel_rfl) rfl (fun K hK => ?_)
      go_simp
      skip
      refine hK.out _ _ ?_ (fun hHeld => ?_)
      · trivial
      clear hK K
      try simp only [Act.put, List.setIfInBounds_toArray, List.set_cons_zero, List.set_cons_succ]
      clear c0 c1 c2 c3
      refine takeC 5 (by kernel_rfl) rfl (fun K hK => ?_)
      refine step_append3 rfl _ _ 25 rfl Wz.heap.size 9 iS _ 1 16 Tryz.underlying25 hiS hs0 hs1 hs2 rfl (by decide) (.slice x4 s.sg.length z4) s.sg.length (strs s.sg) rfl (qo3.alloc _) ⟨w7.heap.size, 0, none⟩ 1 1 [.string (tkT ks)] rfl rfl (cell_one_new _ _ _) (by intro u hu; simp at hu; subst hu; rfl) (by unfold maxLen; omega) (by omega) (by simp; have := (qo1.lt g5 rfl).2; omega) ?_; intro v9 w9 o9 g9; obtain ⟨x9, y9, z9, rfl⟩ := row_slice o9; have u1 := kept_apart (ownsRow_below qo1 hBs) g9 (row_apart qo1 qo3 (by decide)); have u2 := kept_apart (ownsRow_below qo2 hBs) g9 (row_apart qo2 qo3 (by decide)); have FA9 : Four w9 _ _ _ _ _ _ := kept_apart FB8 g9 (row_apart FB7 qo3 (by decide)); have F29 : Four w9 _ _ _ _ _ _ := kept_apart (qF2.below hBs) g9 (row_apart qF2 qo3 (by decide)); have hBB9 : Below w.heap.size w w9 := (below_one (below_one hBB hB7) hBs).grown g9 (below_one (below_one hBB hB7) hBs).size (fun k e => by have := (qo3.lt k e).1; have := hB0.size; omega)
      refine hK.out _ _ ?_ (fun hHeld => ?_)
      · trivial
      clear hK K
      try simp only [Act.put, List.setIfInBounds_toArray, List.set_cons_zero, List.set_cons_succ]
      obtain ⟨c0, c1, c2, c3⟩ := FA9.c
      have cf := FA9.f 3
      have FX := FA9.s3 (.slice x9 y9 z9)
      have F2x := F29.other (k' := k2) hd5 3 (.slice x9 y9 z9)
      have ys1 := ownsRow_setCell_other u1 (a := ⟨k2, 3, none⟩) (by simp [Value.ownBlock]; exact hd2) (.slice x9 y9 z9)
      have ys2 := ownsRow_setCell_other u2 (a := ⟨k2, 3, none⟩) (fun e => row_apart u2 FA9 (by decide) k2 e rfl) (.slice x9 y9 z9)
      have ys3 := ownsRow_setCell_other o9 (a := ⟨k2, 3, none⟩) (fun e => row_apart o9 FA9 (by decide) k2 e rfl) (.slice x9 y9 z9)
      have hBX := hBB9.setCell (p := ⟨k2, 3, none⟩) hkw (.slice x9 y9 z9)
      refine takeW 6 (v := ?v31) rfl (by kernel_rfl) (by kernel_rfl) (by kernel_rfl) (fun _ _ _ h => h) (by rfl) (by assumption) ?hy31 ?rest31
      case hy31 => intro w' hSw; (try dsimp only at hSw); go_simp; try with_reducible rfl
      try simp only [Act.put, List.setIfInBounds_toArray, List.set_cons_zero, List.set_cons_succ]
      refine takeC 7 (by kernel_rfl) rfl (fun K hK => ?_)
      go_simp
      skip
      refine hK.out _ _ ?_ (fun hHeld => ?_)
      · trivial
      clear hK K
      try simp only [Act.put, List.setIfInBounds_toArray, List.set_cons_zero, List.set_cons_succ]
      refine wpAnyH_done (by kernel_rfl) ?_ _
      clear c0 c1 c2 c3 cf hHeld FB8 FA9 F29 u1 u2 o9 g9 qo1 qo2 qo3 FB7 qF2 FA F2 o1 o2 o3 ol hBB hB7 hBs hBB9
      generalize w9.setCell ⟨k2, 3, none⟩ (.slice x9 y9 z9) = W9 at *
      obtain ⟨c0, c1, c2, c3⟩ := FX.c
      obtain ⟨r0, r1, r2, r3⟩ := F2x.c
      have f0 := F2x.f 0
      have f1 := F2x.f 1
      have f2 := F2x.f 2
      have f3 := F2x.f 3
      have G := (((F2x.s0 (.slice (some ⟨g5, 0, none⟩) s.ws.length z2)).s1 (.int .i64 (s.nx + 1))).s2 (.slice x3 y3 z3)).s3 (.slice x9 y9 z9)
      have pB := below_four hBX (k := w.heap.size + 1) (by omega) (.slice (some ⟨g5, 0, none⟩) s.ws.length z2) (.int .i64 (s.nx + 1)) (.slice x3 y3 z3) (.slice x9 y9 z9)
      have z1 := row_four ys1 (k := w.heap.size + 1) hk1 (.slice (some ⟨g5, 0, none⟩) s.ws.length z2) (.int .i64 (s.nx + 1)) (.slice x3 y3 z3) (.slice x9 y9 z9)
      have z2' := row_four ys2 (k := w.heap.size + 1) hk1 (.slice (some ⟨g5, 0, none⟩) s.ws.length z2) (.int .i64 (s.nx + 1)) (.slice x3 y3 z3) (.slice x9 y9 z9)
      have z3' := row_four ys3 (k := w.heap.size + 1) hk1 (.slice (some ⟨g5, 0, none⟩) s.ws.length z2) (.int .i64 (s.nx + 1)) (.slice x3 y3 z3) (.slice x9 y9 z9)
      go_wp2_with fail
      clear r0 r1 r2 r3 f0 f1 f2 f3 c0 c1 c2 c3
      generalize (((W9.setCell ⟨w.heap.size + 1, 0, none⟩ (.slice (some ⟨g5, 0, none⟩) s.ws.length z2)).setCell ⟨w.heap.size + 1, 1, none⟩ (.int .i64 (s.nx + 1))).setCell ⟨w.heap.size + 1, 2, none⟩ (.slice x3 y3 z3)).setCell ⟨w.heap.size + 1, 3, none⟩ (.slice x9 y9 z9) = W10 at *
      obtain ⟨d0, d1, d2, d3⟩ := G.c
      exact bodyPost_ret (v := .tuple #[.agg #[.slice (some ⟨g5, 0, none⟩) s.ws.length z2, .int .i64 (s.nx + 1), .slice x3 y3 z3, .slice x9 y9 z9], .slice (some ⟨bl, 0, none⟩) ks.length cl, .int .i64 0]) (by simp [results, Tryz.results18, go_sem, d0, d1, d2, d3]) rfl ⟨_, rfl, by rw [HS.out]; exact IsO.of (s := ⟨s.ws.set n wk, s.nx + 1, s.rv, s.sg ++ [tkT ks]⟩) (Go.Joins.ownsRow_le (by simpa using z1) hB0.size) (Go.Joins.ownsRow_le z2' hB0.size) (Go.Joins.ownsRow_le (by simpa [strs] using z3') hB0.size), pB⟩

end Go.Proofs.YtallpldgkkpikaaGreatDoor

namespace Go.Proofs.YtallpldgkkpikaaGreatDoor
open Go.RowKit Go.Shelf

/-- append(v, u...), both rows of one's own. -/
theorem wpList_append_row {P : Program} {w : World} {ops : Array Oper} {rest : List Oper} {o : Oper} {a : Act} {Q : Exit → Act → World → Prop} (hgd : o.guard = none) (s x : Operand) (t : TypeId)
    (ho : o.op = .call { callee := .builtin .append, args := #[s, x], argTypes := #[t, t] })
    (base b2 : Nat) (e : TypeId) (i : TypeInfo) (z : Value) (size bytes : Nat) (ht : P.underlying t = some (.slice e)) (hi : P.info? e = some i) (hz : i.zero = some z)
    (hsize : i.size = size) (hby : i.bytes = bytes) (hzs : z.cells.size = size) (hsz : 0 < size)
    (v u : Value) (n m : Nat) (xs ys : List Value) (hs : a.eval s = v) (hown : w.ownsRow base e size v n xs) (hx : a.eval x = u) (hsrc : w.ownsRow b2 e size u m ys) (h1 : ∀ y ∈ ys, y.oneCell' = true)
    (h63 : n + m ≤ maxLen) (hbytes : (n + m) * bytes ≤ 140737488355328) (hbase : base ≤ w.heap.size)
    (h : ∀ v' w', w'.ownsRow base e size v' (n + m) (xs ++ ys) → w.grownBy w' v.ownBlock → (v' = .slice none 0 0 → v = .slice none 0 0) → wpList P ops Q rest (a.put o.dst v') w') : wpList P ops Q (o :: rest) a w := by
  rcases row_form hsrc with ⟨rfl, rfl⟩ | ⟨g, cap, rfl, _, _⟩
  · have hy : ys = [] := List.eq_nil_of_length_eq_zero (by have := hsrc.1; omega)
    subst hy
    exact wpList_append_own_none hgd s x t ho base e i size ht hi v n xs hs hown hx (h v w (by simpa using hown) (grown_self _ _) (fun e => e))
  · exact wpList_append_own _ hgd s x t ho base e i z size bytes ht hi hz hsize hby hzs hsz v n xs hs hown ⟨g, 0, none⟩ m cap ys hx hsrc.1 (fun j y hj => hsrc.cells (g := g) rfl j y hj) h1 h63 hbytes hbase (fun v' w' h1 h2 h3 => h v' w' h1 h2 (fun e => (h3.1 e).1))
theorem row_empty (w : World) (e : TypeId) (size n : Nat) {base : Nat} (hn : n = w.heap.size) (hb : base ≤ w.heap.size) : (w.alloc (.cells #[] e)).ownsRow base e size (.slice (some ⟨n, 0, none⟩) 0 0) 0 [] := by
  subst hn
  exact ⟨by simp, .inr ⟨w.heap.size, 0, #[], rfl, hb, by show (w.heap.push _)[w.heap.size]? = _; rw [Array.getElem?_push_size], Nat.le_refl _, by unfold maxLen; omega, by simp, by simp⟩⟩

set_option maxHeartbeats 4000000 in
set_option maxRecDepth 100000 in
theorem l4Own_any (v : Value) (s : Is) (base top : Nat) (w : World) (hs : s.short) (h : IsO w base top v s) :
    Calls Tryz.prog 22 #[v] w fun e w' => ∃ v', e = .returned v' ∧ IsO w' w.heap.size w'.heap.size v' s ∧ Below w.heap.size w w' ∧ ∃ a m c b d m' c' e, v' = .agg #[.slice (some a) m c, b, .slice (some d) m' c', e] := by
  obtain ⟨vw, vr, vs, rfl, h1, h2, h3, t1, t2, t3⟩ := h
  obtain ⟨l1, l2, l3⟩ := hs
  obtain ⟨aw, nw, cw, rfl⟩ := row_slice h1
  obtain ⟨ar, nr, cr, rfl⟩ := row_slice h2
  obtain ⟨ag, ng, cg, rfl⟩ := row_slice h3
  obtain rfl : nw = s.ws.length := row_len h1
  obtain rfl : nr = s.rv.length := row_len h2
  obtain rfl : ng = s.sg.length := row_len h3
  obtain ⟨iw, hiw, hw0, hw1, hw2⟩ := info_parts infoWork
  obtain ⟨ii, hii, hi0, hi1, hi2⟩ := info_parts infoInt
  obtain ⟨is, his, hs0, hs1, hs2⟩ := info_parts infoString
  have hB0 : Below w.heap.size w (((w.alloc (.cells #[.slice aw s.ws.length cw, .int .i64 s.nx, .slice ar s.rv.length cr, .slice ag s.sg.length cg] 27)).alloc (.cells #[.slice none 0 0, .int .i64 0, .slice none 0 0, .slice none 0 0] 27)).alloc (.cells #[] 64)) := (((Below.refl _ w).alloc (Nat.le_refl _) _).alloc (by simp) _).alloc (by simp; omega) _
  have F1 := ((Four.new w (.slice aw s.ws.length cw) (.int .i64 s.nx) (.slice ar s.rv.length cr) (.slice ag s.sg.length cg) 27).below ((Below.refl _ _).alloc (Nat.le_refl _) (.cells #[.slice none 0 0, .int .i64 0, .slice none 0 0, .slice none 0 0] 27))).below ((Below.refl _ _).alloc (Nat.le_refl _) (.cells #[] 64))
  have F2 := (Four.at (w.alloc (.cells #[.slice aw s.ws.length cw, .int .i64 s.nx, .slice ar s.rv.length cr, .slice ag s.sg.length cg] 27)) (.slice none 0 0) (.int .i64 0) (.slice none 0 0) (.slice none 0 0) 27 (k := w.heap.size + 1) (by simp)).below ((Below.refl _ _).alloc (Nat.le_refl _) (.cells #[] 64))
  have r0 := row_empty ((w.alloc (.cells #[.slice aw s.ws.length cw, .int .i64 s.nx, .slice ar s.rv.length cr, .slice ag s.sg.length cg] 27)).alloc (.cells #[.slice none 0 0, .int .i64 0, .slice none 0 0, .slice none 0 0] 27)) 64 3 (w.heap.size + 1 + 1) (base := w.heap.size + 1 + 1) (by simp) (by simp)
  have hbz : w.heap.size + 1 + 1 ≤ (((w.alloc (.cells #[.slice aw s.ws.length cw, .int .i64 s.nx, .slice ar s.rv.length cr, .slice ag s.sg.length cg] 27)).alloc (.cells #[.slice none 0 0, .int .i64 0, .slice none 0 0, .slice none 0 0] 27)).alloc (.cells #[] 64)).heap.size := by simp
  go_enter Tryz.func22, Tryz.ntmps22
  go_wp2_with (at_builtin; refine wpList_append_row rfl _ _ 23 rfl (w.heap.size + 1 + 1) base 64 iw _ 3 32 Tryz.underlying23 hiw hw0 hw1 hw2 rfl (by decide) _ _ 0 s.ws.length [] _ rfl r0 rfl (ownsRow_below h1 hB0) one_w (by unfold maxLen; omega) (by omega) hbz ?_)
  intro v1 w1 o1 g1 hn1
  obtain ⟨x1, y1, z1, rfl⟩ := row_slice o1
  have hsome : ∃ a, x1 = some a := by
    rcases row_form o1 with ⟨hh, _⟩ | ⟨g, z, hh, _⟩
    · have := hn1 hh
      simp at this
    · injection hh with hh _ _
      exact ⟨_, hh⟩
  clear hn1
  replace F1 : Four w1 _ _ _ _ _ _ := World.ownsRow.kept F1 g1 (.inr (by simp [Value.ownBlock] <;> omega))
  replace F2 : Four w1 _ _ _ _ _ _ := World.ownsRow.kept F2 g1 (.inr (by simp [Value.ownBlock] <;> omega))
  have hBB1 : Below w.heap.size w w1 := hB0.grown g1 hB0.size (fun k e => by simp [Value.ownBlock] at e; omega)
  have hk1 : w.heap.size + 1 + 1 ≤ w1.heap.size := Nat.le_trans hbz g1.size
  clear hB0 g1 r0 hbz
  have hBc : Below (w1.setCell ⟨w.heap.size, 0, none⟩ (.slice x1 y1 z1)).heap.size (w1.setCell ⟨w.heap.size, 0, none⟩ (.slice x1 y1 z1)) ((w1.setCell ⟨w.heap.size, 0, none⟩ (.slice x1 y1 z1)).alloc (.cells #[] 3)) := (Below.refl _ _).alloc (Nat.le_refl _) _
  obtain ⟨a0, a1, a2, a3⟩ := F1.c
  have f0 := F1.f 0
  have G1 := (F1.s0 (.slice x1 y1 z1)).below hBc
  have G2 := (F2.other (k' := w.heap.size) (by omega) 0 (.slice x1 y1 z1)).below hBc
  have q1 := (ownsRow_setCell_below o1 (a := ⟨w.heap.size, 0, none⟩) (by simp; omega) (.slice x1 y1 z1)).alloc (.cells #[] 3)
  have r1 := row_empty (w1.setCell ⟨w.heap.size, 0, none⟩ (.slice x1 y1 z1)) 3 1 w1.heap.size (base := w1.heap.size) (by simp) (by simp)
  have hBB2 := (hBB1.setCell (p := ⟨w.heap.size, 0, none⟩) (by simp) (.slice x1 y1 z1)).trans (hBc.mono (by simp; have := hBB1.size; omega))
  have hbz2 : w1.heap.size ≤ ((w1.setCell ⟨w.heap.size, 0, none⟩ (.slice x1 y1 z1)).alloc (.cells #[] 3)).heap.size := by simp
  clear F1 F2 hBc
  obtain ⟨n0, n1, n2, n3⟩ := G1.c
  go_wp2_with (at_builtin; refine wpList_append_row rfl _ _ 24 rfl w1.heap.size base 3 ii _ 1 8 Tryz.underlying24 hii hi0 hi1 hi2 rfl (by decide) _ _ 0 s.rv.length [] _ rfl r1 rfl (ownsRow_below h2 hBB2) one_n (by unfold maxLen; omega) (by omega) hbz2 ?_)
  intro v2 w2 o2 g2 hn2
  obtain ⟨x2, y2, z2, rfl⟩ := row_slice o2
  have hsome2 : ∃ a, x2 = some a := by
    rcases row_form o2 with ⟨hh, _⟩ | ⟨g, z, hh, _⟩
    · have := hn2 hh
      simp at this
    · injection hh with hh _ _
      exact ⟨_, hh⟩
  clear hn2
  replace G1 : Four w2 _ _ _ _ _ _ := World.ownsRow.kept G1 g2 (.inr (by simp [Value.ownBlock] <;> omega))
  replace G2 : Four w2 _ _ _ _ _ _ := World.ownsRow.kept G2 g2 (.inr (by simp [Value.ownBlock] <;> omega))
  have p1 := kept_apart (v2 := .slice (some ⟨w1.heap.size, 0, none⟩) 0 0) q1 g2 (row_apart q1 r1 (by decide))
  have hBB3 : Below w.heap.size w w2 := hBB2.grown g2 hBB2.size (fun k e => by simp [Value.ownBlock] at e; omega)
  have hk2 : w1.heap.size ≤ w2.heap.size := Nat.le_trans hbz2 g2.size
  clear hBB2 g2 r1 hbz2 q1 a0 a1 a2 a3 f0
  have hBc : Below (w2.setCell ⟨w.heap.size, 2, none⟩ (.slice x2 y2 z2)).heap.size (w2.setCell ⟨w.heap.size, 2, none⟩ (.slice x2 y2 z2)) ((w2.setCell ⟨w.heap.size, 2, none⟩ (.slice x2 y2 z2)).alloc (.cells #[] 9)) := (Below.refl _ _).alloc (Nat.le_refl _) _
  obtain ⟨a0, a1, a2, a3⟩ := G1.c
  have f2 := G1.f 2
  have F1 := (G1.s2 (.slice x2 y2 z2)).below hBc
  have F2 := (G2.other (k' := w.heap.size) (by omega) 2 (.slice x2 y2 z2)).below hBc
  have q1 := (ownsRow_setCell_below p1 (a := ⟨w.heap.size, 2, none⟩) (by simp; omega) (.slice x2 y2 z2)).alloc (.cells #[] 9)
  have q2 := (ownsRow_setCell_below o2 (a := ⟨w.heap.size, 2, none⟩) (by simp; omega) (.slice x2 y2 z2)).alloc (.cells #[] 9)
  have r2 := row_empty (w2.setCell ⟨w.heap.size, 2, none⟩ (.slice x2 y2 z2)) 9 1 w2.heap.size (base := w2.heap.size) (by simp) (by simp)
  have hBB4 := (hBB3.setCell (p := ⟨w.heap.size, 2, none⟩) (by simp) (.slice x2 y2 z2)).trans (hBc.mono (by simp; have := hBB3.size; omega))
  have hbz3 : w2.heap.size ≤ ((w2.setCell ⟨w.heap.size, 2, none⟩ (.slice x2 y2 z2)).alloc (.cells #[] 9)).heap.size := by simp
  clear G1 G2 hBc p1 o1 o2 n0 n1 n2 n3
  obtain ⟨n0, n1, n2, n3⟩ := F1.c
  go_wp2_with (at_builtin; refine wpList_append_row rfl _ _ 25 rfl w2.heap.size base 9 is _ 1 16 Tryz.underlying25 his hs0 hs1 hs2 rfl (by decide) _ _ 0 s.sg.length [] _ rfl r2 rfl (ownsRow_below h3 hBB4) one_s (by unfold maxLen; omega) (by omega) hbz3 ?_)
  intro v3 w3 o3 g3 _
  obtain ⟨x3, y3, z3, rfl⟩ := row_slice o3
  replace F1 : Four w3 _ _ _ _ _ _ := World.ownsRow.kept F1 g3 (.inr (by simp [Value.ownBlock] <;> omega))
  replace F2 : Four w3 _ _ _ _ _ _ := World.ownsRow.kept F2 g3 (.inr (by simp [Value.ownBlock] <;> omega))
  have p1 := kept_apart (v2 := .slice (some ⟨w2.heap.size, 0, none⟩) 0 0) q1 g3 (row_apart q1 r2 (by decide))
  have p2 := kept_apart (v2 := .slice (some ⟨w2.heap.size, 0, none⟩) 0 0) q2 g3 (row_apart q2 r2 (by decide))
  have hBB5 : Below w.heap.size w w3 := hBB4.grown g3 hBB4.size (fun k e => by simp [Value.ownBlock] at e; have := hBB3.size; omega)
  clear hBB4 g3 r2 hbz3 q1 q2 a0 a1 a2 a3 f2
  obtain ⟨a0, a1, a2, a3⟩ := F1.c
  have f3 := F1.f 3
  have F1' := F1.s3 (.slice x3 y3 z3)
  have F2' := F2.other (k' := w.heap.size) (by omega) 3 (.slice x3 y3 z3)
  have q1 := ownsRow_setCell_below p1 (a := ⟨w.heap.size, 3, none⟩) (by simp; omega) (.slice x3 y3 z3)
  have q2 := ownsRow_setCell_below p2 (a := ⟨w.heap.size, 3, none⟩) (by simp; omega) (.slice x3 y3 z3)
  have q3 := ownsRow_setCell_below o3 (a := ⟨w.heap.size, 3, none⟩) (by simp; omega) (.slice x3 y3 z3)
  have hBB6 := hBB5.setCell (p := ⟨w.heap.size, 3, none⟩) (by simp) (.slice x3 y3 z3)
  obtain ⟨b0, b1, b2, b3⟩ := F1'.c
  obtain ⟨e0, e1, e2, e3⟩ := F2'.c
  have k0 := F2'.f 0
  have k1 := F2'.f 1
  have k2 := F2'.f 2
  have k3 := F2'.f 3
  have G := (((F2'.s0 (.slice x1 y1 z1)).s1 (.int .i64 s.nx)).s2 (.slice x2 y2 z2)).s3 (.slice x3 y3 z3)
  have m1 := row_four q1 (k := w.heap.size + 1) (by omega) (.slice x1 y1 z1) (.int .i64 s.nx) (.slice x2 y2 z2) (.slice x3 y3 z3)
  have m2 := row_four q2 (k := w.heap.size + 1) (by omega) (.slice x1 y1 z1) (.int .i64 s.nx) (.slice x2 y2 z2) (.slice x3 y3 z3)
  have m3 := row_four q3 (k := w.heap.size + 1) (by omega) (.slice x1 y1 z1) (.int .i64 s.nx) (.slice x2 y2 z2) (.slice x3 y3 z3)
  have pB := below_four hBB6 (k := w.heap.size + 1) (by omega) (.slice x1 y1 z1) (.int .i64 s.nx) (.slice x2 y2 z2) (.slice x3 y3 z3)
  go_wp2_with fail
  clear a0 a1 a2 a3 f3 b0 b1 b2 b3 e0 e1 e2 e3 k0 k1 k2 k3
  generalize ((((w3.setCell ⟨w.heap.size, 3, none⟩ (.slice x3 y3 z3)).setCell ⟨w.heap.size + 1, 0, none⟩ (.slice x1 y1 z1)).setCell ⟨w.heap.size + 1, 1, none⟩ (.int .i64 s.nx)).setCell ⟨w.heap.size + 1, 2, none⟩ (.slice x2 y2 z2)).setCell ⟨w.heap.size + 1, 3, none⟩ (.slice x3 y3 z3) = W5 at *
  obtain ⟨d0, d1, d2, d3⟩ := G.c
  exact bodyPost_ret (v := .agg #[.slice x1 y1 z1, .int .i64 s.nx, .slice x2 y2 z2, .slice x3 y3 z3]) (by simp [results, Tryz.results22, go_sem, d0, d1, d2, d3]) rfl ⟨_, rfl, IsO.of (Go.Joins.ownsRow_le m1 (by omega)) (Go.Joins.ownsRow_le m2 (by omega)) (Go.Joins.ownsRow_le m3 (by omega)), pB, by obtain ⟨a, rfl⟩ := hsome; obtain ⟨b, rfl⟩ := hsome2; exact ⟨_, _, _, _, _, _, _, _, rfl⟩⟩

end Go.Proofs.YtallpldgkkpikaaGreatDoor

namespace Go.Proofs.YtallpldgkkpikaaGreatDoor
open Go.RowKit Go.Shelf

theorem Mid.fresh {lo hi : Nat} {w w1 : World} (h : Mid lo hi w w1) {p : Addr} (hp : w.heap.size ≤ p.block) (u : Value) : Mid lo hi w (w1.setCell p u) :=
  ⟨h.os, h.tape, h.output, by rw [World.size_setCell]; exact h.size, fun k hk hn => (Below.heap_setCell w1 p u k (by omega)).trans (h.block k hk hn)⟩
theorem Mid.drew {lo hi : Nat} {w w1 : World} (h : Mid lo hi w w1) : Mid lo hi w w1.drew := h.trans (Mid.of_below ((Below.refl _ _).drew))

theorem rowaw {w : World} {base : Nat} {e : TypeId} {size n : Nat} {v : Value} {xs : List Value} (h : w.ownsRow base e size v n xs) {k : Nat} (hb : v.ownBlock ≠ some k) (x0 x1 x2 x3 : Value) : ((((w.setCell ⟨k, 0, none⟩ x0).setCell ⟨k, 1, none⟩ x1).setCell ⟨k, 2, none⟩ x2).setCell ⟨k, 3, none⟩ x3).ownsRow base e size v n xs :=
  ownsRow_setCell_other (ownsRow_setCell_other (ownsRow_setCell_other (ownsRow_setCell_other h (a := ⟨k, 0, none⟩) hb x0) (a := ⟨k, 1, none⟩) hb x1) (a := ⟨k, 2, none⟩) hb x2) (a := ⟨k, 3, none⟩) hb x3

set_option maxHeartbeats 2000000 in
theorem l4Full_any (v : Value) (s : Is) (w : World) (hs : s.short) (h : IsA w v s) :
    Calls Tryz.prog 24 #[v] w fun e w' => e = .returned (.bool (fullB s)) ∧ Below w.heap.size w w' := by
  obtain ⟨aw, cw, ar, cr, ag, cg, rfl⟩ := is_forms h
  have l3 := hs.2.2
  cases e1 : (s.nx == 100000)
  · cases e2 : ((s.sg.length : Int) == 200)
    · have HR := hid (full3 e1 e2)
      go_enter Tryz.func24, Tryz.ntmps24
      go_wp2
      go_ret
      exact ⟨ret_bool HR.out.symm, (Below.refl _ w).alloc (Nat.le_refl _) _⟩
    · have HR := hid (full2 e2)
      go_enter Tryz.func24, Tryz.ntmps24
      go_wp2
      go_ret
      exact ⟨ret_bool HR.out.symm, (Below.refl _ w).alloc (Nat.le_refl _) _⟩
  · have HR := hid (full1 e1)
    go_enter Tryz.func24, Tryz.ntmps24
    go_wp2
    go_ret
    exact ⟨ret_bool HR.out.symm, (Below.refl _ w).alloc (Nat.le_refl _) _⟩

set_option maxHeartbeats 16000000 in
set_option maxRecDepth 100000 in
theorem l4Sign_any (s : Is) (aw ar ag : Option Addr) (cw cr cg bl ml cl : Nat) (ks : List Lk) (who : ByteArray) (base top bk : Nat) (w : World) (hs : s.short) (htop : top ≤ w.heap.size)
    (o1 : w.ownsRow base 64 3 (.slice aw s.ws.length cw) s.ws.length (s.ws.flatMap Wk.cells)) (o2 : w.ownsRow base 3 1 (.slice ar s.rv.length cr) s.rv.length (nums s.rv)) (o3 : w.ownsRow base 9 1 (.slice ag s.sg.length cg) s.sg.length (strs s.sg))
    (t1 : ∀ k, (Value.slice aw s.ws.length cw).ownBlock = some k → k < top) (t3 : ∀ k, (Value.slice ag s.sg.length cg).ownBlock = some k → k < top)
    (hnx : 0 ≤ s.nx ∧ s.nx ≤ 100000) (hsg : s.sg.length ≤ 200) (hhas : hasW s.ws who = true) (hml : ml + 1 = ks.length) (hm6 : ks.length ≤ 6) (hg : ∀ k ∈ ks, k.good = true) (hf : ∀ k ∈ ks, k.size ≤ 1048576) (hlast : (ks[ml]'(by omega)).who = who)
    (hrow : w.ownsRow bk 38 5 (.slice (some ⟨bl, 0, none⟩) ks.length cl) ks.length (ks.flatMap Lk.cells)) :
    Calls Tryz.prog 25 #[.agg #[.slice aw s.ws.length cw, .int .i64 s.nx, .slice ar s.rv.length cr, .slice ag s.sg.length cg], .slice (some ⟨bl, 0, none⟩) ks.length cl] w fun e w' => ∃ v', e = .returned v' ∧ IsO w' base w'.heap.size v' (sgX s ks who) ∧ w'.ownsRow bk 38 5 (.slice (some ⟨bl, 0, none⟩) ks.length cl) ks.length (ks.flatMap Lk.cells) ∧ Mid base top w w' := by
  have hB0 : Below w.heap.size w ((w.alloc (.cells #[.slice aw s.ws.length cw, .int .i64 s.nx, .slice ar s.rv.length cr, .slice ag s.sg.length cg] 27)).alloc (.cells #[.slice none 0 0, .int .i64 0, .slice none 0 0, .slice none 0 0] 27)) := ((Below.refl _ w).alloc (Nat.le_refl _) _).alloc (by simp) _
  have F1 := (Four.new w (.slice aw s.ws.length cw) (.int .i64 s.nx) (.slice ar s.rv.length cr) (.slice ag s.sg.length cg) 27).below ((Below.refl _ _).alloc (Nat.le_refl _) (.cells #[.slice none 0 0, .int .i64 0, .slice none 0 0, .slice none 0 0] 27))
  have F2 := Four.at (w.alloc (.cells #[.slice aw s.ws.length cw, .int .i64 s.nx, .slice ar s.rv.length cr, .slice ag s.sg.length cg] 27)) (.slice none 0 0) (.int .i64 0) (.slice none 0 0) (.slice none 0 0) 27 (k := w.heap.size + 1) (by simp)
  have hlt := hasW_lt hhas
  have hbase : base ≤ w.heap.size := by
    rcases row_form o1 with ⟨_, h0⟩ | ⟨g, z, hv, hb, _⟩
    · omega
    · have := (o1.lt g (by rw [hv]; rfl)).2
      omega
  obtain ⟨g5, hg5⟩ : ∃ g, aw = some ⟨g, 0, none⟩ := by
    rcases row_form o1 with ⟨_, h0⟩ | ⟨g, z, hv, _, _⟩
    · omega
    · injection hv with hv _ _
      exact ⟨g, hv⟩
  subst hg5
  have hA : IsA w (.agg #[.slice (some ⟨g5, 0, none⟩) s.ws.length cw, .int .i64 s.nx, .slice ar s.rv.length cr, .slice ag s.sg.length cg]) s := ⟨_, _, _, rfl, WkS.own o1, VS.ownN o2, VS.ownS o3⟩
  replace hA := hA.below hB0
  replace o1 := ownsRow_below o1 hB0
  replace o2 := ownsRow_below o2 hB0
  replace o3 := ownsRow_below o3 hB0
  have hlink := ownsRow_below hrow hB0
  have hM : Mid base top w ((w.alloc (.cells #[.slice (some ⟨g5, 0, none⟩) s.ws.length cw, .int .i64 s.nx, .slice ar s.rv.length cr, .slice ag s.sg.length cg] 27)).alloc (.cells #[.slice none 0 0, .int .i64 0, .slice none 0 0, .slice none 0 0] 27)) := Mid.of_below hB0
  have hk1 := F2.lt
  go_enter Tryz.func25, Tryz.ntmps25
  go_wp2_with fail
  generalize (w.alloc (.cells #[.slice (some ⟨g5, 0, none⟩) s.ws.length cw, .int .i64 s.nx, .slice ar s.rv.length cr, .slice ag s.sg.length cg] 27)).alloc (.cells #[.slice none 0 0, .int .i64 0, .slice none 0 0, .slice none 0 0] 27) = W3 at *
  have hBd : Below W3.heap.size W3 W3.drew := (Below.refl _ _).drew
  replace F1 := F1.below hBd
  replace F2 := F2.below hBd
  replace o1 := ownsRow_below o1 hBd
  replace o2 := ownsRow_below o2 hBd
  replace o3 := ownsRow_below o3 hBd
  replace hlink := ownsRow_below hlink hBd
  replace hA := hA.below hBd
  replace hM := hM.trans (Mid.of_below hBd)
  have hsd := hBd.size
  clear hBd
  have hLk := LkS.own hlink
  obtain ⟨bb, off, ebb, hbb, hcl, q0, q1, q2, q3, q4⟩ := hLk.at (i := ml) (by omega)
  cases ebb
  rw [hlast] at q0
  simp only [Nat.zero_add] at q0 q1 q2 q3 q4
  clear q1 q2 q3 q4
  have hwrap : ((ks.length : Int) - 1).toNat = ml := by omega
  have hsubi : (ks.length : Int) - 1 = (ml : Int) := by omega
  have hwm : IntKind.i64.wrap (ml : Int) = (ml : Int) := by rw [IntKind.wrap_i64]; omega
  have hmlt : (ml : Int) < (ks.length : Int) := by omega
  obtain ⟨c0, c1, c2, c3⟩ := F1.c
  refine wp_region_held_drew (S := fun w' => (w'.cell? ⟨w.heap.size, 0, none⟩ = some (.slice (some ⟨g5, 0, none⟩) s.ws.length cw) ∧ w'.cell? ⟨w.heap.size, 1, none⟩ = some (.int .i64 s.nx) ∧ w'.cell? ⟨w.heap.size, 2, none⟩ = some (.slice ar s.rv.length cr) ∧ w'.cell? ⟨w.heap.size, 3, none⟩ = some (.slice ag s.sg.length cg)) ∧ w'.cell? ⟨bl, ml * 5, none⟩ = some (.string who)) (by kernel_rfl) ?_ (fun hHeld => ?_)
  · exact ⟨⟨c0, c1, c2, c3⟩, q0⟩
  generalize W3.drew = Wd at *
  clear c0 c1 c2 c3
  refine takeW 0 (v := ?v1) rfl (by kernel_rfl) (by kernel_rfl) (by kernel_rfl) (fun _ _ _ h => h) (by rfl) (by assumption) ?hy1 ?rest1
  case hy1 => intro w' hSw; (try dsimp only at hSw); go_simp; try with_reducible rfl
  try simp only [Act.put, List.setIfInBounds_toArray, List.set_cons_zero, List.set_cons_succ]
  refine takeW 1 (v := ?v2) rfl (by kernel_rfl) (by kernel_rfl) (by kernel_rfl) (fun _ _ _ h => h) (by rfl) (by assumption) ?hy2 ?rest2
  case hy2 => intro w' hSw; (try dsimp only at hSw); go_simp; try with_reducible rfl
  try simp only [Act.put, List.setIfInBounds_toArray, List.set_cons_zero, List.set_cons_succ]
  refine takeW 2 (v := ?v3) rfl (by kernel_rfl) (by kernel_rfl) (by kernel_rfl) (fun _ _ _ h => h) (by rfl) (by assumption) ?hy3 ?rest3
  case hy3 => intro w' hSw; (try dsimp only at hSw); go_simp; try with_reducible rfl
  try simp only [Act.put, List.setIfInBounds_toArray, List.set_cons_zero, List.set_cons_succ]
  refine takeW 3 (v := ?v4) rfl (by kernel_rfl) (by kernel_rfl) (by kernel_rfl) (fun _ _ _ h => h) (by rfl) (by assumption) ?hy4 ?rest4
  case hy4 => intro w' hSw; (try dsimp only at hSw); go_simp; try with_reducible rfl
  try simp only [Act.put, List.setIfInBounds_toArray, List.set_cons_zero, List.set_cons_succ]
  refine takeW 4 (v := ?v5) rfl (by kernel_rfl) (by kernel_rfl) (by kernel_rfl) (fun _ _ _ h => h) (by rfl) (by assumption) ?hy5 ?rest5
  case hy5 => intro w' hSw; (try dsimp only at hSw); go_simp; try with_reducible rfl
  try simp only [Act.put, List.setIfInBounds_toArray, List.set_cons_zero, List.set_cons_succ]
  refine takeW 5 (v := ?v6) rfl (by kernel_rfl) (by kernel_rfl) (by kernel_rfl) (fun _ _ _ h => h) (by rfl) (by assumption) ?hy6 ?rest6
  case hy6 => intro w' hSw; (try dsimp only at hSw); go_simp; try with_reducible rfl
  try simp only [Act.put, List.setIfInBounds_toArray, List.set_cons_zero, List.set_cons_succ]
  refine takeW 6 (v := ?v7) rfl (by kernel_rfl) (by kernel_rfl) (by kernel_rfl) (fun _ _ _ h => h) (by rfl) (by assumption) ?hy7 ?rest7
  case hy7 => intro w' hSw; (try dsimp only at hSw); go_simp; try with_reducible rfl
  try simp only [Act.put, List.setIfInBounds_toArray, List.set_cons_zero, List.set_cons_succ]
  refine takeW 7 (v := ?v8) rfl (by kernel_rfl) (by kernel_rfl) (by kernel_rfl) (fun _ _ _ h => h) (by rfl) (by assumption) ?hy8 ?rest8
  case hy8 => intro w' hSw; (try dsimp only at hSw); go_simp; try with_reducible rfl
  try simp only [Act.put, List.setIfInBounds_toArray, List.set_cons_zero, List.set_cons_succ]
  refine takeC 8 (by kernel_rfl) rfl (fun K hK => ?_)
  go_simp
  refine (l4At_any _ s who _ hs.1 hA).mono ?_; rintro e w4 ⟨rfl, hB4⟩; have F14 := F1.below hB4; have q04 := (hB4.cell (p := ⟨bl, ml * 5, none⟩) hbb).trans q0
  refine hK.out _ _ ?_ (fun hHeld => ?_)
  · first | exact ⟨F14.c, q04⟩ | exact ⟨F1.c, q0⟩
  clear hK K
  try simp only [Act.put, List.setIfInBounds_toArray, List.set_cons_zero, List.set_cons_succ]
  refine takeW 9 (v := ?v9) rfl (by kernel_rfl) (by kernel_rfl) (by kernel_rfl) (fun _ _ _ h => h) (by rfl) (by assumption) ?hy9 ?rest9
  case hy9 => intro w' hSw; (try dsimp only at hSw); go_simp; try with_reducible rfl
  try simp only [Act.put, List.setIfInBounds_toArray, List.set_cons_zero, List.set_cons_succ]
  refine takeW 10 (v := ?v10) rfl (by kernel_rfl) (by kernel_rfl) (by kernel_rfl) (fun _ _ _ h => h) (by rfl) (by assumption) ?hy10 ?rest10
  case hy10 => intro w' hSw; (try dsimp only at hSw); go_simp; try with_reducible rfl
  try simp only [Act.put, List.setIfInBounds_toArray, List.set_cons_zero, List.set_cons_succ]
  refine takeW 11 (v := ?v11) rfl (by kernel_rfl) (by kernel_rfl) (by kernel_rfl) (fun _ _ _ h => h) (by rfl) (by assumption) ?hy11 ?rest11
  case hy11 => intro w' hSw; (try dsimp only at hSw); go_simp; try with_reducible rfl
  try simp only [Act.put, List.setIfInBounds_toArray, List.set_cons_zero, List.set_cons_succ]
  refine takeW 12 (v := ?v12) rfl (by kernel_rfl) (by kernel_rfl) (by kernel_rfl) (fun _ _ _ h => h) (by rfl) (by assumption) ?hy12 ?rest12
  case hy12 => intro w' hSw; (try dsimp only at hSw); go_simp; try with_reducible rfl
  try simp only [Act.put, List.setIfInBounds_toArray, List.set_cons_zero, List.set_cons_succ]
  refine takeW 13 (v := ?v13) rfl (by kernel_rfl) (by kernel_rfl) (by kernel_rfl) (fun _ _ _ h => h) (by rfl) (by assumption) ?hy13 ?rest13
  case hy13 => intro w' hSw; (try dsimp only at hSw); go_simp; try with_reducible rfl
  try simp only [Act.put, List.setIfInBounds_toArray, List.set_cons_zero, List.set_cons_succ]
  refine wpAnyH_done (by kernel_rfl) ?_ _
  clear hHeld
  replace F1 := F14
  replace F2 := F2.below hB4
  replace o1 := ownsRow_below o1 hB4
  replace o2 := ownsRow_below o2 hB4
  replace o3 := ownsRow_below o3 hB4
  replace hlink := ownsRow_below hlink hB4
  replace hM := hM.trans (Mid.of_below hB4)
  have hs4 := hB4.size
  clear hB4 F14 q04 q0 hbb hA
  have hg5b : base ≤ g5 := (o1.lt g5 rfl).1
  have hg5t : g5 < top := t1 g5 rfl
  have hd1 : w.heap.size ≠ g5 := by omega
  have hd2 : g5 ≠ w.heap.size := by omega
  have hd3 : w.heap.size + 1 ≠ g5 := by omega
  have hd5 : w.heap.size + 1 ≠ w.heap.size := by omega
  have hd7 : bl ≠ w.heap.size := fun e => row_apart hlink F1 (by decide) bl rfl (by rw [e]; rfl)
  have HW := hid (wflat_se s.ws (atW s.ws who) s.nx hlt)
  have HS := hid (show sgX s ks who = ⟨s.ws.set (atW s.ws who) ⟨s.ws[atW s.ws who].name, s.ws[atW s.ws who].live, s.nx⟩, s.nx + 1, s.rv, s.sg ++ [tkT ks]⟩ by unfold sgX; rw [seSet_at hlt])
  obtain ⟨wk, HWK⟩ : ∃ x : Wk, Hid (x = ⟨s.ws[atW s.ws who].name, s.ws[atW s.ws who].live, s.nx⟩) := ⟨_, hid rfl⟩
  replace HW := hid (show (s.ws.flatMap Wk.cells).set (atW s.ws who * 3 + 2) (.int .i64 s.nx) = (s.ws.set (atW s.ws who) wk).flatMap Wk.cells by rw [HW.out, HWK.out])
  replace HS := hid (show sgX s ks who = ⟨s.ws.set (atW s.ws who) wk, s.nx + 1, s.rv, s.sg ++ [tkT ks]⟩ by rw [HS.out, HWK.out])
  clear HWK
  generalize atW s.ws who = n at *
  have hl5 := o1.1
  have s2 := o1.cellAt (n * 3 + 2) (by omega)
  rw [List.getElem?_eq_getElem (by omega)] at s2
  have t2' := o1.frozenAt (n * 3 + 2)
  have Q1 := o1.stored (n * 3 + 2) (.int .i64 s.nx)
  have hG := Q1.2
  have hin : (n : Int) < (s.ws.length : Int) := by omega
  obtain ⟨c0, c1, c2, c3⟩ := F1.c
  have cf1 := F1.f 1
  have FB : Four (w4.setCell ⟨g5, n * 3 + 2, none⟩ (.int .i64 s.nx)) _ _ _ _ _ _ := World.ownsRow.kept F1 hG (.inr (by simp [Value.ownBlock]; exact hd1))
  have FB2 : Four (w4.setCell ⟨g5, n * 3 + 2, none⟩ (.int .i64 s.nx)) _ _ _ _ _ _ := World.ownsRow.kept F2 hG (.inr (by simp [Value.ownBlock]; exact hd3))
  obtain ⟨e0, e1, e2, e3⟩ := FB.c
  have ef1 := FB.f 1
  have p2 := kept_apart (v2 := (.slice (some ⟨g5, 0, none⟩) s.ws.length cw)) o2 hG (row_apart o2 o1 (by decide))
  have p3 := kept_apart (v2 := (.slice (some ⟨g5, 0, none⟩) s.ws.length cw)) o3 hG (row_apart o3 o1 (by decide))
  have pl := kept_apart (v2 := (.slice (some ⟨g5, 0, none⟩) s.ws.length cw)) hlink hG (row_apart hlink o1 (by decide))
  have hM5 := hM.trans (Mid.of_grown (lo := base) (hi := top) hG (fun k e => by simp at e; omega))
  have p1 := Q1.1
  rw [HW.out] at p1
  go_wp2_with fail
  clear c0 c1 c2 c3 cf1 e0 e1 e2 e3 ef1 s2 t2'
  have FC := FB.s1 (.int .i64 (s.nx + 1))
  have FC2 := FB2.other (k' := w.heap.size) hd5 1 (.int .i64 (s.nx + 1))
  have r1 := ownsRow_setCell_other p1 (a := ⟨w.heap.size, 1, none⟩) (by simp [Value.ownBlock]; exact hd2) (.int .i64 (s.nx + 1))
  have r2 := ownsRow_setCell_other p2 (a := ⟨w.heap.size, 1, none⟩) (fun e => row_apart p2 FB (by decide) w.heap.size e rfl) (.int .i64 (s.nx + 1))
  have r3 := ownsRow_setCell_other p3 (a := ⟨w.heap.size, 1, none⟩) (fun e => row_apart p3 FB (by decide) w.heap.size e rfl) (.int .i64 (s.nx + 1))
  have rl := ownsRow_setCell_other pl (a := ⟨w.heap.size, 1, none⟩) (by simp [Value.ownBlock]; exact hd7) (.int .i64 (s.nx + 1))
  have hMC := hM5.fresh (p := ⟨w.heap.size, 1, none⟩) (Nat.le_refl _) (.int .i64 (s.nx + 1))
  clear F1 F2 FB FB2 o1 o2 o3 hlink p1 p2 p3 pl Q1 hG hM hM5
  generalize (w4.setCell ⟨g5, n * 3 + 2, none⟩ (.int .i64 s.nx)).setCell ⟨w.heap.size, 1, none⟩ (.int .i64 (s.nx + 1)) = W6 at *
  have hBd : Below W6.heap.size W6 W6.drew := (Below.refl _ _).drew
  have F1 := FC.below hBd
  have F2 := FC2.below hBd
  have o1 := ownsRow_below r1 hBd
  have o2 := ownsRow_below r2 hBd
  have o3 := ownsRow_below r3 hBd
  have ol := ownsRow_below rl hBd
  have hM := hMC.trans (Mid.of_below hBd)
  clear FC FC2 r1 r2 r3 rl hMC hBd
  obtain ⟨iS, hiS, hs0, hs1, hs2⟩ := info_parts infoString
  refine wp_region_held_drew (S := fun _ => True) (by kernel_rfl) trivial (fun hHeld => ?_)
  generalize W6.drew = We at *
  refine takeW 0 (v := ?v14) rfl (by kernel_rfl) (by kernel_rfl) (by kernel_rfl) (fun _ _ _ h => h) (by rfl) (by assumption) ?hy14 ?rest14
  case hy14 => intro w' hSw; (try dsimp only at hSw); go_simp; try with_reducible rfl
  try simp only [Act.put, List.setIfInBounds_toArray, List.set_cons_zero, List.set_cons_succ]
  refine takeW 2 (v := ?v15) rfl (by kernel_rfl) (by kernel_rfl) (by kernel_rfl) (fun _ _ _ h => h) (by rfl) (by assumption) ?hy15 ?rest15
  case hy15 => intro w' hSw; (try dsimp only at hSw); go_simp; try with_reducible rfl
  try simp only [Act.put, List.setIfInBounds_toArray, List.set_cons_zero, List.set_cons_succ]
  obtain ⟨c0, c1, c2, c3⟩ := F1.c
  refine takeC2 1 3 (by kernel_rfl) rfl rfl (fun K hK => ?_) (fun K hK => ?_)
  · go_simp
    skip
    refine hK.out _ _ ?_ (fun hHeld => ?_)
    · trivial
    clear hK K
    try simp only [Act.put, List.setIfInBounds_toArray, List.set_cons_zero, List.set_cons_succ]
    clear c0 c1 c2 c3
    refine takeC 3 (by kernel_rfl) rfl (fun K hK => ?_)
    go_simp
    refine (l3Text_any _ ks _ (by omega) hg hf (LkS.own ol)).mono ?_; rintro e w7 ⟨rfl, hB7⟩
    refine hK.out _ _ ?_ (fun hHeld => ?_)
    · trivial
    clear hK K
    try simp only [Act.put, List.setIfInBounds_toArray, List.set_cons_zero, List.set_cons_succ]
    have FB7 := F1.below hB7
    have qF2 := F2.below hB7
    have qo1 := ownsRow_below o1 hB7
    have qo2 := ownsRow_below o2 hB7
    have qo3 := ownsRow_below o3 hB7
    have qol := ownsRow_below ol hB7
    have hs7 := hB7.size
    have hBs : Below w7.heap.size w7 (w7.alloc (.cells #[.string (tkT ks)] 9)) := (Below.refl _ w7).alloc (Nat.le_refl _) _
    have FB8 := FB7.below hBs
    refine takeC 4 (by kernel_rfl) rfl (fun K hK => ?_)
    go_simp
    skip
    refine hK.out _ _ ?_ (fun hHeld => ?_)
    · trivial
    clear hK K
    try simp only [Act.put, List.setIfInBounds_toArray, List.set_cons_zero, List.set_cons_succ]
    refine takeC 5 (by kernel_rfl) rfl (fun K hK => ?_)
    refine step_append3 rfl _ _ 25 rfl base 9 iS _ 1 16 Tryz.underlying25 hiS hs0 hs1 hs2 rfl (by decide) (.slice ag s.sg.length cg) s.sg.length (strs s.sg) rfl (qo3.alloc _) ⟨w7.heap.size, 0, none⟩ 1 1 [.string (tkT ks)] rfl rfl (cell_one_new _ _ _) (by intro u hu; simp at hu; subst hu; rfl) (by unfold maxLen; omega) (by omega) (by simp; have := (qo1.lt g5 rfl).2; omega) ?_; intro v9 w9 o9 g9; obtain ⟨x9, y9, z9, rfl⟩ := row_slice o9; have u1 := kept_apart (ownsRow_below qo1 hBs) g9 (row_apart qo1 qo3 (by decide)); have u2 := kept_apart (ownsRow_below qo2 hBs) g9 (row_apart qo2 qo3 (by decide)); have ul := kept_apart (ownsRow_below qol hBs) g9 (row_apart qol qo3 (by decide)); have F19 : Four w9 _ _ _ _ _ _ := kept_apart FB8 g9 (row_apart FB7 qo3 (by decide)); have F29 : Four w9 _ _ _ _ _ _ := kept_apart (qF2.below hBs) g9 (row_apart qF2 qo3 (by decide)); have hM9 := ((hM.trans (Mid.of_below hB7)).trans (Mid.of_below hBs)).trans (Mid.of_grown (lo := base) (hi := top) g9 (fun k e => ⟨(qo3.lt k e).1, t3 k e⟩))
    refine hK.out _ _ ?_ (fun hHeld => ?_)
    · trivial
    clear hK K
    try simp only [Act.put, List.setIfInBounds_toArray, List.set_cons_zero, List.set_cons_succ]
    obtain ⟨c0, c1, c2, c3⟩ := F19.c
    have cf := F19.f 3
    have FX := F19.s3 (.slice x9 y9 z9)
    have F2x := F29.other (k' := w.heap.size) hd5 3 (.slice x9 y9 z9)
    have y1 := ownsRow_setCell_other u1 (a := ⟨w.heap.size, 3, none⟩) (by simp [Value.ownBlock]; exact hd2) (.slice x9 y9 z9)
    have y2 := ownsRow_setCell_other u2 (a := ⟨w.heap.size, 3, none⟩) (fun e => row_apart u2 F19 (by decide) w.heap.size e rfl) (.slice x9 y9 z9)
    have y3 := ownsRow_setCell_other o9 (a := ⟨w.heap.size, 3, none⟩) (fun e => row_apart o9 F19 (by decide) w.heap.size e rfl) (.slice x9 y9 z9)
    have yl := ownsRow_setCell_other ul (a := ⟨w.heap.size, 3, none⟩) (by simp [Value.ownBlock]; exact hd7) (.slice x9 y9 z9)
    have hMX := hM9.fresh (p := ⟨w.heap.size, 3, none⟩) (Nat.le_refl _) (.slice x9 y9 z9)
    refine takeW 6 (v := ?v16) rfl (by kernel_rfl) (by kernel_rfl) (by kernel_rfl) (fun _ _ _ h => h) (by rfl) (by assumption) ?hy16 ?rest16
    case hy16 => intro w' hSw; (try dsimp only at hSw); go_simp; try with_reducible rfl
    try simp only [Act.put, List.setIfInBounds_toArray, List.set_cons_zero, List.set_cons_succ]
    refine takeC 7 (by kernel_rfl) rfl (fun K hK => ?_)
    go_simp
    skip
    refine hK.out _ _ ?_ (fun hHeld => ?_)
    · trivial
    clear hK K
    try simp only [Act.put, List.setIfInBounds_toArray, List.set_cons_zero, List.set_cons_succ]
    refine wpAnyH_done (by kernel_rfl) ?_ _
    clear c0 c1 c2 c3 cf hHeld FB8 F19 F29 u1 u2 ul o9 g9 qo1 qo2 qo3 qol FB7 qF2 F1 F2 o1 o2 o3 ol hM hB7 hBs hM9
    generalize w9.setCell ⟨w.heap.size, 3, none⟩ (.slice x9 y9 z9) = W9 at *
    obtain ⟨c0, c1, c2, c3⟩ := FX.c
    obtain ⟨r0, r1, r2, r3⟩ := F2x.c
    have f0 := F2x.f 0
    have f1 := F2x.f 1
    have f2 := F2x.f 2
    have f3 := F2x.f 3
    have G := (((F2x.s0 (.slice (some ⟨g5, 0, none⟩) s.ws.length cw)).s1 (.int .i64 (s.nx + 1))).s2 (.slice ar s.rv.length cr)).s3 (.slice x9 y9 z9)
    have z1 := rowaw y1 (fun e => row_apart y1 F2x (by decide) (w.heap.size + 1) e rfl) (.slice (some ⟨g5, 0, none⟩) s.ws.length cw) (.int .i64 (s.nx + 1)) (.slice ar s.rv.length cr) (.slice x9 y9 z9)
    have z2' := rowaw y2 (fun e => row_apart y2 F2x (by decide) (w.heap.size + 1) e rfl) (.slice (some ⟨g5, 0, none⟩) s.ws.length cw) (.int .i64 (s.nx + 1)) (.slice ar s.rv.length cr) (.slice x9 y9 z9)
    have z3' := rowaw y3 (fun e => row_apart y3 F2x (by decide) (w.heap.size + 1) e rfl) (.slice (some ⟨g5, 0, none⟩) s.ws.length cw) (.int .i64 (s.nx + 1)) (.slice ar s.rv.length cr) (.slice x9 y9 z9)
    have zl := rowaw yl (fun e => row_apart yl F2x (by decide) (w.heap.size + 1) e rfl) (.slice (some ⟨g5, 0, none⟩) s.ws.length cw) (.int .i64 (s.nx + 1)) (.slice ar s.rv.length cr) (.slice x9 y9 z9)
    have hME := (((hMX.fresh (p := ⟨w.heap.size + 1, 0, none⟩) (by simp) (.slice (some ⟨g5, 0, none⟩) s.ws.length cw)).fresh (p := ⟨w.heap.size + 1, 1, none⟩) (by simp) (.int .i64 (s.nx + 1))).fresh (p := ⟨w.heap.size + 1, 2, none⟩) (by simp) (.slice ar s.rv.length cr)).fresh (p := ⟨w.heap.size + 1, 3, none⟩) (by simp) (.slice x9 y9 z9)
    go_wp2_with fail
    clear r0 r1 r2 r3 f0 f1 f2 f3 c0 c1 c2 c3
    generalize (((W9.setCell ⟨w.heap.size + 1, 0, none⟩ (.slice (some ⟨g5, 0, none⟩) s.ws.length cw)).setCell ⟨w.heap.size + 1, 1, none⟩ (.int .i64 (s.nx + 1))).setCell ⟨w.heap.size + 1, 2, none⟩ (.slice ar s.rv.length cr)).setCell ⟨w.heap.size + 1, 3, none⟩ (.slice x9 y9 z9) = W10 at *
    obtain ⟨d0, d1, d2, d3⟩ := G.c
    exact bodyPost_ret (v := .agg #[.slice (some ⟨g5, 0, none⟩) s.ws.length cw, .int .i64 (s.nx + 1), .slice ar s.rv.length cr, .slice x9 y9 z9]) (by simp [results, Tryz.results25, go_sem, d0, d1, d2, d3]) rfl ⟨_, rfl, by rw [HS.out]; exact IsO.of (s := ⟨s.ws.set n wk, s.nx + 1, s.rv, s.sg ++ [tkT ks]⟩) (by simpa using z1) z2' (by simpa [strs] using z3'), zl, hME⟩
  · go_simp
    refine (l3Text_any _ ks _ (by omega) hg hf (LkS.own ol)).mono ?_; rintro e w7 ⟨rfl, hB7⟩
    refine hK.out _ _ ?_ (fun hHeld => ?_)
    · trivial
    clear hK K
    try simp only [Act.put, List.setIfInBounds_toArray, List.set_cons_zero, List.set_cons_succ]
    clear c0 c1 c2 c3
    have FB7 := F1.below hB7
    have qF2 := F2.below hB7
    have qo1 := ownsRow_below o1 hB7
    have qo2 := ownsRow_below o2 hB7
    have qo3 := ownsRow_below o3 hB7
    have qol := ownsRow_below ol hB7
    have hs7 := hB7.size
    have hBs : Below w7.heap.size w7 (w7.alloc (.cells #[.string (tkT ks)] 9)) := (Below.refl _ w7).alloc (Nat.le_refl _) _
    have FB8 := FB7.below hBs
    obtain ⟨c0, c1, c2, c3⟩ := FB7.c
    refine takeC2 1 4 (by kernel_rfl) rfl rfl (fun K hK => ?_) (fun K hK => ?_)
    · go_simp
      skip
      refine hK.out _ _ ?_ (fun hHeld => ?_)
      · trivial
      clear hK K
      try simp only [Act.put, List.setIfInBounds_toArray, List.set_cons_zero, List.set_cons_succ]
      clear c0 c1 c2 c3
      refine takeC 4 (by kernel_rfl) rfl (fun K hK => ?_)
      go_simp
      skip
      refine hK.out _ _ ?_ (fun hHeld => ?_)
      · trivial
      clear hK K
      try simp only [Act.put, List.setIfInBounds_toArray, List.set_cons_zero, List.set_cons_succ]
      refine takeC 5 (by kernel_rfl) rfl (fun K hK => ?_)
      refine step_append3 rfl _ _ 25 rfl base 9 iS _ 1 16 Tryz.underlying25 hiS hs0 hs1 hs2 rfl (by decide) (.slice ag s.sg.length cg) s.sg.length (strs s.sg) rfl (qo3.alloc _) ⟨w7.heap.size, 0, none⟩ 1 1 [.string (tkT ks)] rfl rfl (cell_one_new _ _ _) (by intro u hu; simp at hu; subst hu; rfl) (by unfold maxLen; omega) (by omega) (by simp; have := (qo1.lt g5 rfl).2; omega) ?_; intro v9 w9 o9 g9; obtain ⟨x9, y9, z9, rfl⟩ := row_slice o9; have u1 := kept_apart (ownsRow_below qo1 hBs) g9 (row_apart qo1 qo3 (by decide)); have u2 := kept_apart (ownsRow_below qo2 hBs) g9 (row_apart qo2 qo3 (by decide)); have ul := kept_apart (ownsRow_below qol hBs) g9 (row_apart qol qo3 (by decide)); have F19 : Four w9 _ _ _ _ _ _ := kept_apart FB8 g9 (row_apart FB7 qo3 (by decide)); have F29 : Four w9 _ _ _ _ _ _ := kept_apart (qF2.below hBs) g9 (row_apart qF2 qo3 (by decide)); have hM9 := ((hM.trans (Mid.of_below hB7)).trans (Mid.of_below hBs)).trans (Mid.of_grown (lo := base) (hi := top) g9 (fun k e => ⟨(qo3.lt k e).1, t3 k e⟩))
      refine hK.out _ _ ?_ (fun hHeld => ?_)
      · trivial
      clear hK K
      try simp only [Act.put, List.setIfInBounds_toArray, List.set_cons_zero, List.set_cons_succ]
      obtain ⟨c0, c1, c2, c3⟩ := F19.c
      have cf := F19.f 3
      have FX := F19.s3 (.slice x9 y9 z9)
      have F2x := F29.other (k' := w.heap.size) hd5 3 (.slice x9 y9 z9)
      have y1 := ownsRow_setCell_other u1 (a := ⟨w.heap.size, 3, none⟩) (by simp [Value.ownBlock]; exact hd2) (.slice x9 y9 z9)
      have y2 := ownsRow_setCell_other u2 (a := ⟨w.heap.size, 3, none⟩) (fun e => row_apart u2 F19 (by decide) w.heap.size e rfl) (.slice x9 y9 z9)
      have y3 := ownsRow_setCell_other o9 (a := ⟨w.heap.size, 3, none⟩) (fun e => row_apart o9 F19 (by decide) w.heap.size e rfl) (.slice x9 y9 z9)
      have yl := ownsRow_setCell_other ul (a := ⟨w.heap.size, 3, none⟩) (by simp [Value.ownBlock]; exact hd7) (.slice x9 y9 z9)
      have hMX := hM9.fresh (p := ⟨w.heap.size, 3, none⟩) (Nat.le_refl _) (.slice x9 y9 z9)
      refine takeW 6 (v := ?v17) rfl (by kernel_rfl) (by kernel_rfl) (by kernel_rfl) (fun _ _ _ h => h) (by rfl) (by assumption) ?hy17 ?rest17
      case hy17 => intro w' hSw; (try dsimp only at hSw); go_simp; try with_reducible rfl
      try simp only [Act.put, List.setIfInBounds_toArray, List.set_cons_zero, List.set_cons_succ]
      refine takeC 7 (by kernel_rfl) rfl (fun K hK => ?_)
      go_simp
      skip
      refine hK.out _ _ ?_ (fun hHeld => ?_)
      · trivial
      clear hK K
      try simp only [Act.put, List.setIfInBounds_toArray, List.set_cons_zero, List.set_cons_succ]
      refine wpAnyH_done (by kernel_rfl) ?_ _
      clear c0 c1 c2 c3 cf hHeld FB8 F19 F29 u1 u2 ul o9 g9 qo1 qo2 qo3 qol FB7 qF2 F1 F2 o1 o2 o3 ol hM hB7 hBs hM9
      generalize w9.setCell ⟨w.heap.size, 3, none⟩ (.slice x9 y9 z9) = W9 at *
      obtain ⟨c0, c1, c2, c3⟩ := FX.c
      obtain ⟨r0, r1, r2, r3⟩ := F2x.c
      have f0 := F2x.f 0
      have f1 := F2x.f 1
      have f2 := F2x.f 2
      have f3 := F2x.f 3
      have G := (((F2x.s0 (.slice (some ⟨g5, 0, none⟩) s.ws.length cw)).s1 (.int .i64 (s.nx + 1))).s2 (.slice ar s.rv.length cr)).s3 (.slice x9 y9 z9)
      have z1 := rowaw y1 (fun e => row_apart y1 F2x (by decide) (w.heap.size + 1) e rfl) (.slice (some ⟨g5, 0, none⟩) s.ws.length cw) (.int .i64 (s.nx + 1)) (.slice ar s.rv.length cr) (.slice x9 y9 z9)
      have z2' := rowaw y2 (fun e => row_apart y2 F2x (by decide) (w.heap.size + 1) e rfl) (.slice (some ⟨g5, 0, none⟩) s.ws.length cw) (.int .i64 (s.nx + 1)) (.slice ar s.rv.length cr) (.slice x9 y9 z9)
      have z3' := rowaw y3 (fun e => row_apart y3 F2x (by decide) (w.heap.size + 1) e rfl) (.slice (some ⟨g5, 0, none⟩) s.ws.length cw) (.int .i64 (s.nx + 1)) (.slice ar s.rv.length cr) (.slice x9 y9 z9)
      have zl := rowaw yl (fun e => row_apart yl F2x (by decide) (w.heap.size + 1) e rfl) (.slice (some ⟨g5, 0, none⟩) s.ws.length cw) (.int .i64 (s.nx + 1)) (.slice ar s.rv.length cr) (.slice x9 y9 z9)
      have hME := (((hMX.fresh (p := ⟨w.heap.size + 1, 0, none⟩) (by simp) (.slice (some ⟨g5, 0, none⟩) s.ws.length cw)).fresh (p := ⟨w.heap.size + 1, 1, none⟩) (by simp) (.int .i64 (s.nx + 1))).fresh (p := ⟨w.heap.size + 1, 2, none⟩) (by simp) (.slice ar s.rv.length cr)).fresh (p := ⟨w.heap.size + 1, 3, none⟩) (by simp) (.slice x9 y9 z9)
      go_wp2_with fail
      clear r0 r1 r2 r3 f0 f1 f2 f3 c0 c1 c2 c3
      generalize (((W9.setCell ⟨w.heap.size + 1, 0, none⟩ (.slice (some ⟨g5, 0, none⟩) s.ws.length cw)).setCell ⟨w.heap.size + 1, 1, none⟩ (.int .i64 (s.nx + 1))).setCell ⟨w.heap.size + 1, 2, none⟩ (.slice ar s.rv.length cr)).setCell ⟨w.heap.size + 1, 3, none⟩ (.slice x9 y9 z9) = W10 at *
      obtain ⟨d0, d1, d2, d3⟩ := G.c
      exact bodyPost_ret (v := .agg #[.slice (some ⟨g5, 0, none⟩) s.ws.length cw, .int .i64 (s.nx + 1), .slice ar s.rv.length cr, .slice x9 y9 z9]) (by simp [results, Tryz.results25, go_sem, d0, d1, d2, d3]) rfl ⟨_, rfl, by rw [HS.out]; exact IsO.of (s := ⟨s.ws.set n wk, s.nx + 1, s.rv, s.sg ++ [tkT ks]⟩) (by simpa using z1) z2' (by simpa [strs] using z3'), zl, hME⟩
    · go_simp
      skip
      refine hK.out _ _ ?_ (fun hHeld => ?_)
      · trivial
      clear hK K
      try simp only [Act.put, List.setIfInBounds_toArray, List.set_cons_zero, List.set_cons_succ]
      clear c0 c1 c2 c3
      obtain ⟨c0, c1, c2, c3⟩ := FB8.c
      refine takeC 1 (by kernel_rfl) rfl (fun K hK => ?_)
      go_simp
      skip
      refine hK.out _ _ ?_ (fun hHeld => ?_)
      · trivial
      clear hK K
      try simp only [Act.put, List.setIfInBounds_toArray, List.set_cons_zero, List.set_cons_succ]
      clear c0 c1 c2 c3
      refine takeC 5 (by kernel_rfl) rfl (fun K hK => ?_)
      refine step_append3 rfl _ _ 25 rfl base 9 iS _ 1 16 Tryz.underlying25 hiS hs0 hs1 hs2 rfl (by decide) (.slice ag s.sg.length cg) s.sg.length (strs s.sg) rfl (qo3.alloc _) ⟨w7.heap.size, 0, none⟩ 1 1 [.string (tkT ks)] rfl rfl (cell_one_new _ _ _) (by intro u hu; simp at hu; subst hu; rfl) (by unfold maxLen; omega) (by omega) (by simp; have := (qo1.lt g5 rfl).2; omega) ?_; intro v9 w9 o9 g9; obtain ⟨x9, y9, z9, rfl⟩ := row_slice o9; have u1 := kept_apart (ownsRow_below qo1 hBs) g9 (row_apart qo1 qo3 (by decide)); have u2 := kept_apart (ownsRow_below qo2 hBs) g9 (row_apart qo2 qo3 (by decide)); have ul := kept_apart (ownsRow_below qol hBs) g9 (row_apart qol qo3 (by decide)); have F19 : Four w9 _ _ _ _ _ _ := kept_apart FB8 g9 (row_apart FB7 qo3 (by decide)); have F29 : Four w9 _ _ _ _ _ _ := kept_apart (qF2.below hBs) g9 (row_apart qF2 qo3 (by decide)); have hM9 := ((hM.trans (Mid.of_below hB7)).trans (Mid.of_below hBs)).trans (Mid.of_grown (lo := base) (hi := top) g9 (fun k e => ⟨(qo3.lt k e).1, t3 k e⟩))
      refine hK.out _ _ ?_ (fun hHeld => ?_)
      · trivial
      clear hK K
      try simp only [Act.put, List.setIfInBounds_toArray, List.set_cons_zero, List.set_cons_succ]
      obtain ⟨c0, c1, c2, c3⟩ := F19.c
      have cf := F19.f 3
      have FX := F19.s3 (.slice x9 y9 z9)
      have F2x := F29.other (k' := w.heap.size) hd5 3 (.slice x9 y9 z9)
      have y1 := ownsRow_setCell_other u1 (a := ⟨w.heap.size, 3, none⟩) (by simp [Value.ownBlock]; exact hd2) (.slice x9 y9 z9)
      have y2 := ownsRow_setCell_other u2 (a := ⟨w.heap.size, 3, none⟩) (fun e => row_apart u2 F19 (by decide) w.heap.size e rfl) (.slice x9 y9 z9)
      have y3 := ownsRow_setCell_other o9 (a := ⟨w.heap.size, 3, none⟩) (fun e => row_apart o9 F19 (by decide) w.heap.size e rfl) (.slice x9 y9 z9)
      have yl := ownsRow_setCell_other ul (a := ⟨w.heap.size, 3, none⟩) (by simp [Value.ownBlock]; exact hd7) (.slice x9 y9 z9)
      have hMX := hM9.fresh (p := ⟨w.heap.size, 3, none⟩) (Nat.le_refl _) (.slice x9 y9 z9)
      refine takeW 6 (v := ?v18) rfl (by kernel_rfl) (by kernel_rfl) (by kernel_rfl) (fun _ _ _ h => h) (by rfl) (by assumption) ?hy18 ?rest18
      case hy18 => intro w' hSw; (try dsimp only at hSw); go_simp; try with_reducible rfl
      try simp only [Act.put, List.setIfInBounds_toArray, List.set_cons_zero, List.set_cons_succ]
      refine takeC 7 (by kernel_rfl) rfl (fun K hK => ?_)
      go_simp
      skip
      refine hK.out _ _ ?_ (fun hHeld => ?_)
      · trivial
      clear hK K
      try simp only [Act.put, List.setIfInBounds_toArray, List.set_cons_zero, List.set_cons_succ]
      refine wpAnyH_done (by kernel_rfl) ?_ _
      clear c0 c1 c2 c3 cf hHeld FB8 F19 F29 u1 u2 ul o9 g9 qo1 qo2 qo3 qol FB7 qF2 F1 F2 o1 o2 o3 ol hM hB7 hBs hM9
      generalize w9.setCell ⟨w.heap.size, 3, none⟩ (.slice x9 y9 z9) = W9 at *
      obtain ⟨c0, c1, c2, c3⟩ := FX.c
      obtain ⟨r0, r1, r2, r3⟩ := F2x.c
      have f0 := F2x.f 0
      have f1 := F2x.f 1
      have f2 := F2x.f 2
      have f3 := F2x.f 3
      have G := (((F2x.s0 (.slice (some ⟨g5, 0, none⟩) s.ws.length cw)).s1 (.int .i64 (s.nx + 1))).s2 (.slice ar s.rv.length cr)).s3 (.slice x9 y9 z9)
      have z1 := rowaw y1 (fun e => row_apart y1 F2x (by decide) (w.heap.size + 1) e rfl) (.slice (some ⟨g5, 0, none⟩) s.ws.length cw) (.int .i64 (s.nx + 1)) (.slice ar s.rv.length cr) (.slice x9 y9 z9)
      have z2' := rowaw y2 (fun e => row_apart y2 F2x (by decide) (w.heap.size + 1) e rfl) (.slice (some ⟨g5, 0, none⟩) s.ws.length cw) (.int .i64 (s.nx + 1)) (.slice ar s.rv.length cr) (.slice x9 y9 z9)
      have z3' := rowaw y3 (fun e => row_apart y3 F2x (by decide) (w.heap.size + 1) e rfl) (.slice (some ⟨g5, 0, none⟩) s.ws.length cw) (.int .i64 (s.nx + 1)) (.slice ar s.rv.length cr) (.slice x9 y9 z9)
      have zl := rowaw yl (fun e => row_apart yl F2x (by decide) (w.heap.size + 1) e rfl) (.slice (some ⟨g5, 0, none⟩) s.ws.length cw) (.int .i64 (s.nx + 1)) (.slice ar s.rv.length cr) (.slice x9 y9 z9)
      have hME := (((hMX.fresh (p := ⟨w.heap.size + 1, 0, none⟩) (by simp) (.slice (some ⟨g5, 0, none⟩) s.ws.length cw)).fresh (p := ⟨w.heap.size + 1, 1, none⟩) (by simp) (.int .i64 (s.nx + 1))).fresh (p := ⟨w.heap.size + 1, 2, none⟩) (by simp) (.slice ar s.rv.length cr)).fresh (p := ⟨w.heap.size + 1, 3, none⟩) (by simp) (.slice x9 y9 z9)
      go_wp2_with fail
      clear r0 r1 r2 r3 f0 f1 f2 f3 c0 c1 c2 c3
      generalize (((W9.setCell ⟨w.heap.size + 1, 0, none⟩ (.slice (some ⟨g5, 0, none⟩) s.ws.length cw)).setCell ⟨w.heap.size + 1, 1, none⟩ (.int .i64 (s.nx + 1))).setCell ⟨w.heap.size + 1, 2, none⟩ (.slice ar s.rv.length cr)).setCell ⟨w.heap.size + 1, 3, none⟩ (.slice x9 y9 z9) = W10 at *
      obtain ⟨d0, d1, d2, d3⟩ := G.c
      exact bodyPost_ret (v := .agg #[.slice (some ⟨g5, 0, none⟩) s.ws.length cw, .int .i64 (s.nx + 1), .slice ar s.rv.length cr, .slice x9 y9 z9]) (by simp [results, Tryz.results25, go_sem, d0, d1, d2, d3]) rfl ⟨_, rfl, by rw [HS.out]; exact IsO.of (s := ⟨s.ws.set n wk, s.nx + 1, s.rv, s.sg ++ [tkT ks]⟩) (by simpa using z1) z2' (by simpa [strs] using z3'), zl, hME⟩

end Go.Proofs.YtallpldgkkpikaaGreatDoor
