/-
  Chapter 4: EnrolWork, by the program.
-/
import Derived.Test.YtfchmhcnejifhaaDoorTake
import Derived.Test.YtfchmhcnejifhaaDoorIssB
import Derived.Test.YtfchmhcnejifhaaDoorIssE
import Derived.Test.YtfchmhcnejifhaaDoorInsW
namespace Go.Proofs.YtfchmhcnejifhaaDoor
open Go.RowKit Go.Shelf

theorem none_o (w : World) (base top : Nat) : IsO w base top (.agg #[.slice none 0 0, .int .i64 0, .slice none 0 0, .slice none 0 0]) Is.none :=
  ⟨_, _, _, rfl, World.ownsRow_nil _ _ _ _, World.ownsRow_nil _ _ _ _, World.ownsRow_nil _ _ _ _, fun _ h => by simp [Value.ownBlock] at h, fun _ h => by simp [Value.ownBlock] at h, fun _ h => by simp [Value.ownBlock] at h⟩
theorem row_cast {w : World} {base : Nat} {e : TypeId} {size n m : Nat} {v : Value} {xs : List Value} (h : w.ownsRow base e size v n xs) (hm : n = m) : w.ownsRow base e size v m xs := by
  subst hm
  exact h
theorem wflat_set : ∀ (ws : List Wk) (n : Nat) (k : Wk), n < ws.length → (((ws.flatMap Wk.cells).set (n * 3) (.string k.name)).set (n * 3 + 1) (.bool k.live)).set (n * 3 + 2) (.int .i64 k.se) = (ws.set n k).flatMap Wk.cells
  | [], n, k, h => by simp at h
  | x :: ws, 0, k, _ => rfl
  | x :: ws, n + 1, k, h => by
    have ih := wflat_set ws n k (by simpa using h)
    rw [List.set_cons_succ, List.flatMap_cons, List.flatMap_cons, ← ih, show (n + 1) * 3 = n * 3 + 3 by omega]
    rfl
theorem wflat_take : ∀ (ys : List Wk) (k : Nat), (ys.flatMap Wk.cells).take (k * 3) = (ys.take k).flatMap Wk.cells
  | [], k => by simp
  | y :: ys, 0 => by simp
  | y :: ys, k + 1 => by
    rw [List.flatMap_cons, List.take_succ_cons, List.flatMap_cons, ← wflat_take ys k, show (k + 1) * 3 = k * 3 + 3 by omega]
    rfl
theorem wflat_drop : ∀ (ys : List Wk) (k : Nat), (ys.flatMap Wk.cells).drop (k * 3) = (ys.drop k).flatMap Wk.cells
  | [], k => by simp
  | y :: ys, 0 => by simp
  | y :: ys, k + 1 => by
    rw [List.flatMap_cons, List.drop_succ_cons, ← wflat_drop ys k, show (k + 1) * 3 = k * 3 + 3 by omega]
    rfl
theorem wflat_put (ws : List Wk) (n : Nat) (x k : Wk) (h : n ≤ ws.length) : ((((ws.flatMap Wk.cells).take (n * 3) ++ x.cells ++ (ws.flatMap Wk.cells).drop (n * 3)).set (n * 3) (.string k.name)).set (n * 3 + 1) (.bool k.live)).set (n * 3 + 2) (.int .i64 k.se) = (ws.take n ++ k :: ws.drop n).flatMap Wk.cells := by
  have e : (ws.flatMap Wk.cells).take (n * 3) ++ x.cells ++ (ws.flatMap Wk.cells).drop (n * 3) = (ws.take n ++ x :: ws.drop n).flatMap Wk.cells := by
    rw [wflat_take, wflat_drop]
    simp
  rw [e, wflat_set _ n k (by simp; omega)]
  congr 1
  rw [List.set_append_right _ _ (by rw [List.length_take]; omega), List.length_take, Nat.min_eq_left h, Nat.sub_self]
  rfl
theorem en_bad {s : Is} {n : ByteArray} (h : enE s n = .bad) : enX s n = (Is.none, 1) := by
  unfold enE at h
  unfold enX
  split at h
  · rename_i hb
    rw [if_pos hb]
  · split at h
    · cases h
    · split at h
      · cases h
      · split at h <;> cases h
theorem en_twice {s : Is} {n : ByteArray} (h : enE s n = .twice) : enX s n = (s, 2) := by
  unfold enE at h
  unfold enX
  split at h
  · cases h
  · rename_i h1
    rw [if_neg h1]
    split at h
    · rename_i h2
      rw [if_pos h2]
    · split at h
      · cases h
      · split at h <;> cases h
theorem en_full {s : Is} {n : ByteArray} (h : enE s n = .full) : enX s n = (s, 4) := by
  unfold enE at h
  unfold enX
  split at h
  · cases h
  · rename_i h1
    rw [if_neg h1]
    split at h
    · cases h
    · rename_i h2
      rw [if_neg h2]
      split at h
      · cases h
      · rename_i h3
        rw [if_neg h3]
        split at h
        · rename_i h4
          rw [if_pos h4]
        · cases h
theorem en_nil {s : Is} {n : ByteArray} (h : enE s n = .nil) : isB s = true ∧ (hasW s.ws n = true → enX s n = (⟨s.ws.set (atW s.ws n) ⟨n, true, 0⟩, s.nx, s.rv, s.sg⟩, 0)) ∧ (hasW s.ws n = false → s.ws.length < 20 ∧ enX s n = (⟨s.ws.take (atW s.ws n) ++ ⟨n, true, 0⟩ :: s.ws.drop (atW s.ws n), s.nx, s.rv, s.sg⟩, 0)) := by
  unfold enE at h
  unfold enX
  split at h
  · cases h
  · rename_i h1
    have hb : isB s = true := by
      cases hb : isB s
      · rw [hb] at h1
        exact absurd rfl h1
      · rfl
    split at h
    · cases h
    · rename_i h2
      refine ⟨hb, fun h3 => by rw [if_neg h1, if_neg h2, if_pos h3], fun h3 => ?_⟩
      rw [h3] at h
      simp at h
      have h4 : ¬ s.ws.length = 20 := h
      have := (isB_hd hb).1
      exact ⟨by omega, by rw [if_neg h1, if_neg h2, if_neg (by rw [h3]; decide), if_neg h4]⟩

set_option maxHeartbeats 8000000 in
set_option maxRecDepth 100000 in
theorem implEnrol_any (v : Value) (s : Is) (name : ByteArray) (p0 p1 p2 p3 : Addr) (base top : Nat) (w : World) (hs : s.short) (hn : s.named) (hm : name.size ≤ 1048576) (hE : ErA w p0 p1 p2 p3) (h : IsO w base top v s) :
    Calls Tryd.prog 8 #[v, .string name] w fun e w' => ∃ v', e = .returned (.tuple #[v', .int .i64 (enX s name).2]) ∧ IsO w' w.heap.size w'.heap.size v' (enX s name).1 ∧ Below w.heap.size w w' := by
  obtain ⟨aw, cw, ar, cr, ag, cg, rfl⟩ := is_forms h.a
  have hB0 : Below w.heap.size w ((w.alloc (.cells #[.slice aw s.ws.length cw, .int .i64 s.nx, .slice ar s.rv.length cr, .slice ag s.sg.length cg] 30)).alloc (.cells #[.slice none 0 0, .int .i64 0, .slice none 0 0, .slice none 0 0] 30)) := ((Below.refl _ w).alloc (Nat.le_refl _) _).alloc (by simp) _
  have F1 := (Four.new w (.slice aw s.ws.length cw) (.int .i64 s.nx) (.slice ar s.rv.length cr) (.slice ag s.sg.length cg) 30).below ((Below.refl _ _).alloc (Nat.le_refl _) (.cells #[.slice none 0 0, .int .i64 0, .slice none 0 0, .slice none 0 0] 30))
  have F2 := Four.at (w.alloc (.cells #[.slice aw s.ws.length cw, .int .i64 s.nx, .slice ar s.rv.length cr, .slice ag s.sg.length cg] 30)) (.slice none 0 0) (.int .i64 0) (.slice none 0 0) (.slice none 0 0) 30 (k := w.heap.size + 1) (by simp)
  go_enter Tryd.func8, Tryd.ntmps8
  go_wp2_with fail
  generalize (w.alloc (.cells #[.slice aw s.ws.length cw, .int .i64 s.nx, .slice ar s.rv.length cr, .slice ag s.sg.length cg] 30)).alloc (.cells #[.slice none 0 0, .int .i64 0, .slice none 0 0, .slice none 0 0] 30) = Wz at *
  refine (mayEnrol_any _ s name p0 p1 p2 p3 _ hs hn hm (hE.below hB0) (h.a.below hB0)).mono ?_
  rintro e w1 ⟨rfl, hB1⟩
  replace F1 := F1.below hB1
  replace F2 := F2.below hB1
  have hBB1 := below_one hB0 hB1
  have hk0 : w.heap.size + 1 < w1.heap.size := F2.lt
  clear hB0 hB1
  obtain ⟨a0, a1, a2, a3⟩ := F1.c
  have E1 := hE.below hBB1
  have O1 := h.below hBB1
  cases he : enE s name with
  | noWork =>
    exfalso
    unfold enE at he
    split at he
    · cases he
    · split at he
      · cases he
      · split at he
        · cases he
        · split at he <;> cases he
  | bad =>
    have HR := hid (en_bad he)
    clear he
    go_wp2_with fail
    refine (beside_bad _ s p0 p0 p1 p2 p3 base top _ E1 O1).mono ?_
    rintro e w2 ⟨rfl, hB2⟩
    have hBa : Below w2.heap.size w2 (w2.alloc (.cells #[(.slice none 0 0), (.int .i64 0), (.slice none 0 0), (.slice none 0 0)] 30)) := (Below.refl _ w2).alloc (Nat.le_refl _) _
    have FA := Four.new w2 (.slice none 0 0) (.int .i64 0) (.slice none 0 0) (.slice none 0 0) 30
    replace F2 := (F2.below hB2).below hBa
    have hBB3 := below_two hBB1 hB2 hBa
    have hkn : w2.heap.size ≠ w.heap.size + 1 := fun hh => by have := hB2.size; omega
    have E3 := hE.below hBB3
    go_wp2_with fail
    generalize w2.alloc (.cells #[(.slice none 0 0), (.int .i64 0), (.slice none 0 0), (.slice none 0 0)] 30) = W3 at *
    generalize w2.heap.size = k2 at *
    obtain ⟨c0, c1, c2, c3⟩ := FA.c
    refine wp_region_held_drew (S := fun w' => w'.cell? ⟨k2, 0, none⟩ = some (.slice none 0 0) ∧ w'.cell? ⟨k2, 1, none⟩ = some (.int .i64 0) ∧ w'.cell? ⟨k2, 2, none⟩ = some (.slice none 0 0) ∧ w'.cell? ⟨k2, 3, none⟩ = some (.slice none 0 0)) (by kernel_rfl) ?_ (fun hHeld => ?_)
    · first | go_keep | exact (((((FA.below (below_drew1 hB4)).other hkn 0 _).other hkn 1 _).other hkn 2 _).other hkn 3 _).c
    refine takeW 0 (v := ?v1) rfl (by kernel_rfl) (by kernel_rfl) (by kernel_rfl) (fun _ _ _ h => h) (by rfl) (by assumption) ?hy1 ?rest1
    case hy1 => intro w' hSw; (try dsimp only at hSw); go_simp; try with_reducible rfl
    try simp only [Act.put, List.setIfInBounds_toArray, List.set_cons_zero, List.set_cons_succ]
    refine takeW 1 (v := ?v2) rfl (by kernel_rfl) (by kernel_rfl) (by kernel_rfl) (fun _ _ _ h => h) (by rfl) (by assumption) ?hy2 ?rest2
    case hy2 => intro w' hSw; (try dsimp only at hSw); go_simp; try with_reducible rfl
    try simp only [Act.put, List.setIfInBounds_toArray, List.set_cons_zero, List.set_cons_succ]
    refine takeC 2 (by kernel_rfl) rfl (fun K hK => ?_)
    go_simp
    refine (codeOf_any .bad p0 p1 p2 p3 _ (fun hh => by cases hh) (by exact E3.below (Below.refl _ _).drew)).mono ?_; rintro e w4 ⟨rfl, hB4⟩; have hc4 := fun o => hB4.cell (p := ⟨k2, o, none⟩) (by exact FA.lt); have G2 : Four w4 _ _ _ _ _ _ := F2.below (below_drew1 hB4); have hBB4 := below_one hBB3 (below_drew1 hB4); obtain ⟨r0, r1, r2, r3⟩ := G2.c; have f0 := G2.f 0; have f1 := G2.f 1; have f2 := G2.f 2; have f3 := G2.f 3
    refine hK.out _ _ ?_ (fun hHeld => ?_)
    · first | go_keep | exact (((((FA.below (below_drew1 hB4)).other hkn 0 _).other hkn 1 _).other hkn 2 _).other hkn 3 _).c
    clear hK K
    try simp only [Act.put, List.setIfInBounds_toArray, List.set_cons_zero, List.set_cons_succ]
    refine takeC 3 (by kernel_rfl) rfl (fun K hK => ?_)
    go_simp
    skip
    refine hK.out _ _ ?_ (fun hHeld => ?_)
    · first | go_keep | exact (((((FA.below (below_drew1 hB4)).other hkn 0 _).other hkn 1 _).other hkn 2 _).other hkn 3 _).c
    clear hK K
    try simp only [Act.put, List.setIfInBounds_toArray, List.set_cons_zero, List.set_cons_succ]
    refine takeW 4 (v := ?v3) rfl (by kernel_rfl) (by kernel_rfl) (by kernel_rfl) (fun _ _ _ h => h) (by rfl) (by assumption) ?hy3 ?rest3
    case hy3 => intro w' hSw; (try dsimp only at hSw); go_simp; try with_reducible rfl
    try simp only [Act.put, List.setIfInBounds_toArray, List.set_cons_zero, List.set_cons_succ]
    refine wpAnyH_done (by kernel_rfl) ?_ _
    have G := (((G2.s0 (.slice none 0 0)).s1 (.int .i64 0)).s2 (.slice none 0 0)).s3 (.slice none 0 0)
    have pB := below_four hBB4 (k := w.heap.size + 1) (by omega) (.slice none 0 0) (.int .i64 0) (.slice none 0 0) (.slice none 0 0)
    have HI := none_o ((((w4.setCell ⟨w.heap.size + 1, 0, none⟩ (.slice none 0 0)).setCell ⟨w.heap.size + 1, 1, none⟩ (.int .i64 0)).setCell ⟨w.heap.size + 1, 2, none⟩ (.slice none 0 0)).setCell ⟨w.heap.size + 1, 3, none⟩ (.slice none 0 0)) w.heap.size ((((w4.setCell ⟨w.heap.size + 1, 0, none⟩ (.slice none 0 0)).setCell ⟨w.heap.size + 1, 1, none⟩ (.int .i64 0)).setCell ⟨w.heap.size + 1, 2, none⟩ (.slice none 0 0)).setCell ⟨w.heap.size + 1, 3, none⟩ (.slice none 0 0)).heap.size
    go_wp2_with fail
    clear r0 r1 r2 r3 f0 f1 f2 f3 hHeld hc4
    generalize (((w4.setCell ⟨w.heap.size + 1, 0, none⟩ (.slice none 0 0)).setCell ⟨w.heap.size + 1, 1, none⟩ (.int .i64 0)).setCell ⟨w.heap.size + 1, 2, none⟩ (.slice none 0 0)).setCell ⟨w.heap.size + 1, 3, none⟩ (.slice none 0 0) = W5 at *
    obtain ⟨d0, d1, d2, d3⟩ := G.c
    exact bodyPost_ret (v := .tuple #[.agg #[(.slice none 0 0), (.int .i64 0), (.slice none 0 0), (.slice none 0 0)], .int .i64 1]) (by simp [results, Tryd.results8, go_sem, d0, d1, d2, d3, Er.code]) rfl ⟨_, by rw [HR.out], by rw [HR.out]; exact HI, pB⟩
  | twice =>
    have HR := hid (en_twice he)
    clear he
    go_wp2_with fail
    refine (beside_ref _ s p1 p0 p1 p2 p3 base top _ hs E1 O1).mono ?_
    rintro e w2 ⟨v2, rfl, ⟨vw, vr, vs, rfl, o1, o2, o3, _, _, _⟩, hB2⟩
    obtain ⟨x2, y2, z2, rfl⟩ := row_slice o1
    obtain ⟨x3, y3, z3, rfl⟩ := row_slice o2
    obtain ⟨x4, y4, z4, rfl⟩ := row_slice o3
    have hk1 : w.heap.size + 1 < w1.heap.size := F2.lt
    have hBs := hBB1.size
    have hlo : ∀ k, (Value.slice x2 y2 z2).ownBlock = some k → k < w2.heap.size := fun k e => (o1.lt k e).2
    have hBa : Below w2.heap.size w2 (w2.alloc (.cells #[(.slice x2 y2 z2), (.int .i64 s.nx), (.slice x3 y3 z3), (.slice x4 y4 z4)] 30)) := (Below.refl _ w2).alloc (Nat.le_refl _) _
    have FA := Four.new w2 (.slice x2 y2 z2) (.int .i64 s.nx) (.slice x3 y3 z3) (.slice x4 y4 z4) 30
    replace F2 := (F2.below hB2).below hBa
    have hBB3 := below_two hBB1 hB2 hBa
    have hkn : w2.heap.size ≠ w.heap.size + 1 := fun hh => by have := hB2.size; omega
    have E3 := hE.below hBB3
    replace o1 := ownsRow_below o1 hBa
    replace o2 := ownsRow_below o2 hBa
    replace o3 := ownsRow_below o3 hBa
    go_wp2_with fail
    generalize w2.alloc (.cells #[(.slice x2 y2 z2), (.int .i64 s.nx), (.slice x3 y3 z3), (.slice x4 y4 z4)] 30) = W3 at *
    generalize w2.heap.size = k2 at *
    obtain ⟨c0, c1, c2, c3⟩ := FA.c
    refine wp_region_held_drew (S := fun w' => w'.cell? ⟨k2, 0, none⟩ = some (.slice x2 y2 z2) ∧ w'.cell? ⟨k2, 1, none⟩ = some (.int .i64 s.nx) ∧ w'.cell? ⟨k2, 2, none⟩ = some (.slice x3 y3 z3) ∧ w'.cell? ⟨k2, 3, none⟩ = some (.slice x4 y4 z4)) (by kernel_rfl) ?_ (fun hHeld => ?_)
    · first | go_keep | exact (((((FA.below (below_drew1 hB4)).other hkn 0 _).other hkn 1 _).other hkn 2 _).other hkn 3 _).c
    refine takeW 0 (v := ?v4) rfl (by kernel_rfl) (by kernel_rfl) (by kernel_rfl) (fun _ _ _ h => h) (by rfl) (by assumption) ?hy4 ?rest4
    case hy4 => intro w' hSw; (try dsimp only at hSw); go_simp; try with_reducible rfl
    try simp only [Act.put, List.setIfInBounds_toArray, List.set_cons_zero, List.set_cons_succ]
    refine takeW 1 (v := ?v5) rfl (by kernel_rfl) (by kernel_rfl) (by kernel_rfl) (fun _ _ _ h => h) (by rfl) (by assumption) ?hy5 ?rest5
    case hy5 => intro w' hSw; (try dsimp only at hSw); go_simp; try with_reducible rfl
    try simp only [Act.put, List.setIfInBounds_toArray, List.set_cons_zero, List.set_cons_succ]
    refine takeC 2 (by kernel_rfl) rfl (fun K hK => ?_)
    go_simp
    refine (codeOf_any .twice p0 p1 p2 p3 _ (fun hh => by cases hh) (by exact E3.below (Below.refl _ _).drew)).mono ?_; rintro e w4 ⟨rfl, hB4⟩; have hc4 := fun o => hB4.cell (p := ⟨k2, o, none⟩) (by exact FA.lt); have G2 : Four w4 _ _ _ _ _ _ := F2.below (below_drew1 hB4); have hBB4 := below_one hBB3 (below_drew1 hB4); obtain ⟨r0, r1, r2, r3⟩ := G2.c; have f0 := G2.f 0; have f1 := G2.f 1; have f2 := G2.f 2; have f3 := G2.f 3
    refine hK.out _ _ ?_ (fun hHeld => ?_)
    · first | go_keep | exact (((((FA.below (below_drew1 hB4)).other hkn 0 _).other hkn 1 _).other hkn 2 _).other hkn 3 _).c
    clear hK K
    try simp only [Act.put, List.setIfInBounds_toArray, List.set_cons_zero, List.set_cons_succ]
    refine takeC 3 (by kernel_rfl) rfl (fun K hK => ?_)
    go_simp
    skip
    refine hK.out _ _ ?_ (fun hHeld => ?_)
    · first | go_keep | exact (((((FA.below (below_drew1 hB4)).other hkn 0 _).other hkn 1 _).other hkn 2 _).other hkn 3 _).c
    clear hK K
    try simp only [Act.put, List.setIfInBounds_toArray, List.set_cons_zero, List.set_cons_succ]
    refine takeW 4 (v := ?v6) rfl (by kernel_rfl) (by kernel_rfl) (by kernel_rfl) (fun _ _ _ h => h) (by rfl) (by assumption) ?hy6 ?rest6
    case hy6 => intro w' hSw; (try dsimp only at hSw); go_simp; try with_reducible rfl
    try simp only [Act.put, List.setIfInBounds_toArray, List.set_cons_zero, List.set_cons_succ]
    refine wpAnyH_done (by kernel_rfl) ?_ _
    have G := (((G2.s0 (.slice x2 y2 z2)).s1 (.int .i64 s.nx)).s2 (.slice x3 y3 z3)).s3 (.slice x4 y4 z4)
    have pB := below_four hBB4 (k := w.heap.size + 1) (by omega) (.slice x2 y2 z2) (.int .i64 s.nx) (.slice x3 y3 z3) (.slice x4 y4 z4)
    have q1 := row_four (ownsRow_below o1 (below_drew1 hB4)) (k := w.heap.size + 1) hk1 (.slice x2 y2 z2) (.int .i64 s.nx) (.slice x3 y3 z3) (.slice x4 y4 z4)
    have q2 := row_four (ownsRow_below o2 (below_drew1 hB4)) (k := w.heap.size + 1) hk1 (.slice x2 y2 z2) (.int .i64 s.nx) (.slice x3 y3 z3) (.slice x4 y4 z4)
    have q3 := row_four (ownsRow_below o3 (below_drew1 hB4)) (k := w.heap.size + 1) hk1 (.slice x2 y2 z2) (.int .i64 s.nx) (.slice x3 y3 z3) (.slice x4 y4 z4)
    have HI := IsO.of (s := s) (Go.Joins.ownsRow_le q1 hBs) (Go.Joins.ownsRow_le q2 hBs) (Go.Joins.ownsRow_le q3 hBs)
    go_wp2_with fail
    clear r0 r1 r2 r3 f0 f1 f2 f3 hHeld hc4
    generalize (((w4.setCell ⟨w.heap.size + 1, 0, none⟩ (.slice x2 y2 z2)).setCell ⟨w.heap.size + 1, 1, none⟩ (.int .i64 s.nx)).setCell ⟨w.heap.size + 1, 2, none⟩ (.slice x3 y3 z3)).setCell ⟨w.heap.size + 1, 3, none⟩ (.slice x4 y4 z4) = W5 at *
    obtain ⟨d0, d1, d2, d3⟩ := G.c
    exact bodyPost_ret (v := .tuple #[.agg #[(.slice x2 y2 z2), (.int .i64 s.nx), (.slice x3 y3 z3), (.slice x4 y4 z4)], .int .i64 2]) (by simp [results, Tryd.results8, go_sem, d0, d1, d2, d3, Er.code]) rfl ⟨_, by rw [HR.out], by rw [HR.out]; exact HI, pB⟩
  | full =>
    have HR := hid (en_full he)
    clear he
    go_wp2_with fail
    refine (beside_ref _ s p2 p0 p1 p2 p3 base top _ hs E1 O1).mono ?_
    rintro e w2 ⟨v2, rfl, ⟨vw, vr, vs, rfl, o1, o2, o3, _, _, _⟩, hB2⟩
    obtain ⟨x2, y2, z2, rfl⟩ := row_slice o1
    obtain ⟨x3, y3, z3, rfl⟩ := row_slice o2
    obtain ⟨x4, y4, z4, rfl⟩ := row_slice o3
    have hk1 : w.heap.size + 1 < w1.heap.size := F2.lt
    have hBs := hBB1.size
    have hlo : ∀ k, (Value.slice x2 y2 z2).ownBlock = some k → k < w2.heap.size := fun k e => (o1.lt k e).2
    have hBa : Below w2.heap.size w2 (w2.alloc (.cells #[(.slice x2 y2 z2), (.int .i64 s.nx), (.slice x3 y3 z3), (.slice x4 y4 z4)] 30)) := (Below.refl _ w2).alloc (Nat.le_refl _) _
    have FA := Four.new w2 (.slice x2 y2 z2) (.int .i64 s.nx) (.slice x3 y3 z3) (.slice x4 y4 z4) 30
    replace F2 := (F2.below hB2).below hBa
    have hBB3 := below_two hBB1 hB2 hBa
    have hkn : w2.heap.size ≠ w.heap.size + 1 := fun hh => by have := hB2.size; omega
    have E3 := hE.below hBB3
    replace o1 := ownsRow_below o1 hBa
    replace o2 := ownsRow_below o2 hBa
    replace o3 := ownsRow_below o3 hBa
    go_wp2_with fail
    generalize w2.alloc (.cells #[(.slice x2 y2 z2), (.int .i64 s.nx), (.slice x3 y3 z3), (.slice x4 y4 z4)] 30) = W3 at *
    generalize w2.heap.size = k2 at *
    obtain ⟨c0, c1, c2, c3⟩ := FA.c
    refine wp_region_held_drew (S := fun w' => w'.cell? ⟨k2, 0, none⟩ = some (.slice x2 y2 z2) ∧ w'.cell? ⟨k2, 1, none⟩ = some (.int .i64 s.nx) ∧ w'.cell? ⟨k2, 2, none⟩ = some (.slice x3 y3 z3) ∧ w'.cell? ⟨k2, 3, none⟩ = some (.slice x4 y4 z4)) (by kernel_rfl) ?_ (fun hHeld => ?_)
    · first | go_keep | exact (((((FA.below (below_drew1 hB4)).other hkn 0 _).other hkn 1 _).other hkn 2 _).other hkn 3 _).c
    refine takeW 0 (v := ?v7) rfl (by kernel_rfl) (by kernel_rfl) (by kernel_rfl) (fun _ _ _ h => h) (by rfl) (by assumption) ?hy7 ?rest7
    case hy7 => intro w' hSw; (try dsimp only at hSw); go_simp; try with_reducible rfl
    try simp only [Act.put, List.setIfInBounds_toArray, List.set_cons_zero, List.set_cons_succ]
    refine takeW 1 (v := ?v8) rfl (by kernel_rfl) (by kernel_rfl) (by kernel_rfl) (fun _ _ _ h => h) (by rfl) (by assumption) ?hy8 ?rest8
    case hy8 => intro w' hSw; (try dsimp only at hSw); go_simp; try with_reducible rfl
    try simp only [Act.put, List.setIfInBounds_toArray, List.set_cons_zero, List.set_cons_succ]
    refine takeC 2 (by kernel_rfl) rfl (fun K hK => ?_)
    go_simp
    refine (codeOf_any .full p0 p1 p2 p3 _ (fun hh => by cases hh) (by exact E3.below (Below.refl _ _).drew)).mono ?_; rintro e w4 ⟨rfl, hB4⟩; have hc4 := fun o => hB4.cell (p := ⟨k2, o, none⟩) (by exact FA.lt); have G2 : Four w4 _ _ _ _ _ _ := F2.below (below_drew1 hB4); have hBB4 := below_one hBB3 (below_drew1 hB4); obtain ⟨r0, r1, r2, r3⟩ := G2.c; have f0 := G2.f 0; have f1 := G2.f 1; have f2 := G2.f 2; have f3 := G2.f 3
    refine hK.out _ _ ?_ (fun hHeld => ?_)
    · first | go_keep | exact (((((FA.below (below_drew1 hB4)).other hkn 0 _).other hkn 1 _).other hkn 2 _).other hkn 3 _).c
    clear hK K
    try simp only [Act.put, List.setIfInBounds_toArray, List.set_cons_zero, List.set_cons_succ]
    refine takeC 3 (by kernel_rfl) rfl (fun K hK => ?_)
    go_simp
    skip
    refine hK.out _ _ ?_ (fun hHeld => ?_)
    · first | go_keep | exact (((((FA.below (below_drew1 hB4)).other hkn 0 _).other hkn 1 _).other hkn 2 _).other hkn 3 _).c
    clear hK K
    try simp only [Act.put, List.setIfInBounds_toArray, List.set_cons_zero, List.set_cons_succ]
    refine takeW 4 (v := ?v9) rfl (by kernel_rfl) (by kernel_rfl) (by kernel_rfl) (fun _ _ _ h => h) (by rfl) (by assumption) ?hy9 ?rest9
    case hy9 => intro w' hSw; (try dsimp only at hSw); go_simp; try with_reducible rfl
    try simp only [Act.put, List.setIfInBounds_toArray, List.set_cons_zero, List.set_cons_succ]
    refine wpAnyH_done (by kernel_rfl) ?_ _
    have G := (((G2.s0 (.slice x2 y2 z2)).s1 (.int .i64 s.nx)).s2 (.slice x3 y3 z3)).s3 (.slice x4 y4 z4)
    have pB := below_four hBB4 (k := w.heap.size + 1) (by omega) (.slice x2 y2 z2) (.int .i64 s.nx) (.slice x3 y3 z3) (.slice x4 y4 z4)
    have q1 := row_four (ownsRow_below o1 (below_drew1 hB4)) (k := w.heap.size + 1) hk1 (.slice x2 y2 z2) (.int .i64 s.nx) (.slice x3 y3 z3) (.slice x4 y4 z4)
    have q2 := row_four (ownsRow_below o2 (below_drew1 hB4)) (k := w.heap.size + 1) hk1 (.slice x2 y2 z2) (.int .i64 s.nx) (.slice x3 y3 z3) (.slice x4 y4 z4)
    have q3 := row_four (ownsRow_below o3 (below_drew1 hB4)) (k := w.heap.size + 1) hk1 (.slice x2 y2 z2) (.int .i64 s.nx) (.slice x3 y3 z3) (.slice x4 y4 z4)
    have HI := IsO.of (s := s) (Go.Joins.ownsRow_le q1 hBs) (Go.Joins.ownsRow_le q2 hBs) (Go.Joins.ownsRow_le q3 hBs)
    go_wp2_with fail
    clear r0 r1 r2 r3 f0 f1 f2 f3 hHeld hc4
    generalize (((w4.setCell ⟨w.heap.size + 1, 0, none⟩ (.slice x2 y2 z2)).setCell ⟨w.heap.size + 1, 1, none⟩ (.int .i64 s.nx)).setCell ⟨w.heap.size + 1, 2, none⟩ (.slice x3 y3 z3)).setCell ⟨w.heap.size + 1, 3, none⟩ (.slice x4 y4 z4) = W5 at *
    obtain ⟨d0, d1, d2, d3⟩ := G.c
    exact bodyPost_ret (v := .tuple #[.agg #[(.slice x2 y2 z2), (.int .i64 s.nx), (.slice x3 y3 z3), (.slice x4 y4 z4)], .int .i64 4]) (by simp [results, Tryd.results8, go_sem, d0, d1, d2, d3, Er.code]) rfl ⟨_, by rw [HR.out], by rw [HR.out]; exact HI, pB⟩
  | nil =>
    obtain ⟨hg, hx1, hx2⟩ := en_nil he
    have hlen := (isB_hd hg).1
    have HX1 := hid hx1
    have HX2 := hid hx2
    clear he hx1 hx2 hg
    go_wp2_with fail
    refine (beside_nil _ s base top _ hs O1).mono ?_
    rintro e w2 ⟨v2, rfl, ⟨vw, vr, vs, rfl, o1, o2, o3, _, _, _⟩, hB2⟩
    obtain ⟨x2, y2, z2, rfl⟩ := row_slice o1
    obtain ⟨x3, y3, z3, rfl⟩ := row_slice o2
    obtain ⟨x4, y4, z4, rfl⟩ := row_slice o3
    have hk1 : w.heap.size + 1 < w1.heap.size := F2.lt
    have hBs := hBB1.size
    have hlo : ∀ k, (Value.slice x2 y2 z2).ownBlock = some k → k < w2.heap.size := fun k e => (o1.lt k e).2
    have hBa : Below w2.heap.size w2 (w2.alloc (.cells #[(.slice x2 y2 z2), (.int .i64 s.nx), (.slice x3 y3 z3), (.slice x4 y4 z4)] 30)) := (Below.refl _ w2).alloc (Nat.le_refl _) _
    have FA := Four.new w2 (.slice x2 y2 z2) (.int .i64 s.nx) (.slice x3 y3 z3) (.slice x4 y4 z4) 30
    replace F2 := (F2.below hB2).below hBa
    have hBB3 := below_two hBB1 hB2 hBa
    have hkn : w2.heap.size ≠ w.heap.size + 1 := fun hh => by have := hB2.size; omega
    have E3 := hE.below hBB3
    replace o1 := ownsRow_below o1 hBa
    replace o2 := ownsRow_below o2 hBa
    replace o3 := ownsRow_below o3 hBa
    obtain rfl : y2 = s.ws.length := row_len o1
    have hbs1 : w1.heap.size ≤ w2.heap.size := hB2.size
    go_wp2_with fail
    generalize w2.alloc (.cells #[(.slice x2 s.ws.length z2), (.int .i64 s.nx), (.slice x3 y3 z3), (.slice x4 y4 z4)] 30) = W3 at *
    generalize w2.heap.size = k2 at *
    obtain ⟨c0, c1, c2, c3⟩ := FA.c
    refine (placeW_any _ s.ws name _ (by have := hs.1; omega) (WkS.own o1)).mono ?_
    rintro e w4 ⟨rfl, hB4⟩
    replace o1 := ownsRow_below o1 hB4
    replace o2 := ownsRow_below o2 hB4
    replace o3 := ownsRow_below o3 hB4
    replace FA := FA.below hB4
    replace F2 := F2.below hB4
    have hBB4 := below_one hBB3 hB4
    have hla := FA.lt
    clear hB4 hBa hBB3 E3 c0 c1 c2 c3
    have hle := atW_le s.ws name
    obtain ⟨c0, c1, c2, c3⟩ := FA.c
    cases hh : hasW s.ws name
    · obtain ⟨hl20, hx⟩ := HX2.out hh
      have HX := hid hx
      clear hx HX1 HX2
      generalize hnn : atW s.ws name = n at *
      have hzw : (w4.alloc (.cells #[.string ⟨#[]⟩, .bool false, .int .i64 0] 48)).heap[w4.heap.size]? = some (.cells [Value.string ⟨#[]⟩, .bool false, .int .i64 0].toArray 48 (0, 0)) := by show (w4.heap.push _)[w4.heap.size]? = _; rw [Array.getElem?_push_size]
      have hBv : Below w4.heap.size w4 (w4.alloc (.cells #[.string ⟨#[]⟩, .bool false, .int .i64 0] 48)) := (Below.refl _ w4).alloc (Nat.le_refl _) _
      have hob : (Value.slice x2 s.ws.length z2).ownBlock ≠ some w4.heap.size := fun e => by have := (o1.lt _ e).2; omega
      have hbv : w1.heap.size ≤ (w4.alloc (.cells #[.string ⟨#[]⟩, .bool false, .int .i64 0] 48)).heap.size := by have := hBB4.size; have := hBv.size; simp; omega
      replace o1 := ownsRow_below o1 hBv
      replace o2 := ownsRow_below o2 hBv
      replace o3 := ownsRow_below o3 hBv
      replace FA := FA.below hBv
      replace F2 := F2.below hBv
      have hBB5 := below_one hBB4 hBv
      go_wp2_with fail
      generalize w4.alloc (.cells #[.string ⟨#[]⟩, .bool false, .int .i64 0] 48) = W4 at *
      refine (insert_w w1.heap.size s.ws.length n w4.heap.size _ _ [Value.string ⟨#[]⟩, .bool false, .int .i64 0] _ (by omega) (by omega) hbv rfl one_w (by intro u hu; simp at hu; rcases hu with rfl | rfl | rfl <;> rfl) hzw hob o1).mono ?_
      rintro e w5 ⟨v5, rfl, o5, hg5⟩
      obtain ⟨g5, z5, hv5, hg5b, hz5⟩ : ∃ g z, v5 = .slice (some ⟨g, 0, none⟩) (s.ws.length + 1) z ∧ w1.heap.size ≤ g ∧ s.ws.length + 1 ≤ z := by
        rcases row_form o5 with ⟨_, h0⟩ | ⟨g, z, hv, hb, hz⟩
        · omega
        · exact ⟨g, z, hv, hb, hz⟩
      subst hv5
      replace o2 := kept_apart o2 hg5 (row_apart o2 o1 (by decide))
      replace o3 := kept_apart o3 hg5 (row_apart o3 o1 (by decide))
      replace FA : Four w5 _ _ _ _ _ _ := kept_apart FA hg5 (fun k e1 e2 => by have := hlo k e2; simp [Value.ownBlock] at e1; omega)
      replace F2 : Four w5 _ _ _ _ _ _ := kept_apart F2 hg5 (fun k e1 e2 => by have := (o1.lt k e2).1; simp [Value.ownBlock] at e1; omega)
      have hBB : Below w.heap.size w w5 := hBB5.grown hg5 hBB5.size (fun k e => by have := (o1.lt k e).1; omega)
      clear o1 hg5 hzw hob hbv hBB5 hBB4 hBv c0 c1 c2 c3
      have hd1 : k2 ≠ g5 := fun e => row_apart FA o5 (by decide) k2 rfl (by rw [e]; rfl)
      have hd2 : g5 ≠ k2 := fun e => hd1 e.symm
      have hd3 : w.heap.size + 1 ≠ g5 := fun e => row_apart F2 o5 (by decide) (w.heap.size + 1) rfl (by rw [e]; rfl)
      have hd4 : g5 ≠ w.heap.size + 1 := fun e => hd3 e.symm
      have hd5 : w.heap.size + 1 ≠ k2 := fun e => hkn e.symm
      obtain ⟨c0, c1, c2, c3⟩ := FA.c
      have cf := FA.f 0
      have FA1 := FA.s0 (.slice (some ⟨g5, 0, none⟩) (s.ws.length + 1) z5)
      have F21 := F2.other (k' := k2) hd5 0 (.slice (some ⟨g5, 0, none⟩) (s.ws.length + 1) z5)
      have u5 := ownsRow_setCell_other o5 (a := ⟨k2, 0, none⟩) (by simp [Value.ownBlock]; exact hd2) (.slice (some ⟨g5, 0, none⟩) (s.ws.length + 1) z5)
      have u2 := ownsRow_setCell_other o2 (a := ⟨k2, 0, none⟩) (fun e => row_apart o2 FA (by decide) k2 e rfl) (.slice (some ⟨g5, 0, none⟩) (s.ws.length + 1) z5)
      have u3 := ownsRow_setCell_other o3 (a := ⟨k2, 0, none⟩) (fun e => row_apart o3 FA (by decide) k2 e rfl) (.slice (some ⟨g5, 0, none⟩) (s.ws.length + 1) z5)
      have hB5 := hBB.setCell (p := ⟨k2, 0, none⟩) (by simp; omega) (.slice (some ⟨g5, 0, none⟩) (s.ws.length + 1) z5)
      have hl5 := u5.1
      have s0 := u5.cellAt (n * 3) (by omega)
      have s1 := u5.cellAt (n * 3 + 1) (by omega)
      have s2 := u5.cellAt (n * 3 + 2) (by omega)
      rw [List.getElem?_eq_getElem (by omega)] at s0 s1 s2
      have t0 := u5.frozenAt (n * 3)
      have t1 := u5.frozenAt (n * 3 + 1)
      have t2 := u5.frozenAt (n * 3 + 2)
      have Q1 := u5.stored (n * 3) (.string name)
      have Q2 := Q1.1.stored (n * 3 + 1) (.bool true)
      have Q3 := Q2.1.stored (n * 3 + 2) (.int .i64 0)
      have hG := grown_two (grown_two Q1.2 Q2.2) Q3.2
      have FX2 : Four ((((w5.setCell ⟨k2, 0, none⟩ (.slice (some ⟨g5, 0, none⟩) (s.ws.length + 1) z5)).setCell ⟨g5, n * 3, none⟩ (.string name)).setCell ⟨g5, n * 3 + 1, none⟩ (.bool true)).setCell ⟨g5, n * 3 + 2, none⟩ (.int .i64 0)) _ _ _ _ _ _ := World.ownsRow.kept FA1 hG (.inr (by simp [Value.ownBlock]; exact hd1))
      have F22 : Four ((((w5.setCell ⟨k2, 0, none⟩ (.slice (some ⟨g5, 0, none⟩) (s.ws.length + 1) z5)).setCell ⟨g5, n * 3, none⟩ (.string name)).setCell ⟨g5, n * 3 + 1, none⟩ (.bool true)).setCell ⟨g5, n * 3 + 2, none⟩ (.int .i64 0)) _ _ _ _ _ _ := World.ownsRow.kept F21 hG (.inr (by simp [Value.ownBlock]; exact hd3))
      have u22 := kept_apart (v2 := (.slice (some ⟨g5, 0, none⟩) (s.ws.length + 1) z5)) u2 hG (row_apart u2 u5 (by decide))
      have u32 := kept_apart (v2 := (.slice (some ⟨g5, 0, none⟩) (s.ws.length + 1) z5)) u3 hG (row_apart u3 u5 (by decide))
      have hB6 := hB5.grown hG hB5.size (fun k e => by simp at e; omega)
      have HW := hid (wflat_put s.ws n ⟨⟨#[]⟩, false, 0⟩ ⟨name, true, 0⟩ hle)
      have o1 := Q3.1
      rw [show ((s.ws.flatMap Wk.cells).take (n * 3) ++ [Value.string ⟨#[]⟩, .bool false, .int .i64 0] ++ (s.ws.flatMap Wk.cells).drop (n * 3)) = (s.ws.flatMap Wk.cells).take (n * 3) ++ Wk.cells ⟨⟨#[]⟩, false, 0⟩ ++ (s.ws.flatMap Wk.cells).drop (n * 3) from rfl, HW.out] at o1
      have HL := hid (show s.ws.length + 1 = (s.ws.take n ++ (⟨name, true, 0⟩ : Wk) :: s.ws.drop n).length by simp; omega)
      have hin : (n : Int) < ((s.ws.length : Int) + 1) := by omega
      clear Q1 Q2 Q3 hG u5 u2 u3 hB5 FA1 F21 hBB
      obtain ⟨e0, e1, e2, e3⟩ := FX2.c
      obtain ⟨r0, r1, r2, r3⟩ := F22.c
      have f0 := F22.f 0
      have f1 := F22.f 1
      have f2 := F22.f 2
      have f3 := F22.f 3
      have G := (((F22.s0 (.slice (some ⟨g5, 0, none⟩) (s.ws.length + 1) z5)).s1 (.int .i64 s.nx)).s2 (.slice x3 y3 z3)).s3 (.slice x4 y4 z4)
      have pB := below_four hB6 (k := w.heap.size + 1) (by omega) (.slice (some ⟨g5, 0, none⟩) (s.ws.length + 1) z5) (.int .i64 s.nx) (.slice x3 y3 z3) (.slice x4 y4 z4)
      have q1 := row_four o1 (k := w.heap.size + 1) hk1 (.slice (some ⟨g5, 0, none⟩) (s.ws.length + 1) z5) (.int .i64 s.nx) (.slice x3 y3 z3) (.slice x4 y4 z4)
      have q2 := row_four u22 (k := w.heap.size + 1) hk1 (.slice (some ⟨g5, 0, none⟩) (s.ws.length + 1) z5) (.int .i64 s.nx) (.slice x3 y3 z3) (.slice x4 y4 z4)
      have q3 := row_four u32 (k := w.heap.size + 1) hk1 (.slice (some ⟨g5, 0, none⟩) (s.ws.length + 1) z5) (.int .i64 s.nx) (.slice x3 y3 z3) (.slice x4 y4 z4)
      go_wp2_with fail
      clear r0 r1 r2 r3 f0 f1 f2 f3 e0 e1 e2 e3 c0 c1 c2 c3 cf s0 s1 s2 t0 t1 t2
      generalize (((((((w5.setCell ⟨k2, 0, none⟩ (.slice (some ⟨g5, 0, none⟩) (s.ws.length + 1) z5)).setCell ⟨g5, n * 3, none⟩ (.string name)).setCell ⟨g5, n * 3 + 1, none⟩ (.bool true)).setCell ⟨g5, n * 3 + 2, none⟩ (.int .i64 0)).setCell ⟨w.heap.size + 1, 0, none⟩ (.slice (some ⟨g5, 0, none⟩) (s.ws.length + 1) z5)).setCell ⟨w.heap.size + 1, 1, none⟩ (.int .i64 s.nx)).setCell ⟨w.heap.size + 1, 2, none⟩ (.slice x3 y3 z3)).setCell ⟨w.heap.size + 1, 3, none⟩ (.slice x4 y4 z4) = W5 at *
      obtain ⟨d0, d1, d2, d3⟩ := G.c
      exact bodyPost_ret (v := .tuple #[.agg #[(.slice (some ⟨g5, 0, none⟩) (s.ws.length + 1) z5), (.int .i64 s.nx), (.slice x3 y3 z3), (.slice x4 y4 z4)], .int .i64 0]) (by simp [results, Tryd.results8, go_sem, d0, d1, d2, d3]) rfl ⟨_, by rw [HX.out], by rw [HX.out]; exact IsO.of (s := ⟨s.ws.take n ++ ⟨name, true, 0⟩ :: s.ws.drop n, s.nx, s.rv, s.sg⟩) (Go.Joins.ownsRow_le (row_cast q1 HL.out) hBs) (Go.Joins.ownsRow_le q2 hBs) (Go.Joins.ownsRow_le q3 hBs), pB⟩
    · have hx := HX1.out hh
      have hlt := hasW_lt hh
      have HX := hid hx
      clear hx HX1 HX2 hle
      generalize hnn : atW s.ws name = n at *
      obtain ⟨g5, hg5⟩ : ∃ g, x2 = some ⟨g, 0, none⟩ := by
        rcases row_form o1 with ⟨_, h0⟩ | ⟨g, z, hv, _, _⟩
        · omega
        · injection hv with hv _ _
          exact ⟨g, hv⟩
      subst hg5
      have hg5b : w1.heap.size ≤ g5 := (o1.lt g5 rfl).1
      have hd1 : k2 ≠ g5 := fun e => row_apart FA o1 (by decide) k2 rfl (by rw [e]; rfl)
      have hd2 : g5 ≠ k2 := fun e => hd1 e.symm
      have hd3 : w.heap.size + 1 ≠ g5 := fun e => row_apart F2 o1 (by decide) (w.heap.size + 1) rfl (by rw [e]; rfl)
      have hd4 : g5 ≠ w.heap.size + 1 := fun e => hd3 e.symm
      have hd5 : w.heap.size + 1 ≠ k2 := fun e => hkn e.symm
      have hl5 := o1.1
      have s0 := o1.cellAt (n * 3) (by omega)
      have s1 := o1.cellAt (n * 3 + 1) (by omega)
      have s2 := o1.cellAt (n * 3 + 2) (by omega)
      rw [List.getElem?_eq_getElem (by omega)] at s0 s1 s2
      have t0 := o1.frozenAt (n * 3)
      have t1 := o1.frozenAt (n * 3 + 1)
      have t2 := o1.frozenAt (n * 3 + 2)
      have Q1 := o1.stored (n * 3) (.string name)
      have Q2 := Q1.1.stored (n * 3 + 1) (.bool true)
      have Q3 := Q2.1.stored (n * 3 + 2) (.int .i64 0)
      have hG := grown_two (grown_two Q1.2 Q2.2) Q3.2
      have FX2 : Four (((w4.setCell ⟨g5, n * 3, none⟩ (.string name)).setCell ⟨g5, n * 3 + 1, none⟩ (.bool true)).setCell ⟨g5, n * 3 + 2, none⟩ (.int .i64 0)) _ _ _ _ _ _ := World.ownsRow.kept FA hG (.inr (by simp [Value.ownBlock]; exact hd1))
      have F22 : Four (((w4.setCell ⟨g5, n * 3, none⟩ (.string name)).setCell ⟨g5, n * 3 + 1, none⟩ (.bool true)).setCell ⟨g5, n * 3 + 2, none⟩ (.int .i64 0)) _ _ _ _ _ _ := World.ownsRow.kept F2 hG (.inr (by simp [Value.ownBlock]; exact hd3))
      have u22 := kept_apart (v2 := (.slice (some ⟨g5, 0, none⟩) s.ws.length z2)) o2 hG (row_apart o2 o1 (by decide))
      have u32 := kept_apart (v2 := (.slice (some ⟨g5, 0, none⟩) s.ws.length z2)) o3 hG (row_apart o3 o1 (by decide))
      have hB6 := hBB4.grown hG hBB4.size (fun k e => by simp at e; omega)
      have HW := hid (wflat_set s.ws n ⟨name, true, 0⟩ hlt)
      have o6 := Q3.1
      rw [HW.out] at o6
      have HL := hid (show s.ws.length = (s.ws.set n ⟨name, true, 0⟩).length by simp)
      have hin : (n : Int) < (s.ws.length : Int) := by omega
      clear Q1 Q2 Q3 hG
      obtain ⟨e0, e1, e2, e3⟩ := FX2.c
      obtain ⟨r0, r1, r2, r3⟩ := F22.c
      have f0 := F22.f 0
      have f1 := F22.f 1
      have f2 := F22.f 2
      have f3 := F22.f 3
      have G := (((F22.s0 (.slice (some ⟨g5, 0, none⟩) s.ws.length z2)).s1 (.int .i64 s.nx)).s2 (.slice x3 y3 z3)).s3 (.slice x4 y4 z4)
      have pB := below_four hB6 (k := w.heap.size + 1) (by omega) (.slice (some ⟨g5, 0, none⟩) s.ws.length z2) (.int .i64 s.nx) (.slice x3 y3 z3) (.slice x4 y4 z4)
      have q1 := row_four o6 (k := w.heap.size + 1) hk1 (.slice (some ⟨g5, 0, none⟩) s.ws.length z2) (.int .i64 s.nx) (.slice x3 y3 z3) (.slice x4 y4 z4)
      have q2 := row_four u22 (k := w.heap.size + 1) hk1 (.slice (some ⟨g5, 0, none⟩) s.ws.length z2) (.int .i64 s.nx) (.slice x3 y3 z3) (.slice x4 y4 z4)
      have q3 := row_four u32 (k := w.heap.size + 1) hk1 (.slice (some ⟨g5, 0, none⟩) s.ws.length z2) (.int .i64 s.nx) (.slice x3 y3 z3) (.slice x4 y4 z4)
      go_wp2_with fail
      clear r0 r1 r2 r3 f0 f1 f2 f3 e0 e1 e2 e3 c0 c1 c2 c3 s0 s1 s2 t0 t1 t2
      generalize ((((((w4.setCell ⟨g5, n * 3, none⟩ (.string name)).setCell ⟨g5, n * 3 + 1, none⟩ (.bool true)).setCell ⟨g5, n * 3 + 2, none⟩ (.int .i64 0)).setCell ⟨w.heap.size + 1, 0, none⟩ (.slice (some ⟨g5, 0, none⟩) s.ws.length z2)).setCell ⟨w.heap.size + 1, 1, none⟩ (.int .i64 s.nx)).setCell ⟨w.heap.size + 1, 2, none⟩ (.slice x3 y3 z3)).setCell ⟨w.heap.size + 1, 3, none⟩ (.slice x4 y4 z4) = W5 at *
      obtain ⟨d0, d1, d2, d3⟩ := G.c
      exact bodyPost_ret (v := .tuple #[.agg #[(.slice (some ⟨g5, 0, none⟩) s.ws.length z2), (.int .i64 s.nx), (.slice x3 y3 z3), (.slice x4 y4 z4)], .int .i64 0]) (by simp [results, Tryd.results8, go_sem, d0, d1, d2, d3]) rfl ⟨_, by rw [HX.out], by rw [HX.out]; exact IsO.of (s := ⟨s.ws.set n ⟨name, true, 0⟩, s.nx, s.rv, s.sg⟩) (Go.Joins.ownsRow_le (row_cast q1 HL.out) hBs) (Go.Joins.ownsRow_le q2 hBs) (Go.Joins.ownsRow_le q3 hBs), pB⟩

end Go.Proofs.YtfchmhcnejifhaaDoor
