/-
  Chapter 4: the issuer that an answer goes on from.
-/
import Derived.Test.YtfchmhcnejifhaaDoorTake
import Derived.Test.YtfchmhcnejifhaaDoorCloI
namespace Go.Proofs.YtfchmhcnejifhaaDoor
open Go.RowKit Go.Shelf

theorem row_len {w : World} {base : Nat} {e : TypeId} {size n m c : Nat} {a : Option Addr} {xs : List Value} (h : w.ownsRow base e size (.slice a m c) n xs) : m = n := by
  rcases h.2 with ⟨hv, h0⟩ | ⟨g, cap, cur, hv, _⟩
  · injection hv with _ h2 _
    omega
  · injection hv
theorem one_w {ws : List Wk} : ∀ u ∈ ws.flatMap Wk.cells, u.oneCell' = true := by
  intro u hu
  rw [List.mem_flatMap] at hu
  obtain ⟨r, _, hr⟩ := hu
  simp at hr
  rcases hr with rfl | rfl | rfl <;> rfl
theorem one_n {zs : List Int} : ∀ u ∈ nums zs, u.oneCell' = true := by
  intro u hu
  obtain ⟨z, _, rfl⟩ := List.mem_map.1 hu
  rfl
theorem one_s {ss : List ByteArray} : ∀ u ∈ strs ss, u.oneCell' = true := by
  intro u hu
  obtain ⟨z, _, rfl⟩ := List.mem_map.1 hu
  rfl

set_option maxHeartbeats 4000000 in
set_option maxRecDepth 100000 in
theorem beside_nil (v : Value) (s : Is) (base top : Nat) (w : World) (hs : s.short) (h : IsO w base top v s) :
    Calls Tryd.prog 25 #[v, .nilIface] w fun e w' => ∃ v', e = .returned v' ∧ IsO w' w.heap.size w'.heap.size v' s ∧ Below w.heap.size w w' := by
  obtain ⟨vw, vr, vs, rfl, h1, h2, h3, t1, t2, t3⟩ := h
  obtain ⟨l1, l2, l3⟩ := hs
  obtain ⟨aw, nw, cw, rfl⟩ := row_slice h1
  obtain ⟨ar, nr, cr, rfl⟩ := row_slice h2
  obtain ⟨ag, ng, cg, rfl⟩ := row_slice h3
  obtain rfl : nw = s.ws.length := row_len h1
  obtain rfl : nr = s.rv.length := row_len h2
  obtain rfl : ng = s.sg.length := row_len h3
  have one3 : ∀ u ∈ s.ws.flatMap Wk.cells, u.oneCell' = true := one_w
  have oneN : ∀ u ∈ nums s.rv, u.oneCell' = true := one_n
  have oneS : ∀ u ∈ strs s.sg, u.oneCell' = true := one_s
  have hB0 : Below w.heap.size w (((w.alloc (.cells #[.slice aw s.ws.length cw, .int .i64 s.nx, .slice ar s.rv.length cr, .slice ag s.sg.length cg] 30)).alloc (.cells #[.slice none 0 0, .int .i64 0, .slice none 0 0, .slice none 0 0] 30)).alloc (.cells #[.nilIface] 75)) := (((Below.refl _ w).alloc (Nat.le_refl _) _).alloc (by simp) _).alloc (by simp; omega) _
  have F1 := ((Four.new w (.slice aw s.ws.length cw) (.int .i64 s.nx) (.slice ar s.rv.length cr) (.slice ag s.sg.length cg) 30).below ((Below.refl _ _).alloc (Nat.le_refl _) (.cells #[.slice none 0 0, .int .i64 0, .slice none 0 0, .slice none 0 0] 30))).below ((Below.refl _ _).alloc (Nat.le_refl _) (.cells #[.nilIface] 75))
  have F2 := (Four.at (w.alloc (.cells #[.slice aw s.ws.length cw, .int .i64 s.nx, .slice ar s.rv.length cr, .slice ag s.sg.length cg] 30)) (.slice none 0 0) (.int .i64 0) (.slice none 0 0) (.slice none 0 0) 30 (k := w.heap.size + 1) (by simp)).below ((Below.refl _ _).alloc (Nat.le_refl _) (.cells #[.nilIface] 75))
  go_enter Tryd.func25, Tryd.ntmps25
  go_wp2_with fail
  have hBB1 := hB0
  have h1' := ownsRow_below h1 hB0
  have h2' := ownsRow_below h2 hB0
  have h3' := ownsRow_below h3 hB0
  clear hB0
  generalize ((w.alloc (.cells #[.slice aw s.ws.length cw, .int .i64 s.nx, .slice ar s.rv.length cr, .slice ag s.sg.length cg] 30)).alloc (.cells #[.slice none 0 0, .int .i64 0, .slice none 0 0, .slice none 0 0] 30)).alloc (.cells #[.nilIface] 75) = W1 at *
  obtain ⟨a0, a1, a2, a3⟩ := F1.c
  refine wp_region_held_drew (S := fun w' => w'.cell? ⟨w.heap.size, 0, none⟩ = some (.slice aw s.ws.length cw) ∧ w'.cell? ⟨w.heap.size, 1, none⟩ = some (.int .i64 s.nx) ∧ w'.cell? ⟨w.heap.size, 2, none⟩ = some (.slice ar s.rv.length cr) ∧ w'.cell? ⟨w.heap.size, 3, none⟩ = some (.slice ag s.sg.length cg)) (by kernel_rfl) ?_ (fun hHeld => ?_)
  · go_keep
  refine takeW 0 (v := ?v1) rfl (by kernel_rfl) (by kernel_rfl) (by kernel_rfl) (fun _ _ _ h => h) (by rfl) (by assumption) ?hy1 ?rest1
  case hy1 => intro w' hSw; (try dsimp only at hSw); go_simp; try with_reducible rfl
  try simp only [Act.put, List.setIfInBounds_toArray, List.set_cons_zero, List.set_cons_succ]
  refine takeW 1 (v := ?v2) rfl (by kernel_rfl) (by kernel_rfl) (by kernel_rfl) (fun _ _ _ h => h) (by rfl) (by assumption) ?hy2 ?rest2
  case hy2 => intro w' hSw; (try dsimp only at hSw); go_simp; try with_reducible rfl
  try simp only [Act.put, List.setIfInBounds_toArray, List.set_cons_zero, List.set_cons_succ]
  refine takeW 3 (v := ?v3) rfl (by kernel_rfl) (by kernel_rfl) (by kernel_rfl) (fun _ _ _ h => h) (by rfl) (by assumption) ?hy3 ?rest3
  case hy3 => intro w' hSw; (try dsimp only at hSw); go_simp; try with_reducible rfl
  try simp only [Act.put, List.setIfInBounds_toArray, List.set_cons_zero, List.set_cons_succ]
  refine takeW 4 (v := ?v4) rfl (by kernel_rfl) (by kernel_rfl) (by kernel_rfl) (fun _ _ _ h => h) (by rfl) (by assumption) ?hy4 ?rest4
  case hy4 => intro w' hSw; (try dsimp only at hSw); go_simp; try with_reducible rfl
  try simp only [Act.put, List.setIfInBounds_toArray, List.set_cons_zero, List.set_cons_succ]
  refine takeW 5 (v := ?v5) rfl (by kernel_rfl) (by kernel_rfl) (by kernel_rfl) (fun _ _ _ h => h) (by rfl) (by assumption) ?hy5 ?rest5
  case hy5 => intro w' hSw; (try dsimp only at hSw); go_simp; try with_reducible rfl
  try simp only [Act.put, List.setIfInBounds_toArray, List.set_cons_zero, List.set_cons_succ]
  refine takeW 6 (v := ?v6) rfl (by kernel_rfl) (by kernel_rfl) (by kernel_rfl) (fun _ _ _ h => h) (by rfl) (by assumption) ?hy6 ?rest6
  case hy6 => intro w' hSw; (try dsimp only at hSw); go_simp; try with_reducible rfl
  try simp only [Act.put, List.setIfInBounds_toArray, List.set_cons_zero, List.set_cons_succ]
  refine takeW 8 (v := ?v7) rfl (by kernel_rfl) (by kernel_rfl) (by kernel_rfl) (fun _ _ _ h => h) (by rfl) (by assumption) ?hy7 ?rest7
  case hy7 => intro w' hSw; (try dsimp only at hSw); go_simp; try with_reducible rfl
  try simp only [Act.put, List.setIfInBounds_toArray, List.set_cons_zero, List.set_cons_succ]
  refine takeW 9 (v := ?v8) rfl (by kernel_rfl) (by kernel_rfl) (by kernel_rfl) (fun _ _ _ h => h) (by rfl) (by assumption) ?hy8 ?rest8
  case hy8 => intro w' hSw; (try dsimp only at hSw); go_simp; try with_reducible rfl
  try simp only [Act.put, List.setIfInBounds_toArray, List.set_cons_zero, List.set_cons_succ]
  refine takeC 2 (by kernel_rfl) rfl (fun K hK => ?_)
  go_simp
  refine (cloneW_any _ base _ _ _ l1 one3 (by exact h1')).mono ?_; rintro e w2 ⟨v2, rfl, o2, hB2⟩; obtain ⟨x2, y2, z2, rfl⟩ := row_slice o2; have hc2 := fun o => hB2.cell (p := ⟨w.heap.size, o, none⟩) (by exact F1.lt); have G1 : Four w2 _ _ _ _ _ _ := F1.below (below_drew1 hB2); have G2 : Four w2 _ _ _ _ _ _ := F2.below (below_drew1 hB2); have hBB2 := below_one hBB1 (below_drew1 hB2); have h2'' := ownsRow_below h2' (below_drew1 hB2); have h3'' := ownsRow_below h3' (below_drew1 hB2)
  refine hK.out _ _ ?_ (fun hHeld => ?_)
  · go_keep
  clear hK K
  try simp only [Act.put, List.setIfInBounds_toArray, List.set_cons_zero, List.set_cons_succ]
  refine takeC 7 (by kernel_rfl) rfl (fun K hK => ?_)
  go_simp
  refine (cloneN_any _ base _ _ _ l2 oneN (by exact h2'')).mono ?_; rintro e w3 ⟨v3, rfl, o3, hB3⟩; obtain ⟨x3, y3, z3, rfl⟩ := row_slice o3; have hc3 := fun o => hB3.cell (p := ⟨w.heap.size, o, none⟩) (by exact G1.lt); have I1 := G1.below hB3; have I2 := G2.below hB3; have hBB3 := below_one hBB2 hB3; have h3''' := ownsRow_below h3'' hB3; have o2' := ownsRow_below o2 hB3
  refine hK.out _ _ ?_ (fun hHeld => ?_)
  · go_keep
  clear hK K
  try simp only [Act.put, List.setIfInBounds_toArray, List.set_cons_zero, List.set_cons_succ]
  refine takeC 10 (by kernel_rfl) rfl (fun K hK => ?_)
  go_simp
  refine (cloneS_any _ base _ _ _ l3 oneS (by exact h3''')).mono ?_; rintro e w4 ⟨v4, rfl, o4, hB4⟩; obtain ⟨x4, y4, z4, rfl⟩ := row_slice o4; have hc4 := fun o => hB4.cell (p := ⟨w.heap.size, o, none⟩) (by exact I1.lt); have J2 := I2.below hB4; have hBB4 := below_one hBB3 hB4; have o2'' := ownsRow_below o2' hB4; have o3' := ownsRow_below o3 hB4; obtain ⟨r0, r1, r2, r3⟩ := J2.c; have f0 := J2.f 0; have f1 := J2.f 1; have f2 := J2.f 2; have f3 := J2.f 3
  refine hK.out _ _ ?_ (fun hHeld => ?_)
  · go_keep
  clear hK K
  try simp only [Act.put, List.setIfInBounds_toArray, List.set_cons_zero, List.set_cons_succ]
  refine takeW 11 (v := ?v9) rfl (by kernel_rfl) (by kernel_rfl) (by kernel_rfl) (fun _ _ _ h => h) (by rfl) (by assumption) ?hy9 ?rest9
  case hy9 => intro w' hSw; (try dsimp only at hSw); go_simp; try with_reducible rfl
  try simp only [Act.put, List.setIfInBounds_toArray, List.set_cons_zero, List.set_cons_succ]
  refine takeC 12 (by kernel_rfl) rfl (fun K hK => ?_)
  go_simp
  skip
  refine hK.out _ _ ?_ (fun hHeld => ?_)
  · go_keep
  clear hK K
  try simp only [Act.put, List.setIfInBounds_toArray, List.set_cons_zero, List.set_cons_succ]
  refine wpAnyH_done (by kernel_rfl) ?_ _
  have G := (((J2.s0 (.slice x2 y2 z2)).s1 (.int .i64 s.nx)).s2 (.slice x3 y3 z3)).s3 (.slice x4 y4 z4)
  have p1 := row_four o2'' (k := w.heap.size + 1) (by exact F2.lt) (.slice x2 y2 z2) (.int .i64 s.nx) (.slice x3 y3 z3) (.slice x4 y4 z4)
  have p2 := row_four o3' (k := w.heap.size + 1) G2.lt (.slice x2 y2 z2) (.int .i64 s.nx) (.slice x3 y3 z3) (.slice x4 y4 z4)
  have p3 := row_four o4 (k := w.heap.size + 1) I2.lt (.slice x2 y2 z2) (.int .i64 s.nx) (.slice x3 y3 z3) (.slice x4 y4 z4)
  have pB := below_four hBB4 (k := w.heap.size + 1) (by omega) (.slice x2 y2 z2) (.int .i64 s.nx) (.slice x3 y3 z3) (.slice x4 y4 z4)
  go_wp2_with fail
  have s1 := hBB1.size
  have s2 := hBB2.size
  have s3 := hBB3.size
  clear r0 r1 r2 r3 f0 f1 f2 f3 hHeld hc2 hc3 hc4
  generalize (((w4.setCell ⟨w.heap.size + 1, 0, none⟩ (.slice x2 y2 z2)).setCell ⟨w.heap.size + 1, 1, none⟩ (.int .i64 s.nx)).setCell ⟨w.heap.size + 1, 2, none⟩ (.slice x3 y3 z3)).setCell ⟨w.heap.size + 1, 3, none⟩ (.slice x4 y4 z4) = W5 at *
  obtain ⟨d0, d1, d2, d3⟩ := G.c
  exact bodyPost_ret (v := .agg #[(.slice x2 y2 z2), .int .i64 s.nx, (.slice x3 y3 z3), (.slice x4 y4 z4)]) (by simp [results, Tryd.results25, go_sem, d0, d1, d2, d3]) rfl ⟨_, rfl, IsO.of (Go.Joins.ownsRow_le p1 s1) (Go.Joins.ownsRow_le p2 s2) (Go.Joins.ownsRow_le p3 s3), pB⟩

set_option maxHeartbeats 4000000 in
set_option maxRecDepth 100000 in
theorem beside_ref (v : Value) (s : Is) (p p0 p1 p2 p3 : Addr) (base top : Nat) (w : World) (hs : s.short) (hE : ErA w p0 p1 p2 p3) (h : IsO w base top v s) :
    Calls Tryd.prog 25 #[v, rV p] w fun e w' => ∃ v', e = .returned v' ∧ IsO w' w.heap.size w'.heap.size v' s ∧ Below w.heap.size w w' := by
  obtain ⟨vw, vr, vs, rfl, h1, h2, h3, t1, t2, t3⟩ := h
  obtain ⟨l1, l2, l3⟩ := hs
  obtain ⟨aw, nw, cw, rfl⟩ := row_slice h1
  obtain ⟨ar, nr, cr, rfl⟩ := row_slice h2
  obtain ⟨ag, ng, cg, rfl⟩ := row_slice h3
  obtain rfl : nw = s.ws.length := row_len h1
  obtain rfl : nr = s.rv.length := row_len h2
  obtain rfl : ng = s.sg.length := row_len h3
  have one3 : ∀ u ∈ s.ws.flatMap Wk.cells, u.oneCell' = true := one_w
  have oneN : ∀ u ∈ nums s.rv, u.oneCell' = true := one_n
  have oneS : ∀ u ∈ strs s.sg, u.oneCell' = true := one_s
  have hB0 : Below w.heap.size w (((w.alloc (.cells #[.slice aw s.ws.length cw, .int .i64 s.nx, .slice ar s.rv.length cr, .slice ag s.sg.length cg] 30)).alloc (.cells #[.slice none 0 0, .int .i64 0, .slice none 0 0, .slice none 0 0] 30)).alloc (.cells #[.nilIface] 75)) := (((Below.refl _ w).alloc (Nat.le_refl _) _).alloc (by simp) _).alloc (by simp; omega) _
  have F1 := ((Four.new w (.slice aw s.ws.length cw) (.int .i64 s.nx) (.slice ar s.rv.length cr) (.slice ag s.sg.length cg) 30).below ((Below.refl _ _).alloc (Nat.le_refl _) (.cells #[.slice none 0 0, .int .i64 0, .slice none 0 0, .slice none 0 0] 30))).below ((Below.refl _ _).alloc (Nat.le_refl _) (.cells #[.nilIface] 75))
  have F2 := (Four.at (w.alloc (.cells #[.slice aw s.ws.length cw, .int .i64 s.nx, .slice ar s.rv.length cr, .slice ag s.sg.length cg] 30)) (.slice none 0 0) (.int .i64 0) (.slice none 0 0) (.slice none 0 0) 30 (k := w.heap.size + 1) (by simp)).below ((Below.refl _ _).alloc (Nat.le_refl _) (.cells #[.nilIface] 75))
  have E0 := hE.below hB0
  have ht0 : (((w.alloc (.cells #[.slice aw s.ws.length cw, .int .i64 s.nx, .slice ar s.rv.length cr, .slice ag s.sg.length cg] 30)).alloc (.cells #[.slice none 0 0, .int .i64 0, .slice none 0 0, .slice none 0 0] 30)).alloc (.cells #[.nilIface] 75)).cell? ⟨w.heap.size + 1 + 1, 0, none⟩ = some .nilIface := by rw [World.cell?_alloc_at _ _ _ _ (by simp)]; rfl
  have hf0 : (((w.alloc (.cells #[.slice aw s.ws.length cw, .int .i64 s.nx, .slice ar s.rv.length cr, .slice ag s.sg.length cg] 30)).alloc (.cells #[.slice none 0 0, .int .i64 0, .slice none 0 0, .slice none 0 0] 30)).alloc (.cells #[.nilIface] 75)).frozen? ⟨w.heap.size + 1 + 1, 0, none⟩ = false := World.frozen?_alloc_at _ _ _ _ (by simp)
  go_enter Tryd.func25, Tryd.ntmps25
  go_wp2_with fail
  generalize ((w.alloc (.cells #[.slice aw s.ws.length cw, .int .i64 s.nx, .slice ar s.rv.length cr, .slice ag s.sg.length cg] 30)).alloc (.cells #[.slice none 0 0, .int .i64 0, .slice none 0 0, .slice none 0 0] 30)).alloc (.cells #[.nilIface] 75) = Wz at *
  refine (as_hit p ⟨w.heap.size + 1 + 1, 0, none⟩ .nilIface _ E0.gt ht0 hf0).mono ?_
  rintro e W1 ⟨rfl, hg1⟩
  have hBB1 : Below w.heap.size w W1 := hB0.grown hg1 hB0.size (fun k hk => by simp at hk; omega)
  replace F1 : Four W1 _ _ _ _ _ _ := World.ownsRow.kept F1 hg1 (.inr (by simp [Value.ownBlock] <;> omega))
  replace F2 : Four W1 _ _ _ _ _ _ := World.ownsRow.kept F2 hg1 (.inr (by simp [Value.ownBlock] <;> omega))
  have h1' := ownsRow_below h1 hBB1
  have h2' := ownsRow_below h2 hBB1
  have h3' := ownsRow_below h3 hBB1
  clear hB0 hg1 ht0 hf0
  obtain ⟨a0, a1, a2, a3⟩ := F1.c
  go_wp2_with fail
  refine wp_region_held_drew (S := fun w' => w'.cell? ⟨w.heap.size, 0, none⟩ = some (.slice aw s.ws.length cw) ∧ w'.cell? ⟨w.heap.size, 1, none⟩ = some (.int .i64 s.nx) ∧ w'.cell? ⟨w.heap.size, 2, none⟩ = some (.slice ar s.rv.length cr) ∧ w'.cell? ⟨w.heap.size, 3, none⟩ = some (.slice ag s.sg.length cg)) (by kernel_rfl) ?_ (fun hHeld => ?_)
  · go_keep
  refine takeW 0 (v := ?v10) rfl (by kernel_rfl) (by kernel_rfl) (by kernel_rfl) (fun _ _ _ h => h) (by rfl) (by assumption) ?hy10 ?rest10
  case hy10 => intro w' hSw; (try dsimp only at hSw); go_simp; try with_reducible rfl
  try simp only [Act.put, List.setIfInBounds_toArray, List.set_cons_zero, List.set_cons_succ]
  refine takeW 1 (v := ?v11) rfl (by kernel_rfl) (by kernel_rfl) (by kernel_rfl) (fun _ _ _ h => h) (by rfl) (by assumption) ?hy11 ?rest11
  case hy11 => intro w' hSw; (try dsimp only at hSw); go_simp; try with_reducible rfl
  try simp only [Act.put, List.setIfInBounds_toArray, List.set_cons_zero, List.set_cons_succ]
  refine takeW 3 (v := ?v12) rfl (by kernel_rfl) (by kernel_rfl) (by kernel_rfl) (fun _ _ _ h => h) (by rfl) (by assumption) ?hy12 ?rest12
  case hy12 => intro w' hSw; (try dsimp only at hSw); go_simp; try with_reducible rfl
  try simp only [Act.put, List.setIfInBounds_toArray, List.set_cons_zero, List.set_cons_succ]
  refine takeW 4 (v := ?v13) rfl (by kernel_rfl) (by kernel_rfl) (by kernel_rfl) (fun _ _ _ h => h) (by rfl) (by assumption) ?hy13 ?rest13
  case hy13 => intro w' hSw; (try dsimp only at hSw); go_simp; try with_reducible rfl
  try simp only [Act.put, List.setIfInBounds_toArray, List.set_cons_zero, List.set_cons_succ]
  refine takeW 5 (v := ?v14) rfl (by kernel_rfl) (by kernel_rfl) (by kernel_rfl) (fun _ _ _ h => h) (by rfl) (by assumption) ?hy14 ?rest14
  case hy14 => intro w' hSw; (try dsimp only at hSw); go_simp; try with_reducible rfl
  try simp only [Act.put, List.setIfInBounds_toArray, List.set_cons_zero, List.set_cons_succ]
  refine takeW 6 (v := ?v15) rfl (by kernel_rfl) (by kernel_rfl) (by kernel_rfl) (fun _ _ _ h => h) (by rfl) (by assumption) ?hy15 ?rest15
  case hy15 => intro w' hSw; (try dsimp only at hSw); go_simp; try with_reducible rfl
  try simp only [Act.put, List.setIfInBounds_toArray, List.set_cons_zero, List.set_cons_succ]
  refine takeW 8 (v := ?v16) rfl (by kernel_rfl) (by kernel_rfl) (by kernel_rfl) (fun _ _ _ h => h) (by rfl) (by assumption) ?hy16 ?rest16
  case hy16 => intro w' hSw; (try dsimp only at hSw); go_simp; try with_reducible rfl
  try simp only [Act.put, List.setIfInBounds_toArray, List.set_cons_zero, List.set_cons_succ]
  refine takeW 9 (v := ?v17) rfl (by kernel_rfl) (by kernel_rfl) (by kernel_rfl) (fun _ _ _ h => h) (by rfl) (by assumption) ?hy17 ?rest17
  case hy17 => intro w' hSw; (try dsimp only at hSw); go_simp; try with_reducible rfl
  try simp only [Act.put, List.setIfInBounds_toArray, List.set_cons_zero, List.set_cons_succ]
  refine takeC 2 (by kernel_rfl) rfl (fun K hK => ?_)
  go_simp
  refine (cloneW_any _ base _ _ _ l1 one3 (by exact h1')).mono ?_; rintro e w2 ⟨v2, rfl, o2, hB2⟩; obtain ⟨x2, y2, z2, rfl⟩ := row_slice o2; have hc2 := fun o => hB2.cell (p := ⟨w.heap.size, o, none⟩) (by exact F1.lt); have G1 : Four w2 _ _ _ _ _ _ := F1.below (below_drew1 hB2); have G2 : Four w2 _ _ _ _ _ _ := F2.below (below_drew1 hB2); have hBB2 := below_one hBB1 (below_drew1 hB2); have h2'' := ownsRow_below h2' (below_drew1 hB2); have h3'' := ownsRow_below h3' (below_drew1 hB2)
  refine hK.out _ _ ?_ (fun hHeld => ?_)
  · go_keep
  clear hK K
  try simp only [Act.put, List.setIfInBounds_toArray, List.set_cons_zero, List.set_cons_succ]
  refine takeC 7 (by kernel_rfl) rfl (fun K hK => ?_)
  go_simp
  refine (cloneN_any _ base _ _ _ l2 oneN (by exact h2'')).mono ?_; rintro e w3 ⟨v3, rfl, o3, hB3⟩; obtain ⟨x3, y3, z3, rfl⟩ := row_slice o3; have hc3 := fun o => hB3.cell (p := ⟨w.heap.size, o, none⟩) (by exact G1.lt); have I1 := G1.below hB3; have I2 := G2.below hB3; have hBB3 := below_one hBB2 hB3; have h3''' := ownsRow_below h3'' hB3; have o2' := ownsRow_below o2 hB3
  refine hK.out _ _ ?_ (fun hHeld => ?_)
  · go_keep
  clear hK K
  try simp only [Act.put, List.setIfInBounds_toArray, List.set_cons_zero, List.set_cons_succ]
  refine takeC 10 (by kernel_rfl) rfl (fun K hK => ?_)
  go_simp
  refine (cloneS_any _ base _ _ _ l3 oneS (by exact h3''')).mono ?_; rintro e w4 ⟨v4, rfl, o4, hB4⟩; obtain ⟨x4, y4, z4, rfl⟩ := row_slice o4; have hc4 := fun o => hB4.cell (p := ⟨w.heap.size, o, none⟩) (by exact I1.lt); have J2 := I2.below hB4; have hBB4 := below_one hBB3 hB4; have o2'' := ownsRow_below o2' hB4; have o3' := ownsRow_below o3 hB4; obtain ⟨r0, r1, r2, r3⟩ := J2.c; have f0 := J2.f 0; have f1 := J2.f 1; have f2 := J2.f 2; have f3 := J2.f 3
  refine hK.out _ _ ?_ (fun hHeld => ?_)
  · go_keep
  clear hK K
  try simp only [Act.put, List.setIfInBounds_toArray, List.set_cons_zero, List.set_cons_succ]
  refine takeW 11 (v := ?v18) rfl (by kernel_rfl) (by kernel_rfl) (by kernel_rfl) (fun _ _ _ h => h) (by rfl) (by assumption) ?hy18 ?rest18
  case hy18 => intro w' hSw; (try dsimp only at hSw); go_simp; try with_reducible rfl
  try simp only [Act.put, List.setIfInBounds_toArray, List.set_cons_zero, List.set_cons_succ]
  refine takeC 12 (by kernel_rfl) rfl (fun K hK => ?_)
  go_simp
  skip
  refine hK.out _ _ ?_ (fun hHeld => ?_)
  · go_keep
  clear hK K
  try simp only [Act.put, List.setIfInBounds_toArray, List.set_cons_zero, List.set_cons_succ]
  refine wpAnyH_done (by kernel_rfl) ?_ _
  have G := (((J2.s0 (.slice x2 y2 z2)).s1 (.int .i64 s.nx)).s2 (.slice x3 y3 z3)).s3 (.slice x4 y4 z4)
  have p1 := row_four o2'' (k := w.heap.size + 1) (by exact F2.lt) (.slice x2 y2 z2) (.int .i64 s.nx) (.slice x3 y3 z3) (.slice x4 y4 z4)
  have p2 := row_four o3' (k := w.heap.size + 1) G2.lt (.slice x2 y2 z2) (.int .i64 s.nx) (.slice x3 y3 z3) (.slice x4 y4 z4)
  have p3 := row_four o4 (k := w.heap.size + 1) I2.lt (.slice x2 y2 z2) (.int .i64 s.nx) (.slice x3 y3 z3) (.slice x4 y4 z4)
  have pB := below_four hBB4 (k := w.heap.size + 1) (by omega) (.slice x2 y2 z2) (.int .i64 s.nx) (.slice x3 y3 z3) (.slice x4 y4 z4)
  go_wp2_with fail
  have s1 := hBB1.size
  have s2 := hBB2.size
  have s3 := hBB3.size
  clear r0 r1 r2 r3 f0 f1 f2 f3 hHeld hc2 hc3 hc4
  generalize (((w4.setCell ⟨w.heap.size + 1, 0, none⟩ (.slice x2 y2 z2)).setCell ⟨w.heap.size + 1, 1, none⟩ (.int .i64 s.nx)).setCell ⟨w.heap.size + 1, 2, none⟩ (.slice x3 y3 z3)).setCell ⟨w.heap.size + 1, 3, none⟩ (.slice x4 y4 z4) = W5 at *
  obtain ⟨d0, d1, d2, d3⟩ := G.c
  exact bodyPost_ret (v := .agg #[(.slice x2 y2 z2), .int .i64 s.nx, (.slice x3 y3 z3), (.slice x4 y4 z4)]) (by simp [results, Tryd.results25, go_sem, d0, d1, d2, d3]) rfl ⟨_, rfl, IsO.of (Go.Joins.ownsRow_le p1 s1) (Go.Joins.ownsRow_le p2 s2) (Go.Joins.ownsRow_le p3 s3), pB⟩

set_option maxHeartbeats 4000000 in
theorem beside_bad (v : Value) (s : Is) (p p0 p1 p2 p3 : Addr) (base top : Nat) (w : World) (hE : ErA w p0 p1 p2 p3) (h : IsO w base top v s) :
    Calls Tryd.prog 25 #[v, eV p] w fun e w' => e = .returned (.agg #[.slice none 0 0, .int .i64 0, .slice none 0 0, .slice none 0 0]) ∧ Below w.heap.size w w' := by
  obtain ⟨vw, vr, vs, rfl, h1, h2, h3, t1, t2, t3⟩ := h
  obtain ⟨aw, nw, cw, rfl⟩ := row_slice h1
  obtain ⟨ar, nr, cr, rfl⟩ := row_slice h2
  obtain ⟨ag, ng, cg, rfl⟩ := row_slice h3
  obtain rfl : nw = s.ws.length := row_len h1
  obtain rfl : nr = s.rv.length := row_len h2
  obtain rfl : ng = s.sg.length := row_len h3
  have one3 : ∀ u ∈ s.ws.flatMap Wk.cells, u.oneCell' = true := one_w
  have oneN : ∀ u ∈ nums s.rv, u.oneCell' = true := one_n
  have oneS : ∀ u ∈ strs s.sg, u.oneCell' = true := one_s
  have hB0 : Below w.heap.size w (((w.alloc (.cells #[.slice aw s.ws.length cw, .int .i64 s.nx, .slice ar s.rv.length cr, .slice ag s.sg.length cg] 30)).alloc (.cells #[.slice none 0 0, .int .i64 0, .slice none 0 0, .slice none 0 0] 30)).alloc (.cells #[.nilIface] 75)) := (((Below.refl _ w).alloc (Nat.le_refl _) _).alloc (by simp) _).alloc (by simp; omega) _
  have F1 := ((Four.new w (.slice aw s.ws.length cw) (.int .i64 s.nx) (.slice ar s.rv.length cr) (.slice ag s.sg.length cg) 30).below ((Below.refl _ _).alloc (Nat.le_refl _) (.cells #[.slice none 0 0, .int .i64 0, .slice none 0 0, .slice none 0 0] 30))).below ((Below.refl _ _).alloc (Nat.le_refl _) (.cells #[.nilIface] 75))
  have F2 := (Four.at (w.alloc (.cells #[.slice aw s.ws.length cw, .int .i64 s.nx, .slice ar s.rv.length cr, .slice ag s.sg.length cg] 30)) (.slice none 0 0) (.int .i64 0) (.slice none 0 0) (.slice none 0 0) 30 (k := w.heap.size + 1) (by simp)).below ((Below.refl _ _).alloc (Nat.le_refl _) (.cells #[.nilIface] 75))
  have E0 := hE.below hB0
  go_enter Tryd.func25, Tryd.ntmps25
  go_wp2_with fail
  generalize ((w.alloc (.cells #[.slice aw s.ws.length cw, .int .i64 s.nx, .slice ar s.rv.length cr, .slice ag s.sg.length cg] 30)).alloc (.cells #[.slice none 0 0, .int .i64 0, .slice none 0 0, .slice none 0 0] 30)).alloc (.cells #[.nilIface] 75) = Wz at *
  refine (as_miss p ⟨w.heap.size + 1 + 1, 0, none⟩ _ E0.gt).mono ?_
  rintro e W1 ⟨rfl, hB1⟩
  have hBB1 := below_one hB0 hB1
  replace F2 := F2.below hB1
  obtain ⟨r0, r1, r2, r3⟩ := F2.c
  have f0 := F2.f 0
  have f1 := F2.f 1
  have f2 := F2.f 2
  have f3 := F2.f 3
  have G := (((F2.s0 (.slice none 0 0)).s1 (.int .i64 0)).s2 (.slice none 0 0)).s3 (.slice none 0 0)
  have pB := below_four hBB1 (k := w.heap.size + 1) (by omega) (.slice none 0 0) (.int .i64 0) (.slice none 0 0) (.slice none 0 0)
  go_wp2_with fail
  clear r0 r1 r2 r3 f0 f1 f2 f3
  generalize (((W1.setCell ⟨w.heap.size + 1, 0, none⟩ (.slice none 0 0)).setCell ⟨w.heap.size + 1, 1, none⟩ (.int .i64 0)).setCell ⟨w.heap.size + 1, 2, none⟩ (.slice none 0 0)).setCell ⟨w.heap.size + 1, 3, none⟩ (.slice none 0 0) = W5 at *
  obtain ⟨d0, d1, d2, d3⟩ := G.c
  exact bodyPost_ret (v := .agg #[.slice none 0 0, .int .i64 0, .slice none 0 0, .slice none 0 0]) (by simp [results, Tryd.results25, go_sem, d0, d1, d2, d3]) rfl ⟨rfl, pB⟩

end Go.Proofs.YtfchmhcnejifhaaDoor
