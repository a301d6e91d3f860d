/-
  Sides of one's own that are written to; lists of zeros that are made.
-/
import Derived.Test.YtjnajdilllkpcaaGreatJTaken3
import Derived.Test.YtjnajdilllkpcaaGreatJTaken1
import Derived.Test.YtjnajdilllkpcaaGreatJTaken0
import Derived.Deep.DeepCutAuto
namespace Go.Proofs.YtjnajdilllkpcaaGreat
open Go.RowKit Go.Shelf

theorem BoR.src {w : World} {v : Value} {bs : List Bool} (h : BoR w v bs) : (v = .slice none 0 0 ∧ bs.length = 0 ∧ bls bs = []) ∨ ∃ b off cap, v = .slice (some ⟨b, off, none⟩) bs.length cap ∧ (bls bs).length = bs.length * 1 ∧ ∀ j y, (bls bs)[j]? = some y → w.cell? ⟨b, off + j, none⟩ = some y := by
  rcases h with ⟨rfl, rfl⟩ | ⟨b, off, cap, rfl, _, _, hc⟩
  · exact .inl ⟨rfl, rfl, rfl⟩
  · refine .inr ⟨b, off, cap, rfl, by rw [bls_len]; omega, fun j y hy => ?_⟩
    have hj : j < bs.length := by rw [← bls_len]; exact (List.getElem?_eq_some_iff.1 hy).1
    rw [hc j hj]
    simpa [bls, hj] using hy
theorem ones_b {bs : List Bool} : ∀ u ∈ bls bs, u.oneCell' = true := by
  intro u hu
  obtain ⟨z, _, rfl⟩ := List.mem_map.1 hu
  rfl
theorem row_new_apart {w w' : World} {base : Nat} {e : TypeId} {size n : Nat} {v : Value} {xs : List Value} (h : w.ownsRow base e size v n xs) {o : Obj} (hg : (w.alloc o).grownBy w' (some w.heap.size)) : w'.ownsRow base e size v n xs :=
  World.ownsRow.kept (h.alloc o) hg (by
    cases hv : v.ownBlock with
    | none => exact .inl rfl
    | some k => exact .inr (fun he => by have := (h.lt k hv).2; cases he; omega))

set_option maxHeartbeats 4000000 in
set_option maxRecDepth 100000 in
theorem l6Own_any (v : Value) (s : Sd) (w : World) (hs : s.short) (h : SdR w v s) :
    Calls Tryz.prog 41 #[v] w fun e w' => ∃ v', e = .returned v' ∧ SdO w' w.heap.size w'.heap.size v' s ∧ Below w.heap.size w w' := by
  have h' := h
  obtain ⟨vp, vr, vu, vh, vs, rfl, h1, h2, h3, h4, h5⟩ := h
  obtain ⟨hf, l3, l4, l5, lr⟩ := hs
  obtain ⟨ap, cp, rfl⟩ := h1.len
  obtain ⟨ar, cr, rfl⟩ := h2.len
  obtain ⟨au, cu, rfl⟩ := h3.len
  obtain ⟨ah, ch, rfl⟩ := h4.s.bolLen
  obtain ⟨ai, ci, rfl⟩ := h5.len
  obtain ⟨iw, hiw, hw0, hw1, hw2⟩ := info_parts infoRule
  obtain ⟨ib, hib, hb0, hb1, hb2⟩ := info_parts infoBool
  obtain ⟨ii, hii, hi0, hi1, hi2⟩ := info_parts infoInt
  have hB0 : Below w.heap.size w ((w.alloc (.cells #[.int .i64 s.fo.num, .slice ap s.fo.pol.length cp, .slice ar s.fo.rv.length cr, .int .i64 s.co, .slice au s.ru.length cu, .slice ah s.ha.length ch, .slice ai s.se.length ci] 29)).alloc (.cells #[.int .i64 0, .slice none 0 0, .slice none 0 0, .int .i64 0, .slice none 0 0, .slice none 0 0, .slice none 0 0] 29)) := ((Below.refl _ w).alloc (Nat.le_refl _) _).alloc (by simp) _
  have F := (Seven.new w (.int .i64 s.fo.num) (.slice ap s.fo.pol.length cp) (.slice ar s.fo.rv.length cr) (.int .i64 s.co) (.slice au s.ru.length cu) (.slice ah s.ha.length ch) (.slice ai s.se.length ci) 29).below ((Below.refl _ _).alloc (Nat.le_refl _) (.cells #[.int .i64 0, .slice none 0 0, .slice none 0 0, .int .i64 0, .slice none 0 0, .slice none 0 0, .slice none 0 0] 29))
  have F2 := Seven.at (w.alloc (.cells #[.int .i64 s.fo.num, .slice ap s.fo.pol.length cp, .slice ar s.fo.rv.length cr, .int .i64 s.co, .slice au s.ru.length cu, .slice ah s.ha.length ch, .slice ai s.se.length ci] 29)) (.int .i64 0) (.slice none 0 0) (.slice none 0 0) (.int .i64 0) (.slice none 0 0) (.slice none 0 0) (.slice none 0 0) 29 (k := w.heap.size + 1) (by simp)
  have hz : w.heap.size + 1 < ((w.alloc (.cells #[.int .i64 s.fo.num, .slice ap s.fo.pol.length cp, .slice ar s.fo.rv.length cr, .int .i64 s.co, .slice au s.ru.length cu, .slice ah s.ha.length ch, .slice ai s.se.length ci] 29)).alloc (.cells #[.int .i64 0, .slice none 0 0, .slice none 0 0, .int .i64 0, .slice none 0 0, .slice none 0 0, .slice none 0 0] 29)).heap.size := by simp
  obtain ⟨a0, a1, a2, a3, a4, a5, a6⟩ := F.c
  go_enter Tryz.func41, Tryz.ntmps41
  go_wp2_with fail
  generalize ((w.alloc (.cells #[.int .i64 s.fo.num, .slice ap s.fo.pol.length cp, .slice ar s.fo.rv.length cr, .int .i64 s.co, .slice au s.ru.length cu, .slice ah s.ha.length ch, .slice ai s.se.length ci] 29)).alloc (.cells #[.int .i64 0, .slice none 0 0, .slice none 0 0, .int .i64 0, .slice none 0 0, .slice none 0 0, .slice none 0 0] 29)) = W0 at *
  refine (l5Own_any _ s.fo _ hf ((h'.below hB0).fo)).mono ?_
  rintro e w1 ⟨v1, rfl, O1, hB1⟩
  obtain ⟨x1, z1, x2, z2, rfl⟩ := sn_forms O1.a
  obtain ⟨_, _, ee, o1, o2, t1, t2⟩ := O1
  cases ee
  replace F := F.below hB1
  replace F2 := F2.below hB1
  have hBB := below_one hB0 hB1
  have hs1 := hB1.size
  clear hB0 hB1 a0 a1 a2 a3 a4 a5 a6
  have f0 := F.f 0
  have f1 := F.f 1
  have f2 := F.f 2
  have c0 := F.c.1
  have c1 := F.c.2.1
  have c2 := F.c.2.2.1
  have G := ((F.s0 (.int .i64 s.fo.num)).s1 (.slice x1 s.fo.pol.length z1)).s2 (.slice x2 s.fo.rv.length z2)
  have G2 := ((F2.other (k' := w.heap.size) (by omega) 0 (.int .i64 s.fo.num)).other (k' := w.heap.size) (by omega) 1 (.slice x1 s.fo.pol.length z1)).other (k' := w.heap.size) (by omega) 2 (.slice x2 s.fo.rv.length z2)
  have q1 := row_three o1 (k := w.heap.size) (by omega) (.int .i64 s.fo.num) (.slice x1 s.fo.pol.length z1) (.slice x2 s.fo.rv.length z2)
  have q2 := row_three o2 (k := w.heap.size) (by omega) (.int .i64 s.fo.num) (.slice x1 s.fo.pol.length z1) (.slice x2 s.fo.rv.length z2)
  have hBC := below_three hBB (k := w.heap.size) (Nat.le_refl _) (.int .i64 s.fo.num) (.slice x1 s.fo.pol.length z1) (.slice x2 s.fo.rv.length z2)
  have hsz : w1.heap.size ≤ (((w1.setCell ⟨w.heap.size, 0, none⟩ (.int .i64 s.fo.num)).setCell ⟨w.heap.size, 1, none⟩ (.slice x1 s.fo.pol.length z1)).setCell ⟨w.heap.size, 2, none⟩ (.slice x2 s.fo.rv.length z2)).heap.size := by simp
  go_upto_region 2 with fail
  clear F F2 o1 o2 hBB f0 f1 f2 c0 c1 c2
  generalize ((w1.setCell ⟨w.heap.size, 0, none⟩ (.int .i64 s.fo.num)).setCell ⟨w.heap.size, 1, none⟩ (.slice x1 s.fo.pol.length z1)).setCell ⟨w.heap.size, 2, none⟩ (.slice x2 s.fo.rv.length z2) = W1 at *
  have r1 := row_void W1 31 4 W1.heap.size (base := W1.heap.size) rfl (Nat.le_refl _)
  have hBA : Below w.heap.size w (W1.alloc (.cells #[] 31)) := hBC.alloc hBC.size _
  have hbz : W1.heap.size ≤ (W1.alloc (.cells #[] 31)).heap.size := by simp
  have H := G.below ((Below.refl _ _).alloc (Nat.le_refl _) (.cells #[] 31))
  have hk0 : w.heap.size < W1.heap.size := G.lt
  obtain ⟨a0, a1, a2, a3, a4, a5, a6⟩ := H.c
  go_wp2_with (at_builtin; refine wpList_append_read rfl _ _ 23 rfl W1.heap.size 31 iw _ 4 56 Tryz.underlying23 hiw hw0 hw1 hw2 rfl (by decide) _ _ 0 s.ru.length [] _ rfl r1 rfl (h3.below hBA).src cells_one (by unfold maxLen; omega) (by omega) hbz ?_)
  intro v3 w3 o3 g3
  obtain ⟨x3, y3, z3, rfl⟩ := row_slice o3
  clear a0 a1 a2 a3 a4 a5 a6 H
  replace G : Seven w3 _ _ _ _ _ _ _ _ _ := row_new_apart G g3
  replace G2 : Seven w3 _ _ _ _ _ _ _ _ _ := row_new_apart G2 g3
  replace q1 := row_new_apart q1 g3
  replace q2 := row_new_apart q2 g3
  replace hBC : Below w.heap.size w w3 := hBA.grown g3 hBA.size (fun k e => by simp [Value.ownBlock] at e; omega)
  have hs2 : W1.heap.size ≤ w3.heap.size := Nat.le_trans hbz g3.size
  clear g3 hBA hbz r1
  have fx := G.f 4
  have cx := G.c.2.2.2.2.1
  have hk9 : w.heap.size < w3.heap.size := G.lt
  replace G := G.s4 (.slice x3 y3 z3)
  replace G2 := G2.other (k' := w.heap.size) (by omega) 4 (.slice x3 y3 z3)
  have q3 := o3
  replace q1 := ownsRow_setCell_below q1 (a := ⟨w.heap.size, 4, none⟩) (by simp; omega) (.slice x3 y3 z3)
  replace q2 := ownsRow_setCell_below q2 (a := ⟨w.heap.size, 4, none⟩) (by simp; omega) (.slice x3 y3 z3)
  replace q3 := ownsRow_setCell_below q3 (a := ⟨w.heap.size, 4, none⟩) (by simp; omega) (.slice x3 y3 z3)
  replace hBC := hBC.setCell (p := ⟨w.heap.size, 4, none⟩) (by simp) (.slice x3 y3 z3)
  have hu1 : w3.heap.size ≤ (w3.setCell ⟨w.heap.size, 4, none⟩ (.slice x3 y3 z3)).heap.size := by simp
  go_upto_region 3 with fail
  clear fx cx o3 hk0 hk9
  generalize w3.setCell ⟨w.heap.size, 4, none⟩ (.slice x3 y3 z3) = W2 at *
  have r2 := row_void W2 4 1 W2.heap.size (base := W2.heap.size) rfl (Nat.le_refl _)
  have hBA : Below w.heap.size w (W2.alloc (.cells #[] 4)) := hBC.alloc hBC.size _
  have hbz : W2.heap.size ≤ (W2.alloc (.cells #[] 4)).heap.size := by simp
  have H := G.below ((Below.refl _ _).alloc (Nat.le_refl _) (.cells #[] 4))
  have hk0 : w.heap.size < W2.heap.size := G.lt
  obtain ⟨a0, a1, a2, a3, a4, a5, a6⟩ := H.c
  go_wp2_with (at_builtin; refine wpList_append_read rfl _ _ 27 rfl W2.heap.size 4 ib _ 1 1 Tryz.underlying27 hib hb0 hb1 hb2 rfl (by decide) _ _ 0 s.ha.length [] _ rfl r2 rfl (h4.below hBA).src ones_b (by unfold maxLen; omega) (by omega) hbz ?_)
  intro v4 w4 o4 g4
  obtain ⟨x4, y4, z4, rfl⟩ := row_slice o4
  clear a0 a1 a2 a3 a4 a5 a6 H
  replace G : Seven w4 _ _ _ _ _ _ _ _ _ := row_new_apart G g4
  replace G2 : Seven w4 _ _ _ _ _ _ _ _ _ := row_new_apart G2 g4
  replace q1 := row_new_apart q1 g4
  replace q2 := row_new_apart q2 g4
  replace q3 := row_new_apart q3 g4
  replace hBC : Below w.heap.size w w4 := hBA.grown g4 hBA.size (fun k e => by simp [Value.ownBlock] at e; omega)
  have hs3 : W2.heap.size ≤ w4.heap.size := Nat.le_trans hbz g4.size
  clear g4 hBA hbz r2
  have fx := G.f 5
  have cx := G.c.2.2.2.2.2.1
  have hk9 : w.heap.size < w4.heap.size := G.lt
  replace G := G.s5 (.slice x4 y4 z4)
  replace G2 := G2.other (k' := w.heap.size) (by omega) 5 (.slice x4 y4 z4)
  have q4 := o4
  replace q1 := ownsRow_setCell_below q1 (a := ⟨w.heap.size, 5, none⟩) (by simp; omega) (.slice x4 y4 z4)
  replace q2 := ownsRow_setCell_below q2 (a := ⟨w.heap.size, 5, none⟩) (by simp; omega) (.slice x4 y4 z4)
  replace q3 := ownsRow_setCell_below q3 (a := ⟨w.heap.size, 5, none⟩) (by simp; omega) (.slice x4 y4 z4)
  replace q4 := ownsRow_setCell_below q4 (a := ⟨w.heap.size, 5, none⟩) (by simp; omega) (.slice x4 y4 z4)
  replace hBC := hBC.setCell (p := ⟨w.heap.size, 5, none⟩) (by simp) (.slice x4 y4 z4)
  have hu2 : w4.heap.size ≤ (w4.setCell ⟨w.heap.size, 5, none⟩ (.slice x4 y4 z4)).heap.size := by simp
  go_upto_region 4 with fail
  clear fx cx o4 hk0 hk9
  generalize w4.setCell ⟨w.heap.size, 5, none⟩ (.slice x4 y4 z4) = W3 at *
  have r3 := row_void W3 3 1 W3.heap.size (base := W3.heap.size) rfl (Nat.le_refl _)
  have hBA : Below w.heap.size w (W3.alloc (.cells #[] 3)) := hBC.alloc hBC.size _
  have hbz : W3.heap.size ≤ (W3.alloc (.cells #[] 3)).heap.size := by simp
  have H := G.below ((Below.refl _ _).alloc (Nat.le_refl _) (.cells #[] 3))
  have hk0 : w.heap.size < W3.heap.size := G.lt
  obtain ⟨a0, a1, a2, a3, a4, a5, a6⟩ := H.c
  go_wp2_with (at_builtin; refine wpList_append_read rfl _ _ 24 rfl W3.heap.size 3 ii _ 1 8 Tryz.underlying24 hii hi0 hi1 hi2 rfl (by decide) _ _ 0 s.se.length [] _ rfl r3 rfl (h5.below hBA).src ones_n (by unfold maxLen; omega) (by omega) hbz ?_)
  intro v5 w5 o5 g5
  obtain ⟨x5, y5, z5, rfl⟩ := row_slice o5
  clear a0 a1 a2 a3 a4 a5 a6 H
  replace G : Seven w5 _ _ _ _ _ _ _ _ _ := row_new_apart G g5
  replace G2 : Seven w5 _ _ _ _ _ _ _ _ _ := row_new_apart G2 g5
  replace q1 := row_new_apart q1 g5
  replace q2 := row_new_apart q2 g5
  replace q3 := row_new_apart q3 g5
  replace q4 := row_new_apart q4 g5
  replace hBC : Below w.heap.size w w5 := hBA.grown g5 hBA.size (fun k e => by simp [Value.ownBlock] at e; omega)
  have hs4 : W3.heap.size ≤ w5.heap.size := Nat.le_trans hbz g5.size
  clear g5 hBA hbz r3
  have fx := G.f 6
  have cx := G.c.2.2.2.2.2.2
  have hk9 : w.heap.size < w5.heap.size := G.lt
  replace G := G.s6 (.slice x5 y5 z5)
  replace G2 := G2.other (k' := w.heap.size) (by omega) 6 (.slice x5 y5 z5)
  have q5 := o5
  replace q1 := ownsRow_setCell_below q1 (a := ⟨w.heap.size, 6, none⟩) (by simp; omega) (.slice x5 y5 z5)
  replace q2 := ownsRow_setCell_below q2 (a := ⟨w.heap.size, 6, none⟩) (by simp; omega) (.slice x5 y5 z5)
  replace q3 := ownsRow_setCell_below q3 (a := ⟨w.heap.size, 6, none⟩) (by simp; omega) (.slice x5 y5 z5)
  replace q4 := ownsRow_setCell_below q4 (a := ⟨w.heap.size, 6, none⟩) (by simp; omega) (.slice x5 y5 z5)
  replace q5 := ownsRow_setCell_below q5 (a := ⟨w.heap.size, 6, none⟩) (by simp; omega) (.slice x5 y5 z5)
  replace hBC := hBC.setCell (p := ⟨w.heap.size, 6, none⟩) (by simp) (.slice x5 y5 z5)
  have hu3 : w5.heap.size ≤ (w5.setCell ⟨w.heap.size, 6, none⟩ (.slice x5 y5 z5)).heap.size := by simp
  go_upto_region 5 with fail
  clear fx cx o5 hk0 hk9
  generalize w5.setCell ⟨w.heap.size, 6, none⟩ (.slice x5 y5 z5) = W4 at *
  obtain ⟨a0, a1, a2, a3, a4, a5, a6⟩ := G.c
  obtain ⟨r0, r1, r2, r3, r4, r5, r6⟩ := G2.c
  have f0 := G2.f 0
  have f1 := G2.f 1
  have f2 := G2.f 2
  have f3 := G2.f 3
  have f4 := G2.f 4
  have f5 := G2.f 5
  have f6 := G2.f 6
  have G3 := ((((((G2.s0 (.int .i64 s.fo.num)).s1 (.slice x1 s.fo.pol.length z1)).s2 (.slice x2 s.fo.rv.length z2)).s3 (.int .i64 s.co)).s4 (.slice x3 y3 z3)).s5 (.slice x4 y4 z4)).s6 (.slice x5 y5 z5)
  replace q1 := row_seven q1 (k := w.heap.size + 1) (by omega) (.int .i64 s.fo.num) (.slice x1 s.fo.pol.length z1) (.slice x2 s.fo.rv.length z2) (.int .i64 s.co) (.slice x3 y3 z3) (.slice x4 y4 z4) (.slice x5 y5 z5)
  replace q2 := row_seven q2 (k := w.heap.size + 1) (by omega) (.int .i64 s.fo.num) (.slice x1 s.fo.pol.length z1) (.slice x2 s.fo.rv.length z2) (.int .i64 s.co) (.slice x3 y3 z3) (.slice x4 y4 z4) (.slice x5 y5 z5)
  replace q3 := row_seven q3 (k := w.heap.size + 1) (by omega) (.int .i64 s.fo.num) (.slice x1 s.fo.pol.length z1) (.slice x2 s.fo.rv.length z2) (.int .i64 s.co) (.slice x3 y3 z3) (.slice x4 y4 z4) (.slice x5 y5 z5)
  replace q4 := row_seven q4 (k := w.heap.size + 1) (by omega) (.int .i64 s.fo.num) (.slice x1 s.fo.pol.length z1) (.slice x2 s.fo.rv.length z2) (.int .i64 s.co) (.slice x3 y3 z3) (.slice x4 y4 z4) (.slice x5 y5 z5)
  replace q5 := row_seven q5 (k := w.heap.size + 1) (by omega) (.int .i64 s.fo.num) (.slice x1 s.fo.pol.length z1) (.slice x2 s.fo.rv.length z2) (.int .i64 s.co) (.slice x3 y3 z3) (.slice x4 y4 z4) (.slice x5 y5 z5)
  have pB := below_seven hBC (k := w.heap.size + 1) (by omega) (.int .i64 s.fo.num) (.slice x1 s.fo.pol.length z1) (.slice x2 s.fo.rv.length z2) (.int .i64 s.co) (.slice x3 y3 z3) (.slice x4 y4 z4) (.slice x5 y5 z5)
  have hu9 : W4.heap.size ≤ (((((((W4.setCell ⟨w.heap.size + 1, 0, none⟩ (.int .i64 s.fo.num)).setCell ⟨w.heap.size + 1, 1, none⟩ (.slice x1 s.fo.pol.length z1)).setCell ⟨w.heap.size + 1, 2, none⟩ (.slice x2 s.fo.rv.length z2)).setCell ⟨w.heap.size + 1, 3, none⟩ (.int .i64 s.co)).setCell ⟨w.heap.size + 1, 4, none⟩ (.slice x3 y3 z3)).setCell ⟨w.heap.size + 1, 5, none⟩ (.slice x4 y4 z4)).setCell ⟨w.heap.size + 1, 6, none⟩ (.slice x5 y5 z5)).heap.size := by simp
  go_wp2_with fail
  clear a0 a1 a2 a3 a4 a5 a6 r0 r1 r2 r3 r4 r5 r6 f0 f1 f2 f3 f4 f5 f6 G G2
  generalize ((((((W4.setCell ⟨w.heap.size + 1, 0, none⟩ (.int .i64 s.fo.num)).setCell ⟨w.heap.size + 1, 1, none⟩ (.slice x1 s.fo.pol.length z1)).setCell ⟨w.heap.size + 1, 2, none⟩ (.slice x2 s.fo.rv.length z2)).setCell ⟨w.heap.size + 1, 3, none⟩ (.int .i64 s.co)).setCell ⟨w.heap.size + 1, 4, none⟩ (.slice x3 y3 z3)).setCell ⟨w.heap.size + 1, 5, none⟩ (.slice x4 y4 z4)).setCell ⟨w.heap.size + 1, 6, none⟩ (.slice x5 y5 z5) = W9 at *
  obtain ⟨d0, d1, d2, d3, d4, d5, d6⟩ := G3.c
  exact bodyPost_ret (v := .agg #[.int .i64 s.fo.num, .slice x1 s.fo.pol.length z1, .slice x2 s.fo.rv.length z2, .int .i64 s.co, .slice x3 y3 z3, .slice x4 y4 z4, .slice x5 y5 z5]) (by simp [results, Tryz.results41, go_sem, d0, d1, d2, d3, d4, d5, d6]) rfl ⟨_, rfl, ⟨w1.heap.size, _, _, _, _, _, rfl, by omega, by omega, ⟨_, _, rfl, Go.Joins.ownsRow_le q1 (by omega), Go.Joins.ownsRow_le q2 (by omega), t1, t2⟩, Go.Joins.ownsRow_le q3 (by omega), Go.Joins.ownsRow_le q4 (by omega), Go.Joins.ownsRow_le q5 (by omega), fun k e => (q3.lt k e).2, fun k e => (q4.lt k e).2, fun k e => (q5.lt k e).2⟩, pB⟩

end Go.Proofs.YtjnajdilllkpcaaGreat

namespace Go.Proofs.YtjnajdilllkpcaaGreat
open Go.RowKit Go.Shelf

theorem one_nn {zs : List Int} : ∀ u ∈ nums zs, u.oneCell' = true := by
  intro u hu
  simp [nums] at hu
  obtain ⟨z, _, rfl⟩ := hu
  rfl
theorem nputN (zs : List Int) (n : Nat) (z : Int) : (nums zs).take n ++ [Value.int .i64 z] ++ (nums zs).drop n = nums (zs.take n ++ z :: zs.drop n) := by
  unfold nums
  simp
theorem row_castN {w : World} {base : Nat} {e : TypeId} {size n m : Nat} {v : Value} {xs : List Value} (h : w.ownsRow base e size v n xs) (hm : n = m) : w.ownsRow base e size v m xs := by
  subst hm
  exact h

set_option maxHeartbeats 4000000 in
set_option maxRecDepth 100000 in
theorem l5Sorted_any (v : Value) (zs : List Int) (w : World) (hm : zs.length ≤ 1000) (hr : VS w v (nums zs)) :
    Calls Tryz.prog 64 #[v] w fun e w' => ∃ v', e = .returned v' ∧ w'.ownsRow w.heap.size 3 1 v' (srN zs).length (nums (srN zs)) ∧ Below w.heap.size w w' := by
  obtain ⟨a, cap, rfl⟩ := hr.numLen
  obtain ⟨iw, hiw, hw0, hw1, hw2⟩ := info_parts infoInt
  go_enter Tryz.func64, Tryz.ntmps64
  go_wp2
  go_loopw [3, 10] (fun o i wr => ∃ k : Nat, k ≤ zs.length ∧ i = .int .i64 k ∧ wr.ownsRow w.heap.size 3 1 o (srT zs k).length (nums (srT zs k)) ∧ Below w.heap.size w wr) (fun _ i _ => zs.length - (intOf i).toNat)
  case atStart => exact ⟨0, Nat.zero_le _, rfl, by rw [srT_zero]; exact World.ownsRow_nil _ _ _ _, Below.refl _ _⟩
  case round =>
    obtain ⟨k, hk, rfl, ho, hB⟩ := hrel
    by_cases hlt : k < zs.length
    · obtain ⟨b, off, rfl, hb, hcap, q0⟩ := (hr.below hB).num hlt
      have HSU := hid (srT_succ hlt)
      have hlk := srT_len (zs := zs) k hk
      generalize zs[k] = z at *
      generalize srT zs k = l at *
      rcases row_form ho with ⟨rfl, h0⟩ | ⟨g, cp, rfl, hg, hcp⟩
      · obtain rfl : l = [] := List.eq_nil_of_length_eq_zero h0
        have HIN := hid (show srT zs (k + 1) = [z] by rw [HSU.out]; rfl)
        clear h0 hlk
        have hnw : ∀ j u, ([Value.int .i64 z])[j]? = some u → (wr.alloc (.cells #[.int .i64 z] 3)).cell? ((⟨wr.heap.size, 0, none⟩ : Addr).add j) = some u := fun j u hj => by
          rw [Addr.add_lit, Nat.zero_add, World.cell?_alloc_at _ _ _ _ rfl]
          simpa using hj
        go_wp2
        refine wp_loop_rounds 1 ?_
        rw [rounds_succ]
        go_wp2_with (at_builtin; refine wpList_append_own _ rfl _ _ 24 rfl wr.heap.size 3 iw _ 1 8 Tryz.underlying24 hiw hw0 hw1 hw2 rfl (by decide) _ _ _ rfl ((World.ownsRow_nil wr wr.heap.size 3 1).alloc _) ⟨wr.heap.size, 0, none⟩ 1 1 [Value.int .i64 z] rfl rfl hnw (by intro u hu; simp at hu; rw [hu]; rfl) (by unfold maxLen; omega) (by omega) (by simp) ?_)
        intro v2 w2 hown2 hgrow2 _
        have hb2 : Below wr.heap.size wr w2 := ((Below.refl _ wr).alloc (Nat.le_refl _) _).grown hgrow2 (by simp) (fun k e => by simp [Value.ownBlock] at e)
        rcases row_form hown2 with ⟨_, h'⟩ | ⟨g2, cp2, rfl, _, hcp⟩
        · exact absurd h' (by omega)
        · clear hgrow2
          go_wp2
          go_roundw
          case rel => exact ⟨k + 1, by omega, by go_num, by rw [HIN.out]; exact Go.Joins.ownsRow_le hown2 hB.size, below_one hB hb2⟩
          case measure => simp [intOf]; omega
      · go_wp2
        go_loopw [6] (fun i wq => ∃ m : Nat, m ≤ l.length ∧ i = .int .i64 m ∧ (∀ j (h : j < l.length), j < m → l[j] < z) ∧ wq = wr) (fun i _ => l.length - (intOf i).toNat)
        case atStart => exact ⟨0, Nat.zero_le _, rfl, fun _ _ h => absurd h (Nat.not_lt_zero _), rfl⟩
        case round =>
          obtain ⟨m, hml, rfl, hlts, rfl⟩ := hrel
          have HL := hid hlts
          clear hlts
          by_cases hlm : m < l.length
          · have x0 := ho.cellAt m (by omega)
            rw [show (nums l)[m]? = some (.int .i64 l[m]) by simp [nums, hlm]] at x0
            have HST := hid (fun (h : l[m] < z) => (fun j (hj : j < l.length) (hjm : j < m + 1) => (show l[j] < z by
              by_cases e : j = m
              · subst e
                exact h
              · exact HL.out j hj (by omega)) : ∀ j (hj : j < l.length), j < m + 1 → l[j] < z))
            have HKE := hid (fun he => insZ_keep (z := z) hlm HL.out he)
            have HNE := hid (fun h2 he => insZ_new (z := z) hlm HL.out h2 he)
            generalize l[m] = x at *
            by_cases c1 : x < z
            · have d1 : decide (x < z) = true := by simp; omega
              have HS1 := hid (HST.out c1)
              clear c1 HKE HNE HST HSU
              go_wp2_with fail
              go_roundw
              case rel => exact ⟨m + 1, by omega, by go_num, HS1.out, by trivial⟩
              case measure => simp [intOf]; omega
            · have d1 : decide (x < z) = false := by simp; omega
              by_cases c2 : x = z
              · have HIN := hid (show srT zs (k + 1) = l by rw [HSU.out]; exact HKE.out c2)
                have d2 : (x == z) = true := by simp; exact c2
                clear c1 c2 HKE HNE HST HSU
                go_wp2_with fail
                go_roundw
                case rel => exact ⟨k + 1, by omega, by go_num, by rw [HIN.out]; exact ho, hB⟩
                case measure => simp [intOf]; omega
              · have HIN := hid (show srT zs (k + 1) = l.take m ++ z :: l.drop m by rw [HSU.out]; exact HNE.out c1 c2)
                have d2 : (x == z) = false := by simp; exact c2
                clear c1 c2 HKE HNE HST HSU
                have hrl : (nums l).length = l.length := by simp [nums]
                have HLL := hid (show m + 1 + (l.length - m) = (l.take m ++ z :: l.drop m).length by first | (simp; done) | (simp; omega))
                have hn1 : (m : Int) ≤ (l.length : Int) := by omega
                have hn2 : (m : Int) ≤ (cp : Int) := by omega
                have htk : ∀ j u, ((nums l).take m)[j]? = some u → wr.cell? ((⟨g, 0, none⟩ : Addr).add j) = some u := fun j u hj => by
                  rw [List.getElem?_take] at hj
                  split at hj
                  · exact ho.cells (g := g) rfl j u hj
                  · cases hj
                have hN := World.ownsRow_nil wr wr.heap.size 3 1
                go_wp2_with (at_builtin; refine wpList_append_own _ rfl _ _ 24 rfl wr.heap.size 3 iw _ 1 8 Tryz.underlying24 hiw hw0 hw1 hw2 rfl (by decide) _ _ _ rfl hN ⟨g, 0, none⟩ m cp ((nums l).take m) rfl (by rw [List.length_take]; omega) htk (fun u hu => one_nn u (List.mem_of_mem_take hu)) (by unfold maxLen; omega) (by omega) (Nat.le_refl _) ?_)
                intro v5 w6 o5 g6 _
                obtain ⟨y5, y6, y7, rfl⟩ := row_slice o5
                have hC5 : Below wr.heap.size wr w6 := (Below.refl _ _).grown g6 (Nat.le_refl _) (fun k e => by simp [Value.ownBlock] at e)
                clear g6 htk hN
                have o5a := o5.alloc (.cells #[.int .i64 z] 3)
                have hC5a : Below wr.heap.size wr (w6.alloc (.cells #[.int .i64 z] 3)) := hC5.alloc hC5.size _
                have hnw : ∀ j u, ([Value.int .i64 z])[j]? = some u → (w6.alloc (.cells #[.int .i64 z] 3)).cell? ((⟨w6.heap.size, 0, none⟩ : Addr).add j) = some u := fun j u hj => by
                  rw [Addr.add_lit, Nat.zero_add, World.cell?_alloc_at _ _ _ _ rfl]
                  simpa using hj
                go_wp2_with (at_builtin; refine wpList_append_own _ rfl _ _ 24 rfl wr.heap.size 3 iw _ 1 8 Tryz.underlying24 hiw hw0 hw1 hw2 rfl (by decide) _ _ _ rfl o5a ⟨w6.heap.size, 0, none⟩ 1 1 [Value.int .i64 z] rfl rfl hnw (by intro u hu; simp at hu; rw [hu]; rfl) (by unfold maxLen; omega) (by omega) hC5a.size ?_)
                intro v6 w7 o6 g7 _
                obtain ⟨u5, u6, u7, rfl⟩ := row_slice o6
                have hC6 : Below wr.heap.size wr w7 := hC5a.grown g7 hC5a.size (fun k e => (o5a.lt k e).1)
                clear o5 o5a g7 hnw hC5 hC5a
                have ow := ownsRow_below ho hC6
                have hzn : ¬ (cp = m) := by omega
                have hdr : ∀ j u, ((nums l).drop m)[j]? = some u → w7.cell? ((⟨g, m, none⟩ : Addr).add j) = some u := fun j u hj => by
                  rw [List.getElem?_drop] at hj
                  have := ow.cells (g := g) rfl _ u hj
                  rw [Addr.add_lit, Nat.zero_add] at this
                  rw [Addr.add_lit]
                  exact this
                go_wp2_with (at_builtin; refine wpList_append_own _ rfl _ _ 24 rfl wr.heap.size 3 iw _ 1 8 Tryz.underlying24 hiw hw0 hw1 hw2 rfl (by decide) _ _ _ rfl o6 ⟨g, m, none⟩ (l.length - m) (cp - m) ((nums l).drop m) rfl (by rw [List.length_drop]; omega) hdr (fun u hu => one_nn u (List.mem_of_mem_drop hu)) (by unfold maxLen; omega) (by omega) hC6.size ?_)
                intro v7 w8 o7 g8 _
                replace o7 : w8.ownsRow wr.heap.size 3 1 v7 (m + 1 + (l.length - m)) (nums (l.take m ++ z :: l.drop m)) := by rw [← nputN]; simpa using o7
                have hC7 : Below wr.heap.size wr w8 := hC6.grown g8 hC6.size (fun k e => (o6.lt k e).1)
                obtain ⟨y5, y6, y7, rfl⟩ := row_slice o7
                go_wp2
                go_roundw
                case rel => exact ⟨k + 1, by omega, by go_num, by rw [HIN.out]; exact row_castN (Go.Joins.ownsRow_le o7 hB.size) HLL.out, below_one hB hC7⟩
                case measure => simp [intOf]; omega
          · have hme : m = l.length := by omega
            subst hme
            have HIN := hid (show srT zs (k + 1) = l.take l.length ++ z :: l.drop l.length by
              rw [HSU.out, insZ_end HL.out]
              simp)
            clear HSU hml hlm
            have hrl : (nums l).length = l.length := by simp [nums]
            have HLL := hid (show l.length + 1 = (l.take l.length ++ z :: l.drop l.length).length by first | (simp; done) | (simp; omega))
            have hn1 : (l.length : Int) ≤ (l.length : Int) := by omega
            have hn2 : (l.length : Int) ≤ (cp : Int) := by omega
            have htk : ∀ j u, ((nums l).take l.length)[j]? = some u → wr.cell? ((⟨g, 0, none⟩ : Addr).add j) = some u := fun j u hj => by
              rw [List.getElem?_take] at hj
              split at hj
              · exact ho.cells (g := g) rfl j u hj
              · cases hj
            have hN := World.ownsRow_nil wr wr.heap.size 3 1
            go_wp2_with (at_builtin; refine wpList_append_own _ rfl _ _ 24 rfl wr.heap.size 3 iw _ 1 8 Tryz.underlying24 hiw hw0 hw1 hw2 rfl (by decide) _ _ _ rfl hN ⟨g, 0, none⟩ l.length cp ((nums l).take l.length) rfl (by rw [List.length_take]; omega) htk (fun u hu => one_nn u (List.mem_of_mem_take hu)) (by unfold maxLen; omega) (by omega) (Nat.le_refl _) ?_)
            intro v5 w6 o5 g6 _
            obtain ⟨y5, y6, y7, rfl⟩ := row_slice o5
            have hC5 : Below wr.heap.size wr w6 := (Below.refl _ _).grown g6 (Nat.le_refl _) (fun k e => by simp [Value.ownBlock] at e)
            clear g6 htk hN
            have o5a := o5.alloc (.cells #[.int .i64 z] 3)
            have hC5a : Below wr.heap.size wr (w6.alloc (.cells #[.int .i64 z] 3)) := hC5.alloc hC5.size _
            have hnw : ∀ j u, ([Value.int .i64 z])[j]? = some u → (w6.alloc (.cells #[.int .i64 z] 3)).cell? ((⟨w6.heap.size, 0, none⟩ : Addr).add j) = some u := fun j u hj => by
              rw [Addr.add_lit, Nat.zero_add, World.cell?_alloc_at _ _ _ _ rfl]
              simpa using hj
            go_wp2_with (at_builtin; refine wpList_append_own _ rfl _ _ 24 rfl wr.heap.size 3 iw _ 1 8 Tryz.underlying24 hiw hw0 hw1 hw2 rfl (by decide) _ _ _ rfl o5a ⟨w6.heap.size, 0, none⟩ 1 1 [Value.int .i64 z] rfl rfl hnw (by intro u hu; simp at hu; rw [hu]; rfl) (by unfold maxLen; omega) (by omega) hC5a.size ?_)
            intro v6 w7 o6 g7 _
            obtain ⟨u5, u6, u7, rfl⟩ := row_slice o6
            have hC6 : Below wr.heap.size wr w7 := hC5a.grown g7 hC5a.size (fun k e => (o5a.lt k e).1)
            clear o5 o5a g7 hnw hC5 hC5a
            have ow := ownsRow_below ho hC6
            by_cases hzz : cp = l.length
            all_goals go_wp2_with (at_builtin; refine wpList_append_own _ rfl _ _ 24 rfl wr.heap.size 3 iw _ 1 8 Tryz.underlying24 hiw hw0 hw1 hw2 rfl (by decide) _ _ _ rfl o6 _ 0 _ [] rfl rfl (by simp) (by simp) (by unfold maxLen; omega) (by omega) hC6.size ?_)
            all_goals intro v7 w8 o7 g8 _
            all_goals replace o7 : w8.ownsRow wr.heap.size 3 1 v7 (l.length + 1) (nums (l.take l.length ++ z :: l.drop l.length)) := by rw [← nputN, show (nums l).drop l.length = [] from List.drop_of_length_le (by omega)]; simpa using o7
            all_goals have hC7 : Below wr.heap.size wr w8 := hC6.grown g8 hC6.size (fun k e => (o6.lt k e).1)
            · obtain ⟨y5, y6, y7, rfl⟩ := row_slice o7
              go_wp2
              go_roundw
              case rel => exact ⟨k + 1, by omega, by go_num, by rw [HIN.out]; exact row_castN (Go.Joins.ownsRow_le o7 hB.size) HLL.out, below_one hB hC7⟩
              case measure => simp [intOf]; omega
            · obtain ⟨y5, y6, y7, rfl⟩ := row_slice o7
              go_wp2
              go_roundw
              case rel => exact ⟨k + 1, by omega, by go_num, by rw [HIN.out]; exact row_castN (Go.Joins.ownsRow_le o7 hB.size) HLL.out, below_one hB hC7⟩
              case measure => simp [intOf]; omega
    · have hke : k = zs.length := by omega
      have HE := hid hke
      clear hke
      obtain ⟨y5, y6, y7, rfl⟩ := row_slice ho
      go_wp2
      go_ret
      exact ⟨_, rfl, by unfold srN; rw [← HE.out]; exact ho, hB⟩

end Go.Proofs.YtjnajdilllkpcaaGreat

namespace Go.Proofs.YtjnajdilllkpcaaGreat
open Go.RowKit Go.Shelf

/-- 8 cells that are a block of their own. -/
def Eight (w : World) (t : TypeId) (k : Nat) (a b c d e f g p : Value) : Prop := w.ownsRow k t 8 (.slice (some ⟨k, 0, none⟩) 1 1) 1 [a, b, c, d, e, f, g, p]
theorem Eight.at (w : World) (a b c d e f g p : Value) (t : TypeId) {k : Nat} (hk : k = w.heap.size) : Eight (w.alloc (.cells #[a, b, c, d, e, f, g, p] t)) t k a b c d e f g p := by
  subst hk
  exact ⟨rfl, .inr ⟨w.heap.size, 1, #[a, b, c, d, e, f, g, p], rfl, Nat.le_refl _, by show (w.heap.push _)[w.heap.size]? = _; rw [Array.getElem?_push_size], Nat.le_refl _, by unfold maxLen; omega, rfl, rfl⟩⟩
theorem Eight.new (w : World) (a b c d e f g p : Value) (t : TypeId) : Eight (w.alloc (.cells #[a, b, c, d, e, f, g, p] t)) t w.heap.size a b c d e f g p := Eight.at w a b c d e f g p t rfl
theorem Eight.below {w' : World} {w : World} {t : TypeId} {k : Nat} {a b c d e f g p : Value} (h : Eight w t k a b c d e f g p) (hB : Below w.heap.size w w') : Eight w' t k a b c d e f g p := ownsRow_below h hB
theorem Eight.c {w : World} {t : TypeId} {k : Nat} {a b c d e f g p : Value} (h : Eight w t k a b c d e f g p) : w.cell? ⟨k, 0, none⟩ = some a ∧ w.cell? ⟨k, 1, none⟩ = some b ∧ w.cell? ⟨k, 2, none⟩ = some c ∧ w.cell? ⟨k, 3, none⟩ = some d ∧ w.cell? ⟨k, 4, none⟩ = some e ∧ w.cell? ⟨k, 5, none⟩ = some f ∧ w.cell? ⟨k, 6, none⟩ = some g ∧ w.cell? ⟨k, 7, none⟩ = some p :=
  ⟨World.ownsRow.cellAt h 0 (by omega), World.ownsRow.cellAt h 1 (by omega), World.ownsRow.cellAt h 2 (by omega), World.ownsRow.cellAt h 3 (by omega), World.ownsRow.cellAt h 4 (by omega), World.ownsRow.cellAt h 5 (by omega), World.ownsRow.cellAt h 6 (by omega), World.ownsRow.cellAt h 7 (by omega)⟩
theorem Eight.f {w : World} {t : TypeId} {k : Nat} {a b c d e f g p : Value} (h : Eight w t k a b c d e f g p) (j : Nat) : w.frozen? ⟨k, j, none⟩ = false := World.ownsRow.frozenAt h j
theorem Eight.s0 {w : World} {t : TypeId} {k : Nat} {a b c d e f g p : Value} (h : Eight w t k a b c d e f g p) (x : Value) : Eight (w.setCell ⟨k, 0, none⟩ x) t k x b c d e f g p := (World.ownsRow.stored h 0 x).1
theorem Eight.s1 {w : World} {t : TypeId} {k : Nat} {a b c d e f g p : Value} (h : Eight w t k a b c d e f g p) (x : Value) : Eight (w.setCell ⟨k, 1, none⟩ x) t k a x c d e f g p := (World.ownsRow.stored h 1 x).1
theorem Eight.s2 {w : World} {t : TypeId} {k : Nat} {a b c d e f g p : Value} (h : Eight w t k a b c d e f g p) (x : Value) : Eight (w.setCell ⟨k, 2, none⟩ x) t k a b x d e f g p := (World.ownsRow.stored h 2 x).1
theorem Eight.s3 {w : World} {t : TypeId} {k : Nat} {a b c d e f g p : Value} (h : Eight w t k a b c d e f g p) (x : Value) : Eight (w.setCell ⟨k, 3, none⟩ x) t k a b c x e f g p := (World.ownsRow.stored h 3 x).1
theorem Eight.s4 {w : World} {t : TypeId} {k : Nat} {a b c d e f g p : Value} (h : Eight w t k a b c d e f g p) (x : Value) : Eight (w.setCell ⟨k, 4, none⟩ x) t k a b c d x f g p := (World.ownsRow.stored h 4 x).1
theorem Eight.s5 {w : World} {t : TypeId} {k : Nat} {a b c d e f g p : Value} (h : Eight w t k a b c d e f g p) (x : Value) : Eight (w.setCell ⟨k, 5, none⟩ x) t k a b c d e x g p := (World.ownsRow.stored h 5 x).1
theorem Eight.s6 {w : World} {t : TypeId} {k : Nat} {a b c d e f g p : Value} (h : Eight w t k a b c d e f g p) (x : Value) : Eight (w.setCell ⟨k, 6, none⟩ x) t k a b c d e f x p := (World.ownsRow.stored h 6 x).1
theorem Eight.s7 {w : World} {t : TypeId} {k : Nat} {a b c d e f g p : Value} (h : Eight w t k a b c d e f g p) (x : Value) : Eight (w.setCell ⟨k, 7, none⟩ x) t k a b c d e f g x := (World.ownsRow.stored h 7 x).1
theorem Eight.other {w : World} {t : TypeId} {k : Nat} {a b c d e f g p : Value} (h : Eight w t k a b c d e f g p) {k' : Nat} (hk : k ≠ k') (j : Nat) (x : Value) : Eight (w.setCell ⟨k', j, none⟩ x) t k a b c d e f g p := ownsRow_setCell_other h (by simpa [Value.ownBlock] using hk) x
theorem Eight.lt {w : World} {t : TypeId} {k : Nat} {a b c d e f g p : Value} (h : Eight w t k a b c d e f g p) : k < w.heap.size := (World.ownsRow.lt h k rfl).2
theorem Mid.eight {lo hi : Nat} {w1 : World} {w : World} {t : TypeId} {k : Nat} {a b c d e f g p : Value} (h : Mid lo hi w w1) (hr : Eight w t k a b c d e f g p) (ho : k < lo ∨ hi ≤ k) : Eight w1 t k a b c d e f g p :=
  h.row hr (fun j hj => by simp [Value.ownBlock] at hj; omega)
theorem row_eight {w : World} {base : Nat} {e : TypeId} {size n : Nat} {v : Value} {xs : List Value} (h : w.ownsRow base e size v n xs) {k : Nat} (hk : k < base) (x0 x1 x2 x3 x4 x5 x6 x7 : Value) : ((((((((w.setCell ⟨k, 0, none⟩ x0).setCell ⟨k, 1, none⟩ x1).setCell ⟨k, 2, none⟩ x2).setCell ⟨k, 3, none⟩ x3).setCell ⟨k, 4, none⟩ x4).setCell ⟨k, 5, none⟩ x5).setCell ⟨k, 6, none⟩ x6).setCell ⟨k, 7, none⟩ x7).ownsRow base e size v n xs :=
  (ownsRow_setCell_below (ownsRow_setCell_below (ownsRow_setCell_below (ownsRow_setCell_below (ownsRow_setCell_below (ownsRow_setCell_below (ownsRow_setCell_below (ownsRow_setCell_below h (a := ⟨k, 0, none⟩) hk x0) (a := ⟨k, 1, none⟩) hk x1) (a := ⟨k, 2, none⟩) hk x2) (a := ⟨k, 3, none⟩) hk x3) (a := ⟨k, 4, none⟩) hk x4) (a := ⟨k, 5, none⟩) hk x5) (a := ⟨k, 6, none⟩) hk x6) (a := ⟨k, 7, none⟩) hk x7)
theorem below_eight {n k : Nat} {w W : World} (h : Below n w W) (hk : n ≤ k) (x0 x1 x2 x3 x4 x5 x6 x7 : Value) : Below n w ((((((((W.setCell ⟨k, 0, none⟩ x0).setCell ⟨k, 1, none⟩ x1).setCell ⟨k, 2, none⟩ x2).setCell ⟨k, 3, none⟩ x3).setCell ⟨k, 4, none⟩ x4).setCell ⟨k, 5, none⟩ x5).setCell ⟨k, 6, none⟩ x6).setCell ⟨k, 7, none⟩ x7) :=
  ((((((((h.setCell (p := ⟨k, 0, none⟩) hk x0).setCell (p := ⟨k, 1, none⟩) hk x1).setCell (p := ⟨k, 2, none⟩) hk x2).setCell (p := ⟨k, 3, none⟩) hk x3).setCell (p := ⟨k, 4, none⟩) hk x4).setCell (p := ⟨k, 5, none⟩) hk x5).setCell (p := ⟨k, 6, none⟩) hk x6).setCell (p := ⟨k, 7, none⟩) hk x7)

/-- 10 cells that are a block of their own. -/
def Ten (w : World) (t : TypeId) (k : Nat) (a b c d e f g p q r : Value) : Prop := w.ownsRow k t 10 (.slice (some ⟨k, 0, none⟩) 1 1) 1 [a, b, c, d, e, f, g, p, q, r]
theorem Ten.at (w : World) (a b c d e f g p q r : Value) (t : TypeId) {k : Nat} (hk : k = w.heap.size) : Ten (w.alloc (.cells #[a, b, c, d, e, f, g, p, q, r] t)) t k a b c d e f g p q r := by
  subst hk
  exact ⟨rfl, .inr ⟨w.heap.size, 1, #[a, b, c, d, e, f, g, p, q, r], rfl, Nat.le_refl _, by show (w.heap.push _)[w.heap.size]? = _; rw [Array.getElem?_push_size], Nat.le_refl _, by unfold maxLen; omega, rfl, rfl⟩⟩
theorem Ten.new (w : World) (a b c d e f g p q r : Value) (t : TypeId) : Ten (w.alloc (.cells #[a, b, c, d, e, f, g, p, q, r] t)) t w.heap.size a b c d e f g p q r := Ten.at w a b c d e f g p q r t rfl
theorem Ten.below {w' : World} {w : World} {t : TypeId} {k : Nat} {a b c d e f g p q r : Value} (h : Ten w t k a b c d e f g p q r) (hB : Below w.heap.size w w') : Ten w' t k a b c d e f g p q r := ownsRow_below h hB
theorem Ten.c {w : World} {t : TypeId} {k : Nat} {a b c d e f g p q r : Value} (h : Ten w t k a b c d e f g p q r) : w.cell? ⟨k, 0, none⟩ = some a ∧ w.cell? ⟨k, 1, none⟩ = some b ∧ w.cell? ⟨k, 2, none⟩ = some c ∧ w.cell? ⟨k, 3, none⟩ = some d ∧ w.cell? ⟨k, 4, none⟩ = some e ∧ w.cell? ⟨k, 5, none⟩ = some f ∧ w.cell? ⟨k, 6, none⟩ = some g ∧ w.cell? ⟨k, 7, none⟩ = some p ∧ w.cell? ⟨k, 8, none⟩ = some q ∧ w.cell? ⟨k, 9, none⟩ = some r :=
  ⟨World.ownsRow.cellAt h 0 (by omega), World.ownsRow.cellAt h 1 (by omega), World.ownsRow.cellAt h 2 (by omega), World.ownsRow.cellAt h 3 (by omega), World.ownsRow.cellAt h 4 (by omega), World.ownsRow.cellAt h 5 (by omega), World.ownsRow.cellAt h 6 (by omega), World.ownsRow.cellAt h 7 (by omega), World.ownsRow.cellAt h 8 (by omega), World.ownsRow.cellAt h 9 (by omega)⟩
theorem Ten.f {w : World} {t : TypeId} {k : Nat} {a b c d e f g p q r : Value} (h : Ten w t k a b c d e f g p q r) (j : Nat) : w.frozen? ⟨k, j, none⟩ = false := World.ownsRow.frozenAt h j
theorem Ten.s0 {w : World} {t : TypeId} {k : Nat} {a b c d e f g p q r : Value} (h : Ten w t k a b c d e f g p q r) (x : Value) : Ten (w.setCell ⟨k, 0, none⟩ x) t k x b c d e f g p q r := (World.ownsRow.stored h 0 x).1
theorem Ten.s1 {w : World} {t : TypeId} {k : Nat} {a b c d e f g p q r : Value} (h : Ten w t k a b c d e f g p q r) (x : Value) : Ten (w.setCell ⟨k, 1, none⟩ x) t k a x c d e f g p q r := (World.ownsRow.stored h 1 x).1
theorem Ten.s2 {w : World} {t : TypeId} {k : Nat} {a b c d e f g p q r : Value} (h : Ten w t k a b c d e f g p q r) (x : Value) : Ten (w.setCell ⟨k, 2, none⟩ x) t k a b x d e f g p q r := (World.ownsRow.stored h 2 x).1
theorem Ten.s3 {w : World} {t : TypeId} {k : Nat} {a b c d e f g p q r : Value} (h : Ten w t k a b c d e f g p q r) (x : Value) : Ten (w.setCell ⟨k, 3, none⟩ x) t k a b c x e f g p q r := (World.ownsRow.stored h 3 x).1
theorem Ten.s4 {w : World} {t : TypeId} {k : Nat} {a b c d e f g p q r : Value} (h : Ten w t k a b c d e f g p q r) (x : Value) : Ten (w.setCell ⟨k, 4, none⟩ x) t k a b c d x f g p q r := (World.ownsRow.stored h 4 x).1
theorem Ten.s5 {w : World} {t : TypeId} {k : Nat} {a b c d e f g p q r : Value} (h : Ten w t k a b c d e f g p q r) (x : Value) : Ten (w.setCell ⟨k, 5, none⟩ x) t k a b c d e x g p q r := (World.ownsRow.stored h 5 x).1
theorem Ten.s6 {w : World} {t : TypeId} {k : Nat} {a b c d e f g p q r : Value} (h : Ten w t k a b c d e f g p q r) (x : Value) : Ten (w.setCell ⟨k, 6, none⟩ x) t k a b c d e f x p q r := (World.ownsRow.stored h 6 x).1
theorem Ten.s7 {w : World} {t : TypeId} {k : Nat} {a b c d e f g p q r : Value} (h : Ten w t k a b c d e f g p q r) (x : Value) : Ten (w.setCell ⟨k, 7, none⟩ x) t k a b c d e f g x q r := (World.ownsRow.stored h 7 x).1
theorem Ten.s8 {w : World} {t : TypeId} {k : Nat} {a b c d e f g p q r : Value} (h : Ten w t k a b c d e f g p q r) (x : Value) : Ten (w.setCell ⟨k, 8, none⟩ x) t k a b c d e f g p x r := (World.ownsRow.stored h 8 x).1
theorem Ten.s9 {w : World} {t : TypeId} {k : Nat} {a b c d e f g p q r : Value} (h : Ten w t k a b c d e f g p q r) (x : Value) : Ten (w.setCell ⟨k, 9, none⟩ x) t k a b c d e f g p q x := (World.ownsRow.stored h 9 x).1
theorem Ten.other {w : World} {t : TypeId} {k : Nat} {a b c d e f g p q r : Value} (h : Ten w t k a b c d e f g p q r) {k' : Nat} (hk : k ≠ k') (j : Nat) (x : Value) : Ten (w.setCell ⟨k', j, none⟩ x) t k a b c d e f g p q r := ownsRow_setCell_other h (by simpa [Value.ownBlock] using hk) x
theorem Ten.lt {w : World} {t : TypeId} {k : Nat} {a b c d e f g p q r : Value} (h : Ten w t k a b c d e f g p q r) : k < w.heap.size := (World.ownsRow.lt h k rfl).2
theorem Mid.ten {lo hi : Nat} {w1 : World} {w : World} {t : TypeId} {k : Nat} {a b c d e f g p q r : Value} (h : Mid lo hi w w1) (hr : Ten w t k a b c d e f g p q r) (ho : k < lo ∨ hi ≤ k) : Ten w1 t k a b c d e f g p q r :=
  h.row hr (fun j hj => by simp [Value.ownBlock] at hj; omega)
theorem row_ten {w : World} {base : Nat} {e : TypeId} {size n : Nat} {v : Value} {xs : List Value} (h : w.ownsRow base e size v n xs) {k : Nat} (hk : k < base) (x0 x1 x2 x3 x4 x5 x6 x7 x8 x9 : Value) : ((((((((((w.setCell ⟨k, 0, none⟩ x0).setCell ⟨k, 1, none⟩ x1).setCell ⟨k, 2, none⟩ x2).setCell ⟨k, 3, none⟩ x3).setCell ⟨k, 4, none⟩ x4).setCell ⟨k, 5, none⟩ x5).setCell ⟨k, 6, none⟩ x6).setCell ⟨k, 7, none⟩ x7).setCell ⟨k, 8, none⟩ x8).setCell ⟨k, 9, none⟩ x9).ownsRow base e size v n xs :=
  (ownsRow_setCell_below (ownsRow_setCell_below (ownsRow_setCell_below (ownsRow_setCell_below (ownsRow_setCell_below (ownsRow_setCell_below (ownsRow_setCell_below (ownsRow_setCell_below (ownsRow_setCell_below (ownsRow_setCell_below h (a := ⟨k, 0, none⟩) hk x0) (a := ⟨k, 1, none⟩) hk x1) (a := ⟨k, 2, none⟩) hk x2) (a := ⟨k, 3, none⟩) hk x3) (a := ⟨k, 4, none⟩) hk x4) (a := ⟨k, 5, none⟩) hk x5) (a := ⟨k, 6, none⟩) hk x6) (a := ⟨k, 7, none⟩) hk x7) (a := ⟨k, 8, none⟩) hk x8) (a := ⟨k, 9, none⟩) hk x9)
theorem below_ten {n k : Nat} {w W : World} (h : Below n w W) (hk : n ≤ k) (x0 x1 x2 x3 x4 x5 x6 x7 x8 x9 : Value) : Below n w ((((((((((W.setCell ⟨k, 0, none⟩ x0).setCell ⟨k, 1, none⟩ x1).setCell ⟨k, 2, none⟩ x2).setCell ⟨k, 3, none⟩ x3).setCell ⟨k, 4, none⟩ x4).setCell ⟨k, 5, none⟩ x5).setCell ⟨k, 6, none⟩ x6).setCell ⟨k, 7, none⟩ x7).setCell ⟨k, 8, none⟩ x8).setCell ⟨k, 9, none⟩ x9) :=
  ((((((((((h.setCell (p := ⟨k, 0, none⟩) hk x0).setCell (p := ⟨k, 1, none⟩) hk x1).setCell (p := ⟨k, 2, none⟩) hk x2).setCell (p := ⟨k, 3, none⟩) hk x3).setCell (p := ⟨k, 4, none⟩) hk x4).setCell (p := ⟨k, 5, none⟩) hk x5).setCell (p := ⟨k, 6, none⟩) hk x6).setCell (p := ⟨k, 7, none⟩) hk x7).setCell (p := ⟨k, 8, none⟩) hk x8).setCell (p := ⟨k, 9, none⟩) hk x9)

end Go.Proofs.YtjnajdilllkpcaaGreat

namespace Go.Proofs.YtjnajdilllkpcaaGreat
open Go.RowKit Go.Shelf

theorem cmX_no {s : Sd} {m : Ml} (h : ((m.no == (s.ha.length : Int)) && ((miT s s.ha.length).isEmpty && snB (nxS s))) = false) : cmX s m = s := if_neg (by rw [h]; exact Bool.false_ne_true)
theorem cmX_yes {s : Sd} {m : Ml} (h : ((m.no == (s.ha.length : Int)) && ((miT s s.ha.length).isEmpty && snB (nxS s))) = true) : cmX s m = ⟨nxS s, 0, [], [], []⟩ := if_pos h
theorem nx_short {s : Sd} (hs : s.short) (hh : s.ha.length ≤ 230) : (nxS s).short := by
  obtain ⟨_, _, _, _, hr⟩ := hs
  refine ⟨?_, ?_, ?_⟩
  · have h1 := plTo_len (rs := cmR s s.ha.length) _ (Nat.le_refl _)
    have h2 := cmR_len s s.ha.length
    unfold nxS
    dsimp only
    omega
  · have h1 := srN_len (cmN s s.ha.length)
    have h2 := cmN_len s s.ha.length
    unfold nxS
    dsimp only
    omega
  · intro r h
    have h1 := (plTo_mem (rs := cmR s s.ha.length) _ (Nat.le_refl _) r).1 h
    rw [List.take_length] at h1
    exact cmR_size hr r h1
theorem eq_of_not_bne {a b : Int} (h : (a != b) = false) : (a == b) = true := by simpa using h
theorem cell_four_at {w : World} {k : Nat} (hk : k = w.heap.size) (r : Ru) : ∀ j u, r.cells[j]? = some u → (w.alloc (.cells #[.bool r.deny, .string r.who, .string r.method, .string r.path] 31)).cell? ((⟨k, 0, none⟩ : Addr).add j) = some u := by
  subst hk
  exact cell_four_new w r

theorem row_low {B : Nat} {w w' : World} {base : Nat} {e : TypeId} {size n : Nat} {v : Value} {xs : List Value} (h : w.ownsRow base e size v n xs) (hB : Below B w w') (hv : ∀ j, v.ownBlock = some j → j < B) : w'.ownsRow base e size v n xs := by
  obtain ⟨hl, hr⟩ := h
  refine ⟨hl, ?_⟩
  rcases hr with h0 | ⟨g, cap, cur, rfl, hg, hh, hrest⟩
  · exact .inl h0
  · exact .inr ⟨g, cap, cur, rfl, hg, (hB.block g (hv g rfl)).trans hh, hrest⟩
theorem step_appT {P : Program} {w : World} {ops : Array Oper} {o : Oper} {a : Act} {K : Act → World → Prop} {Q : Exit → Act → World → Prop} {E : Prop} (hgd : o.guard = none) (s x : Operand) (t : TypeId)
    (ho : o.op = .call { callee := .builtin .append, args := #[s, x], argTypes := #[t, t] })
    (base : Nat) (e : TypeId) (i : TypeInfo) (z : Value) (size bytes : Nat) (ht : P.underlying t = some (.slice e)) (hi : P.info? e = some i) (hz : i.zero = some z)
    (hsize : i.size = size) (hby : i.bytes = bytes) (hzs : z.cells.size = size) (hsz : 0 < size)
    (v : Value) (n : Nat) (xs : List Value) (hs : a.eval s = v) (hown : w.ownsRow base e size v n xs)
    (ad : Addr) (m c : Nat) (news : List Value) (hx : a.eval x = .slice (some ad) m c) (hl : news.length = m * size) (hnews : ∀ j u, news[j]? = some u → w.cell? (ad.add j) = some u) (h1 : ∀ u ∈ news, u.oneCell' = true)
    (h63 : n + m ≤ maxLen) (hbytes : (n + m) * bytes ≤ 140737488355328) (hbase : base ≤ w.heap.size)
    (h : ∀ v' w', w'.ownsRow base e size v' (n + m) (xs ++ news) → w.grownBy w' v.ownBlock → K (a.put o.dst v') w') :
    if Region.wanted o (yielded ops a.tmps) = true then Oper.wp P o a w K Q else E := by
  have hw : Region.wanted o (yielded ops a.tmps) = true := by simp [Region.wanted, hgd]
  rw [if_pos hw]
  exact wp_append_own w s x t ho base e i z size bytes ht hi hz hsize hby hzs hsz v n xs hs hown ad m c news hx hl hnews h1 h63 hbytes hbase (fun v' w' h1 h2 _ => h v' w' h1 h2)
theorem Ru.ones (r : Ru) : ∀ u ∈ r.cells, u.oneCell' = true := by
  intro u hu
  simp only [List.mem_cons, List.not_mem_nil, or_false] at hu
  rcases hu with rfl | rfl | rfl | rfl <;> rfl
/-- The version that comes together: its block, its rules and serials. -/
structure CmI (W wr : World) (k5 : Nat) (co : Int) (vR vN : Value) (lR : List Ru) (lN : List Int) : Prop where
  t : Three wr 26 k5 (.int .i64 co) vR vN
  r : wr.ownsRow W.heap.size 31 4 vR lR.length (lR.flatMap Ru.cells)
  n : wr.ownsRow W.heap.size 3 1 vN lN.length (nums lN)
  b : Below k5 W wr
  k : k5 < W.heap.size
theorem CmI.new {W wr : World} {k5 : Nat} {co : Int} {vR vN : Value} {lR : List Ru} {lN : List Int} (h : CmI W wr k5 co vR vN lR lN) (o : Obj) : CmI W (wr.alloc o) k5 co vR vN lR lN :=
  ⟨World.ownsRow.alloc h.t o, h.r.alloc o, h.n.alloc o, h.b.alloc (Nat.le_trans (Nat.le_of_lt h.k) h.b.size) o, h.k⟩
theorem CmI.drew {W wr : World} {k5 : Nat} {co : Int} {vR vN : Value} {lR : List Ru} {lN : List Int} (h : CmI W wr k5 co vR vN lR lN) : CmI W wr.drew k5 co vR vN lR lN :=
  ⟨World.ownsRow.drew h.t, h.r.drew, h.n.drew, ⟨h.b.os, h.b.tape, h.b.output, h.b.size, h.b.block⟩, h.k⟩
theorem CmI.putR {W wr w3 : World} {k5 : Nat} {co : Int} {vR vN v3 : Value} {lR : List Ru} {lN : List Int} {r : Ru} (h : CmI W wr k5 co vR vN lR lN) (o3 : w3.ownsRow W.heap.size 31 4 v3 (lR.length + 1) (lR.flatMap Ru.cells ++ r.cells)) (g3 : wr.grownBy w3 vR.ownBlock) : CmI W (w3.setCell ⟨k5, 1, none⟩ v3) k5 co v3 vN (lR ++ [r]) lN := by
  have hk := h.k
  have t3 : Three w3 26 k5 (.int .i64 co) vR vN := World.ownsRow.kept h.t g3 (.inr (fun e => by have h1 := (h.r.lt k5 (by rw [← e]; rfl)).1; omega))
  have n3 := kept_apart h.n g3 (row_apart h.n h.r (by decide))
  refine ⟨t3.s1 v3, ?_, ownsRow_setCell_below n3 (by simpa using hk) v3, ?_, hk⟩
  · have q := ownsRow_setCell_below o3 (a := ⟨k5, 1, none⟩) (by simpa using hk) v3
    simpa using q
  · exact (h.b.grown g3 (Nat.le_trans (Nat.le_of_lt hk) h.b.size) (fun j e => by have := (h.r.lt j e).1; omega)).setCell (by simp) v3
theorem CmI.putN {W wr w3 : World} {k5 : Nat} {co : Int} {vR vN v3 : Value} {lR : List Ru} {lN : List Int} {z : Int} (h : CmI W wr k5 co vR vN lR lN) (o3 : w3.ownsRow W.heap.size 3 1 v3 (lN.length + 1) (nums lN ++ [.int .i64 z])) (g3 : wr.grownBy w3 vN.ownBlock) : CmI W (w3.setCell ⟨k5, 2, none⟩ v3) k5 co vR v3 lR (lN ++ [z]) := by
  have hk := h.k
  have t3 : Three w3 26 k5 (.int .i64 co) vR vN := World.ownsRow.kept h.t g3 (.inr (fun e => by have h1 := (h.n.lt k5 (by rw [← e]; rfl)).1; omega))
  have n3 := kept_apart h.r g3 (row_apart h.r h.n (by decide))
  refine ⟨t3.s2 v3, ownsRow_setCell_below n3 (by simpa using hk) v3, ?_, ?_, hk⟩
  · have q := ownsRow_setCell_below o3 (a := ⟨k5, 2, none⟩) (by simpa using hk) v3
    simpa [nums] using q
  · exact (h.b.grown g3 (Nat.le_trans (Nat.le_of_lt hk) h.b.size) (fun j e => by have := (h.n.lt j e).1; omega)).setCell (by simp) v3

set_option maxHeartbeats 8000000 in
set_option maxRecDepth 100000 in
theorem l6Commit_any (v : Value) (s : Sd) (m : Ml) (w : World) (hs : s.short) (hg : sdB s = true) (hl : loB s) (h : SdR w v s) :
    Calls Tryz.prog 42 #[v, m.val] w fun e w' => ∃ v', e = .returned v' ∧ ((v' = v ∧ cmX s m = s) ∨ SdO w' w.heap.size w'.heap.size v' (cmX s m)) ∧ Below w.heap.size w w' := by
  have h' := h
  obtain ⟨e1, e2, e3⟩ := lnB_parts (sd_parts hg).2.1
  have HN := hid (nx_short hs e3)
  obtain ⟨vp, vr, vu, vh, vs, rfl, h1, h2, h3, h4, h5⟩ := h
  have hs' := hs
  obtain ⟨hf, l3, l4, l5, lr⟩ := hs
  obtain ⟨ap, cp, rfl⟩ := h1.len
  obtain ⟨ar, cr, rfl⟩ := h2.len
  obtain ⟨au, cu, rfl⟩ := h3.len
  obtain ⟨ah, ch, rfl⟩ := h4.s.bolLen
  obtain ⟨ai, ci, rfl⟩ := h5.len
  obtain ⟨iw, hiw, hw0, hw1, hw2⟩ := info_parts infoRule
  obtain ⟨ii, hii, hi0, hi1, hi2⟩ := info_parts infoInt
  have hle : s.ru.length ≤ 230 := by omega
  have E1 := hid e1
  have E2 := hid e2
  clear e1 e2
  have hB0 : Below w.heap.size w (((w.alloc (.cells #[.int .i64 s.fo.num, .slice ap s.fo.pol.length cp, .slice ar s.fo.rv.length cr, .int .i64 s.co, .slice au s.ru.length cu, .slice ah s.ha.length ch, .slice ai s.se.length ci] 29)).alloc (.cells #[.int .i64 m.kd, .int .i64 m.ver, .int .i64 m.no, .bool m.ru.deny, .string m.ru.who, .string m.ru.method, .string m.ru.path, .int .i64 m.se] 33)).alloc (.cells #[.int .i64 0, .slice none 0 0, .slice none 0 0, .int .i64 0, .slice none 0 0, .slice none 0 0, .slice none 0 0] 29)) := (((Below.refl _ w).alloc (Nat.le_refl _) _).alloc (by simp) _).alloc (by simp; omega) _
  have F := ((Seven.new w (.int .i64 s.fo.num) (.slice ap s.fo.pol.length cp) (.slice ar s.fo.rv.length cr) (.int .i64 s.co) (.slice au s.ru.length cu) (.slice ah s.ha.length ch) (.slice ai s.se.length ci) 29).below ((Below.refl _ _).alloc (Nat.le_refl _) (.cells #[.int .i64 m.kd, .int .i64 m.ver, .int .i64 m.no, .bool m.ru.deny, .string m.ru.who, .string m.ru.method, .string m.ru.path, .int .i64 m.se] 33))).below ((Below.refl _ _).alloc (Nat.le_refl _) (.cells #[.int .i64 0, .slice none 0 0, .slice none 0 0, .int .i64 0, .slice none 0 0, .slice none 0 0, .slice none 0 0] 29))
  have FM := (Eight.at (w.alloc (.cells #[.int .i64 s.fo.num, .slice ap s.fo.pol.length cp, .slice ar s.fo.rv.length cr, .int .i64 s.co, .slice au s.ru.length cu, .slice ah s.ha.length ch, .slice ai s.se.length ci] 29)) (.int .i64 m.kd) (.int .i64 m.ver) (.int .i64 m.no) (.bool m.ru.deny) (.string m.ru.who) (.string m.ru.method) (.string m.ru.path) (.int .i64 m.se) 33 (k := w.heap.size + 1) (by simp)).below ((Below.refl _ _).alloc (Nat.le_refl _) (.cells #[.int .i64 0, .slice none 0 0, .slice none 0 0, .int .i64 0, .slice none 0 0, .slice none 0 0, .slice none 0 0] 29))
  have F2 := Seven.at ((w.alloc (.cells #[.int .i64 s.fo.num, .slice ap s.fo.pol.length cp, .slice ar s.fo.rv.length cr, .int .i64 s.co, .slice au s.ru.length cu, .slice ah s.ha.length ch, .slice ai s.se.length ci] 29)).alloc (.cells #[.int .i64 m.kd, .int .i64 m.ver, .int .i64 m.no, .bool m.ru.deny, .string m.ru.who, .string m.ru.method, .string m.ru.path, .int .i64 m.se] 33)) (.int .i64 0) (.slice none 0 0) (.slice none 0 0) (.int .i64 0) (.slice none 0 0) (.slice none 0 0) (.slice none 0 0) 29 (k := w.heap.size + 1 + 1) (by simp)
  have hk2 := F2.lt
  go_enter Tryz.func42, Tryz.ntmps42
  go_upto_region 1 with fail
  generalize ((w.alloc (.cells #[.int .i64 s.fo.num, .slice ap s.fo.pol.length cp, .slice ar s.fo.rv.length cr, .int .i64 s.co, .slice au s.ru.length cu, .slice ah s.ha.length ch, .slice ai s.se.length ci] 29)).alloc (.cells #[.int .i64 m.kd, .int .i64 m.ver, .int .i64 m.no, .bool m.ru.deny, .string m.ru.who, .string m.ru.method, .string m.ru.path, .int .i64 m.se] 33)).alloc (.cells #[.int .i64 0, .slice none 0 0, .slice none 0 0, .int .i64 0, .slice none 0 0, .slice none 0 0, .slice none 0 0] 29) = W0 at *
  obtain ⟨a0, a1, a2, a3, a4, a5, a6⟩ := F.c
  have m2 := FM.c.2.2.1
  cases hc1 : (m.no != (s.ha.length : Int))
  case true =>
    have HR := hid (cmX_no (s := s) (m := m) (by rw [show (m.no == (s.ha.length : Int)) = false by simpa using hc1]; rfl))
    obtain ⟨r0, r1, r2, r3, r4, r5, r6⟩ := F2.c
    have f0 := F2.f 0
    have f1 := F2.f 1
    have f2 := F2.f 2
    have f3 := F2.f 3
    have f4 := F2.f 4
    have f5 := F2.f 5
    have f6 := F2.f 6
    have G3 := ((((((F2.s0 (.int .i64 s.fo.num)).s1 (.slice ap s.fo.pol.length cp)).s2 (.slice ar s.fo.rv.length cr)).s3 (.int .i64 s.co)).s4 (.slice au s.ru.length cu)).s5 (.slice ah s.ha.length ch)).s6 (.slice ai s.se.length ci)
    have pB := below_seven hB0 (k := w.heap.size + 1 + 1) (by omega) (.int .i64 s.fo.num) (.slice ap s.fo.pol.length cp) (.slice ar s.fo.rv.length cr) (.int .i64 s.co) (.slice au s.ru.length cu) (.slice ah s.ha.length ch) (.slice ai s.se.length ci)
    go_wp2_with fail
    clear r0 r1 r2 r3 r4 r5 r6 f0 f1 f2 f3 f4 f5 f6 F2
    generalize ((((((W0.setCell ⟨w.heap.size + 1 + 1, 0, none⟩ (.int .i64 s.fo.num)).setCell ⟨w.heap.size + 1 + 1, 1, none⟩ (.slice ap s.fo.pol.length cp)).setCell ⟨w.heap.size + 1 + 1, 2, none⟩ (.slice ar s.fo.rv.length cr)).setCell ⟨w.heap.size + 1 + 1, 3, none⟩ (.int .i64 s.co)).setCell ⟨w.heap.size + 1 + 1, 4, none⟩ (.slice au s.ru.length cu)).setCell ⟨w.heap.size + 1 + 1, 5, none⟩ (.slice ah s.ha.length ch)).setCell ⟨w.heap.size + 1 + 1, 6, none⟩ (.slice ai s.se.length ci) = W9 at *
    obtain ⟨d0, d1, d2, d3, d4, d5, d6⟩ := G3.c
    exact bodyPost_ret (v := .agg #[.int .i64 s.fo.num, .slice ap s.fo.pol.length cp, .slice ar s.fo.rv.length cr, .int .i64 s.co, .slice au s.ru.length cu, .slice ah s.ha.length ch, .slice ai s.se.length ci]) (by simp [results, Tryz.results42, go_sem, d0, d1, d2, d3, d4, d5, d6]) rfl ⟨_, rfl, .inl ⟨rfl, HR.out⟩, pB⟩
  have hc0 := eq_of_not_bne hc1
  go_wp2_with fail
  refine (l6Missing_any _ s _ hs' (h'.below hB0).a).mono ?_
  rintro e w1 ⟨u1, rfl, o1, hB1⟩
  obtain ⟨x1, z1, rfl⟩ := VS.numLen (NuR.own o1).s
  replace F := F.below hB1
  replace F2 := F2.below hB1
  replace hB0 := below_one hB0 hB1
  have hsz1 := hB1.size
  clear hB1 a0 a1 a2 a3 a4 a5 a6 m2 FM o1
  obtain ⟨a0, a1, a2, a3, a4, a5, a6⟩ := F.c
  cases hc2 : decide (0 < (miT s s.ha.length).length)
  case true =>
    have HR := hid (cmX_no (s := s) (m := m) (by rw [show (miT s s.ha.length).isEmpty = false by cases hq : miT s s.ha.length with | nil => (rw [hq] at hc2; simp at hc2) | cons _ _ => rfl]; simp))
    obtain ⟨r0, r1, r2, r3, r4, r5, r6⟩ := F2.c
    have f0 := F2.f 0
    have f1 := F2.f 1
    have f2 := F2.f 2
    have f3 := F2.f 3
    have f4 := F2.f 4
    have f5 := F2.f 5
    have f6 := F2.f 6
    have G3 := ((((((F2.s0 (.int .i64 s.fo.num)).s1 (.slice ap s.fo.pol.length cp)).s2 (.slice ar s.fo.rv.length cr)).s3 (.int .i64 s.co)).s4 (.slice au s.ru.length cu)).s5 (.slice ah s.ha.length ch)).s6 (.slice ai s.se.length ci)
    have pB := below_seven hB0 (k := w.heap.size + 1 + 1) (by omega) (.int .i64 s.fo.num) (.slice ap s.fo.pol.length cp) (.slice ar s.fo.rv.length cr) (.int .i64 s.co) (.slice au s.ru.length cu) (.slice ah s.ha.length ch) (.slice ai s.se.length ci)
    go_wp2_with fail
    clear r0 r1 r2 r3 r4 r5 r6 f0 f1 f2 f3 f4 f5 f6 F2
    generalize ((((((w1.setCell ⟨w.heap.size + 1 + 1, 0, none⟩ (.int .i64 s.fo.num)).setCell ⟨w.heap.size + 1 + 1, 1, none⟩ (.slice ap s.fo.pol.length cp)).setCell ⟨w.heap.size + 1 + 1, 2, none⟩ (.slice ar s.fo.rv.length cr)).setCell ⟨w.heap.size + 1 + 1, 3, none⟩ (.int .i64 s.co)).setCell ⟨w.heap.size + 1 + 1, 4, none⟩ (.slice au s.ru.length cu)).setCell ⟨w.heap.size + 1 + 1, 5, none⟩ (.slice ah s.ha.length ch)).setCell ⟨w.heap.size + 1 + 1, 6, none⟩ (.slice ai s.se.length ci) = W9 at *
    obtain ⟨d0, d1, d2, d3, d4, d5, d6⟩ := G3.c
    exact bodyPost_ret (v := .agg #[.int .i64 s.fo.num, .slice ap s.fo.pol.length cp, .slice ar s.fo.rv.length cr, .int .i64 s.co, .slice au s.ru.length cu, .slice ah s.ha.length ch, .slice ai s.se.length ci]) (by simp [results, Tryz.results42, go_sem, d0, d1, d2, d3, d4, d5, d6]) rfl ⟨_, rfl, .inl ⟨rfl, HR.out⟩, pB⟩
  have hem : (miT s s.ha.length).isEmpty = true := by
    cases hq : miT s s.ha.length with
    | nil => rfl
    | cons _ _ => rw [hq] at hc2; simp at hc2
  have HF := hid (loB_few hl hem)
  have hBs : Below w1.heap.size w1 (w1.alloc (.cells #[.int .i64 s.co, .slice none 0 0, .slice none 0 0] 26)) := (Below.refl _ _).alloc (Nat.le_refl _) _
  have F3 := Three.new w1 (.int .i64 s.co) (.slice none 0 0) (.slice none 0 0) 26
  replace F := F.below hBs
  replace F2 := F2.below hBs
  have hb9 : w1.heap.size < (w1.alloc (.cells #[.int .i64 s.co, .slice none 0 0, .slice none 0 0] 26)).heap.size := F3.lt
  replace hB0 := below_one hB0 hBs
  clear hBs
  go_upto_region 4 with fail
  clear a0 a1 a2 a3 a4 a5 a6
  generalize w1.alloc (.cells #[.int .i64 s.co, .slice none 0 0, .slice none 0 0] 26) = W2 at *
  obtain ⟨a0, a1, a2, a3, a4, a5, a6⟩ := F.c
  go_wp2_with fail
  clear a0 a1 a2 a3 a4 a5 a6
  have F0 := hid F
  go_loopw [27] (fun i wr => ∃ (k : Nat) (vR vN : Value), k ≤ s.ru.length ∧ i = .int .i64 k ∧ CmI W2 wr w1.heap.size s.co vR vN (cmR s k) (cmN s k)) (fun i _ => s.ru.length - (intOf i).toNat)
  case atStart => exact ⟨0, _, _, Nat.zero_le _, rfl, ⟨F3, World.ownsRow_nil _ _ _ _, World.ownsRow_nil _ _ _ _, Below.refl _ _, hb9⟩⟩
  case round =>
    obtain ⟨k, vR, vN, hk, rfl, C⟩ := hrel
    have hlR := cmR_len s k
    have hlN := cmN_len s k
    have hBr : Below w.heap.size w wr := hB0.trans (C.b.mono (by omega))
    have hW := C.b.size
    replace F : Seven wr _ _ _ _ _ _ _ _ _ := row_low F C.b (fun j e => by simp [Value.ownBlock] at e; omega)
    by_cases hlt : k < s.ru.length
    · have hlz : k < s.se.length := by rw [E2.out, ← E1.out]; exact hlt
      obtain ⟨b, off, rfl, hb, hcap, q0, q1, q2, q3⟩ := (h3.s.below hBr).at hlt
      obtain ⟨bz, oz, rfl, hbz, hcz, p0⟩ := (h5.s.below hBr).num hlz
      have HRy := hid (fun h => cmR_yes (s := s) hlz hlt h)
      have HRn := hid (fun h => cmR_no (s := s) hlz h)
      have HNy := hid (fun h => cmN_yes (s := s) hlz h)
      have HNn := hid (fun h => cmN_no (s := s) hlz h)
      generalize s.ru[k] = r at *
      generalize s.se[k] = z at *
      have hBw : Below wr.heap.size wr (wr.alloc (.cells #[.bool r.deny, .string r.who, .string r.method, .string r.path] 31)) := (Below.refl _ wr).alloc (Nat.le_refl _) _
      have FR := Four.new wr (.bool r.deny) (.string r.who) (.string r.method) (.string r.path) 31
      replace F := F.below hBw
      replace C := C.new (.cells #[.bool r.deny, .string r.who, .string r.method, .string r.path] 31)
      have hbq : bz < (wr.alloc (.cells #[.bool r.deny, .string r.who, .string r.method, .string r.path] 31)).heap.size := by simp; omega
      have pz := (hBw.cell (p := ⟨bz, oz + k, none⟩) hbz).trans p0
      have hwx : wr.heap.size < (wr.alloc (.cells #[.bool r.deny, .string r.who, .string r.method, .string r.path] 31)).heap.size := by simp
      clear hBw p0
      obtain ⟨a0, a1, a2, a3, a4, a5, a6⟩ := F.c
      have hk0 := F.lt
      cases hcz0 : (z != 0)
      · have hz0 : z = 0 := by simpa using hcz0
        have HR := hid (HRy.out hz0)
        have HM := hid (HNn.out hz0)
        clear HRy HRn HNy HNn hz0
        generalize cmR s k = lR at *
        generalize cmN s k = lN at *
        go_upto_region 9 with fail
        clear q0 q1 q2 q3 pz a0 a1 a2 a3 a4 a5 a6
        generalize wr.alloc (.cells #[.bool r.deny, .string r.who, .string r.method, .string r.path] 31) = Wr at *
        obtain ⟨g0, g1, g2⟩ := C.t.c
        obtain ⟨t0, t1, t2, t3⟩ := FR.c
        have hlt5 := C.t.lt
        rcases row_form C.r with ⟨rfl, hl0⟩ | ⟨go, capo, rfl, hgo, hcapo⟩
        · obtain rfl : lR = [] := List.eq_nil_of_length_eq_zero hl0
          go_wp2_with (at_builtin; refine wpList_append_own _ rfl _ _ 23 rfl W2.heap.size 31 iw _ 4 56 Tryz.underlying23 hiw hw0 hw1 hw2 rfl (by decide) _ _ _ rfl (C.r.alloc _) ⟨Wr.heap.size, 0, none⟩ 1 1 r.cells rfl rfl (cell_four_new _ _) (Ru.ones r) (by unfold maxLen; first | omega | (simp <;> omega)) (by first | omega | (simp <;> omega)) (by first | omega | (simp <;> omega)) ?_)
          intro u' w3 o3 g3 _
          obtain ⟨g', cap3, rfl⟩ := ownsRow_succ o3
          clear g0 g1 g2 t0 t1 t2 t3
          have C3 := (C.new (.cells #[.bool r.deny, .string r.who, .string r.method, .string r.path] 31)).putR (r := r) o3 g3
          have t3 : Three w3 _ _ _ _ _ := World.ownsRow.kept (C.t.below ((Below.refl _ Wr).alloc (Nat.le_refl _) (.cells #[.bool r.deny, .string r.who, .string r.method, .string r.path] 31))) g3 (.inr (fun e => by cases e))
          obtain ⟨g0, g1, g2⟩ := t3.c
          have fx := t3.f 1
          go_wp2_with fail
          go_roundw
          case rel => exact ⟨k + 1, _, _, by omega, by go_num, by rw [HR.out, HM.out]; exact C3⟩
          case measure => simp [intOf]; omega
        · go_wp2_with (at_builtin; refine wpList_append_own _ rfl _ _ 23 rfl W2.heap.size 31 iw _ 4 56 Tryz.underlying23 hiw hw0 hw1 hw2 rfl (by decide) _ _ _ rfl (C.r.alloc _) ⟨Wr.heap.size, 0, none⟩ 1 1 r.cells rfl rfl (cell_four_new _ _) (Ru.ones r) (by unfold maxLen; first | omega | (simp <;> omega)) (by first | omega | (simp <;> omega)) (by first | omega | (simp <;> omega)) ?_)
          intro u' w3 o3 g3 _
          obtain ⟨g', cap3, rfl⟩ := ownsRow_succ o3
          clear g0 g1 g2 t0 t1 t2 t3
          have C3 := (C.new (.cells #[.bool r.deny, .string r.who, .string r.method, .string r.path] 31)).putR (r := r) o3 g3
          have t3 : Three w3 _ _ _ _ _ := World.ownsRow.kept (C.t.below ((Below.refl _ Wr).alloc (Nat.le_refl _) (.cells #[.bool r.deny, .string r.who, .string r.method, .string r.path] 31))) g3 (.inr (fun e => by have h1 := (C.r.lt w1.heap.size e.symm).1; have := C.k; omega))
          obtain ⟨g0, g1, g2⟩ := t3.c
          have fx := t3.f 1
          go_wp2_with fail
          go_roundw
          case rel => exact ⟨k + 1, _, _, by omega, by go_num, by rw [HR.out, HM.out]; exact C3⟩
          case measure => simp [intOf]; omega
      · have hz0 : z ≠ 0 := by simpa using hcz0
        have HR := hid (HRn.out hz0)
        have HM := hid (HNy.out hz0)
        clear HRy HRn HNy HNn hz0
        generalize cmR s k = lR at *
        generalize cmN s k = lN at *
        go_upto_region 8 with fail
        clear q0 q1 q2 q3 a0 a1 a2 a3 a4 a5 a6
        generalize wr.alloc (.cells #[.bool r.deny, .string r.who, .string r.method, .string r.path] 31) = Wr at *
        have Cd := C.drew
        have Fd : Seven Wr.drew _ _ _ _ _ _ _ _ _ := World.ownsRow.drew F
        have pd : Wr.drew.cell? ⟨bz, oz + k, none⟩ = some (.int .i64 z) := pz
        have hkd : w.heap.size < Wr.drew.heap.size := hk0
        have hbd : bz < Wr.drew.heap.size := hbq
        clear C F pz hk0 hbq FR
        have hnw : ((oz + k : Nat) : Int) = (oz : Int) + k := by omega
        rcases row_form Cd.n with ⟨rfl, hl0⟩ | ⟨go, capo, rfl, hgo, hcapo⟩
        · obtain rfl : lN = [] := List.eq_nil_of_length_eq_zero hl0
          refine wp_region_held_drew (S := fun _ => True) (by kernel_rfl) trivial (fun hHeld => ?_)
          generalize Wr.drew = We at *
          obtain ⟨a0, a1, a2, a3, a4, a5, a6⟩ := Fd.c
          obtain ⟨c0, c1, c2⟩ := Cd.t.c
          refine takeW 0 (v := ?v1) rfl (by kernel_rfl) (by kernel_rfl) (by kernel_rfl) (fun _ _ _ h => h) (by rfl) (by assumption) ?hy1 ?rest1
          case hy1 => intro w' hSw; (try dsimp only at hSw); go_simp; try with_reducible rfl
          try simp only [Act.put, List.setIfInBounds_toArray, List.set_cons_zero, List.set_cons_succ]
          refine takeW 2 (v := ?v2) rfl (by kernel_rfl) (by kernel_rfl) (by kernel_rfl) (fun _ _ _ h => h) (by rfl) (by assumption) ?hy2 ?rest2
          case hy2 => intro w' hSw; (try dsimp only at hSw); go_simp; try with_reducible rfl
          try simp only [Act.put, List.setIfInBounds_toArray, List.set_cons_zero, List.set_cons_succ]
          refine takeW 4 (v := ?v3) rfl (by kernel_rfl) (by kernel_rfl) (by kernel_rfl) (fun _ _ _ h => h) (by rfl) (by assumption) ?hy3 ?rest3
          case hy3 => intro w' hSw; (try dsimp only at hSw); go_simp; try with_reducible rfl
          try simp only [Act.put, List.setIfInBounds_toArray, List.set_cons_zero, List.set_cons_succ]
          refine takeC2 1 3 (by kernel_rfl) rfl rfl (fun K hK => ?_) (fun K hK => ?_)
          · go_simp
            skip
            refine hK.out _ _ ?_ (fun hHeld => ?_)
            · trivial
            clear hK K
            try simp only [Act.put, List.setIfInBounds_toArray, List.set_cons_zero, List.set_cons_succ]
            refine takeC 3 (by kernel_rfl) rfl (fun K hK => ?_)
            go_simp
            skip
            refine hK.out _ _ ?_ (fun hHeld => ?_)
            · trivial
            clear hK K
            try simp only [Act.put, List.setIfInBounds_toArray, List.set_cons_zero, List.set_cons_succ]
            refine takeW 5 (v := ?v4) rfl (by kernel_rfl) (by kernel_rfl) (by kernel_rfl) (fun _ _ _ h => h) (by rfl) (by assumption) ?hy4 ?rest4
            case hy4 => intro w' hSw; (try dsimp only at hSw); go_simp; try with_reducible rfl
            try simp only [Act.put, List.setIfInBounds_toArray, List.set_cons_zero, List.set_cons_succ]
            refine takeC 6 (by kernel_rfl) rfl (fun K hK => ?_)
            go_simp
            skip
            refine hK.out _ _ ?_ (fun hHeld => ?_)
            · trivial
            clear hK K
            try simp only [Act.put, List.setIfInBounds_toArray, List.set_cons_zero, List.set_cons_succ]
            refine takeC 7 (by kernel_rfl) rfl (fun K hK => ?_)
            go_simp
            skip
            refine hK.out _ _ ?_ (fun hHeld => ?_)
            · trivial
            clear hK K
            try simp only [Act.put, List.setIfInBounds_toArray, List.set_cons_zero, List.set_cons_succ]
            clear c0 c1 c2 a0 a1 a2 a3 a4 a5 a6
            have Ca := Cd.new (.cells #[.int .i64 z] 3)
            refine takeC 8 (by kernel_rfl) rfl (fun K hK => ?_)
            refine step_appT rfl (.tmp 39) (.tmp 45) 24 rfl W2.heap.size 3 ii _ 1 8 Tryz.underlying24 hii hi0 hi1 hi2 rfl (by decide) _ _ _ rfl Ca.n ⟨We.heap.size, 0, none⟩ 1 1 [.int .i64 z] rfl rfl (cell_one_new _ _ _) (by intro u hu; simp at hu; subst hu; rfl) (by unfold maxLen; first | omega | (simp <;> omega)) (by first | omega | (simp <;> omega)) (Nat.le_trans Ca.b.size (Nat.le_refl _)) ?_; intro u' w3 o3 g3; obtain ⟨g', cap3, rfl⟩ := ownsRow_succ o3; have C3 := Ca.putN (z := z) o3 g3; have t3 : Three w3 _ _ _ _ _ := World.ownsRow.kept Ca.t g3 (.inr (fun e => by cases e)); obtain ⟨c0, c1, c2⟩ := t3.c; have fx := t3.f 2
            refine hK.out _ _ ?_ (fun hHeld => ?_)
            · trivial
            clear hK K
            try simp only [Act.put, List.setIfInBounds_toArray, List.set_cons_zero, List.set_cons_succ]
            refine takeW 9 (v := ?v5) rfl (by kernel_rfl) (by kernel_rfl) (by kernel_rfl) (fun _ _ _ h => h) (by rfl) (by assumption) ?hy5 ?rest5
            case hy5 => intro w' hSw; (try dsimp only at hSw); go_simp; try with_reducible rfl
            try simp only [Act.put, List.setIfInBounds_toArray, List.set_cons_zero, List.set_cons_succ]
            refine takeC 10 (by kernel_rfl) rfl (fun K hK => ?_)
            go_simp
            skip
            refine hK.out _ _ ?_ (fun hHeld => ?_)
            · trivial
            clear hK K
            try simp only [Act.put, List.setIfInBounds_toArray, List.set_cons_zero, List.set_cons_succ]
            refine wpAnyH_done (by kernel_rfl) ?_ _
            go_wp2_with fail
            go_roundw
            case rel => exact ⟨k + 1, _, _, by omega, by go_num, by rw [HR.out, HM.out]; exact C3⟩
            case measure => simp [intOf]; omega
          · go_simp
            skip
            refine hK.out _ _ ?_ (fun hHeld => ?_)
            · trivial
            clear hK K
            try simp only [Act.put, List.setIfInBounds_toArray, List.set_cons_zero, List.set_cons_succ]
            refine takeW 5 (v := ?v6) rfl (by kernel_rfl) (by kernel_rfl) (by kernel_rfl) (fun _ _ _ h => h) (by rfl) (by assumption) ?hy6 ?rest6
            case hy6 => intro w' hSw; (try dsimp only at hSw); go_simp; try with_reducible rfl
            try simp only [Act.put, List.setIfInBounds_toArray, List.set_cons_zero, List.set_cons_succ]
            refine takeC2 1 6 (by kernel_rfl) rfl rfl (fun K hK => ?_) (fun K hK => ?_)
            · go_simp
              skip
              refine hK.out _ _ ?_ (fun hHeld => ?_)
              · trivial
              clear hK K
              try simp only [Act.put, List.setIfInBounds_toArray, List.set_cons_zero, List.set_cons_succ]
              refine takeC 6 (by kernel_rfl) rfl (fun K hK => ?_)
              go_simp
              skip
              refine hK.out _ _ ?_ (fun hHeld => ?_)
              · trivial
              clear hK K
              try simp only [Act.put, List.setIfInBounds_toArray, List.set_cons_zero, List.set_cons_succ]
              refine takeC 7 (by kernel_rfl) rfl (fun K hK => ?_)
              go_simp
              skip
              refine hK.out _ _ ?_ (fun hHeld => ?_)
              · trivial
              clear hK K
              try simp only [Act.put, List.setIfInBounds_toArray, List.set_cons_zero, List.set_cons_succ]
              clear c0 c1 c2 a0 a1 a2 a3 a4 a5 a6
              have Ca := Cd.new (.cells #[.int .i64 z] 3)
              refine takeC 8 (by kernel_rfl) rfl (fun K hK => ?_)
              refine step_appT rfl (.tmp 39) (.tmp 45) 24 rfl W2.heap.size 3 ii _ 1 8 Tryz.underlying24 hii hi0 hi1 hi2 rfl (by decide) _ _ _ rfl Ca.n ⟨We.heap.size, 0, none⟩ 1 1 [.int .i64 z] rfl rfl (cell_one_new _ _ _) (by intro u hu; simp at hu; subst hu; rfl) (by unfold maxLen; first | omega | (simp <;> omega)) (by first | omega | (simp <;> omega)) (Nat.le_trans Ca.b.size (Nat.le_refl _)) ?_; intro u' w3 o3 g3; obtain ⟨g', cap3, rfl⟩ := ownsRow_succ o3; have C3 := Ca.putN (z := z) o3 g3; have t3 : Three w3 _ _ _ _ _ := World.ownsRow.kept Ca.t g3 (.inr (fun e => by cases e)); obtain ⟨c0, c1, c2⟩ := t3.c; have fx := t3.f 2
              refine hK.out _ _ ?_ (fun hHeld => ?_)
              · trivial
              clear hK K
              try simp only [Act.put, List.setIfInBounds_toArray, List.set_cons_zero, List.set_cons_succ]
              refine takeW 9 (v := ?v7) rfl (by kernel_rfl) (by kernel_rfl) (by kernel_rfl) (fun _ _ _ h => h) (by rfl) (by assumption) ?hy7 ?rest7
              case hy7 => intro w' hSw; (try dsimp only at hSw); go_simp; try with_reducible rfl
              try simp only [Act.put, List.setIfInBounds_toArray, List.set_cons_zero, List.set_cons_succ]
              refine takeC 10 (by kernel_rfl) rfl (fun K hK => ?_)
              go_simp
              skip
              refine hK.out _ _ ?_ (fun hHeld => ?_)
              · trivial
              clear hK K
              try simp only [Act.put, List.setIfInBounds_toArray, List.set_cons_zero, List.set_cons_succ]
              refine wpAnyH_done (by kernel_rfl) ?_ _
              go_wp2_with fail
              go_roundw
              case rel => exact ⟨k + 1, _, _, by omega, by go_num, by rw [HR.out, HM.out]; exact C3⟩
              case measure => simp [intOf]; omega
            · go_simp
              skip
              refine hK.out _ _ ?_ (fun hHeld => ?_)
              · trivial
              clear hK K
              try simp only [Act.put, List.setIfInBounds_toArray, List.set_cons_zero, List.set_cons_succ]
              refine takeC2 1 7 (by kernel_rfl) rfl rfl (fun K hK => ?_) (fun K hK => ?_)
              · go_simp
                skip
                refine hK.out _ _ ?_ (fun hHeld => ?_)
                · trivial
                clear hK K
                try simp only [Act.put, List.setIfInBounds_toArray, List.set_cons_zero, List.set_cons_succ]
                refine takeC 7 (by kernel_rfl) rfl (fun K hK => ?_)
                go_simp
                skip
                refine hK.out _ _ ?_ (fun hHeld => ?_)
                · trivial
                clear hK K
                try simp only [Act.put, List.setIfInBounds_toArray, List.set_cons_zero, List.set_cons_succ]
                clear c0 c1 c2 a0 a1 a2 a3 a4 a5 a6
                have Ca := Cd.new (.cells #[.int .i64 z] 3)
                refine takeC 8 (by kernel_rfl) rfl (fun K hK => ?_)
                refine step_appT rfl (.tmp 39) (.tmp 45) 24 rfl W2.heap.size 3 ii _ 1 8 Tryz.underlying24 hii hi0 hi1 hi2 rfl (by decide) _ _ _ rfl Ca.n ⟨We.heap.size, 0, none⟩ 1 1 [.int .i64 z] rfl rfl (cell_one_new _ _ _) (by intro u hu; simp at hu; subst hu; rfl) (by unfold maxLen; first | omega | (simp <;> omega)) (by first | omega | (simp <;> omega)) (Nat.le_trans Ca.b.size (Nat.le_refl _)) ?_; intro u' w3 o3 g3; obtain ⟨g', cap3, rfl⟩ := ownsRow_succ o3; have C3 := Ca.putN (z := z) o3 g3; have t3 : Three w3 _ _ _ _ _ := World.ownsRow.kept Ca.t g3 (.inr (fun e => by cases e)); obtain ⟨c0, c1, c2⟩ := t3.c; have fx := t3.f 2
                refine hK.out _ _ ?_ (fun hHeld => ?_)
                · trivial
                clear hK K
                try simp only [Act.put, List.setIfInBounds_toArray, List.set_cons_zero, List.set_cons_succ]
                refine takeW 9 (v := ?v8) rfl (by kernel_rfl) (by kernel_rfl) (by kernel_rfl) (fun _ _ _ h => h) (by rfl) (by assumption) ?hy8 ?rest8
                case hy8 => intro w' hSw; (try dsimp only at hSw); go_simp; try with_reducible rfl
                try simp only [Act.put, List.setIfInBounds_toArray, List.set_cons_zero, List.set_cons_succ]
                refine takeC 10 (by kernel_rfl) rfl (fun K hK => ?_)
                go_simp
                skip
                refine hK.out _ _ ?_ (fun hHeld => ?_)
                · trivial
                clear hK K
                try simp only [Act.put, List.setIfInBounds_toArray, List.set_cons_zero, List.set_cons_succ]
                refine wpAnyH_done (by kernel_rfl) ?_ _
                go_wp2_with fail
                go_roundw
                case rel => exact ⟨k + 1, _, _, by omega, by go_num, by rw [HR.out, HM.out]; exact C3⟩
                case measure => simp [intOf]; omega
              · go_simp
                skip
                refine hK.out _ _ ?_ (fun hHeld => ?_)
                · trivial
                clear hK K
                try simp only [Act.put, List.setIfInBounds_toArray, List.set_cons_zero, List.set_cons_succ]
                clear c0 c1 c2 a0 a1 a2 a3 a4 a5 a6
                have Ce := Cd.new (.cells #[.int .i64 z] 3)
                obtain ⟨c0, c1, c2⟩ := Ce.t.c
                refine takeC 1 (by kernel_rfl) rfl (fun K hK => ?_)
                go_simp
                skip
                refine hK.out _ _ ?_ (fun hHeld => ?_)
                · trivial
                clear hK K
                try simp only [Act.put, List.setIfInBounds_toArray, List.set_cons_zero, List.set_cons_succ]
                clear c0 c1 c2 Ce
                have Ca := Cd.new (.cells #[.int .i64 z] 3)
                refine takeC 8 (by kernel_rfl) rfl (fun K hK => ?_)
                refine step_appT rfl (.tmp 39) (.tmp 45) 24 rfl W2.heap.size 3 ii _ 1 8 Tryz.underlying24 hii hi0 hi1 hi2 rfl (by decide) _ _ _ rfl Ca.n ⟨We.heap.size, 0, none⟩ 1 1 [.int .i64 z] rfl rfl (cell_one_new _ _ _) (by intro u hu; simp at hu; subst hu; rfl) (by unfold maxLen; first | omega | (simp <;> omega)) (by first | omega | (simp <;> omega)) (Nat.le_trans Ca.b.size (Nat.le_refl _)) ?_; intro u' w3 o3 g3; obtain ⟨g', cap3, rfl⟩ := ownsRow_succ o3; have C3 := Ca.putN (z := z) o3 g3; have t3 : Three w3 _ _ _ _ _ := World.ownsRow.kept Ca.t g3 (.inr (fun e => by cases e)); obtain ⟨c0, c1, c2⟩ := t3.c; have fx := t3.f 2
                refine hK.out _ _ ?_ (fun hHeld => ?_)
                · trivial
                clear hK K
                try simp only [Act.put, List.setIfInBounds_toArray, List.set_cons_zero, List.set_cons_succ]
                refine takeW 9 (v := ?v9) rfl (by kernel_rfl) (by kernel_rfl) (by kernel_rfl) (fun _ _ _ h => h) (by rfl) (by assumption) ?hy9 ?rest9
                case hy9 => intro w' hSw; (try dsimp only at hSw); go_simp; try with_reducible rfl
                try simp only [Act.put, List.setIfInBounds_toArray, List.set_cons_zero, List.set_cons_succ]
                refine takeC 10 (by kernel_rfl) rfl (fun K hK => ?_)
                go_simp
                skip
                refine hK.out _ _ ?_ (fun hHeld => ?_)
                · trivial
                clear hK K
                try simp only [Act.put, List.setIfInBounds_toArray, List.set_cons_zero, List.set_cons_succ]
                refine wpAnyH_done (by kernel_rfl) ?_ _
                go_wp2_with fail
                go_roundw
                case rel => exact ⟨k + 1, _, _, by omega, by go_num, by rw [HR.out, HM.out]; exact C3⟩
                case measure => simp [intOf]; omega
        · refine wp_region_held_drew (S := fun _ => True) (by kernel_rfl) trivial (fun hHeld => ?_)
          generalize Wr.drew = We at *
          obtain ⟨a0, a1, a2, a3, a4, a5, a6⟩ := Fd.c
          obtain ⟨c0, c1, c2⟩ := Cd.t.c
          refine takeW 0 (v := ?v10) rfl (by kernel_rfl) (by kernel_rfl) (by kernel_rfl) (fun _ _ _ h => h) (by rfl) (by assumption) ?hy10 ?rest10
          case hy10 => intro w' hSw; (try dsimp only at hSw); go_simp; try with_reducible rfl
          try simp only [Act.put, List.setIfInBounds_toArray, List.set_cons_zero, List.set_cons_succ]
          refine takeW 2 (v := ?v11) rfl (by kernel_rfl) (by kernel_rfl) (by kernel_rfl) (fun _ _ _ h => h) (by rfl) (by assumption) ?hy11 ?rest11
          case hy11 => intro w' hSw; (try dsimp only at hSw); go_simp; try with_reducible rfl
          try simp only [Act.put, List.setIfInBounds_toArray, List.set_cons_zero, List.set_cons_succ]
          refine takeW 4 (v := ?v12) rfl (by kernel_rfl) (by kernel_rfl) (by kernel_rfl) (fun _ _ _ h => h) (by rfl) (by assumption) ?hy12 ?rest12
          case hy12 => intro w' hSw; (try dsimp only at hSw); go_simp; try with_reducible rfl
          try simp only [Act.put, List.setIfInBounds_toArray, List.set_cons_zero, List.set_cons_succ]
          refine takeC2 1 3 (by kernel_rfl) rfl rfl (fun K hK => ?_) (fun K hK => ?_)
          · go_simp
            skip
            refine hK.out _ _ ?_ (fun hHeld => ?_)
            · trivial
            clear hK K
            try simp only [Act.put, List.setIfInBounds_toArray, List.set_cons_zero, List.set_cons_succ]
            refine takeC 3 (by kernel_rfl) rfl (fun K hK => ?_)
            go_simp
            skip
            refine hK.out _ _ ?_ (fun hHeld => ?_)
            · trivial
            clear hK K
            try simp only [Act.put, List.setIfInBounds_toArray, List.set_cons_zero, List.set_cons_succ]
            refine takeW 5 (v := ?v13) rfl (by kernel_rfl) (by kernel_rfl) (by kernel_rfl) (fun _ _ _ h => h) (by rfl) (by assumption) ?hy13 ?rest13
            case hy13 => intro w' hSw; (try dsimp only at hSw); go_simp; try with_reducible rfl
            try simp only [Act.put, List.setIfInBounds_toArray, List.set_cons_zero, List.set_cons_succ]
            refine takeC 6 (by kernel_rfl) rfl (fun K hK => ?_)
            go_simp
            skip
            refine hK.out _ _ ?_ (fun hHeld => ?_)
            · trivial
            clear hK K
            try simp only [Act.put, List.setIfInBounds_toArray, List.set_cons_zero, List.set_cons_succ]
            refine takeC 7 (by kernel_rfl) rfl (fun K hK => ?_)
            go_simp
            skip
            refine hK.out _ _ ?_ (fun hHeld => ?_)
            · trivial
            clear hK K
            try simp only [Act.put, List.setIfInBounds_toArray, List.set_cons_zero, List.set_cons_succ]
            clear c0 c1 c2 a0 a1 a2 a3 a4 a5 a6
            have Ca := Cd.new (.cells #[.int .i64 z] 3)
            refine takeC 8 (by kernel_rfl) rfl (fun K hK => ?_)
            refine step_appT rfl (.tmp 39) (.tmp 45) 24 rfl W2.heap.size 3 ii _ 1 8 Tryz.underlying24 hii hi0 hi1 hi2 rfl (by decide) _ _ _ rfl Ca.n ⟨We.heap.size, 0, none⟩ 1 1 [.int .i64 z] rfl rfl (cell_one_new _ _ _) (by intro u hu; simp at hu; subst hu; rfl) (by unfold maxLen; first | omega | (simp <;> omega)) (by first | omega | (simp <;> omega)) (Nat.le_trans Ca.b.size (Nat.le_refl _)) ?_; intro u' w3 o3 g3; obtain ⟨g', cap3, rfl⟩ := ownsRow_succ o3; have C3 := Ca.putN (z := z) o3 g3; have t3 : Three w3 _ _ _ _ _ := World.ownsRow.kept Ca.t g3 (.inr (fun e => by have h1 := (Ca.n.lt w1.heap.size e.symm).1; have := Ca.k; omega)); obtain ⟨c0, c1, c2⟩ := t3.c; have fx := t3.f 2
            refine hK.out _ _ ?_ (fun hHeld => ?_)
            · trivial
            clear hK K
            try simp only [Act.put, List.setIfInBounds_toArray, List.set_cons_zero, List.set_cons_succ]
            refine takeW 9 (v := ?v14) rfl (by kernel_rfl) (by kernel_rfl) (by kernel_rfl) (fun _ _ _ h => h) (by rfl) (by assumption) ?hy14 ?rest14
            case hy14 => intro w' hSw; (try dsimp only at hSw); go_simp; try with_reducible rfl
            try simp only [Act.put, List.setIfInBounds_toArray, List.set_cons_zero, List.set_cons_succ]
            refine takeC 10 (by kernel_rfl) rfl (fun K hK => ?_)
            go_simp
            skip
            refine hK.out _ _ ?_ (fun hHeld => ?_)
            · trivial
            clear hK K
            try simp only [Act.put, List.setIfInBounds_toArray, List.set_cons_zero, List.set_cons_succ]
            refine wpAnyH_done (by kernel_rfl) ?_ _
            go_wp2_with fail
            go_roundw
            case rel => exact ⟨k + 1, _, _, by omega, by go_num, by rw [HR.out, HM.out]; exact C3⟩
            case measure => simp [intOf]; omega
          · go_simp
            skip
            refine hK.out _ _ ?_ (fun hHeld => ?_)
            · trivial
            clear hK K
            try simp only [Act.put, List.setIfInBounds_toArray, List.set_cons_zero, List.set_cons_succ]
            refine takeW 5 (v := ?v15) rfl (by kernel_rfl) (by kernel_rfl) (by kernel_rfl) (fun _ _ _ h => h) (by rfl) (by assumption) ?hy15 ?rest15
            case hy15 => intro w' hSw; (try dsimp only at hSw); go_simp; try with_reducible rfl
            try simp only [Act.put, List.setIfInBounds_toArray, List.set_cons_zero, List.set_cons_succ]
            refine takeC2 1 6 (by kernel_rfl) rfl rfl (fun K hK => ?_) (fun K hK => ?_)
            · go_simp
              skip
              refine hK.out _ _ ?_ (fun hHeld => ?_)
              · trivial
              clear hK K
              try simp only [Act.put, List.setIfInBounds_toArray, List.set_cons_zero, List.set_cons_succ]
              refine takeC 6 (by kernel_rfl) rfl (fun K hK => ?_)
              go_simp
              skip
              refine hK.out _ _ ?_ (fun hHeld => ?_)
              · trivial
              clear hK K
              try simp only [Act.put, List.setIfInBounds_toArray, List.set_cons_zero, List.set_cons_succ]
              refine takeC 7 (by kernel_rfl) rfl (fun K hK => ?_)
              go_simp
              skip
              refine hK.out _ _ ?_ (fun hHeld => ?_)
              · trivial
              clear hK K
              try simp only [Act.put, List.setIfInBounds_toArray, List.set_cons_zero, List.set_cons_succ]
              clear c0 c1 c2 a0 a1 a2 a3 a4 a5 a6
              have Ca := Cd.new (.cells #[.int .i64 z] 3)
              refine takeC 8 (by kernel_rfl) rfl (fun K hK => ?_)
              refine step_appT rfl (.tmp 39) (.tmp 45) 24 rfl W2.heap.size 3 ii _ 1 8 Tryz.underlying24 hii hi0 hi1 hi2 rfl (by decide) _ _ _ rfl Ca.n ⟨We.heap.size, 0, none⟩ 1 1 [.int .i64 z] rfl rfl (cell_one_new _ _ _) (by intro u hu; simp at hu; subst hu; rfl) (by unfold maxLen; first | omega | (simp <;> omega)) (by first | omega | (simp <;> omega)) (Nat.le_trans Ca.b.size (Nat.le_refl _)) ?_; intro u' w3 o3 g3; obtain ⟨g', cap3, rfl⟩ := ownsRow_succ o3; have C3 := Ca.putN (z := z) o3 g3; have t3 : Three w3 _ _ _ _ _ := World.ownsRow.kept Ca.t g3 (.inr (fun e => by have h1 := (Ca.n.lt w1.heap.size e.symm).1; have := Ca.k; omega)); obtain ⟨c0, c1, c2⟩ := t3.c; have fx := t3.f 2
              refine hK.out _ _ ?_ (fun hHeld => ?_)
              · trivial
              clear hK K
              try simp only [Act.put, List.setIfInBounds_toArray, List.set_cons_zero, List.set_cons_succ]
              refine takeW 9 (v := ?v16) rfl (by kernel_rfl) (by kernel_rfl) (by kernel_rfl) (fun _ _ _ h => h) (by rfl) (by assumption) ?hy16 ?rest16
              case hy16 => intro w' hSw; (try dsimp only at hSw); go_simp; try with_reducible rfl
              try simp only [Act.put, List.setIfInBounds_toArray, List.set_cons_zero, List.set_cons_succ]
              refine takeC 10 (by kernel_rfl) rfl (fun K hK => ?_)
              go_simp
              skip
              refine hK.out _ _ ?_ (fun hHeld => ?_)
              · trivial
              clear hK K
              try simp only [Act.put, List.setIfInBounds_toArray, List.set_cons_zero, List.set_cons_succ]
              refine wpAnyH_done (by kernel_rfl) ?_ _
              go_wp2_with fail
              go_roundw
              case rel => exact ⟨k + 1, _, _, by omega, by go_num, by rw [HR.out, HM.out]; exact C3⟩
              case measure => simp [intOf]; omega
            · go_simp
              skip
              refine hK.out _ _ ?_ (fun hHeld => ?_)
              · trivial
              clear hK K
              try simp only [Act.put, List.setIfInBounds_toArray, List.set_cons_zero, List.set_cons_succ]
              refine takeC2 1 7 (by kernel_rfl) rfl rfl (fun K hK => ?_) (fun K hK => ?_)
              · go_simp
                skip
                refine hK.out _ _ ?_ (fun hHeld => ?_)
                · trivial
                clear hK K
                try simp only [Act.put, List.setIfInBounds_toArray, List.set_cons_zero, List.set_cons_succ]
                refine takeC 7 (by kernel_rfl) rfl (fun K hK => ?_)
                go_simp
                skip
                refine hK.out _ _ ?_ (fun hHeld => ?_)
                · trivial
                clear hK K
                try simp only [Act.put, List.setIfInBounds_toArray, List.set_cons_zero, List.set_cons_succ]
                clear c0 c1 c2 a0 a1 a2 a3 a4 a5 a6
                have Ca := Cd.new (.cells #[.int .i64 z] 3)
                refine takeC 8 (by kernel_rfl) rfl (fun K hK => ?_)
                refine step_appT rfl (.tmp 39) (.tmp 45) 24 rfl W2.heap.size 3 ii _ 1 8 Tryz.underlying24 hii hi0 hi1 hi2 rfl (by decide) _ _ _ rfl Ca.n ⟨We.heap.size, 0, none⟩ 1 1 [.int .i64 z] rfl rfl (cell_one_new _ _ _) (by intro u hu; simp at hu; subst hu; rfl) (by unfold maxLen; first | omega | (simp <;> omega)) (by first | omega | (simp <;> omega)) (Nat.le_trans Ca.b.size (Nat.le_refl _)) ?_; intro u' w3 o3 g3; obtain ⟨g', cap3, rfl⟩ := ownsRow_succ o3; have C3 := Ca.putN (z := z) o3 g3; have t3 : Three w3 _ _ _ _ _ := World.ownsRow.kept Ca.t g3 (.inr (fun e => by have h1 := (Ca.n.lt w1.heap.size e.symm).1; have := Ca.k; omega)); obtain ⟨c0, c1, c2⟩ := t3.c; have fx := t3.f 2
                refine hK.out _ _ ?_ (fun hHeld => ?_)
                · trivial
                clear hK K
                try simp only [Act.put, List.setIfInBounds_toArray, List.set_cons_zero, List.set_cons_succ]
                refine takeW 9 (v := ?v17) rfl (by kernel_rfl) (by kernel_rfl) (by kernel_rfl) (fun _ _ _ h => h) (by rfl) (by assumption) ?hy17 ?rest17
                case hy17 => intro w' hSw; (try dsimp only at hSw); go_simp; try with_reducible rfl
                try simp only [Act.put, List.setIfInBounds_toArray, List.set_cons_zero, List.set_cons_succ]
                refine takeC 10 (by kernel_rfl) rfl (fun K hK => ?_)
                go_simp
                skip
                refine hK.out _ _ ?_ (fun hHeld => ?_)
                · trivial
                clear hK K
                try simp only [Act.put, List.setIfInBounds_toArray, List.set_cons_zero, List.set_cons_succ]
                refine wpAnyH_done (by kernel_rfl) ?_ _
                go_wp2_with fail
                go_roundw
                case rel => exact ⟨k + 1, _, _, by omega, by go_num, by rw [HR.out, HM.out]; exact C3⟩
                case measure => simp [intOf]; omega
              · go_simp
                skip
                refine hK.out _ _ ?_ (fun hHeld => ?_)
                · trivial
                clear hK K
                try simp only [Act.put, List.setIfInBounds_toArray, List.set_cons_zero, List.set_cons_succ]
                clear c0 c1 c2 a0 a1 a2 a3 a4 a5 a6
                have Ce := Cd.new (.cells #[.int .i64 z] 3)
                obtain ⟨c0, c1, c2⟩ := Ce.t.c
                refine takeC 1 (by kernel_rfl) rfl (fun K hK => ?_)
                go_simp
                skip
                refine hK.out _ _ ?_ (fun hHeld => ?_)
                · trivial
                clear hK K
                try simp only [Act.put, List.setIfInBounds_toArray, List.set_cons_zero, List.set_cons_succ]
                clear c0 c1 c2 Ce
                have Ca := Cd.new (.cells #[.int .i64 z] 3)
                refine takeC 8 (by kernel_rfl) rfl (fun K hK => ?_)
                refine step_appT rfl (.tmp 39) (.tmp 45) 24 rfl W2.heap.size 3 ii _ 1 8 Tryz.underlying24 hii hi0 hi1 hi2 rfl (by decide) _ _ _ rfl Ca.n ⟨We.heap.size, 0, none⟩ 1 1 [.int .i64 z] rfl rfl (cell_one_new _ _ _) (by intro u hu; simp at hu; subst hu; rfl) (by unfold maxLen; first | omega | (simp <;> omega)) (by first | omega | (simp <;> omega)) (Nat.le_trans Ca.b.size (Nat.le_refl _)) ?_; intro u' w3 o3 g3; obtain ⟨g', cap3, rfl⟩ := ownsRow_succ o3; have C3 := Ca.putN (z := z) o3 g3; have t3 : Three w3 _ _ _ _ _ := World.ownsRow.kept Ca.t g3 (.inr (fun e => by have h1 := (Ca.n.lt w1.heap.size e.symm).1; have := Ca.k; omega)); obtain ⟨c0, c1, c2⟩ := t3.c; have fx := t3.f 2
                refine hK.out _ _ ?_ (fun hHeld => ?_)
                · trivial
                clear hK K
                try simp only [Act.put, List.setIfInBounds_toArray, List.set_cons_zero, List.set_cons_succ]
                refine takeW 9 (v := ?v18) rfl (by kernel_rfl) (by kernel_rfl) (by kernel_rfl) (fun _ _ _ h => h) (by rfl) (by assumption) ?hy18 ?rest18
                case hy18 => intro w' hSw; (try dsimp only at hSw); go_simp; try with_reducible rfl
                try simp only [Act.put, List.setIfInBounds_toArray, List.set_cons_zero, List.set_cons_succ]
                refine takeC 10 (by kernel_rfl) rfl (fun K hK => ?_)
                go_simp
                skip
                refine hK.out _ _ ?_ (fun hHeld => ?_)
                · trivial
                clear hK K
                try simp only [Act.put, List.setIfInBounds_toArray, List.set_cons_zero, List.set_cons_succ]
                refine wpAnyH_done (by kernel_rfl) ?_ _
                go_wp2_with fail
                go_roundw
                case rel => exact ⟨k + 1, _, _, by omega, by go_num, by rw [HR.out, HM.out]; exact C3⟩
                case measure => simp [intOf]; omega
    · obtain rfl : k = s.ru.length := by omega
      have HL := hid hlt
      clear hlt hk
      rw [E1.out] at C hlR hlN
      have HF2 := HF.out
      have hfR := cmR_size (s := s) (k := s.ha.length) lr
      have HQ := hid (show nxS s = ⟨s.co, plTo (cmR s s.ha.length) (cmR s s.ha.length).length, srN (cmN s s.ha.length)⟩ from rfl)
      generalize cmR s s.ha.length = lR at *
      generalize cmN s s.ha.length = lN at *
      obtain ⟨g0, g1, g2⟩ := C.t.c
      obtain ⟨xR, yR, zR, rfl⟩ := row_slice C.r
      obtain ⟨xN, yN, zN, rfl⟩ := row_slice C.n
      go_wp2_with fail
      refine (l2PlainW_any _ lR _ (by omega) hfR (RuR.own C.r).s).mono ?_
      rintro e w4 ⟨v4, rfl, o4, hB4⟩
      obtain ⟨x4, y4, z4, rfl⟩ := row_slice o4
      clear g0 g1 g2
      have t4 := C.t.below hB4
      have n4 := ownsRow_below C.n hB4
      have hs4 := hB4.size
      have hk5 := C.k
      have b4 : Below w1.heap.size W2 w4 := C.b.trans (hB4.mono (Nat.le_trans (Nat.le_of_lt hk5) hW))
      obtain ⟨g0, g1, g2⟩ := t4.c
      have fx := t4.f 1
      have t5 := t4.s1 (.slice x4 y4 z4)
      have n5 := ownsRow_setCell_below n4 (a := ⟨w1.heap.size, 1, none⟩) (by simpa using hk5) (.slice x4 y4 z4)
      have o5 := ownsRow_setCell_below o4 (a := ⟨w1.heap.size, 1, none⟩) (by simp; omega) (.slice x4 y4 z4)
      have b5 := b4.setCell (p := ⟨w1.heap.size, 1, none⟩) (by simp) (.slice x4 y4 z4)
      have hs5 : w4.heap.size ≤ (w4.setCell ⟨w1.heap.size, 1, none⟩ (.slice x4 y4 z4)).heap.size := by simp
      go_upto_region 12 with fail
      clear g0 g1 g2 fx C hB4 t4 n4 o4 b4
      generalize w4.setCell ⟨w1.heap.size, 1, none⟩ (.slice x4 y4 z4) = W5 at *
      obtain ⟨g0, g1, g2⟩ := t5.c
      go_wp2_with fail
      refine (l5Sorted_any _ lN _ (by omega) (NuR.own n5).s).mono ?_
      rintro e w6 ⟨v6, rfl, o6, hB6⟩
      obtain ⟨x6, y6, z6, rfl⟩ := row_slice o6
      clear g0 g1 g2
      have t6 := t5.below hB6
      have p6 := ownsRow_below o5 hB6
      have hs6 := hB6.size
      have b6 : Below w1.heap.size W2 w6 := b5.trans (hB6.mono (by omega))
      obtain ⟨g0, g1, g2⟩ := t6.c
      have fx := t6.f 2
      have t7 := t6.s2 (.slice x6 y6 z6)
      have o7 := ownsRow_setCell_below p6 (a := ⟨w1.heap.size, 2, none⟩) (by simp; omega) (.slice x6 y6 z6)
      have p7 := ownsRow_setCell_below o6 (a := ⟨w1.heap.size, 2, none⟩) (by simp; omega) (.slice x6 y6 z6)
      have b7 := b6.setCell (p := ⟨w1.heap.size, 2, none⟩) (by simp) (.slice x6 y6 z6)
      have hs7 : w6.heap.size ≤ (w6.setCell ⟨w1.heap.size, 2, none⟩ (.slice x6 y6 z6)).heap.size := by simp
      go_upto_region 13 with fail
      clear g0 g1 g2 fx t5 n5 o5 b5 hB6 t6 p6 o6 b6
      generalize w6.setCell ⟨w1.heap.size, 2, none⟩ (.slice x6 y6 z6) = W7 at *
      have hSn : SnO W7 wr.heap.size W7.heap.size (.agg #[.int .i64 s.co, .slice x4 y4 z4, .slice x6 y6 z6]) (nxS s) := by
        rw [HQ.out]
        exact ⟨_, _, rfl, o7, Go.Joins.ownsRow_le p7 (by omega), fun j e => (o7.lt j e).2, fun j e => (p7.lt j e).2⟩
      obtain ⟨g0, g1, g2⟩ := t7.c
      go_wp2_with fail
      refine (specGoodSnapshot_any _ (nxS s) _ HN.out hSn.a).mono ?_
      rintro e w8 ⟨rfl, hB8⟩
      clear g0 g1 g2
      have t8 := t7.below hB8
      replace hSn := hSn.below hB8
      have b8 : Below w1.heap.size W2 w8 := b7.trans (hB8.mono (by omega))
      have hs8 := hB8.size
      have F8 : Seven w8 _ _ _ _ _ _ _ _ _ := row_low F0.out b8 (fun j e => by simp [Value.ownBlock] at e; omega)
      have F9 : Seven w8 _ _ _ _ _ _ _ _ _ := row_low F2 b8 (fun j e => by simp [Value.ownBlock] at e; omega)
      have hB9 : Below w.heap.size w w8 := hB0.trans (b8.mono (by omega))
      obtain ⟨a0, a1, a2, a3, a4, a5, a6⟩ := F8.c
      obtain ⟨g0, g1, g2⟩ := t8.c
      obtain ⟨r0, r1, r2, r3, r4, r5, r6⟩ := F9.c
      have f0 := F9.f 0
      have f1 := F9.f 1
      have f2 := F9.f 2
      have f3 := F9.f 3
      have f4 := F9.f 4
      have f5 := F9.f 5
      have f6 := F9.f 6
      cases hc9 : snB (nxS s)
      · have HR := hid (cmX_no (s := s) (m := m) (by rw [hc9]; simp))
        have G3 := ((((((F9.s0 (.int .i64 s.fo.num)).s1 (.slice ap s.fo.pol.length cp)).s2 (.slice ar s.fo.rv.length cr)).s3 (.int .i64 s.co)).s4 (.slice au s.ru.length cu)).s5 (.slice ah s.ha.length ch)).s6 (.slice ai s.se.length ci)
        have pB := below_seven hB9 (k := w.heap.size + 1 + 1) (by omega) (.int .i64 s.fo.num) (.slice ap s.fo.pol.length cp) (.slice ar s.fo.rv.length cr) (.int .i64 s.co) (.slice au s.ru.length cu) (.slice ah s.ha.length ch) (.slice ai s.se.length ci)
        go_wp2_with fail
        clear r0 r1 r2 r3 r4 r5 r6 f0 f1 f2 f3 f4 f5 f6 F9 a0 a1 a2 a3 a4 a5 a6 g0 g1 g2
        generalize ((((((w8.setCell ⟨w.heap.size + 1 + 1, 0, none⟩ (.int .i64 s.fo.num)).setCell ⟨w.heap.size + 1 + 1, 1, none⟩ (.slice ap s.fo.pol.length cp)).setCell ⟨w.heap.size + 1 + 1, 2, none⟩ (.slice ar s.fo.rv.length cr)).setCell ⟨w.heap.size + 1 + 1, 3, none⟩ (.int .i64 s.co)).setCell ⟨w.heap.size + 1 + 1, 4, none⟩ (.slice au s.ru.length cu)).setCell ⟨w.heap.size + 1 + 1, 5, none⟩ (.slice ah s.ha.length ch)).setCell ⟨w.heap.size + 1 + 1, 6, none⟩ (.slice ai s.se.length ci) = W9 at *
        obtain ⟨d0, d1, d2, d3, d4, d5, d6⟩ := G3.c
        exact bodyPost_ret (v := .agg #[.int .i64 s.fo.num, .slice ap s.fo.pol.length cp, .slice ar s.fo.rv.length cr, .int .i64 s.co, .slice au s.ru.length cu, .slice ah s.ha.length ch, .slice ai s.se.length ci]) (by simp [results, Tryz.results42, go_sem, d0, d1, d2, d3, d4, d5, d6]) rfl ⟨_, rfl, .inl ⟨rfl, HR.out⟩, pB⟩
      · have HR := hid (cmX_yes (s := s) (m := m) (by rw [hc0, hem, hc9]; rfl))
        have G3 := ((((((F9.s0 (.int .i64 s.co)).s1 (.slice x4 y4 z4)).s2 (.slice x6 y6 z6)).s3 (.int .i64 0)).s4 (.slice none 0 0)).s5 (.slice none 0 0)).s6 (.slice none 0 0)
        have pB := below_seven hB9 (k := w.heap.size + 1 + 1) (by omega) (.int .i64 s.co) (.slice x4 y4 z4) (.slice x6 y6 z6) (.int .i64 0) (.slice none 0 0) (.slice none 0 0) (.slice none 0 0)
        obtain ⟨_, _, ee, j1, j2, _, _⟩ := hSn
        cases ee
        have i1 := row_seven j1 (k := w.heap.size + 1 + 1) (by omega) (.int .i64 s.co) (.slice x4 y4 z4) (.slice x6 y6 z6) (.int .i64 0) (.slice none 0 0) (.slice none 0 0) (.slice none 0 0)
        have i2 := row_seven j2 (k := w.heap.size + 1 + 1) (by omega) (.int .i64 s.co) (.slice x4 y4 z4) (.slice x6 y6 z6) (.int .i64 0) (.slice none 0 0) (.slice none 0 0) (.slice none 0 0)
        have hse : w8.heap.size ≤ (((((((w8.setCell ⟨w.heap.size + 1 + 1, 0, none⟩ (.int .i64 s.co)).setCell ⟨w.heap.size + 1 + 1, 1, none⟩ (.slice x4 y4 z4)).setCell ⟨w.heap.size + 1 + 1, 2, none⟩ (.slice x6 y6 z6)).setCell ⟨w.heap.size + 1 + 1, 3, none⟩ (.int .i64 0)).setCell ⟨w.heap.size + 1 + 1, 4, none⟩ (.slice none 0 0)).setCell ⟨w.heap.size + 1 + 1, 5, none⟩ (.slice none 0 0)).setCell ⟨w.heap.size + 1 + 1, 6, none⟩ (.slice none 0 0)).heap.size := by simp
        go_wp2_with fail
        clear r0 r1 r2 r3 r4 r5 r6 f0 f1 f2 f3 f4 f5 f6 F9 a0 a1 a2 a3 a4 a5 a6 g0 g1 g2
        generalize ((((((w8.setCell ⟨w.heap.size + 1 + 1, 0, none⟩ (.int .i64 s.co)).setCell ⟨w.heap.size + 1 + 1, 1, none⟩ (.slice x4 y4 z4)).setCell ⟨w.heap.size + 1 + 1, 2, none⟩ (.slice x6 y6 z6)).setCell ⟨w.heap.size + 1 + 1, 3, none⟩ (.int .i64 0)).setCell ⟨w.heap.size + 1 + 1, 4, none⟩ (.slice none 0 0)).setCell ⟨w.heap.size + 1 + 1, 5, none⟩ (.slice none 0 0)).setCell ⟨w.heap.size + 1 + 1, 6, none⟩ (.slice none 0 0) = W9 at *
        obtain ⟨d0, d1, d2, d3, d4, d5, d6⟩ := G3.c
        exact bodyPost_ret (v := .agg #[.int .i64 s.co, .slice x4 y4 z4, .slice x6 y6 z6, .int .i64 0, .slice none 0 0, .slice none 0 0, .slice none 0 0]) (by simp [results, Tryz.results42, go_sem, d0, d1, d2, d3, d4, d5, d6]) rfl ⟨_, rfl, .inr (by rw [HR.out]; exact ⟨W9.heap.size, _, _, _, _, _, rfl, by omega, Nat.le_refl _, ⟨_, _, rfl, Go.Joins.ownsRow_le i1 (by omega), Go.Joins.ownsRow_le i2 (by omega), fun j e => (i1.lt j e).2, fun j e => (i2.lt j e).2⟩, World.ownsRow_nil _ _ _ _, World.ownsRow_nil _ _ _ _, World.ownsRow_nil _ _ _ _, fun _ h => by simp [Value.ownBlock] at h, fun _ h => by simp [Value.ownBlock] at h, fun _ h => by simp [Value.ownBlock] at h⟩), pB⟩

end Go.Proofs.YtjnajdilllkpcaaGreat

namespace Go.Proofs.YtjnajdilllkpcaaGreat
open Go.RowKit Go.Shelf

theorem sdo_set {w : World} {base top : Nat} {v : Value} {s : Sd} (h : SdO w base top v s) {p : Addr} (hp : p.block < base) (u : Value) : SdO (w.setCell p u) base top v s := by
  obtain ⟨m, vp, vr, vu, vh, vs, rfl, hm, hmt, ⟨_, _, ee, o1, o2, t1, t2⟩, h3, h4, h5, t⟩ := h
  cases ee
  exact ⟨m, vp, vr, vu, vh, vs, rfl, hm, hmt, ⟨_, _, rfl, ownsRow_setCell_below o1 hp u, ownsRow_setCell_below o2 hp u, t1, t2⟩, ownsRow_setCell_below h3 (by omega) u, ownsRow_setCell_below h4 (by omega) u, ownsRow_setCell_below h5 (by omega) u, t⟩
theorem sdo_grown {w w' : World} {base top : Nat} {v : Value} {s : Sd} (h : SdO w base top v s) (hg : w.grownBy w' none) : SdO w' base top v s :=
  SdO.below h ⟨hg.os, hg.tape, hg.output, hg.size, fun k hk => hg.block k hk (by simp)⟩
theorem rflat_set : ∀ (ks : List Ru) (i j : Nat) (u : Value) (k : Ru) (hi : i < ks.length), j < 4 → k.cells = ks[i].cells.set j u → (ks.flatMap Ru.cells).set (i * 4 + j) u = (ks.set i k).flatMap Ru.cells
  | k0 :: ks, 0, j, u, k, _, hj, hu => by
    have hu : k.cells = k0.cells.set j u := hu
    rw [List.flatMap_cons, List.set_append_left _ _ (by simp; omega), List.set_cons_zero, List.flatMap_cons, hu]
    simp
  | k0 :: ks, i + 1, j, u, k, hi, hj, hu => by
    rw [List.flatMap_cons, List.set_append_right _ _ (by simp; omega), List.set_cons_succ, List.flatMap_cons, ← rflat_set ks i j u k (by simpa using hi) hj (by simpa using hu)]
    congr 2
    simp; omega
theorem bls_set (bs : List Bool) (i : Nat) (b : Bool) : (bls bs).set i (.bool b) = bls (bs.set i b) := by simp [bls, List.map_set]
theorem nums_set (zs : List Int) (i : Nat) (z : Int) : (nums zs).set i (.int .i64 z) = nums (zs.set i z) := by simp [nums, List.map_set]
theorem rset4 {ks : List Ru} {i : Nat} (hi : i < ks.length) (r : Ru) : ((((ks.flatMap Ru.cells).set (i * 4) (.bool r.deny)).set (i * 4 + 1) (.string r.who)).set (i * 4 + 2) (.string r.method)).set (i * 4 + 3) (.string r.path) = (ks.set i r).flatMap Ru.cells := by
  have e0 := rflat_set ks i 0 (.bool r.deny) ⟨r.deny, ks[i].who, ks[i].method, ks[i].path⟩ hi (by omega) (by simp)
  rw [Nat.add_zero] at e0
  rw [e0]
  have e1 := rflat_set (ks.set i ⟨r.deny, ks[i].who, ks[i].method, ks[i].path⟩) i 1 (.string r.who) ⟨r.deny, r.who, ks[i].method, ks[i].path⟩ (by simpa using hi) (by omega) (by simp)
  rw [e1, List.set_set]
  have e2 := rflat_set (ks.set i ⟨r.deny, r.who, ks[i].method, ks[i].path⟩) i 2 (.string r.method) ⟨r.deny, r.who, r.method, ks[i].path⟩ (by simpa using hi) (by omega) (by simp)
  rw [e2, List.set_set]
  have e3 := rflat_set (ks.set i ⟨r.deny, r.who, r.method, ks[i].path⟩) i 3 (.string r.path) r (by simpa using hi) (by omega) (by simp)
  rw [e3, List.set_set]
/-- One place of a row of one's own is written: the other rows stay. -/
theorem row_set_apart {w : World} {base : Nat} {e : TypeId} {size n : Nat} {v : Value} {xs : List Value} (h : w.ownsRow base e size v n xs) {g j : Nat} (hg : ∀ k, v.ownBlock = some k → k ≠ g) (u : Value) : (w.setCell ⟨g, j, none⟩ u).ownsRow base e size v n xs := by
  refine ownsRow_setCell_other h ?_ u
  intro hv
  exact hg g hv rfl
theorem sdo_ru {w : World} {base top : Nat} {num co : Int} {vp vr vu vh vs : Value} {s : Sd} (h : SdO w base top (.agg #[.int .i64 num, vp, vr, .int .i64 co, vu, vh, vs]) s) {i : Nat} (hi : i < s.ru.length) (r : Ru) :
    ∃ g cap, vu = .slice (some ⟨g, 0, none⟩) s.ru.length cap ∧ base ≤ g ∧ g < w.heap.size ∧ s.ru.length ≤ cap ∧ (∀ j, w.frozen? ⟨g, j, none⟩ = false) ∧ (∃ a b c d, w.cell? ⟨g, i * 4, none⟩ = some a ∧ w.cell? ⟨g, i * 4 + 1, none⟩ = some b ∧ w.cell? ⟨g, i * 4 + 2, none⟩ = some c ∧ w.cell? ⟨g, i * 4 + 3, none⟩ = some d) ∧
      SdO ((((w.setCell ⟨g, i * 4, none⟩ (.bool r.deny)).setCell ⟨g, i * 4 + 1, none⟩ (.string r.who)).setCell ⟨g, i * 4 + 2, none⟩ (.string r.method)).setCell ⟨g, i * 4 + 3, none⟩ (.string r.path)) base top (.agg #[.int .i64 num, vp, vr, .int .i64 co, vu, vh, vs]) ⟨s.fo, s.co, s.ru.set i r, s.ha, s.se⟩ := by
  obtain ⟨m, _, _, _, _, _, e0, hm, hmt, ⟨_, _, ee, o1, o2, t1, t2⟩, h3, h4, h5, t3, t4, t5⟩ := h
  cases e0
  cases ee
  rcases row_form h3 with ⟨_, h0⟩ | ⟨g, cap, rfl, hg, hc⟩
  · omega
  have hl := h3.lt g rfl
  have hfl := flat_len s.ru
  have c0 := (h3.cellAt (i * 4) (by omega)).trans (flat_at s.ru i 0 hi (by omega))
  have c1 := (h3.cellAt (i * 4 + 1) (by omega)).trans (flat_at s.ru i 1 hi (by omega))
  have c2 := (h3.cellAt (i * 4 + 2) (by omega)).trans (flat_at s.ru i 2 hi (by omega))
  have c3 := (h3.cellAt (i * 4 + 3) (by omega)).trans (flat_at s.ru i 3 hi (by omega))
  refine ⟨g, cap, rfl, by omega, hl.2, hc, fun j => h3.frozenAt j, ⟨_, _, _, _, c0, c1, c2, c3⟩, ?_⟩
  have q := (World.ownsRow.stored (World.ownsRow.stored (World.ownsRow.stored (World.ownsRow.stored h3 (i * 4) (.bool r.deny)).1 (i * 4 + 1) (.string r.who)).1 (i * 4 + 2) (.string r.method)).1 (i * 4 + 3) (.string r.path)).1
  rw [rset4 hi] at q
  have a4 := row_apart h4 h3 (by decide)
  have a5 := row_apart h5 h3 (by decide)
  have k1 : ∀ k, Value.ownBlock vp = some k → k ≠ g := fun k e => by have := t1 k e; omega
  have k2 : ∀ k, Value.ownBlock vr = some k → k ≠ g := fun k e => by have := t2 k e; omega
  have k4 : ∀ k, Value.ownBlock vh = some k → k ≠ g := fun k e hk => a4 k e (by rw [hk]; rfl)
  have k5 : ∀ k, Value.ownBlock vs = some k → k ≠ g := fun k e hk => a5 k e (by rw [hk]; rfl)
  exact ⟨m, _, _, _, _, _, rfl, hm, hmt, ⟨_, _, rfl, row_set_apart (row_set_apart (row_set_apart (row_set_apart o1 k1 _) k1 _) k1 _) k1 _, row_set_apart (row_set_apart (row_set_apart (row_set_apart o2 k2 _) k2 _) k2 _) k2 _, t1, t2⟩, row_castN q (by simp), row_set_apart (row_set_apart (row_set_apart (row_set_apart h4 k4 _) k4 _) k4 _) k4 _, row_set_apart (row_set_apart (row_set_apart (row_set_apart h5 k5 _) k5 _) k5 _) k5 _, t3, t4, t5⟩
theorem sdo_ha {w : World} {base top : Nat} {num co : Int} {vp vr vu vh vs : Value} {s : Sd} (h : SdO w base top (.agg #[.int .i64 num, vp, vr, .int .i64 co, vu, vh, vs]) s) {i : Nat} (hi : i < s.ha.length) (x : Bool) :
    ∃ g cap, vh = .slice (some ⟨g, 0, none⟩) s.ha.length cap ∧ base ≤ g ∧ g < w.heap.size ∧ s.ha.length ≤ cap ∧ (∀ j, w.frozen? ⟨g, j, none⟩ = false) ∧ w.cell? ⟨g, i, none⟩ = some (.bool s.ha[i]) ∧
      SdO (w.setCell ⟨g, i, none⟩ (.bool x)) base top (.agg #[.int .i64 num, vp, vr, .int .i64 co, vu, vh, vs]) ⟨s.fo, s.co, s.ru, s.ha.set i x, s.se⟩ := by
  obtain ⟨m, _, _, _, _, _, e0, hm, hmt, ⟨_, _, ee, o1, o2, t1, t2⟩, h3, h4, h5, t3, t4, t5⟩ := h
  cases e0
  cases ee
  rcases row_form h4 with ⟨_, h0⟩ | ⟨g, cap, rfl, hg, hc⟩
  · omega
  have hl := h4.lt g rfl
  have c0 := h4.cellAt i (by omega)
  refine ⟨g, cap, rfl, by omega, hl.2, hc, fun j => h4.frozenAt j, by rw [c0]; simp [bls, hi], ?_⟩
  have q := (World.ownsRow.stored h4 i (.bool x)).1
  rw [bls_set] at q
  have a1 := row_apart o1 h4 (by decide)
  have a2 := row_apart o2 h4 (by decide)
  have a3 := row_apart h3 h4 (by decide)
  have a5 := row_apart h5 h4 (by decide)
  exact ⟨m, _, _, _, _, _, rfl, hm, hmt, ⟨_, _, rfl, row_set_apart o1 (fun k e hk => a1 k e (by rw [hk]; rfl)) _, row_set_apart o2 (fun k e hk => a2 k e (by rw [hk]; rfl)) _, t1, t2⟩, row_set_apart h3 (fun k e hk => a3 k e (by rw [hk]; rfl)) _, row_castN q (by simp), row_set_apart h5 (fun k e hk => a5 k e (by rw [hk]; rfl)) _, t3, t4, t5⟩
theorem sdo_se {w : World} {base top : Nat} {num co : Int} {vp vr vu vh vs : Value} {s : Sd} (h : SdO w base top (.agg #[.int .i64 num, vp, vr, .int .i64 co, vu, vh, vs]) s) {i : Nat} (hi : i < s.se.length) (x : Int) :
    ∃ g cap, vs = .slice (some ⟨g, 0, none⟩) s.se.length cap ∧ base ≤ g ∧ g < w.heap.size ∧ s.se.length ≤ cap ∧ (∀ j, w.frozen? ⟨g, j, none⟩ = false) ∧ w.cell? ⟨g, i, none⟩ = some (.int .i64 s.se[i]) ∧
      SdO (w.setCell ⟨g, i, none⟩ (.int .i64 x)) base top (.agg #[.int .i64 num, vp, vr, .int .i64 co, vu, vh, vs]) ⟨s.fo, s.co, s.ru, s.ha, s.se.set i x⟩ := by
  obtain ⟨m, _, _, _, _, _, e0, hm, hmt, ⟨_, _, ee, o1, o2, t1, t2⟩, h3, h4, h5, t3, t4, t5⟩ := h
  cases e0
  cases ee
  rcases row_form h5 with ⟨_, h0⟩ | ⟨g, cap, rfl, hg, hc⟩
  · omega
  have hl := h5.lt g rfl
  have c0 := h5.cellAt i (by omega)
  refine ⟨g, cap, rfl, by omega, hl.2, hc, fun j => h5.frozenAt j, by rw [c0]; simp [nums, hi], ?_⟩
  have q := (World.ownsRow.stored h5 i (.int .i64 x)).1
  rw [nums_set] at q
  have a1 := row_apart o1 h5 (by decide)
  have a3 := row_apart h3 h5 (by decide)
  have a4 := row_apart h4 h5 (by decide)
  exact ⟨m, _, _, _, _, _, rfl, hm, hmt, ⟨_, _, rfl, row_set_apart o1 (fun k e hk => a1 k e (by rw [hk]; rfl)) _, row_set_apart o2 (fun k e => by have := t2 k e; omega) _, t1, t2⟩, row_set_apart h3 (fun k e hk => a3 k e (by rw [hk]; rfl)) _, row_set_apart h4 (fun k e hk => a4 k e (by rw [hk]; rfl)) _, row_castN q (by simp), t3, t4, t5⟩

/-- make([]T, n) in a drawing region. -/
theorem step_make {P : Program} {w : World} {ops : Array Oper} {o : Oper} {a : Act} {K : Act → World → Prop} {Q : Exit → Act → World → Prop} {E : Prop} (hgd : o.guard = none) (l c : Operand) (t : TypeId) (hop : o.op = .makeSlice t l c)
    (base : Nat) (e : TypeId) (i : TypeInfo) (z : Value) (size : Nat) (h1 : P.underlying t = some (.slice e)) (h2 : P.info? e = some i) (h3 : i.zero = some z) (h4 : i.size = size)
    (n : Nat) (hl : a.eval l = .int .i64 (n : Int)) (hc : a.eval c = .int .i64 (n : Int)) (b2 : i.bytes * n ≤ 281474976710656) (b3 : n ≤ maxLen) (b4 : base ≤ w.heap.size)
    (h : ∀ w', w'.ownsRow base e size (.slice (some ⟨w.heap.size, 0, none⟩) n n) n (madeCells z.cells (n * size)).toList → w.grownBy w' none → K (a.put o.dst (.slice (some ⟨w.heap.size, 0, none⟩) n n)) w') :
    if Region.wanted o (yielded ops a.tmps) = true then Oper.wp P o a w K Q else E := by
  have hw : Region.wanted o (yielded ops a.tmps) = true := by simp [Region.wanted, hgd]
  rw [if_pos hw]
  obtain ⟨w', hrun, r1, r2⟩ := run_make_full (P := P) w base t e i z size h1 h2 h3 h4 .i64 .i64 n b2 b3 b4
  unfold Oper.wp
  simp [execOp, hop, hl, hc, hrun, Result.andThen]
  exact h w' r1 r2
/-- Three operations, any of which may come first. -/
theorem takeC3 {P : Program} {ops : Array Oper} {Q : Exit → Act → World → Prop} {md : Region.Mode} {S : World → Prop} (i j k : Nat) {oi oj ok : Oper} {fuel : Nat} {listed : Array Bool} {a : Act} {w : World} (hr : Region.ready md ops listed = [i, j, k]) (hi : (ops.toList.drop i).head? = some oi) (hj : (ops.toList.drop j).head? = some oj) (hk : (ops.toList.drop k).head? = some ok)
    (h : ∀ K' : Act → World → Prop, Shut (∀ a w, S w → (S w → wpAnyH P md ops Q S fuel (listed.setIfInBounds i true) a w) → K' a w) → if Region.wanted oi (yielded ops a.tmps) = true then Oper.wp P oi a w K' Q else K' (a.put oi.dst undef) w)
    (h' : ∀ K' : Act → World → Prop, Shut (∀ a w, S w → (S w → wpAnyH P md ops Q S fuel (listed.setIfInBounds j true) a w) → K' a w) → if Region.wanted oj (yielded ops a.tmps) = true then Oper.wp P oj a w K' Q else K' (a.put oj.dst undef) w)
    (h'' : ∀ K' : Act → World → Prop, Shut (∀ a w, S w → (S w → wpAnyH P md ops Q S fuel (listed.setIfInBounds k true) a w) → K' a w) → if Region.wanted ok (yielded ops a.tmps) = true then Oper.wp P ok a w K' Q else K' (a.put ok.dst undef) w) : wpAnyH P md ops Q S (fuel + 1) listed a w :=
  wpAnyH_ready hr (by simp) (AllReadyH.cons (at_drop hi) h (AllReadyH.cons (at_drop hj) h' (AllReadyH.cons (at_drop hk) h'' AllReadyH.nil)))
theorem made_r (n : Nat) : (madeCells (Value.cells (.agg #[.bool false, .string ByteArray.empty, .string ByteArray.empty, .string ByteArray.empty])) (n * 4)).toList = (List.replicate n zrU).flatMap Ru.cells := by
  apply List.ext_getElem?
  intro j
  by_cases hj : j < n * 4
  · have e : j = (j / 4) * 4 + j % 4 := by omega
    have h4 : j % 4 < 4 := Nat.mod_lt _ (by decide)
    have hr : j / 4 < (List.replicate n zrU).length := by rw [List.length_replicate]; omega
    have e2 := flat_at (List.replicate n zrU) (j / 4) (j % 4) hr h4
    rw [← e] at e2
    rw [e2, List.getElem_replicate]
    simp only [madeCells, Value.cells, Array.toList_map, Array.toList_range, List.getElem?_map, List.getElem?_range hj, Option.map_some]
    generalize j % 4 = q at *
    rcases q with _ | _ | _ | _ | q
    · rfl
    · rfl
    · rfl
    · rfl
    · omega
  · rw [List.getElem?_eq_none (by simp [madeCells]; omega), List.getElem?_eq_none (by rw [flat_len, List.length_replicate]; omega)]
theorem made_b (n : Nat) : (madeCells (Value.cells (.bool false)) (n * 1)).toList = bls (List.replicate n false) := by
  simp [madeCells, Value.cells, bls, Nat.mod_one]
  exact List.ext_getElem? (fun j => by by_cases hj : j < n <;> simp [hj])
theorem made_n (n : Nat) : (madeCells (Value.cells (.int .i64 0)) (n * 1)).toList = nums (List.replicate n 0) := by
  simp [madeCells, Value.cells, nums, Nat.mod_one]
  exact List.ext_getElem? (fun j => by by_cases hj : j < n <;> simp [hj])

end Go.Proofs.YtjnajdilllkpcaaGreat
