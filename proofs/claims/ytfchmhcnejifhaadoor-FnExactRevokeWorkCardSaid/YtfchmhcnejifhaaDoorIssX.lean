/-
  Chapter 4: EnrolWork, by the specification.
-/
import Derived.Test.YtfchmhcnejifhaaDoorIssS
import Derived.Test.YtfchmhcnejifhaaDoorIssO
namespace Go.Proofs.YtfchmhcnejifhaaDoor
open Go.RowKit Go.Shelf

theorem wput (ws : List Wk) (n : Nat) (k : Wk) : (ws.flatMap Wk.cells).take (n * 3) ++ k.cells ++ (ws.flatMap Wk.cells).drop (n * 3) = (ws.take n ++ k :: ws.drop n).flatMap Wk.cells := by
  rw [wflat_take, wflat_drop]
  simp

set_option maxHeartbeats 8000000 in
set_option maxRecDepth 100000 in
theorem specEnrol_any (v : Value) (s : Is) (name : ByteArray) (base top : Nat) (w : World) (hs : s.short) (hn : s.named) (hm : name.size ≤ 1048576) (h : IsO w base top v s) :
    Calls Tryd.prog 6 #[v, .string name] w fun e w' => ∃ v', e = .returned (.tuple #[v', .int .i64 (enX s name).2]) ∧ IsO w' w.heap.size w'.heap.size v' (enX s name).1 ∧ Below w.heap.size w w' := by
  obtain ⟨aw, cw, ar, cr, ag, cg, rfl⟩ := is_forms h.a
  have hB0 : Below w.heap.size w ((w.alloc (.cells #[.slice aw s.ws.length cw, .int .i64 s.nx, .slice ar s.rv.length cr, .slice ag s.sg.length cg] 30)).alloc (.cells #[.slice none 0 0, .int .i64 0, .slice none 0 0, .slice none 0 0] 30)) := ((Below.refl _ w).alloc (Nat.le_refl _) _).alloc (by simp) _
  have F1 := (Four.new w (.slice aw s.ws.length cw) (.int .i64 s.nx) (.slice ar s.rv.length cr) (.slice ag s.sg.length cg) 30).below ((Below.refl _ _).alloc (Nat.le_refl _) (.cells #[.slice none 0 0, .int .i64 0, .slice none 0 0, .slice none 0 0] 30))
  have F2 := Four.at (w.alloc (.cells #[.slice aw s.ws.length cw, .int .i64 s.nx, .slice ar s.rv.length cr, .slice ag s.sg.length cg] 30)) (.slice none 0 0) (.int .i64 0) (.slice none 0 0) (.slice none 0 0) 30 (k := w.heap.size + 1) (by simp)
  go_enter Tryd.func6, Tryd.ntmps6
  go_wp2_with fail
  generalize (w.alloc (.cells #[.slice aw s.ws.length cw, .int .i64 s.nx, .slice ar s.rv.length cr, .slice ag s.sg.length cg] 30)).alloc (.cells #[.slice none 0 0, .int .i64 0, .slice none 0 0, .slice none 0 0] 30) = Wz at *
  refine (specGoodIssuer_any _ s _ hs hn (h.a.below hB0)).mono ?_
  rintro e w1 ⟨rfl, hB1⟩
  replace F1 := F1.below hB1
  replace F2 := F2.below hB1
  have hBB := below_one hB0 hB1
  clear hB0 hB1
  obtain ⟨a0, a1, a2, a3⟩ := F1.c
  cases hg : isB s
  · have HR := hid (show enX s name = (Is.none, 1) by unfold enX; rw [hg]; rfl)
    obtain ⟨r0, r1, r2, r3⟩ := F2.c
    have f0 := F2.f 0
    have f1 := F2.f 1
    have f2 := F2.f 2
    have f3 := F2.f 3
    have G := (((F2.s0 (.slice none 0 0)).s1 (.int .i64 0)).s2 (.slice none 0 0)).s3 (.slice none 0 0)
    have pB := below_four hBB (k := w.heap.size + 1) (by omega) (.slice none 0 0) (.int .i64 0) (.slice none 0 0) (.slice none 0 0)
    go_wp2_with fail
    clear r0 r1 r2 r3 f0 f1 f2 f3
    generalize (((w1.setCell ⟨w.heap.size + 1, 0, none⟩ (.slice none 0 0)).setCell ⟨w.heap.size + 1, 1, none⟩ (.int .i64 0)).setCell ⟨w.heap.size + 1, 2, none⟩ (.slice none 0 0)).setCell ⟨w.heap.size + 1, 3, none⟩ (.slice none 0 0) = W5 at *
    obtain ⟨d0, d1, d2, d3⟩ := G.c
    exact bodyPost_ret (v := .tuple #[.agg #[(.slice none 0 0), (.int .i64 0), (.slice none 0 0), (.slice none 0 0)], .int .i64 1]) (by simp [results, Tryd.results6, go_sem, d0, d1, d2, d3]) rfl ⟨_, by rw [HR.out], by rw [HR.out]; exact none_o _ _ _, pB⟩
  go_wp2_with fail
  refine (specGoodName_any name _ hm).mono ?_
  rintro e w2 ⟨rfl, hB2⟩
  replace F1 := F1.below hB2
  replace F2 := F2.below hB2
  replace hBB := below_one hBB hB2
  clear hB2 a0 a1 a2 a3
  obtain ⟨a0, a1, a2, a3⟩ := F1.c
  cases hg2 : gnB (split name 47)
  · have HR := hid (show enX s name = (Is.none, 1) by unfold enX nmOk; rw [hg, hg2]; rfl)
    obtain ⟨r0, r1, r2, r3⟩ := F2.c
    have f0 := F2.f 0
    have f1 := F2.f 1
    have f2 := F2.f 2
    have f3 := F2.f 3
    have G := (((F2.s0 (.slice none 0 0)).s1 (.int .i64 0)).s2 (.slice none 0 0)).s3 (.slice none 0 0)
    have pB := below_four hBB (k := w.heap.size + 1) (by omega) (.slice none 0 0) (.int .i64 0) (.slice none 0 0) (.slice none 0 0)
    go_wp2_with fail
    clear r0 r1 r2 r3 f0 f1 f2 f3
    generalize (((w2.setCell ⟨w.heap.size + 1, 0, none⟩ (.slice none 0 0)).setCell ⟨w.heap.size + 1, 1, none⟩ (.int .i64 0)).setCell ⟨w.heap.size + 1, 2, none⟩ (.slice none 0 0)).setCell ⟨w.heap.size + 1, 3, none⟩ (.slice none 0 0) = W5 at *
    obtain ⟨d0, d1, d2, d3⟩ := G.c
    exact bodyPost_ret (v := .tuple #[.agg #[(.slice none 0 0), (.int .i64 0), (.slice none 0 0), (.slice none 0 0)], .int .i64 1]) (by simp [results, Tryd.results6, go_sem, d0, d1, d2, d3]) rfl ⟨_, by rw [HR.out], by rw [HR.out]; exact none_o _ _ _, pB⟩
  have HX := hid (show enX s name = if livW s.ws name = true then (s, 2) else if hasW s.ws name = true then (⟨s.ws.set (atW s.ws name) ⟨name, true, 0⟩, s.nx, s.rv, s.sg⟩, 0) else if s.ws.length = 20 then (s, 4) else (⟨s.ws.take (atW s.ws name) ++ ⟨name, true, 0⟩ :: s.ws.drop (atW s.ws name), s.nx, s.rv, s.sg⟩, 0) by unfold enX nmOk; rw [hg, hg2]; rfl)
  have hlen := (isB_hd hg).1
  clear hg hg2
  go_wp2_with fail
  refine (l4Own_any _ s base top _ hs (h.below hBB)).mono ?_
  rintro e w3 ⟨v3, rfl, ⟨vw, vr, vs, rfl, o1, o2, o3, _, _, _⟩, hB3, ⟨sa, sm, sc, sb, sd, sf, sg, se, hse⟩⟩
  obtain ⟨x1, y1, z1, rfl⟩ := row_slice o1
  have HSM := hid (show x1 ≠ none from fun e => by injection hse with hse; have := congrArg (fun a => a[0]?) hse; simp at this; rw [e] at this; simp at this)
  clear hse
  obtain ⟨x2, y2, z2, rfl⟩ := row_slice o2
  obtain ⟨x3, y3, z3, rfl⟩ := row_slice o3
  obtain rfl : y1 = s.ws.length := row_len o1
  have hk1 : w.heap.size + 1 < w2.heap.size := F2.lt
  have hk2 : w2.heap.size ≤ w3.heap.size := hB3.size
  replace F1 := F1.below hB3
  replace F2 := F2.below hB3
  replace hBB := below_one hBB hB3
  clear hB3 a0 a1 a2 a3
  obtain ⟨a0, a1, a2, a3⟩ := F1.c
  have f0 := F1.f 0
  have f1 := F1.f 1
  have f2 := F1.f 2
  have f3 := F1.f 3
  have G1 := (((F1.s0 (.slice x1 s.ws.length z1)).s1 (.int .i64 s.nx)).s2 (.slice x2 y2 z2)).s3 (.slice x3 y3 z3)
  have G2 := (((F2.other (k' := w.heap.size) (by omega) 0 (.slice x1 s.ws.length z1)).other (k' := w.heap.size) (by omega) 1 (.int .i64 s.nx)).other (k' := w.heap.size) (by omega) 2 (.slice x2 y2 z2)).other (k' := w.heap.size) (by omega) 3 (.slice x3 y3 z3)
  have q1 := row_four o1 (k := w.heap.size) (by omega) (.slice x1 s.ws.length z1) (.int .i64 s.nx) (.slice x2 y2 z2) (.slice x3 y3 z3)
  have q2 := row_four o2 (k := w.heap.size) (by omega) (.slice x1 s.ws.length z1) (.int .i64 s.nx) (.slice x2 y2 z2) (.slice x3 y3 z3)
  have q3 := row_four o3 (k := w.heap.size) (by omega) (.slice x1 s.ws.length z1) (.int .i64 s.nx) (.slice x2 y2 z2) (.slice x3 y3 z3)
  have hB4 := below_four hBB (k := w.heap.size) (Nat.le_refl _) (.slice x1 s.ws.length z1) (.int .i64 s.nx) (.slice x2 y2 z2) (.slice x3 y3 z3)
  have hk5 : w2.heap.size ≤ ((((w3.setCell ⟨w.heap.size, 0, none⟩ (.slice x1 s.ws.length z1)).setCell ⟨w.heap.size, 1, none⟩ (.int .i64 s.nx)).setCell ⟨w.heap.size, 2, none⟩ (.slice x2 y2 z2)).setCell ⟨w.heap.size, 3, none⟩ (.slice x3 y3 z3)).heap.size := by simp; exact hk2
  clear F1 F2 o1 o2 o3 hBB
  obtain ⟨n0, n1, n2, n3⟩ := G1.c
  go_wp2_with fail
  clear a0 a1 a2 a3 f0 f1 f2 f3 n0 n1 n2 n3
  generalize (((w3.setCell ⟨w.heap.size, 0, none⟩ (.slice x1 s.ws.length z1)).setCell ⟨w.heap.size, 1, none⟩ (.int .i64 s.nx)).setCell ⟨w.heap.size, 2, none⟩ (.slice x2 y2 z2)).setCell ⟨w.heap.size, 3, none⟩ (.slice x3 y3 z3) = W3 at *
  refine (l4At_any _ s name _ hs.1 (IsO.of q1 q2 q3).a).mono ?_
  rintro e w4 ⟨rfl, hB5⟩
  have F1 := G1.below hB5
  have F2 := G2.below hB5
  have o1 := ownsRow_below q1 hB5
  have o2 := ownsRow_below q2 hB5
  have o3 := ownsRow_below q3 hB5
  have hBB := below_one hB4 hB5
  have hB5s := hB5.size
  clear G1 G2 q1 q2 q3 hB4 hB5
  have hle := atW_le s.ws name
  have hk4 : w2.heap.size ≤ w4.heap.size := Nat.le_trans hk5 hB5s
  have hBk : Below w4.heap.size w4 (w4.alloc (.cells #[.string name, .bool true, .int .i64 0] 48)) := (Below.refl _ w4).alloc (Nat.le_refl _) _
  obtain ⟨m0, m1, m2⟩ := cells3 w4 (.string name) (.bool true) (.int .i64 0) 48
  have hkw : w4.heap.size < (w4.alloc (.cells #[.string name, .bool true, .int .i64 0] 48)).heap.size := by simp
  have hko : ∀ k, (Value.slice x1 s.ws.length z1).ownBlock = some k → k < w4.heap.size := fun k e => (o1.lt k e).2
  replace F1 := F1.below hBk
  replace F2 := F2.below hBk
  replace o1 := ownsRow_below o1 hBk
  replace o2 := ownsRow_below o2 hBk
  replace o3 := ownsRow_below o3 hBk
  replace hBB := below_one hBB hBk
  clear hBk
  cases hh : hasW s.ws name
  · have hli := livW_no hh
    by_cases c20 : s.ws.length = 20
    · have HR := hid (show enX s name = (s, 4) by rw [HX.out, hli, hh, if_neg (by decide), if_neg (by decide), if_pos c20])
      have d20 : ((s.ws.length : Int) == 20) = true := by simp; omega
      clear c20
      generalize atW s.ws name = n at *
      clear HX
      obtain ⟨a0, a1, a2, a3⟩ := F1.c
      obtain ⟨b0, b1, b2, b3⟩ := F1.c
      obtain ⟨r0, r1, r2, r3⟩ := F2.c
      have f0 := F2.f 0
      have f1 := F2.f 1
      have f2 := F2.f 2
      have f3 := F2.f 3
      have G := (((F2.s0 (.slice x1 s.ws.length z1)).s1 (.int .i64 s.nx)).s2 (.slice x2 y2 z2)).s3 (.slice x3 y3 z3)
      have pB := below_four hBB (k := w.heap.size + 1) (by omega) (.slice x1 s.ws.length z1) (.int .i64 s.nx) (.slice x2 y2 z2) (.slice x3 y3 z3)
      have q1 := row_four o1 (k := w.heap.size + 1) (by omega) (.slice x1 s.ws.length z1) (.int .i64 s.nx) (.slice x2 y2 z2) (.slice x3 y3 z3)
      have q2 := row_four o2 (k := w.heap.size + 1) (by omega) (.slice x1 s.ws.length z1) (.int .i64 s.nx) (.slice x2 y2 z2) (.slice x3 y3 z3)
      have q3 := row_four o3 (k := w.heap.size + 1) (by omega) (.slice x1 s.ws.length z1) (.int .i64 s.nx) (.slice x2 y2 z2) (.slice x3 y3 z3)
      go_wp2_with fail
      clear r0 r1 r2 r3 f0 f1 f2 f3 b0 b1 b2 b3
      generalize ((((w4.alloc (.cells #[.string name, .bool true, .int .i64 0] 48)).setCell ⟨w.heap.size + 1, 0, none⟩ (.slice x1 s.ws.length z1)).setCell ⟨w.heap.size + 1, 1, none⟩ (.int .i64 s.nx)).setCell ⟨w.heap.size + 1, 2, none⟩ (.slice x2 y2 z2)).setCell ⟨w.heap.size + 1, 3, none⟩ (.slice x3 y3 z3) = W5 at *
      obtain ⟨d0, d1, d2, d3⟩ := G.c
      exact bodyPost_ret (v := .tuple #[.agg #[(.slice x1 s.ws.length z1), (.int .i64 s.nx), (.slice x2 y2 z2), (.slice x3 y3 z3)], .int .i64 4]) (by simp [results, Tryd.results6, go_sem, d0, d1, d2, d3]) rfl ⟨_, by rw [HR.out], by rw [HR.out]; exact IsO.of (s := s) (Go.Joins.ownsRow_le q1 (by omega)) (Go.Joins.ownsRow_le q2 (by omega)) (Go.Joins.ownsRow_le q3 (by omega)), pB⟩
    · have HR := hid (show enX s name = (⟨s.ws.take (atW s.ws name) ++ ⟨name, true, 0⟩ :: s.ws.drop (atW s.ws name), s.nx, s.rv, s.sg⟩, 0) by rw [HX.out, hli, hh, if_neg (by decide), if_neg (by decide), if_neg c20])
      have d20 : ((s.ws.length : Int) == 20) = false := by simp; omega
      generalize atW s.ws name = n at *
      clear HX c20
      obtain ⟨iw, hiw, hw0, hw1, hw2⟩ := info_parts infoWork
      have hl5 := o1.1
      obtain ⟨a0, a1, a2, a3⟩ := F1.c
      have HW := hid (wput s.ws n ⟨name, true, 0⟩)
      have HL := hid (show n + 1 + (s.ws.length - n) = (s.ws.take n ++ (⟨name, true, 0⟩ : Wk) :: s.ws.drop n).length by simp; omega)
      have hone : ∀ u ∈ Wk.cells ⟨name, true, 0⟩, u.oneCell' = true := by intro u hu; simp at hu; rcases hu with rfl | rfl | rfl <;> rfl
      rcases row_form o1 with ⟨hx1, h0⟩ | ⟨g5, z5, hv, hg5, hz5⟩
      · exfalso
        injection hx1 with hx1 _ _
        exact HSM.out hx1
      · injection hv with hv1 _ hv3
        subst hv1 hv3
        have hn1 : (n : Int) ≤ (s.ws.length : Int) := by omega
        have hn2 : (n : Int) ≤ (z1 : Int) := by omega
        have htk : ∀ j u, ((s.ws.flatMap Wk.cells).take (n * 3))[j]? = some u → (w4.alloc (.cells #[.string name, .bool true, .int .i64 0] 48)).cell? ((⟨g5, 0, none⟩ : Addr).add j) = some u := fun j u hj => by
          rw [List.getElem?_take] at hj
          split at hj
          · exact o1.cells (g := g5) rfl j u hj
          · cases hj
        have hN := World.ownsRow_nil (w4.alloc (.cells #[.string name, .bool true, .int .i64 0] 48)) (w4.alloc (.cells #[.string name, .bool true, .int .i64 0] 48)).heap.size 48 3
        go_wp2_with (at_builtin; refine wpList_append_own _ rfl _ _ 28 rfl (w4.alloc (.cells #[.string name, .bool true, .int .i64 0] 48)).heap.size 48 iw _ 3 32 Tryd.underlying28 hiw hw0 hw1 hw2 rfl (by decide) _ _ _ rfl hN ⟨g5, 0, none⟩ n z1 ((s.ws.flatMap Wk.cells).take (n * 3)) rfl (by rw [List.length_take]; omega) htk (fun u hu => one_w u (List.mem_of_mem_take hu)) (by unfold maxLen; omega) (by omega) (Nat.le_refl _) ?_)
        intro v5 w5 o5 g5' _
        obtain ⟨x5, y5, z5, rfl⟩ := row_slice o5
        have hC5 : Below (w4.alloc (.cells #[.string name, .bool true, .int .i64 0] 48)).heap.size (w4.alloc (.cells #[.string name, .bool true, .int .i64 0] 48)) w5 := (Below.refl _ _).grown g5' (Nat.le_refl _) (fun k e => by simp [Value.ownBlock] at e)
        have e0 := (hC5.cell (p := ⟨w4.heap.size, 0, none⟩) hkw).trans m0
        have e1 := (hC5.cell (p := ⟨w4.heap.size, 1, none⟩) hkw).trans m1
        have e2 := (hC5.cell (p := ⟨w4.heap.size, 2, none⟩) hkw).trans m2
        have hsb : (w4.alloc (.cells #[.string name, .bool true, .int .i64 0] 48)).heap.size = w4.heap.size + 1 := by simp
        have HSB := hid hsb
        clear hsb g5' htk hN
        have o5a := (Go.Joins.ownsRow_le o5 (show (w4.alloc (.cells #[.string name, .bool true, .int .i64 0] 48)).heap.size ≤ w4.heap.size + 1 by rw [HSB.out]; exact Nat.le_refl _)).alloc (.cells #[.string name, .bool true, .int .i64 0] 48)
        have hC5a : Below (w4.alloc (.cells #[.string name, .bool true, .int .i64 0] 48)).heap.size (w4.alloc (.cells #[.string name, .bool true, .int .i64 0] 48)) (w5.alloc (.cells #[.string name, .bool true, .int .i64 0] 48)) := hC5.alloc hC5.size _
        have hnw : ∀ j u, (Wk.cells ⟨name, true, 0⟩)[j]? = some u → (w5.alloc (.cells #[.string name, .bool true, .int .i64 0] 48)).cell? ((⟨w5.heap.size, 0, none⟩ : Addr).add j) = some u := fun j u hj => by
          rw [Addr.add_lit, Nat.zero_add, World.cell?_alloc_at _ _ _ _ rfl]
          simpa using hj
        go_wp2_with (at_builtin; refine wpList_append_own _ rfl _ _ 28 rfl (w4.alloc (.cells #[.string name, .bool true, .int .i64 0] 48)).heap.size 48 iw _ 3 32 Tryd.underlying28 hiw hw0 hw1 hw2 rfl (by decide) _ _ _ rfl o5a ⟨w5.heap.size, 0, none⟩ 1 1 (Wk.cells ⟨name, true, 0⟩) rfl rfl hnw hone (by unfold maxLen; omega) (by omega) hC5a.size ?_)
        intro v6 w6 o6 g6 _
        obtain ⟨x6, y6, z6, rfl⟩ := row_slice o6
        have hC6 : Below (w4.alloc (.cells #[.string name, .bool true, .int .i64 0] 48)).heap.size (w4.alloc (.cells #[.string name, .bool true, .int .i64 0] 48)) w6 := hC5a.grown g6 hC5a.size (fun k e => (o5a.lt k e).1)
        clear o5 o5a g6 hnw hC5 hC5a e0 e1 e2
        obtain ⟨b0, b1, b2, b3⟩ := (F1.below hC6).c
        have hk3 : w2.heap.size ≤ w4.heap.size := hk4
        have o6a := Go.Joins.ownsRow_le o6 (show (w4.alloc (.cells #[.string name, .bool true, .int .i64 0] 48)).heap.size ≤ w4.heap.size + 1 by rw [HSB.out]; exact Nat.le_refl _)
        have o1w := ownsRow_below o1 hC6
        by_cases hnl : n < s.ws.length
        · have hz1 : ¬ (z1 = n) := by omega
          have hdr : ∀ j u, ((s.ws.flatMap Wk.cells).drop (n * 3))[j]? = some u → w6.cell? ((⟨g5, n * 3, none⟩ : Addr).add j) = some u := fun j u hj => by
            rw [List.getElem?_drop] at hj
            have := o1w.cells (g := g5) rfl _ u hj
            rw [Addr.add_lit, Nat.zero_add] at this
            rw [Addr.add_lit]
            exact this
          go_wp2_with (at_builtin; refine wpList_append_own _ rfl _ _ 28 rfl (w4.alloc (.cells #[.string name, .bool true, .int .i64 0] 48)).heap.size 48 iw _ 3 32 Tryd.underlying28 hiw hw0 hw1 hw2 rfl (by decide) _ _ _ rfl o6a ⟨g5, n * 3, none⟩ (s.ws.length - n) (z1 - n) ((s.ws.flatMap Wk.cells).drop (n * 3)) rfl (by rw [List.length_drop, hl5, Nat.sub_mul]) hdr (fun u hu => one_w u (List.mem_of_mem_drop hu)) (by unfold maxLen; omega) (by omega) hC6.size ?_)
          intro v7 w7 o7 g7 _
          replace o7 : w7.ownsRow (w4.heap.size + 1) 48 3 v7 (n + 1 + (s.ws.length - n)) ((s.ws.take n ++ ⟨name, true, 0⟩ :: s.ws.drop n).flatMap Wk.cells) := by rw [← HW.out]; simpa using o7
          clear hdr
          obtain ⟨x7, y7, z7, rfl⟩ := row_slice o7
          have hC7 : Below (w4.alloc (.cells #[.string name, .bool true, .int .i64 0] 48)).heap.size (w4.alloc (.cells #[.string name, .bool true, .int .i64 0] 48)) w7 := hC6.grown g7 hC6.size (fun k e => (o6a.lt k e).1)
          replace F1 := F1.below hC7
          replace F2 := F2.below hC7
          replace o2 := ownsRow_below o2 hC7
          replace o3 := ownsRow_below o3 hC7
          replace hBB := below_one hBB hC7
          have hb7 := HSB.out
          clear b0 b1 b2 b3 hC6 o6 o6a g7 o1w hC7 a0 a1 a2 a3
          obtain ⟨a0, a1, a2, a3⟩ := F1.c
          have bf := F1.f 0
          replace F1 := F1.s0 (.slice x7 y7 z7)
          replace F2 := F2.other (k' := w.heap.size) (by omega) 0 (.slice x7 y7 z7)
          have u1 := ownsRow_setCell_below o7 (a := ⟨w.heap.size, 0, none⟩) (by simp; have := hk3; omega) (.slice x7 y7 z7)
          have u2 := ownsRow_setCell_below o2 (a := ⟨w.heap.size, 0, none⟩) (by simp; omega) (.slice x7 y7 z7)
          have u3 := ownsRow_setCell_below o3 (a := ⟨w.heap.size, 0, none⟩) (by simp; omega) (.slice x7 y7 z7)
          replace hBB := hBB.setCell (p := ⟨w.heap.size, 0, none⟩) (by simp) (.slice x7 y7 z7)
          clear hb7
          obtain ⟨b0, b1, b2, b3⟩ := F1.c
          obtain ⟨r0, r1, r2, r3⟩ := F2.c
          have f0 := F2.f 0
          have f1 := F2.f 1
          have f2 := F2.f 2
          have f3 := F2.f 3
          have G := (((F2.s0 (.slice x7 y7 z7)).s1 (.int .i64 s.nx)).s2 (.slice x2 y2 z2)).s3 (.slice x3 y3 z3)
          have pB := below_four hBB (k := w.heap.size + 1) (by omega) (.slice x7 y7 z7) (.int .i64 s.nx) (.slice x2 y2 z2) (.slice x3 y3 z3)
          have q1 := row_four u1 (k := w.heap.size + 1) (by omega) (.slice x7 y7 z7) (.int .i64 s.nx) (.slice x2 y2 z2) (.slice x3 y3 z3)
          have q2 := row_four u2 (k := w.heap.size + 1) (by omega) (.slice x7 y7 z7) (.int .i64 s.nx) (.slice x2 y2 z2) (.slice x3 y3 z3)
          have q3 := row_four u3 (k := w.heap.size + 1) (by omega) (.slice x7 y7 z7) (.int .i64 s.nx) (.slice x2 y2 z2) (.slice x3 y3 z3)
          go_wp2_with fail
          clear r0 r1 r2 r3 f0 f1 f2 f3 b0 b1 b2 b3
          generalize ((((w7.setCell ⟨w.heap.size, 0, none⟩ (.slice x7 y7 z7)).setCell ⟨w.heap.size + 1, 0, none⟩ (.slice x7 y7 z7)).setCell ⟨w.heap.size + 1, 1, none⟩ (.int .i64 s.nx)).setCell ⟨w.heap.size + 1, 2, none⟩ (.slice x2 y2 z2)).setCell ⟨w.heap.size + 1, 3, none⟩ (.slice x3 y3 z3) = W5 at *
          obtain ⟨d0, d1, d2, d3⟩ := G.c
          exact bodyPost_ret (v := .tuple #[.agg #[(.slice x7 y7 z7), (.int .i64 s.nx), (.slice x2 y2 z2), (.slice x3 y3 z3)], .int .i64 0]) (by simp [results, Tryd.results6, go_sem, d0, d1, d2, d3]) rfl ⟨_, by rw [HR.out], by rw [HR.out]; exact IsO.of (s := ⟨s.ws.take n ++ ⟨name, true, 0⟩ :: s.ws.drop n, s.nx, s.rv, s.sg⟩) (Go.Joins.ownsRow_le (row_cast q1 HL.out) (by omega)) (Go.Joins.ownsRow_le q2 (by omega)) (Go.Joins.ownsRow_le q3 (by omega)), pB⟩
        · obtain rfl : n = s.ws.length := by omega
          by_cases hzz : z1 = s.ws.length
          all_goals go_wp2_with (at_builtin; refine wpList_append_own _ rfl _ _ 28 rfl (w4.alloc (.cells #[.string name, .bool true, .int .i64 0] 48)).heap.size 48 iw _ 3 32 Tryd.underlying28 hiw hw0 hw1 hw2 rfl (by decide) _ _ _ rfl o6a _ 0 _ [] rfl rfl (by simp) (by simp) (by unfold maxLen; omega) (by omega) hC6.size ?_)
          all_goals intro v7 w7 o7 g7 _
          all_goals replace o7 : w7.ownsRow (w4.heap.size + 1) 48 3 v7 (s.ws.length + 1 + (s.ws.length - s.ws.length)) ((s.ws.take s.ws.length ++ ⟨name, true, 0⟩ :: s.ws.drop s.ws.length).flatMap Wk.cells) := by rw [← HW.out, List.drop_of_length_le (by omega)]; exact row_cast (by simpa using o7) (by omega)
          · skip
            obtain ⟨x7, y7, z7, rfl⟩ := row_slice o7
            have hC7 : Below (w4.alloc (.cells #[.string name, .bool true, .int .i64 0] 48)).heap.size (w4.alloc (.cells #[.string name, .bool true, .int .i64 0] 48)) w7 := hC6.grown g7 hC6.size (fun k e => (o6a.lt k e).1)
            replace F1 := F1.below hC7
            replace F2 := F2.below hC7
            replace o2 := ownsRow_below o2 hC7
            replace o3 := ownsRow_below o3 hC7
            replace hBB := below_one hBB hC7
            have hb7 := HSB.out
            clear b0 b1 b2 b3 hC6 o6 o6a g7 o1w hC7 a0 a1 a2 a3
            obtain ⟨a0, a1, a2, a3⟩ := F1.c
            have bf := F1.f 0
            replace F1 := F1.s0 (.slice x7 y7 z7)
            replace F2 := F2.other (k' := w.heap.size) (by omega) 0 (.slice x7 y7 z7)
            have u1 := ownsRow_setCell_below o7 (a := ⟨w.heap.size, 0, none⟩) (by simp; have := hk3; omega) (.slice x7 y7 z7)
            have u2 := ownsRow_setCell_below o2 (a := ⟨w.heap.size, 0, none⟩) (by simp; omega) (.slice x7 y7 z7)
            have u3 := ownsRow_setCell_below o3 (a := ⟨w.heap.size, 0, none⟩) (by simp; omega) (.slice x7 y7 z7)
            replace hBB := hBB.setCell (p := ⟨w.heap.size, 0, none⟩) (by simp) (.slice x7 y7 z7)
            clear hb7
            obtain ⟨b0, b1, b2, b3⟩ := F1.c
            obtain ⟨r0, r1, r2, r3⟩ := F2.c
            have f0 := F2.f 0
            have f1 := F2.f 1
            have f2 := F2.f 2
            have f3 := F2.f 3
            have G := (((F2.s0 (.slice x7 y7 z7)).s1 (.int .i64 s.nx)).s2 (.slice x2 y2 z2)).s3 (.slice x3 y3 z3)
            have pB := below_four hBB (k := w.heap.size + 1) (by omega) (.slice x7 y7 z7) (.int .i64 s.nx) (.slice x2 y2 z2) (.slice x3 y3 z3)
            have q1 := row_four u1 (k := w.heap.size + 1) (by omega) (.slice x7 y7 z7) (.int .i64 s.nx) (.slice x2 y2 z2) (.slice x3 y3 z3)
            have q2 := row_four u2 (k := w.heap.size + 1) (by omega) (.slice x7 y7 z7) (.int .i64 s.nx) (.slice x2 y2 z2) (.slice x3 y3 z3)
            have q3 := row_four u3 (k := w.heap.size + 1) (by omega) (.slice x7 y7 z7) (.int .i64 s.nx) (.slice x2 y2 z2) (.slice x3 y3 z3)
            go_wp2_with fail
            clear r0 r1 r2 r3 f0 f1 f2 f3 b0 b1 b2 b3
            generalize ((((w7.setCell ⟨w.heap.size, 0, none⟩ (.slice x7 y7 z7)).setCell ⟨w.heap.size + 1, 0, none⟩ (.slice x7 y7 z7)).setCell ⟨w.heap.size + 1, 1, none⟩ (.int .i64 s.nx)).setCell ⟨w.heap.size + 1, 2, none⟩ (.slice x2 y2 z2)).setCell ⟨w.heap.size + 1, 3, none⟩ (.slice x3 y3 z3) = W5 at *
            obtain ⟨d0, d1, d2, d3⟩ := G.c
            exact bodyPost_ret (v := .tuple #[.agg #[(.slice x7 y7 z7), (.int .i64 s.nx), (.slice x2 y2 z2), (.slice x3 y3 z3)], .int .i64 0]) (by simp [results, Tryd.results6, go_sem, d0, d1, d2, d3]) rfl ⟨_, by rw [HR.out], by rw [HR.out]; exact IsO.of (s := ⟨s.ws.take s.ws.length ++ ⟨name, true, 0⟩ :: s.ws.drop s.ws.length, s.nx, s.rv, s.sg⟩) (Go.Joins.ownsRow_le (row_cast q1 HL.out) (by omega)) (Go.Joins.ownsRow_le q2 (by omega)) (Go.Joins.ownsRow_le q3 (by omega)), pB⟩
          · skip
            obtain ⟨x7, y7, z7, rfl⟩ := row_slice o7
            have hC7 : Below (w4.alloc (.cells #[.string name, .bool true, .int .i64 0] 48)).heap.size (w4.alloc (.cells #[.string name, .bool true, .int .i64 0] 48)) w7 := hC6.grown g7 hC6.size (fun k e => (o6a.lt k e).1)
            replace F1 := F1.below hC7
            replace F2 := F2.below hC7
            replace o2 := ownsRow_below o2 hC7
            replace o3 := ownsRow_below o3 hC7
            replace hBB := below_one hBB hC7
            have hb7 := HSB.out
            clear b0 b1 b2 b3 hC6 o6 o6a g7 o1w hC7 a0 a1 a2 a3
            obtain ⟨a0, a1, a2, a3⟩ := F1.c
            have bf := F1.f 0
            replace F1 := F1.s0 (.slice x7 y7 z7)
            replace F2 := F2.other (k' := w.heap.size) (by omega) 0 (.slice x7 y7 z7)
            have u1 := ownsRow_setCell_below o7 (a := ⟨w.heap.size, 0, none⟩) (by simp; have := hk3; omega) (.slice x7 y7 z7)
            have u2 := ownsRow_setCell_below o2 (a := ⟨w.heap.size, 0, none⟩) (by simp; omega) (.slice x7 y7 z7)
            have u3 := ownsRow_setCell_below o3 (a := ⟨w.heap.size, 0, none⟩) (by simp; omega) (.slice x7 y7 z7)
            replace hBB := hBB.setCell (p := ⟨w.heap.size, 0, none⟩) (by simp) (.slice x7 y7 z7)
            clear hb7
            obtain ⟨b0, b1, b2, b3⟩ := F1.c
            obtain ⟨r0, r1, r2, r3⟩ := F2.c
            have f0 := F2.f 0
            have f1 := F2.f 1
            have f2 := F2.f 2
            have f3 := F2.f 3
            have G := (((F2.s0 (.slice x7 y7 z7)).s1 (.int .i64 s.nx)).s2 (.slice x2 y2 z2)).s3 (.slice x3 y3 z3)
            have pB := below_four hBB (k := w.heap.size + 1) (by omega) (.slice x7 y7 z7) (.int .i64 s.nx) (.slice x2 y2 z2) (.slice x3 y3 z3)
            have q1 := row_four u1 (k := w.heap.size + 1) (by omega) (.slice x7 y7 z7) (.int .i64 s.nx) (.slice x2 y2 z2) (.slice x3 y3 z3)
            have q2 := row_four u2 (k := w.heap.size + 1) (by omega) (.slice x7 y7 z7) (.int .i64 s.nx) (.slice x2 y2 z2) (.slice x3 y3 z3)
            have q3 := row_four u3 (k := w.heap.size + 1) (by omega) (.slice x7 y7 z7) (.int .i64 s.nx) (.slice x2 y2 z2) (.slice x3 y3 z3)
            go_wp2_with fail
            clear r0 r1 r2 r3 f0 f1 f2 f3 b0 b1 b2 b3
            generalize ((((w7.setCell ⟨w.heap.size, 0, none⟩ (.slice x7 y7 z7)).setCell ⟨w.heap.size + 1, 0, none⟩ (.slice x7 y7 z7)).setCell ⟨w.heap.size + 1, 1, none⟩ (.int .i64 s.nx)).setCell ⟨w.heap.size + 1, 2, none⟩ (.slice x2 y2 z2)).setCell ⟨w.heap.size + 1, 3, none⟩ (.slice x3 y3 z3) = W5 at *
            obtain ⟨d0, d1, d2, d3⟩ := G.c
            exact bodyPost_ret (v := .tuple #[.agg #[(.slice x7 y7 z7), (.int .i64 s.nx), (.slice x2 y2 z2), (.slice x3 y3 z3)], .int .i64 0]) (by simp [results, Tryd.results6, go_sem, d0, d1, d2, d3]) rfl ⟨_, by rw [HR.out], by rw [HR.out]; exact IsO.of (s := ⟨s.ws.take s.ws.length ++ ⟨name, true, 0⟩ :: s.ws.drop s.ws.length, s.nx, s.rv, s.sg⟩) (Go.Joins.ownsRow_le (row_cast q1 HL.out) (by omega)) (Go.Joins.ownsRow_le q2 (by omega)) (Go.Joins.ownsRow_le q3 (by omega)), pB⟩
  · have hlt := hasW_lt hh
    obtain ⟨g5, hg5⟩ : ∃ g, x1 = some ⟨g, 0, none⟩ := by
      rcases row_form o1 with ⟨_, h0⟩ | ⟨g, z, hv, _, _⟩
      · omega
      · injection hv with hv _ _
        exact ⟨g, hv⟩
    subst hg5
    have HLV := hid (show livW s.ws name = s.ws[atW s.ws name].live by rw [livW_at hlt, hh]; rfl)
    have hl5 := o1.1
    have hin : ((atW s.ws name : Nat) : Int) < (s.ws.length : Int) := by omega
    have hcell := wflat_at s.ws (atW s.ws name) 1 hlt (by omega)
    have s1 := (o1.cellAt (atW s.ws name * 3 + 1) (by omega)).trans hcell
    simp only [List.getElem?_cons_succ, List.getElem?_cons_zero] at s1
    clear hcell
    cases hli : s.ws[atW s.ws name].live
    · rw [hli] at s1
      have HR := hid (show enX s name = (⟨s.ws.set (atW s.ws name) ⟨name, true, 0⟩, s.nx, s.rv, s.sg⟩, 0) by rw [HX.out, HLV.out, hli, hh, if_neg (by decide), if_pos rfl])
      clear HLV hli HX
      generalize atW s.ws name = n at *
      have hd1 : w.heap.size ≠ g5 := fun e => row_apart F1 o1 (by decide) w.heap.size rfl (by rw [e]; rfl)
      have hd2 : g5 ≠ w.heap.size := fun e => hd1 e.symm
      have hd3 : w.heap.size + 1 ≠ g5 := fun e => row_apart F2 o1 (by decide) (w.heap.size + 1) rfl (by rw [e]; rfl)
      have hd4 : g5 ≠ w.heap.size + 1 := fun e => hd3 e.symm
      have hd5 : w4.heap.size ≠ g5 := fun e => by have := hko g5 rfl; omega
      have s0 := o1.cellAt (n * 3) (by omega)
      have s2 := o1.cellAt (n * 3 + 2) (by omega)
      rw [List.getElem?_eq_getElem (by omega)] at s0 s2
      have t0 := o1.frozenAt (n * 3)
      have t1 := o1.frozenAt (n * 3 + 1)
      have t2 := o1.frozenAt (n * 3 + 2)
      have Q1 := o1.stored (n * 3) (.string name)
      have Q2 := Q1.1.stored (n * 3 + 1) (.bool true)
      have Q3 := Q2.1.stored (n * 3 + 2) (.int .i64 0)
      have hG := grown_two (grown_two Q1.2 Q2.2) Q3.2
      obtain ⟨a0, a1, a2, a3⟩ := F1.c
      replace F1 : Four ((((w4.alloc (.cells #[.string name, .bool true, .int .i64 0] 48)).setCell ⟨g5, n * 3, none⟩ (.string name)).setCell ⟨g5, n * 3 + 1, none⟩ (.bool true)).setCell ⟨g5, n * 3 + 2, none⟩ (.int .i64 0)) _ _ _ _ _ _ := World.ownsRow.kept F1 hG (.inr (by simp [Value.ownBlock]; exact hd1))
      replace F2 : Four ((((w4.alloc (.cells #[.string name, .bool true, .int .i64 0] 48)).setCell ⟨g5, n * 3, none⟩ (.string name)).setCell ⟨g5, n * 3 + 1, none⟩ (.bool true)).setCell ⟨g5, n * 3 + 2, none⟩ (.int .i64 0)) _ _ _ _ _ _ := World.ownsRow.kept F2 hG (.inr (by simp [Value.ownBlock]; exact hd3))
      have u2 := kept_apart (v2 := .slice (some ⟨g5, 0, none⟩) s.ws.length z1) o2 hG (row_apart o2 o1 (by decide))
      have u3 := kept_apart (v2 := .slice (some ⟨g5, 0, none⟩) s.ws.length z1) o3 hG (row_apart o3 o1 (by decide))
      have hB6 := hBB.grown hG hBB.size (fun k e => by simp at e; have := (o1.lt g5 rfl).1; omega)
      have u1 := Q3.1
      have HW := hid (wflat_set s.ws n ⟨name, true, 0⟩ hlt)
      rw [HW.out] at u1
      have HL := hid (show s.ws.length = (s.ws.set n ⟨name, true, 0⟩).length by simp)
      clear Q1 Q2 Q3 hG hBB
      have hBB := hB6
      obtain ⟨b0, b1, b2, b3⟩ := F1.c
      obtain ⟨r0, r1, r2, r3⟩ := F2.c
      have f0 := F2.f 0
      have f1 := F2.f 1
      have f2 := F2.f 2
      have f3 := F2.f 3
      have G := (((F2.s0 (.slice (some ⟨g5, 0, none⟩) s.ws.length z1)).s1 (.int .i64 s.nx)).s2 (.slice x2 y2 z2)).s3 (.slice x3 y3 z3)
      have pB := below_four hBB (k := w.heap.size + 1) (by omega) (.slice (some ⟨g5, 0, none⟩) s.ws.length z1) (.int .i64 s.nx) (.slice x2 y2 z2) (.slice x3 y3 z3)
      have q1 := row_four u1 (k := w.heap.size + 1) (by omega) (.slice (some ⟨g5, 0, none⟩) s.ws.length z1) (.int .i64 s.nx) (.slice x2 y2 z2) (.slice x3 y3 z3)
      have q2 := row_four u2 (k := w.heap.size + 1) (by omega) (.slice (some ⟨g5, 0, none⟩) s.ws.length z1) (.int .i64 s.nx) (.slice x2 y2 z2) (.slice x3 y3 z3)
      have q3 := row_four u3 (k := w.heap.size + 1) (by omega) (.slice (some ⟨g5, 0, none⟩) s.ws.length z1) (.int .i64 s.nx) (.slice x2 y2 z2) (.slice x3 y3 z3)
      go_wp2_with fail
      clear r0 r1 r2 r3 f0 f1 f2 f3 b0 b1 b2 b3
      generalize (((((((w4.alloc (.cells #[.string name, .bool true, .int .i64 0] 48)).setCell ⟨g5, n * 3, none⟩ (.string name)).setCell ⟨g5, n * 3 + 1, none⟩ (.bool true)).setCell ⟨g5, n * 3 + 2, none⟩ (.int .i64 0)).setCell ⟨w.heap.size + 1, 0, none⟩ (.slice (some ⟨g5, 0, none⟩) s.ws.length z1)).setCell ⟨w.heap.size + 1, 1, none⟩ (.int .i64 s.nx)).setCell ⟨w.heap.size + 1, 2, none⟩ (.slice x2 y2 z2)).setCell ⟨w.heap.size + 1, 3, none⟩ (.slice x3 y3 z3) = W5 at *
      obtain ⟨d0, d1, d2, d3⟩ := G.c
      exact bodyPost_ret (v := .tuple #[.agg #[(.slice (some ⟨g5, 0, none⟩) s.ws.length z1), (.int .i64 s.nx), (.slice x2 y2 z2), (.slice x3 y3 z3)], .int .i64 0]) (by simp [results, Tryd.results6, go_sem, d0, d1, d2, d3]) rfl ⟨_, by rw [HR.out], by rw [HR.out]; exact IsO.of (s := ⟨s.ws.set n ⟨name, true, 0⟩, s.nx, s.rv, s.sg⟩) (Go.Joins.ownsRow_le (row_cast q1 HL.out) (by omega)) (Go.Joins.ownsRow_le q2 (by omega)) (Go.Joins.ownsRow_le q3 (by omega)), pB⟩
    · rw [hli] at s1
      have HR := hid (show enX s name = (s, 2) by rw [HX.out, HLV.out, hli, if_pos rfl])
      clear HLV hli HX
      generalize atW s.ws name = n at *
      obtain ⟨a0, a1, a2, a3⟩ := F1.c
      obtain ⟨b0, b1, b2, b3⟩ := F1.c
      obtain ⟨r0, r1, r2, r3⟩ := F2.c
      have f0 := F2.f 0
      have f1 := F2.f 1
      have f2 := F2.f 2
      have f3 := F2.f 3
      have G := (((F2.s0 (.slice (some ⟨g5, 0, none⟩) s.ws.length z1)).s1 (.int .i64 s.nx)).s2 (.slice x2 y2 z2)).s3 (.slice x3 y3 z3)
      have pB := below_four hBB (k := w.heap.size + 1) (by omega) (.slice (some ⟨g5, 0, none⟩) s.ws.length z1) (.int .i64 s.nx) (.slice x2 y2 z2) (.slice x3 y3 z3)
      have q1 := row_four o1 (k := w.heap.size + 1) (by omega) (.slice (some ⟨g5, 0, none⟩) s.ws.length z1) (.int .i64 s.nx) (.slice x2 y2 z2) (.slice x3 y3 z3)
      have q2 := row_four o2 (k := w.heap.size + 1) (by omega) (.slice (some ⟨g5, 0, none⟩) s.ws.length z1) (.int .i64 s.nx) (.slice x2 y2 z2) (.slice x3 y3 z3)
      have q3 := row_four o3 (k := w.heap.size + 1) (by omega) (.slice (some ⟨g5, 0, none⟩) s.ws.length z1) (.int .i64 s.nx) (.slice x2 y2 z2) (.slice x3 y3 z3)
      go_wp2_with fail
      clear r0 r1 r2 r3 f0 f1 f2 f3 b0 b1 b2 b3
      generalize ((((w4.alloc (.cells #[.string name, .bool true, .int .i64 0] 48)).setCell ⟨w.heap.size + 1, 0, none⟩ (.slice (some ⟨g5, 0, none⟩) s.ws.length z1)).setCell ⟨w.heap.size + 1, 1, none⟩ (.int .i64 s.nx)).setCell ⟨w.heap.size + 1, 2, none⟩ (.slice x2 y2 z2)).setCell ⟨w.heap.size + 1, 3, none⟩ (.slice x3 y3 z3) = W5 at *
      obtain ⟨d0, d1, d2, d3⟩ := G.c
      exact bodyPost_ret (v := .tuple #[.agg #[(.slice (some ⟨g5, 0, none⟩) s.ws.length z1), (.int .i64 s.nx), (.slice x2 y2 z2), (.slice x3 y3 z3)], .int .i64 2]) (by simp [results, Tryd.results6, go_sem, d0, d1, d2, d3]) rfl ⟨_, by rw [HR.out], by rw [HR.out]; exact IsO.of (s := s) (Go.Joins.ownsRow_le q1 (by omega)) (Go.Joins.ownsRow_le q2 (by omega)) (Go.Joins.ownsRow_le q3 (by omega)), pB⟩

end Go.Proofs.YtfchmhcnejifhaaDoor
