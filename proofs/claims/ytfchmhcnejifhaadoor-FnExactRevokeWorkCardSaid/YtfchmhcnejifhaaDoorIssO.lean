/-
  Chapter 4: an issuer's lists as one's own, by the specification.
-/
import Derived.Laws.AppendOwnNone
import Derived.Test.YtfchmhcnejifhaaDoorIssW
namespace Go.Proofs.YtfchmhcnejifhaaDoor
open Go.RowKit Go.Shelf

/-- append(v, u...), both rows of one's own. -/
theorem wpList_append_row {P : Program} {w : World} {ops : Array Oper} {rest : List Oper} {o : Oper} {a : Act} {Q : Exit → Act → World → Prop} (hgd : o.guard = none) (s x : Operand) (t : TypeId)
    (ho : o.op = .call { callee := .builtin .append, args := #[s, x], argTypes := #[t, t] })
    (base b2 : Nat) (e : TypeId) (i : TypeInfo) (z : Value) (size bytes : Nat) (ht : P.underlying t = some (.slice e)) (hi : P.info? e = some i) (hz : i.zero = some z)
    (hsize : i.size = size) (hby : i.bytes = bytes) (hzs : z.cells.size = size) (hsz : 0 < size)
    (v u : Value) (n m : Nat) (xs ys : List Value) (hs : a.eval s = v) (hown : w.ownsRow base e size v n xs) (hx : a.eval x = u) (hsrc : w.ownsRow b2 e size u m ys) (h1 : ∀ y ∈ ys, y.oneCell' = true)
    (h63 : n + m ≤ maxLen) (hbytes : (n + m) * bytes ≤ 140737488355328) (hbase : base ≤ w.heap.size)
    (h : ∀ v' w', w'.ownsRow base e size v' (n + m) (xs ++ ys) → w.grownBy w' v.ownBlock → (v' = .slice none 0 0 → v = .slice none 0 0) → wpList P ops Q rest (a.put o.dst v') w') : wpList P ops Q (o :: rest) a w := by
  rcases row_form hsrc with ⟨rfl, rfl⟩ | ⟨g, cap, rfl, _, _⟩
  · have hy : ys = [] := List.eq_nil_of_length_eq_zero (by have := hsrc.1; omega)
    subst hy
    exact wpList_append_own_none hgd s x t ho base e i size ht hi v n xs hs hown hx (h v w (by simpa using hown) (grown_self _ _) (fun e => e))
  · exact wpList_append_own _ hgd s x t ho base e i z size bytes ht hi hz hsize hby hzs hsz v n xs hs hown ⟨g, 0, none⟩ m cap ys hx hsrc.1 (fun j y hj => hsrc.cells (g := g) rfl j y hj) h1 h63 hbytes hbase (fun v' w' h1 h2 h3 => h v' w' h1 h2 (fun e => (h3.1 e).1))
theorem row_empty (w : World) (e : TypeId) (size n : Nat) {base : Nat} (hn : n = w.heap.size) (hb : base ≤ w.heap.size) : (w.alloc (.cells #[] e)).ownsRow base e size (.slice (some ⟨n, 0, none⟩) 0 0) 0 [] := by
  subst hn
  exact ⟨by simp, .inr ⟨w.heap.size, 0, #[], rfl, hb, by show (w.heap.push _)[w.heap.size]? = _; rw [Array.getElem?_push_size], Nat.le_refl _, by unfold maxLen; omega, by simp, by simp⟩⟩

set_option maxHeartbeats 4000000 in
set_option maxRecDepth 100000 in
theorem l4Own_any (v : Value) (s : Is) (base top : Nat) (w : World) (hs : s.short) (h : IsO w base top v s) :
    Calls Tryd.prog 19 #[v] w fun e w' => ∃ v', e = .returned v' ∧ IsO w' w.heap.size w'.heap.size v' s ∧ Below w.heap.size w w' ∧ ∃ a m c b d m' c' e, v' = .agg #[.slice (some a) m c, b, .slice (some d) m' c', e] := by
  obtain ⟨vw, vr, vs, rfl, h1, h2, h3, t1, t2, t3⟩ := h
  obtain ⟨l1, l2, l3⟩ := hs
  obtain ⟨aw, nw, cw, rfl⟩ := row_slice h1
  obtain ⟨ar, nr, cr, rfl⟩ := row_slice h2
  obtain ⟨ag, ng, cg, rfl⟩ := row_slice h3
  obtain rfl : nw = s.ws.length := row_len h1
  obtain rfl : nr = s.rv.length := row_len h2
  obtain rfl : ng = s.sg.length := row_len h3
  obtain ⟨iw, hiw, hw0, hw1, hw2⟩ := info_parts infoWork
  obtain ⟨ii, hii, hi0, hi1, hi2⟩ := info_parts infoInt
  obtain ⟨is, his, hs0, hs1, hs2⟩ := info_parts infoString
  have hB0 : Below w.heap.size w (((w.alloc (.cells #[.slice aw s.ws.length cw, .int .i64 s.nx, .slice ar s.rv.length cr, .slice ag s.sg.length cg] 30)).alloc (.cells #[.slice none 0 0, .int .i64 0, .slice none 0 0, .slice none 0 0] 30)).alloc (.cells #[] 48)) := (((Below.refl _ w).alloc (Nat.le_refl _) _).alloc (by simp) _).alloc (by simp; omega) _
  have F1 := ((Four.new w (.slice aw s.ws.length cw) (.int .i64 s.nx) (.slice ar s.rv.length cr) (.slice ag s.sg.length cg) 30).below ((Below.refl _ _).alloc (Nat.le_refl _) (.cells #[.slice none 0 0, .int .i64 0, .slice none 0 0, .slice none 0 0] 30))).below ((Below.refl _ _).alloc (Nat.le_refl _) (.cells #[] 48))
  have F2 := (Four.at (w.alloc (.cells #[.slice aw s.ws.length cw, .int .i64 s.nx, .slice ar s.rv.length cr, .slice ag s.sg.length cg] 30)) (.slice none 0 0) (.int .i64 0) (.slice none 0 0) (.slice none 0 0) 30 (k := w.heap.size + 1) (by simp)).below ((Below.refl _ _).alloc (Nat.le_refl _) (.cells #[] 48))
  have r0 := row_empty ((w.alloc (.cells #[.slice aw s.ws.length cw, .int .i64 s.nx, .slice ar s.rv.length cr, .slice ag s.sg.length cg] 30)).alloc (.cells #[.slice none 0 0, .int .i64 0, .slice none 0 0, .slice none 0 0] 30)) 48 3 (w.heap.size + 1 + 1) (base := w.heap.size + 1 + 1) (by simp) (by simp)
  have hbz : w.heap.size + 1 + 1 ≤ (((w.alloc (.cells #[.slice aw s.ws.length cw, .int .i64 s.nx, .slice ar s.rv.length cr, .slice ag s.sg.length cg] 30)).alloc (.cells #[.slice none 0 0, .int .i64 0, .slice none 0 0, .slice none 0 0] 30)).alloc (.cells #[] 48)).heap.size := by simp
  go_enter Tryd.func19, Tryd.ntmps19
  go_wp2_with (at_builtin; refine wpList_append_row rfl _ _ 28 rfl (w.heap.size + 1 + 1) base 48 iw _ 3 32 Tryd.underlying28 hiw hw0 hw1 hw2 rfl (by decide) _ _ 0 s.ws.length [] _ rfl r0 rfl (ownsRow_below h1 hB0) one_w (by unfold maxLen; omega) (by omega) hbz ?_)
  intro v1 w1 o1 g1 hn1
  obtain ⟨x1, y1, z1, rfl⟩ := row_slice o1
  have hsome : ∃ a, x1 = some a := by
    rcases row_form o1 with ⟨hh, _⟩ | ⟨g, z, hh, _⟩
    · have := hn1 hh
      simp at this
    · injection hh with hh _ _
      exact ⟨_, hh⟩
  clear hn1
  replace F1 : Four w1 _ _ _ _ _ _ := World.ownsRow.kept F1 g1 (.inr (by simp [Value.ownBlock] <;> omega))
  replace F2 : Four w1 _ _ _ _ _ _ := World.ownsRow.kept F2 g1 (.inr (by simp [Value.ownBlock] <;> omega))
  have hBB1 : Below w.heap.size w w1 := hB0.grown g1 hB0.size (fun k e => by simp [Value.ownBlock] at e; omega)
  have hk1 : w.heap.size + 1 + 1 ≤ w1.heap.size := Nat.le_trans hbz g1.size
  clear hB0 g1 r0 hbz
  have hBc : Below (w1.setCell ⟨w.heap.size, 0, none⟩ (.slice x1 y1 z1)).heap.size (w1.setCell ⟨w.heap.size, 0, none⟩ (.slice x1 y1 z1)) ((w1.setCell ⟨w.heap.size, 0, none⟩ (.slice x1 y1 z1)).alloc (.cells #[] 3)) := (Below.refl _ _).alloc (Nat.le_refl _) _
  obtain ⟨a0, a1, a2, a3⟩ := F1.c
  have f0 := F1.f 0
  have G1 := (F1.s0 (.slice x1 y1 z1)).below hBc
  have G2 := (F2.other (k' := w.heap.size) (by omega) 0 (.slice x1 y1 z1)).below hBc
  have q1 := (ownsRow_setCell_below o1 (a := ⟨w.heap.size, 0, none⟩) (by simp; omega) (.slice x1 y1 z1)).alloc (.cells #[] 3)
  have r1 := row_empty (w1.setCell ⟨w.heap.size, 0, none⟩ (.slice x1 y1 z1)) 3 1 w1.heap.size (base := w1.heap.size) (by simp) (by simp)
  have hBB2 := (hBB1.setCell (p := ⟨w.heap.size, 0, none⟩) (by simp) (.slice x1 y1 z1)).trans (hBc.mono (by simp; have := hBB1.size; omega))
  have hbz2 : w1.heap.size ≤ ((w1.setCell ⟨w.heap.size, 0, none⟩ (.slice x1 y1 z1)).alloc (.cells #[] 3)).heap.size := by simp
  clear F1 F2 hBc
  obtain ⟨n0, n1, n2, n3⟩ := G1.c
  go_wp2_with (at_builtin; refine wpList_append_row rfl _ _ 23 rfl w1.heap.size base 3 ii _ 1 8 Tryd.underlying23 hii hi0 hi1 hi2 rfl (by decide) _ _ 0 s.rv.length [] _ rfl r1 rfl (ownsRow_below h2 hBB2) one_n (by unfold maxLen; omega) (by omega) hbz2 ?_)
  intro v2 w2 o2 g2 hn2
  obtain ⟨x2, y2, z2, rfl⟩ := row_slice o2
  have hsome2 : ∃ a, x2 = some a := by
    rcases row_form o2 with ⟨hh, _⟩ | ⟨g, z, hh, _⟩
    · have := hn2 hh
      simp at this
    · injection hh with hh _ _
      exact ⟨_, hh⟩
  clear hn2
  replace G1 : Four w2 _ _ _ _ _ _ := World.ownsRow.kept G1 g2 (.inr (by simp [Value.ownBlock] <;> omega))
  replace G2 : Four w2 _ _ _ _ _ _ := World.ownsRow.kept G2 g2 (.inr (by simp [Value.ownBlock] <;> omega))
  have p1 := kept_apart (v2 := .slice (some ⟨w1.heap.size, 0, none⟩) 0 0) q1 g2 (row_apart q1 r1 (by decide))
  have hBB3 : Below w.heap.size w w2 := hBB2.grown g2 hBB2.size (fun k e => by simp [Value.ownBlock] at e; omega)
  have hk2 : w1.heap.size ≤ w2.heap.size := Nat.le_trans hbz2 g2.size
  clear hBB2 g2 r1 hbz2 q1 a0 a1 a2 a3 f0
  have hBc : Below (w2.setCell ⟨w.heap.size, 2, none⟩ (.slice x2 y2 z2)).heap.size (w2.setCell ⟨w.heap.size, 2, none⟩ (.slice x2 y2 z2)) ((w2.setCell ⟨w.heap.size, 2, none⟩ (.slice x2 y2 z2)).alloc (.cells #[] 9)) := (Below.refl _ _).alloc (Nat.le_refl _) _
  obtain ⟨a0, a1, a2, a3⟩ := G1.c
  have f2 := G1.f 2
  have F1 := (G1.s2 (.slice x2 y2 z2)).below hBc
  have F2 := (G2.other (k' := w.heap.size) (by omega) 2 (.slice x2 y2 z2)).below hBc
  have q1 := (ownsRow_setCell_below p1 (a := ⟨w.heap.size, 2, none⟩) (by simp; omega) (.slice x2 y2 z2)).alloc (.cells #[] 9)
  have q2 := (ownsRow_setCell_below o2 (a := ⟨w.heap.size, 2, none⟩) (by simp; omega) (.slice x2 y2 z2)).alloc (.cells #[] 9)
  have r2 := row_empty (w2.setCell ⟨w.heap.size, 2, none⟩ (.slice x2 y2 z2)) 9 1 w2.heap.size (base := w2.heap.size) (by simp) (by simp)
  have hBB4 := (hBB3.setCell (p := ⟨w.heap.size, 2, none⟩) (by simp) (.slice x2 y2 z2)).trans (hBc.mono (by simp; have := hBB3.size; omega))
  have hbz3 : w2.heap.size ≤ ((w2.setCell ⟨w.heap.size, 2, none⟩ (.slice x2 y2 z2)).alloc (.cells #[] 9)).heap.size := by simp
  clear G1 G2 hBc p1 o1 o2 n0 n1 n2 n3
  obtain ⟨n0, n1, n2, n3⟩ := F1.c
  go_wp2_with (at_builtin; refine wpList_append_row rfl _ _ 24 rfl w2.heap.size base 9 is _ 1 16 Tryd.underlying24 his hs0 hs1 hs2 rfl (by decide) _ _ 0 s.sg.length [] _ rfl r2 rfl (ownsRow_below h3 hBB4) one_s (by unfold maxLen; omega) (by omega) hbz3 ?_)
  intro v3 w3 o3 g3 _
  obtain ⟨x3, y3, z3, rfl⟩ := row_slice o3
  replace F1 : Four w3 _ _ _ _ _ _ := World.ownsRow.kept F1 g3 (.inr (by simp [Value.ownBlock] <;> omega))
  replace F2 : Four w3 _ _ _ _ _ _ := World.ownsRow.kept F2 g3 (.inr (by simp [Value.ownBlock] <;> omega))
  have p1 := kept_apart (v2 := .slice (some ⟨w2.heap.size, 0, none⟩) 0 0) q1 g3 (row_apart q1 r2 (by decide))
  have p2 := kept_apart (v2 := .slice (some ⟨w2.heap.size, 0, none⟩) 0 0) q2 g3 (row_apart q2 r2 (by decide))
  have hBB5 : Below w.heap.size w w3 := hBB4.grown g3 hBB4.size (fun k e => by simp [Value.ownBlock] at e; have := hBB3.size; omega)
  clear hBB4 g3 r2 hbz3 q1 q2 a0 a1 a2 a3 f2
  obtain ⟨a0, a1, a2, a3⟩ := F1.c
  have f3 := F1.f 3
  have F1' := F1.s3 (.slice x3 y3 z3)
  have F2' := F2.other (k' := w.heap.size) (by omega) 3 (.slice x3 y3 z3)
  have q1 := ownsRow_setCell_below p1 (a := ⟨w.heap.size, 3, none⟩) (by simp; omega) (.slice x3 y3 z3)
  have q2 := ownsRow_setCell_below p2 (a := ⟨w.heap.size, 3, none⟩) (by simp; omega) (.slice x3 y3 z3)
  have q3 := ownsRow_setCell_below o3 (a := ⟨w.heap.size, 3, none⟩) (by simp; omega) (.slice x3 y3 z3)
  have hBB6 := hBB5.setCell (p := ⟨w.heap.size, 3, none⟩) (by simp) (.slice x3 y3 z3)
  obtain ⟨b0, b1, b2, b3⟩ := F1'.c
  obtain ⟨e0, e1, e2, e3⟩ := F2'.c
  have k0 := F2'.f 0
  have k1 := F2'.f 1
  have k2 := F2'.f 2
  have k3 := F2'.f 3
  have G := (((F2'.s0 (.slice x1 y1 z1)).s1 (.int .i64 s.nx)).s2 (.slice x2 y2 z2)).s3 (.slice x3 y3 z3)
  have m1 := row_four q1 (k := w.heap.size + 1) (by omega) (.slice x1 y1 z1) (.int .i64 s.nx) (.slice x2 y2 z2) (.slice x3 y3 z3)
  have m2 := row_four q2 (k := w.heap.size + 1) (by omega) (.slice x1 y1 z1) (.int .i64 s.nx) (.slice x2 y2 z2) (.slice x3 y3 z3)
  have m3 := row_four q3 (k := w.heap.size + 1) (by omega) (.slice x1 y1 z1) (.int .i64 s.nx) (.slice x2 y2 z2) (.slice x3 y3 z3)
  have pB := below_four hBB6 (k := w.heap.size + 1) (by omega) (.slice x1 y1 z1) (.int .i64 s.nx) (.slice x2 y2 z2) (.slice x3 y3 z3)
  go_wp2_with fail
  clear a0 a1 a2 a3 f3 b0 b1 b2 b3 e0 e1 e2 e3 k0 k1 k2 k3
  generalize ((((w3.setCell ⟨w.heap.size, 3, none⟩ (.slice x3 y3 z3)).setCell ⟨w.heap.size + 1, 0, none⟩ (.slice x1 y1 z1)).setCell ⟨w.heap.size + 1, 1, none⟩ (.int .i64 s.nx)).setCell ⟨w.heap.size + 1, 2, none⟩ (.slice x2 y2 z2)).setCell ⟨w.heap.size + 1, 3, none⟩ (.slice x3 y3 z3) = W5 at *
  obtain ⟨d0, d1, d2, d3⟩ := G.c
  exact bodyPost_ret (v := .agg #[.slice x1 y1 z1, .int .i64 s.nx, .slice x2 y2 z2, .slice x3 y3 z3]) (by simp [results, Tryd.results19, go_sem, d0, d1, d2, d3]) rfl ⟨_, rfl, IsO.of (Go.Joins.ownsRow_le m1 (by omega)) (Go.Joins.ownsRow_le m2 (by omega)) (Go.Joins.ownsRow_le m3 (by omega)), pB, by obtain ⟨a, rfl⟩ := hsome; obtain ⟨b, rfl⟩ := hsome2; exact ⟨_, _, _, _, _, _, _, _, rfl⟩⟩

end Go.Proofs.YtfchmhcnejifhaaDoor
