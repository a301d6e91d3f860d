/-
  Calls that the wide laws draw, and policies with a call: their texts are short.
-/
import Derived.Test.YtnblnhlfifhkkaaGreatCurL
namespace Go.Proofs.YtnblnhlfifhkkaaGreat
open Go.RowKit Go.Shelf

/-- A box of a call: its cells, which may be written. -/
structure BoxC (w : World) (g : Nat) (x y z : ByteArray) : Prop where
  lt : g < w.heap.size
  c0 : w.cell? ⟨g, 0, none⟩ = some (.string x)
  c1 : w.cell? ⟨g, 1, none⟩ = some (.string y)
  c2 : w.cell? ⟨g, 2, none⟩ = some (.string z)
  f0 : w.frozen? ⟨g, 0, none⟩ = false
  f1 : w.frozen? ⟨g, 1, none⟩ = false
  f2 : w.frozen? ⟨g, 2, none⟩ = false
theorem BoxC.keep {w w' : World} {b g : Nat} {x y z : ByteArray} (h : BoxC w g x y z) (hg : w.grownBy w' (some b)) (hne : g ≠ b) : BoxC w' g x y z :=
  ⟨Nat.lt_of_lt_of_le h.lt hg.size, (keep_cell hg h.lt hne 0).trans h.c0, (keep_cell hg h.lt hne 1).trans h.c1, (keep_cell hg h.lt hne 2).trans h.c2, (keep_frozen hg h.lt hne 0).trans h.f0, (keep_frozen hg h.lt hne 1).trans h.f1, (keep_frozen hg h.lt hne 2).trans h.f2⟩
theorem BoxC.below {w w' : World} {g : Nat} {x y z : ByteArray} (h : BoxC w g x y z) (hB : Below w.heap.size w w') : BoxC w' g x y z :=
  ⟨Nat.lt_of_lt_of_le h.lt hB.size, (hB.cell (p := ⟨g, 0, none⟩) h.lt).trans h.c0, (hB.cell (p := ⟨g, 1, none⟩) h.lt).trans h.c1, (hB.cell (p := ⟨g, 2, none⟩) h.lt).trans h.c2, (hB.frozen (p := ⟨g, 0, none⟩) h.lt).trans h.f0, (hB.frozen (p := ⟨g, 1, none⟩) h.lt).trans h.f1, (hB.frozen (p := ⟨g, 2, none⟩) h.lt).trans h.f2⟩
theorem boxC_new (w : World) (t : TypeId) (x y z : ByteArray) : BoxC (w.alloc (.cells #[.string x, .string y, .string z] t)) w.heap.size x y z :=
  ⟨by simp, by simp, by simp, by simp, by simp, by simp, by simp⟩
theorem three_sets (w : World) (g : Nat) (u0 u1 u2 : Value) : w.grownBy (((w.setCell ⟨g, 0, none⟩ u0).setCell ⟨g, 1, none⟩ u1).setCell ⟨g, 2, none⟩ u2) (some g) :=
  g2 (g2 (grown_setCell w ⟨g, 0, none⟩ u0) (grown_setCell _ ⟨g, 1, none⟩ u1)) (grown_setCell _ ⟨g, 2, none⟩ u2)

set_option maxHeartbeats 2000000 in
theorem drawCall_any (b : Nat) (a : Option Addr) (n c k : Nat) (w : World) (hB : ByS w a n) (hC : CurB w b a n c k) (hk : k ≤ 1000000) :
    Calls Tryz.prog 11 #[.pointer (some ⟨b, 0, none⟩)] w fun e w' => ∃ r : Ca, r.size ≤ 300 ∧ e = .returned r.val ∧ ByS w' a n ∧ (∃ k', k' ≤ k + 50 ∧ CurB w' b a n c k') ∧ w.grownBy w' (some b) := by
  have hbl := hC.lt
  have hBl : Below w.heap.size w (w.alloc (.cells #[.string ⟨#[]⟩, .string ⟨#[]⟩, .string ⟨#[]⟩] 25)) := (Below.refl _ w).alloc (Nat.le_refl _) _
  have hX0 := boxC_new w 25 ⟨#[]⟩ ⟨#[]⟩ ⟨#[]⟩
  have hC0 := hC.below hBl
  have hB0 := hB.below hBl
  have hG0 := gB (gS w (some b)) hBl
  go_enter Tryz.func11, Tryz.ntmps11
  go_wp2_with fail
  refine (drawN_any b a n c k _ hB0 hC0 (by omega)).mono ?_
  rintro e w2 ⟨x, hx, rfl, hB2, ⟨k2, hk2, hC2⟩, hg2⟩
  have hX2 := hX0.keep hg2 (by omega)
  have hG2 := g2 hG0 hg2
  clear hX0 hC0 hB0 hG0 hBl hg2 hB hC
  go_wp2_with fail
  refine (ofNew_any b a n c k2 [⟨#[103, 101, 116]⟩, ⟨#[112, 117, 116]⟩] w2 (by decide) (by decide) hB2 hC2 (by omega)).mono ?_
  rintro e w3 ⟨m, hm, rfl, hB3, hC3, hg3⟩
  have hmz : m.size ≤ 4 := by
    simp only [List.mem_cons, List.mem_nil_iff, or_false] at hm
    rcases hm with rfl | rfl <;> decide
  have hX3 := hX2.keep hg3 (by omega)
  have hG3 := g2 hG2 hg3
  clear hm hX2 hC2 hB2 hG2 hg3
  go_wp2_with fail
  refine (drawP_any b a n c (k2 + 1) _ hB3 hC3 (by omega)).mono ?_
  rintro e w4 ⟨p, hp, rfl, hB4, ⟨k4, hk4, hC4⟩, hg4⟩
  have hX4 := hX3.keep hg4 (by omega)
  have hG4 := g2 hG3 hg4
  clear hX3 hC3 hB3 hG3 hg4
  have hBl : Below w4.heap.size w4 (w4.alloc (.cells #[.string x, .string m, .string p] 25)) := (Below.refl _ w4).alloc (Nat.le_refl _) _
  have hY5 := boxC_new w4 25 x m p
  have hX5 := hX4.below hBl
  have hG5 := gB hG4 hBl
  have hC5 := hC4.below hBl
  have hB5 := hB4.below hBl
  have hlt4 := hX4.lt
  have hblt4 := hC4.lt
  clear hX4 hC4 hB4 hG4 hBl
  go_wp2_with fail
  refine (one_any b a n c k4 30 _ (by omega) (by omega) hB5 hC5 (by omega)).mono ?_
  rintro e w6 ⟨y, rfl, hC6, hg6⟩
  have hB6 := curB_grown hB5 hC5.apart hC5.lt hg6
  have hX6 := hX5.keep hg6 (by omega)
  have hY6 := hY5.keep hg6 (by omega)
  have hG6 := g2 hG5 hg6
  clear hX5 hY5 hC5 hB5 hG5 hg6
  have hne : w.heap.size ≠ w4.heap.size := by omega
  have hne' : w4.heap.size ≠ w.heap.size := by omega
  have hs1 : (⟨#[42]⟩ : ByteArray).size = 1 := rfl
  obtain ⟨_, x0, x1, x2, xf0, xf1, xf2⟩ := hX6
  obtain ⟨_, y0, y1, y2, yf0, yf1, yf2⟩ := hY6
  cases y
  · go_wp2
    exact bodyPost_ret (v := Ca.val ⟨x, m, p⟩) (by simp [results, Tryz.results11, go_sem, *]) rfl ⟨⟨x, m, p⟩, by unfold Ca.size; simp only; omega, rfl, hB6.other (three_sets _ _ _ _ _) (fun q hq => Nat.lt_trans (hC6.apart q hq) hbl), ⟨k4 + 1, by omega, hC6.other (three_sets _ _ _ _ _) (by omega)⟩, gN (gN (gN hG6 (Nat.le_refl _) _) (Nat.le_refl _) _) (Nat.le_refl _) _⟩
  · go_wp2
    exact bodyPost_ret (v := Ca.val ⟨x, ⟨#[42]⟩, p⟩) (by simp [results, Tryz.results11, go_sem, *]) rfl ⟨⟨x, ⟨#[42]⟩, p⟩, by unfold Ca.size; simp only; omega, rfl, (hB6.other (grown_setCell _ ⟨w4.heap.size, 1, none⟩ _) (fun q hq => Nat.lt_trans (hC6.apart q hq) hblt4)).other (three_sets _ _ _ _ _) (fun q hq => Nat.lt_trans (hC6.apart q hq) hbl), ⟨k4 + 1, by omega, (hC6.other (grown_setCell _ ⟨w4.heap.size, 1, none⟩ _) (by simp only; omega)).other (three_sets _ _ _ _ _) (by omega)⟩, gN (gN (gN (gN hG6 (by simp only; omega) _) (Nat.le_refl _) _) (Nat.le_refl _) _) (Nat.le_refl _) _⟩

set_option maxHeartbeats 2000000 in
theorem drawDC_any (a : Option Addr) (n c : Nat) (w : World) (hle : n ≤ c) (hB : ByS w a n) (hap : ∀ p, a = some p → p.block < w.heap.size) :
    Calls Tryz.prog 4 #[.slice a n c] w fun e w' => ∃ (v : Value) (rs : List Ru) (x : Ca), e = .returned (.tuple #[v, x.val]) ∧ rs.length ≤ 64 ∧ (∀ r ∈ rs, r.size ≤ 300) ∧ x.size ≤ 300 ∧ w'.ownsRow w.heap.size 52 4 v rs.length (rs.flatMap Ru.cells) ∧ Below w.heap.size w w' := by
  obtain ⟨W, hW⟩ : ∃ W, W = w.alloc (.cells #[.string ⟨#[]⟩, .string ⟨#[]⟩, .string ⟨#[]⟩] 25) := ⟨_, rfl⟩
  have hWs : W.heap.size = w.heap.size + 1 := by rw [hW]; simp
  have hBw : Below w.heap.size w W := by rw [hW]; exact (Below.refl _ w).alloc (Nat.le_refl _) _
  have hX : BoxC W w.heap.size ⟨#[]⟩ ⟨#[]⟩ ⟨#[]⟩ := by rw [hW]; exact boxC_new w _ _ _ _
  have hBl : Below W.heap.size W (W.alloc (.cells #[.slice a n c, .int .i64 0, .int .u64 0] 38)) := (Below.refl _ W).alloc (Nat.le_refl _) _
  have hC0 : CurB (W.alloc (.cells #[.slice a n c, .int .i64 0, .int .u64 0] 38)) W.heap.size a n c 0 := ⟨hle, by simp, by simp, ⟨0, by simp⟩, by simp, by simp, fun p hp => by have := hap p hp; omega⟩
  have hB0 := (hB.below hBw).below hBl
  have hX0 := hX.below hBl
  go_enter Tryz.func4, Tryz.ntmps4
  go_upto_region 1 with fail
  rw [← hW]
  clear hX hW
  have HWS := hid hWs
  have hW1 : w.heap.size < W.heap.size := by omega
  clear hWs
  go_wp2_with fail
  refine (drawPolicy_any W.heap.size a n c 0 _ hB0 hC0 (by omega)).mono ?_
  rintro e w1 ⟨v, rs, q, rfl, hlen, hq, hP⟩
  have hX1 := hX0.keep hP.gr (by omega)
  go_wp2_with fail
  refine (drawCall_any W.heap.size a n c q _ hP.by_ hP.cur (by omega)).mono ?_
  rintro e w2 ⟨r, hr, rfl, hB2, ⟨q2, hq2, hC2⟩, hg2⟩
  have hP2 := hP.grown (by simp) hg2 hB2 hC2
  have hX2 := hX1.keep hg2 (by omega)
  obtain ⟨_, x0, x1, x2, xf0, xf1, xf2⟩ := hX2
  have hBB : Below w.heap.size w w2 := hBw.trans ((hBl.mono (by omega)).grown hP2.gr (by have := hBl.size; omega) (fun k hk => by cases hk; omega))
  obtain ⟨ao, capo, rfl⟩ := ownsRow_len hP2.row
  have hrow := (hP2.row.kept (three_sets w2 w.heap.size (.string r.who) (.string r.method) (.string r.path)) (by
    rcases hP2.row.2 with ⟨h, _⟩ | ⟨g, cap, cur, h, hgb, _⟩
    · exact .inl (by rw [h]; rfl)
    · right
      rw [h]
      simp only [Value.ownBlock, ne_eq, Option.some.injEq]
      simp at hgb
      omega))
  have hsmall := hP2.small
  clear hX0 hX1 hP hP2 hB2 hC2 hg2 hB0 hC0 hBl
  go_wp2
  exact bodyPost_ret (v := .tuple #[.slice ao rs.length capo, r.val]) (by simp [results, Tryz.results4, go_sem, *]) rfl ⟨_, rs, r, rfl, hlen, hsmall, hr, Go.Joins.ownsRow_le hrow (by simp; omega), ((hBB.setCell (p := ⟨w.heap.size, 0, none⟩) (Nat.le_refl _) _).setCell (p := ⟨w.heap.size, 1, none⟩) (Nat.le_refl _) _).setCell (p := ⟨w.heap.size, 2, none⟩) (Nat.le_refl _) _⟩

end Go.Proofs.YtnblnhlfifhkkaaGreat
