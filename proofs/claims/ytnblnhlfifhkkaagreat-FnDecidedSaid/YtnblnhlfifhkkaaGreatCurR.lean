/-
  Rules that the wide laws draw: their texts are short.
-/
import Derived.Test.YtnblnhlfifhkkaaGreatCurQ
import Derived.Test.YtnblnhlfifhkkaaGreatRuleT
namespace Go.Proofs.YtnblnhlfifhkkaaGreat
open Go.RowKit Go.Shelf

theorem keep_cell {w w' : World} {b g : Nat} (hg : w.grownBy w' (some b)) (hlt : g < w.heap.size) (hne : g ≠ b) (o : Nat) : w'.cell? ⟨g, o, none⟩ = w.cell? ⟨g, o, none⟩ := by
  simp only [World.cell?]
  rw [hg.block g hlt (by simpa using hne)]
theorem keep_frozen {w w' : World} {b g : Nat} (hg : w.grownBy w' (some b)) (hlt : g < w.heap.size) (hne : g ≠ b) (o : Nat) : w'.frozen? ⟨g, o, none⟩ = w.frozen? ⟨g, o, none⟩ := by
  simp only [World.frozen?]
  rw [hg.block g hlt (by simpa using hne)]
theorem gN {w W : World} {r : Option Nat} (h : w.grownBy W r) {p : Addr} (hp : w.heap.size ≤ p.block) (u : Value) : w.grownBy (W.setCell p u) r :=
  ⟨h.os, h.tape, h.output, by simpa using h.size, fun k hk hne => (Below.heap_setCell _ _ _ k (fun e => by omega)).trans (h.block k hk hne)⟩
theorem CurB.other {w w' : World} {b g : Nat} {a : Option Addr} {n c k : Nat} (h : CurB w b a n c k) (hg : w.grownBy w' (some g)) (hne : b ≠ g) : CurB w' b a n c k := by
  have hlt := h.lt
  obtain ⟨sd, h2⟩ := h.c2
  exact ⟨h.le, (keep_cell hg hlt hne 0).trans h.c0, (keep_cell hg hlt hne 1).trans h.c1, ⟨sd, (keep_cell hg hlt hne 2).trans h2⟩, (keep_frozen hg hlt hne 1).trans h.f1, (keep_frozen hg hlt hne 2).trans h.f2, h.apart⟩
theorem ByS.other {w w' : World} {g : Nat} {a : Option Addr} {n : Nat} (h : ByS w a n) (hg : w.grownBy w' (some g)) (hne : ∀ p, a = some p → p.block < g) : ByS w' a n :=
  ⟨h.len, fun i hi => by
    obtain ⟨blk, off, x, ha, hx, hc⟩ := h.at_ i hi
    have := hne _ ha
    exact ⟨blk, off, x, ha, hx, (keep_cell (b := g) (g := blk) hg (World.block_lt_of_cell? w ⟨blk, off + i, none⟩ hc) (by simp only at this; omega) (off + i)).trans hc⟩⟩
theorem four_sets (w : World) (g : Nat) (u0 u1 u2 u3 : Value) : w.grownBy ((((w.setCell ⟨g, 0, none⟩ u0).setCell ⟨g, 1, none⟩ u1).setCell ⟨g, 2, none⟩ u2).setCell ⟨g, 3, none⟩ u3) (some g) :=
  g2 (g2 (g2 (grown_setCell w ⟨g, 0, none⟩ u0) (grown_setCell _ ⟨g, 1, none⟩ u1)) (grown_setCell _ ⟨g, 2, none⟩ u2)) (grown_setCell _ ⟨g, 3, none⟩ u3)
/-- A box of a rule: its cells, which may be written. -/
structure BoxR (w : World) (g : Nat) (d : Bool) (x y z : ByteArray) : Prop where
  lt : g < w.heap.size
  c0 : w.cell? ⟨g, 0, none⟩ = some (.bool d)
  c1 : w.cell? ⟨g, 1, none⟩ = some (.string x)
  c2 : w.cell? ⟨g, 2, none⟩ = some (.string y)
  c3 : w.cell? ⟨g, 3, none⟩ = some (.string z)
  f0 : w.frozen? ⟨g, 0, none⟩ = false
  f1 : w.frozen? ⟨g, 1, none⟩ = false
  f2 : w.frozen? ⟨g, 2, none⟩ = false
  f3 : w.frozen? ⟨g, 3, none⟩ = false
theorem BoxR.keep {w w' : World} {b g : Nat} {d : Bool} {x y z : ByteArray} (h : BoxR w g d x y z) (hg : w.grownBy w' (some b)) (hne : g ≠ b) : BoxR w' g d x y z :=
  ⟨Nat.lt_of_lt_of_le h.lt hg.size, (keep_cell hg h.lt hne 0).trans h.c0, (keep_cell hg h.lt hne 1).trans h.c1, (keep_cell hg h.lt hne 2).trans h.c2, (keep_cell hg h.lt hne 3).trans h.c3, (keep_frozen hg h.lt hne 0).trans h.f0, (keep_frozen hg h.lt hne 1).trans h.f1, (keep_frozen hg h.lt hne 2).trans h.f2, (keep_frozen hg h.lt hne 3).trans h.f3⟩
theorem BoxR.below {w w' : World} {g : Nat} {d : Bool} {x y z : ByteArray} (h : BoxR w g d x y z) (hB : Below w.heap.size w w') : BoxR w' g d x y z :=
  ⟨Nat.lt_of_lt_of_le h.lt hB.size, (hB.cell (p := ⟨g, 0, none⟩) h.lt).trans h.c0, (hB.cell (p := ⟨g, 1, none⟩) h.lt).trans h.c1, (hB.cell (p := ⟨g, 2, none⟩) h.lt).trans h.c2, (hB.cell (p := ⟨g, 3, none⟩) h.lt).trans h.c3, (hB.frozen (p := ⟨g, 0, none⟩) h.lt).trans h.f0, (hB.frozen (p := ⟨g, 1, none⟩) h.lt).trans h.f1, (hB.frozen (p := ⟨g, 2, none⟩) h.lt).trans h.f2, (hB.frozen (p := ⟨g, 3, none⟩) h.lt).trans h.f3⟩
theorem boxR_new (w : World) (t : TypeId) (d : Bool) (x y z : ByteArray) : BoxR (w.alloc (.cells #[.bool d, .string x, .string y, .string z] t)) w.heap.size d x y z :=
  ⟨by simp, by simp, by simp, by simp, by simp, by simp, by simp, by simp, by simp⟩

set_option maxHeartbeats 2000000 in
theorem drawRule_any (b : Nat) (a : Option Addr) (n c k : Nat) (w : World) (hB : ByS w a n) (hC : CurB w b a n c k) (hk : k ≤ 1000000) :
    Calls Tryz.prog 30 #[.pointer (some ⟨b, 0, none⟩)] w fun e w' => ∃ r : Ru, r.size ≤ 300 ∧ e = .returned r.val ∧ ByS w' a n ∧ (∃ k', k' ≤ k + 50 ∧ CurB w' b a n c k') ∧ w.grownBy w' (some b) := by
  have hbl := hC.lt
  have hBl : Below w.heap.size w (w.alloc (.cells #[.bool false, .string ⟨#[]⟩, .string ⟨#[]⟩, .string ⟨#[]⟩] 52)) := (Below.refl _ w).alloc (Nat.le_refl _) _
  have hX0 := boxR_new w 52 false ⟨#[]⟩ ⟨#[]⟩ ⟨#[]⟩
  have hC0 := hC.below hBl
  have hB0 := hB.below hBl
  have hG0 := gB (gS w (some b)) hBl
  go_enter Tryz.func30, Tryz.ntmps30
  go_wp2_with fail
  refine (one_any b a n c k 3 _ (by omega) (by omega) hB0 hC0 (by omega)).mono ?_
  rintro e w1 ⟨z, rfl, hC1, hg1⟩
  have hB1 := curB_grown hB0 hC0.apart hC0.lt hg1
  have hX1 := hX0.keep hg1 (by omega)
  have hG1 := g2 hG0 hg1
  clear hX0 hC0 hB0 hG0 hBl hg1 hB hC
  go_wp2_with fail
  refine (drawNP_any b a n c (k + 1) _ hB1 hC1 (by omega)).mono ?_
  rintro e w2 ⟨x, hx, rfl, hB2, ⟨k2, hk2, hC2⟩, hg2⟩
  have hX2 := hX1.keep hg2 (by omega)
  have hG2 := g2 hG1 hg2
  clear hX1 hC1 hB1 hG1 hg2
  go_wp2_with fail
  refine (ofNew_any b a n c k2 [⟨#[103, 101, 116]⟩, ⟨#[112, 117, 116]⟩, ⟨#[42]⟩] w2 (by decide) (by decide) hB2 hC2 (by omega)).mono ?_
  rintro e w3 ⟨m, hm, rfl, hB3, hC3, hg3⟩
  have hmz : m.size ≤ 4 := by
    simp only [List.mem_cons, List.mem_nil_iff, or_false] at hm
    rcases hm with rfl | rfl | rfl <;> decide
  have hX3 := hX2.keep hg3 (by omega)
  have hG3 := g2 hG2 hg3
  clear hm hX2 hC2 hB2 hG2 hg3
  go_wp2_with fail
  refine (drawPP_any b a n c (k2 + 1) _ hB3 hC3 (by omega)).mono ?_
  rintro e w4 ⟨p, hp, rfl, hB4, ⟨k4, hk4, hC4⟩, hg4⟩
  have hX4 := hX3.keep hg4 (by omega)
  have hG4 := g2 hG3 hg4
  clear hX3 hC3 hB3 hG3 hg4
  have hBl : Below w4.heap.size w4 (w4.alloc (.cells #[.bool z, .string x, .string m, .string p] 52)) := (Below.refl _ w4).alloc (Nat.le_refl _) _
  have hY5 := boxR_new w4 52 z x m p
  have hX5 := hX4.below hBl
  have hG5 := gB hG4 hBl
  have hC5 := hC4.below hBl
  have hB5 := hB4.below hBl
  have hlt4 := hX4.lt
  have hblt4 := hC4.lt
  clear hX4 hC4 hB4 hG4 hBl
  go_wp2_with fail
  refine (one_any b a n c k4 40 _ (by omega) (by omega) hB5 hC5 (by omega)).mono ?_
  rintro e w6 ⟨y, rfl, hC6, hg6⟩
  have hB6 := curB_grown hB5 hC5.apart hC5.lt hg6
  have hX6 := hX5.keep hg6 (by omega)
  have hY6 := hY5.keep hg6 (by omega)
  have hG6 := g2 hG5 hg6
  clear hX5 hY5 hC5 hB5 hG5 hg6
  have hne : w.heap.size ≠ w4.heap.size := by omega
  have hne' : w4.heap.size ≠ w.heap.size := by omega
  cases y
  · obtain ⟨_, x0, x1, x2, x3, xf0, xf1, xf2, xf3⟩ := hX6
    obtain ⟨_, y0, y1, y2, y3, _, _, _, _⟩ := hY6
    go_wp2
    exact bodyPost_ret (v := Ru.val ⟨z, x, m, p⟩) (by simp [results, Tryz.results30, go_sem, *]) rfl ⟨⟨z, x, m, p⟩, by unfold Ru.size; simp only; omega, rfl, hB6.other (four_sets _ _ _ _ _ _) (fun q hq => Nat.lt_trans (hC6.apart q hq) hbl), ⟨k4 + 1, by omega, hC6.other (four_sets _ _ _ _ _ _) (by omega)⟩, gN (gN (gN (gN hG6 (Nat.le_refl _) _) (Nat.le_refl _) _) (Nat.le_refl _) _) (Nat.le_refl _) _⟩
  · go_wp2_with fail
    refine (ofNew_any b a n c (k4 + 1) [⟨#[]⟩, ⟨#[112, 111, 115, 116]⟩] w6 (by decide) (by decide) hB6 hC6 (by omega)).mono ?_
    rintro e w7 ⟨m', hm', rfl, hB7, hC7, hg7⟩
    have hmz' : m'.size ≤ 4 := by
      simp only [List.mem_cons, List.mem_nil_iff, or_false] at hm'
      rcases hm' with rfl | rfl <;> decide
    have hX7 := hX6.keep hg7 (by omega)
    have hY7 := hY6.keep hg7 (by omega)
    have hG7 := g2 hG6 hg7
    clear hm' hX6 hY6 hC6 hB6 hG6 hg7
    obtain ⟨_, x0, x1, x2, x3, xf0, xf1, xf2, xf3⟩ := hX7
    obtain ⟨_, y0, y1, y2, y3, yf0, yf1, yf2, yf3⟩ := hY7
    go_wp2
    exact bodyPost_ret (v := Ru.val ⟨z, x, m', p⟩) (by simp [results, Tryz.results30, go_sem, *]) rfl ⟨⟨z, x, m', p⟩, by unfold Ru.size; simp only; omega, rfl, (hB7.other (grown_setCell _ ⟨w4.heap.size, 2, none⟩ _) (fun q hq => Nat.lt_trans (hC7.apart q hq) hblt4)).other (four_sets _ _ _ _ _ _) (fun q hq => Nat.lt_trans (hC7.apart q hq) hbl), ⟨k4 + 1 + 1, by omega, (hC7.other (grown_setCell _ ⟨w4.heap.size, 2, none⟩ _) (by simp only; omega)).other (four_sets _ _ _ _ _ _) (by omega)⟩, gN (gN (gN (gN (gN hG7 (by simp only; omega) _) (Nat.le_refl _) _) (Nat.le_refl _) _) (Nat.le_refl _) _) (Nat.le_refl _) _⟩

end Go.Proofs.YtnblnhlfifhkkaaGreat
