/-
  Chapter 2: a rule read from its text by the specification.
-/
import Derived.Test.YtnblnhlfifhkkaeDoorReadW
namespace Go.Proofs.YtnblnhlfifhkkaeDoor
open Go.RowKit Go.Shelf

theorem words_row {w : World} {base : Nat} {v : Value} {a b c d : ByteArray} (h : w.ownsRow base 9 1 v 4 ([a, b, c, d].map Value.string)) : ∃ g cap, v = .slice (some ⟨g, 0, none⟩) 4 cap ∧ 4 ≤ cap ∧ g < w.heap.size ∧ w.cell? ⟨g, 0, none⟩ = some (.string a) ∧ w.cell? ⟨g, 1, none⟩ = some (.string b) ∧ w.cell? ⟨g, 2, none⟩ = some (.string c) ∧ w.cell? ⟨g, 3, none⟩ = some (.string d) := by
  rcases h.2 with ⟨_, h'⟩ | ⟨g, cap, cur, rfl, _, hb, hc, _⟩
  · cases h'
  · exact ⟨g, cap, rfl, hc, (Array.getElem?_eq_some_iff.1 hb).1, by rw [h.cellAt 0 (by omega)]; rfl, by rw [h.cellAt 1 (by omega)]; rfl, by rw [h.cellAt 2 (by omega)]; rfl, by rw [h.cellAt 3 (by omega)]; rfl⟩

set_option maxHeartbeats 2000000 in
set_option maxRecDepth 100000 in
theorem l2Rule_any (s : ByteArray) (w : World) (hs : s.size ≤ 1500) :
    Calls Tryd.prog 15 #[.string s] w fun e w' => ∃ r : Ru, e = .returned (.tuple #[r.val, .bool (ruOk s)]) ∧ (ruOk s = true → r = ruOf s) ∧ Below w.heap.size w w' := by
  by_cases hl : (split s 32).length = 4
  · obtain ⟨a, b, c, d, he⟩ := four hl
    have HE := hid (ru_four he)
    have hzr : ∀ D, Ru.size ⟨D, b, c, d⟩ ≤ 1048576 := fun D => by
      have h1 := split_size s 32 b (by rw [he]; simp)
      have h2 := split_size s 32 c (by rw [he]; simp)
      have h3 := split_size s 32 d (by rw [he]; simp)
      unfold Ru.size
      simp only
      omega
    go_enter Tryd.func15, Tryd.ntmps15
    go_wp2_with fail
    refine (l1Split_any s 32 32 rfl _ (by omega)).mono ?_
    rintro e w1 ⟨v1, rfl, hrow1, hB1⟩
    rw [he] at hrow1
    obtain ⟨g, cap, rfl, hcap, hgw, q0, q1, q2, q3⟩ := words_row hrow1
    have z0 : w1.cell? ⟨w.heap.size, 0, none⟩ = some (.bool false) := (hB1.cell (p := ⟨w.heap.size, 0, none⟩) (by simp)).trans (by simp)
    have f0 : w1.frozen? ⟨w.heap.size, 0, none⟩ = false := (hB1.frozen (p := ⟨w.heap.size, 0, none⟩) (by simp)).trans (by simp)
    have z1 : w1.cell? ⟨w.heap.size, 1, none⟩ = some (.string ⟨#[]⟩) := (hB1.cell (p := ⟨w.heap.size, 1, none⟩) (by simp)).trans (by simp)
    have f1 : w1.frozen? ⟨w.heap.size, 1, none⟩ = false := (hB1.frozen (p := ⟨w.heap.size, 1, none⟩) (by simp)).trans (by simp)
    have z2 : w1.cell? ⟨w.heap.size, 2, none⟩ = some (.string ⟨#[]⟩) := (hB1.cell (p := ⟨w.heap.size, 2, none⟩) (by simp)).trans (by simp)
    have f2 : w1.frozen? ⟨w.heap.size, 2, none⟩ = false := (hB1.frozen (p := ⟨w.heap.size, 2, none⟩) (by simp)).trans (by simp)
    have z3 : w1.cell? ⟨w.heap.size, 3, none⟩ = some (.string ⟨#[]⟩) := (hB1.cell (p := ⟨w.heap.size, 3, none⟩) (by simp)).trans (by simp)
    have f3 : w1.frozen? ⟨w.heap.size, 3, none⟩ = false := (hB1.frozen (p := ⟨w.heap.size, 3, none⟩) (by simp)).trans (by simp)
    have hzw : w.heap.size + 1 ≤ w1.heap.size := by have := hB1.size; simp at this; omega
    have hB0 : Below w.heap.size w w1 := below_one ((Below.refl _ w).alloc (Nat.le_refl _) _) hB1
    clear hB1 hrow1 hl he
    cases b1 : alB a
    · have e1 : (a.toList == [97, 108, 108, 111, 119]) = false := b1
      cases b2 : dnB a
      · have e2 : (a.toList == [100, 101, 110, 121]) = false := b2
        have HN := hid (show ruOk s = false by rw [HE.out.2, b1, b2]; rfl)
        clear b1 b2
        go_wp2
        exact bodyPost_ret (v := .tuple #[zRu.val, .bool false]) (by simp [results, Tryd.results15, go_sem, *]) rfl ⟨zRu, ret_rb HN.out.symm, (fun h => by rw [HN.out] at h; cases h), ((((hB0.setCell (p := ⟨w.heap.size, 0, none⟩) (Nat.le_refl _) _).setCell (p := ⟨w.heap.size, 1, none⟩) (Nat.le_refl _) _).setCell (p := ⟨w.heap.size, 2, none⟩) (Nat.le_refl _) _).setCell (p := ⟨w.heap.size, 3, none⟩) (Nat.le_refl _) _)⟩
      · have e2 : (a.toList == [100, 101, 110, 121]) = true := b2
        have HN := hid (show ruOk s = Ru.good ⟨true, b, c, d⟩ by rw [HE.out.2, b1, b2]; rfl)
        have HO := hid (show ruOf s = ⟨true, b, c, d⟩ by rw [HE.out.1, b2])
        replace hzr := hzr true
        clear b1 b2
        have hBr : Below w1.heap.size w1 (w1.alloc (.cells #[.bool true, .string b, .string c, .string d] 31)) := (Below.refl _ w1).alloc (Nat.le_refl _) _
        have y0 := (hBr.cell (p := ⟨w.heap.size, 0, none⟩) (by simp only; omega)).trans z0
        have g0 := (hBr.frozen (p := ⟨w.heap.size, 0, none⟩) (by simp only; omega)).trans f0
        have y1 := (hBr.cell (p := ⟨w.heap.size, 1, none⟩) (by simp only; omega)).trans z1
        have g1 := (hBr.frozen (p := ⟨w.heap.size, 1, none⟩) (by simp only; omega)).trans f1
        have y2 := (hBr.cell (p := ⟨w.heap.size, 2, none⟩) (by simp only; omega)).trans z2
        have g2 := (hBr.frozen (p := ⟨w.heap.size, 2, none⟩) (by simp only; omega)).trans f2
        have y3 := (hBr.cell (p := ⟨w.heap.size, 3, none⟩) (by simp only; omega)).trans z3
        have g3 := (hBr.frozen (p := ⟨w.heap.size, 3, none⟩) (by simp only; omega)).trans f3
        have hBr0 := below_one hB0 hBr
        have n0 := World.new_ne w1 _ q0
        have n1 := World.new_ne w1 _ q1
        have n2 := World.new_ne w1 _ q2
        have n3 := World.new_ne w1 _ q3
        have hzb : w1.heap.size < (w1.alloc (.cells #[.bool true, .string b, .string c, .string d] 31)).heap.size := by simp
        have x0 : (w1.alloc (.cells #[.bool true, .string b, .string c, .string d] 31)).cell? ⟨w1.heap.size, 0, none⟩ = some (.bool true) := by simp
        have x1 : (w1.alloc (.cells #[.bool true, .string b, .string c, .string d] 31)).cell? ⟨w1.heap.size, 1, none⟩ = some (.string b) := by simp
        have x2 : (w1.alloc (.cells #[.bool true, .string b, .string c, .string d] 31)).cell? ⟨w1.heap.size, 2, none⟩ = some (.string c) := by simp
        have x3 : (w1.alloc (.cells #[.bool true, .string b, .string c, .string d] 31)).cell? ⟨w1.heap.size, 3, none⟩ = some (.string d) := by simp
        go_wp2_with fail
        go_region_held3 (fun w' => w'.cell? ⟨g, 0, none⟩ = some (.string a) ∧ w'.cell? ⟨g, 1, none⟩ = some (.string b) ∧ w'.cell? ⟨g, 2, none⟩ = some (.string c) ∧ w'.cell? ⟨g, 3, none⟩ = some (.string d)) (go_keep) (first | fail)
        go_wp2_with fail
        have hBd : Below w.heap.size w (w1.alloc (.cells #[.bool true, .string b, .string c, .string d] 31)).drew := hBr0.drew
        replace y0 : (w1.alloc (.cells #[.bool true, .string b, .string c, .string d] 31)).drew.cell? _ = _ := y0
        replace g0 : (w1.alloc (.cells #[.bool true, .string b, .string c, .string d] 31)).drew.frozen? _ = _ := g0
        replace x0 : (w1.alloc (.cells #[.bool true, .string b, .string c, .string d] 31)).drew.cell? _ = _ := x0
        replace y1 : (w1.alloc (.cells #[.bool true, .string b, .string c, .string d] 31)).drew.cell? _ = _ := y1
        replace g1 : (w1.alloc (.cells #[.bool true, .string b, .string c, .string d] 31)).drew.frozen? _ = _ := g1
        replace x1 : (w1.alloc (.cells #[.bool true, .string b, .string c, .string d] 31)).drew.cell? _ = _ := x1
        replace y2 : (w1.alloc (.cells #[.bool true, .string b, .string c, .string d] 31)).drew.cell? _ = _ := y2
        replace g2 : (w1.alloc (.cells #[.bool true, .string b, .string c, .string d] 31)).drew.frozen? _ = _ := g2
        replace x2 : (w1.alloc (.cells #[.bool true, .string b, .string c, .string d] 31)).drew.cell? _ = _ := x2
        replace y3 : (w1.alloc (.cells #[.bool true, .string b, .string c, .string d] 31)).drew.cell? _ = _ := y3
        replace g3 : (w1.alloc (.cells #[.bool true, .string b, .string c, .string d] 31)).drew.frozen? _ = _ := g3
        replace x3 : (w1.alloc (.cells #[.bool true, .string b, .string c, .string d] 31)).drew.cell? _ = _ := x3
        replace hzb : w1.heap.size < (w1.alloc (.cells #[.bool true, .string b, .string c, .string d] 31)).drew.heap.size := hzb
        clear n0 n1 n2 n3 hBr hBr0 q0 q1 q2 q3 z0 z1 z2 z3 f0 f1 f2 f3
        generalize (w1.alloc (.cells #[.bool true, .string b, .string c, .string d] 31)).drew = W4 at *
        have hzr4 : w.heap.size < W4.heap.size := by omega
        have hne : w.heap.size ≠ w1.heap.size := by omega
        have hne' : w1.heap.size ≠ w.heap.size := by omega
        go_region_held3 (fun w' => w'.cell? ⟨w1.heap.size, 0, none⟩ = some (.bool true) ∧ w'.cell? ⟨w1.heap.size, 1, none⟩ = some (.string b) ∧ w'.cell? ⟨w1.heap.size, 2, none⟩ = some (.string c) ∧ w'.cell? ⟨w1.heap.size, 3, none⟩ = some (.string d)) (go_keep) (first | (go_at_call 19; refine (specGoodRule_sz ⟨true, b, c, d⟩ _ hzr).mono ?_; rintro e w5 ⟨rfl, hB5⟩; have u0 := (hB5.cell (p := ⟨w.heap.size, 0, none⟩) (by exact hzr4)).trans (by exact y0); have v0 := (hB5.frozen (p := ⟨w.heap.size, 0, none⟩) (by exact hzr4)).trans (by exact g0); have t0 := (hB5.cell (p := ⟨w1.heap.size, 0, none⟩) (by exact hzb)).trans (by exact x0); have u1 := (hB5.cell (p := ⟨w.heap.size, 1, none⟩) (by exact hzr4)).trans (by exact y1); have v1 := (hB5.frozen (p := ⟨w.heap.size, 1, none⟩) (by exact hzr4)).trans (by exact g1); have t1 := (hB5.cell (p := ⟨w1.heap.size, 1, none⟩) (by exact hzb)).trans (by exact x1); have u2 := (hB5.cell (p := ⟨w.heap.size, 2, none⟩) (by exact hzr4)).trans (by exact y2); have v2 := (hB5.frozen (p := ⟨w.heap.size, 2, none⟩) (by exact hzr4)).trans (by exact g2); have t2 := (hB5.cell (p := ⟨w1.heap.size, 2, none⟩) (by exact hzb)).trans (by exact x2); have u3 := (hB5.cell (p := ⟨w.heap.size, 3, none⟩) (by exact hzr4)).trans (by exact y3); have v3 := (hB5.frozen (p := ⟨w.heap.size, 3, none⟩) (by exact hzr4)).trans (by exact g3); have t3 := (hB5.cell (p := ⟨w1.heap.size, 3, none⟩) (by exact hzb)).trans (by exact x3)))
        all_goals have hBB5 := below_one hBd (below_drew1 hB5)
        all_goals go_wp2
        all_goals exact bodyPost_ret (v := .tuple #[Ru.val ⟨true, b, c, d⟩, .bool (Ru.good ⟨true, b, c, d⟩)]) (by simp [results, Tryd.results15, go_sem, *]) rfl ⟨⟨true, b, c, d⟩, ret_rb HN.out.symm, (fun _ => HO.out.symm), ((((hBB5.setCell (p := ⟨w.heap.size, 0, none⟩) (Nat.le_refl _) _).setCell (p := ⟨w.heap.size, 1, none⟩) (Nat.le_refl _) _).setCell (p := ⟨w.heap.size, 2, none⟩) (Nat.le_refl _) _).setCell (p := ⟨w.heap.size, 3, none⟩) (Nat.le_refl _) _)⟩
    · have e1 : (a.toList == [97, 108, 108, 111, 119]) = true := b1
      have b2 := al_dn b1
      have e2 : (a.toList == [100, 101, 110, 121]) = false := b2
      have HN := hid (show ruOk s = Ru.good ⟨false, b, c, d⟩ by rw [HE.out.2, b1, b2]; rfl)
      have HO := hid (show ruOf s = ⟨false, b, c, d⟩ by rw [HE.out.1, b2])
      replace hzr := hzr false
      clear b1 b2
      have hBr : Below w1.heap.size w1 (w1.alloc (.cells #[.bool false, .string b, .string c, .string d] 31)) := (Below.refl _ w1).alloc (Nat.le_refl _) _
      have y0 := (hBr.cell (p := ⟨w.heap.size, 0, none⟩) (by simp only; omega)).trans z0
      have g0 := (hBr.frozen (p := ⟨w.heap.size, 0, none⟩) (by simp only; omega)).trans f0
      have y1 := (hBr.cell (p := ⟨w.heap.size, 1, none⟩) (by simp only; omega)).trans z1
      have g1 := (hBr.frozen (p := ⟨w.heap.size, 1, none⟩) (by simp only; omega)).trans f1
      have y2 := (hBr.cell (p := ⟨w.heap.size, 2, none⟩) (by simp only; omega)).trans z2
      have g2 := (hBr.frozen (p := ⟨w.heap.size, 2, none⟩) (by simp only; omega)).trans f2
      have y3 := (hBr.cell (p := ⟨w.heap.size, 3, none⟩) (by simp only; omega)).trans z3
      have g3 := (hBr.frozen (p := ⟨w.heap.size, 3, none⟩) (by simp only; omega)).trans f3
      have hBr0 := below_one hB0 hBr
      have n0 := World.new_ne w1 _ q0
      have n1 := World.new_ne w1 _ q1
      have n2 := World.new_ne w1 _ q2
      have n3 := World.new_ne w1 _ q3
      have hzb : w1.heap.size < (w1.alloc (.cells #[.bool false, .string b, .string c, .string d] 31)).heap.size := by simp
      have x0 : (w1.alloc (.cells #[.bool false, .string b, .string c, .string d] 31)).cell? ⟨w1.heap.size, 0, none⟩ = some (.bool false) := by simp
      have x1 : (w1.alloc (.cells #[.bool false, .string b, .string c, .string d] 31)).cell? ⟨w1.heap.size, 1, none⟩ = some (.string b) := by simp
      have x2 : (w1.alloc (.cells #[.bool false, .string b, .string c, .string d] 31)).cell? ⟨w1.heap.size, 2, none⟩ = some (.string c) := by simp
      have x3 : (w1.alloc (.cells #[.bool false, .string b, .string c, .string d] 31)).cell? ⟨w1.heap.size, 3, none⟩ = some (.string d) := by simp
      go_wp2_with fail
      go_region_held3 (fun w' => w'.cell? ⟨g, 0, none⟩ = some (.string a) ∧ w'.cell? ⟨g, 1, none⟩ = some (.string b) ∧ w'.cell? ⟨g, 2, none⟩ = some (.string c) ∧ w'.cell? ⟨g, 3, none⟩ = some (.string d)) (go_keep) (first | fail)
      go_wp2_with fail
      have hBd : Below w.heap.size w (w1.alloc (.cells #[.bool false, .string b, .string c, .string d] 31)).drew := hBr0.drew
      replace y0 : (w1.alloc (.cells #[.bool false, .string b, .string c, .string d] 31)).drew.cell? _ = _ := y0
      replace g0 : (w1.alloc (.cells #[.bool false, .string b, .string c, .string d] 31)).drew.frozen? _ = _ := g0
      replace x0 : (w1.alloc (.cells #[.bool false, .string b, .string c, .string d] 31)).drew.cell? _ = _ := x0
      replace y1 : (w1.alloc (.cells #[.bool false, .string b, .string c, .string d] 31)).drew.cell? _ = _ := y1
      replace g1 : (w1.alloc (.cells #[.bool false, .string b, .string c, .string d] 31)).drew.frozen? _ = _ := g1
      replace x1 : (w1.alloc (.cells #[.bool false, .string b, .string c, .string d] 31)).drew.cell? _ = _ := x1
      replace y2 : (w1.alloc (.cells #[.bool false, .string b, .string c, .string d] 31)).drew.cell? _ = _ := y2
      replace g2 : (w1.alloc (.cells #[.bool false, .string b, .string c, .string d] 31)).drew.frozen? _ = _ := g2
      replace x2 : (w1.alloc (.cells #[.bool false, .string b, .string c, .string d] 31)).drew.cell? _ = _ := x2
      replace y3 : (w1.alloc (.cells #[.bool false, .string b, .string c, .string d] 31)).drew.cell? _ = _ := y3
      replace g3 : (w1.alloc (.cells #[.bool false, .string b, .string c, .string d] 31)).drew.frozen? _ = _ := g3
      replace x3 : (w1.alloc (.cells #[.bool false, .string b, .string c, .string d] 31)).drew.cell? _ = _ := x3
      replace hzb : w1.heap.size < (w1.alloc (.cells #[.bool false, .string b, .string c, .string d] 31)).drew.heap.size := hzb
      clear n0 n1 n2 n3 hBr hBr0 q0 q1 q2 q3 z0 z1 z2 z3 f0 f1 f2 f3
      generalize (w1.alloc (.cells #[.bool false, .string b, .string c, .string d] 31)).drew = W4 at *
      have hzr4 : w.heap.size < W4.heap.size := by omega
      have hne : w.heap.size ≠ w1.heap.size := by omega
      have hne' : w1.heap.size ≠ w.heap.size := by omega
      go_region_held3 (fun w' => w'.cell? ⟨w1.heap.size, 0, none⟩ = some (.bool false) ∧ w'.cell? ⟨w1.heap.size, 1, none⟩ = some (.string b) ∧ w'.cell? ⟨w1.heap.size, 2, none⟩ = some (.string c) ∧ w'.cell? ⟨w1.heap.size, 3, none⟩ = some (.string d)) (go_keep) (first | (go_at_call 19; refine (specGoodRule_sz ⟨false, b, c, d⟩ _ hzr).mono ?_; rintro e w5 ⟨rfl, hB5⟩; have u0 := (hB5.cell (p := ⟨w.heap.size, 0, none⟩) (by exact hzr4)).trans (by exact y0); have v0 := (hB5.frozen (p := ⟨w.heap.size, 0, none⟩) (by exact hzr4)).trans (by exact g0); have t0 := (hB5.cell (p := ⟨w1.heap.size, 0, none⟩) (by exact hzb)).trans (by exact x0); have u1 := (hB5.cell (p := ⟨w.heap.size, 1, none⟩) (by exact hzr4)).trans (by exact y1); have v1 := (hB5.frozen (p := ⟨w.heap.size, 1, none⟩) (by exact hzr4)).trans (by exact g1); have t1 := (hB5.cell (p := ⟨w1.heap.size, 1, none⟩) (by exact hzb)).trans (by exact x1); have u2 := (hB5.cell (p := ⟨w.heap.size, 2, none⟩) (by exact hzr4)).trans (by exact y2); have v2 := (hB5.frozen (p := ⟨w.heap.size, 2, none⟩) (by exact hzr4)).trans (by exact g2); have t2 := (hB5.cell (p := ⟨w1.heap.size, 2, none⟩) (by exact hzb)).trans (by exact x2); have u3 := (hB5.cell (p := ⟨w.heap.size, 3, none⟩) (by exact hzr4)).trans (by exact y3); have v3 := (hB5.frozen (p := ⟨w.heap.size, 3, none⟩) (by exact hzr4)).trans (by exact g3); have t3 := (hB5.cell (p := ⟨w1.heap.size, 3, none⟩) (by exact hzb)).trans (by exact x3)))
      all_goals have hBB5 := below_one hBd (below_drew1 hB5)
      all_goals go_wp2
      all_goals exact bodyPost_ret (v := .tuple #[Ru.val ⟨false, b, c, d⟩, .bool (Ru.good ⟨false, b, c, d⟩)]) (by simp [results, Tryd.results15, go_sem, *]) rfl ⟨⟨false, b, c, d⟩, ret_rb HN.out.symm, (fun _ => HO.out.symm), ((((hBB5.setCell (p := ⟨w.heap.size, 0, none⟩) (Nat.le_refl _) _).setCell (p := ⟨w.heap.size, 1, none⟩) (Nat.le_refl _) _).setCell (p := ⟨w.heap.size, 2, none⟩) (Nat.le_refl _) _).setCell (p := ⟨w.heap.size, 3, none⟩) (Nat.le_refl _) _)⟩
  · have HN := hid (ru_other hl)
    have hn : (((split s 32).length : Int) != 4) = true := by simp; omega
    go_enter Tryd.func15, Tryd.ntmps15
    go_wp2_with fail
    refine (l1Split_any s 32 32 rfl _ (by omega)).mono ?_
    rintro e w1 ⟨v1, rfl, hrow1, hB1⟩
    obtain ⟨a1, cap1, rfl⟩ := ownsRow_len hrow1
    have z0 : w1.cell? ⟨w.heap.size, 0, none⟩ = some (.bool false) := (hB1.cell (p := ⟨w.heap.size, 0, none⟩) (by simp)).trans (by simp)
    have f0 : w1.frozen? ⟨w.heap.size, 0, none⟩ = false := (hB1.frozen (p := ⟨w.heap.size, 0, none⟩) (by simp)).trans (by simp)
    have z1 : w1.cell? ⟨w.heap.size, 1, none⟩ = some (.string ⟨#[]⟩) := (hB1.cell (p := ⟨w.heap.size, 1, none⟩) (by simp)).trans (by simp)
    have f1 : w1.frozen? ⟨w.heap.size, 1, none⟩ = false := (hB1.frozen (p := ⟨w.heap.size, 1, none⟩) (by simp)).trans (by simp)
    have z2 : w1.cell? ⟨w.heap.size, 2, none⟩ = some (.string ⟨#[]⟩) := (hB1.cell (p := ⟨w.heap.size, 2, none⟩) (by simp)).trans (by simp)
    have f2 : w1.frozen? ⟨w.heap.size, 2, none⟩ = false := (hB1.frozen (p := ⟨w.heap.size, 2, none⟩) (by simp)).trans (by simp)
    have z3 : w1.cell? ⟨w.heap.size, 3, none⟩ = some (.string ⟨#[]⟩) := (hB1.cell (p := ⟨w.heap.size, 3, none⟩) (by simp)).trans (by simp)
    have f3 : w1.frozen? ⟨w.heap.size, 3, none⟩ = false := (hB1.frozen (p := ⟨w.heap.size, 3, none⟩) (by simp)).trans (by simp)
    have hB0 : Below w.heap.size w w1 := below_one ((Below.refl _ w).alloc (Nat.le_refl _) _) hB1
    clear hB1 hrow1
    go_wp2
    exact bodyPost_ret (v := .tuple #[zRu.val, .bool false]) (by simp [results, Tryd.results15, go_sem, *]) rfl ⟨zRu, ret_rb HN.out.symm, (fun h => by rw [HN.out] at h; cases h), ((((hB0.setCell (p := ⟨w.heap.size, 0, none⟩) (Nat.le_refl _) _).setCell (p := ⟨w.heap.size, 1, none⟩) (Nat.le_refl _) _).setCell (p := ⟨w.heap.size, 2, none⟩) (Nat.le_refl _) _).setCell (p := ⟨w.heap.size, 3, none⟩) (Nat.le_refl _) _)⟩

end Go.Proofs.YtnblnhlfifhkkaeDoor
