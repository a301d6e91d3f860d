/-
  Chapter 6: good sides, by the specification and by the program.
-/
import Derived.Deep.RegionHeld3
import Derived.Test.YtjnajdilllkpcaaGreatJTaken1
import Derived.WalkKit
import Derived.ProofKit
import Derived.Test.YtjnajdilllkpcaaGreatJTaken0
import Derived.Shelf.Slices.Turned
import Derived.Shelf.SlicesQ.Equal
import Derived.Shelf.SlicesQ.Contains
import Derived.Shelf.SlicesE.Clone
import Derived.WalkLawsBesides
import Derived.Deep.DeepCutAuto
namespace Go.Proofs.YtjnajdilllkpcaaGreat
open Go.RowKit Go.Shelf

theorem insU_at {r : Ru} : ∀ (l : List Ru) (m : Nat), m ≤ l.length → (∀ j (h : j < l.length), j < m → ltR l[j] r = true) → (∀ h : m < l.length, ltR l[m] r = false) →
    insU r l = if (∃ h : m < l.length, l[m].same r = true) then l else l.take m ++ r :: l.drop m
  | [], m, hm, _, _ => by
    obtain rfl : m = 0 := by simpa using hm
    rw [if_neg (fun ⟨h, _⟩ => by simp at h)]
    rfl
  | x :: xs, 0, _, _, h2 => by
    have h3 := h2 (by simp)
    simp only [List.getElem_cons_zero] at h3
    unfold insU
    rw [if_neg (by rw [h3]; exact Bool.false_ne_true)]
    by_cases hs : x.same r = true
    · rw [if_pos hs, if_pos ⟨by simp, hs⟩]
    · rw [if_neg hs, if_neg (fun ⟨_, h⟩ => hs h)]
      rfl
  | x :: xs, m + 1, hm, h1, h2 => by
    have hx := h1 0 (by simp) (by omega)
    simp only [List.getElem_cons_zero] at hx
    have ih := insU_at xs m (by simpa using hm) (fun j h hj => by
      have := h1 (j + 1) (by simpa using h) (by omega)
      simpa using this) (fun h => by
      have := h2 (by simpa using h)
      simpa using this)
    unfold insU
    rw [if_pos hx, ih]
    by_cases hs : ∃ h : m < xs.length, xs[m].same r = true
    · rw [if_pos hs, if_pos]
      obtain ⟨h, hs⟩ := hs
      exact ⟨by simpa using h, by simpa using hs⟩
    · rw [if_neg hs, if_neg]
      · rfl
      · rintro ⟨h, h'⟩
        exact hs ⟨by simpa using h, by simpa using h'⟩
theorem ins_keep {r : Ru} {l : List Ru} {m : Nat} (hm : m < l.length) (h1 : ∀ j (h : j < l.length), j < m → ltR l[j] r = true) (h2 : ltR l[m] r = false) (hs : l[m].same r = true) : insU r l = l := by
  rw [insU_at l m (by omega) h1 (fun _ => h2), if_pos ⟨hm, hs⟩]
theorem ins_new {r : Ru} {l : List Ru} {m : Nat} (hm : m < l.length) (h1 : ∀ j (h : j < l.length), j < m → ltR l[j] r = true) (h2 : ltR l[m] r = false) (hs : l[m].same r = false) : insU r l = l.take m ++ r :: l.drop m := by
  rw [insU_at l m (by omega) h1 (fun _ => h2), if_neg (fun ⟨_, h⟩ => by rw [hs] at h; cases h)]
theorem ins_end {r : Ru} {l : List Ru} (h1 : ∀ j (h : j < l.length), j < l.length → ltR l[j] r = true) : insU r l = l.take l.length ++ r :: l.drop l.length := by
  rw [insU_at l l.length (Nat.le_refl _) h1 (fun h => absurd h (Nat.lt_irrefl _)), if_neg (fun ⟨h, _⟩ => absurd h (Nat.lt_irrefl _))]
theorem insU_len (r : Ru) : ∀ l : List Ru, (insU r l).length ≤ l.length + 1
  | [] => by simp [insU]
  | x :: xs => by
    have := insU_len r xs
    unfold insU
    split
    · simp only [List.length_cons]
      omega
    · split
      · simp
      · simp
theorem plTo_len {rs : List Ru} : ∀ k, k ≤ rs.length → (plTo rs k).length ≤ k
  | 0, _ => by simp [plTo]
  | k + 1, hk => by
    have ih := plTo_len k (rs := rs) (by omega)
    rw [plTo_succ (by omega)]
    have := insU_len rs[k] (plTo rs k)
    omega
theorem cells_one' {rs : List Ru} : ∀ u ∈ rs.flatMap Ru.cells, u.oneCell' = true := cells_one
theorem cell_four_new (w : World) (r : Ru) : ∀ j u, r.cells[j]? = some u → (w.alloc (.cells #[.bool r.deny, .string r.who, .string r.method, .string r.path] 31)).cell? ((⟨w.heap.size, 0, none⟩ : Addr).add j) = some u := by
  intro j u hu
  have hj : j < 4 := by have := (List.getElem?_eq_some_iff.1 hu).1; simpa using this
  obtain h | h | h | h : j = 0 ∨ j = 1 ∨ j = 2 ∨ j = 3 := by omega
  all_goals subst h
  all_goals simp at hu
  all_goals subst hu
  all_goals simp [Addr.add]
theorem row_take {w : World} {base g cap n m : Nat} {l : List Ru} (hrow : w.ownsRow base 31 4 (.slice (some ⟨g, 0, none⟩) n cap) n (l.flatMap Ru.cells)) (hm : m ≤ n) : ∀ j u, ((l.take m).flatMap Ru.cells)[j]? = some u → w.cell? ((⟨g, 0, none⟩ : Addr).add j) = some u := by
  intro j u hu
  rw [← flat_take] at hu
  have hj : j < m * 4 := by
    have := (List.getElem?_eq_some_iff.1 hu).1
    rw [List.length_take] at this
    omega
  rw [List.getElem?_take_of_lt hj] at hu
  rw [Addr.add_lit, Nat.zero_add, hrow.cellAt j (by omega)]
  exact hu
theorem flat_drop : ∀ (ys : List Ru) (k : Nat), (ys.flatMap Ru.cells).drop (k * 4) = (ys.drop k).flatMap Ru.cells
  | [], k => by simp
  | y :: ys, 0 => by simp
  | y :: ys, k + 1 => by
    rw [List.flatMap_cons, List.drop_succ_cons, ← flat_drop ys k, show (k + 1) * 4 = k * 4 + 4 by omega]
    rfl
theorem row_drop {w : World} {base g cap n m : Nat} {l : List Ru} (hrow : w.ownsRow base 31 4 (.slice (some ⟨g, 0, none⟩) n cap) n (l.flatMap Ru.cells)) (_hm : m ≤ n) : ∀ j u, ((l.drop m).flatMap Ru.cells)[j]? = some u → w.cell? ((⟨g, m * 4, none⟩ : Addr).add j) = some u := by
  intro j u hu
  rw [← flat_drop, List.getElem?_drop] at hu
  have hj : m * 4 + j < n * 4 := by
    have := (List.getElem?_eq_some_iff.1 hu).1
    rw [hrow.1] at this
    exact this
  rw [Addr.add_lit, hrow.cellAt (m * 4 + j) hj]
  exact hu
theorem below_draws1 (w : World) (q : Nat) : Below w.heap.size w (w.drewN q) := below_drewN (Below.refl _ _) q

set_option maxHeartbeats 4000000 in
set_option maxRecDepth 100000 in
theorem l2PlainW_any (v : Value) (rs : List Ru) (w : World) (hm : rs.length ≤ 64) (hf : ∀ r ∈ rs, r.size ≤ 1048576) (hr : RuS w v rs) :
    Calls Tryz.prog 57 #[v] w fun e w' => ∃ v', e = .returned v' ∧ w'.ownsRow w.heap.size 31 4 v' (plTo rs rs.length).length ((plTo rs rs.length).flatMap Ru.cells) ∧ Below w.heap.size w w' := by
  obtain ⟨a, cap, rfl⟩ := hr.len
  obtain ⟨i0, hi, hz0, hz1, hz2⟩ := info_parts infoRule
  go_enter Tryz.func57, Tryz.ntmps57
  go_wp2
  go_loopw [3, 10] (fun out i wr => ∃ k : Nat, k ≤ rs.length ∧ i = .int .i64 k ∧ wr.ownsRow w.heap.size 31 4 out (plTo rs k).length ((plTo rs k).flatMap Ru.cells) ∧ Below w.heap.size w wr) (fun _ i _ => rs.length - (intOf i).toNat)
  case atStart => exact ⟨0, Nat.zero_le _, rfl, World.ownsRow_nil _ _ _ _, Below.refl _ _⟩
  case round =>
    obtain ⟨k, hk, rfl, hrow, hB⟩ := hrel
    by_cases hlt : k < rs.length
    · obtain ⟨b, off, rfl, hb, hcap, y0, y1, y2, y3⟩ := (hr.below hB).at hlt
      have hzr := hf rs[k] (List.getElem_mem hlt)
      have hll := plTo_len k hk
      have hfl : ∀ x ∈ plTo rs k, x.size ≤ 1048576 := fun x hx => hf x (List.mem_of_mem_take ((plTo_mem k hk x).1 hx))
      have HSU := hid (plTo_succ hlt)
      have hlim : (plTo rs k).length ≤ 64 := by omega
      generalize plTo rs k = l at *
      generalize rs[k] = r at *
      have hBw : Below wr.heap.size wr (wr.alloc (.cells #[.bool r.deny, .string r.who, .string r.method, .string r.path] 31)) := (Below.refl _ wr).alloc (Nat.le_refl _) _
      have c0 : (wr.alloc (.cells #[.bool r.deny, .string r.who, .string r.method, .string r.path] 31)).cell? ⟨wr.heap.size, 0, none⟩ = some (.bool r.deny) := by simp
      have c1 : (wr.alloc (.cells #[.bool r.deny, .string r.who, .string r.method, .string r.path] 31)).cell? ⟨wr.heap.size, 1, none⟩ = some (.string r.who) := by simp
      have c2 : (wr.alloc (.cells #[.bool r.deny, .string r.who, .string r.method, .string r.path] 31)).cell? ⟨wr.heap.size, 2, none⟩ = some (.string r.method) := by simp
      have c3 : (wr.alloc (.cells #[.bool r.deny, .string r.who, .string r.method, .string r.path] 31)).cell? ⟨wr.heap.size, 3, none⟩ = some (.string r.path) := by simp
      have hzW : wr.heap.size < (wr.alloc (.cells #[.bool r.deny, .string r.who, .string r.method, .string r.path] 31)).heap.size := by simp
      have hrowW := ownsRow_below hrow hBw
      have hBW := below_one hB hBw
      rcases row_form hrow with ⟨rfl, hl0⟩ | ⟨g, capo, rfl, hg, hcapo⟩
      · obtain rfl : l = [] := List.eq_nil_of_length_eq_zero hl0
        go_wp2
        generalize (wr.alloc (.cells #[.bool r.deny, .string r.who, .string r.method, .string r.path] 31)) = W0 at *
        clear y0 y1 y2 y3 hrow hB hBw
        generalize wr.heap.size = bx at *
        refine wp_loop_rounds 1 ?_
        rw [rounds_succ]
        go_wp2_with fail
        go_quiet (fail)
        go_wp2_with fail
        replace hBW := below_drewN hBW nq
        replace c0 : (W0.drewN nq).cell? _ = _ := c0
        replace c1 : (W0.drewN nq).cell? _ = _ := c1
        replace c2 : (W0.drewN nq).cell? _ = _ := c2
        replace c3 : (W0.drewN nq).cell? _ = _ := c3
        clear hrowW hzW
        generalize W0.drewN nq = W1 at *
        go_quiet (fail)
        replace hBW := below_drewN hBW nq
        replace c0 : (W1.drewN nq).cell? _ = _ := c0
        replace c1 : (W1.drewN nq).cell? _ = _ := c1
        replace c2 : (W1.drewN nq).cell? _ = _ := c2
        replace c3 : (W1.drewN nq).cell? _ = _ := c3
        generalize W1.drewN nq = Wc at *
        have HIN := hid (show plTo rs (k + 1) = [r] by rw [HSU.out]; rfl)
        go_wp2_with (at_builtin; refine wpList_append_own _ rfl _ _ 23 rfl Wc.heap.size 31 i0 _ 4 56 Tryz.underlying23 hi hz0 hz1 hz2 rfl (by decide) _ _ _ rfl ((World.ownsRow_nil Wc Wc.heap.size 31 4).alloc _) ⟨Wc.heap.size, 0, none⟩ 1 1 r.cells rfl rfl (cell_four_new _ r) (by intro u hu; simp at hu; rcases hu with rfl | rfl | rfl | rfl <;> rfl) (by unfold maxLen; omega) (by omega) (by simp) ?_)
        intro v2 w2 hown2 hgrow2 _
        have hb2 : Below Wc.heap.size Wc w2 := below_appended (Nat.le_refl _) (World.ownsRow_nil Wc Wc.heap.size 31 4) hgrow2
        rcases row_form hown2 with ⟨_, h'⟩ | ⟨g2, cp2, rfl, _, hcp⟩
        · exact absurd h' (by omega)
        · clear c0 c1 c2 c3 hgrow2
          go_wp2
          go_roundw
          case rel => exact ⟨k + 1, by omega, by go_num, by rw [HIN.out]; exact Go.Joins.ownsRow_le hown2 hBW.size, below_one hBW hb2⟩
          case measure => simp [intOf]; omega
      · go_wp2
        generalize (wr.alloc (.cells #[.bool r.deny, .string r.who, .string r.method, .string r.path] 31)) = W0 at *
        clear y0 y1 y2 y3 hrow hB hBw
        generalize wr.heap.size = bx at *
        go_loopw [6] (fun i wq => ∃ m : Nat, m ≤ l.length ∧ i = .int .i64 m ∧ (∀ j (h : j < l.length), j < m → ltR l[j] r = true) ∧ Below W0.heap.size W0 wq) (fun i _ => l.length - (intOf i).toNat)
        case atStart => exact ⟨0, Nat.zero_le _, rfl, fun _ _ h => absurd h (Nat.not_lt_zero _), Below.refl _ _⟩
        case round =>
          obtain ⟨m, hml, rfl, hlts, hBq⟩ := hrel
          have HL := hid hlts
          clear hlts
          have hrowq := ownsRow_below hrowW hBq
          have b0 := (hBq.cell (p := ⟨bx, 0, none⟩) hzW).trans c0
          have b1 := (hBq.cell (p := ⟨bx, 1, none⟩) hzW).trans c1
          have b2 := (hBq.cell (p := ⟨bx, 2, none⟩) hzW).trans c2
          have b3 := (hBq.cell (p := ⟨bx, 3, none⟩) hzW).trans c3
          have hzq := Nat.lt_of_lt_of_le hzW hBq.size
          by_cases hlm : m < l.length
          · have dm : decide ((m : Int) < (l.length : Int)) = true := by simp; omega
            have hX := hfl l[m] (List.getElem_mem hlm)
            obtain ⟨x0, x1, x2, x3⟩ := row_ru hrowq hlm rfl _ rfl
            have hgq : g < wr.heap.size := cell_lt x0
            have HST := hid (fun (h : ltR l[m] r = true) => (fun j (hj : j < l.length) (hjm : j < m + 1) => (show ltR l[j] r = true by
              by_cases e : j = m
              · subst e
                exact h
              · exact HL.out j hj (by omega)) : ∀ j (hj : j < l.length), j < m + 1 → ltR l[j] r = true))
            have HKE := hid (fun h2 hs => ins_keep (r := r) hlm HL.out h2 hs)
            have HNE := hid (fun h2 hs => ins_new (r := r) hlm HL.out h2 hs)
            generalize l[m] = x at *
            cases ht : ltR x r
            · have et : Op.bytesLess x.text.toList r.text.toList = false := by rw [toList_data, toList_data]; exact ht
              have hse := eql_ru x r
              cases hsm : x.same r
              · have HIN := hid (show plTo rs (k + 1) = l.take m ++ r :: l.drop m by rw [HSU.out]; exact HNE.out ht hsm)
                rw [hsm] at hse
                have hM1 : True := trivial
                go_wp2_with fail
                go_region_held3 (fun w' => w'.cell? ⟨g, m * 4, none⟩ = some (.bool x.deny) ∧ w'.cell? ⟨g, m * 4 + 1, none⟩ = some (.string x.who) ∧ w'.cell? ⟨g, m * 4 + 2, none⟩ = some (.string x.method) ∧ w'.cell? ⟨g, m * 4 + 3, none⟩ = some (.string x.path) ∧ w'.cell? ⟨bx, 0, none⟩ = some (.bool r.deny) ∧ w'.cell? ⟨bx, 1, none⟩ = some (.string r.who) ∧ w'.cell? ⟨bx, 2, none⟩ = some (.string r.method) ∧ w'.cell? ⟨bx, 3, none⟩ = some (.string r.path)) (go_keep) (first | (go_at_call 82; clear hM1; refine (l2Text_any x _ hX).mono ?_; rintro e v1 ⟨rfl, hB1⟩; have x0_1 := (hB1.cell (p := ⟨g, m * 4, none⟩) (by exact hgq)).trans (by exact x0); have x1_1 := (hB1.cell (p := ⟨g, m * 4 + 1, none⟩) (by exact hgq)).trans (by exact x1); have x2_1 := (hB1.cell (p := ⟨g, m * 4 + 2, none⟩) (by exact hgq)).trans (by exact x2); have x3_1 := (hB1.cell (p := ⟨g, m * 4 + 3, none⟩) (by exact hgq)).trans (by exact x3); have b0_1 := (hB1.cell (p := ⟨bx, 0, none⟩) (by exact hzq)).trans (by exact b0); have b1_1 := (hB1.cell (p := ⟨bx, 1, none⟩) (by exact hzq)).trans (by exact b1); have b2_1 := (hB1.cell (p := ⟨bx, 2, none⟩) (by exact hzq)).trans (by exact b2); have b3_1 := (hB1.cell (p := ⟨bx, 3, none⟩) (by exact hzq)).trans (by exact b3); have hgq1 := Nat.lt_of_lt_of_le hgq hB1.size; have hzq1 := Nat.lt_of_lt_of_le hzq hB1.size) | (go_at_call 82; refine (l2Text_any r _ hzr).mono ?_; rintro e v2 ⟨rfl, hB2⟩; have x0_2 := (hB2.cell (p := ⟨g, m * 4, none⟩) (by exact hgq1)).trans (by exact x0_1); have x1_2 := (hB2.cell (p := ⟨g, m * 4 + 1, none⟩) (by exact hgq1)).trans (by exact x1_1); have x2_2 := (hB2.cell (p := ⟨g, m * 4 + 2, none⟩) (by exact hgq1)).trans (by exact x2_1); have x3_2 := (hB2.cell (p := ⟨g, m * 4 + 3, none⟩) (by exact hgq1)).trans (by exact x3_1); have b0_2 := (hB2.cell (p := ⟨bx, 0, none⟩) (by exact hzq1)).trans (by exact b0_1); have b1_2 := (hB2.cell (p := ⟨bx, 1, none⟩) (by exact hzq1)).trans (by exact b1_1); have b2_2 := (hB2.cell (p := ⟨bx, 2, none⟩) (by exact hzq1)).trans (by exact b2_1); have b3_2 := (hB2.cell (p := ⟨bx, 3, none⟩) (by exact hzq1)).trans (by exact b3_1); have hgq2 := Nat.lt_of_lt_of_le hgq1 hB2.size; have hzq2 := Nat.lt_of_lt_of_le hzq1 hB2.size))
                have hBq2 := below_one (below_one hBq (below_drew1 hB1)) hB2
                clear hB1 hB2 x0_1 b0_1 x0 b0 x1_1 b1_1 x1 b1 x2_1 b2_1 x2 b2 x3_1 b3_1 x3 b3
                go_wp2_with fail
                go_quiet (fail)
                replace hBq2 := below_drewN hBq2 nq
                replace b0_2 : (v2.drewN nq).cell? _ = _ := b0_2
                replace b1_2 : (v2.drewN nq).cell? _ = _ := b1_2
                replace b2_2 : (v2.drewN nq).cell? _ = _ := b2_2
                replace b3_2 : (v2.drewN nq).cell? _ = _ := b3_2
                replace hzq2 : bx < (v2.drewN nq).heap.size := hzq2
                clear x0_2 x1_2 x2_2 x3_2 hgq2
                generalize v2.drewN nq = Wc at *
                have hrowc := ownsRow_below hrowW hBq2
                have hBc := below_one hBW hBq2
                have b0 := b0_2
                have b1 := b1_2
                have b2 := b2_2
                have b3 := b3_2
                have hzc := hzq2
                clear b0_2 b1_2 b2_2 b3_2 hzq2 hrowq hBq2 hBq
                have hn1 : ((l.take m).flatMap Ru.cells).length = m * 4 := by rw [flat_len, List.length_take]; omega
                have hn2 : ((l.drop m).flatMap Ru.cells).length = (l.length - m) * 4 := by rw [flat_len, List.length_drop]
                have hc1 : ∀ j u, ((l.take m).flatMap Ru.cells)[j]? = some u → Wc.cell? ((⟨g, 0, none⟩ : Addr).add j) = some u := row_take hrowc (by omega)
                go_wp2_with (at_builtin; refine wpList_append_own _ rfl _ _ 23 rfl Wc.heap.size 31 i0 _ 4 56 Tryz.underlying23 hi hz0 hz1 hz2 rfl (by decide) _ _ _ rfl (World.ownsRow_nil Wc Wc.heap.size 31 4) ⟨g, 0, none⟩ m _ ((l.take m).flatMap Ru.cells) rfl hn1 hc1 cells_one' (by unfold maxLen; omega) (by omega) (Nat.le_refl _) ?_)
                intro v1 w1 hown1 hgrow1 _
                have hb1 : Below Wc.heap.size Wc w1 := (Below.refl _ Wc).grown hgrow1 (Nat.le_refl _) (fun k hk => by cases hk)
                have q0 := (hb1.cell (p := ⟨bx, 0, none⟩) hzc).trans b0
                have q1 := (hb1.cell (p := ⟨bx, 1, none⟩) hzc).trans b1
                have q2 := (hb1.cell (p := ⟨bx, 2, none⟩) hzc).trans b2
                have q3 := (hb1.cell (p := ⟨bx, 3, none⟩) hzc).trans b3
                have hz1c := hb1.size
                obtain ⟨a1, cp1, rfl⟩ := ownsRow_len hown1
                clear hc1 b0 b1 b2 b3 hgrow1
                go_wp2_with (at_builtin; refine wpList_append_own _ rfl _ _ 23 rfl Wc.heap.size 31 i0 _ 4 56 Tryz.underlying23 hi hz0 hz1 hz2 rfl (by decide) _ _ _ rfl (hown1.alloc _) ⟨w1.heap.size, 0, none⟩ 1 1 r.cells rfl rfl (cell_four_new _ r) (by intro u hu; simp at hu; rcases hu with rfl | rfl | rfl | rfl <;> rfl) (by unfold maxLen; omega) (by omega) (by simp; omega) ?_)
                intro v2 w2 hown2 hgrow2 _
                have hb2 : Below Wc.heap.size Wc w2 := hb1.trans (below_appended hz1c hown1 hgrow2)
                have hz2c := hb2.size
                have hrow2 := ownsRow_below hrowc hb2
                have hc2 : ∀ j u, ((l.drop m).flatMap Ru.cells)[j]? = some u → w2.cell? ((⟨g, m * 4, none⟩ : Addr).add j) = some u := row_drop hrow2 (by omega)
                obtain ⟨a2, cp2, rfl⟩ := ownsRow_len hown2
                clear q0 q1 q2 q3 hgrow2 hown1
                go_wp2_with (at_builtin; refine wpList_append_own _ rfl _ _ 23 rfl Wc.heap.size 31 i0 _ 4 56 Tryz.underlying23 hi hz0 hz1 hz2 rfl (by decide) _ _ _ rfl hown2 ⟨g, m * 4, none⟩ (l.length - m) (capo - m) ((l.drop m).flatMap Ru.cells) rfl hn2 hc2 cells_one' (by unfold maxLen; omega) (by omega) hz2c ?_)
                intro v3 w3 hown3 hgrow3 _
                have hb3 : Below Wc.heap.size Wc w3 := hb2.grown hgrow3 hz2c (fun k hk => (hown2.lt k hk).1)
                have HO := hid hown3
                obtain ⟨a3, cp3, rfl⟩ := ownsRow_len hown3
                clear hown3 hown2 hgrow3 hc2 hn1 hn2
                go_wp2
                go_roundw
                case rel =>
                  refine ⟨k + 1, by omega, by go_num, ?_, below_one hBc hb3⟩
                  rw [HIN.out]
                  have h3 := Go.Joins.ownsRow_le HO.out hBc.size
                  have hl3 : (l.take m ++ r :: l.drop m).length = m + 1 + (l.length - m) := by rw [List.length_append, List.length_take, List.length_cons, List.length_drop]; omega
                  rw [hl3]
                  have hf3 : (l.take m ++ r :: l.drop m).flatMap Ru.cells = (l.take m).flatMap Ru.cells ++ .bool r.deny :: .string r.who :: .string r.method :: .string r.path :: (l.drop m).flatMap Ru.cells := by rw [List.flatMap_append, List.flatMap_cons]; rfl
                  rw [hf3]
                  exact h3
                case measure => simp [intOf]; omega
              · have HIN := hid (show plTo rs (k + 1) = l by rw [HSU.out]; exact HKE.out ht hsm)
                rw [hsm] at hse
                have hM1 : True := trivial
                go_wp2_with fail
                go_region_held3 (fun w' => w'.cell? ⟨g, m * 4, none⟩ = some (.bool x.deny) ∧ w'.cell? ⟨g, m * 4 + 1, none⟩ = some (.string x.who) ∧ w'.cell? ⟨g, m * 4 + 2, none⟩ = some (.string x.method) ∧ w'.cell? ⟨g, m * 4 + 3, none⟩ = some (.string x.path) ∧ w'.cell? ⟨bx, 0, none⟩ = some (.bool r.deny) ∧ w'.cell? ⟨bx, 1, none⟩ = some (.string r.who) ∧ w'.cell? ⟨bx, 2, none⟩ = some (.string r.method) ∧ w'.cell? ⟨bx, 3, none⟩ = some (.string r.path)) (go_keep) (first | (go_at_call 82; clear hM1; refine (l2Text_any x _ hX).mono ?_; rintro e v1 ⟨rfl, hB1⟩; have x0_1 := (hB1.cell (p := ⟨g, m * 4, none⟩) (by exact hgq)).trans (by exact x0); have x1_1 := (hB1.cell (p := ⟨g, m * 4 + 1, none⟩) (by exact hgq)).trans (by exact x1); have x2_1 := (hB1.cell (p := ⟨g, m * 4 + 2, none⟩) (by exact hgq)).trans (by exact x2); have x3_1 := (hB1.cell (p := ⟨g, m * 4 + 3, none⟩) (by exact hgq)).trans (by exact x3); have b0_1 := (hB1.cell (p := ⟨bx, 0, none⟩) (by exact hzq)).trans (by exact b0); have b1_1 := (hB1.cell (p := ⟨bx, 1, none⟩) (by exact hzq)).trans (by exact b1); have b2_1 := (hB1.cell (p := ⟨bx, 2, none⟩) (by exact hzq)).trans (by exact b2); have b3_1 := (hB1.cell (p := ⟨bx, 3, none⟩) (by exact hzq)).trans (by exact b3); have hgq1 := Nat.lt_of_lt_of_le hgq hB1.size; have hzq1 := Nat.lt_of_lt_of_le hzq hB1.size) | (go_at_call 82; refine (l2Text_any r _ hzr).mono ?_; rintro e v2 ⟨rfl, hB2⟩; have x0_2 := (hB2.cell (p := ⟨g, m * 4, none⟩) (by exact hgq1)).trans (by exact x0_1); have x1_2 := (hB2.cell (p := ⟨g, m * 4 + 1, none⟩) (by exact hgq1)).trans (by exact x1_1); have x2_2 := (hB2.cell (p := ⟨g, m * 4 + 2, none⟩) (by exact hgq1)).trans (by exact x2_1); have x3_2 := (hB2.cell (p := ⟨g, m * 4 + 3, none⟩) (by exact hgq1)).trans (by exact x3_1); have b0_2 := (hB2.cell (p := ⟨bx, 0, none⟩) (by exact hzq1)).trans (by exact b0_1); have b1_2 := (hB2.cell (p := ⟨bx, 1, none⟩) (by exact hzq1)).trans (by exact b1_1); have b2_2 := (hB2.cell (p := ⟨bx, 2, none⟩) (by exact hzq1)).trans (by exact b2_1); have b3_2 := (hB2.cell (p := ⟨bx, 3, none⟩) (by exact hzq1)).trans (by exact b3_1); have hgq2 := Nat.lt_of_lt_of_le hgq1 hB2.size; have hzq2 := Nat.lt_of_lt_of_le hzq1 hB2.size))
                have hBq2 := below_one (below_one hBq (below_drew1 hB1)) hB2
                clear hB1 hB2 x0_1 b0_1 x0 b0 x1_1 b1_1 x1 b1 x2_1 b2_1 x2 b2 x3_1 b3_1 x3 b3
                go_wp2_with fail
                have hrow2 := ownsRow_below hrowW hBq2
                go_quiet (fail)
                go_wp2
                go_roundw
                case rel => exact ⟨k + 1, by omega, by go_num, by rw [HIN.out]; exact row_draws hrow2 _, below_drewN (below_one hBW hBq2) _⟩
                case measure => simp [intOf]; omega
            · have et : Op.bytesLess x.text.toList r.text.toList = true := by rw [toList_data, toList_data]; exact ht
              have HS1 := hid (HST.out ht)
              have hM1 : True := trivial
              go_wp2_with fail
              go_region_held3 (fun w' => w'.cell? ⟨g, m * 4, none⟩ = some (.bool x.deny) ∧ w'.cell? ⟨g, m * 4 + 1, none⟩ = some (.string x.who) ∧ w'.cell? ⟨g, m * 4 + 2, none⟩ = some (.string x.method) ∧ w'.cell? ⟨g, m * 4 + 3, none⟩ = some (.string x.path) ∧ w'.cell? ⟨bx, 0, none⟩ = some (.bool r.deny) ∧ w'.cell? ⟨bx, 1, none⟩ = some (.string r.who) ∧ w'.cell? ⟨bx, 2, none⟩ = some (.string r.method) ∧ w'.cell? ⟨bx, 3, none⟩ = some (.string r.path)) (go_keep) (first | (go_at_call 82; clear hM1; refine (l2Text_any x _ hX).mono ?_; rintro e v1 ⟨rfl, hB1⟩; have x0_1 := (hB1.cell (p := ⟨g, m * 4, none⟩) (by exact hgq)).trans (by exact x0); have x1_1 := (hB1.cell (p := ⟨g, m * 4 + 1, none⟩) (by exact hgq)).trans (by exact x1); have x2_1 := (hB1.cell (p := ⟨g, m * 4 + 2, none⟩) (by exact hgq)).trans (by exact x2); have x3_1 := (hB1.cell (p := ⟨g, m * 4 + 3, none⟩) (by exact hgq)).trans (by exact x3); have b0_1 := (hB1.cell (p := ⟨bx, 0, none⟩) (by exact hzq)).trans (by exact b0); have b1_1 := (hB1.cell (p := ⟨bx, 1, none⟩) (by exact hzq)).trans (by exact b1); have b2_1 := (hB1.cell (p := ⟨bx, 2, none⟩) (by exact hzq)).trans (by exact b2); have b3_1 := (hB1.cell (p := ⟨bx, 3, none⟩) (by exact hzq)).trans (by exact b3); have hgq1 := Nat.lt_of_lt_of_le hgq hB1.size; have hzq1 := Nat.lt_of_lt_of_le hzq hB1.size) | (go_at_call 82; refine (l2Text_any r _ hzr).mono ?_; rintro e v2 ⟨rfl, hB2⟩; have x0_2 := (hB2.cell (p := ⟨g, m * 4, none⟩) (by exact hgq1)).trans (by exact x0_1); have x1_2 := (hB2.cell (p := ⟨g, m * 4 + 1, none⟩) (by exact hgq1)).trans (by exact x1_1); have x2_2 := (hB2.cell (p := ⟨g, m * 4 + 2, none⟩) (by exact hgq1)).trans (by exact x2_1); have x3_2 := (hB2.cell (p := ⟨g, m * 4 + 3, none⟩) (by exact hgq1)).trans (by exact x3_1); have b0_2 := (hB2.cell (p := ⟨bx, 0, none⟩) (by exact hzq1)).trans (by exact b0_1); have b1_2 := (hB2.cell (p := ⟨bx, 1, none⟩) (by exact hzq1)).trans (by exact b1_1); have b2_2 := (hB2.cell (p := ⟨bx, 2, none⟩) (by exact hzq1)).trans (by exact b2_1); have b3_2 := (hB2.cell (p := ⟨bx, 3, none⟩) (by exact hzq1)).trans (by exact b3_1); have hgq2 := Nat.lt_of_lt_of_le hgq1 hB2.size; have hzq2 := Nat.lt_of_lt_of_le hzq1 hB2.size))
              have hBq2 := below_one (below_one hBq (below_drew1 hB1)) hB2
              clear hB1 hB2 x0_1 b0_1 x0 b0 x1_1 b1_1 x1 b1 x2_1 b2_1 x2 b2 x3_1 b3_1 x3 b3
              go_wp2
              go_roundw
              case rel => first | exact ⟨m + 1, by omega, by go_num, HS1.out, hBq2⟩ | ((repeat apply Exists.intro); exact ⟨⟨m + 1, by omega, by go_num, HS1.out, hBq2⟩, rfl⟩)
              case measure => simp [intOf]; omega
          · have HME := hid (show m = l.length by omega)
            have dm : decide ((m : Int) < (l.length : Int)) = false := by simp; omega
            have HIN := hid (show plTo rs (k + 1) = l.take m ++ r :: l.drop m by
              rw [HSU.out, HME.out]
              exact ins_end (fun j hj _ => HL.out j hj (by have := HME.out; omega)))
            go_wp2_with fail
            go_quiet (fail)
            go_wp2_with fail
            replace hBq := below_drewN hBq nq
            replace b0 : (wr.drewN nq).cell? _ = _ := b0
            replace b1 : (wr.drewN nq).cell? _ = _ := b1
            replace b2 : (wr.drewN nq).cell? _ = _ := b2
            replace b3 : (wr.drewN nq).cell? _ = _ := b3
            replace hzq : bx < (wr.drewN nq).heap.size := hzq
            clear hrowq
            generalize wr.drewN nq = Wb at *
            go_quiet (fail)
            replace hBq := below_drewN hBq nq
            replace b0 : (Wb.drewN nq).cell? _ = _ := b0
            replace b1 : (Wb.drewN nq).cell? _ = _ := b1
            replace b2 : (Wb.drewN nq).cell? _ = _ := b2
            replace b3 : (Wb.drewN nq).cell? _ = _ := b3
            replace hzq : bx < (Wb.drewN nq).heap.size := hzq
            generalize Wb.drewN nq = Wc at *
            have hrowc := ownsRow_below hrowW hBq
            have hBc := below_one hBW hBq
            have hzc := hzq
            clear hBq hzq
            by_cases hcm : capo = m
            ·
              have hn1 : ((l.take m).flatMap Ru.cells).length = m * 4 := by rw [flat_len, List.length_take]; omega
              have hn2 : ((l.drop m).flatMap Ru.cells).length = (l.length - m) * 4 := by rw [flat_len, List.length_drop]
              have hc1 : ∀ j u, ((l.take m).flatMap Ru.cells)[j]? = some u → Wc.cell? ((⟨g, 0, none⟩ : Addr).add j) = some u := row_take hrowc (by omega)
              go_wp2_with (at_builtin; refine wpList_append_own _ rfl _ _ 23 rfl Wc.heap.size 31 i0 _ 4 56 Tryz.underlying23 hi hz0 hz1 hz2 rfl (by decide) _ _ _ rfl (World.ownsRow_nil Wc Wc.heap.size 31 4) ⟨g, 0, none⟩ m _ ((l.take m).flatMap Ru.cells) rfl hn1 hc1 cells_one' (by unfold maxLen; omega) (by omega) (Nat.le_refl _) ?_)
              intro v1 w1 hown1 hgrow1 _
              have hb1 : Below Wc.heap.size Wc w1 := (Below.refl _ Wc).grown hgrow1 (Nat.le_refl _) (fun k hk => by cases hk)
              have q0 := (hb1.cell (p := ⟨bx, 0, none⟩) hzc).trans b0
              have q1 := (hb1.cell (p := ⟨bx, 1, none⟩) hzc).trans b1
              have q2 := (hb1.cell (p := ⟨bx, 2, none⟩) hzc).trans b2
              have q3 := (hb1.cell (p := ⟨bx, 3, none⟩) hzc).trans b3
              have hz1c := hb1.size
              obtain ⟨a1, cp1, rfl⟩ := ownsRow_len hown1
              clear hc1 b0 b1 b2 b3 hgrow1
              go_wp2_with (at_builtin; refine wpList_append_own _ rfl _ _ 23 rfl Wc.heap.size 31 i0 _ 4 56 Tryz.underlying23 hi hz0 hz1 hz2 rfl (by decide) _ _ _ rfl (hown1.alloc _) ⟨w1.heap.size, 0, none⟩ 1 1 r.cells rfl rfl (cell_four_new _ r) (by intro u hu; simp at hu; rcases hu with rfl | rfl | rfl | rfl <;> rfl) (by unfold maxLen; omega) (by omega) (by simp; omega) ?_)
              intro v2 w2 hown2 hgrow2 _
              have hb2 : Below Wc.heap.size Wc w2 := hb1.trans (below_appended hz1c hown1 hgrow2)
              have hz2c := hb2.size
              have hrow2 := ownsRow_below hrowc hb2
              obtain ⟨a2, cp2, rfl⟩ := ownsRow_len hown2
              clear q0 q1 q2 q3 hgrow2 hown1
              go_wp2_with (at_builtin; refine wpList_append_own _ rfl _ _ 23 rfl Wc.heap.size 31 i0 _ 4 56 Tryz.underlying23 hi hz0 hz1 hz2 rfl (by decide) _ _ _ rfl hown2 _ (l.length - m) _ [] rfl (by have := HME.out; simp; omega) (fun j u h => by cases h) (fun u h => by cases h) (by unfold maxLen; omega) (by omega) hz2c ?_)
              all_goals intro v3 w3 hown3 hgrow3 _
              all_goals have hb3 : Below Wc.heap.size Wc w3 := hb2.grown hgrow3 hz2c (fun k hk => (hown2.lt k hk).1)
              all_goals have HO := hid hown3
              all_goals obtain ⟨a3, cp3, rfl⟩ := ownsRow_len hown3
              all_goals clear hown3 hown2 hgrow3 hn1 hn2
              all_goals go_wp2
              all_goals go_roundw
              all_goals first
                | (simp [intOf]; omega)
                | (refine ⟨k + 1, by omega, by go_num, ?_, below_one hBc hb3⟩
                   rw [HIN.out]
                   have h3 := Go.Joins.ownsRow_le HO.out hBc.size
                   have hl3 : (l.take m ++ r :: l.drop m).length = m + 1 + (l.length - m) := by rw [List.length_append, List.length_take, List.length_cons, List.length_drop]; omega
                   rw [hl3]
                   have hd3 : l.drop m = [] := List.drop_eq_nil_of_le (by have := HME.out; omega)
                   have hf3 : (l.take m ++ r :: l.drop m).flatMap Ru.cells = (l.take m).flatMap Ru.cells ++ r.cells := by rw [hd3, List.flatMap_append, List.flatMap_cons]; rfl
                   rw [hf3]
                   first | exact h3 | simpa using h3)
            ·
              have hn1 : ((l.take m).flatMap Ru.cells).length = m * 4 := by rw [flat_len, List.length_take]; omega
              have hn2 : ((l.drop m).flatMap Ru.cells).length = (l.length - m) * 4 := by rw [flat_len, List.length_drop]
              have hc1 : ∀ j u, ((l.take m).flatMap Ru.cells)[j]? = some u → Wc.cell? ((⟨g, 0, none⟩ : Addr).add j) = some u := row_take hrowc (by omega)
              go_wp2_with (at_builtin; refine wpList_append_own _ rfl _ _ 23 rfl Wc.heap.size 31 i0 _ 4 56 Tryz.underlying23 hi hz0 hz1 hz2 rfl (by decide) _ _ _ rfl (World.ownsRow_nil Wc Wc.heap.size 31 4) ⟨g, 0, none⟩ m _ ((l.take m).flatMap Ru.cells) rfl hn1 hc1 cells_one' (by unfold maxLen; omega) (by omega) (Nat.le_refl _) ?_)
              intro v1 w1 hown1 hgrow1 _
              have hb1 : Below Wc.heap.size Wc w1 := (Below.refl _ Wc).grown hgrow1 (Nat.le_refl _) (fun k hk => by cases hk)
              have q0 := (hb1.cell (p := ⟨bx, 0, none⟩) hzc).trans b0
              have q1 := (hb1.cell (p := ⟨bx, 1, none⟩) hzc).trans b1
              have q2 := (hb1.cell (p := ⟨bx, 2, none⟩) hzc).trans b2
              have q3 := (hb1.cell (p := ⟨bx, 3, none⟩) hzc).trans b3
              have hz1c := hb1.size
              obtain ⟨a1, cp1, rfl⟩ := ownsRow_len hown1
              clear hc1 b0 b1 b2 b3 hgrow1
              go_wp2_with (at_builtin; refine wpList_append_own _ rfl _ _ 23 rfl Wc.heap.size 31 i0 _ 4 56 Tryz.underlying23 hi hz0 hz1 hz2 rfl (by decide) _ _ _ rfl (hown1.alloc _) ⟨w1.heap.size, 0, none⟩ 1 1 r.cells rfl rfl (cell_four_new _ r) (by intro u hu; simp at hu; rcases hu with rfl | rfl | rfl | rfl <;> rfl) (by unfold maxLen; omega) (by omega) (by simp; omega) ?_)
              intro v2 w2 hown2 hgrow2 _
              have hb2 : Below Wc.heap.size Wc w2 := hb1.trans (below_appended hz1c hown1 hgrow2)
              have hz2c := hb2.size
              have hrow2 := ownsRow_below hrowc hb2
              obtain ⟨a2, cp2, rfl⟩ := ownsRow_len hown2
              clear q0 q1 q2 q3 hgrow2 hown1
              go_wp2_with (at_builtin; refine wpList_append_own _ rfl _ _ 23 rfl Wc.heap.size 31 i0 _ 4 56 Tryz.underlying23 hi hz0 hz1 hz2 rfl (by decide) _ _ _ rfl hown2 _ (l.length - m) _ [] rfl (by have := HME.out; simp; omega) (fun j u h => by cases h) (fun u h => by cases h) (by unfold maxLen; omega) (by omega) hz2c ?_)
              all_goals intro v3 w3 hown3 hgrow3 _
              all_goals have hb3 : Below Wc.heap.size Wc w3 := hb2.grown hgrow3 hz2c (fun k hk => (hown2.lt k hk).1)
              all_goals have HO := hid hown3
              all_goals obtain ⟨a3, cp3, rfl⟩ := ownsRow_len hown3
              all_goals clear hown3 hown2 hgrow3 hn1 hn2
              all_goals go_wp2
              all_goals go_roundw
              all_goals first
                | (simp [intOf]; omega)
                | (refine ⟨k + 1, by omega, by go_num, ?_, below_one hBc hb3⟩
                   rw [HIN.out]
                   have h3 := Go.Joins.ownsRow_le HO.out hBc.size
                   have hl3 : (l.take m ++ r :: l.drop m).length = m + 1 + (l.length - m) := by rw [List.length_append, List.length_take, List.length_cons, List.length_drop]; omega
                   rw [hl3]
                   have hd3 : l.drop m = [] := List.drop_eq_nil_of_le (by have := HME.out; omega)
                   have hf3 : (l.take m ++ r :: l.drop m).flatMap Ru.cells = (l.take m).flatMap Ru.cells ++ r.cells := by rw [hd3, List.flatMap_append, List.flatMap_cons]; rfl
                   rw [hf3]
                   first | exact h3 | simpa using h3)
    · obtain rfl : k = rs.length := by omega
      go_wp2
      go_ret
      exact ⟨_, rfl, hrow, hB⟩

theorem l2Plain_any (v : Value) (rs : List Ru) (w : World) (hm : rs.length ≤ 30) (hf : ∀ r ∈ rs, r.size ≤ 1048576) (hr : RuS w v rs) :
    Calls Tryz.prog 57 #[v] w fun e w' => ∃ v', e = .returned v' ∧ w'.ownsRow w.heap.size 31 4 v' (plTo rs rs.length).length ((plTo rs rs.length).flatMap Ru.cells) ∧ Below w.heap.size w w' :=
  l2PlainW_any v rs w (by omega) hf hr

end Go.Proofs.YtjnajdilllkpcaaGreat

namespace Go.Proofs.YtjnajdilllkpcaaGreat
open Go.RowKit Go.Shelf

theorem at_drop {ops : Array Oper} {i : Nat} {o : Oper} (h : (ops.toList.drop i).head? = some o) : ops[i]? = some o := by
  rw [List.head?_drop] at h
  simpa using h
theorem takeW {P : Program} {ops : Array Oper} {Q : Exit → Act → World → Prop} {md : Region.Mode} {S : World → Prop} (i : Nat) {oi : Oper} {v : Value} {fuel : Nat} {listed : Array Bool} {a : Act} {w : World} (hi : (ops.toList.drop i).head? = some oi)
    (hs : Region.noSelect ops = true) (hf : Region.free md ops listed i = true) (hr : (Region.ready md ops listed).contains i = true)
    (hQ : ∀ c a w, Q (.panic c) (a.put oi.dst v) w → Q (.panic c) a w) (hw : Region.wanted oi (yielded ops a.tmps) = true) (hS : S w) (hy : ∀ w, S w → (execOp a.eval oi).run P w = .ok (.value v) w)
    (h : wpAnyH P md ops Q S fuel (listed.setIfInBounds i true) (a.put oi.dst v) w) : wpAnyH P md ops Q S (fuel + 1) listed a w :=
  wpAnyH_take (at_drop hi) hs hf hr hQ (Or.inl ⟨hw, hy⟩) hS h
theorem takeX {P : Program} {ops : Array Oper} {Q : Exit → Act → World → Prop} {md : Region.Mode} {S : World → Prop} (i : Nat) {oi : Oper} {fuel : Nat} {listed : Array Bool} {a : Act} {w : World} (hi : (ops.toList.drop i).head? = some oi)
    (hs : Region.noSelect ops = true) (hf : Region.free md ops listed i = true) (hr : (Region.ready md ops listed).contains i = true)
    (hQ : ∀ c a w, Q (.panic c) (a.put oi.dst undef) w → Q (.panic c) a w) (hw : Region.wanted oi (yielded ops a.tmps) = false) (hS : S w)
    (h : wpAnyH P md ops Q S fuel (listed.setIfInBounds i true) (a.put oi.dst undef) w) : wpAnyH P md ops Q S (fuel + 1) listed a w :=
  wpAnyH_take (at_drop hi) hs hf hr hQ (Or.inr ⟨hw, rfl⟩) hS h
theorem takeC {P : Program} {ops : Array Oper} {Q : Exit → Act → World → Prop} {md : Region.Mode} {S : World → Prop} (i : Nat) {oi : Oper} {fuel : Nat} {listed : Array Bool} {a : Act} {w : World} (hr : Region.ready md ops listed = [i]) (hi : (ops.toList.drop i).head? = some oi)
    (h : ∀ K' : Act → World → Prop, Shut (∀ a w, S w → (S w → wpAnyH P md ops Q S fuel (listed.setIfInBounds i true) a w) → K' a w) → if Region.wanted oi (yielded ops a.tmps) = true then Oper.wp P oi a w K' Q else K' (a.put oi.dst undef) w) : wpAnyH P md ops Q S (fuel + 1) listed a w :=
  wpAnyH_ready hr (by simp) (AllReadyH.cons (at_drop hi) h AllReadyH.nil)
/-- Two operations, either of which may come first. -/
theorem takeC2 {P : Program} {ops : Array Oper} {Q : Exit → Act → World → Prop} {md : Region.Mode} {S : World → Prop} (i j : Nat) {oi oj : Oper} {fuel : Nat} {listed : Array Bool} {a : Act} {w : World} (hr : Region.ready md ops listed = [i, j]) (hi : (ops.toList.drop i).head? = some oi) (hj : (ops.toList.drop j).head? = some oj)
    (h : ∀ K' : Act → World → Prop, Shut (∀ a w, S w → (S w → wpAnyH P md ops Q S fuel (listed.setIfInBounds i true) a w) → K' a w) → if Region.wanted oi (yielded ops a.tmps) = true then Oper.wp P oi a w K' Q else K' (a.put oi.dst undef) w)
    (h' : ∀ K' : Act → World → Prop, Shut (∀ a w, S w → (S w → wpAnyH P md ops Q S fuel (listed.setIfInBounds j true) a w) → K' a w) → if Region.wanted oj (yielded ops a.tmps) = true then Oper.wp P oj a w K' Q else K' (a.put oj.dst undef) w) : wpAnyH P md ops Q S (fuel + 1) listed a w :=
  wpAnyH_ready hr (by simp) (AllReadyH.cons (at_drop hi) h (AllReadyH.cons (at_drop hj) h' AllReadyH.nil))

def inB (lo hi n : Int) : Bool := decide (lo ≤ n ∧ n ≤ hi)

theorem l1In_any (n lo hi : Int) (w : World) :
    Calls Tryz.prog 38 #[.int .i64 n, .int .i64 lo, .int .i64 hi] w fun e w' => e = .returned (.bool (inB lo hi n)) ∧ w' = w := by
  by_cases c1 : lo ≤ n
  · by_cases c2 : n ≤ hi
    · have HR := hid (show inB lo hi n = true from decide_eq_true ⟨c1, c2⟩)
      go_enter Tryz.func38, Tryz.ntmps38
      go_wp2
      go_ret
      exact ⟨ret_bool HR.out.symm, rfl⟩
    · have HR := hid (show inB lo hi n = false from decide_eq_false (fun h => c2 h.2))
      go_enter Tryz.func38, Tryz.ntmps38
      go_wp2
      go_ret
      exact ⟨ret_bool HR.out.symm, rfl⟩
  · have HR := hid (show inB lo hi n = false from decide_eq_false (fun h => c1 h.1))
    go_enter Tryz.func38, Tryz.ntmps38
    go_wp2
    go_ret
    exact ⟨ret_bool HR.out.symm, rfl⟩

end Go.Proofs.YtjnajdilllkpcaaGreat

namespace Go.Proofs.YtjnajdilllkpcaaGreat
open Go.RowKit Go.Shelf

set_option maxHeartbeats 2000000 in
theorem l5SameRules_any (v v' : Value) (rs ss : List Ru) (w : World) (_hm : rs.length ≤ 1048577) (hm' : ss.length ≤ 1048577) (hr : RuS w v rs) (hr' : RuS w v' ss) :
    Calls Tryz.prog 56 #[v, v'] w fun e w' => e = .returned (.bool (sameS rs ss)) ∧ Below w.heap.size w w' := by
  obtain ⟨a, cap, rfl⟩ := hr.len
  obtain ⟨a', cap', rfl⟩ := hr'.len
  by_cases hl : rs.length = ss.length
  · have e0 : ((rs.length : Int) != (ss.length : Int)) = false := by simp; omega
    have hl1 : rs.length ≤ ss.length := by omega
    have HL := hid hl
    clear hl
    go_enter Tryz.func56, Tryz.ntmps56
    go_wp2
    go_loopw [13] (fun i wr => ∃ k : Nat, k ≤ rs.length ∧ i = .int .i64 k ∧ sameTo rs ss k = true ∧ Below w.heap.size w wr) (fun i _ => rs.length - (intOf i).toNat)
    case atStart => exact ⟨0, Nat.zero_le _, rfl, sameTo_zero _ _, Below.refl _ _⟩
    case round =>
      obtain ⟨k, hk, rfl, hs, hB⟩ := hrel
      have HS := hid hs
      clear hs
      by_cases hlt : k < rs.length
      · have hlt' : k < ss.length := by omega
        obtain ⟨b, off, rfl, hb, hcap, q0, q1, q2, q3⟩ := (hr.below hB).at hlt
        obtain ⟨b', off', rfl, hb', hcap', p0, p1, p2, p3⟩ := (hr'.below hB).at hlt'
        have HT := hid (sameTo_succ hlt hlt')
        generalize rs[k] = r at *
        generalize ss[k] = s at *
        have hne := neq_ru r s
        cases hq : r.same s
        · have HR := hid (show sameS rs ss = false from same_bad (by rw [HT.out, hq, Bool.and_false]))
          go_wp2_with fail
          go_quiet (fail)
          go_wp2
          go_ret
          exact ⟨ret_bool HR.out.symm, below_drewn hB _⟩
        · have HR := hid (show sameTo rs ss (k + 1) = true by rw [HT.out, HS.out, hq]; rfl)
          go_wp2_with fail
          go_quiet (fail)
          go_wp2
          go_roundw
          case rel => exact ⟨k + 1, by omega, by go_num, HR.out, below_drewn hB _⟩
          case measure => simp [intOf]; omega
      · obtain rfl : k = rs.length := by omega
        have HR := hid (show sameS rs ss = true by rw [← same_end HL.out]; exact HS.out)
        go_wp2
        go_ret
        exact ⟨ret_bool HR.out.symm, hB⟩
  · have e0 : ((rs.length : Int) != (ss.length : Int)) = true := by simp; omega
    have HR := hid (show sameS rs ss = false by unfold sameS; rw [decide_eq_false hl]; rfl)
    clear hl
    go_enter Tryz.func56, Tryz.ntmps56
    go_wp2
    go_ret
    exact ⟨ret_bool HR.out.symm, Below.refl _ _⟩

/-- Numbers that rise, at most two hundred serials. -/
def riB (zs : List Int) : Bool := fewB zs && upN zs
theorem riB_no1 {zs : List Int} (h : okN 100001 zs = false) : riB zs = false := by unfold riB; rw [fewB_no2 h]; rfl
theorem riB_no2 {zs : List Int} (h : upN zs = false) : riB zs = false := by unfold riB; rw [h]; simp
theorem riB_len {zs : List Int} (h1 : okN 100001 zs = true) (h2 : upN zs = true) : riB zs = decide (zs.length ≤ 200) := by
  unfold riB fewB
  rw [h1, h2]
  simp

set_option maxHeartbeats 4000000 in
theorem l5Rising_any (v : Value) (zs : List Int) (w : World) (hm : zs.length ≤ 1048577) (hr : VS w v (nums zs)) :
    Calls Tryz.prog 58 #[v] w fun e w' => e = .returned (.bool (riB zs)) ∧ w' = w := by
  obtain ⟨a, cap, rfl⟩ := hr.numLen
  go_enter Tryz.func58, Tryz.ntmps58
  go_wp2
  go_loop [7] (fun i => ∃ n : Nat, n ≤ zs.length ∧ i = .int .i64 n ∧ ∀ j (hj : j < zs.length), j < n → (1 ≤ zs[j] ∧ zs[j] < 100001) ∧ upI zs j = true) (fun i => zs.length - (intOf i).toNat)
  case atStart => exact ⟨0, Nat.zero_le _, rfl, fun _ _ h => absurd h (Nat.not_lt_zero _)⟩
  case round =>
    obtain ⟨n, hn, rfl, ht⟩ := hrel
    have HT := hid ht
    clear ht
    by_cases hlt : n < zs.length
    · obtain ⟨b, off, rfl, hb, hcap, q0⟩ := hr.num hlt
      have HN := hid (fun h => riB_no1 (okN_no (nx := 100001) (zs := zs) hlt h))
      have HU := hid (fun h => riB_no2 (upN_no (zs := zs) hlt h))
      have HS := hid (show (1 ≤ zs[n] ∧ zs[n] < 100001) → upI zs n = true → ∀ j (hj : j < zs.length), j < n + 1 → (1 ≤ zs[j] ∧ zs[j] < 100001) ∧ upI zs j = true from fun h hu j hj hjn => by
        by_cases e : j = n
        · subst e; exact ⟨h, hu⟩
        · exact HT.out j hj (by omega))
      rcases Nat.eq_zero_or_pos n with rfl | hpos
      · have HZ := hid (show upI zs 0 = true from rfl)
        rw [Nat.add_zero] at q0
        generalize zs[0] = x at *
        by_cases hx : 1 ≤ x ∧ x < 100001
        · have hin : inB 1 100000 x = true := decide_eq_true (by omega)
          have HR := hid (HS.out hx HZ.out)
          clear hx
          go_wp2_with (go_at_call 38; refine (l1In_any x 1 100000 _).mono ?_; rintro e w1 ⟨rfl, rfl⟩; rw [hin])
          exact ⟨⟨1, by omega, by go_num, HR.out⟩, by simp [intOf]; omega⟩
        · have hin : inB 1 100000 x = false := decide_eq_false (by omega)
          have HR := hid (HN.out hx)
          clear hx
          go_wp2_with (go_at_call 38; refine (l1In_any x 1 100000 _).mono ?_; rintro e w1 ⟨rfl, rfl⟩; rw [hin])
          go_ret
          exact ⟨ret_bool HR.out.symm, rfl⟩
      · obtain ⟨m, hm1⟩ : ∃ m, n = m + 1 := ⟨n - 1, by omega⟩
        obtain ⟨b', off', hbo, _, _, p0⟩ := hr.num (i := m) (by omega)
        cases hbo
        have HI := hid (show upI zs n = decide ((zs[m]'(by omega)) < zs[n]) by subst hm1; exact upI_succ hlt)
        have hw1 : IntKind.i64.wrap ((n : Int) - 1) = (m : Int) := by rw [IntKind.wrap_i64]; omega
        have hl1 : (0 : Int) < (n : Int) := by omega
        have hl2 : (m : Int) < (zs.length : Int) := by omega
        generalize zs[n] = x at *
        generalize zs[m] = y at *
        clear hm1 hpos
        by_cases hx : 1 ≤ x ∧ x < 100001
        · have hin : inB 1 100000 x = true := decide_eq_true (by omega)
          by_cases hyx : y < x
          · have HR := hid (HS.out hx (by rw [HI.out]; exact decide_eq_true hyx))
            have hd : decide (x ≤ y) = false := decide_eq_false (by omega)
            clear hx
            go_wp2_with (go_at_call 38; refine (l1In_any x 1 100000 _).mono ?_; rintro e w1 ⟨rfl, rfl⟩; rw [hin])
            exact ⟨⟨n + 1, by omega, by go_num, HR.out⟩, by simp [intOf]; omega⟩
          · have HR := hid (HU.out (by rw [HI.out]; exact decide_eq_false hyx))
            have hd : decide (x ≤ y) = true := decide_eq_true (by omega)
            clear hx
            go_wp2_with (go_at_call 38; refine (l1In_any x 1 100000 _).mono ?_; rintro e w1 ⟨rfl, rfl⟩; rw [hin])
            go_ret
            exact ⟨ret_bool HR.out.symm, rfl⟩
        · have hin : inB 1 100000 x = false := decide_eq_false (by omega)
          have HR := hid (HN.out hx)
          clear hx
          go_wp2_with (go_at_call 38; refine (l1In_any x 1 100000 _).mono ?_; rintro e w1 ⟨rfl, rfl⟩; rw [hin])
          go_ret
          exact ⟨ret_bool HR.out.symm, rfl⟩
    · obtain rfl : n = zs.length := by omega
      have HR := hid (riB_len (okN_yes fun i hi => (HT.out i hi hi).1) (upN_yes fun i hi => (HT.out i hi hi).2))
      go_wp2
      go_ret
      exact ⟨ret_bool (by rw [HR.out]; exact decide_eq_decide.2 (by omega)), rfl⟩

set_option maxHeartbeats 8000000 in
theorem specGoodSnapshot_any (v : Value) (s : Sn) (w : World) (hs : s.short) (h : SnA w v s) :
    Calls Tryz.prog 37 #[v] w fun e w' => e = .returned (.bool (snB s)) ∧ Below w.heap.size w w' := by
  obtain ⟨vp, vr, rfl, h1, h2⟩ := h
  obtain ⟨l1, l2, hz⟩ := hs
  obtain ⟨ap, cp, rfl⟩ := h1.len
  obtain ⟨ar, cr, rfl⟩ := h2.numLen
  have hB0 : Below w.heap.size w (w.alloc (.cells #[.int .i64 s.num, .slice ap s.pol.length cp, .slice ar s.rv.length cr] 26)) := (Below.refl _ w).alloc (Nat.le_refl _) _
  have F := Three.new w (.int .i64 s.num) (.slice ap s.pol.length cp) (.slice ar s.rv.length cr) 26
  have hlt0 := F.lt
  have h1d := (h1.below hB0).below (Below.refl _ _).drew
  have h2d := (h2.below hB0).below (Below.refl _ _).drew
  obtain ⟨a0, a1, a2⟩ := F.c
  cases hin : inB 1 100000 s.num
  · have HR := hid (snB_no1 (s := s) hin)
    go_enter Tryz.func37, Tryz.ntmps37
    go_wp2_with fail
    generalize w.alloc (.cells #[.int .i64 s.num, .slice ap s.pol.length cp, .slice ar s.rv.length cr] 26) = W0 at *
    refine wp_region_held_drew (S := fun w' => w'.cell? ⟨w.heap.size, 0, none⟩ = some (.int .i64 s.num) ∧ w'.cell? ⟨w.heap.size, 1, none⟩ = some (.slice ap s.pol.length cp) ∧ w'.cell? ⟨w.heap.size, 2, none⟩ = some (.slice ar s.rv.length cr)) (by kernel_rfl) ?_ (fun hHeld => ?_)
    · go_keep
    refine takeW 0 (v := ?v1) rfl (by kernel_rfl) (by kernel_rfl) (by kernel_rfl) (fun _ _ _ h => h) (by rfl) (by assumption) ?hy1 ?rest1
    case hy1 => intro w' hSw; (try dsimp only at hSw); go_simp; try with_reducible rfl
    try simp only [Act.put, List.setIfInBounds_toArray, List.set_cons_zero, List.set_cons_succ]
    refine takeW 1 (v := ?v2) rfl (by kernel_rfl) (by kernel_rfl) (by kernel_rfl) (fun _ _ _ h => h) (by rfl) (by assumption) ?hy2 ?rest2
    case hy2 => intro w' hSw; (try dsimp only at hSw); go_simp; try with_reducible rfl
    try simp only [Act.put, List.setIfInBounds_toArray, List.set_cons_zero, List.set_cons_succ]
    refine takeC 2 (by kernel_rfl) rfl (fun K hK => ?_)
    go_simp
    refine (l1In_any s.num 1 100000 _).mono ?_; rintro e w1 ⟨he1, rfl⟩; rw [hin] at he1; subst he1
    refine hK.out _ _ ?_ (fun hHeld => ?_)
    · go_keep
    clear hK K
    try simp only [Act.put, List.setIfInBounds_toArray, List.set_cons_zero, List.set_cons_succ]
    refine takeW 3 (v := ?v3) rfl (by kernel_rfl) (by kernel_rfl) (by kernel_rfl) (fun _ _ _ h => h) (by rfl) (by assumption) ?hy3 ?rest3
    case hy3 => intro w' hSw; (try dsimp only at hSw); go_simp; try with_reducible rfl
    try simp only [Act.put, List.setIfInBounds_toArray, List.set_cons_zero, List.set_cons_succ]
    refine takeX 4 rfl (by kernel_rfl) (by kernel_rfl) (by kernel_rfl) (fun _ _ _ h => h) (by rfl) (by assumption) ?_
    try simp only [Act.put, List.setIfInBounds_toArray, List.set_cons_zero, List.set_cons_succ]
    refine takeX 5 rfl (by kernel_rfl) (by kernel_rfl) (by kernel_rfl) (fun _ _ _ h => h) (by rfl) (by assumption) ?_
    try simp only [Act.put, List.setIfInBounds_toArray, List.set_cons_zero, List.set_cons_succ]
    refine takeX 6 rfl (by kernel_rfl) (by kernel_rfl) (by kernel_rfl) (fun _ _ _ h => h) (by rfl) (by assumption) ?_
    try simp only [Act.put, List.setIfInBounds_toArray, List.set_cons_zero, List.set_cons_succ]
    refine takeW 7 (v := ?v4) rfl (by kernel_rfl) (by kernel_rfl) (by kernel_rfl) (fun _ _ _ h => h) (by rfl) (by assumption) ?hy4 ?rest4
    case hy4 => intro w' hSw; (try dsimp only at hSw); go_simp; try with_reducible rfl
    try simp only [Act.put, List.setIfInBounds_toArray, List.set_cons_zero, List.set_cons_succ]
    refine takeW 8 (v := ?v5) rfl (by kernel_rfl) (by kernel_rfl) (by kernel_rfl) (fun _ _ _ h => h) (by rfl) (by assumption) ?hy5 ?rest5
    case hy5 => intro w' hSw; (try dsimp only at hSw); go_simp; try with_reducible rfl
    try simp only [Act.put, List.setIfInBounds_toArray, List.set_cons_zero, List.set_cons_succ]
    refine takeX 9 rfl (by kernel_rfl) (by kernel_rfl) (by kernel_rfl) (fun _ _ _ h => h) (by rfl) (by assumption) ?_
    try simp only [Act.put, List.setIfInBounds_toArray, List.set_cons_zero, List.set_cons_succ]
    refine takeX 10 rfl (by kernel_rfl) (by kernel_rfl) (by kernel_rfl) (fun _ _ _ h => h) (by rfl) (by assumption) ?_
    try simp only [Act.put, List.setIfInBounds_toArray, List.set_cons_zero, List.set_cons_succ]
    refine takeX 11 rfl (by kernel_rfl) (by kernel_rfl) (by kernel_rfl) (fun _ _ _ h => h) (by rfl) (by assumption) ?_
    try simp only [Act.put, List.setIfInBounds_toArray, List.set_cons_zero, List.set_cons_succ]
    refine takeX 12 rfl (by kernel_rfl) (by kernel_rfl) (by kernel_rfl) (fun _ _ _ h => h) (by rfl) (by assumption) ?_
    try simp only [Act.put, List.setIfInBounds_toArray, List.set_cons_zero, List.set_cons_succ]
    refine takeX 13 rfl (by kernel_rfl) (by kernel_rfl) (by kernel_rfl) (fun _ _ _ h => h) (by rfl) (by assumption) ?_
    try simp only [Act.put, List.setIfInBounds_toArray, List.set_cons_zero, List.set_cons_succ]
    refine takeX 14 rfl (by kernel_rfl) (by kernel_rfl) (by kernel_rfl) (fun _ _ _ h => h) (by rfl) (by assumption) ?_
    try simp only [Act.put, List.setIfInBounds_toArray, List.set_cons_zero, List.set_cons_succ]
    refine takeW 15 (v := ?v6) rfl (by kernel_rfl) (by kernel_rfl) (by kernel_rfl) (fun _ _ _ h => h) (by rfl) (by assumption) ?hy6 ?rest6
    case hy6 => intro w' hSw; (try dsimp only at hSw); go_simp; try with_reducible rfl
    try simp only [Act.put, List.setIfInBounds_toArray, List.set_cons_zero, List.set_cons_succ]
    refine takeW 16 (v := ?v7) rfl (by kernel_rfl) (by kernel_rfl) (by kernel_rfl) (fun _ _ _ h => h) (by rfl) (by assumption) ?hy7 ?rest7
    case hy7 => intro w' hSw; (try dsimp only at hSw); go_simp; try with_reducible rfl
    try simp only [Act.put, List.setIfInBounds_toArray, List.set_cons_zero, List.set_cons_succ]
    refine takeX 17 rfl (by kernel_rfl) (by kernel_rfl) (by kernel_rfl) (fun _ _ _ h => h) (by rfl) (by assumption) ?_
    try simp only [Act.put, List.setIfInBounds_toArray, List.set_cons_zero, List.set_cons_succ]
    refine takeX 18 rfl (by kernel_rfl) (by kernel_rfl) (by kernel_rfl) (fun _ _ _ h => h) (by rfl) (by assumption) ?_
    try simp only [Act.put, List.setIfInBounds_toArray, List.set_cons_zero, List.set_cons_succ]
    refine takeX 19 rfl (by kernel_rfl) (by kernel_rfl) (by kernel_rfl) (fun _ _ _ h => h) (by rfl) (by assumption) ?_
    try simp only [Act.put, List.setIfInBounds_toArray, List.set_cons_zero, List.set_cons_succ]
    refine takeW 20 (v := ?v8) rfl (by kernel_rfl) (by kernel_rfl) (by kernel_rfl) (fun _ _ _ h => h) (by rfl) (by assumption) ?hy8 ?rest8
    case hy8 => intro w' hSw; (try dsimp only at hSw); go_simp; try with_reducible rfl
    try simp only [Act.put, List.setIfInBounds_toArray, List.set_cons_zero, List.set_cons_succ]
    refine takeW 21 (v := ?v9) rfl (by kernel_rfl) (by kernel_rfl) (by kernel_rfl) (fun _ _ _ h => h) (by rfl) (by assumption) ?hy9 ?rest9
    case hy9 => intro w' hSw; (try dsimp only at hSw); go_simp; try with_reducible rfl
    try simp only [Act.put, List.setIfInBounds_toArray, List.set_cons_zero, List.set_cons_succ]
    refine wpAnyH_done (by kernel_rfl) ?_ _
    go_wp2_with fail
    go_ret
    exact ⟨ret_bool HR.out.symm, below_one hB0 (Below.refl _ _).drew⟩
  have HN := hid (show numB s.num = true from hin)
  cases hpo : polB s.pol
  · have HR := hid (snB_no2 hpo)
    go_enter Tryz.func37, Tryz.ntmps37
    go_wp2_with fail
    generalize w.alloc (.cells #[.int .i64 s.num, .slice ap s.pol.length cp, .slice ar s.rv.length cr] 26) = W0 at *
    refine wp_region_held_drew (S := fun w' => w'.cell? ⟨w.heap.size, 0, none⟩ = some (.int .i64 s.num) ∧ w'.cell? ⟨w.heap.size, 1, none⟩ = some (.slice ap s.pol.length cp) ∧ w'.cell? ⟨w.heap.size, 2, none⟩ = some (.slice ar s.rv.length cr)) (by kernel_rfl) ?_ (fun hHeld => ?_)
    · go_keep
    refine takeW 0 (v := ?v10) rfl (by kernel_rfl) (by kernel_rfl) (by kernel_rfl) (fun _ _ _ h => h) (by rfl) (by assumption) ?hy10 ?rest10
    case hy10 => intro w' hSw; (try dsimp only at hSw); go_simp; try with_reducible rfl
    try simp only [Act.put, List.setIfInBounds_toArray, List.set_cons_zero, List.set_cons_succ]
    refine takeW 1 (v := ?v11) rfl (by kernel_rfl) (by kernel_rfl) (by kernel_rfl) (fun _ _ _ h => h) (by rfl) (by assumption) ?hy11 ?rest11
    case hy11 => intro w' hSw; (try dsimp only at hSw); go_simp; try with_reducible rfl
    try simp only [Act.put, List.setIfInBounds_toArray, List.set_cons_zero, List.set_cons_succ]
    refine takeC 2 (by kernel_rfl) rfl (fun K hK => ?_)
    go_simp
    refine (l1In_any s.num 1 100000 _).mono ?_; rintro e w1 ⟨he1, rfl⟩; rw [hin] at he1; subst he1
    refine hK.out _ _ ?_ (fun hHeld => ?_)
    · go_keep
    clear hK K
    try simp only [Act.put, List.setIfInBounds_toArray, List.set_cons_zero, List.set_cons_succ]
    refine takeW 3 (v := ?v12) rfl (by kernel_rfl) (by kernel_rfl) (by kernel_rfl) (fun _ _ _ h => h) (by rfl) (by assumption) ?hy12 ?rest12
    case hy12 => intro w' hSw; (try dsimp only at hSw); go_simp; try with_reducible rfl
    try simp only [Act.put, List.setIfInBounds_toArray, List.set_cons_zero, List.set_cons_succ]
    refine takeW 4 (v := ?v13) rfl (by kernel_rfl) (by kernel_rfl) (by kernel_rfl) (fun _ _ _ h => h) (by rfl) (by assumption) ?hy13 ?rest13
    case hy13 => intro w' hSw; (try dsimp only at hSw); go_simp; try with_reducible rfl
    try simp only [Act.put, List.setIfInBounds_toArray, List.set_cons_zero, List.set_cons_succ]
    refine takeW 5 (v := ?v14) rfl (by kernel_rfl) (by kernel_rfl) (by kernel_rfl) (fun _ _ _ h => h) (by rfl) (by assumption) ?hy14 ?rest14
    case hy14 => intro w' hSw; (try dsimp only at hSw); go_simp; try with_reducible rfl
    try simp only [Act.put, List.setIfInBounds_toArray, List.set_cons_zero, List.set_cons_succ]
    refine takeC 6 (by kernel_rfl) rfl (fun K hK => ?_)
    go_simp
    refine (l2Good_any _ s.pol _ (by omega) hz (by exact h1d)).mono ?_; rintro e w2 ⟨he2, hB2⟩; rw [hpo] at he2; subst he2; have hc2 := fun o => hB2.cell (p := ⟨w.heap.size, o, none⟩) (by exact hlt0); have hlt2 : w.heap.size < w2.heap.size := Nat.lt_of_lt_of_le hlt0 hB2.size
    refine hK.out _ _ ?_ (fun hHeld => ?_)
    · go_keep
    clear hK K
    try simp only [Act.put, List.setIfInBounds_toArray, List.set_cons_zero, List.set_cons_succ]
    refine takeW 7 (v := ?v15) rfl (by kernel_rfl) (by kernel_rfl) (by kernel_rfl) (fun _ _ _ h => h) (by rfl) (by assumption) ?hy15 ?rest15
    case hy15 => intro w' hSw; (try dsimp only at hSw); go_simp; try with_reducible rfl
    try simp only [Act.put, List.setIfInBounds_toArray, List.set_cons_zero, List.set_cons_succ]
    refine takeW 8 (v := ?v16) rfl (by kernel_rfl) (by kernel_rfl) (by kernel_rfl) (fun _ _ _ h => h) (by rfl) (by assumption) ?hy16 ?rest16
    case hy16 => intro w' hSw; (try dsimp only at hSw); go_simp; try with_reducible rfl
    try simp only [Act.put, List.setIfInBounds_toArray, List.set_cons_zero, List.set_cons_succ]
    refine takeX 9 rfl (by kernel_rfl) (by kernel_rfl) (by kernel_rfl) (fun _ _ _ h => h) (by rfl) (by assumption) ?_
    try simp only [Act.put, List.setIfInBounds_toArray, List.set_cons_zero, List.set_cons_succ]
    refine takeX 10 rfl (by kernel_rfl) (by kernel_rfl) (by kernel_rfl) (fun _ _ _ h => h) (by rfl) (by assumption) ?_
    try simp only [Act.put, List.setIfInBounds_toArray, List.set_cons_zero, List.set_cons_succ]
    refine takeX 11 rfl (by kernel_rfl) (by kernel_rfl) (by kernel_rfl) (fun _ _ _ h => h) (by rfl) (by assumption) ?_
    try simp only [Act.put, List.setIfInBounds_toArray, List.set_cons_zero, List.set_cons_succ]
    refine takeX 12 rfl (by kernel_rfl) (by kernel_rfl) (by kernel_rfl) (fun _ _ _ h => h) (by rfl) (by assumption) ?_
    try simp only [Act.put, List.setIfInBounds_toArray, List.set_cons_zero, List.set_cons_succ]
    refine takeX 13 rfl (by kernel_rfl) (by kernel_rfl) (by kernel_rfl) (fun _ _ _ h => h) (by rfl) (by assumption) ?_
    try simp only [Act.put, List.setIfInBounds_toArray, List.set_cons_zero, List.set_cons_succ]
    refine takeX 14 rfl (by kernel_rfl) (by kernel_rfl) (by kernel_rfl) (fun _ _ _ h => h) (by rfl) (by assumption) ?_
    try simp only [Act.put, List.setIfInBounds_toArray, List.set_cons_zero, List.set_cons_succ]
    refine takeW 15 (v := ?v17) rfl (by kernel_rfl) (by kernel_rfl) (by kernel_rfl) (fun _ _ _ h => h) (by rfl) (by assumption) ?hy17 ?rest17
    case hy17 => intro w' hSw; (try dsimp only at hSw); go_simp; try with_reducible rfl
    try simp only [Act.put, List.setIfInBounds_toArray, List.set_cons_zero, List.set_cons_succ]
    refine takeW 16 (v := ?v18) rfl (by kernel_rfl) (by kernel_rfl) (by kernel_rfl) (fun _ _ _ h => h) (by rfl) (by assumption) ?hy18 ?rest18
    case hy18 => intro w' hSw; (try dsimp only at hSw); go_simp; try with_reducible rfl
    try simp only [Act.put, List.setIfInBounds_toArray, List.set_cons_zero, List.set_cons_succ]
    refine takeX 17 rfl (by kernel_rfl) (by kernel_rfl) (by kernel_rfl) (fun _ _ _ h => h) (by rfl) (by assumption) ?_
    try simp only [Act.put, List.setIfInBounds_toArray, List.set_cons_zero, List.set_cons_succ]
    refine takeX 18 rfl (by kernel_rfl) (by kernel_rfl) (by kernel_rfl) (fun _ _ _ h => h) (by rfl) (by assumption) ?_
    try simp only [Act.put, List.setIfInBounds_toArray, List.set_cons_zero, List.set_cons_succ]
    refine takeX 19 rfl (by kernel_rfl) (by kernel_rfl) (by kernel_rfl) (fun _ _ _ h => h) (by rfl) (by assumption) ?_
    try simp only [Act.put, List.setIfInBounds_toArray, List.set_cons_zero, List.set_cons_succ]
    refine takeW 20 (v := ?v19) rfl (by kernel_rfl) (by kernel_rfl) (by kernel_rfl) (fun _ _ _ h => h) (by rfl) (by assumption) ?hy19 ?rest19
    case hy19 => intro w' hSw; (try dsimp only at hSw); go_simp; try with_reducible rfl
    try simp only [Act.put, List.setIfInBounds_toArray, List.set_cons_zero, List.set_cons_succ]
    refine takeW 21 (v := ?v20) rfl (by kernel_rfl) (by kernel_rfl) (by kernel_rfl) (fun _ _ _ h => h) (by rfl) (by assumption) ?hy20 ?rest20
    case hy20 => intro w' hSw; (try dsimp only at hSw); go_simp; try with_reducible rfl
    try simp only [Act.put, List.setIfInBounds_toArray, List.set_cons_zero, List.set_cons_succ]
    refine wpAnyH_done (by kernel_rfl) ?_ _
    go_wp2_with fail
    go_ret
    exact ⟨ret_bool HR.out.symm, below_one hB0 (below_drew1 hB2)⟩
  have h30 := (pol_all hpo).2
  have hpl : (plTo s.pol s.pol.length).length ≤ 1048577 := by have := plTo_len (rs := s.pol) _ (Nat.le_refl _); omega
  cases hsm : sameS (plTo s.pol s.pol.length) s.pol
  · have HR := hid (snB_no3 (s := s) (by rw [plX_yes hpo]; exact hsm))
    go_enter Tryz.func37, Tryz.ntmps37
    go_wp2_with fail
    generalize w.alloc (.cells #[.int .i64 s.num, .slice ap s.pol.length cp, .slice ar s.rv.length cr] 26) = W0 at *
    refine wp_region_held_drew (S := fun w' => w'.cell? ⟨w.heap.size, 0, none⟩ = some (.int .i64 s.num) ∧ w'.cell? ⟨w.heap.size, 1, none⟩ = some (.slice ap s.pol.length cp) ∧ w'.cell? ⟨w.heap.size, 2, none⟩ = some (.slice ar s.rv.length cr)) (by kernel_rfl) ?_ (fun hHeld => ?_)
    · go_keep
    refine takeW 0 (v := ?v21) rfl (by kernel_rfl) (by kernel_rfl) (by kernel_rfl) (fun _ _ _ h => h) (by rfl) (by assumption) ?hy21 ?rest21
    case hy21 => intro w' hSw; (try dsimp only at hSw); go_simp; try with_reducible rfl
    try simp only [Act.put, List.setIfInBounds_toArray, List.set_cons_zero, List.set_cons_succ]
    refine takeW 1 (v := ?v22) rfl (by kernel_rfl) (by kernel_rfl) (by kernel_rfl) (fun _ _ _ h => h) (by rfl) (by assumption) ?hy22 ?rest22
    case hy22 => intro w' hSw; (try dsimp only at hSw); go_simp; try with_reducible rfl
    try simp only [Act.put, List.setIfInBounds_toArray, List.set_cons_zero, List.set_cons_succ]
    refine takeC 2 (by kernel_rfl) rfl (fun K hK => ?_)
    go_simp
    refine (l1In_any s.num 1 100000 _).mono ?_; rintro e w1 ⟨he1, rfl⟩; rw [hin] at he1; subst he1
    refine hK.out _ _ ?_ (fun hHeld => ?_)
    · go_keep
    clear hK K
    try simp only [Act.put, List.setIfInBounds_toArray, List.set_cons_zero, List.set_cons_succ]
    refine takeW 3 (v := ?v23) rfl (by kernel_rfl) (by kernel_rfl) (by kernel_rfl) (fun _ _ _ h => h) (by rfl) (by assumption) ?hy23 ?rest23
    case hy23 => intro w' hSw; (try dsimp only at hSw); go_simp; try with_reducible rfl
    try simp only [Act.put, List.setIfInBounds_toArray, List.set_cons_zero, List.set_cons_succ]
    refine takeW 4 (v := ?v24) rfl (by kernel_rfl) (by kernel_rfl) (by kernel_rfl) (fun _ _ _ h => h) (by rfl) (by assumption) ?hy24 ?rest24
    case hy24 => intro w' hSw; (try dsimp only at hSw); go_simp; try with_reducible rfl
    try simp only [Act.put, List.setIfInBounds_toArray, List.set_cons_zero, List.set_cons_succ]
    refine takeW 5 (v := ?v25) rfl (by kernel_rfl) (by kernel_rfl) (by kernel_rfl) (fun _ _ _ h => h) (by rfl) (by assumption) ?hy25 ?rest25
    case hy25 => intro w' hSw; (try dsimp only at hSw); go_simp; try with_reducible rfl
    try simp only [Act.put, List.setIfInBounds_toArray, List.set_cons_zero, List.set_cons_succ]
    refine takeC 6 (by kernel_rfl) rfl (fun K hK => ?_)
    go_simp
    refine (l2Good_any _ s.pol _ (by omega) hz (by exact h1d)).mono ?_; rintro e w2 ⟨he2, hB2⟩; rw [hpo] at he2; subst he2; have hc2 := fun o => hB2.cell (p := ⟨w.heap.size, o, none⟩) (by exact hlt0); have hlt2 : w.heap.size < w2.heap.size := Nat.lt_of_lt_of_le hlt0 hB2.size
    refine hK.out _ _ ?_ (fun hHeld => ?_)
    · go_keep
    clear hK K
    try simp only [Act.put, List.setIfInBounds_toArray, List.set_cons_zero, List.set_cons_succ]
    refine takeW 7 (v := ?v26) rfl (by kernel_rfl) (by kernel_rfl) (by kernel_rfl) (fun _ _ _ h => h) (by rfl) (by assumption) ?hy26 ?rest26
    case hy26 => intro w' hSw; (try dsimp only at hSw); go_simp; try with_reducible rfl
    try simp only [Act.put, List.setIfInBounds_toArray, List.set_cons_zero, List.set_cons_succ]
    refine takeW 8 (v := ?v27) rfl (by kernel_rfl) (by kernel_rfl) (by kernel_rfl) (fun _ _ _ h => h) (by rfl) (by assumption) ?hy27 ?rest27
    case hy27 => intro w' hSw; (try dsimp only at hSw); go_simp; try with_reducible rfl
    try simp only [Act.put, List.setIfInBounds_toArray, List.set_cons_zero, List.set_cons_succ]
    refine takeW 9 (v := ?v28) rfl (by kernel_rfl) (by kernel_rfl) (by kernel_rfl) (fun _ _ _ h => h) (by rfl) (by assumption) ?hy28 ?rest28
    case hy28 => intro w' hSw; (try dsimp only at hSw); go_simp; try with_reducible rfl
    try simp only [Act.put, List.setIfInBounds_toArray, List.set_cons_zero, List.set_cons_succ]
    refine takeW 10 (v := ?v29) rfl (by kernel_rfl) (by kernel_rfl) (by kernel_rfl) (fun _ _ _ h => h) (by rfl) (by assumption) ?hy29 ?rest29
    case hy29 => intro w' hSw; (try dsimp only at hSw); go_simp; try with_reducible rfl
    try simp only [Act.put, List.setIfInBounds_toArray, List.set_cons_zero, List.set_cons_succ]
    refine takeW 12 (v := ?v30) rfl (by kernel_rfl) (by kernel_rfl) (by kernel_rfl) (fun _ _ _ h => h) (by rfl) (by assumption) ?hy30 ?rest30
    case hy30 => intro w' hSw; (try dsimp only at hSw); go_simp; try with_reducible rfl
    try simp only [Act.put, List.setIfInBounds_toArray, List.set_cons_zero, List.set_cons_succ]
    refine takeW 13 (v := ?v31) rfl (by kernel_rfl) (by kernel_rfl) (by kernel_rfl) (fun _ _ _ h => h) (by rfl) (by assumption) ?hy31 ?rest31
    case hy31 => intro w' hSw; (try dsimp only at hSw); go_simp; try with_reducible rfl
    try simp only [Act.put, List.setIfInBounds_toArray, List.set_cons_zero, List.set_cons_succ]
    refine takeC 11 (by kernel_rfl) rfl (fun K hK => ?_)
    go_simp
    refine (l2Plain_any _ s.pol _ h30 hz (by exact h1d.below hB2)).mono ?_; rintro e w3 ⟨v3, rfl, o3, hB3⟩; obtain ⟨a3, k3, rfl⟩ := ownsRow_len o3; have hc3 := fun o => hB3.cell (p := ⟨w.heap.size, o, none⟩) (by exact hlt2); have hlt3 : w.heap.size < w3.heap.size := Nat.lt_of_lt_of_le hlt2 hB3.size
    refine hK.out _ _ ?_ (fun hHeld => ?_)
    · go_keep
    clear hK K
    try simp only [Act.put, List.setIfInBounds_toArray, List.set_cons_zero, List.set_cons_succ]
    refine takeC 14 (by kernel_rfl) rfl (fun K hK => ?_)
    go_simp
    refine (l5SameRules_any _ _ _ s.pol _ hpl (by omega) (RuS.own o3) (by exact (h1d.below hB2).below hB3)).mono ?_; rintro e w4 ⟨he4, hB4⟩; rw [hsm] at he4; subst he4; have hc4 := fun o => hB4.cell (p := ⟨w.heap.size, o, none⟩) (by exact hlt3); have hlt4 : w.heap.size < w4.heap.size := Nat.lt_of_lt_of_le hlt3 hB4.size
    refine hK.out _ _ ?_ (fun hHeld => ?_)
    · go_keep
    clear hK K
    try simp only [Act.put, List.setIfInBounds_toArray, List.set_cons_zero, List.set_cons_succ]
    refine takeW 15 (v := ?v32) rfl (by kernel_rfl) (by kernel_rfl) (by kernel_rfl) (fun _ _ _ h => h) (by rfl) (by assumption) ?hy32 ?rest32
    case hy32 => intro w' hSw; (try dsimp only at hSw); go_simp; try with_reducible rfl
    try simp only [Act.put, List.setIfInBounds_toArray, List.set_cons_zero, List.set_cons_succ]
    refine takeW 16 (v := ?v33) rfl (by kernel_rfl) (by kernel_rfl) (by kernel_rfl) (fun _ _ _ h => h) (by rfl) (by assumption) ?hy33 ?rest33
    case hy33 => intro w' hSw; (try dsimp only at hSw); go_simp; try with_reducible rfl
    try simp only [Act.put, List.setIfInBounds_toArray, List.set_cons_zero, List.set_cons_succ]
    refine takeX 17 rfl (by kernel_rfl) (by kernel_rfl) (by kernel_rfl) (fun _ _ _ h => h) (by rfl) (by assumption) ?_
    try simp only [Act.put, List.setIfInBounds_toArray, List.set_cons_zero, List.set_cons_succ]
    refine takeX 18 rfl (by kernel_rfl) (by kernel_rfl) (by kernel_rfl) (fun _ _ _ h => h) (by rfl) (by assumption) ?_
    try simp only [Act.put, List.setIfInBounds_toArray, List.set_cons_zero, List.set_cons_succ]
    refine takeX 19 rfl (by kernel_rfl) (by kernel_rfl) (by kernel_rfl) (fun _ _ _ h => h) (by rfl) (by assumption) ?_
    try simp only [Act.put, List.setIfInBounds_toArray, List.set_cons_zero, List.set_cons_succ]
    refine takeW 20 (v := ?v34) rfl (by kernel_rfl) (by kernel_rfl) (by kernel_rfl) (fun _ _ _ h => h) (by rfl) (by assumption) ?hy34 ?rest34
    case hy34 => intro w' hSw; (try dsimp only at hSw); go_simp; try with_reducible rfl
    try simp only [Act.put, List.setIfInBounds_toArray, List.set_cons_zero, List.set_cons_succ]
    refine takeW 21 (v := ?v35) rfl (by kernel_rfl) (by kernel_rfl) (by kernel_rfl) (fun _ _ _ h => h) (by rfl) (by assumption) ?hy35 ?rest35
    case hy35 => intro w' hSw; (try dsimp only at hSw); go_simp; try with_reducible rfl
    try simp only [Act.put, List.setIfInBounds_toArray, List.set_cons_zero, List.set_cons_succ]
    refine wpAnyH_done (by kernel_rfl) ?_ _
    go_wp2_with fail
    go_ret
    exact ⟨ret_bool HR.out.symm, below_one hB0 (below_drew1 (below_one (below_one hB2 hB3) hB4))⟩
  cases hri : riB s.rv
  · have HR := hid (show snB s = false by unfold riB at hri; rw [Bool.and_eq_false_iff] at hri; rcases hri with h | h; exact snB_no4 h; exact snB_no5 h)
    go_enter Tryz.func37, Tryz.ntmps37
    go_wp2_with fail
    generalize w.alloc (.cells #[.int .i64 s.num, .slice ap s.pol.length cp, .slice ar s.rv.length cr] 26) = W0 at *
    refine wp_region_held_drew (S := fun w' => w'.cell? ⟨w.heap.size, 0, none⟩ = some (.int .i64 s.num) ∧ w'.cell? ⟨w.heap.size, 1, none⟩ = some (.slice ap s.pol.length cp) ∧ w'.cell? ⟨w.heap.size, 2, none⟩ = some (.slice ar s.rv.length cr)) (by kernel_rfl) ?_ (fun hHeld => ?_)
    · go_keep
    refine takeW 0 (v := ?v36) rfl (by kernel_rfl) (by kernel_rfl) (by kernel_rfl) (fun _ _ _ h => h) (by rfl) (by assumption) ?hy36 ?rest36
    case hy36 => intro w' hSw; (try dsimp only at hSw); go_simp; try with_reducible rfl
    try simp only [Act.put, List.setIfInBounds_toArray, List.set_cons_zero, List.set_cons_succ]
    refine takeW 1 (v := ?v37) rfl (by kernel_rfl) (by kernel_rfl) (by kernel_rfl) (fun _ _ _ h => h) (by rfl) (by assumption) ?hy37 ?rest37
    case hy37 => intro w' hSw; (try dsimp only at hSw); go_simp; try with_reducible rfl
    try simp only [Act.put, List.setIfInBounds_toArray, List.set_cons_zero, List.set_cons_succ]
    refine takeC 2 (by kernel_rfl) rfl (fun K hK => ?_)
    go_simp
    refine (l1In_any s.num 1 100000 _).mono ?_; rintro e w1 ⟨he1, rfl⟩; rw [hin] at he1; subst he1
    refine hK.out _ _ ?_ (fun hHeld => ?_)
    · go_keep
    clear hK K
    try simp only [Act.put, List.setIfInBounds_toArray, List.set_cons_zero, List.set_cons_succ]
    refine takeW 3 (v := ?v38) rfl (by kernel_rfl) (by kernel_rfl) (by kernel_rfl) (fun _ _ _ h => h) (by rfl) (by assumption) ?hy38 ?rest38
    case hy38 => intro w' hSw; (try dsimp only at hSw); go_simp; try with_reducible rfl
    try simp only [Act.put, List.setIfInBounds_toArray, List.set_cons_zero, List.set_cons_succ]
    refine takeW 4 (v := ?v39) rfl (by kernel_rfl) (by kernel_rfl) (by kernel_rfl) (fun _ _ _ h => h) (by rfl) (by assumption) ?hy39 ?rest39
    case hy39 => intro w' hSw; (try dsimp only at hSw); go_simp; try with_reducible rfl
    try simp only [Act.put, List.setIfInBounds_toArray, List.set_cons_zero, List.set_cons_succ]
    refine takeW 5 (v := ?v40) rfl (by kernel_rfl) (by kernel_rfl) (by kernel_rfl) (fun _ _ _ h => h) (by rfl) (by assumption) ?hy40 ?rest40
    case hy40 => intro w' hSw; (try dsimp only at hSw); go_simp; try with_reducible rfl
    try simp only [Act.put, List.setIfInBounds_toArray, List.set_cons_zero, List.set_cons_succ]
    refine takeC 6 (by kernel_rfl) rfl (fun K hK => ?_)
    go_simp
    refine (l2Good_any _ s.pol _ (by omega) hz (by exact h1d)).mono ?_; rintro e w2 ⟨he2, hB2⟩; rw [hpo] at he2; subst he2; have hc2 := fun o => hB2.cell (p := ⟨w.heap.size, o, none⟩) (by exact hlt0); have hlt2 : w.heap.size < w2.heap.size := Nat.lt_of_lt_of_le hlt0 hB2.size
    refine hK.out _ _ ?_ (fun hHeld => ?_)
    · go_keep
    clear hK K
    try simp only [Act.put, List.setIfInBounds_toArray, List.set_cons_zero, List.set_cons_succ]
    refine takeW 7 (v := ?v41) rfl (by kernel_rfl) (by kernel_rfl) (by kernel_rfl) (fun _ _ _ h => h) (by rfl) (by assumption) ?hy41 ?rest41
    case hy41 => intro w' hSw; (try dsimp only at hSw); go_simp; try with_reducible rfl
    try simp only [Act.put, List.setIfInBounds_toArray, List.set_cons_zero, List.set_cons_succ]
    refine takeW 8 (v := ?v42) rfl (by kernel_rfl) (by kernel_rfl) (by kernel_rfl) (fun _ _ _ h => h) (by rfl) (by assumption) ?hy42 ?rest42
    case hy42 => intro w' hSw; (try dsimp only at hSw); go_simp; try with_reducible rfl
    try simp only [Act.put, List.setIfInBounds_toArray, List.set_cons_zero, List.set_cons_succ]
    refine takeW 9 (v := ?v43) rfl (by kernel_rfl) (by kernel_rfl) (by kernel_rfl) (fun _ _ _ h => h) (by rfl) (by assumption) ?hy43 ?rest43
    case hy43 => intro w' hSw; (try dsimp only at hSw); go_simp; try with_reducible rfl
    try simp only [Act.put, List.setIfInBounds_toArray, List.set_cons_zero, List.set_cons_succ]
    refine takeW 10 (v := ?v44) rfl (by kernel_rfl) (by kernel_rfl) (by kernel_rfl) (fun _ _ _ h => h) (by rfl) (by assumption) ?hy44 ?rest44
    case hy44 => intro w' hSw; (try dsimp only at hSw); go_simp; try with_reducible rfl
    try simp only [Act.put, List.setIfInBounds_toArray, List.set_cons_zero, List.set_cons_succ]
    refine takeW 12 (v := ?v45) rfl (by kernel_rfl) (by kernel_rfl) (by kernel_rfl) (fun _ _ _ h => h) (by rfl) (by assumption) ?hy45 ?rest45
    case hy45 => intro w' hSw; (try dsimp only at hSw); go_simp; try with_reducible rfl
    try simp only [Act.put, List.setIfInBounds_toArray, List.set_cons_zero, List.set_cons_succ]
    refine takeW 13 (v := ?v46) rfl (by kernel_rfl) (by kernel_rfl) (by kernel_rfl) (fun _ _ _ h => h) (by rfl) (by assumption) ?hy46 ?rest46
    case hy46 => intro w' hSw; (try dsimp only at hSw); go_simp; try with_reducible rfl
    try simp only [Act.put, List.setIfInBounds_toArray, List.set_cons_zero, List.set_cons_succ]
    refine takeC 11 (by kernel_rfl) rfl (fun K hK => ?_)
    go_simp
    refine (l2Plain_any _ s.pol _ h30 hz (by exact h1d.below hB2)).mono ?_; rintro e w3 ⟨v3, rfl, o3, hB3⟩; obtain ⟨a3, k3, rfl⟩ := ownsRow_len o3; have hc3 := fun o => hB3.cell (p := ⟨w.heap.size, o, none⟩) (by exact hlt2); have hlt3 : w.heap.size < w3.heap.size := Nat.lt_of_lt_of_le hlt2 hB3.size
    refine hK.out _ _ ?_ (fun hHeld => ?_)
    · go_keep
    clear hK K
    try simp only [Act.put, List.setIfInBounds_toArray, List.set_cons_zero, List.set_cons_succ]
    refine takeC 14 (by kernel_rfl) rfl (fun K hK => ?_)
    go_simp
    refine (l5SameRules_any _ _ _ s.pol _ hpl (by omega) (RuS.own o3) (by exact (h1d.below hB2).below hB3)).mono ?_; rintro e w4 ⟨he4, hB4⟩; rw [hsm] at he4; subst he4; have hc4 := fun o => hB4.cell (p := ⟨w.heap.size, o, none⟩) (by exact hlt3); have hlt4 : w.heap.size < w4.heap.size := Nat.lt_of_lt_of_le hlt3 hB4.size
    refine hK.out _ _ ?_ (fun hHeld => ?_)
    · go_keep
    clear hK K
    try simp only [Act.put, List.setIfInBounds_toArray, List.set_cons_zero, List.set_cons_succ]
    refine takeW 15 (v := ?v47) rfl (by kernel_rfl) (by kernel_rfl) (by kernel_rfl) (fun _ _ _ h => h) (by rfl) (by assumption) ?hy47 ?rest47
    case hy47 => intro w' hSw; (try dsimp only at hSw); go_simp; try with_reducible rfl
    try simp only [Act.put, List.setIfInBounds_toArray, List.set_cons_zero, List.set_cons_succ]
    refine takeW 16 (v := ?v48) rfl (by kernel_rfl) (by kernel_rfl) (by kernel_rfl) (fun _ _ _ h => h) (by rfl) (by assumption) ?hy48 ?rest48
    case hy48 => intro w' hSw; (try dsimp only at hSw); go_simp; try with_reducible rfl
    try simp only [Act.put, List.setIfInBounds_toArray, List.set_cons_zero, List.set_cons_succ]
    refine takeW 17 (v := ?v49) rfl (by kernel_rfl) (by kernel_rfl) (by kernel_rfl) (fun _ _ _ h => h) (by rfl) (by assumption) ?hy49 ?rest49
    case hy49 => intro w' hSw; (try dsimp only at hSw); go_simp; try with_reducible rfl
    try simp only [Act.put, List.setIfInBounds_toArray, List.set_cons_zero, List.set_cons_succ]
    refine takeW 18 (v := ?v50) rfl (by kernel_rfl) (by kernel_rfl) (by kernel_rfl) (fun _ _ _ h => h) (by rfl) (by assumption) ?hy50 ?rest50
    case hy50 => intro w' hSw; (try dsimp only at hSw); go_simp; try with_reducible rfl
    try simp only [Act.put, List.setIfInBounds_toArray, List.set_cons_zero, List.set_cons_succ]
    refine takeC 19 (by kernel_rfl) rfl (fun K hK => ?_)
    go_simp
    refine (l5Rising_any _ s.rv _ (by omega) (by exact ((h2d.below hB2).below hB3).below hB4)).mono ?_; rintro e w5 ⟨he5, rfl⟩; rw [hri] at he5; subst he5
    refine hK.out _ _ ?_ (fun hHeld => ?_)
    · go_keep
    clear hK K
    try simp only [Act.put, List.setIfInBounds_toArray, List.set_cons_zero, List.set_cons_succ]
    refine takeW 20 (v := ?v51) rfl (by kernel_rfl) (by kernel_rfl) (by kernel_rfl) (fun _ _ _ h => h) (by rfl) (by assumption) ?hy51 ?rest51
    case hy51 => intro w' hSw; (try dsimp only at hSw); go_simp; try with_reducible rfl
    try simp only [Act.put, List.setIfInBounds_toArray, List.set_cons_zero, List.set_cons_succ]
    refine takeW 21 (v := ?v52) rfl (by kernel_rfl) (by kernel_rfl) (by kernel_rfl) (fun _ _ _ h => h) (by rfl) (by assumption) ?hy52 ?rest52
    case hy52 => intro w' hSw; (try dsimp only at hSw); go_simp; try with_reducible rfl
    try simp only [Act.put, List.setIfInBounds_toArray, List.set_cons_zero, List.set_cons_succ]
    refine wpAnyH_done (by kernel_rfl) ?_ _
    go_wp2_with fail
    go_ret
    exact ⟨ret_bool HR.out.symm, below_one hB0 (below_drew1 (below_one (below_one hB2 hB3) hB4))⟩
  have HR := hid (show snB s = true by unfold riB at hri; rw [Bool.and_eq_true] at hri; exact snB_yes HN.out hpo (by rw [plX_yes hpo]; exact hsm) hri.1 hri.2)
  go_enter Tryz.func37, Tryz.ntmps37
  go_wp2_with fail
  generalize w.alloc (.cells #[.int .i64 s.num, .slice ap s.pol.length cp, .slice ar s.rv.length cr] 26) = W0 at *
  refine wp_region_held_drew (S := fun w' => w'.cell? ⟨w.heap.size, 0, none⟩ = some (.int .i64 s.num) ∧ w'.cell? ⟨w.heap.size, 1, none⟩ = some (.slice ap s.pol.length cp) ∧ w'.cell? ⟨w.heap.size, 2, none⟩ = some (.slice ar s.rv.length cr)) (by kernel_rfl) ?_ (fun hHeld => ?_)
  · go_keep
  refine takeW 0 (v := ?v53) rfl (by kernel_rfl) (by kernel_rfl) (by kernel_rfl) (fun _ _ _ h => h) (by rfl) (by assumption) ?hy53 ?rest53
  case hy53 => intro w' hSw; (try dsimp only at hSw); go_simp; try with_reducible rfl
  try simp only [Act.put, List.setIfInBounds_toArray, List.set_cons_zero, List.set_cons_succ]
  refine takeW 1 (v := ?v54) rfl (by kernel_rfl) (by kernel_rfl) (by kernel_rfl) (fun _ _ _ h => h) (by rfl) (by assumption) ?hy54 ?rest54
  case hy54 => intro w' hSw; (try dsimp only at hSw); go_simp; try with_reducible rfl
  try simp only [Act.put, List.setIfInBounds_toArray, List.set_cons_zero, List.set_cons_succ]
  refine takeC 2 (by kernel_rfl) rfl (fun K hK => ?_)
  go_simp
  refine (l1In_any s.num 1 100000 _).mono ?_; rintro e w1 ⟨he1, rfl⟩; rw [hin] at he1; subst he1
  refine hK.out _ _ ?_ (fun hHeld => ?_)
  · go_keep
  clear hK K
  try simp only [Act.put, List.setIfInBounds_toArray, List.set_cons_zero, List.set_cons_succ]
  refine takeW 3 (v := ?v55) rfl (by kernel_rfl) (by kernel_rfl) (by kernel_rfl) (fun _ _ _ h => h) (by rfl) (by assumption) ?hy55 ?rest55
  case hy55 => intro w' hSw; (try dsimp only at hSw); go_simp; try with_reducible rfl
  try simp only [Act.put, List.setIfInBounds_toArray, List.set_cons_zero, List.set_cons_succ]
  refine takeW 4 (v := ?v56) rfl (by kernel_rfl) (by kernel_rfl) (by kernel_rfl) (fun _ _ _ h => h) (by rfl) (by assumption) ?hy56 ?rest56
  case hy56 => intro w' hSw; (try dsimp only at hSw); go_simp; try with_reducible rfl
  try simp only [Act.put, List.setIfInBounds_toArray, List.set_cons_zero, List.set_cons_succ]
  refine takeW 5 (v := ?v57) rfl (by kernel_rfl) (by kernel_rfl) (by kernel_rfl) (fun _ _ _ h => h) (by rfl) (by assumption) ?hy57 ?rest57
  case hy57 => intro w' hSw; (try dsimp only at hSw); go_simp; try with_reducible rfl
  try simp only [Act.put, List.setIfInBounds_toArray, List.set_cons_zero, List.set_cons_succ]
  refine takeC 6 (by kernel_rfl) rfl (fun K hK => ?_)
  go_simp
  refine (l2Good_any _ s.pol _ (by omega) hz (by exact h1d)).mono ?_; rintro e w2 ⟨he2, hB2⟩; rw [hpo] at he2; subst he2; have hc2 := fun o => hB2.cell (p := ⟨w.heap.size, o, none⟩) (by exact hlt0); have hlt2 : w.heap.size < w2.heap.size := Nat.lt_of_lt_of_le hlt0 hB2.size
  refine hK.out _ _ ?_ (fun hHeld => ?_)
  · go_keep
  clear hK K
  try simp only [Act.put, List.setIfInBounds_toArray, List.set_cons_zero, List.set_cons_succ]
  refine takeW 7 (v := ?v58) rfl (by kernel_rfl) (by kernel_rfl) (by kernel_rfl) (fun _ _ _ h => h) (by rfl) (by assumption) ?hy58 ?rest58
  case hy58 => intro w' hSw; (try dsimp only at hSw); go_simp; try with_reducible rfl
  try simp only [Act.put, List.setIfInBounds_toArray, List.set_cons_zero, List.set_cons_succ]
  refine takeW 8 (v := ?v59) rfl (by kernel_rfl) (by kernel_rfl) (by kernel_rfl) (fun _ _ _ h => h) (by rfl) (by assumption) ?hy59 ?rest59
  case hy59 => intro w' hSw; (try dsimp only at hSw); go_simp; try with_reducible rfl
  try simp only [Act.put, List.setIfInBounds_toArray, List.set_cons_zero, List.set_cons_succ]
  refine takeW 9 (v := ?v60) rfl (by kernel_rfl) (by kernel_rfl) (by kernel_rfl) (fun _ _ _ h => h) (by rfl) (by assumption) ?hy60 ?rest60
  case hy60 => intro w' hSw; (try dsimp only at hSw); go_simp; try with_reducible rfl
  try simp only [Act.put, List.setIfInBounds_toArray, List.set_cons_zero, List.set_cons_succ]
  refine takeW 10 (v := ?v61) rfl (by kernel_rfl) (by kernel_rfl) (by kernel_rfl) (fun _ _ _ h => h) (by rfl) (by assumption) ?hy61 ?rest61
  case hy61 => intro w' hSw; (try dsimp only at hSw); go_simp; try with_reducible rfl
  try simp only [Act.put, List.setIfInBounds_toArray, List.set_cons_zero, List.set_cons_succ]
  refine takeW 12 (v := ?v62) rfl (by kernel_rfl) (by kernel_rfl) (by kernel_rfl) (fun _ _ _ h => h) (by rfl) (by assumption) ?hy62 ?rest62
  case hy62 => intro w' hSw; (try dsimp only at hSw); go_simp; try with_reducible rfl
  try simp only [Act.put, List.setIfInBounds_toArray, List.set_cons_zero, List.set_cons_succ]
  refine takeW 13 (v := ?v63) rfl (by kernel_rfl) (by kernel_rfl) (by kernel_rfl) (fun _ _ _ h => h) (by rfl) (by assumption) ?hy63 ?rest63
  case hy63 => intro w' hSw; (try dsimp only at hSw); go_simp; try with_reducible rfl
  try simp only [Act.put, List.setIfInBounds_toArray, List.set_cons_zero, List.set_cons_succ]
  refine takeC 11 (by kernel_rfl) rfl (fun K hK => ?_)
  go_simp
  refine (l2Plain_any _ s.pol _ h30 hz (by exact h1d.below hB2)).mono ?_; rintro e w3 ⟨v3, rfl, o3, hB3⟩; obtain ⟨a3, k3, rfl⟩ := ownsRow_len o3; have hc3 := fun o => hB3.cell (p := ⟨w.heap.size, o, none⟩) (by exact hlt2); have hlt3 : w.heap.size < w3.heap.size := Nat.lt_of_lt_of_le hlt2 hB3.size
  refine hK.out _ _ ?_ (fun hHeld => ?_)
  · go_keep
  clear hK K
  try simp only [Act.put, List.setIfInBounds_toArray, List.set_cons_zero, List.set_cons_succ]
  refine takeC 14 (by kernel_rfl) rfl (fun K hK => ?_)
  go_simp
  refine (l5SameRules_any _ _ _ s.pol _ hpl (by omega) (RuS.own o3) (by exact (h1d.below hB2).below hB3)).mono ?_; rintro e w4 ⟨he4, hB4⟩; rw [hsm] at he4; subst he4; have hc4 := fun o => hB4.cell (p := ⟨w.heap.size, o, none⟩) (by exact hlt3); have hlt4 : w.heap.size < w4.heap.size := Nat.lt_of_lt_of_le hlt3 hB4.size
  refine hK.out _ _ ?_ (fun hHeld => ?_)
  · go_keep
  clear hK K
  try simp only [Act.put, List.setIfInBounds_toArray, List.set_cons_zero, List.set_cons_succ]
  refine takeW 15 (v := ?v64) rfl (by kernel_rfl) (by kernel_rfl) (by kernel_rfl) (fun _ _ _ h => h) (by rfl) (by assumption) ?hy64 ?rest64
  case hy64 => intro w' hSw; (try dsimp only at hSw); go_simp; try with_reducible rfl
  try simp only [Act.put, List.setIfInBounds_toArray, List.set_cons_zero, List.set_cons_succ]
  refine takeW 16 (v := ?v65) rfl (by kernel_rfl) (by kernel_rfl) (by kernel_rfl) (fun _ _ _ h => h) (by rfl) (by assumption) ?hy65 ?rest65
  case hy65 => intro w' hSw; (try dsimp only at hSw); go_simp; try with_reducible rfl
  try simp only [Act.put, List.setIfInBounds_toArray, List.set_cons_zero, List.set_cons_succ]
  refine takeW 17 (v := ?v66) rfl (by kernel_rfl) (by kernel_rfl) (by kernel_rfl) (fun _ _ _ h => h) (by rfl) (by assumption) ?hy66 ?rest66
  case hy66 => intro w' hSw; (try dsimp only at hSw); go_simp; try with_reducible rfl
  try simp only [Act.put, List.setIfInBounds_toArray, List.set_cons_zero, List.set_cons_succ]
  refine takeW 18 (v := ?v67) rfl (by kernel_rfl) (by kernel_rfl) (by kernel_rfl) (fun _ _ _ h => h) (by rfl) (by assumption) ?hy67 ?rest67
  case hy67 => intro w' hSw; (try dsimp only at hSw); go_simp; try with_reducible rfl
  try simp only [Act.put, List.setIfInBounds_toArray, List.set_cons_zero, List.set_cons_succ]
  refine takeC 19 (by kernel_rfl) rfl (fun K hK => ?_)
  go_simp
  refine (l5Rising_any _ s.rv _ (by omega) (by exact ((h2d.below hB2).below hB3).below hB4)).mono ?_; rintro e w5 ⟨he5, rfl⟩; rw [hri] at he5; subst he5
  refine hK.out _ _ ?_ (fun hHeld => ?_)
  · go_keep
  clear hK K
  try simp only [Act.put, List.setIfInBounds_toArray, List.set_cons_zero, List.set_cons_succ]
  refine takeW 20 (v := ?v68) rfl (by kernel_rfl) (by kernel_rfl) (by kernel_rfl) (fun _ _ _ h => h) (by rfl) (by assumption) ?hy68 ?rest68
  case hy68 => intro w' hSw; (try dsimp only at hSw); go_simp; try with_reducible rfl
  try simp only [Act.put, List.setIfInBounds_toArray, List.set_cons_zero, List.set_cons_succ]
  refine takeW 21 (v := ?v69) rfl (by kernel_rfl) (by kernel_rfl) (by kernel_rfl) (fun _ _ _ h => h) (by rfl) (by assumption) ?hy69 ?rest69
  case hy69 => intro w' hSw; (try dsimp only at hSw); go_simp; try with_reducible rfl
  try simp only [Act.put, List.setIfInBounds_toArray, List.set_cons_zero, List.set_cons_succ]
  refine wpAnyH_done (by kernel_rfl) ?_ _
  go_wp2_with fail
  go_ret
  exact ⟨ret_bool HR.out.symm, below_one hB0 (below_drew1 (below_one (below_one hB2 hB3) hB4))⟩

end Go.Proofs.YtjnajdilllkpcaaGreat

namespace Go.Proofs.YtjnajdilllkpcaaGreat
open Go.RowKit Go.Shelf

theorem contains_isI (zs : List Int) (z : Int) : zs.contains z = isI zs z := by
  rw [Bool.eq_iff_iff]
  unfold isI
  rw [List.any_eq_true, List.contains_iff_mem]
  constructor
  · intro h
    exact ⟨z, h, by simp⟩
  · rintro ⟨x, hx, he⟩
    have : x = z := by simpa using he
    rw [← this]
    exact hx

end Go.Proofs.YtjnajdilllkpcaaGreat

namespace Go.Proofs.YtjnajdilllkpcaaGreat
open Go.RowKit Go.Shelf

instance : Inhabited Ru := ⟨⟨false, ByteArray.empty, ByteArray.empty, ByteArray.empty⟩⟩
theorem eqAt_ru : EqlAt Tryz.prog 31 (fun r : Ru => .agg r.cells.toArray) Ru.same := ⟨fun x y w => eql_ru x y w, GuardAt.agg _ (by kernel_rfl)⟩
theorem neAt_ru : NeqAt Tryz.prog 31 (fun r : Ru => .agg r.cells.toArray) Ru.same := ⟨fun x y w => neq_ru x y w, GuardAt.agg _ (by kernel_rfl)⟩
theorem allEq_same : ∀ rs ss : List Ru, Lib.allEq Ru.same rs ss = sameS rs ss
  | [], [] => rfl
  | [], s :: ss => by simp [Lib.allEq, sameS]
  | r :: rs, [] => by simp [Lib.allEq, sameS]
  | r :: rs, s :: ss => by
    rw [Lib.allEq, allEq_same rs ss]
    unfold sameS
    simp only [List.length_cons, List.zip_cons_cons, List.all_cons]
    by_cases h : rs.length = ss.length
    · rw [decide_eq_true h, decide_eq_true (by omega)]
      simp
    · rw [decide_eq_false h, decide_eq_false (by omega)]
      simp
theorem cells_at {w : World} {b off : Nat} {rs : List Ru} (hc : ∀ k (h : k < rs.length), RuAt w b (off + k * 4) rs[k]) : ∀ j, j < rs.length → ∀ i v, (Ru.cells rs[j]!)[i]? = some v → w.cell? ⟨b, off + j * 4 + i, none⟩ = some v := by
  intro j hj i v hv
  have e : rs[j]! = rs[j] := by simp [getElem!_def, List.getElem?_eq_getElem hj]
  rw [e] at hv
  obtain ⟨h0, h1, h2, h3⟩ := hc j hj
  have hi : i < 4 := by
    have := (List.getElem?_eq_some_iff.1 hv).1
    simpa using this
  obtain rfl | rfl | rfl | rfl : i = 0 ∨ i = 1 ∨ i = 2 ∨ i = 3 := by omega
  · simp at hv; rw [← hv]; exact h0
  · simp at hv; rw [← hv]; exact h1
  · simp at hv; rw [← hv]; exact h2
  · simp at hv; rw [← hv]; exact h3
theorem same_len {rs ss : List Ru} (h : rs.length ≠ ss.length) : sameS rs ss = false := by
  unfold sameS
  rw [decide_eq_false h]
  rfl

set_option maxHeartbeats 1000000 in
/-- No rules, held against some: by their number alone. -/
theorem equalRu_nil (a a' : Option Addr) (n c c' : Nat) (w : World) (hn : n ≤ 1048577) :
    Calls Tryz.prog 65 #[.slice a 0 c, .slice a' n c'] w fun e w' => e = .returned (.bool (decide (n = 0))) ∧ w' = w := by
  by_cases h : n = 0
  · subst h
    go_enter Tryz.func65, Tryz.ntmps65
    go_wp2
    refine wp_loop_rounds 1 ?_
    rw [rounds_succ]
    go_wp2
    go_ret
    exact ⟨rfl, rfl⟩
  · have e0 : ((0 : Int) != (n : Int)) = true := by simp; omega
    go_enter Tryz.func65, Tryz.ntmps65
    go_wp2
    go_ret
    exact ⟨by simp [h], rfl⟩

set_option maxHeartbeats 1000000 in
theorem equalRu_other (a a' : Option Addr) (n m c c' : Nat) (w : World) (_hn : n ≤ 1048577) (_hm : m ≤ 1048577) (hne : n ≠ m) :
    Calls Tryz.prog 65 #[.slice a n c, .slice a' m c'] w fun e w' => e = .returned (.bool false) ∧ w' = w := by
  have e0 : ((n : Int) != (m : Int)) = true := by simp; omega
  go_enter Tryz.func65, Tryz.ntmps65
  go_wp2
  go_ret
  exact ⟨rfl, rfl⟩

theorem equalRu_any (v v' : Value) (rs ss : List Ru) (w : World) (hm : rs.length ≤ 1048577) (hm' : ss.length ≤ 1048577) (hr : RuR w v rs) (hr' : RuR w v' ss) :
    Calls Tryz.prog 65 #[v, v'] w fun e w' => e = .returned (.bool (sameS rs ss)) ∧ Below w.heap.size w w' := by
  by_cases hl : rs.length = ss.length
  · rcases hr with ⟨rfl, rfl⟩ | ⟨b, off, cap, rfl, hb, hle, hc⟩
    · have h0 : ss = [] := List.eq_nil_of_length_eq_zero hl.symm
      subst h0
      obtain ⟨a', c', rfl⟩ := hr'.len
      refine (equalRu_nil none a' 0 0 c' w (by omega)).mono ?_
      rintro e w1 ⟨rfl, rfl⟩
      exact ⟨rfl, Below.refl _ _⟩
    · rcases hr' with ⟨rfl, rfl⟩ | ⟨b', off', cap', rfl, hb', hle', hc'⟩
      · have h0 : rs = [] := List.eq_nil_of_length_eq_zero hl
        subst h0
        refine (equalRu_nil _ none 0 cap 0 w (by omega)).mono ?_
        rintro e w1 ⟨rfl, rfl⟩
        exact ⟨rfl, Below.refl _ _⟩
      · have h := AnyQ.slices_Equal Tryz.equalRu 4 Tryz.isAgg31 Tryz.sizeOf31 Ru.cells (fun _ => rfl) Ru.same neAt_ru b off rs.length cap b' off' ss.length cap' rs ss w (Nat.le_refl _) (Nat.le_refl _) (by omega) (by omega) (cells_at hc) (cells_at hc')
        refine h.mono ?_
        rintro e w1 ⟨rfl, q, rfl⟩
        rw [List.take_length, List.take_length, allEq_same]
        exact ⟨rfl, below_drewn (Below.refl _ _) q⟩
  · obtain ⟨a, c, rfl⟩ := hr.len
    obtain ⟨a', c', rfl⟩ := hr'.len
    refine (equalRu_other a a' _ _ c c' w hm hm' hl).mono ?_
    rintro e w1 ⟨rfl, rfl⟩
    rw [same_len hl]
    exact ⟨rfl, Below.refl _ _⟩

theorem cloneRu_any (v : Value) (rs : List Ru) (w : World) (hm : rs.length ≤ 1048577) (hr : RuR w v rs) :
    Calls Tryz.prog 43 #[v] w fun e w' => ∃ v', e = .returned v' ∧ w'.ownsRow w.heap.size 31 4 v' rs.length (rs.flatMap Ru.cells) ∧ (v = .slice none 0 0 ∨ v' ≠ .slice none 0 0) ∧ Below w.heap.size w w' := by
  rcases hr with ⟨rfl, rfl⟩ | ⟨b, off, cap, rfl, hb, hle, hc⟩
  · refine (cloneRules_nil 0 0 w).mono ?_
    rintro e w1 ⟨rfl, rfl⟩
    exact ⟨_, rfl, World.ownsRow_nil _ _ _ _, .inl rfl, Below.refl _ _⟩
  · obtain ⟨i0, hi, hz0, hz1, hz2⟩ := info_parts infoRule
    refine (AnyE.slices_Clone Tryz.cloneRu i0 _ 4 56 hi hz0 hz1 hz2 rfl (by decide) Tryz.sizeOf31 b off rs.length cap (rs.flatMap Ru.cells) w (flat_len rs) (by unfold maxLen; omega) (by omega) (RuR.flat hc) cells_one).mono ?_
    rintro e w1 ⟨v', rfl, h1, h2, h3⟩
    exact ⟨v', rfl, h1, .inr h2, h3⟩

theorem cloneNu_any (v : Value) (zs : List Int) (w : World) (hm : zs.length ≤ 1048577) (hr : NuR w v zs) :
    Calls Tryz.prog 44 #[v] w fun e w' => ∃ v', e = .returned v' ∧ w'.ownsRow w.heap.size 3 1 v' zs.length (nums zs) ∧ Below w.heap.size w w' := by
  rcases hr with ⟨rfl, rfl⟩ | ⟨b, off, cap, rfl, hb, hle, hc⟩
  · refine (AnyE.slices_Clone_nil Tryz.cloneIn 0 0 w).mono ?_
    rintro e w1 ⟨rfl, rfl⟩
    exact ⟨_, rfl, World.ownsRow_nil _ _ _ _, Below.refl _ _⟩
  · obtain ⟨i0, hi, hz0, hz1, hz2⟩ := info_parts infoInt
    refine (AnyE.slices_Clone Tryz.cloneIn i0 _ 1 8 hi hz0 hz1 hz2 rfl (by decide) Tryz.sizeOf3 b off zs.length cap (nums zs) w (by rw [nums_len]; omega) (by unfold maxLen; omega) (by omega) (fun j u hu => by
        have hj : j < zs.length := by rw [← nums_len]; exact (List.getElem?_eq_some_iff.1 hu).1
        rw [hc j hj]
        simpa [nums, hj] using hu) (fun u hu => by
        obtain ⟨z, _, rfl⟩ := List.mem_map.1 hu
        rfl)).mono ?_
    rintro e w1 ⟨v', rfl, h1, _, h3⟩
    exact ⟨v', rfl, h1, h3⟩

end Go.Proofs.YtjnajdilllkpcaaGreat

namespace Go.Proofs.YtjnajdilllkpcaaGreat
open Go.RowKit Go.Shelf

theorem itself_any (n : Int) (w : World) :
    Calls Tryz.prog 68 #[.int .i64 n] w fun e w' => e = .returned (.int .i64 n) ∧ w' = w := by
  go_enter Tryz.func68, Tryz.ntmps68
  go_wp2
  go_ret
  exact ⟨rfl, rfl⟩

set_option maxHeartbeats 2000000 in
set_option maxRecDepth 100000 in
theorem risingN_any (v : Value) (zs : List Int) (w : World) (hm : zs.length ≤ 1048577) (hr : VS w v (nums zs)) :
    Calls Tryz.prog 67 #[v, .func (.func 68) #[] #[]] w fun e w' => e = .returned (.bool (upN zs)) ∧ Below w.heap.size w w' := by
  obtain ⟨a, cap, rfl⟩ := hr.numLen
  go_enter Tryz.func67, Tryz.ntmps67
  go_wp2
  go_loopw [5] (fun i wr => ∃ m : Nat, (m ≤ zs.length ∨ m = 1) ∧ 1 ≤ m ∧ i = .int .i64 m ∧ (∀ j, j < m → upI zs j = true) ∧ Below w.heap.size w wr) (fun i _ => zs.length - (intOf i).toNat)
  case atStart => exact ⟨1, .inr rfl, Nat.le_refl _, rfl, fun j hj => (by obtain rfl : j = 0 := Nat.lt_one_iff.1 hj; rfl), Below.refl _ _⟩
  case round =>
    obtain ⟨m, hm2, hm1, rfl, hu, hB⟩ := hrel
    have HU := hid hu
    clear hu
    obtain ⟨n, hn⟩ : ∃ n, m = n + 1 := ⟨m - 1, by omega⟩
    by_cases hlt : m < zs.length
    · obtain ⟨b, off, rfl, hb, hcap, q0⟩ := (hr.below hB).num hlt
      obtain ⟨b', off', hbo, _, _, p0⟩ := (hr.below hB).num (i := n) (by omega)
      cases hbo
      have HS := hid (show upI zs m = decide ((zs[n]'(by omega)) < zs[m]) by subst hn; exact upI_succ hlt)
      have HN := hid (fun h => upN_no (zs := zs) (i := m) hlt h)
      have hw1 : IntKind.i64.wrap ((m : Int) - 1) = (n : Int) := by rw [IntKind.wrap_i64]; omega
      have hl1 : (m : Int) < (zs.length : Int) := by omega
      have hl2 : (n : Int) < (zs.length : Int) := by omega
      generalize zs[m] = k at *
      generalize zs[n] = p at *
      clear hn
      by_cases hc : k ≤ p
      · have HR := hid (HN.out (by rw [HS.out]; exact decide_eq_false (by omega)))
        have dc : decide (k ≤ p) = true := decide_eq_true hc
        go_wp2_with fail
        refine wp_region_held_drew (S := fun w' => w'.cell? ⟨b, off + m, none⟩ = some (.int .i64 k) ∧ w'.cell? ⟨b, off + n, none⟩ = some (.int .i64 p)) (by kernel_rfl) ?_ (fun hHeld => ?_)
        · go_keep
        refine takeW 0 (v := ?v25) rfl (by kernel_rfl) (by kernel_rfl) (by kernel_rfl) (fun _ _ _ h => h) (by rfl) (by assumption) ?hy25 ?rest25
        case hy25 => intro w' hSw; (try dsimp only at hSw); go_simp; try with_reducible rfl
        try simp only [Act.put, List.setIfInBounds_toArray, List.set_cons_zero, List.set_cons_succ]
        refine takeW 1 (v := ?v26) rfl (by kernel_rfl) (by kernel_rfl) (by kernel_rfl) (fun _ _ _ h => h) (by rfl) (by assumption) ?hy26 ?rest26
        case hy26 => intro w' hSw; (try dsimp only at hSw); go_simp; try with_reducible rfl
        try simp only [Act.put, List.setIfInBounds_toArray, List.set_cons_zero, List.set_cons_succ]
        refine takeW 2 (v := ?v27) rfl (by kernel_rfl) (by kernel_rfl) (by kernel_rfl) (fun _ _ _ h => h) (by rfl) (by assumption) ?hy27 ?rest27
        case hy27 => intro w' hSw; (try dsimp only at hSw); go_simp; try with_reducible rfl
        try simp only [Act.put, List.setIfInBounds_toArray, List.set_cons_zero, List.set_cons_succ]
        refine takeW 3 (v := ?v28) rfl (by kernel_rfl) (by kernel_rfl) (by kernel_rfl) (fun _ _ _ h => h) (by rfl) (by assumption) ?hy28 ?rest28
        case hy28 => intro w' hSw; (try dsimp only at hSw); go_simp; try with_reducible rfl
        try simp only [Act.put, List.setIfInBounds_toArray, List.set_cons_zero, List.set_cons_succ]
        refine takeW 4 (v := ?v29) rfl (by kernel_rfl) (by kernel_rfl) (by kernel_rfl) (fun _ _ _ h => h) (by rfl) (by assumption) ?hy29 ?rest29
        case hy29 => intro w' hSw; (try dsimp only at hSw); go_simp; try with_reducible rfl
        try simp only [Act.put, List.setIfInBounds_toArray, List.set_cons_zero, List.set_cons_succ]
        refine takeW 6 (v := ?v30) rfl (by kernel_rfl) (by kernel_rfl) (by kernel_rfl) (fun _ _ _ h => h) (by rfl) (by assumption) ?hy30 ?rest30
        case hy30 => intro w' hSw; (try dsimp only at hSw); go_simp; try with_reducible rfl
        try simp only [Act.put, List.setIfInBounds_toArray, List.set_cons_zero, List.set_cons_succ]
        refine takeW 7 (v := ?v31) rfl (by kernel_rfl) (by kernel_rfl) (by kernel_rfl) (fun _ _ _ h => h) (by rfl) (by assumption) ?hy31 ?rest31
        case hy31 => intro w' hSw; (try dsimp only at hSw); go_simp; try with_reducible rfl
        try simp only [Act.put, List.setIfInBounds_toArray, List.set_cons_zero, List.set_cons_succ]
        refine takeW 8 (v := ?v32) rfl (by kernel_rfl) (by kernel_rfl) (by kernel_rfl) (fun _ _ _ h => h) (by rfl) (by assumption) ?hy32 ?rest32
        case hy32 => intro w' hSw; (try dsimp only at hSw); go_simp; try with_reducible rfl
        try simp only [Act.put, List.setIfInBounds_toArray, List.set_cons_zero, List.set_cons_succ]
        refine takeW 9 (v := ?v33) rfl (by kernel_rfl) (by kernel_rfl) (by kernel_rfl) (fun _ _ _ h => h) (by rfl) (by assumption) ?hy33 ?rest33
        case hy33 => intro w' hSw; (try dsimp only at hSw); go_simp; try with_reducible rfl
        try simp only [Act.put, List.setIfInBounds_toArray, List.set_cons_zero, List.set_cons_succ]
        refine takeW 10 (v := ?v34) rfl (by kernel_rfl) (by kernel_rfl) (by kernel_rfl) (fun _ _ _ h => h) (by rfl) (by assumption) ?hy34 ?rest34
        case hy34 => intro w' hSw; (try dsimp only at hSw); go_simp; try with_reducible rfl
        try simp only [Act.put, List.setIfInBounds_toArray, List.set_cons_zero, List.set_cons_succ]
        refine takeW 11 (v := ?v35) rfl (by kernel_rfl) (by kernel_rfl) (by kernel_rfl) (fun _ _ _ h => h) (by rfl) (by assumption) ?hy35 ?rest35
        case hy35 => intro w' hSw; (try dsimp only at hSw); go_simp; try with_reducible rfl
        try simp only [Act.put, List.setIfInBounds_toArray, List.set_cons_zero, List.set_cons_succ]
        refine takeC 5 (by kernel_rfl) rfl (fun K hK => ?_)
        go_simp
        refine (itself_any k _).mono ?_; rintro e w1 ⟨rfl, rfl⟩
        refine hK.out _ _ ?_ (fun hHeld => ?_)
        · go_keep
        clear hK K
        try simp only [Act.put, List.setIfInBounds_toArray, List.set_cons_zero, List.set_cons_succ]
        refine takeC 12 (by kernel_rfl) rfl (fun K hK => ?_)
        go_simp
        refine (itself_any p _).mono ?_; rintro e w2 ⟨rfl, rfl⟩
        refine hK.out _ _ ?_ (fun hHeld => ?_)
        · go_keep
        clear hK K
        try simp only [Act.put, List.setIfInBounds_toArray, List.set_cons_zero, List.set_cons_succ]
        refine takeW 13 (v := ?v36) rfl (by kernel_rfl) (by kernel_rfl) (by kernel_rfl) (fun _ _ _ h => h) (by rfl) (by assumption) ?hy36 ?rest36
        case hy36 => intro w' hSw; (try dsimp only at hSw); go_simp; try with_reducible rfl
        try simp only [Act.put, List.setIfInBounds_toArray, List.set_cons_zero, List.set_cons_succ]
        refine wpAnyH_done (by kernel_rfl) ?_ _
        all_goals go_wp2
        all_goals go_ret
        all_goals exact ⟨ret_bool HR.out.symm, below_one hB (Below.refl _ wr).drew⟩
      · have HR := hid (show ∀ j, j < m + 1 → upI zs j = true from fun j hj => (by
          by_cases e : j = m
          · subst e
            rw [HS.out]
            exact decide_eq_true (by omega)
          · exact HU.out j (by omega)))
        have dc : decide (k ≤ p) = false := decide_eq_false hc
        go_wp2_with fail
        refine wp_region_held_drew (S := fun w' => w'.cell? ⟨b, off + m, none⟩ = some (.int .i64 k) ∧ w'.cell? ⟨b, off + n, none⟩ = some (.int .i64 p)) (by kernel_rfl) ?_ (fun hHeld => ?_)
        · go_keep
        refine takeW 0 (v := ?v37) rfl (by kernel_rfl) (by kernel_rfl) (by kernel_rfl) (fun _ _ _ h => h) (by rfl) (by assumption) ?hy37 ?rest37
        case hy37 => intro w' hSw; (try dsimp only at hSw); go_simp; try with_reducible rfl
        try simp only [Act.put, List.setIfInBounds_toArray, List.set_cons_zero, List.set_cons_succ]
        refine takeW 1 (v := ?v38) rfl (by kernel_rfl) (by kernel_rfl) (by kernel_rfl) (fun _ _ _ h => h) (by rfl) (by assumption) ?hy38 ?rest38
        case hy38 => intro w' hSw; (try dsimp only at hSw); go_simp; try with_reducible rfl
        try simp only [Act.put, List.setIfInBounds_toArray, List.set_cons_zero, List.set_cons_succ]
        refine takeW 2 (v := ?v39) rfl (by kernel_rfl) (by kernel_rfl) (by kernel_rfl) (fun _ _ _ h => h) (by rfl) (by assumption) ?hy39 ?rest39
        case hy39 => intro w' hSw; (try dsimp only at hSw); go_simp; try with_reducible rfl
        try simp only [Act.put, List.setIfInBounds_toArray, List.set_cons_zero, List.set_cons_succ]
        refine takeW 3 (v := ?v40) rfl (by kernel_rfl) (by kernel_rfl) (by kernel_rfl) (fun _ _ _ h => h) (by rfl) (by assumption) ?hy40 ?rest40
        case hy40 => intro w' hSw; (try dsimp only at hSw); go_simp; try with_reducible rfl
        try simp only [Act.put, List.setIfInBounds_toArray, List.set_cons_zero, List.set_cons_succ]
        refine takeW 4 (v := ?v41) rfl (by kernel_rfl) (by kernel_rfl) (by kernel_rfl) (fun _ _ _ h => h) (by rfl) (by assumption) ?hy41 ?rest41
        case hy41 => intro w' hSw; (try dsimp only at hSw); go_simp; try with_reducible rfl
        try simp only [Act.put, List.setIfInBounds_toArray, List.set_cons_zero, List.set_cons_succ]
        refine takeW 6 (v := ?v42) rfl (by kernel_rfl) (by kernel_rfl) (by kernel_rfl) (fun _ _ _ h => h) (by rfl) (by assumption) ?hy42 ?rest42
        case hy42 => intro w' hSw; (try dsimp only at hSw); go_simp; try with_reducible rfl
        try simp only [Act.put, List.setIfInBounds_toArray, List.set_cons_zero, List.set_cons_succ]
        refine takeW 7 (v := ?v43) rfl (by kernel_rfl) (by kernel_rfl) (by kernel_rfl) (fun _ _ _ h => h) (by rfl) (by assumption) ?hy43 ?rest43
        case hy43 => intro w' hSw; (try dsimp only at hSw); go_simp; try with_reducible rfl
        try simp only [Act.put, List.setIfInBounds_toArray, List.set_cons_zero, List.set_cons_succ]
        refine takeW 8 (v := ?v44) rfl (by kernel_rfl) (by kernel_rfl) (by kernel_rfl) (fun _ _ _ h => h) (by rfl) (by assumption) ?hy44 ?rest44
        case hy44 => intro w' hSw; (try dsimp only at hSw); go_simp; try with_reducible rfl
        try simp only [Act.put, List.setIfInBounds_toArray, List.set_cons_zero, List.set_cons_succ]
        refine takeW 9 (v := ?v45) rfl (by kernel_rfl) (by kernel_rfl) (by kernel_rfl) (fun _ _ _ h => h) (by rfl) (by assumption) ?hy45 ?rest45
        case hy45 => intro w' hSw; (try dsimp only at hSw); go_simp; try with_reducible rfl
        try simp only [Act.put, List.setIfInBounds_toArray, List.set_cons_zero, List.set_cons_succ]
        refine takeW 10 (v := ?v46) rfl (by kernel_rfl) (by kernel_rfl) (by kernel_rfl) (fun _ _ _ h => h) (by rfl) (by assumption) ?hy46 ?rest46
        case hy46 => intro w' hSw; (try dsimp only at hSw); go_simp; try with_reducible rfl
        try simp only [Act.put, List.setIfInBounds_toArray, List.set_cons_zero, List.set_cons_succ]
        refine takeW 11 (v := ?v47) rfl (by kernel_rfl) (by kernel_rfl) (by kernel_rfl) (fun _ _ _ h => h) (by rfl) (by assumption) ?hy47 ?rest47
        case hy47 => intro w' hSw; (try dsimp only at hSw); go_simp; try with_reducible rfl
        try simp only [Act.put, List.setIfInBounds_toArray, List.set_cons_zero, List.set_cons_succ]
        refine takeC 5 (by kernel_rfl) rfl (fun K hK => ?_)
        go_simp
        refine (itself_any k _).mono ?_; rintro e w1 ⟨rfl, rfl⟩
        refine hK.out _ _ ?_ (fun hHeld => ?_)
        · go_keep
        clear hK K
        try simp only [Act.put, List.setIfInBounds_toArray, List.set_cons_zero, List.set_cons_succ]
        refine takeC 12 (by kernel_rfl) rfl (fun K hK => ?_)
        go_simp
        refine (itself_any p _).mono ?_; rintro e w2 ⟨rfl, rfl⟩
        refine hK.out _ _ ?_ (fun hHeld => ?_)
        · go_keep
        clear hK K
        try simp only [Act.put, List.setIfInBounds_toArray, List.set_cons_zero, List.set_cons_succ]
        refine takeW 13 (v := ?v48) rfl (by kernel_rfl) (by kernel_rfl) (by kernel_rfl) (fun _ _ _ h => h) (by rfl) (by assumption) ?hy48 ?rest48
        case hy48 => intro w' hSw; (try dsimp only at hSw); go_simp; try with_reducible rfl
        try simp only [Act.put, List.setIfInBounds_toArray, List.set_cons_zero, List.set_cons_succ]
        refine wpAnyH_done (by kernel_rfl) ?_ _
        all_goals go_wp2
        all_goals go_roundw
        all_goals first
          | exact ⟨m + 1, .inl hlt, by omega, by go_num, HR.out, below_one hB (Below.refl _ wr).drew⟩
          | ((repeat apply Exists.intro); exact ⟨⟨m + 1, .inl hlt, by omega, by go_num, HR.out, below_one hB (Below.refl _ wr).drew⟩, rfl⟩)
          | (simp [intOf]; omega)
    · have HR := hid (show upN zs = true from upN_yes fun i hi => HU.out i (by omega))
      have hl1 : ¬ (m : Int) < (zs.length : Int) := by omega
      go_wp2
      go_ret
      exact ⟨ret_bool HR.out.symm, hB⟩

end Go.Proofs.YtjnajdilllkpcaaGreat

namespace Go.Proofs.YtjnajdilllkpcaaGreat
open Go.RowKit Go.Shelf Go.Sort

set_option maxHeartbeats 2000000 in
theorem implPlain_any (v : Value) (rs : List Ru) (w : World) (hm : rs.length ≤ 1048577) (hf : ∀ r ∈ rs, r.size ≤ 1048576) (hr : RuR w v rs) :
    Calls Tryz.prog 53 #[v] w fun e w' => ∃ v', e = .returned (.tuple #[v', .bool (polB rs)]) ∧ w'.ownsRow w.heap.size 31 4 v' (plX rs).length ((plX rs).flatMap Ru.cells) ∧ Below w.heap.size w w' := by
  rcases hr with ⟨rfl, rfl⟩ | ⟨b, off, cap, rfl, hb, hle, hc⟩
  · exact implPlainPolicy_any _ [] w.heap.size w hm hf (World.ownsRow_nil _ _ _ _)
  have hr : RuR w (.slice (some ⟨b, off, none⟩) rs.length cap) rs := .inr ⟨b, off, cap, rfl, hb, hle, hc⟩
  clear hc
  cases hp : polB rs
  · have HX := hid (plX_no hp)
    go_enter Tryz.func53, Tryz.ntmps53
    go_wp2_with fail
    refine (goodPolicy_any _ rs _ hm hf hr.s).mono ?_
    rintro e w1 ⟨rfl, hB1⟩
    rw [hp]
    go_wp2_with fail
    go_ret2
    exact ⟨_, rfl, by rw [HX.out]; exact World.ownsRow_nil _ _ _ _, hB1⟩
  · have HX := hid (plX_yes hp)
    have HG := hid (pol_all hp)
    go_enter Tryz.func53, Tryz.ntmps53
    go_wp2_with fail
    refine (goodPolicy_any _ rs _ hm hf hr.s).mono ?_
    rintro e w1 ⟨rfl, hB1⟩
    rw [hp]
    go_wp2_with fail
    refine (cloneRu_any _ rs _ hm (hr.below hB1)).mono ?_
    rintro e w2 ⟨v2, rfl, hrow2, hnn, hB2⟩
    have hBB2 := below_one hB1 hB2
    rcases row_form hrow2 with ⟨h', _⟩ | ⟨g2, cap2, rfl, hg2, hcap2⟩
    · rcases hnn with hnn | hnn
      · cases hnn
      · exact absurd h' hnn
    · clear hnn
      obtain ⟨l, hl⟩ : ∃ l : List SmR, l.map Subtype.val = rs := ⟨rs.pmap Subtype.mk hf, by simp [List.map_pmap]⟩
      have hll : l.length = rs.length := by rw [← hl, List.length_map]
      have hrow2' : w2.ownsRow w1.heap.size 31 4 (.slice (some ⟨g2, 0, none⟩) l.length cap2) l.length ((l.map Subtype.val).flatMap Ru.cells) := by rw [hl, hll]; exact hrow2
      have hz12 := hB1.size
      clear hr
      go_wp2_with fail
      rw [← hll]
      refine (sortRules_any w1.heap.size g2 cap2 l _ (by omega) hrow2').mono ?_
      rintro e w3 ⟨rfl, ds, hperm, hsort, hrow3, hg3⟩
      have hBB3 : Below w.heap.size w w3 := hBB2.grown hg3 hBB2.size (fun k hk => by cases hk; omega)
      have hdl : (ds.map Subtype.val).length = rs.length := by rw [List.length_map, ← hll]; exact hperm.length_eq
      rw [hll] at hrow3
      have HP := hid (show cpTo (ds.map Subtype.val) rs.length = plTo rs rs.length by
        have := plain_eq (rs := rs) (ds := ds.map Subtype.val) HG.out.1 (by rw [← hl]; exact hperm.map _) (fun i j hi hj => by
          rw [List.getElem_map, List.getElem_map]
          exact hsort i j hi (by rw [List.length_map] at hj; exact hj))
        rw [hdl] at this
        exact this)
      clear hrow2 hrow2' hB1 hB2 hsort hperm
      go_wp2_with fail
      refine (compact_any w1.heap.size g2 cap2 rs.length (ds.map Subtype.val) _ hdl (by omega) hrow3).mono ?_
      rintro e w4 ⟨rfl, hrow4, hg4⟩
      rw [HP.out] at hrow4 ⊢
      have hBB4 : Below w.heap.size w w4 := hBB3.grown hg4 hBB3.size (fun k hk => by cases hk; omega)
      go_wp2_with fail
      go_ret2
      exact ⟨_, rfl, by rw [HX.out]; exact Go.Joins.ownsRow_le hrow4 hz12, hBB4⟩

/-- A number is a serial. -/
def okS (n : Int) : Bool := decide (1 ≤ n ∧ n < 100001)
theorem okSerial_any (n : Int) (w : World) :
    Calls Tryz.prog 47 #[.int .i64 n] w fun e w' => e = .returned (.bool (okS n)) ∧ w' = w := by
  by_cases c1 : 1 ≤ n
  · by_cases c2 : n ≤ 100000
    · have HR := hid (show okS n = true from decide_eq_true (by omega))
      go_enter Tryz.func47, Tryz.ntmps47
      go_wp2
      go_ret
      exact ⟨ret_bool HR.out.symm, rfl⟩
    · have HR := hid (show okS n = false from decide_eq_false (by omega))
      go_enter Tryz.func47, Tryz.ntmps47
      go_wp2
      go_ret
      exact ⟨ret_bool HR.out.symm, rfl⟩
  · have HR := hid (show okS n = false from decide_eq_false (by omega))
    go_enter Tryz.func47, Tryz.ntmps47
    go_wp2
    go_ret
    exact ⟨ret_bool HR.out.symm, rfl⟩

set_option maxHeartbeats 1000000 in
theorem fewSerials_any (v : Value) (zs : List Int) (w : World) (hm : zs.length ≤ 1048577) (hr : VS w v (nums zs)) :
    Calls Tryz.prog 66 #[v] w fun e w' => e = .returned (.bool (fewB zs)) ∧ w' = w := by
  obtain ⟨a, cap, rfl⟩ := hr.numLen
  by_cases h2 : zs.length ≤ 200
  · have HY := hid (fun h => fewB_yes (zs := zs) h2 h)
    have HL := hid h2
    have d0 : ¬ (200 : Int) < (zs.length : Int) := by omega
    go_enter Tryz.func66, Tryz.ntmps66
    go_wp2
    go_loop [10] (fun i => ∃ n : Nat, n ≤ zs.length ∧ i = .int .i64 n ∧ ∀ j (hj : j < zs.length), j < n → 1 ≤ zs[j] ∧ zs[j] < 100001) (fun i => zs.length - (intOf i).toNat)
    case atStart => exact ⟨0, Nat.zero_le _, rfl, fun _ _ h => absurd h (Nat.not_lt_zero _)⟩
    case round =>
      obtain ⟨n, hn, rfl, ht⟩ := hrel
      have HT := hid ht
      clear ht
      by_cases hlt : n < zs.length
      · obtain ⟨b, off, rfl, hb, hcap, q0⟩ := hr.num hlt
        have HN := hid (fun h => fewB_no2 (okN_no (nx := 100001) (zs := zs) hlt h))
        have HS := hid (show (1 ≤ zs[n] ∧ zs[n] < 100001) → ∀ j (hj : j < zs.length), j < n + 1 → 1 ≤ zs[j] ∧ zs[j] < 100001 from fun h j hj hjn => by
          by_cases e : j = n
          · subst e; exact h
          · exact HT.out j hj (by omega))
        generalize zs[n] = x at *
        by_cases hx : 1 ≤ x ∧ x < 100001
        · have hd : okS x = true := decide_eq_true hx
          have HR := hid (HS.out hx)
          clear hx
          go_wp2_with (go_at_call 47; refine (okSerial_any x _).mono ?_; rintro e w1 ⟨rfl, rfl⟩; rw [hd])
          exact ⟨⟨n + 1, by omega, by go_num, HR.out⟩, by simp [intOf]; omega⟩
        · have hd : okS x = false := decide_eq_false hx
          have HR := hid (HN.out hx)
          clear hx
          go_wp2_with (go_at_call 47; refine (okSerial_any x _).mono ?_; rintro e w1 ⟨rfl, rfl⟩; rw [hd])
          go_ret
          exact ⟨ret_bool HR.out.symm, rfl⟩
      · obtain rfl : n = zs.length := by omega
        have HR := hid (HY.out (okN_yes fun i hi => HT.out i hi hi))
        go_wp2
        go_ret
        exact ⟨ret_bool HR.out.symm, rfl⟩
  · have HR := hid (fewB_no1 (zs := zs) h2)
    have d0 : (200 : Int) < (zs.length : Int) := by omega
    go_enter Tryz.func66, Tryz.ntmps66
    go_wp2
    go_ret
    exact ⟨ret_bool HR.out.symm, rfl⟩

set_option maxHeartbeats 4000000 in
theorem implGoodSnapshot_any (v : Value) (s : Sn) (w : World) (hs : s.short) (h : SnR w v s) :
    Calls Tryz.prog 45 #[v] w fun e w' => e = .returned (.bool (snB s)) ∧ Below w.heap.size w w' := by
  obtain ⟨vp, vr, rfl, h1, h2⟩ := h
  obtain ⟨l1, l2, hz⟩ := hs
  obtain ⟨ap, cp, rfl⟩ := h1.len
  obtain ⟨ar, cr, rfl⟩ := h2.len
  have hB0 : Below w.heap.size w (w.alloc (.cells #[.int .i64 s.num, .slice ap s.pol.length cp, .slice ar s.rv.length cr] 26)) := (Below.refl _ w).alloc (Nat.le_refl _) _
  have F := Three.new w (.int .i64 s.num) (.slice ap s.pol.length cp) (.slice ar s.rv.length cr) 26
  by_cases c1 : s.num < 1
  · have HR := hid (snB_no1 (s := s) (decide_eq_false (by omega)))
    go_enter Tryz.func45, Tryz.ntmps45
    go_wp2
    go_ret
    exact ⟨ret_bool HR.out.symm, hB0⟩
  by_cases c2 : 100000 < s.num
  · have HR := hid (snB_no1 (s := s) (decide_eq_false (by omega)))
    go_enter Tryz.func45, Tryz.ntmps45
    go_wp2
    go_ret
    exact ⟨ret_bool HR.out.symm, hB0⟩
  have HN := hid (show numB s.num = true from decide_eq_true (by omega))
  go_enter Tryz.func45, Tryz.ntmps45
  go_wp2_with fail
  generalize w.alloc (.cells #[.int .i64 s.num, .slice ap s.pol.length cp, .slice ar s.rv.length cr] 26) = W0 at *
  refine (implPlain_any _ s.pol _ (by omega) hz (h1.below hB0)).mono ?_
  rintro e w1 ⟨v1, rfl, o1, hB1⟩
  have hpl := plX_len (rs := s.pol) (by omega)
  obtain ⟨a1, k1, rfl⟩ := ownsRow_len o1
  replace F := F.below hB1
  have hBB1 := below_one hB0 hB1
  clear hB0 hB1
  obtain ⟨a0, a1', a2⟩ := F.c
  cases hp : polB s.pol
  · have HR := hid (snB_no2 hp)
    go_wp2
    go_ret
    exact ⟨ret_bool HR.out.symm, hBB1⟩
  go_wp2_with fail
  refine (equalRu_any _ _ (plX s.pol) s.pol _ hpl (by omega) (RuR.own o1) (h1.below hBB1)).mono ?_
  rintro e w2 ⟨rfl, hB2⟩
  replace F := F.below hB2
  have hBB2 := below_one hBB1 hB2
  clear hBB1 hB2 a0 a1' a2
  obtain ⟨a0, a1', a2⟩ := F.c
  cases hsm : sameS (plX s.pol) s.pol
  · have HR := hid (snB_no3 hsm)
    go_wp2
    go_ret
    exact ⟨ret_bool HR.out.symm, hBB2⟩
  go_wp2_with fail
  refine (fewSerials_any _ s.rv _ (by omega) (h2.below hBB2).s).mono ?_
  rintro e w3 ⟨rfl, rfl⟩
  cases hfw : fewB s.rv
  · have HR := hid (snB_no4 hfw)
    go_wp2
    go_ret
    exact ⟨ret_bool HR.out.symm, hBB2⟩
  go_wp2_with fail
  refine (risingN_any _ s.rv _ (by omega) (h2.below hBB2).s).mono ?_
  rintro e w4 ⟨rfl, hB4⟩
  have hBB4 := below_one hBB2 hB4
  cases hup : upN s.rv
  · have HR := hid (snB_no5 hup)
    go_wp2
    go_ret
    exact ⟨ret_bool HR.out.symm, hBB4⟩
  have HR := hid (snB_yes HN.out hp hsm hfw hup)
  go_wp2
  go_ret
  exact ⟨ret_bool HR.out.symm, hBB4⟩

end Go.Proofs.YtjnajdilllkpcaaGreat

namespace Go.Proofs.YtjnajdilllkpcaaGreat
open Go.RowKit Go.Shelf

def zrU : Ru := ⟨false, ByteArray.empty, ByteArray.empty, ByteArray.empty⟩
/-- Nothing is in force. -/
def zeB (s : Sn) : Bool := (s.num == 0) && (((s.pol.length : Int) == 0) && ((s.rv.length : Int) == 0))
def foB (s : Sn) : Bool := zeB s || snB s
/-- A place is as said. -/
def spotB (h : Bool) (r : Ru) (z : Int) : Bool := if h = true then (if (z == 0) = true then r.good else r.same zrU && numB z) else r.same zrU && (z == 0)
def plA (s : Sd) (i : Nat) : Bool := spotB ((s.ha[i]?).getD false) ((s.ru[i]?).getD zrU) ((s.se[i]?).getD 0)
def plT (s : Sd) (k : Nat) : Bool := (List.range k).all (plA s)
def lnB (s : Sd) : Bool := ((s.ru.length : Int) == (s.ha.length : Int)) && (((s.se.length : Int) == (s.ha.length : Int)) && decide ((s.ha.length : Int) ≤ 230))
def coB (s : Sd) : Bool := if (s.co == 0) = true then (s.ha.length : Int) == 0 else decide (s.fo.num < s.co) && decide (s.co ≤ 100000)
/-- A side is good. -/
def sdB (s : Sd) : Bool := foB s.fo && (lnB s && (coB s && plT s s.ha.length))
theorem sd_no1 {s : Sd} (h : foB s.fo = false) : sdB s = false := by unfold sdB; rw [h]; rfl
theorem sd_no2 {s : Sd} (h : lnB s = false) : sdB s = false := by unfold sdB; rw [h]; simp
theorem sd_no3 {s : Sd} (h : coB s = false) : sdB s = false := by unfold sdB; rw [h]; simp
theorem plT_zero (s : Sd) : plT s 0 = true := by simp [plT]
theorem plT_succ (s : Sd) (k : Nat) : plT s (k + 1) = (plT s k && plA s k) := by
  unfold plT
  rw [List.range_succ, List.all_append]
  simp
theorem sd_no4 {s : Sd} {k : Nat} (hk : k < s.ha.length) (h : plA s k = false) : sdB s = false := by
  have : plT s s.ha.length = false := List.all_eq_false.2 ⟨k, List.mem_range.2 hk, by rw [h]; simp⟩
  unfold sdB
  rw [this]
  simp
theorem sd_yes {s : Sd} (h1 : foB s.fo = true) (h2 : lnB s = true) (h3 : coB s = true) (h4 : plT s s.ha.length = true) : sdB s = true := by
  unfold sdB
  rw [h1, h2, h3, h4]
  rfl
theorem sd_parts {s : Sd} (h : sdB s = true) : foB s.fo = true ∧ lnB s = true ∧ coB s = true ∧ plT s s.ha.length = true := by
  unfold sdB at h
  simpa [Bool.and_eq_true] using h
theorem lnB_parts {s : Sd} (h : lnB s = true) : s.ru.length = s.ha.length ∧ s.se.length = s.ha.length ∧ s.ha.length ≤ 230 := by
  unfold lnB at h
  simp at h
  omega
theorem plA_at {s : Sd} {k : Nat} (h : k < s.ha.length) (hr : k < s.ru.length) (hz : k < s.se.length) : plA s k = spotB s.ha[k] s.ru[k] s.se[k] := by
  unfold plA
  rw [List.getElem?_eq_getElem h, List.getElem?_eq_getElem hr, List.getElem?_eq_getElem hz]
  rfl
theorem foB_num {s : Sn} (h : foB s = true) : 0 ≤ s.num ∧ s.num ≤ 100000 := by
  unfold foB at h
  rw [Bool.or_eq_true] at h
  rcases h with h | h
  · unfold zeB at h
    simp at h
    omega
  · have := snB_num h
    omega
theorem ne_of_bne {a b : Int} (h : (a != b) = true) : (a == b) = false := by
  rw [bne] at h
  cases hq : (a == b)
  · rfl
  · rw [hq] at h; cases h
theorem eq_of_bne {a b : Int} (h : (a != b) = false) : a = b := by
  rw [bne] at h
  cases hq : (a == b)
  · rw [hq] at h; cases h
  · exact eq_of_beq hq
theorem ln_no1 {s : Sd} (h : ((s.ru.length : Int) != (s.ha.length : Int)) = true) : lnB s = false := by unfold lnB; rw [ne_of_bne h]; rfl
theorem ln_no2 {s : Sd} (h : ((s.se.length : Int) != (s.ha.length : Int)) = true) : lnB s = false := by
  unfold lnB
  rw [ne_of_bne h]
  cases ((s.ru.length : Int) == (s.ha.length : Int)) <;> rfl
theorem ln_no3 {s : Sd} (h : decide ((230 : Int) < (s.ha.length : Int)) = true) : lnB s = false := by
  unfold lnB
  rw [decide_eq_false (p := (s.ha.length : Int) ≤ 230) (by have := of_decide_eq_true h; omega)]
  cases ((s.ru.length : Int) == (s.ha.length : Int)) <;> cases ((s.se.length : Int) == (s.ha.length : Int)) <;> rfl
theorem ln_yes {s : Sd} (h1 : ((s.ru.length : Int) != (s.ha.length : Int)) = false) (h2 : ((s.se.length : Int) != (s.ha.length : Int)) = false) (h3 : decide ((230 : Int) < (s.ha.length : Int)) = false) : lnB s = true := by
  unfold lnB
  rw [eq_of_bne h1, eq_of_bne h2, decide_eq_true (p := (s.ha.length : Int) ≤ 230) (by have := of_decide_eq_false h3; omega)]
  simp
theorem co_no1 {s : Sd} (h : (s.co == 0) = true) (h2 : ((s.ha.length : Int) == 0) = false) : coB s = false := by unfold coB; rw [if_pos h, h2]
theorem co_yes1 {s : Sd} (h : (s.co == 0) = true) (h2 : ((s.ha.length : Int) == 0) = true) : coB s = true := by unfold coB; rw [if_pos h, h2]
theorem co_no2 {s : Sd} (h : (s.co == 0) = false) (h2 : ¬ (s.fo.num < s.co ∧ s.co ≤ 100000)) : coB s = false := by
  unfold coB
  rw [if_neg (by rw [h]; exact Bool.false_ne_true), ← Bool.decide_and]
  exact decide_eq_false h2
theorem co_yes2 {s : Sd} (h : (s.co == 0) = false) (h1 : s.fo.num < s.co) (h2 : s.co ≤ 100000) : coB s = true := by
  unfold coB
  rw [if_neg (by rw [h]; exact Bool.false_ne_true), decide_eq_true h1, decide_eq_true h2]
  rfl
theorem zrU_bad : zrU.good = false := by decide +kernel
theorem zero_rule {r : Ru} (h : r.same zrU = true) : r.good = false := by rw [same_eq h]; exact zrU_bad
theorem neq_zr (r : Ru) (w : World) : (binOp .neq 31 r.val (.agg #[.bool false, .string ⟨#[]⟩, .string ⟨#[]⟩, .string ⟨#[]⟩])).run Tryz.prog w = .ok (.bool (!(r.same zrU))) w := neq_ru r zrU w
theorem eql_zr (r : Ru) (w : World) : (binOp .eql 31 r.val (.agg #[.bool false, .string ⟨#[]⟩, .string ⟨#[]⟩, .string ⟨#[]⟩])).run Tryz.prog w = .ok (.bool (r.same zrU)) w := eql_ru r zrU w

set_option maxHeartbeats 1000000 in
theorem l3Num_any (n : Int) (w : World) :
    Calls Tryz.prog 40 #[.int .i64 n] w fun e w' => e = .returned (.bool (numB n)) ∧ w' = w := by
  go_enter Tryz.func40, Tryz.ntmps40
  go_wp2_with (go_at_call 38; refine (l1In_any n 1 100000 _).mono ?_; rintro e w1 ⟨rfl, rfl⟩)
  go_ret
  exact ⟨rfl, rfl⟩

set_option maxHeartbeats 1000000 in
theorem l6Zero_any (v : Value) (s : Sn) (w : World) (hs : s.short) (h : SnA w v s) :
    Calls Tryz.prog 36 #[v] w fun e w' => e = .returned (.bool (zeB s)) ∧ Below w.heap.size w w' := by
  obtain ⟨vp, vr, rfl, h1, h2⟩ := h
  obtain ⟨l1, l2, _⟩ := hs
  obtain ⟨ap, cp, rfl⟩ := h1.len
  obtain ⟨ar, cr, rfl⟩ := h2.numLen
  cases e0 : (s.num == 0)
  · have HR := hid (show zeB s = false by unfold zeB; rw [e0]; rfl)
    go_enter Tryz.func36, Tryz.ntmps36
    go_wp2
    go_ret
    exact ⟨ret_bool HR.out.symm, (Below.refl _ w).alloc (Nat.le_refl _) _⟩
  · cases e1 : ((s.pol.length : Int) == 0)
    · have HR := hid (show zeB s = false by unfold zeB; rw [e0, e1]; rfl)
      go_enter Tryz.func36, Tryz.ntmps36
      go_wp2
      go_ret
      exact ⟨ret_bool HR.out.symm, (Below.refl _ w).alloc (Nat.le_refl _) _⟩
    · have HR := hid (show zeB s = ((s.rv.length : Int) == 0) by unfold zeB; rw [e0, e1]; rfl)
      go_enter Tryz.func36, Tryz.ntmps36
      go_wp2
      go_ret
      exact ⟨ret_bool HR.out.symm, (Below.refl _ w).alloc (Nat.le_refl _) _⟩

set_option maxHeartbeats 2000000 in
theorem goodForce_any (v : Value) (s : Sn) (w : World) (hs : s.short) (h : SnR w v s) :
    Calls Tryz.prog 22 #[v] w fun e w' => e = .returned (.bool (foB s)) ∧ Below w.heap.size w w' := by
  have h' := h
  have hs' := hs
  obtain ⟨vp, vr, rfl, h1, h2⟩ := h
  obtain ⟨l1, l2, _⟩ := hs
  obtain ⟨ap, cp, rfl⟩ := h1.len
  obtain ⟨ar, cr, rfl⟩ := h2.len
  have hB0 : Below w.heap.size w (w.alloc (.cells #[.int .i64 s.num, .slice ap s.pol.length cp, .slice ar s.rv.length cr] 26)) := (Below.refl _ w).alloc (Nat.le_refl _) _
  have F := Three.new w (.int .i64 s.num) (.slice ap s.pol.length cp) (.slice ar s.rv.length cr) 26
  have HF := hid (show foB s = (zeB s || snB s) from rfl)
  cases e0 : (s.num == 0)
  · have HZ := hid (show zeB s = false by unfold zeB; rw [e0]; rfl)
    go_enter Tryz.func22, Tryz.ntmps22
    go_wp2_with fail
    generalize w.alloc (.cells #[.int .i64 s.num, .slice ap s.pol.length cp, .slice ar s.rv.length cr] 26) = W0 at *
    refine (implGoodSnapshot_any _ s _ hs' (h'.below hB0)).mono ?_
    rintro e w1 ⟨rfl, hB1⟩
    go_wp2_with fail
    go_ret
    exact ⟨ret_bool (by rw [HF.out, HZ.out]; rfl), below_one hB0 hB1⟩
  · cases e1 : ((s.pol.length : Int) == 0)
    · have HZ := hid (show zeB s = false by unfold zeB; rw [e0, e1]; rfl)
      go_enter Tryz.func22, Tryz.ntmps22
      go_wp2_with fail
      generalize w.alloc (.cells #[.int .i64 s.num, .slice ap s.pol.length cp, .slice ar s.rv.length cr] 26) = W0 at *
      refine (implGoodSnapshot_any _ s _ hs' (h'.below hB0)).mono ?_
      rintro e w1 ⟨rfl, hB1⟩
      go_wp2_with fail
      go_ret
      exact ⟨ret_bool (by rw [HF.out, HZ.out]; rfl), below_one hB0 hB1⟩
    · cases e2 : ((s.rv.length : Int) == 0)
      · have HZ := hid (show zeB s = false by unfold zeB; rw [e0, e1, e2]; rfl)
        go_enter Tryz.func22, Tryz.ntmps22
        go_wp2_with fail
        generalize w.alloc (.cells #[.int .i64 s.num, .slice ap s.pol.length cp, .slice ar s.rv.length cr] 26) = W0 at *
        refine (implGoodSnapshot_any _ s _ hs' (h'.below hB0)).mono ?_
        rintro e w1 ⟨rfl, hB1⟩
        go_wp2_with fail
        go_ret
        exact ⟨ret_bool (by rw [HF.out, HZ.out]; rfl), below_one hB0 hB1⟩
      · have HZ := hid (show zeB s = true by unfold zeB; rw [e0, e1, e2]; rfl)
        go_enter Tryz.func22, Tryz.ntmps22
        go_wp2_with fail
        go_ret
        exact ⟨ret_bool (by rw [HF.out, HZ.out]; rfl), hB0⟩

def b4B (s : Sd) : Bool := !(lnB s) || ((s.co == 0) && decide ((0 : Int) < (s.ha.length : Int)))
def b6B (s : Sd) : Bool := (s.co != 0) && !(inB (s.fo.num + 1) 100000 s.co)
theorem b4_bad {s : Sd} (h : b4B s = true) : sdB s = false := by
  unfold b4B at h
  rw [Bool.or_eq_true] at h
  rcases h with h | h
  · exact sd_no2 (by simpa using h)
  · rw [Bool.and_eq_true] at h
    exact sd_no3 (co_no1 h.1 (beq_eq_false_iff_ne.2 (by have := of_decide_eq_true h.2; omega)))
theorem b6_bad {s : Sd} (h : b6B s = true) : sdB s = false := by
  unfold b6B at h
  rw [Bool.and_eq_true] at h
  have h2 : inB (s.fo.num + 1) 100000 s.co = false := by have := h.2; simpa using this
  exact sd_no3 (co_no2 (ne_of_bne h.1) (fun hh => by have := of_decide_eq_false h2; omega))
theorem b46_good {s : Sd} (h : b4B s = false) (h6 : b6B s = false) : lnB s = true ∧ coB s = true := by
  unfold b4B at h
  rw [Bool.or_eq_false_iff] at h
  have hl : lnB s = true := by simpa using h.1
  refine ⟨hl, ?_⟩
  cases h0 : (s.co == 0)
  · have hb : (s.co != 0) = true := by rw [bne, h0]; rfl
    have h2 : inB (s.fo.num + 1) 100000 s.co = true := by unfold b6B at h6; rw [hb] at h6; simpa using h6
    have := of_decide_eq_true h2
    exact co_yes2 h0 (by omega) (by omega)
  · have := h.2
    rw [h0, Bool.true_and] at this
    exact co_yes1 h0 (beq_iff_eq.2 (by have := of_decide_eq_false this; omega))

set_option maxHeartbeats 8000000 in
set_option maxRecDepth 100000 in
theorem specGoodSide_any (v : Value) (s : Sd) (w : World) (hs : s.short) (h : SdA w v s) :
    Calls Tryz.prog 17 #[v] w fun e w' => e = .returned (.bool (sdB s)) ∧ Below w.heap.size w w' := by
  obtain ⟨vp, vr, vu, vh, vs, rfl, h1, h2, h3, h4, h5⟩ := h
  obtain ⟨hf, l3, l4, l5, lr⟩ := hs
  have hS : SnA w (.agg #[.int .i64 s.fo.num, vp, vr]) s.fo := ⟨_, _, rfl, h1, h2⟩
  obtain ⟨ap, cp, rfl⟩ := h1.len
  obtain ⟨ar, cr, rfl⟩ := h2.numLen
  obtain ⟨au, cu, rfl⟩ := h3.len
  obtain ⟨ah, ch, rfl⟩ := h4.bolLen
  obtain ⟨ai, ci, rfl⟩ := h5.numLen
  have hB0 : Below w.heap.size w (w.alloc (.cells #[.int .i64 s.fo.num, .slice ap s.fo.pol.length cp, .slice ar s.fo.rv.length cr, .int .i64 s.co, .slice au s.ru.length cu, .slice ah s.ha.length ch, .slice ai s.se.length ci] 29)) := (Below.refl _ w).alloc (Nat.le_refl _) _
  have F := Seven.new w (.int .i64 s.fo.num) (.slice ap s.fo.pol.length cp) (.slice ar s.fo.rv.length cr) (.int .i64 s.co) (.slice au s.ru.length cu) (.slice ah s.ha.length ch) (.slice ai s.se.length ci) 29
  have HF := hid (show foB s.fo = (zeB s.fo || snB s.fo) from rfl)
  obtain ⟨a0, a1, a2, a3, a4, a5, a6⟩ := F.c
  go_enter Tryz.func17, Tryz.ntmps17
  go_upto_region 1 with fail
  generalize w.alloc (.cells #[.int .i64 s.fo.num, .slice ap s.fo.pol.length cp, .slice ar s.fo.rv.length cr, .int .i64 s.co, .slice au s.ru.length cu, .slice ah s.ha.length ch, .slice ai s.se.length ci] 29) = W0 at *
  have hBw := hB0
  have F0 := F
  go_cut [17] (fun s0 wx => s0 = .bool (!(foB s.fo)) ∧ Below W0.heap.size W0 wx)
  case first =>
    cases hz : zeB s.fo
    · go_wp2_with fail
      refine (l6Zero_any _ s.fo _ hf (hS.below hB0)).mono ?_
      rintro e w1 ⟨rfl, hB1⟩
      rw [hz]
      replace F := F.below hB1
      replace hB0 := below_one hB0 hB1
      clear a0 a1 a2 a3 a4 a5 a6
      obtain ⟨a0, a1, a2, a3, a4, a5, a6⟩ := F.c
      go_wp2_with fail
      refine (specGoodSnapshot_any _ s.fo _ hf (hS.below hB0)).mono ?_
      rintro e w2 ⟨rfl, hB2⟩
      go_wp2_with fail
      go_meet
      exact ⟨by rw [HF.out, hz]; rfl, below_one hB1 hB2⟩
    · go_wp2_with fail
      refine (l6Zero_any _ s.fo _ hf (hS.below hB0)).mono ?_
      rintro e w1 ⟨rfl, hB1⟩
      rw [hz]
      go_wp2_with fail
      go_meet
      exact ⟨by rw [HF.out, hz]; rfl, hB1⟩
  case rest =>
    obtain ⟨rfl, hBW⟩ := hcut
    clear HF a0 a1 a2 a3 a4 a5 a6
    replace F := F0.below hBW
    replace hB0 := below_one hBw hBW
    obtain ⟨a0, a1, a2, a3, a4, a5, a6⟩ := F.c
    cases hfo : foB s.fo
    case false =>
      have HR := hid (show sdB s = false from sd_no1 hfo)
      go_wp2_with fail
      go_ret
      exact ⟨ret_bool HR.out.symm, hB0⟩
    have HFO := hid hfo
    have hnum := foB_num HFO.out
    clear hfo
    go_upto_region 4 with fail
    go_cut [45] (fun s0 wx => s0 = .bool (b4B s) ∧ Below W0.heap.size W0 wx)
    case first =>
      cases m1 : ((s.ru.length : Int) != (s.ha.length : Int))
      case true =>
        have HR := hid (show b4B s = true by unfold b4B; rw [ln_no1 m1]; rfl)
        go_wp2_with fail
        go_meet
        exact ⟨by rw [HR.out], hBW⟩
      cases m2 : ((s.se.length : Int) != (s.ha.length : Int))
      case true =>
        have HR := hid (show b4B s = true by unfold b4B; rw [ln_no2 m2]; rfl)
        go_wp2_with fail
        go_meet
        exact ⟨by rw [HR.out], hBW⟩
      cases m3 : decide ((230 : Int) < (s.ha.length : Int))
      case true =>
        have HR := hid (show b4B s = true by unfold b4B; rw [ln_no3 m3]; rfl)
        go_wp2_with fail
        go_meet
        exact ⟨by rw [HR.out], hBW⟩
      have HL := hid (ln_yes m1 m2 m3)
      cases m4 : (s.co == 0)
      · have HR := hid (show b4B s = false by unfold b4B; rw [HL.out, m4]; rfl)
        go_wp2_with fail
        go_meet
        exact ⟨by rw [HR.out], hBW⟩
      · have HR := hid (show b4B s = decide ((0 : Int) < (s.ha.length : Int)) by unfold b4B; rw [HL.out, m4]; rfl)
        go_wp2_with fail
        go_meet
        exact ⟨by rw [HR.out]; simp, hBW⟩
    case rest =>
      clear hBW hB0 F a0 a1 a2 a3 a4 a5 a6
      obtain ⟨rfl, hBW⟩ := hcut
      have F := F0.below hBW
      have hB0 := below_one hBw hBW
      obtain ⟨a0, a1, a2, a3, a4, a5, a6⟩ := F.c
      cases hb4 : b4B s
      case true =>
        have HR := hid (b4_bad hb4)
        go_wp2_with fail
        go_ret
        exact ⟨ret_bool HR.out.symm, hB0⟩
      have HB4 := hid hb4
      clear hb4
      go_upto_region 6 with fail
      go_cut [58] (fun s0 wx => s0 = .bool (b6B s) ∧ Below W0.heap.size W0 wx)
      case first =>
        cases m6 : (s.co != 0)
        · have HR := hid (show b6B s = false by unfold b6B; rw [m6]; rfl)
          go_wp2_with fail
          go_meet
          exact ⟨by rw [HR.out], hBW⟩
        · have HR := hid (show b6B s = !(inB (s.fo.num + 1) 100000 s.co) by unfold b6B; rw [m6]; rfl)
          go_wp2_with fail
          refine (l1In_any s.co (s.fo.num + 1) 100000 _).mono ?_
          rintro e w3 ⟨rfl, rfl⟩
          go_wp2_with fail
          go_meet
          exact ⟨by rw [HR.out], hBW⟩
      case rest =>
        clear hBW hB0 F a0 a1 a2 a3 a4 a5 a6
        obtain ⟨rfl, hBW⟩ := hcut
        have F := F0.below hBW
        have hB0 := below_one hBw hBW
        obtain ⟨a0, a1, a2, a3, a4, a5, a6⟩ := F.c
        cases hb6 : b6B s
        case true =>
          have HR := hid (b6_bad hb6)
          go_wp2_with fail
          go_ret
          exact ⟨ret_bool HR.out.symm, hB0⟩
        have HL := hid (b46_good HB4.out hb6).1
        have HCO := hid (b46_good HB4.out hb6).2
        obtain ⟨hl1, hl2, hl3⟩ := lnB_parts HL.out
        have hq1 : s.ha.length ≤ s.ru.length := by omega
        have hq2 : s.ha.length ≤ s.se.length := by omega
        clear hl1 hl2 HB4 hb6
        go_wp2_with fail
        clear F hB0 a0 a1 a2 a3 a4 a5 a6
        go_loopw [62] (fun i wr => ∃ k : Nat, k ≤ s.ha.length ∧ i = .int .i64 k ∧ plT s k = true ∧ Below W0.heap.size W0 wr) (fun i _ => s.ha.length - (intOf i).toNat)
        case atStart => exact ⟨0, Nat.zero_le _, rfl, plT_zero _, hBW⟩
        case round =>
          obtain ⟨k, hk, rfl, ht, hB⟩ := hrel
          have HT := hid ht
          clear ht
          have hBr := hB
          have F := F0.below hB
          have hB0 := below_one hBw hB
          clear hB hBW
          obtain ⟨a0, a1, a2, a3, a4, a5, a6⟩ := F.c
          by_cases hlt : k < s.ha.length
          · have hlr : k < s.ru.length := by omega
            have hlz : k < s.se.length := by omega
            obtain ⟨bu, ou, rfl, hbu, hcu, q0, q1, q2, q3⟩ := (h3.below hB0).at hlr
            obtain ⟨bh, oh, rfl, hbh, hch, q4⟩ := (h4.below hB0).bol hlt
            obtain ⟨bi, oi, rfl, hbi, hci, q5⟩ := (h5.below hB0).num hlz
            have HA := hid (plA_at hlt hlr hlz)
            have hrs := lr _ (List.getElem_mem hlr)
            generalize s.ru[k] = r at *
            generalize s.ha[k] = hh at *
            generalize s.se[k] = z at *
            have hru : r.who.size ≤ 1048576 := by unfold Ru.size at hrs; omega
            have hrp : r.path.size ≤ 1048576 := by unfold Ru.size at hrs; omega
            have hne := neq_zr r
            have HN := hid (plT_succ s k)
            have HB := hid (fun h => sd_no4 (s := s) hlt h)
            cases hh
            · cases e1 : r.same zrU
              · have HR := hid (show sdB s = false from HB.out (by rw [HA.out]; unfold spotB; rw [if_neg (by simp), e1]; rfl))
                go_wp2_with fail
                go_ret
                exact ⟨ret_bool HR.out.symm, hB0⟩
              · cases e2 : (z == 0)
                · have e3 : (z != 0) = true := by rw [bne, e2]; rfl
                  have HR := hid (show sdB s = false from HB.out (by rw [HA.out]; unfold spotB; rw [if_neg (by simp), e1, e2]; rfl))
                  go_wp2_with fail
                  go_ret
                  exact ⟨ret_bool HR.out.symm, hB0⟩
                · have e3 : (z != 0) = false := by rw [bne, e2]; rfl
                  have HR := hid (show plT s (k + 1) = true by rw [HN.out, HT.out, HA.out]; unfold spotB; rw [if_neg (by simp), e1, e2]; rfl)
                  go_wp2_with fail
                  go_roundw
                  case rel => exact ⟨k + 1, by omega, by go_num, HR.out, hBr⟩
                  case measure => simp [intOf]; omega
            · cases e1 : r.same zrU
              · cases e2 : (z == 0)
                · have e3 : (z != 0) = true := by rw [bne, e2]; rfl
                  have HR := hid (show sdB s = false from HB.out (by rw [HA.out]; unfold spotB; rw [if_pos rfl, if_neg (by rw [e2]; exact Bool.false_ne_true), e1]; rfl))
                  go_wp2_with fail
                  go_ret
                  exact ⟨ret_bool HR.out.symm, hB0⟩
                · have e3 : (z != 0) = false := by rw [bne, e2]; rfl
                  cases e4 : r.good
                  · have HR := hid (show sdB s = false from HB.out (by rw [HA.out]; unfold spotB; rw [if_pos rfl, if_pos e2, e4]))
                    go_wp2_with fail
                    refine (specGoodRule_any r _ hru hrp).mono ?_
                    rintro e w5 ⟨rfl, hB5⟩
                    rw [e4]
                    go_wp2_with fail
                    go_ret
                    exact ⟨ret_bool HR.out.symm, below_one hB0 hB5⟩
                  · have HR := hid (show plT s (k + 1) = true by rw [HN.out, HT.out, HA.out]; unfold spotB; rw [if_pos rfl, if_pos e2, e4]; rfl)
                    go_wp2_with fail
                    refine (specGoodRule_any r _ hru hrp).mono ?_
                    rintro e w5 ⟨rfl, hB5⟩
                    rw [e4]
                    go_wp2_with fail
                    go_roundw
                    case rel => exact ⟨k + 1, by omega, by go_num, HR.out, below_one hBr hB5⟩
                    case measure => simp [intOf]; omega
              · cases e2 : (z == 0)
                · have e3 : (z != 0) = true := by rw [bne, e2]; rfl
                  cases e4 : numB z
                  · have HR := hid (show sdB s = false from HB.out (by rw [HA.out]; unfold spotB; rw [if_pos rfl, if_neg (by rw [e2]; exact Bool.false_ne_true), e1, e4]; rfl))
                    go_wp2_with fail
                    refine (l3Num_any z _).mono ?_
                    rintro e w5 ⟨rfl, rfl⟩
                    rw [e4]
                    go_wp2_with fail
                    go_ret
                    exact ⟨ret_bool HR.out.symm, hB0⟩
                  · have HR := hid (show plT s (k + 1) = true by rw [HN.out, HT.out, HA.out]; unfold spotB; rw [if_pos rfl, if_neg (by rw [e2]; exact Bool.false_ne_true), e1, e4]; rfl)
                    go_wp2_with fail
                    refine (l3Num_any z _).mono ?_
                    rintro e w5 ⟨rfl, rfl⟩
                    rw [e4]
                    go_wp2_with fail
                    go_roundw
                    case rel => exact ⟨k + 1, by omega, by go_num, HR.out, hBr⟩
                    case measure => simp [intOf]; omega
                · have e3 : (z != 0) = false := by rw [bne, e2]; rfl
                  have HR := hid (show sdB s = false from HB.out (by rw [HA.out]; unfold spotB; rw [if_pos rfl, if_pos e2]; exact zero_rule e1))
                  go_wp2_with fail
                  go_ret
                  exact ⟨ret_bool HR.out.symm, hB0⟩
          · obtain rfl : k = s.ha.length := by omega
            have HR := hid (show sdB s = true from sd_yes HFO.out HL.out HCO.out HT.out)
            go_wp2_with fail
            go_ret
            exact ⟨ret_bool HR.out.symm, hB0⟩

end Go.Proofs.YtjnajdilllkpcaaGreat
