/-
  The library's contracts at this program, laid in plain words.
-/
import Derived.Deep.RegionHeld3
import Derived.Test.YtoaeckcenobfcaaGreatJDiffs1
import Derived.Test.YtoaeckcenobfcaaGreatJDiffs2
import Derived.Laws.AppendOwnNone
import Derived.Shelf.SlGeneric
import Derived.Ground.Names8Prog
import Derived.Shelf.Spec.SlicesGrow
import Derived.Test.YtoaeckcenobfcaaGreatProg
namespace Go.Proofs.YtoaeckcenobfcaaGreat
open Go.RowKit Go.Shelf

theorem insU_at {r : Ru} : ∀ (l : List Ru) (m : Nat), m ≤ l.length → (∀ j (h : j < l.length), j < m → ltR l[j] r = true) → (∀ h : m < l.length, ltR l[m] r = false) →
    insU r l = if (∃ h : m < l.length, l[m].same r = true) then l else l.take m ++ r :: l.drop m
  | [], m, hm, _, _ => by
    obtain rfl : m = 0 := by simpa using hm
    rw [if_neg (fun ⟨h, _⟩ => by simp at h)]
    rfl
  | x :: xs, 0, _, _, h2 => by
    have h3 := h2 (by simp)
    simp only [List.getElem_cons_zero] at h3
    unfold insU
    rw [if_neg (by rw [h3]; exact Bool.false_ne_true)]
    by_cases hs : x.same r = true
    · rw [if_pos hs, if_pos ⟨by simp, hs⟩]
    · rw [if_neg hs, if_neg (fun ⟨_, h⟩ => hs h)]
      rfl
  | x :: xs, m + 1, hm, h1, h2 => by
    have hx := h1 0 (by simp) (by omega)
    simp only [List.getElem_cons_zero] at hx
    have ih := insU_at xs m (by simpa using hm) (fun j h hj => by
      have := h1 (j + 1) (by simpa using h) (by omega)
      simpa using this) (fun h => by
      have := h2 (by simpa using h)
      simpa using this)
    unfold insU
    rw [if_pos hx, ih]
    by_cases hs : ∃ h : m < xs.length, xs[m].same r = true
    · rw [if_pos hs, if_pos]
      obtain ⟨h, hs⟩ := hs
      exact ⟨by simpa using h, by simpa using hs⟩
    · rw [if_neg hs, if_neg]
      · rfl
      · rintro ⟨h, h'⟩
        exact hs ⟨by simpa using h, by simpa using h'⟩
theorem ins_keep {r : Ru} {l : List Ru} {m : Nat} (hm : m < l.length) (h1 : ∀ j (h : j < l.length), j < m → ltR l[j] r = true) (h2 : ltR l[m] r = false) (hs : l[m].same r = true) : insU r l = l := by
  rw [insU_at l m (by omega) h1 (fun _ => h2), if_pos ⟨hm, hs⟩]
theorem ins_new {r : Ru} {l : List Ru} {m : Nat} (hm : m < l.length) (h1 : ∀ j (h : j < l.length), j < m → ltR l[j] r = true) (h2 : ltR l[m] r = false) (hs : l[m].same r = false) : insU r l = l.take m ++ r :: l.drop m := by
  rw [insU_at l m (by omega) h1 (fun _ => h2), if_neg (fun ⟨_, h⟩ => by rw [hs] at h; cases h)]
theorem ins_end {r : Ru} {l : List Ru} (h1 : ∀ j (h : j < l.length), j < l.length → ltR l[j] r = true) : insU r l = l.take l.length ++ r :: l.drop l.length := by
  rw [insU_at l l.length (Nat.le_refl _) h1 (fun h => absurd h (Nat.lt_irrefl _)), if_neg (fun ⟨h, _⟩ => absurd h (Nat.lt_irrefl _))]
theorem insU_len (r : Ru) : ∀ l : List Ru, (insU r l).length ≤ l.length + 1
  | [] => by simp [insU]
  | x :: xs => by
    have := insU_len r xs
    unfold insU
    split
    · simp only [List.length_cons]
      omega
    · split
      · simp
      · simp
theorem plTo_len {rs : List Ru} : ∀ k, k ≤ rs.length → (plTo rs k).length ≤ k
  | 0, _ => by simp [plTo]
  | k + 1, hk => by
    have ih := plTo_len k (rs := rs) (by omega)
    rw [plTo_succ (by omega)]
    have := insU_len rs[k] (plTo rs k)
    omega
theorem cells_one' {rs : List Ru} : ∀ u ∈ rs.flatMap Ru.cells, u.oneCell' = true := cells_one
theorem cell_four_new (w : World) (r : Ru) : ∀ j u, r.cells[j]? = some u → (w.alloc (.cells #[.bool r.deny, .string r.who, .string r.method, .string r.path] 41)).cell? ((⟨w.heap.size, 0, none⟩ : Addr).add j) = some u := by
  intro j u hu
  have hj : j < 4 := by have := (List.getElem?_eq_some_iff.1 hu).1; simpa using this
  obtain h | h | h | h : j = 0 ∨ j = 1 ∨ j = 2 ∨ j = 3 := by omega
  all_goals subst h
  all_goals simp at hu
  all_goals subst hu
  all_goals simp [Addr.add]
theorem row_take {w : World} {base g cap n m : Nat} {l : List Ru} (hrow : w.ownsRow base 41 4 (.slice (some ⟨g, 0, none⟩) n cap) n (l.flatMap Ru.cells)) (hm : m ≤ n) : ∀ j u, ((l.take m).flatMap Ru.cells)[j]? = some u → w.cell? ((⟨g, 0, none⟩ : Addr).add j) = some u := by
  intro j u hu
  rw [← flat_take] at hu
  have hj : j < m * 4 := by
    have := (List.getElem?_eq_some_iff.1 hu).1
    rw [List.length_take] at this
    omega
  rw [List.getElem?_take_of_lt hj] at hu
  rw [Addr.add_lit, Nat.zero_add, hrow.cellAt j (by omega)]
  exact hu
theorem flat_drop : ∀ (ys : List Ru) (k : Nat), (ys.flatMap Ru.cells).drop (k * 4) = (ys.drop k).flatMap Ru.cells
  | [], k => by simp
  | y :: ys, 0 => by simp
  | y :: ys, k + 1 => by
    rw [List.flatMap_cons, List.drop_succ_cons, ← flat_drop ys k, show (k + 1) * 4 = k * 4 + 4 by omega]
    rfl
theorem row_drop {w : World} {base g cap n m : Nat} {l : List Ru} (hrow : w.ownsRow base 41 4 (.slice (some ⟨g, 0, none⟩) n cap) n (l.flatMap Ru.cells)) (_hm : m ≤ n) : ∀ j u, ((l.drop m).flatMap Ru.cells)[j]? = some u → w.cell? ((⟨g, m * 4, none⟩ : Addr).add j) = some u := by
  intro j u hu
  rw [← flat_drop, List.getElem?_drop] at hu
  have hj : m * 4 + j < n * 4 := by
    have := (List.getElem?_eq_some_iff.1 hu).1
    rw [hrow.1] at this
    exact this
  rw [Addr.add_lit, hrow.cellAt (m * 4 + j) hj]
  exact hu
theorem below_draws1 (w : World) (q : Nat) : Below w.heap.size w (w.drewN q) := below_drewN (Below.refl _ _) q

set_option maxHeartbeats 4000000 in
set_option maxRecDepth 100000 in
theorem l2PlainW_any (v : Value) (rs : List Ru) (w : World) (hm : rs.length ≤ 64) (hf : ∀ r ∈ rs, r.size ≤ 1048576) (hr : RuS w v rs) :
    Calls Tryz.prog 19 #[v] w fun e w' => ∃ v', e = .returned v' ∧ w'.ownsRow w.heap.size 41 4 v' (plTo rs rs.length).length ((plTo rs rs.length).flatMap Ru.cells) ∧ Below w.heap.size w w' := by
  obtain ⟨a, cap, rfl⟩ := hr.len
  obtain ⟨i0, hi, hz0, hz1, hz2⟩ := info_parts infoRule
  go_enter Tryz.func19, Tryz.ntmps19
  go_wp2
  go_loopw [3, 10] (fun out i wr => ∃ k : Nat, k ≤ rs.length ∧ i = .int .i64 k ∧ wr.ownsRow w.heap.size 41 4 out (plTo rs k).length ((plTo rs k).flatMap Ru.cells) ∧ Below w.heap.size w wr) (fun _ i _ => rs.length - (intOf i).toNat)
  case atStart => exact ⟨0, Nat.zero_le _, rfl, World.ownsRow_nil _ _ _ _, Below.refl _ _⟩
  case round =>
    obtain ⟨k, hk, rfl, hrow, hB⟩ := hrel
    by_cases hlt : k < rs.length
    · obtain ⟨b, off, rfl, hb, hcap, y0, y1, y2, y3⟩ := (hr.below hB).at hlt
      have hzr := hf rs[k] (List.getElem_mem hlt)
      have hll := plTo_len k hk
      have hfl : ∀ x ∈ plTo rs k, x.size ≤ 1048576 := fun x hx => hf x (List.mem_of_mem_take ((plTo_mem k hk x).1 hx))
      have HSU := hid (plTo_succ hlt)
      have hlim : (plTo rs k).length ≤ 64 := by omega
      generalize plTo rs k = l at *
      generalize rs[k] = r at *
      have hBw : Below wr.heap.size wr (wr.alloc (.cells #[.bool r.deny, .string r.who, .string r.method, .string r.path] 41)) := (Below.refl _ wr).alloc (Nat.le_refl _) _
      have c0 : (wr.alloc (.cells #[.bool r.deny, .string r.who, .string r.method, .string r.path] 41)).cell? ⟨wr.heap.size, 0, none⟩ = some (.bool r.deny) := by simp
      have c1 : (wr.alloc (.cells #[.bool r.deny, .string r.who, .string r.method, .string r.path] 41)).cell? ⟨wr.heap.size, 1, none⟩ = some (.string r.who) := by simp
      have c2 : (wr.alloc (.cells #[.bool r.deny, .string r.who, .string r.method, .string r.path] 41)).cell? ⟨wr.heap.size, 2, none⟩ = some (.string r.method) := by simp
      have c3 : (wr.alloc (.cells #[.bool r.deny, .string r.who, .string r.method, .string r.path] 41)).cell? ⟨wr.heap.size, 3, none⟩ = some (.string r.path) := by simp
      have hzW : wr.heap.size < (wr.alloc (.cells #[.bool r.deny, .string r.who, .string r.method, .string r.path] 41)).heap.size := by simp
      have hrowW := ownsRow_below hrow hBw
      have hBW := below_one hB hBw
      rcases row_form hrow with ⟨rfl, hl0⟩ | ⟨g, capo, rfl, hg, hcapo⟩
      · obtain rfl : l = [] := List.eq_nil_of_length_eq_zero hl0
        go_wp2
        generalize (wr.alloc (.cells #[.bool r.deny, .string r.who, .string r.method, .string r.path] 41)) = W0 at *
        clear y0 y1 y2 y3 hrow hB hBw
        generalize wr.heap.size = bx at *
        refine wp_loop_rounds 1 ?_
        rw [rounds_succ]
        go_wp2_with fail
        go_quiet (fail)
        go_wp2_with fail
        replace hBW := below_drewN hBW nq
        replace c0 : (W0.drewN nq).cell? _ = _ := c0
        replace c1 : (W0.drewN nq).cell? _ = _ := c1
        replace c2 : (W0.drewN nq).cell? _ = _ := c2
        replace c3 : (W0.drewN nq).cell? _ = _ := c3
        clear hrowW hzW
        generalize W0.drewN nq = W1 at *
        go_quiet (fail)
        replace hBW := below_drewN hBW nq
        replace c0 : (W1.drewN nq).cell? _ = _ := c0
        replace c1 : (W1.drewN nq).cell? _ = _ := c1
        replace c2 : (W1.drewN nq).cell? _ = _ := c2
        replace c3 : (W1.drewN nq).cell? _ = _ := c3
        generalize W1.drewN nq = Wc at *
        have HIN := hid (show plTo rs (k + 1) = [r] by rw [HSU.out]; rfl)
        go_wp2_with (at_builtin; refine wpList_append_own _ rfl _ _ 23 rfl Wc.heap.size 41 i0 _ 4 56 Tryz.underlying23 hi hz0 hz1 hz2 rfl (by decide) _ _ _ rfl ((World.ownsRow_nil Wc Wc.heap.size 41 4).alloc _) ⟨Wc.heap.size, 0, none⟩ 1 1 r.cells rfl rfl (cell_four_new _ r) (by intro u hu; simp at hu; rcases hu with rfl | rfl | rfl | rfl <;> rfl) (by unfold maxLen; omega) (by omega) (by simp) ?_)
        intro v2 w2 hown2 hgrow2 _
        have hb2 : Below Wc.heap.size Wc w2 := below_appended (Nat.le_refl _) (World.ownsRow_nil Wc Wc.heap.size 41 4) hgrow2
        rcases row_form hown2 with ⟨_, h'⟩ | ⟨g2, cp2, rfl, _, hcp⟩
        · exact absurd h' (by omega)
        · clear c0 c1 c2 c3 hgrow2
          go_wp2
          go_roundw
          case rel => exact ⟨k + 1, by omega, by go_num, by rw [HIN.out]; exact Go.Joins.ownsRow_le hown2 hBW.size, below_one hBW hb2⟩
          case measure => simp [intOf]; omega
      · go_wp2
        generalize (wr.alloc (.cells #[.bool r.deny, .string r.who, .string r.method, .string r.path] 41)) = W0 at *
        clear y0 y1 y2 y3 hrow hB hBw
        generalize wr.heap.size = bx at *
        go_loopw [6] (fun i wq => ∃ m : Nat, m ≤ l.length ∧ i = .int .i64 m ∧ (∀ j (h : j < l.length), j < m → ltR l[j] r = true) ∧ Below W0.heap.size W0 wq) (fun i _ => l.length - (intOf i).toNat)
        case atStart => exact ⟨0, Nat.zero_le _, rfl, fun _ _ h => absurd h (Nat.not_lt_zero _), Below.refl _ _⟩
        case round =>
          obtain ⟨m, hml, rfl, hlts, hBq⟩ := hrel
          have HL := hid hlts
          clear hlts
          have hrowq := ownsRow_below hrowW hBq
          have b0 := (hBq.cell (p := ⟨bx, 0, none⟩) hzW).trans c0
          have b1 := (hBq.cell (p := ⟨bx, 1, none⟩) hzW).trans c1
          have b2 := (hBq.cell (p := ⟨bx, 2, none⟩) hzW).trans c2
          have b3 := (hBq.cell (p := ⟨bx, 3, none⟩) hzW).trans c3
          have hzq := Nat.lt_of_lt_of_le hzW hBq.size
          by_cases hlm : m < l.length
          · have dm : decide ((m : Int) < (l.length : Int)) = true := by simp; omega
            have hX := hfl l[m] (List.getElem_mem hlm)
            obtain ⟨x0, x1, x2, x3⟩ := row_ru hrowq hlm rfl _ rfl
            have hgq : g < wr.heap.size := cell_lt x0
            have HST := hid (fun (h : ltR l[m] r = true) => (fun j (hj : j < l.length) (hjm : j < m + 1) => (show ltR l[j] r = true by
              by_cases e : j = m
              · subst e
                exact h
              · exact HL.out j hj (by omega)) : ∀ j (hj : j < l.length), j < m + 1 → ltR l[j] r = true))
            have HKE := hid (fun h2 hs => ins_keep (r := r) hlm HL.out h2 hs)
            have HNE := hid (fun h2 hs => ins_new (r := r) hlm HL.out h2 hs)
            generalize l[m] = x at *
            cases ht : ltR x r
            · have et : Op.bytesLess x.text.toList r.text.toList = false := by rw [toList_data, toList_data]; exact ht
              have hse := eql_ru x r
              cases hsm : x.same r
              · have HIN := hid (show plTo rs (k + 1) = l.take m ++ r :: l.drop m by rw [HSU.out]; exact HNE.out ht hsm)
                rw [hsm] at hse
                have hM1 : True := trivial
                go_wp2_with fail
                go_region_held3 (fun w' => w'.cell? ⟨g, m * 4, none⟩ = some (.bool x.deny) ∧ w'.cell? ⟨g, m * 4 + 1, none⟩ = some (.string x.who) ∧ w'.cell? ⟨g, m * 4 + 2, none⟩ = some (.string x.method) ∧ w'.cell? ⟨g, m * 4 + 3, none⟩ = some (.string x.path) ∧ w'.cell? ⟨bx, 0, none⟩ = some (.bool r.deny) ∧ w'.cell? ⟨bx, 1, none⟩ = some (.string r.who) ∧ w'.cell? ⟨bx, 2, none⟩ = some (.string r.method) ∧ w'.cell? ⟨bx, 3, none⟩ = some (.string r.path)) (go_keep) (first | (go_at_call 48; clear hM1; refine (l2Text_any x _ hX).mono ?_; rintro e v1 ⟨rfl, hB1⟩; have x0_1 := (hB1.cell (p := ⟨g, m * 4, none⟩) (by exact hgq)).trans (by exact x0); have x1_1 := (hB1.cell (p := ⟨g, m * 4 + 1, none⟩) (by exact hgq)).trans (by exact x1); have x2_1 := (hB1.cell (p := ⟨g, m * 4 + 2, none⟩) (by exact hgq)).trans (by exact x2); have x3_1 := (hB1.cell (p := ⟨g, m * 4 + 3, none⟩) (by exact hgq)).trans (by exact x3); have b0_1 := (hB1.cell (p := ⟨bx, 0, none⟩) (by exact hzq)).trans (by exact b0); have b1_1 := (hB1.cell (p := ⟨bx, 1, none⟩) (by exact hzq)).trans (by exact b1); have b2_1 := (hB1.cell (p := ⟨bx, 2, none⟩) (by exact hzq)).trans (by exact b2); have b3_1 := (hB1.cell (p := ⟨bx, 3, none⟩) (by exact hzq)).trans (by exact b3); have hgq1 := Nat.lt_of_lt_of_le hgq hB1.size; have hzq1 := Nat.lt_of_lt_of_le hzq hB1.size) | (go_at_call 48; refine (l2Text_any r _ hzr).mono ?_; rintro e v2 ⟨rfl, hB2⟩; have x0_2 := (hB2.cell (p := ⟨g, m * 4, none⟩) (by exact hgq1)).trans (by exact x0_1); have x1_2 := (hB2.cell (p := ⟨g, m * 4 + 1, none⟩) (by exact hgq1)).trans (by exact x1_1); have x2_2 := (hB2.cell (p := ⟨g, m * 4 + 2, none⟩) (by exact hgq1)).trans (by exact x2_1); have x3_2 := (hB2.cell (p := ⟨g, m * 4 + 3, none⟩) (by exact hgq1)).trans (by exact x3_1); have b0_2 := (hB2.cell (p := ⟨bx, 0, none⟩) (by exact hzq1)).trans (by exact b0_1); have b1_2 := (hB2.cell (p := ⟨bx, 1, none⟩) (by exact hzq1)).trans (by exact b1_1); have b2_2 := (hB2.cell (p := ⟨bx, 2, none⟩) (by exact hzq1)).trans (by exact b2_1); have b3_2 := (hB2.cell (p := ⟨bx, 3, none⟩) (by exact hzq1)).trans (by exact b3_1); have hgq2 := Nat.lt_of_lt_of_le hgq1 hB2.size; have hzq2 := Nat.lt_of_lt_of_le hzq1 hB2.size))
                have hBq2 := below_one (below_one hBq (below_drew1 hB1)) hB2
                clear hB1 hB2 x0_1 b0_1 x0 b0 x1_1 b1_1 x1 b1 x2_1 b2_1 x2 b2 x3_1 b3_1 x3 b3
                go_wp2_with fail
                go_quiet (fail)
                replace hBq2 := below_drewN hBq2 nq
                replace b0_2 : (v2.drewN nq).cell? _ = _ := b0_2
                replace b1_2 : (v2.drewN nq).cell? _ = _ := b1_2
                replace b2_2 : (v2.drewN nq).cell? _ = _ := b2_2
                replace b3_2 : (v2.drewN nq).cell? _ = _ := b3_2
                replace hzq2 : bx < (v2.drewN nq).heap.size := hzq2
                clear x0_2 x1_2 x2_2 x3_2 hgq2
                generalize v2.drewN nq = Wc at *
                have hrowc := ownsRow_below hrowW hBq2
                have hBc := below_one hBW hBq2
                have b0 := b0_2
                have b1 := b1_2
                have b2 := b2_2
                have b3 := b3_2
                have hzc := hzq2
                clear b0_2 b1_2 b2_2 b3_2 hzq2 hrowq hBq2 hBq
                have hn1 : ((l.take m).flatMap Ru.cells).length = m * 4 := by rw [flat_len, List.length_take]; omega
                have hn2 : ((l.drop m).flatMap Ru.cells).length = (l.length - m) * 4 := by rw [flat_len, List.length_drop]
                have hc1 : ∀ j u, ((l.take m).flatMap Ru.cells)[j]? = some u → Wc.cell? ((⟨g, 0, none⟩ : Addr).add j) = some u := row_take hrowc (by omega)
                go_wp2_with (at_builtin; refine wpList_append_own _ rfl _ _ 23 rfl Wc.heap.size 41 i0 _ 4 56 Tryz.underlying23 hi hz0 hz1 hz2 rfl (by decide) _ _ _ rfl (World.ownsRow_nil Wc Wc.heap.size 41 4) ⟨g, 0, none⟩ m _ ((l.take m).flatMap Ru.cells) rfl hn1 hc1 cells_one' (by unfold maxLen; omega) (by omega) (Nat.le_refl _) ?_)
                intro v1 w1 hown1 hgrow1 _
                have hb1 : Below Wc.heap.size Wc w1 := (Below.refl _ Wc).grown hgrow1 (Nat.le_refl _) (fun k hk => by cases hk)
                have q0 := (hb1.cell (p := ⟨bx, 0, none⟩) hzc).trans b0
                have q1 := (hb1.cell (p := ⟨bx, 1, none⟩) hzc).trans b1
                have q2 := (hb1.cell (p := ⟨bx, 2, none⟩) hzc).trans b2
                have q3 := (hb1.cell (p := ⟨bx, 3, none⟩) hzc).trans b3
                have hz1c := hb1.size
                obtain ⟨a1, cp1, rfl⟩ := ownsRow_len hown1
                clear hc1 b0 b1 b2 b3 hgrow1
                go_wp2_with (at_builtin; refine wpList_append_own _ rfl _ _ 23 rfl Wc.heap.size 41 i0 _ 4 56 Tryz.underlying23 hi hz0 hz1 hz2 rfl (by decide) _ _ _ rfl (hown1.alloc _) ⟨w1.heap.size, 0, none⟩ 1 1 r.cells rfl rfl (cell_four_new _ r) (by intro u hu; simp at hu; rcases hu with rfl | rfl | rfl | rfl <;> rfl) (by unfold maxLen; omega) (by omega) (by simp; omega) ?_)
                intro v2 w2 hown2 hgrow2 _
                have hb2 : Below Wc.heap.size Wc w2 := hb1.trans (below_appended hz1c hown1 hgrow2)
                have hz2c := hb2.size
                have hrow2 := ownsRow_below hrowc hb2
                have hc2 : ∀ j u, ((l.drop m).flatMap Ru.cells)[j]? = some u → w2.cell? ((⟨g, m * 4, none⟩ : Addr).add j) = some u := row_drop hrow2 (by omega)
                obtain ⟨a2, cp2, rfl⟩ := ownsRow_len hown2
                clear q0 q1 q2 q3 hgrow2 hown1
                go_wp2_with (at_builtin; refine wpList_append_own _ rfl _ _ 23 rfl Wc.heap.size 41 i0 _ 4 56 Tryz.underlying23 hi hz0 hz1 hz2 rfl (by decide) _ _ _ rfl hown2 ⟨g, m * 4, none⟩ (l.length - m) (capo - m) ((l.drop m).flatMap Ru.cells) rfl hn2 hc2 cells_one' (by unfold maxLen; omega) (by omega) hz2c ?_)
                intro v3 w3 hown3 hgrow3 _
                have hb3 : Below Wc.heap.size Wc w3 := hb2.grown hgrow3 hz2c (fun k hk => (hown2.lt k hk).1)
                have HO := hid hown3
                obtain ⟨a3, cp3, rfl⟩ := ownsRow_len hown3
                clear hown3 hown2 hgrow3 hc2 hn1 hn2
                go_wp2
                go_roundw
                case rel =>
                  refine ⟨k + 1, by omega, by go_num, ?_, below_one hBc hb3⟩
                  rw [HIN.out]
                  have h3 := Go.Joins.ownsRow_le HO.out hBc.size
                  have hl3 : (l.take m ++ r :: l.drop m).length = m + 1 + (l.length - m) := by rw [List.length_append, List.length_take, List.length_cons, List.length_drop]; omega
                  rw [hl3]
                  have hf3 : (l.take m ++ r :: l.drop m).flatMap Ru.cells = (l.take m).flatMap Ru.cells ++ .bool r.deny :: .string r.who :: .string r.method :: .string r.path :: (l.drop m).flatMap Ru.cells := by rw [List.flatMap_append, List.flatMap_cons]; rfl
                  rw [hf3]
                  exact h3
                case measure => simp [intOf]; omega
              · have HIN := hid (show plTo rs (k + 1) = l by rw [HSU.out]; exact HKE.out ht hsm)
                rw [hsm] at hse
                have hM1 : True := trivial
                go_wp2_with fail
                go_region_held3 (fun w' => w'.cell? ⟨g, m * 4, none⟩ = some (.bool x.deny) ∧ w'.cell? ⟨g, m * 4 + 1, none⟩ = some (.string x.who) ∧ w'.cell? ⟨g, m * 4 + 2, none⟩ = some (.string x.method) ∧ w'.cell? ⟨g, m * 4 + 3, none⟩ = some (.string x.path) ∧ w'.cell? ⟨bx, 0, none⟩ = some (.bool r.deny) ∧ w'.cell? ⟨bx, 1, none⟩ = some (.string r.who) ∧ w'.cell? ⟨bx, 2, none⟩ = some (.string r.method) ∧ w'.cell? ⟨bx, 3, none⟩ = some (.string r.path)) (go_keep) (first | (go_at_call 48; clear hM1; refine (l2Text_any x _ hX).mono ?_; rintro e v1 ⟨rfl, hB1⟩; have x0_1 := (hB1.cell (p := ⟨g, m * 4, none⟩) (by exact hgq)).trans (by exact x0); have x1_1 := (hB1.cell (p := ⟨g, m * 4 + 1, none⟩) (by exact hgq)).trans (by exact x1); have x2_1 := (hB1.cell (p := ⟨g, m * 4 + 2, none⟩) (by exact hgq)).trans (by exact x2); have x3_1 := (hB1.cell (p := ⟨g, m * 4 + 3, none⟩) (by exact hgq)).trans (by exact x3); have b0_1 := (hB1.cell (p := ⟨bx, 0, none⟩) (by exact hzq)).trans (by exact b0); have b1_1 := (hB1.cell (p := ⟨bx, 1, none⟩) (by exact hzq)).trans (by exact b1); have b2_1 := (hB1.cell (p := ⟨bx, 2, none⟩) (by exact hzq)).trans (by exact b2); have b3_1 := (hB1.cell (p := ⟨bx, 3, none⟩) (by exact hzq)).trans (by exact b3); have hgq1 := Nat.lt_of_lt_of_le hgq hB1.size; have hzq1 := Nat.lt_of_lt_of_le hzq hB1.size) | (go_at_call 48; refine (l2Text_any r _ hzr).mono ?_; rintro e v2 ⟨rfl, hB2⟩; have x0_2 := (hB2.cell (p := ⟨g, m * 4, none⟩) (by exact hgq1)).trans (by exact x0_1); have x1_2 := (hB2.cell (p := ⟨g, m * 4 + 1, none⟩) (by exact hgq1)).trans (by exact x1_1); have x2_2 := (hB2.cell (p := ⟨g, m * 4 + 2, none⟩) (by exact hgq1)).trans (by exact x2_1); have x3_2 := (hB2.cell (p := ⟨g, m * 4 + 3, none⟩) (by exact hgq1)).trans (by exact x3_1); have b0_2 := (hB2.cell (p := ⟨bx, 0, none⟩) (by exact hzq1)).trans (by exact b0_1); have b1_2 := (hB2.cell (p := ⟨bx, 1, none⟩) (by exact hzq1)).trans (by exact b1_1); have b2_2 := (hB2.cell (p := ⟨bx, 2, none⟩) (by exact hzq1)).trans (by exact b2_1); have b3_2 := (hB2.cell (p := ⟨bx, 3, none⟩) (by exact hzq1)).trans (by exact b3_1); have hgq2 := Nat.lt_of_lt_of_le hgq1 hB2.size; have hzq2 := Nat.lt_of_lt_of_le hzq1 hB2.size))
                have hBq2 := below_one (below_one hBq (below_drew1 hB1)) hB2
                clear hB1 hB2 x0_1 b0_1 x0 b0 x1_1 b1_1 x1 b1 x2_1 b2_1 x2 b2 x3_1 b3_1 x3 b3
                go_wp2_with fail
                have hrow2 := ownsRow_below hrowW hBq2
                go_quiet (fail)
                go_wp2
                go_roundw
                case rel => exact ⟨k + 1, by omega, by go_num, by rw [HIN.out]; exact row_draws hrow2 _, below_drewN (below_one hBW hBq2) _⟩
                case measure => simp [intOf]; omega
            · have et : Op.bytesLess x.text.toList r.text.toList = true := by rw [toList_data, toList_data]; exact ht
              have HS1 := hid (HST.out ht)
              have hM1 : True := trivial
              go_wp2_with fail
              go_region_held3 (fun w' => w'.cell? ⟨g, m * 4, none⟩ = some (.bool x.deny) ∧ w'.cell? ⟨g, m * 4 + 1, none⟩ = some (.string x.who) ∧ w'.cell? ⟨g, m * 4 + 2, none⟩ = some (.string x.method) ∧ w'.cell? ⟨g, m * 4 + 3, none⟩ = some (.string x.path) ∧ w'.cell? ⟨bx, 0, none⟩ = some (.bool r.deny) ∧ w'.cell? ⟨bx, 1, none⟩ = some (.string r.who) ∧ w'.cell? ⟨bx, 2, none⟩ = some (.string r.method) ∧ w'.cell? ⟨bx, 3, none⟩ = some (.string r.path)) (go_keep) (first | (go_at_call 48; clear hM1; refine (l2Text_any x _ hX).mono ?_; rintro e v1 ⟨rfl, hB1⟩; have x0_1 := (hB1.cell (p := ⟨g, m * 4, none⟩) (by exact hgq)).trans (by exact x0); have x1_1 := (hB1.cell (p := ⟨g, m * 4 + 1, none⟩) (by exact hgq)).trans (by exact x1); have x2_1 := (hB1.cell (p := ⟨g, m * 4 + 2, none⟩) (by exact hgq)).trans (by exact x2); have x3_1 := (hB1.cell (p := ⟨g, m * 4 + 3, none⟩) (by exact hgq)).trans (by exact x3); have b0_1 := (hB1.cell (p := ⟨bx, 0, none⟩) (by exact hzq)).trans (by exact b0); have b1_1 := (hB1.cell (p := ⟨bx, 1, none⟩) (by exact hzq)).trans (by exact b1); have b2_1 := (hB1.cell (p := ⟨bx, 2, none⟩) (by exact hzq)).trans (by exact b2); have b3_1 := (hB1.cell (p := ⟨bx, 3, none⟩) (by exact hzq)).trans (by exact b3); have hgq1 := Nat.lt_of_lt_of_le hgq hB1.size; have hzq1 := Nat.lt_of_lt_of_le hzq hB1.size) | (go_at_call 48; refine (l2Text_any r _ hzr).mono ?_; rintro e v2 ⟨rfl, hB2⟩; have x0_2 := (hB2.cell (p := ⟨g, m * 4, none⟩) (by exact hgq1)).trans (by exact x0_1); have x1_2 := (hB2.cell (p := ⟨g, m * 4 + 1, none⟩) (by exact hgq1)).trans (by exact x1_1); have x2_2 := (hB2.cell (p := ⟨g, m * 4 + 2, none⟩) (by exact hgq1)).trans (by exact x2_1); have x3_2 := (hB2.cell (p := ⟨g, m * 4 + 3, none⟩) (by exact hgq1)).trans (by exact x3_1); have b0_2 := (hB2.cell (p := ⟨bx, 0, none⟩) (by exact hzq1)).trans (by exact b0_1); have b1_2 := (hB2.cell (p := ⟨bx, 1, none⟩) (by exact hzq1)).trans (by exact b1_1); have b2_2 := (hB2.cell (p := ⟨bx, 2, none⟩) (by exact hzq1)).trans (by exact b2_1); have b3_2 := (hB2.cell (p := ⟨bx, 3, none⟩) (by exact hzq1)).trans (by exact b3_1); have hgq2 := Nat.lt_of_lt_of_le hgq1 hB2.size; have hzq2 := Nat.lt_of_lt_of_le hzq1 hB2.size))
              have hBq2 := below_one (below_one hBq (below_drew1 hB1)) hB2
              clear hB1 hB2 x0_1 b0_1 x0 b0 x1_1 b1_1 x1 b1 x2_1 b2_1 x2 b2 x3_1 b3_1 x3 b3
              go_wp2
              go_roundw
              case rel => first | exact ⟨m + 1, by omega, by go_num, HS1.out, hBq2⟩ | ((repeat apply Exists.intro); exact ⟨⟨m + 1, by omega, by go_num, HS1.out, hBq2⟩, rfl⟩)
              case measure => simp [intOf]; omega
          · have HME := hid (show m = l.length by omega)
            have dm : decide ((m : Int) < (l.length : Int)) = false := by simp; omega
            have HIN := hid (show plTo rs (k + 1) = l.take m ++ r :: l.drop m by
              rw [HSU.out, HME.out]
              exact ins_end (fun j hj _ => HL.out j hj (by have := HME.out; omega)))
            go_wp2_with fail
            go_quiet (fail)
            go_wp2_with fail
            replace hBq := below_drewN hBq nq
            replace b0 : (wr.drewN nq).cell? _ = _ := b0
            replace b1 : (wr.drewN nq).cell? _ = _ := b1
            replace b2 : (wr.drewN nq).cell? _ = _ := b2
            replace b3 : (wr.drewN nq).cell? _ = _ := b3
            replace hzq : bx < (wr.drewN nq).heap.size := hzq
            clear hrowq
            generalize wr.drewN nq = Wb at *
            go_quiet (fail)
            replace hBq := below_drewN hBq nq
            replace b0 : (Wb.drewN nq).cell? _ = _ := b0
            replace b1 : (Wb.drewN nq).cell? _ = _ := b1
            replace b2 : (Wb.drewN nq).cell? _ = _ := b2
            replace b3 : (Wb.drewN nq).cell? _ = _ := b3
            replace hzq : bx < (Wb.drewN nq).heap.size := hzq
            generalize Wb.drewN nq = Wc at *
            have hrowc := ownsRow_below hrowW hBq
            have hBc := below_one hBW hBq
            have hzc := hzq
            clear hBq hzq
            by_cases hcm : capo = m
            ·
              have hn1 : ((l.take m).flatMap Ru.cells).length = m * 4 := by rw [flat_len, List.length_take]; omega
              have hn2 : ((l.drop m).flatMap Ru.cells).length = (l.length - m) * 4 := by rw [flat_len, List.length_drop]
              have hc1 : ∀ j u, ((l.take m).flatMap Ru.cells)[j]? = some u → Wc.cell? ((⟨g, 0, none⟩ : Addr).add j) = some u := row_take hrowc (by omega)
              go_wp2_with (at_builtin; refine wpList_append_own _ rfl _ _ 23 rfl Wc.heap.size 41 i0 _ 4 56 Tryz.underlying23 hi hz0 hz1 hz2 rfl (by decide) _ _ _ rfl (World.ownsRow_nil Wc Wc.heap.size 41 4) ⟨g, 0, none⟩ m _ ((l.take m).flatMap Ru.cells) rfl hn1 hc1 cells_one' (by unfold maxLen; omega) (by omega) (Nat.le_refl _) ?_)
              intro v1 w1 hown1 hgrow1 _
              have hb1 : Below Wc.heap.size Wc w1 := (Below.refl _ Wc).grown hgrow1 (Nat.le_refl _) (fun k hk => by cases hk)
              have q0 := (hb1.cell (p := ⟨bx, 0, none⟩) hzc).trans b0
              have q1 := (hb1.cell (p := ⟨bx, 1, none⟩) hzc).trans b1
              have q2 := (hb1.cell (p := ⟨bx, 2, none⟩) hzc).trans b2
              have q3 := (hb1.cell (p := ⟨bx, 3, none⟩) hzc).trans b3
              have hz1c := hb1.size
              obtain ⟨a1, cp1, rfl⟩ := ownsRow_len hown1
              clear hc1 b0 b1 b2 b3 hgrow1
              go_wp2_with (at_builtin; refine wpList_append_own _ rfl _ _ 23 rfl Wc.heap.size 41 i0 _ 4 56 Tryz.underlying23 hi hz0 hz1 hz2 rfl (by decide) _ _ _ rfl (hown1.alloc _) ⟨w1.heap.size, 0, none⟩ 1 1 r.cells rfl rfl (cell_four_new _ r) (by intro u hu; simp at hu; rcases hu with rfl | rfl | rfl | rfl <;> rfl) (by unfold maxLen; omega) (by omega) (by simp; omega) ?_)
              intro v2 w2 hown2 hgrow2 _
              have hb2 : Below Wc.heap.size Wc w2 := hb1.trans (below_appended hz1c hown1 hgrow2)
              have hz2c := hb2.size
              have hrow2 := ownsRow_below hrowc hb2
              obtain ⟨a2, cp2, rfl⟩ := ownsRow_len hown2
              clear q0 q1 q2 q3 hgrow2 hown1
              go_wp2_with (at_builtin; refine wpList_append_own _ rfl _ _ 23 rfl Wc.heap.size 41 i0 _ 4 56 Tryz.underlying23 hi hz0 hz1 hz2 rfl (by decide) _ _ _ rfl hown2 _ (l.length - m) _ [] rfl (by have := HME.out; simp; omega) (fun j u h => by cases h) (fun u h => by cases h) (by unfold maxLen; omega) (by omega) hz2c ?_)
              all_goals intro v3 w3 hown3 hgrow3 _
              all_goals have hb3 : Below Wc.heap.size Wc w3 := hb2.grown hgrow3 hz2c (fun k hk => (hown2.lt k hk).1)
              all_goals have HO := hid hown3
              all_goals obtain ⟨a3, cp3, rfl⟩ := ownsRow_len hown3
              all_goals clear hown3 hown2 hgrow3 hn1 hn2
              all_goals go_wp2
              all_goals go_roundw
              all_goals first
                | (simp [intOf]; omega)
                | (refine ⟨k + 1, by omega, by go_num, ?_, below_one hBc hb3⟩
                   rw [HIN.out]
                   have h3 := Go.Joins.ownsRow_le HO.out hBc.size
                   have hl3 : (l.take m ++ r :: l.drop m).length = m + 1 + (l.length - m) := by rw [List.length_append, List.length_take, List.length_cons, List.length_drop]; omega
                   rw [hl3]
                   have hd3 : l.drop m = [] := List.drop_eq_nil_of_le (by have := HME.out; omega)
                   have hf3 : (l.take m ++ r :: l.drop m).flatMap Ru.cells = (l.take m).flatMap Ru.cells ++ r.cells := by rw [hd3, List.flatMap_append, List.flatMap_cons]; rfl
                   rw [hf3]
                   first | exact h3 | simpa using h3)
            ·
              have hn1 : ((l.take m).flatMap Ru.cells).length = m * 4 := by rw [flat_len, List.length_take]; omega
              have hn2 : ((l.drop m).flatMap Ru.cells).length = (l.length - m) * 4 := by rw [flat_len, List.length_drop]
              have hc1 : ∀ j u, ((l.take m).flatMap Ru.cells)[j]? = some u → Wc.cell? ((⟨g, 0, none⟩ : Addr).add j) = some u := row_take hrowc (by omega)
              go_wp2_with (at_builtin; refine wpList_append_own _ rfl _ _ 23 rfl Wc.heap.size 41 i0 _ 4 56 Tryz.underlying23 hi hz0 hz1 hz2 rfl (by decide) _ _ _ rfl (World.ownsRow_nil Wc Wc.heap.size 41 4) ⟨g, 0, none⟩ m _ ((l.take m).flatMap Ru.cells) rfl hn1 hc1 cells_one' (by unfold maxLen; omega) (by omega) (Nat.le_refl _) ?_)
              intro v1 w1 hown1 hgrow1 _
              have hb1 : Below Wc.heap.size Wc w1 := (Below.refl _ Wc).grown hgrow1 (Nat.le_refl _) (fun k hk => by cases hk)
              have q0 := (hb1.cell (p := ⟨bx, 0, none⟩) hzc).trans b0
              have q1 := (hb1.cell (p := ⟨bx, 1, none⟩) hzc).trans b1
              have q2 := (hb1.cell (p := ⟨bx, 2, none⟩) hzc).trans b2
              have q3 := (hb1.cell (p := ⟨bx, 3, none⟩) hzc).trans b3
              have hz1c := hb1.size
              obtain ⟨a1, cp1, rfl⟩ := ownsRow_len hown1
              clear hc1 b0 b1 b2 b3 hgrow1
              go_wp2_with (at_builtin; refine wpList_append_own _ rfl _ _ 23 rfl Wc.heap.size 41 i0 _ 4 56 Tryz.underlying23 hi hz0 hz1 hz2 rfl (by decide) _ _ _ rfl (hown1.alloc _) ⟨w1.heap.size, 0, none⟩ 1 1 r.cells rfl rfl (cell_four_new _ r) (by intro u hu; simp at hu; rcases hu with rfl | rfl | rfl | rfl <;> rfl) (by unfold maxLen; omega) (by omega) (by simp; omega) ?_)
              intro v2 w2 hown2 hgrow2 _
              have hb2 : Below Wc.heap.size Wc w2 := hb1.trans (below_appended hz1c hown1 hgrow2)
              have hz2c := hb2.size
              have hrow2 := ownsRow_below hrowc hb2
              obtain ⟨a2, cp2, rfl⟩ := ownsRow_len hown2
              clear q0 q1 q2 q3 hgrow2 hown1
              go_wp2_with (at_builtin; refine wpList_append_own _ rfl _ _ 23 rfl Wc.heap.size 41 i0 _ 4 56 Tryz.underlying23 hi hz0 hz1 hz2 rfl (by decide) _ _ _ rfl hown2 _ (l.length - m) _ [] rfl (by have := HME.out; simp; omega) (fun j u h => by cases h) (fun u h => by cases h) (by unfold maxLen; omega) (by omega) hz2c ?_)
              all_goals intro v3 w3 hown3 hgrow3 _
              all_goals have hb3 : Below Wc.heap.size Wc w3 := hb2.grown hgrow3 hz2c (fun k hk => (hown2.lt k hk).1)
              all_goals have HO := hid hown3
              all_goals obtain ⟨a3, cp3, rfl⟩ := ownsRow_len hown3
              all_goals clear hown3 hown2 hgrow3 hn1 hn2
              all_goals go_wp2
              all_goals go_roundw
              all_goals first
                | (simp [intOf]; omega)
                | (refine ⟨k + 1, by omega, by go_num, ?_, below_one hBc hb3⟩
                   rw [HIN.out]
                   have h3 := Go.Joins.ownsRow_le HO.out hBc.size
                   have hl3 : (l.take m ++ r :: l.drop m).length = m + 1 + (l.length - m) := by rw [List.length_append, List.length_take, List.length_cons, List.length_drop]; omega
                   rw [hl3]
                   have hd3 : l.drop m = [] := List.drop_eq_nil_of_le (by have := HME.out; omega)
                   have hf3 : (l.take m ++ r :: l.drop m).flatMap Ru.cells = (l.take m).flatMap Ru.cells ++ r.cells := by rw [hd3, List.flatMap_append, List.flatMap_cons]; rfl
                   rw [hf3]
                   first | exact h3 | simpa using h3)
    · obtain rfl : k = rs.length := by omega
      go_wp2
      go_ret
      exact ⟨_, rfl, hrow, hB⟩

theorem l2Plain_any (v : Value) (rs : List Ru) (w : World) (hm : rs.length ≤ 30) (hf : ∀ r ∈ rs, r.size ≤ 1048576) (hr : RuS w v rs) :
    Calls Tryz.prog 19 #[v] w fun e w' => ∃ v', e = .returned v' ∧ w'.ownsRow w.heap.size 41 4 v' (plTo rs rs.length).length ((plTo rs rs.length).flatMap Ru.cells) ∧ Below w.heap.size w w' :=
  l2PlainW_any v rs w (by omega) hf hr

end Go.Proofs.YtoaeckcenobfcaaGreat

namespace Go.Proofs.YtoaeckcenobfcaaGreat
open Go.RowKit Go.Shelf

set_option maxHeartbeats 2000000 in
theorem l5SameRules_any (v v' : Value) (rs ss : List Ru) (w : World) (_hm : rs.length ≤ 1048577) (hm' : ss.length ≤ 1048577) (hr : RuS w v rs) (hr' : RuS w v' ss) :
    Calls Tryz.prog 59 #[v, v'] w fun e w' => e = .returned (.bool (sameS rs ss)) ∧ Below w.heap.size w w' := by
  obtain ⟨a, cap, rfl⟩ := hr.len
  obtain ⟨a', cap', rfl⟩ := hr'.len
  by_cases hl : rs.length = ss.length
  · have e0 : ((rs.length : Int) != (ss.length : Int)) = false := by simp; omega
    have hl1 : rs.length ≤ ss.length := by omega
    have HL := hid hl
    clear hl
    go_enter Tryz.func59, Tryz.ntmps59
    go_wp2
    go_loopw [13] (fun i wr => ∃ k : Nat, k ≤ rs.length ∧ i = .int .i64 k ∧ sameTo rs ss k = true ∧ Below w.heap.size w wr) (fun i _ => rs.length - (intOf i).toNat)
    case atStart => exact ⟨0, Nat.zero_le _, rfl, sameTo_zero _ _, Below.refl _ _⟩
    case round =>
      obtain ⟨k, hk, rfl, hs, hB⟩ := hrel
      have HS := hid hs
      clear hs
      by_cases hlt : k < rs.length
      · have hlt' : k < ss.length := by omega
        obtain ⟨b, off, rfl, hb, hcap, q0, q1, q2, q3⟩ := (hr.below hB).at hlt
        obtain ⟨b', off', rfl, hb', hcap', p0, p1, p2, p3⟩ := (hr'.below hB).at hlt'
        have HT := hid (sameTo_succ hlt hlt')
        generalize rs[k] = r at *
        generalize ss[k] = s at *
        have hne := neq_ru r s
        cases hq : r.same s
        · have HR := hid (show sameS rs ss = false from same_bad (by rw [HT.out, hq, Bool.and_false]))
          go_wp2_with fail
          go_quiet (fail)
          go_wp2
          go_ret
          exact ⟨ret_bool HR.out.symm, below_drewn hB _⟩
        · have HR := hid (show sameTo rs ss (k + 1) = true by rw [HT.out, HS.out, hq]; rfl)
          go_wp2_with fail
          go_quiet (fail)
          go_wp2
          go_roundw
          case rel => exact ⟨k + 1, by omega, by go_num, HR.out, below_drewn hB _⟩
          case measure => simp [intOf]; omega
      · obtain rfl : k = rs.length := by omega
        have HR := hid (show sameS rs ss = true by rw [← same_end HL.out]; exact HS.out)
        go_wp2
        go_ret
        exact ⟨ret_bool HR.out.symm, hB⟩
  · have e0 : ((rs.length : Int) != (ss.length : Int)) = true := by simp; omega
    have HR := hid (show sameS rs ss = false by unfold sameS; rw [decide_eq_false hl]; rfl)
    clear hl
    go_enter Tryz.func59, Tryz.ntmps59
    go_wp2
    go_ret
    exact ⟨ret_bool HR.out.symm, Below.refl _ _⟩

/-- Numbers that rise, at most two hundred serials. -/
def riB (zs : List Int) : Bool := fewB zs && upN zs
theorem riB_no1 {zs : List Int} (h : okN 100001 zs = false) : riB zs = false := by unfold riB; rw [fewB_no2 h]; rfl
theorem riB_no2 {zs : List Int} (h : upN zs = false) : riB zs = false := by unfold riB; rw [h]; simp
theorem riB_len {zs : List Int} (h1 : okN 100001 zs = true) (h2 : upN zs = true) : riB zs = decide (zs.length ≤ 200) := by
  unfold riB fewB
  rw [h1, h2]
  simp

set_option maxHeartbeats 4000000 in
theorem l5Rising_any (v : Value) (zs : List Int) (w : World) (hm : zs.length ≤ 1048577) (hr : VS w v (nums zs)) :
    Calls Tryz.prog 60 #[v] w fun e w' => e = .returned (.bool (riB zs)) ∧ w' = w := by
  obtain ⟨a, cap, rfl⟩ := hr.numLen
  go_enter Tryz.func60, Tryz.ntmps60
  go_wp2
  go_loop [7] (fun i => ∃ n : Nat, n ≤ zs.length ∧ i = .int .i64 n ∧ ∀ j (hj : j < zs.length), j < n → (1 ≤ zs[j] ∧ zs[j] < 100001) ∧ upI zs j = true) (fun i => zs.length - (intOf i).toNat)
  case atStart => exact ⟨0, Nat.zero_le _, rfl, fun _ _ h => absurd h (Nat.not_lt_zero _)⟩
  case round =>
    obtain ⟨n, hn, rfl, ht⟩ := hrel
    have HT := hid ht
    clear ht
    by_cases hlt : n < zs.length
    · obtain ⟨b, off, rfl, hb, hcap, q0⟩ := hr.num hlt
      have HN := hid (fun h => riB_no1 (okN_no (nx := 100001) (zs := zs) hlt h))
      have HU := hid (fun h => riB_no2 (upN_no (zs := zs) hlt h))
      have HS := hid (show (1 ≤ zs[n] ∧ zs[n] < 100001) → upI zs n = true → ∀ j (hj : j < zs.length), j < n + 1 → (1 ≤ zs[j] ∧ zs[j] < 100001) ∧ upI zs j = true from fun h hu j hj hjn => by
        by_cases e : j = n
        · subst e; exact ⟨h, hu⟩
        · exact HT.out j hj (by omega))
      rcases Nat.eq_zero_or_pos n with rfl | hpos
      · have HZ := hid (show upI zs 0 = true from rfl)
        rw [Nat.add_zero] at q0
        generalize zs[0] = x at *
        by_cases hx : 1 ≤ x ∧ x < 100001
        · have hin : inB 1 100000 x = true := decide_eq_true (by omega)
          have HR := hid (HS.out hx HZ.out)
          clear hx
          go_wp2_with (go_at_call 57; refine (l1In_any x 1 100000 _).mono ?_; rintro e w1 ⟨rfl, rfl⟩; rw [hin])
          exact ⟨⟨1, by omega, by go_num, HR.out⟩, by simp [intOf]; omega⟩
        · have hin : inB 1 100000 x = false := decide_eq_false (by omega)
          have HR := hid (HN.out hx)
          clear hx
          go_wp2_with (go_at_call 57; refine (l1In_any x 1 100000 _).mono ?_; rintro e w1 ⟨rfl, rfl⟩; rw [hin])
          go_ret
          exact ⟨ret_bool HR.out.symm, rfl⟩
      · obtain ⟨m, hm1⟩ : ∃ m, n = m + 1 := ⟨n - 1, by omega⟩
        obtain ⟨b', off', hbo, _, _, p0⟩ := hr.num (i := m) (by omega)
        cases hbo
        have HI := hid (show upI zs n = decide ((zs[m]'(by omega)) < zs[n]) by subst hm1; exact upI_succ hlt)
        have hw1 : IntKind.i64.wrap ((n : Int) - 1) = (m : Int) := by rw [IntKind.wrap_i64]; omega
        have hl1 : (0 : Int) < (n : Int) := by omega
        have hl2 : (m : Int) < (zs.length : Int) := by omega
        generalize zs[n] = x at *
        generalize zs[m] = y at *
        clear hm1 hpos
        by_cases hx : 1 ≤ x ∧ x < 100001
        · have hin : inB 1 100000 x = true := decide_eq_true (by omega)
          by_cases hyx : y < x
          · have HR := hid (HS.out hx (by rw [HI.out]; exact decide_eq_true hyx))
            have hd : decide (x ≤ y) = false := decide_eq_false (by omega)
            clear hx
            go_wp2_with (go_at_call 57; refine (l1In_any x 1 100000 _).mono ?_; rintro e w1 ⟨rfl, rfl⟩; rw [hin])
            exact ⟨⟨n + 1, by omega, by go_num, HR.out⟩, by simp [intOf]; omega⟩
          · have HR := hid (HU.out (by rw [HI.out]; exact decide_eq_false hyx))
            have hd : decide (x ≤ y) = true := decide_eq_true (by omega)
            clear hx
            go_wp2_with (go_at_call 57; refine (l1In_any x 1 100000 _).mono ?_; rintro e w1 ⟨rfl, rfl⟩; rw [hin])
            go_ret
            exact ⟨ret_bool HR.out.symm, rfl⟩
        · have hin : inB 1 100000 x = false := decide_eq_false (by omega)
          have HR := hid (HN.out hx)
          clear hx
          go_wp2_with (go_at_call 57; refine (l1In_any x 1 100000 _).mono ?_; rintro e w1 ⟨rfl, rfl⟩; rw [hin])
          go_ret
          exact ⟨ret_bool HR.out.symm, rfl⟩
    · obtain rfl : n = zs.length := by omega
      have HR := hid (riB_len (okN_yes fun i hi => (HT.out i hi hi).1) (upN_yes fun i hi => (HT.out i hi hi).2))
      go_wp2
      go_ret
      exact ⟨ret_bool (by rw [HR.out]; exact decide_eq_decide.2 (by omega)), rfl⟩

set_option maxHeartbeats 8000000 in
theorem specGoodSnapshot_any (v : Value) (s : Sn) (w : World) (hs : s.short) (h : SnA w v s) :
    Calls Tryz.prog 27 #[v] w fun e w' => e = .returned (.bool (snB s)) ∧ Below w.heap.size w w' := by
  obtain ⟨vp, vr, rfl, h1, h2⟩ := h
  obtain ⟨l1, l2, hz⟩ := hs
  obtain ⟨ap, cp, rfl⟩ := h1.len
  obtain ⟨ar, cr, rfl⟩ := h2.numLen
  have hB0 : Below w.heap.size w (w.alloc (.cells #[.int .i64 s.num, .slice ap s.pol.length cp, .slice ar s.rv.length cr] 26)) := (Below.refl _ w).alloc (Nat.le_refl _) _
  have F := Three.new w (.int .i64 s.num) (.slice ap s.pol.length cp) (.slice ar s.rv.length cr) 26
  have hlt0 := F.lt
  have h1d := (h1.below hB0).below (Below.refl _ _).drew
  have h2d := (h2.below hB0).below (Below.refl _ _).drew
  obtain ⟨a0, a1, a2⟩ := F.c
  cases hin : inB 1 100000 s.num
  · have HR := hid (snB_no1 (s := s) hin)
    go_enter Tryz.func27, Tryz.ntmps27
    go_wp2_with fail
    generalize w.alloc (.cells #[.int .i64 s.num, .slice ap s.pol.length cp, .slice ar s.rv.length cr] 26) = W0 at *
    refine wp_region_held_drew (S := fun w' => w'.cell? ⟨w.heap.size, 0, none⟩ = some (.int .i64 s.num) ∧ w'.cell? ⟨w.heap.size, 1, none⟩ = some (.slice ap s.pol.length cp) ∧ w'.cell? ⟨w.heap.size, 2, none⟩ = some (.slice ar s.rv.length cr)) (by kernel_rfl) ?_ (fun hHeld => ?_)
    · go_keep
    refine takeW 0 (v := ?v1) rfl (by kernel_rfl) (by kernel_rfl) (by kernel_rfl) (fun _ _ _ h => h) (by rfl) (by assumption) ?hy1 ?rest1
    case hy1 => intro w' hSw; (try dsimp only at hSw); go_simp; try with_reducible rfl
    try simp only [Act.put, List.setIfInBounds_toArray, List.set_cons_zero, List.set_cons_succ]
    refine takeW 1 (v := ?v2) rfl (by kernel_rfl) (by kernel_rfl) (by kernel_rfl) (fun _ _ _ h => h) (by rfl) (by assumption) ?hy2 ?rest2
    case hy2 => intro w' hSw; (try dsimp only at hSw); go_simp; try with_reducible rfl
    try simp only [Act.put, List.setIfInBounds_toArray, List.set_cons_zero, List.set_cons_succ]
    refine takeC 2 (by kernel_rfl) rfl (fun K hK => ?_)
    go_simp
    refine (l1In_any s.num 1 100000 _).mono ?_; rintro e w1 ⟨he1, rfl⟩; rw [hin] at he1; subst he1
    refine hK.out _ _ ?_ (fun hHeld => ?_)
    · go_keep
    clear hK K
    try simp only [Act.put, List.setIfInBounds_toArray, List.set_cons_zero, List.set_cons_succ]
    refine takeW 3 (v := ?v3) rfl (by kernel_rfl) (by kernel_rfl) (by kernel_rfl) (fun _ _ _ h => h) (by rfl) (by assumption) ?hy3 ?rest3
    case hy3 => intro w' hSw; (try dsimp only at hSw); go_simp; try with_reducible rfl
    try simp only [Act.put, List.setIfInBounds_toArray, List.set_cons_zero, List.set_cons_succ]
    refine takeX 4 rfl (by kernel_rfl) (by kernel_rfl) (by kernel_rfl) (fun _ _ _ h => h) (by rfl) (by assumption) ?_
    try simp only [Act.put, List.setIfInBounds_toArray, List.set_cons_zero, List.set_cons_succ]
    refine takeX 5 rfl (by kernel_rfl) (by kernel_rfl) (by kernel_rfl) (fun _ _ _ h => h) (by rfl) (by assumption) ?_
    try simp only [Act.put, List.setIfInBounds_toArray, List.set_cons_zero, List.set_cons_succ]
    refine takeX 6 rfl (by kernel_rfl) (by kernel_rfl) (by kernel_rfl) (fun _ _ _ h => h) (by rfl) (by assumption) ?_
    try simp only [Act.put, List.setIfInBounds_toArray, List.set_cons_zero, List.set_cons_succ]
    refine takeW 7 (v := ?v4) rfl (by kernel_rfl) (by kernel_rfl) (by kernel_rfl) (fun _ _ _ h => h) (by rfl) (by assumption) ?hy4 ?rest4
    case hy4 => intro w' hSw; (try dsimp only at hSw); go_simp; try with_reducible rfl
    try simp only [Act.put, List.setIfInBounds_toArray, List.set_cons_zero, List.set_cons_succ]
    refine takeW 8 (v := ?v5) rfl (by kernel_rfl) (by kernel_rfl) (by kernel_rfl) (fun _ _ _ h => h) (by rfl) (by assumption) ?hy5 ?rest5
    case hy5 => intro w' hSw; (try dsimp only at hSw); go_simp; try with_reducible rfl
    try simp only [Act.put, List.setIfInBounds_toArray, List.set_cons_zero, List.set_cons_succ]
    refine takeX 9 rfl (by kernel_rfl) (by kernel_rfl) (by kernel_rfl) (fun _ _ _ h => h) (by rfl) (by assumption) ?_
    try simp only [Act.put, List.setIfInBounds_toArray, List.set_cons_zero, List.set_cons_succ]
    refine takeX 10 rfl (by kernel_rfl) (by kernel_rfl) (by kernel_rfl) (fun _ _ _ h => h) (by rfl) (by assumption) ?_
    try simp only [Act.put, List.setIfInBounds_toArray, List.set_cons_zero, List.set_cons_succ]
    refine takeX 11 rfl (by kernel_rfl) (by kernel_rfl) (by kernel_rfl) (fun _ _ _ h => h) (by rfl) (by assumption) ?_
    try simp only [Act.put, List.setIfInBounds_toArray, List.set_cons_zero, List.set_cons_succ]
    refine takeX 12 rfl (by kernel_rfl) (by kernel_rfl) (by kernel_rfl) (fun _ _ _ h => h) (by rfl) (by assumption) ?_
    try simp only [Act.put, List.setIfInBounds_toArray, List.set_cons_zero, List.set_cons_succ]
    refine takeX 13 rfl (by kernel_rfl) (by kernel_rfl) (by kernel_rfl) (fun _ _ _ h => h) (by rfl) (by assumption) ?_
    try simp only [Act.put, List.setIfInBounds_toArray, List.set_cons_zero, List.set_cons_succ]
    refine takeX 14 rfl (by kernel_rfl) (by kernel_rfl) (by kernel_rfl) (fun _ _ _ h => h) (by rfl) (by assumption) ?_
    try simp only [Act.put, List.setIfInBounds_toArray, List.set_cons_zero, List.set_cons_succ]
    refine takeW 15 (v := ?v6) rfl (by kernel_rfl) (by kernel_rfl) (by kernel_rfl) (fun _ _ _ h => h) (by rfl) (by assumption) ?hy6 ?rest6
    case hy6 => intro w' hSw; (try dsimp only at hSw); go_simp; try with_reducible rfl
    try simp only [Act.put, List.setIfInBounds_toArray, List.set_cons_zero, List.set_cons_succ]
    refine takeW 16 (v := ?v7) rfl (by kernel_rfl) (by kernel_rfl) (by kernel_rfl) (fun _ _ _ h => h) (by rfl) (by assumption) ?hy7 ?rest7
    case hy7 => intro w' hSw; (try dsimp only at hSw); go_simp; try with_reducible rfl
    try simp only [Act.put, List.setIfInBounds_toArray, List.set_cons_zero, List.set_cons_succ]
    refine takeX 17 rfl (by kernel_rfl) (by kernel_rfl) (by kernel_rfl) (fun _ _ _ h => h) (by rfl) (by assumption) ?_
    try simp only [Act.put, List.setIfInBounds_toArray, List.set_cons_zero, List.set_cons_succ]
    refine takeX 18 rfl (by kernel_rfl) (by kernel_rfl) (by kernel_rfl) (fun _ _ _ h => h) (by rfl) (by assumption) ?_
    try simp only [Act.put, List.setIfInBounds_toArray, List.set_cons_zero, List.set_cons_succ]
    refine takeX 19 rfl (by kernel_rfl) (by kernel_rfl) (by kernel_rfl) (fun _ _ _ h => h) (by rfl) (by assumption) ?_
    try simp only [Act.put, List.setIfInBounds_toArray, List.set_cons_zero, List.set_cons_succ]
    refine takeW 20 (v := ?v8) rfl (by kernel_rfl) (by kernel_rfl) (by kernel_rfl) (fun _ _ _ h => h) (by rfl) (by assumption) ?hy8 ?rest8
    case hy8 => intro w' hSw; (try dsimp only at hSw); go_simp; try with_reducible rfl
    try simp only [Act.put, List.setIfInBounds_toArray, List.set_cons_zero, List.set_cons_succ]
    refine takeW 21 (v := ?v9) rfl (by kernel_rfl) (by kernel_rfl) (by kernel_rfl) (fun _ _ _ h => h) (by rfl) (by assumption) ?hy9 ?rest9
    case hy9 => intro w' hSw; (try dsimp only at hSw); go_simp; try with_reducible rfl
    try simp only [Act.put, List.setIfInBounds_toArray, List.set_cons_zero, List.set_cons_succ]
    refine wpAnyH_done (by kernel_rfl) ?_ _
    go_wp2_with fail
    go_ret
    exact ⟨ret_bool HR.out.symm, below_one hB0 (Below.refl _ _).drew⟩
  have HN := hid (show numB s.num = true from hin)
  cases hpo : polB s.pol
  · have HR := hid (snB_no2 hpo)
    go_enter Tryz.func27, Tryz.ntmps27
    go_wp2_with fail
    generalize w.alloc (.cells #[.int .i64 s.num, .slice ap s.pol.length cp, .slice ar s.rv.length cr] 26) = W0 at *
    refine wp_region_held_drew (S := fun w' => w'.cell? ⟨w.heap.size, 0, none⟩ = some (.int .i64 s.num) ∧ w'.cell? ⟨w.heap.size, 1, none⟩ = some (.slice ap s.pol.length cp) ∧ w'.cell? ⟨w.heap.size, 2, none⟩ = some (.slice ar s.rv.length cr)) (by kernel_rfl) ?_ (fun hHeld => ?_)
    · go_keep
    refine takeW 0 (v := ?v10) rfl (by kernel_rfl) (by kernel_rfl) (by kernel_rfl) (fun _ _ _ h => h) (by rfl) (by assumption) ?hy10 ?rest10
    case hy10 => intro w' hSw; (try dsimp only at hSw); go_simp; try with_reducible rfl
    try simp only [Act.put, List.setIfInBounds_toArray, List.set_cons_zero, List.set_cons_succ]
    refine takeW 1 (v := ?v11) rfl (by kernel_rfl) (by kernel_rfl) (by kernel_rfl) (fun _ _ _ h => h) (by rfl) (by assumption) ?hy11 ?rest11
    case hy11 => intro w' hSw; (try dsimp only at hSw); go_simp; try with_reducible rfl
    try simp only [Act.put, List.setIfInBounds_toArray, List.set_cons_zero, List.set_cons_succ]
    refine takeC 2 (by kernel_rfl) rfl (fun K hK => ?_)
    go_simp
    refine (l1In_any s.num 1 100000 _).mono ?_; rintro e w1 ⟨he1, rfl⟩; rw [hin] at he1; subst he1
    refine hK.out _ _ ?_ (fun hHeld => ?_)
    · go_keep
    clear hK K
    try simp only [Act.put, List.setIfInBounds_toArray, List.set_cons_zero, List.set_cons_succ]
    refine takeW 3 (v := ?v12) rfl (by kernel_rfl) (by kernel_rfl) (by kernel_rfl) (fun _ _ _ h => h) (by rfl) (by assumption) ?hy12 ?rest12
    case hy12 => intro w' hSw; (try dsimp only at hSw); go_simp; try with_reducible rfl
    try simp only [Act.put, List.setIfInBounds_toArray, List.set_cons_zero, List.set_cons_succ]
    refine takeW 4 (v := ?v13) rfl (by kernel_rfl) (by kernel_rfl) (by kernel_rfl) (fun _ _ _ h => h) (by rfl) (by assumption) ?hy13 ?rest13
    case hy13 => intro w' hSw; (try dsimp only at hSw); go_simp; try with_reducible rfl
    try simp only [Act.put, List.setIfInBounds_toArray, List.set_cons_zero, List.set_cons_succ]
    refine takeW 5 (v := ?v14) rfl (by kernel_rfl) (by kernel_rfl) (by kernel_rfl) (fun _ _ _ h => h) (by rfl) (by assumption) ?hy14 ?rest14
    case hy14 => intro w' hSw; (try dsimp only at hSw); go_simp; try with_reducible rfl
    try simp only [Act.put, List.setIfInBounds_toArray, List.set_cons_zero, List.set_cons_succ]
    refine takeC 6 (by kernel_rfl) rfl (fun K hK => ?_)
    go_simp
    refine (l2Good_any _ s.pol _ (by omega) hz (by exact h1d)).mono ?_; rintro e w2 ⟨he2, hB2⟩; rw [hpo] at he2; subst he2; have hc2 := fun o => hB2.cell (p := ⟨w.heap.size, o, none⟩) (by exact hlt0); have hlt2 : w.heap.size < w2.heap.size := Nat.lt_of_lt_of_le hlt0 hB2.size
    refine hK.out _ _ ?_ (fun hHeld => ?_)
    · go_keep
    clear hK K
    try simp only [Act.put, List.setIfInBounds_toArray, List.set_cons_zero, List.set_cons_succ]
    refine takeW 7 (v := ?v15) rfl (by kernel_rfl) (by kernel_rfl) (by kernel_rfl) (fun _ _ _ h => h) (by rfl) (by assumption) ?hy15 ?rest15
    case hy15 => intro w' hSw; (try dsimp only at hSw); go_simp; try with_reducible rfl
    try simp only [Act.put, List.setIfInBounds_toArray, List.set_cons_zero, List.set_cons_succ]
    refine takeW 8 (v := ?v16) rfl (by kernel_rfl) (by kernel_rfl) (by kernel_rfl) (fun _ _ _ h => h) (by rfl) (by assumption) ?hy16 ?rest16
    case hy16 => intro w' hSw; (try dsimp only at hSw); go_simp; try with_reducible rfl
    try simp only [Act.put, List.setIfInBounds_toArray, List.set_cons_zero, List.set_cons_succ]
    refine takeX 9 rfl (by kernel_rfl) (by kernel_rfl) (by kernel_rfl) (fun _ _ _ h => h) (by rfl) (by assumption) ?_
    try simp only [Act.put, List.setIfInBounds_toArray, List.set_cons_zero, List.set_cons_succ]
    refine takeX 10 rfl (by kernel_rfl) (by kernel_rfl) (by kernel_rfl) (fun _ _ _ h => h) (by rfl) (by assumption) ?_
    try simp only [Act.put, List.setIfInBounds_toArray, List.set_cons_zero, List.set_cons_succ]
    refine takeX 11 rfl (by kernel_rfl) (by kernel_rfl) (by kernel_rfl) (fun _ _ _ h => h) (by rfl) (by assumption) ?_
    try simp only [Act.put, List.setIfInBounds_toArray, List.set_cons_zero, List.set_cons_succ]
    refine takeX 12 rfl (by kernel_rfl) (by kernel_rfl) (by kernel_rfl) (fun _ _ _ h => h) (by rfl) (by assumption) ?_
    try simp only [Act.put, List.setIfInBounds_toArray, List.set_cons_zero, List.set_cons_succ]
    refine takeX 13 rfl (by kernel_rfl) (by kernel_rfl) (by kernel_rfl) (fun _ _ _ h => h) (by rfl) (by assumption) ?_
    try simp only [Act.put, List.setIfInBounds_toArray, List.set_cons_zero, List.set_cons_succ]
    refine takeX 14 rfl (by kernel_rfl) (by kernel_rfl) (by kernel_rfl) (fun _ _ _ h => h) (by rfl) (by assumption) ?_
    try simp only [Act.put, List.setIfInBounds_toArray, List.set_cons_zero, List.set_cons_succ]
    refine takeW 15 (v := ?v17) rfl (by kernel_rfl) (by kernel_rfl) (by kernel_rfl) (fun _ _ _ h => h) (by rfl) (by assumption) ?hy17 ?rest17
    case hy17 => intro w' hSw; (try dsimp only at hSw); go_simp; try with_reducible rfl
    try simp only [Act.put, List.setIfInBounds_toArray, List.set_cons_zero, List.set_cons_succ]
    refine takeW 16 (v := ?v18) rfl (by kernel_rfl) (by kernel_rfl) (by kernel_rfl) (fun _ _ _ h => h) (by rfl) (by assumption) ?hy18 ?rest18
    case hy18 => intro w' hSw; (try dsimp only at hSw); go_simp; try with_reducible rfl
    try simp only [Act.put, List.setIfInBounds_toArray, List.set_cons_zero, List.set_cons_succ]
    refine takeX 17 rfl (by kernel_rfl) (by kernel_rfl) (by kernel_rfl) (fun _ _ _ h => h) (by rfl) (by assumption) ?_
    try simp only [Act.put, List.setIfInBounds_toArray, List.set_cons_zero, List.set_cons_succ]
    refine takeX 18 rfl (by kernel_rfl) (by kernel_rfl) (by kernel_rfl) (fun _ _ _ h => h) (by rfl) (by assumption) ?_
    try simp only [Act.put, List.setIfInBounds_toArray, List.set_cons_zero, List.set_cons_succ]
    refine takeX 19 rfl (by kernel_rfl) (by kernel_rfl) (by kernel_rfl) (fun _ _ _ h => h) (by rfl) (by assumption) ?_
    try simp only [Act.put, List.setIfInBounds_toArray, List.set_cons_zero, List.set_cons_succ]
    refine takeW 20 (v := ?v19) rfl (by kernel_rfl) (by kernel_rfl) (by kernel_rfl) (fun _ _ _ h => h) (by rfl) (by assumption) ?hy19 ?rest19
    case hy19 => intro w' hSw; (try dsimp only at hSw); go_simp; try with_reducible rfl
    try simp only [Act.put, List.setIfInBounds_toArray, List.set_cons_zero, List.set_cons_succ]
    refine takeW 21 (v := ?v20) rfl (by kernel_rfl) (by kernel_rfl) (by kernel_rfl) (fun _ _ _ h => h) (by rfl) (by assumption) ?hy20 ?rest20
    case hy20 => intro w' hSw; (try dsimp only at hSw); go_simp; try with_reducible rfl
    try simp only [Act.put, List.setIfInBounds_toArray, List.set_cons_zero, List.set_cons_succ]
    refine wpAnyH_done (by kernel_rfl) ?_ _
    go_wp2_with fail
    go_ret
    exact ⟨ret_bool HR.out.symm, below_one hB0 (below_drew1 hB2)⟩
  have h30 := (pol_all hpo).2
  have hpl : (plTo s.pol s.pol.length).length ≤ 1048577 := by have := plTo_len (rs := s.pol) _ (Nat.le_refl _); omega
  cases hsm : sameS (plTo s.pol s.pol.length) s.pol
  · have HR := hid (snB_no3 (s := s) (by rw [plX_yes hpo]; exact hsm))
    go_enter Tryz.func27, Tryz.ntmps27
    go_wp2_with fail
    generalize w.alloc (.cells #[.int .i64 s.num, .slice ap s.pol.length cp, .slice ar s.rv.length cr] 26) = W0 at *
    refine wp_region_held_drew (S := fun w' => w'.cell? ⟨w.heap.size, 0, none⟩ = some (.int .i64 s.num) ∧ w'.cell? ⟨w.heap.size, 1, none⟩ = some (.slice ap s.pol.length cp) ∧ w'.cell? ⟨w.heap.size, 2, none⟩ = some (.slice ar s.rv.length cr)) (by kernel_rfl) ?_ (fun hHeld => ?_)
    · go_keep
    refine takeW 0 (v := ?v21) rfl (by kernel_rfl) (by kernel_rfl) (by kernel_rfl) (fun _ _ _ h => h) (by rfl) (by assumption) ?hy21 ?rest21
    case hy21 => intro w' hSw; (try dsimp only at hSw); go_simp; try with_reducible rfl
    try simp only [Act.put, List.setIfInBounds_toArray, List.set_cons_zero, List.set_cons_succ]
    refine takeW 1 (v := ?v22) rfl (by kernel_rfl) (by kernel_rfl) (by kernel_rfl) (fun _ _ _ h => h) (by rfl) (by assumption) ?hy22 ?rest22
    case hy22 => intro w' hSw; (try dsimp only at hSw); go_simp; try with_reducible rfl
    try simp only [Act.put, List.setIfInBounds_toArray, List.set_cons_zero, List.set_cons_succ]
    refine takeC 2 (by kernel_rfl) rfl (fun K hK => ?_)
    go_simp
    refine (l1In_any s.num 1 100000 _).mono ?_; rintro e w1 ⟨he1, rfl⟩; rw [hin] at he1; subst he1
    refine hK.out _ _ ?_ (fun hHeld => ?_)
    · go_keep
    clear hK K
    try simp only [Act.put, List.setIfInBounds_toArray, List.set_cons_zero, List.set_cons_succ]
    refine takeW 3 (v := ?v23) rfl (by kernel_rfl) (by kernel_rfl) (by kernel_rfl) (fun _ _ _ h => h) (by rfl) (by assumption) ?hy23 ?rest23
    case hy23 => intro w' hSw; (try dsimp only at hSw); go_simp; try with_reducible rfl
    try simp only [Act.put, List.setIfInBounds_toArray, List.set_cons_zero, List.set_cons_succ]
    refine takeW 4 (v := ?v24) rfl (by kernel_rfl) (by kernel_rfl) (by kernel_rfl) (fun _ _ _ h => h) (by rfl) (by assumption) ?hy24 ?rest24
    case hy24 => intro w' hSw; (try dsimp only at hSw); go_simp; try with_reducible rfl
    try simp only [Act.put, List.setIfInBounds_toArray, List.set_cons_zero, List.set_cons_succ]
    refine takeW 5 (v := ?v25) rfl (by kernel_rfl) (by kernel_rfl) (by kernel_rfl) (fun _ _ _ h => h) (by rfl) (by assumption) ?hy25 ?rest25
    case hy25 => intro w' hSw; (try dsimp only at hSw); go_simp; try with_reducible rfl
    try simp only [Act.put, List.setIfInBounds_toArray, List.set_cons_zero, List.set_cons_succ]
    refine takeC 6 (by kernel_rfl) rfl (fun K hK => ?_)
    go_simp
    refine (l2Good_any _ s.pol _ (by omega) hz (by exact h1d)).mono ?_; rintro e w2 ⟨he2, hB2⟩; rw [hpo] at he2; subst he2; have hc2 := fun o => hB2.cell (p := ⟨w.heap.size, o, none⟩) (by exact hlt0); have hlt2 : w.heap.size < w2.heap.size := Nat.lt_of_lt_of_le hlt0 hB2.size
    refine hK.out _ _ ?_ (fun hHeld => ?_)
    · go_keep
    clear hK K
    try simp only [Act.put, List.setIfInBounds_toArray, List.set_cons_zero, List.set_cons_succ]
    refine takeW 7 (v := ?v26) rfl (by kernel_rfl) (by kernel_rfl) (by kernel_rfl) (fun _ _ _ h => h) (by rfl) (by assumption) ?hy26 ?rest26
    case hy26 => intro w' hSw; (try dsimp only at hSw); go_simp; try with_reducible rfl
    try simp only [Act.put, List.setIfInBounds_toArray, List.set_cons_zero, List.set_cons_succ]
    refine takeW 8 (v := ?v27) rfl (by kernel_rfl) (by kernel_rfl) (by kernel_rfl) (fun _ _ _ h => h) (by rfl) (by assumption) ?hy27 ?rest27
    case hy27 => intro w' hSw; (try dsimp only at hSw); go_simp; try with_reducible rfl
    try simp only [Act.put, List.setIfInBounds_toArray, List.set_cons_zero, List.set_cons_succ]
    refine takeW 9 (v := ?v28) rfl (by kernel_rfl) (by kernel_rfl) (by kernel_rfl) (fun _ _ _ h => h) (by rfl) (by assumption) ?hy28 ?rest28
    case hy28 => intro w' hSw; (try dsimp only at hSw); go_simp; try with_reducible rfl
    try simp only [Act.put, List.setIfInBounds_toArray, List.set_cons_zero, List.set_cons_succ]
    refine takeW 10 (v := ?v29) rfl (by kernel_rfl) (by kernel_rfl) (by kernel_rfl) (fun _ _ _ h => h) (by rfl) (by assumption) ?hy29 ?rest29
    case hy29 => intro w' hSw; (try dsimp only at hSw); go_simp; try with_reducible rfl
    try simp only [Act.put, List.setIfInBounds_toArray, List.set_cons_zero, List.set_cons_succ]
    refine takeW 12 (v := ?v30) rfl (by kernel_rfl) (by kernel_rfl) (by kernel_rfl) (fun _ _ _ h => h) (by rfl) (by assumption) ?hy30 ?rest30
    case hy30 => intro w' hSw; (try dsimp only at hSw); go_simp; try with_reducible rfl
    try simp only [Act.put, List.setIfInBounds_toArray, List.set_cons_zero, List.set_cons_succ]
    refine takeW 13 (v := ?v31) rfl (by kernel_rfl) (by kernel_rfl) (by kernel_rfl) (fun _ _ _ h => h) (by rfl) (by assumption) ?hy31 ?rest31
    case hy31 => intro w' hSw; (try dsimp only at hSw); go_simp; try with_reducible rfl
    try simp only [Act.put, List.setIfInBounds_toArray, List.set_cons_zero, List.set_cons_succ]
    refine takeC 11 (by kernel_rfl) rfl (fun K hK => ?_)
    go_simp
    refine (l2Plain_any _ s.pol _ h30 hz (by exact h1d.below hB2)).mono ?_; rintro e w3 ⟨v3, rfl, o3, hB3⟩; obtain ⟨a3, k3, rfl⟩ := ownsRow_len o3; have hc3 := fun o => hB3.cell (p := ⟨w.heap.size, o, none⟩) (by exact hlt2); have hlt3 : w.heap.size < w3.heap.size := Nat.lt_of_lt_of_le hlt2 hB3.size
    refine hK.out _ _ ?_ (fun hHeld => ?_)
    · go_keep
    clear hK K
    try simp only [Act.put, List.setIfInBounds_toArray, List.set_cons_zero, List.set_cons_succ]
    refine takeC 14 (by kernel_rfl) rfl (fun K hK => ?_)
    go_simp
    refine (l5SameRules_any _ _ _ s.pol _ hpl (by omega) (RuS.own o3) (by exact (h1d.below hB2).below hB3)).mono ?_; rintro e w4 ⟨he4, hB4⟩; rw [hsm] at he4; subst he4; have hc4 := fun o => hB4.cell (p := ⟨w.heap.size, o, none⟩) (by exact hlt3); have hlt4 : w.heap.size < w4.heap.size := Nat.lt_of_lt_of_le hlt3 hB4.size
    refine hK.out _ _ ?_ (fun hHeld => ?_)
    · go_keep
    clear hK K
    try simp only [Act.put, List.setIfInBounds_toArray, List.set_cons_zero, List.set_cons_succ]
    refine takeW 15 (v := ?v32) rfl (by kernel_rfl) (by kernel_rfl) (by kernel_rfl) (fun _ _ _ h => h) (by rfl) (by assumption) ?hy32 ?rest32
    case hy32 => intro w' hSw; (try dsimp only at hSw); go_simp; try with_reducible rfl
    try simp only [Act.put, List.setIfInBounds_toArray, List.set_cons_zero, List.set_cons_succ]
    refine takeW 16 (v := ?v33) rfl (by kernel_rfl) (by kernel_rfl) (by kernel_rfl) (fun _ _ _ h => h) (by rfl) (by assumption) ?hy33 ?rest33
    case hy33 => intro w' hSw; (try dsimp only at hSw); go_simp; try with_reducible rfl
    try simp only [Act.put, List.setIfInBounds_toArray, List.set_cons_zero, List.set_cons_succ]
    refine takeX 17 rfl (by kernel_rfl) (by kernel_rfl) (by kernel_rfl) (fun _ _ _ h => h) (by rfl) (by assumption) ?_
    try simp only [Act.put, List.setIfInBounds_toArray, List.set_cons_zero, List.set_cons_succ]
    refine takeX 18 rfl (by kernel_rfl) (by kernel_rfl) (by kernel_rfl) (fun _ _ _ h => h) (by rfl) (by assumption) ?_
    try simp only [Act.put, List.setIfInBounds_toArray, List.set_cons_zero, List.set_cons_succ]
    refine takeX 19 rfl (by kernel_rfl) (by kernel_rfl) (by kernel_rfl) (fun _ _ _ h => h) (by rfl) (by assumption) ?_
    try simp only [Act.put, List.setIfInBounds_toArray, List.set_cons_zero, List.set_cons_succ]
    refine takeW 20 (v := ?v34) rfl (by kernel_rfl) (by kernel_rfl) (by kernel_rfl) (fun _ _ _ h => h) (by rfl) (by assumption) ?hy34 ?rest34
    case hy34 => intro w' hSw; (try dsimp only at hSw); go_simp; try with_reducible rfl
    try simp only [Act.put, List.setIfInBounds_toArray, List.set_cons_zero, List.set_cons_succ]
    refine takeW 21 (v := ?v35) rfl (by kernel_rfl) (by kernel_rfl) (by kernel_rfl) (fun _ _ _ h => h) (by rfl) (by assumption) ?hy35 ?rest35
    case hy35 => intro w' hSw; (try dsimp only at hSw); go_simp; try with_reducible rfl
    try simp only [Act.put, List.setIfInBounds_toArray, List.set_cons_zero, List.set_cons_succ]
    refine wpAnyH_done (by kernel_rfl) ?_ _
    go_wp2_with fail
    go_ret
    exact ⟨ret_bool HR.out.symm, below_one hB0 (below_drew1 (below_one (below_one hB2 hB3) hB4))⟩
  cases hri : riB s.rv
  · have HR := hid (show snB s = false by unfold riB at hri; rw [Bool.and_eq_false_iff] at hri; rcases hri with h | h; exact snB_no4 h; exact snB_no5 h)
    go_enter Tryz.func27, Tryz.ntmps27
    go_wp2_with fail
    generalize w.alloc (.cells #[.int .i64 s.num, .slice ap s.pol.length cp, .slice ar s.rv.length cr] 26) = W0 at *
    refine wp_region_held_drew (S := fun w' => w'.cell? ⟨w.heap.size, 0, none⟩ = some (.int .i64 s.num) ∧ w'.cell? ⟨w.heap.size, 1, none⟩ = some (.slice ap s.pol.length cp) ∧ w'.cell? ⟨w.heap.size, 2, none⟩ = some (.slice ar s.rv.length cr)) (by kernel_rfl) ?_ (fun hHeld => ?_)
    · go_keep
    refine takeW 0 (v := ?v36) rfl (by kernel_rfl) (by kernel_rfl) (by kernel_rfl) (fun _ _ _ h => h) (by rfl) (by assumption) ?hy36 ?rest36
    case hy36 => intro w' hSw; (try dsimp only at hSw); go_simp; try with_reducible rfl
    try simp only [Act.put, List.setIfInBounds_toArray, List.set_cons_zero, List.set_cons_succ]
    refine takeW 1 (v := ?v37) rfl (by kernel_rfl) (by kernel_rfl) (by kernel_rfl) (fun _ _ _ h => h) (by rfl) (by assumption) ?hy37 ?rest37
    case hy37 => intro w' hSw; (try dsimp only at hSw); go_simp; try with_reducible rfl
    try simp only [Act.put, List.setIfInBounds_toArray, List.set_cons_zero, List.set_cons_succ]
    refine takeC 2 (by kernel_rfl) rfl (fun K hK => ?_)
    go_simp
    refine (l1In_any s.num 1 100000 _).mono ?_; rintro e w1 ⟨he1, rfl⟩; rw [hin] at he1; subst he1
    refine hK.out _ _ ?_ (fun hHeld => ?_)
    · go_keep
    clear hK K
    try simp only [Act.put, List.setIfInBounds_toArray, List.set_cons_zero, List.set_cons_succ]
    refine takeW 3 (v := ?v38) rfl (by kernel_rfl) (by kernel_rfl) (by kernel_rfl) (fun _ _ _ h => h) (by rfl) (by assumption) ?hy38 ?rest38
    case hy38 => intro w' hSw; (try dsimp only at hSw); go_simp; try with_reducible rfl
    try simp only [Act.put, List.setIfInBounds_toArray, List.set_cons_zero, List.set_cons_succ]
    refine takeW 4 (v := ?v39) rfl (by kernel_rfl) (by kernel_rfl) (by kernel_rfl) (fun _ _ _ h => h) (by rfl) (by assumption) ?hy39 ?rest39
    case hy39 => intro w' hSw; (try dsimp only at hSw); go_simp; try with_reducible rfl
    try simp only [Act.put, List.setIfInBounds_toArray, List.set_cons_zero, List.set_cons_succ]
    refine takeW 5 (v := ?v40) rfl (by kernel_rfl) (by kernel_rfl) (by kernel_rfl) (fun _ _ _ h => h) (by rfl) (by assumption) ?hy40 ?rest40
    case hy40 => intro w' hSw; (try dsimp only at hSw); go_simp; try with_reducible rfl
    try simp only [Act.put, List.setIfInBounds_toArray, List.set_cons_zero, List.set_cons_succ]
    refine takeC 6 (by kernel_rfl) rfl (fun K hK => ?_)
    go_simp
    refine (l2Good_any _ s.pol _ (by omega) hz (by exact h1d)).mono ?_; rintro e w2 ⟨he2, hB2⟩; rw [hpo] at he2; subst he2; have hc2 := fun o => hB2.cell (p := ⟨w.heap.size, o, none⟩) (by exact hlt0); have hlt2 : w.heap.size < w2.heap.size := Nat.lt_of_lt_of_le hlt0 hB2.size
    refine hK.out _ _ ?_ (fun hHeld => ?_)
    · go_keep
    clear hK K
    try simp only [Act.put, List.setIfInBounds_toArray, List.set_cons_zero, List.set_cons_succ]
    refine takeW 7 (v := ?v41) rfl (by kernel_rfl) (by kernel_rfl) (by kernel_rfl) (fun _ _ _ h => h) (by rfl) (by assumption) ?hy41 ?rest41
    case hy41 => intro w' hSw; (try dsimp only at hSw); go_simp; try with_reducible rfl
    try simp only [Act.put, List.setIfInBounds_toArray, List.set_cons_zero, List.set_cons_succ]
    refine takeW 8 (v := ?v42) rfl (by kernel_rfl) (by kernel_rfl) (by kernel_rfl) (fun _ _ _ h => h) (by rfl) (by assumption) ?hy42 ?rest42
    case hy42 => intro w' hSw; (try dsimp only at hSw); go_simp; try with_reducible rfl
    try simp only [Act.put, List.setIfInBounds_toArray, List.set_cons_zero, List.set_cons_succ]
    refine takeW 9 (v := ?v43) rfl (by kernel_rfl) (by kernel_rfl) (by kernel_rfl) (fun _ _ _ h => h) (by rfl) (by assumption) ?hy43 ?rest43
    case hy43 => intro w' hSw; (try dsimp only at hSw); go_simp; try with_reducible rfl
    try simp only [Act.put, List.setIfInBounds_toArray, List.set_cons_zero, List.set_cons_succ]
    refine takeW 10 (v := ?v44) rfl (by kernel_rfl) (by kernel_rfl) (by kernel_rfl) (fun _ _ _ h => h) (by rfl) (by assumption) ?hy44 ?rest44
    case hy44 => intro w' hSw; (try dsimp only at hSw); go_simp; try with_reducible rfl
    try simp only [Act.put, List.setIfInBounds_toArray, List.set_cons_zero, List.set_cons_succ]
    refine takeW 12 (v := ?v45) rfl (by kernel_rfl) (by kernel_rfl) (by kernel_rfl) (fun _ _ _ h => h) (by rfl) (by assumption) ?hy45 ?rest45
    case hy45 => intro w' hSw; (try dsimp only at hSw); go_simp; try with_reducible rfl
    try simp only [Act.put, List.setIfInBounds_toArray, List.set_cons_zero, List.set_cons_succ]
    refine takeW 13 (v := ?v46) rfl (by kernel_rfl) (by kernel_rfl) (by kernel_rfl) (fun _ _ _ h => h) (by rfl) (by assumption) ?hy46 ?rest46
    case hy46 => intro w' hSw; (try dsimp only at hSw); go_simp; try with_reducible rfl
    try simp only [Act.put, List.setIfInBounds_toArray, List.set_cons_zero, List.set_cons_succ]
    refine takeC 11 (by kernel_rfl) rfl (fun K hK => ?_)
    go_simp
    refine (l2Plain_any _ s.pol _ h30 hz (by exact h1d.below hB2)).mono ?_; rintro e w3 ⟨v3, rfl, o3, hB3⟩; obtain ⟨a3, k3, rfl⟩ := ownsRow_len o3; have hc3 := fun o => hB3.cell (p := ⟨w.heap.size, o, none⟩) (by exact hlt2); have hlt3 : w.heap.size < w3.heap.size := Nat.lt_of_lt_of_le hlt2 hB3.size
    refine hK.out _ _ ?_ (fun hHeld => ?_)
    · go_keep
    clear hK K
    try simp only [Act.put, List.setIfInBounds_toArray, List.set_cons_zero, List.set_cons_succ]
    refine takeC 14 (by kernel_rfl) rfl (fun K hK => ?_)
    go_simp
    refine (l5SameRules_any _ _ _ s.pol _ hpl (by omega) (RuS.own o3) (by exact (h1d.below hB2).below hB3)).mono ?_; rintro e w4 ⟨he4, hB4⟩; rw [hsm] at he4; subst he4; have hc4 := fun o => hB4.cell (p := ⟨w.heap.size, o, none⟩) (by exact hlt3); have hlt4 : w.heap.size < w4.heap.size := Nat.lt_of_lt_of_le hlt3 hB4.size
    refine hK.out _ _ ?_ (fun hHeld => ?_)
    · go_keep
    clear hK K
    try simp only [Act.put, List.setIfInBounds_toArray, List.set_cons_zero, List.set_cons_succ]
    refine takeW 15 (v := ?v47) rfl (by kernel_rfl) (by kernel_rfl) (by kernel_rfl) (fun _ _ _ h => h) (by rfl) (by assumption) ?hy47 ?rest47
    case hy47 => intro w' hSw; (try dsimp only at hSw); go_simp; try with_reducible rfl
    try simp only [Act.put, List.setIfInBounds_toArray, List.set_cons_zero, List.set_cons_succ]
    refine takeW 16 (v := ?v48) rfl (by kernel_rfl) (by kernel_rfl) (by kernel_rfl) (fun _ _ _ h => h) (by rfl) (by assumption) ?hy48 ?rest48
    case hy48 => intro w' hSw; (try dsimp only at hSw); go_simp; try with_reducible rfl
    try simp only [Act.put, List.setIfInBounds_toArray, List.set_cons_zero, List.set_cons_succ]
    refine takeW 17 (v := ?v49) rfl (by kernel_rfl) (by kernel_rfl) (by kernel_rfl) (fun _ _ _ h => h) (by rfl) (by assumption) ?hy49 ?rest49
    case hy49 => intro w' hSw; (try dsimp only at hSw); go_simp; try with_reducible rfl
    try simp only [Act.put, List.setIfInBounds_toArray, List.set_cons_zero, List.set_cons_succ]
    refine takeW 18 (v := ?v50) rfl (by kernel_rfl) (by kernel_rfl) (by kernel_rfl) (fun _ _ _ h => h) (by rfl) (by assumption) ?hy50 ?rest50
    case hy50 => intro w' hSw; (try dsimp only at hSw); go_simp; try with_reducible rfl
    try simp only [Act.put, List.setIfInBounds_toArray, List.set_cons_zero, List.set_cons_succ]
    refine takeC 19 (by kernel_rfl) rfl (fun K hK => ?_)
    go_simp
    refine (l5Rising_any _ s.rv _ (by omega) (by exact ((h2d.below hB2).below hB3).below hB4)).mono ?_; rintro e w5 ⟨he5, rfl⟩; rw [hri] at he5; subst he5
    refine hK.out _ _ ?_ (fun hHeld => ?_)
    · go_keep
    clear hK K
    try simp only [Act.put, List.setIfInBounds_toArray, List.set_cons_zero, List.set_cons_succ]
    refine takeW 20 (v := ?v51) rfl (by kernel_rfl) (by kernel_rfl) (by kernel_rfl) (fun _ _ _ h => h) (by rfl) (by assumption) ?hy51 ?rest51
    case hy51 => intro w' hSw; (try dsimp only at hSw); go_simp; try with_reducible rfl
    try simp only [Act.put, List.setIfInBounds_toArray, List.set_cons_zero, List.set_cons_succ]
    refine takeW 21 (v := ?v52) rfl (by kernel_rfl) (by kernel_rfl) (by kernel_rfl) (fun _ _ _ h => h) (by rfl) (by assumption) ?hy52 ?rest52
    case hy52 => intro w' hSw; (try dsimp only at hSw); go_simp; try with_reducible rfl
    try simp only [Act.put, List.setIfInBounds_toArray, List.set_cons_zero, List.set_cons_succ]
    refine wpAnyH_done (by kernel_rfl) ?_ _
    go_wp2_with fail
    go_ret
    exact ⟨ret_bool HR.out.symm, below_one hB0 (below_drew1 (below_one (below_one hB2 hB3) hB4))⟩
  have HR := hid (show snB s = true by unfold riB at hri; rw [Bool.and_eq_true] at hri; exact snB_yes HN.out hpo (by rw [plX_yes hpo]; exact hsm) hri.1 hri.2)
  go_enter Tryz.func27, Tryz.ntmps27
  go_wp2_with fail
  generalize w.alloc (.cells #[.int .i64 s.num, .slice ap s.pol.length cp, .slice ar s.rv.length cr] 26) = W0 at *
  refine wp_region_held_drew (S := fun w' => w'.cell? ⟨w.heap.size, 0, none⟩ = some (.int .i64 s.num) ∧ w'.cell? ⟨w.heap.size, 1, none⟩ = some (.slice ap s.pol.length cp) ∧ w'.cell? ⟨w.heap.size, 2, none⟩ = some (.slice ar s.rv.length cr)) (by kernel_rfl) ?_ (fun hHeld => ?_)
  · go_keep
  refine takeW 0 (v := ?v53) rfl (by kernel_rfl) (by kernel_rfl) (by kernel_rfl) (fun _ _ _ h => h) (by rfl) (by assumption) ?hy53 ?rest53
  case hy53 => intro w' hSw; (try dsimp only at hSw); go_simp; try with_reducible rfl
  try simp only [Act.put, List.setIfInBounds_toArray, List.set_cons_zero, List.set_cons_succ]
  refine takeW 1 (v := ?v54) rfl (by kernel_rfl) (by kernel_rfl) (by kernel_rfl) (fun _ _ _ h => h) (by rfl) (by assumption) ?hy54 ?rest54
  case hy54 => intro w' hSw; (try dsimp only at hSw); go_simp; try with_reducible rfl
  try simp only [Act.put, List.setIfInBounds_toArray, List.set_cons_zero, List.set_cons_succ]
  refine takeC 2 (by kernel_rfl) rfl (fun K hK => ?_)
  go_simp
  refine (l1In_any s.num 1 100000 _).mono ?_; rintro e w1 ⟨he1, rfl⟩; rw [hin] at he1; subst he1
  refine hK.out _ _ ?_ (fun hHeld => ?_)
  · go_keep
  clear hK K
  try simp only [Act.put, List.setIfInBounds_toArray, List.set_cons_zero, List.set_cons_succ]
  refine takeW 3 (v := ?v55) rfl (by kernel_rfl) (by kernel_rfl) (by kernel_rfl) (fun _ _ _ h => h) (by rfl) (by assumption) ?hy55 ?rest55
  case hy55 => intro w' hSw; (try dsimp only at hSw); go_simp; try with_reducible rfl
  try simp only [Act.put, List.setIfInBounds_toArray, List.set_cons_zero, List.set_cons_succ]
  refine takeW 4 (v := ?v56) rfl (by kernel_rfl) (by kernel_rfl) (by kernel_rfl) (fun _ _ _ h => h) (by rfl) (by assumption) ?hy56 ?rest56
  case hy56 => intro w' hSw; (try dsimp only at hSw); go_simp; try with_reducible rfl
  try simp only [Act.put, List.setIfInBounds_toArray, List.set_cons_zero, List.set_cons_succ]
  refine takeW 5 (v := ?v57) rfl (by kernel_rfl) (by kernel_rfl) (by kernel_rfl) (fun _ _ _ h => h) (by rfl) (by assumption) ?hy57 ?rest57
  case hy57 => intro w' hSw; (try dsimp only at hSw); go_simp; try with_reducible rfl
  try simp only [Act.put, List.setIfInBounds_toArray, List.set_cons_zero, List.set_cons_succ]
  refine takeC 6 (by kernel_rfl) rfl (fun K hK => ?_)
  go_simp
  refine (l2Good_any _ s.pol _ (by omega) hz (by exact h1d)).mono ?_; rintro e w2 ⟨he2, hB2⟩; rw [hpo] at he2; subst he2; have hc2 := fun o => hB2.cell (p := ⟨w.heap.size, o, none⟩) (by exact hlt0); have hlt2 : w.heap.size < w2.heap.size := Nat.lt_of_lt_of_le hlt0 hB2.size
  refine hK.out _ _ ?_ (fun hHeld => ?_)
  · go_keep
  clear hK K
  try simp only [Act.put, List.setIfInBounds_toArray, List.set_cons_zero, List.set_cons_succ]
  refine takeW 7 (v := ?v58) rfl (by kernel_rfl) (by kernel_rfl) (by kernel_rfl) (fun _ _ _ h => h) (by rfl) (by assumption) ?hy58 ?rest58
  case hy58 => intro w' hSw; (try dsimp only at hSw); go_simp; try with_reducible rfl
  try simp only [Act.put, List.setIfInBounds_toArray, List.set_cons_zero, List.set_cons_succ]
  refine takeW 8 (v := ?v59) rfl (by kernel_rfl) (by kernel_rfl) (by kernel_rfl) (fun _ _ _ h => h) (by rfl) (by assumption) ?hy59 ?rest59
  case hy59 => intro w' hSw; (try dsimp only at hSw); go_simp; try with_reducible rfl
  try simp only [Act.put, List.setIfInBounds_toArray, List.set_cons_zero, List.set_cons_succ]
  refine takeW 9 (v := ?v60) rfl (by kernel_rfl) (by kernel_rfl) (by kernel_rfl) (fun _ _ _ h => h) (by rfl) (by assumption) ?hy60 ?rest60
  case hy60 => intro w' hSw; (try dsimp only at hSw); go_simp; try with_reducible rfl
  try simp only [Act.put, List.setIfInBounds_toArray, List.set_cons_zero, List.set_cons_succ]
  refine takeW 10 (v := ?v61) rfl (by kernel_rfl) (by kernel_rfl) (by kernel_rfl) (fun _ _ _ h => h) (by rfl) (by assumption) ?hy61 ?rest61
  case hy61 => intro w' hSw; (try dsimp only at hSw); go_simp; try with_reducible rfl
  try simp only [Act.put, List.setIfInBounds_toArray, List.set_cons_zero, List.set_cons_succ]
  refine takeW 12 (v := ?v62) rfl (by kernel_rfl) (by kernel_rfl) (by kernel_rfl) (fun _ _ _ h => h) (by rfl) (by assumption) ?hy62 ?rest62
  case hy62 => intro w' hSw; (try dsimp only at hSw); go_simp; try with_reducible rfl
  try simp only [Act.put, List.setIfInBounds_toArray, List.set_cons_zero, List.set_cons_succ]
  refine takeW 13 (v := ?v63) rfl (by kernel_rfl) (by kernel_rfl) (by kernel_rfl) (fun _ _ _ h => h) (by rfl) (by assumption) ?hy63 ?rest63
  case hy63 => intro w' hSw; (try dsimp only at hSw); go_simp; try with_reducible rfl
  try simp only [Act.put, List.setIfInBounds_toArray, List.set_cons_zero, List.set_cons_succ]
  refine takeC 11 (by kernel_rfl) rfl (fun K hK => ?_)
  go_simp
  refine (l2Plain_any _ s.pol _ h30 hz (by exact h1d.below hB2)).mono ?_; rintro e w3 ⟨v3, rfl, o3, hB3⟩; obtain ⟨a3, k3, rfl⟩ := ownsRow_len o3; have hc3 := fun o => hB3.cell (p := ⟨w.heap.size, o, none⟩) (by exact hlt2); have hlt3 : w.heap.size < w3.heap.size := Nat.lt_of_lt_of_le hlt2 hB3.size
  refine hK.out _ _ ?_ (fun hHeld => ?_)
  · go_keep
  clear hK K
  try simp only [Act.put, List.setIfInBounds_toArray, List.set_cons_zero, List.set_cons_succ]
  refine takeC 14 (by kernel_rfl) rfl (fun K hK => ?_)
  go_simp
  refine (l5SameRules_any _ _ _ s.pol _ hpl (by omega) (RuS.own o3) (by exact (h1d.below hB2).below hB3)).mono ?_; rintro e w4 ⟨he4, hB4⟩; rw [hsm] at he4; subst he4; have hc4 := fun o => hB4.cell (p := ⟨w.heap.size, o, none⟩) (by exact hlt3); have hlt4 : w.heap.size < w4.heap.size := Nat.lt_of_lt_of_le hlt3 hB4.size
  refine hK.out _ _ ?_ (fun hHeld => ?_)
  · go_keep
  clear hK K
  try simp only [Act.put, List.setIfInBounds_toArray, List.set_cons_zero, List.set_cons_succ]
  refine takeW 15 (v := ?v64) rfl (by kernel_rfl) (by kernel_rfl) (by kernel_rfl) (fun _ _ _ h => h) (by rfl) (by assumption) ?hy64 ?rest64
  case hy64 => intro w' hSw; (try dsimp only at hSw); go_simp; try with_reducible rfl
  try simp only [Act.put, List.setIfInBounds_toArray, List.set_cons_zero, List.set_cons_succ]
  refine takeW 16 (v := ?v65) rfl (by kernel_rfl) (by kernel_rfl) (by kernel_rfl) (fun _ _ _ h => h) (by rfl) (by assumption) ?hy65 ?rest65
  case hy65 => intro w' hSw; (try dsimp only at hSw); go_simp; try with_reducible rfl
  try simp only [Act.put, List.setIfInBounds_toArray, List.set_cons_zero, List.set_cons_succ]
  refine takeW 17 (v := ?v66) rfl (by kernel_rfl) (by kernel_rfl) (by kernel_rfl) (fun _ _ _ h => h) (by rfl) (by assumption) ?hy66 ?rest66
  case hy66 => intro w' hSw; (try dsimp only at hSw); go_simp; try with_reducible rfl
  try simp only [Act.put, List.setIfInBounds_toArray, List.set_cons_zero, List.set_cons_succ]
  refine takeW 18 (v := ?v67) rfl (by kernel_rfl) (by kernel_rfl) (by kernel_rfl) (fun _ _ _ h => h) (by rfl) (by assumption) ?hy67 ?rest67
  case hy67 => intro w' hSw; (try dsimp only at hSw); go_simp; try with_reducible rfl
  try simp only [Act.put, List.setIfInBounds_toArray, List.set_cons_zero, List.set_cons_succ]
  refine takeC 19 (by kernel_rfl) rfl (fun K hK => ?_)
  go_simp
  refine (l5Rising_any _ s.rv _ (by omega) (by exact ((h2d.below hB2).below hB3).below hB4)).mono ?_; rintro e w5 ⟨he5, rfl⟩; rw [hri] at he5; subst he5
  refine hK.out _ _ ?_ (fun hHeld => ?_)
  · go_keep
  clear hK K
  try simp only [Act.put, List.setIfInBounds_toArray, List.set_cons_zero, List.set_cons_succ]
  refine takeW 20 (v := ?v68) rfl (by kernel_rfl) (by kernel_rfl) (by kernel_rfl) (fun _ _ _ h => h) (by rfl) (by assumption) ?hy68 ?rest68
  case hy68 => intro w' hSw; (try dsimp only at hSw); go_simp; try with_reducible rfl
  try simp only [Act.put, List.setIfInBounds_toArray, List.set_cons_zero, List.set_cons_succ]
  refine takeW 21 (v := ?v69) rfl (by kernel_rfl) (by kernel_rfl) (by kernel_rfl) (fun _ _ _ h => h) (by rfl) (by assumption) ?hy69 ?rest69
  case hy69 => intro w' hSw; (try dsimp only at hSw); go_simp; try with_reducible rfl
  try simp only [Act.put, List.setIfInBounds_toArray, List.set_cons_zero, List.set_cons_succ]
  refine wpAnyH_done (by kernel_rfl) ?_ _
  go_wp2_with fail
  go_ret
  exact ⟨ret_bool HR.out.symm, below_one hB0 (below_drew1 (below_one (below_one hB2 hB3) hB4))⟩

end Go.Proofs.YtoaeckcenobfcaaGreat

namespace Go.Proofs.YtoaeckcenobfcaaGreat
open Go.RowKit Go.Shelf

set_option maxHeartbeats 8000000 in
set_option maxRecDepth 100000 in
theorem l5List_any (v : Value) (ss : List Sn) (w : World) (hm : shortS ss) (hr : SsA w v ss) :
    Calls Tryz.prog 87 #[v] w fun e w' => e = .returned (.bool (lsB ss)) ∧ Below w.heap.size w w' := by
  obtain ⟨a, cap, rfl⟩ := hr.len
  have hm1 := hm.1
  go_enter Tryz.func87, Tryz.ntmps87
  go_wp2
  go_loopw [7] (fun i wr => ∃ n : Nat, n ≤ ss.length ∧ i = .int .i64 n ∧ (∀ j, j < n → gdB ss j = true ∧ nexB ss j = true) ∧ Below w.heap.size w wr) (fun i _ => ss.length - (intOf i).toNat)
  case atStart => exact ⟨0, Nat.zero_le _, rfl, fun _ h => absurd h (Nat.not_lt_zero _), Below.refl _ _⟩
  case round =>
    obtain ⟨n, hnl, rfl, hk, hB⟩ := hrel
    have HK := hid hk
    clear hk
    by_cases hlt : n < ss.length
    · obtain ⟨b, off, xp, cp, xr, cr, rfl, hb, hcap, q0, q1, q2, y1, y2⟩ := (hr.below hB).at hlt
      have hsh := hm.2 ss[n] (List.getElem_mem hlt)
      have HNG := hid (fun h => lsB_no2 (ss := ss) hlt h)
      have HNX := hid (fun h => lsB_no3 (ss := ss) hlt h)
      have HGA := hid (gdB_at hlt)
      have HY := hid (show gdB ss n = true → nexB ss n = true → ∀ j, j < n + 1 → gdB ss j = true ∧ nexB ss j = true from fun hh hu j hjn => (by
        by_cases e : j = n
        · subst e; exact ⟨hh, hu⟩
        · exact HK.out j (by omega)))
      rcases Nat.eq_zero_or_pos n with rfl | hpos
      · rw [Nat.zero_mul, Nat.add_zero] at q0 q1 q2
        have HZ := hid (show nexB ss 0 = true from rfl)
        generalize ss[0] = s at *
        have hBw : Below wr.heap.size wr (wr.alloc (.cells #[.int .i64 s.num, .slice xp s.pol.length cp, .slice xr s.rv.length cr] 26)) := (Below.refl _ wr).alloc (Nat.le_refl _) _
        have F := Three.new wr (.int .i64 s.num) (.slice xp s.pol.length cp) (.slice xr s.rv.length cr) 26
        have hBW := below_one hB hBw
        have z1 := y1.below hBw
        have z2 := y2.below hBw
        have hbW := Nat.lt_of_lt_of_le hb hBw.size
        obtain ⟨x0, x1, x2⟩ := F.c
        clear y1 y2 hBw
        cases hg : snB s
        · have HR := hid (HNG.out (by rw [HGA.out]; exact hg))
          go_wp2_with fail
          generalize wr.alloc (.cells #[.int .i64 s.num, .slice xp s.pol.length cp, .slice xr s.rv.length cr] 26) = Wa at *
          refine wp_region_held_drew (S := fun w' => w'.cell? ⟨wr.heap.size, 0, none⟩ = some (.int .i64 s.num) ∧ w'.cell? ⟨wr.heap.size, 1, none⟩ = some (.slice xp s.pol.length cp) ∧ w'.cell? ⟨wr.heap.size, 2, none⟩ = some (.slice xr s.rv.length cr)) (by kernel_rfl) ?_ (fun hHeld => ?_)
          · go_keep
          refine takeW 0 (v := ?v60) rfl (by kernel_rfl) (by kernel_rfl) (by kernel_rfl) (fun _ _ _ h => h) (by rfl) (by assumption) ?hy60 ?rest60
          case hy60 => intro w' hSw; (try dsimp only at hSw); go_simp; try with_reducible rfl
          try simp only [Act.put, List.setIfInBounds_toArray, List.set_cons_zero, List.set_cons_succ]
          refine takeC 1 (by kernel_rfl) rfl (fun K hK => ?_)
          go_simp
          refine (specGoodSnapshot_any _ s _ hsh (by exact ⟨_, _, rfl, z1.below (Below.refl _ _).drew, z2.below (Below.refl _ _).drew⟩)).mono ?_; rintro e w3 ⟨he, hB3⟩; rw [hg] at he; subst he; have hcn := fun o => hB3.cell (p := ⟨wr.heap.size, o, none⟩) (by exact F.lt); have hcb := fun o => hB3.cell (p := ⟨b, o, none⟩) (by exact hbW)
          refine hK.out _ _ ?_ (fun hHeld => ?_)
          · go_keep
          clear hK K
          try simp only [Act.put, List.setIfInBounds_toArray, List.set_cons_zero, List.set_cons_succ]
          refine takeW 2 (v := ?v61) rfl (by kernel_rfl) (by kernel_rfl) (by kernel_rfl) (fun _ _ _ h => h) (by rfl) (by assumption) ?hy61 ?rest61
          case hy61 => intro w' hSw; (try dsimp only at hSw); go_simp; try with_reducible rfl
          try simp only [Act.put, List.setIfInBounds_toArray, List.set_cons_zero, List.set_cons_succ]
          refine takeW 3 (v := ?v62) rfl (by kernel_rfl) (by kernel_rfl) (by kernel_rfl) (fun _ _ _ h => h) (by rfl) (by assumption) ?hy62 ?rest62
          case hy62 => intro w' hSw; (try dsimp only at hSw); go_simp; try with_reducible rfl
          try simp only [Act.put, List.setIfInBounds_toArray, List.set_cons_zero, List.set_cons_succ]
          refine takeX 4 rfl (by kernel_rfl) (by kernel_rfl) (by kernel_rfl) (fun _ _ _ h => h) (by rfl) (by assumption) ?_
          try simp only [Act.put, List.setIfInBounds_toArray, List.set_cons_zero, List.set_cons_succ]
          refine takeX 5 rfl (by kernel_rfl) (by kernel_rfl) (by kernel_rfl) (fun _ _ _ h => h) (by rfl) (by assumption) ?_
          try simp only [Act.put, List.setIfInBounds_toArray, List.set_cons_zero, List.set_cons_succ]
          refine takeX 6 rfl (by kernel_rfl) (by kernel_rfl) (by kernel_rfl) (fun _ _ _ h => h) (by rfl) (by assumption) ?_
          try simp only [Act.put, List.setIfInBounds_toArray, List.set_cons_zero, List.set_cons_succ]
          refine takeX 7 rfl (by kernel_rfl) (by kernel_rfl) (by kernel_rfl) (fun _ _ _ h => h) (by rfl) (by assumption) ?_
          try simp only [Act.put, List.setIfInBounds_toArray, List.set_cons_zero, List.set_cons_succ]
          refine takeX 8 rfl (by kernel_rfl) (by kernel_rfl) (by kernel_rfl) (fun _ _ _ h => h) (by rfl) (by assumption) ?_
          try simp only [Act.put, List.setIfInBounds_toArray, List.set_cons_zero, List.set_cons_succ]
          refine takeX 9 rfl (by kernel_rfl) (by kernel_rfl) (by kernel_rfl) (fun _ _ _ h => h) (by rfl) (by assumption) ?_
          try simp only [Act.put, List.setIfInBounds_toArray, List.set_cons_zero, List.set_cons_succ]
          refine takeX 10 rfl (by kernel_rfl) (by kernel_rfl) (by kernel_rfl) (fun _ _ _ h => h) (by rfl) (by assumption) ?_
          try simp only [Act.put, List.setIfInBounds_toArray, List.set_cons_zero, List.set_cons_succ]
          refine takeX 11 rfl (by kernel_rfl) (by kernel_rfl) (by kernel_rfl) (fun _ _ _ h => h) (by rfl) (by assumption) ?_
          try simp only [Act.put, List.setIfInBounds_toArray, List.set_cons_zero, List.set_cons_succ]
          refine takeX 12 rfl (by kernel_rfl) (by kernel_rfl) (by kernel_rfl) (fun _ _ _ h => h) (by rfl) (by assumption) ?_
          try simp only [Act.put, List.setIfInBounds_toArray, List.set_cons_zero, List.set_cons_succ]
          refine takeX 13 rfl (by kernel_rfl) (by kernel_rfl) (by kernel_rfl) (fun _ _ _ h => h) (by rfl) (by assumption) ?_
          try simp only [Act.put, List.setIfInBounds_toArray, List.set_cons_zero, List.set_cons_succ]
          refine takeX 14 rfl (by kernel_rfl) (by kernel_rfl) (by kernel_rfl) (fun _ _ _ h => h) (by rfl) (by assumption) ?_
          try simp only [Act.put, List.setIfInBounds_toArray, List.set_cons_zero, List.set_cons_succ]
          refine takeX 15 rfl (by kernel_rfl) (by kernel_rfl) (by kernel_rfl) (fun _ _ _ h => h) (by rfl) (by assumption) ?_
          try simp only [Act.put, List.setIfInBounds_toArray, List.set_cons_zero, List.set_cons_succ]
          refine takeX 16 rfl (by kernel_rfl) (by kernel_rfl) (by kernel_rfl) (fun _ _ _ h => h) (by rfl) (by assumption) ?_
          try simp only [Act.put, List.setIfInBounds_toArray, List.set_cons_zero, List.set_cons_succ]
          refine takeX 17 rfl (by kernel_rfl) (by kernel_rfl) (by kernel_rfl) (fun _ _ _ h => h) (by rfl) (by assumption) ?_
          try simp only [Act.put, List.setIfInBounds_toArray, List.set_cons_zero, List.set_cons_succ]
          refine takeW 18 (v := ?v63) rfl (by kernel_rfl) (by kernel_rfl) (by kernel_rfl) (fun _ _ _ h => h) (by rfl) (by assumption) ?hy63 ?rest63
          case hy63 => intro w' hSw; (try dsimp only at hSw); go_simp; try with_reducible rfl
          try simp only [Act.put, List.setIfInBounds_toArray, List.set_cons_zero, List.set_cons_succ]
          refine wpAnyH_done (by kernel_rfl) ?_ _
          have hBB3 := below_one hBW (below_drew1 hB3)
          clear hcn hcb hB3 hHeld x0 x1 x2 q0 q1 q2
          go_wp2_with fail
          go_ret
          exact ⟨ret_bool HR.out.symm, hBB3⟩
        · have HR := hid (HY.out (by rw [HGA.out]; exact hg) HZ.out)
          go_wp2_with fail
          generalize wr.alloc (.cells #[.int .i64 s.num, .slice xp s.pol.length cp, .slice xr s.rv.length cr] 26) = Wa at *
          refine wp_region_held_drew (S := fun w' => w'.cell? ⟨wr.heap.size, 0, none⟩ = some (.int .i64 s.num) ∧ w'.cell? ⟨wr.heap.size, 1, none⟩ = some (.slice xp s.pol.length cp) ∧ w'.cell? ⟨wr.heap.size, 2, none⟩ = some (.slice xr s.rv.length cr)) (by kernel_rfl) ?_ (fun hHeld => ?_)
          · go_keep
          refine takeW 0 (v := ?v64) rfl (by kernel_rfl) (by kernel_rfl) (by kernel_rfl) (fun _ _ _ h => h) (by rfl) (by assumption) ?hy64 ?rest64
          case hy64 => intro w' hSw; (try dsimp only at hSw); go_simp; try with_reducible rfl
          try simp only [Act.put, List.setIfInBounds_toArray, List.set_cons_zero, List.set_cons_succ]
          refine takeC 1 (by kernel_rfl) rfl (fun K hK => ?_)
          go_simp
          refine (specGoodSnapshot_any _ s _ hsh (by exact ⟨_, _, rfl, z1.below (Below.refl _ _).drew, z2.below (Below.refl _ _).drew⟩)).mono ?_; rintro e w3 ⟨he, hB3⟩; rw [hg] at he; subst he; have hcn := fun o => hB3.cell (p := ⟨wr.heap.size, o, none⟩) (by exact F.lt); have hcb := fun o => hB3.cell (p := ⟨b, o, none⟩) (by exact hbW)
          refine hK.out _ _ ?_ (fun hHeld => ?_)
          · go_keep
          clear hK K
          try simp only [Act.put, List.setIfInBounds_toArray, List.set_cons_zero, List.set_cons_succ]
          refine takeW 2 (v := ?v65) rfl (by kernel_rfl) (by kernel_rfl) (by kernel_rfl) (fun _ _ _ h => h) (by rfl) (by assumption) ?hy65 ?rest65
          case hy65 => intro w' hSw; (try dsimp only at hSw); go_simp; try with_reducible rfl
          try simp only [Act.put, List.setIfInBounds_toArray, List.set_cons_zero, List.set_cons_succ]
          refine takeW 3 (v := ?v66) rfl (by kernel_rfl) (by kernel_rfl) (by kernel_rfl) (fun _ _ _ h => h) (by rfl) (by assumption) ?hy66 ?rest66
          case hy66 => intro w' hSw; (try dsimp only at hSw); go_simp; try with_reducible rfl
          try simp only [Act.put, List.setIfInBounds_toArray, List.set_cons_zero, List.set_cons_succ]
          refine takeW 4 (v := ?v67) rfl (by kernel_rfl) (by kernel_rfl) (by kernel_rfl) (fun _ _ _ h => h) (by rfl) (by assumption) ?hy67 ?rest67
          case hy67 => intro w' hSw; (try dsimp only at hSw); go_simp; try with_reducible rfl
          try simp only [Act.put, List.setIfInBounds_toArray, List.set_cons_zero, List.set_cons_succ]
          refine takeW 5 (v := ?v68) rfl (by kernel_rfl) (by kernel_rfl) (by kernel_rfl) (fun _ _ _ h => h) (by rfl) (by assumption) ?hy68 ?rest68
          case hy68 => intro w' hSw; (try dsimp only at hSw); go_simp; try with_reducible rfl
          try simp only [Act.put, List.setIfInBounds_toArray, List.set_cons_zero, List.set_cons_succ]
          refine takeW 6 (v := ?v69) rfl (by kernel_rfl) (by kernel_rfl) (by kernel_rfl) (fun _ _ _ h => h) (by rfl) (by assumption) ?hy69 ?rest69
          case hy69 => intro w' hSw; (try dsimp only at hSw); go_simp; try with_reducible rfl
          try simp only [Act.put, List.setIfInBounds_toArray, List.set_cons_zero, List.set_cons_succ]
          refine takeX 7 rfl (by kernel_rfl) (by kernel_rfl) (by kernel_rfl) (fun _ _ _ h => h) (by rfl) (by assumption) ?_
          try simp only [Act.put, List.setIfInBounds_toArray, List.set_cons_zero, List.set_cons_succ]
          refine takeX 8 rfl (by kernel_rfl) (by kernel_rfl) (by kernel_rfl) (fun _ _ _ h => h) (by rfl) (by assumption) ?_
          try simp only [Act.put, List.setIfInBounds_toArray, List.set_cons_zero, List.set_cons_succ]
          refine takeX 9 rfl (by kernel_rfl) (by kernel_rfl) (by kernel_rfl) (fun _ _ _ h => h) (by rfl) (by assumption) ?_
          try simp only [Act.put, List.setIfInBounds_toArray, List.set_cons_zero, List.set_cons_succ]
          refine takeX 10 rfl (by kernel_rfl) (by kernel_rfl) (by kernel_rfl) (fun _ _ _ h => h) (by rfl) (by assumption) ?_
          try simp only [Act.put, List.setIfInBounds_toArray, List.set_cons_zero, List.set_cons_succ]
          refine takeX 11 rfl (by kernel_rfl) (by kernel_rfl) (by kernel_rfl) (fun _ _ _ h => h) (by rfl) (by assumption) ?_
          try simp only [Act.put, List.setIfInBounds_toArray, List.set_cons_zero, List.set_cons_succ]
          refine takeX 12 rfl (by kernel_rfl) (by kernel_rfl) (by kernel_rfl) (fun _ _ _ h => h) (by rfl) (by assumption) ?_
          try simp only [Act.put, List.setIfInBounds_toArray, List.set_cons_zero, List.set_cons_succ]
          refine takeX 13 rfl (by kernel_rfl) (by kernel_rfl) (by kernel_rfl) (fun _ _ _ h => h) (by rfl) (by assumption) ?_
          try simp only [Act.put, List.setIfInBounds_toArray, List.set_cons_zero, List.set_cons_succ]
          refine takeX 14 rfl (by kernel_rfl) (by kernel_rfl) (by kernel_rfl) (fun _ _ _ h => h) (by rfl) (by assumption) ?_
          try simp only [Act.put, List.setIfInBounds_toArray, List.set_cons_zero, List.set_cons_succ]
          refine takeX 15 rfl (by kernel_rfl) (by kernel_rfl) (by kernel_rfl) (fun _ _ _ h => h) (by rfl) (by assumption) ?_
          try simp only [Act.put, List.setIfInBounds_toArray, List.set_cons_zero, List.set_cons_succ]
          refine takeX 16 rfl (by kernel_rfl) (by kernel_rfl) (by kernel_rfl) (fun _ _ _ h => h) (by rfl) (by assumption) ?_
          try simp only [Act.put, List.setIfInBounds_toArray, List.set_cons_zero, List.set_cons_succ]
          refine takeW 17 (v := ?v70) rfl (by kernel_rfl) (by kernel_rfl) (by kernel_rfl) (fun _ _ _ h => h) (by rfl) (by assumption) ?hy70 ?rest70
          case hy70 => intro w' hSw; (try dsimp only at hSw); go_simp; try with_reducible rfl
          try simp only [Act.put, List.setIfInBounds_toArray, List.set_cons_zero, List.set_cons_succ]
          refine takeW 18 (v := ?v71) rfl (by kernel_rfl) (by kernel_rfl) (by kernel_rfl) (fun _ _ _ h => h) (by rfl) (by assumption) ?hy71 ?rest71
          case hy71 => intro w' hSw; (try dsimp only at hSw); go_simp; try with_reducible rfl
          try simp only [Act.put, List.setIfInBounds_toArray, List.set_cons_zero, List.set_cons_succ]
          refine wpAnyH_done (by kernel_rfl) ?_ _
          have hBB3 := below_one hBW (below_drew1 hB3)
          clear hcn hcb hB3 hHeld x0 x1 x2 q0 q1 q2
          go_wp2_with fail
          go_roundw
          case rel => first | exact ⟨1, by omega, by go_num, HR.out, hBB3⟩ | ((repeat apply Exists.intro); exact ⟨⟨1, by omega, by go_num, HR.out, hBB3⟩, rfl⟩)
          case measure => simp [intOf]; omega
      · obtain ⟨m, hm2⟩ : ∃ m, n = m + 1 := ⟨n - 1, by omega⟩
        obtain ⟨b', off', _, _, _, _, hbo, _, _, p0, hjk⟩ := (hr.below hB).at (i := m) (by omega)
        clear hjk
        cases hbo
        have HI := hid (show nexB ss n = (ss[n].num == (ss[m]'(by omega)).num + 1) by subst hm2; exact nexB_succ hlt)
        have hpn := snB_num (s := ss[m]'(by omega)) (by have := (HK.out m (by omega)).1; rwa [gdB_at (by omega)] at this)
        have hw1 : IntKind.i64.wrap ((n : Int) - 1) = (m : Int) := by rw [IntKind.wrap_i64]; omega
        have dn : decide (0 < (n : Int)) = true := by simp; omega
        have dn2 : decide (0 < n) = true := by simp; omega
        have hl2 : (m : Int) < (ss.length : Int) := by omega
        generalize ss[n] = s at *
        generalize (ss[m]'(by omega)).num = p at *
        have hw2 : IntKind.i64.wrap (p + 1) = p + 1 := by rw [IntKind.wrap_i64]; omega
        clear hm2 hpos
        have hBw : Below wr.heap.size wr (wr.alloc (.cells #[.int .i64 s.num, .slice xp s.pol.length cp, .slice xr s.rv.length cr] 26)) := (Below.refl _ wr).alloc (Nat.le_refl _) _
        have F := Three.new wr (.int .i64 s.num) (.slice xp s.pol.length cp) (.slice xr s.rv.length cr) 26
        have hBW := below_one hB hBw
        have z1 := y1.below hBw
        have z2 := y2.below hBw
        have hbW := Nat.lt_of_lt_of_le hb hBw.size
        have pW := (hBw.cell (p := ⟨b, off + m * 3, none⟩) hb).trans p0
        obtain ⟨x0, x1, x2⟩ := F.c
        clear y1 y2 hBw p0
        cases hg : snB s
        · have HR := hid (HNG.out (by rw [HGA.out]; exact hg))
          go_wp2_with fail
          generalize wr.alloc (.cells #[.int .i64 s.num, .slice xp s.pol.length cp, .slice xr s.rv.length cr] 26) = Wa at *
          refine wp_region_held_drew (S := fun w' => w'.cell? ⟨wr.heap.size, 0, none⟩ = some (.int .i64 s.num) ∧ w'.cell? ⟨wr.heap.size, 1, none⟩ = some (.slice xp s.pol.length cp) ∧ w'.cell? ⟨wr.heap.size, 2, none⟩ = some (.slice xr s.rv.length cr)) (by kernel_rfl) ?_ (fun hHeld => ?_)
          · go_keep
          refine takeW 0 (v := ?v72) rfl (by kernel_rfl) (by kernel_rfl) (by kernel_rfl) (fun _ _ _ h => h) (by rfl) (by assumption) ?hy72 ?rest72
          case hy72 => intro w' hSw; (try dsimp only at hSw); go_simp; try with_reducible rfl
          try simp only [Act.put, List.setIfInBounds_toArray, List.set_cons_zero, List.set_cons_succ]
          refine takeC 1 (by kernel_rfl) rfl (fun K hK => ?_)
          go_simp
          refine (specGoodSnapshot_any _ s _ hsh (by exact ⟨_, _, rfl, z1.below (Below.refl _ _).drew, z2.below (Below.refl _ _).drew⟩)).mono ?_; rintro e w3 ⟨he, hB3⟩; rw [hg] at he; subst he; have hcn := fun o => hB3.cell (p := ⟨wr.heap.size, o, none⟩) (by exact F.lt); have hcb := fun o => hB3.cell (p := ⟨b, o, none⟩) (by exact hbW)
          refine hK.out _ _ ?_ (fun hHeld => ?_)
          · go_keep
          clear hK K
          try simp only [Act.put, List.setIfInBounds_toArray, List.set_cons_zero, List.set_cons_succ]
          refine takeW 2 (v := ?v73) rfl (by kernel_rfl) (by kernel_rfl) (by kernel_rfl) (fun _ _ _ h => h) (by rfl) (by assumption) ?hy73 ?rest73
          case hy73 => intro w' hSw; (try dsimp only at hSw); go_simp; try with_reducible rfl
          try simp only [Act.put, List.setIfInBounds_toArray, List.set_cons_zero, List.set_cons_succ]
          refine takeW 3 (v := ?v74) rfl (by kernel_rfl) (by kernel_rfl) (by kernel_rfl) (fun _ _ _ h => h) (by rfl) (by assumption) ?hy74 ?rest74
          case hy74 => intro w' hSw; (try dsimp only at hSw); go_simp; try with_reducible rfl
          try simp only [Act.put, List.setIfInBounds_toArray, List.set_cons_zero, List.set_cons_succ]
          refine takeX 4 rfl (by kernel_rfl) (by kernel_rfl) (by kernel_rfl) (fun _ _ _ h => h) (by rfl) (by assumption) ?_
          try simp only [Act.put, List.setIfInBounds_toArray, List.set_cons_zero, List.set_cons_succ]
          refine takeX 5 rfl (by kernel_rfl) (by kernel_rfl) (by kernel_rfl) (fun _ _ _ h => h) (by rfl) (by assumption) ?_
          try simp only [Act.put, List.setIfInBounds_toArray, List.set_cons_zero, List.set_cons_succ]
          refine takeX 6 rfl (by kernel_rfl) (by kernel_rfl) (by kernel_rfl) (fun _ _ _ h => h) (by rfl) (by assumption) ?_
          try simp only [Act.put, List.setIfInBounds_toArray, List.set_cons_zero, List.set_cons_succ]
          refine takeX 7 rfl (by kernel_rfl) (by kernel_rfl) (by kernel_rfl) (fun _ _ _ h => h) (by rfl) (by assumption) ?_
          try simp only [Act.put, List.setIfInBounds_toArray, List.set_cons_zero, List.set_cons_succ]
          refine takeX 8 rfl (by kernel_rfl) (by kernel_rfl) (by kernel_rfl) (fun _ _ _ h => h) (by rfl) (by assumption) ?_
          try simp only [Act.put, List.setIfInBounds_toArray, List.set_cons_zero, List.set_cons_succ]
          refine takeX 9 rfl (by kernel_rfl) (by kernel_rfl) (by kernel_rfl) (fun _ _ _ h => h) (by rfl) (by assumption) ?_
          try simp only [Act.put, List.setIfInBounds_toArray, List.set_cons_zero, List.set_cons_succ]
          refine takeX 10 rfl (by kernel_rfl) (by kernel_rfl) (by kernel_rfl) (fun _ _ _ h => h) (by rfl) (by assumption) ?_
          try simp only [Act.put, List.setIfInBounds_toArray, List.set_cons_zero, List.set_cons_succ]
          refine takeX 11 rfl (by kernel_rfl) (by kernel_rfl) (by kernel_rfl) (fun _ _ _ h => h) (by rfl) (by assumption) ?_
          try simp only [Act.put, List.setIfInBounds_toArray, List.set_cons_zero, List.set_cons_succ]
          refine takeX 12 rfl (by kernel_rfl) (by kernel_rfl) (by kernel_rfl) (fun _ _ _ h => h) (by rfl) (by assumption) ?_
          try simp only [Act.put, List.setIfInBounds_toArray, List.set_cons_zero, List.set_cons_succ]
          refine takeX 13 rfl (by kernel_rfl) (by kernel_rfl) (by kernel_rfl) (fun _ _ _ h => h) (by rfl) (by assumption) ?_
          try simp only [Act.put, List.setIfInBounds_toArray, List.set_cons_zero, List.set_cons_succ]
          refine takeX 14 rfl (by kernel_rfl) (by kernel_rfl) (by kernel_rfl) (fun _ _ _ h => h) (by rfl) (by assumption) ?_
          try simp only [Act.put, List.setIfInBounds_toArray, List.set_cons_zero, List.set_cons_succ]
          refine takeX 15 rfl (by kernel_rfl) (by kernel_rfl) (by kernel_rfl) (fun _ _ _ h => h) (by rfl) (by assumption) ?_
          try simp only [Act.put, List.setIfInBounds_toArray, List.set_cons_zero, List.set_cons_succ]
          refine takeX 16 rfl (by kernel_rfl) (by kernel_rfl) (by kernel_rfl) (fun _ _ _ h => h) (by rfl) (by assumption) ?_
          try simp only [Act.put, List.setIfInBounds_toArray, List.set_cons_zero, List.set_cons_succ]
          refine takeX 17 rfl (by kernel_rfl) (by kernel_rfl) (by kernel_rfl) (fun _ _ _ h => h) (by rfl) (by assumption) ?_
          try simp only [Act.put, List.setIfInBounds_toArray, List.set_cons_zero, List.set_cons_succ]
          refine takeW 18 (v := ?v75) rfl (by kernel_rfl) (by kernel_rfl) (by kernel_rfl) (fun _ _ _ h => h) (by rfl) (by assumption) ?hy75 ?rest75
          case hy75 => intro w' hSw; (try dsimp only at hSw); go_simp; try with_reducible rfl
          try simp only [Act.put, List.setIfInBounds_toArray, List.set_cons_zero, List.set_cons_succ]
          refine wpAnyH_done (by kernel_rfl) ?_ _
          have hBB3 := below_one hBW (below_drew1 hB3)
          clear hcn hcb hB3 hHeld x0 x1 x2 q0 q1 q2
          go_wp2_with fail
          go_ret
          exact ⟨ret_bool HR.out.symm, hBB3⟩
        · cases hx : (s.num == p + 1)
          · have HR := hid (HNX.out (by rw [HI.out]; exact hx))
            have hne : (p + 1 != s.num) = true := by simp at hx ⊢; omega
            go_wp2_with fail
            generalize wr.alloc (.cells #[.int .i64 s.num, .slice xp s.pol.length cp, .slice xr s.rv.length cr] 26) = Wa at *
            refine wp_region_held_drew (S := fun w' => w'.cell? ⟨wr.heap.size, 0, none⟩ = some (.int .i64 s.num) ∧ w'.cell? ⟨wr.heap.size, 1, none⟩ = some (.slice xp s.pol.length cp) ∧ w'.cell? ⟨wr.heap.size, 2, none⟩ = some (.slice xr s.rv.length cr) ∧ w'.cell? ⟨b, off + m * 3, none⟩ = some (.int .i64 p)) (by kernel_rfl) ?_ (fun hHeld => ?_)
            · go_keep
            refine takeW 0 (v := ?v76) rfl (by kernel_rfl) (by kernel_rfl) (by kernel_rfl) (fun _ _ _ h => h) (by rfl) (by assumption) ?hy76 ?rest76
            case hy76 => intro w' hSw; (try dsimp only at hSw); go_simp; try with_reducible rfl
            try simp only [Act.put, List.setIfInBounds_toArray, List.set_cons_zero, List.set_cons_succ]
            refine takeC 1 (by kernel_rfl) rfl (fun K hK => ?_)
            go_simp
            refine (specGoodSnapshot_any _ s _ hsh (by exact ⟨_, _, rfl, z1.below (Below.refl _ _).drew, z2.below (Below.refl _ _).drew⟩)).mono ?_; rintro e w3 ⟨he, hB3⟩; rw [hg] at he; subst he; have hcn := fun o => hB3.cell (p := ⟨wr.heap.size, o, none⟩) (by exact F.lt); have hcb := fun o => hB3.cell (p := ⟨b, o, none⟩) (by exact hbW)
            refine hK.out _ _ ?_ (fun hHeld => ?_)
            · go_keep
            clear hK K
            try simp only [Act.put, List.setIfInBounds_toArray, List.set_cons_zero, List.set_cons_succ]
            refine takeW 2 (v := ?v77) rfl (by kernel_rfl) (by kernel_rfl) (by kernel_rfl) (fun _ _ _ h => h) (by rfl) (by assumption) ?hy77 ?rest77
            case hy77 => intro w' hSw; (try dsimp only at hSw); go_simp; try with_reducible rfl
            try simp only [Act.put, List.setIfInBounds_toArray, List.set_cons_zero, List.set_cons_succ]
            refine takeW 3 (v := ?v78) rfl (by kernel_rfl) (by kernel_rfl) (by kernel_rfl) (fun _ _ _ h => h) (by rfl) (by assumption) ?hy78 ?rest78
            case hy78 => intro w' hSw; (try dsimp only at hSw); go_simp; try with_reducible rfl
            try simp only [Act.put, List.setIfInBounds_toArray, List.set_cons_zero, List.set_cons_succ]
            refine takeW 4 (v := ?v79) rfl (by kernel_rfl) (by kernel_rfl) (by kernel_rfl) (fun _ _ _ h => h) (by rfl) (by assumption) ?hy79 ?rest79
            case hy79 => intro w' hSw; (try dsimp only at hSw); go_simp; try with_reducible rfl
            try simp only [Act.put, List.setIfInBounds_toArray, List.set_cons_zero, List.set_cons_succ]
            refine takeW 5 (v := ?v80) rfl (by kernel_rfl) (by kernel_rfl) (by kernel_rfl) (fun _ _ _ h => h) (by rfl) (by assumption) ?hy80 ?rest80
            case hy80 => intro w' hSw; (try dsimp only at hSw); go_simp; try with_reducible rfl
            try simp only [Act.put, List.setIfInBounds_toArray, List.set_cons_zero, List.set_cons_succ]
            refine takeW 6 (v := ?v81) rfl (by kernel_rfl) (by kernel_rfl) (by kernel_rfl) (fun _ _ _ h => h) (by rfl) (by assumption) ?hy81 ?rest81
            case hy81 => intro w' hSw; (try dsimp only at hSw); go_simp; try with_reducible rfl
            try simp only [Act.put, List.setIfInBounds_toArray, List.set_cons_zero, List.set_cons_succ]
            refine takeW 7 (v := ?v82) rfl (by kernel_rfl) (by kernel_rfl) (by kernel_rfl) (fun _ _ _ h => h) (by rfl) (by assumption) ?hy82 ?rest82
            case hy82 => intro w' hSw; (try dsimp only at hSw); go_simp; try with_reducible rfl
            try simp only [Act.put, List.setIfInBounds_toArray, List.set_cons_zero, List.set_cons_succ]
            refine takeW 8 (v := ?v83) rfl (by kernel_rfl) (by kernel_rfl) (by kernel_rfl) (fun _ _ _ h => h) (by rfl) (by assumption) ?hy83 ?rest83
            case hy83 => intro w' hSw; (try dsimp only at hSw); go_simp; try with_reducible rfl
            try simp only [Act.put, List.setIfInBounds_toArray, List.set_cons_zero, List.set_cons_succ]
            refine takeW 9 (v := ?v84) rfl (by kernel_rfl) (by kernel_rfl) (by kernel_rfl) (fun _ _ _ h => h) (by rfl) (by assumption) ?hy84 ?rest84
            case hy84 => intro w' hSw; (try dsimp only at hSw); go_simp; try with_reducible rfl
            try simp only [Act.put, List.setIfInBounds_toArray, List.set_cons_zero, List.set_cons_succ]
            refine takeW 10 (v := ?v85) rfl (by kernel_rfl) (by kernel_rfl) (by kernel_rfl) (fun _ _ _ h => h) (by rfl) (by assumption) ?hy85 ?rest85
            case hy85 => intro w' hSw; (try dsimp only at hSw); go_simp; try with_reducible rfl
            try simp only [Act.put, List.setIfInBounds_toArray, List.set_cons_zero, List.set_cons_succ]
            refine takeW 11 (v := ?v86) rfl (by kernel_rfl) (by kernel_rfl) (by kernel_rfl) (fun _ _ _ h => h) (by rfl) (by assumption) ?hy86 ?rest86
            case hy86 => intro w' hSw; (try dsimp only at hSw); go_simp; try with_reducible rfl
            try simp only [Act.put, List.setIfInBounds_toArray, List.set_cons_zero, List.set_cons_succ]
            refine takeW 12 (v := ?v87) rfl (by kernel_rfl) (by kernel_rfl) (by kernel_rfl) (fun _ _ _ h => h) (by rfl) (by assumption) ?hy87 ?rest87
            case hy87 => intro w' hSw; (try dsimp only at hSw); go_simp; try with_reducible rfl
            try simp only [Act.put, List.setIfInBounds_toArray, List.set_cons_zero, List.set_cons_succ]
            refine takeW 13 (v := ?v88) rfl (by kernel_rfl) (by kernel_rfl) (by kernel_rfl) (fun _ _ _ h => h) (by rfl) (by assumption) ?hy88 ?rest88
            case hy88 => intro w' hSw; (try dsimp only at hSw); go_simp; try with_reducible rfl
            try simp only [Act.put, List.setIfInBounds_toArray, List.set_cons_zero, List.set_cons_succ]
            refine takeW 14 (v := ?v89) rfl (by kernel_rfl) (by kernel_rfl) (by kernel_rfl) (fun _ _ _ h => h) (by rfl) (by assumption) ?hy89 ?rest89
            case hy89 => intro w' hSw; (try dsimp only at hSw); go_simp; try with_reducible rfl
            try simp only [Act.put, List.setIfInBounds_toArray, List.set_cons_zero, List.set_cons_succ]
            refine takeW 15 (v := ?v90) rfl (by kernel_rfl) (by kernel_rfl) (by kernel_rfl) (fun _ _ _ h => h) (by rfl) (by assumption) ?hy90 ?rest90
            case hy90 => intro w' hSw; (try dsimp only at hSw); go_simp; try with_reducible rfl
            try simp only [Act.put, List.setIfInBounds_toArray, List.set_cons_zero, List.set_cons_succ]
            refine takeW 16 (v := ?v91) rfl (by kernel_rfl) (by kernel_rfl) (by kernel_rfl) (fun _ _ _ h => h) (by rfl) (by assumption) ?hy91 ?rest91
            case hy91 => intro w' hSw; (try dsimp only at hSw); go_simp; try with_reducible rfl
            try simp only [Act.put, List.setIfInBounds_toArray, List.set_cons_zero, List.set_cons_succ]
            refine takeW 17 (v := ?v92) rfl (by kernel_rfl) (by kernel_rfl) (by kernel_rfl) (fun _ _ _ h => h) (by rfl) (by assumption) ?hy92 ?rest92
            case hy92 => intro w' hSw; (try dsimp only at hSw); go_simp; try with_reducible rfl
            try simp only [Act.put, List.setIfInBounds_toArray, List.set_cons_zero, List.set_cons_succ]
            refine takeW 18 (v := ?v93) rfl (by kernel_rfl) (by kernel_rfl) (by kernel_rfl) (fun _ _ _ h => h) (by rfl) (by assumption) ?hy93 ?rest93
            case hy93 => intro w' hSw; (try dsimp only at hSw); go_simp; try with_reducible rfl
            try simp only [Act.put, List.setIfInBounds_toArray, List.set_cons_zero, List.set_cons_succ]
            refine wpAnyH_done (by kernel_rfl) ?_ _
            have hBB3 := below_one hBW (below_drew1 hB3)
            clear hcn hcb hB3 hHeld x0 x1 x2 q0 q1 q2
            go_wp2_with fail
            go_ret
            exact ⟨ret_bool HR.out.symm, hBB3⟩
          · have HR := hid (HY.out (by rw [HGA.out]; exact hg) (by rw [HI.out]; exact hx))
            have hne : (p + 1 != s.num) = false := by simp at hx ⊢; omega
            go_wp2_with fail
            generalize wr.alloc (.cells #[.int .i64 s.num, .slice xp s.pol.length cp, .slice xr s.rv.length cr] 26) = Wa at *
            refine wp_region_held_drew (S := fun w' => w'.cell? ⟨wr.heap.size, 0, none⟩ = some (.int .i64 s.num) ∧ w'.cell? ⟨wr.heap.size, 1, none⟩ = some (.slice xp s.pol.length cp) ∧ w'.cell? ⟨wr.heap.size, 2, none⟩ = some (.slice xr s.rv.length cr) ∧ w'.cell? ⟨b, off + m * 3, none⟩ = some (.int .i64 p)) (by kernel_rfl) ?_ (fun hHeld => ?_)
            · go_keep
            refine takeW 0 (v := ?v94) rfl (by kernel_rfl) (by kernel_rfl) (by kernel_rfl) (fun _ _ _ h => h) (by rfl) (by assumption) ?hy94 ?rest94
            case hy94 => intro w' hSw; (try dsimp only at hSw); go_simp; try with_reducible rfl
            try simp only [Act.put, List.setIfInBounds_toArray, List.set_cons_zero, List.set_cons_succ]
            refine takeC 1 (by kernel_rfl) rfl (fun K hK => ?_)
            go_simp
            refine (specGoodSnapshot_any _ s _ hsh (by exact ⟨_, _, rfl, z1.below (Below.refl _ _).drew, z2.below (Below.refl _ _).drew⟩)).mono ?_; rintro e w3 ⟨he, hB3⟩; rw [hg] at he; subst he; have hcn := fun o => hB3.cell (p := ⟨wr.heap.size, o, none⟩) (by exact F.lt); have hcb := fun o => hB3.cell (p := ⟨b, o, none⟩) (by exact hbW)
            refine hK.out _ _ ?_ (fun hHeld => ?_)
            · go_keep
            clear hK K
            try simp only [Act.put, List.setIfInBounds_toArray, List.set_cons_zero, List.set_cons_succ]
            refine takeW 2 (v := ?v95) rfl (by kernel_rfl) (by kernel_rfl) (by kernel_rfl) (fun _ _ _ h => h) (by rfl) (by assumption) ?hy95 ?rest95
            case hy95 => intro w' hSw; (try dsimp only at hSw); go_simp; try with_reducible rfl
            try simp only [Act.put, List.setIfInBounds_toArray, List.set_cons_zero, List.set_cons_succ]
            refine takeW 3 (v := ?v96) rfl (by kernel_rfl) (by kernel_rfl) (by kernel_rfl) (fun _ _ _ h => h) (by rfl) (by assumption) ?hy96 ?rest96
            case hy96 => intro w' hSw; (try dsimp only at hSw); go_simp; try with_reducible rfl
            try simp only [Act.put, List.setIfInBounds_toArray, List.set_cons_zero, List.set_cons_succ]
            refine takeW 4 (v := ?v97) rfl (by kernel_rfl) (by kernel_rfl) (by kernel_rfl) (fun _ _ _ h => h) (by rfl) (by assumption) ?hy97 ?rest97
            case hy97 => intro w' hSw; (try dsimp only at hSw); go_simp; try with_reducible rfl
            try simp only [Act.put, List.setIfInBounds_toArray, List.set_cons_zero, List.set_cons_succ]
            refine takeW 5 (v := ?v98) rfl (by kernel_rfl) (by kernel_rfl) (by kernel_rfl) (fun _ _ _ h => h) (by rfl) (by assumption) ?hy98 ?rest98
            case hy98 => intro w' hSw; (try dsimp only at hSw); go_simp; try with_reducible rfl
            try simp only [Act.put, List.setIfInBounds_toArray, List.set_cons_zero, List.set_cons_succ]
            refine takeW 6 (v := ?v99) rfl (by kernel_rfl) (by kernel_rfl) (by kernel_rfl) (fun _ _ _ h => h) (by rfl) (by assumption) ?hy99 ?rest99
            case hy99 => intro w' hSw; (try dsimp only at hSw); go_simp; try with_reducible rfl
            try simp only [Act.put, List.setIfInBounds_toArray, List.set_cons_zero, List.set_cons_succ]
            refine takeW 7 (v := ?v100) rfl (by kernel_rfl) (by kernel_rfl) (by kernel_rfl) (fun _ _ _ h => h) (by rfl) (by assumption) ?hy100 ?rest100
            case hy100 => intro w' hSw; (try dsimp only at hSw); go_simp; try with_reducible rfl
            try simp only [Act.put, List.setIfInBounds_toArray, List.set_cons_zero, List.set_cons_succ]
            refine takeW 8 (v := ?v101) rfl (by kernel_rfl) (by kernel_rfl) (by kernel_rfl) (fun _ _ _ h => h) (by rfl) (by assumption) ?hy101 ?rest101
            case hy101 => intro w' hSw; (try dsimp only at hSw); go_simp; try with_reducible rfl
            try simp only [Act.put, List.setIfInBounds_toArray, List.set_cons_zero, List.set_cons_succ]
            refine takeW 9 (v := ?v102) rfl (by kernel_rfl) (by kernel_rfl) (by kernel_rfl) (fun _ _ _ h => h) (by rfl) (by assumption) ?hy102 ?rest102
            case hy102 => intro w' hSw; (try dsimp only at hSw); go_simp; try with_reducible rfl
            try simp only [Act.put, List.setIfInBounds_toArray, List.set_cons_zero, List.set_cons_succ]
            refine takeW 10 (v := ?v103) rfl (by kernel_rfl) (by kernel_rfl) (by kernel_rfl) (fun _ _ _ h => h) (by rfl) (by assumption) ?hy103 ?rest103
            case hy103 => intro w' hSw; (try dsimp only at hSw); go_simp; try with_reducible rfl
            try simp only [Act.put, List.setIfInBounds_toArray, List.set_cons_zero, List.set_cons_succ]
            refine takeW 11 (v := ?v104) rfl (by kernel_rfl) (by kernel_rfl) (by kernel_rfl) (fun _ _ _ h => h) (by rfl) (by assumption) ?hy104 ?rest104
            case hy104 => intro w' hSw; (try dsimp only at hSw); go_simp; try with_reducible rfl
            try simp only [Act.put, List.setIfInBounds_toArray, List.set_cons_zero, List.set_cons_succ]
            refine takeW 12 (v := ?v105) rfl (by kernel_rfl) (by kernel_rfl) (by kernel_rfl) (fun _ _ _ h => h) (by rfl) (by assumption) ?hy105 ?rest105
            case hy105 => intro w' hSw; (try dsimp only at hSw); go_simp; try with_reducible rfl
            try simp only [Act.put, List.setIfInBounds_toArray, List.set_cons_zero, List.set_cons_succ]
            refine takeW 13 (v := ?v106) rfl (by kernel_rfl) (by kernel_rfl) (by kernel_rfl) (fun _ _ _ h => h) (by rfl) (by assumption) ?hy106 ?rest106
            case hy106 => intro w' hSw; (try dsimp only at hSw); go_simp; try with_reducible rfl
            try simp only [Act.put, List.setIfInBounds_toArray, List.set_cons_zero, List.set_cons_succ]
            refine takeW 14 (v := ?v107) rfl (by kernel_rfl) (by kernel_rfl) (by kernel_rfl) (fun _ _ _ h => h) (by rfl) (by assumption) ?hy107 ?rest107
            case hy107 => intro w' hSw; (try dsimp only at hSw); go_simp; try with_reducible rfl
            try simp only [Act.put, List.setIfInBounds_toArray, List.set_cons_zero, List.set_cons_succ]
            refine takeW 15 (v := ?v108) rfl (by kernel_rfl) (by kernel_rfl) (by kernel_rfl) (fun _ _ _ h => h) (by rfl) (by assumption) ?hy108 ?rest108
            case hy108 => intro w' hSw; (try dsimp only at hSw); go_simp; try with_reducible rfl
            try simp only [Act.put, List.setIfInBounds_toArray, List.set_cons_zero, List.set_cons_succ]
            refine takeW 16 (v := ?v109) rfl (by kernel_rfl) (by kernel_rfl) (by kernel_rfl) (fun _ _ _ h => h) (by rfl) (by assumption) ?hy109 ?rest109
            case hy109 => intro w' hSw; (try dsimp only at hSw); go_simp; try with_reducible rfl
            try simp only [Act.put, List.setIfInBounds_toArray, List.set_cons_zero, List.set_cons_succ]
            refine takeW 17 (v := ?v110) rfl (by kernel_rfl) (by kernel_rfl) (by kernel_rfl) (fun _ _ _ h => h) (by rfl) (by assumption) ?hy110 ?rest110
            case hy110 => intro w' hSw; (try dsimp only at hSw); go_simp; try with_reducible rfl
            try simp only [Act.put, List.setIfInBounds_toArray, List.set_cons_zero, List.set_cons_succ]
            refine takeW 18 (v := ?v111) rfl (by kernel_rfl) (by kernel_rfl) (by kernel_rfl) (fun _ _ _ h => h) (by rfl) (by assumption) ?hy111 ?rest111
            case hy111 => intro w' hSw; (try dsimp only at hSw); go_simp; try with_reducible rfl
            try simp only [Act.put, List.setIfInBounds_toArray, List.set_cons_zero, List.set_cons_succ]
            refine wpAnyH_done (by kernel_rfl) ?_ _
            have hBB3 := below_one hBW (below_drew1 hB3)
            clear hcn hcb hB3 hHeld x0 x1 x2 q0 q1 q2
            go_wp2_with fail
            go_roundw
            case rel => first | exact ⟨n + 1, by omega, by go_num, HR.out, hBB3⟩ | ((repeat apply Exists.intro); exact ⟨⟨n + 1, by omega, by go_num, HR.out, hBB3⟩, rfl⟩)
            case measure => simp [intOf]; omega
    · obtain rfl : n = ss.length := by omega
      have HR := hid (show lsB ss = decide (ss.length ≤ 20) by by_cases h : ss.length ≤ 20; rw [lsB_yes h HK.out, decide_eq_true h]; rw [lsB_no1 h, decide_eq_false h])
      go_wp2
      go_ret
      exact ⟨ret_bool (by rw [HR.out]; exact decide_eq_decide.2 (by omega)), hB⟩

end Go.Proofs.YtoaeckcenobfcaaGreat

namespace Go.Proofs.YtoaeckcenobfcaaGreat
open Go.RowKit Go.Shelf

/-- append(v, u...): a row of one's own, and one that can be read. -/
theorem wpList_append_read {P : Program} {w : World} {ops : Array Oper} {rest : List Oper} {o : Oper} {a : Act} {Q : Exit → Act → World → Prop} (hgd : o.guard = none) (s x : Operand) (t : TypeId)
    (ho : o.op = .call { callee := .builtin .append, args := #[s, x], argTypes := #[t, t] })
    (base : Nat) (e : TypeId) (i : TypeInfo) (z : Value) (size bytes : Nat) (ht : P.underlying t = some (.slice e)) (hi : P.info? e = some i) (hz : i.zero = some z)
    (hsize : i.size = size) (hby : i.bytes = bytes) (hzs : z.cells.size = size) (hsz : 0 < size)
    (v u : Value) (n m : Nat) (xs ys : List Value) (hs : a.eval s = v) (hown : w.ownsRow base e size v n xs) (hx : a.eval x = u)
    (hsrc : (u = .slice none 0 0 ∧ m = 0 ∧ ys = []) ∨ ∃ b off cap, u = .slice (some ⟨b, off, none⟩) m cap ∧ ys.length = m * size ∧ ∀ j y, ys[j]? = some y → w.cell? ⟨b, off + j, none⟩ = some y) (h1 : ∀ y ∈ ys, y.oneCell' = true)
    (h63 : n + m ≤ maxLen) (hbytes : (n + m) * bytes ≤ 140737488355328) (hbase : base ≤ w.heap.size)
    (h : ∀ v' w', w'.ownsRow base e size v' (n + m) (xs ++ ys) → w.grownBy w' v.ownBlock → wpList P ops Q rest (a.put o.dst v') w') : wpList P ops Q (o :: rest) a w := by
  rcases hsrc with ⟨rfl, rfl, rfl⟩ | ⟨b, off, cap, rfl, hl, hc⟩
  · exact wpList_append_own_none hgd s x t ho base e i size ht hi v n xs hs hown hx (h v w (by simpa using hown) (grown_self _ _))
  · exact wpList_append_own _ hgd s x t ho base e i z size bytes ht hi hz hsize hby hzs hsz v n xs hs hown ⟨b, off, none⟩ m cap ys hx hl (fun j y hj => by rw [Addr.add_lit]; exact hc j y hj) h1 h63 hbytes hbase (fun v' w' h1 h2 _ => h v' w' h1 h2)
theorem row_void (w : World) (e : TypeId) (size n : Nat) {base : Nat} (hn : n = w.heap.size) (hb : base ≤ w.heap.size) : (w.alloc (.cells #[] e)).ownsRow base e size (.slice (some ⟨n, 0, none⟩) 0 0) 0 [] := by
  subst hn
  exact ⟨by simp, .inr ⟨w.heap.size, 0, #[], rfl, hb, by show (w.heap.push _)[w.heap.size]? = _; rw [Array.getElem?_push_size], Nat.le_refl _, by unfold maxLen; omega, by simp, by simp⟩⟩
theorem RuR.src {w : World} {v : Value} {rs : List Ru} (h : RuR w v rs) : (v = .slice none 0 0 ∧ rs.length = 0 ∧ rs.flatMap Ru.cells = []) ∨ ∃ b off cap, v = .slice (some ⟨b, off, none⟩) rs.length cap ∧ (rs.flatMap Ru.cells).length = rs.length * 4 ∧ ∀ j y, (rs.flatMap Ru.cells)[j]? = some y → w.cell? ⟨b, off + j, none⟩ = some y := by
  rcases h with ⟨rfl, rfl⟩ | ⟨b, off, cap, rfl, _, _, hc⟩
  · exact .inl ⟨rfl, rfl, rfl⟩
  · exact .inr ⟨b, off, cap, rfl, flat_len rs, RuR.flat hc⟩
theorem NuR.src {w : World} {v : Value} {zs : List Int} (h : NuR w v zs) : (v = .slice none 0 0 ∧ zs.length = 0 ∧ nums zs = []) ∨ ∃ b off cap, v = .slice (some ⟨b, off, none⟩) zs.length cap ∧ (nums zs).length = zs.length * 1 ∧ ∀ j y, (nums zs)[j]? = some y → w.cell? ⟨b, off + j, none⟩ = some y := by
  rcases h with ⟨rfl, rfl⟩ | ⟨b, off, cap, rfl, _, _, hc⟩
  · exact .inl ⟨rfl, rfl, rfl⟩
  · refine .inr ⟨b, off, cap, rfl, by rw [nums_len]; omega, fun j y hy => ?_⟩
    have hj : j < zs.length := by rw [← nums_len]; exact (List.getElem?_eq_some_iff.1 hy).1
    rw [hc j hj]
    simpa [nums, hj] using hy
theorem ones_n {zs : List Int} : ∀ u ∈ nums zs, u.oneCell' = true := by
  intro u hu
  obtain ⟨z, _, rfl⟩ := List.mem_map.1 hu
  rfl

set_option maxHeartbeats 4000000 in
set_option maxRecDepth 100000 in
theorem l5Own_any (v : Value) (s : Sn) (w : World) (hs : s.short) (h : SnR w v s) :
    Calls Tryz.prog 102 #[v] w fun e w' => ∃ v', e = .returned v' ∧ SnO w' w.heap.size w'.heap.size v' s ∧ Below w.heap.size w w' := by
  obtain ⟨vp, vr, rfl, h1, h2⟩ := h
  obtain ⟨l1, l2, _⟩ := hs
  obtain ⟨xp, cp, rfl⟩ := h1.len
  obtain ⟨xr, cr, rfl⟩ := h2.len
  obtain ⟨iw, hiw, hw0, hw1, hw2⟩ := info_parts infoRule
  obtain ⟨ii, hii, hi0, hi1, hi2⟩ := info_parts infoInt
  have hB0 : Below w.heap.size w ((((w.alloc (.cells #[.int .i64 s.num, .slice xp s.pol.length cp, .slice xr s.rv.length cr] 26)).alloc (.cells #[.int .i64 0, .slice none 0 0, .slice none 0 0] 26))).alloc (.cells #[] 41)) := (((Below.refl _ w).alloc (Nat.le_refl _) _).alloc (by simp) _).alloc (by simp; omega) _
  have F1 := ((Three.new w (.int .i64 s.num) (.slice xp s.pol.length cp) (.slice xr s.rv.length cr) 26).below ((Below.refl _ _).alloc (Nat.le_refl _) (.cells #[.int .i64 0, .slice none 0 0, .slice none 0 0] 26))).below ((Below.refl _ _).alloc (Nat.le_refl _) (.cells #[] 41))
  have F2 := (Three.at (w.alloc (.cells #[.int .i64 s.num, .slice xp s.pol.length cp, .slice xr s.rv.length cr] 26)) (.int .i64 0) (.slice none 0 0) (.slice none 0 0) 26 (k := w.heap.size + 1) (by simp)).below ((Below.refl _ _).alloc (Nat.le_refl _) (.cells #[] 41))
  have r0 := row_void ((w.alloc (.cells #[.int .i64 s.num, .slice xp s.pol.length cp, .slice xr s.rv.length cr] 26)).alloc (.cells #[.int .i64 0, .slice none 0 0, .slice none 0 0] 26)) 41 4 (w.heap.size + 1 + 1) (base := w.heap.size + 1 + 1) (by simp) (by simp)
  have hbz : w.heap.size + 1 + 1 ≤ (((w.alloc (.cells #[.int .i64 s.num, .slice xp s.pol.length cp, .slice xr s.rv.length cr] 26)).alloc (.cells #[.int .i64 0, .slice none 0 0, .slice none 0 0] 26)).alloc (.cells #[] 41)).heap.size := by simp
  go_enter Tryz.func102, Tryz.ntmps102
  go_wp2_with (at_builtin; refine wpList_append_read rfl _ _ 23 rfl (w.heap.size + 1 + 1) 41 iw _ 4 56 Tryz.underlying23 hiw hw0 hw1 hw2 rfl (by decide) _ _ 0 s.pol.length [] _ rfl r0 rfl (h1.below hB0).src cells_one (by unfold maxLen; omega) (by omega) hbz ?_)
  intro v1 w1 o1 g1
  obtain ⟨x1, y1, z1, rfl⟩ := row_slice o1
  replace F1 : Three w1 _ _ _ _ _ := World.ownsRow.kept F1 g1 (.inr (by simp [Value.ownBlock] <;> omega))
  replace F2 : Three w1 _ _ _ _ _ := World.ownsRow.kept F2 g1 (.inr (by simp [Value.ownBlock] <;> omega))
  have hBB1 : Below w.heap.size w w1 := hB0.grown g1 hB0.size (fun k e => by simp [Value.ownBlock] at e; omega)
  have hk1 : w.heap.size + 1 + 1 ≤ w1.heap.size := Nat.le_trans hbz g1.size
  clear hB0 g1 r0 hbz
  have hBc : Below (w1.setCell ⟨w.heap.size, 1, none⟩ (.slice x1 y1 z1)).heap.size (w1.setCell ⟨w.heap.size, 1, none⟩ (.slice x1 y1 z1)) ((w1.setCell ⟨w.heap.size, 1, none⟩ (.slice x1 y1 z1)).alloc (.cells #[] 3)) := (Below.refl _ _).alloc (Nat.le_refl _) _
  obtain ⟨a0, a1, a2⟩ := F1.c
  have f1 := F1.f 1
  have G1 := (F1.s1 (.slice x1 y1 z1)).below hBc
  have G2 := (F2.other (k' := w.heap.size) (by omega) 1 (.slice x1 y1 z1)).below hBc
  have q1 := (ownsRow_setCell_below o1 (a := ⟨w.heap.size, 1, none⟩) (by simp; omega) (.slice x1 y1 z1)).alloc (.cells #[] 3)
  have r1 := row_void (w1.setCell ⟨w.heap.size, 1, none⟩ (.slice x1 y1 z1)) 3 1 w1.heap.size (base := w1.heap.size) (by simp) (by simp)
  have hBB2 := (hBB1.setCell (p := ⟨w.heap.size, 1, none⟩) (by simp) (.slice x1 y1 z1)).trans (hBc.mono (by simp; have := hBB1.size; omega))
  have hbz2 : w1.heap.size ≤ ((w1.setCell ⟨w.heap.size, 1, none⟩ (.slice x1 y1 z1)).alloc (.cells #[] 3)).heap.size := by simp
  clear F1 F2 hBc
  obtain ⟨n0, n1, n2⟩ := G1.c
  go_wp2_with (at_builtin; refine wpList_append_read rfl _ _ 24 rfl w1.heap.size 3 ii _ 1 8 Tryz.underlying24 hii hi0 hi1 hi2 rfl (by decide) _ _ 0 s.rv.length [] _ rfl r1 rfl (h2.below hBB2).src ones_n (by unfold maxLen; omega) (by omega) hbz2 ?_)
  intro v2 w2 o2 g2
  obtain ⟨x2, y2, z2, rfl⟩ := row_slice o2
  replace G1 : Three w2 _ _ _ _ _ := World.ownsRow.kept G1 g2 (.inr (by simp [Value.ownBlock] <;> omega))
  replace G2 : Three w2 _ _ _ _ _ := World.ownsRow.kept G2 g2 (.inr (by simp [Value.ownBlock] <;> omega))
  have p1 := kept_apart (v2 := .slice (some ⟨w1.heap.size, 0, none⟩) 0 0) q1 g2 (row_apart q1 r1 (by decide))
  have hBB3 : Below w.heap.size w w2 := hBB2.grown g2 hBB2.size (fun k e => by simp [Value.ownBlock] at e; omega)
  have hk2 : w1.heap.size ≤ w2.heap.size := Nat.le_trans hbz2 g2.size
  clear hBB2 g2 r1 hbz2 q1 a0 a1 a2 f1 n0 n1 n2
  obtain ⟨a0, a1, a2⟩ := G1.c
  have f2 := G1.f 2
  have F1' := G1.s2 (.slice x2 y2 z2)
  have F2' := G2.other (k' := w.heap.size) (by omega) 2 (.slice x2 y2 z2)
  have q1 := ownsRow_setCell_below p1 (a := ⟨w.heap.size, 2, none⟩) (by simp; omega) (.slice x2 y2 z2)
  have q2 := ownsRow_setCell_below o2 (a := ⟨w.heap.size, 2, none⟩) (by simp; omega) (.slice x2 y2 z2)
  have hBB4 := hBB3.setCell (p := ⟨w.heap.size, 2, none⟩) (by simp) (.slice x2 y2 z2)
  obtain ⟨b0, b1, b2⟩ := F1'.c
  obtain ⟨e0, e1, e2⟩ := F2'.c
  have k0 := F2'.f 0
  have k1 := F2'.f 1
  have k2 := F2'.f 2
  have G := ((F2'.s0 (.int .i64 s.num)).s1 (.slice x1 y1 z1)).s2 (.slice x2 y2 z2)
  have m1 := row_three q1 (k := w.heap.size + 1) (by omega) (.int .i64 s.num) (.slice x1 y1 z1) (.slice x2 y2 z2)
  have m2 := row_three q2 (k := w.heap.size + 1) (by omega) (.int .i64 s.num) (.slice x1 y1 z1) (.slice x2 y2 z2)
  have pB := below_three hBB4 (k := w.heap.size + 1) (by omega) (.int .i64 s.num) (.slice x1 y1 z1) (.slice x2 y2 z2)
  go_wp2_with fail
  clear a0 a1 a2 f2 b0 b1 b2 e0 e1 e2 k0 k1 k2
  generalize (((w2.setCell ⟨w.heap.size, 2, none⟩ (.slice x2 y2 z2)).setCell ⟨w.heap.size + 1, 0, none⟩ (.int .i64 s.num)).setCell ⟨w.heap.size + 1, 1, none⟩ (.slice x1 y1 z1)).setCell ⟨w.heap.size + 1, 2, none⟩ (.slice x2 y2 z2) = W5 at *
  obtain ⟨d0, d1, d2⟩ := G.c
  exact bodyPost_ret (v := .agg #[.int .i64 s.num, .slice x1 y1 z1, .slice x2 y2 z2]) (by simp [results, Tryz.results102, go_sem, d0, d1, d2]) rfl ⟨_, rfl, SnO.of (Go.Joins.ownsRow_le m1 (by omega)) (Go.Joins.ownsRow_le m2 (by omega)), pB⟩

end Go.Proofs.YtoaeckcenobfcaaGreat

namespace Go.Proofs.YtoaeckcenobfcaaGreat
open Go.RowKit Go.Shelf

theorem cell_three_w (w : World) (x0 x1 x2 : Value) : ∀ j u, [x0, x1, x2][j]? = some u → (w.alloc (.cells #[x0, x1, x2] 26)).cell? ((⟨w.heap.size, 0, none⟩ : Addr).add j) = some u := by
  intro j u hu
  rw [Addr.add_lit, Nat.zero_add]
  have hj : j < 3 := by
    have := (List.getElem?_eq_some_iff.1 hu).1
    simpa using this
  obtain rfl | rfl | rfl : j = 0 ∨ j = 1 ∨ j = 2 := by omega
  all_goals (simp at hu; subst hu; simp)
/-- One more version is put behind the row. -/
theorem SsK.app {w w2 w3 : World} {base : Nat} {v v' : Value} {ss : List Sn} {k : Nat} {xs : List Value} {vp vr : Nat → Value} {p r : Value} {tmp : Obj} (h : SsK w base w.heap.size v k ss k xs vp vr) (hB : Below w.heap.size w w2) (hk : k < ss.length) (hb : base ≤ w.heap.size)
    (hp : w2.ownsRow w.heap.size 41 4 p ss[k].pol.length (ss[k].pol.flatMap Ru.cells)) (hr : w2.ownsRow w.heap.size 3 1 r ss[k].rv.length (nums ss[k].rv))
    (hown : w3.ownsRow base 26 3 v' (k + 1) (xs ++ [.int .i64 ss[k].num, p, r])) (hg : (w2.alloc tmp).grownBy w3 v.ownBlock) :
    SsK w3 base w3.heap.size v' (k + 1) ss (k + 1) (xs ++ [.int .i64 ss[k].num, p, r]) (fun i => if i = k then p else vp i) (fun i => if i = k then r else vr i) := by
  have h2 := h.below hB
  have hlen : xs.length = k * 3 := h.row.1
  have hs := hB.size
  have hr2 := h2.row.alloc tmp
  have keep : ∀ {b : Nat} {e : TypeId} {s m : Nat} {u : Value} {x : List Value}, w2.ownsRow b e s u m x → e ≠ 26 → w3.ownsRow b e s u m x := fun hu hne => kept_apart (hu.alloc tmp) hg (fun j h1 h2 => row_apart (hu.alloc tmp) hr2 hne j h1 h2)
  have pk := keep hp tyR
  have rk := keep hr tyN
  refine ⟨hown, fun j hj => (hown.lt j hj).2, ?_, ?_, ?_, ?_, ?_, ?_, ?_⟩
  · intro i hi hik
    by_cases e : i = k
    · subst e
      rw [if_pos rfl, if_pos rfl]
      refine ⟨?_, ?_, ?_⟩
      · rw [List.getElem?_append_right (by omega), hlen, Nat.sub_self]; rfl
      · rw [List.getElem?_append_right (by omega), hlen, Nat.add_sub_cancel_left]; rfl
      · rw [List.getElem?_append_right (by omega), hlen, Nat.add_sub_cancel_left]; rfl
    · rw [if_neg e, if_neg e]
      obtain ⟨c0, c1, c2⟩ := h.cs i hi (by omega)
      exact ⟨by rw [List.getElem?_append_left (by omega)]; exact c0, by rw [List.getElem?_append_left (by omega)]; exact c1, by rw [List.getElem?_append_left (by omega)]; exact c2⟩
  · intro i hi hik
    by_cases e : i = k
    · subst e
      rw [if_pos rfl]
      exact Go.Joins.ownsRow_le pk hb
    · rw [if_neg e]
      exact keep (h2.pol i hi (by omega)) tyR
  · intro i hi hik
    by_cases e : i = k
    · subst e
      rw [if_pos rfl]
      exact Go.Joins.ownsRow_le rk hb
    · rw [if_neg e]
      exact keep (h2.num i hi (by omega)) tyN
  · intro i hi hik j hj
    by_cases e : i = k
    · rw [if_pos e] at hj
      exact (pk.lt j hj).2
    · rw [if_neg e] at hj
      exact ((keep (h2.pol i hi (by omega)) tyR).lt j hj).2
  · intro i hi hik j hj
    by_cases e : i = k
    · rw [if_pos e] at hj
      exact (rk.lt j hj).2
    · rw [if_neg e] at hj
      exact ((keep (h2.num i hi (by omega)) tyN).lt j hj).2
  · intro i j hi hj hik hjk hij b h1 h2'
    by_cases e : i = k
    · rw [if_pos e] at h1
      rw [if_neg (by omega)] at h2'
      have := (hp.lt b h1).1
      have := h.plt j hj (by omega) b h2'
      omega
    · rw [if_neg e] at h1
      have := h.plt i hi (by omega) b h1
      by_cases e2 : j = k
      · rw [if_pos e2] at h2'
        have := (hp.lt b h2').1
        omega
      · rw [if_neg e2] at h2'
        exact h.pap i j hi hj (by omega) (by omega) hij b h1 h2'
  · intro i j hi hj hik hjk hij b h1 h2'
    by_cases e : i = k
    · rw [if_pos e] at h1
      rw [if_neg (by omega)] at h2'
      have := (hr.lt b h1).1
      have := h.nlt j hj (by omega) b h2'
      omega
    · rw [if_neg e] at h1
      have := h.nlt i hi (by omega) b h1
      by_cases e2 : j = k
      · rw [if_pos e2] at h2'
        have := (hr.lt b h2').1
        omega
      · rw [if_neg e2] at h2'
        exact h.nap i j hi hj (by omega) (by omega) hij b h1 h2'

set_option maxHeartbeats 4000000 in
theorem l5OwnAll_any (v : Value) (ss : List Sn) (w : World) (hm : shortS ss) (hr : SsR w v ss) :
    Calls Tryz.prog 88 #[v] w fun e w' => ∃ v', e = .returned v' ∧ SsO w' w.heap.size w'.heap.size v' ss ∧ Below w.heap.size w w' := by
  obtain ⟨a, cap, rfl⟩ := hr.len
  obtain ⟨i0, hi, hz0, hz1, hz2⟩ := info_parts infoSnapshot
  have hm1 := hm.1
  go_enter Tryz.func88, Tryz.ntmps88
  go_wp2
  go_loopw [3, 8] (fun out i wr => ∃ k : Nat, k ≤ ss.length ∧ i = .int .i64 k ∧ (∃ xs vp vr, SsK wr w.heap.size wr.heap.size out k ss k xs vp vr) ∧ Below w.heap.size w wr) (fun _ i _ => ss.length - (intOf i).toNat)
  case atStart => exact ⟨0, Nat.zero_le _, rfl, ⟨[], fun _ => .nilIface, fun _ => .nilIface, World.ownsRow_nil _ _ _ _, fun _ h => by simp [Value.ownBlock] at h, fun _ _ h => absurd h (Nat.not_lt_zero _), fun _ _ h => absurd h (Nat.not_lt_zero _), fun _ _ h => absurd h (Nat.not_lt_zero _), fun _ _ h => absurd h (Nat.not_lt_zero _), fun _ _ h => absurd h (Nat.not_lt_zero _), fun _ _ _ _ h => absurd h (Nat.not_lt_zero _), fun _ _ _ _ h => absurd h (Nat.not_lt_zero _)⟩, Below.refl _ _⟩
  case round =>
    obtain ⟨k, hk, rfl, ⟨xs, vp, vr, hK⟩, hB⟩ := hrel
    by_cases hlt : k < ss.length
    · obtain ⟨b, off, xp, cp, xr, cr, rfl, hb, hcap, q0, q1, q2, y1, y2⟩ := (hr.below hB).at hlt
      have hsh := hm.2 ss[k] (List.getElem_mem hlt)
      have HA := hid (fun (w2 w3 : World) (p r v' : Value) (tmp : Obj) (hB2 : Below wr.heap.size wr w2) => SsK.app (w2 := w2) (w3 := w3) (p := p) (r := r) (v' := v') (tmp := tmp) hK hB2 hlt hB.size)
      have hrow := hK.row
      have hz := hB.size
      clear hK
      generalize ss[k] = s at *
      have hBw : Below wr.heap.size wr (wr.alloc (.cells #[.int .i64 s.num, .slice xp s.pol.length cp, .slice xr s.rv.length cr] 26)) := (Below.refl _ wr).alloc (Nat.le_refl _) _
      have z1 := y1.below hBw
      have z2 := y2.below hBw
      go_wp2_with fail
      clear q0 q1 q2
      generalize wr.alloc (.cells #[.int .i64 s.num, .slice xp s.pol.length cp, .slice xr s.rv.length cr] 26) = W1 at *
      refine (l5Own_any _ s _ hsh ⟨_, _, rfl, z1, z2⟩).mono ?_
      rintro e w2 ⟨v2, rfl, ⟨p, r, rfl, op, or', _, _⟩, hB2⟩
      obtain ⟨xa, ya, za, rfl⟩ := row_slice op
      obtain ⟨xb, yb, zb, rfl⟩ := row_slice or'
      have hBX := below_one hBw hB2
      have hrow2 := ownsRow_below hrow hBX
      have hBY := below_one hB hBX
      have hz2' := hBY.size
      have HB := hid (fun (w3 : World) (v' : Value) (tmp : Obj) => HA.out w2 w3 _ _ v' tmp hBX (Go.Joins.ownsRow_le op hBw.size) (Go.Joins.ownsRow_le or' hBw.size))
      clear HA op or' hB2 hBw y1 y2 z1 z2 hrow
      go_wp2_with (at_builtin; refine wpList_append_own _ rfl _ _ 56 rfl w.heap.size 26 i0 _ 3 56 Tryz.underlying56 hi hz0 hz1 hz2 rfl (by decide) _ _ _ rfl (hrow2.alloc _) ⟨w2.heap.size, 0, none⟩ 1 1 [.int .i64 s.num, .slice xa ya za, .slice xb yb zb] rfl rfl (cell_three_w w2 _ _ _) (by intro u hu; simp at hu; rcases hu with rfl | rfl | rfl <;> rfl) (by unfold maxLen; first | omega | (simp <;> omega)) (by first | omega | (simp <;> omega)) (by first | omega | (simp <;> omega)) ?_; intro u' w3 hown' hgrow _; obtain ⟨g', cap3, rfl⟩ := ownsRow_succ hown')
      go_roundw
      case rel => exact ⟨k + 1, by omega, by go_num, ⟨_, _, _, HB.out w3 _ _ (by simpa using hown') hgrow⟩, hBY.trans (below_appended hz2' hrow2 hgrow)⟩
      case measure => simp [intOf]; omega
    · obtain rfl : k = ss.length := by omega
      go_wp2
      go_ret
      exact ⟨_, rfl, ⟨xs, vp, vr, hK⟩, hB⟩

/-- The versions from a place on. -/
theorem SsR.drop {w : World} {b off n cap c' : Nat} {ss : List Sn} (h : SsR w (.slice (some ⟨b, off, none⟩) n cap) ss) {k : Nat} (hk : k ≤ ss.length) (hc : ss.length - k ≤ c') : SsR w (.slice (some ⟨b, off + k * 3, none⟩) (ss.length - k) c') (ss.drop k) := by
  rcases h with ⟨hv, _⟩ | ⟨b', off', cap', hv, hb, hl, hcs⟩
  · cases hv
  · cases hv
    refine .inr ⟨b, off + k * 3, c', by rw [List.length_drop], hb, by rw [List.length_drop]; exact hc, fun i hi => ?_⟩
    rw [List.length_drop] at hi
    obtain ⟨vp, vr, c0, c1, c2, h1, h2⟩ := hcs (k + i) (by omega)
    refine ⟨vp, vr, ?_, ?_, ?_, ?_, ?_⟩
    · rw [List.getElem_drop, show off + k * 3 + i * 3 = off + (k + i) * 3 by omega]; exact c0
    · rw [show off + k * 3 + i * 3 + 1 = off + (k + i) * 3 + 1 by omega]; exact c1
    · rw [show off + k * 3 + i * 3 + 2 = off + (k + i) * 3 + 2 by omega]; exact c2
    · rw [List.getElem_drop]; exact h1
    · rw [List.getElem_drop]; exact h2
theorem shortS_drop {ss : List Sn} (h : shortS ss) (k : Nat) : shortS (ss.drop k) := ⟨by rw [List.length_drop]; have := h.1; omega, fun s hs => h.2 s (List.mem_of_mem_drop hs)⟩

end Go.Proofs.YtoaeckcenobfcaaGreat

namespace Go.Proofs
open Go.Shelf
def Tryz.growIn_ren : Go.Shelf.Ren := ⟨fun | 4 => 98 | n => n, fun | 22 => 24 | 25 => 3 | 3 => 3 | 4 => 4 | 9 => 9 | 20 => 20 | 0 => 0 | n => n, fun | n => n⟩
theorem Tryz.growIn : Go.Proofs.Lays8.n4 Tryz.prog Tryz.growIn_ren := {
  mixed := by kernel_rfl
  f4 := ⟨Tryz.f98.name, by decide, Tryz.func98.trans (congrArg some (by kernel_rfl))⟩
  t0 := Tryz.underlying0
  a0 := Tryz.isAgg0
  z0 := Tryz.sizeOf0
  v0 := Tryz.zeroValue0
  t3 := Tryz.underlying3
  a3 := Tryz.isAgg3
  z3 := Tryz.sizeOf3
  v3 := Tryz.zeroValue3
  t4 := Tryz.underlying4
  a4 := Tryz.isAgg4
  z4 := Tryz.sizeOf4
  v4 := Tryz.zeroValue4
  t9 := Tryz.underlying9
  a9 := Tryz.isAgg9
  z9 := Tryz.sizeOf9
  v9 := Tryz.zeroValue9
  t20 := Tryz.underlying20
  a20 := Tryz.isAgg20
  z20 := Tryz.sizeOf20
  v20 := Tryz.zeroValue20
  t22 := Tryz.underlying24
  a22 := Tryz.isAgg24
  z22 := Tryz.sizeOf24
  v22 := Tryz.zeroValue24 }
end Go.Proofs
