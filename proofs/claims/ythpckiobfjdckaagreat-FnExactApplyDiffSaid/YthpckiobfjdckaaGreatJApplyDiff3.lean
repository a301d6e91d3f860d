/-
  Chapter 5: what ApplyDiff tells; by the specification and by the program alike; without the model.
-/
import Derived.Deep.RegionHeld3
import Derived.Test.YthpckiobfjdckaaGreatJApplyDiff1
import Derived.Test.YthpckiobfjdckaaGreatJApplyDiff2
import Derived.Laws.AppendOwnNone
import Derived.Shelf.SlGeneric
import Derived.Ground.Names8Prog
import Derived.Shelf.Spec.SlicesGrow
import Derived.Test.YthpckiobfjdckaaGreatProg
import Derived.Test.YthpckiobfjdckaaGreatJApplyDiff0
import Derived.Lib.RowBridge
import Derived.Shelf.Slices.CompactI
import Derived.Shelf.Slices.In.SortNone
import Derived.Shelf.Sort.Plain
import Derived.Laws.AppendOwn
import Derived.Deep.RegionLawGrows
namespace Go.Proofs.YthpckiobfjdckaaGreat
open Go.RowKit Go.Shelf

theorem insU_at {r : Ru} : ∀ (l : List Ru) (m : Nat), m ≤ l.length → (∀ j (h : j < l.length), j < m → ltR l[j] r = true) → (∀ h : m < l.length, ltR l[m] r = false) →
    insU r l = if (∃ h : m < l.length, l[m].same r = true) then l else l.take m ++ r :: l.drop m
  | [], m, hm, _, _ => by
    obtain rfl : m = 0 := by simpa using hm
    rw [if_neg (fun ⟨h, _⟩ => by simp at h)]
    rfl
  | x :: xs, 0, _, _, h2 => by
    have h3 := h2 (by simp)
    simp only [List.getElem_cons_zero] at h3
    unfold insU
    rw [if_neg (by rw [h3]; exact Bool.false_ne_true)]
    by_cases hs : x.same r = true
    · rw [if_pos hs, if_pos ⟨by simp, hs⟩]
    · rw [if_neg hs, if_neg (fun ⟨_, h⟩ => hs h)]
      rfl
  | x :: xs, m + 1, hm, h1, h2 => by
    have hx := h1 0 (by simp) (by omega)
    simp only [List.getElem_cons_zero] at hx
    have ih := insU_at xs m (by simpa using hm) (fun j h hj => by
      have := h1 (j + 1) (by simpa using h) (by omega)
      simpa using this) (fun h => by
      have := h2 (by simpa using h)
      simpa using this)
    unfold insU
    rw [if_pos hx, ih]
    by_cases hs : ∃ h : m < xs.length, xs[m].same r = true
    · rw [if_pos hs, if_pos]
      obtain ⟨h, hs⟩ := hs
      exact ⟨by simpa using h, by simpa using hs⟩
    · rw [if_neg hs, if_neg]
      · rfl
      · rintro ⟨h, h'⟩
        exact hs ⟨by simpa using h, by simpa using h'⟩
theorem ins_keep {r : Ru} {l : List Ru} {m : Nat} (hm : m < l.length) (h1 : ∀ j (h : j < l.length), j < m → ltR l[j] r = true) (h2 : ltR l[m] r = false) (hs : l[m].same r = true) : insU r l = l := by
  rw [insU_at l m (by omega) h1 (fun _ => h2), if_pos ⟨hm, hs⟩]
theorem ins_new {r : Ru} {l : List Ru} {m : Nat} (hm : m < l.length) (h1 : ∀ j (h : j < l.length), j < m → ltR l[j] r = true) (h2 : ltR l[m] r = false) (hs : l[m].same r = false) : insU r l = l.take m ++ r :: l.drop m := by
  rw [insU_at l m (by omega) h1 (fun _ => h2), if_neg (fun ⟨_, h⟩ => by rw [hs] at h; cases h)]
theorem ins_end {r : Ru} {l : List Ru} (h1 : ∀ j (h : j < l.length), j < l.length → ltR l[j] r = true) : insU r l = l.take l.length ++ r :: l.drop l.length := by
  rw [insU_at l l.length (Nat.le_refl _) h1 (fun h => absurd h (Nat.lt_irrefl _)), if_neg (fun ⟨h, _⟩ => absurd h (Nat.lt_irrefl _))]
theorem insU_len (r : Ru) : ∀ l : List Ru, (insU r l).length ≤ l.length + 1
  | [] => by simp [insU]
  | x :: xs => by
    have := insU_len r xs
    unfold insU
    split
    · simp only [List.length_cons]
      omega
    · split
      · simp
      · simp
theorem plTo_len {rs : List Ru} : ∀ k, k ≤ rs.length → (plTo rs k).length ≤ k
  | 0, _ => by simp [plTo]
  | k + 1, hk => by
    have ih := plTo_len k (rs := rs) (by omega)
    rw [plTo_succ (by omega)]
    have := insU_len rs[k] (plTo rs k)
    omega
theorem cells_one' {rs : List Ru} : ∀ u ∈ rs.flatMap Ru.cells, u.oneCell' = true := cells_one
theorem cell_four_new (w : World) (r : Ru) : ∀ j u, r.cells[j]? = some u → (w.alloc (.cells #[.bool r.deny, .string r.who, .string r.method, .string r.path] 63)).cell? ((⟨w.heap.size, 0, none⟩ : Addr).add j) = some u := by
  intro j u hu
  have hj : j < 4 := by have := (List.getElem?_eq_some_iff.1 hu).1; simpa using this
  obtain h | h | h | h : j = 0 ∨ j = 1 ∨ j = 2 ∨ j = 3 := by omega
  all_goals subst h
  all_goals simp at hu
  all_goals subst hu
  all_goals simp [Addr.add]
theorem row_take {w : World} {base g cap n m : Nat} {l : List Ru} (hrow : w.ownsRow base 63 4 (.slice (some ⟨g, 0, none⟩) n cap) n (l.flatMap Ru.cells)) (hm : m ≤ n) : ∀ j u, ((l.take m).flatMap Ru.cells)[j]? = some u → w.cell? ((⟨g, 0, none⟩ : Addr).add j) = some u := by
  intro j u hu
  rw [← flat_take] at hu
  have hj : j < m * 4 := by
    have := (List.getElem?_eq_some_iff.1 hu).1
    rw [List.length_take] at this
    omega
  rw [List.getElem?_take_of_lt hj] at hu
  rw [Addr.add_lit, Nat.zero_add, hrow.cellAt j (by omega)]
  exact hu
theorem flat_drop : ∀ (ys : List Ru) (k : Nat), (ys.flatMap Ru.cells).drop (k * 4) = (ys.drop k).flatMap Ru.cells
  | [], k => by simp
  | y :: ys, 0 => by simp
  | y :: ys, k + 1 => by
    rw [List.flatMap_cons, List.drop_succ_cons, ← flat_drop ys k, show (k + 1) * 4 = k * 4 + 4 by omega]
    rfl
theorem row_drop {w : World} {base g cap n m : Nat} {l : List Ru} (hrow : w.ownsRow base 63 4 (.slice (some ⟨g, 0, none⟩) n cap) n (l.flatMap Ru.cells)) (_hm : m ≤ n) : ∀ j u, ((l.drop m).flatMap Ru.cells)[j]? = some u → w.cell? ((⟨g, m * 4, none⟩ : Addr).add j) = some u := by
  intro j u hu
  rw [← flat_drop, List.getElem?_drop] at hu
  have hj : m * 4 + j < n * 4 := by
    have := (List.getElem?_eq_some_iff.1 hu).1
    rw [hrow.1] at this
    exact this
  rw [Addr.add_lit, hrow.cellAt (m * 4 + j) hj]
  exact hu
theorem below_draws1 (w : World) (q : Nat) : Below w.heap.size w (w.drewN q) := below_drewN (Below.refl _ _) q

set_option maxHeartbeats 4000000 in
set_option maxRecDepth 100000 in
theorem l2PlainW_any (v : Value) (rs : List Ru) (w : World) (hm : rs.length ≤ 60) (hf : ∀ r ∈ rs, r.size ≤ 1048576) (hr : RuS w v rs) :
    Calls Tryz.prog 33 #[v] w fun e w' => ∃ v', e = .returned v' ∧ w'.ownsRow w.heap.size 63 4 v' (plTo rs rs.length).length ((plTo rs rs.length).flatMap Ru.cells) ∧ Below w.heap.size w w' := by
  obtain ⟨a, cap, rfl⟩ := hr.len
  obtain ⟨i0, hi, hz0, hz1, hz2⟩ := info_parts infoRule
  go_enter Tryz.func33, Tryz.ntmps33
  go_wp2
  go_loopw [3, 10] (fun out i wr => ∃ k : Nat, k ≤ rs.length ∧ i = .int .i64 k ∧ wr.ownsRow w.heap.size 63 4 out (plTo rs k).length ((plTo rs k).flatMap Ru.cells) ∧ Below w.heap.size w wr) (fun _ i _ => rs.length - (intOf i).toNat)
  case atStart => exact ⟨0, Nat.zero_le _, rfl, World.ownsRow_nil _ _ _ _, Below.refl _ _⟩
  case round =>
    obtain ⟨k, hk, rfl, hrow, hB⟩ := hrel
    by_cases hlt : k < rs.length
    · obtain ⟨b, off, rfl, hb, hcap, y0, y1, y2, y3⟩ := (hr.below hB).at hlt
      have hzr := hf rs[k] (List.getElem_mem hlt)
      have hll := plTo_len k hk
      have hfl : ∀ x ∈ plTo rs k, x.size ≤ 1048576 := fun x hx => hf x (List.mem_of_mem_take ((plTo_mem k hk x).1 hx))
      have HSU := hid (plTo_succ hlt)
      have hlim : (plTo rs k).length ≤ 60 := by omega
      generalize plTo rs k = l at *
      generalize rs[k] = r at *
      have hBw : Below wr.heap.size wr (wr.alloc (.cells #[.bool r.deny, .string r.who, .string r.method, .string r.path] 63)) := (Below.refl _ wr).alloc (Nat.le_refl _) _
      have c0 : (wr.alloc (.cells #[.bool r.deny, .string r.who, .string r.method, .string r.path] 63)).cell? ⟨wr.heap.size, 0, none⟩ = some (.bool r.deny) := by simp
      have c1 : (wr.alloc (.cells #[.bool r.deny, .string r.who, .string r.method, .string r.path] 63)).cell? ⟨wr.heap.size, 1, none⟩ = some (.string r.who) := by simp
      have c2 : (wr.alloc (.cells #[.bool r.deny, .string r.who, .string r.method, .string r.path] 63)).cell? ⟨wr.heap.size, 2, none⟩ = some (.string r.method) := by simp
      have c3 : (wr.alloc (.cells #[.bool r.deny, .string r.who, .string r.method, .string r.path] 63)).cell? ⟨wr.heap.size, 3, none⟩ = some (.string r.path) := by simp
      have hzW : wr.heap.size < (wr.alloc (.cells #[.bool r.deny, .string r.who, .string r.method, .string r.path] 63)).heap.size := by simp
      have hrowW := ownsRow_below hrow hBw
      have hBW := below_one hB hBw
      rcases row_form hrow with ⟨rfl, hl0⟩ | ⟨g, capo, rfl, hg, hcapo⟩
      · obtain rfl : l = [] := List.eq_nil_of_length_eq_zero hl0
        go_wp2
        generalize (wr.alloc (.cells #[.bool r.deny, .string r.who, .string r.method, .string r.path] 63)) = W0 at *
        clear y0 y1 y2 y3 hrow hB hBw
        generalize wr.heap.size = bx at *
        refine wp_loop_rounds 1 ?_
        rw [rounds_succ]
        go_wp2_with fail
        go_quiet (fail)
        go_wp2_with fail
        replace hBW := below_drewN hBW nq
        replace c0 : (W0.drewN nq).cell? _ = _ := c0
        replace c1 : (W0.drewN nq).cell? _ = _ := c1
        replace c2 : (W0.drewN nq).cell? _ = _ := c2
        replace c3 : (W0.drewN nq).cell? _ = _ := c3
        clear hrowW hzW
        generalize W0.drewN nq = W1 at *
        go_quiet (fail)
        replace hBW := below_drewN hBW nq
        replace c0 : (W1.drewN nq).cell? _ = _ := c0
        replace c1 : (W1.drewN nq).cell? _ = _ := c1
        replace c2 : (W1.drewN nq).cell? _ = _ := c2
        replace c3 : (W1.drewN nq).cell? _ = _ := c3
        generalize W1.drewN nq = Wc at *
        have HIN := hid (show plTo rs (k + 1) = [r] by rw [HSU.out]; rfl)
        go_wp2_with (at_builtin; refine wpList_append_own _ rfl _ _ 30 rfl Wc.heap.size 63 i0 _ 4 56 Tryz.underlying30 hi hz0 hz1 hz2 rfl (by decide) _ _ _ rfl ((World.ownsRow_nil Wc Wc.heap.size 63 4).alloc _) ⟨Wc.heap.size, 0, none⟩ 1 1 r.cells rfl rfl (cell_four_new _ r) (by intro u hu; simp at hu; rcases hu with rfl | rfl | rfl | rfl <;> rfl) (by unfold maxLen; omega) (by omega) (by simp) ?_)
        intro v2 w2 hown2 hgrow2 _
        have hb2 : Below Wc.heap.size Wc w2 := below_appended (Nat.le_refl _) (World.ownsRow_nil Wc Wc.heap.size 63 4) hgrow2
        rcases row_form hown2 with ⟨_, h'⟩ | ⟨g2, cp2, rfl, _, hcp⟩
        · exact absurd h' (by omega)
        · clear c0 c1 c2 c3 hgrow2
          go_wp2
          go_roundw
          case rel => exact ⟨k + 1, by omega, by go_num, by rw [HIN.out]; exact Go.Joins.ownsRow_le hown2 hBW.size, below_one hBW hb2⟩
          case measure => simp [intOf]; omega
      · go_wp2
        generalize (wr.alloc (.cells #[.bool r.deny, .string r.who, .string r.method, .string r.path] 63)) = W0 at *
        clear y0 y1 y2 y3 hrow hB hBw
        generalize wr.heap.size = bx at *
        go_loopw [6] (fun i wq => ∃ m : Nat, m ≤ l.length ∧ i = .int .i64 m ∧ (∀ j (h : j < l.length), j < m → ltR l[j] r = true) ∧ Below W0.heap.size W0 wq) (fun i _ => l.length - (intOf i).toNat)
        case atStart => exact ⟨0, Nat.zero_le _, rfl, fun _ _ h => absurd h (Nat.not_lt_zero _), Below.refl _ _⟩
        case round =>
          obtain ⟨m, hml, rfl, hlts, hBq⟩ := hrel
          have HL := hid hlts
          clear hlts
          have hrowq := ownsRow_below hrowW hBq
          have b0 := (hBq.cell (p := ⟨bx, 0, none⟩) hzW).trans c0
          have b1 := (hBq.cell (p := ⟨bx, 1, none⟩) hzW).trans c1
          have b2 := (hBq.cell (p := ⟨bx, 2, none⟩) hzW).trans c2
          have b3 := (hBq.cell (p := ⟨bx, 3, none⟩) hzW).trans c3
          have hzq := Nat.lt_of_lt_of_le hzW hBq.size
          by_cases hlm : m < l.length
          · have dm : decide ((m : Int) < (l.length : Int)) = true := by simp; omega
            have hX := hfl l[m] (List.getElem_mem hlm)
            obtain ⟨x0, x1, x2, x3⟩ := row_ru hrowq hlm rfl _ rfl
            have hgq : g < wr.heap.size := cell_lt x0
            have HST := hid (fun (h : ltR l[m] r = true) => (fun j (hj : j < l.length) (hjm : j < m + 1) => (show ltR l[j] r = true by
              by_cases e : j = m
              · subst e
                exact h
              · exact HL.out j hj (by omega)) : ∀ j (hj : j < l.length), j < m + 1 → ltR l[j] r = true))
            have HKE := hid (fun h2 hs => ins_keep (r := r) hlm HL.out h2 hs)
            have HNE := hid (fun h2 hs => ins_new (r := r) hlm HL.out h2 hs)
            generalize l[m] = x at *
            cases ht : ltR x r
            · have et : Op.bytesLess x.text.toList r.text.toList = false := by rw [toList_data, toList_data]; exact ht
              have hse := eql_ru x r
              cases hsm : x.same r
              · have HIN := hid (show plTo rs (k + 1) = l.take m ++ r :: l.drop m by rw [HSU.out]; exact HNE.out ht hsm)
                rw [hsm] at hse
                have hM1 : True := trivial
                go_wp2_with fail
                go_region_held3 (fun w' => w'.cell? ⟨g, m * 4, none⟩ = some (.bool x.deny) ∧ w'.cell? ⟨g, m * 4 + 1, none⟩ = some (.string x.who) ∧ w'.cell? ⟨g, m * 4 + 2, none⟩ = some (.string x.method) ∧ w'.cell? ⟨g, m * 4 + 3, none⟩ = some (.string x.path) ∧ w'.cell? ⟨bx, 0, none⟩ = some (.bool r.deny) ∧ w'.cell? ⟨bx, 1, none⟩ = some (.string r.who) ∧ w'.cell? ⟨bx, 2, none⟩ = some (.string r.method) ∧ w'.cell? ⟨bx, 3, none⟩ = some (.string r.path)) (go_keep) (first | (go_at_call 63; clear hM1; refine (l2Text_any x _ hX).mono ?_; rintro e v1 ⟨rfl, hB1⟩; have x0_1 := (hB1.cell (p := ⟨g, m * 4, none⟩) (by exact hgq)).trans (by exact x0); have x1_1 := (hB1.cell (p := ⟨g, m * 4 + 1, none⟩) (by exact hgq)).trans (by exact x1); have x2_1 := (hB1.cell (p := ⟨g, m * 4 + 2, none⟩) (by exact hgq)).trans (by exact x2); have x3_1 := (hB1.cell (p := ⟨g, m * 4 + 3, none⟩) (by exact hgq)).trans (by exact x3); have b0_1 := (hB1.cell (p := ⟨bx, 0, none⟩) (by exact hzq)).trans (by exact b0); have b1_1 := (hB1.cell (p := ⟨bx, 1, none⟩) (by exact hzq)).trans (by exact b1); have b2_1 := (hB1.cell (p := ⟨bx, 2, none⟩) (by exact hzq)).trans (by exact b2); have b3_1 := (hB1.cell (p := ⟨bx, 3, none⟩) (by exact hzq)).trans (by exact b3); have hgq1 := Nat.lt_of_lt_of_le hgq hB1.size; have hzq1 := Nat.lt_of_lt_of_le hzq hB1.size) | (go_at_call 63; refine (l2Text_any r _ hzr).mono ?_; rintro e v2 ⟨rfl, hB2⟩; have x0_2 := (hB2.cell (p := ⟨g, m * 4, none⟩) (by exact hgq1)).trans (by exact x0_1); have x1_2 := (hB2.cell (p := ⟨g, m * 4 + 1, none⟩) (by exact hgq1)).trans (by exact x1_1); have x2_2 := (hB2.cell (p := ⟨g, m * 4 + 2, none⟩) (by exact hgq1)).trans (by exact x2_1); have x3_2 := (hB2.cell (p := ⟨g, m * 4 + 3, none⟩) (by exact hgq1)).trans (by exact x3_1); have b0_2 := (hB2.cell (p := ⟨bx, 0, none⟩) (by exact hzq1)).trans (by exact b0_1); have b1_2 := (hB2.cell (p := ⟨bx, 1, none⟩) (by exact hzq1)).trans (by exact b1_1); have b2_2 := (hB2.cell (p := ⟨bx, 2, none⟩) (by exact hzq1)).trans (by exact b2_1); have b3_2 := (hB2.cell (p := ⟨bx, 3, none⟩) (by exact hzq1)).trans (by exact b3_1); have hgq2 := Nat.lt_of_lt_of_le hgq1 hB2.size; have hzq2 := Nat.lt_of_lt_of_le hzq1 hB2.size))
                have hBq2 := below_one (below_one hBq (below_drew1 hB1)) hB2
                clear hB1 hB2 x0_1 b0_1 x0 b0 x1_1 b1_1 x1 b1 x2_1 b2_1 x2 b2 x3_1 b3_1 x3 b3
                go_wp2_with fail
                go_quiet (fail)
                replace hBq2 := below_drewN hBq2 nq
                replace b0_2 : (v2.drewN nq).cell? _ = _ := b0_2
                replace b1_2 : (v2.drewN nq).cell? _ = _ := b1_2
                replace b2_2 : (v2.drewN nq).cell? _ = _ := b2_2
                replace b3_2 : (v2.drewN nq).cell? _ = _ := b3_2
                replace hzq2 : bx < (v2.drewN nq).heap.size := hzq2
                clear x0_2 x1_2 x2_2 x3_2 hgq2
                generalize v2.drewN nq = Wc at *
                have hrowc := ownsRow_below hrowW hBq2
                have hBc := below_one hBW hBq2
                have b0 := b0_2
                have b1 := b1_2
                have b2 := b2_2
                have b3 := b3_2
                have hzc := hzq2
                clear b0_2 b1_2 b2_2 b3_2 hzq2 hrowq hBq2 hBq
                have hn1 : ((l.take m).flatMap Ru.cells).length = m * 4 := by rw [flat_len, List.length_take]; omega
                have hn2 : ((l.drop m).flatMap Ru.cells).length = (l.length - m) * 4 := by rw [flat_len, List.length_drop]
                have hc1 : ∀ j u, ((l.take m).flatMap Ru.cells)[j]? = some u → Wc.cell? ((⟨g, 0, none⟩ : Addr).add j) = some u := row_take hrowc (by omega)
                go_wp2_with (at_builtin; refine wpList_append_own _ rfl _ _ 30 rfl Wc.heap.size 63 i0 _ 4 56 Tryz.underlying30 hi hz0 hz1 hz2 rfl (by decide) _ _ _ rfl (World.ownsRow_nil Wc Wc.heap.size 63 4) ⟨g, 0, none⟩ m _ ((l.take m).flatMap Ru.cells) rfl hn1 hc1 cells_one' (by unfold maxLen; omega) (by omega) (Nat.le_refl _) ?_)
                intro v1 w1 hown1 hgrow1 _
                have hb1 : Below Wc.heap.size Wc w1 := (Below.refl _ Wc).grown hgrow1 (Nat.le_refl _) (fun k hk => by cases hk)
                have q0 := (hb1.cell (p := ⟨bx, 0, none⟩) hzc).trans b0
                have q1 := (hb1.cell (p := ⟨bx, 1, none⟩) hzc).trans b1
                have q2 := (hb1.cell (p := ⟨bx, 2, none⟩) hzc).trans b2
                have q3 := (hb1.cell (p := ⟨bx, 3, none⟩) hzc).trans b3
                have hz1c := hb1.size
                obtain ⟨a1, cp1, rfl⟩ := ownsRow_len hown1
                clear hc1 b0 b1 b2 b3 hgrow1
                go_wp2_with (at_builtin; refine wpList_append_own _ rfl _ _ 30 rfl Wc.heap.size 63 i0 _ 4 56 Tryz.underlying30 hi hz0 hz1 hz2 rfl (by decide) _ _ _ rfl (hown1.alloc _) ⟨w1.heap.size, 0, none⟩ 1 1 r.cells rfl rfl (cell_four_new _ r) (by intro u hu; simp at hu; rcases hu with rfl | rfl | rfl | rfl <;> rfl) (by unfold maxLen; omega) (by omega) (by simp; omega) ?_)
                intro v2 w2 hown2 hgrow2 _
                have hb2 : Below Wc.heap.size Wc w2 := hb1.trans (below_appended hz1c hown1 hgrow2)
                have hz2c := hb2.size
                have hrow2 := ownsRow_below hrowc hb2
                have hc2 : ∀ j u, ((l.drop m).flatMap Ru.cells)[j]? = some u → w2.cell? ((⟨g, m * 4, none⟩ : Addr).add j) = some u := row_drop hrow2 (by omega)
                obtain ⟨a2, cp2, rfl⟩ := ownsRow_len hown2
                clear q0 q1 q2 q3 hgrow2 hown1
                go_wp2_with (at_builtin; refine wpList_append_own _ rfl _ _ 30 rfl Wc.heap.size 63 i0 _ 4 56 Tryz.underlying30 hi hz0 hz1 hz2 rfl (by decide) _ _ _ rfl hown2 ⟨g, m * 4, none⟩ (l.length - m) (capo - m) ((l.drop m).flatMap Ru.cells) rfl hn2 hc2 cells_one' (by unfold maxLen; omega) (by omega) hz2c ?_)
                intro v3 w3 hown3 hgrow3 _
                have hb3 : Below Wc.heap.size Wc w3 := hb2.grown hgrow3 hz2c (fun k hk => (hown2.lt k hk).1)
                have HO := hid hown3
                obtain ⟨a3, cp3, rfl⟩ := ownsRow_len hown3
                clear hown3 hown2 hgrow3 hc2 hn1 hn2
                go_wp2
                go_roundw
                case rel =>
                  refine ⟨k + 1, by omega, by go_num, ?_, below_one hBc hb3⟩
                  rw [HIN.out]
                  have h3 := Go.Joins.ownsRow_le HO.out hBc.size
                  have hl3 : (l.take m ++ r :: l.drop m).length = m + 1 + (l.length - m) := by rw [List.length_append, List.length_take, List.length_cons, List.length_drop]; omega
                  rw [hl3]
                  have hf3 : (l.take m ++ r :: l.drop m).flatMap Ru.cells = (l.take m).flatMap Ru.cells ++ .bool r.deny :: .string r.who :: .string r.method :: .string r.path :: (l.drop m).flatMap Ru.cells := by rw [List.flatMap_append, List.flatMap_cons]; rfl
                  rw [hf3]
                  exact h3
                case measure => simp [intOf]; omega
              · have HIN := hid (show plTo rs (k + 1) = l by rw [HSU.out]; exact HKE.out ht hsm)
                rw [hsm] at hse
                have hM1 : True := trivial
                go_wp2_with fail
                go_region_held3 (fun w' => w'.cell? ⟨g, m * 4, none⟩ = some (.bool x.deny) ∧ w'.cell? ⟨g, m * 4 + 1, none⟩ = some (.string x.who) ∧ w'.cell? ⟨g, m * 4 + 2, none⟩ = some (.string x.method) ∧ w'.cell? ⟨g, m * 4 + 3, none⟩ = some (.string x.path) ∧ w'.cell? ⟨bx, 0, none⟩ = some (.bool r.deny) ∧ w'.cell? ⟨bx, 1, none⟩ = some (.string r.who) ∧ w'.cell? ⟨bx, 2, none⟩ = some (.string r.method) ∧ w'.cell? ⟨bx, 3, none⟩ = some (.string r.path)) (go_keep) (first | (go_at_call 63; clear hM1; refine (l2Text_any x _ hX).mono ?_; rintro e v1 ⟨rfl, hB1⟩; have x0_1 := (hB1.cell (p := ⟨g, m * 4, none⟩) (by exact hgq)).trans (by exact x0); have x1_1 := (hB1.cell (p := ⟨g, m * 4 + 1, none⟩) (by exact hgq)).trans (by exact x1); have x2_1 := (hB1.cell (p := ⟨g, m * 4 + 2, none⟩) (by exact hgq)).trans (by exact x2); have x3_1 := (hB1.cell (p := ⟨g, m * 4 + 3, none⟩) (by exact hgq)).trans (by exact x3); have b0_1 := (hB1.cell (p := ⟨bx, 0, none⟩) (by exact hzq)).trans (by exact b0); have b1_1 := (hB1.cell (p := ⟨bx, 1, none⟩) (by exact hzq)).trans (by exact b1); have b2_1 := (hB1.cell (p := ⟨bx, 2, none⟩) (by exact hzq)).trans (by exact b2); have b3_1 := (hB1.cell (p := ⟨bx, 3, none⟩) (by exact hzq)).trans (by exact b3); have hgq1 := Nat.lt_of_lt_of_le hgq hB1.size; have hzq1 := Nat.lt_of_lt_of_le hzq hB1.size) | (go_at_call 63; refine (l2Text_any r _ hzr).mono ?_; rintro e v2 ⟨rfl, hB2⟩; have x0_2 := (hB2.cell (p := ⟨g, m * 4, none⟩) (by exact hgq1)).trans (by exact x0_1); have x1_2 := (hB2.cell (p := ⟨g, m * 4 + 1, none⟩) (by exact hgq1)).trans (by exact x1_1); have x2_2 := (hB2.cell (p := ⟨g, m * 4 + 2, none⟩) (by exact hgq1)).trans (by exact x2_1); have x3_2 := (hB2.cell (p := ⟨g, m * 4 + 3, none⟩) (by exact hgq1)).trans (by exact x3_1); have b0_2 := (hB2.cell (p := ⟨bx, 0, none⟩) (by exact hzq1)).trans (by exact b0_1); have b1_2 := (hB2.cell (p := ⟨bx, 1, none⟩) (by exact hzq1)).trans (by exact b1_1); have b2_2 := (hB2.cell (p := ⟨bx, 2, none⟩) (by exact hzq1)).trans (by exact b2_1); have b3_2 := (hB2.cell (p := ⟨bx, 3, none⟩) (by exact hzq1)).trans (by exact b3_1); have hgq2 := Nat.lt_of_lt_of_le hgq1 hB2.size; have hzq2 := Nat.lt_of_lt_of_le hzq1 hB2.size))
                have hBq2 := below_one (below_one hBq (below_drew1 hB1)) hB2
                clear hB1 hB2 x0_1 b0_1 x0 b0 x1_1 b1_1 x1 b1 x2_1 b2_1 x2 b2 x3_1 b3_1 x3 b3
                go_wp2_with fail
                have hrow2 := ownsRow_below hrowW hBq2
                go_quiet (fail)
                go_wp2
                go_roundw
                case rel => exact ⟨k + 1, by omega, by go_num, by rw [HIN.out]; exact row_draws hrow2 _, below_drewN (below_one hBW hBq2) _⟩
                case measure => simp [intOf]; omega
            · have et : Op.bytesLess x.text.toList r.text.toList = true := by rw [toList_data, toList_data]; exact ht
              have HS1 := hid (HST.out ht)
              have hM1 : True := trivial
              go_wp2_with fail
              go_region_held3 (fun w' => w'.cell? ⟨g, m * 4, none⟩ = some (.bool x.deny) ∧ w'.cell? ⟨g, m * 4 + 1, none⟩ = some (.string x.who) ∧ w'.cell? ⟨g, m * 4 + 2, none⟩ = some (.string x.method) ∧ w'.cell? ⟨g, m * 4 + 3, none⟩ = some (.string x.path) ∧ w'.cell? ⟨bx, 0, none⟩ = some (.bool r.deny) ∧ w'.cell? ⟨bx, 1, none⟩ = some (.string r.who) ∧ w'.cell? ⟨bx, 2, none⟩ = some (.string r.method) ∧ w'.cell? ⟨bx, 3, none⟩ = some (.string r.path)) (go_keep) (first | (go_at_call 63; clear hM1; refine (l2Text_any x _ hX).mono ?_; rintro e v1 ⟨rfl, hB1⟩; have x0_1 := (hB1.cell (p := ⟨g, m * 4, none⟩) (by exact hgq)).trans (by exact x0); have x1_1 := (hB1.cell (p := ⟨g, m * 4 + 1, none⟩) (by exact hgq)).trans (by exact x1); have x2_1 := (hB1.cell (p := ⟨g, m * 4 + 2, none⟩) (by exact hgq)).trans (by exact x2); have x3_1 := (hB1.cell (p := ⟨g, m * 4 + 3, none⟩) (by exact hgq)).trans (by exact x3); have b0_1 := (hB1.cell (p := ⟨bx, 0, none⟩) (by exact hzq)).trans (by exact b0); have b1_1 := (hB1.cell (p := ⟨bx, 1, none⟩) (by exact hzq)).trans (by exact b1); have b2_1 := (hB1.cell (p := ⟨bx, 2, none⟩) (by exact hzq)).trans (by exact b2); have b3_1 := (hB1.cell (p := ⟨bx, 3, none⟩) (by exact hzq)).trans (by exact b3); have hgq1 := Nat.lt_of_lt_of_le hgq hB1.size; have hzq1 := Nat.lt_of_lt_of_le hzq hB1.size) | (go_at_call 63; refine (l2Text_any r _ hzr).mono ?_; rintro e v2 ⟨rfl, hB2⟩; have x0_2 := (hB2.cell (p := ⟨g, m * 4, none⟩) (by exact hgq1)).trans (by exact x0_1); have x1_2 := (hB2.cell (p := ⟨g, m * 4 + 1, none⟩) (by exact hgq1)).trans (by exact x1_1); have x2_2 := (hB2.cell (p := ⟨g, m * 4 + 2, none⟩) (by exact hgq1)).trans (by exact x2_1); have x3_2 := (hB2.cell (p := ⟨g, m * 4 + 3, none⟩) (by exact hgq1)).trans (by exact x3_1); have b0_2 := (hB2.cell (p := ⟨bx, 0, none⟩) (by exact hzq1)).trans (by exact b0_1); have b1_2 := (hB2.cell (p := ⟨bx, 1, none⟩) (by exact hzq1)).trans (by exact b1_1); have b2_2 := (hB2.cell (p := ⟨bx, 2, none⟩) (by exact hzq1)).trans (by exact b2_1); have b3_2 := (hB2.cell (p := ⟨bx, 3, none⟩) (by exact hzq1)).trans (by exact b3_1); have hgq2 := Nat.lt_of_lt_of_le hgq1 hB2.size; have hzq2 := Nat.lt_of_lt_of_le hzq1 hB2.size))
              have hBq2 := below_one (below_one hBq (below_drew1 hB1)) hB2
              clear hB1 hB2 x0_1 b0_1 x0 b0 x1_1 b1_1 x1 b1 x2_1 b2_1 x2 b2 x3_1 b3_1 x3 b3
              go_wp2
              go_roundw
              case rel => first | exact ⟨m + 1, by omega, by go_num, HS1.out, hBq2⟩ | ((repeat apply Exists.intro); exact ⟨⟨m + 1, by omega, by go_num, HS1.out, hBq2⟩, rfl⟩)
              case measure => simp [intOf]; omega
          · have HME := hid (show m = l.length by omega)
            have dm : decide ((m : Int) < (l.length : Int)) = false := by simp; omega
            have HIN := hid (show plTo rs (k + 1) = l.take m ++ r :: l.drop m by
              rw [HSU.out, HME.out]
              exact ins_end (fun j hj _ => HL.out j hj (by have := HME.out; omega)))
            go_wp2_with fail
            go_quiet (fail)
            go_wp2_with fail
            replace hBq := below_drewN hBq nq
            replace b0 : (wr.drewN nq).cell? _ = _ := b0
            replace b1 : (wr.drewN nq).cell? _ = _ := b1
            replace b2 : (wr.drewN nq).cell? _ = _ := b2
            replace b3 : (wr.drewN nq).cell? _ = _ := b3
            replace hzq : bx < (wr.drewN nq).heap.size := hzq
            clear hrowq
            generalize wr.drewN nq = Wb at *
            go_quiet (fail)
            replace hBq := below_drewN hBq nq
            replace b0 : (Wb.drewN nq).cell? _ = _ := b0
            replace b1 : (Wb.drewN nq).cell? _ = _ := b1
            replace b2 : (Wb.drewN nq).cell? _ = _ := b2
            replace b3 : (Wb.drewN nq).cell? _ = _ := b3
            replace hzq : bx < (Wb.drewN nq).heap.size := hzq
            generalize Wb.drewN nq = Wc at *
            have hrowc := ownsRow_below hrowW hBq
            have hBc := below_one hBW hBq
            have hzc := hzq
            clear hBq hzq
            by_cases hcm : capo = m
            ·
              have hn1 : ((l.take m).flatMap Ru.cells).length = m * 4 := by rw [flat_len, List.length_take]; omega
              have hn2 : ((l.drop m).flatMap Ru.cells).length = (l.length - m) * 4 := by rw [flat_len, List.length_drop]
              have hc1 : ∀ j u, ((l.take m).flatMap Ru.cells)[j]? = some u → Wc.cell? ((⟨g, 0, none⟩ : Addr).add j) = some u := row_take hrowc (by omega)
              go_wp2_with (at_builtin; refine wpList_append_own _ rfl _ _ 30 rfl Wc.heap.size 63 i0 _ 4 56 Tryz.underlying30 hi hz0 hz1 hz2 rfl (by decide) _ _ _ rfl (World.ownsRow_nil Wc Wc.heap.size 63 4) ⟨g, 0, none⟩ m _ ((l.take m).flatMap Ru.cells) rfl hn1 hc1 cells_one' (by unfold maxLen; omega) (by omega) (Nat.le_refl _) ?_)
              intro v1 w1 hown1 hgrow1 _
              have hb1 : Below Wc.heap.size Wc w1 := (Below.refl _ Wc).grown hgrow1 (Nat.le_refl _) (fun k hk => by cases hk)
              have q0 := (hb1.cell (p := ⟨bx, 0, none⟩) hzc).trans b0
              have q1 := (hb1.cell (p := ⟨bx, 1, none⟩) hzc).trans b1
              have q2 := (hb1.cell (p := ⟨bx, 2, none⟩) hzc).trans b2
              have q3 := (hb1.cell (p := ⟨bx, 3, none⟩) hzc).trans b3
              have hz1c := hb1.size
              obtain ⟨a1, cp1, rfl⟩ := ownsRow_len hown1
              clear hc1 b0 b1 b2 b3 hgrow1
              go_wp2_with (at_builtin; refine wpList_append_own _ rfl _ _ 30 rfl Wc.heap.size 63 i0 _ 4 56 Tryz.underlying30 hi hz0 hz1 hz2 rfl (by decide) _ _ _ rfl (hown1.alloc _) ⟨w1.heap.size, 0, none⟩ 1 1 r.cells rfl rfl (cell_four_new _ r) (by intro u hu; simp at hu; rcases hu with rfl | rfl | rfl | rfl <;> rfl) (by unfold maxLen; omega) (by omega) (by simp; omega) ?_)
              intro v2 w2 hown2 hgrow2 _
              have hb2 : Below Wc.heap.size Wc w2 := hb1.trans (below_appended hz1c hown1 hgrow2)
              have hz2c := hb2.size
              have hrow2 := ownsRow_below hrowc hb2
              obtain ⟨a2, cp2, rfl⟩ := ownsRow_len hown2
              clear q0 q1 q2 q3 hgrow2 hown1
              go_wp2_with (at_builtin; refine wpList_append_own _ rfl _ _ 30 rfl Wc.heap.size 63 i0 _ 4 56 Tryz.underlying30 hi hz0 hz1 hz2 rfl (by decide) _ _ _ rfl hown2 _ (l.length - m) _ [] rfl (by have := HME.out; simp; omega) (fun j u h => by cases h) (fun u h => by cases h) (by unfold maxLen; omega) (by omega) hz2c ?_)
              all_goals intro v3 w3 hown3 hgrow3 _
              all_goals have hb3 : Below Wc.heap.size Wc w3 := hb2.grown hgrow3 hz2c (fun k hk => (hown2.lt k hk).1)
              all_goals have HO := hid hown3
              all_goals obtain ⟨a3, cp3, rfl⟩ := ownsRow_len hown3
              all_goals clear hown3 hown2 hgrow3 hn1 hn2
              all_goals go_wp2
              all_goals go_roundw
              all_goals first
                | (simp [intOf]; omega)
                | (refine ⟨k + 1, by omega, by go_num, ?_, below_one hBc hb3⟩
                   rw [HIN.out]
                   have h3 := Go.Joins.ownsRow_le HO.out hBc.size
                   have hl3 : (l.take m ++ r :: l.drop m).length = m + 1 + (l.length - m) := by rw [List.length_append, List.length_take, List.length_cons, List.length_drop]; omega
                   rw [hl3]
                   have hd3 : l.drop m = [] := List.drop_eq_nil_of_le (by have := HME.out; omega)
                   have hf3 : (l.take m ++ r :: l.drop m).flatMap Ru.cells = (l.take m).flatMap Ru.cells ++ r.cells := by rw [hd3, List.flatMap_append, List.flatMap_cons]; rfl
                   rw [hf3]
                   first | exact h3 | simpa using h3)
            ·
              have hn1 : ((l.take m).flatMap Ru.cells).length = m * 4 := by rw [flat_len, List.length_take]; omega
              have hn2 : ((l.drop m).flatMap Ru.cells).length = (l.length - m) * 4 := by rw [flat_len, List.length_drop]
              have hc1 : ∀ j u, ((l.take m).flatMap Ru.cells)[j]? = some u → Wc.cell? ((⟨g, 0, none⟩ : Addr).add j) = some u := row_take hrowc (by omega)
              go_wp2_with (at_builtin; refine wpList_append_own _ rfl _ _ 30 rfl Wc.heap.size 63 i0 _ 4 56 Tryz.underlying30 hi hz0 hz1 hz2 rfl (by decide) _ _ _ rfl (World.ownsRow_nil Wc Wc.heap.size 63 4) ⟨g, 0, none⟩ m _ ((l.take m).flatMap Ru.cells) rfl hn1 hc1 cells_one' (by unfold maxLen; omega) (by omega) (Nat.le_refl _) ?_)
              intro v1 w1 hown1 hgrow1 _
              have hb1 : Below Wc.heap.size Wc w1 := (Below.refl _ Wc).grown hgrow1 (Nat.le_refl _) (fun k hk => by cases hk)
              have q0 := (hb1.cell (p := ⟨bx, 0, none⟩) hzc).trans b0
              have q1 := (hb1.cell (p := ⟨bx, 1, none⟩) hzc).trans b1
              have q2 := (hb1.cell (p := ⟨bx, 2, none⟩) hzc).trans b2
              have q3 := (hb1.cell (p := ⟨bx, 3, none⟩) hzc).trans b3
              have hz1c := hb1.size
              obtain ⟨a1, cp1, rfl⟩ := ownsRow_len hown1
              clear hc1 b0 b1 b2 b3 hgrow1
              go_wp2_with (at_builtin; refine wpList_append_own _ rfl _ _ 30 rfl Wc.heap.size 63 i0 _ 4 56 Tryz.underlying30 hi hz0 hz1 hz2 rfl (by decide) _ _ _ rfl (hown1.alloc _) ⟨w1.heap.size, 0, none⟩ 1 1 r.cells rfl rfl (cell_four_new _ r) (by intro u hu; simp at hu; rcases hu with rfl | rfl | rfl | rfl <;> rfl) (by unfold maxLen; omega) (by omega) (by simp; omega) ?_)
              intro v2 w2 hown2 hgrow2 _
              have hb2 : Below Wc.heap.size Wc w2 := hb1.trans (below_appended hz1c hown1 hgrow2)
              have hz2c := hb2.size
              have hrow2 := ownsRow_below hrowc hb2
              obtain ⟨a2, cp2, rfl⟩ := ownsRow_len hown2
              clear q0 q1 q2 q3 hgrow2 hown1
              go_wp2_with (at_builtin; refine wpList_append_own _ rfl _ _ 30 rfl Wc.heap.size 63 i0 _ 4 56 Tryz.underlying30 hi hz0 hz1 hz2 rfl (by decide) _ _ _ rfl hown2 _ (l.length - m) _ [] rfl (by have := HME.out; simp; omega) (fun j u h => by cases h) (fun u h => by cases h) (by unfold maxLen; omega) (by omega) hz2c ?_)
              all_goals intro v3 w3 hown3 hgrow3 _
              all_goals have hb3 : Below Wc.heap.size Wc w3 := hb2.grown hgrow3 hz2c (fun k hk => (hown2.lt k hk).1)
              all_goals have HO := hid hown3
              all_goals obtain ⟨a3, cp3, rfl⟩ := ownsRow_len hown3
              all_goals clear hown3 hown2 hgrow3 hn1 hn2
              all_goals go_wp2
              all_goals go_roundw
              all_goals first
                | (simp [intOf]; omega)
                | (refine ⟨k + 1, by omega, by go_num, ?_, below_one hBc hb3⟩
                   rw [HIN.out]
                   have h3 := Go.Joins.ownsRow_le HO.out hBc.size
                   have hl3 : (l.take m ++ r :: l.drop m).length = m + 1 + (l.length - m) := by rw [List.length_append, List.length_take, List.length_cons, List.length_drop]; omega
                   rw [hl3]
                   have hd3 : l.drop m = [] := List.drop_eq_nil_of_le (by have := HME.out; omega)
                   have hf3 : (l.take m ++ r :: l.drop m).flatMap Ru.cells = (l.take m).flatMap Ru.cells ++ r.cells := by rw [hd3, List.flatMap_append, List.flatMap_cons]; rfl
                   rw [hf3]
                   first | exact h3 | simpa using h3)
    · obtain rfl : k = rs.length := by omega
      go_wp2
      go_ret
      exact ⟨_, rfl, hrow, hB⟩

theorem l2Plain_any (v : Value) (rs : List Ru) (w : World) (hm : rs.length ≤ 30) (hf : ∀ r ∈ rs, r.size ≤ 1048576) (hr : RuS w v rs) :
    Calls Tryz.prog 33 #[v] w fun e w' => ∃ v', e = .returned v' ∧ w'.ownsRow w.heap.size 63 4 v' (plTo rs rs.length).length ((plTo rs rs.length).flatMap Ru.cells) ∧ Below w.heap.size w w' :=
  l2PlainW_any v rs w (by omega) hf hr

end Go.Proofs.YthpckiobfjdckaaGreat

namespace Go.Proofs.YthpckiobfjdckaaGreat
open Go.RowKit Go.Shelf

set_option maxHeartbeats 2000000 in
theorem l5SameRules_any (v v' : Value) (rs ss : List Ru) (w : World) (_hm : rs.length ≤ 1048577) (hm' : ss.length ≤ 1048577) (hr : RuS w v rs) (hr' : RuS w v' ss) :
    Calls Tryz.prog 61 #[v, v'] w fun e w' => e = .returned (.bool (sameS rs ss)) ∧ Below w.heap.size w w' := by
  obtain ⟨a, cap, rfl⟩ := hr.len
  obtain ⟨a', cap', rfl⟩ := hr'.len
  by_cases hl : rs.length = ss.length
  · have e0 : ((rs.length : Int) != (ss.length : Int)) = false := by simp; omega
    have hl1 : rs.length ≤ ss.length := by omega
    have HL := hid hl
    clear hl
    go_enter Tryz.func61, Tryz.ntmps61
    go_wp2
    go_loopw [13] (fun i wr => ∃ k : Nat, k ≤ rs.length ∧ i = .int .i64 k ∧ sameTo rs ss k = true ∧ Below w.heap.size w wr) (fun i _ => rs.length - (intOf i).toNat)
    case atStart => exact ⟨0, Nat.zero_le _, rfl, sameTo_zero _ _, Below.refl _ _⟩
    case round =>
      obtain ⟨k, hk, rfl, hs, hB⟩ := hrel
      have HS := hid hs
      clear hs
      by_cases hlt : k < rs.length
      · have hlt' : k < ss.length := by omega
        obtain ⟨b, off, rfl, hb, hcap, q0, q1, q2, q3⟩ := (hr.below hB).at hlt
        obtain ⟨b', off', rfl, hb', hcap', p0, p1, p2, p3⟩ := (hr'.below hB).at hlt'
        have HT := hid (sameTo_succ hlt hlt')
        generalize rs[k] = r at *
        generalize ss[k] = s at *
        have hne := neq_ru r s
        cases hq : r.same s
        · have HR := hid (show sameS rs ss = false from same_bad (by rw [HT.out, hq, Bool.and_false]))
          go_wp2_with fail
          go_quiet (fail)
          go_wp2
          go_ret
          exact ⟨ret_bool HR.out.symm, below_drewn hB _⟩
        · have HR := hid (show sameTo rs ss (k + 1) = true by rw [HT.out, HS.out, hq]; rfl)
          go_wp2_with fail
          go_quiet (fail)
          go_wp2
          go_roundw
          case rel => exact ⟨k + 1, by omega, by go_num, HR.out, below_drewn hB _⟩
          case measure => simp [intOf]; omega
      · obtain rfl : k = rs.length := by omega
        have HR := hid (show sameS rs ss = true by rw [← same_end HL.out]; exact HS.out)
        go_wp2
        go_ret
        exact ⟨ret_bool HR.out.symm, hB⟩
  · have e0 : ((rs.length : Int) != (ss.length : Int)) = true := by simp; omega
    have HR := hid (show sameS rs ss = false by unfold sameS; rw [decide_eq_false hl]; rfl)
    clear hl
    go_enter Tryz.func61, Tryz.ntmps61
    go_wp2
    go_ret
    exact ⟨ret_bool HR.out.symm, Below.refl _ _⟩

/-- Numbers that rise, at most two hundred serials. -/
def riB (zs : List Int) : Bool := fewB zs && upN zs
theorem riB_no1 {zs : List Int} (h : okN 100001 zs = false) : riB zs = false := by unfold riB; rw [fewB_no2 h]; rfl
theorem riB_no2 {zs : List Int} (h : upN zs = false) : riB zs = false := by unfold riB; rw [h]; simp
theorem riB_len {zs : List Int} (h1 : okN 100001 zs = true) (h2 : upN zs = true) : riB zs = decide (zs.length ≤ 200) := by
  unfold riB fewB
  rw [h1, h2]
  simp

set_option maxHeartbeats 4000000 in
theorem l5Rising_any (v : Value) (zs : List Int) (w : World) (hm : zs.length ≤ 1048577) (hr : VS w v (nums zs)) :
    Calls Tryz.prog 62 #[v] w fun e w' => e = .returned (.bool (riB zs)) ∧ w' = w := by
  obtain ⟨a, cap, rfl⟩ := hr.numLen
  go_enter Tryz.func62, Tryz.ntmps62
  go_wp2
  go_loop [7] (fun i => ∃ n : Nat, n ≤ zs.length ∧ i = .int .i64 n ∧ ∀ j (hj : j < zs.length), j < n → (1 ≤ zs[j] ∧ zs[j] < 100001) ∧ upI zs j = true) (fun i => zs.length - (intOf i).toNat)
  case atStart => exact ⟨0, Nat.zero_le _, rfl, fun _ _ h => absurd h (Nat.not_lt_zero _)⟩
  case round =>
    obtain ⟨n, hn, rfl, ht⟩ := hrel
    have HT := hid ht
    clear ht
    by_cases hlt : n < zs.length
    · obtain ⟨b, off, rfl, hb, hcap, q0⟩ := hr.num hlt
      have HN := hid (fun h => riB_no1 (okN_no (nx := 100001) (zs := zs) hlt h))
      have HU := hid (fun h => riB_no2 (upN_no (zs := zs) hlt h))
      have HS := hid (show (1 ≤ zs[n] ∧ zs[n] < 100001) → upI zs n = true → ∀ j (hj : j < zs.length), j < n + 1 → (1 ≤ zs[j] ∧ zs[j] < 100001) ∧ upI zs j = true from fun h hu j hj hjn => by
        by_cases e : j = n
        · subst e; exact ⟨h, hu⟩
        · exact HT.out j hj (by omega))
      rcases Nat.eq_zero_or_pos n with rfl | hpos
      · have HZ := hid (show upI zs 0 = true from rfl)
        rw [Nat.add_zero] at q0
        generalize zs[0] = x at *
        by_cases hx : 1 ≤ x ∧ x < 100001
        · have hin : inB 1 100000 x = true := decide_eq_true (by omega)
          have HR := hid (HS.out hx HZ.out)
          clear hx
          go_wp2_with (go_at_call 59; refine (l1In_any x 1 100000 _).mono ?_; rintro e w1 ⟨rfl, rfl⟩; rw [hin])
          exact ⟨⟨1, by omega, by go_num, HR.out⟩, by simp [intOf]; omega⟩
        · have hin : inB 1 100000 x = false := decide_eq_false (by omega)
          have HR := hid (HN.out hx)
          clear hx
          go_wp2_with (go_at_call 59; refine (l1In_any x 1 100000 _).mono ?_; rintro e w1 ⟨rfl, rfl⟩; rw [hin])
          go_ret
          exact ⟨ret_bool HR.out.symm, rfl⟩
      · obtain ⟨m, hm1⟩ : ∃ m, n = m + 1 := ⟨n - 1, by omega⟩
        obtain ⟨b', off', hbo, _, _, p0⟩ := hr.num (i := m) (by omega)
        cases hbo
        have HI := hid (show upI zs n = decide ((zs[m]'(by omega)) < zs[n]) by subst hm1; exact upI_succ hlt)
        have hw1 : IntKind.i64.wrap ((n : Int) - 1) = (m : Int) := by rw [IntKind.wrap_i64]; omega
        have hl1 : (0 : Int) < (n : Int) := by omega
        have hl2 : (m : Int) < (zs.length : Int) := by omega
        generalize zs[n] = x at *
        generalize zs[m] = y at *
        clear hm1 hpos
        by_cases hx : 1 ≤ x ∧ x < 100001
        · have hin : inB 1 100000 x = true := decide_eq_true (by omega)
          by_cases hyx : y < x
          · have HR := hid (HS.out hx (by rw [HI.out]; exact decide_eq_true hyx))
            have hd : decide (x ≤ y) = false := decide_eq_false (by omega)
            clear hx
            go_wp2_with (go_at_call 59; refine (l1In_any x 1 100000 _).mono ?_; rintro e w1 ⟨rfl, rfl⟩; rw [hin])
            exact ⟨⟨n + 1, by omega, by go_num, HR.out⟩, by simp [intOf]; omega⟩
          · have HR := hid (HU.out (by rw [HI.out]; exact decide_eq_false hyx))
            have hd : decide (x ≤ y) = true := decide_eq_true (by omega)
            clear hx
            go_wp2_with (go_at_call 59; refine (l1In_any x 1 100000 _).mono ?_; rintro e w1 ⟨rfl, rfl⟩; rw [hin])
            go_ret
            exact ⟨ret_bool HR.out.symm, rfl⟩
        · have hin : inB 1 100000 x = false := decide_eq_false (by omega)
          have HR := hid (HN.out hx)
          clear hx
          go_wp2_with (go_at_call 59; refine (l1In_any x 1 100000 _).mono ?_; rintro e w1 ⟨rfl, rfl⟩; rw [hin])
          go_ret
          exact ⟨ret_bool HR.out.symm, rfl⟩
    · obtain rfl : n = zs.length := by omega
      have HR := hid (riB_len (okN_yes fun i hi => (HT.out i hi hi).1) (upN_yes fun i hi => (HT.out i hi hi).2))
      go_wp2
      go_ret
      exact ⟨ret_bool (by rw [HR.out]; exact decide_eq_decide.2 (by omega)), rfl⟩

set_option maxHeartbeats 8000000 in
theorem specGoodSnapshot_any (v : Value) (s : Sn) (w : World) (hs : s.short) (h : SnA w v s) :
    Calls Tryz.prog 31 #[v] w fun e w' => e = .returned (.bool (snB s)) ∧ Below w.heap.size w w' := by
  obtain ⟨vp, vr, rfl, h1, h2⟩ := h
  obtain ⟨l1, l2, hz⟩ := hs
  obtain ⟨ap, cp, rfl⟩ := h1.len
  obtain ⟨ar, cr, rfl⟩ := h2.numLen
  have hB0 : Below w.heap.size w (w.alloc (.cells #[.int .i64 s.num, .slice ap s.pol.length cp, .slice ar s.rv.length cr] 32)) := (Below.refl _ w).alloc (Nat.le_refl _) _
  have F := Three.new w (.int .i64 s.num) (.slice ap s.pol.length cp) (.slice ar s.rv.length cr) 32
  have hlt0 := F.lt
  have h1d := (h1.below hB0).below (Below.refl _ _).drew
  have h2d := (h2.below hB0).below (Below.refl _ _).drew
  obtain ⟨a0, a1, a2⟩ := F.c
  cases hin : inB 1 100000 s.num
  · have HR := hid (snB_no1 (s := s) hin)
    go_enter Tryz.func31, Tryz.ntmps31
    go_wp2_with fail
    generalize w.alloc (.cells #[.int .i64 s.num, .slice ap s.pol.length cp, .slice ar s.rv.length cr] 32) = W0 at *
    refine wp_region_held_drew (S := fun w' => w'.cell? ⟨w.heap.size, 0, none⟩ = some (.int .i64 s.num) ∧ w'.cell? ⟨w.heap.size, 1, none⟩ = some (.slice ap s.pol.length cp) ∧ w'.cell? ⟨w.heap.size, 2, none⟩ = some (.slice ar s.rv.length cr)) (by kernel_rfl) ?_ (fun hHeld => ?_)
    · go_keep
    refine takeW 0 (v := ?v1) rfl (by kernel_rfl) (by kernel_rfl) (by kernel_rfl) (fun _ _ _ h => h) (by rfl) (by assumption) ?hy1 ?rest1
    case hy1 => intro w' hSw; (try dsimp only at hSw); go_simp; try with_reducible rfl
    try simp only [Act.put, List.setIfInBounds_toArray, List.set_cons_zero, List.set_cons_succ]
    refine takeW 1 (v := ?v2) rfl (by kernel_rfl) (by kernel_rfl) (by kernel_rfl) (fun _ _ _ h => h) (by rfl) (by assumption) ?hy2 ?rest2
    case hy2 => intro w' hSw; (try dsimp only at hSw); go_simp; try with_reducible rfl
    try simp only [Act.put, List.setIfInBounds_toArray, List.set_cons_zero, List.set_cons_succ]
    refine takeC 2 (by kernel_rfl) rfl (fun K hK => ?_)
    go_simp
    refine (l1In_any s.num 1 100000 _).mono ?_; rintro e w1 ⟨he1, rfl⟩; rw [hin] at he1; subst he1
    refine hK.out _ _ ?_ (fun hHeld => ?_)
    · go_keep
    clear hK K
    try simp only [Act.put, List.setIfInBounds_toArray, List.set_cons_zero, List.set_cons_succ]
    refine takeW 3 (v := ?v3) rfl (by kernel_rfl) (by kernel_rfl) (by kernel_rfl) (fun _ _ _ h => h) (by rfl) (by assumption) ?hy3 ?rest3
    case hy3 => intro w' hSw; (try dsimp only at hSw); go_simp; try with_reducible rfl
    try simp only [Act.put, List.setIfInBounds_toArray, List.set_cons_zero, List.set_cons_succ]
    refine takeX 4 rfl (by kernel_rfl) (by kernel_rfl) (by kernel_rfl) (fun _ _ _ h => h) (by rfl) (by assumption) ?_
    try simp only [Act.put, List.setIfInBounds_toArray, List.set_cons_zero, List.set_cons_succ]
    refine takeX 5 rfl (by kernel_rfl) (by kernel_rfl) (by kernel_rfl) (fun _ _ _ h => h) (by rfl) (by assumption) ?_
    try simp only [Act.put, List.setIfInBounds_toArray, List.set_cons_zero, List.set_cons_succ]
    refine takeX 6 rfl (by kernel_rfl) (by kernel_rfl) (by kernel_rfl) (fun _ _ _ h => h) (by rfl) (by assumption) ?_
    try simp only [Act.put, List.setIfInBounds_toArray, List.set_cons_zero, List.set_cons_succ]
    refine takeW 7 (v := ?v4) rfl (by kernel_rfl) (by kernel_rfl) (by kernel_rfl) (fun _ _ _ h => h) (by rfl) (by assumption) ?hy4 ?rest4
    case hy4 => intro w' hSw; (try dsimp only at hSw); go_simp; try with_reducible rfl
    try simp only [Act.put, List.setIfInBounds_toArray, List.set_cons_zero, List.set_cons_succ]
    refine takeW 8 (v := ?v5) rfl (by kernel_rfl) (by kernel_rfl) (by kernel_rfl) (fun _ _ _ h => h) (by rfl) (by assumption) ?hy5 ?rest5
    case hy5 => intro w' hSw; (try dsimp only at hSw); go_simp; try with_reducible rfl
    try simp only [Act.put, List.setIfInBounds_toArray, List.set_cons_zero, List.set_cons_succ]
    refine takeX 9 rfl (by kernel_rfl) (by kernel_rfl) (by kernel_rfl) (fun _ _ _ h => h) (by rfl) (by assumption) ?_
    try simp only [Act.put, List.setIfInBounds_toArray, List.set_cons_zero, List.set_cons_succ]
    refine takeX 10 rfl (by kernel_rfl) (by kernel_rfl) (by kernel_rfl) (fun _ _ _ h => h) (by rfl) (by assumption) ?_
    try simp only [Act.put, List.setIfInBounds_toArray, List.set_cons_zero, List.set_cons_succ]
    refine takeX 11 rfl (by kernel_rfl) (by kernel_rfl) (by kernel_rfl) (fun _ _ _ h => h) (by rfl) (by assumption) ?_
    try simp only [Act.put, List.setIfInBounds_toArray, List.set_cons_zero, List.set_cons_succ]
    refine takeX 12 rfl (by kernel_rfl) (by kernel_rfl) (by kernel_rfl) (fun _ _ _ h => h) (by rfl) (by assumption) ?_
    try simp only [Act.put, List.setIfInBounds_toArray, List.set_cons_zero, List.set_cons_succ]
    refine takeX 13 rfl (by kernel_rfl) (by kernel_rfl) (by kernel_rfl) (fun _ _ _ h => h) (by rfl) (by assumption) ?_
    try simp only [Act.put, List.setIfInBounds_toArray, List.set_cons_zero, List.set_cons_succ]
    refine takeX 14 rfl (by kernel_rfl) (by kernel_rfl) (by kernel_rfl) (fun _ _ _ h => h) (by rfl) (by assumption) ?_
    try simp only [Act.put, List.setIfInBounds_toArray, List.set_cons_zero, List.set_cons_succ]
    refine takeW 15 (v := ?v6) rfl (by kernel_rfl) (by kernel_rfl) (by kernel_rfl) (fun _ _ _ h => h) (by rfl) (by assumption) ?hy6 ?rest6
    case hy6 => intro w' hSw; (try dsimp only at hSw); go_simp; try with_reducible rfl
    try simp only [Act.put, List.setIfInBounds_toArray, List.set_cons_zero, List.set_cons_succ]
    refine takeW 16 (v := ?v7) rfl (by kernel_rfl) (by kernel_rfl) (by kernel_rfl) (fun _ _ _ h => h) (by rfl) (by assumption) ?hy7 ?rest7
    case hy7 => intro w' hSw; (try dsimp only at hSw); go_simp; try with_reducible rfl
    try simp only [Act.put, List.setIfInBounds_toArray, List.set_cons_zero, List.set_cons_succ]
    refine takeX 17 rfl (by kernel_rfl) (by kernel_rfl) (by kernel_rfl) (fun _ _ _ h => h) (by rfl) (by assumption) ?_
    try simp only [Act.put, List.setIfInBounds_toArray, List.set_cons_zero, List.set_cons_succ]
    refine takeX 18 rfl (by kernel_rfl) (by kernel_rfl) (by kernel_rfl) (fun _ _ _ h => h) (by rfl) (by assumption) ?_
    try simp only [Act.put, List.setIfInBounds_toArray, List.set_cons_zero, List.set_cons_succ]
    refine takeX 19 rfl (by kernel_rfl) (by kernel_rfl) (by kernel_rfl) (fun _ _ _ h => h) (by rfl) (by assumption) ?_
    try simp only [Act.put, List.setIfInBounds_toArray, List.set_cons_zero, List.set_cons_succ]
    refine takeW 20 (v := ?v8) rfl (by kernel_rfl) (by kernel_rfl) (by kernel_rfl) (fun _ _ _ h => h) (by rfl) (by assumption) ?hy8 ?rest8
    case hy8 => intro w' hSw; (try dsimp only at hSw); go_simp; try with_reducible rfl
    try simp only [Act.put, List.setIfInBounds_toArray, List.set_cons_zero, List.set_cons_succ]
    refine takeW 21 (v := ?v9) rfl (by kernel_rfl) (by kernel_rfl) (by kernel_rfl) (fun _ _ _ h => h) (by rfl) (by assumption) ?hy9 ?rest9
    case hy9 => intro w' hSw; (try dsimp only at hSw); go_simp; try with_reducible rfl
    try simp only [Act.put, List.setIfInBounds_toArray, List.set_cons_zero, List.set_cons_succ]
    refine wpAnyH_done (by kernel_rfl) ?_ _
    go_wp2_with fail
    go_ret
    exact ⟨ret_bool HR.out.symm, below_one hB0 (Below.refl _ _).drew⟩
  have HN := hid (show numB s.num = true from hin)
  cases hpo : polB s.pol
  · have HR := hid (snB_no2 hpo)
    go_enter Tryz.func31, Tryz.ntmps31
    go_wp2_with fail
    generalize w.alloc (.cells #[.int .i64 s.num, .slice ap s.pol.length cp, .slice ar s.rv.length cr] 32) = W0 at *
    refine wp_region_held_drew (S := fun w' => w'.cell? ⟨w.heap.size, 0, none⟩ = some (.int .i64 s.num) ∧ w'.cell? ⟨w.heap.size, 1, none⟩ = some (.slice ap s.pol.length cp) ∧ w'.cell? ⟨w.heap.size, 2, none⟩ = some (.slice ar s.rv.length cr)) (by kernel_rfl) ?_ (fun hHeld => ?_)
    · go_keep
    refine takeW 0 (v := ?v10) rfl (by kernel_rfl) (by kernel_rfl) (by kernel_rfl) (fun _ _ _ h => h) (by rfl) (by assumption) ?hy10 ?rest10
    case hy10 => intro w' hSw; (try dsimp only at hSw); go_simp; try with_reducible rfl
    try simp only [Act.put, List.setIfInBounds_toArray, List.set_cons_zero, List.set_cons_succ]
    refine takeW 1 (v := ?v11) rfl (by kernel_rfl) (by kernel_rfl) (by kernel_rfl) (fun _ _ _ h => h) (by rfl) (by assumption) ?hy11 ?rest11
    case hy11 => intro w' hSw; (try dsimp only at hSw); go_simp; try with_reducible rfl
    try simp only [Act.put, List.setIfInBounds_toArray, List.set_cons_zero, List.set_cons_succ]
    refine takeC 2 (by kernel_rfl) rfl (fun K hK => ?_)
    go_simp
    refine (l1In_any s.num 1 100000 _).mono ?_; rintro e w1 ⟨he1, rfl⟩; rw [hin] at he1; subst he1
    refine hK.out _ _ ?_ (fun hHeld => ?_)
    · go_keep
    clear hK K
    try simp only [Act.put, List.setIfInBounds_toArray, List.set_cons_zero, List.set_cons_succ]
    refine takeW 3 (v := ?v12) rfl (by kernel_rfl) (by kernel_rfl) (by kernel_rfl) (fun _ _ _ h => h) (by rfl) (by assumption) ?hy12 ?rest12
    case hy12 => intro w' hSw; (try dsimp only at hSw); go_simp; try with_reducible rfl
    try simp only [Act.put, List.setIfInBounds_toArray, List.set_cons_zero, List.set_cons_succ]
    refine takeW 4 (v := ?v13) rfl (by kernel_rfl) (by kernel_rfl) (by kernel_rfl) (fun _ _ _ h => h) (by rfl) (by assumption) ?hy13 ?rest13
    case hy13 => intro w' hSw; (try dsimp only at hSw); go_simp; try with_reducible rfl
    try simp only [Act.put, List.setIfInBounds_toArray, List.set_cons_zero, List.set_cons_succ]
    refine takeW 5 (v := ?v14) rfl (by kernel_rfl) (by kernel_rfl) (by kernel_rfl) (fun _ _ _ h => h) (by rfl) (by assumption) ?hy14 ?rest14
    case hy14 => intro w' hSw; (try dsimp only at hSw); go_simp; try with_reducible rfl
    try simp only [Act.put, List.setIfInBounds_toArray, List.set_cons_zero, List.set_cons_succ]
    refine takeC 6 (by kernel_rfl) rfl (fun K hK => ?_)
    go_simp
    refine (l2Good_any _ s.pol _ (by omega) hz (by exact h1d)).mono ?_; rintro e w2 ⟨he2, hB2⟩; rw [hpo] at he2; subst he2; have hc2 := fun o => hB2.cell (p := ⟨w.heap.size, o, none⟩) (by exact hlt0); have hlt2 : w.heap.size < w2.heap.size := Nat.lt_of_lt_of_le hlt0 hB2.size
    refine hK.out _ _ ?_ (fun hHeld => ?_)
    · go_keep
    clear hK K
    try simp only [Act.put, List.setIfInBounds_toArray, List.set_cons_zero, List.set_cons_succ]
    refine takeW 7 (v := ?v15) rfl (by kernel_rfl) (by kernel_rfl) (by kernel_rfl) (fun _ _ _ h => h) (by rfl) (by assumption) ?hy15 ?rest15
    case hy15 => intro w' hSw; (try dsimp only at hSw); go_simp; try with_reducible rfl
    try simp only [Act.put, List.setIfInBounds_toArray, List.set_cons_zero, List.set_cons_succ]
    refine takeW 8 (v := ?v16) rfl (by kernel_rfl) (by kernel_rfl) (by kernel_rfl) (fun _ _ _ h => h) (by rfl) (by assumption) ?hy16 ?rest16
    case hy16 => intro w' hSw; (try dsimp only at hSw); go_simp; try with_reducible rfl
    try simp only [Act.put, List.setIfInBounds_toArray, List.set_cons_zero, List.set_cons_succ]
    refine takeX 9 rfl (by kernel_rfl) (by kernel_rfl) (by kernel_rfl) (fun _ _ _ h => h) (by rfl) (by assumption) ?_
    try simp only [Act.put, List.setIfInBounds_toArray, List.set_cons_zero, List.set_cons_succ]
    refine takeX 10 rfl (by kernel_rfl) (by kernel_rfl) (by kernel_rfl) (fun _ _ _ h => h) (by rfl) (by assumption) ?_
    try simp only [Act.put, List.setIfInBounds_toArray, List.set_cons_zero, List.set_cons_succ]
    refine takeX 11 rfl (by kernel_rfl) (by kernel_rfl) (by kernel_rfl) (fun _ _ _ h => h) (by rfl) (by assumption) ?_
    try simp only [Act.put, List.setIfInBounds_toArray, List.set_cons_zero, List.set_cons_succ]
    refine takeX 12 rfl (by kernel_rfl) (by kernel_rfl) (by kernel_rfl) (fun _ _ _ h => h) (by rfl) (by assumption) ?_
    try simp only [Act.put, List.setIfInBounds_toArray, List.set_cons_zero, List.set_cons_succ]
    refine takeX 13 rfl (by kernel_rfl) (by kernel_rfl) (by kernel_rfl) (fun _ _ _ h => h) (by rfl) (by assumption) ?_
    try simp only [Act.put, List.setIfInBounds_toArray, List.set_cons_zero, List.set_cons_succ]
    refine takeX 14 rfl (by kernel_rfl) (by kernel_rfl) (by kernel_rfl) (fun _ _ _ h => h) (by rfl) (by assumption) ?_
    try simp only [Act.put, List.setIfInBounds_toArray, List.set_cons_zero, List.set_cons_succ]
    refine takeW 15 (v := ?v17) rfl (by kernel_rfl) (by kernel_rfl) (by kernel_rfl) (fun _ _ _ h => h) (by rfl) (by assumption) ?hy17 ?rest17
    case hy17 => intro w' hSw; (try dsimp only at hSw); go_simp; try with_reducible rfl
    try simp only [Act.put, List.setIfInBounds_toArray, List.set_cons_zero, List.set_cons_succ]
    refine takeW 16 (v := ?v18) rfl (by kernel_rfl) (by kernel_rfl) (by kernel_rfl) (fun _ _ _ h => h) (by rfl) (by assumption) ?hy18 ?rest18
    case hy18 => intro w' hSw; (try dsimp only at hSw); go_simp; try with_reducible rfl
    try simp only [Act.put, List.setIfInBounds_toArray, List.set_cons_zero, List.set_cons_succ]
    refine takeX 17 rfl (by kernel_rfl) (by kernel_rfl) (by kernel_rfl) (fun _ _ _ h => h) (by rfl) (by assumption) ?_
    try simp only [Act.put, List.setIfInBounds_toArray, List.set_cons_zero, List.set_cons_succ]
    refine takeX 18 rfl (by kernel_rfl) (by kernel_rfl) (by kernel_rfl) (fun _ _ _ h => h) (by rfl) (by assumption) ?_
    try simp only [Act.put, List.setIfInBounds_toArray, List.set_cons_zero, List.set_cons_succ]
    refine takeX 19 rfl (by kernel_rfl) (by kernel_rfl) (by kernel_rfl) (fun _ _ _ h => h) (by rfl) (by assumption) ?_
    try simp only [Act.put, List.setIfInBounds_toArray, List.set_cons_zero, List.set_cons_succ]
    refine takeW 20 (v := ?v19) rfl (by kernel_rfl) (by kernel_rfl) (by kernel_rfl) (fun _ _ _ h => h) (by rfl) (by assumption) ?hy19 ?rest19
    case hy19 => intro w' hSw; (try dsimp only at hSw); go_simp; try with_reducible rfl
    try simp only [Act.put, List.setIfInBounds_toArray, List.set_cons_zero, List.set_cons_succ]
    refine takeW 21 (v := ?v20) rfl (by kernel_rfl) (by kernel_rfl) (by kernel_rfl) (fun _ _ _ h => h) (by rfl) (by assumption) ?hy20 ?rest20
    case hy20 => intro w' hSw; (try dsimp only at hSw); go_simp; try with_reducible rfl
    try simp only [Act.put, List.setIfInBounds_toArray, List.set_cons_zero, List.set_cons_succ]
    refine wpAnyH_done (by kernel_rfl) ?_ _
    go_wp2_with fail
    go_ret
    exact ⟨ret_bool HR.out.symm, below_one hB0 (below_drew1 hB2)⟩
  have h30 := (pol_all hpo).2
  have hpl : (plTo s.pol s.pol.length).length ≤ 1048577 := by have := plTo_len (rs := s.pol) _ (Nat.le_refl _); omega
  cases hsm : sameS (plTo s.pol s.pol.length) s.pol
  · have HR := hid (snB_no3 (s := s) (by rw [plX_yes hpo]; exact hsm))
    go_enter Tryz.func31, Tryz.ntmps31
    go_wp2_with fail
    generalize w.alloc (.cells #[.int .i64 s.num, .slice ap s.pol.length cp, .slice ar s.rv.length cr] 32) = W0 at *
    refine wp_region_held_drew (S := fun w' => w'.cell? ⟨w.heap.size, 0, none⟩ = some (.int .i64 s.num) ∧ w'.cell? ⟨w.heap.size, 1, none⟩ = some (.slice ap s.pol.length cp) ∧ w'.cell? ⟨w.heap.size, 2, none⟩ = some (.slice ar s.rv.length cr)) (by kernel_rfl) ?_ (fun hHeld => ?_)
    · go_keep
    refine takeW 0 (v := ?v21) rfl (by kernel_rfl) (by kernel_rfl) (by kernel_rfl) (fun _ _ _ h => h) (by rfl) (by assumption) ?hy21 ?rest21
    case hy21 => intro w' hSw; (try dsimp only at hSw); go_simp; try with_reducible rfl
    try simp only [Act.put, List.setIfInBounds_toArray, List.set_cons_zero, List.set_cons_succ]
    refine takeW 1 (v := ?v22) rfl (by kernel_rfl) (by kernel_rfl) (by kernel_rfl) (fun _ _ _ h => h) (by rfl) (by assumption) ?hy22 ?rest22
    case hy22 => intro w' hSw; (try dsimp only at hSw); go_simp; try with_reducible rfl
    try simp only [Act.put, List.setIfInBounds_toArray, List.set_cons_zero, List.set_cons_succ]
    refine takeC 2 (by kernel_rfl) rfl (fun K hK => ?_)
    go_simp
    refine (l1In_any s.num 1 100000 _).mono ?_; rintro e w1 ⟨he1, rfl⟩; rw [hin] at he1; subst he1
    refine hK.out _ _ ?_ (fun hHeld => ?_)
    · go_keep
    clear hK K
    try simp only [Act.put, List.setIfInBounds_toArray, List.set_cons_zero, List.set_cons_succ]
    refine takeW 3 (v := ?v23) rfl (by kernel_rfl) (by kernel_rfl) (by kernel_rfl) (fun _ _ _ h => h) (by rfl) (by assumption) ?hy23 ?rest23
    case hy23 => intro w' hSw; (try dsimp only at hSw); go_simp; try with_reducible rfl
    try simp only [Act.put, List.setIfInBounds_toArray, List.set_cons_zero, List.set_cons_succ]
    refine takeW 4 (v := ?v24) rfl (by kernel_rfl) (by kernel_rfl) (by kernel_rfl) (fun _ _ _ h => h) (by rfl) (by assumption) ?hy24 ?rest24
    case hy24 => intro w' hSw; (try dsimp only at hSw); go_simp; try with_reducible rfl
    try simp only [Act.put, List.setIfInBounds_toArray, List.set_cons_zero, List.set_cons_succ]
    refine takeW 5 (v := ?v25) rfl (by kernel_rfl) (by kernel_rfl) (by kernel_rfl) (fun _ _ _ h => h) (by rfl) (by assumption) ?hy25 ?rest25
    case hy25 => intro w' hSw; (try dsimp only at hSw); go_simp; try with_reducible rfl
    try simp only [Act.put, List.setIfInBounds_toArray, List.set_cons_zero, List.set_cons_succ]
    refine takeC 6 (by kernel_rfl) rfl (fun K hK => ?_)
    go_simp
    refine (l2Good_any _ s.pol _ (by omega) hz (by exact h1d)).mono ?_; rintro e w2 ⟨he2, hB2⟩; rw [hpo] at he2; subst he2; have hc2 := fun o => hB2.cell (p := ⟨w.heap.size, o, none⟩) (by exact hlt0); have hlt2 : w.heap.size < w2.heap.size := Nat.lt_of_lt_of_le hlt0 hB2.size
    refine hK.out _ _ ?_ (fun hHeld => ?_)
    · go_keep
    clear hK K
    try simp only [Act.put, List.setIfInBounds_toArray, List.set_cons_zero, List.set_cons_succ]
    refine takeW 7 (v := ?v26) rfl (by kernel_rfl) (by kernel_rfl) (by kernel_rfl) (fun _ _ _ h => h) (by rfl) (by assumption) ?hy26 ?rest26
    case hy26 => intro w' hSw; (try dsimp only at hSw); go_simp; try with_reducible rfl
    try simp only [Act.put, List.setIfInBounds_toArray, List.set_cons_zero, List.set_cons_succ]
    refine takeW 8 (v := ?v27) rfl (by kernel_rfl) (by kernel_rfl) (by kernel_rfl) (fun _ _ _ h => h) (by rfl) (by assumption) ?hy27 ?rest27
    case hy27 => intro w' hSw; (try dsimp only at hSw); go_simp; try with_reducible rfl
    try simp only [Act.put, List.setIfInBounds_toArray, List.set_cons_zero, List.set_cons_succ]
    refine takeW 9 (v := ?v28) rfl (by kernel_rfl) (by kernel_rfl) (by kernel_rfl) (fun _ _ _ h => h) (by rfl) (by assumption) ?hy28 ?rest28
    case hy28 => intro w' hSw; (try dsimp only at hSw); go_simp; try with_reducible rfl
    try simp only [Act.put, List.setIfInBounds_toArray, List.set_cons_zero, List.set_cons_succ]
    refine takeW 10 (v := ?v29) rfl (by kernel_rfl) (by kernel_rfl) (by kernel_rfl) (fun _ _ _ h => h) (by rfl) (by assumption) ?hy29 ?rest29
    case hy29 => intro w' hSw; (try dsimp only at hSw); go_simp; try with_reducible rfl
    try simp only [Act.put, List.setIfInBounds_toArray, List.set_cons_zero, List.set_cons_succ]
    refine takeW 12 (v := ?v30) rfl (by kernel_rfl) (by kernel_rfl) (by kernel_rfl) (fun _ _ _ h => h) (by rfl) (by assumption) ?hy30 ?rest30
    case hy30 => intro w' hSw; (try dsimp only at hSw); go_simp; try with_reducible rfl
    try simp only [Act.put, List.setIfInBounds_toArray, List.set_cons_zero, List.set_cons_succ]
    refine takeW 13 (v := ?v31) rfl (by kernel_rfl) (by kernel_rfl) (by kernel_rfl) (fun _ _ _ h => h) (by rfl) (by assumption) ?hy31 ?rest31
    case hy31 => intro w' hSw; (try dsimp only at hSw); go_simp; try with_reducible rfl
    try simp only [Act.put, List.setIfInBounds_toArray, List.set_cons_zero, List.set_cons_succ]
    refine takeC 11 (by kernel_rfl) rfl (fun K hK => ?_)
    go_simp
    refine (l2Plain_any _ s.pol _ h30 hz (by exact h1d.below hB2)).mono ?_; rintro e w3 ⟨v3, rfl, o3, hB3⟩; obtain ⟨a3, k3, rfl⟩ := ownsRow_len o3; have hc3 := fun o => hB3.cell (p := ⟨w.heap.size, o, none⟩) (by exact hlt2); have hlt3 : w.heap.size < w3.heap.size := Nat.lt_of_lt_of_le hlt2 hB3.size
    refine hK.out _ _ ?_ (fun hHeld => ?_)
    · go_keep
    clear hK K
    try simp only [Act.put, List.setIfInBounds_toArray, List.set_cons_zero, List.set_cons_succ]
    refine takeC 14 (by kernel_rfl) rfl (fun K hK => ?_)
    go_simp
    refine (l5SameRules_any _ _ _ s.pol _ hpl (by omega) (RuS.own o3) (by exact (h1d.below hB2).below hB3)).mono ?_; rintro e w4 ⟨he4, hB4⟩; rw [hsm] at he4; subst he4; have hc4 := fun o => hB4.cell (p := ⟨w.heap.size, o, none⟩) (by exact hlt3); have hlt4 : w.heap.size < w4.heap.size := Nat.lt_of_lt_of_le hlt3 hB4.size
    refine hK.out _ _ ?_ (fun hHeld => ?_)
    · go_keep
    clear hK K
    try simp only [Act.put, List.setIfInBounds_toArray, List.set_cons_zero, List.set_cons_succ]
    refine takeW 15 (v := ?v32) rfl (by kernel_rfl) (by kernel_rfl) (by kernel_rfl) (fun _ _ _ h => h) (by rfl) (by assumption) ?hy32 ?rest32
    case hy32 => intro w' hSw; (try dsimp only at hSw); go_simp; try with_reducible rfl
    try simp only [Act.put, List.setIfInBounds_toArray, List.set_cons_zero, List.set_cons_succ]
    refine takeW 16 (v := ?v33) rfl (by kernel_rfl) (by kernel_rfl) (by kernel_rfl) (fun _ _ _ h => h) (by rfl) (by assumption) ?hy33 ?rest33
    case hy33 => intro w' hSw; (try dsimp only at hSw); go_simp; try with_reducible rfl
    try simp only [Act.put, List.setIfInBounds_toArray, List.set_cons_zero, List.set_cons_succ]
    refine takeX 17 rfl (by kernel_rfl) (by kernel_rfl) (by kernel_rfl) (fun _ _ _ h => h) (by rfl) (by assumption) ?_
    try simp only [Act.put, List.setIfInBounds_toArray, List.set_cons_zero, List.set_cons_succ]
    refine takeX 18 rfl (by kernel_rfl) (by kernel_rfl) (by kernel_rfl) (fun _ _ _ h => h) (by rfl) (by assumption) ?_
    try simp only [Act.put, List.setIfInBounds_toArray, List.set_cons_zero, List.set_cons_succ]
    refine takeX 19 rfl (by kernel_rfl) (by kernel_rfl) (by kernel_rfl) (fun _ _ _ h => h) (by rfl) (by assumption) ?_
    try simp only [Act.put, List.setIfInBounds_toArray, List.set_cons_zero, List.set_cons_succ]
    refine takeW 20 (v := ?v34) rfl (by kernel_rfl) (by kernel_rfl) (by kernel_rfl) (fun _ _ _ h => h) (by rfl) (by assumption) ?hy34 ?rest34
    case hy34 => intro w' hSw; (try dsimp only at hSw); go_simp; try with_reducible rfl
    try simp only [Act.put, List.setIfInBounds_toArray, List.set_cons_zero, List.set_cons_succ]
    refine takeW 21 (v := ?v35) rfl (by kernel_rfl) (by kernel_rfl) (by kernel_rfl) (fun _ _ _ h => h) (by rfl) (by assumption) ?hy35 ?rest35
    case hy35 => intro w' hSw; (try dsimp only at hSw); go_simp; try with_reducible rfl
    try simp only [Act.put, List.setIfInBounds_toArray, List.set_cons_zero, List.set_cons_succ]
    refine wpAnyH_done (by kernel_rfl) ?_ _
    go_wp2_with fail
    go_ret
    exact ⟨ret_bool HR.out.symm, below_one hB0 (below_drew1 (below_one (below_one hB2 hB3) hB4))⟩
  cases hri : riB s.rv
  · have HR := hid (show snB s = false by unfold riB at hri; rw [Bool.and_eq_false_iff] at hri; rcases hri with h | h; exact snB_no4 h; exact snB_no5 h)
    go_enter Tryz.func31, Tryz.ntmps31
    go_wp2_with fail
    generalize w.alloc (.cells #[.int .i64 s.num, .slice ap s.pol.length cp, .slice ar s.rv.length cr] 32) = W0 at *
    refine wp_region_held_drew (S := fun w' => w'.cell? ⟨w.heap.size, 0, none⟩ = some (.int .i64 s.num) ∧ w'.cell? ⟨w.heap.size, 1, none⟩ = some (.slice ap s.pol.length cp) ∧ w'.cell? ⟨w.heap.size, 2, none⟩ = some (.slice ar s.rv.length cr)) (by kernel_rfl) ?_ (fun hHeld => ?_)
    · go_keep
    refine takeW 0 (v := ?v36) rfl (by kernel_rfl) (by kernel_rfl) (by kernel_rfl) (fun _ _ _ h => h) (by rfl) (by assumption) ?hy36 ?rest36
    case hy36 => intro w' hSw; (try dsimp only at hSw); go_simp; try with_reducible rfl
    try simp only [Act.put, List.setIfInBounds_toArray, List.set_cons_zero, List.set_cons_succ]
    refine takeW 1 (v := ?v37) rfl (by kernel_rfl) (by kernel_rfl) (by kernel_rfl) (fun _ _ _ h => h) (by rfl) (by assumption) ?hy37 ?rest37
    case hy37 => intro w' hSw; (try dsimp only at hSw); go_simp; try with_reducible rfl
    try simp only [Act.put, List.setIfInBounds_toArray, List.set_cons_zero, List.set_cons_succ]
    refine takeC 2 (by kernel_rfl) rfl (fun K hK => ?_)
    go_simp
    refine (l1In_any s.num 1 100000 _).mono ?_; rintro e w1 ⟨he1, rfl⟩; rw [hin] at he1; subst he1
    refine hK.out _ _ ?_ (fun hHeld => ?_)
    · go_keep
    clear hK K
    try simp only [Act.put, List.setIfInBounds_toArray, List.set_cons_zero, List.set_cons_succ]
    refine takeW 3 (v := ?v38) rfl (by kernel_rfl) (by kernel_rfl) (by kernel_rfl) (fun _ _ _ h => h) (by rfl) (by assumption) ?hy38 ?rest38
    case hy38 => intro w' hSw; (try dsimp only at hSw); go_simp; try with_reducible rfl
    try simp only [Act.put, List.setIfInBounds_toArray, List.set_cons_zero, List.set_cons_succ]
    refine takeW 4 (v := ?v39) rfl (by kernel_rfl) (by kernel_rfl) (by kernel_rfl) (fun _ _ _ h => h) (by rfl) (by assumption) ?hy39 ?rest39
    case hy39 => intro w' hSw; (try dsimp only at hSw); go_simp; try with_reducible rfl
    try simp only [Act.put, List.setIfInBounds_toArray, List.set_cons_zero, List.set_cons_succ]
    refine takeW 5 (v := ?v40) rfl (by kernel_rfl) (by kernel_rfl) (by kernel_rfl) (fun _ _ _ h => h) (by rfl) (by assumption) ?hy40 ?rest40
    case hy40 => intro w' hSw; (try dsimp only at hSw); go_simp; try with_reducible rfl
    try simp only [Act.put, List.setIfInBounds_toArray, List.set_cons_zero, List.set_cons_succ]
    refine takeC 6 (by kernel_rfl) rfl (fun K hK => ?_)
    go_simp
    refine (l2Good_any _ s.pol _ (by omega) hz (by exact h1d)).mono ?_; rintro e w2 ⟨he2, hB2⟩; rw [hpo] at he2; subst he2; have hc2 := fun o => hB2.cell (p := ⟨w.heap.size, o, none⟩) (by exact hlt0); have hlt2 : w.heap.size < w2.heap.size := Nat.lt_of_lt_of_le hlt0 hB2.size
    refine hK.out _ _ ?_ (fun hHeld => ?_)
    · go_keep
    clear hK K
    try simp only [Act.put, List.setIfInBounds_toArray, List.set_cons_zero, List.set_cons_succ]
    refine takeW 7 (v := ?v41) rfl (by kernel_rfl) (by kernel_rfl) (by kernel_rfl) (fun _ _ _ h => h) (by rfl) (by assumption) ?hy41 ?rest41
    case hy41 => intro w' hSw; (try dsimp only at hSw); go_simp; try with_reducible rfl
    try simp only [Act.put, List.setIfInBounds_toArray, List.set_cons_zero, List.set_cons_succ]
    refine takeW 8 (v := ?v42) rfl (by kernel_rfl) (by kernel_rfl) (by kernel_rfl) (fun _ _ _ h => h) (by rfl) (by assumption) ?hy42 ?rest42
    case hy42 => intro w' hSw; (try dsimp only at hSw); go_simp; try with_reducible rfl
    try simp only [Act.put, List.setIfInBounds_toArray, List.set_cons_zero, List.set_cons_succ]
    refine takeW 9 (v := ?v43) rfl (by kernel_rfl) (by kernel_rfl) (by kernel_rfl) (fun _ _ _ h => h) (by rfl) (by assumption) ?hy43 ?rest43
    case hy43 => intro w' hSw; (try dsimp only at hSw); go_simp; try with_reducible rfl
    try simp only [Act.put, List.setIfInBounds_toArray, List.set_cons_zero, List.set_cons_succ]
    refine takeW 10 (v := ?v44) rfl (by kernel_rfl) (by kernel_rfl) (by kernel_rfl) (fun _ _ _ h => h) (by rfl) (by assumption) ?hy44 ?rest44
    case hy44 => intro w' hSw; (try dsimp only at hSw); go_simp; try with_reducible rfl
    try simp only [Act.put, List.setIfInBounds_toArray, List.set_cons_zero, List.set_cons_succ]
    refine takeW 12 (v := ?v45) rfl (by kernel_rfl) (by kernel_rfl) (by kernel_rfl) (fun _ _ _ h => h) (by rfl) (by assumption) ?hy45 ?rest45
    case hy45 => intro w' hSw; (try dsimp only at hSw); go_simp; try with_reducible rfl
    try simp only [Act.put, List.setIfInBounds_toArray, List.set_cons_zero, List.set_cons_succ]
    refine takeW 13 (v := ?v46) rfl (by kernel_rfl) (by kernel_rfl) (by kernel_rfl) (fun _ _ _ h => h) (by rfl) (by assumption) ?hy46 ?rest46
    case hy46 => intro w' hSw; (try dsimp only at hSw); go_simp; try with_reducible rfl
    try simp only [Act.put, List.setIfInBounds_toArray, List.set_cons_zero, List.set_cons_succ]
    refine takeC 11 (by kernel_rfl) rfl (fun K hK => ?_)
    go_simp
    refine (l2Plain_any _ s.pol _ h30 hz (by exact h1d.below hB2)).mono ?_; rintro e w3 ⟨v3, rfl, o3, hB3⟩; obtain ⟨a3, k3, rfl⟩ := ownsRow_len o3; have hc3 := fun o => hB3.cell (p := ⟨w.heap.size, o, none⟩) (by exact hlt2); have hlt3 : w.heap.size < w3.heap.size := Nat.lt_of_lt_of_le hlt2 hB3.size
    refine hK.out _ _ ?_ (fun hHeld => ?_)
    · go_keep
    clear hK K
    try simp only [Act.put, List.setIfInBounds_toArray, List.set_cons_zero, List.set_cons_succ]
    refine takeC 14 (by kernel_rfl) rfl (fun K hK => ?_)
    go_simp
    refine (l5SameRules_any _ _ _ s.pol _ hpl (by omega) (RuS.own o3) (by exact (h1d.below hB2).below hB3)).mono ?_; rintro e w4 ⟨he4, hB4⟩; rw [hsm] at he4; subst he4; have hc4 := fun o => hB4.cell (p := ⟨w.heap.size, o, none⟩) (by exact hlt3); have hlt4 : w.heap.size < w4.heap.size := Nat.lt_of_lt_of_le hlt3 hB4.size
    refine hK.out _ _ ?_ (fun hHeld => ?_)
    · go_keep
    clear hK K
    try simp only [Act.put, List.setIfInBounds_toArray, List.set_cons_zero, List.set_cons_succ]
    refine takeW 15 (v := ?v47) rfl (by kernel_rfl) (by kernel_rfl) (by kernel_rfl) (fun _ _ _ h => h) (by rfl) (by assumption) ?hy47 ?rest47
    case hy47 => intro w' hSw; (try dsimp only at hSw); go_simp; try with_reducible rfl
    try simp only [Act.put, List.setIfInBounds_toArray, List.set_cons_zero, List.set_cons_succ]
    refine takeW 16 (v := ?v48) rfl (by kernel_rfl) (by kernel_rfl) (by kernel_rfl) (fun _ _ _ h => h) (by rfl) (by assumption) ?hy48 ?rest48
    case hy48 => intro w' hSw; (try dsimp only at hSw); go_simp; try with_reducible rfl
    try simp only [Act.put, List.setIfInBounds_toArray, List.set_cons_zero, List.set_cons_succ]
    refine takeW 17 (v := ?v49) rfl (by kernel_rfl) (by kernel_rfl) (by kernel_rfl) (fun _ _ _ h => h) (by rfl) (by assumption) ?hy49 ?rest49
    case hy49 => intro w' hSw; (try dsimp only at hSw); go_simp; try with_reducible rfl
    try simp only [Act.put, List.setIfInBounds_toArray, List.set_cons_zero, List.set_cons_succ]
    refine takeW 18 (v := ?v50) rfl (by kernel_rfl) (by kernel_rfl) (by kernel_rfl) (fun _ _ _ h => h) (by rfl) (by assumption) ?hy50 ?rest50
    case hy50 => intro w' hSw; (try dsimp only at hSw); go_simp; try with_reducible rfl
    try simp only [Act.put, List.setIfInBounds_toArray, List.set_cons_zero, List.set_cons_succ]
    refine takeC 19 (by kernel_rfl) rfl (fun K hK => ?_)
    go_simp
    refine (l5Rising_any _ s.rv _ (by omega) (by exact ((h2d.below hB2).below hB3).below hB4)).mono ?_; rintro e w5 ⟨he5, rfl⟩; rw [hri] at he5; subst he5
    refine hK.out _ _ ?_ (fun hHeld => ?_)
    · go_keep
    clear hK K
    try simp only [Act.put, List.setIfInBounds_toArray, List.set_cons_zero, List.set_cons_succ]
    refine takeW 20 (v := ?v51) rfl (by kernel_rfl) (by kernel_rfl) (by kernel_rfl) (fun _ _ _ h => h) (by rfl) (by assumption) ?hy51 ?rest51
    case hy51 => intro w' hSw; (try dsimp only at hSw); go_simp; try with_reducible rfl
    try simp only [Act.put, List.setIfInBounds_toArray, List.set_cons_zero, List.set_cons_succ]
    refine takeW 21 (v := ?v52) rfl (by kernel_rfl) (by kernel_rfl) (by kernel_rfl) (fun _ _ _ h => h) (by rfl) (by assumption) ?hy52 ?rest52
    case hy52 => intro w' hSw; (try dsimp only at hSw); go_simp; try with_reducible rfl
    try simp only [Act.put, List.setIfInBounds_toArray, List.set_cons_zero, List.set_cons_succ]
    refine wpAnyH_done (by kernel_rfl) ?_ _
    go_wp2_with fail
    go_ret
    exact ⟨ret_bool HR.out.symm, below_one hB0 (below_drew1 (below_one (below_one hB2 hB3) hB4))⟩
  have HR := hid (show snB s = true by unfold riB at hri; rw [Bool.and_eq_true] at hri; exact snB_yes HN.out hpo (by rw [plX_yes hpo]; exact hsm) hri.1 hri.2)
  go_enter Tryz.func31, Tryz.ntmps31
  go_wp2_with fail
  generalize w.alloc (.cells #[.int .i64 s.num, .slice ap s.pol.length cp, .slice ar s.rv.length cr] 32) = W0 at *
  refine wp_region_held_drew (S := fun w' => w'.cell? ⟨w.heap.size, 0, none⟩ = some (.int .i64 s.num) ∧ w'.cell? ⟨w.heap.size, 1, none⟩ = some (.slice ap s.pol.length cp) ∧ w'.cell? ⟨w.heap.size, 2, none⟩ = some (.slice ar s.rv.length cr)) (by kernel_rfl) ?_ (fun hHeld => ?_)
  · go_keep
  refine takeW 0 (v := ?v53) rfl (by kernel_rfl) (by kernel_rfl) (by kernel_rfl) (fun _ _ _ h => h) (by rfl) (by assumption) ?hy53 ?rest53
  case hy53 => intro w' hSw; (try dsimp only at hSw); go_simp; try with_reducible rfl
  try simp only [Act.put, List.setIfInBounds_toArray, List.set_cons_zero, List.set_cons_succ]
  refine takeW 1 (v := ?v54) rfl (by kernel_rfl) (by kernel_rfl) (by kernel_rfl) (fun _ _ _ h => h) (by rfl) (by assumption) ?hy54 ?rest54
  case hy54 => intro w' hSw; (try dsimp only at hSw); go_simp; try with_reducible rfl
  try simp only [Act.put, List.setIfInBounds_toArray, List.set_cons_zero, List.set_cons_succ]
  refine takeC 2 (by kernel_rfl) rfl (fun K hK => ?_)
  go_simp
  refine (l1In_any s.num 1 100000 _).mono ?_; rintro e w1 ⟨he1, rfl⟩; rw [hin] at he1; subst he1
  refine hK.out _ _ ?_ (fun hHeld => ?_)
  · go_keep
  clear hK K
  try simp only [Act.put, List.setIfInBounds_toArray, List.set_cons_zero, List.set_cons_succ]
  refine takeW 3 (v := ?v55) rfl (by kernel_rfl) (by kernel_rfl) (by kernel_rfl) (fun _ _ _ h => h) (by rfl) (by assumption) ?hy55 ?rest55
  case hy55 => intro w' hSw; (try dsimp only at hSw); go_simp; try with_reducible rfl
  try simp only [Act.put, List.setIfInBounds_toArray, List.set_cons_zero, List.set_cons_succ]
  refine takeW 4 (v := ?v56) rfl (by kernel_rfl) (by kernel_rfl) (by kernel_rfl) (fun _ _ _ h => h) (by rfl) (by assumption) ?hy56 ?rest56
  case hy56 => intro w' hSw; (try dsimp only at hSw); go_simp; try with_reducible rfl
  try simp only [Act.put, List.setIfInBounds_toArray, List.set_cons_zero, List.set_cons_succ]
  refine takeW 5 (v := ?v57) rfl (by kernel_rfl) (by kernel_rfl) (by kernel_rfl) (fun _ _ _ h => h) (by rfl) (by assumption) ?hy57 ?rest57
  case hy57 => intro w' hSw; (try dsimp only at hSw); go_simp; try with_reducible rfl
  try simp only [Act.put, List.setIfInBounds_toArray, List.set_cons_zero, List.set_cons_succ]
  refine takeC 6 (by kernel_rfl) rfl (fun K hK => ?_)
  go_simp
  refine (l2Good_any _ s.pol _ (by omega) hz (by exact h1d)).mono ?_; rintro e w2 ⟨he2, hB2⟩; rw [hpo] at he2; subst he2; have hc2 := fun o => hB2.cell (p := ⟨w.heap.size, o, none⟩) (by exact hlt0); have hlt2 : w.heap.size < w2.heap.size := Nat.lt_of_lt_of_le hlt0 hB2.size
  refine hK.out _ _ ?_ (fun hHeld => ?_)
  · go_keep
  clear hK K
  try simp only [Act.put, List.setIfInBounds_toArray, List.set_cons_zero, List.set_cons_succ]
  refine takeW 7 (v := ?v58) rfl (by kernel_rfl) (by kernel_rfl) (by kernel_rfl) (fun _ _ _ h => h) (by rfl) (by assumption) ?hy58 ?rest58
  case hy58 => intro w' hSw; (try dsimp only at hSw); go_simp; try with_reducible rfl
  try simp only [Act.put, List.setIfInBounds_toArray, List.set_cons_zero, List.set_cons_succ]
  refine takeW 8 (v := ?v59) rfl (by kernel_rfl) (by kernel_rfl) (by kernel_rfl) (fun _ _ _ h => h) (by rfl) (by assumption) ?hy59 ?rest59
  case hy59 => intro w' hSw; (try dsimp only at hSw); go_simp; try with_reducible rfl
  try simp only [Act.put, List.setIfInBounds_toArray, List.set_cons_zero, List.set_cons_succ]
  refine takeW 9 (v := ?v60) rfl (by kernel_rfl) (by kernel_rfl) (by kernel_rfl) (fun _ _ _ h => h) (by rfl) (by assumption) ?hy60 ?rest60
  case hy60 => intro w' hSw; (try dsimp only at hSw); go_simp; try with_reducible rfl
  try simp only [Act.put, List.setIfInBounds_toArray, List.set_cons_zero, List.set_cons_succ]
  refine takeW 10 (v := ?v61) rfl (by kernel_rfl) (by kernel_rfl) (by kernel_rfl) (fun _ _ _ h => h) (by rfl) (by assumption) ?hy61 ?rest61
  case hy61 => intro w' hSw; (try dsimp only at hSw); go_simp; try with_reducible rfl
  try simp only [Act.put, List.setIfInBounds_toArray, List.set_cons_zero, List.set_cons_succ]
  refine takeW 12 (v := ?v62) rfl (by kernel_rfl) (by kernel_rfl) (by kernel_rfl) (fun _ _ _ h => h) (by rfl) (by assumption) ?hy62 ?rest62
  case hy62 => intro w' hSw; (try dsimp only at hSw); go_simp; try with_reducible rfl
  try simp only [Act.put, List.setIfInBounds_toArray, List.set_cons_zero, List.set_cons_succ]
  refine takeW 13 (v := ?v63) rfl (by kernel_rfl) (by kernel_rfl) (by kernel_rfl) (fun _ _ _ h => h) (by rfl) (by assumption) ?hy63 ?rest63
  case hy63 => intro w' hSw; (try dsimp only at hSw); go_simp; try with_reducible rfl
  try simp only [Act.put, List.setIfInBounds_toArray, List.set_cons_zero, List.set_cons_succ]
  refine takeC 11 (by kernel_rfl) rfl (fun K hK => ?_)
  go_simp
  refine (l2Plain_any _ s.pol _ h30 hz (by exact h1d.below hB2)).mono ?_; rintro e w3 ⟨v3, rfl, o3, hB3⟩; obtain ⟨a3, k3, rfl⟩ := ownsRow_len o3; have hc3 := fun o => hB3.cell (p := ⟨w.heap.size, o, none⟩) (by exact hlt2); have hlt3 : w.heap.size < w3.heap.size := Nat.lt_of_lt_of_le hlt2 hB3.size
  refine hK.out _ _ ?_ (fun hHeld => ?_)
  · go_keep
  clear hK K
  try simp only [Act.put, List.setIfInBounds_toArray, List.set_cons_zero, List.set_cons_succ]
  refine takeC 14 (by kernel_rfl) rfl (fun K hK => ?_)
  go_simp
  refine (l5SameRules_any _ _ _ s.pol _ hpl (by omega) (RuS.own o3) (by exact (h1d.below hB2).below hB3)).mono ?_; rintro e w4 ⟨he4, hB4⟩; rw [hsm] at he4; subst he4; have hc4 := fun o => hB4.cell (p := ⟨w.heap.size, o, none⟩) (by exact hlt3); have hlt4 : w.heap.size < w4.heap.size := Nat.lt_of_lt_of_le hlt3 hB4.size
  refine hK.out _ _ ?_ (fun hHeld => ?_)
  · go_keep
  clear hK K
  try simp only [Act.put, List.setIfInBounds_toArray, List.set_cons_zero, List.set_cons_succ]
  refine takeW 15 (v := ?v64) rfl (by kernel_rfl) (by kernel_rfl) (by kernel_rfl) (fun _ _ _ h => h) (by rfl) (by assumption) ?hy64 ?rest64
  case hy64 => intro w' hSw; (try dsimp only at hSw); go_simp; try with_reducible rfl
  try simp only [Act.put, List.setIfInBounds_toArray, List.set_cons_zero, List.set_cons_succ]
  refine takeW 16 (v := ?v65) rfl (by kernel_rfl) (by kernel_rfl) (by kernel_rfl) (fun _ _ _ h => h) (by rfl) (by assumption) ?hy65 ?rest65
  case hy65 => intro w' hSw; (try dsimp only at hSw); go_simp; try with_reducible rfl
  try simp only [Act.put, List.setIfInBounds_toArray, List.set_cons_zero, List.set_cons_succ]
  refine takeW 17 (v := ?v66) rfl (by kernel_rfl) (by kernel_rfl) (by kernel_rfl) (fun _ _ _ h => h) (by rfl) (by assumption) ?hy66 ?rest66
  case hy66 => intro w' hSw; (try dsimp only at hSw); go_simp; try with_reducible rfl
  try simp only [Act.put, List.setIfInBounds_toArray, List.set_cons_zero, List.set_cons_succ]
  refine takeW 18 (v := ?v67) rfl (by kernel_rfl) (by kernel_rfl) (by kernel_rfl) (fun _ _ _ h => h) (by rfl) (by assumption) ?hy67 ?rest67
  case hy67 => intro w' hSw; (try dsimp only at hSw); go_simp; try with_reducible rfl
  try simp only [Act.put, List.setIfInBounds_toArray, List.set_cons_zero, List.set_cons_succ]
  refine takeC 19 (by kernel_rfl) rfl (fun K hK => ?_)
  go_simp
  refine (l5Rising_any _ s.rv _ (by omega) (by exact ((h2d.below hB2).below hB3).below hB4)).mono ?_; rintro e w5 ⟨he5, rfl⟩; rw [hri] at he5; subst he5
  refine hK.out _ _ ?_ (fun hHeld => ?_)
  · go_keep
  clear hK K
  try simp only [Act.put, List.setIfInBounds_toArray, List.set_cons_zero, List.set_cons_succ]
  refine takeW 20 (v := ?v68) rfl (by kernel_rfl) (by kernel_rfl) (by kernel_rfl) (fun _ _ _ h => h) (by rfl) (by assumption) ?hy68 ?rest68
  case hy68 => intro w' hSw; (try dsimp only at hSw); go_simp; try with_reducible rfl
  try simp only [Act.put, List.setIfInBounds_toArray, List.set_cons_zero, List.set_cons_succ]
  refine takeW 21 (v := ?v69) rfl (by kernel_rfl) (by kernel_rfl) (by kernel_rfl) (fun _ _ _ h => h) (by rfl) (by assumption) ?hy69 ?rest69
  case hy69 => intro w' hSw; (try dsimp only at hSw); go_simp; try with_reducible rfl
  try simp only [Act.put, List.setIfInBounds_toArray, List.set_cons_zero, List.set_cons_succ]
  refine wpAnyH_done (by kernel_rfl) ?_ _
  go_wp2_with fail
  go_ret
  exact ⟨ret_bool HR.out.symm, below_one hB0 (below_drew1 (below_one (below_one hB2 hB3) hB4))⟩

end Go.Proofs.YthpckiobfjdckaaGreat

namespace Go.Proofs.YthpckiobfjdckaaGreat
open Go.RowKit Go.Shelf

end Go.Proofs.YthpckiobfjdckaaGreat

namespace Go.Proofs.YthpckiobfjdckaaGreat
open Go.RowKit Go.Shelf

/-- append(v, u...): a row of one's own, and one that can be read. -/
theorem wpList_append_read {P : Program} {w : World} {ops : Array Oper} {rest : List Oper} {o : Oper} {a : Act} {Q : Exit → Act → World → Prop} (hgd : o.guard = none) (s x : Operand) (t : TypeId)
    (ho : o.op = .call { callee := .builtin .append, args := #[s, x], argTypes := #[t, t] })
    (base : Nat) (e : TypeId) (i : TypeInfo) (z : Value) (size bytes : Nat) (ht : P.underlying t = some (.slice e)) (hi : P.info? e = some i) (hz : i.zero = some z)
    (hsize : i.size = size) (hby : i.bytes = bytes) (hzs : z.cells.size = size) (hsz : 0 < size)
    (v u : Value) (n m : Nat) (xs ys : List Value) (hs : a.eval s = v) (hown : w.ownsRow base e size v n xs) (hx : a.eval x = u)
    (hsrc : (u = .slice none 0 0 ∧ m = 0 ∧ ys = []) ∨ ∃ b off cap, u = .slice (some ⟨b, off, none⟩) m cap ∧ ys.length = m * size ∧ ∀ j y, ys[j]? = some y → w.cell? ⟨b, off + j, none⟩ = some y) (h1 : ∀ y ∈ ys, y.oneCell' = true)
    (h63 : n + m ≤ maxLen) (hbytes : (n + m) * bytes ≤ 140737488355328) (hbase : base ≤ w.heap.size)
    (h : ∀ v' w', w'.ownsRow base e size v' (n + m) (xs ++ ys) → w.grownBy w' v.ownBlock → wpList P ops Q rest (a.put o.dst v') w') : wpList P ops Q (o :: rest) a w := by
  rcases hsrc with ⟨rfl, rfl, rfl⟩ | ⟨b, off, cap, rfl, hl, hc⟩
  · exact wpList_append_own_none hgd s x t ho base e i size ht hi v n xs hs hown hx (h v w (by simpa using hown) (grown_self _ _))
  · exact wpList_append_own _ hgd s x t ho base e i z size bytes ht hi hz hsize hby hzs hsz v n xs hs hown ⟨b, off, none⟩ m cap ys hx hl (fun j y hj => by rw [Addr.add_lit]; exact hc j y hj) h1 h63 hbytes hbase (fun v' w' h1 h2 _ => h v' w' h1 h2)
theorem row_void (w : World) (e : TypeId) (size n : Nat) {base : Nat} (hn : n = w.heap.size) (hb : base ≤ w.heap.size) : (w.alloc (.cells #[] e)).ownsRow base e size (.slice (some ⟨n, 0, none⟩) 0 0) 0 [] := by
  subst hn
  exact ⟨by simp, .inr ⟨w.heap.size, 0, #[], rfl, hb, by show (w.heap.push _)[w.heap.size]? = _; rw [Array.getElem?_push_size], Nat.le_refl _, by unfold maxLen; omega, by simp, by simp⟩⟩
theorem RuR.src {w : World} {v : Value} {rs : List Ru} (h : RuR w v rs) : (v = .slice none 0 0 ∧ rs.length = 0 ∧ rs.flatMap Ru.cells = []) ∨ ∃ b off cap, v = .slice (some ⟨b, off, none⟩) rs.length cap ∧ (rs.flatMap Ru.cells).length = rs.length * 4 ∧ ∀ j y, (rs.flatMap Ru.cells)[j]? = some y → w.cell? ⟨b, off + j, none⟩ = some y := by
  rcases h with ⟨rfl, rfl⟩ | ⟨b, off, cap, rfl, _, _, hc⟩
  · exact .inl ⟨rfl, rfl, rfl⟩
  · exact .inr ⟨b, off, cap, rfl, flat_len rs, RuR.flat hc⟩
theorem NuR.src {w : World} {v : Value} {zs : List Int} (h : NuR w v zs) : (v = .slice none 0 0 ∧ zs.length = 0 ∧ nums zs = []) ∨ ∃ b off cap, v = .slice (some ⟨b, off, none⟩) zs.length cap ∧ (nums zs).length = zs.length * 1 ∧ ∀ j y, (nums zs)[j]? = some y → w.cell? ⟨b, off + j, none⟩ = some y := by
  rcases h with ⟨rfl, rfl⟩ | ⟨b, off, cap, rfl, _, _, hc⟩
  · exact .inl ⟨rfl, rfl, rfl⟩
  · refine .inr ⟨b, off, cap, rfl, by rw [nums_len]; omega, fun j y hy => ?_⟩
    have hj : j < zs.length := by rw [← nums_len]; exact (List.getElem?_eq_some_iff.1 hy).1
    rw [hc j hj]
    simpa [nums, hj] using hy
theorem ones_n {zs : List Int} : ∀ u ∈ nums zs, u.oneCell' = true := by
  intro u hu
  obtain ⟨z, _, rfl⟩ := List.mem_map.1 hu
  rfl

set_option maxHeartbeats 4000000 in
set_option maxRecDepth 100000 in
theorem l5Own_any (v : Value) (s : Sn) (w : World) (hs : s.short) (h : SnR w v s) :
    Calls Tryz.prog 55 #[v] w fun e w' => ∃ v', e = .returned v' ∧ SnO w' w.heap.size w'.heap.size v' s ∧ Below w.heap.size w w' := by
  obtain ⟨vp, vr, rfl, h1, h2⟩ := h
  obtain ⟨l1, l2, _⟩ := hs
  obtain ⟨xp, cp, rfl⟩ := h1.len
  obtain ⟨xr, cr, rfl⟩ := h2.len
  obtain ⟨iw, hiw, hw0, hw1, hw2⟩ := info_parts infoRule
  obtain ⟨ii, hii, hi0, hi1, hi2⟩ := info_parts infoInt
  have hB0 : Below w.heap.size w ((((w.alloc (.cells #[.int .i64 s.num, .slice xp s.pol.length cp, .slice xr s.rv.length cr] 32)).alloc (.cells #[.int .i64 0, .slice none 0 0, .slice none 0 0] 32))).alloc (.cells #[] 63)) := (((Below.refl _ w).alloc (Nat.le_refl _) _).alloc (by simp) _).alloc (by simp; omega) _
  have F1 := ((Three.new w (.int .i64 s.num) (.slice xp s.pol.length cp) (.slice xr s.rv.length cr) 32).below ((Below.refl _ _).alloc (Nat.le_refl _) (.cells #[.int .i64 0, .slice none 0 0, .slice none 0 0] 32))).below ((Below.refl _ _).alloc (Nat.le_refl _) (.cells #[] 63))
  have F2 := (Three.at (w.alloc (.cells #[.int .i64 s.num, .slice xp s.pol.length cp, .slice xr s.rv.length cr] 32)) (.int .i64 0) (.slice none 0 0) (.slice none 0 0) 32 (k := w.heap.size + 1) (by simp)).below ((Below.refl _ _).alloc (Nat.le_refl _) (.cells #[] 63))
  have r0 := row_void ((w.alloc (.cells #[.int .i64 s.num, .slice xp s.pol.length cp, .slice xr s.rv.length cr] 32)).alloc (.cells #[.int .i64 0, .slice none 0 0, .slice none 0 0] 32)) 63 4 (w.heap.size + 1 + 1) (base := w.heap.size + 1 + 1) (by simp) (by simp)
  have hbz : w.heap.size + 1 + 1 ≤ (((w.alloc (.cells #[.int .i64 s.num, .slice xp s.pol.length cp, .slice xr s.rv.length cr] 32)).alloc (.cells #[.int .i64 0, .slice none 0 0, .slice none 0 0] 32)).alloc (.cells #[] 63)).heap.size := by simp
  go_enter Tryz.func55, Tryz.ntmps55
  go_wp2_with (at_builtin; refine wpList_append_read rfl _ _ 30 rfl (w.heap.size + 1 + 1) 63 iw _ 4 56 Tryz.underlying30 hiw hw0 hw1 hw2 rfl (by decide) _ _ 0 s.pol.length [] _ rfl r0 rfl (h1.below hB0).src cells_one (by unfold maxLen; omega) (by omega) hbz ?_)
  intro v1 w1 o1 g1
  obtain ⟨x1, y1, z1, rfl⟩ := row_slice o1
  replace F1 : Three w1 _ _ _ _ _ := World.ownsRow.kept F1 g1 (.inr (by simp [Value.ownBlock] <;> omega))
  replace F2 : Three w1 _ _ _ _ _ := World.ownsRow.kept F2 g1 (.inr (by simp [Value.ownBlock] <;> omega))
  have hBB1 : Below w.heap.size w w1 := hB0.grown g1 hB0.size (fun k e => by simp [Value.ownBlock] at e; omega)
  have hk1 : w.heap.size + 1 + 1 ≤ w1.heap.size := Nat.le_trans hbz g1.size
  clear hB0 g1 r0 hbz
  have hBc : Below (w1.setCell ⟨w.heap.size, 1, none⟩ (.slice x1 y1 z1)).heap.size (w1.setCell ⟨w.heap.size, 1, none⟩ (.slice x1 y1 z1)) ((w1.setCell ⟨w.heap.size, 1, none⟩ (.slice x1 y1 z1)).alloc (.cells #[] 3)) := (Below.refl _ _).alloc (Nat.le_refl _) _
  obtain ⟨a0, a1, a2⟩ := F1.c
  have f1 := F1.f 1
  have G1 := (F1.s1 (.slice x1 y1 z1)).below hBc
  have G2 := (F2.other (k' := w.heap.size) (by omega) 1 (.slice x1 y1 z1)).below hBc
  have q1 := (ownsRow_setCell_below o1 (a := ⟨w.heap.size, 1, none⟩) (by simp; omega) (.slice x1 y1 z1)).alloc (.cells #[] 3)
  have r1 := row_void (w1.setCell ⟨w.heap.size, 1, none⟩ (.slice x1 y1 z1)) 3 1 w1.heap.size (base := w1.heap.size) (by simp) (by simp)
  have hBB2 := (hBB1.setCell (p := ⟨w.heap.size, 1, none⟩) (by simp) (.slice x1 y1 z1)).trans (hBc.mono (by simp; have := hBB1.size; omega))
  have hbz2 : w1.heap.size ≤ ((w1.setCell ⟨w.heap.size, 1, none⟩ (.slice x1 y1 z1)).alloc (.cells #[] 3)).heap.size := by simp
  clear F1 F2 hBc
  obtain ⟨n0, n1, n2⟩ := G1.c
  go_wp2_with (at_builtin; refine wpList_append_read rfl _ _ 23 rfl w1.heap.size 3 ii _ 1 8 Tryz.underlying23 hii hi0 hi1 hi2 rfl (by decide) _ _ 0 s.rv.length [] _ rfl r1 rfl (h2.below hBB2).src ones_n (by unfold maxLen; omega) (by omega) hbz2 ?_)
  intro v2 w2 o2 g2
  obtain ⟨x2, y2, z2, rfl⟩ := row_slice o2
  replace G1 : Three w2 _ _ _ _ _ := World.ownsRow.kept G1 g2 (.inr (by simp [Value.ownBlock] <;> omega))
  replace G2 : Three w2 _ _ _ _ _ := World.ownsRow.kept G2 g2 (.inr (by simp [Value.ownBlock] <;> omega))
  have p1 := kept_apart (v2 := .slice (some ⟨w1.heap.size, 0, none⟩) 0 0) q1 g2 (row_apart q1 r1 (by decide))
  have hBB3 : Below w.heap.size w w2 := hBB2.grown g2 hBB2.size (fun k e => by simp [Value.ownBlock] at e; omega)
  have hk2 : w1.heap.size ≤ w2.heap.size := Nat.le_trans hbz2 g2.size
  clear hBB2 g2 r1 hbz2 q1 a0 a1 a2 f1 n0 n1 n2
  obtain ⟨a0, a1, a2⟩ := G1.c
  have f2 := G1.f 2
  have F1' := G1.s2 (.slice x2 y2 z2)
  have F2' := G2.other (k' := w.heap.size) (by omega) 2 (.slice x2 y2 z2)
  have q1 := ownsRow_setCell_below p1 (a := ⟨w.heap.size, 2, none⟩) (by simp; omega) (.slice x2 y2 z2)
  have q2 := ownsRow_setCell_below o2 (a := ⟨w.heap.size, 2, none⟩) (by simp; omega) (.slice x2 y2 z2)
  have hBB4 := hBB3.setCell (p := ⟨w.heap.size, 2, none⟩) (by simp) (.slice x2 y2 z2)
  obtain ⟨b0, b1, b2⟩ := F1'.c
  obtain ⟨e0, e1, e2⟩ := F2'.c
  have k0 := F2'.f 0
  have k1 := F2'.f 1
  have k2 := F2'.f 2
  have G := ((F2'.s0 (.int .i64 s.num)).s1 (.slice x1 y1 z1)).s2 (.slice x2 y2 z2)
  have m1 := row_three q1 (k := w.heap.size + 1) (by omega) (.int .i64 s.num) (.slice x1 y1 z1) (.slice x2 y2 z2)
  have m2 := row_three q2 (k := w.heap.size + 1) (by omega) (.int .i64 s.num) (.slice x1 y1 z1) (.slice x2 y2 z2)
  have pB := below_three hBB4 (k := w.heap.size + 1) (by omega) (.int .i64 s.num) (.slice x1 y1 z1) (.slice x2 y2 z2)
  go_wp2_with fail
  clear a0 a1 a2 f2 b0 b1 b2 e0 e1 e2 k0 k1 k2
  generalize (((w2.setCell ⟨w.heap.size, 2, none⟩ (.slice x2 y2 z2)).setCell ⟨w.heap.size + 1, 0, none⟩ (.int .i64 s.num)).setCell ⟨w.heap.size + 1, 1, none⟩ (.slice x1 y1 z1)).setCell ⟨w.heap.size + 1, 2, none⟩ (.slice x2 y2 z2) = W5 at *
  obtain ⟨d0, d1, d2⟩ := G.c
  exact bodyPost_ret (v := .agg #[.int .i64 s.num, .slice x1 y1 z1, .slice x2 y2 z2]) (by simp [results, Tryz.results55, go_sem, d0, d1, d2]) rfl ⟨_, rfl, SnO.of (Go.Joins.ownsRow_le m1 (by omega)) (Go.Joins.ownsRow_le m2 (by omega)), pB⟩

end Go.Proofs.YthpckiobfjdckaaGreat

namespace Go.Proofs.YthpckiobfjdckaaGreat
open Go.RowKit Go.Shelf

theorem cell_three_w (w : World) (x0 x1 x2 : Value) : ∀ j u, [x0, x1, x2][j]? = some u → (w.alloc (.cells #[x0, x1, x2] 32)).cell? ((⟨w.heap.size, 0, none⟩ : Addr).add j) = some u := by
  intro j u hu
  rw [Addr.add_lit, Nat.zero_add]
  have hj : j < 3 := by
    have := (List.getElem?_eq_some_iff.1 hu).1
    simpa using this
  obtain rfl | rfl | rfl : j = 0 ∨ j = 1 ∨ j = 2 := by omega
  all_goals (simp at hu; subst hu; simp)
/-- One more version is put behind the row. -/
theorem SsK.app {w w2 w3 : World} {base : Nat} {v v' : Value} {ss : List Sn} {k : Nat} {xs : List Value} {vp vr : Nat → Value} {p r : Value} {tmp : Obj} (h : SsK w base w.heap.size v k ss k xs vp vr) (hB : Below w.heap.size w w2) (hk : k < ss.length) (hb : base ≤ w.heap.size)
    (hp : w2.ownsRow w.heap.size 63 4 p ss[k].pol.length (ss[k].pol.flatMap Ru.cells)) (hr : w2.ownsRow w.heap.size 3 1 r ss[k].rv.length (nums ss[k].rv))
    (hown : w3.ownsRow base 32 3 v' (k + 1) (xs ++ [.int .i64 ss[k].num, p, r])) (hg : (w2.alloc tmp).grownBy w3 v.ownBlock) :
    SsK w3 base w3.heap.size v' (k + 1) ss (k + 1) (xs ++ [.int .i64 ss[k].num, p, r]) (fun i => if i = k then p else vp i) (fun i => if i = k then r else vr i) := by
  have h2 := h.below hB
  have hlen : xs.length = k * 3 := h.row.1
  have hs := hB.size
  have hr2 := h2.row.alloc tmp
  have keep : ∀ {b : Nat} {e : TypeId} {s m : Nat} {u : Value} {x : List Value}, w2.ownsRow b e s u m x → e ≠ 32 → w3.ownsRow b e s u m x := fun hu hne => kept_apart (hu.alloc tmp) hg (fun j h1 h2 => row_apart (hu.alloc tmp) hr2 hne j h1 h2)
  have pk := keep hp tyR
  have rk := keep hr tyN
  refine ⟨hown, fun j hj => (hown.lt j hj).2, ?_, ?_, ?_, ?_, ?_, ?_, ?_⟩
  · intro i hi hik
    by_cases e : i = k
    · subst e
      rw [if_pos rfl, if_pos rfl]
      refine ⟨?_, ?_, ?_⟩
      · rw [List.getElem?_append_right (by omega), hlen, Nat.sub_self]; rfl
      · rw [List.getElem?_append_right (by omega), hlen, Nat.add_sub_cancel_left]; rfl
      · rw [List.getElem?_append_right (by omega), hlen, Nat.add_sub_cancel_left]; rfl
    · rw [if_neg e, if_neg e]
      obtain ⟨c0, c1, c2⟩ := h.cs i hi (by omega)
      exact ⟨by rw [List.getElem?_append_left (by omega)]; exact c0, by rw [List.getElem?_append_left (by omega)]; exact c1, by rw [List.getElem?_append_left (by omega)]; exact c2⟩
  · intro i hi hik
    by_cases e : i = k
    · subst e
      rw [if_pos rfl]
      exact Go.Joins.ownsRow_le pk hb
    · rw [if_neg e]
      exact keep (h2.pol i hi (by omega)) tyR
  · intro i hi hik
    by_cases e : i = k
    · subst e
      rw [if_pos rfl]
      exact Go.Joins.ownsRow_le rk hb
    · rw [if_neg e]
      exact keep (h2.num i hi (by omega)) tyN
  · intro i hi hik j hj
    by_cases e : i = k
    · rw [if_pos e] at hj
      exact (pk.lt j hj).2
    · rw [if_neg e] at hj
      exact ((keep (h2.pol i hi (by omega)) tyR).lt j hj).2
  · intro i hi hik j hj
    by_cases e : i = k
    · rw [if_pos e] at hj
      exact (rk.lt j hj).2
    · rw [if_neg e] at hj
      exact ((keep (h2.num i hi (by omega)) tyN).lt j hj).2
  · intro i j hi hj hik hjk hij b h1 h2'
    by_cases e : i = k
    · rw [if_pos e] at h1
      rw [if_neg (by omega)] at h2'
      have := (hp.lt b h1).1
      have := h.plt j hj (by omega) b h2'
      omega
    · rw [if_neg e] at h1
      have := h.plt i hi (by omega) b h1
      by_cases e2 : j = k
      · rw [if_pos e2] at h2'
        have := (hp.lt b h2').1
        omega
      · rw [if_neg e2] at h2'
        exact h.pap i j hi hj (by omega) (by omega) hij b h1 h2'
  · intro i j hi hj hik hjk hij b h1 h2'
    by_cases e : i = k
    · rw [if_pos e] at h1
      rw [if_neg (by omega)] at h2'
      have := (hr.lt b h1).1
      have := h.nlt j hj (by omega) b h2'
      omega
    · rw [if_neg e] at h1
      have := h.nlt i hi (by omega) b h1
      by_cases e2 : j = k
      · rw [if_pos e2] at h2'
        have := (hr.lt b h2').1
        omega
      · rw [if_neg e2] at h2'
        exact h.nap i j hi hj (by omega) (by omega) hij b h1 h2'

/-- The versions from a place on. -/
theorem SsR.drop {w : World} {b off n cap c' : Nat} {ss : List Sn} (h : SsR w (.slice (some ⟨b, off, none⟩) n cap) ss) {k : Nat} (hk : k ≤ ss.length) (hc : ss.length - k ≤ c') : SsR w (.slice (some ⟨b, off + k * 3, none⟩) (ss.length - k) c') (ss.drop k) := by
  rcases h with ⟨hv, _⟩ | ⟨b', off', cap', hv, hb, hl, hcs⟩
  · cases hv
  · cases hv
    refine .inr ⟨b, off + k * 3, c', by rw [List.length_drop], hb, by rw [List.length_drop]; exact hc, fun i hi => ?_⟩
    rw [List.length_drop] at hi
    obtain ⟨vp, vr, c0, c1, c2, h1, h2⟩ := hcs (k + i) (by omega)
    refine ⟨vp, vr, ?_, ?_, ?_, ?_, ?_⟩
    · rw [List.getElem_drop, show off + k * 3 + i * 3 = off + (k + i) * 3 by omega]; exact c0
    · rw [show off + k * 3 + i * 3 + 1 = off + (k + i) * 3 + 1 by omega]; exact c1
    · rw [show off + k * 3 + i * 3 + 2 = off + (k + i) * 3 + 2 by omega]; exact c2
    · rw [List.getElem_drop]; exact h1
    · rw [List.getElem_drop]; exact h2
theorem shortS_drop {ss : List Sn} (h : shortS ss) (k : Nat) : shortS (ss.drop k) := ⟨by rw [List.length_drop]; have := h.1; omega, fun s hs => h.2 s (List.mem_of_mem_drop hs)⟩

end Go.Proofs.YthpckiobfjdckaaGreat

namespace Go.Proofs
open Go.Shelf
def Tryz.growIn_ren : Go.Shelf.Ren := ⟨fun | 4 => 100 | n => n, fun | 22 => 23 | 25 => 3 | 3 => 3 | 4 => 4 | 9 => 9 | 20 => 20 | 0 => 0 | n => n, fun | n => n⟩
theorem Tryz.growIn : Go.Proofs.Lays8.n4 Tryz.prog Tryz.growIn_ren := {
  mixed := by kernel_rfl
  f4 := ⟨Tryz.f100.name, by decide, Tryz.func100.trans (congrArg some (by kernel_rfl))⟩
  t0 := Tryz.underlying0
  a0 := Tryz.isAgg0
  z0 := Tryz.sizeOf0
  v0 := Tryz.zeroValue0
  t3 := Tryz.underlying3
  a3 := Tryz.isAgg3
  z3 := Tryz.sizeOf3
  v3 := Tryz.zeroValue3
  t4 := Tryz.underlying4
  a4 := Tryz.isAgg4
  z4 := Tryz.sizeOf4
  v4 := Tryz.zeroValue4
  t9 := Tryz.underlying9
  a9 := Tryz.isAgg9
  z9 := Tryz.sizeOf9
  v9 := Tryz.zeroValue9
  t20 := Tryz.underlying20
  a20 := Tryz.isAgg20
  z20 := Tryz.sizeOf20
  v20 := Tryz.zeroValue20
  t22 := Tryz.underlying23
  a22 := Tryz.isAgg23
  z22 := Tryz.sizeOf23
  v22 := Tryz.zeroValue23 }
end Go.Proofs

namespace Go.Proofs.YthpckiobfjdckaaGreat
open Go.RowKit Go.Shelf

theorem one_nn {zs : List Int} : ∀ u ∈ nums zs, u.oneCell' = true := by
  intro u hu
  simp [nums] at hu
  obtain ⟨z, _, rfl⟩ := hu
  rfl
theorem nputN (zs : List Int) (n : Nat) (z : Int) : (nums zs).take n ++ [Value.int .i64 z] ++ (nums zs).drop n = nums (zs.take n ++ z :: zs.drop n) := by
  unfold nums
  simp
theorem row_castN {w : World} {base : Nat} {e : TypeId} {size n m : Nat} {v : Value} {xs : List Value} (h : w.ownsRow base e size v n xs) (hm : n = m) : w.ownsRow base e size v m xs := by
  subst hm
  exact h

set_option maxHeartbeats 4000000 in
set_option maxRecDepth 100000 in
theorem l5Sorted_any (v : Value) (zs : List Int) (w : World) (hm : zs.length ≤ 1000) (hr : VS w v (nums zs)) :
    Calls Tryz.prog 34 #[v] w fun e w' => ∃ v', e = .returned v' ∧ w'.ownsRow w.heap.size 3 1 v' (srN zs).length (nums (srN zs)) ∧ Below w.heap.size w w' := by
  obtain ⟨a, cap, rfl⟩ := hr.numLen
  obtain ⟨iw, hiw, hw0, hw1, hw2⟩ := info_parts infoInt
  go_enter Tryz.func34, Tryz.ntmps34
  go_wp2
  go_loopw [3, 10] (fun o i wr => ∃ k : Nat, k ≤ zs.length ∧ i = .int .i64 k ∧ wr.ownsRow w.heap.size 3 1 o (srT zs k).length (nums (srT zs k)) ∧ Below w.heap.size w wr) (fun _ i _ => zs.length - (intOf i).toNat)
  case atStart => exact ⟨0, Nat.zero_le _, rfl, by rw [srT_zero]; exact World.ownsRow_nil _ _ _ _, Below.refl _ _⟩
  case round =>
    obtain ⟨k, hk, rfl, ho, hB⟩ := hrel
    by_cases hlt : k < zs.length
    · obtain ⟨b, off, rfl, hb, hcap, q0⟩ := (hr.below hB).num hlt
      have HSU := hid (srT_succ hlt)
      have hlk := srT_len (zs := zs) k hk
      generalize zs[k] = z at *
      generalize srT zs k = l at *
      rcases row_form ho with ⟨rfl, h0⟩ | ⟨g, cp, rfl, hg, hcp⟩
      · obtain rfl : l = [] := List.eq_nil_of_length_eq_zero h0
        have HIN := hid (show srT zs (k + 1) = [z] by rw [HSU.out]; rfl)
        clear h0 hlk
        have hnw : ∀ j u, ([Value.int .i64 z])[j]? = some u → (wr.alloc (.cells #[.int .i64 z] 3)).cell? ((⟨wr.heap.size, 0, none⟩ : Addr).add j) = some u := fun j u hj => by
          rw [Addr.add_lit, Nat.zero_add, World.cell?_alloc_at _ _ _ _ rfl]
          simpa using hj
        go_wp2
        refine wp_loop_rounds 1 ?_
        rw [rounds_succ]
        go_wp2_with (at_builtin; refine wpList_append_own _ rfl _ _ 23 rfl wr.heap.size 3 iw _ 1 8 Tryz.underlying23 hiw hw0 hw1 hw2 rfl (by decide) _ _ _ rfl ((World.ownsRow_nil wr wr.heap.size 3 1).alloc _) ⟨wr.heap.size, 0, none⟩ 1 1 [Value.int .i64 z] rfl rfl hnw (by intro u hu; simp at hu; rw [hu]; rfl) (by unfold maxLen; omega) (by omega) (by simp) ?_)
        intro v2 w2 hown2 hgrow2 _
        have hb2 : Below wr.heap.size wr w2 := ((Below.refl _ wr).alloc (Nat.le_refl _) _).grown hgrow2 (by simp) (fun k e => by simp [Value.ownBlock] at e)
        rcases row_form hown2 with ⟨_, h'⟩ | ⟨g2, cp2, rfl, _, hcp⟩
        · exact absurd h' (by omega)
        · clear hgrow2
          go_wp2
          go_roundw
          case rel => exact ⟨k + 1, by omega, by go_num, by rw [HIN.out]; exact Go.Joins.ownsRow_le hown2 hB.size, below_one hB hb2⟩
          case measure => simp [intOf]; omega
      · go_wp2
        go_loopw [6] (fun i wq => ∃ m : Nat, m ≤ l.length ∧ i = .int .i64 m ∧ (∀ j (h : j < l.length), j < m → l[j] < z) ∧ wq = wr) (fun i _ => l.length - (intOf i).toNat)
        case atStart => exact ⟨0, Nat.zero_le _, rfl, fun _ _ h => absurd h (Nat.not_lt_zero _), rfl⟩
        case round =>
          obtain ⟨m, hml, rfl, hlts, rfl⟩ := hrel
          have HL := hid hlts
          clear hlts
          by_cases hlm : m < l.length
          · have x0 := ho.cellAt m (by omega)
            rw [show (nums l)[m]? = some (.int .i64 l[m]) by simp [nums, hlm]] at x0
            have HST := hid (fun (h : l[m] < z) => (fun j (hj : j < l.length) (hjm : j < m + 1) => (show l[j] < z by
              by_cases e : j = m
              · subst e
                exact h
              · exact HL.out j hj (by omega)) : ∀ j (hj : j < l.length), j < m + 1 → l[j] < z))
            have HKE := hid (fun he => insZ_keep (z := z) hlm HL.out he)
            have HNE := hid (fun h2 he => insZ_new (z := z) hlm HL.out h2 he)
            generalize l[m] = x at *
            by_cases c1 : x < z
            · have d1 : decide (x < z) = true := by simp; omega
              have HS1 := hid (HST.out c1)
              clear c1 HKE HNE HST HSU
              go_wp2_with fail
              go_roundw
              case rel => exact ⟨m + 1, by omega, by go_num, HS1.out, by trivial⟩
              case measure => simp [intOf]; omega
            · have d1 : decide (x < z) = false := by simp; omega
              by_cases c2 : x = z
              · have HIN := hid (show srT zs (k + 1) = l by rw [HSU.out]; exact HKE.out c2)
                have d2 : (x == z) = true := by simp; exact c2
                clear c1 c2 HKE HNE HST HSU
                go_wp2_with fail
                go_roundw
                case rel => exact ⟨k + 1, by omega, by go_num, by rw [HIN.out]; exact ho, hB⟩
                case measure => simp [intOf]; omega
              · have HIN := hid (show srT zs (k + 1) = l.take m ++ z :: l.drop m by rw [HSU.out]; exact HNE.out c1 c2)
                have d2 : (x == z) = false := by simp; exact c2
                clear c1 c2 HKE HNE HST HSU
                have hrl : (nums l).length = l.length := by simp [nums]
                have HLL := hid (show m + 1 + (l.length - m) = (l.take m ++ z :: l.drop m).length by first | (simp; done) | (simp; omega))
                have hn1 : (m : Int) ≤ (l.length : Int) := by omega
                have hn2 : (m : Int) ≤ (cp : Int) := by omega
                have htk : ∀ j u, ((nums l).take m)[j]? = some u → wr.cell? ((⟨g, 0, none⟩ : Addr).add j) = some u := fun j u hj => by
                  rw [List.getElem?_take] at hj
                  split at hj
                  · exact ho.cells (g := g) rfl j u hj
                  · cases hj
                have hN := World.ownsRow_nil wr wr.heap.size 3 1
                go_wp2_with (at_builtin; refine wpList_append_own _ rfl _ _ 23 rfl wr.heap.size 3 iw _ 1 8 Tryz.underlying23 hiw hw0 hw1 hw2 rfl (by decide) _ _ _ rfl hN ⟨g, 0, none⟩ m cp ((nums l).take m) rfl (by rw [List.length_take]; omega) htk (fun u hu => one_nn u (List.mem_of_mem_take hu)) (by unfold maxLen; omega) (by omega) (Nat.le_refl _) ?_)
                intro v5 w6 o5 g6 _
                obtain ⟨y5, y6, y7, rfl⟩ := row_slice o5
                have hC5 : Below wr.heap.size wr w6 := (Below.refl _ _).grown g6 (Nat.le_refl _) (fun k e => by simp [Value.ownBlock] at e)
                clear g6 htk hN
                have o5a := o5.alloc (.cells #[.int .i64 z] 3)
                have hC5a : Below wr.heap.size wr (w6.alloc (.cells #[.int .i64 z] 3)) := hC5.alloc hC5.size _
                have hnw : ∀ j u, ([Value.int .i64 z])[j]? = some u → (w6.alloc (.cells #[.int .i64 z] 3)).cell? ((⟨w6.heap.size, 0, none⟩ : Addr).add j) = some u := fun j u hj => by
                  rw [Addr.add_lit, Nat.zero_add, World.cell?_alloc_at _ _ _ _ rfl]
                  simpa using hj
                go_wp2_with (at_builtin; refine wpList_append_own _ rfl _ _ 23 rfl wr.heap.size 3 iw _ 1 8 Tryz.underlying23 hiw hw0 hw1 hw2 rfl (by decide) _ _ _ rfl o5a ⟨w6.heap.size, 0, none⟩ 1 1 [Value.int .i64 z] rfl rfl hnw (by intro u hu; simp at hu; rw [hu]; rfl) (by unfold maxLen; omega) (by omega) hC5a.size ?_)
                intro v6 w7 o6 g7 _
                obtain ⟨u5, u6, u7, rfl⟩ := row_slice o6
                have hC6 : Below wr.heap.size wr w7 := hC5a.grown g7 hC5a.size (fun k e => (o5a.lt k e).1)
                clear o5 o5a g7 hnw hC5 hC5a
                have ow := ownsRow_below ho hC6
                have hzn : ¬ (cp = m) := by omega
                have hdr : ∀ j u, ((nums l).drop m)[j]? = some u → w7.cell? ((⟨g, m, none⟩ : Addr).add j) = some u := fun j u hj => by
                  rw [List.getElem?_drop] at hj
                  have := ow.cells (g := g) rfl _ u hj
                  rw [Addr.add_lit, Nat.zero_add] at this
                  rw [Addr.add_lit]
                  exact this
                go_wp2_with (at_builtin; refine wpList_append_own _ rfl _ _ 23 rfl wr.heap.size 3 iw _ 1 8 Tryz.underlying23 hiw hw0 hw1 hw2 rfl (by decide) _ _ _ rfl o6 ⟨g, m, none⟩ (l.length - m) (cp - m) ((nums l).drop m) rfl (by rw [List.length_drop]; omega) hdr (fun u hu => one_nn u (List.mem_of_mem_drop hu)) (by unfold maxLen; omega) (by omega) hC6.size ?_)
                intro v7 w8 o7 g8 _
                replace o7 : w8.ownsRow wr.heap.size 3 1 v7 (m + 1 + (l.length - m)) (nums (l.take m ++ z :: l.drop m)) := by rw [← nputN]; simpa using o7
                have hC7 : Below wr.heap.size wr w8 := hC6.grown g8 hC6.size (fun k e => (o6.lt k e).1)
                obtain ⟨y5, y6, y7, rfl⟩ := row_slice o7
                go_wp2
                go_roundw
                case rel => exact ⟨k + 1, by omega, by go_num, by rw [HIN.out]; exact row_castN (Go.Joins.ownsRow_le o7 hB.size) HLL.out, below_one hB hC7⟩
                case measure => simp [intOf]; omega
          · have hme : m = l.length := by omega
            subst hme
            have HIN := hid (show srT zs (k + 1) = l.take l.length ++ z :: l.drop l.length by
              rw [HSU.out, insZ_end HL.out]
              simp)
            clear HSU hml hlm
            have hrl : (nums l).length = l.length := by simp [nums]
            have HLL := hid (show l.length + 1 = (l.take l.length ++ z :: l.drop l.length).length by first | (simp; done) | (simp; omega))
            have hn1 : (l.length : Int) ≤ (l.length : Int) := by omega
            have hn2 : (l.length : Int) ≤ (cp : Int) := by omega
            have htk : ∀ j u, ((nums l).take l.length)[j]? = some u → wr.cell? ((⟨g, 0, none⟩ : Addr).add j) = some u := fun j u hj => by
              rw [List.getElem?_take] at hj
              split at hj
              · exact ho.cells (g := g) rfl j u hj
              · cases hj
            have hN := World.ownsRow_nil wr wr.heap.size 3 1
            go_wp2_with (at_builtin; refine wpList_append_own _ rfl _ _ 23 rfl wr.heap.size 3 iw _ 1 8 Tryz.underlying23 hiw hw0 hw1 hw2 rfl (by decide) _ _ _ rfl hN ⟨g, 0, none⟩ l.length cp ((nums l).take l.length) rfl (by rw [List.length_take]; omega) htk (fun u hu => one_nn u (List.mem_of_mem_take hu)) (by unfold maxLen; omega) (by omega) (Nat.le_refl _) ?_)
            intro v5 w6 o5 g6 _
            obtain ⟨y5, y6, y7, rfl⟩ := row_slice o5
            have hC5 : Below wr.heap.size wr w6 := (Below.refl _ _).grown g6 (Nat.le_refl _) (fun k e => by simp [Value.ownBlock] at e)
            clear g6 htk hN
            have o5a := o5.alloc (.cells #[.int .i64 z] 3)
            have hC5a : Below wr.heap.size wr (w6.alloc (.cells #[.int .i64 z] 3)) := hC5.alloc hC5.size _
            have hnw : ∀ j u, ([Value.int .i64 z])[j]? = some u → (w6.alloc (.cells #[.int .i64 z] 3)).cell? ((⟨w6.heap.size, 0, none⟩ : Addr).add j) = some u := fun j u hj => by
              rw [Addr.add_lit, Nat.zero_add, World.cell?_alloc_at _ _ _ _ rfl]
              simpa using hj
            go_wp2_with (at_builtin; refine wpList_append_own _ rfl _ _ 23 rfl wr.heap.size 3 iw _ 1 8 Tryz.underlying23 hiw hw0 hw1 hw2 rfl (by decide) _ _ _ rfl o5a ⟨w6.heap.size, 0, none⟩ 1 1 [Value.int .i64 z] rfl rfl hnw (by intro u hu; simp at hu; rw [hu]; rfl) (by unfold maxLen; omega) (by omega) hC5a.size ?_)
            intro v6 w7 o6 g7 _
            obtain ⟨u5, u6, u7, rfl⟩ := row_slice o6
            have hC6 : Below wr.heap.size wr w7 := hC5a.grown g7 hC5a.size (fun k e => (o5a.lt k e).1)
            clear o5 o5a g7 hnw hC5 hC5a
            have ow := ownsRow_below ho hC6
            by_cases hzz : cp = l.length
            all_goals go_wp2_with (at_builtin; refine wpList_append_own _ rfl _ _ 23 rfl wr.heap.size 3 iw _ 1 8 Tryz.underlying23 hiw hw0 hw1 hw2 rfl (by decide) _ _ _ rfl o6 _ 0 _ [] rfl rfl (by simp) (by simp) (by unfold maxLen; omega) (by omega) hC6.size ?_)
            all_goals intro v7 w8 o7 g8 _
            all_goals replace o7 : w8.ownsRow wr.heap.size 3 1 v7 (l.length + 1) (nums (l.take l.length ++ z :: l.drop l.length)) := by rw [← nputN, show (nums l).drop l.length = [] from List.drop_of_length_le (by omega)]; simpa using o7
            all_goals have hC7 : Below wr.heap.size wr w8 := hC6.grown g8 hC6.size (fun k e => (o6.lt k e).1)
            · obtain ⟨y5, y6, y7, rfl⟩ := row_slice o7
              go_wp2
              go_roundw
              case rel => exact ⟨k + 1, by omega, by go_num, by rw [HIN.out]; exact row_castN (Go.Joins.ownsRow_le o7 hB.size) HLL.out, below_one hB hC7⟩
              case measure => simp [intOf]; omega
            · obtain ⟨y5, y6, y7, rfl⟩ := row_slice o7
              go_wp2
              go_roundw
              case rel => exact ⟨k + 1, by omega, by go_num, by rw [HIN.out]; exact row_castN (Go.Joins.ownsRow_le o7 hB.size) HLL.out, below_one hB hC7⟩
              case measure => simp [intOf]; omega
    · have hke : k = zs.length := by omega
      have HE := hid hke
      clear hke
      obtain ⟨y5, y6, y7, rfl⟩ := row_slice ho
      go_wp2
      go_ret
      exact ⟨_, rfl, by unfold srN; rw [← HE.out]; exact ho, hB⟩

end Go.Proofs.YthpckiobfjdckaaGreat

namespace Go.Proofs.YthpckiobfjdckaaGreat
open Go.RowKit Go.Shelf Go.Sort

theorem put_take (cur : Array Value) (d : List Int) (k : Nat) (hk : k ≤ d.length) (hc : d.length ≤ cur.size) : (putCells (Value.int .i64) 0 d.toArray cur).toList.take k = nums (d.take k) := by
  apply List.ext_getElem?
  intro j
  by_cases hj : j < k
  · have hjc : j < cur.size := by omega
    have hjd : j < d.length := by omega
    rw [List.getElem?_take_of_lt hj, Array.getElem?_toList]
    simp [putCells, hjc, hjd, nums, hj]
  · rw [List.getElem?_take_eq_none (by omega), List.getElem?_eq_none (by simp [nums]; omega)]

theorem row_holds {w : World} {base g cap : Nat} {zs : List Int} (hrow : w.ownsRow base 3 1 (.slice (some ⟨g, 0, none⟩) zs.length cap) zs.length (nums zs)) : Holds (Value.int .i64) w g 0 zs.toArray := by
  intro j hj
  have hj' : j < zs.length := by simpa using hj
  have h1 := hrow.cellAt j (by omega)
  have h2 := hrow.frozenAt j
  refine ⟨?_, ?_⟩
  · rw [Nat.zero_add, h1]
    simp [nums, hj']
  · rw [Nat.zero_add]
    exact h2

theorem sortN_any (base g cap : Nat) (zs : List Int) (w : World) (hn : zs.length ≤ 1100000) (hrow : w.ownsRow base 3 1 (.slice (some ⟨g, 0, none⟩) zs.length cap) zs.length (nums zs)) :
    Calls Tryz.prog 80 #[.slice (some ⟨g, 0, none⟩) zs.length cap] w fun e w' => e = .returned (.tuple #[]) ∧ w'.ownsRow base 3 1 (.slice (some ⟨g, 0, none⟩) zs.length cap) zs.length (nums (zs.mergeSort fun x y => decide (x ≤ y))) ∧ w.grownBy w' (some g) := by
  have hH := row_holds hrow
  rcases hrow.2 with ⟨h, _⟩ | ⟨g', cap', cur, h, hbase, hb, h1, h2, h3, h4⟩
  · cases h
  · simp only [Value.slice.injEq, Option.some.injEq, Addr.mk.injEq, and_true, true_and] at h
    obtain ⟨rfl, rfl⟩ := h
    have hlt : g < w.heap.size := (Array.getElem?_eq_some_iff.1 hb).1
    refine (Any.slices_Sort_int Tryz.lays189 g 0 cap zs w hH hlt (by omega)).mono ?_
    rintro e w' ⟨rfl, n, os, rfl⟩
    have hsz : (zs.mergeSort fun x y => decide (x ≤ y)).length = zs.length := List.length_mergeSort _
    refine ⟨rfl, ⟨by simp [nums], .inr ⟨g, cap, putCells (Value.int .i64) 0 (zs.mergeSort fun x y => decide (x ≤ y)).toArray cur, rfl, hbase, ?_, h1, h2, by simp [putCells, h3], ?_⟩⟩, ?_⟩
    · rw [heap_grow_old _ _ (by simpa [putRow, mapBlock, Sort.ahead] using hlt)]
      simp [putRow, mapBlock, Sort.ahead, Array.getElem?_modify, hb, onCells]
    · rw [Nat.mul_one, put_take cur _ zs.length (by omega) (by omega), List.take_of_length_le (by omega)]
    · refine ⟨rfl, rfl, rfl, ?_, fun k hk hne => ?_⟩
      · simp [putRow, mapBlock, Sort.ahead]
      · rw [heap_grow_old _ _ (by simpa [putRow, mapBlock, Sort.ahead] using hk)]
        have : g ≠ k := fun e => hne (by rw [e])
        simp [putRow, mapBlock, Sort.ahead, Array.getElem?_modify, this]

theorem compactN_any (base g cap : Nat) (zs : List Int) (w : World) (hn : zs.length ≤ 1100000) (hrow : w.ownsRow base 3 1 (.slice (some ⟨g, 0, none⟩) zs.length cap) zs.length (nums zs)) :
    Calls Tryz.prog 81 #[.slice (some ⟨g, 0, none⟩) zs.length cap] w fun e w' => ∃ v', e = .returned v' ∧ w'.ownsRow base 3 1 v' (Lib.compact zs).length (nums (Lib.compact zs)) ∧ w.grownBy w' (some g) := by
  have hH := row_holds hrow
  rcases hrow.2 with ⟨h, _⟩ | ⟨g', cap', cur, h, hbase, hb, h1, h2, h3, h4⟩
  · cases h
  · simp only [Value.slice.injEq, Option.some.injEq, Addr.mk.injEq, and_true, true_and] at h
    obtain ⟨rfl, rfl⟩ := h
    have hle := Lib.compact_length_le zs
    refine (Any.slices_Compact_int Tryz.lays20 g 0 cap zs w hH (by omega) h1).mono ?_
    rintro e w' ⟨rfl, n, rfl⟩
    have hsz : (Lib.compact zs ++ List.replicate (zs.length - (Lib.compact zs).length) 0).length = zs.length := by simp; omega
    refine ⟨_, rfl, ⟨by simp [nums], .inr ⟨g, cap, putCells (Value.int .i64) 0 (Lib.compact zs ++ List.replicate (zs.length - (Lib.compact zs).length) 0).toArray cur, rfl, hbase, ?_, by omega, h2, by simp [putCells, h3], ?_⟩⟩, ?_⟩
    · simp [putRow, mapBlock, Sort.ahead, Array.getElem?_modify, hb, onCells]
    · rw [Nat.mul_one, put_take cur _ _ (by omega) (by omega), List.take_left]
    · refine ⟨rfl, rfl, rfl, ?_, fun k hk hne => ?_⟩
      · simp [putRow, mapBlock, Sort.ahead]
      · have : g ≠ k := fun e => hne (by rw [e])
        simp [putRow, mapBlock, Sort.ahead, Array.getElem?_modify, this]

/-- The first k lists, one behind another. -/
def catT (ls : List (Value × List Int)) (k : Nat) : List Int := (ls.take k).flatMap (fun p => p.2)
theorem catT_zero (ls : List (Value × List Int)) : catT ls 0 = [] := by simp [catT]
theorem catT_succ {ls : List (Value × List Int)} {k : Nat} (h : k < ls.length) : catT ls (k + 1) = catT ls k ++ ls[k].2 := by
  unfold catT
  rw [List.take_succ_eq_append_getElem h, List.flatMap_append]
  simp
theorem catT_le (ls : List (Value × List Int)) : ∀ k, k ≤ ls.length → (catT ls k).length ≤ (catT ls ls.length).length := by
  intro k hk
  unfold catT
  rw [List.take_length]
  conv => rhs; rw [← List.take_append_drop k ls, List.flatMap_append, List.length_append]
  omega
theorem grownN (w : World) (n : Nat) (hn : 0 < n) (hm : n ≤ 1100000) : (w.drew.alloc (.cells (([] : List Value).toArray ++ Builtin.zeroCells (Value.int .i64 0).cells (0 + n - 0) ++ Builtin.zeroCells (Value.int .i64 0).cells (grownCap w (0 + n) 0 3 - (0 + n))) 3)).ownsRow w.heap.size 3 1 (.slice (some ⟨w.heap.size, 0, none⟩) 0 (grownCap w (0 + n) 0 3)) 0 [] := by
  have h1 := grownCap_ge w (0 + n) 0 3
  have h2 := grownCap_le_maxLen w (0 + n) 0 3 (by unfold maxLen; omega)
  refine ⟨by simp, .inr ⟨w.heap.size, _, _, rfl, Nat.le_refl _, by show (w.heap.push _)[w.heap.size]? = _; rw [Array.getElem?_push_size], Nat.zero_le _, h2, ?_, by simp⟩⟩
  have h3 : n ≤ grownCap w n 0 3 := by simpa using h1
  simp [Builtin.zeroCells, Value.cells]
  omega

theorem growN_any (n : Nat) (w : World) (hm : n ≤ 1100000) :
    Calls Tryz.prog 100 #[.slice none 0 0, .int .i64 n] w fun e w' => ∃ v', e = .returned v' ∧ w'.ownsRow w.heap.size 3 1 v' 0 [] ∧ Below w.heap.size w w' := by
  obtain ⟨iw, hiw, hw0, hw1, hw2⟩ := info_parts infoInt
  by_cases h0 : n = 0
  · subst h0
    refine (Any8.slices_Grow_room Tryz.growIn none 0 0 0 w (Nat.le_refl _) (by omega) (by omega) (by omega)).mono ?_
    rintro e w' ⟨rfl, rfl⟩
    exact ⟨_, rfl, World.ownsRow_nil _ _ _ _, Below.refl _ _⟩
  · refine (Any8.slices_Grow_grow Tryz.growIn iw _ hiw hw0 (by omega) none 0 0 n [] w (Nat.le_refl _) (by omega) (by rw [hw2]; omega) (by omega) (by simp) (fun _ => rfl) (fun a h => by cases h)).mono ?_
    rintro e w' ⟨rfl, rfl⟩
    exact ⟨_, rfl, grownN w n (by omega) hm, ((Below.refl _ w).drew).alloc (Nat.le_refl _) _⟩

set_option maxHeartbeats 4000000 in
set_option maxRecDepth 100000 in
theorem concat_any (b : Nat) (ls : List (Value × List Int)) (w : World) (hsum : (catT ls ls.length).length ≤ 1100000) (hn : ls.length ≤ 2) (hc : ∀ j (h : j < ls.length), w.cell? ⟨b, j, none⟩ = some ls[j].1) (hb : b < w.heap.size) (hr : ∀ j (h : j < ls.length), NuR w ls[j].1 ls[j].2) :
    Calls Tryz.prog 79 #[.slice (some ⟨b, 0, none⟩) ls.length ls.length] w fun e w' => ∃ v', e = .returned v' ∧ w'.ownsRow w.heap.size 3 1 v' (catT ls ls.length).length (nums (catT ls ls.length)) ∧ Below w.heap.size w w' := by
  obtain ⟨iw, hiw, hw0, hw1, hw2⟩ := info_parts infoInt
  have HC := hid hc
  have HRR := hid hr
  clear hc hr
  go_enter Tryz.func79, Tryz.ntmps79
  go_wp2
  go_loopw [3, 11] (fun s i wr => ∃ k : Nat, k ≤ ls.length ∧ i = .int .i64 k ∧ s = .int .i64 ((catT ls k).length : Nat) ∧ wr = w) (fun _ i _ => ls.length - (intOf i).toNat)
  case atStart => exact ⟨0, Nat.zero_le _, rfl, by rw [catT_zero]; rfl, rfl⟩
  case round =>
    obtain ⟨k, hk, rfl, rfl, rfl⟩ := hrel
    by_cases hlt : k < ls.length
    · have q0 := HC.out k hlt
      obtain ⟨a, cap, hv⟩ := (HRR.out k hlt).len
      rw [hv] at q0
      have hle2 := catT_le ls (k + 1) hlt
      have HSU := hid (show (catT ls (k + 1)).length = (catT ls k).length + ls[k].2.length by rw [catT_succ hlt, List.length_append])
      have hnm : (catT ls k).length + ls[k].2.length ≤ 1100000 := by have := HSU.out; omega
      clear hle2 hv
      generalize (catT ls k).length = n at *
      generalize ls[k].2.length = m at *
      have hww : IntKind.i64.wrap ((n : Int) + (m : Int)) = (n : Int) + (m : Int) := by rw [IntKind.wrap_i64]; omega
      have hng : decide ((n : Int) + (m : Int) < 0) = false := by simp; omega
      go_wp2_with fail
      go_roundw
      case rel => exact ⟨k + 1, by omega, by go_num, by rw [HSU.out]; go_num, by trivial⟩
      case measure => simp [intOf]; omega
    · obtain rfl : k = ls.length := by omega
      clear hk hlt
      have HS := hid hsum
      obtain ⟨N, HNN⟩ : ∃ N, Hid (N = (catT ls ls.length).length) := ⟨_, hid rfl⟩
      rw [← HNN.out]
      go_wp2_with fail
      refine (growN_any N _ (by have := HS.out; have := HNN.out; omega)).mono ?_
      rintro e w6 ⟨v6, rfl, o6, hB6⟩
      obtain ⟨w0, hw0e⟩ : ∃ w0, w0 = wr := ⟨_, rfl⟩
      subst hw0e
      clear hsum
      go_wp2_with fail
      go_loopw [6, 27] (fun o i wq => ∃ k : Nat, k ≤ ls.length ∧ i = .int .i64 k ∧ wq.ownsRow w0.heap.size 3 1 o (catT ls k).length (nums (catT ls k)) ∧ Below w0.heap.size w0 wq) (fun _ i _ => ls.length - (intOf i).toNat)
      case atStart => exact ⟨0, Nat.zero_le _, rfl, by rw [catT_zero]; exact o6, hB6⟩
      case round =>
        obtain ⟨k, hk, rfl, ho, hB⟩ := hrel
        by_cases hlt : k < ls.length
        · have q0 := (hB.cell (p := ⟨b, k, none⟩) hb).trans (HC.out k hlt)
          have hnr := (HRR.out k hlt).below hB
          have HSU := hid (catT_succ hlt)
          have hle2 := catT_le ls (k + 1) hlt
          have hnm : (catT ls k).length + ls[k].2.length ≤ 1100000 := by have := congrArg List.length HSU.out; rw [List.length_append] at this; have := HS.out; omega
          clear hle2
          generalize catT ls k = l at *
          generalize ls[k].1 = u at *
          generalize ls[k].2 = zs at *
          go_wp2_with (at_builtin; refine wpList_append_read rfl _ _ 23 rfl w0.heap.size 3 iw _ 1 8 Tryz.underlying23 hiw hw0 hw1 hw2 rfl (by decide) _ _ _ _ _ _ rfl ho rfl (NuR.src hnr) ones_n (by unfold maxLen; omega) (by omega) hB.size ?_)
          intro v7 w7 o7 g7
          go_wp2_with fail
          go_roundw
          case rel => exact ⟨k + 1, by omega, by go_num, by rw [HSU.out, List.length_append]; simpa [nums] using o7, hB.grown g7 hB.size (fun k e => (ho.lt k e).1)⟩
          case measure => simp [intOf]; omega
        · obtain rfl : k = ls.length := by omega
          go_wp2_with fail
          go_ret
          exact ⟨_, rfl, ho, hB⟩

set_option maxHeartbeats 4000000 in
set_option maxRecDepth 100000 in
/-- The program's numbers of several lists, sorted, each once. -/
theorem eachOnce_any (b : Nat) (ls : List (Value × List Int)) (w : World) (hsum : (catT ls ls.length).length ≤ 1100000) (hn : ls.length ≤ 2) (hc : ∀ j (h : j < ls.length), w.cell? ⟨b, j, none⟩ = some ls[j].1) (hb : b < w.heap.size) (hr : ∀ j (h : j < ls.length), NuR w ls[j].1 ls[j].2) :
    Calls Tryz.prog 42 #[.slice (some ⟨b, 0, none⟩) ls.length ls.length] w fun e w' => ∃ v', e = .returned v' ∧ w'.ownsRow w.heap.size 3 1 v' (srN (catT ls ls.length)).length (nums (srN (catT ls ls.length))) ∧ Below w.heap.size w w' := by
  have HC := hid (concat_any b ls w hsum hn hc hb hr)
  clear hc hr
  generalize catT ls ls.length = zs at *
  go_enter Tryz.func42, Tryz.ntmps42
  go_wp2_with fail
  refine HC.out.mono ?_
  rintro e w1 ⟨v1, rfl, o1, hB1⟩
  have HZ := hid (compact_sorted zs)
  rcases row_form o1 with ⟨rfl, h0⟩ | ⟨g, cp, rfl, hg, hcp⟩
  · obtain rfl : zs = [] := List.eq_nil_of_length_eq_zero h0
    go_wp2_with fail
    refine (Any.slices_Sort_int_none Tryz.lays189 none 0 _).mono ?_
    rintro e w2 ⟨rfl, rfl⟩
    go_wp2_with fail
    refine (Any.slices_Compact_int_empty Tryz.lays20 none 0 _).mono ?_
    rintro e w3 ⟨rfl, rfl⟩
    go_wp2_with fail
    go_ret
    exact ⟨_, rfl, World.ownsRow_nil _ _ _ _, hB1⟩
  · have hms : (zs.mergeSort fun x y => decide (x ≤ y)).length = zs.length := List.length_mergeSort _
    go_wp2_with fail
    refine (sortN_any _ g cp zs _ (by omega) o1).mono ?_
    rintro e w2 ⟨rfl, o2, g2⟩
    have hB2 := hB1.grown g2 hB1.size (fun k e => by simp at e; omega)
    rw [← hms] at o2
    have HMS := hid hms
    rw [← hms]
    clear hms
    generalize (zs.mergeSort fun x y => decide (x ≤ y)) = ds at *
    go_wp2_with fail
    refine (compactN_any _ g cp ds _ (by have := HMS.out; omega) o2).mono ?_
    rintro e w3 ⟨v3, rfl, o3, g3⟩
    rw [HZ.out] at o3
    have hB3 := hB2.grown g3 hB2.size (fun k e => by simp at e; omega)
    go_wp2_with fail
    go_ret
    exact ⟨_, rfl, o3, hB3⟩

end Go.Proofs.YthpckiobfjdckaaGreat

namespace Go.Proofs.YthpckiobfjdckaaGreat
open Go.RowKit Go.Shelf

theorem SsK.ext {w : World} {base top : Nat} {v : Value} {n : Nat} {ss : List Sn} {k : Nat} {xs : List Value} {vp vr : Nat → Value} (h : SsK w base top v n ss k xs vp vr) (hk : k ≤ ss.length) (t : List Sn) : SsK w base top v n (ss ++ t) k xs vp vr := by
  have e : ∀ i (hi : i < (ss ++ t).length) (hik : i < k), (ss ++ t)[i] = ss[i]'(by omega) := fun i hi hik => List.getElem_append_left (by omega)
  exact ⟨h.row, h.rlt, fun i hi hik => by rw [e i hi hik]; exact h.cs i (by omega) hik, fun i hi hik => by rw [e i hi hik]; exact h.pol i (by omega) hik, fun i hi hik => by rw [e i hi hik]; exact h.num i (by omega) hik, fun i hi hik => h.plt i (by omega) hik, fun i hi hik => h.nlt i (by omega) hik, fun i j hi hj hik hjk => h.pap i j (by omega) (by omega) hik hjk, fun i j hi hj hik hjk => h.nap i j (by omega) (by omega) hik hjk⟩
/-- One more version, whose lists were there before the row, is put behind it. -/
theorem SsK.app2 {w w3 : World} {base b2 : Nat} {v v' : Value} {ss : List Sn} {k : Nat} {xs : List Value} {vp vr : Nat → Value} {p r : Value} (h : SsK w b2 w.heap.size v k ss k xs vp vr) (hk : k < ss.length) (hb : base ≤ b2)
    (hp : w.ownsRow base 63 4 p ss[k].pol.length (ss[k].pol.flatMap Ru.cells)) (hr : w.ownsRow base 3 1 r ss[k].rv.length (nums ss[k].rv)) (hpl : ∀ j, p.ownBlock = some j → j < b2) (hrl : ∀ j, r.ownBlock = some j → j < b2)
    (hown : w3.ownsRow base 32 3 v' (k + 1) (xs ++ [.int .i64 ss[k].num, p, r])) (hg : w.grownBy w3 v.ownBlock) :
    SsK w3 base w3.heap.size v' (k + 1) ss (k + 1) (xs ++ [.int .i64 ss[k].num, p, r]) (fun i => if i = k then p else vp i) (fun i => if i = k then r else vr i) := by
  have hlen : xs.length = k * 3 := h.row.1
  have keep : ∀ {b : Nat} {e : TypeId} {s m : Nat} {u : Value} {x : List Value}, w.ownsRow b e s u m x → e ≠ 32 → w3.ownsRow b e s u m x := fun hu hne => kept_apart hu hg (fun j h1 h2 => row_apart hu h.row hne j h1 h2)
  have pk := keep hp tyR
  have rk := keep hr tyN
  refine ⟨hown, fun j hj => (hown.lt j hj).2, ?_, ?_, ?_, ?_, ?_, ?_, ?_⟩
  · intro i hi hik
    by_cases e : i = k
    · subst e
      rw [if_pos rfl, if_pos rfl]
      refine ⟨?_, ?_, ?_⟩
      · rw [List.getElem?_append_right (by omega), hlen, Nat.sub_self]; rfl
      · rw [List.getElem?_append_right (by omega), hlen, Nat.add_sub_cancel_left]; rfl
      · rw [List.getElem?_append_right (by omega), hlen, Nat.add_sub_cancel_left]; rfl
    · rw [if_neg e, if_neg e]
      obtain ⟨c0, c1, c2⟩ := h.cs i hi (by omega)
      exact ⟨by rw [List.getElem?_append_left (by omega)]; exact c0, by rw [List.getElem?_append_left (by omega)]; exact c1, by rw [List.getElem?_append_left (by omega)]; exact c2⟩
  · intro i hi hik
    by_cases e : i = k
    · subst e
      rw [if_pos rfl]
      exact pk
    · rw [if_neg e]
      exact Go.Joins.ownsRow_le (keep (h.pol i hi (by omega)) tyR) hb
  · intro i hi hik
    by_cases e : i = k
    · subst e
      rw [if_pos rfl]
      exact rk
    · rw [if_neg e]
      exact Go.Joins.ownsRow_le (keep (h.num i hi (by omega)) tyN) hb
  · intro i hi hik j hj
    by_cases e : i = k
    · rw [if_pos e] at hj
      exact (pk.lt j hj).2
    · rw [if_neg e] at hj
      exact ((keep (h.pol i hi (by omega)) tyR).lt j hj).2
  · intro i hi hik j hj
    by_cases e : i = k
    · rw [if_pos e] at hj
      exact (rk.lt j hj).2
    · rw [if_neg e] at hj
      exact ((keep (h.num i hi (by omega)) tyN).lt j hj).2
  · intro i j hi hj hik hjk hij b h1 h2'
    by_cases e : i = k
    · rw [if_pos e] at h1
      rw [if_neg (by omega)] at h2'
      have := hpl b h1
      have := ((h.pol j hj (by omega)).lt b h2').1
      omega
    · rw [if_neg e] at h1
      by_cases e2 : j = k
      · rw [if_pos e2] at h2'
        have := hpl b h2'
        have := ((h.pol i hi (by omega)).lt b h1).1
        omega
      · rw [if_neg e2] at h2'
        exact h.pap i j hi hj (by omega) (by omega) hij b h1 h2'
  · intro i j hi hj hik hjk hij b h1 h2'
    by_cases e : i = k
    · rw [if_pos e] at h1
      rw [if_neg (by omega)] at h2'
      have := hrl b h1
      have := ((h.num j hj (by omega)).lt b h2').1
      omega
    · rw [if_neg e] at h1
      by_cases e2 : j = k
      · rw [if_pos e2] at h2'
        have := hrl b h2'
        have := ((h.num i hi (by omega)).lt b h1).1
        omega
      · rw [if_neg e2] at h2'
        exact h.nap i j hi hj (by omega) (by omega) hij b h1 h2'

theorem SsK.put {w w3 : World} {base b2 : Nat} {v v' : Value} {ss : List Sn} {xs : List Value} {vp vr : Nat → Value} {p r : Value} {s : Sn} (h : SsK w b2 w.heap.size v ss.length ss ss.length xs vp vr) (hb : base ≤ b2)
    (hp : w.ownsRow base 63 4 p s.pol.length (s.pol.flatMap Ru.cells)) (hr : w.ownsRow base 3 1 r s.rv.length (nums s.rv)) (hpl : ∀ j, p.ownBlock = some j → j < b2) (hrl : ∀ j, r.ownBlock = some j → j < b2)
    (hown : w3.ownsRow base 32 3 v' (ss.length + 1) (xs ++ [.int .i64 s.num, p, r])) (hg : w.grownBy w3 v.ownBlock) :
    ∃ xs' vp' vr', SsK w3 base w3.heap.size v' (ss.length + 1) (ss ++ [s]) (ss.length + 1) xs' vp' vr' := by
  have e : (ss ++ [s])[ss.length]'(by simp) = s := by simp
  exact ⟨_, _, _, (h.ext (Nat.le_refl _) [s]).app2 (by simp) hb (by rw [e]; exact hp) (by rw [e]; exact hr) hpl hrl (by rw [e]; exact hown) hg⟩

/-- A list of one's own, or such a one without its first. -/
def SsT (w : World) (base top : Nat) (v : Value) (ss : List Sn) : Prop :=
  SsO w base top v ss ∨ ∃ g n cap ss', SsO w base top (.slice (some ⟨g, 0, none⟩) n cap) ss' ∧ 1 ≤ ss'.length ∧ ss'.length ≤ cap ∧ v = .slice (some ⟨g, 3, none⟩) (ss'.length - 1) (cap - 1) ∧ ss = ss'.drop 1
theorem SsT.below {w w' : World} {base top : Nat} {v : Value} {ss : List Sn} (h : SsT w base top v ss) (hB : Below w.heap.size w w') : SsT w' base top v ss := by
  rcases h with h | ⟨g, n, cap, ss', h, h1, h2, h3, h4⟩
  · exact .inl (h.below hB)
  · exact .inr ⟨g, n, cap, ss', h.below hB, h1, h2, h3, h4⟩
theorem Mid.sst {lo hi : Nat} {w w1 : World} (hM : Mid lo hi w w1) {base top : Nat} {v : Value} {ss : List Sn} (h : SsT w base top v ss) (ho : hi ≤ base ∨ top ≤ lo) : SsT w1 base top v ss := by
  rcases h with h | ⟨g, n, cap, ss', h, h1, h2, h3, h4⟩
  · exact .inl (hM.sso h ho)
  · exact .inr ⟨g, n, cap, ss', hM.sso h ho, h1, h2, h3, h4⟩
theorem SsT.a {w : World} {base top : Nat} {v : Value} {ss : List Sn} (h : SsT w base top v ss) : SsA w v ss := by
  rcases h with h | ⟨g, n, cap, ss', h, h1, h2, rfl, rfl⟩
  · exact h.a
  · have := (h.r.drop (k := 1) (c' := cap - 1) h1 (by omega)).a
    simpa using this
theorem SsT.mono {w : World} {base base' top top' : Nat} {v : Value} {ss : List Sn} (h : SsT w base top v ss) (hb : base' ≤ base) (ht : top ≤ top') : SsT w base' top' v ss := by
  rcases h with h | ⟨g, n, cap, ss', h, h1, h2, h3, h4⟩
  · exact .inl (h.mono hb ht)
  · exact .inr ⟨g, n, cap, ss', h.mono hb ht, h1, h2, h3, h4⟩

theorem SsK.top {w : World} {base top top' : Nat} {v : Value} {n : Nat} {ss : List Sn} {k : Nat} {xs : List Value} {vp vr : Nat → Value} (h : SsK w base top v n ss k xs vp vr) (ht : top ≤ top') : SsK w base top' v n ss k xs vp vr :=
  ⟨h.row, fun j hj => Nat.lt_of_lt_of_le (h.rlt j hj) ht, h.cs, h.pol, h.num, fun i hi hik j hj => Nat.lt_of_lt_of_le (h.plt i hi hik j hj) ht, fun i hi hik j hj => Nat.lt_of_lt_of_le (h.nlt i hi hik j hj) ht, h.pap, h.nap⟩
theorem step_app_own {P : Program} {w : World} {ops : Array Oper} {o : Oper} {a : Act} {K : Act → World → Prop} {Q : Exit → Act → World → Prop} {E : Prop} (hgd : o.guard = none) (s x : Operand) (t : TypeId)
    (ho : o.op = .call { callee := .builtin .append, args := #[s, x], argTypes := #[t, t] })
    (base : Nat) (e : TypeId) (i : TypeInfo) (z : Value) (size bytes : Nat) (ht : P.underlying t = some (.slice e)) (hi : P.info? e = some i) (hz : i.zero = some z)
    (hsize : i.size = size) (hby : i.bytes = bytes) (hzs : z.cells.size = size) (hsz : 0 < size)
    (v : Value) (n : Nat) (xs : List Value) (hs : a.eval s = v) (hown : w.ownsRow base e size v n xs)
    (ad : Addr) (m c : Nat) (news : List Value) (hx : a.eval x = .slice (some ad) m c) (hl : news.length = m * size) (hnews : ∀ j u, news[j]? = some u → w.cell? (ad.add j) = some u) (h1 : ∀ u ∈ news, u.oneCell' = true)
    (h63 : n + m ≤ maxLen) (hbytes : (n + m) * bytes ≤ 140737488355328) (hbase : base ≤ w.heap.size)
    (h : ∀ v' w', w'.ownsRow base e size v' (n + m) (xs ++ news) → w.grownBy w' v.ownBlock → K (a.put o.dst v') w') :
    if Region.wanted o (yielded ops a.tmps) = true then Oper.wp P o a w K Q else E := by
  have hw : Region.wanted o (yielded ops a.tmps) = true := by simp [Region.wanted, hgd]
  rw [if_pos hw]
  exact wp_append_own w s x t ho base e i z size bytes ht hi hz hsize hby hzs hsz v n xs hs hown ad m c news hx hl hnews h1 h63 hbytes hbase (fun v' w' h1 h2 _ => h v' w' h1 h2)
theorem nwS_short {ss : List Sn} {rs : List Ru} {zs : List Int} (hp : polB rs = true) (hz : fewB zs = true) (hf : ∀ r ∈ rs, r.size ≤ 1048576) : (nwS ss rs zs).short := by
  have h30 := (pol_all hp).2
  have hl : ∀ k, k ≤ rs.length → (plTo rs k).length ≤ k := fun k => by
    induction k with
    | zero => intro _; simp [plTo]
    | succ k ih =>
      intro hk
      rw [plTo_succ (by omega)]
      have := insU_length (rs[k]'(by omega)) (plTo rs k)
      have := ih (by omega)
      omega
  have h1 := hl _ (Nat.le_refl _)
  have h2 := srN_len zs
  have h3 := fewB_len hz
  refine ⟨?_, ?_, ?_⟩
  · show (plX rs).length ≤ _
    rw [plX_yes hp]
    omega
  · show (srN zs).length ≤ _
    omega
  · intro r hr
    refine hf r ?_
    have hr' : r ∈ plX rs := hr
    rw [plX_yes hp, plTo_mem _ (Nat.le_refl _), List.take_length] at hr'
    exact hr'
theorem nxN_at {ss : List Sn} {n : Nat} (h : ss.length = n + 1) : nxN ss = (ss[n]'(by omega)).num + 1 := by
  unfold nxN
  rw [List.getLast?_eq_getElem?, show ss.length - 1 = n by omega, List.getElem?_eq_getElem (by omega)]
theorem lsB_num {ss : List Sn} (h : lsB ss = true) : ∀ s ∈ ss, 1 ≤ s.num ∧ s.num ≤ 100000 := fun s hs => by
  have := lsB_mem h s hs
  unfold snB at this
  rw [Bool.and_eq_true] at this
  exact of_decide_eq_true this.1
theorem puB_no1 {ss : List Sn} {rs : List Ru} {zs : List Int} (h : lsB ss = false) : puB ss rs zs = false := by unfold puB; rw [h]; rfl
theorem puB_no2 {ss : List Sn} {rs : List Ru} {zs : List Int} (h : polB rs = false) : puB ss rs zs = false := by unfold puB; rw [h]; simp
theorem puB_no3 {ss : List Sn} {rs : List Ru} {zs : List Int} (h : fewB zs = false) : puB ss rs zs = false := by unfold puB; rw [h]; simp
theorem puB_no4 {ss : List Sn} {rs : List Ru} {zs : List Int} (h : snB (nwS ss rs zs) = false) : puB ss rs zs = false := by unfold puB; rw [h]; simp
theorem puB_yes {ss : List Sn} {rs : List Ru} {zs : List Int} (h1 : lsB ss = true) (h2 : polB rs = true) (h3 : fewB zs = true) (h4 : snB (nwS ss rs zs) = true) : puB ss rs zs = true := by unfold puB; rw [h1, h2, h3, h4]; rfl
theorem puX_no {ss : List Sn} {rs : List Ru} {zs : List Int} (h : puB ss rs zs = false) : puX ss rs zs = [] := if_neg (by rw [h]; exact Bool.false_ne_true)
theorem puX_few {ss : List Sn} {rs : List Ru} {zs : List Int} (h : puB ss rs zs = true) (hl : ss.length ≤ 19) : puX ss rs zs = ss ++ [nwS ss rs zs] := by
  unfold puX
  rw [if_pos h, show ss.length + 1 - 20 = 0 by omega, List.drop_zero]
theorem puX_many {ss : List Sn} {rs : List Ru} {zs : List Int} (h : puB ss rs zs = true) (hl : ss.length = 20) : puX ss rs zs = (ss ++ [nwS ss rs zs]).drop 1 := by
  unfold puX
  rw [if_pos h, hl]

theorem SsR.cells {w : World} {v : Value} {ss : List Sn} (h : SsR w v ss) : ∃ xs : List Value, xs.length = ss.length * 3 ∧ (∀ i (hi : i < ss.length), ∃ vp vr, xs[i * 3]? = some (.int .i64 ss[i].num) ∧ xs[i * 3 + 1]? = some vp ∧ xs[i * 3 + 2]? = some vr ∧ RuR w vp ss[i].pol ∧ NuR w vr ss[i].rv) ∧ ∀ a n c, v = .slice a n c → ∀ b, a = some b → ∀ j u, xs[j]? = some u → w.cell? (b.add j) = some u := by
  rcases h with ⟨rfl, rfl⟩ | ⟨b, off, cap, rfl, hb, hl, hc⟩
  · exact ⟨[], rfl, fun i hi => by simp at hi, fun a n c e b hb => by cases e; cases hb⟩
  · have hg : ∀ j, j < ss.length * 3 → ((List.range (ss.length * 3)).map (fun j => (w.cell? ⟨b, off + j, none⟩).getD .nilIface))[j]? = some ((w.cell? ⟨b, off + j, none⟩).getD .nilIface) := fun j hj => by simp [hj]
    refine ⟨(List.range (ss.length * 3)).map (fun j => (w.cell? ⟨b, off + j, none⟩).getD .nilIface), by simp, fun i hi => ?_, fun a n c e b' hb' j u hu => ?_⟩
    · obtain ⟨vp, vr, c0, c1, c2, h1, h2⟩ := hc i hi
      refine ⟨vp, vr, ?_, ?_, ?_, h1, h2⟩
      · rw [hg _ (by omega), c0]; rfl
      · rw [hg _ (by omega), ← Nat.add_assoc, c1]; rfl
      · rw [hg _ (by omega), ← Nat.add_assoc, c2]; rfl
    · cases e
      cases hb'
      have hj : j < ss.length * 3 := by
        have := (List.getElem?_eq_some_iff.1 hu).1
        simpa using this
      rw [hg j hj] at hu
      rw [Addr.add_lit]
      obtain ⟨vp, vr, c0, c1, c2, _, _⟩ := hc (j / 3) (by omega)
      have hs : ∃ x, w.cell? ⟨b, off + j, none⟩ = some x := by
        obtain h3 | h3 | h3 : j = j / 3 * 3 ∨ j = j / 3 * 3 + 1 ∨ j = j / 3 * 3 + 2 := by omega
        · rw [h3]; exact ⟨_, c0⟩
        · rw [h3, ← Nat.add_assoc]; exact ⟨_, c1⟩
        · rw [h3, ← Nat.add_assoc]; exact ⟨_, c2⟩
      obtain ⟨x, hx⟩ := hs
      rw [hx] at hu ⊢
      simpa using hu
theorem SsR.put {w w' : World} {base : Nat} {v' p r : Value} {ss : List Sn} {s : Sn} {xs : List Value} (hl : xs.length = ss.length * 3) (hc : ∀ i (hi : i < ss.length), ∃ vp vr, xs[i * 3]? = some (.int .i64 ss[i].num) ∧ xs[i * 3 + 1]? = some vp ∧ xs[i * 3 + 2]? = some vr ∧ RuR w vp ss[i].pol ∧ NuR w vr ss[i].rv)
    (hp : RuR w p s.pol) (hr : NuR w r s.rv) (hown : w'.ownsRow base 32 3 v' (ss.length + 1) (xs ++ [.int .i64 s.num, p, r])) (hB : Below w.heap.size w w') : SsR w' v' (ss ++ [s]) := by
  rcases row_form hown with ⟨_, h0⟩ | ⟨g, cap, rfl, hg, hcap⟩
  · omega
  · refine .inr ⟨g, 0, cap, by simp, (hown.lt g rfl).2, by simpa using hcap, fun i hi => ?_⟩
    have hi' : i < ss.length + 1 := by simpa using hi
    have c0 := hown.cellAt (i * 3) (by omega)
    have c1 := hown.cellAt (i * 3 + 1) (by omega)
    have c2 := hown.cellAt (i * 3 + 2) (by omega)
    rw [Nat.zero_add]
    by_cases e : i < ss.length
    · obtain ⟨vp, vr, x0, x1, x2, h1, h2⟩ := hc i e
      rw [List.getElem?_append_left (by omega)] at c0 c1 c2
      rw [List.getElem_append_left e]
      exact ⟨vp, vr, c0.trans x0, c1.trans x1, c2.trans x2, h1.below hB, h2.below hB⟩
    · obtain rfl : i = ss.length := by omega
      rw [List.getElem?_append_right (by omega), hl] at c0 c1 c2
      rw [List.getElem_append_right (Nat.le_refl _)]
      simp only [Nat.sub_self, Nat.add_sub_cancel_left] at c0 c1 c2
      simp only [Nat.sub_self, List.getElem_cons_zero]
      exact ⟨p, r, c0, c1, c2, hp.below hB, hr.below hB⟩

end Go.Proofs.YthpckiobfjdckaaGreat

namespace Go.Proofs.YthpckiobfjdckaaGreat

def rwL (s : Sn) (d : Df) : List Ru := woR s.pol d.dr ++ d.ad
def ndS (s : Sn) (d : Df) : Sn := ⟨d.tt, plTo (rwL s d) (rwL s d).length, srN (s.rv ++ d.rv)⟩
def sameD (a b : Df) : Bool := (a.fr == b.fr) && ((a.tt == b.tt) && (sameS a.dr b.dr && (sameS a.ad b.ad && (a.rv == b.rv))))
def apS (s : Sn) (d : Df) : Bool := (snB s && ((s.num == d.fr) && (decide (d.dr.length ≤ 30) && (decide (d.ad.length ≤ 30) && decide (d.rv.length ≤ 200))))) && (dfB s (ndS s d) && sameD d (dfX s (ndS s d)))
def apI (s : Sn) (d : Df) : Bool := (snB s && polB (rwL s d)) && (dfB s (ndS s d) && sameD (dfX s (ndS s d)) d)
def apX (s : Sn) (d : Df) : Sn := if apS s d = true then ndS s d else Sn.none

theorem hasR_iff {b : List Ru} {r : Ru} : hasR b r = true ↔ r ∈ b := by
  unfold hasR
  rw [List.any_eq_true]
  exact ⟨fun ⟨y, hy, h⟩ => by rw [same_eq h]; exact hy, fun h => ⟨r, h, Ru.same_refl r⟩⟩
theorem sameS_eq {rs ss : List Ru} (h : sameS rs ss = true) : rs = ss := by
  unfold sameS at h
  rw [Bool.and_eq_true] at h
  have hl : rs.length = ss.length := by simpa using h.1
  apply List.ext_getElem hl
  intro i h1 h2
  have hz : i < (rs.zip ss).length := by rw [List.length_zip]; omega
  have hm := List.all_eq_true.1 h.2 _ (List.getElem_mem hz)
  rw [List.getElem_zip] at hm
  exact same_eq hm
theorem sameD_eq {a b : Df} (h : sameD a b = true) : a = b := by
  unfold sameD at h
  simp only [Bool.and_eq_true, beq_iff_eq] at h
  obtain ⟨h1, h2, h3, h4, h5⟩ := h
  cases a; cases b
  simp only at h1 h2 h3 h4 h5
  rw [h1, h2, sameS_eq h3, sameS_eq h4, h5]
theorem sameD_refl (a : Df) : sameD a a = true := by
  unfold sameD
  rw [sameS_refl, sameS_refl]
  simp
theorem nd_le : ∀ (l m : List Ru), l.Pairwise (fun x y => x ≠ y) → (∀ x ∈ l, x ∈ m) → l.length ≤ m.length
  | [], m, _, _ => Nat.zero_le _
  | x :: l, m, h, hs => by
    obtain ⟨m1, m2, rfl⟩ := List.append_of_mem (hs x (List.mem_cons_self))
    have hp := List.pairwise_cons.1 h
    have := nd_le l (m1 ++ m2) hp.2 (fun y hy => by
      have h1 := hs y (List.mem_cons_of_mem _ hy)
      have hne := hp.1 y hy
      rcases List.mem_append.1 h1 with h2 | h2
      · exact List.mem_append_left _ h2
      · rcases List.mem_cons.1 h2 with h3 | h3
        · exact absurd h3.symm hne
        · exact List.mem_append_right _ h3)
    simp only [List.length_append, List.length_cons] at this ⊢
    omega
theorem filter_two (p : Ru → Bool) : ∀ l : List Ru, (l.filter p).length + (l.filter (fun r => !(p r))).length = l.length
  | [] => rfl
  | x :: l => by
    have ih := filter_two p l
    cases hp : p x <;> simp [hp] <;> omega
theorem raw_len {A X : List Ru} (hA : A.Pairwise (fun x y => x ≠ y)) : (woR A (woR A X) ++ woR X A).length ≤ X.length := by
  have e : woR A (woR A X) = A.filter (hasR X) := by
    unfold woR
    apply List.filter_congr
    intro r hr
    cases hx : hasR X r
    · have : hasR (A.filter fun r => !hasR X r) r = true := hasR_iff.2 (List.mem_filter.2 ⟨hr, by rw [hx]; rfl⟩)
      rw [this]; rfl
    · have : hasR (A.filter fun r => !hasR X r) r = false := by
        cases h : hasR (A.filter fun r => !hasR X r) r
        · rfl
        · have := (List.mem_filter.1 (hasR_iff.1 h)).2
          rw [hx] at this
          cases this
      rw [this]; rfl
  have h1 : (A.filter (hasR X)).length ≤ (X.filter (hasR A)).length := nd_le _ _ (hA.filter _) (fun x hx => by
    obtain ⟨h1, h2⟩ := List.mem_filter.1 hx
    exact List.mem_filter.2 ⟨hasR_iff.1 h2, hasR_iff.2 h1⟩)
  have h2 := filter_two (hasR A) X
  rw [e, List.length_append]
  unfold woR
  omega

theorem pol_nd {s : Sn} (h : snB s = true) : s.pol.Pairwise (fun x y => x ≠ y) := by
  obtain ⟨_, h2, h3, _, _⟩ := snB_parts h
  have hs := plTo_ss (pol_all h2).1 s.pol.length (Nat.le_refl _)
  rw [plX_yes h2] at h3
  rw [sameS_eq h3] at hs
  unfold SS at hs
  refine hs.imp (fun {x y} h e => ?_)
  subst e
  unfold ltR at h
  rw [bl_irrefl] at h
  cases h
theorem dfB_parts {a b : Sn} (h : dfB a b = true) : snB a = true ∧ snB b = true := by
  unfold dfB at h
  simp only [Bool.and_eq_true] at h
  exact ⟨h.1.1, h.1.2.1⟩
/-- What the program asks is what the specification asks. -/
theorem ap_alike (s : Sn) (d : Df) : apS s d = apI s d := by
  rw [Bool.eq_iff_iff]
  constructor
  · intro h
    unfold apS at h
    simp only [Bool.and_eq_true] at h
    obtain ⟨⟨h1, _⟩, h2, h3⟩ := h
    have e := sameD_eq h3
    rw [dfX_yes h2] at e
    obtain ⟨hs, hx⟩ := dfB_parts h2
    obtain ⟨_, hp, _, _, _⟩ := snB_parts hx
    have hdr : d.dr = woR s.pol (ndS s d).pol := congrArg Df.dr e
    have had : d.ad = woR (ndS s d).pol s.pol := congrArg Df.ad e
    have hl : (rwL s d).length ≤ (ndS s d).pol.length := by
      have := raw_len (A := s.pol) (X := (ndS s d).pol) (pol_nd hs)
      unfold rwL
      rw [← hdr, ← had] at this
      exact this
    have hg : ∀ r ∈ rwL s d, r.good = true := fun r hr => by
      refine (pol_all hp).1 r ?_
      show r ∈ plTo (rwL s d) (rwL s d).length
      rw [plTo_mem _ (Nat.le_refl _), List.take_length]
      exact hr
    have h30 := (pol_all hp).2
    unfold apI
    simp only [Bool.and_eq_true]
    refine ⟨⟨h1, ?_⟩, h2, ?_⟩
    · unfold polB
      rw [Bool.and_eq_true]
      exact ⟨List.all_eq_true.2 hg, decide_eq_true (by omega)⟩
    · rw [dfX_yes h2, ← e]
      exact sameD_refl d
  · intro h
    unfold apI at h
    simp only [Bool.and_eq_true] at h
    obtain ⟨⟨h1, _⟩, h2, h3⟩ := h
    have e := sameD_eq h3
    rw [dfX_yes h2] at e
    obtain ⟨hs, hx⟩ := dfB_parts h2
    obtain ⟨_, hp, _, _, _⟩ := snB_parts hs
    obtain ⟨_, hq, _, hf, _⟩ := snB_parts hx
    have hdr : d.dr = woR s.pol (ndS s d).pol := (congrArg Df.dr e).symm
    have had : d.ad = woR (ndS s d).pol s.pol := (congrArg Df.ad e).symm
    have hrv : d.rv = woN (ndS s d).rv s.rv := (congrArg Df.rv e).symm
    have hfr : s.num = d.fr := congrArg Df.fr e
    have l1 := woR_len s.pol (ndS s d).pol
    have l2 := woR_len (ndS s d).pol s.pol
    have l3 := woN_len (ndS s d).rv s.rv
    have m1 := (pol_all hp).2
    have m2 := (pol_all hq).2
    have m3 := fewB_len hf
    rw [← hdr] at l1
    rw [← had] at l2
    rw [← hrv] at l3
    unfold apS
    simp only [Bool.and_eq_true, beq_iff_eq, decide_eq_true_eq]
    refine ⟨⟨h1, hfr, by omega, by omega, by omega⟩, h2, ?_⟩
    rw [dfX_yes h2, e]
    exact sameD_refl d

end Go.Proofs.YthpckiobfjdckaaGreat
