/-
  The library's Compact over rules.
-/
import Derived.Deep.QuietTactic
import Derived.BigQuiet
import Derived.Lib.SliceRun
import Derived.Test.YthpckiobfjdckaaGreatPlainM
import Derived.Test.YthpckiobfjdckaaGreatMarkS
namespace Go.Proofs.YthpckiobfjdckaaGreat
open Go.RowKit Go.Shelf

theorem eql_ru (o r : Ru) (w : World) : (binOp .eql 63 o.val r.val).run Tryz.prog w = .ok (.bool (o.same r)) w := by
  rw [run_eql_struct]
  simp [go_sem, Tryz.underlying63]
  unfold Ru.same eqB
  repeat' split
  all_goals simp_all
theorem neq_ru (o r : Ru) (w : World) : (binOp .neq 63 o.val r.val).run Tryz.prog w = .ok (.bool (!(o.same r))) w := by
  rw [run_neq_struct]
  simp [go_sem, Tryz.underlying63]
  unfold Ru.same eqB
  repeat' split
  all_goals simp_all
/-- The cells of the rule at k. -/
theorem row_ru {w : World} {base g cap n : Nat} {rs : List Ru} (hrow : w.ownsRow base 63 4 (.slice (some ⟨g, 0, none⟩) n cap) n (rs.flatMap Ru.cells)) {k : Nat} (h : k < n) (hn : rs.length = n) (r : Ru) (hr : rs[k]'(by omega) = r) :
    w.cell? ⟨g, k * 4, none⟩ = some (.bool r.deny) ∧ w.cell? ⟨g, k * 4 + 1, none⟩ = some (.string r.who) ∧ w.cell? ⟨g, k * 4 + 2, none⟩ = some (.string r.method) ∧ w.cell? ⟨g, k * 4 + 3, none⟩ = some (.string r.path) := by
  subst hr
  have hc : ∀ j, j < 4 → w.cell? ⟨g, k * 4 + j, none⟩ = (rs[k]'(by omega)).cells[j]? := fun j hj => by rw [hrow.cellAt (k * 4 + j) (by omega), flat_at rs k j (by omega) hj]
  have h0 := hc 0 (by omega)
  have h1 := hc 1 (by omega)
  have h2 := hc 2 (by omega)
  have h3 := hc 3 (by omega)
  simp only [Nat.add_zero, List.getElem?_cons_zero, List.getElem?_cons_succ] at h0 h1 h2 h3
  exact ⟨h0, h1, h2, h3⟩
theorem flat_set (ys : List Ru) (k : Nat) (r : Ru) (_h : k < ys.length) : ((((ys.flatMap Ru.cells).set (k * 4) (.bool r.deny)).set (k * 4 + 1) (.string r.who)).set (k * 4 + 2) (.string r.method)).set (k * 4 + 3) (.string r.path) = (ys.set k r).flatMap Ru.cells := by
  apply List.ext_getElem?
  intro i
  have hl := flat_len ys
  by_cases hi : i < ys.length * 4
  · have e : i = i / 4 * 4 + i % 4 := by omega
    have h1 : i / 4 < ys.length := by omega
    by_cases hk : i / 4 = k
    · have h2 := flat_at (ys.set k r) (i / 4) (i % 4) (by simpa using h1) (by omega)
      rw [← e] at h2
      rw [h2, List.getElem_set, if_pos hk.symm]
      obtain h | h | h | h : i % 4 = 0 ∨ i % 4 = 1 ∨ i % 4 = 2 ∨ i % 4 = 3 := by omega
      · have ei : i = k * 4 := by omega
        rw [h, ei, List.getElem?_set_ne (by omega), List.getElem?_set_ne (by omega), List.getElem?_set_ne (by omega), List.getElem?_set_self (by omega)]
        rfl
      · have ei : i = k * 4 + 1 := by omega
        rw [h, ei, List.getElem?_set_ne (by omega), List.getElem?_set_ne (by omega), List.getElem?_set_self (by simp only [List.length_set]; omega)]
        rfl
      · have ei : i = k * 4 + 2 := by omega
        rw [h, ei, List.getElem?_set_ne (by omega), List.getElem?_set_self (by simp only [List.length_set]; omega)]
        rfl
      · have ei : i = k * 4 + 3 := by omega
        rw [h, ei, List.getElem?_set_self (by simp only [List.length_set]; omega)]
        rfl
    · have h2 := flat_at (ys.set k r) (i / 4) (i % 4) (by simpa using h1) (by omega)
      have h3 := flat_at ys (i / 4) (i % 4) h1 (by omega)
      rw [← e] at h2 h3
      rw [h2, List.getElem_set, if_neg (fun h => hk h.symm), ← h3, List.getElem?_set_ne (by omega), List.getElem?_set_ne (by omega), List.getElem?_set_ne (by omega), List.getElem?_set_ne (by omega)]
  · rw [List.getElem?_eq_none (by simp only [List.length_set]; omega), List.getElem?_eq_none (by rw [flat_len, List.length_set]; omega)]
/-- A row's first elements. -/
theorem row_short {w : World} {base g cap n k : Nat} {e : TypeId} {size : Nat} {xs : List Value} (h : w.ownsRow base e size (.slice (some ⟨g, 0, none⟩) n cap) n xs) (hk : k ≤ n) : w.ownsRow base e size (.slice (some ⟨g, 0, none⟩) k cap) k (xs.take (k * size)) := by
  have hm : k * size ≤ n * size := Nat.mul_le_mul_right _ hk
  rcases h.2 with ⟨h', _⟩ | ⟨g', cap', cur, h', hb, hg, hn, hc, hs, ht⟩
  · cases h'
  · simp only [Value.slice.injEq, Option.some.injEq, Addr.mk.injEq, and_true, true_and] at h'
    obtain ⟨rfl, rfl⟩ := h'
    refine ⟨by rw [List.length_take, h.1]; omega, .inr ⟨g, cap, cur, rfl, hb, hg, by omega, hc, hs, ?_⟩⟩
    rw [← ht, List.take_take, Nat.min_eq_left hm]
/-- Cells laid behind the first ones. -/
theorem row_behind {base g cap n k : Nat} {e : TypeId} {size : Nat} : ∀ (vs : List Value) (o : Nat) (w : World) (xs : List Value), k * size ≤ o → w.ownsRow base e size (.slice (some ⟨g, 0, none⟩) n cap) n xs →
    ∃ xs', (w.setCells g o vs).ownsRow base e size (.slice (some ⟨g, 0, none⟩) n cap) n xs' ∧ xs'.take (k * size) = xs.take (k * size) ∧ w.grownBy (w.setCells g o vs) (some g)
  | [], o, w, xs, _, h => ⟨xs, h, rfl, grown_self _ _⟩
  | v :: vs, o, w, xs, ho, h => by
    obtain ⟨h1, h2⟩ := h.stored o v
    obtain ⟨xs', a1, a2, a3⟩ := row_behind vs (o + 1) _ _ (Nat.le_succ_of_le ho) h1
    refine ⟨xs', a1, ?_, grown_two h2 a3⟩
    rw [a2, List.take_set_of_le ho]


abbrev zeroRu : Value := .agg #[.bool false, .string ⟨#[]⟩, .string ⟨#[]⟩, .string ⟨#[]⟩]
theorem clear_ru {w : World} {base g cap n : Nat} {ys : List Value} (hrow : w.ownsRow base 63 4 (.slice (some ⟨g, 0, none⟩) n cap) n ys) (k c : Nat) (hk : k < n) :
    ∀ ty, (Builtin.clear_ #[30] ty #[.slice (some ⟨g, k * 4, none⟩) (n - k) c]).run Tryz.prog w = .ok (.tuple #[]) (w.setCells g (k * 4) (Builtin.zeroCells zeroRu.cells (n - k)).toList) := by
  intro ty
  have hl : (Builtin.zeroCells zeroRu.cells (n - k)).toList.length = (n - k) * 4 := by simp [Builtin.zeroCells, Value.cells]
  have hst := run_storeCells_cells (P := Tryz.prog) g (k * 4) (Builtin.zeroCells zeroRu.cells (n - k)).toList 0 w
    (fun j hj => by
      rw [hl] at hj
      rw [Nat.add_zero, hrow.cellAt (k * 4 + j) (by omega), List.getElem?_eq_getElem (by rw [hrow.1]; omega)]
      rfl)
    (fun j _ => by rw [Nat.add_zero]; exact hrow.frozenAt _)
    (fun v hv => by
      simp only [Builtin.zeroCells, Value.cells, Array.toList_map, List.mem_map] at hv
      obtain ⟨i, _, rfl⟩ := hv
      have h4 : i % 4 = 0 ∨ i % 4 = 1 ∨ i % 4 = 2 ∨ i % 4 = 3 := by omega
      show ((#[.bool false, .string ⟨#[]⟩, .string ⟨#[]⟩, .string ⟨#[]⟩] : Array Value)[i % 4]!).oneCell' = true
      rcases h4 with h | h | h | h <;> rw [h] <;> rfl)
  simp only [Nat.add_zero] at hst
  have hv : ∀ w, (zeroValue 63).run Tryz.prog w = .ok zeroRu w := fun w => by kernel_rfl
  obtain ⟨m, hm⟩ : ∃ m, n - k = m + 1 := ⟨n - k - 1, by omega⟩
  rw [hm] at hst ⊢
  simp [Builtin.clear_, run_underlying Tryz.underlying30, hv, hst]

end Go.Proofs.YthpckiobfjdckaaGreat
