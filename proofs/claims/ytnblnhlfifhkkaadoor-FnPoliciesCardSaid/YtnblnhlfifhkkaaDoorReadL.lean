/-
  Chapter 2: a policy read from its lines by the specification.
-/
import Derived.Test.YtnblnhlfifhkkaaDoorReadS
import Derived.Test.YtnblnhlfifhkkaaDoorMarkS
namespace Go.Proofs.YtnblnhlfifhkkaaDoor
open Go.RowKit Go.Shelf

theorem word_at {w : World} {base cap k : Nat} {a : Option Addr} {xs : List ByteArray} (hrow : w.ownsRow base 9 1 (.slice a xs.length cap) xs.length (xs.map Value.string)) (h : k < xs.length) : ∃ g, a = some ⟨g, 0, none⟩ ∧ xs.length ≤ cap ∧ w.cell? ⟨g, k, none⟩ = some (.string xs[k]) := by
  rcases hrow.2 with ⟨h', h''⟩ | ⟨g, c, cur, h', _, _, hc, _⟩
  · injection h' with _ h1 _
    have : xs.length = 0 := by omega
    omega
  · injection h' with h1 _ h2
    subst h1
    subst h2
    exact ⟨g, rfl, hc, row_cell hrow k h⟩
theorem cell_four_r (w : World) (r : Ru) : ∀ j u, r.cells[j]? = some u → (w.alloc (.cells #[.bool r.deny, .string r.who, .string r.method, .string r.path] 43)).cell? ((⟨w.heap.size, 0, none⟩ : Addr).add j) = some u := by
  intro j u hu
  have hj : j < 4 := by have := (List.getElem?_eq_some_iff.1 hu).1; simpa using this
  obtain h | h | h | h : j = 0 ∨ j = 1 ∨ j = 2 ∨ j = 3 := by omega
  all_goals subst h
  all_goals simp at hu
  all_goals subst hu
  all_goals simp [Addr.add]
theorem rd_last {l : List ByteArray} {k : Nat} {acc : List Ru} (h : k + 1 = l.length) : rdL (l.drop k) k acc = if (l[k]'(by omega)).toList.isEmpty = true then (acc, 0, 0) else ([], k + 1, 2) := by
  have hk : k < l.length := by omega
  have : l.drop k = [l[k]] := by
    rw [List.drop_eq_getElem_cons hk, List.drop_eq_nil_of_le (by omega)]
  rw [this]
  rfl
theorem rd_more {l : List ByteArray} {k : Nat} {acc : List Ru} (h : k + 1 < l.length) : rdL (l.drop k) k acc = if ruOk (l[k]'(by omega)) = false then ([], k + 1, 2) else if acc.length = 30 then ([], k + 1, 3) else rdL (l.drop (k + 1)) (k + 1) (acc ++ [ruOf (l[k]'(by omega))]) := by
  have hk : k < l.length := by omega
  rw [List.drop_eq_getElem_cons hk, List.drop_eq_getElem_cons h]
  rfl
theorem ret_three {v : Value} {a b : Int} {t : List Ru × Nat × Nat} (h1 : (t.2.1 : Int) = a) (h2 : (t.2.2 : Int) = b) : Ending.returned (.tuple #[v, .int .i64 a, .int .i64 b]) = .returned (.tuple #[v, .int .i64 t.2.1, .int .i64 t.2.2]) := by rw [h1, h2]

end Go.Proofs.YtnblnhlfifhkkaaDoor
