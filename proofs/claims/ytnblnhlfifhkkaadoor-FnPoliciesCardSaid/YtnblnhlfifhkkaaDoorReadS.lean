/-
  Chapter 2: a rule read from its text by the specification.
-/
import Derived.Test.YtnblnhlfifhkkaaDoorReadW
namespace Go.Proofs.YtnblnhlfifhkkaaDoor
open Go.RowKit Go.Shelf

theorem words_row {w : World} {base : Nat} {v : Value} {a b c d : ByteArray} (h : w.ownsRow base 9 1 v 4 ([a, b, c, d].map Value.string)) : ∃ g cap, v = .slice (some ⟨g, 0, none⟩) 4 cap ∧ 4 ≤ cap ∧ g < w.heap.size ∧ w.cell? ⟨g, 0, none⟩ = some (.string a) ∧ w.cell? ⟨g, 1, none⟩ = some (.string b) ∧ w.cell? ⟨g, 2, none⟩ = some (.string c) ∧ w.cell? ⟨g, 3, none⟩ = some (.string d) := by
  rcases h.2 with ⟨_, h'⟩ | ⟨g, cap, cur, rfl, _, hb, hc, _⟩
  · cases h'
  · exact ⟨g, cap, rfl, hc, (Array.getElem?_eq_some_iff.1 hb).1, by rw [h.cellAt 0 (by omega)]; rfl, by rw [h.cellAt 1 (by omega)]; rfl, by rw [h.cellAt 2 (by omega)]; rfl, by rw [h.cellAt 3 (by omega)]; rfl⟩

end Go.Proofs.YtnblnhlfifhkkaaDoor
