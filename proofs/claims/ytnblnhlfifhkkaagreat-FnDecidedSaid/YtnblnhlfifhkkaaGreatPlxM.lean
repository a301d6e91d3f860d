/-
  What the plain policy holds.
-/
import Derived.Test.YtnblnhlfifhkkaaGreatRtM
import Derived.Test.YtnblnhlfifhkkaaGreatPlainI
namespace Go.Proofs.YtnblnhlfifhkkaaGreat

theorem plX_mem {rs : List Ru} (h : polB rs = true) (r : Ru) : r ∈ plX rs ↔ r ∈ rs := by
  rw [plX_yes h, plTo_mem _ (Nat.le_refl _), List.take_length]
theorem plX_pol {rs : List Ru} (h : polB rs = true) : polB (plX rs) = true := by
  obtain ⟨hg, hn⟩ := pol_all h
  unfold polB
  rw [Bool.and_eq_true, List.all_eq_true]
  refine ⟨fun r hr => hg r ((plX_mem h r).1 hr), decide_eq_true ?_⟩
  rw [plX_yes h]
  have := plTo_len rs rs.length (Nat.le_refl _)
  omega
theorem plX_again {rs : List Ru} (h : polB rs = true) : plX (plX rs) = plX rs := by
  rw [plX_yes (plX_pol h), plTo_self (by rw [plX_yes h]; exact plTo_ss (pol_all h).1 _ (Nat.le_refl _)) _ (Nat.le_refl _), List.take_length]

end Go.Proofs.YtnblnhlfifhkkaaGreat
