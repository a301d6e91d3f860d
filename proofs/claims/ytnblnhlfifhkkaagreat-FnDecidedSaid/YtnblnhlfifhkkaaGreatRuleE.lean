/-
  Rules and lists of rules held against each other by the laws.
-/
import Derived.Test.YtnblnhlfifhkkaaGreatRuleS
import Derived.Test.YtnblnhlfifhkkaaGreatMatchN
namespace Go.Proofs.YtnblnhlfifhkkaaGreat
open Go.RowKit Go.Shelf

def Ru.same (r s : Ru) : Bool := ((r.deny == s.deny && eqB r.who s.who) && eqB r.method s.method) && eqB r.path s.path
theorem Ru.same_refl (r : Ru) : r.same r = true := by simp [Ru.same, eqB]

theorem below_drew1 {W w1 : World} (h : Below W.heap.size W.drew w1) : Below W.heap.size W w1 := (Below.refl W.heap.size W).drew.trans h

def sameTo (rs ss : List Ru) (k : Nat) : Bool := ((rs.zip ss).take k).all (fun q => q.1.same q.2)
def sameS (rs ss : List Ru) : Bool := decide (rs.length = ss.length) && (rs.zip ss).all (fun q => q.1.same q.2)
theorem sameTo_zero (rs ss : List Ru) : sameTo rs ss 0 = true := by simp [sameTo]
theorem sameTo_succ {rs ss : List Ru} {k : Nat} (h : k < rs.length) (h' : k < ss.length) : sameTo rs ss (k + 1) = (sameTo rs ss k && rs[k].same ss[k]) := by
  unfold sameTo
  rw [List.take_succ_eq_append_getElem (by rw [List.length_zip]; omega), List.all_append]
  simp
theorem same_bad {rs ss : List Ru} {k : Nat} (hb : sameTo rs ss (k + 1) = false) : sameS rs ss = false := by
  unfold sameTo at hb
  rw [List.all_eq_false] at hb
  obtain ⟨x, hx, hn⟩ := hb
  unfold sameS
  rw [Bool.and_eq_false_iff]
  exact .inr (List.all_eq_false.2 ⟨x, List.mem_of_mem_take hx, hn⟩)
theorem same_end {rs ss : List Ru} (h : rs.length = ss.length) : sameTo rs ss rs.length = sameS rs ss := by
  unfold sameTo sameS
  rw [List.take_of_length_le (by rw [List.length_zip]; omega), decide_eq_true h, Bool.true_and]
theorem sameS_refl (rs : List Ru) : sameS rs rs = true := by
  unfold sameS
  rw [decide_eq_true rfl, Bool.true_and, List.all_eq_true]
  intro x hx
  have := List.of_mem_zip hx
  obtain ⟨i, hi, he⟩ := List.getElem_of_mem hx
  rw [List.getElem_zip] at he
  rw [← he]
  exact Ru.same_refl _

end Go.Proofs.YtnblnhlfifhkkaaGreat
