/-
  Chapter 2's NeverCounts by the specification.
-/
import Derived.Test.YtnblnhlfifhkkaaGreatPoli
import Derived.Test.YtnblnhlfifhkkaaGreatCovP
namespace Go.Proofs.YtnblnhlfifhkkaaGreat
open Go.RowKit Go.Shelf

def inB (n lo hi : Int) : Bool := decide (lo ≤ n) && decide (n ≤ hi)

set_option maxHeartbeats 400000 in
theorem l1In_any (n lo hi : Int) (w : World) :
    Calls Tryz.prog 78 #[.int .i64 n, .int .i64 lo, .int .i64 hi] w fun e w' => e = .returned (.bool (inB n lo hi)) ∧ w' = w := by
  by_cases h : lo ≤ n
  · have HR := hid (show inB n lo hi = decide (n ≤ hi) by unfold inB; rw [decide_eq_true h]; rfl)
    go_enter Tryz.func78, Tryz.ntmps78
    go_wp2
    go_ret
    exact ⟨ret_bool HR.out.symm, rfl⟩
  · have HR := hid (show inB n lo hi = false by unfold inB; rw [decide_eq_false h]; rfl)
    go_enter Tryz.func78, Tryz.ntmps78
    go_wp2
    go_ret
    exact ⟨ret_bool HR.out.symm, rfl⟩

/-- One rule covers another. -/
def covB (o r : Ru) : Bool := ((mnB (split o.who 47) (split r.who 47) && lcB 6 (wL o.path) (wL r.path)) && (starB o.method || eqB o.method r.method)) && (o.deny || !r.deny)
/-- The rule at i takes the place of the one at k. -/
def ncAt (rs : List Ru) (k i : Nat) : Bool := match rs[i]?, rs[k]? with
  | some o, some r => (!(decide (i = k) || (decide (k < i) && o.same r))) && covB o r
  | _, _ => false
def ncTo (rs : List Ru) (k m : Nat) : Bool := (List.range m).any (ncAt rs k)

theorem pol_nm' {rs : List Ru} (h : polB rs = true) : ∀ r ∈ rs, nmB (split r.who 47) = true := by
  unfold polB at h
  rw [Bool.and_eq_true, List.all_eq_true] at h
  intro r hr
  have := h.1 r hr
  unfold Ru.good at this
  simp only [Bool.and_eq_true] at this
  exact this.1.1
def ncOk (rs : List Ru) (k : Int) : Bool := polB rs && inB k 0 ((rs.length : Int) - 1)
def ncB (rs : List Ru) (k : Int) : Bool := ncOk rs k && ncTo rs k.toNat rs.length
theorem ncTo_zero (rs : List Ru) (k : Nat) : ncTo rs k 0 = false := by simp [ncTo]
theorem ncTo_succ (rs : List Ru) (k m : Nat) : ncTo rs k (m + 1) = (ncTo rs k m || ncAt rs k m) := by
  unfold ncTo
  rw [List.range_succ, List.any_append]
  simp
theorem ncAt_lt {rs : List Ru} {k i : Nat} (hi : i < rs.length) (hk : k < rs.length) : ncAt rs k i = ((!(decide (i = k) || (decide (k < i) && rs[i].same rs[k]))) && covB rs[i] rs[k]) := by
  unfold ncAt
  rw [List.getElem?_eq_getElem hi, List.getElem?_eq_getElem hk]
theorem nc_hit {rs : List Ru} {k i : Nat} (hi : i < rs.length) (h : ncAt rs k i = true) : ncTo rs k rs.length = true := by
  unfold ncTo
  rw [List.any_eq_true]
  exact ⟨i, List.mem_range.2 hi, h⟩

theorem eq_rule (o r : Ru) (w : World) : (binOp .eql 52 o.val r.val).run Tryz.prog w = .ok (.bool (o.same r)) w := by
  rw [run_eql_struct]
  simp [go_sem, Tryz.underlying52]
  unfold Ru.same eqB
  repeat' split
  all_goals simp_all

end Go.Proofs.YtnblnhlfifhkkaaGreat
