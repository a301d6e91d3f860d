/-
  Rules and lists of rules held against each other by the laws.
-/
import Derived.Test.YthpckiobfjdckaaGreatRuleS
import Derived.Test.YthpckiobfjdckaaGreatMatchN
namespace Go.Proofs.YthpckiobfjdckaaGreat
open Go.RowKit Go.Shelf

def Ru.same (r s : Ru) : Bool := ((r.deny == s.deny && eqB r.who s.who) && eqB r.method s.method) && eqB r.path s.path
theorem Ru.same_refl (r : Ru) : r.same r = true := by simp [Ru.same, eqB]

set_option maxHeartbeats 1000000 in
theorem eqRule_any (r s : Ru) (w : World) :
    Calls Tryz.prog 84 #[r.val, s.val] w fun e w' => e = .returned (.bool (r.same s)) ∧ Below w.heap.size w w' := by
  cases b0 : r.deny == s.deny
  · have e0 : (r.deny == s.deny) = false := b0
    have HR := hid (show r.same s = false by unfold Ru.same; rw [b0]; rfl)
    clear b0
    go_enter Tryz.func84, Tryz.ntmps84
    go_wp2
    go_ret
    exact ⟨ret_bool HR.out.symm, ((Below.refl _ w).alloc (Nat.le_refl _) _).alloc (by simp) _⟩
  · have e0 : (r.deny == s.deny) = true := b0
    cases b1 : eqB r.who s.who
    · have e1 : (r.who.toList == s.who.toList) = false := b1
      have HR := hid (show r.same s = false by unfold Ru.same; rw [b0, b1]; rfl)
      clear b0 b1
      go_enter Tryz.func84, Tryz.ntmps84
      go_wp2
      go_ret
      exact ⟨ret_bool HR.out.symm, ((Below.refl _ w).alloc (Nat.le_refl _) _).alloc (by simp) _⟩
    · have e1 : (r.who.toList == s.who.toList) = true := b1
      cases b2 : eqB r.method s.method
      · have e2 : (r.method.toList == s.method.toList) = false := b2
        have HR := hid (show r.same s = false by unfold Ru.same; rw [b0, b1, b2]; rfl)
        clear b0 b1 b2
        go_enter Tryz.func84, Tryz.ntmps84
        go_wp2
        go_ret
        exact ⟨ret_bool HR.out.symm, ((Below.refl _ w).alloc (Nat.le_refl _) _).alloc (by simp) _⟩
      · have e2 : (r.method.toList == s.method.toList) = true := b2
        cases b3 : eqB r.path s.path
        · have e3 : (r.path.toList == s.path.toList) = false := b3
          have HR := hid (show r.same s = false by unfold Ru.same; rw [b0, b1, b2, b3]; rfl)
          clear b0 b1 b2 b3
          go_enter Tryz.func84, Tryz.ntmps84
          go_wp2
          go_ret
          exact ⟨ret_bool HR.out.symm, ((Below.refl _ w).alloc (Nat.le_refl _) _).alloc (by simp) _⟩
        · have e3 : (r.path.toList == s.path.toList) = true := b3
          have HR := hid (show r.same s = true by unfold Ru.same; rw [b0, b1, b2, b3]; rfl)
          clear b0 b1 b2 b3
          go_enter Tryz.func84, Tryz.ntmps84
          go_wp2
          go_ret
          exact ⟨ret_bool HR.out.symm, ((Below.refl _ w).alloc (Nat.le_refl _) _).alloc (by simp) _⟩


def sameTo (rs ss : List Ru) (k : Nat) : Bool := ((rs.zip ss).take k).all (fun q => q.1.same q.2)
def sameS (rs ss : List Ru) : Bool := decide (rs.length = ss.length) && (rs.zip ss).all (fun q => q.1.same q.2)
theorem sameTo_zero (rs ss : List Ru) : sameTo rs ss 0 = true := by simp [sameTo]
theorem sameTo_succ {rs ss : List Ru} {k : Nat} (h : k < rs.length) (h' : k < ss.length) : sameTo rs ss (k + 1) = (sameTo rs ss k && rs[k].same ss[k]) := by
  unfold sameTo
  rw [List.take_succ_eq_append_getElem (by rw [List.length_zip]; omega), List.all_append]
  simp
theorem same_bad {rs ss : List Ru} {k : Nat} (hb : sameTo rs ss (k + 1) = false) : sameS rs ss = false := by
  unfold sameTo at hb
  rw [List.all_eq_false] at hb
  obtain ⟨x, hx, hn⟩ := hb
  unfold sameS
  rw [Bool.and_eq_false_iff]
  exact .inr (List.all_eq_false.2 ⟨x, List.mem_of_mem_take hx, hn⟩)
theorem same_end {rs ss : List Ru} (h : rs.length = ss.length) : sameTo rs ss rs.length = sameS rs ss := by
  unfold sameTo sameS
  rw [List.take_of_length_le (by rw [List.length_zip]; omega), decide_eq_true h, Bool.true_and]
theorem sameS_refl (rs : List Ru) : sameS rs rs = true := by
  unfold sameS
  rw [decide_eq_true rfl, Bool.true_and, List.all_eq_true]
  intro x hx
  have := List.of_mem_zip hx
  obtain ⟨i, hi, he⟩ := List.getElem_of_mem hx
  rw [List.getElem_zip] at he
  rw [← he]
  exact Ru.same_refl _

set_option maxHeartbeats 2000000 in
theorem eqRuleS_any (v v' : Value) (rs ss : List Ru) (w : World) (_hm : rs.length ≤ 1048577) (hm' : ss.length ≤ 1048577) (hr : RuS w v rs) (hr' : RuS w v' ss) :
    Calls Tryz.prog 45 #[v, v'] w fun e w' => e = .returned (.bool (sameS rs ss)) ∧ Below w.heap.size w w' := by
  obtain ⟨a, cap, rfl⟩ := hr.len
  obtain ⟨a', cap', rfl⟩ := hr'.len
  by_cases hl : rs.length = ss.length
  · have e0 : ((rs.length : Int) != (ss.length : Int)) = false := by simp; omega
    have hl1 : rs.length ≤ ss.length := by omega
    have HL := hid hl
    clear hl
    go_enter Tryz.func45, Tryz.ntmps45
    go_wp2
    go_loopw [5] (fun i wr => ∃ k : Nat, k ≤ rs.length ∧ i = .int .i64 k ∧ sameTo rs ss k = true ∧ Below w.heap.size w wr) (fun i _ => rs.length - (intOf i).toNat)
    case atStart => exact ⟨0, Nat.zero_le _, rfl, sameTo_zero _ _, Below.refl _ _⟩
    case round =>
      obtain ⟨k, hk, rfl, hs, hB⟩ := hrel
      have HS := hid hs
      clear hs
      by_cases hlt : k < rs.length
      · have hlt' : k < ss.length := by omega
        obtain ⟨b, off, rfl, hb, hcap, q0, q1, q2, q3⟩ := (hr.below hB).at hlt
        obtain ⟨b', off', rfl, hb', hcap', p0, p1, p2, p3⟩ := (hr'.below hB).at hlt'
        have HT := hid (sameTo_succ hlt hlt')
        generalize rs[k] = r at *
        generalize ss[k] = s at *
        cases hq : r.same s
        · have HR := hid (show sameS rs ss = false from same_bad (by rw [HT.out, hq, Bool.and_false]))
          go_wp2_with fail
          go_region_with (go_at_call 84; refine (eqRule_any r s _).mono ?_; rintro e w1 ⟨rfl, hB1⟩)
          all_goals go_wp2
          all_goals go_ret
          all_goals exact ⟨ret_bool HR.out.symm, below_one hB (below_drew1 hB1)⟩
        · have HR := hid (show sameTo rs ss (k + 1) = true by rw [HT.out, HS.out, hq]; rfl)
          go_wp2_with fail
          go_region_with (go_at_call 84; refine (eqRule_any r s _).mono ?_; rintro e w1 ⟨rfl, hB1⟩)
          all_goals go_wp2
          all_goals go_roundw
          all_goals first
            | exact ⟨k + 1, by omega, by go_num, HR.out, below_one hB (below_drew1 hB1)⟩
            | (simp [intOf]; omega)
      · obtain rfl : k = rs.length := by omega
        have HR := hid (show sameS rs ss = true by rw [← same_end HL.out]; exact HS.out)
        go_wp2
        go_ret
        exact ⟨ret_bool HR.out.symm, hB⟩
  · have e0 : ((rs.length : Int) != (ss.length : Int)) = true := by simp; omega
    have HR := hid (show sameS rs ss = false by unfold sameS; rw [decide_eq_false hl]; rfl)
    clear hl
    go_enter Tryz.func45, Tryz.ntmps45
    go_wp2
    go_ret
    exact ⟨ret_bool HR.out.symm, Below.refl _ _⟩

end Go.Proofs.YthpckiobfjdckaaGreat
