/-
  Chapter 2's policies by the specification: which lists of rules are policies.
-/
import Derived.Test.YthpckiobfjdckaaGreatRuleE
namespace Go.Proofs.YthpckiobfjdckaaGreat
open Go.RowKit Go.Shelf

def goodTo (rs : List Ru) (k : Nat) : Bool := (rs.take k).all Ru.good
/-- A list of rules is a policy. -/
def polB (rs : List Ru) : Bool := rs.all Ru.good && decide (rs.length ≤ 30)
theorem goodTo_zero (rs : List Ru) : goodTo rs 0 = true := by simp [goodTo]
theorem goodTo_succ {rs : List Ru} {k : Nat} (h : k < rs.length) : goodTo rs (k + 1) = (goodTo rs k && rs[k].good) := by
  unfold goodTo
  rw [List.take_succ_eq_append_getElem h, List.all_append]
  simp
theorem good_bad {rs : List Ru} {k : Nat} (h : k < rs.length) (hb : rs[k].good = false) : polB rs = false := by
  unfold polB
  rw [Bool.and_eq_false_iff]
  exact .inl (List.all_eq_false.2 ⟨rs[k], List.getElem_mem h, by simp [hb]⟩)
theorem good_end {rs : List Ru} (h : goodTo rs rs.length = true) : polB rs = decide (rs.length ≤ 30) := by
  unfold goodTo at h
  rw [List.take_length] at h
  unfold polB
  rw [h, Bool.true_and]

set_option maxHeartbeats 1000000 in
theorem l2Good_any (v : Value) (rs : List Ru) (w : World) (hm : rs.length ≤ 1048577) (hf : ∀ r ∈ rs, r.size ≤ 1048576) (hr : RuS w v rs) :
    Calls Tryz.prog 60 #[v] w fun e w' => e = .returned (.bool (polB rs)) ∧ Below w.heap.size w w' := by
  obtain ⟨a, cap, rfl⟩ := hr.len
  go_enter Tryz.func60, Tryz.ntmps60
  go_wp2
  go_loopw [7] (fun i wr => ∃ k : Nat, k ≤ rs.length ∧ i = .int .i64 k ∧ goodTo rs k = true ∧ Below w.heap.size w wr) (fun i _ => rs.length - (intOf i).toNat)
  case atStart => exact ⟨0, Nat.zero_le _, rfl, goodTo_zero _, Below.refl _ _⟩
  case round =>
    obtain ⟨k, hk, rfl, hs, hB⟩ := hrel
    have HS := hid hs
    clear hs
    by_cases hlt : k < rs.length
    · obtain ⟨b, off, rfl, hb, hcap, q0, q1, q2, q3⟩ := (hr.below hB).at hlt
      have hz := hf rs[k] (List.getElem_mem hlt)
      have HT := hid (goodTo_succ hlt)
      have HQ := hid (fun h => good_bad hlt h)
      generalize rs[k] = r at *
      have hw : r.who.size ≤ 1048576 := by unfold Ru.size at hz; omega
      have hp : r.path.size ≤ 1048576 := by unfold Ru.size at hz; omega
      have hBa : Below w.heap.size w (wr.alloc (.cells #[.bool r.deny, .string r.who, .string r.method, .string r.path] 63)) := hB.alloc hB.size _
      cases hg : r.good
      · have HR := hid (HQ.out hg)
        go_wp2_with (go_at_call 87; refine (specGoodRule_any r _ hw hp).mono ?_; rintro e w1 ⟨rfl, hB1⟩)
        go_ret
        exact ⟨ret_bool HR.out.symm, below_one hBa hB1⟩
      · have HR := hid (show goodTo rs (k + 1) = true by rw [HT.out, HS.out, hg]; rfl)
        go_wp2_with (go_at_call 87; refine (specGoodRule_any r _ hw hp).mono ?_; rintro e w1 ⟨rfl, hB1⟩)
        go_roundw
        case rel => exact ⟨k + 1, by omega, by go_num, HR.out, below_one hBa hB1⟩
        case measure => simp [intOf]; omega
    · obtain rfl : k = rs.length := by omega
      have HR := hid (good_end HS.out)
      go_wp2
      go_ret
      exact ⟨ret_bool (by rw [HR.out]; exact decide_eq_decide.2 (by omega)), hB⟩

end Go.Proofs.YthpckiobfjdckaaGreat
