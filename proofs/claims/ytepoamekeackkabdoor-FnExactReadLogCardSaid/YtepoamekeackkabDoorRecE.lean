/-
  Lists of records held against each other by the laws, where both are alike.
-/
import Derived.Test.YtepoamekeackkabDoorRecV
namespace Go.Proofs.YtepoamekeackkabDoor
open Go.RowKit Go.Shelf

set_option maxHeartbeats 1000000 in
theorem eqRecord_same (r : Rc) (w : World) :
    Calls Tryd.prog 17 #[r.val, r.val] w fun e w' => e = .returned (.bool true) ∧ Below w.heap.size w w' := by
  have e0 : (r.num != r.num) = false := by simp
  have e1 : (r.note.toList == r.note.toList) = true := by simp
  have e2 : ((r.su : Int) != (r.su : Int)) = false := by simp
  go_enter Tryd.func17, Tryd.ntmps17
  go_wp2
  go_ret
  exact ⟨rfl, ((Below.refl _ w).alloc (Nat.le_refl _) _).alloc (by simp) _⟩

set_option maxHeartbeats 2000000 in
/-- A list of records is like itself, wherever the two lie. -/
theorem eqRecordS_same (v v' : Value) (ks : List Rc) (w : World) (hn : ks.length ≤ 1048577) (hr : RcS w v ks) (hr' : RcS w v' ks) :
    Calls Tryd.prog 6 #[v, v'] w fun e w' => e = .returned (.bool true) ∧ Below w.heap.size w w' := by
  obtain ⟨a, cap, rfl⟩ := hr.len
  obtain ⟨a', cap', rfl⟩ := hr'.len
  have e0 : ((ks.length : Int) != (ks.length : Int)) = false := by simp
  go_enter Tryd.func6, Tryd.ntmps6
  go_wp2
  go_loopw [5] (fun i wr => ∃ j : Nat, j ≤ ks.length ∧ i = .int .i64 j ∧ Below w.heap.size w wr) (fun i _ => ks.length - (intOf i).toNat)
  case atStart => exact ⟨0, Nat.zero_le _, rfl, Below.refl _ _⟩
  case round =>
    obtain ⟨j, hj, rfl, hB⟩ := hrel
    by_cases hlt : j < ks.length
    · obtain ⟨b, off, rfl, hb, hcap, q0, q1, q2⟩ := (hr.below hB).at hlt
      obtain ⟨b', off', rfl, hb', hcap', p0, p1, p2⟩ := (hr'.below hB).at hlt
      generalize ks[j] = r at *
      go_wp2_with fail
      go_region_with (go_at_call 17; refine (eqRecord_same r _).mono ?_; rintro e w1 ⟨rfl, hB1⟩)
      all_goals go_wp2
      all_goals go_roundw
      all_goals first
        | exact ⟨j + 1, by omega, by go_num, below_one hB (below_drew1 hB1)⟩
        | (simp [intOf]; omega)
    · obtain rfl : j = ks.length := by omega
      go_wp2
      go_ret
      exact ⟨rfl, hB⟩

end Go.Proofs.YtepoamekeackkabDoor
