/-
  The laws' comparison of two lists of links that read alike, and their number of some bytes.
-/
import Derived.Deep.RegionHeld3
import Derived.Test.YtecgonopefeplaaGreatDoorCur
import Derived.Test.YtecgonopefeplaaGreatDoorLinkV
namespace Go.Proofs.YtecgonopefeplaaGreatDoor
open Go.RowKit Go.Shelf

theorem neq_link (k : Lk) (w : World) : (binOp .neq 35 k.val k.val).run Tryz.prog w = .ok (.bool false) w := by
  first | rw [run_neq_struct] | skip
  simp [go_sem, Tryz.underlying35]

set_option maxHeartbeats 2000000 in
theorem sameLinks_any (v v' : Value) (ks : List Lk) (w : World) (_hm : ks.length ≤ 1048577) (hr : LkS w v ks) (hr' : LkS w v' ks) :
    Calls Tryz.prog 10 #[v, v'] w fun e w' => e = .returned (.bool true) ∧ Below w.heap.size w w' := by
  obtain ⟨a, cap, rfl⟩ := hr.len
  obtain ⟨a', cap', rfl⟩ := hr'.len
  have e0 : ((ks.length : Int) != (ks.length : Int)) = false := by simp
  go_enter Tryz.func10, Tryz.ntmps10
  go_wp2
  go_loopw [13] (fun i wr => ∃ k : Nat, k ≤ ks.length ∧ i = .int .i64 k ∧ Below w.heap.size w wr) (fun i _ => ks.length - (intOf i).toNat)
  case atStart => exact ⟨0, Nat.zero_le _, rfl, Below.refl _ _⟩
  case round =>
    obtain ⟨k, hk, rfl, hB⟩ := hrel
    by_cases hlt : k < ks.length
    · obtain ⟨b, off, rfl, hb, hcap, q0, q1, q2, q3, q4⟩ := (hr.below hB).at hlt
      obtain ⟨b', off', rfl, hb', hcap', p0, p1, p2, p3, p4⟩ := (hr'.below hB).at hlt
      generalize ks[k] = r at *
      obtain ⟨rw_, rt, rse, rf, ru⟩ := r
      have hse := neq_link ⟨rw_, rt, rse, rf, ru⟩
      simp only at q0 q1 q2 q3 q4 p0 p1 p2 p3 p4
      go_wp2_with fail
      go_region
      go_wp2
      go_roundw
      case rel => exact ⟨k + 1, by omega, by go_num, hB.drew⟩
      case measure => simp [intOf]; omega
    · obtain rfl : k = ks.length := by omega
      go_wp2
      go_ret
      exact ⟨rfl, hB⟩

theorem num_step (x y : Nat) : ((31 * (x : Int) + (y : Int)) % 1000003) = (((31 * x + y) % 1000003 : Nat) : Int) := by omega

set_option maxHeartbeats 2000000 in
theorem numberOf_any (a : Option Addr) (n c : Nat) (w : World) (hle : n ≤ c) (hB0 : ByS w a n) :
    Calls Tryz.prog 11 #[.slice a n c] w fun e w' => ∃ x : Nat, x ≤ 1000002 ∧ e = .returned (.int .i64 x) ∧ Below w.heap.size w w' := by
  have hn := hB0.len
  go_enter Tryz.func11, Tryz.ntmps11
  go_wp2
  go_loopw [3, 8] (fun nv i wr => ∃ x k : Nat, nv = .int .i64 x ∧ x ≤ 1000002 ∧ k ≤ n ∧ i = .int .i64 k ∧ Below w.heap.size w wr) (fun _ i _ => n - (intOf i).toNat)
  case atStart => exact ⟨0, 0, rfl, by omega, Nat.zero_le _, rfl, Below.refl _ _⟩
  case round =>
    obtain ⟨x, k, rfl, hx, hk, rfl, hB⟩ := hrel
    by_cases hlt : k < n
    · obtain ⟨blk, off, y, rfl, hy, hc⟩ := (hB0.below hB).at_ k hlt
      go_wp2
      go_roundw
      case rel => exact ⟨(31 * x + y) % 1000003, k + 1, by first | (rw [← num_step]; go_num) | (rw [← num_step]), by omega, by omega, by go_num, hB⟩
      case measure => simp [intOf]; omega
    · obtain rfl : k = n := by omega
      go_wp2
      go_ret
      exact ⟨x, hx, rfl, hB⟩

end Go.Proofs.YtecgonopefeplaaGreatDoor
