/-
  The laws' comparison of two lists of links that read alike, and their number of some bytes.
-/
import Derived.Deep.RegionHeld3
import Derived.Test.YtepoamekeackkaaDoorCur
import Derived.Test.YtepoamekeackkaaDoorLinkV
namespace Go.Proofs.YtepoamekeackkaaDoor
open Go.RowKit Go.Shelf

theorem num_step (x y : Nat) : ((31 * (x : Int) + (y : Int)) % 1000003) = (((31 * x + y) % 1000003 : Nat) : Int) := by omega

set_option maxHeartbeats 2000000 in
theorem numberOf_any (a : Option Addr) (n c : Nat) (w : World) (hle : n ≤ c) (hB0 : ByS w a n) :
    Calls Tryd.prog 14 #[.slice a n c] w fun e w' => ∃ x : Nat, x ≤ 1000002 ∧ e = .returned (.int .i64 x) ∧ Below w.heap.size w w' := by
  have hn := hB0.len
  go_enter Tryd.func14, Tryd.ntmps14
  go_wp2
  go_loopw [3, 8] (fun nv i wr => ∃ x k : Nat, nv = .int .i64 x ∧ x ≤ 1000002 ∧ k ≤ n ∧ i = .int .i64 k ∧ Below w.heap.size w wr) (fun _ i _ => n - (intOf i).toNat)
  case atStart => exact ⟨0, 0, rfl, by omega, Nat.zero_le _, rfl, Below.refl _ _⟩
  case round =>
    obtain ⟨x, k, rfl, hx, hk, rfl, hB⟩ := hrel
    by_cases hlt : k < n
    · obtain ⟨blk, off, y, rfl, hy, hc⟩ := (hB0.below hB).at_ k hlt
      go_wp2
      go_roundw
      case rel => exact ⟨(31 * x + y) % 1000003, k + 1, by first | (rw [← num_step]; go_num) | (rw [← num_step]), by omega, by omega, by go_num, hB⟩
      case measure => simp [intOf]; omega
    · obtain rfl : k = n := by omega
      go_wp2
      go_ret
      exact ⟨x, hx, rfl, hB⟩

end Go.Proofs.YtepoamekeackkaaDoor
