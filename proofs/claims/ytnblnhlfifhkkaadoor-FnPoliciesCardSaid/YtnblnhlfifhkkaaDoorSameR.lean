/-
  The laws' comparison of two lists of rules, where they read alike.
-/
import Derived.Deep.RegionHeld3
import Derived.Test.YtnblnhlfifhkkaaDoorCurL
namespace Go.Proofs.YtnblnhlfifhkkaaDoor
open Go.RowKit Go.Shelf

theorem neq_rule (r : Ru) (w : World) : (binOp .neq 43 r.val r.val).run Tryd.prog w = .ok (.bool false) w := by
  first | rw [run_neq_struct] | skip
  simp [go_sem, Tryd.underlying43]

set_option maxHeartbeats 2000000 in
theorem sameRules_any (v v' : Value) (rs : List Ru) (w : World) (_hm : rs.length ≤ 1048577) (hr : RuS w v rs) (hr' : RuS w v' rs) :
    Calls Tryd.prog 9 #[v, v'] w fun e w' => e = .returned (.bool true) ∧ Below w.heap.size w w' := by
  obtain ⟨a, cap, rfl⟩ := hr.len
  obtain ⟨a', cap', rfl⟩ := hr'.len
  have e0 : ((rs.length : Int) != (rs.length : Int)) = false := by simp
  go_enter Tryd.func9, Tryd.ntmps9
  go_wp2
  go_loopw [13] (fun i wr => ∃ k : Nat, k ≤ rs.length ∧ i = .int .i64 k ∧ Below w.heap.size w wr) (fun i _ => rs.length - (intOf i).toNat)
  case atStart => exact ⟨0, Nat.zero_le _, rfl, Below.refl _ _⟩
  case round =>
    obtain ⟨k, hk, rfl, hB⟩ := hrel
    by_cases hlt : k < rs.length
    · obtain ⟨b, off, rfl, hb, hcap, q0, q1, q2, q3⟩ := (hr.below hB).at hlt
      obtain ⟨b', off', rfl, hb', hcap', p0, p1, p2, p3⟩ := (hr'.below hB).at hlt
      generalize rs[k] = r at *
      obtain ⟨rd, rwh, rme, rpa⟩ := r
      have hse := neq_rule ⟨rd, rwh, rme, rpa⟩
      simp only at q0 q1 q2 q3 p0 p1 p2 p3
      go_wp2_with fail
      go_region
      go_wp2
      go_roundw
      case rel => exact ⟨k + 1, by omega, by go_num, hB.drew⟩
      case measure => simp [intOf]; omega
    · obtain rfl : k = rs.length := by omega
      go_wp2
      go_ret
      exact ⟨rfl, hB⟩

set_option maxHeartbeats 1000000 in
theorem drawPT_any (a : Option Addr) (n c : Nat) (w : World) (hle : n ≤ c) (hB : ByS w a n) (hap : ∀ p, a = some p → p.block < w.heap.size) :
    Calls Tryd.prog 4 #[.slice a n c] w fun e w' => ∃ (v : Value) (rs : List Ru), e = .returned v ∧ rs.length ≤ 64 ∧ (∀ r ∈ rs, r.size ≤ 300) ∧ w'.ownsRow w.heap.size 43 4 v rs.length (rs.flatMap Ru.cells) ∧ Below w.heap.size w w' := by
  have hBl : Below w.heap.size w (w.alloc (.cells #[.slice a n c, .int .i64 0, .int .u64 0] 36)) := (Below.refl _ w).alloc (Nat.le_refl _) _
  have hC0 : CurB (w.alloc (.cells #[.slice a n c, .int .i64 0, .int .u64 0] 36)) w.heap.size a n c 0 := ⟨hle, by simp, by simp, ⟨0, by simp⟩, by simp, by simp, hap⟩
  have hB0 := hB.below hBl
  go_enter Tryd.func4, Tryd.ntmps4
  go_wp2_with fail
  refine (drawPolicy_any w.heap.size a n c 0 _ hB0 hC0 (by omega)).mono ?_
  rintro e w1 ⟨v, rs, q, rfl, hlen, _, hP⟩
  have hBB : Below w.heap.size w w1 := hBl.grown hP.gr hBl.size (fun k hk => by cases hk; exact Nat.le_refl _)
  obtain ⟨ao, capo, rfl⟩ := ownsRow_len hP.row
  go_wp2_with fail
  go_ret
  exact ⟨_, rs, rfl, hlen, hP.small, Go.Joins.ownsRow_le hP.row (by simp), hBB⟩

end Go.Proofs.YtnblnhlfifhkkaaDoor
