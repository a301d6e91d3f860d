/-
  Lists of links held against the laws' marks.
-/
import Derived.Deep.RegionHeld3
import Derived.Test.YtecgonopefeplafMarkL
namespace Go.Proofs.Ytecgonopefeplaf
open Go.RowKit Go.Shelf

set_option maxHeartbeats 2000000 in
set_option maxRecDepth 100000 in
theorem heldLinkS_any (v : Value) (n k : Nat) (w : World) (hn : n ≤ 1048577) (hk : k ≤ 1) (hr : LkS w v (mkKs k n)) :
    Calls Try.prog 19 #[v, .int .i64 k] w fun e w' => e = .returned (.int .i64 ((k + 5 * n : Nat) : Int)) ∧ Below w.heap.size w w' := by
  obtain ⟨a, cap, rfl⟩ := hr.len
  have hln := mkKs_len k n
  rw [hln] at hr ⊢
  clear hln
  go_enter Try.func19, Try.ntmps19
  go_wp2
  go_loopw [1, 5] (fun kv i wr => ∃ (j c : Nat), j ≤ n ∧ c = k + 5 * j ∧ kv = .int .i64 c ∧ i = .int .i64 j ∧ Below w.heap.size w wr) (fun _ i _ => n - (intOf i).toNat)
  case atStart => exact ⟨0, k, Nat.zero_le _, by omega, rfl, rfl, Below.refl _ _⟩
  case round =>
    obtain ⟨j, c, hj, hc, rfl, rfl, hB⟩ := hrel
    have HC := hid hc
    clear hc
    have hc9 : c ≤ 8000000 := by have := HC.out; omega
    by_cases hlt : j < n
    · obtain ⟨b, off, rfl, hb, hcap, q0, q1, q2, q3, q4⟩ := (hr.below hB).at (i := j) (by rw [mkKs_len]; exact hlt)
      rw [mkKs_at] at q0 q1 q2 q3 q4
      unfold mkK at q0 q1 q2 q3 q4
      dsimp only at q0 q1 q2 q3 q4
      rw [← HC.out] at q0 q1 q2 q3 q4
      clear hr
      go_wp2_with fail
      go_region_held3 (fun w' => w'.cell? ⟨b, off + j * 5, none⟩ = some (.string (mkT c))) (go_keep) (first | (go_at_call 44; refine (markText_at c _ _ rfl (by omega)).mono ?_; rintro e v1 ⟨rfl, hB1⟩; have r0 := (hB1.cell (p := ⟨b, off + j * 5, none⟩) (by exact hb)).trans (by exact q0); have r1 := (hB1.cell (p := ⟨b, off + j * 5 + 1, none⟩) (by exact hb)).trans (by exact q1); have r2 := (hB1.cell (p := ⟨b, off + j * 5 + 2, none⟩) (by exact hb)).trans (by exact q2); have r3 := (hB1.cell (p := ⟨b, off + j * 5 + 3, none⟩) (by exact hb)).trans (by exact q3); have r4 := (hB1.cell (p := ⟨b, off + j * 5 + 4, none⟩) (by exact hb)).trans (by exact q4); have hb1 := Nat.lt_of_lt_of_le hb hB1.size))
      have hBB1 := below_one hB (below_drew1 hB1)
      clear hB1
      go_wp2_with fail
      go_region_held3 (fun w' => w'.cell? ⟨b, off + j * 5 + 1, none⟩ = some (.string (mkT (c + 1)))) (go_keep) (first | (go_at_call 44; refine (markText_at (c + 1) _ _ (by push_cast; omega) (by omega)).mono ?_; rintro e v2 ⟨rfl, hB2⟩; have t1 := (hB2.cell (p := ⟨b, off + j * 5 + 1, none⟩) (by exact hb1)).trans (by exact r1); have t2 := (hB2.cell (p := ⟨b, off + j * 5 + 2, none⟩) (by exact hb1)).trans (by exact r2); have t3 := (hB2.cell (p := ⟨b, off + j * 5 + 3, none⟩) (by exact hb1)).trans (by exact r3); have t4 := (hB2.cell (p := ⟨b, off + j * 5 + 4, none⟩) (by exact hb1)).trans (by exact r4)))
      have hBB2 := below_one hBB1 (below_drew1 hB2)
      clear hB2
      go_wp2
      go_roundw
      case rel => first | exact ⟨j + 1, c + 5, by omega, by have := HC.out; omega, by go_num, by go_num, hBB2⟩ | ((repeat apply Exists.intro); exact ⟨⟨j + 1, c + 5, by omega, by have := HC.out; omega, by go_num, by go_num, hBB2⟩, rfl⟩)
      case measure => simp [intOf]; omega
    · obtain rfl : j = n := by omega
      go_wp2
      go_ret
      exact ⟨ret_int (by rw [HC.out]), hB⟩

end Go.Proofs.Ytecgonopefeplaf
