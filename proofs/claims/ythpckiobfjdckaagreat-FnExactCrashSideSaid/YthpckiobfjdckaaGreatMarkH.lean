/-
  Lists held against the laws' marks; lists of numbers marked, held and compared.
-/
import Derived.Deep.RegionHeld3
import Derived.Test.YthpckiobfjdckaaGreatMarkS
namespace Go.Proofs.YthpckiobfjdckaaGreat
open Go.RowKit Go.Shelf

set_option maxHeartbeats 2000000 in
set_option maxRecDepth 100000 in
theorem heldRuleS_to (v : Value) (n k : Nat) (w : World) (hn : n ≤ 1048577) (hk : k + 4 * n ≤ 8000000) (hr : RuS w v (mkL k n)) :
    Calls Tryz.prog 47 #[v, .int .i64 k] w fun e w' => e = .returned (.int .i64 ((k + 4 * n : Nat) : Int)) ∧ Below w.heap.size w w' := by
  obtain ⟨a, cap, rfl⟩ := hr.len
  have hln := mkL_len k n
  rw [hln] at hr ⊢
  clear hln
  go_enter Tryz.func47, Tryz.ntmps47
  go_wp2
  go_loopw [1, 5] (fun kv i wr => ∃ (j c : Nat), j ≤ n ∧ c = k + 4 * j ∧ kv = .int .i64 c ∧ i = .int .i64 j ∧ Below w.heap.size w wr) (fun _ i _ => n - (intOf i).toNat)
  case atStart => exact ⟨0, k, Nat.zero_le _, by omega, rfl, rfl, Below.refl _ _⟩
  case round =>
    obtain ⟨j, c, hj, hc, rfl, rfl, hB⟩ := hrel
    have HC := hid hc
    clear hc
    have hc9 : c ≤ 8000000 := by have := HC.out; omega
    by_cases hlt : j < n
    · obtain ⟨b, off, rfl, hb, hcap, q0, q1, q2, q3⟩ := (hr.below hB).at (k := j) (by rw [mkL_len]; exact hlt)
      rw [mkL_at] at q0 q1 q2 q3
      unfold mkR at q0 q1 q2 q3
      dsimp only at q0 q1 q2 q3
      rw [← HC.out] at q0 q1 q2 q3
      clear hr
      cases hq : ((c : Int) % 3 == 0)
      · rw [hq] at q0
        go_wp2_with fail
        go_region_held3 (fun w' => w'.cell? ⟨b, off + j * 4 + 1, none⟩ = some (.string (mkT (c + 1))) ∧ w'.cell? ⟨b, off + j * 4 + 2, none⟩ = some (.string (mkT (c + 2))) ∧ w'.cell? ⟨b, off + j * 4 + 3, none⟩ = some (.string (mkT (c + 3)))) (go_keep) (first | (go_at_call 85; refine (markText_at (c + 1) _ _ (by push_cast; omega) (by omega)).mono ?_; rintro e v1 ⟨rfl, hB1⟩; have r11 := (hB1.cell (p := ⟨b, off + j * 4 + 1, none⟩) (by exact hb)).trans (by exact q1); have r21 := (hB1.cell (p := ⟨b, off + j * 4 + 2, none⟩) (by exact hb)).trans (by exact q2); have r31 := (hB1.cell (p := ⟨b, off + j * 4 + 3, none⟩) (by exact hb)).trans (by exact q3); have hb1 := Nat.lt_of_lt_of_le hb hB1.size))
        have hBB1 := below_one hB (below_drew1 hB1)
        clear hB1
        go_wp2_with fail
        go_region_held3 (fun w' => w'.cell? ⟨b, off + j * 4 + 2, none⟩ = some (.string (mkT (c + 2))) ∧ w'.cell? ⟨b, off + j * 4 + 3, none⟩ = some (.string (mkT (c + 3)))) (go_keep) (first | (go_at_call 85; refine (markText_at (c + 2) _ _ (by push_cast; omega) (by omega)).mono ?_; rintro e v2 ⟨rfl, hB2⟩; have r22 := (hB2.cell (p := ⟨b, off + j * 4 + 2, none⟩) (by exact hb1)).trans (by exact r21); have r32 := (hB2.cell (p := ⟨b, off + j * 4 + 3, none⟩) (by exact hb1)).trans (by exact r31); have hb2 := Nat.lt_of_lt_of_le hb1 hB2.size))
        have hBB2 := below_one hBB1 (below_drew1 hB2)
        clear hB2
        go_wp2_with fail
        go_region_held3 (fun w' => w'.cell? ⟨b, off + j * 4 + 3, none⟩ = some (.string (mkT (c + 3)))) (go_keep) (first | (go_at_call 85; refine (markText_at (c + 3) _ _ (by push_cast; omega) (by omega)).mono ?_; rintro e v3 ⟨rfl, hB3⟩; have r33 := (hB3.cell (p := ⟨b, off + j * 4 + 3, none⟩) (by exact hb2)).trans (by exact r32); have hb3 := Nat.lt_of_lt_of_le hb2 hB3.size))
        have hBB3 := below_one hBB2 (below_drew1 hB3)
        clear hB3
        go_wp2_with fail
        go_roundw
        case rel => first | exact ⟨j + 1, c + 4, by omega, by have := HC.out; omega, by go_num, by go_num, hBB3⟩ | ((repeat apply Exists.intro); exact ⟨⟨j + 1, c + 4, by omega, by have := HC.out; omega, by go_num, by go_num, hBB3⟩, rfl⟩)
        case measure => simp [intOf]; omega
      · rw [hq] at q0
        go_wp2_with fail
        go_region_held3 (fun w' => w'.cell? ⟨b, off + j * 4 + 1, none⟩ = some (.string (mkT (c + 1))) ∧ w'.cell? ⟨b, off + j * 4 + 2, none⟩ = some (.string (mkT (c + 2))) ∧ w'.cell? ⟨b, off + j * 4 + 3, none⟩ = some (.string (mkT (c + 3)))) (go_keep) (first | (go_at_call 85; refine (markText_at (c + 1) _ _ (by push_cast; omega) (by omega)).mono ?_; rintro e v1 ⟨rfl, hB1⟩; have r11 := (hB1.cell (p := ⟨b, off + j * 4 + 1, none⟩) (by exact hb)).trans (by exact q1); have r21 := (hB1.cell (p := ⟨b, off + j * 4 + 2, none⟩) (by exact hb)).trans (by exact q2); have r31 := (hB1.cell (p := ⟨b, off + j * 4 + 3, none⟩) (by exact hb)).trans (by exact q3); have hb1 := Nat.lt_of_lt_of_le hb hB1.size))
        have hBB1 := below_one hB (below_drew1 hB1)
        clear hB1
        go_wp2_with fail
        go_region_held3 (fun w' => w'.cell? ⟨b, off + j * 4 + 2, none⟩ = some (.string (mkT (c + 2))) ∧ w'.cell? ⟨b, off + j * 4 + 3, none⟩ = some (.string (mkT (c + 3)))) (go_keep) (first | (go_at_call 85; refine (markText_at (c + 2) _ _ (by push_cast; omega) (by omega)).mono ?_; rintro e v2 ⟨rfl, hB2⟩; have r22 := (hB2.cell (p := ⟨b, off + j * 4 + 2, none⟩) (by exact hb1)).trans (by exact r21); have r32 := (hB2.cell (p := ⟨b, off + j * 4 + 3, none⟩) (by exact hb1)).trans (by exact r31); have hb2 := Nat.lt_of_lt_of_le hb1 hB2.size))
        have hBB2 := below_one hBB1 (below_drew1 hB2)
        clear hB2
        go_wp2_with fail
        go_region_held3 (fun w' => w'.cell? ⟨b, off + j * 4 + 3, none⟩ = some (.string (mkT (c + 3)))) (go_keep) (first | (go_at_call 85; refine (markText_at (c + 3) _ _ (by push_cast; omega) (by omega)).mono ?_; rintro e v3 ⟨rfl, hB3⟩; have r33 := (hB3.cell (p := ⟨b, off + j * 4 + 3, none⟩) (by exact hb2)).trans (by exact r32); have hb3 := Nat.lt_of_lt_of_le hb2 hB3.size))
        have hBB3 := below_one hBB2 (below_drew1 hB3)
        clear hB3
        go_wp2_with fail
        go_roundw
        case rel => first | exact ⟨j + 1, c + 4, by omega, by have := HC.out; omega, by go_num, by go_num, hBB3⟩ | ((repeat apply Exists.intro); exact ⟨⟨j + 1, c + 4, by omega, by have := HC.out; omega, by go_num, by go_num, hBB3⟩, rfl⟩)
        case measure => simp [intOf]; omega
    · obtain rfl : j = n := by omega
      go_wp2
      go_ret
      exact ⟨ret_int (by rw [HC.out]), hB⟩

theorem heldRuleS_any (v : Value) (n k : Nat) (w : World) (hn : n ≤ 1048577) (hk : k ≤ 1) (hr : RuS w v (mkL k n)) :
    Calls Tryz.prog 47 #[v, .int .i64 k] w fun e w' => e = .returned (.int .i64 ((k + 4 * n : Nat) : Int)) ∧ Below w.heap.size w w' :=
  heldRuleS_to v n k w hn (by omega) hr

end Go.Proofs.YthpckiobfjdckaaGreat
