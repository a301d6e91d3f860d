/-
  Lists of works and of numbers marked by the laws, and held against the marks.
-/
import Derived.Deep.RegionHeld3
import Derived.Test.YtfchmhcnejifhaaDoorMarkT
import Derived.Test.YtfchmhcnejifhaaDoorWorkV
namespace Go.Proofs.YtfchmhcnejifhaaDoor
open Go.RowKit Go.Shelf

/-- The work that is laid at i, from the number k on. -/
def mkW (k i : Nat) : Wk := ⟨mkT (k + 3 * i), (((k + 3 * i : Nat) : Int) + 1) % 3 == 0, ((k + 3 * i : Nat) : Int) + 2⟩
def mkWs (k n : Nat) : List Wk := (List.range n).map (mkW k)
theorem mkWs_len (k n : Nat) : (mkWs k n).length = n := by simp [mkWs]
theorem mkWs_succ (k n : Nat) : mkWs k (n + 1) = mkWs k n ++ [mkW k n] := by
  unfold mkWs
  rw [List.range_succ, List.map_append]
  rfl
theorem mkWs_at {k n i : Nat} (h : i < (mkWs k n).length) : (mkWs k n)[i] = mkW k i := by simp [mkWs]

set_option maxHeartbeats 2000000 in
set_option maxRecDepth 100000 in
theorem markWorkS_to (v : Value) (n k base : Nat) (xs : List Value) (w : World) (hn : n ≤ 1048577) (hk : k + 3 * n ≤ 8000000) (hrow : w.ownsRow base 48 3 v n xs) :
    Calls Tryd.prog 33 #[v, .int .i64 k] w fun e w' => e = .returned (.int .i64 ((k + 3 * n : Nat) : Int)) ∧ w'.ownsRow base 48 3 v n ((mkWs k n).flatMap Wk.cells) ∧ w.grownBy w' v.ownBlock := by
  rcases row_form hrow with ⟨rfl, rfl⟩ | ⟨g, cap, rfl, hg, hcap⟩
  · go_enter Tryd.func33, Tryd.ntmps33
    go_wp2
    refine wp_loop_rounds 1 ?_
    rw [rounds_succ]
    go_wp2
    go_ret
    exact ⟨rfl, World.ownsRow_nil _ _ _ _, ⟨rfl, rfl, rfl, Nat.le_refl _, fun _ _ _ => rfl⟩⟩
  · go_enter Tryd.func33, Tryd.ntmps33
    go_wp2
    go_loopw [1, 5] (fun kv i wr => ∃ (j c : Nat), j ≤ n ∧ c = k + 3 * j ∧ kv = .int .i64 c ∧ i = .int .i64 j ∧ ∃ ys, wr.ownsRow base 48 3 (.slice (some ⟨g, 0, none⟩) n cap) n ys ∧ ys.take (j * 3) = (mkWs k j).flatMap Wk.cells ∧ w.grownBy wr (some g)) (fun _ i _ => n - (intOf i).toNat)
    case atStart => exact ⟨0, k, Nat.zero_le _, by omega, rfl, rfl, xs, hrow, by simp [mkWs], grown_self _ _⟩
    case round =>
      obtain ⟨j, c, hj, hc, rfl, rfl, ys, row0, hx, hg0⟩ := hrel
      have HX := hid hx
      have HC := hid hc
      clear hx hc hrow
      have hc9 : c ≤ 8000000 := by have := HC.out; omega
      by_cases hlt : j < n
      · have hlen : ys.length = n * 3 := row0.1
        go_wp2_with fail
        refine (markText_at c _ _ rfl (by omega)).mono ?_
        rintro e v1 ⟨rfl, hB1⟩
        have row1 := ownsRow_below row0 hB1
        have hg1 := grown_below hg0 hB1
        clear row0 hg0 hB1
        have hl1 := row1.1
        have s0 := row1.cellAt (j * 3) (by omega)
        have s1 := row1.cellAt (j * 3 + 1) (by omega)
        have s2 := row1.cellAt (j * 3 + 2) (by omega)
        rw [List.getElem?_eq_getElem (by omega)] at s0 s1 s2
        have t0 := row1.frozenAt (j * 3)
        have t1 := row1.frozenAt (j * 3 + 1)
        have t2 := row1.frozenAt (j * 3 + 2)
        have P0 := row1.stored (j * 3) (.string (mkT c))
        have P1 := P0.1.stored (j * 3 + 1) (.bool (((c : Int) + 1) % 3 == 0))
        have P2 := P1.1.stored (j * 3 + 2) (.int .i64 ((c : Int) + 2))
        have HP0 := hid P0.2
        have HP1 := hid P1.2
        have HP2 := hid P2.2
        have HO := hid P2.1
        clear P0 P1 P2
        go_wp2_with fail
        have HM := hid (show mkWs k (j + 1) = mkWs k j ++ [⟨mkT c, ((c : Int) + 1) % 3 == 0, (c : Int) + 2⟩] by rw [mkWs_succ]; unfold mkW; rw [← HC.out])
        go_roundw
        case rel =>
          refine ⟨j + 1, c + 3, by omega, by have := HC.out; omega, by go_num, by go_num, _, HO.out, ?_, grown_two (grown_two (grown_two hg1 HP0.out) HP1.out) HP2.out⟩
          rw [take_set3 _ _ _ _ _ (by omega), HX.out, HM.out, List.flatMap_append]
          simp
        case measure => simp [intOf]; omega
      · obtain rfl : j = n := by omega
        have HF := hid (show ys = (mkWs k j).flatMap Wk.cells by have := HX.out; rw [List.take_of_length_le (by have := row0.1; omega)] at this; exact this)
        go_wp2
        go_ret
        exact ⟨ret_int (by rw [HC.out]), by rw [← HF.out]; exact row0, hg0⟩

set_option maxHeartbeats 2000000 in
set_option maxRecDepth 100000 in
theorem heldWorkS_to (v : Value) (n k : Nat) (w : World) (hn : n ≤ 1048577) (hk : k + 3 * n ≤ 8000000) (hr : WkS w v (mkWs k n)) :
    Calls Tryd.prog 36 #[v, .int .i64 k] w fun e w' => e = .returned (.int .i64 ((k + 3 * n : Nat) : Int)) ∧ Below w.heap.size w w' := by
  obtain ⟨a, cap, rfl⟩ := hr.len
  have hln := mkWs_len k n
  rw [hln] at hr ⊢
  clear hln
  go_enter Tryd.func36, Tryd.ntmps36
  go_wp2
  go_loopw [1, 5] (fun kv i wr => ∃ (j c : Nat), j ≤ n ∧ c = k + 3 * j ∧ kv = .int .i64 c ∧ i = .int .i64 j ∧ Below w.heap.size w wr) (fun _ i _ => n - (intOf i).toNat)
  case atStart => exact ⟨0, k, Nat.zero_le _, by omega, rfl, rfl, Below.refl _ _⟩
  case round =>
    obtain ⟨j, c, hj, hc, rfl, rfl, hB⟩ := hrel
    have HC := hid hc
    clear hc
    have hc9 : c ≤ 8000000 := by have := HC.out; omega
    by_cases hlt : j < n
    · obtain ⟨b, off, rfl, hb, hcap, q0, q1, q2⟩ := (hr.below hB).at (i := j) (by rw [mkWs_len]; exact hlt)
      rw [mkWs_at] at q0 q1 q2
      unfold mkW at q0 q1 q2
      dsimp only at q0 q1 q2
      rw [← HC.out] at q0 q1 q2
      clear hr
      cases hq : (((c : Int) + 1) % 3 == 0)
      all_goals rw [hq] at q1
      all_goals go_wp2_with fail
      all_goals go_region_held3 (fun w' => w'.cell? ⟨b, off + j * 3, none⟩ = some (.string (mkT c))) (go_keep) (first | (go_at_call 60; refine (markText_at c _ _ rfl (by omega)).mono ?_; rintro e v1 ⟨rfl, hB1⟩; have r0 := (hB1.cell (p := ⟨b, off + j * 3, none⟩) (by exact hb)).trans (by exact q0); have r1 := (hB1.cell (p := ⟨b, off + j * 3 + 1, none⟩) (by exact hb)).trans (by exact q1); have r2 := (hB1.cell (p := ⟨b, off + j * 3 + 2, none⟩) (by exact hb)).trans (by exact q2)))
      all_goals have hBB1 := below_one hB (below_drew1 hB1)
      all_goals clear hB1
      all_goals go_wp2
      all_goals go_roundw
      all_goals first
        | exact ⟨j + 1, c + 3, by omega, by have := HC.out; omega, by go_num, by go_num, hBB1⟩
        | ((repeat apply Exists.intro); exact ⟨⟨j + 1, c + 3, by omega, by have := HC.out; omega, by go_num, by go_num, hBB1⟩, rfl⟩)
        | (simp [intOf]; omega)
    · obtain rfl : j = n := by omega
      go_wp2
      go_ret
      exact ⟨ret_int (by rw [HC.out]), hB⟩

end Go.Proofs.YtfchmhcnejifhaaDoor
