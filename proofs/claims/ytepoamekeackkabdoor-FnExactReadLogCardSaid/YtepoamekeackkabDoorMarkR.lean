/-
  Lists of records marked by the laws, and held against the marks.
-/
import Derived.Deep.RegionHeld3
import Derived.Test.YtepoamekeackkabDoorMarkT
import Derived.Test.YtepoamekeackkabDoorRecV
namespace Go.Proofs.YtepoamekeackkabDoor
open Go.RowKit Go.Shelf

/-- The record that is laid at i, from the number k on. -/
def mkRc (k i : Nat) : Rc := ⟨((k + 3 * i : Nat) : Int), mkT (k + 3 * i + 1), k + 3 * i + 2⟩
def mkRcs (k n : Nat) : List Rc := (List.range n).map (mkRc k)
theorem mkRcs_len (k n : Nat) : (mkRcs k n).length = n := by simp [mkRcs]
theorem mkRcs_succ (k n : Nat) : mkRcs k (n + 1) = mkRcs k n ++ [mkRc k n] := by
  unfold mkRcs
  rw [List.range_succ, List.map_append]
  rfl
theorem mkRcs_at {k n i : Nat} (h : i < (mkRcs k n).length) : (mkRcs k n)[i] = mkRc k i := by simp [mkRcs]

set_option maxHeartbeats 2000000 in
set_option maxRecDepth 100000 in
theorem markRecordS_to (v : Value) (n k base : Nat) (xs : List Value) (w : World) (hn : n ≤ 1048577) (hk : k + 3 * n ≤ 8000000) (hrow : w.ownsRow base 39 3 v n xs) :
    Calls Tryd.prog 7 #[v, .int .i64 k] w fun e w' => e = .returned (.int .i64 ((k + 3 * n : Nat) : Int)) ∧ w'.ownsRow base 39 3 v n ((mkRcs k n).flatMap Rc.cells) ∧ w.grownBy w' v.ownBlock := by
  rcases row_form hrow with ⟨rfl, rfl⟩ | ⟨g, cap, rfl, hg, hcap⟩
  · go_enter Tryd.func7, Tryd.ntmps7
    go_wp2
    refine wp_loop_rounds 1 ?_
    rw [rounds_succ]
    go_wp2
    go_ret
    exact ⟨rfl, World.ownsRow_nil _ _ _ _, ⟨rfl, rfl, rfl, Nat.le_refl _, fun _ _ _ => rfl⟩⟩
  · go_enter Tryd.func7, Tryd.ntmps7
    go_wp2
    go_loopw [1, 5] (fun kv i wr => ∃ (j c : Nat), j ≤ n ∧ c = k + 3 * j ∧ kv = .int .i64 c ∧ i = .int .i64 j ∧ ∃ ys, wr.ownsRow base 39 3 (.slice (some ⟨g, 0, none⟩) n cap) n ys ∧ ys.take (j * 3) = (mkRcs k j).flatMap Rc.cells ∧ w.grownBy wr (some g)) (fun _ i _ => n - (intOf i).toNat)
    case atStart => exact ⟨0, k, Nat.zero_le _, by omega, rfl, rfl, xs, hrow, by simp [mkRcs], grown_self _ _⟩
    case round =>
      obtain ⟨j, c, hj, hc, rfl, rfl, ys, row0, hx, hg0⟩ := hrel
      have HX := hid hx
      have HC := hid hc
      clear hx hc hrow
      have hc9 : c ≤ 8000000 := by have := HC.out; omega
      by_cases hlt : j < n
      · have hlen : ys.length = n * 3 := row0.1
        have s0 := row0.cellAt (j * 3) (by omega)
        rw [List.getElem?_eq_getElem (by omega)] at s0
        have t0 := row0.frozenAt (j * 3)
        have P0 := row0.stored (j * 3) (.int .i64 (c : Int))
        have HP0 := hid P0.2
        have HO0 := hid P0.1
        clear P0
        go_wp2_with fail
        refine (markText_at (c + 1) _ _ (by omega) (by omega)).mono ?_
        rintro e v1 ⟨rfl, hB1⟩
        have row1 := ownsRow_below HO0.out hB1
        have hg1 := grown_below (grown_two hg0 HP0.out) hB1
        clear row0 hg0 hB1 s0 t0 HO0 HP0
        have hl1 := row1.1
        have s1 := row1.cellAt (j * 3 + 1) (by omega)
        have s2 := row1.cellAt (j * 3 + 2) (by omega)
        rw [List.getElem?_eq_getElem (by omega)] at s1 s2
        have t1 := row1.frozenAt (j * 3 + 1)
        have t2 := row1.frozenAt (j * 3 + 2)
        have P1 := row1.stored (j * 3 + 1) (.string (mkT (c + 1)))
        have P2 := P1.1.stored (j * 3 + 2) (.int .u32 ((c : Int) + 2))
        have HP1 := hid P1.2
        have HP2 := hid P2.2
        have HO := hid P2.1
        have e3 : IntKind.u32.wrap ((c : Int) + 2) = (c : Int) + 2 := by rw [IntKind.wrap_u32]; omega
        clear P1 P2
        go_wp2_with fail
        have HM := hid (show mkRcs k (j + 1) = mkRcs k j ++ [⟨(c : Int), mkT (c + 1), c + 2⟩] by rw [mkRcs_succ]; unfold mkRc; rw [← HC.out])
        go_roundw
        case rel =>
          refine ⟨j + 1, c + 3, by omega, by have := HC.out; omega, by go_num, by go_num, _, HO.out, ?_, grown_two (grown_two hg1 HP1.out) HP2.out⟩
          rw [take_set3 _ _ _ _ _ (by omega), HX.out, HM.out, List.flatMap_append]
          simp
        case measure => simp [intOf]; omega
      · obtain rfl : j = n := by omega
        have HF := hid (show ys = (mkRcs k j).flatMap Rc.cells by have := HX.out; rw [List.take_of_length_le (by have := row0.1; omega)] at this; exact this)
        go_wp2
        go_ret
        exact ⟨ret_int (by rw [HC.out]), by rw [← HF.out]; exact row0, hg0⟩

set_option maxHeartbeats 2000000 in
set_option maxRecDepth 100000 in
theorem heldRecordS_to (v : Value) (n k : Nat) (w : World) (hn : n ≤ 1048577) (hk : k + 3 * n ≤ 8000000) (hr : RcS w v (mkRcs k n)) :
    Calls Tryd.prog 8 #[v, .int .i64 k] w fun e w' => e = .returned (.int .i64 ((k + 3 * n : Nat) : Int)) ∧ Below w.heap.size w w' := by
  obtain ⟨a, cap, rfl⟩ := hr.len
  have hln := mkRcs_len k n
  rw [hln] at hr ⊢
  clear hln
  go_enter Tryd.func8, Tryd.ntmps8
  go_wp2
  go_loopw [1, 5] (fun kv i wr => ∃ (j c : Nat), j ≤ n ∧ c = k + 3 * j ∧ kv = .int .i64 c ∧ i = .int .i64 j ∧ Below w.heap.size w wr) (fun _ i _ => n - (intOf i).toNat)
  case atStart => exact ⟨0, k, Nat.zero_le _, by omega, rfl, rfl, Below.refl _ _⟩
  case round =>
    obtain ⟨j, c, hj, hc, rfl, rfl, hB⟩ := hrel
    have HC := hid hc
    clear hc
    have hc9 : c ≤ 8000000 := by have := HC.out; omega
    by_cases hlt : j < n
    · obtain ⟨b, off, rfl, hb, hcap, q0, q1, q2⟩ := (hr.below hB).at (i := j) (by rw [mkRcs_len]; exact hlt)
      rw [mkRcs_at] at q0 q1 q2
      unfold mkRc at q0 q1 q2
      dsimp only at q0 q1 q2
      rw [← HC.out] at q0 q1 q2
      clear hr
      have e3 : IntKind.u32.wrap ((c : Int) + 2) = (c : Int) + 2 := by rw [IntKind.wrap_u32]; omega
      go_wp2_with fail
      go_region_held3 (fun w' => w'.cell? ⟨b, off + j * 3 + 1, none⟩ = some (.string (mkT (c + 1)))) (go_keep) (first | (go_at_call 18; refine (markText_at (c + 1) _ _ (by omega) (by omega)).mono ?_; rintro e v1 ⟨rfl, hB1⟩; have r1 := (hB1.cell (p := ⟨b, off + j * 3 + 1, none⟩) (by exact hb)).trans (by exact q1); have r2 := (hB1.cell (p := ⟨b, off + j * 3 + 2, none⟩) (by exact hb)).trans (by exact q2)))
      all_goals have hBB1 := below_one hB (below_drew1 hB1)
      all_goals clear hB1
      all_goals go_wp2
      all_goals go_roundw
      all_goals first
        | exact ⟨j + 1, c + 3, by omega, by have := HC.out; omega, by go_num, by go_num, hBB1⟩
        | ((repeat apply Exists.intro); exact ⟨⟨j + 1, c + 3, by omega, by have := HC.out; omega, by go_num, by go_num, hBB1⟩, rfl⟩)
        | (simp [intOf]; omega)
    · obtain rfl : j = n := by omega
      go_wp2
      go_ret
      exact ⟨ret_int (by rw [HC.out]), hB⟩

end Go.Proofs.YtepoamekeackkabDoor
