/-
  The laws' marks laid into lists, and lists held against them.
-/
import Derived.Test.YthpckiobfjdckaaGreatMarkT
import Derived.Test.YthpckiobfjdckaaGreatRuleE
namespace Go.Proofs.YthpckiobfjdckaaGreat
open Go.RowKit Go.Shelf

/-- The rule that is laid at i, from the number k on. -/
def mkR (k i : Nat) : Ru := ⟨((k + 4 * i : Nat) : Int) % 3 == 0, mkT (k + 4 * i + 1), mkT (k + 4 * i + 2), mkT (k + 4 * i + 3)⟩
def mkL (k n : Nat) : List Ru := (List.range n).map (mkR k)
theorem mkL_len (k n : Nat) : (mkL k n).length = n := by simp [mkL]
theorem mkL_succ (k n : Nat) : mkL k (n + 1) = mkL k n ++ [mkR k n] := by
  unfold mkL
  rw [List.range_succ, List.map_append]
  rfl
theorem mkL_at {k n i : Nat} (h : i < (mkL k n).length) : (mkL k n)[i] = mkR k i := by simp [mkL]




set_option maxHeartbeats 2000000 in
set_option maxRecDepth 100000 in
theorem markRuleS_to (v : Value) (n k base : Nat) (xs : List Value) (w : World) (hn : n ≤ 1048577) (hk : k + 4 * n ≤ 8000000) (hrow : w.ownsRow base 63 4 v n xs) :
    Calls Tryz.prog 46 #[v, .int .i64 k] w fun e w' => e = .returned (.int .i64 ((k + 4 * n : Nat) : Int)) ∧ w'.ownsRow base 63 4 v n ((mkL k n).flatMap Ru.cells) ∧ w.grownBy w' v.ownBlock := by
  rcases row_form hrow with ⟨rfl, rfl⟩ | ⟨g, cap, rfl, hg, hcap⟩
  · go_enter Tryz.func46, Tryz.ntmps46
    go_wp2
    refine wp_loop_rounds 1 ?_
    rw [rounds_succ]
    go_wp2
    go_ret
    exact ⟨rfl, World.ownsRow_nil _ _ _ _, ⟨rfl, rfl, rfl, Nat.le_refl _, fun _ _ _ => rfl⟩⟩
  · go_enter Tryz.func46, Tryz.ntmps46
    go_wp2
    go_loopw [1, 5] (fun kv i wr => ∃ (j c : Nat), j ≤ n ∧ c = k + 4 * j ∧ kv = .int .i64 c ∧ i = .int .i64 j ∧ ∃ ys, wr.ownsRow base 63 4 (.slice (some ⟨g, 0, none⟩) n cap) n ys ∧ ys.take (j * 4) = (mkL k j).flatMap Ru.cells ∧ w.grownBy wr (some g)) (fun _ i _ => n - (intOf i).toNat)
    case atStart => exact ⟨0, k, Nat.zero_le _, by omega, rfl, rfl, xs, hrow, by simp [mkL], grown_self _ _⟩
    case round =>
      obtain ⟨j, c, hj, hc, rfl, rfl, ys, row0, hx, hg0⟩ := hrel
      have HX := hid hx
      have HC := hid hc
      clear hx hc hrow
      have hc9 : c ≤ 8000000 := by have := HC.out; omega
      by_cases hlt : j < n
      · have hlen : ys.length = n * 4 := row0.1
        have s0 := row0.cellAt (j * 4) (by have := row0.1; omega)
        rw [List.getElem?_eq_getElem (by have := row0.1; omega)] at s0
        have t0 := row0.frozenAt (j * 4)
        go_wp2_with fail
        have P0 := row0.stored (j * 4) (.bool ((c : Int) % 3 == 0))
        have hg0' := grown_two hg0 P0.2
        have row0' := P0.1
        clear P0 s0 t0 row0 hg0
        generalize wr.setCell ⟨g, j * 4, none⟩ (.bool ((c : Int) % 3 == 0)) = W0 at *
        refine (markText_at (c + 1) _ _ (by push_cast; omega) (by omega)).mono ?_
        rintro e v1 ⟨rfl, hB1⟩
        have row1 := ownsRow_below row0' hB1
        have hg1 := grown_below hg0' hB1
        clear row0' hg0' hB1
        have s1 := row1.cellAt (j * 4 + 1) (by have := row1.1; omega)
        rw [List.getElem?_eq_getElem (by have := row1.1; omega)] at s1
        have t1 := row1.frozenAt (j * 4 + 1)
        go_wp2_with fail
        have P1 := row1.stored (j * 4 + 1) (.string (mkT (c + 1)))
        have hg1' := grown_two hg1 P1.2
        have row1' := P1.1
        clear P1 s1 t1 row1 hg1
        generalize v1.setCell ⟨g, j * 4 + 1, none⟩ (.string (mkT (c + 1))) = W1 at *
        refine (markText_at (c + 2) _ _ (by push_cast; omega) (by omega)).mono ?_
        rintro e v2 ⟨rfl, hB2⟩
        have row2 := ownsRow_below row1' hB2
        have hg2 := grown_below hg1' hB2
        clear row1' hg1' hB2
        have s2 := row2.cellAt (j * 4 + 2) (by have := row2.1; omega)
        rw [List.getElem?_eq_getElem (by have := row2.1; omega)] at s2
        have t2 := row2.frozenAt (j * 4 + 2)
        go_wp2_with fail
        have P2 := row2.stored (j * 4 + 2) (.string (mkT (c + 2)))
        have hg2' := grown_two hg2 P2.2
        have row2' := P2.1
        clear P2 s2 t2 row2 hg2
        generalize v2.setCell ⟨g, j * 4 + 2, none⟩ (.string (mkT (c + 2))) = W2 at *
        refine (markText_at (c + 3) _ _ (by push_cast; omega) (by omega)).mono ?_
        rintro e v3 ⟨rfl, hB3⟩
        have row3 := ownsRow_below row2' hB3
        have hg3 := grown_below hg2' hB3
        clear row2' hg2' hB3
        have s3 := row3.cellAt (j * 4 + 3) (by have := row3.1; omega)
        rw [List.getElem?_eq_getElem (by have := row3.1; omega)] at s3
        have t3 := row3.frozenAt (j * 4 + 3)
        go_wp2_with fail
        have P3 := row3.stored (j * 4 + 3) (.string (mkT (c + 3)))
        have hg3' := grown_two hg3 P3.2
        have row3' := P3.1
        clear P3 s3 t3 row3 hg3
        have HM := hid (show mkL k (j + 1) = mkL k j ++ [⟨(c : Int) % 3 == 0, mkT (c + 1), mkT (c + 2), mkT (c + 3)⟩] by rw [mkL_succ]; unfold mkR; rw [← HC.out])
        go_roundw
        case rel =>
          refine ⟨j + 1, c + 4, by omega, by have := HC.out; omega, by go_num, by go_num, _, row3', ?_, hg3'⟩
          rw [take_set4 _ _ _ _ _ _ (by omega), HX.out, HM.out, List.flatMap_append]
          simp
        case measure => simp [intOf]; omega
      · obtain rfl : j = n := by omega
        have HF := hid (show ys = (mkL k j).flatMap Ru.cells by have := HX.out; rw [List.take_of_length_le (by have := row0.1; omega)] at this; exact this)
        go_wp2
        go_ret
        exact ⟨ret_int (by rw [HC.out]), by rw [← HF.out]; exact row0, hg0⟩

theorem markRuleS_any (v : Value) (n k base : Nat) (xs : List Value) (w : World) (hn : n ≤ 1048577) (hk : k ≤ 1) (hrow : w.ownsRow base 63 4 v n xs) :
    Calls Tryz.prog 46 #[v, .int .i64 k] w fun e w' => e = .returned (.int .i64 ((k + 4 * n : Nat) : Int)) ∧ w'.ownsRow base 63 4 v n ((mkL k n).flatMap Ru.cells) ∧ w.grownBy w' v.ownBlock :=
  markRuleS_to v n k base xs w hn (by omega) hrow

end Go.Proofs.YthpckiobfjdckaaGreat
