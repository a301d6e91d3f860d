/-
  Lists of links marked by the laws.
-/
import Derived.Test.YtecgonopefeplafMarkT
import Derived.Test.YtecgonopefeplafLinkV
namespace Go.Proofs.Ytecgonopefeplaf
open Go.RowKit Go.Shelf

/-- The link that is laid at i, from the number k on. -/
def mkK (k i : Nat) : Lk := ⟨mkT (k + 5 * i), mkT (k + 5 * i + 1), ((k + 5 * i : Nat) : Int) + 2, ((k + 5 * i : Nat) : Int) + 3, ((k + 5 * i : Nat) : Int) + 4⟩
def mkKs (k n : Nat) : List Lk := (List.range n).map (mkK k)
theorem mkKs_len (k n : Nat) : (mkKs k n).length = n := by simp [mkKs]
theorem mkKs_succ (k n : Nat) : mkKs k (n + 1) = mkKs k n ++ [mkK k n] := by
  unfold mkKs
  rw [List.range_succ, List.map_append]
  rfl
theorem mkKs_at {k n i : Nat} (h : i < (mkKs k n).length) : (mkKs k n)[i] = mkK k i := by simp [mkKs]

set_option maxHeartbeats 2000000 in
set_option maxRecDepth 100000 in
theorem markLinkS_any (v : Value) (n k base : Nat) (xs : List Value) (w : World) (hn : n ≤ 1048577) (hk : k ≤ 1) (hrow : w.ownsRow base 57 5 v n xs) :
    Calls Try.prog 18 #[v, .int .i64 k] w fun e w' => e = .returned (.int .i64 ((k + 5 * n : Nat) : Int)) ∧ w'.ownsRow base 57 5 v n ((mkKs k n).flatMap Lk.cells) ∧ w.grownBy w' v.ownBlock := by
  rcases row_form hrow with ⟨rfl, rfl⟩ | ⟨g, cap, rfl, hg, hcap⟩
  · go_enter Try.func18, Try.ntmps18
    go_wp2
    refine wp_loop_rounds 1 ?_
    rw [rounds_succ]
    go_wp2
    go_ret
    exact ⟨rfl, World.ownsRow_nil _ _ _ _, ⟨rfl, rfl, rfl, Nat.le_refl _, fun _ _ _ => rfl⟩⟩
  · go_enter Try.func18, Try.ntmps18
    go_wp2
    go_loopw [1, 5] (fun kv i wr => ∃ (j c : Nat), j ≤ n ∧ c = k + 5 * j ∧ kv = .int .i64 c ∧ i = .int .i64 j ∧ ∃ ys, wr.ownsRow base 57 5 (.slice (some ⟨g, 0, none⟩) n cap) n ys ∧ ys.take (j * 5) = (mkKs k j).flatMap Lk.cells ∧ w.grownBy wr (some g)) (fun _ i _ => n - (intOf i).toNat)
    case atStart => exact ⟨0, k, Nat.zero_le _, by omega, rfl, rfl, xs, hrow, by simp [mkKs], grown_self _ _⟩
    case round =>
      obtain ⟨j, c, hj, hc, rfl, rfl, ys, row0, hx, hg0⟩ := hrel
      have HX := hid hx
      have HC := hid hc
      clear hx hc hrow
      have hc9 : c ≤ 8000000 := by have := HC.out; omega
      by_cases hlt : j < n
      · have hlen : ys.length = n * 5 := row0.1
        go_wp2_with fail
        refine (markText_at c _ _ rfl (by omega)).mono ?_
        rintro e v1 ⟨rfl, hB1⟩
        have row1 := ownsRow_below row0 hB1
        have hg1 := grown_below hg0 hB1
        clear row0 hg0 hB1
        have s0 := row1.cellAt (j * 5) (by have := row1.1; omega)
        rw [List.getElem?_eq_getElem (by have := row1.1; omega)] at s0
        have t0 := row1.frozenAt (j * 5)
        go_wp2_with fail
        have P1 := row1.stored (j * 5) (.string (mkT c))
        have hg1' := grown_two hg1 P1.2
        have row1' := P1.1
        clear P1 s0 t0 row1 hg1
        generalize v1.setCell ⟨g, j * 5, none⟩ (.string (mkT c)) = W1 at *
        refine (markText_at (c + 1) _ _ (by push_cast; omega) (by omega)).mono ?_
        rintro e v2 ⟨rfl, hB2⟩
        have row2 := ownsRow_below row1' hB2
        have hg2 := grown_below hg1' hB2
        clear row1' hg1' hB2
        have hl2 := row2.1
        have s1 := row2.cellAt (j * 5 + 1) (by omega)
        have s2 := row2.cellAt (j * 5 + 2) (by omega)
        have s3 := row2.cellAt (j * 5 + 3) (by omega)
        have s4 := row2.cellAt (j * 5 + 4) (by omega)
        rw [List.getElem?_eq_getElem (by omega)] at s1 s2 s3 s4
        have t1 := row2.frozenAt (j * 5 + 1)
        have t2 := row2.frozenAt (j * 5 + 2)
        have t3 := row2.frozenAt (j * 5 + 3)
        have t4 := row2.frozenAt (j * 5 + 4)
        have P1 := row2.stored (j * 5 + 1) (.string (mkT (c + 1)))
        have P2 := P1.1.stored (j * 5 + 2) (.int .i64 ((c : Int) + 2))
        have P3 := P2.1.stored (j * 5 + 3) (.int .i64 ((c : Int) + 3))
        have P4 := P3.1.stored (j * 5 + 4) (.int .i64 ((c : Int) + 4))
        have HP1 := hid P1.2
        have HP2 := hid P2.2
        have HP3 := hid P3.2
        have HP4 := hid P4.2
        have HO := hid P4.1
        clear P1 P2 P3 P4
        go_wp2_with fail
        have HM := hid (show mkKs k (j + 1) = mkKs k j ++ [⟨mkT c, mkT (c + 1), (c : Int) + 2, (c : Int) + 3, (c : Int) + 4⟩] by rw [mkKs_succ]; unfold mkK; rw [← HC.out])
        go_roundw
        case rel =>
          refine ⟨j + 1, c + 5, by omega, by have := HC.out; omega, by go_num, by go_num, _, HO.out, ?_, grown_two (grown_two (grown_two (grown_two hg2 HP1.out) HP2.out) HP3.out) HP4.out⟩
          rw [take_set5 _ _ _ _ _ _ _ (by omega), HX.out, HM.out, List.flatMap_append]
          simp
        case measure => simp [intOf]; omega
      · obtain rfl : j = n := by omega
        have HF := hid (show ys = (mkKs k j).flatMap Lk.cells by have := HX.out; rw [List.take_of_length_le (by have := row0.1; omega)] at this; exact this)
        go_wp2
        go_ret
        exact ⟨ret_int (by rw [HC.out]), by rw [← HF.out]; exact row0, hg0⟩

end Go.Proofs.Ytecgonopefeplaf
