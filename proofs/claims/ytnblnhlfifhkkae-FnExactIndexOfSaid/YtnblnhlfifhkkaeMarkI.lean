/-
  Lists of numbers: marked, held and compared by the laws; the index of a word by the specification.
-/
import Derived.Test.YtnblnhlfifhkkaeMarkS
import Derived.Test.YtnblnhlfifhkkaeImplI
namespace Go.Proofs.Ytnblnhlfifhkkae
open Go.RowKit Go.Shelf

def mkI (k n : Nat) : List Nat := (List.range n).map (fun i => k + i)
theorem mkI_len (k n : Nat) : (mkI k n).length = n := by simp [mkI]
theorem mkI_succ (k n : Nat) : mkI k (n + 1) = mkI k n ++ [k + n] := by
  unfold mkI
  rw [List.range_succ, List.map_append]
  rfl
theorem take_set1 {α : Type} (xs : List α) (k : Nat) (a : α) (h : k < xs.length) : (xs.set k a).take (k + 1) = xs.take k ++ [a] := by
  rw [List.take_succ_eq_append_getElem (by simpa using h), List.take_set_of_le (Nat.le_refl _)]
  simp

set_option maxHeartbeats 1000000 in
theorem markIntS_any (v : Value) (n k base : Nat) (xs : List Value) (w : World) (hn : n ≤ 1048577) (hk : k ≤ 1) (hrow : w.ownsRow base 3 1 v n xs) :
    Calls Try.prog 24 #[v, .int .i64 k] w fun e w' => e = .returned (.int .i64 ((k + n : Nat) : Int)) ∧ w'.ownsRow base 3 1 v (mkI k n).length (ints (mkI k n)) ∧ w.grownBy w' v.ownBlock := by
  rcases row_form hrow with ⟨rfl, rfl⟩ | ⟨g, cap, rfl, hg, hcap⟩
  · go_enter Try.func24, Try.ntmps24
    go_wp2
    refine wp_loop_rounds 1 ?_
    rw [rounds_succ]
    go_wp2
    go_ret
    exact ⟨rfl, World.ownsRow_nil _ _ _ _, grown_self _ _⟩
  · go_enter Try.func24, Try.ntmps24
    go_wp2
    go_loopw [1, 5] (fun kv i wr => ∃ (j c : Nat), j ≤ n ∧ c = k + j ∧ kv = .int .i64 c ∧ i = .int .i64 j ∧ ∃ ys, wr.ownsRow base 3 1 (.slice (some ⟨g, 0, none⟩) n cap) n ys ∧ ys.take j = ints (mkI k j) ∧ w.grownBy wr (some g)) (fun _ i _ => n - (intOf i).toNat)
    case atStart => exact ⟨0, k, Nat.zero_le _, by omega, rfl, rfl, xs, hrow, by simp [mkI], grown_self _ _⟩
    case round =>
      obtain ⟨j, c, hj, hc, rfl, rfl, ys, row0, hx, hg0⟩ := hrel
      have HX := hid hx
      have HC := hid hc
      clear hx hc hrow
      have hc9 : c ≤ 8000000 := by have := HC.out; omega
      by_cases hlt : j < n
      · have hlen : ys.length = n := by have := row0.1; omega
        have s0 := row0.cellAt j (by omega)
        rw [List.getElem?_eq_getElem (by omega)] at s0
        have t0 := row0.frozenAt j
        have P0 := row0.stored j (.int .i64 (c : Int))
        have HM := hid (show ints (mkI k (j + 1)) = ints (mkI k j) ++ [.int .i64 (c : Int)] by rw [mkI_succ, ← HC.out]; simp [ints])
        go_wp2
        go_roundw
        case rel =>
          refine ⟨j + 1, c + 1, by omega, by have := HC.out; omega, by go_num, by go_num, _, P0.1, ?_, grown_two hg0 P0.2⟩
          rw [take_set1 _ _ _ (by omega), HX.out, HM.out]
        case measure => simp [intOf]; omega
      · obtain rfl : j = n := by omega
        have HF := hid (show ys = ints (mkI k j) by have := HX.out; rw [List.take_of_length_le (by have := row0.1; omega)] at this; exact this)
        go_wp2
        go_ret
        exact ⟨ret_int (by rw [HC.out]), by rw [← HF.out, mkI_len]; exact row0, hg0⟩

set_option maxHeartbeats 1000000 in
theorem heldIntS_any (v : Value) (n k base : Nat) (w : World) (hn : n ≤ 1048577) (hk : k ≤ 1) (hrow : w.ownsRow base 3 1 v (mkI k n).length (ints (mkI k n))) :
    Calls Try.prog 25 #[v, .int .i64 k] w fun e w' => e = .returned (.int .i64 ((k + n : Nat) : Int)) ∧ Below w.heap.size w w' := by
  rcases row_form hrow with ⟨rfl, h0⟩ | ⟨g, cap, rfl, hg, hcap⟩
  · rw [mkI_len] at h0
    subst h0
    go_enter Try.func25, Try.ntmps25
    go_wp2
    refine wp_loop_rounds 1 ?_
    rw [rounds_succ]
    go_wp2
    go_ret
    exact ⟨rfl, Below.refl _ _⟩
  · have hcell := fun m h => int_cell hrow (m := m) h
    rw [mkI_len] at hcap ⊢
    clear hrow
    go_enter Try.func25, Try.ntmps25
    go_wp2
    go_loopw [1, 5] (fun kv i wr => ∃ (j c : Nat), j ≤ n ∧ c = k + j ∧ kv = .int .i64 c ∧ i = .int .i64 j ∧ Below w.heap.size w wr) (fun _ i _ => n - (intOf i).toNat)
    case atStart => exact ⟨0, k, Nat.zero_le _, by omega, rfl, rfl, Below.refl _ _⟩
    case round =>
      obtain ⟨j, c, hj, hc, rfl, rfl, hB⟩ := hrel
      have HC := hid hc
      clear hc
      have hc9 : c ≤ 8000000 := by have := HC.out; omega
      by_cases hlt : j < n
      · have s0 := hcell j (by rw [mkI_len]; exact hlt)
        have e0 : (mkI k n)[j]'(by rw [mkI_len]; exact hlt) = c := by rw [HC.out]; simp [mkI]
        rw [e0] at s0
        replace s0 := (hB.cell (p := ⟨g, j, none⟩) (cell_lt s0)).trans s0
        clear e0 hcell
        go_wp2
        go_roundw
        case rel => exact ⟨j + 1, c + 1, by omega, by have := HC.out; omega, by go_num, by go_num, hB⟩
        case measure => simp [intOf]; omega
      · obtain rfl : j = n := by omega
        go_wp2
        go_ret
        exact ⟨ret_int (by rw [HC.out]), hB⟩

set_option maxHeartbeats 1000000 in
theorem eqIntS_any (v v' : Value) (l : List Nat) (base base' : Nat) (w : World) (hn : l.length ≤ 1048577) (hrow : w.ownsRow base 3 1 v l.length (ints l)) (hrow' : w.ownsRow base' 3 1 v' l.length (ints l)) :
    Calls Try.prog 23 #[v, v'] w fun e w' => e = .returned (.bool true) ∧ Below w.heap.size w w' := by
  obtain ⟨a, cap, rfl⟩ := ownsRow_len hrow
  obtain ⟨a', cap', rfl⟩ := ownsRow_len hrow'
  have e0 : ((l.length : Int) != (l.length : Int)) = false := by simp
  go_enter Try.func23, Try.ntmps23
  go_wp2
  go_loopw [5] (fun i wr => ∃ j : Nat, j ≤ l.length ∧ i = .int .i64 j ∧ Below w.heap.size w wr) (fun i _ => l.length - (intOf i).toNat)
  case atStart => exact ⟨0, Nat.zero_le _, rfl, Below.refl _ _⟩
  case round =>
    obtain ⟨j, hj, rfl, hB⟩ := hrel
    by_cases hlt : j < l.length
    · obtain ⟨g, rfl⟩ := row_some hrow hlt
      obtain ⟨g', rfl⟩ := row_some hrow' hlt
      have s0 := (hB.cell (p := ⟨g, j, none⟩) (cell_lt (int_cell hrow hlt))).trans (int_cell hrow hlt)
      have s1 := (hB.cell (p := ⟨g', j, none⟩) (cell_lt (int_cell hrow' hlt))).trans (int_cell hrow' hlt)
      have hc1 := row_cap hrow hlt
      have hc2 := row_cap hrow' hlt
      generalize l[j] = x at s0 s1
      go_wp2_with fail
      go_quiet (fail)
      go_wp2
      go_roundw
      case rel => first | exact ⟨j + 1, by omega, by go_num, below_drewN hB _⟩ | ((repeat apply Exists.intro); exact ⟨⟨j + 1, by omega, by go_num, below_drewN hB _⟩, rfl⟩)
      case measure => simp [intOf]; omega
    · obtain rfl : j = l.length := by omega
      go_wp2
      go_ret
      exact ⟨rfl, hB⟩

set_option maxHeartbeats 1000000 in
theorem specIndexOf_any (v : Value) (rs : List Ru) (wd : ByteArray) (w : World) (hm : rs.length ≤ 1048577) (hf : ∀ r ∈ rs, r.size ≤ 1048576) (hr : RuS w v rs) :
    Calls Try.prog 21 #[v, .string wd] w fun e w' => ∃ v', e = .returned (.tuple #[v', .bool (polB rs)]) ∧ w'.ownsRow w.heap.size 3 1 v' (ixL rs wd).length (ints (ixL rs wd)) ∧ Below w.heap.size w w' := by
  obtain ⟨a, cap, rfl⟩ := hr.len
  cases h1 : polB rs
  · have HX := hid (ixL_no wd h1)
    go_enter Try.func21, Try.ntmps21
    go_wp2_with fail
    refine (l2Good_any _ rs _ hm hf hr).mono ?_
    rintro e w1 ⟨rfl, hB1⟩
    rw [h1]
    go_wp2_with fail
    go_ret2
    exact ⟨_, rfl, by rw [HX.out]; exact World.ownsRow_nil _ _ _ _, hB1⟩
  · have HX := hid (ixL_yes wd h1)
    go_enter Try.func21, Try.ntmps21
    go_wp2_with fail
    refine (l2Good_any _ rs _ hm hf hr).mono ?_
    rintro e w1 ⟨rfl, hB1⟩
    rw [h1]
    have hr1 := hr.below hB1
    go_wp2_with fail
    refine (l2Index_any _ rs wd _ hm hf hr1).mono ?_
    rintro e w2 ⟨v2, rfl, hrow2, hB2⟩
    obtain ⟨a2, cap2, rfl⟩ := ownsRow_len hrow2
    go_wp2_with fail
    go_ret2
    exact ⟨_, rfl, by rw [HX.out]; exact Go.Joins.ownsRow_le hrow2 hB1.size, below_one hB1 hB2⟩

end Go.Proofs.Ytnblnhlfifhkkae
