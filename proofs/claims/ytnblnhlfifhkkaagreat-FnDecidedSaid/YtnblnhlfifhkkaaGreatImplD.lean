/-
  Chapter 2, the program's side: DecideCall.
-/
import Derived.Test.YtnblnhlfifhkkaaGreatImplP
namespace Go.Proofs.YtnblnhlfifhkkaaGreat
open Go.RowKit Go.Shelf

theorem pol_good {rs : List Ru} (h : polB rs = true) : ∀ r ∈ rs, r.good = true := by
  unfold polB at h
  rw [Bool.and_eq_true, List.all_eq_true] at h
  exact h.1

set_option maxHeartbeats 1000000 in
theorem implDecideCall_any (v : Value) (rs : List Ru) (c : Ca) (w : World) (hm : rs.length ≤ 1048577) (hfz : ∀ r ∈ rs, r.size ≤ 1048576) (hc : c.size ≤ 1048576) (hr : RuS w v rs) :
    Calls Tryz.prog 5 #[v, c.val] w fun e w' => e = .returned (.tuple #[.int .i64 (dC rs c (List.range rs.length)), .int .i64 (dK rs c (List.range rs.length)), .bool (dOk rs c)]) ∧ Below w.heap.size w w' := by
  obtain ⟨a, cap, rfl⟩ := hr.len
  have hBa : Below w.heap.size w (w.alloc (.cells #[.string c.who, .string c.method, .string c.path] 25)) := (Below.refl _ w).alloc (Nat.le_refl _) _
  have hr0 := hr.below hBa
  have b0 : (w.alloc (.cells #[.string c.who, .string c.method, .string c.path] 25)).cell? ⟨w.heap.size, 0, none⟩ = some (.string c.who) := by simp
  have b1 : (w.alloc (.cells #[.string c.who, .string c.method, .string c.path] 25)).cell? ⟨w.heap.size, 1, none⟩ = some (.string c.method) := by simp
  have b2 : (w.alloc (.cells #[.string c.who, .string c.method, .string c.path] 25)).cell? ⟨w.heap.size, 2, none⟩ = some (.string c.path) := by simp
  clear hr
  cases h1 : polB rs
  · have ho : dOk rs c = false := by unfold dOk; rw [h1]; rfl
    have HO := hid ho
    have HD := hid (d_no (List.range rs.length) ho)
    clear ho
    go_enter Tryz.func5, Tryz.ntmps5
    go_wp2_with fail
    refine (goodPolicy_any _ rs _ hm hfz hr0).mono ?_
    rintro e w1 ⟨rfl, hB1⟩
    rw [h1]
    go_wp2_with fail
    go_ret3
    exact ⟨ret_dec HD.out.1.symm HD.out.2.symm HO.out.symm, below_one hBa hB1⟩
  · cases h2 : c.good
    · have ho : dOk rs c = false := by unfold dOk; rw [h1, h2]; rfl
      have HO := hid ho
      have HD := hid (d_no (List.range rs.length) ho)
      clear ho
      go_enter Tryz.func5, Tryz.ntmps5
      go_wp2_with fail
      refine (goodPolicy_any _ rs _ hm hfz hr0).mono ?_
      rintro e w1 ⟨rfl, hB1⟩
      rw [h1]
      have c0 := (hB1.cell (p := ⟨w.heap.size, 0, none⟩) (by simp)).trans b0
      have c1 := (hB1.cell (p := ⟨w.heap.size, 1, none⟩) (by simp)).trans b1
      have c2 := (hB1.cell (p := ⟨w.heap.size, 2, none⟩) (by simp)).trans b2
      have hBB1 := below_one hBa hB1
      clear b0 b1 b2 hr0 hB1
      go_wp2_with fail
      refine (implGoodCall_any c _ hc).mono ?_
      rintro e w2 ⟨rfl, hB2⟩
      rw [h2]
      have hBB2 := below_one hBB1 hB2
      clear hBB1 hB2
      go_wp2_with fail
      go_ret3
      exact ⟨ret_dec HD.out.1.symm HD.out.2.symm HO.out.symm, hBB2⟩
    · have ho : dOk rs c = true := by unfold dOk; rw [h1, h2]; rfl
      have HO := hid ho
      have HD := hid (d_yes (List.range rs.length) ho)
      have hgood := pol_good h1
      have hlr : (List.range rs.length).length ≤ 1048577 := by rw [List.length_range]; exact hm
      have hof : ∀ k ∈ List.range rs.length, k < rs.length := fun k hk => List.mem_range.1 hk
      obtain ⟨i0, hi, hz0, hz1', hz2'⟩ := info_parts infoInt
      clear ho
      go_enter Tryz.func5, Tryz.ntmps5
      go_wp2_with fail
      refine (goodPolicy_any _ rs _ hm hfz hr0).mono ?_
      rintro e w1 ⟨rfl, hB1⟩
      rw [h1]
      have c0 := (hB1.cell (p := ⟨w.heap.size, 0, none⟩) (by simp)).trans b0
      have c1 := (hB1.cell (p := ⟨w.heap.size, 1, none⟩) (by simp)).trans b1
      have c2 := (hB1.cell (p := ⟨w.heap.size, 2, none⟩) (by simp)).trans b2
      have hz1 : w.heap.size < w1.heap.size := by have := hB1.size; simp at this; omega
      have hr1 := hr0.below hB1
      have hBB1 := below_one hBa hB1
      clear b0 b1 b2 hr0 hB1 hBa
      go_wp2_with fail
      refine (implGoodCall_any c _ hc).mono ?_
      rintro e w2 ⟨rfl, hB2⟩
      rw [h2]
      replace c0 := (hB2.cell (p := ⟨w.heap.size, 0, none⟩) hz1).trans c0
      replace c1 := (hB2.cell (p := ⟨w.heap.size, 1, none⟩) hz1).trans c1
      replace c2 := (hB2.cell (p := ⟨w.heap.size, 2, none⟩) hz1).trans c2
      have hr2 := hr1.below hB2
      have hBB2 := below_one hBB1 hB2
      have hz2 : w.heap.size < w2.heap.size := Nat.lt_of_lt_of_le hz1 hB2.size
      clear hr1 hBB1 hB2 hz1
      go_wp2
      go_loopw [7, 21] (fun out i wr => ∃ k : Nat, k ≤ rs.length ∧ i = .int .i64 k ∧ wr.ownsRow w2.heap.size 3 1 out (List.range k).length (ints (List.range k)) ∧ Below w2.heap.size w2 wr) (fun _ i _ => rs.length - (intOf i).toNat)
      case atStart => exact ⟨0, Nat.zero_le _, rfl, World.ownsRow_nil _ _ _ _, Below.refl _ _⟩
      case round =>
        obtain ⟨k, hk, rfl, hrow, hB⟩ := hrel
        have hz := hB.size
        have hl : (List.range k).length = k := List.length_range
        have hl1 : (List.range k).length ≤ k := by omega
        have HL := hid hl
        clear hl
        by_cases hlt : k < rs.length
        · go_wp2_with (at_builtin; refine wpList_append_own _ rfl _ _ 43 rfl w2.heap.size 3 i0 (.int .i64 0) 1 8 Tryz.underlying43 hi hz0 hz1' hz2' rfl (by decide) _ _ _ rfl (hrow.alloc _) ⟨wr.heap.size, 0, none⟩ 1 1 [.int .i64 (k : Int)] rfl rfl (cell_one_new _ _ _) (by simp [Value.oneCell']) (by simp [maxLen]; omega) (by omega) (by simp; omega) ?_; intro v' w1 hown' hgrow _; obtain ⟨g', cap', rfl⟩ := ownsRow_succ hown')
          go_roundw
          case rel =>
            refine ⟨k + 1, by omega, by go_num, ?_, hB.trans (below_appended hz hrow hgrow)⟩
            rw [List.range_succ]
            simpa [ints] using hown'
          case measure => simp [intOf]; omega
        · obtain rfl : k = rs.length := by omega
          have hr3 := hr2.below hB
          have d0 := (hB.cell (p := ⟨w.heap.size, 0, none⟩) hz2).trans c0
          have d1 := (hB.cell (p := ⟨w.heap.size, 1, none⟩) hz2).trans c1
          have d2 := (hB.cell (p := ⟨w.heap.size, 2, none⟩) hz2).trans c2
          have hBB3 := below_one hBB2 hB
          clear hB hl1 hz
          go_wp2_with fail
          refine (decideAmong_any _ _ rs (List.range rs.length) c w2.heap.size _ hm hlr hfz hc hgood h2 hof hr3 hrow).mono ?_
          rintro e w5 ⟨rfl, hB5⟩
          have hBB5 := below_one hBB3 hB5
          clear hB5 hBB3
          go_wp2
          go_ret3
          exact ⟨ret_dec HD.out.1.symm HD.out.2.symm HO.out.symm, hBB5⟩

end Go.Proofs.YtnblnhlfifhkkaaGreat
