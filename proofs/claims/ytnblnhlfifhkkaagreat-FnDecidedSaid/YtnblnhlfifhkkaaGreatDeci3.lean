/-
  Chapter 2's DecideCall and DecideByIndex by the specification.
-/
import Derived.Test.YtnblnhlfifhkkaaGreatDeci2
namespace Go.Proofs.YtnblnhlfifhkkaaGreat
open Go.RowKit Go.Shelf

theorem range_len {W : World} {base : Nat} {e : TypeId} {size n : Nat} {v : Value} {xs : List Value} (h : W.ownsRow base e size v (List.range n).length xs) : ∃ a cap, v = .slice a n cap := by
  obtain ⟨a, cap, hv⟩ := ownsRow_len h
  rw [List.length_range] at hv
  exact ⟨a, cap, hv⟩
theorem pol_nm {rs : List Ru} (h : polB rs = true) : ∀ r ∈ rs, nmB (split r.who 47) = true := by
  unfold polB at h
  rw [Bool.and_eq_true, List.all_eq_true] at h
  intro r hr
  have := h.1 r hr
  unfold Ru.good at this
  simp only [Bool.and_eq_true] at this
  exact this.1.1
theorem call_nm {c : Ca} (h : c.good = true) : nmB (split c.who 47) = true := by
  unfold Ca.good at h
  simp only [Bool.and_eq_true] at h
  exact gn_nm h.1.1
/-- A policy and a good call. -/
def dOk (rs : List Ru) (c : Ca) : Bool := polB rs && c.good
def dC (rs : List Ru) (c : Ca) (of : List Nat) : Int := if dOk rs c = true then decC rs c of else 0
def dK (rs : List Ru) (c : Ca) (of : List Nat) : Int := if dOk rs c = true then decK rs c of else 0
theorem d_no {rs : List Ru} {c : Ca} (of : List Nat) (h : dOk rs c = false) : dC rs c of = 0 ∧ dK rs c of = 0 := ⟨if_neg (by rw [h]; exact Bool.false_ne_true), if_neg (by rw [h]; exact Bool.false_ne_true)⟩
theorem d_yes {rs : List Ru} {c : Ca} (of : List Nat) (h : dOk rs c = true) : dC rs c of = decC rs c of ∧ dK rs c of = decK rs c of := ⟨if_pos h, if_pos h⟩
theorem ret_dec {a b c d : Int} {x y : Bool} (h : a = b) (h' : c = d) (h2 : x = y) : Ending.returned (.tuple #[.int .i64 a, .int .i64 c, .bool x]) = .returned (.tuple #[.int .i64 b, .int .i64 d, .bool y]) := by rw [h, h', h2]

set_option maxHeartbeats 1000000 in
theorem specDecideCall_any (v : Value) (rs : List Ru) (c : Ca) (w : World) (hm : rs.length ≤ 1048577) (hfz : ∀ r ∈ rs, r.size ≤ 1048576) (hc : c.size ≤ 1048576) (hr : RuS w v rs) :
    Calls Tryz.prog 6 #[v, c.val] w fun e w' => e = .returned (.tuple #[.int .i64 (dC rs c (List.range rs.length)), .int .i64 (dK rs c (List.range rs.length)), .bool (dOk rs c)]) ∧ Below w.heap.size w w' := by
  obtain ⟨a, cap, rfl⟩ := hr.len
  have hw : c.who.size ≤ 1048576 := by unfold Ca.size at hc; omega
  have hp : c.path.size ≤ 1048576 := by unfold Ca.size at hc; omega
  have hBa : Below w.heap.size w (w.alloc (.cells #[.string c.who, .string c.method, .string c.path] 25)) := (Below.refl _ w).alloc (Nat.le_refl _) _
  have hr0 := hr.below hBa
  have b0 : (w.alloc (.cells #[.string c.who, .string c.method, .string c.path] 25)).cell? ⟨w.heap.size, 0, none⟩ = some (.string c.who) := by simp
  have b1 : (w.alloc (.cells #[.string c.who, .string c.method, .string c.path] 25)).cell? ⟨w.heap.size, 1, none⟩ = some (.string c.method) := by simp
  have b2 : (w.alloc (.cells #[.string c.who, .string c.method, .string c.path] 25)).cell? ⟨w.heap.size, 2, none⟩ = some (.string c.path) := by simp
  clear hr
  cases h1 : polB rs
  · have ho : dOk rs c = false := by unfold dOk; rw [h1]; rfl
    have HO := hid ho
    have HD := hid (d_no (List.range rs.length) ho)
    clear ho
    go_enter Tryz.func6, Tryz.ntmps6
    go_wp2_with fail
    refine (l2Good_any _ rs _ hm hfz hr0).mono ?_
    rintro e w1 ⟨rfl, hB1⟩
    go_wp2_with fail
    go_ret3
    exact ⟨ret_dec HD.out.1.symm HD.out.2.symm HO.out.symm, below_one hBa hB1⟩
  · cases h2 : c.good
    · have ho : dOk rs c = false := by unfold dOk; rw [h1, h2]; rfl
      have HO := hid ho
      have HD := hid (d_no (List.range rs.length) ho)
      clear ho
      go_enter Tryz.func6, Tryz.ntmps6
      go_wp2_with fail
      refine (l2Good_any _ rs _ hm hfz hr0).mono ?_
      rintro e w1 ⟨rfl, hB1⟩
      have c0 := (hB1.cell (p := ⟨w.heap.size, 0, none⟩) (by simp)).trans b0
      have c1 := (hB1.cell (p := ⟨w.heap.size, 1, none⟩) (by simp)).trans b1
      have c2 := (hB1.cell (p := ⟨w.heap.size, 2, none⟩) (by simp)).trans b2
      have hz1 : w.heap.size < w1.heap.size := by have := hB1.size; simp at this; omega
      have hr1 := hr0.below hB1
      have hBB1 := below_one hBa hB1
      clear b0 b1 b2 hr0 hB1
      go_wp2_with fail
      refine (specGoodCall_any c _ hw hp).mono ?_
      rintro e w2 ⟨rfl, hB2⟩
      replace c0 := (hB2.cell (p := ⟨w.heap.size, 0, none⟩) hz1).trans c0
      replace c1 := (hB2.cell (p := ⟨w.heap.size, 1, none⟩) hz1).trans c1
      replace c2 := (hB2.cell (p := ⟨w.heap.size, 2, none⟩) hz1).trans c2
      have hr2 := hr1.below hB2
      have hBB2 := below_one hBB1 hB2
      have hz2 : w.heap.size < w2.heap.size := Nat.lt_of_lt_of_le hz1 hB2.size
      clear hr1 hBB1 hB2 hz1
      go_wp2_with fail
      go_ret3
      exact ⟨ret_dec HD.out.1.symm HD.out.2.symm HO.out.symm, hBB2⟩
    · have ho : dOk rs c = true := by unfold dOk; rw [h1, h2]; rfl
      have HO := hid ho
      have HD := hid (d_yes (List.range rs.length) ho)
      have hgood := pol_nm h1
      have hcn := call_nm h2
      have hlr : (List.range rs.length).length ≤ 1048577 := by rw [List.length_range]; exact hm
      have hof : ∀ k ∈ List.range rs.length, k < rs.length := fun k hk => List.mem_range.1 hk
      clear ho
      go_enter Tryz.func6, Tryz.ntmps6
      go_wp2_with fail
      refine (l2Good_any _ rs _ hm hfz hr0).mono ?_
      rintro e w1 ⟨rfl, hB1⟩
      have c0 := (hB1.cell (p := ⟨w.heap.size, 0, none⟩) (by simp)).trans b0
      have c1 := (hB1.cell (p := ⟨w.heap.size, 1, none⟩) (by simp)).trans b1
      have c2 := (hB1.cell (p := ⟨w.heap.size, 2, none⟩) (by simp)).trans b2
      have hz1 : w.heap.size < w1.heap.size := by have := hB1.size; simp at this; omega
      have hr1 := hr0.below hB1
      have hBB1 := below_one hBa hB1
      clear b0 b1 b2 hr0 hB1
      go_wp2_with fail
      refine (specGoodCall_any c _ hw hp).mono ?_
      rintro e w2 ⟨rfl, hB2⟩
      replace c0 := (hB2.cell (p := ⟨w.heap.size, 0, none⟩) hz1).trans c0
      replace c1 := (hB2.cell (p := ⟨w.heap.size, 1, none⟩) hz1).trans c1
      replace c2 := (hB2.cell (p := ⟨w.heap.size, 2, none⟩) hz1).trans c2
      have hr2 := hr1.below hB2
      have hBB2 := below_one hBB1 hB2
      have hz2 : w.heap.size < w2.heap.size := Nat.lt_of_lt_of_le hz1 hB2.size
      clear hr1 hBB1 hB2 hz1
      go_wp2_with fail
      have hr2d : RuS w2.drew (.slice a rs.length cap) rs := hr2
      have hBd : Below w.heap.size w w2.drew := hBB2.drew
      go_region_held3 (fun w' => RuS w' (.slice a rs.length cap) rs ∧ Below w.heap.size w w' ∧ w.heap.size < w'.heap.size ∧ w'.cell? ⟨w.heap.size, 0, none⟩ = some (.string c.who) ∧ w'.cell? ⟨w.heap.size, 1, none⟩ = some (.string c.method) ∧ w'.cell? ⟨w.heap.size, 2, none⟩ = some (.string c.path)) (go_keep) (first | (go_at_call 18; refine (l2All_any _ rs _ hm (by exact hr2)).mono ?_; rintro e w3 ⟨v3, rfl, hrow3, hB3⟩; obtain ⟨a3, cap3, rfl⟩ := range_len hrow3; have hr3 : RuS w3 (.slice a rs.length cap) rs := RuS.below (by exact hr2) hB3; have hBB3 : Below w.heap.size w w3 := below_one hBB2 (below_drew1 hB3); have hz3 : w.heap.size < w3.heap.size := Nat.lt_of_lt_of_le hz2 hB3.size; have c03 : w3.cell? ⟨w.heap.size, 0, none⟩ = some (.string c.who) := (hB3.cell (p := ⟨w.heap.size, 0, none⟩) hz2).trans c0; have c13 : w3.cell? ⟨w.heap.size, 1, none⟩ = some (.string c.method) := (hB3.cell (p := ⟨w.heap.size, 1, none⟩) hz2).trans c1; have c23 : w3.cell? ⟨w.heap.size, 2, none⟩ = some (.string c.path) := (hB3.cell (p := ⟨w.heap.size, 2, none⟩) hz2).trans c2) | (go_at_call 17; refine (l2Decide_any _ _ rs (List.range rs.length) c _ _ hm hlr hfz hc hgood hcn hof (by exact hr3) (by exact hrow3)).mono ?_; rintro e w4 ⟨rfl, hB4⟩; have hr4 : RuS w4 (.slice a rs.length cap) rs := RuS.below (by exact hr3) hB4; have hBB4 : Below w.heap.size w w4 := below_one hBB3 hB4; have hz4 : w.heap.size < w4.heap.size := Nat.lt_of_lt_of_le hz3 hB4.size; have c04 : w4.cell? ⟨w.heap.size, 0, none⟩ = some (.string c.who) := (hB4.cell (p := ⟨w.heap.size, 0, none⟩) hz3).trans c03; have c14 : w4.cell? ⟨w.heap.size, 1, none⟩ = some (.string c.method) := (hB4.cell (p := ⟨w.heap.size, 1, none⟩) hz3).trans c13; have c24 : w4.cell? ⟨w.heap.size, 2, none⟩ = some (.string c.path) := (hB4.cell (p := ⟨w.heap.size, 2, none⟩) hz3).trans c23))
      all_goals go_wp2
      all_goals go_ret3
      all_goals exact ⟨ret_dec HD.out.1.symm HD.out.2.symm HO.out.symm, hBB4⟩

end Go.Proofs.YtnblnhlfifhkkaaGreat
