/-
  Chapter 5: rules and numbers that others have not, by both.
-/
import Derived.Deep.RegionHeld3
import Derived.Test.YtmmjiocmldnamaaRuEq
namespace Go.Proofs.Ytmmjiocmldnamaa
open Go.RowKit Go.Shelf

theorem cell_four_w (w : World) (r : Ru) : ∀ j u, r.cells[j]? = some u → (w.alloc (.cells #[.bool r.deny, .string r.who, .string r.method, .string r.path] 63)).cell? ((⟨w.heap.size, 0, none⟩ : Addr).add j) = some u := by
  intro j u hu
  rw [Addr.add_lit, Nat.zero_add]
  have hj : j < 4 := by
    have := (List.getElem?_eq_some_iff.1 hu).1
    simpa using this
  obtain rfl | rfl | rfl | rfl : j = 0 ∨ j = 1 ∨ j = 2 ∨ j = 3 := by omega
  all_goals (simp at hu; subst hu; simp)

set_option maxHeartbeats 2000000 in
theorem withoutN_any (v v' : Value) (zs gs : List Int) (w : World) (hm : zs.length ≤ 1048577) (hm' : gs.length ≤ 1048577) (hr : VS w v (nums zs)) (hr' : VS w v' (nums gs)) :
    Calls Try.prog 50 #[v, v'] w fun e w' => ∃ u, e = .returned u ∧ w'.ownsRow w.heap.size 3 1 u (woN zs gs).length (nums (woN zs gs)) ∧ Below w.heap.size w w' := by
  obtain ⟨a, cap, rfl⟩ := hr.numLen
  obtain ⟨a', cap', rfl⟩ := hr'.numLen
  obtain ⟨i0, hi, hz0, hz1, hz2⟩ := info_parts infoInt
  go_enter Try.func50, Try.ntmps50
  go_wp2
  go_loopw [5, 10] (fun out i wr => ∃ k : Nat, k ≤ zs.length ∧ i = .int .i64 k ∧ wr.ownsRow w.heap.size 3 1 out (woNT zs gs k).length (nums (woNT zs gs k)) ∧ Below w.heap.size w wr) (fun _ i _ => zs.length - (intOf i).toNat)
  case atStart => exact ⟨0, Nat.zero_le _, rfl, by rw [woNT_zero]; exact World.ownsRow_nil _ _ _ _, Below.refl _ _⟩
  case round =>
    obtain ⟨k, hk, rfl, hrow, hB⟩ := hrel
    have hl1 := woNT_len zs gs k
    have hz3 := hB.size
    by_cases hlt : k < zs.length
    · obtain ⟨b, off, rfl, hb, hcap, q0⟩ := (hr.below hB).num hlt
      have HY := hid (fun h => woNT_yes (b := gs) hlt h)
      have HN := hid (fun h => woNT_no (b := gs) hlt h)
      have hC := contI_any (.slice a' gs.length cap') gs zs[k] _ hm' (hr'.below hB)
      generalize zs[k] = x at *
      cases hq : isI gs x
      · have HR := hid (HN.out hq)
        go_wp2_with fail
        refine hC.mono ?_
        rintro e w1 ⟨rfl, rfl⟩
        rw [hq]
        clear hC
        go_wp2_with (at_builtin; refine wpList_append_own _ rfl _ _ 23 rfl w.heap.size 3 i0 (.int .i64 0) 1 8 Try.underlying23 hi hz0 hz1 hz2 rfl (by decide) _ _ _ rfl (hrow.alloc _) ⟨w1.heap.size, 0, none⟩ 1 1 [.int .i64 x] rfl rfl (cell_one_new _ _ _) (by intro u hu; simp at hu; rcases hu with rfl <;> rfl) (by unfold maxLen; first | omega | (simp <;> omega)) (by first | omega | (simp <;> omega)) (by first | omega | (simp <;> omega)) ?_; intro u' w3 hown' hgrow _; obtain ⟨g', cap3, rfl⟩ := ownsRow_succ hown')
        go_roundw
        case rel =>
          refine ⟨k + 1, by omega, by go_num, ?_, hB.trans (below_appended hz3 hrow hgrow)⟩
          rw [HR.out]
          simpa [nums] using hown'
        case measure => simp [intOf]; omega
      · have HR := hid (HY.out hq)
        go_wp2_with fail
        refine hC.mono ?_
        rintro e w1 ⟨rfl, rfl⟩
        rw [hq]
        clear hC
        go_wp2_with fail
        go_roundw
        case rel => exact ⟨k + 1, by omega, by go_num, by rw [HR.out]; exact hrow, hB⟩
        case measure => simp [intOf]; omega
    · obtain rfl : k = zs.length := by omega
      rw [woNT_end] at hrow
      go_wp2
      go_ret
      exact ⟨_, rfl, hrow, hB⟩

set_option maxHeartbeats 2000000 in
theorem withoutR_any (v v' : Value) (rs gs : List Ru) (w : World) (hm : rs.length ≤ 1048577) (hm' : gs.length ≤ 1048577) (hr : RuS w v rs) (hr' : RuR w v' gs) :
    Calls Try.prog 51 #[v, v'] w fun e w' => ∃ u, e = .returned u ∧ w'.ownsRow w.heap.size 63 4 u (woR rs gs).length ((woR rs gs).flatMap Ru.cells) ∧ Below w.heap.size w w' := by
  obtain ⟨a, cap, rfl⟩ := hr.len
  obtain ⟨a', cap', rfl⟩ := hr'.len
  obtain ⟨i0, hi, hz0, hz1, hz2⟩ := info_parts infoRule
  go_enter Try.func51, Try.ntmps51
  go_wp2
  go_loopw [5, 10] (fun out i wr => ∃ k : Nat, k ≤ rs.length ∧ i = .int .i64 k ∧ wr.ownsRow w.heap.size 63 4 out (woRT rs gs k).length ((woRT rs gs k).flatMap Ru.cells) ∧ Below w.heap.size w wr) (fun _ i _ => rs.length - (intOf i).toNat)
  case atStart => exact ⟨0, Nat.zero_le _, rfl, by rw [woRT_zero]; exact World.ownsRow_nil _ _ _ _, Below.refl _ _⟩
  case round =>
    obtain ⟨k, hk, rfl, hrow, hB⟩ := hrel
    have hl1 := woRT_len rs gs k
    by_cases hlt : k < rs.length
    · obtain ⟨b, off, rfl, hb, hcap, q0, q1, q2, q3⟩ := (hr.below hB).at hlt
      have HY := hid (fun h => woRT_yes (b := gs) hlt h)
      have HN := hid (fun h => woRT_no (b := gs) hlt h)
      generalize rs[k] = r at *
      have hBw : Below wr.heap.size wr (wr.alloc (.cells #[.bool r.deny, .string r.who, .string r.method, .string r.path] 63)) := (Below.refl _ wr).alloc (Nat.le_refl _) _
      have F := Four.new wr (.bool r.deny) (.string r.who) (.string r.method) (.string r.path) 63
      have hrowW := ownsRow_below hrow hBw
      have hBW := below_one hB hBw
      clear hrow hB hBw
      cases hq : hasR gs r
      · have HR := hid (HN.out hq)
        go_wp2_with fail
        clear q0 q1 q2 q3
        generalize wr.alloc (.cells #[.bool r.deny, .string r.who, .string r.method, .string r.path] 63) = W0 at *
        refine (contRu_any (.slice a' gs.length cap') gs r _ hm' (hr'.below hBW)).mono ?_
        rintro e w1 ⟨rfl, hB1⟩
        rw [hq]
        replace F := F.below hB1
        have hrow1 := ownsRow_below hrowW hB1
        have hBB := below_one hBW hB1
        have hz3 := hBB.size
        clear hrowW hBW hB1
        obtain ⟨c0, c1, c2, c3⟩ := F.c
        go_wp2_with (at_builtin; refine wpList_append_own _ rfl _ _ 28 rfl w.heap.size 63 i0 _ 4 56 Try.underlying28 hi hz0 hz1 hz2 rfl (by decide) _ _ _ rfl (hrow1.alloc _) ⟨w1.heap.size, 0, none⟩ 1 1 r.cells rfl rfl (cell_four_w w1 r) (by intro u hu; simp at hu; rcases hu with rfl | rfl | rfl | rfl <;> rfl) (by unfold maxLen; first | omega | (simp <;> omega)) (by first | omega | (simp <;> omega)) (by first | omega | (simp <;> omega)) ?_; intro u' w3 hown' hgrow _; obtain ⟨g', cap3, rfl⟩ := ownsRow_succ hown')
        go_roundw
        case rel =>
          refine ⟨k + 1, by omega, by go_num, ?_, hBB.trans (below_appended hz3 hrow1 hgrow)⟩
          rw [HR.out, List.flatMap_append]
          simpa using hown'
        case measure => simp [intOf]; omega
      · have HR := hid (HY.out hq)
        go_wp2_with fail
        clear q0 q1 q2 q3
        generalize wr.alloc (.cells #[.bool r.deny, .string r.who, .string r.method, .string r.path] 63) = W0 at *
        refine (contRu_any (.slice a' gs.length cap') gs r _ hm' (hr'.below hBW)).mono ?_
        rintro e w1 ⟨rfl, hB1⟩
        rw [hq]
        have hrow1 := ownsRow_below hrowW hB1
        have hBB := below_one hBW hB1
        clear hrowW hBW hB1
        go_wp2_with fail
        go_roundw
        case rel => exact ⟨k + 1, by omega, by go_num, by rw [HR.out]; exact hrow1, hBB⟩
        case measure => simp [intOf]; omega
    · obtain rfl : k = rs.length := by omega
      rw [woRT_end] at hrow
      go_wp2
      go_ret
      exact ⟨_, rfl, hrow, hB⟩

theorem same_comm (r s : Ru) : r.same s = s.same r := by
  cases h : r.same s
  · cases h' : s.same r
    · rfl
    · have := same_eq h'
      subst this
      rw [h'] at h
      cases h
  · have := same_eq h
    subst this
    exact h.symm
def hasRT (b : List Ru) (r : Ru) (k : Nat) : Bool := (b.take k).any (fun y => r.same y)
theorem hasRT_zero (b : List Ru) (r : Ru) : hasRT b r 0 = false := by simp [hasRT]
theorem hasRT_succ {b : List Ru} {r : Ru} {k : Nat} (h : k < b.length) : hasRT b r (k + 1) = (hasRT b r k || r.same b[k]) := by
  unfold hasRT
  rw [List.take_succ_eq_append_getElem h, List.any_append]
  simp
theorem hasR_yes {b : List Ru} {r : Ru} {k : Nat} (h : k < b.length) (he : r.same b[k] = true) : hasR b r = true := List.any_eq_true.2 ⟨b[k], List.getElem_mem h, he⟩
theorem hasR_end (b : List Ru) (r : Ru) : hasRT b r b.length = hasR b r := by unfold hasRT hasR; rw [List.take_length]

set_option maxHeartbeats 2000000 in
theorem l5HasRule_any (v : Value) (rs : List Ru) (r : Ru) (w : World) (hm : rs.length ≤ 1048577) (hr : RuS w v rs) :
    Calls Try.prog 70 #[v, r.val] w fun e w' => e = .returned (.bool (hasR rs r)) ∧ Below w.heap.size w w' := by
  obtain ⟨a, cap, rfl⟩ := hr.len
  have hB0 : Below w.heap.size w (w.alloc (.cells #[.bool r.deny, .string r.who, .string r.method, .string r.path] 63)) := (Below.refl _ w).alloc (Nat.le_refl _) _
  have F := Four.new w (.bool r.deny) (.string r.who) (.string r.method) (.string r.path) 63
  go_enter Try.func70, Try.ntmps70
  go_wp2
  generalize w.alloc (.cells #[.bool r.deny, .string r.who, .string r.method, .string r.path] 63) = W0 at *
  go_loopw [9] (fun i wr => ∃ k : Nat, k ≤ rs.length ∧ i = .int .i64 k ∧ hasRT rs r k = false ∧ Below W0.heap.size W0 wr) (fun i _ => rs.length - (intOf i).toNat)
  case atStart => exact ⟨0, Nat.zero_le _, rfl, hasRT_zero _ _, Below.refl _ _⟩
  case round =>
    obtain ⟨k, hk, rfl, ht, hB⟩ := hrel
    have HT := hid ht
    clear ht
    have hBB := below_one hB0 hB
    by_cases hlt : k < rs.length
    · obtain ⟨b, off, rfl, hb, hcap, q0, q1, q2, q3⟩ := (hr.below hBB).at hlt
      have HS := hid (hasRT_succ (r := r) hlt)
      have HY := hid (fun h => hasR_yes (r := r) hlt h)
      generalize rs[k] = x at *
      obtain ⟨c0, c1, c2, c3⟩ := (F.below hB).c
      have hse := eql_ru x r
      have hlb := (F.below hB).lt
      have hBx : Below W0.heap.size W0 (wr.alloc (.cells #[.bool x.deny, .string x.who, .string x.method, .string x.path] 63)) := hB.alloc hB.size _
      cases hq : x.same r
      · have HR := hid (show hasRT rs r (k + 1) = false by rw [HS.out, HT.out, same_comm, hq]; rfl)
        go_wp2
        go_roundw
        case rel => exact ⟨k + 1, by omega, by go_num, HR.out, hBx⟩
        case measure => simp [intOf]; omega
      · have HR := hid (HY.out (by rw [same_comm]; exact hq))
        go_wp2
        go_ret
        exact ⟨ret_bool HR.out.symm, below_one hB0 hBx⟩
    · obtain rfl : k = rs.length := by omega
      have HR := hid (show hasR rs r = false by rw [← hasR_end, HT.out])
      go_wp2
      go_ret
      exact ⟨ret_bool HR.out.symm, hBB⟩

set_option maxHeartbeats 2000000 in
theorem l5Less_any (v v' : Value) (rs gs : List Ru) (w : World) (hm : rs.length ≤ 1048577) (hm' : gs.length ≤ 1048577) (hr : RuS w v rs) (hr' : RuS w v' gs) :
    Calls Try.prog 49 #[v, v'] w fun e w' => ∃ u, e = .returned u ∧ w'.ownsRow w.heap.size 63 4 u (woR rs gs).length ((woR rs gs).flatMap Ru.cells) ∧ Below w.heap.size w w' := by
  obtain ⟨a, cap, rfl⟩ := hr.len
  obtain ⟨a', cap', rfl⟩ := hr'.len
  obtain ⟨i0, hi, hz0, hz1, hz2⟩ := info_parts infoRule
  go_enter Try.func49, Try.ntmps49
  go_wp2
  go_loopw [5, 10] (fun out i wr => ∃ k : Nat, k ≤ rs.length ∧ i = .int .i64 k ∧ wr.ownsRow w.heap.size 63 4 out (woRT rs gs k).length ((woRT rs gs k).flatMap Ru.cells) ∧ Below w.heap.size w wr) (fun _ i _ => rs.length - (intOf i).toNat)
  case atStart => exact ⟨0, Nat.zero_le _, rfl, by rw [woRT_zero]; exact World.ownsRow_nil _ _ _ _, Below.refl _ _⟩
  case round =>
    obtain ⟨k, hk, rfl, hrow, hB⟩ := hrel
    have hl1 := woRT_len rs gs k
    by_cases hlt : k < rs.length
    · obtain ⟨b, off, rfl, hb, hcap, q0, q1, q2, q3⟩ := (hr.below hB).at hlt
      have HY := hid (fun h => woRT_yes (b := gs) hlt h)
      have HN := hid (fun h => woRT_no (b := gs) hlt h)
      generalize rs[k] = r at *
      have hBw : Below wr.heap.size wr (wr.alloc (.cells #[.bool r.deny, .string r.who, .string r.method, .string r.path] 63)) := (Below.refl _ wr).alloc (Nat.le_refl _) _
      have F := Four.new wr (.bool r.deny) (.string r.who) (.string r.method) (.string r.path) 63
      have hrowW := ownsRow_below hrow hBw
      have hBW := below_one hB hBw
      clear hrow hB hBw
      cases hq : hasR gs r
      · have HR := hid (HN.out hq)
        go_wp2_with fail
        clear q0 q1 q2 q3
        generalize wr.alloc (.cells #[.bool r.deny, .string r.who, .string r.method, .string r.path] 63) = W0 at *
        refine (l5HasRule_any (.slice a' gs.length cap') gs r _ hm' (hr'.below hBW)).mono ?_
        rintro e w1 ⟨rfl, hB1⟩
        rw [hq]
        replace F := F.below hB1
        have hrow1 := ownsRow_below hrowW hB1
        have hBB := below_one hBW hB1
        have hz3 := hBB.size
        clear hrowW hBW hB1
        obtain ⟨c0, c1, c2, c3⟩ := F.c
        go_wp2_with (at_builtin; refine wpList_append_own _ rfl _ _ 28 rfl w.heap.size 63 i0 _ 4 56 Try.underlying28 hi hz0 hz1 hz2 rfl (by decide) _ _ _ rfl (hrow1.alloc _) ⟨w1.heap.size, 0, none⟩ 1 1 r.cells rfl rfl (cell_four_w w1 r) (by intro u hu; simp at hu; rcases hu with rfl | rfl | rfl | rfl <;> rfl) (by unfold maxLen; first | omega | (simp <;> omega)) (by first | omega | (simp <;> omega)) (by first | omega | (simp <;> omega)) ?_; intro u' w3 hown' hgrow _; obtain ⟨g', cap3, rfl⟩ := ownsRow_succ hown')
        go_roundw
        case rel =>
          refine ⟨k + 1, by omega, by go_num, ?_, hBB.trans (below_appended hz3 hrow1 hgrow)⟩
          rw [HR.out, List.flatMap_append]
          simpa using hown'
        case measure => simp [intOf]; omega
      · have HR := hid (HY.out hq)
        go_wp2_with fail
        clear q0 q1 q2 q3
        generalize wr.alloc (.cells #[.bool r.deny, .string r.who, .string r.method, .string r.path] 63) = W0 at *
        refine (l5HasRule_any (.slice a' gs.length cap') gs r _ hm' (hr'.below hBW)).mono ?_
        rintro e w1 ⟨rfl, hB1⟩
        rw [hq]
        have hrow1 := ownsRow_below hrowW hB1
        have hBB := below_one hBW hB1
        clear hrowW hBW hB1
        go_wp2_with fail
        go_roundw
        case rel => exact ⟨k + 1, by omega, by go_num, by rw [HR.out]; exact hrow1, hBB⟩
        case measure => simp [intOf]; omega
    · obtain rfl : k = rs.length := by omega
      rw [woRT_end] at hrow
      go_wp2
      go_ret
      exact ⟨_, rfl, hrow, hB⟩

end Go.Proofs.Ytmmjiocmldnamaa
