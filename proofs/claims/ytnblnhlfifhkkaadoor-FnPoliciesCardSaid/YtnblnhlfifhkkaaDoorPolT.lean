/-
  Chapter 2: the text of a policy, by the specification and by the program.
-/
import Derived.Test.YtnblnhlfifhkkaaDoorImplG
import Derived.Test.YtnblnhlfifhkkaaDoorBuildW
namespace Go.Proofs.YtnblnhlfifhkkaaDoor
open Go.RowKit Go.Shelf

/-- The texts of the first k rules, each with its byte 10. -/
def polL (rs : List Ru) (k : Nat) : List UInt8 := (rs.take k).flatMap (fun r => r.text.data.toList ++ [10])
def polA (rs : List Ru) (k : Nat) : ByteArray := ⟨(polL rs k).toArray⟩
theorem polL_zero (rs : List Ru) : polL rs 0 = [] := by simp [polL]
theorem polL_succ {rs : List Ru} {k : Nat} (h : k < rs.length) : polL rs (k + 1) = polL rs k ++ (rs[k].text.data.toList ++ [10]) := by
  unfold polL
  rw [List.take_succ_eq_append_getElem h, List.flatMap_append]
  simp
theorem polA_succ {rs : List Ru} {k : Nat} (h : k < rs.length) : polA rs k ++ (rs[k].text ++ ⟨#[10]⟩) = polA rs (k + 1) := by
  unfold polA
  rw [polL_succ h]
  apply ByteArray.ext
  simp [ByteArray.data_append]
theorem polA_size (rs : List Ru) (k : Nat) : (polA rs k).size = (polL rs k).length := by
  unfold polA
  simp [ByteArray.size]
theorem text_size (r : Ru) : r.text.size ≤ r.size + 8 := by
  unfold Ru.text Ru.size
  obtain ⟨d, a, b, c⟩ := r
  cases d
  · simp only [Bool.false_eq_true, if_false, ByteArray.size_append, show (⟨#[97, 108, 108, 111, 119, 32]⟩ : ByteArray).size = 6 from rfl, show (⟨#[32]⟩ : ByteArray).size = 1 from rfl]
    omega
  · simp only [if_true, ByteArray.size_append, show (⟨#[100, 101, 110, 121, 32]⟩ : ByteArray).size = 5 from rfl, show (⟨#[32]⟩ : ByteArray).size = 1 from rfl]
    omega
theorem polL_len {rs : List Ru} (hf : ∀ r ∈ rs, r.size ≤ 1048576) : ∀ k, k ≤ rs.length → (polL rs k).length ≤ k * 1048585
  | 0, _ => by simp [polL]
  | k + 1, hk => by
    have ih := polL_len hf k (by omega)
    have h1 := hf rs[k] (List.getElem_mem (by omega))
    have h2 := text_size rs[k]
    rw [polL_succ (by omega)]
    simp only [List.length_append, List.length_singleton]
    have h3 : rs[k].text.data.toList.length = rs[k].text.size := by simp
    omega
/-- It has a text that is short enough. -/
def ptOkB (rs : List Ru) : Bool := polB rs && decide ((polL rs rs.length).length ≤ 1500)
def ptX (rs : List Ru) : ByteArray := if ptOkB rs = true then polA rs rs.length else ⟨#[]⟩
theorem ptX_no {rs : List Ru} (h : ptOkB rs = false) : ptX rs = ⟨#[]⟩ := if_neg (by rw [h]; exact Bool.false_ne_true)
theorem ptX_yes {rs : List Ru} (h : ptOkB rs = true) : ptX rs = polA rs rs.length := if_pos h

set_option maxHeartbeats 1000000 in
theorem l2Policy_any (v : Value) (rs : List Ru) (w : World) (hm : rs.length ≤ 30) (hf : ∀ r ∈ rs, r.size ≤ 1048576) (hr : RuS w v rs) :
    Calls Tryd.prog 18 #[v] w fun e w' => e = .returned (.string (polA rs rs.length)) ∧ Below w.heap.size w w' := by
  obtain ⟨a, cap, rfl⟩ := hr.len
  have HP := hid (fun k h => polL_len hf k h)
  go_enter Tryd.func18, Tryd.ntmps18
  go_wp2
  go_loopw [3, 8] (fun s i wr => ∃ k : Nat, k ≤ rs.length ∧ s = .string (polA rs k) ∧ i = .int .i64 k ∧ Below w.heap.size w wr) (fun _ i _ => rs.length - (intOf i).toNat)
  case atStart => exact ⟨0, Nat.zero_le _, by unfold polA; rw [polL_zero], rfl, Below.refl _ _⟩
  case round =>
    obtain ⟨k, hk, rfl, rfl, hB⟩ := hrel
    by_cases hlt : k < rs.length
    · obtain ⟨b, off, rfl, hb, hcap, q0, q1, q2, q3⟩ := (hr.below hB).at hlt
      have hz := hf rs[k] (List.getElem_mem hlt)
      have HS := hid (polA_succ hlt)
      have hl := HP.out k hk
      rw [← polA_size] at hl
      have ht := text_size rs[k]
      generalize rs[k] = r at *
      generalize polA rs k = s at *
      have hBa : Below w.heap.size w (wr.alloc (.cells #[.bool r.deny, .string r.who, .string r.method, .string r.path] 43)) := hB.alloc hB.size _
      have g1 : ¬9223372036854775807 < r.text.size + 1 := by omega
      have g2 : ¬9223372036854775807 < s.size + (r.text.size + 1) := by omega
      go_wp2_with fail
      refine (l2Text_any r _ hz).mono ?_
      rintro e w1 ⟨rfl, hB1⟩
      have hBB := below_one hBa hB1
      clear hBa hB1 q0 q1 q2 q3
      go_wp2
      go_roundw
      case rel => exact ⟨k + 1, by omega, by rw [HS.out], by go_num, hBB⟩
      case measure => simp [intOf]; omega
    · obtain rfl : k = rs.length := by omega
      go_wp2
      go_ret
      exact ⟨rfl, hB⟩

theorem pol_30 {rs : List Ru} (h : polB rs = true) : rs.length ≤ 30 := by
  unfold polB at h
  rw [Bool.and_eq_true] at h
  exact of_decide_eq_true h.2

set_option maxHeartbeats 1000000 in
theorem specPolicyText_any (v : Value) (rs : List Ru) (w : World) (hm : rs.length ≤ 1048577) (hf : ∀ r ∈ rs, r.size ≤ 1048576) (hr : RuS w v rs) :
    Calls Tryd.prog 6 #[v] w fun e w' => e = .returned (.tuple #[.string (ptX rs), .bool (ptOkB rs)]) ∧ Below w.heap.size w w' := by
  obtain ⟨a, cap, rfl⟩ := hr.len
  cases h1 : polB rs
  · have ho : ptOkB rs = false := by unfold ptOkB; rw [h1]; rfl
    have HO := hid ho
    have HX := hid (ptX_no ho)
    clear ho
    go_enter Tryd.func6, Tryd.ntmps6
    go_wp2_with fail
    refine (l2Good_any _ rs _ hm hf hr).mono ?_
    rintro e w1 ⟨rfl, hB1⟩
    rw [h1]
    go_wp2_with fail
    go_ret2
    exact ⟨ret_strb HX.out.symm HO.out.symm, hB1⟩
  · by_cases h2 : (polL rs rs.length).length ≤ 1500
    · have ho : ptOkB rs = true := by unfold ptOkB; rw [h1, decide_eq_true h2]; rfl
      have HO := hid ho
      have HX := hid (ptX_yes ho)
      have hz := polA_size rs rs.length
      have h30 := pol_30 h1
      clear ho
      go_enter Tryd.func6, Tryd.ntmps6
      go_wp2_with fail
      refine (l2Good_any _ rs _ hm hf hr).mono ?_
      rintro e w1 ⟨rfl, hB1⟩
      rw [h1]
      have hr1 := hr.below hB1
      go_wp2_with fail
      refine (l2Policy_any _ rs _ h30 hf hr1).mono ?_
      rintro e w2 ⟨rfl, hB2⟩
      have hBB := below_one hB1 hB2
      have d1 : decide (1500 < (polA rs rs.length).size) = false := by rw [hz]; simp; omega
      go_wp2_with fail
      go_ret2
      exact ⟨ret_strb HX.out.symm HO.out.symm, hBB⟩
    · have ho : ptOkB rs = false := by unfold ptOkB; rw [h1, decide_eq_false h2]; rfl
      have HO := hid ho
      have HX := hid (ptX_no ho)
      have hz := polA_size rs rs.length
      have h30 := pol_30 h1
      clear ho
      go_enter Tryd.func6, Tryd.ntmps6
      go_wp2_with fail
      refine (l2Good_any _ rs _ hm hf hr).mono ?_
      rintro e w1 ⟨rfl, hB1⟩
      rw [h1]
      have hr1 := hr.below hB1
      go_wp2_with fail
      refine (l2Policy_any _ rs _ h30 hf hr1).mono ?_
      rintro e w2 ⟨rfl, hB2⟩
      have hBB := below_one hB1 hB2
      have d1 : decide (1500 < (polA rs rs.length).size) = true := by rw [hz]; simp; omega
      go_wp2_with fail
      go_ret2
      exact ⟨ret_strb HX.out.symm HO.out.symm, hBB⟩

theorem cells_text (r : Ru) (l : List UInt8) : (Lib.byteCells l ++ Lib.strCells r.text) ++ [.int .u8 10] = Lib.byteCells (l ++ (r.text.data.toList ++ [10])) := by
  rw [Lib.strCells_eq, Lib.byteCells_append, Lib.byteCells_append, List.append_assoc]
  rfl

/-- The builder as it is made. -/
theorem built_new (w : World) : Lib.IsBuilder 41 5 w.heap.size w.heap.size [] (w.alloc (.cells #[.pointer none, .slice none 0 0] 41)) :=
  .inl ⟨Nat.le_refl _, .slice none 0 0, by show (w.heap.push _)[w.heap.size]? = some _; simp, World.ownsRow_nil _ _ _ _, by simp [Value.ownBlock]⟩

set_option maxHeartbeats 2000000 in
theorem implPolicyText_any (v : Value) (rs : List Ru) (w : World) (hm : rs.length ≤ 1048577) (hf : ∀ r ∈ rs, r.size ≤ 1048576) (hr : RuS w v rs) :
    Calls Tryd.prog 5 #[v] w fun e w' => e = .returned (.tuple #[.string (ptX rs), .bool (ptOkB rs)]) ∧ Below w.heap.size w w' := by
  obtain ⟨a, cap, rfl⟩ := hr.len
  cases h1 : polB rs
  · have ho : ptOkB rs = false := by unfold ptOkB; rw [h1]; rfl
    have HO := hid ho
    have HX := hid (ptX_no ho)
    clear ho
    go_enter Tryd.func5, Tryd.ntmps5
    go_wp2_with fail
    refine (goodPolicy_any _ rs _ hm hf hr).mono ?_
    rintro e w1 ⟨rfl, hB1⟩
    rw [h1]
    go_wp2_with fail
    go_ret2
    exact ⟨ret_strb HX.out.symm HO.out.symm, hB1⟩
  · have h30 := pol_30 h1
    have HP := hid (fun k h => polL_len hf k h)
    go_enter Tryd.func5, Tryd.ntmps5
    go_wp2_with fail
    refine (goodPolicy_any _ rs _ hm hf hr).mono ?_
    rintro e w1 ⟨rfl, hB1⟩
    rw [h1]
    have hr1 := hr.below hB1
    have hN := built_new w1
    have hBn : Below w1.heap.size w1 (w1.alloc (.cells #[.pointer none, .slice none 0 0] 41)) := (Below.refl _ w1).alloc (Nat.le_refl _) _
    clear hr
    go_wp2
    go_loopw [12] (fun i wr => ∃ k : Nat, k ≤ rs.length ∧ i = .int .i64 k ∧ Lib.IsBuilder 41 5 w1.heap.size w1.heap.size (Lib.byteCells (polL rs k)) wr ∧ Below w1.heap.size w1 wr) (fun i _ => rs.length - (intOf i).toNat)
    case atStart => exact ⟨0, Nat.zero_le _, rfl, by rw [polL_zero]; exact hN, hBn⟩
    case round =>
      obtain ⟨k, hk, rfl, hI, hB⟩ := hrel
      have hl := HP.out k hk
      by_cases hlt : k < rs.length
      · obtain ⟨b, off, rfl, hb, hcap, q0, q1, q2, q3⟩ := (hr1.below hB).at hlt
        have hz := hf rs[k] (List.getElem_mem hlt)
        have HS := hid (polL_succ hlt)
        have ht := text_size rs[k]
        have HC := hid (cells_text rs[k] (polL rs k))
        generalize rs[k] = r at *
        generalize polL rs k = l at *
        have hBw : Below wr.heap.size wr (wr.alloc (.cells #[.bool r.deny, .string r.who, .string r.method, .string r.path] 43)) := (Below.refl _ wr).alloc (Nat.le_refl _) _
        have hBa := below_one hB hBw
        have hIa := isB_below hI hBw
        go_wp2_with fail
        refine (textOfRule_any r _ hz).mono ?_
        rintro e w2 ⟨rfl, hB2, _⟩
        have hI2 := isB_below hIa hB2
        have hBB2 := below_one hBa hB2
        have hz2 := hBB2.size
        clear hB hBw hBa hIa hI hB2 q0 q1 q2 q3
        go_wp2_with fail
        refine (writeString_any w1.heap.size w1.heap.size _ r.text _ hI2 (by rw [Lib.byteCells_length]; omega) hz2).mono ?_
        rintro e w3 ⟨rfl, hI3, hB3⟩
        have hBB3 := hBB2.trans hB3
        have hz3 := hBB3.size
        clear hI2 hBB2 hz2 hB3
        go_wp2_with fail
        refine (writeByte_any w1.heap.size w1.heap.size _ 10 _ (.inr hI3) (by rw [List.length_append, Lib.byteCells_length, Lib.strCells_length]; omega) hz3).mono ?_
        rintro e w4 ⟨rfl, hI4, hB4⟩
        have hBB4 := hBB3.trans hB4
        rw [HC.out] at hI4
        clear hI3 hBB3 hz3 hB4
        go_wp2
        go_roundw
        case rel => exact ⟨k + 1, by omega, by go_num, by rw [HS.out]; exact .inr hI4, hBB4⟩
        case measure => simp [intOf]; omega
      · obtain rfl : k = rs.length := by omega
        have hzz := hB.size
        by_cases h2 : (polL rs rs.length).length ≤ 1500
        · have ho : ptOkB rs = true := by unfold ptOkB; rw [h1, decide_eq_true h2]; rfl
          have HO := hid ho
          have HX := hid (ptX_yes ho)
          have d1 : decide (1500 < (polL rs rs.length).length) = false := by simp; omega
          have HL := hid (Lib.byteCells_length (polL rs rs.length))
          clear ho
          go_wp2_with fail
          refine (bLen_any w1.heap.size w1.heap.size _ _ hI).mono ?_
          rintro e w5 ⟨rfl, rfl⟩
          rw [HL.out]
          go_wp2_with fail
          refine (bString_any w1.heap.size w1.heap.size _ _ hI hzz).mono ?_
          rintro e w6 ⟨rfl, hB6⟩
          go_wp2_with fail
          go_ret2
          exact ⟨ret_strb HX.out.symm HO.out.symm, below_one hB1 (hB.trans hB6)⟩
        · have ho : ptOkB rs = false := by unfold ptOkB; rw [h1, decide_eq_false h2]; rfl
          have HO := hid ho
          have HX := hid (ptX_no ho)
          have d1 : decide (1500 < (polL rs rs.length).length) = true := by simp; omega
          have HL := hid (Lib.byteCells_length (polL rs rs.length))
          clear ho
          go_wp2_with fail
          refine (bLen_any w1.heap.size w1.heap.size _ _ hI).mono ?_
          rintro e w5 ⟨rfl, rfl⟩
          rw [HL.out]
          go_wp2_with fail
          go_ret2
          exact ⟨ret_strb HX.out.symm HO.out.symm, below_one hB1 hB⟩

end Go.Proofs.YtnblnhlfifhkkaaDoor
