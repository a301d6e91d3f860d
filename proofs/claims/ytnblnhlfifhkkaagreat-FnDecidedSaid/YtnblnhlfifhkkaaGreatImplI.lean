/-
  Chapter 2, the program's side: first words, the index, and DecideByIndex.
-/
import Derived.Test.YtnblnhlfifhkkaaGreatImplD
import Derived.Test.YtnblnhlfifhkkaaGreatCutW
namespace Go.Proofs.YtnblnhlfifhkkaaGreat
open Go.RowKit Go.Shelf

theorem pt_size {s : ByteArray} (h : ptBs s = true) : 1 ≤ s.size := by
  cases h0 : slashB s
  · cases h1 : headB s
    · have hp : pathPs s = none := by
        unfold pathPs
        rw [h0, h1]
        rfl
      unfold ptBs at h
      rw [hp] at h
      cases h
    · unfold headB at h1
      by_cases hs : 1 ≤ s.size
      · exact hs
      · have : s.data.toList = [] := List.eq_nil_of_length_eq_zero (by rw [show s.data.toList.length = s.size by simp]; omega)
        rw [this] at h1
        simp at h1
  · have h1 : s.data.toList = [47] := by simpa [slashB, toList_data] using h0
    have h2 : s.data.toList.length = 1 := by rw [h1]; rfl
    simp at h2
    omega
theorem first_cut {s : ByteArray} (h : ptBs s = true) : cutA (s.extract 1 s.size) 47 = fstB s := by
  cases h0 : slashB s
  · cases h1 : headB s
    · have hp : pathPs s = none := by
        unfold pathPs
        rw [h0, h1]
        rfl
      unfold ptBs at h
      rw [hp] at h
      cases h
    · have hw : wL s = split (s.extract 1 s.size) 47 := by
        unfold wL
        rw [pathPs_head h0 h1]
        rfl
      obtain ⟨r, hr⟩ := split_head (s.extract 1 s.size) 47
      unfold fstB
      rw [hw, hr]
  · have hw : wL s = [] := by
      unfold wL
      rw [pathPs_slash h0]
      rfl
    have h1 : s.data.toList = [47] := by simpa [slashB, toList_data] using h0
    have h2 : s.data.toList.length = 1 := by rw [h1]; rfl
    have hs : s.size = 1 := by simpa using h2
    have he : s.extract 1 s.size = ⟨#[]⟩ := by
      rw [hs]
      apply ByteArray.ext
      simp
    unfold fstB
    rw [hw, he]
    rfl

set_option maxHeartbeats 1000000 in
theorem firstWord_any (s : ByteArray) (w : World) (hs : s.size ≤ 1048576) (h : ptBs s = true) :
    Calls Tryz.prog 20 #[.string s] w fun e w' => e = .returned (.string (fstB s)) ∧ ∃ n, w' = w.drewN n := by
  have h1 := pt_size h
  have HF := hid (first_cut h)
  have hz : (s.extract 1 s.size).size ≤ 1048576 := by rw [ByteArray.size_extract]; omega
  have g1 : (1 : Int) ≤ s.size := by omega
  clear h
  go_enter Tryz.func20, Tryz.ntmps20
  go_wp2_with fail
  refine (stringsCut_any (s.extract 1 s.size) 47 _ hz).mono ?_
  rintro e w1 ⟨rfl, n, rfl⟩
  go_wp2_with fail
  go_ret
  exact ⟨ret_str HF.out, n, rfl⟩

/-- The index of a word, where the list is a policy. -/
def ixL (rs : List Ru) (wd : ByteArray) : List Nat := if polB rs = true then idxTo rs wd rs.length else []
theorem ixL_no {rs : List Ru} (wd : ByteArray) (h : polB rs = false) : ixL rs wd = [] := if_neg (by rw [h]; exact Bool.false_ne_true)
theorem ixL_yes {rs : List Ru} (wd : ByteArray) (h : polB rs = true) : ixL rs wd = idxTo rs wd rs.length := if_pos h
theorem pol_pt {rs : List Ru} (h : polB rs = true) : ∀ r ∈ rs, ptBs r.path = true := by
  intro r hr
  have := pol_good h r hr
  unfold Ru.good at this
  simp only [Bool.and_eq_true] at this
  exact this.1.2

set_option maxHeartbeats 2000000 in
theorem implIndexOf_any (v : Value) (rs : List Ru) (wd : ByteArray) (w : World) (hm : rs.length ≤ 1048577) (hf : ∀ r ∈ rs, r.size ≤ 1048576) (hr : RuS w v rs) :
    Calls Tryz.prog 19 #[v, .string wd] w fun e w' => ∃ v', e = .returned (.tuple #[v', .bool (polB rs)]) ∧ w'.ownsRow w.heap.size 3 1 v' (ixL rs wd).length (ints (ixL rs wd)) ∧ Below w.heap.size w w' := by
  obtain ⟨a, cap, rfl⟩ := hr.len
  obtain ⟨i0, hi, hz0, hz1, hz2⟩ := info_parts infoInt
  cases h1 : polB rs
  · have HX := hid (ixL_no wd h1)
    go_enter Tryz.func19, Tryz.ntmps19
    go_wp2_with fail
    refine (goodPolicy_any _ rs _ hm hf hr).mono ?_
    rintro e w1 ⟨rfl, hB1⟩
    rw [h1]
    go_wp2_with fail
    go_ret2
    exact ⟨_, rfl, by rw [HX.out]; exact World.ownsRow_nil _ _ _ _, hB1⟩
  · have HX := hid (ixL_yes wd h1)
    have hpt := pol_pt h1
    go_enter Tryz.func19, Tryz.ntmps19
    go_wp2_with fail
    refine (goodPolicy_any _ rs _ hm hf hr).mono ?_
    rintro e w1 ⟨rfl, hB1⟩
    rw [h1]
    have hr1 := hr.below hB1
    clear hr h1
    go_wp2
    go_loopw [6, 16] (fun out i wr => ∃ k : Nat, k ≤ rs.length ∧ i = .int .i64 k ∧ wr.ownsRow w1.heap.size 3 1 out (idxTo rs wd k).length (ints (idxTo rs wd k)) ∧ Below w1.heap.size w1 wr) (fun _ i _ => rs.length - (intOf i).toNat)
    case atStart => exact ⟨0, Nat.zero_le _, rfl, World.ownsRow_nil _ _ _ _, Below.refl _ _⟩
    case round =>
      obtain ⟨k, hk, rfl, hrow, hB⟩ := hrel
      have hl1 := idx_len rs wd k
      by_cases hlt : k < rs.length
      · obtain ⟨b, off, rfl, hb, hcap, q0, q1, q2, q3⟩ := (hr1.below hB).at hlt
        have hz := hf rs[k] (List.getElem_mem hlt)
        have hq := hpt rs[k] (List.getElem_mem hlt)
        have HK := hid (idxAt_lt (wd := wd) hlt)
        generalize rs[k] = r at *
        have hp : r.path.size ≤ 1048576 := by unfold Ru.size at hz; omega
        have hBa : Below w1.heap.size w1 (wr.alloc (.cells #[.bool r.deny, .string r.who, .string r.method, .string r.path] 52)) := hB.alloc hB.size _
        have hrowa := hrow.alloc (.cells #[.bool r.deny, .string r.who, .string r.method, .string r.path] 52)
        go_wp2_with fail
        refine (firstWord_any r.path _ hp hq).mono ?_
        rintro e w2 ⟨rfl, n, hw2⟩
        have hB2 : Below (wr.alloc (.cells #[.bool r.deny, .string r.who, .string r.method, .string r.path] 52)).heap.size (wr.alloc (.cells #[.bool r.deny, .string r.who, .string r.method, .string r.path] 52)) w2 := by rw [hw2]; exact below_drewN (Below.refl _ _) _
        have hrow2 := ownsRow_below hrowa hB2
        have hB3 := below_one hBa hB2
        have hz3 := hB3.size
        clear q0 q1 q2 q3 hBa hB2 hrow hrowa hw2 hq
        generalize fstB r.path = x at *
        cases b2 : star2B x
        · have e2 : (x.toList == [42, 42]) = false := b2
          cases b3 : starB x
          · have e3 : (x.toList == [42]) = false := b3
            cases b1 : eqB x wd
            · have e1 : (x.toList == wd.toList) = false := b1
              have HR := hid (show idxTo rs wd (k + 1) = idxTo rs wd k from idx_no hlt (by rw [HK.out]; unfold idxF; rw [b1, b2, b3]; rfl))
              clear b1 b2 b3
              go_wp2_with fail
              go_roundw
              case rel => exact ⟨k + 1, by omega, by go_num, by rw [HR.out]; exact hrow2, hB3⟩
              case measure => simp [intOf]; omega
            · have e1 : (x.toList == wd.toList) = true := b1
              have HR := hid (show idxTo rs wd (k + 1) = idxTo rs wd k ++ [k] from idx_yes hlt (by rw [HK.out]; unfold idxF; rw [b1]; rfl))
              clear b1 b2 b3
              go_wp2_with (at_builtin; refine wpList_append_own _ rfl _ _ 43 rfl w1.heap.size 3 i0 (.int .i64 0) 1 8 Tryz.underlying43 hi hz0 hz1 hz2 rfl (by decide) _ _ _ rfl (hrow2.alloc _) ⟨w2.heap.size, 0, none⟩ 1 1 [.int .i64 (k : Int)] rfl rfl (cell_one_new _ _ _) (by simp [Value.oneCell']) (by simp [maxLen]; omega) (by omega) (by simp; omega) ?_; intro v' w3 hown' hgrow _; obtain ⟨g', cap', rfl⟩ := ownsRow_succ hown')
              go_roundw
              case rel =>
                refine ⟨k + 1, by omega, by go_num, ?_, hB3.trans (below_appended hz3 hrow2 hgrow)⟩
                rw [HR.out]
                simpa [ints] using hown'
              case measure => simp [intOf]; omega
          · have e3 : (x.toList == [42]) = true := b3
            cases b4 : wd.toList.isEmpty
            ·
              cases b1 : eqB x wd
              · have e1 : (x.toList == wd.toList) = false := b1
                have HR := hid (show idxTo rs wd (k + 1) = idxTo rs wd k ++ [k] from idx_yes hlt (by rw [HK.out]; unfold idxF; rw [b1, b2, b3, b4]; rfl))
                clear b1 b2 b3
                go_wp2_with (at_builtin; refine wpList_append_own _ rfl _ _ 43 rfl w1.heap.size 3 i0 (.int .i64 0) 1 8 Tryz.underlying43 hi hz0 hz1 hz2 rfl (by decide) _ _ _ rfl (hrow2.alloc _) ⟨w2.heap.size, 0, none⟩ 1 1 [.int .i64 (k : Int)] rfl rfl (cell_one_new _ _ _) (by simp [Value.oneCell']) (by simp [maxLen]; omega) (by omega) (by simp; omega) ?_; intro v' w3 hown' hgrow _; obtain ⟨g', cap', rfl⟩ := ownsRow_succ hown')
                go_roundw
                case rel =>
                  refine ⟨k + 1, by omega, by go_num, ?_, hB3.trans (below_appended hz3 hrow2 hgrow)⟩
                  rw [HR.out]
                  simpa [ints] using hown'
                case measure => simp [intOf]; omega
              · have e1 : (x.toList == wd.toList) = true := b1
                have HR := hid (show idxTo rs wd (k + 1) = idxTo rs wd k ++ [k] from idx_yes hlt (by rw [HK.out]; unfold idxF; rw [b1]; rfl))
                clear b1 b2 b3
                go_wp2_with (at_builtin; refine wpList_append_own _ rfl _ _ 43 rfl w1.heap.size 3 i0 (.int .i64 0) 1 8 Tryz.underlying43 hi hz0 hz1 hz2 rfl (by decide) _ _ _ rfl (hrow2.alloc _) ⟨w2.heap.size, 0, none⟩ 1 1 [.int .i64 (k : Int)] rfl rfl (cell_one_new _ _ _) (by simp [Value.oneCell']) (by simp [maxLen]; omega) (by omega) (by simp; omega) ?_; intro v' w3 hown' hgrow _; obtain ⟨g', cap', rfl⟩ := ownsRow_succ hown')
                go_roundw
                case rel =>
                  refine ⟨k + 1, by omega, by go_num, ?_, hB3.trans (below_appended hz3 hrow2 hgrow)⟩
                  rw [HR.out]
                  simpa [ints] using hown'
                case measure => simp [intOf]; omega
            ·
              cases b1 : eqB x wd
              · have e1 : (x.toList == wd.toList) = false := b1
                have HR := hid (show idxTo rs wd (k + 1) = idxTo rs wd k from idx_no hlt (by rw [HK.out]; unfold idxF; rw [b1, b2, b3, b4]; rfl))
                clear b1 b2 b3
                go_wp2_with fail
                go_roundw
                case rel => exact ⟨k + 1, by omega, by go_num, by rw [HR.out]; exact hrow2, hB3⟩
                case measure => simp [intOf]; omega
              · have e1 : (x.toList == wd.toList) = true := b1
                have HR := hid (show idxTo rs wd (k + 1) = idxTo rs wd k ++ [k] from idx_yes hlt (by rw [HK.out]; unfold idxF; rw [b1]; rfl))
                clear b1 b2 b3
                go_wp2_with (at_builtin; refine wpList_append_own _ rfl _ _ 43 rfl w1.heap.size 3 i0 (.int .i64 0) 1 8 Tryz.underlying43 hi hz0 hz1 hz2 rfl (by decide) _ _ _ rfl (hrow2.alloc _) ⟨w2.heap.size, 0, none⟩ 1 1 [.int .i64 (k : Int)] rfl rfl (cell_one_new _ _ _) (by simp [Value.oneCell']) (by simp [maxLen]; omega) (by omega) (by simp; omega) ?_; intro v' w3 hown' hgrow _; obtain ⟨g', cap', rfl⟩ := ownsRow_succ hown')
                go_roundw
                case rel =>
                  refine ⟨k + 1, by omega, by go_num, ?_, hB3.trans (below_appended hz3 hrow2 hgrow)⟩
                  rw [HR.out]
                  simpa [ints] using hown'
                case measure => simp [intOf]; omega
        · have e2 : (x.toList == [42, 42]) = true := b2
          cases b1 : eqB x wd
          · have e1 : (x.toList == wd.toList) = false := b1
            have HR := hid (show idxTo rs wd (k + 1) = idxTo rs wd k ++ [k] from idx_yes hlt (by rw [HK.out]; unfold idxF; rw [b1, b2]; rfl))
            clear b1 b2
            go_wp2_with (at_builtin; refine wpList_append_own _ rfl _ _ 43 rfl w1.heap.size 3 i0 (.int .i64 0) 1 8 Tryz.underlying43 hi hz0 hz1 hz2 rfl (by decide) _ _ _ rfl (hrow2.alloc _) ⟨w2.heap.size, 0, none⟩ 1 1 [.int .i64 (k : Int)] rfl rfl (cell_one_new _ _ _) (by simp [Value.oneCell']) (by simp [maxLen]; omega) (by omega) (by simp; omega) ?_; intro v' w3 hown' hgrow _; obtain ⟨g', cap', rfl⟩ := ownsRow_succ hown')
            go_roundw
            case rel =>
              refine ⟨k + 1, by omega, by go_num, ?_, hB3.trans (below_appended hz3 hrow2 hgrow)⟩
              rw [HR.out]
              simpa [ints] using hown'
            case measure => simp [intOf]; omega
          · have e1 : (x.toList == wd.toList) = true := b1
            have HR := hid (show idxTo rs wd (k + 1) = idxTo rs wd k ++ [k] from idx_yes hlt (by rw [HK.out]; unfold idxF; rw [b1]; rfl))
            clear b1 b2
            go_wp2_with (at_builtin; refine wpList_append_own _ rfl _ _ 43 rfl w1.heap.size 3 i0 (.int .i64 0) 1 8 Tryz.underlying43 hi hz0 hz1 hz2 rfl (by decide) _ _ _ rfl (hrow2.alloc _) ⟨w2.heap.size, 0, none⟩ 1 1 [.int .i64 (k : Int)] rfl rfl (cell_one_new _ _ _) (by simp [Value.oneCell']) (by simp [maxLen]; omega) (by omega) (by simp; omega) ?_; intro v' w3 hown' hgrow _; obtain ⟨g', cap', rfl⟩ := ownsRow_succ hown')
            go_roundw
            case rel =>
              refine ⟨k + 1, by omega, by go_num, ?_, hB3.trans (below_appended hz3 hrow2 hgrow)⟩
              rw [HR.out]
              simpa [ints] using hown'
            case measure => simp [intOf]; omega
      · obtain rfl : k = rs.length := by omega
        go_wp2
        go_ret2
        exact ⟨_, rfl, by rw [HX.out]; exact Go.Joins.ownsRow_le hrow hB1.size, below_one hB1 hB⟩

set_option maxHeartbeats 1000000 in
theorem implDecideByIndex_any (v : Value) (rs : List Ru) (c : Ca) (w : World) (hm : rs.length ≤ 1048577) (hfz : ∀ r ∈ rs, r.size ≤ 1048576) (hc : c.size ≤ 1048576) (hr : RuS w v rs) :
    Calls Tryz.prog 7 #[v, c.val] w fun e w' => e = .returned (.tuple #[.int .i64 (dC rs c (idxTo rs (fstB c.path) rs.length)), .int .i64 (dK rs c (idxTo rs (fstB c.path) rs.length)), .bool (dOk rs c)]) ∧ Below w.heap.size w w' := by
  obtain ⟨a, cap, rfl⟩ := hr.len
  have hp : c.path.size ≤ 1048576 := by unfold Ca.size at hc; omega
  have hBa : Below w.heap.size w (w.alloc (.cells #[.string c.who, .string c.method, .string c.path] 25)) := (Below.refl _ w).alloc (Nat.le_refl _) _
  have hr0 := hr.below hBa
  have b0 : (w.alloc (.cells #[.string c.who, .string c.method, .string c.path] 25)).cell? ⟨w.heap.size, 0, none⟩ = some (.string c.who) := by simp
  have b1 : (w.alloc (.cells #[.string c.who, .string c.method, .string c.path] 25)).cell? ⟨w.heap.size, 1, none⟩ = some (.string c.method) := by simp
  have b2 : (w.alloc (.cells #[.string c.who, .string c.method, .string c.path] 25)).cell? ⟨w.heap.size, 2, none⟩ = some (.string c.path) := by simp
  clear hr
  cases h2 : c.good
  · have ho : dOk rs c = false := by unfold dOk; rw [h2, Bool.and_false]
    have HO := hid ho
    have HD := hid (d_no (idxTo rs (fstB c.path) rs.length) ho)
    clear ho
    go_enter Tryz.func7, Tryz.ntmps7
    go_wp2_with fail
    refine (implGoodCall_any c _ hc).mono ?_
    rintro e w1 ⟨rfl, hB1⟩
    rw [h2]
    have hBB1 := below_one hBa hB1
    go_wp2_with fail
    go_ret3
    exact ⟨ret_dec HD.out.1.symm HD.out.2.symm HO.out.symm, hBB1⟩
  · have hcp : ptBs c.path = true := by
      unfold Ca.good at h2
      simp only [Bool.and_eq_true] at h2
      have := h2.1.2
      unfold gpB at this
      rw [Bool.and_eq_true] at this
      exact this.1
    cases h1 : polB rs
    · have ho : dOk rs c = false := by unfold dOk; rw [h1]; rfl
      have HO := hid ho
      have HD := hid (d_no (idxTo rs (fstB c.path) rs.length) ho)
      clear ho
      go_enter Tryz.func7, Tryz.ntmps7
      go_wp2_with fail
      refine (implGoodCall_any c _ hc).mono ?_
      rintro e w1 ⟨rfl, hB1⟩
      rw [h2]
      have c0 := (hB1.cell (p := ⟨w.heap.size, 0, none⟩) (by simp)).trans b0
      have c1 := (hB1.cell (p := ⟨w.heap.size, 1, none⟩) (by simp)).trans b1
      have c2 := (hB1.cell (p := ⟨w.heap.size, 2, none⟩) (by simp)).trans b2
      have hz1 : w.heap.size < w1.heap.size := by have := hB1.size; simp at this; omega
      have hr1 := hr0.below hB1
      have hBB1 := below_one hBa hB1
      clear b0 b1 b2 hr0 hB1 hBa
      go_wp2_with fail
      refine (firstWord_any c.path _ hp hcp).mono ?_
      rintro e w2 ⟨rfl, n, hw2⟩
      have hB2 : Below w1.heap.size w1 w2 := by rw [hw2]; exact below_drewN (Below.refl _ _) _
      replace c0 := (hB2.cell (p := ⟨w.heap.size, 0, none⟩) hz1).trans c0
      replace c1 := (hB2.cell (p := ⟨w.heap.size, 1, none⟩) hz1).trans c1
      replace c2 := (hB2.cell (p := ⟨w.heap.size, 2, none⟩) hz1).trans c2
      have hr2 := hr1.below hB2
      have hBB2 := below_one hBB1 hB2
      have hz2 : w.heap.size < w2.heap.size := Nat.lt_of_lt_of_le hz1 hB2.size
      clear hr1 hBB1 hB2 hw2
      go_wp2_with fail
      refine (implIndexOf_any _ rs (fstB c.path) _ hm hfz hr2).mono ?_
      rintro e w3 ⟨v3, rfl, hrow3, hB3⟩
      obtain ⟨a3, cap3, rfl⟩ := ownsRow_len hrow3
      rw [h1]
      replace c0 := (hB3.cell (p := ⟨w.heap.size, 0, none⟩) hz2).trans c0
      replace c1 := (hB3.cell (p := ⟨w.heap.size, 1, none⟩) hz2).trans c1
      replace c2 := (hB3.cell (p := ⟨w.heap.size, 2, none⟩) hz2).trans c2
      have hr3 := hr2.below hB3
      have hBB3 := below_one hBB2 hB3
      clear hr2 hBB2 hB3
      go_wp2_with fail
      go_ret3
      exact ⟨ret_dec HD.out.1.symm HD.out.2.symm HO.out.symm, hBB3⟩
    · have ho : dOk rs c = true := by unfold dOk; rw [h1, h2]; rfl
      have HO := hid ho
      have HD := hid (d_yes (idxTo rs (fstB c.path) rs.length) ho)
      have HX := hid (ixL_yes (fstB c.path) h1)
      have hgood := pol_good h1
      have hlr : (idxTo rs (fstB c.path) rs.length).length ≤ 1048577 := Nat.le_trans (idx_len _ _ _) hm
      have hof : ∀ k ∈ idxTo rs (fstB c.path) rs.length, k < rs.length := fun k hk => by
        unfold idxTo at hk
        exact List.mem_range.1 (List.mem_filter.1 hk).1
      clear ho
      go_enter Tryz.func7, Tryz.ntmps7
      go_wp2_with fail
      refine (implGoodCall_any c _ hc).mono ?_
      rintro e w1 ⟨rfl, hB1⟩
      rw [h2]
      have c0 := (hB1.cell (p := ⟨w.heap.size, 0, none⟩) (by simp)).trans b0
      have c1 := (hB1.cell (p := ⟨w.heap.size, 1, none⟩) (by simp)).trans b1
      have c2 := (hB1.cell (p := ⟨w.heap.size, 2, none⟩) (by simp)).trans b2
      have hz1 : w.heap.size < w1.heap.size := by have := hB1.size; simp at this; omega
      have hr1 := hr0.below hB1
      have hBB1 := below_one hBa hB1
      clear b0 b1 b2 hr0 hB1 hBa
      go_wp2_with fail
      refine (firstWord_any c.path _ hp hcp).mono ?_
      rintro e w2 ⟨rfl, n, hw2⟩
      have hB2 : Below w1.heap.size w1 w2 := by rw [hw2]; exact below_drewN (Below.refl _ _) _
      replace c0 := (hB2.cell (p := ⟨w.heap.size, 0, none⟩) hz1).trans c0
      replace c1 := (hB2.cell (p := ⟨w.heap.size, 1, none⟩) hz1).trans c1
      replace c2 := (hB2.cell (p := ⟨w.heap.size, 2, none⟩) hz1).trans c2
      have hr2 := hr1.below hB2
      have hBB2 := below_one hBB1 hB2
      have hz2 : w.heap.size < w2.heap.size := Nat.lt_of_lt_of_le hz1 hB2.size
      clear hr1 hBB1 hB2 hw2
      go_wp2_with fail
      refine (implIndexOf_any _ rs (fstB c.path) _ hm hfz hr2).mono ?_
      rintro e w3 ⟨v3, rfl, hrow3, hB3⟩
      rw [HX.out] at hrow3
      obtain ⟨a3, cap3, rfl⟩ := ownsRow_len hrow3
      rw [h1]
      replace c0 := (hB3.cell (p := ⟨w.heap.size, 0, none⟩) hz2).trans c0
      replace c1 := (hB3.cell (p := ⟨w.heap.size, 1, none⟩) hz2).trans c1
      replace c2 := (hB3.cell (p := ⟨w.heap.size, 2, none⟩) hz2).trans c2
      have hr3 := hr2.below hB3
      have hBB3 := below_one hBB2 hB3
      clear hr2 hBB2 hB3
      go_wp2_with fail
      refine (decideAmong_any _ _ rs (idxTo rs (fstB c.path) rs.length) c w2.heap.size _ hm hlr hfz hc hgood h2 hof hr3 hrow3).mono ?_
      rintro e w5 ⟨rfl, hB5⟩
      have hBB5 := below_one hBB3 hB5
      clear hB5 hBB3
      go_wp2_with fail
      go_ret3
      exact ⟨ret_dec HD.out.1.symm HD.out.2.symm HO.out.symm, hBB5⟩

end Go.Proofs.YtnblnhlfifhkkaaGreat
