/-
  Chapter 2's index of rules and deciding, by the specification.
-/
import Derived.Test.YtnblnhlfifhkkaePoli
namespace Go.Proofs.Ytnblnhlfifhkkae
open Go.RowKit Go.Shelf

/-- A rule stands in the index of a word. -/
def idxF (f wd : ByteArray) : Bool := (eqB f wd || star2B f) || (starB f && !wd.toList.isEmpty)
def idxAt (rs : List Ru) (wd : ByteArray) (k : Nat) : Bool := match rs[k]? with
  | some r => idxF (fstB r.path) wd
  | none => false
def idxTo (rs : List Ru) (wd : ByteArray) (k : Nat) : List Nat := (List.range k).filter (idxAt rs wd)
theorem idxAt_lt {rs : List Ru} {wd : ByteArray} {k : Nat} (h : k < rs.length) : idxAt rs wd k = idxF (fstB rs[k].path) wd := by
  unfold idxAt
  rw [List.getElem?_eq_getElem h]
theorem idx_yes {rs : List Ru} {wd : ByteArray} {k : Nat} (_h : k < rs.length) (h : idxAt rs wd k = true) : idxTo rs wd (k + 1) = idxTo rs wd k ++ [k] := by
  unfold idxTo
  rw [List.range_succ, List.filter_append]
  simp [h]
theorem idx_no {rs : List Ru} {wd : ByteArray} {k : Nat} (_h : k < rs.length) (h : idxAt rs wd k = false) : idxTo rs wd (k + 1) = idxTo rs wd k := by
  unfold idxTo
  rw [List.range_succ, List.filter_append]
  simp [h]
theorem idx_len (rs : List Ru) (wd : ByteArray) (k : Nat) : (idxTo rs wd k).length ≤ k := by
  unfold idxTo
  exact Nat.le_trans (List.length_filter_le _ _) (by simp)
theorem fst_size {s : ByteArray} : (fstB s).size ≤ s.size := by
  unfold fstB
  split
  · exact Nat.zero_le _
  · rename_i x r h
    exact wL_mem (by rw [h]; simp)

set_option maxHeartbeats 2000000 in
theorem l2Index_any (v : Value) (rs : List Ru) (wd : ByteArray) (w : World) (hm : rs.length ≤ 1048577) (hf : ∀ r ∈ rs, r.size ≤ 1048576) (hr : RuS w v rs) :
    Calls Try.prog 51 #[v, .string wd] w fun e w' => ∃ v', e = .returned v' ∧ w'.ownsRow w.heap.size 3 1 v' (idxTo rs wd rs.length).length (ints (idxTo rs wd rs.length)) ∧ Below w.heap.size w w' := by
  obtain ⟨a, cap, rfl⟩ := hr.len
  obtain ⟨i0, hi, hz0, hz1, hz2⟩ := info_parts infoInt
  go_enter Try.func51, Try.ntmps51
  go_wp2
  go_loopw [5, 11] (fun out i wr => ∃ k : Nat, k ≤ rs.length ∧ i = .int .i64 k ∧ wr.ownsRow w.heap.size 3 1 out (idxTo rs wd k).length (ints (idxTo rs wd k)) ∧ Below w.heap.size w wr) (fun _ i _ => rs.length - (intOf i).toNat)
  case atStart => exact ⟨0, Nat.zero_le _, rfl, World.ownsRow_nil _ _ _ _, Below.refl _ _⟩
  case round =>
    obtain ⟨k, hk, rfl, hrow, hB⟩ := hrel
    have hl1 := idx_len rs wd k
    by_cases hlt : k < rs.length
    · obtain ⟨b, off, rfl, hb, hcap, q0, q1, q2, q3⟩ := (hr.below hB).at hlt
      have hz := hf rs[k] (List.getElem_mem hlt)
      have HK := hid (idxAt_lt (wd := wd) hlt)
      generalize rs[k] = r at *
      have hp : r.path.size ≤ 1048576 := by unfold Ru.size at hz; omega
      have hBa : Below w.heap.size w (wr.alloc (.cells #[.bool r.deny, .string r.who, .string r.method, .string r.path] 52)) := hB.alloc hB.size _
      have hrowa := hrow.alloc (.cells #[.bool r.deny, .string r.who, .string r.method, .string r.path] 52)
      go_wp2_with fail
      refine (l2First_any r.path _ hp).mono ?_
      rintro e w1 ⟨rfl, hB1⟩
      have hrow1 := ownsRow_below hrowa hB1
      have hB3 := below_one hBa hB1
      have hz3 := hB3.size
      clear q0 q1 q2 q3 hBa hB1 hrow hrowa
      generalize fstB r.path = x at *
      cases b1 : eqB x wd
      · have e1 : (x.toList == wd.toList) = false := b1
        cases b2 : star2B x
        · have e2 : (x.toList == [42, 42]) = false := b2
          cases b3 : starB x
          · have e3 : (x.toList == [42]) = false := b3
            have HR := hid (show idxTo rs wd (k + 1) = idxTo rs wd k from idx_no hlt (by rw [HK.out]; unfold idxF; rw [b1, b2, b3]; rfl))
            clear b1 b2 b3
            go_wp2_with fail
            go_roundw
            case rel => exact ⟨k + 1, by omega, by go_num, by rw [HR.out]; exact hrow1, hB3⟩
            case measure => simp [intOf]; omega
          · have e3 : (x.toList == [42]) = true := b3
            cases b4 : wd.toList.isEmpty
            · have HR := hid (show idxTo rs wd (k + 1) = idxTo rs wd k ++ [k] from idx_yes hlt (by rw [HK.out]; unfold idxF; rw [b1, b2, b3, b4]; rfl))
              clear b1 b2 b3
              go_wp2_with (at_builtin; refine wpList_append_own _ rfl _ _ 41 rfl w.heap.size 3 i0 (.int .i64 0) 1 8 Try.underlying41 hi hz0 hz1 hz2 rfl (by decide) _ _ _ rfl (hrow1.alloc _) ⟨w1.heap.size, 0, none⟩ 1 1 [.int .i64 (k : Int)] rfl rfl (cell_one_new _ _ _) (by simp [Value.oneCell']) (by simp [maxLen]; omega) (by omega) (by simp; omega) ?_; intro v' w2 hown' hgrow _; obtain ⟨g', cap', rfl⟩ := ownsRow_succ hown')
              go_roundw
              case rel =>
                refine ⟨k + 1, by omega, by go_num, ?_, hB3.trans (below_appended hz3 hrow1 hgrow)⟩
                rw [HR.out]
                simpa [ints] using hown'
              case measure => simp [intOf]; omega
            · have HR := hid (show idxTo rs wd (k + 1) = idxTo rs wd k from idx_no hlt (by rw [HK.out]; unfold idxF; rw [b1, b2, b3, b4]; rfl))
              clear b1 b2 b3
              go_wp2_with fail
              go_roundw
              case rel => exact ⟨k + 1, by omega, by go_num, by rw [HR.out]; exact hrow1, hB3⟩
              case measure => simp [intOf]; omega
        · have e2 : (x.toList == [42, 42]) = true := b2
          have HR := hid (show idxTo rs wd (k + 1) = idxTo rs wd k ++ [k] from idx_yes hlt (by rw [HK.out]; unfold idxF; rw [b1, b2]; rfl))
          clear b1 b2
          go_wp2_with (at_builtin; refine wpList_append_own _ rfl _ _ 41 rfl w.heap.size 3 i0 (.int .i64 0) 1 8 Try.underlying41 hi hz0 hz1 hz2 rfl (by decide) _ _ _ rfl (hrow1.alloc _) ⟨w1.heap.size, 0, none⟩ 1 1 [.int .i64 (k : Int)] rfl rfl (cell_one_new _ _ _) (by simp [Value.oneCell']) (by simp [maxLen]; omega) (by omega) (by simp; omega) ?_; intro v' w2 hown' hgrow _; obtain ⟨g', cap', rfl⟩ := ownsRow_succ hown')
          go_roundw
          case rel =>
            refine ⟨k + 1, by omega, by go_num, ?_, hB3.trans (below_appended hz3 hrow1 hgrow)⟩
            rw [HR.out]
            simpa [ints] using hown'
          case measure => simp [intOf]; omega
      · have e1 : (x.toList == wd.toList) = true := b1
        have HR := hid (show idxTo rs wd (k + 1) = idxTo rs wd k ++ [k] from idx_yes hlt (by rw [HK.out]; unfold idxF; rw [b1]; rfl))
        clear b1
        go_wp2_with (at_builtin; refine wpList_append_own _ rfl _ _ 41 rfl w.heap.size 3 i0 (.int .i64 0) 1 8 Try.underlying41 hi hz0 hz1 hz2 rfl (by decide) _ _ _ rfl (hrow1.alloc _) ⟨w1.heap.size, 0, none⟩ 1 1 [.int .i64 (k : Int)] rfl rfl (cell_one_new _ _ _) (by simp [Value.oneCell']) (by simp [maxLen]; omega) (by omega) (by simp; omega) ?_; intro v' w2 hown' hgrow _; obtain ⟨g', cap', rfl⟩ := ownsRow_succ hown')
        go_roundw
        case rel =>
          refine ⟨k + 1, by omega, by go_num, ?_, hB3.trans (below_appended hz3 hrow1 hgrow)⟩
          rw [HR.out]
          simpa [ints] using hown'
        case measure => simp [intOf]; omega
    · obtain rfl : k = rs.length := by omega
      go_wp2
      go_ret
      exact ⟨_, rfl, hrow, hB⟩

/-- A rule speaks of a call. -/
def spkB (r : Ru) (c : Ca) : Bool := (mnB (split r.who 47) (split c.who 47) && lmB (wL r.path) (wL c.path)) && (starB r.method || eqB r.method c.method)

set_option maxHeartbeats 2000000 in
theorem l2Speaks_any (r : Ru) (c : Ca) (w : World) (hr : r.size ≤ 1048576) (hc : c.size ≤ 1048576) (h1 : nmB (split r.who 47) = true) (h2 : nmB (split c.who 47) = true) :
    Calls Try.prog 65 #[r.val, c.val] w fun e w' => e = .returned (.bool (spkB r c)) ∧ Below w.heap.size w w' := by
  obtain ⟨x, y, he⟩ := nm_two h1
  obtain ⟨u, v, hf⟩ := nm_two h2
  have hw1 : r.who.size ≤ 1048576 := by unfold Ru.size at hr; omega
  have hw2 : c.who.size ≤ 1048576 := by unfold Ca.size at hc; omega
  have hp1 : r.path.size ≤ 1048576 := by unfold Ru.size at hr; omega
  have hp2 : c.path.size ≤ 1048576 := by unfold Ca.size at hc; omega
  have HM := hid (show mnB (split r.who 47) (split c.who 47) = (stB x u && stB y v) by rw [he, hf]; rfl)
  have HE := hid he
  have HF := hid hf
  clear he hf h1 h2
  cases m1 : (stB x u && stB y v)
  · have HR := hid (show spkB r c = false by unfold spkB; rw [HM.out, m1]; rfl)
    go_enter Try.func65, Try.ntmps65
    go_wp2_with (go_at_call 89; refine (l1MatchName_any r.who c.who _ hw1 hw2 x y u v HE.out HF.out).mono ?_; rintro e w1 ⟨rfl, hB1⟩; rw [m1])
    go_ret
    exact ⟨ret_bool HR.out.symm, below_one (((Below.refl _ w).alloc (Nat.le_refl _) _).alloc (by simp) _) hB1⟩
  · cases m2 : lmB (wL r.path) (wL c.path)
    · have HR := hid (show spkB r c = false by unfold spkB; rw [HM.out, m1, m2]; rfl)
      go_enter Try.func65, Try.ntmps65
      go_wp2_with (first | (go_at_call 89; refine (l1MatchName_any r.who c.who _ hw1 hw2 x y u v HE.out HF.out).mono ?_; rintro e w1 ⟨rfl, hB1⟩; rw [m1]; obtain ⟨hc1, hf1⟩ := bcell hB1; have hz : w.heap.size + 1 < w1.heap.size := (by have := hB1.size; simp at this; omega); have hz0 : w.heap.size < w1.heap.size := (by omega)) | (go_at_call 90; refine (l1Match_any r.path c.path _ hp1 hp2).mono ?_; rintro e w2 ⟨rfl, hB2⟩; rw [m2]))
      go_ret
      exact ⟨ret_bool HR.out.symm, below_two (((Below.refl _ w).alloc (Nat.le_refl _) _).alloc (by simp) _) hB1 hB2⟩
    · cases m3 : starB r.method
      · have e3 : (r.method.toList == [42]) = false := m3
        have HR := hid (show spkB r c = eqB r.method c.method by unfold spkB; rw [HM.out, m1, m2, m3]; rfl)
        clear m3
        go_enter Try.func65, Try.ntmps65
        go_wp2_with (first | (go_at_call 89; refine (l1MatchName_any r.who c.who _ hw1 hw2 x y u v HE.out HF.out).mono ?_; rintro e w1 ⟨rfl, hB1⟩; rw [m1]; obtain ⟨hc1, hf1⟩ := bcell hB1; have hz : w.heap.size + 1 < w1.heap.size := (by have := hB1.size; simp at this; omega); have hz0 : w.heap.size < w1.heap.size := (by omega)) | (go_at_call 90; refine (l1Match_any r.path c.path _ hp1 hp2).mono ?_; rintro e w2 ⟨rfl, hB2⟩; rw [m2]; obtain ⟨hc2, hf2⟩ := bcell hB2))
        go_ret
        exact ⟨ret_bool HR.out.symm, below_two (((Below.refl _ w).alloc (Nat.le_refl _) _).alloc (by simp) _) hB1 hB2⟩
      · have e3 : (r.method.toList == [42]) = true := m3
        have HR := hid (show spkB r c = true by unfold spkB; rw [HM.out, m1, m2, m3]; rfl)
        clear m3
        go_enter Try.func65, Try.ntmps65
        go_wp2_with (first | (go_at_call 89; refine (l1MatchName_any r.who c.who _ hw1 hw2 x y u v HE.out HF.out).mono ?_; rintro e w1 ⟨rfl, hB1⟩; rw [m1]; obtain ⟨hc1, hf1⟩ := bcell hB1; have hz : w.heap.size + 1 < w1.heap.size := (by have := hB1.size; simp at this; omega); have hz0 : w.heap.size < w1.heap.size := (by omega)) | (go_at_call 90; refine (l1Match_any r.path c.path _ hp1 hp2).mono ?_; rintro e w2 ⟨rfl, hB2⟩; rw [m2]; obtain ⟨hc2, hf2⟩ := bcell hB2))
        go_ret
        exact ⟨ret_bool HR.out.symm, below_two (((Below.refl _ w).alloc (Nat.le_refl _) _).alloc (by simp) _) hB1 hB2⟩

end Go.Proofs.Ytnblnhlfifhkkae
