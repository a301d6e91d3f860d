/-
  Chapter 2's index of rules and deciding, by the specification.
-/
import Derived.Test.YtnblnhlfifhkkaaGreatPoli
namespace Go.Proofs.YtnblnhlfifhkkaaGreat
open Go.RowKit Go.Shelf

/-- A rule stands in the index of a word. -/
def idxF (f wd : ByteArray) : Bool := (eqB f wd || star2B f) || (starB f && !wd.toList.isEmpty)
def idxAt (rs : List Ru) (wd : ByteArray) (k : Nat) : Bool := match rs[k]? with
  | some r => idxF (fstB r.path) wd
  | none => false
def idxTo (rs : List Ru) (wd : ByteArray) (k : Nat) : List Nat := (List.range k).filter (idxAt rs wd)
theorem idxAt_lt {rs : List Ru} {wd : ByteArray} {k : Nat} (h : k < rs.length) : idxAt rs wd k = idxF (fstB rs[k].path) wd := by
  unfold idxAt
  rw [List.getElem?_eq_getElem h]
theorem idx_yes {rs : List Ru} {wd : ByteArray} {k : Nat} (_h : k < rs.length) (h : idxAt rs wd k = true) : idxTo rs wd (k + 1) = idxTo rs wd k ++ [k] := by
  unfold idxTo
  rw [List.range_succ, List.filter_append]
  simp [h]
theorem idx_no {rs : List Ru} {wd : ByteArray} {k : Nat} (_h : k < rs.length) (h : idxAt rs wd k = false) : idxTo rs wd (k + 1) = idxTo rs wd k := by
  unfold idxTo
  rw [List.range_succ, List.filter_append]
  simp [h]
theorem idx_len (rs : List Ru) (wd : ByteArray) (k : Nat) : (idxTo rs wd k).length ≤ k := by
  unfold idxTo
  exact Nat.le_trans (List.length_filter_le _ _) (by simp)
theorem fst_size {s : ByteArray} : (fstB s).size ≤ s.size := by
  unfold fstB
  split
  · exact Nat.zero_le _
  · rename_i x r h
    exact wL_mem (by rw [h]; simp)

/-- A rule speaks of a call. -/
def spkB (r : Ru) (c : Ca) : Bool := (mnB (split r.who 47) (split c.who 47) && lmB (wL r.path) (wL c.path)) && (starB r.method || eqB r.method c.method)

set_option maxHeartbeats 2000000 in
theorem l2Speaks_any (r : Ru) (c : Ca) (w : World) (hr : r.size ≤ 1048576) (hc : c.size ≤ 1048576) (h1 : nmB (split r.who 47) = true) (h2 : nmB (split c.who 47) = true) :
    Calls Tryz.prog 42 #[r.val, c.val] w fun e w' => e = .returned (.bool (spkB r c)) ∧ Below w.heap.size w w' := by
  obtain ⟨x, y, he⟩ := nm_two h1
  obtain ⟨u, v, hf⟩ := nm_two h2
  have hw1 : r.who.size ≤ 1048576 := by unfold Ru.size at hr; omega
  have hw2 : c.who.size ≤ 1048576 := by unfold Ca.size at hc; omega
  have hp1 : r.path.size ≤ 1048576 := by unfold Ru.size at hr; omega
  have hp2 : c.path.size ≤ 1048576 := by unfold Ca.size at hc; omega
  have HM := hid (show mnB (split r.who 47) (split c.who 47) = (stB x u && stB y v) by rw [he, hf]; rfl)
  have HE := hid he
  have HF := hid hf
  clear he hf h1 h2
  cases m1 : (stB x u && stB y v)
  · have HR := hid (show spkB r c = false by unfold spkB; rw [HM.out, m1]; rfl)
    go_enter Tryz.func42, Tryz.ntmps42
    go_wp2_with (go_at_call 61; refine (l1MatchName_any r.who c.who _ hw1 hw2 x y u v HE.out HF.out).mono ?_; rintro e w1 ⟨rfl, hB1⟩; rw [m1])
    go_ret
    exact ⟨ret_bool HR.out.symm, below_one (((Below.refl _ w).alloc (Nat.le_refl _) _).alloc (by simp) _) hB1⟩
  · cases m2 : lmB (wL r.path) (wL c.path)
    · have HR := hid (show spkB r c = false by unfold spkB; rw [HM.out, m1, m2]; rfl)
      go_enter Tryz.func42, Tryz.ntmps42
      go_wp2_with (first | (go_at_call 61; refine (l1MatchName_any r.who c.who _ hw1 hw2 x y u v HE.out HF.out).mono ?_; rintro e w1 ⟨rfl, hB1⟩; rw [m1]; obtain ⟨hc1, hf1⟩ := bcell hB1; have hz : w.heap.size + 1 < w1.heap.size := (by have := hB1.size; simp at this; omega); have hz0 : w.heap.size < w1.heap.size := (by omega)) | (go_at_call 62; refine (l1Match_any r.path c.path _ hp1 hp2).mono ?_; rintro e w2 ⟨rfl, hB2⟩; rw [m2]))
      go_ret
      exact ⟨ret_bool HR.out.symm, below_two (((Below.refl _ w).alloc (Nat.le_refl _) _).alloc (by simp) _) hB1 hB2⟩
    · cases m3 : starB r.method
      · have e3 : (r.method.toList == [42]) = false := m3
        have HR := hid (show spkB r c = eqB r.method c.method by unfold spkB; rw [HM.out, m1, m2, m3]; rfl)
        clear m3
        go_enter Tryz.func42, Tryz.ntmps42
        go_wp2_with (first | (go_at_call 61; refine (l1MatchName_any r.who c.who _ hw1 hw2 x y u v HE.out HF.out).mono ?_; rintro e w1 ⟨rfl, hB1⟩; rw [m1]; obtain ⟨hc1, hf1⟩ := bcell hB1; have hz : w.heap.size + 1 < w1.heap.size := (by have := hB1.size; simp at this; omega); have hz0 : w.heap.size < w1.heap.size := (by omega)) | (go_at_call 62; refine (l1Match_any r.path c.path _ hp1 hp2).mono ?_; rintro e w2 ⟨rfl, hB2⟩; rw [m2]; obtain ⟨hc2, hf2⟩ := bcell hB2))
        go_ret
        exact ⟨ret_bool HR.out.symm, below_two (((Below.refl _ w).alloc (Nat.le_refl _) _).alloc (by simp) _) hB1 hB2⟩
      · have e3 : (r.method.toList == [42]) = true := m3
        have HR := hid (show spkB r c = true by unfold spkB; rw [HM.out, m1, m2, m3]; rfl)
        clear m3
        go_enter Tryz.func42, Tryz.ntmps42
        go_wp2_with (first | (go_at_call 61; refine (l1MatchName_any r.who c.who _ hw1 hw2 x y u v HE.out HF.out).mono ?_; rintro e w1 ⟨rfl, hB1⟩; rw [m1]; obtain ⟨hc1, hf1⟩ := bcell hB1; have hz : w.heap.size + 1 < w1.heap.size := (by have := hB1.size; simp at this; omega); have hz0 : w.heap.size < w1.heap.size := (by omega)) | (go_at_call 62; refine (l1Match_any r.path c.path _ hp1 hp2).mono ?_; rintro e w2 ⟨rfl, hB2⟩; rw [m2]; obtain ⟨hc2, hf2⟩ := bcell hB2))
        go_ret
        exact ⟨ret_bool HR.out.symm, below_two (((Below.refl _ w).alloc (Nat.le_refl _) _).alloc (by simp) _) hB1 hB2⟩

end Go.Proofs.YtnblnhlfifhkkaaGreat
