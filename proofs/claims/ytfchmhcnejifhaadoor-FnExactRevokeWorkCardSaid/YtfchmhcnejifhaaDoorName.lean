/-
  Chapter 1's names: both programs tell alike which texts are names and which are patterns of names.
-/
import Derived.Test.YtfchmhcnejifhaaDoorIter
namespace Go.Proofs.YtfchmhcnejifhaaDoor
open Go.RowKit Go.Shelf

/-- A row of texts, cell by cell. -/
theorem row_cell {w : World} {base g cap : Nat} {xs : List ByteArray} (hrow : w.ownsRow base 9 1 (.slice (some ⟨g, 0, none⟩) xs.length cap) xs.length (xs.map Value.string)) (k : Nat) (h : k < xs.length) : w.cell? ⟨g, k, none⟩ = some (.string xs[k]) := by
  rw [hrow.cellAt k (by omega)]
  simp [h]

set_option maxHeartbeats 400000 in
theorem allPlain_any (v : Value) (xs : List ByteArray) (base : Nat) (w : World) (hl : xs.length ≤ 1048577) (hrow : w.ownsRow base 9 1 v xs.length (xs.map Value.string)) :
    Calls Tryd.prog 66 #[v] w fun e w' => e = .returned (.bool (xs.all wordB)) ∧ w' = w := by
  obtain ⟨a, cap, rfl⟩ := ownsRow_len hrow
  go_enter Tryd.func66, Tryd.ntmps66
  go_wp2
  go_loop [7] (fun i => ∃ k : Nat, k ≤ xs.length ∧ i = .int .i64 k ∧ allTo xs k = true) (fun i => xs.length - (intOf i).toNat)
  case atStart => exact ⟨0, Nat.zero_le _, rfl, allTo_zero xs⟩
  case round =>
    obtain ⟨k, hk, rfl, hw⟩ := hrel
    have HW : Hid (allTo xs k = true) := hw
    clear hw
    by_cases hlt : k < xs.length
    · obtain ⟨g, rfl⟩ : ∃ g, a = some ⟨g, 0, none⟩ := by
        rcases hrow.2 with ⟨_, h0⟩ | ⟨g, _, _, hv, _⟩
        · omega
        · cases hv; exact ⟨g, rfl⟩
      have hc := row_cell hrow k hlt
      by_cases hb : wordB xs[k] = true
      · go_wp2_with (go_at_call 77; refine (plainWord_any _ _).mono ?_; rintro e w' ⟨rfl, rfl⟩)
        exact ⟨⟨k + 1, by omega, by go_num, by rw [allTo_succ xs k hlt, HW.out, hb]; rfl⟩, by simp [intOf]; omega⟩
      · have hb' : wordB xs[k] = false := by simpa using hb
        have HB : Hid (xs.all wordB = false) := all_bad xs k hlt hb'
        clear hb
        go_wp2_with (go_at_call 77; refine (plainWord_any _ _).mono ?_; rintro e w' ⟨rfl, rfl⟩)
        go_ret
        exact ⟨ret_bool HB.out.symm, rfl⟩
    · obtain rfl : k = xs.length := by omega
      go_wp2
      go_ret
      exact ⟨ret_bool (by rw [← allTo_end, HW.out]), rfl⟩

theorem gnB_two (x y : ByteArray) : gnB [x, y] = (wordB x && wordB y) := by simp [gnB]
theorem gnB_no {l : List ByteArray} (h : ¬ l.length = 2) : gnB l = false := by simp [gnB, h]
theorem gnB_nm (l : List ByteArray) (h : nmB l = true) : gnB l = l.all wordB := by
  rw [nmB_eq] at h
  simp at h
  simp [gnB, h.1]
theorem gnB_not (l : List ByteArray) (h : nmB l = false) : gnB l = false := by
  rw [nmB_eq] at h
  cases e : gnB l with
  | false => rfl
  | true =>
    simp [gnB] at e
    have : l.all wsB = true := by
      rw [List.all_eq_true]
      intro x hx
      simp [wsB, e.2 x hx]
    rw [this] at h
    simp [e.1] at h
theorem two_of {l : List ByteArray} (h : l.length = 2) : ∃ x y, l = [x, y] := by
  match l, h with
  | [x, y], _ => exact ⟨x, y, rfl⟩

/-- A row of two texts. -/
theorem row_two {w : World} {base : Nat} {v : Value} {x y : ByteArray} (hrow : w.ownsRow base 9 1 v [x, y].length ([x, y].map Value.string)) : ∃ g cap, v = .slice (some ⟨g, 0, none⟩) 2 cap ∧ w.cell? ⟨g, 0, none⟩ = some (.string x) ∧ w.cell? ⟨g, 1, none⟩ = some (.string y) := by
  obtain ⟨g, cap, rfl⟩ := ownsRow_succ hrow
  exact ⟨g, cap, rfl, row_cell (xs := [x, y]) hrow 0 (by simp), row_cell (xs := [x, y]) hrow 1 (by simp)⟩

set_option maxHeartbeats 1000000 in
theorem specGoodName_any (s : ByteArray) (w : World) (hs : s.size ≤ 1048576) :
    Calls Tryd.prog 18 #[.string s] w fun e w' => e = .returned (.bool (gnB (split s 47))) ∧ Below w.heap.size w w' := by
  by_cases h2 : (split s 47).length = 2
  · obtain ⟨x, y, he⟩ := two_of h2
    have hx : x.size ≤ 1048576 := Nat.le_trans (split_size s 47 x (by rw [he]; simp)) hs
    have hy : y.size ≤ 1048576 := Nat.le_trans (split_size s 47 y (by rw [he]; simp)) hs
    have HE : Hid (split s 47 = [x, y]) := he
    clear he h2
    by_cases hb : wordB x = true
    · have HG : Hid (gnB (split s 47) = wordB y) := by rw [HE.out, gnB_two, hb]; rfl
      go_enter Tryd.func18, Tryd.ntmps18
      go_wp2_with (first | (go_at_call 46; refine (l1Split_any s 47 47 rfl _ hs).mono ?_; rintro e w1 ⟨v, rfl, hrow, hB⟩; rw [HE.out] at hrow; obtain ⟨g, cap, rfl, hc0, hc1⟩ := row_two hrow) | (go_at_call 47; refine (l1Word_any _ _ (by first | exact hx | exact hy)).mono ?_; rintro e w' ⟨rfl, rfl⟩))
      go_ret
      exact ⟨ret_bool HG.out.symm, hB⟩
    · have hb' : wordB x = false := by simpa using hb
      have HG : Hid (gnB (split s 47) = false) := by rw [HE.out, gnB_two, hb']; rfl
      clear hb
      go_enter Tryd.func18, Tryd.ntmps18
      go_wp2_with (first | (go_at_call 46; refine (l1Split_any s 47 47 rfl _ hs).mono ?_; rintro e w1 ⟨v, rfl, hrow, hB⟩; rw [HE.out] at hrow; obtain ⟨g, cap, rfl, hc0, hc1⟩ := row_two hrow) | (go_at_call 47; refine (l1Word_any _ _ (by first | exact hx | exact hy)).mono ?_; rintro e w' ⟨rfl, rfl⟩))
      go_ret
      exact ⟨ret_bool HG.out.symm, hB⟩
  · have HG : Hid (gnB (split s 47) = false) := gnB_no h2
    have e1 : (((split s 47).length : Int) == 2) = false := by simp; omega
    clear h2
    go_enter Tryd.func18, Tryd.ntmps18
    go_wp2_with (go_at_call 46; refine (l1Split_any s 47 47 rfl _ hs).mono ?_; rintro e w1 ⟨v, rfl, hrow, hB⟩; obtain ⟨a, cap, rfl⟩ := ownsRow_len hrow)
    go_ret
    exact ⟨ret_bool HG.out.symm, hB⟩

set_option maxHeartbeats 1000000 in
theorem implGoodName_any (s : ByteArray) (w : World) (hs : s.size ≤ 1048576) :
    Calls Tryd.prog 50 #[.string s] w fun e w' => e = .returned (.bool (gnB (split s 47))) ∧ Below w.heap.size w w' := by
  have hl : (split s 47).length ≤ 1048577 := Nat.le_trans (split_len s 47) (by omega)
  by_cases hn : nmB (split s 47) = true
  · have HG : Hid (gnB (split s 47) = (nmL (split s 47)).all wordB) := by rw [nmL_yes hn]; exact gnB_nm _ hn
    have hl2 : (nmL (split s 47)).length ≤ 1048577 := by rw [nmL_yes hn]; exact hl
    clear hl
    go_enter Tryd.func50, Tryd.ntmps50
    go_wp2_with (first | (go_at_call 65; refine (wordsOfName_any s _ hs).mono ?_; rintro e w1 ⟨v, rfl, hrow, hB⟩) | (go_at_call 66; refine (allPlain_any _ _ _ _ hl2 hrow).mono ?_; rintro e w' ⟨rfl, rfl⟩))
    go_ret
    exact ⟨ret_bool HG.out.symm, hB⟩
  · have hn' : nmB (split s 47) = false := by simpa using hn
    have HG : Hid (gnB (split s 47) = false) := gnB_not _ hn'
    clear hn
    go_enter Tryd.func50, Tryd.ntmps50
    go_wp2_with (go_at_call 65; refine (wordsOfName_any s _ hs).mono ?_; rintro e w1 ⟨v, rfl, hrow, hB⟩)
    go_ret
    exact ⟨ret_bool HG.out.symm, hB⟩

end Go.Proofs.YtfchmhcnejifhaaDoor
