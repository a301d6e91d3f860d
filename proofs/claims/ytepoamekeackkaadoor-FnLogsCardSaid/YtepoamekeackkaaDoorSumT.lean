/-
  Chapter 7: sums and notes, by the specification and by the program.
-/
import Derived.Laws.BitsAllLaws
import Derived.Test.YtepoamekeackkaaDoorGen
import Derived.Test.YtepoamekeackkaaDoorRecM
namespace Go.Proofs.YtepoamekeackkaaDoor
open Go.RowKit Go.Shelf

theorem u32_nat {x : Int} (h : (Lit.int .u32 x).wf = true) : ∃ n : Nat, x = n ∧ n < 4294967296 := by
  have hmin : IntKind.u32.min = 0 := rfl
  have hmax : IntKind.u32.max = 4294967295 := rfl
  simp only [Lit.wf, Bool.and_eq_true, decide_eq_true_eq] at h
  exact ⟨x.toNat, by omega, by omega⟩
theorem sm_take (h : Nat) (s : ByteArray) (k : Nat) (hk : k < s.size) : smL h (s.data.toList.take (k + 1)) = smS (smL h (s.data.toList.take k)) s[k] := by
  have hl : k < s.data.toList.length := by rw [Array.length_toList]; exact hk
  rw [List.take_succ_eq_append_getElem hl, smL_snoc]
  rfl
theorem sm_end (h : Nat) (s : ByteArray) : smL h (s.data.toList.take s.size) = smL h s.data.toList := by
  rw [List.take_of_length_le (by rw [Array.length_toList]; exact Nat.le_refl _)]
theorem sm_step (h b : Nat) : IntKind.u32.wrap (((h ^^^ b : Nat) : Int) * 16777619) = (((h ^^^ b) * 16777619 % 4294967296 : Nat) : Int) := by
  rw [IntKind.wrap_u32]
  omega

set_option maxHeartbeats 1000000 in
theorem l7Sum_any (h : Nat) (s : ByteArray) (w : World) (hh : h < 4294967296) (hs : s.size ≤ 1048576 * 4) :
    Calls Tryd.prog 62 #[.int .u32 (h : Int), .string s] w fun e w' => e = .returned (.int .u32 (smL h s.data.toList : Int)) ∧ w' = w := by
  go_enter Tryd.func62, Tryd.ntmps62
  go_wp2
  go_loop [0, 5] (fun a i => ∃ k : Nat, k ≤ s.size ∧ i = .int .i64 k ∧ a = .int .u32 (smL h (s.data.toList.take k) : Int)) (fun _ i => s.size - (intOf i).toNat)
  case atStart => exact ⟨0, Nat.zero_le _, rfl, by simp [smL]⟩
  case round =>
    obtain ⟨k, hk, rfl, rfl⟩ := hrel
    by_cases hlt : k < s.size
    · have HT := hid (sm_take h s k hlt)
      have hg := smL_lt (s.data.toList.take k) hh
      generalize smL h (s.data.toList.take k) = g at *
      have hb : s[k].toNat < 256 := s[k].toNat_lt
      have e0 : IntKind.u32.wrap (s[k].toNat : Int) = s[k].toNat := by rw [IntKind.wrap_u32]; omega
      have e1 := u32_xor_nat g s[k].toNat hg (by omega)
      have e2 := sm_step g s[k].toNat
      go_wp2
      exact ⟨⟨k + 1, by omega, by go_num, by rw [HT.out]; rfl⟩, by simp [intOf]; omega⟩
    · obtain rfl : k = s.size := by omega
      have HT := hid (sm_end h s)
      go_wp2
      go_ret
      exact ⟨ret_int (by rw [HT.out]), rfl⟩

set_option maxHeartbeats 1000000 in
theorem sumText_any (h : Nat) (s : ByteArray) (w : World) (hh : h < 4294967296) (hs : s.size ≤ 1048576 * 4) :
    Calls Tryd.prog 48 #[.int .u32 (h : Int), .string s] w fun e w' => e = .returned (.int .u32 (smL h s.data.toList : Int)) ∧ w' = w := by
  go_enter Tryd.func48, Tryd.ntmps48
  go_wp2
  go_loop [5, 6] (fun a i => ∃ k : Nat, k ≤ s.size ∧ i = .int .i64 k ∧ a = .int .u32 (smL h (s.data.toList.take k) : Int)) (fun _ i => s.size - (intOf i).toNat)
  case atStart => exact ⟨0, Nat.zero_le _, rfl, by simp [smL]⟩
  case round =>
    obtain ⟨k, hk, rfl, rfl⟩ := hrel
    by_cases hlt : k < s.size
    · have HT := hid (sm_take h s k hlt)
      have hg := smL_lt (s.data.toList.take k) hh
      generalize smL h (s.data.toList.take k) = g at *
      have hb : s[k].toNat < 256 := s[k].toNat_lt
      have e0 : IntKind.u32.wrap (s[k].toNat : Int) = s[k].toNat := by rw [IntKind.wrap_u32]; omega
      have e1 := u32_xor_nat g s[k].toNat hg (by omega)
      have e2 := sm_step g s[k].toNat
      go_wp2
      exact ⟨⟨k + 1, by omega, by go_num, by rw [HT.out]; rfl⟩, by simp [intOf]; omega⟩
    · obtain rfl : k = s.size := by omega
      have HT := hid (sm_end h s)
      go_wp2
      go_ret
      exact ⟨ret_int (by rw [HT.out]), rfl⟩

/-- The bytes up to k are plain. -/
def ntTo (s : ByteArray) (k : Nat) : Bool := (s.data.toList.take k).all plB
theorem ntTo_zero (s : ByteArray) : ntTo s 0 = true := by simp [ntTo]
theorem ntTo_succ (s : ByteArray) (k : Nat) (hk : k < s.size) : ntTo s (k + 1) = (ntTo s k && plB s[k]) := by
  have hl : k < s.data.toList.length := by rw [Array.length_toList]; exact hk
  unfold ntTo
  rw [List.take_succ_eq_append_getElem hl, List.all_append]
  simp
  rfl
theorem ntB_bad (s : ByteArray) (k : Nat) (hk : k < s.size) (h : plB s[k] = false) : ntB s = false := by
  unfold ntB
  rw [Bool.and_eq_false_iff]
  refine .inr (List.all_eq_false.2 ⟨s[k], ?_, by simp [h]⟩)
  have hl : k < s.data.toList.length := by rw [Array.length_toList]; exact hk
  exact List.getElem_mem hl
theorem ntB_end (s : ByteArray) (h : ntTo s s.size = true) : ntB s = decide (s.size ≤ 80) := by
  unfold ntB ntTo at *
  rw [List.take_of_length_le (by rw [Array.length_toList]; exact Nat.le_refl _)] at h
  rw [h, Bool.and_true]
theorem plB_no1 {b : UInt8} (h : (b.toNat : Int) < 32) : plB b = false := by
  unfold plB
  rw [decide_eq_false (by omega)]
  rfl
theorem plB_no2 {b : UInt8} (h : (126 : Int) < b.toNat) : plB b = false := by
  unfold plB
  rw [decide_eq_false (by omega : ¬ b.toNat ≤ 126), Bool.and_false]
theorem plB_yes {b : UInt8} (h : ¬ (b.toNat : Int) < 32) (h' : ¬ (126 : Int) < b.toNat) : plB b = true := by
  unfold plB
  rw [decide_eq_true (by omega), decide_eq_true (by omega)]
  rfl

set_option maxHeartbeats 1000000 in
theorem l7Note_any (s : ByteArray) (w : World) (hs : s.size ≤ 1048576) :
    Calls Tryd.prog 30 #[.string s] w fun e w' => e = .returned (.bool (ntB s)) ∧ w' = w := by
  go_enter Tryd.func30, Tryd.ntmps30
  go_wp2
  go_loop [3] (fun i => ∃ k : Nat, k ≤ s.size ∧ i = .int .i64 k ∧ ntTo s k = true) (fun i => s.size - (intOf i).toNat)
  case atStart => exact ⟨0, Nat.zero_le _, rfl, ntTo_zero s⟩
  case round =>
    obtain ⟨k, hk, rfl, hn⟩ := hrel
    have HN := hid hn
    clear hn
    by_cases hlt : k < s.size
    · by_cases c1 : (s[k].toNat : Int) < 32
      · have HR := hid (ntB_bad s k hlt (plB_no1 c1))
        go_wp2
        go_ret
        exact ⟨ret_bool HR.out.symm, rfl⟩
      · by_cases c2 : (126 : Int) < s[k].toNat
        · have HR := hid (ntB_bad s k hlt (plB_no2 c2))
          go_wp2
          go_ret
          exact ⟨ret_bool HR.out.symm, rfl⟩
        · have HR := hid (show ntTo s (k + 1) = true by rw [ntTo_succ s k hlt, HN.out, plB_yes c1 c2]; rfl)
          go_wp2
          exact ⟨⟨k + 1, by omega, by go_num, HR.out⟩, by simp [intOf]; omega⟩
    · obtain rfl : k = s.size := by omega
      have HR := hid (ntB_end s HN.out)
      go_wp2
      go_ret
      exact ⟨ret_bool (by rw [HR.out, Bool.eq_iff_iff]; simp; omega), rfl⟩

set_option maxHeartbeats 1000000 in
theorem goodNote_any (s : ByteArray) (w : World) (hs : s.size ≤ 1048576) :
    Calls Tryd.prog 27 #[.string s] w fun e w' => e = .returned (.bool (ntB s)) ∧ w' = w := by
  by_cases hl : (80 : Int) < s.size
  · have HR := hid (show ntB s = false by unfold ntB; rw [decide_eq_false (by omega)]; rfl)
    go_enter Tryd.func27, Tryd.ntmps27
    go_wp2
    go_ret
    exact ⟨ret_bool HR.out.symm, rfl⟩
  · go_enter Tryd.func27, Tryd.ntmps27
    go_wp2
    go_loop [3] (fun i => ∃ k : Nat, k ≤ s.size ∧ i = .int .i64 k ∧ ntTo s k = true) (fun i => s.size - (intOf i).toNat)
    case atStart => exact ⟨0, Nat.zero_le _, rfl, ntTo_zero s⟩
    case round =>
      obtain ⟨k, hk, rfl, hn⟩ := hrel
      have HN := hid hn
      clear hn
      by_cases hlt : k < s.size
      · by_cases c1 : (s[k].toNat : Int) < 32
        · have HR := hid (ntB_bad s k hlt (plB_no1 c1))
          go_wp2
          go_ret
          exact ⟨ret_bool HR.out.symm, rfl⟩
        · by_cases c2 : (126 : Int) < s[k].toNat
          · have HR := hid (ntB_bad s k hlt (plB_no2 c2))
            go_wp2
            go_ret
            exact ⟨ret_bool HR.out.symm, rfl⟩
          · have HR := hid (show ntTo s (k + 1) = true by rw [ntTo_succ s k hlt, HN.out, plB_yes c1 c2]; rfl)
            go_wp2
            exact ⟨⟨k + 1, by omega, by go_num, HR.out⟩, by simp [intOf]; omega⟩
      · obtain rfl : k = s.size := by omega
        have HR := hid (show ntB s = true by rw [ntB_end s HN.out]; exact decide_eq_true (by omega))
        go_wp2
        go_ret
        exact ⟨ret_bool HR.out.symm, rfl⟩

end Go.Proofs.YtepoamekeackkaaDoor
