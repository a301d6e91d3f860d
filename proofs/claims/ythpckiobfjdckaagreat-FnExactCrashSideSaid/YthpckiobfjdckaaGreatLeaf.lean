/-
  The leaves of chapter 1: a text is a word (both programs), a word or a star, a text cut at a byte.
-/
import Derived.RangeFuncNested
import Derived.RangeFuncBound
import Derived.RangeFuncCalls
import Derived.RangeFuncLeaves
import Derived.RangeFuncBox
import Derived.Shelf.Abstract
import Derived.Shelf.RegionOpen
import Derived.WalkKit
import Derived.OwnWalkIn
import Derived.TacticsInMore
import Derived.LoopNIn
import Derived.LoopIn
import Derived.Maps.AppendAt
import Derived.WalkSpells
import Derived.Outline
import Derived.Test.YthpckiobfjdckaaGreatProg
import Derived.Test.YthpckiobfjdckaaGreatMath
namespace Go.Proofs.YthpckiobfjdckaaGreat
open Go.RowKit Go.Shelf

theorem hid {p : Prop} (h : p) : Hid p := h
theorem ret_two {v : Value} {a b : Bool} (h : a = b) : Ending.returned (.tuple #[v, .bool a]) = .returned (.tuple #[v, .bool b]) := by rw [h]
theorem ret_bool {a b : Bool} (h : a = b) : Ending.returned (.bool a) = .returned (.bool b) := by rw [h]

set_option maxHeartbeats 400000 in
theorem l1Word_any (s : ByteArray) (w : World) (hs : s.size ≤ 1048576) :
    Calls Tryz.prog 130 #[.string s] w fun e w' => e = .returned (.bool (wordB s)) ∧ w' = w := by
  go_enter Tryz.func130, Tryz.ntmps130
  go_wp2
  go_loop [3] (fun i => ∃ k : Nat, k ≤ s.size ∧ i = .int .i64 k ∧ wordTo s k = true) (fun i => s.size - (intOf i).toNat)
  case atStart => exact ⟨0, Nat.zero_le _, rfl, wordTo_zero s⟩
  case round =>
    obtain ⟨k, hk, rfl, hw⟩ := hrel
    have HW : Hid (wordTo s k = true) := hw
    clear hw
    by_cases hlt : k < s.size
    ·
      by_cases c1 : 97 ≤ (s[k].toNat : Int)
      all_goals by_cases c2 : (s[k].toNat : Int) ≤ 122
      all_goals by_cases c3 : 48 ≤ (s[k].toNat : Int)
      all_goals by_cases c4 : (s[k].toNat : Int) ≤ 57
      all_goals first
        | (exfalso; omega)
        | (have hc : wordCh s[k] = true := wordCh_yes (by omega)
           have HC : Hid (wordCh s[k] = true) := hc
           clear hc
           go_wp2
           exact ⟨⟨k + 1, by omega, by go_num, by rw [wordTo_succ s k hlt, HW.out, HC.out]; rfl⟩, by simp [intOf]; omega⟩)
        | (have hc : wordCh s[k] = false := wordCh_no (by omega)
           have HC : Hid (wordCh s[k] = false) := hc
           clear hc
           go_wp2
           go_ret
           exact ⟨ret_bool (wordB_bad s k hlt HC.out).symm, rfl⟩)
    · obtain rfl : k = s.size := by omega
      have HE : Hid (wordB s = decide (1 ≤ s.size ∧ s.size ≤ 8)) := wordB_end s HW.out
      by_cases d1 : 1 ≤ s.size
      all_goals by_cases d2 : s.size ≤ 8
      all_goals first
        | (exfalso; omega)
        | (go_wp2
           go_ret
           exact ⟨ret_bool (by rw [HE.out, Bool.eq_iff_iff]; simp; omega), rfl⟩)

set_option maxHeartbeats 400000 in
theorem plainWord_any (s : ByteArray) (w : World) :
    Calls Tryz.prog 148 #[.string s] w fun e w' => e = .returned (.bool (wordB s)) ∧ w' = w := by
  by_cases hl : 1 ≤ s.size ∧ s.size ≤ 8
  · obtain ⟨hl1, hl2⟩ := hl
    have t1 : decide ((s.size : Int) < 1) = false := by simp; omega
    have t2 : decide (8 < (s.size : Int)) = false := by simp; omega
    go_enter Tryz.func148, Tryz.ntmps148
    go_wp2
    go_loop [3] (fun i => ∃ k : Nat, k ≤ s.size ∧ i = .int .i64 k ∧ wordTo s k = true) (fun i => s.size - (intOf i).toNat)
    case atStart => exact ⟨0, Nat.zero_le _, rfl, wordTo_zero s⟩
    case round =>
      obtain ⟨k, hk, rfl, hw⟩ := hrel
      have HW : Hid (wordTo s k = true) := hw
      clear hw
      by_cases hlt : k < s.size
      ·
        by_cases c1 : 97 ≤ (s[k].toNat : Int)
        all_goals by_cases c2 : (s[k].toNat : Int) ≤ 122
        all_goals by_cases c3 : 48 ≤ (s[k].toNat : Int)
        all_goals by_cases c4 : (s[k].toNat : Int) ≤ 57
        all_goals first
          | (exfalso; omega)
          | (have hc : wordCh s[k] = true := wordCh_yes (by omega)
             have HC : Hid (wordCh s[k] = true) := hc
             clear hc
             go_wp2
             exact ⟨⟨k + 1, by omega, by go_num, by rw [wordTo_succ s k hlt, HW.out, HC.out]; rfl⟩, by simp [intOf]; omega⟩)
          | (have hc : wordCh s[k] = false := wordCh_no (by omega)
             have HC : Hid (wordCh s[k] = false) := hc
             clear hc
             go_wp2
             go_ret
             exact ⟨ret_bool (wordB_bad s k hlt HC.out).symm, rfl⟩)
      · obtain rfl : k = s.size := by omega
        have HE : Hid (wordB s = true) := by rw [wordB_end s HW.out]; exact decide_eq_true ⟨hl1, hl2⟩
        go_wp2
        go_ret
        exact ⟨ret_bool HE.out.symm, rfl⟩
  · have HB : Hid (wordB s = false) := wordB_len s hl
    by_cases t1 : s.size < 1
    · clear hl
      go_enter Tryz.func148, Tryz.ntmps148
      go_wp2
      go_ret
      exact ⟨ret_bool HB.out.symm, rfl⟩
    · have t2 : 8 < s.size := by omega
      clear hl
      go_enter Tryz.func148, Tryz.ntmps148
      go_wp2
      go_ret
      exact ⟨ret_bool HB.out.symm, rfl⟩

/-- Behind an append onto a row of one's own nothing has turned that lay below n₀. -/
theorem below_appended {n₀ : Nat} {W w1 : World} {e : TypeId} {size k : Nat} {v : Value} {xs : List Value} {tmp : Obj} (hn₀ : n₀ ≤ W.heap.size)
    (hrow : W.ownsRow n₀ e size v k xs) (hgrow : (W.alloc tmp).grownBy w1 v.ownBlock) : Below n₀ W w1 := by
  refine ((Below.refl n₀ W).alloc hn₀ tmp).grown hgrow (by simp; omega) fun j ej => ?_
  rcases hrow.2 with ⟨rfl, _⟩ | ⟨g, cap, cur, rfl, hb, _, _⟩
  · simp [Value.ownBlock] at ej
  · obtain rfl : g = j := by simpa [Value.ownBlock] using ej
    exact hb

theorem infoStr : (Tryz.prog.info? 9).map (fun i => (i.zero, i.size, i.bytes)) = some (some (.string ByteArray.empty), 1, 16) := by kernel_rfl

set_option maxHeartbeats 400000 in
theorem l1Split_any (s : ByteArray) (c : Int) (b : UInt8) (hb : (b.toNat : Int) = c) (w : World) (hs : s.size ≤ 1048576) :
    Calls Tryz.prog 129 #[.string s, .int .u8 c] w fun e w' => ∃ v, e = .returned v ∧ w'.ownsRow w.heap.size 9 1 v (split s b).length ((split s b).map Value.string) ∧ Below w.heap.size w w' := by
  obtain ⟨i0, hi, hz0, hz1, hz2⟩ := info_parts infoStr
  have HB : Hid ((b.toNat : Int) = c) := hb
  clear hb
  go_enter Tryz.func129, Tryz.ntmps129
  go_wp2
  go_loopw [5, 6, 7] (fun out at_ i wr => ∃ k : Nat, k ≤ s.size + 1 ∧ i = .int .i64 k ∧ at_ = .int .i64 (spA s b k) ∧ wr.ownsRow w.heap.size 9 1 out (spL s b k).length ((spL s b k).map Value.string) ∧ Below w.heap.size w wr) (fun _ _ i _ => s.size + 1 - (intOf i).toNat)
  case atStart => exact ⟨0, Nat.zero_le _, rfl, rfl, World.ownsRow_nil _ _ _ _, Below.refl _ _⟩
  case round =>
    obtain ⟨k, hk, rfl, rfl, hrow, hB⟩ := hrel
    have hA := spA_le s b k
    have hL := spL_len s b k
    have hz := hB.size
    by_cases hlt : k ≤ s.size
    · by_cases hend : k = s.size
      · have e1 : ((k : Int) == (s.size : Int)) = true := by simp; omega
        have HE : Hid (k = s.size) := hend
        have hk2 : s.size ≤ k := by omega
        clear hend
        go_wp2_with (at_builtin; refine wpList_append_own _ rfl _ _ 139 rfl w.heap.size 9 i0 (.string ByteArray.empty) 1 16 Tryz.underlying139 hi hz0 hz1 hz2 rfl (by decide) _ _ _ rfl (hrow.alloc _) ⟨wr.heap.size, 0, none⟩ 1 1 [.string (s.extract (spA s b k) k)] rfl rfl (cell_one_new _ _ _) (by simp [Value.oneCell']) (by simp [maxLen]; omega) (by omega) (by simp; omega) ?_; intro v' w1 hown' hgrow _; obtain ⟨g', cap', rfl⟩ := ownsRow_succ hown')
        go_roundw
        case rel =>
          obtain rfl := HE.out
          refine ⟨s.size + 1, Nat.le_refl _, by go_num, ?_, ?_, hB.trans (below_appended hz hrow hgrow)⟩
          · rw [spA_end]; go_num
          · rw [spL_end]; simpa using hown'
        case measure => simp [intOf]; omega
      · have e1 : ((k : Int) == (s.size : Int)) = false := by simp; omega
        have hk2 : k < s.size := by omega
        by_cases hc : (s[k].toNat : Int) = c
        · have e2 : ((s[k].toNat : Int) == c) = true := by simp [hc]
          have HC : Hid (s[k] = b) := byte_eq (hc.trans HB.out.symm)
          clear hc
          go_wp2_with (at_builtin; refine wpList_append_own _ rfl _ _ 139 rfl w.heap.size 9 i0 (.string ByteArray.empty) 1 16 Tryz.underlying139 hi hz0 hz1 hz2 rfl (by decide) _ _ _ rfl (hrow.alloc _) ⟨wr.heap.size, 0, none⟩ 1 1 [.string (s.extract (spA s b k) k)] rfl rfl (cell_one_new _ _ _) (by simp [Value.oneCell']) (by simp [maxLen]; omega) (by omega) (by simp; omega) ?_; intro v' w1 hown' hgrow _; obtain ⟨g', cap', rfl⟩ := ownsRow_succ hown')
          go_roundw
          case rel =>
            refine ⟨k + 1, by omega, by go_num, ?_, ?_, hB.trans (below_appended hz hrow hgrow)⟩
            · rw [spA_hit s b k hk2 HC.out]; go_num
            · rw [spL_hit s b k hk2 HC.out]; simpa using hown'
          case measure => simp [intOf]; omega
        · have e2 : ((s[k].toNat : Int) == c) = false := by simp [hc]
          have HC : Hid (s[k] ≠ b) := byte_ne (fun e => hc (e.trans HB.out))
          clear hc
          go_wp2
          go_roundw
          case rel =>
            refine ⟨k + 1, by omega, by go_num, ?_, ?_, hB⟩
            · rw [spA_miss s b k hk2 HC.out]
            · rw [spL_miss s b k hk2 HC.out]; exact hrow
          case measure => simp [intOf]; omega
    · go_wp2
      go_ret
      have hk3 : k = s.size + 1 := by omega
      subst hk3
      exact ⟨_, rfl, hrow, hB⟩

end Go.Proofs.YthpckiobfjdckaaGreat
