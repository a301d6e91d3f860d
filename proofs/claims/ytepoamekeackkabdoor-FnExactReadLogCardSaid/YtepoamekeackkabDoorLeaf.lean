/-
  The leaves of chapter 1: a text is a word (both programs), a word or a star, a text cut at a byte.
-/
import Derived.RangeFuncNested
import Derived.RangeFuncBound
import Derived.RangeFuncCalls
import Derived.RangeFuncLeaves
import Derived.RangeFuncBox
import Derived.Shelf.Abstract
import Derived.Shelf.RegionOpen
import Derived.WalkKit
import Derived.OwnWalkIn
import Derived.TacticsInMore
import Derived.LoopNIn
import Derived.LoopIn
import Derived.Maps.AppendAt
import Derived.WalkSpells
import Derived.Outline
import Derived.Test.YtepoamekeackkabDoorProg
import Derived.Test.YtepoamekeackkabDoorMath
namespace Go.Proofs.YtepoamekeackkabDoor
open Go.RowKit Go.Shelf

theorem hid {p : Prop} (h : p) : Hid p := h
theorem ret_two {v : Value} {a b : Bool} (h : a = b) : Ending.returned (.tuple #[v, .bool a]) = .returned (.tuple #[v, .bool b]) := by rw [h]
theorem ret_bool {a b : Bool} (h : a = b) : Ending.returned (.bool a) = .returned (.bool b) := by rw [h]

/-- Behind an append onto a row of one's own nothing has turned that lay below n₀. -/
theorem below_appended {n₀ : Nat} {W w1 : World} {e : TypeId} {size k : Nat} {v : Value} {xs : List Value} {tmp : Obj} (hn₀ : n₀ ≤ W.heap.size)
    (hrow : W.ownsRow n₀ e size v k xs) (hgrow : (W.alloc tmp).grownBy w1 v.ownBlock) : Below n₀ W w1 := by
  refine ((Below.refl n₀ W).alloc hn₀ tmp).grown hgrow (by simp; omega) fun j ej => ?_
  rcases hrow.2 with ⟨rfl, _⟩ | ⟨g, cap, cur, rfl, hb, _, _⟩
  · simp [Value.ownBlock] at ej
  · obtain rfl : g = j := by simpa [Value.ownBlock] using ej
    exact hb

theorem infoStr : (Tryd.prog.info? 9).map (fun i => (i.zero, i.size, i.bytes)) = some (some (.string ByteArray.empty), 1, 16) := by kernel_rfl

set_option maxHeartbeats 400000 in
theorem l1Split_any (s : ByteArray) (c : Int) (b : UInt8) (hb : (b.toNat : Int) = c) (w : World) (hs : s.size ≤ 1048576) :
    Calls Tryd.prog 9 #[.string s, .int .u8 c] w fun e w' => ∃ v, e = .returned v ∧ w'.ownsRow w.heap.size 9 1 v (split s b).length ((split s b).map Value.string) ∧ Below w.heap.size w w' := by
  obtain ⟨i0, hi, hz0, hz1, hz2⟩ := info_parts infoStr
  have HB : Hid ((b.toNat : Int) = c) := hb
  clear hb
  go_enter Tryd.func9, Tryd.ntmps9
  go_wp2
  go_loopw [5, 6, 7] (fun out at_ i wr => ∃ k : Nat, k ≤ s.size + 1 ∧ i = .int .i64 k ∧ at_ = .int .i64 (spA s b k) ∧ wr.ownsRow w.heap.size 9 1 out (spL s b k).length ((spL s b k).map Value.string) ∧ Below w.heap.size w wr) (fun _ _ i _ => s.size + 1 - (intOf i).toNat)
  case atStart => exact ⟨0, Nat.zero_le _, rfl, rfl, World.ownsRow_nil _ _ _ _, Below.refl _ _⟩
  case round =>
    obtain ⟨k, hk, rfl, rfl, hrow, hB⟩ := hrel
    have hA := spA_le s b k
    have hL := spL_len s b k
    have hz := hB.size
    by_cases hlt : k ≤ s.size
    · by_cases hend : k = s.size
      · have e1 : ((k : Int) == (s.size : Int)) = true := by simp; omega
        have HE : Hid (k = s.size) := hend
        have hk2 : s.size ≤ k := by omega
        clear hend
        go_wp2_with (at_builtin; refine wpList_append_own _ rfl _ _ 28 rfl w.heap.size 9 i0 (.string ByteArray.empty) 1 16 Tryd.underlying28 hi hz0 hz1 hz2 rfl (by decide) _ _ _ rfl (hrow.alloc _) ⟨wr.heap.size, 0, none⟩ 1 1 [.string (s.extract (spA s b k) k)] rfl rfl (cell_one_new _ _ _) (by simp [Value.oneCell']) (by simp [maxLen]; omega) (by omega) (by simp; omega) ?_; intro v' w1 hown' hgrow _; obtain ⟨g', cap', rfl⟩ := ownsRow_succ hown')
        go_roundw
        case rel =>
          obtain rfl := HE.out
          refine ⟨s.size + 1, Nat.le_refl _, by go_num, ?_, ?_, hB.trans (below_appended hz hrow hgrow)⟩
          · rw [spA_end]; go_num
          · rw [spL_end]; simpa using hown'
        case measure => simp [intOf]; omega
      · have e1 : ((k : Int) == (s.size : Int)) = false := by simp; omega
        have hk2 : k < s.size := by omega
        by_cases hc : (s[k].toNat : Int) = c
        · have e2 : ((s[k].toNat : Int) == c) = true := by simp [hc]
          have HC : Hid (s[k] = b) := byte_eq (hc.trans HB.out.symm)
          clear hc
          go_wp2_with (at_builtin; refine wpList_append_own _ rfl _ _ 28 rfl w.heap.size 9 i0 (.string ByteArray.empty) 1 16 Tryd.underlying28 hi hz0 hz1 hz2 rfl (by decide) _ _ _ rfl (hrow.alloc _) ⟨wr.heap.size, 0, none⟩ 1 1 [.string (s.extract (spA s b k) k)] rfl rfl (cell_one_new _ _ _) (by simp [Value.oneCell']) (by simp [maxLen]; omega) (by omega) (by simp; omega) ?_; intro v' w1 hown' hgrow _; obtain ⟨g', cap', rfl⟩ := ownsRow_succ hown')
          go_roundw
          case rel =>
            refine ⟨k + 1, by omega, by go_num, ?_, ?_, hB.trans (below_appended hz hrow hgrow)⟩
            · rw [spA_hit s b k hk2 HC.out]; go_num
            · rw [spL_hit s b k hk2 HC.out]; simpa using hown'
          case measure => simp [intOf]; omega
        · have e2 : ((s[k].toNat : Int) == c) = false := by simp [hc]
          have HC : Hid (s[k] ≠ b) := byte_ne (fun e => hc (e.trans HB.out))
          clear hc
          go_wp2
          go_roundw
          case rel =>
            refine ⟨k + 1, by omega, by go_num, ?_, ?_, hB⟩
            · rw [spA_miss s b k hk2 HC.out]
            · rw [spL_miss s b k hk2 HC.out]; exact hrow
          case measure => simp [intOf]; omega
    · go_wp2
      go_ret
      have hk3 : k = s.size + 1 := by omega
      subst hk3
      exact ⟨_, rfl, hrow, hB⟩

end Go.Proofs.YtepoamekeackkabDoor
