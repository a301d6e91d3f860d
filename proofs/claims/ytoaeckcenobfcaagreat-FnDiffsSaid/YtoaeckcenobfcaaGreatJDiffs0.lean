/-
  The laws' marks laid into lists, and lists held against them.
-/
import Derived.RangeFuncNested
import Derived.RangeFuncBound
import Derived.RangeFuncCalls
import Derived.RangeFuncLeaves
import Derived.RangeFuncBox
import Derived.Shelf.Abstract
import Derived.Shelf.RegionOpen
import Derived.WalkKit
import Derived.OwnWalkIn
import Derived.TacticsInMore
import Derived.LoopNIn
import Derived.LoopIn
import Derived.Maps.AppendAt
import Derived.WalkSpells
import Derived.Outline
import Derived.Test.YtoaeckcenobfcaaGreatProg
import Derived.Laws.Strings
import Derived.Deep.RegionHeld3
import Derived.Deep.QuietTactic
import Derived.BigQuiet
import Derived.WalkSmall
import Derived.Deep.RegionWith
import Derived.ProofKit
import Derived.OpenShut
import Derived.Lib.SmallJoins
import Derived.Deep.Slices
namespace Go.Proofs.YtoaeckcenobfcaaGreat

/-- A letter a-z or a digit. -/
def wordCh (c : UInt8) : Bool := decide ((97 ≤ (c.toNat : Int) ∧ (c.toNat : Int) ≤ 122) ∨ (48 ≤ (c.toNat : Int) ∧ (c.toNat : Int) ≤ 57))
theorem wordCh_yes {c : UInt8} (h : (97 ≤ (c.toNat : Int) ∧ (c.toNat : Int) ≤ 122) ∨ (48 ≤ (c.toNat : Int) ∧ (c.toNat : Int) ≤ 57)) : wordCh c = true := decide_eq_true h
theorem wordCh_no {c : UInt8} (h : ¬ ((97 ≤ (c.toNat : Int) ∧ (c.toNat : Int) ≤ 122) ∨ (48 ≤ (c.toNat : Int) ∧ (c.toNat : Int) ≤ 57))) : wordCh c = false := decide_eq_false h

/-- The first k bytes are letters or digits. -/
def wordTo (s : ByteArray) (k : Nat) : Bool := (s.data.toList.take k).all wordCh
theorem wordTo_zero (s : ByteArray) : wordTo s 0 = true := by simp [wordTo]
theorem wordTo_succ (s : ByteArray) (k : Nat) (h : k < s.size) : wordTo s (k + 1) = (wordTo s k && wordCh s[k]) := by
  unfold wordTo
  rw [List.take_succ_eq_append_getElem (by simpa using h), List.all_append]
  simp
  rfl
theorem wordTo_mono (s : ByteArray) (k : Nat) (h : wordTo s k = false) : ∀ m, k ≤ m → wordTo s m = false := by
  intro m hm
  unfold wordTo at *
  obtain ⟨d, rfl⟩ := Nat.exists_eq_add_of_le hm
  rw [List.take_add, List.all_append, h]
  rfl

/-- A word: 1 to 8 letters or digits. -/
def wordB (s : ByteArray) : Bool := wordTo s s.size && decide (1 ≤ s.size ∧ s.size ≤ 8)
theorem wordB_bad (s : ByteArray) (k : Nat) (hk : k < s.size) (hc : wordCh s[k] = false) : wordB s = false := by
  have h1 : wordTo s (k + 1) = false := by rw [wordTo_succ s k hk, hc, Bool.and_false]
  unfold wordB
  rw [wordTo_mono s (k + 1) h1 s.size (by omega)]
  rfl
theorem wordB_end (s : ByteArray) (h : wordTo s s.size = true) : wordB s = decide (1 ≤ s.size ∧ s.size ≤ 8) := by
  unfold wordB
  rw [h]
  rfl
theorem wordB_len (s : ByteArray) (h : ¬ (1 ≤ s.size ∧ s.size ≤ 8)) : wordB s = false := by
  unfold wordB
  rw [decide_eq_false h, Bool.and_false]

/-- A text cut at the byte b, i bytes of it looked at: the pieces that are over, and where the next one begins. -/
def spP (s : ByteArray) (b : UInt8) : Nat → List ByteArray × Nat
  | 0 => ([], 0)
  | i + 1 => if i = s.size ∨ s.data.toList[i]? = some b then ((spP s b i).1 ++ [s.extract (spP s b i).2 i], i + 1) else spP s b i
def spL (s : ByteArray) (b : UInt8) (i : Nat) : List ByteArray := (spP s b i).1
def spA (s : ByteArray) (b : UInt8) (i : Nat) : Nat := (spP s b i).2
/-- A text cut at the byte b. -/
def split (s : ByteArray) (b : UInt8) : List ByteArray := spL s b (s.size + 1)

theorem spL_zero (s : ByteArray) (b : UInt8) : spL s b 0 = [] := rfl
theorem spA_zero (s : ByteArray) (b : UInt8) : spA s b 0 = 0 := rfl
theorem spA_le (s : ByteArray) (b : UInt8) : ∀ i, spA s b i ≤ i
  | 0 => Nat.le_refl _
  | i + 1 => by
    have ih := spA_le s b i
    unfold spA at *
    unfold spP
    split
    · exact Nat.le_refl _
    · omega
theorem spL_len (s : ByteArray) (b : UInt8) : ∀ i, (spL s b i).length ≤ i
  | 0 => Nat.le_refl _
  | i + 1 => by
    have ih := spL_len s b i
    unfold spL at *
    unfold spP
    split
    · simp; exact ih
    · omega
theorem at_some (s : ByteArray) (b : UInt8) (i : Nat) (h : i < s.size) : s.data.toList[i]? = some b ↔ s[i] = b := by
  rw [List.getElem?_eq_getElem (by simpa using h)]
  simp
  rfl
theorem spL_hit (s : ByteArray) (b : UInt8) (i : Nat) (h : i < s.size) (hb : s[i] = b) : spL s b (i + 1) = spL s b i ++ [s.extract (spA s b i) i] := by
  unfold spL spA
  rw [spP, if_pos (.inr ((at_some s b i h).2 hb))]
theorem spA_hit (s : ByteArray) (b : UInt8) (i : Nat) (h : i < s.size) (hb : s[i] = b) : spA s b (i + 1) = i + 1 := by
  unfold spA
  rw [spP, if_pos (.inr ((at_some s b i h).2 hb))]
theorem spL_end (s : ByteArray) (b : UInt8) : spL s b (s.size + 1) = spL s b s.size ++ [s.extract (spA s b s.size) s.size] := by
  unfold spL spA
  rw [spP, if_pos (.inl rfl)]
theorem spA_end (s : ByteArray) (b : UInt8) : spA s b (s.size + 1) = s.size + 1 := by
  unfold spA
  rw [spP, if_pos (.inl rfl)]
theorem sp_miss (s : ByteArray) (b : UInt8) (i : Nat) (h : i < s.size) (hb : s[i] ≠ b) : spP s b (i + 1) = spP s b i := by
  rw [spP, if_neg]
  rintro (e | e)
  · omega
  · exact hb ((at_some s b i h).1 e)
theorem spL_miss (s : ByteArray) (b : UInt8) (i : Nat) (h : i < s.size) (hb : s[i] ≠ b) : spL s b (i + 1) = spL s b i := by
  unfold spL
  rw [sp_miss s b i h hb]
theorem spA_miss (s : ByteArray) (b : UInt8) (i : Nat) (h : i < s.size) (hb : s[i] ≠ b) : spA s b (i + 1) = spA s b i := by
  unfold spA
  rw [sp_miss s b i h hb]
theorem split_end (s : ByteArray) (b : UInt8) : split s b = spL s b s.size ++ [s.extract (spA s b s.size) s.size] := spL_end s b
theorem split_len (s : ByteArray) (b : UInt8) : (split s b).length ≤ s.size + 1 := spL_len s b _
theorem spL_pre (s : ByteArray) (b : UInt8) : ∀ i, spL s b i <+: spL s b (i + 1) := by
  intro i
  unfold spL
  rw [spP]
  split
  · exact List.prefix_append _ _
  · exact List.prefix_refl _
theorem spL_le (s : ByteArray) (b : UInt8) (i d : Nat) : spL s b i <+: spL s b (i + d) := by
  induction d with
  | zero => exact List.prefix_refl _
  | succ d ih => exact ih.trans (spL_pre s b (i + d))
theorem spL_split (s : ByteArray) (b : UInt8) (i : Nat) (h : i ≤ s.size + 1) : spL s b i <+: split s b := by
  obtain ⟨d, hd⟩ := Nat.exists_eq_add_of_le h
  unfold split
  rw [hd]
  exact spL_le s b i d
theorem spL_lt_hit (s : ByteArray) (b : UInt8) (k : Nat) (h : k < s.size) (hb : s[k] = b) : (spL s b k).length < (split s b).length := by
  have h1 := (spL_split s b (k + 1) (by omega)).length_le
  rw [spL_hit s b k h hb] at h1
  simp at h1
  omega
theorem spL_lt_end (s : ByteArray) (b : UInt8) : (spL s b s.size).length < (split s b).length := by
  rw [split_end]
  simp
theorem spP_size (s : ByteArray) (b : UInt8) : ∀ i, ∀ x ∈ (spP s b i).1, x.size ≤ s.size
  | 0 => by intro x hx; cases hx
  | i + 1 => by
    intro x hx
    rw [spP] at hx
    split at hx
    · rw [List.mem_append] at hx
      rcases hx with hx | hx
      · exact spP_size s b i x hx
      · rw [List.mem_singleton] at hx
        subst hx
        rw [ByteArray.size_extract]
        omega
    · exact spP_size s b i x hx
theorem split_size (s : ByteArray) (b : UInt8) : ∀ x ∈ split s b, x.size ≤ s.size := spP_size s b _
theorem byte_eq {a b : UInt8} (h : (a.toNat : Int) = (b.toNat : Int)) : a = b := UInt8.toNat_inj.1 (by omega)
theorem byte_ne {a b : UInt8} (h : ¬ (a.toNat : Int) = (b.toNat : Int)) : a ≠ b := fun e => h (by rw [e])

end Go.Proofs.YtoaeckcenobfcaaGreat

namespace Go.Proofs.YtoaeckcenobfcaaGreat
open Go.RowKit Go.Shelf

theorem hid {p : Prop} (h : p) : Hid p := h
theorem ret_two {v : Value} {a b : Bool} (h : a = b) : Ending.returned (.tuple #[v, .bool a]) = .returned (.tuple #[v, .bool b]) := by rw [h]
theorem ret_bool {a b : Bool} (h : a = b) : Ending.returned (.bool a) = .returned (.bool b) := by rw [h]

set_option maxHeartbeats 400000 in
theorem l1Word_any (s : ByteArray) (w : World) (hs : s.size ≤ 1048576) :
    Calls Tryz.prog 107 #[.string s] w fun e w' => e = .returned (.bool (wordB s)) ∧ w' = w := by
  go_enter Tryz.func107, Tryz.ntmps107
  go_wp2
  go_loop [3] (fun i => ∃ k : Nat, k ≤ s.size ∧ i = .int .i64 k ∧ wordTo s k = true) (fun i => s.size - (intOf i).toNat)
  case atStart => exact ⟨0, Nat.zero_le _, rfl, wordTo_zero s⟩
  case round =>
    obtain ⟨k, hk, rfl, hw⟩ := hrel
    have HW : Hid (wordTo s k = true) := hw
    clear hw
    by_cases hlt : k < s.size
    ·
      by_cases c1 : 97 ≤ (s[k].toNat : Int)
      all_goals by_cases c2 : (s[k].toNat : Int) ≤ 122
      all_goals by_cases c3 : 48 ≤ (s[k].toNat : Int)
      all_goals by_cases c4 : (s[k].toNat : Int) ≤ 57
      all_goals first
        | (exfalso; omega)
        | (have hc : wordCh s[k] = true := wordCh_yes (by omega)
           have HC : Hid (wordCh s[k] = true) := hc
           clear hc
           go_wp2
           exact ⟨⟨k + 1, by omega, by go_num, by rw [wordTo_succ s k hlt, HW.out, HC.out]; rfl⟩, by simp [intOf]; omega⟩)
        | (have hc : wordCh s[k] = false := wordCh_no (by omega)
           have HC : Hid (wordCh s[k] = false) := hc
           clear hc
           go_wp2
           go_ret
           exact ⟨ret_bool (wordB_bad s k hlt HC.out).symm, rfl⟩)
    · obtain rfl : k = s.size := by omega
      have HE : Hid (wordB s = decide (1 ≤ s.size ∧ s.size ≤ 8)) := wordB_end s HW.out
      by_cases d1 : 1 ≤ s.size
      all_goals by_cases d2 : s.size ≤ 8
      all_goals first
        | (exfalso; omega)
        | (go_wp2
           go_ret
           exact ⟨ret_bool (by rw [HE.out, Bool.eq_iff_iff]; simp; omega), rfl⟩)

set_option maxHeartbeats 400000 in
theorem plainWord_any (s : ByteArray) (w : World) :
    Calls Tryz.prog 145 #[.string s] w fun e w' => e = .returned (.bool (wordB s)) ∧ w' = w := by
  by_cases hl : 1 ≤ s.size ∧ s.size ≤ 8
  · obtain ⟨hl1, hl2⟩ := hl
    have t1 : decide ((s.size : Int) < 1) = false := by simp; omega
    have t2 : decide (8 < (s.size : Int)) = false := by simp; omega
    go_enter Tryz.func145, Tryz.ntmps145
    go_wp2
    go_loop [3] (fun i => ∃ k : Nat, k ≤ s.size ∧ i = .int .i64 k ∧ wordTo s k = true) (fun i => s.size - (intOf i).toNat)
    case atStart => exact ⟨0, Nat.zero_le _, rfl, wordTo_zero s⟩
    case round =>
      obtain ⟨k, hk, rfl, hw⟩ := hrel
      have HW : Hid (wordTo s k = true) := hw
      clear hw
      by_cases hlt : k < s.size
      ·
        by_cases c1 : 97 ≤ (s[k].toNat : Int)
        all_goals by_cases c2 : (s[k].toNat : Int) ≤ 122
        all_goals by_cases c3 : 48 ≤ (s[k].toNat : Int)
        all_goals by_cases c4 : (s[k].toNat : Int) ≤ 57
        all_goals first
          | (exfalso; omega)
          | (have hc : wordCh s[k] = true := wordCh_yes (by omega)
             have HC : Hid (wordCh s[k] = true) := hc
             clear hc
             go_wp2
             exact ⟨⟨k + 1, by omega, by go_num, by rw [wordTo_succ s k hlt, HW.out, HC.out]; rfl⟩, by simp [intOf]; omega⟩)
          | (have hc : wordCh s[k] = false := wordCh_no (by omega)
             have HC : Hid (wordCh s[k] = false) := hc
             clear hc
             go_wp2
             go_ret
             exact ⟨ret_bool (wordB_bad s k hlt HC.out).symm, rfl⟩)
      · obtain rfl : k = s.size := by omega
        have HE : Hid (wordB s = true) := by rw [wordB_end s HW.out]; exact decide_eq_true ⟨hl1, hl2⟩
        go_wp2
        go_ret
        exact ⟨ret_bool HE.out.symm, rfl⟩
  · have HB : Hid (wordB s = false) := wordB_len s hl
    by_cases t1 : s.size < 1
    · clear hl
      go_enter Tryz.func145, Tryz.ntmps145
      go_wp2
      go_ret
      exact ⟨ret_bool HB.out.symm, rfl⟩
    · have t2 : 8 < s.size := by omega
      clear hl
      go_enter Tryz.func145, Tryz.ntmps145
      go_wp2
      go_ret
      exact ⟨ret_bool HB.out.symm, rfl⟩

/-- Behind an append onto a row of one's own nothing has turned that lay below n₀. -/
theorem below_appended {n₀ : Nat} {W w1 : World} {e : TypeId} {size k : Nat} {v : Value} {xs : List Value} {tmp : Obj} (hn₀ : n₀ ≤ W.heap.size)
    (hrow : W.ownsRow n₀ e size v k xs) (hgrow : (W.alloc tmp).grownBy w1 v.ownBlock) : Below n₀ W w1 := by
  refine ((Below.refl n₀ W).alloc hn₀ tmp).grown hgrow (by simp; omega) fun j ej => ?_
  rcases hrow.2 with ⟨rfl, _⟩ | ⟨g, cap, cur, rfl, hb, _, _⟩
  · simp [Value.ownBlock] at ej
  · obtain rfl : g = j := by simpa [Value.ownBlock] using ej
    exact hb

theorem infoStr : (Tryz.prog.info? 9).map (fun i => (i.zero, i.size, i.bytes)) = some (some (.string ByteArray.empty), 1, 16) := by kernel_rfl

set_option maxHeartbeats 400000 in
theorem l1Split_any (s : ByteArray) (c : Int) (b : UInt8) (hb : (b.toNat : Int) = c) (w : World) (hs : s.size ≤ 1048576) :
    Calls Tryz.prog 106 #[.string s, .int .u8 c] w fun e w' => ∃ v, e = .returned v ∧ w'.ownsRow w.heap.size 9 1 v (split s b).length ((split s b).map Value.string) ∧ Below w.heap.size w w' := by
  obtain ⟨i0, hi, hz0, hz1, hz2⟩ := info_parts infoStr
  have HB : Hid ((b.toNat : Int) = c) := hb
  clear hb
  go_enter Tryz.func106, Tryz.ntmps106
  go_wp2
  go_loopw [5, 6, 7] (fun out at_ i wr => ∃ k : Nat, k ≤ s.size + 1 ∧ i = .int .i64 k ∧ at_ = .int .i64 (spA s b k) ∧ wr.ownsRow w.heap.size 9 1 out (spL s b k).length ((spL s b k).map Value.string) ∧ Below w.heap.size w wr) (fun _ _ i _ => s.size + 1 - (intOf i).toNat)
  case atStart => exact ⟨0, Nat.zero_le _, rfl, rfl, World.ownsRow_nil _ _ _ _, Below.refl _ _⟩
  case round =>
    obtain ⟨k, hk, rfl, rfl, hrow, hB⟩ := hrel
    have hA := spA_le s b k
    have hL := spL_len s b k
    have hz := hB.size
    by_cases hlt : k ≤ s.size
    · by_cases hend : k = s.size
      · have e1 : ((k : Int) == (s.size : Int)) = true := by simp; omega
        have HE : Hid (k = s.size) := hend
        have hk2 : s.size ≤ k := by omega
        clear hend
        go_wp2_with (at_builtin; refine wpList_append_own _ rfl _ _ 109 rfl w.heap.size 9 i0 (.string ByteArray.empty) 1 16 Tryz.underlying109 hi hz0 hz1 hz2 rfl (by decide) _ _ _ rfl (hrow.alloc _) ⟨wr.heap.size, 0, none⟩ 1 1 [.string (s.extract (spA s b k) k)] rfl rfl (cell_one_new _ _ _) (by simp [Value.oneCell']) (by simp [maxLen]; omega) (by omega) (by simp; omega) ?_; intro v' w1 hown' hgrow _; obtain ⟨g', cap', rfl⟩ := ownsRow_succ hown')
        go_roundw
        case rel =>
          obtain rfl := HE.out
          refine ⟨s.size + 1, Nat.le_refl _, by go_num, ?_, ?_, hB.trans (below_appended hz hrow hgrow)⟩
          · rw [spA_end]; go_num
          · rw [spL_end]; simpa using hown'
        case measure => simp [intOf]; omega
      · have e1 : ((k : Int) == (s.size : Int)) = false := by simp; omega
        have hk2 : k < s.size := by omega
        by_cases hc : (s[k].toNat : Int) = c
        · have e2 : ((s[k].toNat : Int) == c) = true := by simp [hc]
          have HC : Hid (s[k] = b) := byte_eq (hc.trans HB.out.symm)
          clear hc
          go_wp2_with (at_builtin; refine wpList_append_own _ rfl _ _ 109 rfl w.heap.size 9 i0 (.string ByteArray.empty) 1 16 Tryz.underlying109 hi hz0 hz1 hz2 rfl (by decide) _ _ _ rfl (hrow.alloc _) ⟨wr.heap.size, 0, none⟩ 1 1 [.string (s.extract (spA s b k) k)] rfl rfl (cell_one_new _ _ _) (by simp [Value.oneCell']) (by simp [maxLen]; omega) (by omega) (by simp; omega) ?_; intro v' w1 hown' hgrow _; obtain ⟨g', cap', rfl⟩ := ownsRow_succ hown')
          go_roundw
          case rel =>
            refine ⟨k + 1, by omega, by go_num, ?_, ?_, hB.trans (below_appended hz hrow hgrow)⟩
            · rw [spA_hit s b k hk2 HC.out]; go_num
            · rw [spL_hit s b k hk2 HC.out]; simpa using hown'
          case measure => simp [intOf]; omega
        · have e2 : ((s[k].toNat : Int) == c) = false := by simp [hc]
          have HC : Hid (s[k] ≠ b) := byte_ne (fun e => hc (e.trans HB.out))
          clear hc
          go_wp2
          go_roundw
          case rel =>
            refine ⟨k + 1, by omega, by go_num, ?_, ?_, hB⟩
            · rw [spA_miss s b k hk2 HC.out]
            · rw [spL_miss s b k hk2 HC.out]; exact hrow
          case measure => simp [intOf]; omega
    · go_wp2
      go_ret
      have hk3 : k = s.size + 1 := by omega
      subst hk3
      exact ⟨_, rfl, hrow, hB⟩

end Go.Proofs.YtoaeckcenobfcaaGreat

namespace Go.Proofs.YtoaeckcenobfcaaGreat

def starB (x : ByteArray) : Bool := x.toList == [42]
def star2B (x : ByteArray) : Bool := x.toList == [42, 42]
/-- A word or a star. -/
def wsB (x : ByteArray) : Bool := starB x || wordB x

theorem toList_data (x : ByteArray) : x.toList = x.data.toList := ByteArray.toList_eq x
theorem star2_not_ws (x : ByteArray) (h : star2B x = true) : wsB x = false := by
  have h1 : x.data.toList = [42, 42] := by simpa [star2B, toList_data] using h
  have h2 : wordTo x x.size = false := by
    unfold wordTo
    rw [h1, show x.size = x.data.toList.length by simp, h1]
    decide
  simp [wsB, starB, wordB, toList_data, h1, h2]

/-! ### Names -/

/-- The pieces of a name pattern as they come: how many have come; none behind a piece that is one too many or none. -/
def nmStep (o : Option Nat) (x : ByteArray) : Option Nat := match o with
  | none => none
  | some n => if n = 2 then none else if wsB x = true then some (n + 1) else none
def nmSt (l : List ByteArray) : Option Nat := l.foldl nmStep (some 0)
theorem nmSt_nil : nmSt [] = some 0 := rfl
theorem nmSt_snoc (l : List ByteArray) (x : ByteArray) : nmSt (l ++ [x]) = nmStep (nmSt l) x := by simp [nmSt, List.foldl_append]
theorem nmFold_none (l : List ByteArray) : l.foldl nmStep none = none := by
  induction l with
  | nil => rfl
  | cons x l ih => simpa [List.foldl, nmStep] using ih
theorem nmSt_pre {p l : List ByteArray} (h : p <+: l) (hp : nmSt p = none) : nmSt l = none := by
  obtain ⟨r, rfl⟩ := h
  unfold nmSt at *
  rw [List.foldl_append, hp, nmFold_none]
theorem nmFold_eq (l : List ByteArray) : ∀ n, n ≤ 2 → l.foldl nmStep (some n) = if l.all wsB = true ∧ n + l.length ≤ 2 then some (n + l.length) else none := by
  induction l with
  | nil => intro n hn; simp [hn]
  | cons x l ih =>
    intro n hn
    rw [List.foldl_cons]
    by_cases h2 : n = 2
    · subst h2
      rw [show nmStep (some 2) x = none from rfl, nmFold_none, if_neg (by simp)]
    · by_cases hx : wsB x = true
      · rw [show nmStep (some n) x = some (n + 1) by simp [nmStep, h2, hx], ih (n + 1) (by omega)]
        simp only [List.all_cons, hx, Bool.true_and, List.length_cons]
        rw [show n + 1 + l.length = n + (l.length + 1) by omega]
      · rw [show nmStep (some n) x = none by simp [nmStep, h2, hx], nmFold_none, if_neg (by simp [hx])]
theorem nmSt_eq (l : List ByteArray) : nmSt l = if l.all wsB = true ∧ l.length ≤ 2 then some l.length else none := by
  have := nmFold_eq l 0 (by omega)
  simpa [nmSt] using this
theorem nmSt_le {l : List ByteArray} (h : nmSt l = some l.length) : l.length ≤ 2 := by
  rw [nmSt_eq] at h
  split at h
  · rename_i h'; exact h'.2
  · cases h
theorem nmSt_full {l : List ByteArray} (x : ByteArray) (h : nmSt l = some l.length) (h2 : l.length = 2) : nmSt (l ++ [x]) = none := by
  rw [nmSt_snoc, h, h2]
  rfl
theorem nmSt_bad {l : List ByteArray} (x : ByteArray) (h : nmSt l = some l.length) (hx : wsB x = false) : nmSt (l ++ [x]) = none := by
  rw [nmSt_snoc, h]
  simp [nmStep, hx]
theorem nmSt_good {l : List ByteArray} (x : ByteArray) (h : nmSt l = some l.length) (h2 : ¬ l.length = 2) (hx : wsB x = true) : nmSt (l ++ [x]) = some (l ++ [x]).length := by
  rw [nmSt_snoc, h]
  simp [nmStep, hx, h2]
/-- The pieces are those of a name pattern. -/
def nmB (l : List ByteArray) : Bool := decide (nmSt l = some 2)
theorem nmB_eq (l : List ByteArray) : nmB l = (decide (l.length = 2) && l.all wsB) := by
  unfold nmB
  rw [nmSt_eq]
  by_cases h : l.all wsB = true
  · by_cases h2 : l.length ≤ 2
    · simp [h, h2]
    · rw [if_neg (by simp [h2])]
      simp; omega
  · rw [if_neg (by simp [h])]
    simp at h
    simp [h]
/-- The pieces of a name pattern, none where they are not one's. -/
def nmL (l : List ByteArray) : List ByteArray := if nmB l = true then l else []
theorem nmL_yes {l : List ByteArray} (h : nmB l = true) : nmL l = l := if_pos h
theorem nmL_no {l : List ByteArray} (h : nmB l = false) : nmL l = [] := if_neg (by rw [h]; exact Bool.false_ne_true)
theorem nmB_none {l : List ByteArray} (h : nmSt l = none) : nmB l = false := by
  unfold nmB
  rw [h]
  rfl
theorem nmB_some {l : List ByteArray} (h : nmSt l = some l.length) : nmB l = decide (l.length = 2) := by
  unfold nmB
  rw [h]
  simp
theorem nmB_len {l : List ByteArray} (h : ¬ l.length = 2) : nmB l = false := by rw [nmB_eq]; simp [h]
theorem nmB_two (x y : ByteArray) : nmB [x, y] = (wsB x && wsB y) := by simp [nmB_eq]

/-! ### Paths -/

/-- The pieces of a path pattern as they come: how many have come, and whether two stars have ended it. -/
def ptStep (o : Option (Nat × Bool)) (x : ByteArray) : Option (Nat × Bool) := match o with
  | none => none
  | some (n, e) => if e = true ∨ n = 6 then none else if star2B x = true then some (n + 1, true) else if wsB x = true then some (n + 1, false) else none
def ptSt (l : List ByteArray) : Option (Nat × Bool) := l.foldl ptStep (some (0, false))
theorem ptSt_nil : ptSt [] = some (0, false) := rfl
theorem ptSt_snoc (l : List ByteArray) (x : ByteArray) : ptSt (l ++ [x]) = ptStep (ptSt l) x := by simp [ptSt, List.foldl_append]
theorem ptFold_none (l : List ByteArray) : l.foldl ptStep none = none := by
  induction l with
  | nil => rfl
  | cons x l ih => simpa [List.foldl, ptStep] using ih
theorem ptSt_pre {p l : List ByteArray} (h : p <+: l) (hp : ptSt p = none) : ptSt l = none := by
  obtain ⟨r, rfl⟩ := h
  unfold ptSt at *
  rw [List.foldl_append, hp, ptFold_none]
/-- Words and stars, two stars at the end alone. -/
def ptOk : List ByteArray → Bool
  | [] => true
  | x :: r => if star2B x = true then r.isEmpty else wsB x && ptOk r
theorem ptFold_eq (l : List ByteArray) : ∀ n, n ≤ 6 → (l.foldl ptStep (some (n, false))).isSome = (ptOk l && decide (n + l.length ≤ 6)) := by
  induction l with
  | nil => intro n hn; simp [ptOk, hn]
  | cons x l ih =>
    intro n hn
    rw [List.foldl_cons]
    by_cases h6 : n = 6
    · subst h6
      rw [show ptStep (some (6, false)) x = none from rfl, ptFold_none]
      simp
    · by_cases h2 : star2B x = true
      · rw [show ptStep (some (n, false)) x = some (n + 1, true) by simp [ptStep, h6, h2]]
        cases l with
        | nil => simp [ptOk, h2]; omega
        | cons y r => rw [List.foldl_cons, show ptStep (some (n + 1, true)) y = none by simp [ptStep], ptFold_none]; simp [ptOk, h2]
      · by_cases hx : wsB x = true
        · rw [show ptStep (some (n, false)) x = some (n + 1, false) by simp [ptStep, h6, h2, hx], ih (n + 1) (by omega)]
          simp only [ptOk, h2, hx, Bool.true_and, List.length_cons, Bool.false_eq_true, if_false]
          rw [show n + 1 + l.length = n + (l.length + 1) by omega]
        · rw [show ptStep (some (n, false)) x = none by simp [ptStep, h6, h2, hx], ptFold_none]
          simp [ptOk, h2, hx]
/-- The pieces are those of a path pattern. -/
def ptB (l : List ByteArray) : Bool := (ptSt l).isSome
theorem ptB_eq (l : List ByteArray) : ptB l = (ptOk l && decide (l.length ≤ 6)) := by
  have := ptFold_eq l 0 (by omega)
  simpa [ptB, ptSt] using this
theorem ptSt_len (l : List ByteArray) : ∀ n e m f, l.foldl ptStep (some (n, e)) = some (m, f) → m = n + l.length := by
  induction l with
  | nil => intro n e m f h; simp at h; simp [h.1]
  | cons x l ih =>
    intro n e m f h
    rw [List.foldl_cons] at h
    have hs : ptStep (some (n, e)) x = none ∨ ∃ g, ptStep (some (n, e)) x = some (n + 1, g) := by
      unfold ptStep
      simp only
      split
      · exact .inl rfl
      · split
        · exact .inr ⟨_, rfl⟩
        · split
          · exact .inr ⟨_, rfl⟩
          · exact .inl rfl
    rcases hs with hs | ⟨g, hs⟩
    · rw [hs, ptFold_none] at h; cases h
    · rw [hs] at h
      have := ih _ _ _ _ h
      simp; omega
theorem ptSt_num {l : List ByteArray} {m : Nat} {f : Bool} (h : ptSt l = some (m, f)) : m = l.length := by
  have := ptSt_len l 0 false m f h
  omega

/-- What the other program asks of the piece at i. -/
def ppAt (l : List ByteArray) (i : Nat) : Bool := wordB (l.getD i ByteArray.empty) || starB (l.getD i ByteArray.empty) || (star2B (l.getD i ByteArray.empty) && decide (i + 1 = l.length))
def ppTo (l : List ByteArray) (k : Nat) : Bool := (List.range k).all (ppAt l)
theorem ppTo_zero (l : List ByteArray) : ppTo l 0 = true := rfl
theorem ppTo_succ (l : List ByteArray) (k : Nat) : ppTo l (k + 1) = (ppTo l k && ppAt l k) := by
  unfold ppTo
  rw [List.range_succ, List.all_append]
  simp
theorem pp_ok (l : List ByteArray) : ppTo l l.length = ptOk l := by
  induction l with
  | nil => rfl
  | cons x r ih =>
    have hall : ppTo (x :: r) (r.length + 1) = (ppAt (x :: r) 0 && (List.range r.length).all (fun i => ppAt (x :: r) (i + 1))) := by
      unfold ppTo
      rw [List.range_succ_eq_map, List.all_cons, List.all_map]
      rfl
    have hsh : (List.range r.length).all (fun i => ppAt (x :: r) (i + 1)) = ppTo r r.length := by
      unfold ppTo
      have : ∀ i ∈ List.range r.length, ppAt (x :: r) (i + 1) = ppAt r i := by
        intro i _
        simp [ppAt]
      rw [Bool.eq_iff_iff, List.all_eq_true, List.all_eq_true]
      exact ⟨fun h i hi => (this i hi) ▸ h i hi, fun h i hi => (this i hi).symm ▸ h i hi⟩
    rw [List.length_cons, hall, hsh, ih]
    rw [ptOk]
    by_cases h2 : star2B x = true
    · have hn := star2_not_ws x h2
      have hw : wordB x = false := by simp [wsB] at hn; exact hn.2
      have hs : starB x = false := by simp [wsB] at hn; exact hn.1
      rw [if_pos h2]
      simp only [ppAt, List.getD_cons_zero, hw, hs, h2, Bool.or_false, Bool.true_and, Bool.false_or, List.length_cons]
      cases r with
      | nil => simp [ptOk]
      | cons y t => simp
    · rw [if_neg h2]
      simp at h2
      simp only [ppAt, List.getD_cons_zero, h2, Bool.false_and, Bool.or_false, wsB]
      rw [Bool.or_comm (wordB x)]
theorem plain_ok (l : List ByteArray) (h : l.all wordB = true) : ptOk l = true := by
  induction l with
  | nil => rfl
  | cons x r ih =>
    simp only [List.all_cons, Bool.and_eq_true] at h
    unfold ptOk
    by_cases h2 : star2B x = true
    · have hn := star2_not_ws x h2
      simp [wsB, h.1] at hn
    · rw [if_neg h2]
      simp [wsB, h.1, ih h.2]

/-- Whether two stars have ended what has come. -/
def endB (l : List ByteArray) : Bool := match ptSt l with
  | some (_, e) => e
  | none => false
theorem pt_ended {l : List ByteArray} (x : ByteArray) (h : ptSt l = some (l.length, endB l)) (he : endB l = true) : ptSt (l ++ [x]) = none := by
  rw [ptSt_snoc, h, he]
  simp [ptStep]
theorem pt_full {l : List ByteArray} (x : ByteArray) (h : ptSt l = some (l.length, endB l)) (h6 : l.length = 6) : ptSt (l ++ [x]) = none := by
  rw [ptSt_snoc, h, h6]
  simp [ptStep]
theorem pt_bad {l : List ByteArray} (x : ByteArray) (h : ptSt l = some (l.length, endB l)) (h2 : star2B x = false) (hx : wsB x = false) : ptSt (l ++ [x]) = none := by
  rw [ptSt_snoc, h]
  simp [ptStep, h2, hx]
theorem pt_end {l : List ByteArray} (x : ByteArray) (h : ptSt l = some (l.length, endB l)) (he : endB l = false) (h6 : ¬ l.length = 6) (h2 : star2B x = true) : ptSt (l ++ [x]) = some ((l ++ [x]).length, true) := by
  rw [ptSt_snoc, h, he]
  simp [ptStep, h6, h2]
theorem pt_on {l : List ByteArray} (x : ByteArray) (h : ptSt l = some (l.length, endB l)) (he : endB l = false) (h6 : ¬ l.length = 6) (h2 : star2B x = false) (hx : wsB x = true) : ptSt (l ++ [x]) = some ((l ++ [x]).length, false) := by
  rw [ptSt_snoc, h, he]
  simp [ptStep, h6, h2, hx]
theorem endB_of {l : List ByteArray} {n : Nat} {e : Bool} (h : ptSt l = some (n, e)) : endB l = e := by
  unfold endB
  rw [h]
theorem pt_le {l : List ByteArray} (h : ptSt l = some (l.length, endB l)) : l.length ≤ 6 := by
  have : ptB l = true := by unfold ptB; rw [h]; rfl
  rw [ptB_eq] at this
  simp at this
  exact this.2

/-- The pieces behind a text's first slash; none where it is no path's form. -/
def slashB (s : ByteArray) : Bool := s.toList == [47]
def headB (s : ByteArray) : Bool := s.data.toList.head? == some 47
def pathPs (s : ByteArray) : Option (List ByteArray) := if slashB s = true then some [] else if headB s = true then some (split (s.extract 1 s.size) 47) else none
theorem pathPs_slash {s : ByteArray} (h : slashB s = true) : pathPs s = some [] := if_pos h
theorem pathPs_head {s : ByteArray} (h : slashB s = false) (h2 : headB s = true) : pathPs s = some (split (s.extract 1 s.size) 47) := by
  unfold pathPs
  rw [if_neg (by simp [h]), if_pos h2]
theorem pathPs_none {s : ByteArray} (h : slashB s = false) (h2 : headB s = false) : pathPs s = none := by
  unfold pathPs
  rw [if_neg (by simp [h]), if_neg (by simp [h2])]
/-- The text is a path pattern. -/
def ptBs (s : ByteArray) : Bool := match pathPs s with
  | none => false
  | some l => ptB l
def ptLs (s : ByteArray) : List ByteArray := if ptBs s = true then (pathPs s).getD [] else []
theorem ptLs_no {s : ByteArray} (h : ptBs s = false) : ptLs s = [] := if_neg (by rw [h]; exact Bool.false_ne_true)
theorem ptLs_yes {s : ByteArray} (h : ptBs s = true) {l : List ByteArray} (hl : pathPs s = some l) : ptLs s = l := by
  unfold ptLs
  rw [if_pos h, hl]
  rfl
theorem ptBs_some {s : ByteArray} {l : List ByteArray} (hl : pathPs s = some l) : ptBs s = ptB l := by
  unfold ptBs
  rw [hl]
theorem ptBs_none {s : ByteArray} (hl : pathPs s = none) : ptBs s = false := by
  unfold ptBs
  rw [hl]
theorem ptB_none {l : List ByteArray} (h : ptSt l = none) : ptB l = false := by
  unfold ptB
  rw [h]
  rfl
theorem ptB_some {l : List ByteArray} {x : Nat × Bool} (h : ptSt l = some x) : ptB l = true := by
  unfold ptB
  rw [h]
  rfl
theorem headB_at {s : ByteArray} (h : 0 < s.size) (hb : s[0] = 47) : headB s = true := by
  have h0 : 0 < s.data.toList.length := by simpa using h
  have : s.data.toList.head? = some s[0] := by
    rw [List.head?_eq_getElem?, List.getElem?_eq_getElem h0]
    rfl
  unfold headB
  rw [this, hb]
  rfl
theorem headB_not {s : ByteArray} (h : 0 < s.size) (hb : s[0] ≠ 47) : headB s = false := by
  have h0 : 0 < s.data.toList.length := by simpa using h
  have : s.data.toList.head? = some s[0] := by
    rw [List.head?_eq_getElem?, List.getElem?_eq_getElem h0]
    rfl
  unfold headB
  rw [this]
  simp [hb]
theorem headB_empty {s : ByteArray} (h : s.size = 0) : headB s = false := by
  have : s.data.toList = [] := List.eq_nil_of_length_eq_zero (by simpa using h)
  unfold headB
  rw [this]
  rfl
theorem size_toList (s : ByteArray) : s.toList.isEmpty = decide (s.size = 0) := by
  rw [toList_data, Bool.eq_iff_iff, List.isEmpty_iff]
  simp only [decide_eq_true_eq]
  exact ⟨fun h => by have := congrArg List.length h; simpa using this, fun h => List.eq_nil_of_length_eq_zero (by simpa using h)⟩
theorem rest_size (s : ByteArray) : (s.extract 1 s.size).size ≤ s.size := by
  rw [ByteArray.size_extract]
  omega

/-- What the specification's words of a text are, and whether they are few enough. -/
def wL (s : ByteArray) : List ByteArray := (pathPs s).getD []
def wOk (s : ByteArray) : Bool := match pathPs s with
  | none => false
  | some l => decide (l.length ≤ 6)
theorem wL_some {s : ByteArray} {l : List ByteArray} (h : pathPs s = some l) : wL s = l := by unfold wL; rw [h]; rfl
theorem wL_none {s : ByteArray} (h : pathPs s = none) : wL s = [] := by unfold wL; rw [h]; rfl
theorem wOk_some {s : ByteArray} {l : List ByteArray} (h : pathPs s = some l) : wOk s = decide (l.length ≤ 6) := by unfold wOk; rw [h]
theorem wOk_none {s : ByteArray} (h : pathPs s = none) : wOk s = false := by unfold wOk; rw [h]
theorem wL_mem {s x : ByteArray} (h : x ∈ wL s) : x.size ≤ s.size := by
  unfold wL pathPs at h
  split at h
  · cases h
  · split at h
    · exact Nat.le_trans (split_size _ _ x h) (rest_size s)
    · cases h
theorem wL_len (s : ByteArray) : (wL s).length ≤ s.size + 1 := by
  unfold wL pathPs
  split
  · simp
  · split
    · exact Nat.le_trans (split_len _ _) (by have := rest_size s; omega)
    · simp
def allTo (xs : List ByteArray) (k : Nat) : Bool := (xs.take k).all wordB
theorem allTo_zero (xs : List ByteArray) : allTo xs 0 = true := by simp [allTo]
theorem allTo_succ (xs : List ByteArray) (k : Nat) (h : k < xs.length) : allTo xs (k + 1) = (allTo xs k && wordB xs[k]) := by
  unfold allTo
  rw [List.take_succ_eq_append_getElem h, List.all_append]
  simp
theorem allTo_end (xs : List ByteArray) : allTo xs xs.length = xs.all wordB := by simp [allTo]
theorem all_bad (xs : List ByteArray) (k : Nat) (h : k < xs.length) (hb : wordB xs[k] = false) : xs.all wordB = false := by
  rw [List.all_eq_false]
  exact ⟨xs[k], List.getElem_mem h, by simp [hb]⟩
/-- The specification's loops, k rounds over. -/
def gpTo (s : ByteArray) (k : Nat) : Bool := wOk s && allTo (wL s) k
theorem gpTo_zero (s : ByteArray) : gpTo s 0 = wOk s := by simp [gpTo, allTo_zero]
theorem gpTo_no {s : ByteArray} {k : Nat} (h : k < (wL s).length) (hg : gpTo s k = false) : gpTo s (k + 1) = false := by
  unfold gpTo at *
  rw [allTo_succ _ k h, ← Bool.and_assoc, hg]
  rfl
theorem gpTo_yes {s : ByteArray} {k : Nat} (h : k < (wL s).length) (hg : gpTo s k = true) : gpTo s (k + 1) = wordB (wL s)[k] := by
  unfold gpTo at *
  rw [allTo_succ _ k h, ← Bool.and_assoc, hg]
  rfl
def pgTo (s : ByteArray) (k : Nat) : Bool := wOk s && ppTo (wL s) k
theorem pgTo_zero (s : ByteArray) : pgTo s 0 = wOk s := by simp [pgTo, ppTo_zero]
theorem pgTo_no {s : ByteArray} {k : Nat} (hg : pgTo s k = false) : pgTo s (k + 1) = false := by
  unfold pgTo at *
  rw [ppTo_succ, ← Bool.and_assoc, hg]
  rfl
theorem pgTo_yes {s : ByteArray} {k : Nat} (h : k < (wL s).length) (hg : pgTo s k = true) : pgTo s (k + 1) = (wordB (wL s)[k] || starB (wL s)[k] || (star2B (wL s)[k] && decide (k + 1 = (wL s).length))) := by
  unfold pgTo at *
  rw [ppTo_succ, ← Bool.and_assoc, hg, Bool.true_and]
  unfold ppAt
  rw [List.getD_eq_getElem?_getD, List.getElem?_eq_getElem h]
  rfl
/-- The text is a path. -/
def gpB (s : ByteArray) : Bool := ptBs s && (ptLs s).all wordB
theorem gp_end (s : ByteArray) : gpTo s (wL s).length = gpB s := by
  unfold gpTo gpB
  rw [allTo_end]
  cases hp : pathPs s with
  | none => rw [wOk_none hp, ptBs_none hp]; rfl
  | some l =>
    rw [wOk_some hp, wL_some hp, ptBs_some hp]
    cases hb : ptB l with
    | true =>
      rw [ptLs_yes (by rw [ptBs_some hp]; exact hb) hp]
      rw [ptB_eq] at hb
      simp at hb
      simp [hb.2]
    | false =>
      rw [ptB_eq] at hb
      cases ha : l.all wordB with
      | false => simp
      | true => rw [plain_ok l ha] at hb; simp at hb; simp; omega
theorem pg_end (s : ByteArray) : pgTo s (wL s).length = ptBs s := by
  unfold pgTo
  cases hp : pathPs s with
  | none => rw [wOk_none hp, ptBs_none hp]; rfl
  | some l => rw [wOk_some hp, wL_some hp, ptBs_some hp, ptB_eq, pp_ok, Bool.and_comm]
/-- The pieces of a name. -/
def gnB (l : List ByteArray) : Bool := decide (l.length = 2) && l.all wordB

end Go.Proofs.YtoaeckcenobfcaaGreat

namespace Go.Proofs.YtoaeckcenobfcaaGreat
open Go.RowKit Go.Shelf
attribute [local go_sem] Oper.semAt_some

/-- What a round keeps for the iterator: its captured text's box. -/
def KeepsAt (B : Nat) (W W' : World) : Prop := W'.heap[B]? = W.heap[B]?
theorem keepsAt_t {Bn : Nat} {A B C : World} (h : KeepsAt Bn A B) (k : KeepsAt Bn B C) : KeepsAt Bn A C := Eq.trans k h

set_option maxHeartbeats 1000000 in
theorem pieces_in (F : Fence) (n : Nat) (hf : F.fn 140) (hro : F.round = none) (s : ByteArray) (w : World) :
    CallsIn F n Tryz.prog 140 #[.string s] w fun e w' => e = .returned (.func (.func 144) #[] #[.pointer (some ⟨w.heap.size, 0, none⟩)]) ∧ w' = w.alloc (.cells #[.string s] 9) := by
  refine callsIn_of_wp Tryz.func140 rfl hf ?_ hro
  simp only [Tryz.ntmps140, List.size_toArray, List.length_cons, List.length_nil, Nat.reduceAdd, Nat.reduceSub, Array.replicate_succ, Array.replicate_zero, List.push_toArray, List.append_toArray, List.nil_append, List.cons_append]
  gi_wp2
  go_ret
  exact ⟨rfl, rfl⟩

set_option maxRecDepth 100000 in
set_option maxHeartbeats 1000000 in
theorem pieces1_in (F : Fence) (n : Nat) (hf : F.fn 144) (hro : F.round = none) (hn : 1 ≤ n) (l Bn : Nat) (s : ByteArray) (hs : s.size ≤ 1048576) (J Jx : List ByteArray → World → Prop)
    (hY : ∀ pre x W, J pre W → pre.length < (split s 47).length → YieldAt F (n - 1) Tryz.prog l #[.string x] W fun e W' =>
      (e = .returned (.bool true) ∧ J (pre ++ [x]) W' ∧ KeepsAt Bn W W') ∨ (e = .returned (.bool false) ∧ Jx (pre ++ [x]) W'))
    (W : World) (hBn : Boxed W Bn 9 (.string s)) (h0 : J [] W) :
    CallsIn F n Tryz.prog 144 #[.func (.yield l) #[] #[], .pointer (some ⟨Bn, 0, none⟩)] W fun e W' => (∃ v, e = .returned v) ∧
      ((∃ ys, ys = split s 47 ∧ J ys W') ∨ (∃ pre, pre <+: split s 47 ∧ Jx pre W')) := by
  refine callsIn_of_wp Tryz.func144 rfl hf ?_ hro
  simp only [Tryz.ntmps144, List.size_toArray, List.length_cons, List.length_nil, Nat.reduceAdd, Nat.reduceSub, Array.replicate_succ, Array.replicate_zero, List.push_toArray, List.append_toArray, List.nil_append, List.cons_append]
  gi_wp2
  gi_loopw [3, 4] (fun fr i wr => ∃ k : Nat, k ≤ s.size ∧ i = .int .i64 k ∧ fr = .int .i64 (spA s 47 k) ∧ J (spL s 47 k) wr ∧ Boxed wr Bn 9 (.string s)) (fun _ i _ => s.size - (intOf i).toNat)
  case atStart => exact ⟨0, Nat.zero_le _, rfl, rfl, h0, hBn⟩
  case round =>
    obtain ⟨k, hk, rfl, rfl, hJ, hbox⟩ := hrel
    have hcell := hbox.cell
    have hA := spA_le s 47 k
    by_cases hlt : k < s.size
    · by_cases hc : (s[k].toNat : Int) = 47
      · have e2 : ((s[k].toNat : Int) != 47) = false := by simp [hc]
        have HC : Hid (s[k] = 47) := byte_eq (b := 47) hc
        clear hc
        obtain ⟨fn, tmps, assign, body, hy, hR⟩ := hY _ (s.extract (spA s 47 k) k) wr hJ (spL_lt_hit s 47 k hlt HC.out)
        gi_wp2
        refine hR.mono ?_
        rintro e W3 (⟨rfl, hJ3, hk3⟩ | ⟨rfl, hJx3⟩)
        · gi_wp2
          go_roundw
          case rel =>
            refine ⟨k + 1, by omega, by go_num, ?_, ?_, Eq.trans hk3 hbox⟩
            · rw [spA_hit s 47 k hlt HC.out]; go_num
            · rw [spL_hit s 47 k hlt HC.out]; exact hJ3
          case measure => simp [intOf]; omega
        · gi_wp2
          refine bodyPost_ret (results_none rfl _ _ _) rfl ?_
          exact ⟨⟨_, rfl⟩, .inr ⟨_, by rw [← spL_hit s 47 k hlt HC.out]; exact spL_split s 47 (k + 1) (by omega), hJx3⟩⟩
      · have e2 : ((s[k].toNat : Int) != 47) = true := by simpa using hc
        have HC : Hid (s[k] ≠ 47) := byte_ne (b := 47) hc
        clear hc
        gi_wp2
        go_roundw
        case rel =>
          refine ⟨k + 1, by omega, by go_num, ?_, ?_, hbox⟩
          · rw [spA_miss s 47 k hlt HC.out]
          · rw [spL_miss s 47 k hlt HC.out]; exact hJ
        case measure => simp [intOf]; omega
    · obtain rfl : k = s.size := by omega
      obtain ⟨fn, tmps, assign, body, hy, hR⟩ := hY _ (s.extract (spA s 47 s.size) s.size) wr hJ (spL_lt_end s 47)
      gi_wp2
      refine hR.mono ?_
      rintro e W3 (⟨rfl, hJ3, hk3⟩ | ⟨rfl, hJx3⟩)
      · gi_wp2
        go_end0
        exact ⟨⟨_, rfl⟩, .inl ⟨_, rfl, by rw [split_end]; exact hJ3⟩⟩
      · gi_wp2
        go_end0
        exact ⟨⟨_, rfl⟩, .inr ⟨_, by rw [split_end]; exact List.prefix_refl _, hJx3⟩⟩

theorem pieces_stops (F : Fence) (n : Nat) (hf : F.fn 144) (hro : F.round = none) (hn : 1 ≤ n) (Bn : Nat) (s : ByteArray) (hs : s.size ≤ 1048576) (w : World) (hc : Boxed w Bn 9 (.string s)) :
    SeqStopsK F n Tryz.prog 144 #[.pointer (some ⟨Bn, 0, none⟩)] (fun x : ByteArray => #[Value.string x]) (KeepsAt Bn) (fun ys => ys = split s 47) (fun pre => pre <+: split s 47) (split s 47).length w := fun l J Jx W hW _ _ hY h0 =>
  pieces1_in F n hf hro hn l Bn s hs J Jx hY W ((hW.block Bn hc.lt).trans hc) h0

set_option maxHeartbeats 400000 in
theorem wordOrStar_any (s : ByteArray) (w : World) :
    Calls Tryz.prog 141 #[.string s] w fun e w' => e = .returned (.bool (wsB s)) ∧ w' = w := by
  by_cases h : starB s = true
  · have h1 : (s.toList == [42]) = true := h
    have HW : Hid (wsB s = true) := by unfold wsB; rw [h]; rfl
    clear h
    go_enter Tryz.func141, Tryz.ntmps141
    go_wp2
    go_ret
    exact ⟨ret_bool HW.out.symm, rfl⟩
  · have h1 : (s.toList == [42]) = false := by simpa [starB] using h
    have HW : Hid (wsB s = wordB s) := by unfold wsB; simp at h; rw [h]; rfl
    clear h
    go_enter Tryz.func141, Tryz.ntmps141
    go_wp2_with (go_at_call 145; refine (plainWord_any _ _).mono ?_; rintro e w' ⟨rfl, rfl⟩)
    go_ret
    exact ⟨ret_bool HW.out.symm, rfl⟩

/-- What owns a row of n is a slice of length n. -/
theorem ownsRow_len {W : World} {base : Nat} {e : TypeId} {size : Nat} {v : Value} {k : Nat} {xs : List Value} (h : W.ownsRow base e size v k xs) : ∃ a cap, v = .slice a k cap := by
  rcases h.2 with ⟨rfl, rfl⟩ | ⟨g, cap, _, rfl, _⟩
  · exact ⟨none, 0, rfl⟩
  · exact ⟨_, cap, rfl⟩
/-- What owns a row owns it where nothing old has turned. -/
theorem ownsRow_below {w w' : World} {base : Nat} {e : TypeId} {size : Nat} {v : Value} {k : Nat} {xs : List Value} (h : w.ownsRow base e size v k xs) (hB : Below w.heap.size w w') : w'.ownsRow base e size v k xs := by
  refine ⟨h.1, ?_⟩
  rcases h.2 with h0 | ⟨g, cap, cur, hv, hg, hb, r⟩
  · exact .inl h0
  · exact .inr ⟨g, cap, cur, hv, hg, (hB.block g (Array.getElem?_eq_some_iff.1 hb).1).trans hb, r⟩
theorem ownsRow_base {W : World} {base base' : Nat} {e : TypeId} {size : Nat} {v : Value} {k : Nat} {xs : List Value} (h : W.ownsRow base e size v k xs) (hb : base' ≤ base) : W.ownsRow base' e size v k xs := by
  refine ⟨h.1, ?_⟩
  rcases h.2 with h0 | ⟨g, cap, cur, hv, hg, r⟩
  · exact .inl h0
  · exact .inr ⟨g, cap, cur, hv, Nat.le_trans hb hg, r⟩
theorem ownsRow_low {W : World} {base : Nat} {e : TypeId} {size : Nat} {v : Value} {k B : Nat} {xs : List Value} (h : W.ownsRow base e size v k xs) (hB : B < base) : some B ≠ v.ownBlock := by
  rcases h.2 with ⟨rfl, _⟩ | ⟨g, cap, cur, rfl, hg, _⟩
  · simp [Value.ownBlock]
  · simp [Value.ownBlock]; omega
/-- 'out = append(out, x)': out's box lies at B below the row: behind the store. -/
theorem boxed_appended {W w1 : World} {n₁ B : Nat} {t e : TypeId} {size : Nat} {v v' : Value} {k m : Nat} {xs ys : List Value} {tmp : Obj}
    (hv : Boxed W B t v) (hB : B < n₁) (hn₁ : n₁ ≤ W.heap.size) (hrow : W.ownsRow n₁ e size v k xs) (hown' : w1.ownsRow n₁ e size v' m ys) (hgrow : (W.alloc tmp).grownBy w1 v.ownBlock) :
    Boxed w1 B t v ∧ Boxed (w1.setCell ⟨B, 0, none⟩ v') B t v' ∧ (w1.setCell ⟨B, 0, none⟩ v').ownsRow n₁ e size v' m ys ∧ KeepsOthers W (w1.setCell ⟨B, 0, none⟩ v') ∧ Below B W (w1.setCell ⟨B, 0, none⟩ v') ∧
      (∀ j, j < n₁ → j ≠ B → (w1.setCell ⟨B, 0, none⟩ v').heap[j]? = W.heap[j]?) := by
  have hv1 : Boxed w1 B t v := (hv.alloc tmp).kept hgrow (ownsRow_low hrow hB)
  have hbl := below_appended hn₁ hrow hgrow
  refine ⟨hv1, hv1.set v', hown'.kept (grownBy_setCell' w1 B v') (.inr (ownsRow_low hown' hB).symm), ?_, ?_, ?_⟩
  · refine ((KeepsOthers.alloc W tmp).trans (KeepsOthers.of_grownBy hgrow fun j o ej hj => ?_)).trans (KeepsOthers.setCell _ _ _)
    rcases (hrow.alloc tmp).2 with ⟨rfl, _⟩ | ⟨g, cap, cur, rfl, _, hgb, _⟩
    · simp [Value.ownBlock] at ej
    · obtain rfl : g = j := by simpa [Value.ownBlock] using ej
      rw [hgb] at hj; cases hj; rfl
  · exact (hbl.mono (Nat.le_of_lt hB)).setCell (p := ⟨B, 0, none⟩) (Nat.le_refl _) v'
  · intro j hj hne
    exact (Below.heap_setCell _ _ _ j hne).trans (hbl.block j hj)

set_option maxRecDepth 100000 in
set_option maxHeartbeats 2000000 in
theorem wordsOfName_any (s : ByteArray) (w : World) (hs : s.size ≤ 1048576) :
    Calls Tryz.prog 129 #[.string s] w fun e W' => ∃ v, e = .returned (.tuple #[v, .bool (nmB (split s 47))]) ∧ W'.ownsRow w.heap.size 9 1 v (nmL (split s 47)).length ((nmL (split s 47)).map Value.string) ∧ Below w.heap.size w W' := by
  obtain ⟨i0, hi, hz0, hz1, hz2⟩ := info_parts infoStr
  refine (callsIn_wide (n := 3)).1 ?_
  refine callsIn_of_wp_marks Tryz.func129 rfl trivial ?_ rfl
  simp only [Tryz.ntmps129, List.size_toArray, List.length_cons, List.length_nil, Nat.reduceAdd, Nat.reduceSub, Array.replicate_succ, Array.replicate_zero, List.push_toArray, List.append_toArray, List.nil_append, List.cons_append]
  gi_wp2_with (refine ⟨trivial, ?_⟩; gi_at_call 140; refine (pieces_in Fence.wide _ trivial rfl _ _).mono ?_; rintro e w' ⟨rfl, rfl⟩)
  have b0 := Boxed.new w 109 (.slice none 0 0)
  have b1 := Boxed.new (w.alloc (.cells #[.slice none 0 0] 109)) 4 (.bool false)
  have b2 := Boxed.new ((w.alloc (.cells #[.slice none 0 0] 109)).alloc (.cells #[.bool false] 4)) 109 (.slice none 0 0)
  have b3 := Boxed.new (((w.alloc (.cells #[.slice none 0 0] 109)).alloc (.cells #[.bool false] 4)).alloc (.cells #[.slice none 0 0] 109)) 9 (.string s)
  simp only [World.size_alloc] at b1 b2 b3
  have hB0 : Below w.heap.size w ((((w.alloc (.cells #[.slice none 0 0] 109)).alloc (.cells #[.bool false] 4)).alloc (.cells #[.slice none 0 0] 109)).alloc (.cells #[.string s] 9)) := ((((Below.refl _ w).alloc (Nat.le_refl _) _).alloc (by simp) _).alloc (by simp; omega) _).alloc (by simp; omega) _
  refine wpIn_rangeFunc_ownG rfl (by omega) (gf := 144) (lb := #[.pointer (some ⟨w.heap.size + 1 + 1 + 1, 0, none⟩)]) rfl trivial (enters_of Tryz.func144 (by kernel_rfl) rfl)
    (pieces_stops Fence.wide _ trivial rfl (by omega) (w.heap.size + 1 + 1 + 1) s hs _ b3) keepsAt_t (fun W l o o' hl h _ _ => World.putObj_heap_other (by simp at hl; omega)) (Below.refl _ _) (fun _ => rfl)
    (fun pre W => (∃ v, Boxed W (w.heap.size + 1 + 1) 109 v ∧ W.ownsRow (w.heap.size + 1 + 1 + 1 + 1) 9 1 v pre.length (pre.map Value.string) ∧ True) ∧ (Boxed W w.heap.size 109 (.slice none 0 0) ∧ Boxed W (w.heap.size + 1) 4 (.bool false) ∧ Boxed W (w.heap.size + 1 + 1 + 1) 9 (.string s)) ∧ (nmSt pre = some pre.length) ∧ Below w.heap.size w W)
    (fun c pre W => (c = .ret ∧ nmSt pre = none) ∧ (Boxed W w.heap.size 109 (.slice none 0 0) ∧ Boxed W (w.heap.size + 1) 4 (.bool false)) ∧ Below w.heap.size w W)
    (OwnFrom.and (Own.from (holdsRow_own (w.heap.size + 1 + 1 + 1 + 1) (w.heap.size + 1 + 1) 109 9 1 (fun pre : List ByteArray => pre.length) (fun pre => pre.map Value.string) (fun _ _ => True)) _) (OwnFrom.and (OwnFrom.and (Own.from (boxed_own _ _ (fun _ => _)) _) (OwnFrom.and (Own.from (boxed_own _ _ (fun _ => _)) _) (Own.from (boxed_own _ _ (fun _ => _)) _))) (OwnFrom.and (ownFrom_pure _ _) (ownFrom_below (Nat.le_refl _) (by simp; omega)))))
    (fun c => OwnFrom.and (ownFrom_pure _ _) (OwnFrom.and (OwnFrom.and (Own.from (boxed_own _ _ (fun _ => _)) _) (Own.from (boxed_own _ _ (fun _ => _)) _)) (ownFrom_below (Nat.le_refl _) (by simp; omega))))
    ⟨⟨_, b2.alloc _, World.ownsRow_nil _ _ _ _, trivial⟩, ⟨((b0.alloc _).alloc _).alloc _, (b1.alloc _).alloc _, b3⟩, nmSt_nil, hB0⟩
    (fun x => { tmps := #[.string s, undef, .pointer (some ⟨w.heap.size, 0, none⟩), .pointer (some ⟨w.heap.size + 1, 0, none⟩), .pointer (some ⟨w.heap.size + 1 + 1, 0, none⟩), .string x, .string s, .func (.func 144) #[] #[.pointer (some ⟨w.heap.size + 1 + 1 + 1, 0, none⟩)], .string x, undef, undef, undef, undef, undef, undef, undef, undef, undef, undef, undef, undef, undef, undef, undef, undef], defers := [] }) ?assign ?body ?done ?stop
  case assign =>
    intro l x W K hK
    gi_wp2
    exact hK
  case body =>
    rintro l pre x W ⟨⟨v, hv, hrow, _⟩, ⟨r0, r1, rs⟩, hst, hB⟩ hlt
    obtain ⟨a, cap, rfl⟩ := ownsRow_len hrow
    have hle := nmSt_le hst
    have HST : Hid (nmSt pre = some pre.length) := hst
    have hcv := hv.cell
    have hc0 := r0.cell
    have hc1 := r1.cell
    have hf0 := r0.frozen
    have hf1 := r1.frozen
    have hsz := hB.size
    have hlt1 := rs.lt
    clear hst
    by_cases h2 : pre.length = 2
    · have e1 : ((pre.length : Int) == 2) = true := by simp; omega
      have HN : Hid (nmSt (pre ++ [x]) = none) := nmSt_full x HST.out h2
      clear h2
      gi_wp2
      refine ⟨trivial, ?_⟩
      gi_wp2
      exact ⟨((KeepsOthers.setCell _ _ _).trans (KeepsOthers.setCell _ _ _)).from _, ⟨rfl, HN.out⟩, ⟨(r0.set _).other (by omega) _, (r1.other (by omega) _).set _⟩, (hB.setCell (p := ⟨w.heap.size, 0, none⟩) (Nat.le_refl _) _).setCell (p := ⟨w.heap.size + 1, 0, none⟩) (by simp) _⟩
    · have e1 : ((pre.length : Int) == 2) = false := by simp; omega
      by_cases hx : wsB x = true
      · have HN : Hid (nmSt (pre ++ [x]) = some (pre ++ [x]).length) := nmSt_good x HST.out h2 hx
        clear h2
        gi_wp2_with (first | (refine ⟨trivial, ?_⟩; gi_at_call 141; refine (CallsIn.inRound l (callsIn_wide.2 (wordOrStar_any x _))).mono ?_; rintro e w' ⟨rfl, rfl⟩) | (gi_at_builtin; refine wpListIn_append_own _ rfl _ _ 109 rfl (w.heap.size + 1 + 1 + 1 + 1) 9 i0 (.string ByteArray.empty) 1 16 Tryz.underlying109 hi hz0 hz1 hz2 rfl (by decide) _ _ _ rfl (hrow.alloc _) ⟨_, 0, none⟩ 1 1 [.string x] rfl rfl (cell_one_new _ _ _) (by simp [Value.oneCell']) (by simp [maxLen]; omega) (by omega) (by simp; omega) ?_; intro v' w1 hown' hgrow _; obtain ⟨g', cap', rfl⟩ := ownsRow_succ hown'; obtain ⟨hv1, hv2, hr2, hk2, hb2, ho2⟩ := boxed_appended hv (by omega) (by omega) hrow hown' hgrow; have hcv1 := hv1.cell; have hfv1 := hv1.frozen))
        refine ⟨hk2.from _, ho2 _ (by omega) (by omega), ⟨_, hv2, by simpa using hr2, trivial⟩, ⟨?_, ?_, ?_⟩, HN.out, hB.trans (hb2.mono (by omega))⟩
        · exact (ho2 _ (by omega) (by omega)).trans r0
        · exact (ho2 _ (by omega) (by omega)).trans r1
        · exact (ho2 _ (by omega) (by omega)).trans rs
      · have hx' : wsB x = false := by simpa using hx
        have HN : Hid (nmSt (pre ++ [x]) = none) := nmSt_bad x HST.out hx'
        clear h2 hx
        gi_wp2_with (refine ⟨trivial, ?_⟩; gi_at_call 141; refine (CallsIn.inRound l (callsIn_wide.2 (wordOrStar_any x _))).mono ?_; rintro e w' ⟨rfl, rfl⟩)
        exact ⟨((KeepsOthers.setCell _ _ _).trans (KeepsOthers.setCell _ _ _)).from _, ⟨rfl, HN.out⟩, ⟨(r0.set _).other (by omega) _, (r1.other (by omega) _).set _⟩, (hB.setCell (p := ⟨w.heap.size, 0, none⟩) (Nat.le_refl _) _).setCell (p := ⟨w.heap.size + 1, 0, none⟩) (by simp) _⟩
  case done =>
    rintro D ys W hD hys ⟨⟨v, hv, hrow, _⟩, ⟨r0, r1, rs⟩, hst, hB⟩ hK
    subst hys
    obtain ⟨a, cap, rfl⟩ := ownsRow_len hrow
    have HNB : Hid (nmB (split s 47) = decide ((split s 47).length = 2)) := nmB_some hst
    have hcv := hv.cell
    have hc0 := r0.cell
    have hc1 := r1.cell
    have hf0 := r0.frozen
    have hf1 := r1.frozen
    clear hst
    by_cases h2 : (split s 47).length = 2
    · have e1 : (((split s 47).length : Int) != 2) = false := by simp; omega
      have HN : Hid (nmB (split s 47) = true) := by rw [HNB.out]; exact decide_eq_true h2
      clear h2
      gi_wp2
      have hKX : ((W.setCell ⟨w.heap.size, 0, none⟩ (.slice a (split s 47).length cap)).setCell ⟨w.heap.size + 1, 0, none⟩ (.bool true)).heap[D]? = some (.deferred (some [])) := (KeepsOthers.setCell _ _ _).same D _ ((KeepsOthers.setCell _ _ _).same D _ hK rfl) rfl
      have hc5 := cell_kept ((r0.set (.slice a (split s 47).length cap)).other (B' := w.heap.size + 1) (by omega) (.bool true)).cell (grownBy_putObj' _ D (.deferred none)) (fun r e => by cases e; exact ⟨_, hKX, rfl⟩)
      have hc6 := cell_kept ((r1.other (B' := w.heap.size) (by omega) (.slice a (split s 47).length cap)).set (.bool true)).cell (grownBy_putObj' _ D (.deferred none)) (fun r e => by cases e; exact ⟨_, hKX, rfl⟩)
      refine ⟨by simp, .inl ⟨_, _, rfl, run_takeDeferred hKX, ?_⟩⟩
      refine ⟨.tuple #[(.slice a (split s 47).length cap), .bool true], ?_, (.slice a (split s 47).length cap), by rw [HN.out], ?_, (((hB.setCell (p := ⟨w.heap.size, 0, none⟩) (Nat.le_refl _) _).setCell (p := ⟨w.heap.size + 1, 0, none⟩) (by simp) _).trans (belowK_b (w := w) (Nat.le_refl _) _ D _ _ (by simp at hD; omega) hKX rfl rfl))⟩
      · simp [results, Tryz.f129, go_sem, hc5, hc6]
      · rw [nmL_yes HN.out]; exact ownsRow_putObj (((ownsRow_base hrow (by omega)).kept (grownBy_setCell' _ _ _) (.inr (ownsRow_low hrow (by omega)).symm)).kept (grownBy_setCell' _ _ _) (.inr (ownsRow_low hrow (by omega)).symm)) _ hKX rfl
    · have e1 : (((split s 47).length : Int) != 2) = true := by simp; omega
      have HN : Hid (nmB (split s 47) = false) := by rw [HNB.out]; exact decide_eq_false h2
      clear h2
      gi_wp2
      have hKX : ((W.setCell ⟨w.heap.size, 0, none⟩ (.slice none 0 0)).setCell ⟨w.heap.size + 1, 0, none⟩ (.bool false)).heap[D]? = some (.deferred (some [])) := (KeepsOthers.setCell _ _ _).same D _ ((KeepsOthers.setCell _ _ _).same D _ hK rfl) rfl
      have hc5 := cell_kept ((r0.set (.slice none 0 0)).other (B' := w.heap.size + 1) (by omega) (.bool false)).cell (grownBy_putObj' _ D (.deferred none)) (fun r e => by cases e; exact ⟨_, hKX, rfl⟩)
      have hc6 := cell_kept ((r1.other (B' := w.heap.size) (by omega) (.slice none 0 0)).set (.bool false)).cell (grownBy_putObj' _ D (.deferred none)) (fun r e => by cases e; exact ⟨_, hKX, rfl⟩)
      refine ⟨by simp, .inl ⟨_, _, rfl, run_takeDeferred hKX, ?_⟩⟩
      refine ⟨.tuple #[(.slice none 0 0), .bool false], ?_, (.slice none 0 0), by rw [HN.out], ?_, (((hB.setCell (p := ⟨w.heap.size, 0, none⟩) (Nat.le_refl _) _).setCell (p := ⟨w.heap.size + 1, 0, none⟩) (by simp) _).trans (belowK_b (w := w) (Nat.le_refl _) _ D _ _ (by simp at hD; omega) hKX rfl rfl))⟩
      · simp [results, Tryz.f129, go_sem, hc5, hc6]
      · rw [nmL_no HN.out]; exact World.ownsRow_nil _ _ _ _
  case stop =>
    rintro D c pre W hD hpre ⟨⟨rfl, hst⟩, ⟨r0, r1⟩, hB⟩ hK
    have HN : Hid (nmB (split s 47) = false) := nmB_none (nmSt_pre hpre hst)
    clear hst
    gi_wp2
    have hKX : (W).heap[D]? = some (.deferred (some [])) := hK
    have hc5 := cell_kept (r0).cell (grownBy_putObj' _ D (.deferred none)) (fun r e => by cases e; exact ⟨_, hKX, rfl⟩)
    have hc6 := cell_kept (r1).cell (grownBy_putObj' _ D (.deferred none)) (fun r e => by cases e; exact ⟨_, hKX, rfl⟩)
    refine ⟨by simp, .inl ⟨_, _, rfl, run_takeDeferred hKX, ?_⟩⟩
    refine ⟨.tuple #[(.slice none 0 0), .bool false], ?_, (.slice none 0 0), by rw [HN.out], ?_, hB.trans (belowK_b (w := w) (Nat.le_refl _) W D _ _ (by simp at hD; omega) hKX rfl rfl)⟩
    · simp [results, Tryz.f129, go_sem, hc5, hc6]
    · rw [nmL_no HN.out]; exact World.ownsRow_nil _ _ _ _

end Go.Proofs.YtoaeckcenobfcaaGreat

namespace Go.Proofs.YtoaeckcenobfcaaGreat
open Go.RowKit Go.Shelf

/-- A slice of bytes that can be read in w. -/
structure ByS (w : World) (a : Option Addr) (n : Nat) : Prop where
  len : n ≤ 1048576
  at_ : ∀ i, i < n → ∃ (blk off : Nat) (x : Nat), a = some ⟨blk, off, none⟩ ∧ x < 256 ∧ w.cell? ⟨blk, off + i, none⟩ = some (.int .u8 x)
/-- The cursor in block b. -/
structure CurB (w : World) (b : Nat) (a : Option Addr) (n c at_ : Nat) : Prop where
  le : n ≤ c
  c0 : w.cell? ⟨b, 0, none⟩ = some (.slice a n c)
  c1 : w.cell? ⟨b, 1, none⟩ = some (.int .i64 at_)
  c2 : ∃ sd : Int, w.cell? ⟨b, 2, none⟩ = some (.int .u64 sd)
  f1 : w.frozen? ⟨b, 1, none⟩ = false
  f2 : w.frozen? ⟨b, 2, none⟩ = false
  apart : ∀ p, a = some p → p.block < b

theorem gB {w W w2 : World} {r : Option Nat} (h : w.grownBy W r) (hB : Below W.heap.size W w2) : w.grownBy w2 r :=
  ⟨hB.os.trans h.os, hB.tape.trans h.tape, hB.output.trans h.output, Nat.le_trans h.size hB.size, fun k hk hne => (hB.block k (Nat.lt_of_lt_of_le hk h.size)).trans (h.block k hk hne)⟩
theorem g2 {w W w2 : World} {r : Option Nat} (h : w.grownBy W r) (h2 : W.grownBy w2 r) : w.grownBy w2 r :=
  ⟨h2.os.trans h.os, h2.tape.trans h.tape, h2.output.trans h.output, Nat.le_trans h.size h2.size, fun k hk hne => (h2.block k (Nat.lt_of_lt_of_le hk h.size) hne).trans (h.block k hk hne)⟩
theorem gS (w : World) (r : Option Nat) : w.grownBy w r := ⟨rfl, rfl, rfl, Nat.le_refl _, fun _ _ _ => rfl⟩
theorem gD {w W : World} {r : Option Nat} (h : w.grownBy W r) (q : Nat) : w.grownBy (W.drewN q) r := gB h (below_drewN (Below.refl _ _) q)

theorem low_byte (sv : Int) (h0 : 0 ≤ sv) (h1 : sv < 18446744073709551616) : ∃ x : Nat, x < 256 ∧ wrap64 (bits BinOp.and IntKind.u64 (sv / 1099511627776) 255) = (x : Int) := by
  have h := bits_mask .u64 63 (by decide) (fun n h₀ h₁ => by rw [IntKind.wrap_u64]; omega) 8 (by decide) (sv / 1099511627776) (by omega) (by omega)
  have e : ((2 : Int) ^ 8 - 1) = 255 := by decide
  have e2 : ((2 : Int) ^ 8) = 256 := by decide
  rw [e, e2] at h
  rw [h]
  refine ⟨(sv / 1099511627776 % 256).toNat, by omega, ?_⟩
  unfold wrap64
  omega
theorem u64_range (x : Int) : 0 ≤ IntKind.u64.wrap x ∧ IntKind.u64.wrap x < 18446744073709551616 := by
  have h := wrap_within .u64 x
  have e1 : IntKind.u64.min = 0 := by decide
  have e2 : IntKind.u64.max = 18446744073709551615 := by decide
  rw [e1, e2] at h
  omega
theorem grown_setCell (w : World) (a : Addr) (u : Value) : w.grownBy (w.setCell a u) (some a.block) := ⟨rfl, rfl, rfl, by simp, fun k _ hk => Below.heap_setCell _ _ _ k (fun e => hk (by rw [e]))⟩

set_option maxHeartbeats 1000000 in
theorem next_any (b : Nat) (a : Option Addr) (n c k : Nat) (w0 : World) (hB : ByS w0 a n) (hC : CurB w0 b a n c k) (hk : k ≤ 100000000) :
    Calls Tryz.prog 50 #[.pointer (some ⟨b, 0, none⟩)] w0 fun e w' => ∃ x : Nat, x < 256 ∧ e = .returned (.int .i64 x) ∧ CurB w' b a n c (k + 1) ∧ w0.grownBy w' (some b) := by
  obtain ⟨hle, h0, h1, ⟨sd, h2⟩, f1, f2, hap⟩ := hC
  have hg := gS w0 (some b)
  by_cases hlt : k < n
  · obtain ⟨blk, off, x, rfl, hx, hcell⟩ := hB.at_ k hlt
    have hne := hap _ rfl
    have HL := hid hB.len
    have hlt2 : (k : Int) + 1 ≤ n := by omega
    clear hB
    go_enter Tryz.func50, Tryz.ntmps50
    go_wp2
    go_quiet (fail)
    replace hg := gD hg nq
    replace h0 : (w0.drewN nq).cell? _ = _ := h0
    replace h1 : (w0.drewN nq).cell? _ = _ := h1
    replace h2 : (w0.drewN nq).cell? _ = _ := h2
    replace hcell : (w0.drewN nq).cell? _ = _ := hcell
    replace f1 : (w0.drewN nq).frozen? _ = _ := f1
    replace f2 : (w0.drewN nq).frozen? _ = _ := f2
    generalize w0.drewN nq = w1 at *
    clear nq
    go_wp2
    go_quiet (fail)
    replace hg := gD hg nq
    replace h0 : (w1.drewN nq).cell? _ = _ := h0
    replace h1 : (w1.drewN nq).cell? _ = _ := h1
    replace h2 : (w1.drewN nq).cell? _ = _ := h2
    replace hcell : (w1.drewN nq).cell? _ = _ := hcell
    replace f1 : (w1.drewN nq).frozen? _ = _ := f1
    replace f2 : (w1.drewN nq).frozen? _ = _ := f2
    generalize w1.drewN nq = w2 at *
    clear nq
    go_wp2
    generalize IntKind.u64.wrap (IntKind.u64.wrap (IntKind.u64.wrap (sd * 6364136223846793005) + (x : Int)) + 1442695040888963407) = sv
    obtain ⟨W3, hW3⟩ : ∃ W3, W3 = ((w2.setCell ⟨b, 1, none⟩ (.int .i64 ((k : Int) + 1))).setCell ⟨b, 2, none⟩ (.int .u64 sv)) := ⟨_, rfl⟩
    have d0 : W3.cell? ⟨b, 0, none⟩ = some (.slice (some ⟨blk, off, none⟩) n c) := by rw [hW3, World.cell?_setCell_other _ _ _ _ (by simp), World.cell?_setCell_other _ _ _ _ (by simp)]; exact h0
    have d1 : W3.cell? ⟨b, 1, none⟩ = some (.int .i64 ((k : Int) + 1)) := by rw [hW3, World.cell?_setCell_other _ _ _ _ (by simp)]; exact World.cell?_setCell_same _ _ _ h1
    have d2 : W3.cell? ⟨b, 2, none⟩ = some (.int .u64 sv) := by rw [hW3]; exact World.cell?_setCell_same _ _ _ ((World.cell?_setCell_other _ _ _ _ (by simp)).trans h2)
    have e1 : W3.frozen? ⟨b, 1, none⟩ = false := by rw [hW3]; simp [f1]
    have e2 : W3.frozen? ⟨b, 2, none⟩ = false := by rw [hW3]; simp [f2]
    have hg3 : w0.grownBy W3 (some b) := by rw [hW3]; exact g2 (g2 hg (grown_setCell _ ⟨b, 1, none⟩ _)) (grown_setCell _ ⟨b, 2, none⟩ _)
    rw [← hW3]
    clear hW3 h0 h1 h2 f1 f2 hg
    go_quiet (fail)
    go_wp2
    go_ret
    refine ⟨x, hx, rfl, ⟨hle, d0, ?_, ⟨sv, d2⟩, e1, e2, hap⟩, gD hg3 _⟩
    rw [show ((k + 1 : Nat) : Int) = (k : Int) + 1 by omega]
    exact d1
  · have hge : n ≤ k := by omega
    have hlt2 : ¬ ((k : Int) + 1 ≤ n) := by omega
    go_enter Tryz.func50, Tryz.ntmps50
    go_wp2
    go_quiet (fail)
    replace hg := gD hg nq
    replace h0 : (w0.drewN nq).cell? _ = _ := h0
    replace h1 : (w0.drewN nq).cell? _ = _ := h1
    replace h2 : (w0.drewN nq).cell? _ = _ := h2
    replace f1 : (w0.drewN nq).frozen? _ = _ := f1
    replace f2 : (w0.drewN nq).frozen? _ = _ := f2
    generalize w0.drewN nq = w1 at *
    clear nq
    go_wp2
    have hsv := u64_range (IntKind.u64.wrap (IntKind.u64.wrap (sd * 6364136223846793005)) + 1442695040888963407)
    generalize IntKind.u64.wrap (IntKind.u64.wrap (IntKind.u64.wrap (sd * 6364136223846793005)) + 1442695040888963407) = sv at hsv ⊢
    obtain ⟨W3, hW3⟩ : ∃ W3, W3 = ((w1.setCell ⟨b, 1, none⟩ (.int .i64 ((k : Int) + 1))).setCell ⟨b, 2, none⟩ (.int .u64 sv)) := ⟨_, rfl⟩
    have d0 : W3.cell? ⟨b, 0, none⟩ = some (.slice a n c) := by rw [hW3, World.cell?_setCell_other _ _ _ _ (by simp), World.cell?_setCell_other _ _ _ _ (by simp)]; exact h0
    have d1 : W3.cell? ⟨b, 1, none⟩ = some (.int .i64 ((k : Int) + 1)) := by rw [hW3, World.cell?_setCell_other _ _ _ _ (by simp)]; exact World.cell?_setCell_same _ _ _ h1
    have d2 : W3.cell? ⟨b, 2, none⟩ = some (.int .u64 sv) := by rw [hW3]; exact World.cell?_setCell_same _ _ _ ((World.cell?_setCell_other _ _ _ _ (by simp)).trans h2)
    have e1 : W3.frozen? ⟨b, 1, none⟩ = false := by rw [hW3]; simp [f1]
    have e2 : W3.frozen? ⟨b, 2, none⟩ = false := by rw [hW3]; simp [f2]
    have hg3 : w0.grownBy W3 (some b) := by rw [hW3]; exact g2 (g2 hg (grown_setCell _ ⟨b, 1, none⟩ _)) (grown_setCell _ ⟨b, 2, none⟩ _)
    rw [← hW3]
    clear hW3 h0 h1 h2 f1 f2 hg
    go_quiet (fail)
    go_wp2
    obtain ⟨x, hx, he⟩ := low_byte sv hsv.1 hsv.2
    rw [he]
    go_ret
    refine ⟨x, hx, rfl, ⟨hle, d0, ?_, ⟨sv, d2⟩, e1, e2, hap⟩, gD hg3 _⟩
    rw [show ((k + 1 : Nat) : Int) = (k : Int) + 1 by omega]
    exact d1

theorem curB_grown {w w' : World} {b : Nat} {a : Option Addr} {n : Nat} (hB : ByS w a n) (hap : ∀ p, a = some p → p.block < b) (hb : b < w.heap.size) (hg : w.grownBy w' (some b)) : ByS w' a n :=
  ⟨hB.len, fun i hi => by
    obtain ⟨blk, off, x, ha, hx, hc⟩ := hB.at_ i hi
    have := hap _ ha
    exact ⟨blk, off, x, ha, hx, (by simp only [World.cell?]; rw [hg.block blk (by simp only at this; omega) (by simp only [ne_eq, Option.some.injEq] at this ⊢; omega)] : w'.cell? ⟨blk, off + i, none⟩ = w.cell? ⟨blk, off + i, none⟩).trans hc⟩⟩

set_option maxHeartbeats 1000000 in
theorem pick_any (b : Nat) (a : Option Addr) (n c k m : Nat) (w : World) (hm : 2 ≤ m) (hm2 : m ≤ 200) (hB : ByS w a n) (hC : CurB w b a n c k) (hk : k ≤ 100000000) :
    Calls Tryz.prog 23 #[.pointer (some ⟨b, 0, none⟩), .int .i64 m] w fun e w' => ∃ x : Nat, x < m ∧ e = .returned (.int .i64 x) ∧ CurB w' b a n c (k + 1) ∧ w.grownBy w' (some b) := by
  have d1 : decide ((m : Int) ≤ 1) = false := by simp; omega
  have d2 : decide ((m : Int) > 200) = false := by simp; omega
  go_enter Tryz.func23, Tryz.ntmps23
  go_wp2_with fail
  refine (next_any b a n c k _ hB hC hk).mono ?_
  rintro e w1 ⟨x, hx, rfl, hC1, hg1⟩
  go_wp2_with fail
  go_ret
  exact ⟨x % m, Nat.mod_lt _ (by omega), by rw [Int.natCast_emod]; rfl, hC1, hg1⟩

set_option maxHeartbeats 1000000 in
theorem one_any (b : Nat) (a : Option Addr) (n c k m : Nat) (w : World) (hm : 2 ≤ m) (hm2 : m ≤ 200) (hB : ByS w a n) (hC : CurB w b a n c k) (hk : k ≤ 100000000) :
    Calls Tryz.prog 17 #[.pointer (some ⟨b, 0, none⟩), .int .i64 m] w fun e w' => ∃ x : Bool, e = .returned (.bool x) ∧ CurB w' b a n c (k + 1) ∧ w.grownBy w' (some b) := by
  go_enter Tryz.func17, Tryz.ntmps17
  go_wp2_with fail
  refine (pick_any b a n c k m _ hm hm2 hB hC hk).mono ?_
  rintro e w1 ⟨x, hx, rfl, hC1, hg1⟩
  go_wp2_with fail
  go_ret
  exact ⟨_, rfl, hC1, hg1⟩

set_option maxHeartbeats 1000000 in
theorem of_any (b : Nat) (a : Option Addr) (n c k : Nat) (xs : List ByteArray) (base : Nat) (v : Value) (w : World) (hm : 2 ≤ xs.length) (hm2 : xs.length ≤ 200) (hbb : b < base) (hB : ByS w a n) (hC : CurB w b a n c k) (hk : k ≤ 100000000)
    (hrow : w.ownsRow base 9 1 v xs.length (xs.map Value.string)) :
    Calls Tryz.prog 75 #[.pointer (some ⟨b, 0, none⟩), v] w fun e w' => ∃ x ∈ xs, e = .returned (.string x) ∧ CurB w' b a n c (k + 1) ∧ w.grownBy w' (some b) := by
  rcases hrow.2 with ⟨_, h'⟩ | ⟨g, cap, cur, rfl, hg, _, hcap, _⟩
  · omega
  · go_enter Tryz.func75, Tryz.ntmps75
    go_wp2_with fail
    refine (pick_any b a n c k xs.length _ hm hm2 hB hC hk).mono ?_
    rintro e w1 ⟨x, hx, rfl, hC1, hg1⟩
    have hrow1 := hrow.kept hg1 (.inr (by simp [Value.ownBlock]; omega))
    have hc : w1.cell? ⟨g, x, none⟩ = some (.string xs[x]) := by
      rw [hrow1.cellAt x (by omega), List.getElem?_map, List.getElem?_eq_getElem hx]
      rfl
    go_wp2_with fail
    go_ret
    exact ⟨_, List.getElem_mem hx, rfl, hC1, hg1⟩

theorem CurB.lt {w : World} {b : Nat} {a : Option Addr} {n c k : Nat} (h : CurB w b a n c k) : b < w.heap.size := World.block_lt_of_cell? w ⟨b, 0, none⟩ h.c0
theorem CurB.below {w w' : World} {b : Nat} {a : Option Addr} {n c k : Nat} (h : CurB w b a n c k) (hB : Below w.heap.size w w') : CurB w' b a n c k := by
  have hlt := h.lt
  obtain ⟨sd, h2⟩ := h.c2
  exact ⟨h.le, (hB.cell (p := ⟨b, 0, none⟩) hlt).trans h.c0, (hB.cell (p := ⟨b, 1, none⟩) hlt).trans h.c1, ⟨sd, (hB.cell (p := ⟨b, 2, none⟩) hlt).trans h2⟩, (hB.frozen (p := ⟨b, 1, none⟩) hlt).trans h.f1, (hB.frozen (p := ⟨b, 2, none⟩) hlt).trans h.f2, h.apart⟩
theorem ByS.below {w w' : World} {a : Option Addr} {n : Nat} (h : ByS w a n) (hB : Below w.heap.size w w') : ByS w' a n :=
  ⟨h.len, fun i hi => by
    obtain ⟨blk, off, x, ha, hx, hc⟩ := h.at_ i hi
    exact ⟨blk, off, x, ha, hx, (hB.cell (p := ⟨blk, off + i, none⟩) (World.block_lt_of_cell? w ⟨blk, off + i, none⟩ hc)).trans hc⟩⟩
theorem row_new (w : World) (xs : List ByteArray) (h : xs.length ≤ maxLen) : (w.alloc (.cells (xs.map Value.string).toArray 9)).ownsRow w.heap.size 9 1 (.slice (some ⟨w.heap.size, 0, none⟩) xs.length xs.length) xs.length (xs.map Value.string) :=
  ⟨by simp, .inr ⟨w.heap.size, xs.length, (xs.map Value.string).toArray, rfl, Nat.le_refl _, by show (w.heap.push _)[w.heap.size]? = _; rw [Array.getElem?_push_size], Nat.le_refl _, h, by simp, by simp [List.take_of_length_le]⟩⟩

/-- One of the texts of a list that is made at once. -/
theorem ofNew_any (b : Nat) (a : Option Addr) (n c k : Nat) (xs : List ByteArray) (w : World) (hm : 2 ≤ xs.length) (hm2 : xs.length ≤ 200) (hB : ByS w a n) (hC : CurB w b a n c k) (hk : k ≤ 100000000) :
    Calls Tryz.prog 75 #[.pointer (some ⟨b, 0, none⟩), .slice (some ⟨w.heap.size, 0, none⟩) xs.length xs.length] (w.alloc (.cells (xs.map Value.string).toArray 9)) fun e w' => ∃ x ∈ xs, e = .returned (.string x) ∧ ByS w' a n ∧ CurB w' b a n c (k + 1) ∧ w.grownBy w' (some b) := by
  have hBl : Below w.heap.size w (w.alloc (.cells (xs.map Value.string).toArray 9)) := (Below.refl _ w).alloc (Nat.le_refl _) _
  have hC' := hC.below hBl
  refine (of_any b a n c k xs w.heap.size _ _ hm hm2 hC.lt (hB.below hBl) hC' hk (row_new w xs (by unfold maxLen; omega))).mono ?_
  rintro e w1 ⟨x, hx, rfl, hC1, hg1⟩
  exact ⟨x, hx, rfl, curB_grown (hB.below hBl) hC.apart hC'.lt hg1, hC1, g2 (gB (gS w _) hBl) hg1⟩

set_option maxHeartbeats 1000000 in
theorem word_any (b : Nat) (a : Option Addr) (n c k : Nat) (w : World) (hB : ByS w a n) (hC : CurB w b a n c k) (hk : k ≤ 100000000) :
    Calls Tryz.prog 101 #[.pointer (some ⟨b, 0, none⟩)] w fun e w' => ∃ x : ByteArray, x.size ≤ 3 ∧ e = .returned (.string x) ∧ ByS w' a n ∧ CurB w' b a n c (k + 1) ∧ w.grownBy w' (some b) := by
  go_enter Tryz.func101, Tryz.ntmps101
  go_wp2_with fail
  refine (ofNew_any b a n c k [⟨#[97]⟩, ⟨#[98]⟩, ⟨#[97, 112, 105]⟩, ⟨#[118, 49]⟩, ⟨#[119, 101, 98]⟩, ⟨#[120, 57]⟩] w (by decide) (by decide) hB hC hk).mono ?_
  rintro e w1 ⟨x, hx, rfl, hB1, hC1, hg1⟩
  have hz : x.size ≤ 3 := by
    simp only [List.mem_cons, List.mem_nil_iff, or_false] at hx
    rcases hx with rfl | rfl | rfl | rfl | rfl | rfl <;> decide
  go_wp2_with fail
  go_ret
  exact ⟨x, hz, rfl, hB1, hC1, hg1⟩

end Go.Proofs.YtoaeckcenobfcaaGreat

namespace Go.Proofs.YtoaeckcenobfcaaGreat
open Go.RowKit Go.Shelf

/-- A text that does not begin with an n. -/
def noN (x : ByteArray) : Prop := x.data.toList.head? ≠ some 110

theorem row_newI (w : World) (zs : List Int) (h : zs.length ≤ maxLen) : (w.alloc (.cells (zs.map (Value.int .i64)).toArray 3)).ownsRow w.heap.size 3 1 (.slice (some ⟨w.heap.size, 0, none⟩) zs.length zs.length) zs.length (zs.map (Value.int .i64)) :=
  ⟨by simp, .inr ⟨w.heap.size, zs.length, (zs.map (Value.int .i64)).toArray, rfl, Nat.le_refl _, by show (w.heap.push _)[w.heap.size]? = _; rw [Array.getElem?_push_size], Nat.le_refl _, h, by simp, by simp [List.take_of_length_le]⟩⟩

set_option maxHeartbeats 1000000 in
theorem among_any (b : Nat) (a : Option Addr) (n c k : Nat) (zs : List Int) (base : Nat) (v : Value) (w : World) (hm : 2 ≤ zs.length) (hm2 : zs.length ≤ 200) (hbb : b < base) (hB : ByS w a n) (hC : CurB w b a n c k) (hk : k ≤ 100000000)
    (hrow : w.ownsRow base 3 1 v zs.length (zs.map (Value.int .i64))) :
    Calls Tryz.prog 47 #[.pointer (some ⟨b, 0, none⟩), v] w fun e w' => ∃ z ∈ zs, e = .returned (.int .i64 z) ∧ CurB w' b a n c (k + 1) ∧ w.grownBy w' (some b) := by
  rcases hrow.2 with ⟨_, h'⟩ | ⟨g, cap, cur, rfl, hg, _, hcap, _⟩
  · omega
  · go_enter Tryz.func47, Tryz.ntmps47
    go_wp2_with fail
    refine (pick_any b a n c k zs.length _ hm hm2 hB hC hk).mono ?_
    rintro e w1 ⟨x, hx, rfl, hC1, hg1⟩
    have hrow1 := hrow.kept hg1 (.inr (by simp [Value.ownBlock]; omega))
    have hc : w1.cell? ⟨g, x, none⟩ = some (.int .i64 zs[x]) := by
      rw [hrow1.cellAt x (by omega), List.getElem?_map, List.getElem?_eq_getElem hx]
      rfl
    go_wp2_with fail
    go_ret
    exact ⟨_, List.getElem_mem hx, rfl, hC1, hg1⟩

/-- One of the numbers of a list that is made at once. -/
theorem amongNew_any (b : Nat) (a : Option Addr) (n c k : Nat) (zs : List Int) (w : World) (hm : 2 ≤ zs.length) (hm2 : zs.length ≤ 200) (hB : ByS w a n) (hC : CurB w b a n c k) (hk : k ≤ 100000000) :
    Calls Tryz.prog 47 #[.pointer (some ⟨b, 0, none⟩), .slice (some ⟨w.heap.size, 0, none⟩) zs.length zs.length] (w.alloc (.cells (zs.map (Value.int .i64)).toArray 3)) fun e w' => ∃ z ∈ zs, e = .returned (.int .i64 z) ∧ ByS w' a n ∧ CurB w' b a n c (k + 1) ∧ w.grownBy w' (some b) := by
  have hBl : Below w.heap.size w (w.alloc (.cells (zs.map (Value.int .i64)).toArray 3)) := (Below.refl _ w).alloc (Nat.le_refl _) _
  have hC' := hC.below hBl
  refine (among_any b a n c k zs w.heap.size _ _ hm hm2 hC.lt (hB.below hBl) hC' hk (row_newI w zs (by unfold maxLen; omega))).mono ?_
  rintro e w1 ⟨x, hx, rfl, hC1, hg1⟩
  exact ⟨x, hx, rfl, curB_grown (hB.below hBl) hC.apart hC'.lt hg1, hC1, g2 (gB (gS w _) hBl) hg1⟩

end Go.Proofs.YtoaeckcenobfcaaGreat

namespace Go.Proofs.YtoaeckcenobfcaaGreat
open Go.RowKit Go.Shelf

set_option maxHeartbeats 1000000 in
theorem drawNP_any (b : Nat) (a : Option Addr) (n c k : Nat) (w : World) (hB : ByS w a n) (hC : CurB w b a n c k) (hk : k ≤ 10000000) :
    Calls Tryz.prog 74 #[.pointer (some ⟨b, 0, none⟩)] w fun e w' => ∃ x : ByteArray, x.size ≤ 100 ∧ e = .returned (.string x) ∧ ByS w' a n ∧ (∃ k', k' ≤ k + 10 ∧ CurB w' b a n c k') ∧ w.grownBy w' (some b) := by
  go_enter Tryz.func74, Tryz.ntmps74
  go_wp2_with fail
  refine (one_any b a n c k 30 w (by omega) (by omega) hB hC (by omega)).mono ?_
  rintro e w1 ⟨z, rfl, hC1, hg1⟩
  have hB1 := curB_grown hB hC.apart hC.lt hg1
  cases z
  · go_wp2_with fail
    refine (ofNew_any b a n c (k + 1) [⟨#[112, 114, 111, 100]⟩, ⟨#[100, 101, 118]⟩, ⟨#[42]⟩] w1 (by decide) (by decide) hB1 hC1 (by omega)).mono ?_
    rintro e w2 ⟨x, hx, rfl, hB2, hC2, hg2⟩
    have hz : x.size ≤ 4 := by
      simp only [List.mem_cons, List.mem_nil_iff, or_false] at hx
      rcases hx with rfl | rfl | rfl <;> decide
    clear hx
    go_wp2_with fail
    refine (ofNew_any b a n c (k + 1 + 1) [⟨#[119, 101, 98]⟩, ⟨#[97, 112, 105]⟩, ⟨#[100, 98]⟩, ⟨#[42]⟩] w2 (by decide) (by decide) hB2 hC2 (by omega)).mono ?_
    rintro e w3 ⟨y, hy, rfl, hB3, hC3, hg3⟩
    have hy' : y.size ≤ 4 := by
      simp only [List.mem_cons, List.mem_nil_iff, or_false] at hy
      rcases hy with rfl | rfl | rfl | rfl <;> decide
    clear hy
    go_wp2_with fail
    go_ret
    exact ⟨_, by simp only [ByteArray.size_append]; show _ + 1 + _ ≤ 100; omega, rfl, hB3, ⟨_, by omega, hC3⟩, g2 (g2 hg1 hg2) hg3⟩
  · go_wp2_with fail
    refine (ofNew_any b a n c (k + 1) [⟨#[]⟩, ⟨#[42]⟩, ⟨#[42, 47, 42, 47, 42]⟩, ⟨#[42, 42, 47, 97]⟩] w1 (by decide) (by decide) hB1 hC1 (by omega)).mono ?_
    rintro e w2 ⟨x, hx, rfl, hB2, hC2, hg2⟩
    have hz : x.size ≤ 100 := by
      simp only [List.mem_cons, List.mem_nil_iff, or_false] at hx
      rcases hx with rfl | rfl | rfl | rfl <;> decide
    clear hx
    go_wp2_with fail
    go_ret
    exact ⟨x, hz, rfl, hB2, ⟨_, by omega, hC2⟩, g2 hg1 hg2⟩


end Go.Proofs.YtoaeckcenobfcaaGreat

namespace Go.Proofs.YtoaeckcenobfcaaGreat
open Go.RowKit Go.Shelf

set_option maxHeartbeats 2000000 in
theorem drawPP_any (b : Nat) (a : Option Addr) (n c k : Nat) (w : World) (hB : ByS w a n) (hC : CurB w b a n c k) (hk : k ≤ 10000000) :
    Calls Tryz.prog 76 #[.pointer (some ⟨b, 0, none⟩)] w fun e w' => ∃ x : ByteArray, x.size ≤ 100 ∧ e = .returned (.string x) ∧ ByS w' a n ∧ (∃ k', k' ≤ k + 20 ∧ CurB w' b a n c k') ∧ w.grownBy w' (some b) := by
  go_enter Tryz.func76, Tryz.ntmps76
  go_wp2_with fail
  refine (pick_any b a n c k 4 w (by omega) (by omega) hB hC (by omega)).mono ?_
  rintro e w9 ⟨m, hm, rfl, hC9, hg9⟩
  have hB9 := curB_grown hB hC.apart hC.lt hg9
  go_wp2_with fail
  go_loopw [3, 4] (fun sv nv wr => ∃ (t : ByteArray) (j q : Nat), sv = .string t ∧ nv = .int .i64 j ∧ j ≤ 4 ∧ t.size + j * 8 ≤ 32 ∧ q + 2 * j ≤ k + 9 ∧ ByS wr a n ∧ CurB wr b a n c q ∧ w.grownBy wr (some b)) (fun _ nv _ => (intOf nv).toNat)
  case atStart => exact ⟨⟨#[]⟩, m, k + 1, rfl, rfl, by omega, by show 0 + _ ≤ _; omega, by omega, hB9, hC9, hg9⟩
  case round =>
    obtain ⟨t, j, q, rfl, rfl, hj, ht, hq, hB1, hC1, hg1⟩ := hrel
    clear hB9 hC9 hg9 hB hC
    by_cases hjz : 0 < j
    · have hj0 : 0 < j := by omega
      have d0 : decide ((j : Int) > 0) = true := by simp; omega
      go_wp2_with fail
      refine (word_any b a n c q wr hB1 hC1 (by omega)).mono ?_
      rintro e w2 ⟨x, hx, rfl, hB2, hC2, hG2⟩
      have hg2 := g2 hg1 hG2
      clear hG2
      go_wp2_with fail
      refine (ofNew_any b a n c (q + 1) [x, ⟨#[42]⟩, ⟨#[97]⟩] w2 (by simp) (by simp) hB2 hC2 (by omega)).mono ?_
      rintro e w3 ⟨y, hy, rfl, hB3, hC3, hG3⟩
      have hg3 := g2 hg2 hG3
      have hy' : y.size ≤ 3 := by
        simp only [List.mem_cons, List.mem_nil_iff, or_false] at hy
        rcases hy with rfl | rfl | rfl <;> first | omega | decide
      clear hy hG3
      go_wp2
      go_roundw
      case rel =>
        refine ⟨_, j - 1, q + 1 + 1, rfl, by go_num, by omega, ?_, by omega, hB3, hC3, hg3⟩
        simp only [ByteArray.size_append]
        show _ + (1 + _) + _ ≤ 32
        omega
      case measure => simp [intOf]; omega
    · obtain rfl : j = 0 := by omega
      have d0 : decide (((0 : Nat) : Int) > 0) = false := by decide
      cases hx : t.toList.isEmpty
      · go_wp2_with fail
        refine (one_any b a n c q 3 wr (by omega) (by omega) hB1 hC1 (by omega)).mono ?_
        rintro e w2 ⟨u, rfl, hC2, hG2⟩
        have hB2 := curB_grown hB1 hC1.apart hC1.lt hG2
        have hg2 := g2 hg1 hG2
        clear hG2
        cases u
        · go_wp2_with fail
          refine (one_any b a n c (q + 1) 30 w2 (by omega) (by omega) hB2 hC2 (by omega)).mono ?_
          rintro e w3 ⟨z2, rfl, hC3, hG3⟩
          have hB3 := curB_grown hB2 hC2.apart hC2.lt hG3
          have hg3 := g2 hg2 hG3
          clear hG3
          cases z2
          · go_wp2
            go_ret
            exact ⟨_, by omega, rfl, hB3, ⟨_, by omega, hC3⟩, hg3⟩
          · go_wp2_with fail
            refine (ofNew_any b a n c ((q + 1) + 1) [⟨#[47]⟩, ⟨#[]⟩, ⟨#[47, 42, 42, 47, 97]⟩, ⟨#[47, 42, 42, 42]⟩, ⟨#[47, 97, 47, 98, 47, 97, 47, 98, 47, 97, 47, 98]⟩, ⟨#[47, 97, 47, 98, 47, 97, 47, 98, 47, 97, 47, 42, 42]⟩, ⟨#[47, 97, 47, 98, 47, 97, 47, 98, 47, 97, 47, 98, 47, 42, 42]⟩] w3 (by simp) (by simp) hB3 hC3 (by omega)).mono ?_
            rintro e w4 ⟨o, ho, rfl, hB4, hC4, hG4⟩
            have hg4 := g2 hg3 hG4
            have ho' : o.size ≤ 100 := by
              simp only [List.mem_cons, List.mem_nil_iff, or_false] at ho
              rcases ho with rfl | rfl | rfl | rfl | rfl | rfl | rfl <;> decide
            clear ho hG4
            go_wp2
            go_ret
            exact ⟨_, ho', rfl, hB4, ⟨_, by omega, hC4⟩, hg4⟩
        · go_wp2_with fail
          refine (ofNew_any b a n c (q + 1) [⟨#[47, 42, 42]⟩, ⟨#[47]⟩] w2 (by simp) (by simp) hB2 hC2 (by omega)).mono ?_
          rintro e w3 ⟨y, hy, rfl, hB3, hC3, hG3⟩
          have hg3 := g2 hg2 hG3
          have hy' : y.size ≤ 3 := by
            simp only [List.mem_cons, List.mem_nil_iff, or_false] at hy
            rcases hy with rfl | rfl <;> decide
          clear hy hG3
          go_wp2_with fail
          refine (one_any b a n c (q + 1 + 1) 30 w3 (by omega) (by omega) hB3 hC3 (by omega)).mono ?_
          rintro e w4 ⟨z3, rfl, hC4, hG4⟩
          have hB4 := curB_grown hB3 hC3.apart hC3.lt hG4
          have hg4 := g2 hg3 hG4
          clear hG4
          cases z3
          · go_wp2
            go_ret
            exact ⟨_, by simp only [ByteArray.size_append]; omega, rfl, hB4, ⟨_, by omega, hC4⟩, hg4⟩
          · go_wp2_with fail
            refine (ofNew_any b a n c ((q + 1 + 1) + 1) [⟨#[47]⟩, ⟨#[]⟩, ⟨#[47, 42, 42, 47, 97]⟩, ⟨#[47, 42, 42, 42]⟩, ⟨#[47, 97, 47, 98, 47, 97, 47, 98, 47, 97, 47, 98]⟩, ⟨#[47, 97, 47, 98, 47, 97, 47, 98, 47, 97, 47, 42, 42]⟩, ⟨#[47, 97, 47, 98, 47, 97, 47, 98, 47, 97, 47, 98, 47, 42, 42]⟩] w4 (by simp) (by simp) hB4 hC4 (by omega)).mono ?_
            rintro e w5 ⟨o, ho, rfl, hB5, hC5, hG5⟩
            have hg5 := g2 hg4 hG5
            have ho' : o.size ≤ 100 := by
              simp only [List.mem_cons, List.mem_nil_iff, or_false] at ho
              rcases ho with rfl | rfl | rfl | rfl | rfl | rfl | rfl <;> decide
            clear ho hG5
            go_wp2
            go_ret
            exact ⟨_, ho', rfl, hB5, ⟨_, by omega, hC5⟩, hg5⟩
      · go_wp2_with fail
        refine (ofNew_any b a n c q [⟨#[47, 42, 42]⟩, ⟨#[47]⟩] wr (by simp) (by simp) hB1 hC1 (by omega)).mono ?_
        rintro e w2 ⟨y, hy, rfl, hB2, hC2, hG2⟩
        have hg2 := g2 hg1 hG2
        have hy' : y.size ≤ 3 := by
          simp only [List.mem_cons, List.mem_nil_iff, or_false] at hy
          rcases hy with rfl | rfl <;> decide
        clear hy hG2
        go_wp2_with fail
        refine (one_any b a n c (q + 1) 30 w2 (by omega) (by omega) hB2 hC2 (by omega)).mono ?_
        rintro e w3 ⟨z2, rfl, hC3, hG3⟩
        have hB3 := curB_grown hB2 hC2.apart hC2.lt hG3
        have hg3 := g2 hg2 hG3
        clear hG3
        cases z2
        · go_wp2
          go_ret
          exact ⟨_, by simp only [ByteArray.size_append]; omega, rfl, hB3, ⟨_, by omega, hC3⟩, hg3⟩
        · go_wp2_with fail
          refine (ofNew_any b a n c ((q + 1) + 1) [⟨#[47]⟩, ⟨#[]⟩, ⟨#[47, 42, 42, 47, 97]⟩, ⟨#[47, 42, 42, 42]⟩, ⟨#[47, 97, 47, 98, 47, 97, 47, 98, 47, 97, 47, 98]⟩, ⟨#[47, 97, 47, 98, 47, 97, 47, 98, 47, 97, 47, 42, 42]⟩, ⟨#[47, 97, 47, 98, 47, 97, 47, 98, 47, 97, 47, 98, 47, 42, 42]⟩] w3 (by simp) (by simp) hB3 hC3 (by omega)).mono ?_
          rintro e w4 ⟨o, ho, rfl, hB4, hC4, hG4⟩
          have hg4 := g2 hg3 hG4
          have ho' : o.size ≤ 100 := by
            simp only [List.mem_cons, List.mem_nil_iff, or_false] at ho
            rcases ho with rfl | rfl | rfl | rfl | rfl | rfl | rfl <;> decide
          clear ho hG4
          go_wp2
          go_ret
          exact ⟨_, ho', rfl, hB4, ⟨_, by omega, hC4⟩, hg4⟩

end Go.Proofs.YtoaeckcenobfcaaGreat

namespace Go.Proofs.YtoaeckcenobfcaaGreat
open Go.RowKit Go.Shelf

theorem ret_int {k : IntKind} {a b : Int} (h : a = b) : Ending.returned (.int k a) = .returned (.int k b) := by rw [h]
/-- Behind a call that makes memory alone every old cell reads as it did. -/
theorem bcell {W w1 : World} (hb : Below W.heap.size W w1) : (∀ b o, b < W.heap.size → w1.cell? ⟨b, o, none⟩ = W.cell? ⟨b, o, none⟩) ∧ (∀ b o, b < W.heap.size → w1.frozen? ⟨b, o, none⟩ = W.frozen? ⟨b, o, none⟩) :=
  ⟨fun b o h => hb.cell (p := ⟨b, o, none⟩) h, fun b o h => hb.frozen (p := ⟨b, o, none⟩) h⟩
theorem below_one {w W w1 : World} (h : Below w.heap.size w W) (h1 : Below W.heap.size W w1) : Below w.heap.size w w1 := h.trans (h1.mono h.size)
theorem below_two {w W w1 w2 : World} (h : Below w.heap.size w W) (h1 : Below W.heap.size W w1) (h2 : Below w1.heap.size w1 w2) : Below w.heap.size w w2 := below_one (below_one h h1) h2
theorem ret_str {a b : ByteArray} (h : a = b) : Ending.returned (.string a) = .returned (.string b) := by rw [h]
theorem ret_strb {a b : ByteArray} {c d : Bool} (h : a = b) (h' : c = d) : Ending.returned (.tuple #[.string a, .bool c]) = .returned (.tuple #[.string b, .bool d]) := by rw [h, h']
theorem below_drew1 {W w1 : World} (h : Below W.heap.size W.drew w1) : Below W.heap.size W w1 := (Below.refl W.heap.size W).drew.trans h
theorem sum_mem {l : List Nat} {x : Nat} (h : x ∈ l) : x ≤ l.sum := by
  induction l with
  | nil => cases h
  | cons y l ih =>
    rw [List.sum_cons]
    rcases List.mem_cons.1 h with rfl | h
    · omega
    · have := ih h
      omega
/-- A row that the call owns is a slice: none, or one with an address. -/
theorem row_form {w : World} {base : Nat} {e : TypeId} {size n : Nat} {v : Value} {xs : List Value} (h : w.ownsRow base e size v n xs) : (v = .slice none 0 0 ∧ n = 0) ∨ ∃ g cap, v = .slice (some ⟨g, 0, none⟩) n cap ∧ base ≤ g ∧ n ≤ cap := by
  rcases h.2 with h | ⟨g, cap, cur, hv, hg, _, hn, _⟩
  · exact .inl h
  · exact .inr ⟨g, cap, hv, hg, hn⟩
theorem grown_below {w W w2 : World} {r : Option Nat} (h : w.grownBy W r) (hB : Below W.heap.size W w2) : w.grownBy w2 r :=
  ⟨hB.os.trans h.os, hB.tape.trans h.tape, hB.output.trans h.output, Nat.le_trans h.size hB.size, fun k hk hne => (hB.block k (Nat.lt_of_lt_of_le hk h.size)).trans (h.block k hk hne)⟩
theorem grown_two {w W w2 : World} {r : Option Nat} (h : w.grownBy W r) (h2 : W.grownBy w2 r) : w.grownBy w2 r :=
  ⟨h2.os.trans h.os, h2.tape.trans h.tape, h2.output.trans h.output, Nat.le_trans h.size h2.size, fun k hk hne => (h2.block k (Nat.lt_of_lt_of_le hk h.size) hne).trans (h.block k hk hne)⟩
theorem grown_self (w : World) (r : Option Nat) : w.grownBy w r := ⟨rfl, rfl, rfl, Nat.le_refl _, fun _ _ _ => rfl⟩
theorem kept_apart {w w' : World} {base : Nat} {e : TypeId} {size n : Nat} {v v2 : Value} {xs : List Value} (h : w.ownsRow base e size v n xs) (hg : w.grownBy w' v2.ownBlock) (ha : ∀ k, v.ownBlock = some k → v2.ownBlock = some k → False) : w'.ownsRow base e size v n xs := by
  cases hb : v.ownBlock with
  | none => exact h.kept hg (.inl hb)
  | some b => exact h.kept hg (.inr (fun e => ha b hb (e ▸ hb)))

end Go.Proofs.YtoaeckcenobfcaaGreat

namespace Go.Proofs.YtoaeckcenobfcaaGreat
open Go.RowKit Go.Shelf
attribute [local go_sem] Oper.semAt_some

theorem cell_one_at (w : World) (x : Value) (t : TypeId) (n : Nat) (hn : n = w.heap.size) : ∀ j u, [x][j]? = some u → (w.alloc (.cells #[x] t)).cell? ((⟨n, 0, none⟩ : Addr).add j) = some u := by
  subst hn
  exact cell_one_new w x t

set_option maxRecDepth 100000 in
set_option maxHeartbeats 1000000 in
theorem wordsOfPath_slash (s : ByteArray) (w : World) (h : slashB s = true) :
    Calls Tryz.prog 130 #[.string s] w fun e W' => ∃ v, e = .returned (.tuple #[v, .bool (ptBs s)]) ∧ W'.ownsRow w.heap.size 9 1 v (ptLs s).length ((ptLs s).map Value.string) ∧ Below w.heap.size w W' := by
  have h1 : (s.toList == [47]) = true := h
  have hb : ptBs s = true := by rw [ptBs_some (pathPs_slash h)]; rfl
  have HL := hid (ptLs_yes hb (pathPs_slash h))
  have HB := hid hb
  clear hb h
  refine (callsIn_wide (n := 3)).1 ?_
  refine callsIn_of_wp_marks Tryz.func130 rfl trivial ?_ rfl
  simp only [Tryz.ntmps130, List.size_toArray, List.length_cons, List.length_nil, Nat.reduceAdd, Nat.reduceSub, Array.replicate_succ, Array.replicate_zero, List.push_toArray, List.append_toArray, List.nil_append, List.cons_append]
  gi_wp2
  refine ⟨.tuple #[.slice none 0 0, .bool true], ?_, .slice none 0 0, by rw [HB.out], ?_, ((Below.refl _ w).alloc (Nat.le_refl _) _).alloc (by simp) _⟩
  · simp [results, Tryz.f130, go_sem]
  · rw [HL.out]; exact World.ownsRow_nil _ _ _ _

set_option maxRecDepth 100000 in
set_option maxHeartbeats 1000000 in
theorem wordsOfPath_empty (s : ByteArray) (w : World) (h0 : s.size = 0) :
    Calls Tryz.prog 130 #[.string s] w fun e W' => ∃ v, e = .returned (.tuple #[v, .bool (ptBs s)]) ∧ W'.ownsRow w.heap.size 9 1 v (ptLs s).length ((ptLs s).map Value.string) ∧ Below w.heap.size w W' := by
  have h2 : s.toList.isEmpty = true := by rw [size_toList]; simp [h0]
  have h : slashB s = false := by
    have : s.toList = [] := List.isEmpty_iff.1 h2
    unfold slashB
    rw [this]
    rfl
  have h1 : (s.toList == [47]) = false := h
  have hb := ptBs_none (pathPs_none h (headB_empty h0))
  have HL := hid (ptLs_no hb)
  have HB := hid hb
  clear hb h h0
  refine (callsIn_wide (n := 3)).1 ?_
  refine callsIn_of_wp_marks Tryz.func130 rfl trivial ?_ rfl
  simp only [Tryz.ntmps130, List.size_toArray, List.length_cons, List.length_nil, Nat.reduceAdd, Nat.reduceSub, Array.replicate_succ, Array.replicate_zero, List.push_toArray, List.append_toArray, List.nil_append, List.cons_append]
  gi_wp2
  refine ⟨.tuple #[.slice none 0 0, .bool false], ?_, .slice none 0 0, by rw [HB.out], ?_, ((Below.refl _ w).alloc (Nat.le_refl _) _).alloc (by simp) _⟩
  · simp [results, Tryz.f130, go_sem]
  · rw [HL.out]; exact World.ownsRow_nil _ _ _ _

set_option maxRecDepth 100000 in
set_option maxHeartbeats 1000000 in
theorem wordsOfPath_other (s : ByteArray) (w : World) (h : slashB s = false) (h0 : 0 < s.size) (hb : s[0] ≠ 47) :
    Calls Tryz.prog 130 #[.string s] w fun e W' => ∃ v, e = .returned (.tuple #[v, .bool (ptBs s)]) ∧ W'.ownsRow w.heap.size 9 1 v (ptLs s).length ((ptLs s).map Value.string) ∧ Below w.heap.size w W' := by
  have h1 : (s.toList == [47]) = false := h
  have h2 : s.toList.isEmpty = false := by rw [size_toList]; exact decide_eq_false (by omega)
  have h3 : ((s[0].toNat : Int) != 47) = true := by
    rw [bne_iff_ne]
    exact fun e => hb (byte_eq (b := 47) e)
  have hb := ptBs_none (pathPs_none h (headB_not h0 hb))
  have HL := hid (ptLs_no hb)
  have HB := hid hb
  clear hb h
  refine (callsIn_wide (n := 3)).1 ?_
  refine callsIn_of_wp_marks Tryz.func130 rfl trivial ?_ rfl
  simp only [Tryz.ntmps130, List.size_toArray, List.length_cons, List.length_nil, Nat.reduceAdd, Nat.reduceSub, Array.replicate_succ, Array.replicate_zero, List.push_toArray, List.append_toArray, List.nil_append, List.cons_append]
  gi_wp2
  refine ⟨.tuple #[.slice none 0 0, .bool false], ?_, .slice none 0 0, by rw [HB.out], ?_, ((Below.refl _ w).alloc (Nat.le_refl _) _).alloc (by simp) _⟩
  · simp [results, Tryz.f130, go_sem]
  · rw [HL.out]; exact World.ownsRow_nil _ _ _ _

set_option maxRecDepth 100000 in
set_option maxHeartbeats 2000000 in
theorem wordsOfPath_head (s : ByteArray) (w : World) (hs : s.size ≤ 1048576) (h : slashB s = false) (h0 : 0 < s.size) (hb : s[0] = 47) :
    Calls Tryz.prog 130 #[.string s] w fun e W' => ∃ v, e = .returned (.tuple #[v, .bool (ptBs s)]) ∧ W'.ownsRow w.heap.size 9 1 v (ptLs s).length ((ptLs s).map Value.string) ∧ Below w.heap.size w W' := by
  obtain ⟨i0, hi, hz0, hz1, hz2⟩ := info_parts infoStr
  have h1 : (s.toList == [47]) = false := h
  have h2 : s.toList.isEmpty = false := by rw [size_toList]; exact decide_eq_false (by omega)
  have h3 : ((s[0].toNat : Int) != 47) = false := by simp [hb]
  have HP := hid (pathPs_head h (headB_at h0 hb))
  have ht : (s.extract 1 s.size).size ≤ 1048576 := Nat.le_trans (rest_size s) hs
  clear h hb
  refine (callsIn_wide (n := 3)).1 ?_
  refine callsIn_of_wp_marks Tryz.func130 rfl trivial ?_ rfl
  simp only [Tryz.ntmps130, List.size_toArray, List.length_cons, List.length_nil, Nat.reduceAdd, Nat.reduceSub, Array.replicate_succ, Array.replicate_zero, List.push_toArray, List.append_toArray, List.nil_append, List.cons_append]
  gi_wp2_with (refine ⟨trivial, ?_⟩; gi_at_call 140; refine (pieces_in Fence.wide _ trivial rfl _ _).mono ?_; rintro e w' ⟨rfl, rfl⟩)
  have b0 := Boxed.new w 109 (.slice none 0 0)
  have b1 := Boxed.new (w.alloc (.cells #[.slice none 0 0] 109)) 4 (.bool false)
  have b2 := Boxed.new ((w.alloc (.cells #[.slice none 0 0] 109)).alloc (.cells #[.bool false] 4)) 109 (.slice none 0 0)
  have b3 := Boxed.new (((w.alloc (.cells #[.slice none 0 0] 109)).alloc (.cells #[.bool false] 4)).alloc (.cells #[.slice none 0 0] 109)) 4 (.bool false)
  have b4 := Boxed.new ((((w.alloc (.cells #[.slice none 0 0] 109)).alloc (.cells #[.bool false] 4)).alloc (.cells #[.slice none 0 0] 109)).alloc (.cells #[.bool false] 4)) 9 (.string (s.extract 1 s.size))
  simp only [World.size_alloc] at b1 b2 b3 b4
  have hB0 : Below w.heap.size w (((((w.alloc (.cells #[.slice none 0 0] 109)).alloc (.cells #[.bool false] 4)).alloc (.cells #[.slice none 0 0] 109)).alloc (.cells #[.bool false] 4)).alloc (.cells #[.string (s.extract 1 s.size)] 9)) := (((((Below.refl _ w).alloc (Nat.le_refl _) _).alloc (by simp) _).alloc (by simp; omega) _).alloc (by simp; omega) _).alloc (by simp; omega) _
  refine wpIn_rangeFunc_ownG rfl (by omega) (gf := 144) (lb := #[.pointer (some ⟨w.heap.size + 1 + 1 + 1 + 1, 0, none⟩)]) rfl trivial (enters_of Tryz.func144 (by kernel_rfl) rfl)
    (pieces_stops Fence.wide _ trivial rfl (by omega) (w.heap.size + 1 + 1 + 1 + 1) (s.extract 1 s.size) ht _ b4) keepsAt_t (fun W l o o' hl h _ _ => World.putObj_heap_other (by simp at hl; omega)) (Below.refl _ _) (fun _ => rfl)
    (fun pre W => (∃ v, Boxed W (w.heap.size + 1 + 1) 109 v ∧ W.ownsRow (w.heap.size + 1 + 1 + 1 + 1 + 1) 9 1 v pre.length (pre.map Value.string) ∧ True) ∧ (Boxed W (w.heap.size) 109 (.slice none 0 0) ∧ Boxed W (w.heap.size + 1) 4 (.bool false) ∧ Boxed W (w.heap.size + 1 + 1 + 1) 4 (.bool (endB pre)) ∧ Boxed W (w.heap.size + 1 + 1 + 1 + 1) 9 (.string (s.extract 1 s.size))) ∧ (ptSt pre = some (pre.length, endB pre)) ∧ Below w.heap.size w W)
    (fun c pre W => (c = .ret ∧ ptSt pre = none) ∧ (Boxed W (w.heap.size) 109 (.slice none 0 0) ∧ Boxed W (w.heap.size + 1) 4 (.bool false)) ∧ Below w.heap.size w W)
    (OwnFrom.and (Own.from (holdsRow_own (w.heap.size + 1 + 1 + 1 + 1 + 1) (w.heap.size + 1 + 1) 109 9 1 (fun pre : List ByteArray => pre.length) (fun pre => pre.map Value.string) (fun _ _ => True)) _) (OwnFrom.and (OwnFrom.and (Own.from (boxed_own _ _ (fun _ => _)) _) (OwnFrom.and (Own.from (boxed_own _ _ (fun _ => _)) _) (OwnFrom.and (Own.from (boxed_own _ _ (fun pre : List ByteArray => .bool (endB pre))) _) (Own.from (boxed_own _ _ (fun _ => _)) _)))) (OwnFrom.and (ownFrom_pure _ _) (ownFrom_below (Nat.le_refl _) (by simp; omega)))))
    (fun c => OwnFrom.and (ownFrom_pure _ _) (OwnFrom.and (OwnFrom.and (Own.from (boxed_own _ _ (fun _ => _)) _) (Own.from (boxed_own _ _ (fun _ => _)) _)) (ownFrom_below (Nat.le_refl _) (by simp; omega))))
    ⟨⟨_, (b2.alloc _).alloc _, World.ownsRow_nil _ _ _ _, trivial⟩, ⟨(((b0.alloc _).alloc _).alloc _).alloc _, ((b1.alloc _).alloc _).alloc _, b3.alloc _, b4⟩, ptSt_nil, hB0⟩
    (fun x => { tmps := #[.string s, undef, .pointer (some ⟨w.heap.size, 0, none⟩), .pointer (some ⟨w.heap.size + 1, 0, none⟩), .pointer (some ⟨w.heap.size + 1 + 1, 0, none⟩), .pointer (some ⟨w.heap.size + 1 + 1 + 1, 0, none⟩), .string x, .string s, .bool false, .string s, .bool false, .bool false, .string s, .int .u8 (s[0].toNat : Int), .bool false, .bool false, .string s, .string (s.extract 1 s.size), .func (.func 144) #[] #[.pointer (some ⟨w.heap.size + 1 + 1 + 1 + 1, 0, none⟩)], .string x, undef, undef, undef, undef, undef, undef, undef, undef, undef, undef, undef, undef, undef, undef, undef, undef, undef, undef, undef, undef], defers := [] }) ?assign ?body ?done ?stop
  case assign =>
    intro l x W K hK
    gi_wp2
    exact hK
  case body =>
    rintro l pre x W ⟨⟨v, hv, hrow, _⟩, ⟨r0, r1, re, rs⟩, hst, hB⟩ hlt
    obtain ⟨a, cap, rfl⟩ := ownsRow_len hrow
    have hle := pt_le hst
    have HST := hid hst
    have hcv := hv.cell
    have hc0 := r0.cell
    have hc1 := r1.cell
    have hce := re.cell
    have hf0 := r0.frozen
    have hf1 := r1.frozen
    have hfe := re.frozen
    have hsz := hB.size
    have hlt1 := rs.lt
    clear hst b0 b1 b2 b3 b4 hB0 h1 h2 h3
    cases he : endB pre
    · by_cases h6 : pre.length = 6
      · have e1 : ((pre.length : Int) == 6) = true := by simp; omega
        have HN := hid (pt_full x HST.out h6)
        clear h6
        gi_wp2
        exact ⟨((KeepsOthers.setCell _ _ _).trans (KeepsOthers.setCell _ _ _)).from _, ⟨rfl, HN.out⟩, ⟨(r0.set _).other (by omega) _, (r1.other (by omega) _).set _⟩, (hB.setCell (p := ⟨w.heap.size, 0, none⟩) (Nat.le_refl _) _).setCell (p := ⟨w.heap.size + 1, 0, none⟩) (by simp) _⟩
      · have e1 : ((pre.length : Int) == 6) = false := by simp; omega
        cases h2 : star2B x
        · have e2 : (x.toList == [42, 42]) = false := h2
          cases hx : wsB x
          · have HN := hid (pt_bad x HST.out h2 hx)
            clear h6 h2
            gi_wp2_with (refine ⟨trivial, ?_⟩; gi_at_call 141; refine (CallsIn.inRound l (callsIn_wide.2 (wordOrStar_any x _))).mono ?_; rintro e w' ⟨rfl, rfl⟩)
            exact ⟨(((KeepsOthers.setCell _ _ _).trans (KeepsOthers.setCell _ _ _)).trans (KeepsOthers.setCell _ _ _)).from _, ⟨rfl, HN.out⟩, ⟨((r0.other (by omega) _).set _).other (by omega) _, ((r1.other (by omega) _).other (by omega) _).set _⟩, ((hB.setCell (p := ⟨w.heap.size + 1 + 1 + 1, 0, none⟩) (by simp; omega) _).setCell (p := ⟨w.heap.size, 0, none⟩) (Nat.le_refl _) _).setCell (p := ⟨w.heap.size + 1, 0, none⟩) (by simp) _⟩
          · have HN := hid (pt_on x HST.out he h6 h2 hx)
            clear h6 h2
            have hv' := hv.other (B' := w.heap.size + 1 + 1 + 1) (by omega) (.bool false)
            have hrow' := hrow.kept (grownBy_setCell' W (w.heap.size + 1 + 1 + 1) (.bool false)) (.inr (ownsRow_low hrow (by omega)).symm)
            have hsz' : w.heap.size + 1 + 1 + 1 + 1 + 1 ≤ (W.setCell ⟨w.heap.size + 1 + 1 + 1, 0, none⟩ (.bool false)).heap.size := by simp; omega
            have HE := hid (endB_of HN.out)
            gi_wp2_with (first | (refine ⟨trivial, ?_⟩; gi_at_call 141; refine (CallsIn.inRound l (callsIn_wide.2 (wordOrStar_any x _))).mono ?_; rintro e w' ⟨rfl, rfl⟩) | (gi_at_builtin; refine wpListIn_append_own _ rfl _ _ 109 rfl (w.heap.size + 1 + 1 + 1 + 1 + 1) 9 i0 (.string ByteArray.empty) 1 16 Tryz.underlying109 hi hz0 hz1 hz2 rfl (by decide) _ _ _ rfl (hrow'.alloc _) ⟨_, 0, none⟩ 1 1 [.string x] rfl rfl (cell_one_at _ _ _ _ (by simp)) (by simp [Value.oneCell']) (by simp [maxLen]; omega) (by omega) (by simp; omega) ?_; intro v' w1 hown' hgrow _; obtain ⟨g', cap', rfl⟩ := ownsRow_succ hown'; obtain ⟨hv1, hv2, hr2, hk2, hb2, ho2⟩ := boxed_appended hv' (by omega) hsz' hrow' hown' hgrow; have hcv1 := hv1.cell; have hfv1 := hv1.frozen))
            refine ⟨((KeepsOthers.setCell _ _ _).trans hk2).from _, (ho2 _ (by omega) (by omega)).trans (Below.heap_setCell _ _ _ _ (by simp)), ⟨_, hv2, by simpa using hr2, trivial⟩, ⟨?_, ?_, ?_, ?_⟩, by rw [HE.out]; exact HN.out, (hB.setCell (p := ⟨w.heap.size + 1 + 1 + 1, 0, none⟩) (by simp; omega) _).trans (hb2.mono (by omega))⟩
            · exact (ho2 _ (by omega) (by omega)).trans (r0.other (by omega) _)
            · exact (ho2 _ (by omega) (by omega)).trans (r1.other (by omega) _)
            · rw [HE.out]; exact (ho2 _ (by omega) (by omega)).trans (re.set _)
            · exact (ho2 _ (by omega) (by omega)).trans (rs.other (by omega) _)
        · have e2 : (x.toList == [42, 42]) = true := h2
          have HN := hid (pt_end x HST.out he h6 h2)
          clear h6 h2
          have hv' := hv.other (B' := w.heap.size + 1 + 1 + 1) (by omega) (.bool true)
          have hrow' := hrow.kept (grownBy_setCell' W (w.heap.size + 1 + 1 + 1) (.bool true)) (.inr (ownsRow_low hrow (by omega)).symm)
          have hsz' : w.heap.size + 1 + 1 + 1 + 1 + 1 ≤ (W.setCell ⟨w.heap.size + 1 + 1 + 1, 0, none⟩ (.bool true)).heap.size := by simp; omega
          have HE := hid (endB_of HN.out)
          gi_wp2_with fail
          refine ⟨trivial, ?_⟩
          gi_wp2_with (gi_at_builtin; refine wpListIn_append_own _ rfl _ _ 109 rfl (w.heap.size + 1 + 1 + 1 + 1 + 1) 9 i0 (.string ByteArray.empty) 1 16 Tryz.underlying109 hi hz0 hz1 hz2 rfl (by decide) _ _ _ rfl (hrow'.alloc _) ⟨_, 0, none⟩ 1 1 [.string x] rfl rfl (cell_one_at _ _ _ _ (by simp)) (by simp [Value.oneCell']) (by simp [maxLen]; omega) (by omega) (by simp; omega) ?_; intro v' w1 hown' hgrow _; obtain ⟨g', cap', rfl⟩ := ownsRow_succ hown'; obtain ⟨hv1, hv2, hr2, hk2, hb2, ho2⟩ := boxed_appended hv' (by omega) hsz' hrow' hown' hgrow; have hcv1 := hv1.cell; have hfv1 := hv1.frozen)
          refine ⟨((KeepsOthers.setCell _ _ _).trans hk2).from _, (ho2 _ (by omega) (by omega)).trans (Below.heap_setCell _ _ _ _ (by simp)), ⟨_, hv2, by simpa using hr2, trivial⟩, ⟨?_, ?_, ?_, ?_⟩, by rw [HE.out]; exact HN.out, (hB.setCell (p := ⟨w.heap.size + 1 + 1 + 1, 0, none⟩) (by simp; omega) _).trans (hb2.mono (by omega))⟩
          · exact (ho2 _ (by omega) (by omega)).trans (r0.other (by omega) _)
          · exact (ho2 _ (by omega) (by omega)).trans (r1.other (by omega) _)
          · rw [HE.out]; exact (ho2 _ (by omega) (by omega)).trans (re.set _)
          · exact (ho2 _ (by omega) (by omega)).trans (rs.other (by omega) _)
    · have HN := hid (pt_ended x HST.out he)
      gi_wp2
      exact ⟨((KeepsOthers.setCell _ _ _).trans (KeepsOthers.setCell _ _ _)).from _, ⟨rfl, HN.out⟩, ⟨(r0.set _).other (by omega) _, (r1.other (by omega) _).set _⟩, (hB.setCell (p := ⟨w.heap.size, 0, none⟩) (Nat.le_refl _) _).setCell (p := ⟨w.heap.size + 1, 0, none⟩) (by simp) _⟩
  case done =>
    rintro D ys W hD hys ⟨⟨v, hv, hrow, _⟩, ⟨r0, r1, re, rs⟩, hst, hB⟩ hK
    subst hys
    obtain ⟨a, cap, rfl⟩ := ownsRow_len hrow
    have hn : ptBs s = true := by rw [ptBs_some HP.out]; exact ptB_some hst
    have HL := hid (ptLs_yes hn HP.out)
    have HN := hid hn
    have hcv := hv.cell
    have hc0 := r0.cell
    have hc1 := r1.cell
    have hf0 := r0.frozen
    have hf1 := r1.frozen
    clear hst hn b0 b1 b2 b3 b4 hB0 h1 h2 h3
    gi_wp2
    have hKX : ((W.setCell ⟨w.heap.size, 0, none⟩ (.slice a (split (s.extract 1 s.size) 47).length cap)).setCell ⟨w.heap.size + 1, 0, none⟩ (.bool true)).heap[D]? = some (.deferred (some [])) := (KeepsOthers.setCell _ _ _).same D _ ((KeepsOthers.setCell _ _ _).same D _ hK rfl) rfl
    have hc5 := cell_kept ((r0.set (.slice a (split (s.extract 1 s.size) 47).length cap)).other (B' := w.heap.size + 1) (by omega) (.bool true)).cell (grownBy_putObj' _ D (.deferred none)) (fun r e => by cases e; exact ⟨_, hKX, rfl⟩)
    have hc6 := cell_kept ((r1.other (B' := w.heap.size) (by omega) (.slice a (split (s.extract 1 s.size) 47).length cap)).set (.bool true)).cell (grownBy_putObj' _ D (.deferred none)) (fun r e => by cases e; exact ⟨_, hKX, rfl⟩)
    refine ⟨by simp, .inl ⟨_, _, rfl, run_takeDeferred hKX, ?_⟩⟩
    refine ⟨.tuple #[(.slice a (split (s.extract 1 s.size) 47).length cap), .bool true], ?_, (.slice a (split (s.extract 1 s.size) 47).length cap), by rw [HN.out], ?_, (((hB.setCell (p := ⟨w.heap.size, 0, none⟩) (Nat.le_refl _) _).setCell (p := ⟨w.heap.size + 1, 0, none⟩) (by simp) _).trans (belowK_b (w := w) (Nat.le_refl _) _ D _ _ (by simp at hD; omega) hKX rfl rfl))⟩
    · simp [results, Tryz.f130, go_sem, hc5, hc6]
    · rw [HL.out]; exact ownsRow_putObj (((ownsRow_base hrow (by omega)).kept (grownBy_setCell' _ _ _) (.inr (ownsRow_low hrow (by omega)).symm)).kept (grownBy_setCell' _ _ _) (.inr (ownsRow_low hrow (by omega)).symm)) _ hKX rfl
  case stop =>
    rintro D c pre W hD hpre ⟨⟨rfl, hst⟩, ⟨r0, r1⟩, hB⟩ hK
    have hn : ptBs s = false := by rw [ptBs_some HP.out]; exact ptB_none (ptSt_pre hpre hst)
    have HL := hid (ptLs_no hn)
    have HN := hid hn
    clear hst hn b0 b1 b2 b3 b4 hB0 h1 h2 h3
    gi_wp2
    have hKX : (W).heap[D]? = some (.deferred (some [])) := hK
    have hc5 := cell_kept (r0).cell (grownBy_putObj' _ D (.deferred none)) (fun r e => by cases e; exact ⟨_, hKX, rfl⟩)
    have hc6 := cell_kept (r1).cell (grownBy_putObj' _ D (.deferred none)) (fun r e => by cases e; exact ⟨_, hKX, rfl⟩)
    refine ⟨by simp, .inl ⟨_, _, rfl, run_takeDeferred hKX, ?_⟩⟩
    refine ⟨.tuple #[(.slice none 0 0), .bool false], ?_, (.slice none 0 0), by rw [HN.out], ?_, hB.trans (belowK_b (w := w) (Nat.le_refl _) W D _ _ (by simp at hD; omega) hKX rfl rfl)⟩
    · simp [results, Tryz.f130, go_sem, hc5, hc6]
    · rw [HL.out]; exact World.ownsRow_nil _ _ _ _

theorem wordsOfPath_any (s : ByteArray) (w : World) (hs : s.size ≤ 1048576) :
    Calls Tryz.prog 130 #[.string s] w fun e W' => ∃ v, e = .returned (.tuple #[v, .bool (ptBs s)]) ∧ W'.ownsRow w.heap.size 9 1 v (ptLs s).length ((ptLs s).map Value.string) ∧ Below w.heap.size w W' := by
  by_cases h : slashB s = true
  · exact wordsOfPath_slash s w h
  · have h' : slashB s = false := by simpa using h
    by_cases h0 : s.size = 0
    · exact wordsOfPath_empty s w h0
    · have h1 : 0 < s.size := by omega
      by_cases hb : s[0] = 47
      · exact wordsOfPath_head s w hs h' h1 hb
      · exact wordsOfPath_other s w h' h1 hb

end Go.Proofs.YtoaeckcenobfcaaGreat

namespace Go.Proofs.YtoaeckcenobfcaaGreat
open Go.RowKit Go.Shelf

/-- A row of texts, cell by cell. -/
theorem row_cell {w : World} {base g cap : Nat} {xs : List ByteArray} (hrow : w.ownsRow base 9 1 (.slice (some ⟨g, 0, none⟩) xs.length cap) xs.length (xs.map Value.string)) (k : Nat) (h : k < xs.length) : w.cell? ⟨g, k, none⟩ = some (.string xs[k]) := by
  rw [hrow.cellAt k (by omega)]
  simp [h]

theorem gnB_two (x y : ByteArray) : gnB [x, y] = (wordB x && wordB y) := by simp [gnB]
theorem gnB_no {l : List ByteArray} (h : ¬ l.length = 2) : gnB l = false := by simp [gnB, h]
theorem gnB_nm (l : List ByteArray) (h : nmB l = true) : gnB l = l.all wordB := by
  rw [nmB_eq] at h
  simp at h
  simp [gnB, h.1]
theorem gnB_not (l : List ByteArray) (h : nmB l = false) : gnB l = false := by
  rw [nmB_eq] at h
  cases e : gnB l with
  | false => rfl
  | true =>
    simp [gnB] at e
    have : l.all wsB = true := by
      rw [List.all_eq_true]
      intro x hx
      simp [wsB, e.2 x hx]
    rw [this] at h
    simp [e.1] at h
theorem two_of {l : List ByteArray} (h : l.length = 2) : ∃ x y, l = [x, y] := by
  match l, h with
  | [x, y], _ => exact ⟨x, y, rfl⟩

/-- A row of two texts. -/
theorem row_two {w : World} {base : Nat} {v : Value} {x y : ByteArray} (hrow : w.ownsRow base 9 1 v [x, y].length ([x, y].map Value.string)) : ∃ g cap, v = .slice (some ⟨g, 0, none⟩) 2 cap ∧ w.cell? ⟨g, 0, none⟩ = some (.string x) ∧ w.cell? ⟨g, 1, none⟩ = some (.string y) := by
  obtain ⟨g, cap, rfl⟩ := ownsRow_succ hrow
  exact ⟨g, cap, rfl, row_cell (xs := [x, y]) hrow 0 (by simp), row_cell (xs := [x, y]) hrow 1 (by simp)⟩

set_option maxHeartbeats 1000000 in
theorem implGoodNamePattern_any (s : ByteArray) (w : World) (hs : s.size ≤ 1048576) :
    Calls Tryz.prog 104 #[.string s] w fun e w' => e = .returned (.bool (nmB (split s 47))) ∧ Below w.heap.size w w' := by
  go_enter Tryz.func104, Tryz.ntmps104
  go_wp2_with (go_at_call 129; refine (wordsOfName_any s _ hs).mono ?_; rintro e w1 ⟨v, rfl, hrow, hB⟩)
  go_ret
  exact ⟨rfl, hB⟩

end Go.Proofs.YtoaeckcenobfcaaGreat

namespace Go.Proofs.YtoaeckcenobfcaaGreat
open Go.RowKit Go.Shelf

set_option maxHeartbeats 1000000 in
theorem l1Words_any (s : ByteArray) (w : World) (hs : s.size ≤ 1048576) :
    Calls Tryz.prog 108 #[.string s] w fun e W' => ∃ v, e = .returned (.tuple #[v, .bool (wOk s)]) ∧ W'.ownsRow w.heap.size 9 1 v (wL s).length ((wL s).map Value.string) ∧ Below w.heap.size w W' := by
  by_cases h : slashB s = true
  · have h1 : (s.toList == [47]) = true := h
    have HL := hid (wL_some (pathPs_slash h))
    have HO := hid (wOk_some (pathPs_slash h))
    clear h
    go_enter Tryz.func108, Tryz.ntmps108
    go_wp2
    go_ret2
    exact ⟨_, by rw [HO.out]; rfl, by rw [HL.out]; exact World.ownsRow_nil _ _ _ _, Below.refl _ _⟩
  · have h' : slashB s = false := by simpa using h
    have h1 : (s.toList == [47]) = false := h'
    clear h
    by_cases h0 : s.size = 0
    · have h2 : s.toList.isEmpty = true := by rw [size_toList]; simp [h0]
      have HL := hid (wL_none (pathPs_none h' (headB_empty h0)))
      have HO := hid (wOk_none (pathPs_none h' (headB_empty h0)))
      clear h' h0
      go_enter Tryz.func108, Tryz.ntmps108
      go_wp2
      go_ret2
      exact ⟨_, by rw [HO.out]; rfl, by rw [HL.out]; exact World.ownsRow_nil _ _ _ _, Below.refl _ _⟩
    · have h0' : 0 < s.size := by omega
      have h2 : s.toList.isEmpty = false := by rw [size_toList]; exact decide_eq_false (by omega)
      clear h0
      by_cases hb : s[0] = 47
      · have h3 : ((s[0].toNat : Int) != 47) = false := by simp [hb]
        have HL := hid (wL_some (pathPs_head h' (headB_at h0' hb)))
        have HO := hid (wOk_some (pathPs_head h' (headB_at h0' hb)))
        have ht : (s.extract 1 s.size).size ≤ 1048576 := Nat.le_trans (rest_size s) hs
        clear h' hb
        go_enter Tryz.func108, Tryz.ntmps108
        go_wp2_with (go_at_call 106; refine (l1Split_any _ 47 47 rfl _ ht).mono ?_; rintro e w1 ⟨v, rfl, hrow, hB⟩; obtain ⟨a, cap, rfl⟩ := ownsRow_len hrow)
        go_ret2
        exact ⟨_, ret_two (by rw [HO.out]; exact decide_eq_decide.2 (by omega)), by rw [HL.out]; exact hrow, hB⟩
      · have h3 : ((s[0].toNat : Int) != 47) = true := by
          rw [bne_iff_ne]
          exact fun e => hb (byte_eq (b := 47) e)
        have HL := hid (wL_none (pathPs_none h' (headB_not h0' hb)))
        have HO := hid (wOk_none (pathPs_none h' (headB_not h0' hb)))
        clear h' hb
        go_enter Tryz.func108, Tryz.ntmps108
        go_wp2
        go_ret2
        exact ⟨_, by rw [HO.out]; rfl, by rw [HL.out]; exact World.ownsRow_nil _ _ _ _, Below.refl _ _⟩

set_option maxHeartbeats 2000000 in
theorem specGoodPathPattern_any (s : ByteArray) (w : World) (hs : s.size ≤ 1048576) :
    Calls Tryz.prog 90 #[.string s] w fun e w' => e = .returned (.bool (ptBs s)) ∧ Below w.heap.size w w' := by
  have hl : (wL s).length ≤ 1048577 := Nat.le_trans (wL_len s) (by omega)
  go_enter Tryz.func90, Tryz.ntmps90
  go_wp2_with (go_at_call 108; refine (l1Words_any s _ hs).mono ?_; rintro e w1 ⟨v, rfl, hrow, hB⟩; obtain ⟨a, cap, rfl⟩ := ownsRow_len hrow)
  go_loop [4, 14] (fun ok i => ∃ k : Nat, k ≤ (wL s).length ∧ i = .int .i64 k ∧ ok = .bool (pgTo s k)) (fun _ i => (wL s).length - (intOf i).toNat)
  case atStart => exact ⟨0, Nat.zero_le _, rfl, by rw [pgTo_zero]⟩
  case round =>
    obtain ⟨k, hk, rfl, rfl⟩ := hrel
    by_cases hlt : k < (wL s).length
    · obtain ⟨g, rfl⟩ : ∃ g, a = some ⟨g, 0, none⟩ := by
        rcases hrow.2 with ⟨_, h0⟩ | ⟨g, _, _, hv, _⟩
        · omega
        · cases hv; exact ⟨g, rfl⟩
      have hc := row_cell hrow k hlt
      have hx : (wL s)[k].size ≤ 1048576 := Nat.le_trans (wL_mem (List.getElem_mem hlt)) hs
      cases hg : pgTo s k
      · have HN := hid (pgTo_no hg)
        go_wp2_with fail
        exact ⟨⟨k + 1, by omega, by go_num, by rw [HN.out]⟩, by simp [intOf]; omega⟩
      · have HN := hid (pgTo_yes hlt hg)
        generalize hX : (wL s)[k] = x at *
        clear hX
        cases b1 : wordB x
        · cases b2 : starB x
          · have e2 : (x.toList == [42]) = false := b2
            cases b3 : star2B x
            · have e3 : (x.toList == [42, 42]) = false := b3
              have HR := hid (show pgTo s (k + 1) = false by rw [HN.out, b1, b2, b3]; rfl)
              clear b2 b3
              go_wp2_with (go_at_call 107; refine (l1Word_any _ _ hx).mono ?_; rintro e w' ⟨rfl, rfl⟩)
              exact ⟨⟨k + 1, by omega, by go_num, by rw [HR.out]⟩, by simp [intOf]; omega⟩
            · have e3 : (x.toList == [42, 42]) = true := b3
              by_cases hL : k + 1 = (wL s).length
              · have e4 : ((k : Int) == ((wL s).length : Int) - 1) = true := by simp; omega
                have HR := hid (show pgTo s (k + 1) = true by rw [HN.out, b1, b2, b3]; simp [hL])
                clear b2 b3 hL
                go_wp2_with (go_at_call 107; refine (l1Word_any _ _ hx).mono ?_; rintro e w' ⟨rfl, rfl⟩)
                exact ⟨⟨k + 1, by omega, by go_num, by rw [HR.out]⟩, by simp [intOf]; omega⟩
              · have e4 : ((k : Int) == ((wL s).length : Int) - 1) = false := by simp; omega
                have HR := hid (show pgTo s (k + 1) = false by rw [HN.out, b1, b2, b3]; simp [hL])
                clear b2 b3 hL
                go_wp2_with (go_at_call 107; refine (l1Word_any _ _ hx).mono ?_; rintro e w' ⟨rfl, rfl⟩)
                exact ⟨⟨k + 1, by omega, by go_num, by rw [HR.out]⟩, by simp [intOf]; omega⟩
          · have e2 : (x.toList == [42]) = true := b2
            have HR := hid (show pgTo s (k + 1) = true by rw [HN.out, b1, b2]; rfl)
            clear b2
            go_wp2_with (go_at_call 107; refine (l1Word_any _ _ hx).mono ?_; rintro e w' ⟨rfl, rfl⟩)
            exact ⟨⟨k + 1, by omega, by go_num, by rw [HR.out]⟩, by simp [intOf]; omega⟩
        · have HR := hid (show pgTo s (k + 1) = true by rw [HN.out, b1]; rfl)
          go_wp2_with (go_at_call 107; refine (l1Word_any _ _ hx).mono ?_; rintro e w' ⟨rfl, rfl⟩)
          exact ⟨⟨k + 1, by omega, by go_num, by rw [HR.out]⟩, by simp [intOf]; omega⟩
    · obtain rfl : k = (wL s).length := by omega
      go_wp2
      go_ret
      exact ⟨ret_bool (pg_end s), hB⟩

theorem ptLs_len (s : ByteArray) : (ptLs s).length ≤ s.size + 1 := by
  unfold ptLs
  split
  · exact wL_len s
  · simp

set_option maxHeartbeats 1000000 in
theorem implGoodPathPattern_any (s : ByteArray) (w : World) (hs : s.size ≤ 1048576) :
    Calls Tryz.prog 105 #[.string s] w fun e w' => e = .returned (.bool (ptBs s)) ∧ Below w.heap.size w w' := by
  go_enter Tryz.func105, Tryz.ntmps105
  go_wp2_with (go_at_call 130; refine (wordsOfPath_any s _ hs).mono ?_; rintro e w1 ⟨v, rfl, hrow, hB⟩)
  go_ret
  exact ⟨rfl, hB⟩

end Go.Proofs.YtoaeckcenobfcaaGreat

namespace Go.Proofs.YtoaeckcenobfcaaGreat
open Go.RowKit Go.Shelf

set_option maxHeartbeats 2000000 in
theorem specGoodNamePattern_any (s : ByteArray) (w : World) (hs : s.size ≤ 1048576) :
    Calls Tryz.prog 89 #[.string s] w fun e w' => e = .returned (.bool (nmB (split s 47))) ∧ Below w.heap.size w w' := by
  by_cases h2 : (split s 47).length = 2
  · obtain ⟨x, y, he⟩ := two_of h2
    have hx : x.size ≤ 1048576 := Nat.le_trans (split_size s 47 x (by rw [he]; simp)) hs
    have hy : y.size ≤ 1048576 := Nat.le_trans (split_size s 47 y (by rw [he]; simp)) hs
    have HE : Hid (split s 47 = [x, y]) := he
    clear he h2
    cases bx : wordB x
    all_goals cases sx : starB x
    all_goals cases b2 : wordB y
    all_goals
      have hg : nmB (split s 47) = (wsB x && wsB y) := by rw [HE.out, nmB_two]
      have HG := hid hg
      clear hg
      have ex : (x.toList == [42]) = starB x := rfl
      rw [sx] at ex
      have SX := hid sx
      clear sx
      go_enter Tryz.func89, Tryz.ntmps89
      go_wp2_with (first | (go_at_call 106; refine (l1Split_any s 47 47 rfl _ hs).mono ?_; rintro e w1 ⟨v, rfl, hrow, hB⟩; rw [HE.out] at hrow; obtain ⟨g, cap, rfl, hc0, hc1⟩ := row_two hrow) | (go_at_call 107; refine (l1Word_any _ _ (by first | exact hx | exact hy)).mono ?_; rintro e w' ⟨rfl, rfl⟩))
      go_ret
      exact ⟨ret_bool (by rw [HG.out]; simp only [wsB, bx, SX.out, b2, Bool.or_false, Bool.or_true, Bool.and_true, Bool.true_and, Bool.false_and] <;> rfl), hB⟩
  · have HG := hid (nmB_len h2)
    have e1 : (((split s 47).length : Int) == 2) = false := by simp; omega
    clear h2
    go_enter Tryz.func89, Tryz.ntmps89
    go_wp2_with (go_at_call 106; refine (l1Split_any s 47 47 rfl _ hs).mono ?_; rintro e w1 ⟨v, rfl, hrow, hB⟩; obtain ⟨a, cap, rfl⟩ := ownsRow_len hrow)
    go_ret
    exact ⟨ret_bool HG.out.symm, hB⟩

end Go.Proofs.YtoaeckcenobfcaaGreat

namespace Go.Proofs.YtoaeckcenobfcaaGreat
open Go.RowKit Go.Shelf

/-- A rule, and a call. -/
structure Ru where
  deny : Bool
  who : ByteArray
  method : ByteArray
  path : ByteArray
structure Ca where
  who : ByteArray
  method : ByteArray
  path : ByteArray
def Ru.size (r : Ru) : Nat := r.who.size + r.method.size + r.path.size
def Ca.size (c : Ca) : Nat := c.who.size + c.method.size + c.path.size
abbrev Ru.val (r : Ru) : Value := .agg #[.bool r.deny, .string r.who, .string r.method, .string r.path]
abbrev Ca.val (c : Ca) : Value := .agg #[.string c.who, .string c.method, .string c.path]
/-- The methods. -/
def getB (s : ByteArray) : Bool := s.toList == [103, 101, 116]
def putB (s : ByteArray) : Bool := s.toList == [112, 117, 116]
def mthB (s : ByteArray) : Bool := getB s || putB s
def Ru.good (r : Ru) : Bool := (nmB (split r.who 47) && ptBs r.path) && (mthB r.method || starB r.method)
def Ca.good (c : Ca) : Bool := (gnB (split c.who 47) && gpB c.path) && mthB c.method


set_option maxHeartbeats 400000 in
theorem l2Method_any (s : ByteArray) (w : World) :
    Calls Tryz.prog 91 #[.string s] w fun e w' => e = .returned (.bool (mthB s)) ∧ w' = w := by
  cases b1 : getB s
  · have e1 : (s.toList == [103, 101, 116]) = false := b1
    have HR := hid (show mthB s = putB s by unfold mthB; rw [b1]; rfl)
    clear b1
    go_enter Tryz.func91, Tryz.ntmps91
    go_wp2
    go_ret
    exact ⟨ret_bool HR.out.symm, rfl⟩
  · have e1 : (s.toList == [103, 101, 116]) = true := b1
    have HR := hid (show mthB s = true by unfold mthB; rw [b1]; rfl)
    clear b1
    go_enter Tryz.func91, Tryz.ntmps91
    go_wp2
    go_ret
    exact ⟨ret_bool HR.out.symm, rfl⟩

/-- What is left of a budget. -/
def left3 (n : Int) (a b c : Nat) : Int := if (a : Int) + b + c ≤ n then n - a - b - c else -1

set_option maxHeartbeats 1000000 in
theorem specGoodRule_any (r : Ru) (w : World) (hs : r.who.size ≤ 1048576) (ht : r.path.size ≤ 1048576) :
    Calls Tryz.prog 49 #[r.val] w fun e w' => e = .returned (.bool r.good) ∧ Below w.heap.size w w' := by
  cases h1 : nmB (split r.who 47)
  · have HR := hid (show r.good = false by unfold Ru.good; rw [h1]; rfl)
    go_enter Tryz.func49, Tryz.ntmps49
    go_wp2_with (first | (go_at_call 89; refine (specGoodNamePattern_any _ _ hs).mono ?_; rintro e w1 ⟨rfl, hB1⟩; obtain ⟨hc1, hf1⟩ := bcell hB1; have hz : w.heap.size < w1.heap.size := (by have := hB1.size; simp at this; omega)) | (go_at_call 90; refine (specGoodPathPattern_any _ _ ht).mono ?_; rintro e w2 ⟨rfl, hB2⟩; obtain ⟨hc2, hf2⟩ := bcell hB2) | (go_at_call 91; refine (l2Method_any _ _).mono ?_; rintro e w3 ⟨rfl, rfl⟩))
    go_ret
    exact ⟨ret_bool HR.out.symm, ((Below.refl _ w).alloc (Nat.le_refl _) _).trans (hB1.mono (by simp))⟩
  · cases h2 : ptBs r.path
    · have HR := hid (show r.good = false by unfold Ru.good; rw [h1, h2]; rfl)
      go_enter Tryz.func49, Tryz.ntmps49
      go_wp2_with (first | (go_at_call 89; refine (specGoodNamePattern_any _ _ hs).mono ?_; rintro e w1 ⟨rfl, hB1⟩; obtain ⟨hc1, hf1⟩ := bcell hB1; have hz : w.heap.size < w1.heap.size := (by have := hB1.size; simp at this; omega)) | (go_at_call 90; refine (specGoodPathPattern_any _ _ ht).mono ?_; rintro e w2 ⟨rfl, hB2⟩; obtain ⟨hc2, hf2⟩ := bcell hB2) | (go_at_call 91; refine (l2Method_any _ _).mono ?_; rintro e w3 ⟨rfl, rfl⟩))
      go_ret
      exact ⟨ret_bool HR.out.symm, below_two ((Below.refl _ w).alloc (Nat.le_refl _) _) hB1 hB2⟩
    · cases h3 : mthB r.method
      · have HR := hid (show r.good = starB r.method by unfold Ru.good; rw [h1, h2, h3]; rfl)
        go_enter Tryz.func49, Tryz.ntmps49
        go_wp2_with (first | (go_at_call 89; refine (specGoodNamePattern_any _ _ hs).mono ?_; rintro e w1 ⟨rfl, hB1⟩; obtain ⟨hc1, hf1⟩ := bcell hB1; have hz : w.heap.size < w1.heap.size := (by have := hB1.size; simp at this; omega)) | (go_at_call 90; refine (specGoodPathPattern_any _ _ ht).mono ?_; rintro e w2 ⟨rfl, hB2⟩; obtain ⟨hc2, hf2⟩ := bcell hB2) | (go_at_call 91; refine (l2Method_any _ _).mono ?_; rintro e w3 ⟨rfl, rfl⟩))
        go_ret
        exact ⟨ret_bool HR.out.symm, below_two ((Below.refl _ w).alloc (Nat.le_refl _) _) hB1 hB2⟩
      · have HR := hid (show r.good = true by unfold Ru.good; rw [h1, h2, h3]; rfl)
        go_enter Tryz.func49, Tryz.ntmps49
        go_wp2_with (first | (go_at_call 89; refine (specGoodNamePattern_any _ _ hs).mono ?_; rintro e w1 ⟨rfl, hB1⟩; obtain ⟨hc1, hf1⟩ := bcell hB1; have hz : w.heap.size < w1.heap.size := (by have := hB1.size; simp at this; omega)) | (go_at_call 90; refine (specGoodPathPattern_any _ _ ht).mono ?_; rintro e w2 ⟨rfl, hB2⟩; obtain ⟨hc2, hf2⟩ := bcell hB2) | (go_at_call 91; refine (l2Method_any _ _).mono ?_; rintro e w3 ⟨rfl, rfl⟩))
        go_ret
        exact ⟨ret_bool HR.out.symm, below_two ((Below.refl _ w).alloc (Nat.le_refl _) _) hB1 hB2⟩

theorem specGoodRule_sz (r : Ru) (w : World) (hs : r.size ≤ 1048576) :
    Calls Tryz.prog 49 #[r.val] w fun e w' => e = .returned (.bool r.good) ∧ Below w.heap.size w w' :=
  specGoodRule_any r w (by unfold Ru.size at hs; omega) (by unfold Ru.size at hs; omega)

end Go.Proofs.YtoaeckcenobfcaaGreat

namespace Go.Proofs.YtoaeckcenobfcaaGreat
open Go.RowKit Go.Shelf

/-- The text of a rule. -/
def Ru.text (r : Ru) : ByteArray := (if r.deny = true then ⟨#[100, 101, 110, 121, 32]⟩ else ⟨#[97, 108, 108, 111, 119, 32]⟩) ++ r.who ++ ⟨#[32]⟩ ++ r.method ++ ⟨#[32]⟩ ++ r.path
def Ru.textG (r : Ru) : ByteArray := if r.good = true then r.text else ⟨#[]⟩

set_option maxHeartbeats 1000000 in
theorem l2Text_any (r : Ru) (w : World) (hs : r.size ≤ 1048576) :
    Calls Tryz.prog 48 #[r.val] w fun e w' => e = .returned (.string r.text) ∧ Below w.heap.size w w' := by
  unfold Ru.size at hs
  cases hd : r.deny
  · have HR := hid (show r.text = ⟨#[97, 108, 108, 111, 119, 32]⟩ ++ r.who ++ ⟨#[32]⟩ ++ r.method ++ ⟨#[32]⟩ ++ r.path by unfold Ru.text; rw [hd]; rfl)
    go_enter Tryz.func48, Tryz.ntmps48
    go_wp2
    go_ret
    exact ⟨ret_str HR.out.symm, (Below.refl _ w).alloc (Nat.le_refl _) _⟩
  · have HR := hid (show r.text = ⟨#[100, 101, 110, 121, 32]⟩ ++ r.who ++ ⟨#[32]⟩ ++ r.method ++ ⟨#[32]⟩ ++ r.path by unfold Ru.text; rw [hd]; rfl)
    go_enter Tryz.func48, Tryz.ntmps48
    go_wp2
    go_ret
    exact ⟨ret_str HR.out.symm, (Below.refl _ w).alloc (Nat.le_refl _) _⟩

end Go.Proofs.YtoaeckcenobfcaaGreat

namespace Go.Proofs.YtoaeckcenobfcaaGreat
open Go.RowKit Go.Shelf

theorem keep_cell {w w' : World} {b g : Nat} (hg : w.grownBy w' (some b)) (hlt : g < w.heap.size) (hne : g ≠ b) (o : Nat) : w'.cell? ⟨g, o, none⟩ = w.cell? ⟨g, o, none⟩ := by
  simp only [World.cell?]
  rw [hg.block g hlt (by simpa using hne)]
theorem keep_frozen {w w' : World} {b g : Nat} (hg : w.grownBy w' (some b)) (hlt : g < w.heap.size) (hne : g ≠ b) (o : Nat) : w'.frozen? ⟨g, o, none⟩ = w.frozen? ⟨g, o, none⟩ := by
  simp only [World.frozen?]
  rw [hg.block g hlt (by simpa using hne)]
theorem gN {w W : World} {r : Option Nat} (h : w.grownBy W r) {p : Addr} (hp : w.heap.size ≤ p.block) (u : Value) : w.grownBy (W.setCell p u) r :=
  ⟨h.os, h.tape, h.output, by simpa using h.size, fun k hk hne => (Below.heap_setCell _ _ _ k (fun e => by omega)).trans (h.block k hk hne)⟩
theorem CurB.other {w w' : World} {b g : Nat} {a : Option Addr} {n c k : Nat} (h : CurB w b a n c k) (hg : w.grownBy w' (some g)) (hne : b ≠ g) : CurB w' b a n c k := by
  have hlt := h.lt
  obtain ⟨sd, h2⟩ := h.c2
  exact ⟨h.le, (keep_cell hg hlt hne 0).trans h.c0, (keep_cell hg hlt hne 1).trans h.c1, ⟨sd, (keep_cell hg hlt hne 2).trans h2⟩, (keep_frozen hg hlt hne 1).trans h.f1, (keep_frozen hg hlt hne 2).trans h.f2, h.apart⟩
theorem ByS.other {w w' : World} {g : Nat} {a : Option Addr} {n : Nat} (h : ByS w a n) (hg : w.grownBy w' (some g)) (hne : ∀ p, a = some p → p.block < g) : ByS w' a n :=
  ⟨h.len, fun i hi => by
    obtain ⟨blk, off, x, ha, hx, hc⟩ := h.at_ i hi
    have := hne _ ha
    exact ⟨blk, off, x, ha, hx, (keep_cell (b := g) (g := blk) hg (World.block_lt_of_cell? w ⟨blk, off + i, none⟩ hc) (by simp only at this; omega) (off + i)).trans hc⟩⟩
theorem four_sets (w : World) (g : Nat) (u0 u1 u2 u3 : Value) : w.grownBy ((((w.setCell ⟨g, 0, none⟩ u0).setCell ⟨g, 1, none⟩ u1).setCell ⟨g, 2, none⟩ u2).setCell ⟨g, 3, none⟩ u3) (some g) :=
  g2 (g2 (g2 (grown_setCell w ⟨g, 0, none⟩ u0) (grown_setCell _ ⟨g, 1, none⟩ u1)) (grown_setCell _ ⟨g, 2, none⟩ u2)) (grown_setCell _ ⟨g, 3, none⟩ u3)
/-- A box of a rule: its cells, which may be written. -/
structure BoxR (w : World) (g : Nat) (d : Bool) (x y z : ByteArray) : Prop where
  lt : g < w.heap.size
  c0 : w.cell? ⟨g, 0, none⟩ = some (.bool d)
  c1 : w.cell? ⟨g, 1, none⟩ = some (.string x)
  c2 : w.cell? ⟨g, 2, none⟩ = some (.string y)
  c3 : w.cell? ⟨g, 3, none⟩ = some (.string z)
  f0 : w.frozen? ⟨g, 0, none⟩ = false
  f1 : w.frozen? ⟨g, 1, none⟩ = false
  f2 : w.frozen? ⟨g, 2, none⟩ = false
  f3 : w.frozen? ⟨g, 3, none⟩ = false
theorem BoxR.keep {w w' : World} {b g : Nat} {d : Bool} {x y z : ByteArray} (h : BoxR w g d x y z) (hg : w.grownBy w' (some b)) (hne : g ≠ b) : BoxR w' g d x y z :=
  ⟨Nat.lt_of_lt_of_le h.lt hg.size, (keep_cell hg h.lt hne 0).trans h.c0, (keep_cell hg h.lt hne 1).trans h.c1, (keep_cell hg h.lt hne 2).trans h.c2, (keep_cell hg h.lt hne 3).trans h.c3, (keep_frozen hg h.lt hne 0).trans h.f0, (keep_frozen hg h.lt hne 1).trans h.f1, (keep_frozen hg h.lt hne 2).trans h.f2, (keep_frozen hg h.lt hne 3).trans h.f3⟩
theorem BoxR.below {w w' : World} {g : Nat} {d : Bool} {x y z : ByteArray} (h : BoxR w g d x y z) (hB : Below w.heap.size w w') : BoxR w' g d x y z :=
  ⟨Nat.lt_of_lt_of_le h.lt hB.size, (hB.cell (p := ⟨g, 0, none⟩) h.lt).trans h.c0, (hB.cell (p := ⟨g, 1, none⟩) h.lt).trans h.c1, (hB.cell (p := ⟨g, 2, none⟩) h.lt).trans h.c2, (hB.cell (p := ⟨g, 3, none⟩) h.lt).trans h.c3, (hB.frozen (p := ⟨g, 0, none⟩) h.lt).trans h.f0, (hB.frozen (p := ⟨g, 1, none⟩) h.lt).trans h.f1, (hB.frozen (p := ⟨g, 2, none⟩) h.lt).trans h.f2, (hB.frozen (p := ⟨g, 3, none⟩) h.lt).trans h.f3⟩
theorem boxR_new (w : World) (t : TypeId) (d : Bool) (x y z : ByteArray) : BoxR (w.alloc (.cells #[.bool d, .string x, .string y, .string z] t)) w.heap.size d x y z :=
  ⟨by simp, by simp, by simp, by simp, by simp, by simp, by simp, by simp, by simp⟩

set_option maxHeartbeats 2000000 in
theorem drawRule_any (b : Nat) (a : Option Addr) (n c k : Nat) (w : World) (hB : ByS w a n) (hC : CurB w b a n c k) (hk : k ≤ 1000000) :
    Calls Tryz.prog 36 #[.pointer (some ⟨b, 0, none⟩)] w fun e w' => ∃ r : Ru, r.size ≤ 300 ∧ e = .returned r.val ∧ ByS w' a n ∧ (∃ k', k' ≤ k + 50 ∧ CurB w' b a n c k') ∧ w.grownBy w' (some b) := by
  have hbl := hC.lt
  have hBl : Below w.heap.size w (w.alloc (.cells #[.bool false, .string ⟨#[]⟩, .string ⟨#[]⟩, .string ⟨#[]⟩] 41)) := (Below.refl _ w).alloc (Nat.le_refl _) _
  have hX0 := boxR_new w 41 false ⟨#[]⟩ ⟨#[]⟩ ⟨#[]⟩
  have hC0 := hC.below hBl
  have hB0 := hB.below hBl
  have hG0 := gB (gS w (some b)) hBl
  go_enter Tryz.func36, Tryz.ntmps36
  go_wp2_with fail
  refine (one_any b a n c k 3 _ (by omega) (by omega) hB0 hC0 (by omega)).mono ?_
  rintro e w1 ⟨z, rfl, hC1, hg1⟩
  have hB1 := curB_grown hB0 hC0.apart hC0.lt hg1
  have hX1 := hX0.keep hg1 (by omega)
  have hG1 := g2 hG0 hg1
  clear hX0 hC0 hB0 hG0 hBl hg1 hB hC
  go_wp2_with fail
  refine (drawNP_any b a n c (k + 1) _ hB1 hC1 (by omega)).mono ?_
  rintro e w2 ⟨x, hx, rfl, hB2, ⟨k2, hk2, hC2⟩, hg2⟩
  have hX2 := hX1.keep hg2 (by omega)
  have hG2 := g2 hG1 hg2
  clear hX1 hC1 hB1 hG1 hg2
  go_wp2_with fail
  refine (ofNew_any b a n c k2 [⟨#[103, 101, 116]⟩, ⟨#[112, 117, 116]⟩, ⟨#[42]⟩] w2 (by decide) (by decide) hB2 hC2 (by omega)).mono ?_
  rintro e w3 ⟨m, hm, rfl, hB3, hC3, hg3⟩
  have hmz : m.size ≤ 4 := by
    simp only [List.mem_cons, List.mem_nil_iff, or_false] at hm
    rcases hm with rfl | rfl | rfl <;> decide
  have hX3 := hX2.keep hg3 (by omega)
  have hG3 := g2 hG2 hg3
  clear hm hX2 hC2 hB2 hG2 hg3
  go_wp2_with fail
  refine (drawPP_any b a n c (k2 + 1) _ hB3 hC3 (by omega)).mono ?_
  rintro e w4 ⟨p, hp, rfl, hB4, ⟨k4, hk4, hC4⟩, hg4⟩
  have hX4 := hX3.keep hg4 (by omega)
  have hG4 := g2 hG3 hg4
  clear hX3 hC3 hB3 hG3 hg4
  have hBl : Below w4.heap.size w4 (w4.alloc (.cells #[.bool z, .string x, .string m, .string p] 41)) := (Below.refl _ w4).alloc (Nat.le_refl _) _
  have hY5 := boxR_new w4 41 z x m p
  have hX5 := hX4.below hBl
  have hG5 := gB hG4 hBl
  have hC5 := hC4.below hBl
  have hB5 := hB4.below hBl
  have hlt4 := hX4.lt
  have hblt4 := hC4.lt
  clear hX4 hC4 hB4 hG4 hBl
  go_wp2_with fail
  refine (one_any b a n c k4 40 _ (by omega) (by omega) hB5 hC5 (by omega)).mono ?_
  rintro e w6 ⟨y, rfl, hC6, hg6⟩
  have hB6 := curB_grown hB5 hC5.apart hC5.lt hg6
  have hX6 := hX5.keep hg6 (by omega)
  have hY6 := hY5.keep hg6 (by omega)
  have hG6 := g2 hG5 hg6
  clear hX5 hY5 hC5 hB5 hG5 hg6
  have hne : w.heap.size ≠ w4.heap.size := by omega
  have hne' : w4.heap.size ≠ w.heap.size := by omega
  cases y
  · obtain ⟨_, x0, x1, x2, x3, xf0, xf1, xf2, xf3⟩ := hX6
    obtain ⟨_, y0, y1, y2, y3, _, _, _, _⟩ := hY6
    go_wp2
    exact bodyPost_ret (v := Ru.val ⟨z, x, m, p⟩) (by simp [results, Tryz.results36, go_sem, *]) rfl ⟨⟨z, x, m, p⟩, by unfold Ru.size; simp only; omega, rfl, hB6.other (four_sets _ _ _ _ _ _) (fun q hq => Nat.lt_trans (hC6.apart q hq) hbl), ⟨k4 + 1, by omega, hC6.other (four_sets _ _ _ _ _ _) (by omega)⟩, gN (gN (gN (gN hG6 (Nat.le_refl _) _) (Nat.le_refl _) _) (Nat.le_refl _) _) (Nat.le_refl _) _⟩
  · go_wp2_with fail
    refine (ofNew_any b a n c (k4 + 1) [⟨#[]⟩, ⟨#[112, 111, 115, 116]⟩] w6 (by decide) (by decide) hB6 hC6 (by omega)).mono ?_
    rintro e w7 ⟨m', hm', rfl, hB7, hC7, hg7⟩
    have hmz' : m'.size ≤ 4 := by
      simp only [List.mem_cons, List.mem_nil_iff, or_false] at hm'
      rcases hm' with rfl | rfl <;> decide
    have hX7 := hX6.keep hg7 (by omega)
    have hY7 := hY6.keep hg7 (by omega)
    have hG7 := g2 hG6 hg7
    clear hm' hX6 hY6 hC6 hB6 hG6 hg7
    obtain ⟨_, x0, x1, x2, x3, xf0, xf1, xf2, xf3⟩ := hX7
    obtain ⟨_, y0, y1, y2, y3, yf0, yf1, yf2, yf3⟩ := hY7
    go_wp2
    exact bodyPost_ret (v := Ru.val ⟨z, x, m', p⟩) (by simp [results, Tryz.results36, go_sem, *]) rfl ⟨⟨z, x, m', p⟩, by unfold Ru.size; simp only; omega, rfl, (hB7.other (grown_setCell _ ⟨w4.heap.size, 2, none⟩ _) (fun q hq => Nat.lt_trans (hC7.apart q hq) hblt4)).other (four_sets _ _ _ _ _ _) (fun q hq => Nat.lt_trans (hC7.apart q hq) hbl), ⟨k4 + 1 + 1, by omega, (hC7.other (grown_setCell _ ⟨w4.heap.size, 2, none⟩ _) (by simp only; omega)).other (four_sets _ _ _ _ _ _) (by omega)⟩, gN (gN (gN (gN (gN hG7 (by simp only; omega) _) (Nat.le_refl _) _) (Nat.le_refl _) _) (Nat.le_refl _) _) (Nat.le_refl _) _⟩

end Go.Proofs.YtoaeckcenobfcaaGreat

namespace Go.Proofs.YtoaeckcenobfcaaGreat
open Go.ChangeShapes Go.WideShapes Go.ChangeAt Go.RowKit Go.Joins Go.Deep

/-- Its texts are no longer than a text may be. -/
def Ru.fits (r : Ru) : Prop := r.who.size ≤ maxLen ∧ r.method.size ≤ maxLen ∧ r.path.size ≤ maxLen
def Ca.fits (r : Ca) : Prop := r.who.size ≤ maxLen ∧ r.method.size ≤ maxLen ∧ r.path.size ≤ maxLen

end Go.Proofs.YtoaeckcenobfcaaGreat

namespace Go.Proofs.YtoaeckcenobfcaaGreat
open Go.RowKit Go.Shelf

/-- A rule lies in memory. -/
def RuAt (w : World) (b o : Nat) (r : Ru) : Prop := w.cell? ⟨b, o, none⟩ = some (.bool r.deny) ∧ w.cell? ⟨b, o + 1, none⟩ = some (.string r.who) ∧ w.cell? ⟨b, o + 2, none⟩ = some (.string r.method) ∧ w.cell? ⟨b, o + 3, none⟩ = some (.string r.path)
/-- A slice reads as this list of rules. -/
def RuS (w : World) (v : Value) (rs : List Ru) : Prop :=
  (∃ a cap, v = .slice a 0 cap ∧ rs = []) ∨
  ∃ b off cap, v = .slice (some ⟨b, off, none⟩) rs.length cap ∧ b < w.heap.size ∧ rs.length ≤ cap ∧ ∀ k (h : k < rs.length), RuAt w b (off + k * 4) rs[k]
theorem RuAt.below {w w' : World} {b o : Nat} {r : Ru} (h : RuAt w b o r) (hb : b < w.heap.size) (hB : Below w.heap.size w w') : RuAt w' b o r :=
  ⟨(hB.cell (p := ⟨b, o, none⟩) hb).trans h.1, (hB.cell (p := ⟨b, o + 1, none⟩) hb).trans h.2.1, (hB.cell (p := ⟨b, o + 2, none⟩) hb).trans h.2.2.1, (hB.cell (p := ⟨b, o + 3, none⟩) hb).trans h.2.2.2⟩
theorem RuS.below {w w' : World} {v : Value} {rs : List Ru} (h : RuS w v rs) (hB : Below w.heap.size w w') : RuS w' v rs := by
  rcases h with h | ⟨b, off, cap, hv, hb, hl, hc⟩
  · exact .inl h
  · exact .inr ⟨b, off, cap, hv, Nat.lt_of_lt_of_le hb hB.size, hl, fun k hk => (hc k hk).below hb hB⟩
theorem RuS.len {w : World} {v : Value} {rs : List Ru} (h : RuS w v rs) : ∃ a cap, v = .slice a rs.length cap := by
  rcases h with ⟨a, cap, hv, rfl⟩ | ⟨b, off, cap, hv, _⟩
  · exact ⟨a, cap, hv⟩
  · exact ⟨_, cap, hv⟩
theorem RuS.at {w : World} {a : Option Addr} {n cap : Nat} {rs : List Ru} (h : RuS w (.slice a n cap) rs) {k : Nat} (hk : k < rs.length) : ∃ b off, a = some ⟨b, off, none⟩ ∧ b < w.heap.size ∧ n ≤ cap ∧ RuAt w b (off + k * 4) rs[k] := by
  rcases h with ⟨_, _, _, rfl⟩ | ⟨b, off, cap, hv, hb, hl, hc⟩
  · simp at hk
  · cases hv
    exact ⟨b, off, rfl, hb, hl, hc k hk⟩

def szTo (rs : List Ru) (k : Nat) : Nat := ((rs.take k).map Ru.size).sum
def szAll (rs : List Ru) : Nat := rs.length + szTo rs rs.length
theorem szTo_zero (rs : List Ru) : szTo rs 0 = 0 := by simp [szTo]
theorem szTo_succ {rs : List Ru} {k : Nat} (h : k < rs.length) : szTo rs (k + 1) = szTo rs k + rs[k].size := by
  unfold szTo
  rw [List.take_succ_eq_append_getElem h, List.map_append, List.sum_append]
  simp
theorem szTo_le (rs : List Ru) (k : Nat) : szTo rs k ≤ szTo rs rs.length := by
  unfold szTo
  rw [List.take_length]
  conv => rhs; rw [← List.take_append_drop k rs, List.map_append, List.sum_append]
  omega
theorem sz_mem {rs : List Ru} {r : Ru} (h : r ∈ rs) : r.size ≤ szTo rs rs.length := by
  unfold szTo
  rw [List.take_length]
  exact sum_mem (List.mem_map.2 ⟨r, h, rfl⟩)
/-- What is left of a budget behind a list. -/
def leftS (n : Int) (rs : List Ru) : Int := if (szAll rs : Int) ≤ n then n - szAll rs else -1

abbrev Ru.cells (r : Ru) : List Value := [.bool r.deny, .string r.who, .string r.method, .string r.path]
theorem flat_len (rs : List Ru) : (rs.flatMap Ru.cells).length = rs.length * 4 := by
  induction rs with
  | nil => rfl
  | cons r rs ih => rw [List.flatMap_cons, List.length_append, ih]; simp; omega
theorem flat_at (rs : List Ru) : ∀ (k j : Nat) (h : k < rs.length), j < 4 → (rs.flatMap Ru.cells)[k * 4 + j]? = rs[k].cells[j]? := by
  induction rs with
  | nil => intro k j h; simp at h
  | cons r rs ih =>
    intro k j h hj
    rw [List.flatMap_cons]
    cases k with
    | zero => rw [List.getElem?_append_left (by simp; omega)]; simp
    | succ k =>
      rw [List.getElem?_append_right (by simp; omega)]
      have := ih k j (by simpa using h) hj
      rw [show (k + 1) * 4 + j - r.cells.length = k * 4 + j by simp; omega]
      simpa using this
/-- A slice of rules of one's own reads as its list. -/
theorem RuS.own {w : World} {base : Nat} {v : Value} {rs : List Ru} (h : w.ownsRow base 41 4 v rs.length (rs.flatMap Ru.cells)) : RuS w v rs := by
  rcases h.2 with ⟨rfl, h0⟩ | ⟨g, cap, cur, rfl, hg, hb, hle, _⟩
  · exact .inl ⟨none, 0, rfl, List.eq_nil_of_length_eq_zero h0⟩
  · refine .inr ⟨g, 0, cap, rfl, (Array.getElem?_eq_some_iff.1 hb).1, hle, fun k hk => ?_⟩
    have hc : ∀ j, j < 4 → w.cell? ⟨g, k * 4 + j, none⟩ = rs[k].cells[j]? := fun j hj => by rw [h.cellAt (k * 4 + j) (by omega), flat_at rs k j hk hj]
    have h0 := hc 0 (by omega)
    have h1 := hc 1 (by omega)
    have h2 := hc 2 (by omega)
    have h3 := hc 3 (by omega)
    simp only [Nat.add_zero, List.getElem?_cons_zero, List.getElem?_cons_succ] at h0 h1 h2 h3
    exact ⟨by rw [Nat.zero_add]; exact h0, by rw [Nat.zero_add]; exact h1, by rw [Nat.zero_add]; exact h2, by rw [Nat.zero_add]; exact h3⟩
theorem take_set4 {α : Type} (xs : List α) (k : Nat) (a b c d : α) (h : k * 4 + 4 ≤ xs.length) : ((((xs.set (k * 4) a).set (k * 4 + 1) b).set (k * 4 + 2) c).set (k * 4 + 3) d).take ((k + 1) * 4) = xs.take (k * 4) ++ [a, b, c, d] := by
  apply List.ext_getElem?
  intro i
  rw [List.getElem?_take]
  by_cases h1 : i < k * 4
  · rw [if_pos (by omega), List.getElem?_append_left (by rw [List.length_take]; omega), List.getElem?_take, if_pos h1]
    rw [List.getElem?_set_ne (by omega), List.getElem?_set_ne (by omega), List.getElem?_set_ne (by omega), List.getElem?_set_ne (by omega)]
  · by_cases h2 : i < (k + 1) * 4
    · rw [if_pos h2, List.getElem?_append_right (by rw [List.length_take]; omega)]
      have hl : (xs.take (k * 4)).length = k * 4 := by rw [List.length_take]; omega
      rw [hl]
      obtain h | h | h | h : i = k * 4 ∨ i = k * 4 + 1 ∨ i = k * 4 + 2 ∨ i = k * 4 + 3 := by omega
      all_goals subst h
      · rw [List.getElem?_set_ne (by omega), List.getElem?_set_ne (by omega), List.getElem?_set_ne (by omega), List.getElem?_set_self (by omega)]
        simp
      · rw [List.getElem?_set_ne (by omega), List.getElem?_set_ne (by omega), List.getElem?_set_self (by simp; omega)]
        simp
      · rw [List.getElem?_set_ne (by omega), List.getElem?_set_self (by simp; omega)]
        simp
      · rw [List.getElem?_set_self (by simp; omega)]
        simp
    · rw [if_neg h2, List.getElem?_eq_none (by rw [List.length_append, List.length_take]; simp; omega)]
theorem infoRule : (Tryz.prog.info? 41).map (fun i => (i.zero, i.size, i.bytes)) = some (some (.agg #[.bool false, .string ByteArray.empty, .string ByteArray.empty, .string ByteArray.empty]), 4, 56) := by kernel_rfl

end Go.Proofs.YtoaeckcenobfcaaGreat

namespace Go.Proofs.YtoaeckcenobfcaaGreat
open Go.RowKit Go.Shelf

theorem cell_lt {w : World} {g o : Nat} {v : Value} (h : w.cell? ⟨g, o, none⟩ = some v) : g < w.heap.size := by
  simp only [World.cell?] at h
  by_cases hl : g < w.heap.size
  · exact hl
  · rw [Array.getElem?_eq_none (by omega)] at h
    cases h
def eqB (x y : ByteArray) : Bool := x.toList == y.toList
/-- The piece x stands for y. -/
def stB (x y : ByteArray) : Bool := starB x || eqB x y
def mnB (l m : List ByteArray) : Bool := match l, m with
  | [x, y], [u, v] => stB x u && stB y v
  | _, _ => false

end Go.Proofs.YtoaeckcenobfcaaGreat

namespace Go.Proofs.YtoaeckcenobfcaaGreat
open Go.RowKit Go.Shelf

def Ru.same (r s : Ru) : Bool := ((r.deny == s.deny && eqB r.who s.who) && eqB r.method s.method) && eqB r.path s.path
theorem Ru.same_refl (r : Ru) : r.same r = true := by simp [Ru.same, eqB]


def sameTo (rs ss : List Ru) (k : Nat) : Bool := ((rs.zip ss).take k).all (fun q => q.1.same q.2)
def sameS (rs ss : List Ru) : Bool := decide (rs.length = ss.length) && (rs.zip ss).all (fun q => q.1.same q.2)
theorem sameTo_zero (rs ss : List Ru) : sameTo rs ss 0 = true := by simp [sameTo]
theorem sameTo_succ {rs ss : List Ru} {k : Nat} (h : k < rs.length) (h' : k < ss.length) : sameTo rs ss (k + 1) = (sameTo rs ss k && rs[k].same ss[k]) := by
  unfold sameTo
  rw [List.take_succ_eq_append_getElem (by rw [List.length_zip]; omega), List.all_append]
  simp
theorem same_bad {rs ss : List Ru} {k : Nat} (hb : sameTo rs ss (k + 1) = false) : sameS rs ss = false := by
  unfold sameTo at hb
  rw [List.all_eq_false] at hb
  obtain ⟨x, hx, hn⟩ := hb
  unfold sameS
  rw [Bool.and_eq_false_iff]
  exact .inr (List.all_eq_false.2 ⟨x, List.mem_of_mem_take hx, hn⟩)
theorem same_end {rs ss : List Ru} (h : rs.length = ss.length) : sameTo rs ss rs.length = sameS rs ss := by
  unfold sameTo sameS
  rw [List.take_of_length_le (by rw [List.length_zip]; omega), decide_eq_true h, Bool.true_and]
theorem sameS_refl (rs : List Ru) : sameS rs rs = true := by
  unfold sameS
  rw [decide_eq_true rfl, Bool.true_and, List.all_eq_true]
  intro x hx
  have := List.of_mem_zip hx
  obtain ⟨i, hi, he⟩ := List.getElem_of_mem hx
  rw [List.getElem_zip] at he
  rw [← he]
  exact Ru.same_refl _

end Go.Proofs.YtoaeckcenobfcaaGreat

namespace Go.Proofs.YtoaeckcenobfcaaGreat
open Go.RowKit Go.Shelf

/-- The decimal digits of a number, none of 0. -/
def digT (n : Nat) : ByteArray := if _h : n = 0 then ⟨#[]⟩ else digT (n / 10) ++ ⟨#[UInt8.ofNat (48 + n % 10)]⟩
termination_by n
decreasing_by omega
theorem digT_zero : digT 0 = ⟨#[]⟩ := by rw [digT]; rfl
theorem digT_pos {n : Nat} (h : 0 < n) : digT n = digT (n / 10) ++ ⟨#[UInt8.ofNat (48 + n % 10)]⟩ := by
  rw [digT, dif_neg (by omega)]
theorem digT_size (n : Nat) : (digT n).size ≤ n := by
  induction n using Nat.strongRecOn with
  | ind n ih =>
    by_cases h : n = 0
    · subst h
      rw [digT_zero]
      exact Nat.zero_le _
    · rw [digT_pos (by omega), ByteArray.size_append]
      have := ih (n / 10) (by omega)
      have h1 : (⟨#[UInt8.ofNat (48 + n % 10)]⟩ : ByteArray).size = 1 := rfl
      omega
theorem app_nil (x : ByteArray) : x ++ ⟨#[]⟩ = x := by
  apply ByteArray.ext
  simp [ByteArray.data_append]
def mkT (n : Nat) : ByteArray := if n = 0 then ⟨#[109, 48]⟩ else ⟨#[109]⟩ ++ digT n

theorem digit_conv (w : World) (m : Nat) : (convert 22 9 (.slice (some ⟨w.heap.size, 0, none⟩) 1 1)).run Tryz.prog (w.alloc (.cells #[.int .u8 (48 + (m : Int) % 10)] 5)) = .ok (.string ⟨#[UInt8.ofNat (48 + m % 10)]⟩) (w.alloc (.cells #[.int .u8 (48 + (m : Int) % 10)] 5)) := by
  refine run_convert_bytes_back (P := Tryz.prog) _ 22 9 5 ⟨w.heap.size, 0, none⟩ 1 [UInt8.ofNat (48 + m % 10)] Tryz.underlying22 Tryz.underlying5 Tryz.underlying9 ?_
  intro j hj
  match j, hj with
  | 0, _ =>
    simp [Addr.add]
    omega

end Go.Proofs.YtoaeckcenobfcaaGreat

namespace Go.Proofs.YtoaeckcenobfcaaGreat
open Go.RowKit Go.Shelf

/-- The rule that is laid at i, from the number k on. -/
def mkR (k i : Nat) : Ru := ⟨((k + 4 * i : Nat) : Int) % 3 == 0, mkT (k + 4 * i + 1), mkT (k + 4 * i + 2), mkT (k + 4 * i + 3)⟩
def mkL (k n : Nat) : List Ru := (List.range n).map (mkR k)
theorem mkL_len (k n : Nat) : (mkL k n).length = n := by simp [mkL]
theorem mkL_succ (k n : Nat) : mkL k (n + 1) = mkL k n ++ [mkR k n] := by
  unfold mkL
  rw [List.range_succ, List.map_append]
  rfl
theorem mkL_at {k n i : Nat} (h : i < (mkL k n).length) : (mkL k n)[i] = mkR k i := by simp [mkL]



end Go.Proofs.YtoaeckcenobfcaaGreat
