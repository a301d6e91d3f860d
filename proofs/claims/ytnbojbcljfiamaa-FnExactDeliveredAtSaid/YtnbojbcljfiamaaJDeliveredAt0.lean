/-
  Links and lists of links in memory: how those that come in are read, and what the laws measure.
-/
import Derived.RangeFuncNested
import Derived.RangeFuncBound
import Derived.RangeFuncCalls
import Derived.RangeFuncLeaves
import Derived.RangeFuncBox
import Derived.Shelf.Abstract
import Derived.Shelf.RegionOpen
import Derived.WalkKit
import Derived.OwnWalkIn
import Derived.TacticsInMore
import Derived.LoopNIn
import Derived.LoopIn
import Derived.Maps.AppendAt
import Derived.WalkSpells
import Derived.Outline
import Derived.Test.YtnbojbcljfiamaaProg
import Derived.Laws.Strings
import Derived.Deep.QuietTactic
import Derived.BigQuiet
import Derived.Deep.RegionWith
import Derived.WalkSmall
import Derived.ProofKit
import Derived.OpenShut
import Derived.Lib.SmallJoins
import Derived.Deep.Slices
import Derived.Deep.RegionHeld3
import Derived.Lib.Bytealg
import Derived.Lib.IndexBytes
import Derived.Lib.SplitLaws
import Derived.Lib.CountLaws
import Derived.Lib.ItoaNum
import Derived.Lib.ItoaLen
import Derived.Lib.AtoiTie
namespace Go.Proofs.Ytnbojbcljfiamaa

/-- A letter a-z or a digit. -/
def wordCh (c : UInt8) : Bool := decide ((97 ≤ (c.toNat : Int) ∧ (c.toNat : Int) ≤ 122) ∨ (48 ≤ (c.toNat : Int) ∧ (c.toNat : Int) ≤ 57))
theorem wordCh_yes {c : UInt8} (h : (97 ≤ (c.toNat : Int) ∧ (c.toNat : Int) ≤ 122) ∨ (48 ≤ (c.toNat : Int) ∧ (c.toNat : Int) ≤ 57)) : wordCh c = true := decide_eq_true h
theorem wordCh_no {c : UInt8} (h : ¬ ((97 ≤ (c.toNat : Int) ∧ (c.toNat : Int) ≤ 122) ∨ (48 ≤ (c.toNat : Int) ∧ (c.toNat : Int) ≤ 57))) : wordCh c = false := decide_eq_false h

/-- The first k bytes are letters or digits. -/
def wordTo (s : ByteArray) (k : Nat) : Bool := (s.data.toList.take k).all wordCh
theorem wordTo_zero (s : ByteArray) : wordTo s 0 = true := by simp [wordTo]
theorem wordTo_succ (s : ByteArray) (k : Nat) (h : k < s.size) : wordTo s (k + 1) = (wordTo s k && wordCh s[k]) := by
  unfold wordTo
  rw [List.take_succ_eq_append_getElem (by simpa using h), List.all_append]
  simp
  rfl
theorem wordTo_mono (s : ByteArray) (k : Nat) (h : wordTo s k = false) : ∀ m, k ≤ m → wordTo s m = false := by
  intro m hm
  unfold wordTo at *
  obtain ⟨d, rfl⟩ := Nat.exists_eq_add_of_le hm
  rw [List.take_add, List.all_append, h]
  rfl

/-- A word: 1 to 8 letters or digits. -/
def wordB (s : ByteArray) : Bool := wordTo s s.size && decide (1 ≤ s.size ∧ s.size ≤ 8)
theorem wordB_bad (s : ByteArray) (k : Nat) (hk : k < s.size) (hc : wordCh s[k] = false) : wordB s = false := by
  have h1 : wordTo s (k + 1) = false := by rw [wordTo_succ s k hk, hc, Bool.and_false]
  unfold wordB
  rw [wordTo_mono s (k + 1) h1 s.size (by omega)]
  rfl
theorem wordB_end (s : ByteArray) (h : wordTo s s.size = true) : wordB s = decide (1 ≤ s.size ∧ s.size ≤ 8) := by
  unfold wordB
  rw [h]
  rfl
theorem wordB_len (s : ByteArray) (h : ¬ (1 ≤ s.size ∧ s.size ≤ 8)) : wordB s = false := by
  unfold wordB
  rw [decide_eq_false h, Bool.and_false]

/-- A text cut at the byte b, i bytes of it looked at: the pieces that are over, and where the next one begins. -/
def spP (s : ByteArray) (b : UInt8) : Nat → List ByteArray × Nat
  | 0 => ([], 0)
  | i + 1 => if i = s.size ∨ s.data.toList[i]? = some b then ((spP s b i).1 ++ [s.extract (spP s b i).2 i], i + 1) else spP s b i
def spL (s : ByteArray) (b : UInt8) (i : Nat) : List ByteArray := (spP s b i).1
def spA (s : ByteArray) (b : UInt8) (i : Nat) : Nat := (spP s b i).2
/-- A text cut at the byte b. -/
def split (s : ByteArray) (b : UInt8) : List ByteArray := spL s b (s.size + 1)

theorem spL_zero (s : ByteArray) (b : UInt8) : spL s b 0 = [] := rfl
theorem spA_zero (s : ByteArray) (b : UInt8) : spA s b 0 = 0 := rfl
theorem spA_le (s : ByteArray) (b : UInt8) : ∀ i, spA s b i ≤ i
  | 0 => Nat.le_refl _
  | i + 1 => by
    have ih := spA_le s b i
    unfold spA at *
    unfold spP
    split
    · exact Nat.le_refl _
    · omega
theorem spL_len (s : ByteArray) (b : UInt8) : ∀ i, (spL s b i).length ≤ i
  | 0 => Nat.le_refl _
  | i + 1 => by
    have ih := spL_len s b i
    unfold spL at *
    unfold spP
    split
    · simp; exact ih
    · omega
theorem at_some (s : ByteArray) (b : UInt8) (i : Nat) (h : i < s.size) : s.data.toList[i]? = some b ↔ s[i] = b := by
  rw [List.getElem?_eq_getElem (by simpa using h)]
  simp
  rfl
theorem spL_hit (s : ByteArray) (b : UInt8) (i : Nat) (h : i < s.size) (hb : s[i] = b) : spL s b (i + 1) = spL s b i ++ [s.extract (spA s b i) i] := by
  unfold spL spA
  rw [spP, if_pos (.inr ((at_some s b i h).2 hb))]
theorem spA_hit (s : ByteArray) (b : UInt8) (i : Nat) (h : i < s.size) (hb : s[i] = b) : spA s b (i + 1) = i + 1 := by
  unfold spA
  rw [spP, if_pos (.inr ((at_some s b i h).2 hb))]
theorem spL_end (s : ByteArray) (b : UInt8) : spL s b (s.size + 1) = spL s b s.size ++ [s.extract (spA s b s.size) s.size] := by
  unfold spL spA
  rw [spP, if_pos (.inl rfl)]
theorem spA_end (s : ByteArray) (b : UInt8) : spA s b (s.size + 1) = s.size + 1 := by
  unfold spA
  rw [spP, if_pos (.inl rfl)]
theorem sp_miss (s : ByteArray) (b : UInt8) (i : Nat) (h : i < s.size) (hb : s[i] ≠ b) : spP s b (i + 1) = spP s b i := by
  rw [spP, if_neg]
  rintro (e | e)
  · omega
  · exact hb ((at_some s b i h).1 e)
theorem spL_miss (s : ByteArray) (b : UInt8) (i : Nat) (h : i < s.size) (hb : s[i] ≠ b) : spL s b (i + 1) = spL s b i := by
  unfold spL
  rw [sp_miss s b i h hb]
theorem spA_miss (s : ByteArray) (b : UInt8) (i : Nat) (h : i < s.size) (hb : s[i] ≠ b) : spA s b (i + 1) = spA s b i := by
  unfold spA
  rw [sp_miss s b i h hb]
theorem split_end (s : ByteArray) (b : UInt8) : split s b = spL s b s.size ++ [s.extract (spA s b s.size) s.size] := spL_end s b
theorem split_len (s : ByteArray) (b : UInt8) : (split s b).length ≤ s.size + 1 := spL_len s b _
theorem spL_pre (s : ByteArray) (b : UInt8) : ∀ i, spL s b i <+: spL s b (i + 1) := by
  intro i
  unfold spL
  rw [spP]
  split
  · exact List.prefix_append _ _
  · exact List.prefix_refl _
theorem spL_le (s : ByteArray) (b : UInt8) (i d : Nat) : spL s b i <+: spL s b (i + d) := by
  induction d with
  | zero => exact List.prefix_refl _
  | succ d ih => exact ih.trans (spL_pre s b (i + d))
theorem spL_split (s : ByteArray) (b : UInt8) (i : Nat) (h : i ≤ s.size + 1) : spL s b i <+: split s b := by
  obtain ⟨d, hd⟩ := Nat.exists_eq_add_of_le h
  unfold split
  rw [hd]
  exact spL_le s b i d
theorem spL_lt_hit (s : ByteArray) (b : UInt8) (k : Nat) (h : k < s.size) (hb : s[k] = b) : (spL s b k).length < (split s b).length := by
  have h1 := (spL_split s b (k + 1) (by omega)).length_le
  rw [spL_hit s b k h hb] at h1
  simp at h1
  omega
theorem spL_lt_end (s : ByteArray) (b : UInt8) : (spL s b s.size).length < (split s b).length := by
  rw [split_end]
  simp
theorem spP_size (s : ByteArray) (b : UInt8) : ∀ i, ∀ x ∈ (spP s b i).1, x.size ≤ s.size
  | 0 => by intro x hx; cases hx
  | i + 1 => by
    intro x hx
    rw [spP] at hx
    split at hx
    · rw [List.mem_append] at hx
      rcases hx with hx | hx
      · exact spP_size s b i x hx
      · rw [List.mem_singleton] at hx
        subst hx
        rw [ByteArray.size_extract]
        omega
    · exact spP_size s b i x hx
theorem split_size (s : ByteArray) (b : UInt8) : ∀ x ∈ split s b, x.size ≤ s.size := spP_size s b _
theorem byte_eq {a b : UInt8} (h : (a.toNat : Int) = (b.toNat : Int)) : a = b := UInt8.toNat_inj.1 (by omega)
theorem byte_ne {a b : UInt8} (h : ¬ (a.toNat : Int) = (b.toNat : Int)) : a ≠ b := fun e => h (by rw [e])

end Go.Proofs.Ytnbojbcljfiamaa

namespace Go.Proofs.Ytnbojbcljfiamaa
open Go.RowKit Go.Shelf

theorem hid {p : Prop} (h : p) : Hid p := h
theorem ret_two {v : Value} {a b : Bool} (h : a = b) : Ending.returned (.tuple #[v, .bool a]) = .returned (.tuple #[v, .bool b]) := by rw [h]
theorem ret_bool {a b : Bool} (h : a = b) : Ending.returned (.bool a) = .returned (.bool b) := by rw [h]

/-- Behind an append onto a row of one's own nothing has turned that lay below n₀. -/
theorem below_appended {n₀ : Nat} {W w1 : World} {e : TypeId} {size k : Nat} {v : Value} {xs : List Value} {tmp : Obj} (hn₀ : n₀ ≤ W.heap.size)
    (hrow : W.ownsRow n₀ e size v k xs) (hgrow : (W.alloc tmp).grownBy w1 v.ownBlock) : Below n₀ W w1 := by
  refine ((Below.refl n₀ W).alloc hn₀ tmp).grown hgrow (by simp; omega) fun j ej => ?_
  rcases hrow.2 with ⟨rfl, _⟩ | ⟨g, cap, cur, rfl, hb, _, _⟩
  · simp [Value.ownBlock] at ej
  · obtain rfl : g = j := by simpa [Value.ownBlock] using ej
    exact hb

theorem infoStr : (Try.prog.info? 9).map (fun i => (i.zero, i.size, i.bytes)) = some (some (.string ByteArray.empty), 1, 16) := by kernel_rfl

end Go.Proofs.Ytnbojbcljfiamaa

namespace Go.Proofs.Ytnbojbcljfiamaa

def starB (x : ByteArray) : Bool := x.toList == [42]
def star2B (x : ByteArray) : Bool := x.toList == [42, 42]
/-- A word or a star. -/
def wsB (x : ByteArray) : Bool := starB x || wordB x

theorem toList_data (x : ByteArray) : x.toList = x.data.toList := ByteArray.toList_eq x
theorem star2_not_ws (x : ByteArray) (h : star2B x = true) : wsB x = false := by
  have h1 : x.data.toList = [42, 42] := by simpa [star2B, toList_data] using h
  have h2 : wordTo x x.size = false := by
    unfold wordTo
    rw [h1, show x.size = x.data.toList.length by simp, h1]
    decide
  simp [wsB, starB, wordB, toList_data, h1, h2]

/-! ### Names -/

/-- The pieces of a name pattern as they come: how many have come; none behind a piece that is one too many or none. -/
def nmStep (o : Option Nat) (x : ByteArray) : Option Nat := match o with
  | none => none
  | some n => if n = 2 then none else if wsB x = true then some (n + 1) else none
def nmSt (l : List ByteArray) : Option Nat := l.foldl nmStep (some 0)
theorem nmSt_nil : nmSt [] = some 0 := rfl
theorem nmSt_snoc (l : List ByteArray) (x : ByteArray) : nmSt (l ++ [x]) = nmStep (nmSt l) x := by simp [nmSt, List.foldl_append]
theorem nmFold_none (l : List ByteArray) : l.foldl nmStep none = none := by
  induction l with
  | nil => rfl
  | cons x l ih => simpa [List.foldl, nmStep] using ih
theorem nmSt_pre {p l : List ByteArray} (h : p <+: l) (hp : nmSt p = none) : nmSt l = none := by
  obtain ⟨r, rfl⟩ := h
  unfold nmSt at *
  rw [List.foldl_append, hp, nmFold_none]
theorem nmFold_eq (l : List ByteArray) : ∀ n, n ≤ 2 → l.foldl nmStep (some n) = if l.all wsB = true ∧ n + l.length ≤ 2 then some (n + l.length) else none := by
  induction l with
  | nil => intro n hn; simp [hn]
  | cons x l ih =>
    intro n hn
    rw [List.foldl_cons]
    by_cases h2 : n = 2
    · subst h2
      rw [show nmStep (some 2) x = none from rfl, nmFold_none, if_neg (by simp)]
    · by_cases hx : wsB x = true
      · rw [show nmStep (some n) x = some (n + 1) by simp [nmStep, h2, hx], ih (n + 1) (by omega)]
        simp only [List.all_cons, hx, Bool.true_and, List.length_cons]
        rw [show n + 1 + l.length = n + (l.length + 1) by omega]
      · rw [show nmStep (some n) x = none by simp [nmStep, h2, hx], nmFold_none, if_neg (by simp [hx])]
theorem nmSt_eq (l : List ByteArray) : nmSt l = if l.all wsB = true ∧ l.length ≤ 2 then some l.length else none := by
  have := nmFold_eq l 0 (by omega)
  simpa [nmSt] using this
theorem nmSt_le {l : List ByteArray} (h : nmSt l = some l.length) : l.length ≤ 2 := by
  rw [nmSt_eq] at h
  split at h
  · rename_i h'; exact h'.2
  · cases h
theorem nmSt_full {l : List ByteArray} (x : ByteArray) (h : nmSt l = some l.length) (h2 : l.length = 2) : nmSt (l ++ [x]) = none := by
  rw [nmSt_snoc, h, h2]
  rfl
theorem nmSt_bad {l : List ByteArray} (x : ByteArray) (h : nmSt l = some l.length) (hx : wsB x = false) : nmSt (l ++ [x]) = none := by
  rw [nmSt_snoc, h]
  simp [nmStep, hx]
theorem nmSt_good {l : List ByteArray} (x : ByteArray) (h : nmSt l = some l.length) (h2 : ¬ l.length = 2) (hx : wsB x = true) : nmSt (l ++ [x]) = some (l ++ [x]).length := by
  rw [nmSt_snoc, h]
  simp [nmStep, hx, h2]
/-- The pieces are those of a name pattern. -/
def nmB (l : List ByteArray) : Bool := decide (nmSt l = some 2)
theorem nmB_eq (l : List ByteArray) : nmB l = (decide (l.length = 2) && l.all wsB) := by
  unfold nmB
  rw [nmSt_eq]
  by_cases h : l.all wsB = true
  · by_cases h2 : l.length ≤ 2
    · simp [h, h2]
    · rw [if_neg (by simp [h2])]
      simp; omega
  · rw [if_neg (by simp [h])]
    simp at h
    simp [h]
/-- The pieces of a name pattern, none where they are not one's. -/
def nmL (l : List ByteArray) : List ByteArray := if nmB l = true then l else []
theorem nmL_yes {l : List ByteArray} (h : nmB l = true) : nmL l = l := if_pos h
theorem nmL_no {l : List ByteArray} (h : nmB l = false) : nmL l = [] := if_neg (by rw [h]; exact Bool.false_ne_true)
theorem nmB_none {l : List ByteArray} (h : nmSt l = none) : nmB l = false := by
  unfold nmB
  rw [h]
  rfl
theorem nmB_some {l : List ByteArray} (h : nmSt l = some l.length) : nmB l = decide (l.length = 2) := by
  unfold nmB
  rw [h]
  simp
theorem nmB_len {l : List ByteArray} (h : ¬ l.length = 2) : nmB l = false := by rw [nmB_eq]; simp [h]
theorem nmB_two (x y : ByteArray) : nmB [x, y] = (wsB x && wsB y) := by simp [nmB_eq]

/-! ### Paths -/

/-- The pieces of a path pattern as they come: how many have come, and whether two stars have ended it. -/
def ptStep (o : Option (Nat × Bool)) (x : ByteArray) : Option (Nat × Bool) := match o with
  | none => none
  | some (n, e) => if e = true ∨ n = 6 then none else if star2B x = true then some (n + 1, true) else if wsB x = true then some (n + 1, false) else none
def ptSt (l : List ByteArray) : Option (Nat × Bool) := l.foldl ptStep (some (0, false))
theorem ptSt_nil : ptSt [] = some (0, false) := rfl
theorem ptSt_snoc (l : List ByteArray) (x : ByteArray) : ptSt (l ++ [x]) = ptStep (ptSt l) x := by simp [ptSt, List.foldl_append]
theorem ptFold_none (l : List ByteArray) : l.foldl ptStep none = none := by
  induction l with
  | nil => rfl
  | cons x l ih => simpa [List.foldl, ptStep] using ih
theorem ptSt_pre {p l : List ByteArray} (h : p <+: l) (hp : ptSt p = none) : ptSt l = none := by
  obtain ⟨r, rfl⟩ := h
  unfold ptSt at *
  rw [List.foldl_append, hp, ptFold_none]
/-- Words and stars, two stars at the end alone. -/
def ptOk : List ByteArray → Bool
  | [] => true
  | x :: r => if star2B x = true then r.isEmpty else wsB x && ptOk r
theorem ptFold_eq (l : List ByteArray) : ∀ n, n ≤ 6 → (l.foldl ptStep (some (n, false))).isSome = (ptOk l && decide (n + l.length ≤ 6)) := by
  induction l with
  | nil => intro n hn; simp [ptOk, hn]
  | cons x l ih =>
    intro n hn
    rw [List.foldl_cons]
    by_cases h6 : n = 6
    · subst h6
      rw [show ptStep (some (6, false)) x = none from rfl, ptFold_none]
      simp
    · by_cases h2 : star2B x = true
      · rw [show ptStep (some (n, false)) x = some (n + 1, true) by simp [ptStep, h6, h2]]
        cases l with
        | nil => simp [ptOk, h2]; omega
        | cons y r => rw [List.foldl_cons, show ptStep (some (n + 1, true)) y = none by simp [ptStep], ptFold_none]; simp [ptOk, h2]
      · by_cases hx : wsB x = true
        · rw [show ptStep (some (n, false)) x = some (n + 1, false) by simp [ptStep, h6, h2, hx], ih (n + 1) (by omega)]
          simp only [ptOk, h2, hx, Bool.true_and, List.length_cons, Bool.false_eq_true, if_false]
          rw [show n + 1 + l.length = n + (l.length + 1) by omega]
        · rw [show ptStep (some (n, false)) x = none by simp [ptStep, h6, h2, hx], ptFold_none]
          simp [ptOk, h2, hx]
/-- The pieces are those of a path pattern. -/
def ptB (l : List ByteArray) : Bool := (ptSt l).isSome
theorem ptB_eq (l : List ByteArray) : ptB l = (ptOk l && decide (l.length ≤ 6)) := by
  have := ptFold_eq l 0 (by omega)
  simpa [ptB, ptSt] using this
theorem ptSt_len (l : List ByteArray) : ∀ n e m f, l.foldl ptStep (some (n, e)) = some (m, f) → m = n + l.length := by
  induction l with
  | nil => intro n e m f h; simp at h; simp [h.1]
  | cons x l ih =>
    intro n e m f h
    rw [List.foldl_cons] at h
    have hs : ptStep (some (n, e)) x = none ∨ ∃ g, ptStep (some (n, e)) x = some (n + 1, g) := by
      unfold ptStep
      simp only
      split
      · exact .inl rfl
      · split
        · exact .inr ⟨_, rfl⟩
        · split
          · exact .inr ⟨_, rfl⟩
          · exact .inl rfl
    rcases hs with hs | ⟨g, hs⟩
    · rw [hs, ptFold_none] at h; cases h
    · rw [hs] at h
      have := ih _ _ _ _ h
      simp; omega
theorem ptSt_num {l : List ByteArray} {m : Nat} {f : Bool} (h : ptSt l = some (m, f)) : m = l.length := by
  have := ptSt_len l 0 false m f h
  omega

/-- What the other program asks of the piece at i. -/
def ppAt (l : List ByteArray) (i : Nat) : Bool := wordB (l.getD i ByteArray.empty) || starB (l.getD i ByteArray.empty) || (star2B (l.getD i ByteArray.empty) && decide (i + 1 = l.length))
def ppTo (l : List ByteArray) (k : Nat) : Bool := (List.range k).all (ppAt l)
theorem ppTo_zero (l : List ByteArray) : ppTo l 0 = true := rfl
theorem ppTo_succ (l : List ByteArray) (k : Nat) : ppTo l (k + 1) = (ppTo l k && ppAt l k) := by
  unfold ppTo
  rw [List.range_succ, List.all_append]
  simp
theorem pp_ok (l : List ByteArray) : ppTo l l.length = ptOk l := by
  induction l with
  | nil => rfl
  | cons x r ih =>
    have hall : ppTo (x :: r) (r.length + 1) = (ppAt (x :: r) 0 && (List.range r.length).all (fun i => ppAt (x :: r) (i + 1))) := by
      unfold ppTo
      rw [List.range_succ_eq_map, List.all_cons, List.all_map]
      rfl
    have hsh : (List.range r.length).all (fun i => ppAt (x :: r) (i + 1)) = ppTo r r.length := by
      unfold ppTo
      have : ∀ i ∈ List.range r.length, ppAt (x :: r) (i + 1) = ppAt r i := by
        intro i _
        simp [ppAt]
      rw [Bool.eq_iff_iff, List.all_eq_true, List.all_eq_true]
      exact ⟨fun h i hi => (this i hi) ▸ h i hi, fun h i hi => (this i hi).symm ▸ h i hi⟩
    rw [List.length_cons, hall, hsh, ih]
    rw [ptOk]
    by_cases h2 : star2B x = true
    · have hn := star2_not_ws x h2
      have hw : wordB x = false := by simp [wsB] at hn; exact hn.2
      have hs : starB x = false := by simp [wsB] at hn; exact hn.1
      rw [if_pos h2]
      simp only [ppAt, List.getD_cons_zero, hw, hs, h2, Bool.or_false, Bool.true_and, Bool.false_or, List.length_cons]
      cases r with
      | nil => simp [ptOk]
      | cons y t => simp
    · rw [if_neg h2]
      simp at h2
      simp only [ppAt, List.getD_cons_zero, h2, Bool.false_and, Bool.or_false, wsB]
      rw [Bool.or_comm (wordB x)]
theorem plain_ok (l : List ByteArray) (h : l.all wordB = true) : ptOk l = true := by
  induction l with
  | nil => rfl
  | cons x r ih =>
    simp only [List.all_cons, Bool.and_eq_true] at h
    unfold ptOk
    by_cases h2 : star2B x = true
    · have hn := star2_not_ws x h2
      simp [wsB, h.1] at hn
    · rw [if_neg h2]
      simp [wsB, h.1, ih h.2]

/-- Whether two stars have ended what has come. -/
def endB (l : List ByteArray) : Bool := match ptSt l with
  | some (_, e) => e
  | none => false
theorem pt_ended {l : List ByteArray} (x : ByteArray) (h : ptSt l = some (l.length, endB l)) (he : endB l = true) : ptSt (l ++ [x]) = none := by
  rw [ptSt_snoc, h, he]
  simp [ptStep]
theorem pt_full {l : List ByteArray} (x : ByteArray) (h : ptSt l = some (l.length, endB l)) (h6 : l.length = 6) : ptSt (l ++ [x]) = none := by
  rw [ptSt_snoc, h, h6]
  simp [ptStep]
theorem pt_bad {l : List ByteArray} (x : ByteArray) (h : ptSt l = some (l.length, endB l)) (h2 : star2B x = false) (hx : wsB x = false) : ptSt (l ++ [x]) = none := by
  rw [ptSt_snoc, h]
  simp [ptStep, h2, hx]
theorem pt_end {l : List ByteArray} (x : ByteArray) (h : ptSt l = some (l.length, endB l)) (he : endB l = false) (h6 : ¬ l.length = 6) (h2 : star2B x = true) : ptSt (l ++ [x]) = some ((l ++ [x]).length, true) := by
  rw [ptSt_snoc, h, he]
  simp [ptStep, h6, h2]
theorem pt_on {l : List ByteArray} (x : ByteArray) (h : ptSt l = some (l.length, endB l)) (he : endB l = false) (h6 : ¬ l.length = 6) (h2 : star2B x = false) (hx : wsB x = true) : ptSt (l ++ [x]) = some ((l ++ [x]).length, false) := by
  rw [ptSt_snoc, h, he]
  simp [ptStep, h6, h2, hx]
theorem endB_of {l : List ByteArray} {n : Nat} {e : Bool} (h : ptSt l = some (n, e)) : endB l = e := by
  unfold endB
  rw [h]
theorem pt_le {l : List ByteArray} (h : ptSt l = some (l.length, endB l)) : l.length ≤ 6 := by
  have : ptB l = true := by unfold ptB; rw [h]; rfl
  rw [ptB_eq] at this
  simp at this
  exact this.2

/-- The pieces behind a text's first slash; none where it is no path's form. -/
def slashB (s : ByteArray) : Bool := s.toList == [47]
def headB (s : ByteArray) : Bool := s.data.toList.head? == some 47
def pathPs (s : ByteArray) : Option (List ByteArray) := if slashB s = true then some [] else if headB s = true then some (split (s.extract 1 s.size) 47) else none
theorem pathPs_slash {s : ByteArray} (h : slashB s = true) : pathPs s = some [] := if_pos h
theorem pathPs_head {s : ByteArray} (h : slashB s = false) (h2 : headB s = true) : pathPs s = some (split (s.extract 1 s.size) 47) := by
  unfold pathPs
  rw [if_neg (by simp [h]), if_pos h2]
theorem pathPs_none {s : ByteArray} (h : slashB s = false) (h2 : headB s = false) : pathPs s = none := by
  unfold pathPs
  rw [if_neg (by simp [h]), if_neg (by simp [h2])]
/-- The text is a path pattern. -/
def ptBs (s : ByteArray) : Bool := match pathPs s with
  | none => false
  | some l => ptB l
def ptLs (s : ByteArray) : List ByteArray := if ptBs s = true then (pathPs s).getD [] else []
theorem ptLs_no {s : ByteArray} (h : ptBs s = false) : ptLs s = [] := if_neg (by rw [h]; exact Bool.false_ne_true)
theorem ptLs_yes {s : ByteArray} (h : ptBs s = true) {l : List ByteArray} (hl : pathPs s = some l) : ptLs s = l := by
  unfold ptLs
  rw [if_pos h, hl]
  rfl
theorem ptBs_some {s : ByteArray} {l : List ByteArray} (hl : pathPs s = some l) : ptBs s = ptB l := by
  unfold ptBs
  rw [hl]
theorem ptBs_none {s : ByteArray} (hl : pathPs s = none) : ptBs s = false := by
  unfold ptBs
  rw [hl]
theorem ptB_none {l : List ByteArray} (h : ptSt l = none) : ptB l = false := by
  unfold ptB
  rw [h]
  rfl
theorem ptB_some {l : List ByteArray} {x : Nat × Bool} (h : ptSt l = some x) : ptB l = true := by
  unfold ptB
  rw [h]
  rfl
theorem headB_at {s : ByteArray} (h : 0 < s.size) (hb : s[0] = 47) : headB s = true := by
  have h0 : 0 < s.data.toList.length := by simpa using h
  have : s.data.toList.head? = some s[0] := by
    rw [List.head?_eq_getElem?, List.getElem?_eq_getElem h0]
    rfl
  unfold headB
  rw [this, hb]
  rfl
theorem headB_not {s : ByteArray} (h : 0 < s.size) (hb : s[0] ≠ 47) : headB s = false := by
  have h0 : 0 < s.data.toList.length := by simpa using h
  have : s.data.toList.head? = some s[0] := by
    rw [List.head?_eq_getElem?, List.getElem?_eq_getElem h0]
    rfl
  unfold headB
  rw [this]
  simp [hb]
theorem headB_empty {s : ByteArray} (h : s.size = 0) : headB s = false := by
  have : s.data.toList = [] := List.eq_nil_of_length_eq_zero (by simpa using h)
  unfold headB
  rw [this]
  rfl
theorem size_toList (s : ByteArray) : s.toList.isEmpty = decide (s.size = 0) := by
  rw [toList_data, Bool.eq_iff_iff, List.isEmpty_iff]
  simp only [decide_eq_true_eq]
  exact ⟨fun h => by have := congrArg List.length h; simpa using this, fun h => List.eq_nil_of_length_eq_zero (by simpa using h)⟩
theorem rest_size (s : ByteArray) : (s.extract 1 s.size).size ≤ s.size := by
  rw [ByteArray.size_extract]
  omega

/-- What the specification's words of a text are, and whether they are few enough. -/
def wL (s : ByteArray) : List ByteArray := (pathPs s).getD []
def wOk (s : ByteArray) : Bool := match pathPs s with
  | none => false
  | some l => decide (l.length ≤ 6)
theorem wL_some {s : ByteArray} {l : List ByteArray} (h : pathPs s = some l) : wL s = l := by unfold wL; rw [h]; rfl
theorem wL_none {s : ByteArray} (h : pathPs s = none) : wL s = [] := by unfold wL; rw [h]; rfl
theorem wOk_some {s : ByteArray} {l : List ByteArray} (h : pathPs s = some l) : wOk s = decide (l.length ≤ 6) := by unfold wOk; rw [h]
theorem wOk_none {s : ByteArray} (h : pathPs s = none) : wOk s = false := by unfold wOk; rw [h]
theorem wL_mem {s x : ByteArray} (h : x ∈ wL s) : x.size ≤ s.size := by
  unfold wL pathPs at h
  split at h
  · cases h
  · split at h
    · exact Nat.le_trans (split_size _ _ x h) (rest_size s)
    · cases h
theorem wL_len (s : ByteArray) : (wL s).length ≤ s.size + 1 := by
  unfold wL pathPs
  split
  · simp
  · split
    · exact Nat.le_trans (split_len _ _) (by have := rest_size s; omega)
    · simp
def allTo (xs : List ByteArray) (k : Nat) : Bool := (xs.take k).all wordB
theorem allTo_zero (xs : List ByteArray) : allTo xs 0 = true := by simp [allTo]
theorem allTo_succ (xs : List ByteArray) (k : Nat) (h : k < xs.length) : allTo xs (k + 1) = (allTo xs k && wordB xs[k]) := by
  unfold allTo
  rw [List.take_succ_eq_append_getElem h, List.all_append]
  simp
theorem allTo_end (xs : List ByteArray) : allTo xs xs.length = xs.all wordB := by simp [allTo]
theorem all_bad (xs : List ByteArray) (k : Nat) (h : k < xs.length) (hb : wordB xs[k] = false) : xs.all wordB = false := by
  rw [List.all_eq_false]
  exact ⟨xs[k], List.getElem_mem h, by simp [hb]⟩
/-- The specification's loops, k rounds over. -/
def gpTo (s : ByteArray) (k : Nat) : Bool := wOk s && allTo (wL s) k
theorem gpTo_zero (s : ByteArray) : gpTo s 0 = wOk s := by simp [gpTo, allTo_zero]
theorem gpTo_no {s : ByteArray} {k : Nat} (h : k < (wL s).length) (hg : gpTo s k = false) : gpTo s (k + 1) = false := by
  unfold gpTo at *
  rw [allTo_succ _ k h, ← Bool.and_assoc, hg]
  rfl
theorem gpTo_yes {s : ByteArray} {k : Nat} (h : k < (wL s).length) (hg : gpTo s k = true) : gpTo s (k + 1) = wordB (wL s)[k] := by
  unfold gpTo at *
  rw [allTo_succ _ k h, ← Bool.and_assoc, hg]
  rfl
def pgTo (s : ByteArray) (k : Nat) : Bool := wOk s && ppTo (wL s) k
theorem pgTo_zero (s : ByteArray) : pgTo s 0 = wOk s := by simp [pgTo, ppTo_zero]
theorem pgTo_no {s : ByteArray} {k : Nat} (hg : pgTo s k = false) : pgTo s (k + 1) = false := by
  unfold pgTo at *
  rw [ppTo_succ, ← Bool.and_assoc, hg]
  rfl
theorem pgTo_yes {s : ByteArray} {k : Nat} (h : k < (wL s).length) (hg : pgTo s k = true) : pgTo s (k + 1) = (wordB (wL s)[k] || starB (wL s)[k] || (star2B (wL s)[k] && decide (k + 1 = (wL s).length))) := by
  unfold pgTo at *
  rw [ppTo_succ, ← Bool.and_assoc, hg, Bool.true_and]
  unfold ppAt
  rw [List.getD_eq_getElem?_getD, List.getElem?_eq_getElem h]
  rfl
/-- The text is a path. -/
def gpB (s : ByteArray) : Bool := ptBs s && (ptLs s).all wordB
theorem gp_end (s : ByteArray) : gpTo s (wL s).length = gpB s := by
  unfold gpTo gpB
  rw [allTo_end]
  cases hp : pathPs s with
  | none => rw [wOk_none hp, ptBs_none hp]; rfl
  | some l =>
    rw [wOk_some hp, wL_some hp, ptBs_some hp]
    cases hb : ptB l with
    | true =>
      rw [ptLs_yes (by rw [ptBs_some hp]; exact hb) hp]
      rw [ptB_eq] at hb
      simp at hb
      simp [hb.2]
    | false =>
      rw [ptB_eq] at hb
      cases ha : l.all wordB with
      | false => simp
      | true => rw [plain_ok l ha] at hb; simp at hb; simp; omega
theorem pg_end (s : ByteArray) : pgTo s (wL s).length = ptBs s := by
  unfold pgTo
  cases hp : pathPs s with
  | none => rw [wOk_none hp, ptBs_none hp]; rfl
  | some l => rw [wOk_some hp, wL_some hp, ptBs_some hp, ptB_eq, pp_ok, Bool.and_comm]
/-- The pieces of a name. -/
def gnB (l : List ByteArray) : Bool := decide (l.length = 2) && l.all wordB

end Go.Proofs.Ytnbojbcljfiamaa

namespace Go.Proofs.Ytnbojbcljfiamaa
open Go.RowKit Go.Shelf
attribute [local go_sem] Oper.semAt_some

/-- What a round keeps for the iterator: its captured text's box. -/
def KeepsAt (B : Nat) (W W' : World) : Prop := W'.heap[B]? = W.heap[B]?
theorem keepsAt_t {Bn : Nat} {A B C : World} (h : KeepsAt Bn A B) (k : KeepsAt Bn B C) : KeepsAt Bn A C := Eq.trans k h

/-- What owns a row of n is a slice of length n. -/
theorem ownsRow_len {W : World} {base : Nat} {e : TypeId} {size : Nat} {v : Value} {k : Nat} {xs : List Value} (h : W.ownsRow base e size v k xs) : ∃ a cap, v = .slice a k cap := by
  rcases h.2 with ⟨rfl, rfl⟩ | ⟨g, cap, _, rfl, _⟩
  · exact ⟨none, 0, rfl⟩
  · exact ⟨_, cap, rfl⟩
/-- What owns a row owns it where nothing old has turned. -/
theorem ownsRow_below {w w' : World} {base : Nat} {e : TypeId} {size : Nat} {v : Value} {k : Nat} {xs : List Value} (h : w.ownsRow base e size v k xs) (hB : Below w.heap.size w w') : w'.ownsRow base e size v k xs := by
  refine ⟨h.1, ?_⟩
  rcases h.2 with h0 | ⟨g, cap, cur, hv, hg, hb, r⟩
  · exact .inl h0
  · exact .inr ⟨g, cap, cur, hv, hg, (hB.block g (Array.getElem?_eq_some_iff.1 hb).1).trans hb, r⟩
theorem ownsRow_base {W : World} {base base' : Nat} {e : TypeId} {size : Nat} {v : Value} {k : Nat} {xs : List Value} (h : W.ownsRow base e size v k xs) (hb : base' ≤ base) : W.ownsRow base' e size v k xs := by
  refine ⟨h.1, ?_⟩
  rcases h.2 with h0 | ⟨g, cap, cur, hv, hg, r⟩
  · exact .inl h0
  · exact .inr ⟨g, cap, cur, hv, Nat.le_trans hb hg, r⟩
theorem ownsRow_low {W : World} {base : Nat} {e : TypeId} {size : Nat} {v : Value} {k B : Nat} {xs : List Value} (h : W.ownsRow base e size v k xs) (hB : B < base) : some B ≠ v.ownBlock := by
  rcases h.2 with ⟨rfl, _⟩ | ⟨g, cap, cur, rfl, hg, _⟩
  · simp [Value.ownBlock]
  · simp [Value.ownBlock]; omega
/-- 'out = append(out, x)': out's box lies at B below the row: behind the store. -/
theorem boxed_appended {W w1 : World} {n₁ B : Nat} {t e : TypeId} {size : Nat} {v v' : Value} {k m : Nat} {xs ys : List Value} {tmp : Obj}
    (hv : Boxed W B t v) (hB : B < n₁) (hn₁ : n₁ ≤ W.heap.size) (hrow : W.ownsRow n₁ e size v k xs) (hown' : w1.ownsRow n₁ e size v' m ys) (hgrow : (W.alloc tmp).grownBy w1 v.ownBlock) :
    Boxed w1 B t v ∧ Boxed (w1.setCell ⟨B, 0, none⟩ v') B t v' ∧ (w1.setCell ⟨B, 0, none⟩ v').ownsRow n₁ e size v' m ys ∧ KeepsOthers W (w1.setCell ⟨B, 0, none⟩ v') ∧ Below B W (w1.setCell ⟨B, 0, none⟩ v') ∧
      (∀ j, j < n₁ → j ≠ B → (w1.setCell ⟨B, 0, none⟩ v').heap[j]? = W.heap[j]?) := by
  have hv1 : Boxed w1 B t v := (hv.alloc tmp).kept hgrow (ownsRow_low hrow hB)
  have hbl := below_appended hn₁ hrow hgrow
  refine ⟨hv1, hv1.set v', hown'.kept (grownBy_setCell' w1 B v') (.inr (ownsRow_low hown' hB).symm), ?_, ?_, ?_⟩
  · refine ((KeepsOthers.alloc W tmp).trans (KeepsOthers.of_grownBy hgrow fun j o ej hj => ?_)).trans (KeepsOthers.setCell _ _ _)
    rcases (hrow.alloc tmp).2 with ⟨rfl, _⟩ | ⟨g, cap, cur, rfl, _, hgb, _⟩
    · simp [Value.ownBlock] at ej
    · obtain rfl : g = j := by simpa [Value.ownBlock] using ej
      rw [hgb] at hj; cases hj; rfl
  · exact (hbl.mono (Nat.le_of_lt hB)).setCell (p := ⟨B, 0, none⟩) (Nat.le_refl _) v'
  · intro j hj hne
    exact (Below.heap_setCell _ _ _ j hne).trans (hbl.block j hj)

end Go.Proofs.Ytnbojbcljfiamaa

namespace Go.Proofs.Ytnbojbcljfiamaa
open Go.RowKit Go.Shelf

theorem ret_int {k : IntKind} {a b : Int} (h : a = b) : Ending.returned (.int k a) = .returned (.int k b) := by rw [h]
/-- Behind a call that makes memory alone every old cell reads as it did. -/
theorem bcell {W w1 : World} (hb : Below W.heap.size W w1) : (∀ b o, b < W.heap.size → w1.cell? ⟨b, o, none⟩ = W.cell? ⟨b, o, none⟩) ∧ (∀ b o, b < W.heap.size → w1.frozen? ⟨b, o, none⟩ = W.frozen? ⟨b, o, none⟩) :=
  ⟨fun b o h => hb.cell (p := ⟨b, o, none⟩) h, fun b o h => hb.frozen (p := ⟨b, o, none⟩) h⟩
theorem below_one {w W w1 : World} (h : Below w.heap.size w W) (h1 : Below W.heap.size W w1) : Below w.heap.size w w1 := h.trans (h1.mono h.size)
theorem below_two {w W w1 w2 : World} (h : Below w.heap.size w W) (h1 : Below W.heap.size W w1) (h2 : Below w1.heap.size w1 w2) : Below w.heap.size w w2 := below_one (below_one h h1) h2
theorem ret_str {a b : ByteArray} (h : a = b) : Ending.returned (.string a) = .returned (.string b) := by rw [h]
theorem ret_strb {a b : ByteArray} {c d : Bool} (h : a = b) (h' : c = d) : Ending.returned (.tuple #[.string a, .bool c]) = .returned (.tuple #[.string b, .bool d]) := by rw [h, h']
theorem below_drew1 {W w1 : World} (h : Below W.heap.size W.drew w1) : Below W.heap.size W w1 := (Below.refl W.heap.size W).drew.trans h
theorem sum_mem {l : List Nat} {x : Nat} (h : x ∈ l) : x ≤ l.sum := by
  induction l with
  | nil => cases h
  | cons y l ih =>
    rw [List.sum_cons]
    rcases List.mem_cons.1 h with rfl | h
    · omega
    · have := ih h
      omega
/-- A row that the call owns is a slice: none, or one with an address. -/
theorem row_form {w : World} {base : Nat} {e : TypeId} {size n : Nat} {v : Value} {xs : List Value} (h : w.ownsRow base e size v n xs) : (v = .slice none 0 0 ∧ n = 0) ∨ ∃ g cap, v = .slice (some ⟨g, 0, none⟩) n cap ∧ base ≤ g ∧ n ≤ cap := by
  rcases h.2 with h | ⟨g, cap, cur, hv, hg, _, hn, _⟩
  · exact .inl h
  · exact .inr ⟨g, cap, hv, hg, hn⟩
theorem grown_below {w W w2 : World} {r : Option Nat} (h : w.grownBy W r) (hB : Below W.heap.size W w2) : w.grownBy w2 r :=
  ⟨hB.os.trans h.os, hB.tape.trans h.tape, hB.output.trans h.output, Nat.le_trans h.size hB.size, fun k hk hne => (hB.block k (Nat.lt_of_lt_of_le hk h.size)).trans (h.block k hk hne)⟩
theorem grown_two {w W w2 : World} {r : Option Nat} (h : w.grownBy W r) (h2 : W.grownBy w2 r) : w.grownBy w2 r :=
  ⟨h2.os.trans h.os, h2.tape.trans h.tape, h2.output.trans h.output, Nat.le_trans h.size h2.size, fun k hk hne => (h2.block k (Nat.lt_of_lt_of_le hk h.size) hne).trans (h.block k hk hne)⟩
theorem grown_self (w : World) (r : Option Nat) : w.grownBy w r := ⟨rfl, rfl, rfl, Nat.le_refl _, fun _ _ _ => rfl⟩
theorem kept_apart {w w' : World} {base : Nat} {e : TypeId} {size n : Nat} {v v2 : Value} {xs : List Value} (h : w.ownsRow base e size v n xs) (hg : w.grownBy w' v2.ownBlock) (ha : ∀ k, v.ownBlock = some k → v2.ownBlock = some k → False) : w'.ownsRow base e size v n xs := by
  cases hb : v.ownBlock with
  | none => exact h.kept hg (.inl hb)
  | some b => exact h.kept hg (.inr (fun e => ha b hb (e ▸ hb)))

end Go.Proofs.Ytnbojbcljfiamaa

namespace Go.Proofs.Ytnbojbcljfiamaa
open Go.RowKit Go.Shelf

/-- The decimal digits of a number, none of 0. -/
def digT (n : Nat) : ByteArray := if _h : n = 0 then ⟨#[]⟩ else digT (n / 10) ++ ⟨#[UInt8.ofNat (48 + n % 10)]⟩
termination_by n
decreasing_by omega
theorem digT_zero : digT 0 = ⟨#[]⟩ := by rw [digT]; rfl
theorem digT_pos {n : Nat} (h : 0 < n) : digT n = digT (n / 10) ++ ⟨#[UInt8.ofNat (48 + n % 10)]⟩ := by
  rw [digT, dif_neg (by omega)]
theorem digT_size (n : Nat) : (digT n).size ≤ n := by
  induction n using Nat.strongRecOn with
  | ind n ih =>
    by_cases h : n = 0
    · subst h
      rw [digT_zero]
      exact Nat.zero_le _
    · rw [digT_pos (by omega), ByteArray.size_append]
      have := ih (n / 10) (by omega)
      have h1 : (⟨#[UInt8.ofNat (48 + n % 10)]⟩ : ByteArray).size = 1 := rfl
      omega
theorem app_nil (x : ByteArray) : x ++ ⟨#[]⟩ = x := by
  apply ByteArray.ext
  simp [ByteArray.data_append]
def mkT (n : Nat) : ByteArray := if n = 0 then ⟨#[109, 48]⟩ else ⟨#[109]⟩ ++ digT n

theorem digit_conv (w : World) (m : Nat) : (convert 126 9 (.slice (some ⟨w.heap.size, 0, none⟩) 1 1)).run Try.prog (w.alloc (.cells #[.int .u8 (48 + (m : Int) % 10)] 5)) = .ok (.string ⟨#[UInt8.ofNat (48 + m % 10)]⟩) (w.alloc (.cells #[.int .u8 (48 + (m : Int) % 10)] 5)) := by
  refine run_convert_bytes_back (P := Try.prog) _ 126 9 5 ⟨w.heap.size, 0, none⟩ 1 [UInt8.ofNat (48 + m % 10)] Try.underlying126 Try.underlying5 Try.underlying9 ?_
  intro j hj
  match j, hj with
  | 0, _ =>
    simp [Addr.add]
    omega

set_option maxHeartbeats 1000000 in
set_option maxRecDepth 100000 in
theorem markText_any (n : Nat) (w : World) (hn : n ≤ 9000000) :
    Calls Try.prog 41 #[.int .i64 n] w fun e w' => e = .returned (.string (mkT n)) ∧ Below w.heap.size w w' := by
  by_cases h0 : n = 0
  · subst h0
    go_enter Try.func41, Try.ntmps41
    go_wp2
    go_ret
    exact ⟨rfl, Below.refl _ _⟩
  · go_enter Try.func41, Try.ntmps41
    go_wp2
    go_loopw [0, 3] (fun kv s wr => ∃ (m : Nat) (o : ByteArray), m ≤ n ∧ kv = .int .i64 m ∧ s = .string o ∧ digT m ++ o = digT n ∧ o.size ≤ 9000000 - m + 100 ∧ Below w.heap.size w wr) (fun kv _ _ => (intOf kv).toNat)
    case atStart => exact ⟨n, ⟨#[]⟩, Nat.le_refl _, rfl, rfl, app_nil _, Nat.zero_le _, Below.refl _ _⟩
    case round =>
      obtain ⟨m, o, hm, rfl, rfl, hd, ho, hB⟩ := hrel
      have HD := hid hd
      clear hd
      by_cases hp : 0 < m
      · have hc := digit_conv wr m
        have HS := hid (digT_pos hp)
        have g1 : ¬9223372036854775807 < 1 + o.size := by omega
        generalize UInt8.ofNat (48 + m % 10) = d at *
        go_wp2
        go_roundw
        case rel =>
          refine ⟨m / 10, ⟨#[d]⟩ ++ o, by omega, by go_num, rfl, ?_, ?_, hB.alloc hB.size _⟩
          · rw [← ByteArray.append_assoc, ← HS.out]
            exact HD.out
          · rw [ByteArray.size_append]
            have : (⟨#[d]⟩ : ByteArray).size = 1 := rfl
            omega
        case measure => simp [intOf]; omega
      · obtain rfl : m = 0 := by omega
        have HE := hid (show ⟨#[109]⟩ ++ o = mkT n by
          have := HD.out
          rw [digT_zero] at this
          unfold mkT
          rw [if_neg h0, ← this]
          congr 1)
        have g1 : ¬9223372036854775807 < 1 + o.size := by omega
        go_wp2
        go_ret
        exact ⟨ret_str HE.out, hB⟩

theorem markText_at (n : Nat) (z : Int) (w : World) (hz : z = (n : Int)) (hn : n ≤ 9000000) :
    Calls Try.prog 41 #[.int .i64 z] w fun e w' => e = .returned (.string (mkT n)) ∧ Below w.heap.size w w' := by
  subst hz
  exact markText_any n w hn

end Go.Proofs.Ytnbojbcljfiamaa

namespace Go.Proofs.Ytnbojbcljfiamaa
open Go.RowKit Go.Shelf

/-- A slice whose elements have one cell each reads as these values. -/
def VS (w : World) (v : Value) (xs : List Value) : Prop :=
  (∃ a cap, v = .slice a 0 cap ∧ xs = []) ∨
  ∃ b off cap, v = .slice (some ⟨b, off, none⟩) xs.length cap ∧ b < w.heap.size ∧ xs.length ≤ cap ∧ ∀ i (h : i < xs.length), w.cell? ⟨b, off + i, none⟩ = some xs[i]
theorem VS.below {w w' : World} {v : Value} {xs : List Value} (h : VS w v xs) (hB : Below w.heap.size w w') : VS w' v xs := by
  rcases h with h | ⟨b, off, cap, hv, hb, hl, hc⟩
  · exact .inl h
  · exact .inr ⟨b, off, cap, hv, Nat.lt_of_lt_of_le hb hB.size, hl, fun k hk => (hB.cell (p := ⟨b, off + k, none⟩) hb).trans (hc k hk)⟩
theorem VS.len {w : World} {v : Value} {xs : List Value} (h : VS w v xs) : ∃ a cap, v = .slice a xs.length cap := by
  rcases h with ⟨a, cap, hv, rfl⟩ | ⟨b, off, cap, hv, _⟩
  · exact ⟨a, cap, hv⟩
  · exact ⟨_, cap, hv⟩
theorem VS.at {w : World} {a : Option Addr} {n cap : Nat} {xs : List Value} (h : VS w (.slice a n cap) xs) {i : Nat} (hi : i < xs.length) : ∃ b off, a = some ⟨b, off, none⟩ ∧ b < w.heap.size ∧ n ≤ cap ∧ w.cell? ⟨b, off + i, none⟩ = some xs[i] := by
  rcases h with ⟨_, _, _, rfl⟩ | ⟨b, off, cap, hv, hb, hl, hc⟩
  · simp at hi
  · cases hv
    exact ⟨b, off, rfl, hb, hl, hc i hi⟩
theorem VS.own {w : World} {base : Nat} {e : TypeId} {v : Value} {xs : List Value} (h : w.ownsRow base e 1 v xs.length xs) : VS w v xs := by
  rcases h.2 with ⟨rfl, h0⟩ | ⟨g, cap, cur, rfl, hg, hb, hle, _⟩
  · exact .inl ⟨none, 0, rfl, List.eq_nil_of_length_eq_zero h0⟩
  · refine .inr ⟨g, 0, cap, rfl, (Array.getElem?_eq_some_iff.1 hb).1, hle, fun k hk => ?_⟩
    have := h.cellAt k (by omega)
    rw [List.getElem?_eq_getElem hk] at this
    rw [Nat.zero_add]
    exact this

abbrev strs (ss : List ByteArray) : List Value := ss.map Value.string
theorem VS.ownS {w : World} {base : Nat} {e : TypeId} {v : Value} {ss : List ByteArray} (h : w.ownsRow base e 1 v ss.length (ss.map Value.string)) : VS w v (ss.map Value.string) :=
  VS.own (by rw [List.length_map]; exact h)
theorem VS.ownN {w : World} {base : Nat} {e : TypeId} {v : Value} {zs : List Int} (h : w.ownsRow base e 1 v zs.length (zs.map (Value.int .i64))) : VS w v (zs.map (Value.int .i64)) :=
  VS.own (by rw [List.length_map]; exact h)
abbrev nums (zs : List Int) : List Value := zs.map (Value.int .i64)
theorem strs_len (ss : List ByteArray) : (strs ss).length = ss.length := List.length_map _
theorem nums_len (zs : List Int) : (nums zs).length = zs.length := List.length_map _
theorem VS.str {w : World} {a : Option Addr} {n cap : Nat} {ss : List ByteArray} (h : VS w (.slice a n cap) (strs ss)) {i : Nat} (hi : i < ss.length) : ∃ b off, a = some ⟨b, off, none⟩ ∧ b < w.heap.size ∧ n ≤ cap ∧ w.cell? ⟨b, off + i, none⟩ = some (.string ss[i]) := by
  obtain ⟨b, off, h1, h2, h3, h4⟩ := h.at (i := i) (by rw [strs_len]; exact hi)
  exact ⟨b, off, h1, h2, h3, by rw [h4, List.getElem_map]⟩
theorem VS.num {w : World} {a : Option Addr} {n cap : Nat} {zs : List Int} (h : VS w (.slice a n cap) (nums zs)) {i : Nat} (hi : i < zs.length) : ∃ b off, a = some ⟨b, off, none⟩ ∧ b < w.heap.size ∧ n ≤ cap ∧ w.cell? ⟨b, off + i, none⟩ = some (.int .i64 zs[i]) := by
  obtain ⟨b, off, h1, h2, h3, h4⟩ := h.at (i := i) (by rw [nums_len]; exact hi)
  exact ⟨b, off, h1, h2, h3, by rw [h4, List.getElem_map]⟩
theorem VS.strLen {w : World} {v : Value} {ss : List ByteArray} (h : VS w v (strs ss)) : ∃ a cap, v = .slice a ss.length cap := by
  have := h.len
  rwa [strs_len] at this
theorem VS.numLen {w : World} {v : Value} {zs : List Int} (h : VS w v (nums zs)) : ∃ a cap, v = .slice a zs.length cap := by
  have := h.len
  rwa [nums_len] at this

set_option maxRecDepth 100000 in
open Go.Deep Go.ChangeShapes Go.WideShapes Go.Joins in
/-- A list of texts that comes in. -/
theorem openStS {H : Type} {enc : TypeId × Value → H} {W : World} {a : Option Addr} {n c : Nat} {d : DataW H} {p : List MemPlace} (h : DataW.Trod enc Try.prog W 0 (fun _ => true) true 24 (.slice a n c) d p) :
    ∃ ss : List ByteArray, VS W (.slice a n c) (strs ss) ∧ ss.length = n ∧ n ≤ maxLen ∧ ∀ s ∈ ss, s.size ≤ maxLen := by
  obtain ⟨fuel, hf⟩ := h
  have c2 : Try.prog.cellsOf 9 = 1 := by kernel_rfl
  rcases open_slice Try.underlying24 hf with ⟨hcs, _⟩ | ⟨x, len, cap, m, k, D, Pl, hcs, _, hl, hm, hmm, _, hx⟩
  · simp [Value.cells] at hcs
    obtain ⟨rfl, rfl, rfl⟩ := hcs
    exact ⟨[], .inl ⟨_, _, rfl, rfl⟩, rfl, Nat.zero_le _, fun r hr => by cases hr⟩
  · simp [Value.cells] at hcs
    obtain ⟨rfl, rfl, rfl⟩ := hcs
    have hlm : n ≤ m := by rw [hmm]; simpa using hl
    have each : ∀ i, i < n → ∃ r : ByteArray, W.cell? (x.add i) = some (.string r) ∧ r.size ≤ maxLen := by
      intro i hi
      obtain ⟨cs', h1, h2⟩ := hx i (by omega)
      rw [c2, Nat.mul_one] at h1
      obtain ⟨_, hlen, hcell⟩ := World.cells?_some h1
      obtain ⟨x0, f0, _, w0⟩ := DataW.trod_string Try.underlying9 h2
      subst f0
      have e0 := hcell 0 (by omega)
      rw [add_add] at e0
      exact ⟨x0, by simpa using e0, w0⟩
    have hin : Inhabited ByteArray := ⟨ByteArray.empty⟩
    obtain ⟨q, hq⟩ := choose_lt each
    by_cases h0 : n = 0
    · subst h0
      exact ⟨[], .inl ⟨_, _, rfl, rfl⟩, rfl, Nat.zero_le _, fun r hr => by cases hr⟩
    · obtain ⟨b, off, spot⟩ := x
      have hs : spot = none := by simpa [Addr.add] using World.cell?_spot (hq 0 (by omega)).1
      subst hs
      have hlt : b < W.heap.size := by
        have := (hq 0 (by omega)).1
        rw [Addr.add_lit] at this
        by_cases hb : b < W.heap.size
        · exact hb
        · simp only [World.cell?] at this
          rw [Array.getElem?_eq_none (by omega)] at this
          cases this
      refine ⟨(List.range n).map q, .inr ⟨b, off, c, by simp [strs], hlt, by simpa [strs] using hl, fun k hk => ?_⟩, by simp, by omega, ?_⟩
      · have hk' : k < n := by simpa [strs] using hk
        have := (hq k hk').1
        simp only [Addr.add_lit] at this
        simpa [strs] using this
      · intro r hr
        obtain ⟨i, hi, rfl⟩ := List.mem_map.1 hr
        exact (hq i (List.mem_range.1 hi)).2

set_option maxRecDepth 100000 in
open Go.Deep Go.ChangeShapes Go.WideShapes Go.Joins in
/-- A list of numbers that comes in. -/
theorem openInS {H : Type} {enc : TypeId × Value → H} {W : World} {a : Option Addr} {n c : Nat} {d : DataW H} {p : List MemPlace} (h : DataW.Trod enc Try.prog W 0 (fun _ => true) true 23 (.slice a n c) d p) :
    ∃ zs : List Int, VS W (.slice a n c) (nums zs) ∧ zs.length = n ∧ n ≤ maxLen := by
  obtain ⟨fuel, hf⟩ := h
  have c2 : Try.prog.cellsOf 3 = 1 := by kernel_rfl
  rcases open_slice Try.underlying23 hf with ⟨hcs, _⟩ | ⟨x, len, cap, m, k, D, Pl, hcs, _, hl, hm, hmm, _, hx⟩
  · simp [Value.cells] at hcs
    obtain ⟨rfl, rfl, rfl⟩ := hcs
    exact ⟨[], .inl ⟨_, _, rfl, rfl⟩, rfl, Nat.zero_le _⟩
  · simp [Value.cells] at hcs
    obtain ⟨rfl, rfl, rfl⟩ := hcs
    have hlm : n ≤ m := by rw [hmm]; simpa using hl
    have each : ∀ i, i < n → ∃ r : Int, W.cell? (x.add i) = some (.int .i64 r) := by
      intro i hi
      obtain ⟨cs', h1, h2⟩ := hx i (by omega)
      rw [c2, Nat.mul_one] at h1
      obtain ⟨_, hlen, hcell⟩ := World.cells?_some h1
      obtain ⟨x0, f0, _, _⟩ := DataW.trod_int Try.underlying3 h2
      subst f0
      have e0 := hcell 0 (by omega)
      rw [add_add] at e0
      exact ⟨x0, by simpa using e0⟩
    obtain ⟨q, hq⟩ := choose_lt each
    by_cases h0 : n = 0
    · subst h0
      exact ⟨[], .inl ⟨_, _, rfl, rfl⟩, rfl, Nat.zero_le _⟩
    · obtain ⟨b, off, spot⟩ := x
      have hs : spot = none := by simpa [Addr.add] using World.cell?_spot (hq 0 (by omega))
      subst hs
      have hlt : b < W.heap.size := by
        have := hq 0 (by omega)
        rw [Addr.add_lit] at this
        by_cases hb : b < W.heap.size
        · exact hb
        · simp only [World.cell?] at this
          rw [Array.getElem?_eq_none (by omega)] at this
          cases this
      refine ⟨(List.range n).map q, .inr ⟨b, off, c, by simp [nums], hlt, by simpa [nums] using hl, fun k hk => ?_⟩, by simp, by omega⟩
      have hk' : k < n := by simpa [nums] using hk
      have := hq k hk'
      simp only [Addr.add_lit] at this
      simpa [nums] using this

theorem take_one {α : Type} (xs : List α) (k : Nat) (a : α) (h : k < xs.length) : (xs.set k a).take (k + 1) = xs.take k ++ [a] := by
  rw [List.take_succ_eq_append_getElem (by simpa using h), List.take_set_of_le (Nat.le_refl _)]
  simp
theorem below_drewn {w W : World} (h : Below w.heap.size w W) (n : Nat) : Below w.heap.size w (W.drewN n) :=
  h.trans ⟨rfl, rfl, rfl, Nat.le_refl _, fun _ _ => rfl⟩
theorem infoString : (Try.prog.info? 9).map (fun i => (i.zero, i.size, i.bytes)) = some (some (.string ByteArray.empty), 1, 16) := by kernel_rfl
theorem infoInt : (Try.prog.info? 3).map (fun i => (i.zero, i.size, i.bytes)) = some (some (.int .i64 0), 1, 8) := by kernel_rfl

/-- Two lists of texts are alike. -/
def ssTo (xs ys : List ByteArray) (k : Nat) : Bool := ((xs.zip ys).take k).all (fun q => q.1.toList == q.2.toList)
def ssS (xs ys : List ByteArray) : Bool := decide (xs.length = ys.length) && (xs.zip ys).all (fun q => q.1.toList == q.2.toList)
theorem ssTo_zero (xs ys : List ByteArray) : ssTo xs ys 0 = true := by simp [ssTo]
theorem ssTo_succ {xs ys : List ByteArray} {k : Nat} (h : k < xs.length) (h' : k < ys.length) : ssTo xs ys (k + 1) = (ssTo xs ys k && (xs[k].toList == ys[k].toList)) := by
  unfold ssTo
  rw [List.take_succ_eq_append_getElem (by rw [List.length_zip]; omega), List.all_append]
  simp
theorem ss_end {xs ys : List ByteArray} (h : xs.length = ys.length) : ssTo xs ys xs.length = ssS xs ys := by
  unfold ssTo ssS
  rw [List.take_of_length_le (by rw [List.length_zip]; omega), decide_eq_true h, Bool.true_and]
theorem ssS_refl (xs : List ByteArray) : ssS xs xs = true := by
  unfold ssS
  rw [decide_eq_true rfl, Bool.true_and, List.all_eq_true]
  intro x hx
  obtain ⟨i, hi, he⟩ := List.getElem_of_mem hx
  rw [List.getElem_zip] at he
  rw [← he]
  simp

set_option maxHeartbeats 1000000 in
/-- A list of texts is like itself, wherever the two lie. -/
theorem eqStringS_any (v v' : Value) (ss : List ByteArray) (w : World) (hn : ss.length ≤ 1048577) (hr : VS w v (strs ss)) (hr' : VS w v' (strs ss)) :
    Calls Try.prog 46 #[v, v'] w fun e w' => e = .returned (.bool true) ∧ Below w.heap.size w w' := by
  obtain ⟨a, cap, rfl⟩ := hr.strLen
  obtain ⟨a', cap', rfl⟩ := hr'.strLen
  have e0 : ((ss.length : Int) != (ss.length : Int)) = false := by simp
  go_enter Try.func46, Try.ntmps46
  go_wp2
  go_loopw [5] (fun i wr => ∃ j : Nat, j ≤ ss.length ∧ i = .int .i64 j ∧ Below w.heap.size w wr) (fun i _ => ss.length - (intOf i).toNat)
  case atStart => exact ⟨0, Nat.zero_le _, rfl, Below.refl _ _⟩
  case round =>
    obtain ⟨j, hj, rfl, hB⟩ := hrel
    by_cases hlt : j < ss.length
    · obtain ⟨b, off, rfl, hb, hcap, q0⟩ := (hr.below hB).str hlt
      obtain ⟨b', off', rfl, hb', hcap', q1⟩ := (hr'.below hB).str hlt
      generalize ss[j] = x at q0 q1
      go_wp2_with fail
      go_quiet (fail)
      go_wp2
      go_roundw
      case rel => first | exact ⟨j + 1, by omega, by go_num, below_drewn hB _⟩ | ((repeat apply Exists.intro); exact ⟨⟨j + 1, by omega, by go_num, below_drewn hB _⟩, rfl⟩)
      case measure => simp [intOf]; omega
    · obtain rfl : j = ss.length := by omega
      go_wp2
      go_ret
      exact ⟨rfl, hB⟩

set_option maxHeartbeats 1000000 in
/-- A list of numbers is like itself, wherever the two lie. -/
theorem eqIntS_same (v v' : Value) (zs : List Int) (w : World) (hn : zs.length ≤ 1048577) (hr : VS w v (nums zs)) (hr' : VS w v' (nums zs)) :
    Calls Try.prog 45 #[v, v'] w fun e w' => e = .returned (.bool true) ∧ Below w.heap.size w w' := by
  obtain ⟨a, cap, rfl⟩ := hr.numLen
  obtain ⟨a', cap', rfl⟩ := hr'.numLen
  have e0 : ((zs.length : Int) != (zs.length : Int)) = false := by simp
  go_enter Try.func45, Try.ntmps45
  go_wp2
  go_loopw [5] (fun i wr => ∃ j : Nat, j ≤ zs.length ∧ i = .int .i64 j ∧ Below w.heap.size w wr) (fun i _ => zs.length - (intOf i).toNat)
  case atStart => exact ⟨0, Nat.zero_le _, rfl, Below.refl _ _⟩
  case round =>
    obtain ⟨j, hj, rfl, hB⟩ := hrel
    by_cases hlt : j < zs.length
    · obtain ⟨b, off, rfl, hb, hcap, q0⟩ := (hr.below hB).num hlt
      obtain ⟨b', off', rfl, hb', hcap', q1⟩ := (hr'.below hB).num hlt
      generalize zs[j] = x at q0 q1
      go_wp2_with fail
      go_quiet (fail)
      go_wp2
      go_roundw
      case rel => first | exact ⟨j + 1, by omega, by go_num, below_drewn hB _⟩ | ((repeat apply Exists.intro); exact ⟨⟨j + 1, by omega, by go_num, below_drewn hB _⟩, rfl⟩)
      case measure => simp [intOf]; omega
    · obtain rfl : j = zs.length := by omega
      go_wp2
      go_ret
      exact ⟨rfl, hB⟩

set_option maxHeartbeats 1000000 in
theorem toStringS_any (v : Value) (ss : List ByteArray) (w : World) (hm : ss.length ≤ 1048576) (hr : VS w v (strs ss)) :
    Calls Try.prog 71 #[v] w fun e w' => ∃ v', e = .returned v' ∧ w'.ownsRow w.heap.size 9 1 v' ss.length (strs ss) ∧ Below w.heap.size w w' := by
  obtain ⟨a, cap, rfl⟩ := hr.strLen
  obtain ⟨i0, hi, hz0, hz1, hz2⟩ := info_parts infoString
  go_enter Try.func71, Try.ntmps71
  go_wp2_with (at_make; refine wpList_make_full _ rfl _ _ 24 rfl w.heap.size 9 i0 _ 1 Try.underlying24 hi hz0 hz1 _ _ _ _ ss.length rfl rfl rfl rfl (by rw [hz2]; omega) (by unfold maxLen; omega) (Nat.le_refl _) ?_; intro w1 hown hgrow)
  have hB1 : Below w.heap.size w w1 := (Below.refl _ w).grown hgrow (Nat.le_refl _) (fun k e => by cases e)
  go_loopw [4] (fun i wr => ∃ k : Nat, k ≤ ss.length ∧ i = .int .i64 k ∧ ∃ xs, wr.ownsRow w.heap.size 9 1 (.slice (some ⟨w.heap.size, 0, none⟩) ss.length ss.length) ss.length xs ∧ xs.take k = strs (ss.take k) ∧ Below w.heap.size w wr) (fun i _ => ss.length - (intOf i).toNat)
  case atStart => exact ⟨0, Nat.zero_le _, rfl, _, hown, by simp, hB1⟩
  case round =>
    obtain ⟨k, hk, rfl, xs, hrow, hx, hB⟩ := hrel
    have HX := hid hx
    clear hx
    by_cases hlt : k < ss.length
    · obtain ⟨b, off, rfl, hb, hcap, q0⟩ := (hr.below hB).str hlt
      have HT := hid (List.take_succ_eq_append_getElem hlt)
      generalize ss[k] = r at *
      have hlen : xs.length = ss.length := by have := hrow.1; omega
      have s0 := hrow.cellAt k (by omega)
      rw [List.getElem?_eq_getElem (by omega)] at s0
      have t0 := hrow.frozenAt k
      generalize xs[k] = y0 at *
      go_wp2
      go_roundw
      case rel =>
        refine ⟨k + 1, by omega, by go_num, _, (hrow.stored k (.string r)).1, ?_, hB.setCell (p := ⟨w.heap.size, _, none⟩) (Nat.le_refl _) _⟩
        rw [take_one _ _ _ (by omega), HX.out, HT.out]
        simp [strs]
      case measure => simp [intOf]; omega
    · obtain rfl : k = ss.length := by omega
      have HF := hid (show xs = strs ss by have := HX.out; rw [List.take_of_length_le (by have := hrow.1; omega), List.take_length] at this; exact this)
      go_wp2
      go_ret
      exact ⟨_, rfl, by rw [← HF.out]; exact hrow, hB⟩

set_option maxHeartbeats 1000000 in
theorem toIntS_any (v : Value) (zs : List Int) (w : World) (hm : zs.length ≤ 1048576) (hr : VS w v (nums zs)) :
    Calls Try.prog 70 #[v] w fun e w' => ∃ v', e = .returned v' ∧ w'.ownsRow w.heap.size 3 1 v' zs.length (nums zs) ∧ Below w.heap.size w w' := by
  obtain ⟨a, cap, rfl⟩ := hr.numLen
  obtain ⟨i0, hi, hz0, hz1, hz2⟩ := info_parts infoInt
  go_enter Try.func70, Try.ntmps70
  go_wp2_with (at_make; refine wpList_make_full _ rfl _ _ 23 rfl w.heap.size 3 i0 _ 1 Try.underlying23 hi hz0 hz1 _ _ _ _ zs.length rfl rfl rfl rfl (by rw [hz2]; omega) (by unfold maxLen; omega) (Nat.le_refl _) ?_; intro w1 hown hgrow)
  have hB1 : Below w.heap.size w w1 := (Below.refl _ w).grown hgrow (Nat.le_refl _) (fun k e => by cases e)
  go_loopw [4] (fun i wr => ∃ k : Nat, k ≤ zs.length ∧ i = .int .i64 k ∧ ∃ xs, wr.ownsRow w.heap.size 3 1 (.slice (some ⟨w.heap.size, 0, none⟩) zs.length zs.length) zs.length xs ∧ xs.take k = nums (zs.take k) ∧ Below w.heap.size w wr) (fun i _ => zs.length - (intOf i).toNat)
  case atStart => exact ⟨0, Nat.zero_le _, rfl, _, hown, by simp, hB1⟩
  case round =>
    obtain ⟨k, hk, rfl, xs, hrow, hx, hB⟩ := hrel
    have HX := hid hx
    clear hx
    by_cases hlt : k < zs.length
    · obtain ⟨b, off, rfl, hb, hcap, q0⟩ := (hr.below hB).num hlt
      have HT := hid (List.take_succ_eq_append_getElem hlt)
      generalize zs[k] = r at *
      have hlen : xs.length = zs.length := by have := hrow.1; omega
      have s0 := hrow.cellAt k (by omega)
      rw [List.getElem?_eq_getElem (by omega)] at s0
      have t0 := hrow.frozenAt k
      generalize xs[k] = y0 at *
      go_wp2
      go_roundw
      case rel =>
        refine ⟨k + 1, by omega, by go_num, _, (hrow.stored k (.int .i64 r)).1, ?_, hB.setCell (p := ⟨w.heap.size, _, none⟩) (Nat.le_refl _) _⟩
        rw [take_one _ _ _ (by omega), HX.out, HT.out]
        simp [nums]
      case measure => simp [intOf]; omega
    · obtain rfl : k = zs.length := by omega
      have HF := hid (show xs = nums zs by have := HX.out; rw [List.take_of_length_le (by have := hrow.1; omega), List.take_length] at this; exact this)
      go_wp2
      go_ret
      exact ⟨_, rfl, by rw [← HF.out]; exact hrow, hB⟩

/-- What is left of a budget behind a list of texts. -/
def tzTo (ss : List ByteArray) (n : Nat) : Nat := ((ss.take n).map ByteArray.size).sum
def tzAll (ss : List ByteArray) : Nat := ss.length + tzTo ss ss.length
theorem tzTo_zero (ss : List ByteArray) : tzTo ss 0 = 0 := by simp [tzTo]
theorem tzTo_succ {ss : List ByteArray} {n : Nat} (h : n < ss.length) : tzTo ss (n + 1) = tzTo ss n + ss[n].size := by
  unfold tzTo
  rw [List.take_succ_eq_append_getElem h, List.map_append, List.sum_append]
  simp
theorem tzTo_le (ss : List ByteArray) (n : Nat) : tzTo ss n ≤ tzTo ss ss.length := by
  unfold tzTo
  rw [List.take_length]
  conv => rhs; rw [← List.take_append_drop n ss, List.map_append, List.sum_append]
  omega
theorem tz_mem {ss : List ByteArray} {s : ByteArray} (h : s ∈ ss) : s.size ≤ tzTo ss ss.length := by
  unfold tzTo
  rw [List.take_length]
  exact sum_mem (List.mem_map.2 ⟨s, h, rfl⟩)
def leftT (n : Int) (ss : List ByteArray) : Int := if (tzAll ss : Int) ≤ n then n - tzAll ss else -1

set_option maxHeartbeats 1000000 in
theorem szStringS_any (v : Value) (rs : List ByteArray) (n : Int) (w : World) (h0 : 0 ≤ n) (h1 : n ≤ 1048576) (hm : rs.length ≤ maxLen) (hf : ∀ r ∈ rs, r.size ≤ maxLen) (hr : VS w v (strs rs)) :
    Calls Try.prog 65 #[v, .int .i64 n] w fun e w' => e = .returned (.int .i64 (leftT n rs)) ∧ Below w.heap.size w w' := by
  obtain ⟨a, cap, rfl⟩ := hr.strLen
  unfold maxLen at hm hf
  by_cases c0 : n < rs.length
  · have HR := hid (show leftT n rs = -1 from if_neg (by unfold tzAll; omega))
    go_enter Try.func65, Try.ntmps65
    go_wp2
    go_ret
    exact ⟨ret_int HR.out.symm, Below.refl _ _⟩
  · have d0 : decide (n - (rs.length : Int) < 0) = false := by simp; omega
    go_enter Try.func65, Try.ntmps65
    go_wp2
    go_loopw [1, 5] (fun m i wr => ∃ (k : Nat) (z : Int), k ≤ rs.length ∧ i = .int .i64 k ∧ m = .int .i64 z ∧ z = n - rs.length - tzTo rs k ∧ 0 ≤ z ∧ Below w.heap.size w wr) (fun _ i _ => rs.length - (intOf i).toNat)
    case atStart => exact ⟨0, _, Nat.zero_le _, rfl, by go_num, by rw [tzTo_zero]; omega, by omega, Below.refl _ _⟩
    case round =>
      obtain ⟨k, z, hk, rfl, rfl, hz, hp, hB⟩ := hrel
      have hz1 : z ≤ 1048576 := by omega
      have HZ := hid hz
      clear hz
      by_cases hlt : k < rs.length
      · obtain ⟨b, off, rfl, hb, hcap, q0⟩ := (hr.below hB).str hlt
        have f1 := hf rs[k] (List.getElem_mem hlt)
        have HS := hid (tzTo_succ hlt)
        have HT := hid (tzTo_le rs (k + 1))
        generalize rs[k] = r at *
        by_cases c1 : (r.size : Int) ≤ z
        · have d1 : decide (z - (r.size : Int) < 0) = false := by simp; omega
          go_wp2
          go_roundw
          case rel => exact ⟨k + 1, z - r.size, by omega, by go_num, by go_num, by have := HZ.out; have := HS.out; omega, by omega, hB⟩
          case measure => simp [intOf]; omega
        · have HR := hid (show leftT n rs = -1 from if_neg (by have := HT.out; rw [HS.out] at this; have := HZ.out; unfold tzAll; omega))
          have d1 : decide (z - (r.size : Int) < 0) = true := by simp; omega
          go_wp2
          go_ret
          exact ⟨ret_int HR.out.symm, hB⟩
      · obtain rfl : k = rs.length := by omega
        have HR := hid (show leftT n rs = z by have := HZ.out; unfold leftT tzAll; rw [if_pos (by omega)]; omega)
        go_wp2
        go_ret
        exact ⟨ret_int HR.out.symm, hB⟩

def mkS (k n : Nat) : List ByteArray := (List.range n).map (fun i => mkT (k + i))
theorem mkS_len (k n : Nat) : (mkS k n).length = n := by simp [mkS]
theorem mkS_succ (k n : Nat) : mkS k (n + 1) = mkS k n ++ [mkT (k + n)] := by
  unfold mkS
  rw [List.range_succ, List.map_append]
  rfl
theorem mkS_at {k n i : Nat} (h : i < (mkS k n).length) : (mkS k n)[i] = mkT (k + i) := by simp [mkS]

set_option maxHeartbeats 1000000 in
theorem markStringS_to (v : Value) (n k base : Nat) (xs : List Value) (w : World) (hn : n ≤ 1048577) (hk : k + n ≤ 8000000) (hrow : w.ownsRow base 9 1 v n xs) :
    Calls Try.prog 51 #[v, .int .i64 k] w fun e w' => e = .returned (.int .i64 ((k + n : Nat) : Int)) ∧ w'.ownsRow base 9 1 v n (strs (mkS k n)) ∧ w.grownBy w' v.ownBlock := by
  rcases row_form hrow with ⟨rfl, rfl⟩ | ⟨g, cap, rfl, hg, hcap⟩
  · go_enter Try.func51, Try.ntmps51
    go_wp2
    refine wp_loop_rounds 1 ?_
    rw [rounds_succ]
    go_wp2
    go_ret
    exact ⟨rfl, World.ownsRow_nil _ _ _ _, grown_self _ _⟩
  · go_enter Try.func51, Try.ntmps51
    go_wp2
    go_loopw [1, 5] (fun kv i wr => ∃ (j c : Nat), j ≤ n ∧ c = k + j ∧ kv = .int .i64 c ∧ i = .int .i64 j ∧ ∃ ys, wr.ownsRow base 9 1 (.slice (some ⟨g, 0, none⟩) n cap) n ys ∧ ys.take j = strs (mkS k j) ∧ w.grownBy wr (some g)) (fun _ i _ => n - (intOf i).toNat)
    case atStart => exact ⟨0, k, Nat.zero_le _, by omega, rfl, rfl, xs, hrow, by simp [mkS], grown_self _ _⟩
    case round =>
      obtain ⟨j, c, hj, hc, rfl, rfl, ys, row0, hx, hg0⟩ := hrel
      have HX := hid hx
      have HC := hid hc
      clear hx hc hrow
      have hc9 : c ≤ 8000000 := by have := HC.out; omega
      by_cases hlt : j < n
      · have hlen : ys.length = n := by have := row0.1; omega
        go_wp2_with fail
        refine (markText_at c _ _ rfl (by omega)).mono ?_
        rintro e v1 ⟨rfl, hB1⟩
        have row1 := ownsRow_below row0 hB1
        have hg1 := grown_below hg0 hB1
        clear row0 hg0 hB1
        have s1 := row1.cellAt j (by have := row1.1; omega)
        rw [List.getElem?_eq_getElem (by have := row1.1; omega)] at s1
        have t1 := row1.frozenAt j
        have P1 := row1.stored j (.string (mkT c))
        have HM := hid (show strs (mkS k (j + 1)) = strs (mkS k j) ++ [.string (mkT c)] by rw [mkS_succ, ← HC.out]; simp [strs])
        go_wp2
        go_roundw
        case rel =>
          refine ⟨j + 1, c + 1, by omega, by have := HC.out; omega, by go_num, by go_num, _, P1.1, ?_, grown_two hg1 P1.2⟩
          rw [take_one _ _ _ (by omega), HX.out, HM.out]
        case measure => simp [intOf]; omega
      · obtain rfl : j = n := by omega
        have HF := hid (show ys = strs (mkS k j) by have := HX.out; rw [List.take_of_length_le (by have := row0.1; omega)] at this; exact this)
        go_wp2
        go_ret
        exact ⟨ret_int (by rw [HC.out]), by rw [← HF.out]; exact row0, hg0⟩

set_option maxHeartbeats 1000000 in
theorem heldStringS_to (v : Value) (n k : Nat) (w : World) (hn : n ≤ 1048577) (hk : k + n ≤ 8000000) (hr : VS w v (strs (mkS k n))) :
    Calls Try.prog 58 #[v, .int .i64 k] w fun e w' => e = .returned (.int .i64 ((k + n : Nat) : Int)) ∧ Below w.heap.size w w' := by
  obtain ⟨a, cap, rfl⟩ := hr.strLen
  have hln := mkS_len k n
  rw [hln] at hr ⊢
  clear hln
  go_enter Try.func58, Try.ntmps58
  go_wp2
  go_loopw [1, 5] (fun kv i wr => ∃ (j c : Nat), j ≤ n ∧ c = k + j ∧ kv = .int .i64 c ∧ i = .int .i64 j ∧ Below w.heap.size w wr) (fun _ i _ => n - (intOf i).toNat)
  case atStart => exact ⟨0, k, Nat.zero_le _, by omega, rfl, rfl, Below.refl _ _⟩
  case round =>
    obtain ⟨j, c, hj, hc, rfl, rfl, hB⟩ := hrel
    have HC := hid hc
    clear hc
    have hc9 : c ≤ 8000000 := by have := HC.out; omega
    by_cases hlt : j < n
    · obtain ⟨b, off, rfl, hb, hcap, q0⟩ := (hr.below hB).str (i := j) (by rw [mkS_len]; exact hlt)
      rw [mkS_at, ← HC.out] at q0
      clear hr
      go_wp2_with fail
      go_region_with (go_at_call 41; refine (markText_at c _ _ rfl (by omega)).mono ?_; rintro e w1 ⟨rfl, hB1⟩; have q1 := (hB1.cell (p := ⟨b, off + j, none⟩) (by exact hb)).trans (by exact q0))
      all_goals go_wp2
      all_goals go_roundw
      all_goals first
        | exact ⟨j + 1, c + 1, by omega, by have := HC.out; omega, by go_num, by go_num, below_one hB (below_drew1 hB1)⟩
        | (simp [intOf]; omega)
    · obtain rfl : j = n := by omega
      go_wp2
      go_ret
      exact ⟨ret_int (by rw [HC.out]), hB⟩

theorem markStringS_any (v : Value) (n k base : Nat) (xs : List Value) (w : World) (hn : n ≤ 1048577) (hk : k ≤ 1) (hrow : w.ownsRow base 9 1 v n xs) :
    Calls Try.prog 51 #[v, .int .i64 k] w fun e w' => e = .returned (.int .i64 ((k + n : Nat) : Int)) ∧ w'.ownsRow base 9 1 v n (strs (mkS k n)) ∧ w.grownBy w' v.ownBlock :=
  markStringS_to v n k base xs w hn (by omega) hrow
theorem heldStringS_any (v : Value) (n k : Nat) (w : World) (hn : n ≤ 1048577) (hk : k ≤ 1) (hr : VS w v (strs (mkS k n))) :
    Calls Try.prog 58 #[v, .int .i64 k] w fun e w' => e = .returned (.int .i64 ((k + n : Nat) : Int)) ∧ Below w.heap.size w w' :=
  heldStringS_to v n k w hn (by omega) hr

end Go.Proofs.Ytnbojbcljfiamaa

namespace Go.Proofs.Ytnbojbcljfiamaa
open Go.RowKit Go.Shelf

def left1 (n : Int) (a : Nat) : Int := if (a : Int) ≤ n then n - a else -1

open Go.Deep Go.ChangeShapes Go.WideShapes Go.Joins in
theorem openStR {H : Type} {enc : TypeId × Value → H} {W : World} {c0 : Value} {d : DataW H × List MemPlace} {fuel : Nat} (hf : DataW.trod enc Try.prog W 0 (fun _ => true) true fuel 24 [c0] = some d) :
    ∃ (a : Option Addr) (n c : Nat) (ss : List ByteArray), c0 = .slice a n c ∧ VS W (.slice a n c) (strs ss) ∧ ss.length = n ∧ n ≤ maxLen ∧ ∀ s ∈ ss, s.size ≤ maxLen := by
  have hs : ∃ a n c, c0 = .slice a n c := by
    rcases open_slice Try.underlying24 hf with ⟨hcs, _⟩ | ⟨x, n, c, m, k, D, Pl, hcs, _⟩
    · simp at hcs; exact ⟨_, _, _, hcs⟩
    · simp at hcs; exact ⟨_, _, _, hcs⟩
  obtain ⟨a, n, c, rfl⟩ := hs
  obtain ⟨ss, h⟩ := openStS (a := a) (n := n) (c := c) (d := d.1) (p := d.2) ⟨fuel, hf⟩
  exact ⟨a, n, c, ss, rfl, h⟩
open Go.Deep Go.ChangeShapes Go.WideShapes Go.Joins in
theorem openInR {H : Type} {enc : TypeId × Value → H} {W : World} {c0 : Value} {d : DataW H × List MemPlace} {fuel : Nat} (hf : DataW.trod enc Try.prog W 0 (fun _ => true) true fuel 23 [c0] = some d) :
    ∃ (a : Option Addr) (n c : Nat) (zs : List Int), c0 = .slice a n c ∧ VS W (.slice a n c) (nums zs) ∧ zs.length = n ∧ n ≤ maxLen := by
  have hs : ∃ a n c, c0 = .slice a n c := by
    rcases open_slice Try.underlying23 hf with ⟨hcs, _⟩ | ⟨x, n, c, m, k, D, Pl, hcs, _⟩
    · simp at hcs; exact ⟨_, _, _, hcs⟩
    · simp at hcs; exact ⟨_, _, _, hcs⟩
  obtain ⟨a, n, c, rfl⟩ := hs
  obtain ⟨zs, h⟩ := openInS (a := a) (n := n) (c := c) (d := d.1) (p := d.2) ⟨fuel, hf⟩
  exact ⟨a, n, c, zs, rfl, h⟩

theorem take_set3 {α : Type} (xs : List α) (k : Nat) (a b c : α) (h : k * 3 + 3 ≤ xs.length) : (((xs.set (k * 3) a).set (k * 3 + 1) b).set (k * 3 + 2) c).take ((k + 1) * 3) = xs.take (k * 3) ++ [a, b, c] := by
  apply List.ext_getElem?
  intro i
  rw [List.getElem?_take]
  by_cases h1 : i < k * 3
  · rw [if_pos (by omega), List.getElem?_append_left (by rw [List.length_take]; omega), List.getElem?_take, if_pos h1]
    rw [List.getElem?_set_ne (by omega), List.getElem?_set_ne (by omega), List.getElem?_set_ne (by omega)]
  · by_cases h2 : i < (k + 1) * 3
    · rw [if_pos h2, List.getElem?_append_right (by rw [List.length_take]; omega)]
      have hl : (xs.take (k * 3)).length = k * 3 := by rw [List.length_take]; omega
      rw [hl]
      obtain h | h | h : i = k * 3 ∨ i = k * 3 + 1 ∨ i = k * 3 + 2 := by omega
      all_goals subst h
      · rw [List.getElem?_set_ne (by omega), List.getElem?_set_ne (by omega), List.getElem?_set_self (by omega)]
        simp
      · rw [List.getElem?_set_ne (by omega), List.getElem?_set_self (by simp; omega)]
        simp
      · rw [List.getElem?_set_self (by simp; omega)]
        simp
    · rw [if_neg h2, List.getElem?_eq_none (by rw [List.length_append, List.length_take]; simp; omega)]

/-- Four cells that are a block of their own. -/
def Four (w : World) (t : TypeId) (k : Nat) (a b c d : Value) : Prop := w.ownsRow k t 4 (.slice (some ⟨k, 0, none⟩) 1 1) 1 [a, b, c, d]
theorem Four.at (w : World) (a b c d : Value) (t : TypeId) {k : Nat} (hk : k = w.heap.size) : Four (w.alloc (.cells #[a, b, c, d] t)) t k a b c d := by
  subst hk
  exact ⟨rfl, .inr ⟨w.heap.size, 1, #[a, b, c, d], rfl, Nat.le_refl _, by show (w.heap.push _)[w.heap.size]? = _; rw [Array.getElem?_push_size], Nat.le_refl _, by unfold maxLen; omega, rfl, rfl⟩⟩
theorem Four.new (w : World) (a b c d : Value) (t : TypeId) : Four (w.alloc (.cells #[a, b, c, d] t)) t w.heap.size a b c d := Four.at w a b c d t rfl
theorem Four.below {w w' : World} {t : TypeId} {k : Nat} {a b c d : Value} (h : Four w t k a b c d) (hB : Below w.heap.size w w') : Four w' t k a b c d := ownsRow_below h hB
theorem Four.c {w : World} {t : TypeId} {k : Nat} {a b c d : Value} (h : Four w t k a b c d) : w.cell? ⟨k, 0, none⟩ = some a ∧ w.cell? ⟨k, 1, none⟩ = some b ∧ w.cell? ⟨k, 2, none⟩ = some c ∧ w.cell? ⟨k, 3, none⟩ = some d :=
  ⟨World.ownsRow.cellAt h 0 (by omega), World.ownsRow.cellAt h 1 (by omega), World.ownsRow.cellAt h 2 (by omega), World.ownsRow.cellAt h 3 (by omega)⟩
theorem Four.f {w : World} {t : TypeId} {k : Nat} {a b c d : Value} (h : Four w t k a b c d) (j : Nat) : w.frozen? ⟨k, j, none⟩ = false := World.ownsRow.frozenAt h j
theorem Four.s0 {w : World} {t : TypeId} {k : Nat} {a b c d : Value} (h : Four w t k a b c d) (x : Value) : Four (w.setCell ⟨k, 0, none⟩ x) t k x b c d := (World.ownsRow.stored h 0 x).1
theorem Four.s1 {w : World} {t : TypeId} {k : Nat} {a b c d : Value} (h : Four w t k a b c d) (x : Value) : Four (w.setCell ⟨k, 1, none⟩ x) t k a x c d := (World.ownsRow.stored h 1 x).1
theorem Four.s2 {w : World} {t : TypeId} {k : Nat} {a b c d : Value} (h : Four w t k a b c d) (x : Value) : Four (w.setCell ⟨k, 2, none⟩ x) t k a b x d := (World.ownsRow.stored h 2 x).1
theorem Four.s3 {w : World} {t : TypeId} {k : Nat} {a b c d : Value} (h : Four w t k a b c d) (x : Value) : Four (w.setCell ⟨k, 3, none⟩ x) t k a b c x := (World.ownsRow.stored h 3 x).1
theorem Four.other {w : World} {t : TypeId} {k : Nat} {a b c d : Value} (h : Four w t k a b c d) {k' : Nat} (hk : k ≠ k') (j : Nat) (x : Value) : Four (w.setCell ⟨k', j, none⟩ x) t k a b c d := ownsRow_setCell_other h (by simpa [Value.ownBlock] using hk) x
theorem Four.lt {w : World} {t : TypeId} {k : Nat} {a b c d : Value} (h : Four w t k a b c d) : k < w.heap.size := (World.ownsRow.lt h k rfl).2

set_option maxHeartbeats 1000000 in
theorem szIntS_any (v : Value) (zs : List Int) (n : Int) (w : World) (h0 : 0 ≤ n) (h1 : n ≤ 1048576) (hm : zs.length ≤ maxLen) (hr : VS w v (nums zs)) :
    Calls Try.prog 64 #[v, .int .i64 n] w fun e w' => e = .returned (.int .i64 (left1 n zs.length)) ∧ Below w.heap.size w w' := by
  obtain ⟨a, cap, rfl⟩ := hr.numLen
  unfold maxLen at hm
  by_cases c0 : n < zs.length
  · have HR := hid (show left1 n zs.length = -1 from if_neg (by omega))
    go_enter Try.func64, Try.ntmps64
    go_wp2
    go_ret
    exact ⟨ret_int HR.out.symm, Below.refl _ _⟩
  · have HR := hid (show left1 n zs.length = n - zs.length from if_pos (by omega))
    have d0 : decide (n - (zs.length : Int) < 0) = false := by simp; omega
    go_enter Try.func64, Try.ntmps64
    go_wp2
    go_ret
    exact ⟨ret_int HR.out.symm, Below.refl _ _⟩

theorem row_slice {w : World} {base : Nat} {e : TypeId} {size n : Nat} {v : Value} {xs : List Value} (h : w.ownsRow base e size v n xs) : ∃ a m c, v = .slice a m c := by
  rcases h.2 with ⟨h, _⟩ | ⟨g, cap, cur, hv, _⟩
  · exact ⟨_, _, _, h⟩
  · exact ⟨_, _, _, hv⟩

theorem row_four {w : World} {base : Nat} {e : TypeId} {size n : Nat} {v : Value} {xs : List Value} (h : w.ownsRow base e size v n xs) {k : Nat} (hk : k < base) (x0 x1 x2 x3 : Value) : ((((w.setCell ⟨k, 0, none⟩ x0).setCell ⟨k, 1, none⟩ x1).setCell ⟨k, 2, none⟩ x2).setCell ⟨k, 3, none⟩ x3).ownsRow base e size v n xs :=
  ownsRow_setCell_below (ownsRow_setCell_below (ownsRow_setCell_below (ownsRow_setCell_below h (a := ⟨k, 0, none⟩) hk x0) (a := ⟨k, 1, none⟩) hk x1) (a := ⟨k, 2, none⟩) hk x2) (a := ⟨k, 3, none⟩) hk x3
theorem below_four {n k : Nat} {w W : World} (h : Below n w W) (hk : n ≤ k) (x0 x1 x2 x3 : Value) : Below n w ((((W.setCell ⟨k, 0, none⟩ x0).setCell ⟨k, 1, none⟩ x1).setCell ⟨k, 2, none⟩ x2).setCell ⟨k, 3, none⟩ x3) :=
  (((h.setCell (p := ⟨k, 0, none⟩) hk x0).setCell (p := ⟨k, 1, none⟩) hk x1).setCell (p := ⟨k, 2, none⟩) hk x2).setCell (p := ⟨k, 3, none⟩) hk x3

def mkN (k n : Nat) : List Int := (List.range n).map (fun i => ((k + i : Nat) : Int))
theorem mkN_len (k n : Nat) : (mkN k n).length = n := by simp [mkN]
theorem mkN_succ (k n : Nat) : mkN k (n + 1) = mkN k n ++ [((k + n : Nat) : Int)] := by
  unfold mkN
  rw [List.range_succ, List.map_append]
  rfl
theorem mkN_at {k n i : Nat} (h : i < (mkN k n).length) : (mkN k n)[i] = ((k + i : Nat) : Int) := by simp [mkN]

set_option maxHeartbeats 1000000 in
theorem markIntS_to (v : Value) (n k base : Nat) (xs : List Value) (w : World) (hn : n ≤ 1048577) (hk : k + n ≤ 8000000) (hrow : w.ownsRow base 3 1 v n xs) :
    Calls Try.prog 50 #[v, .int .i64 k] w fun e w' => e = .returned (.int .i64 ((k + n : Nat) : Int)) ∧ w'.ownsRow base 3 1 v n (nums (mkN k n)) ∧ w.grownBy w' v.ownBlock := by
  rcases row_form hrow with ⟨rfl, rfl⟩ | ⟨g, cap, rfl, hg, hcap⟩
  · go_enter Try.func50, Try.ntmps50
    go_wp2
    refine wp_loop_rounds 1 ?_
    rw [rounds_succ]
    go_wp2
    go_ret
    exact ⟨rfl, World.ownsRow_nil _ _ _ _, grown_self _ _⟩
  · go_enter Try.func50, Try.ntmps50
    go_wp2
    go_loopw [1, 5] (fun kv i wr => ∃ (j c : Nat), j ≤ n ∧ c = k + j ∧ kv = .int .i64 c ∧ i = .int .i64 j ∧ ∃ ys, wr.ownsRow base 3 1 (.slice (some ⟨g, 0, none⟩) n cap) n ys ∧ ys.take j = nums (mkN k j) ∧ w.grownBy wr (some g)) (fun _ i _ => n - (intOf i).toNat)
    case atStart => exact ⟨0, k, Nat.zero_le _, by omega, rfl, rfl, xs, hrow, by simp [mkN], grown_self _ _⟩
    case round =>
      obtain ⟨j, c, hj, hc, rfl, rfl, ys, row0, hx, hg0⟩ := hrel
      have HX := hid hx
      have HC := hid hc
      clear hx hc hrow
      have hc9 : c ≤ 8000000 := by have := HC.out; omega
      by_cases hlt : j < n
      · have hlen : ys.length = n := by have := row0.1; omega
        have s0 := row0.cellAt j (by omega)
        rw [List.getElem?_eq_getElem (by omega)] at s0
        have t0 := row0.frozenAt j
        have P0 := row0.stored j (.int .i64 (c : Int))
        have HM := hid (show nums (mkN k (j + 1)) = nums (mkN k j) ++ [.int .i64 (c : Int)] by rw [mkN_succ, ← HC.out]; simp [nums])
        go_wp2
        go_roundw
        case rel =>
          refine ⟨j + 1, c + 1, by omega, by have := HC.out; omega, by go_num, by go_num, _, P0.1, ?_, grown_two hg0 P0.2⟩
          rw [take_one _ _ _ (by omega), HX.out, HM.out]
        case measure => simp [intOf]; omega
      · obtain rfl : j = n := by omega
        have HF := hid (show ys = nums (mkN k j) by have := HX.out; rw [List.take_of_length_le (by have := row0.1; omega)] at this; exact this)
        go_wp2
        go_ret
        exact ⟨ret_int (by rw [HC.out]), by rw [← HF.out]; exact row0, hg0⟩

set_option maxHeartbeats 1000000 in
theorem heldIntS_to (v : Value) (n k : Nat) (w : World) (hn : n ≤ 1048577) (hk : k + n ≤ 8000000) (hr : VS w v (nums (mkN k n))) :
    Calls Try.prog 57 #[v, .int .i64 k] w fun e w' => e = .returned (.int .i64 ((k + n : Nat) : Int)) ∧ Below w.heap.size w w' := by
  obtain ⟨a, cap, rfl⟩ := hr.numLen
  have hln := mkN_len k n
  rw [hln] at hr ⊢
  clear hln
  go_enter Try.func57, Try.ntmps57
  go_wp2
  go_loopw [1, 5] (fun kv i wr => ∃ (j c : Nat), j ≤ n ∧ c = k + j ∧ kv = .int .i64 c ∧ i = .int .i64 j ∧ Below w.heap.size w wr) (fun _ i _ => n - (intOf i).toNat)
  case atStart => exact ⟨0, k, Nat.zero_le _, by omega, rfl, rfl, Below.refl _ _⟩
  case round =>
    obtain ⟨j, c, hj, hc, rfl, rfl, hB⟩ := hrel
    have HC := hid hc
    clear hc
    have hc9 : c ≤ 8000000 := by have := HC.out; omega
    by_cases hlt : j < n
    · obtain ⟨b, off, rfl, hb, hcap, q0⟩ := (hr.below hB).num (i := j) (by rw [mkN_len]; exact hlt)
      rw [mkN_at, ← HC.out] at q0
      clear hr
      go_wp2
      go_roundw
      case rel => exact ⟨j + 1, c + 1, by omega, by have := HC.out; omega, by go_num, by go_num, hB⟩
      case measure => simp [intOf]; omega
    · obtain rfl : j = n := by omega
      go_wp2
      go_ret
      exact ⟨ret_int (by rw [HC.out]), hB⟩

/-- Only blocks from lo on, below hi, and new ones have turned. -/
structure Mid (lo hi : Nat) (w w' : World) : Prop where
  os : w'.os = w.os
  tape : w'.tape = w.tape
  output : w'.output = w.output
  size : w.heap.size ≤ w'.heap.size
  block : ∀ k, k < w.heap.size → (k < lo ∨ hi ≤ k) → w'.heap[k]? = w.heap[k]?
theorem Mid.trans {lo hi : Nat} {w w1 w2 : World} (h : Mid lo hi w w1) (h2 : Mid lo hi w1 w2) : Mid lo hi w w2 :=
  ⟨h2.os.trans h.os, h2.tape.trans h.tape, h2.output.trans h.output, Nat.le_trans h.size h2.size, fun k hk hn => (h2.block k (Nat.lt_of_lt_of_le hk h.size) hn).trans (h.block k hk hn)⟩
theorem Mid.of_below {lo hi : Nat} {w w1 : World} (h : Below w.heap.size w w1) : Mid lo hi w w1 :=
  ⟨h.os, h.tape, h.output, h.size, fun k hk _ => h.block k hk⟩
theorem Mid.of_grown {lo hi : Nat} {w w1 : World} {r : Option Nat} (h : w.grownBy w1 r) (hr : ∀ k, r = some k → lo ≤ k ∧ k < hi) : Mid lo hi w w1 :=
  ⟨h.os, h.tape, h.output, h.size, fun k hk hn => h.block k hk (fun e => by have := hr k e.symm; omega)⟩
theorem Mid.below {lo hi n : Nat} {w w1 : World} (h : Mid lo hi w w1) (hn : n ≤ lo) (hs : n ≤ w.heap.size) : Below n w w1 :=
  ⟨h.os, h.tape, h.output, h.size, fun k hk => h.block k (by omega) (.inl (by omega))⟩
theorem Mid.row {lo hi : Nat} {w w1 : World} (h : Mid lo hi w w1) {base : Nat} {e : TypeId} {size n : Nat} {v : Value} {xs : List Value} (hr : w.ownsRow base e size v n xs) (ho : ∀ k, v.ownBlock = some k → k < lo ∨ hi ≤ k) : w1.ownsRow base e size v n xs := by
  refine ⟨hr.1, ?_⟩
  rcases hr.2 with hv | ⟨g, cap, cur, rfl, hg, hb, h4⟩
  · exact .inl hv
  · exact .inr ⟨g, cap, cur, rfl, hg, (h.block g (Array.getElem?_eq_some_iff.1 hb).1 (ho g rfl)).trans hb, h4⟩

theorem Mid.four {lo hi : Nat} {w w1 : World} (h : Mid lo hi w w1) {t : TypeId} {k : Nat} {a b c d : Value} (hr : Four w t k a b c d) (ho : k < lo ∨ hi ≤ k) : Four w1 t k a b c d :=
  h.row hr (fun j hj => by simp [Value.ownBlock] at hj; omega)

theorem Mid.app {lo hi : Nat} {w w1 w2 : World} {r : Option Nat} (h : Mid lo hi w w1) (hg : w1.grownBy w2 r) (hr : ∀ k, r = some k → w.heap.size ≤ k) : Mid lo hi w w2 :=
  ⟨hg.os.trans h.os, hg.tape.trans h.tape, hg.output.trans h.output, Nat.le_trans h.size hg.size, fun k hk hn => (hg.block k (Nat.lt_of_lt_of_le hk h.size) (fun e => by have := hr k e.symm; omega)).trans (h.block k hk hn)⟩
theorem Mid.set {lo hi : Nat} {w w1 : World} (h : Mid lo hi w w1) {p : Addr} (hp : lo ≤ p.block) (hp2 : p.block < hi) (u : Value) : Mid lo hi w (w1.setCell p u) :=
  ⟨h.os, h.tape, h.output, by rw [World.size_setCell]; exact h.size, fun k hk hn => (Below.heap_setCell w1 p u k (by omega)).trans (h.block k hk hn)⟩
theorem row_kind {w : World} {B : Nat} {e : TypeId} {size : Nat} {v : Value} {n : Nat} {xs : List Value} (h : w.ownsRow B e size v n xs) : ∀ g, v.ownBlock = some g → ∃ c, w.heap[g]? = some (.cells c e (0, 0)) := by
  intro g hg
  rcases h.2 with ⟨rfl, _⟩ | ⟨g', cap, cur, rfl, _, hgg, _⟩
  · simp [Value.ownBlock] at hg
  · simp [Value.ownBlock] at hg
    subst hg
    exact ⟨cur, hgg⟩
/-- Rows of different kinds lie apart. -/
theorem row_apart {w : World} {b1 b2 : Nat} {e1 e2 : TypeId} {s1 s2 n1 n2 : Nat} {v1 v2 : Value} {x1 x2 : List Value} (h1 : w.ownsRow b1 e1 s1 v1 n1 x1) (h2 : w.ownsRow b2 e2 s2 v2 n2 x2) (hne : e1 ≠ e2) : ∀ k, v1.ownBlock = some k → v2.ownBlock = some k → False := fun k hk1 hk2 => by
  obtain ⟨c1, g1⟩ := row_kind h1 k hk1
  obtain ⟨c2, g2⟩ := row_kind h2 k hk2
  rw [g1] at g2
  injection g2 with g2
  injection g2 with _ g2 _
  exact hne g2

end Go.Proofs.Ytnbojbcljfiamaa

namespace Go.Proofs.Ytnbojbcljfiamaa

/-- Where the byte stands first. -/
def fI (s : ByteArray) (b : UInt8) : Option Nat := s.data.toList.findIdx? (fun x => x == b)
theorem fI_lt {s : ByteArray} {b : UInt8} {i : Nat} (h : fI s b = some i) : i < s.size := by
  unfold fI at h
  have := List.findIdx?_eq_some_iff_getElem.1 h
  obtain ⟨h1, _⟩ := this
  simpa using h1
theorem fI_at {s : ByteArray} {b : UInt8} {i : Nat} (h : fI s b = some i) : s[i]'(fI_lt h) = b := by
  have := List.findIdx?_eq_some_iff_getElem.1 h
  obtain ⟨h1, h2, _⟩ := this
  simp at h2
  exact h2
theorem fI_ahead {s : ByteArray} {b : UInt8} {i : Nat} (h : fI s b = some i) (j : Nat) (hj : j < i) (hs : j < s.size) : s[j] ≠ b := by
  have := List.findIdx?_eq_some_iff_getElem.1 h
  obtain ⟨h1, _, h3⟩ := this
  have := h3 j hj
  simp at this
  exact this
theorem fI_none {s : ByteArray} {b : UInt8} (h : fI s b = none) (j : Nat) (hs : j < s.size) : s[j] ≠ b := by
  unfold fI at h
  rw [List.findIdx?_eq_none_iff] at h
  intro e
  have := h s[j] (by
    have : s.data.toList[j]'(by simpa using hs) = s[j] := by simp; rfl
    rw [← this]
    exact List.getElem_mem _)
  rw [e] at this
  simp at this
theorem idx_fI : ∀ (l : List UInt8) (b : UInt8), Lib.indexByte l b = match l.findIdx? (fun x => x == b) with
    | some i => (i : Int)
    | none => -1
  | [], _ => rfl
  | x :: l, b => by
    have ih := idx_fI l b
    unfold Lib.indexByte
    rw [List.findIdx?_cons]
    by_cases hx : (x == b) = true
    · simp [hx]
    · rw [if_neg hx, if_neg hx]
      cases h : l.findIdx? (fun x => x == b) with
      | none => rw [h] at ih; rw [ih]; rfl
      | some i =>
        rw [h] at ih
        rw [ih]
        have : ((i : Int) == -1) = false := by
          rw [beq_eq_false_iff_ne]
          omega
        simp [this]
theorem index_some {s : ByteArray} {b : UInt8} {i : Nat} (h : fI s b = some i) : Lib.indexByte s.data.toList b = i := by
  unfold fI at h
  rw [idx_fI, h]
theorem index_none {s : ByteArray} {b : UInt8} (h : fI s b = none) : Lib.indexByte s.data.toList b = -1 := by
  unfold fI at h
  rw [idx_fI, h]
theorem sp_none (s : ByteArray) (b : UInt8) : ∀ i, i ≤ s.size → (∀ j (_ : j < i) (hs : j < s.size), s[j] ≠ b) → spP s b i = ([], 0)
  | 0, _, _ => rfl
  | i + 1, hi, h => by
    rw [sp_miss s b i (by omega) (h i (by omega) (by omega))]
    exact sp_none s b i (by omega) (fun j hj hs => h j (by omega) hs)
theorem split_none {s : ByteArray} {b : UInt8} (h : fI s b = none) : split s b = [s] := by
  have := sp_none s b s.size (Nat.le_refl _) (fun j _ hs => fI_none h j hs)
  rw [split_end]
  unfold spL spA
  rw [this]
  simp
theorem sp_shift {s : ByteArray} {b : UInt8} {i : Nat} (h : fI s b = some i) : ∀ k, k ≤ (s.extract (i + 1) s.size).size + 1 →
    spP s b (i + 1 + k) = (s.extract 0 i :: (spP (s.extract (i + 1) s.size) b k).1, i + 1 + (spP (s.extract (i + 1) s.size) b k).2)
  | 0, _ => by
    have h0 := sp_none s b i (Nat.le_of_lt (fI_lt h)) (fun j hj hs => fI_ahead h j hj hs)
    have hl := spL_hit s b i (fI_lt h) (fI_at h)
    have ha := spA_hit s b i (fI_lt h) (fI_at h)
    unfold spL spA at hl ha
    rw [h0] at hl
    refine Prod.ext ?_ ?_
    · rw [Nat.add_zero, hl]; rfl
    · rw [Nat.add_zero, ha]; rfl
  | k + 1, hk => by
    have ih := sp_shift h k (by omega)
    have hlt := fI_lt h
    have hsz : (s.extract (i + 1) s.size).size = s.size - (i + 1) := by rw [ByteArray.size_extract]; omega
    have hc : (i + 1 + k = s.size ∨ s.data.toList[i + 1 + k]? = some b) ↔ (k = (s.extract (i + 1) s.size).size ∨ (s.extract (i + 1) s.size).data.toList[k]? = some b) := by
      have e : (s.extract (i + 1) s.size).data.toList[k]? = s.data.toList[i + 1 + k]? := by
        rw [ByteArray.data_extract, Array.toList_extract, List.extract_eq_take_drop, List.getElem?_take]
        rw [hsz] at hk
        by_cases hks : k < s.size - (i + 1)
        · rw [if_pos hks, List.getElem?_drop]
        · rw [if_neg hks, List.getElem?_eq_none (by simp; omega)]
      rw [e, hsz]
      constructor
      · rintro (e | e)
        · exact .inl (by omega)
        · exact .inr e
      · rintro (e | e)
        · exact .inl (by omega)
        · exact .inr e
    rw [show i + 1 + (k + 1) = (i + 1 + k) + 1 from rfl, spP, spP]
    by_cases hh : k = (s.extract (i + 1) s.size).size ∨ (s.extract (i + 1) s.size).data.toList[k]? = some b
    · rw [if_pos hh, if_pos (hc.2 hh), ih]
      refine Prod.ext ?_ rfl
      have hx : s.extract (i + 1 + (spP (s.extract (i + 1) s.size) b k).2) (i + 1 + k) = (s.extract (i + 1) s.size).extract (spP (s.extract (i + 1) s.size) b k).2 k := by
        rw [ByteArray.extract_extract]
        congr 1
        omega
      simp only [hx, List.cons_append]
    · rw [if_neg hh, if_neg (fun h' => hh (hc.1 h')), ih]
theorem split_some {s : ByteArray} {b : UInt8} {i : Nat} (h : fI s b = some i) : split s b = s.extract 0 i :: split (s.extract (i + 1) s.size) b := by
  have hlt := fI_lt h
  have hsz : (s.extract (i + 1) s.size).size = s.size - (i + 1) := by rw [ByteArray.size_extract]; omega
  have := sp_shift h ((s.extract (i + 1) s.size).size + 1) (Nat.le_refl _)
  rw [show i + 1 + ((s.extract (i + 1) s.size).size + 1) = s.size + 1 by omega] at this
  unfold split spL
  rw [this]
/-- The part ahead, the part behind, and whether the byte is there. -/
def cutA (s : ByteArray) (b : UInt8) : ByteArray := match fI s b with
  | some i => s.extract 0 i
  | none => s
def cutB (s : ByteArray) (b : UInt8) : ByteArray := match fI s b with
  | some i => s.extract (i + 1) s.size
  | none => ⟨#[]⟩
def cutF (s : ByteArray) (b : UInt8) : Bool := (fI s b).isSome
theorem cut_some {s : ByteArray} {b : UInt8} {i : Nat} (h : fI s b = some i) : cutA s b = s.extract 0 i ∧ cutB s b = s.extract (i + 1) s.size ∧ cutF s b = true := by
  unfold cutA cutB cutF
  rw [h]
  exact ⟨rfl, rfl, rfl⟩
theorem cut_none {s : ByteArray} {b : UInt8} (h : fI s b = none) : cutA s b = s ∧ cutB s b = ⟨#[]⟩ ∧ cutF s b = false := by
  unfold cutA cutB cutF
  rw [h]
  exact ⟨rfl, rfl, rfl⟩
theorem split_head (s : ByteArray) (b : UInt8) : ∃ r, split s b = cutA s b :: r := by
  cases h : fI s b with
  | none => exact ⟨[], by rw [split_none h, (cut_none h).1]⟩
  | some i => exact ⟨_, by rw [split_some h, (cut_some h).1]⟩
theorem data_parts (s : ByteArray) (i : Nat) (h : i < s.size) : s.data.toList = (s.extract 0 i).data.toList ++ s[i] :: (s.extract (i + 1) s.size).data.toList := by
  have h0 : i < s.data.toList.length := by simpa using h
  have h1 : (s.extract 0 i).data.toList = s.data.toList.take i := by
    rw [ByteArray.data_extract, Array.toList_extract, List.extract_eq_take_drop]
    simp
  have h2 : (s.extract (i + 1) s.size).data.toList = s.data.toList.drop (i + 1) := by
    rw [ByteArray.data_extract, Array.toList_extract, List.extract_eq_take_drop]
    rw [List.take_of_length_le (by simp)]
  have h3 : s[i] = s.data.toList[i] := by simp; rfl
  rw [h1, h2, h3, ← List.drop_eq_getElem_cons h0, List.take_append_drop]

end Go.Proofs.Ytnbojbcljfiamaa

namespace Go.Proofs.Ytnbojbcljfiamaa

theorem bytes_same {a b : ByteArray} (h : a.data.toList = b.data.toList) : a = b := ByteArray.ext (Array.toList_inj.1 h)
theorem split_ne (s : ByteArray) (b : UInt8) : ∃ x r, split s b = x :: r := by
  obtain ⟨r, h⟩ := split_head s b
  exact ⟨_, r, h⟩
theorem empty_of {s : ByteArray} (h : s.toList.isEmpty = true) : s = ⟨#[]⟩ := by
  rw [toList_data] at h
  apply ByteArray.ext
  have : s.data.toList = [] := by simpa using h
  exact Array.toList_inj.1 (by rw [this])
/-- The library's cutting at one byte is ours. -/
theorem index_of_one (s : ByteArray) (c : UInt8) : Lib.indexB s ⟨#[c]⟩ = Lib.indexByte s.data.toList c := by
  show Lib.index s.data.toList [c] = _
  exact Lib.index_one _ _
theorem split_lib (c : UInt8) : ∀ (n : Nat) (s : ByteArray), s.size ≤ n → Lib.splitB ⟨#[c]⟩ 0 (Lib.countB s ⟨#[c]⟩) s = split s c := by
  intro n
  induction n with
  | zero =>
    intro s hs
    have hf : fI s c = none := by
      have : s.data.toList = [] := List.eq_nil_of_length_eq_zero (by rw [show s.data.toList.length = s.size by simp]; omega)
      unfold fI
      rw [this]
      rfl
    rw [Lib.splitB_miss _ _ _ _ (by rw [index_of_one, index_none hf]), split_none hf]
  | succ n ih =>
    intro s hs
    cases hf : fI s c with
    | none => rw [Lib.splitB_miss _ _ _ _ (by rw [index_of_one, index_none hf]), split_none hf]
    | some i =>
      have hlt := fI_lt hf
      have hi : Lib.indexB s ⟨#[c]⟩ = i := by rw [index_of_one, index_some hf]
      have hc := Lib.countB_hit s ⟨#[c]⟩ i (show 1 ≤ (⟨#[c]⟩ : ByteArray).size from Nat.le_refl _) hi
      rw [hc, Nat.add_comm 1, Lib.splitB_hit _ _ _ _ i hi, split_some hf]
      have hsz : (⟨#[c]⟩ : ByteArray).size = 1 := rfl
      rw [hsz, Nat.add_zero, ih (s.extract (i + 1) s.size) (by rw [ByteArray.size_extract]; omega)]
theorem no_ws {ch : UInt8} (hw : wordCh ch = false) (h42 : ch ≠ 42) {x : ByteArray} (h : wsB x = true) : ch ∉ x.data.toList := by
  unfold wsB at h
  rw [Bool.or_eq_true] at h
  rcases h with h | h
  · have h1 : x.data.toList = [42] := by simpa [starB, toList_data] using h
    rw [h1, List.mem_singleton]
    exact h42
  · unfold wordB wordTo at h
    rw [Bool.and_eq_true] at h
    intro hm
    have h2 := h.1
    rw [List.take_of_length_le (by simp)] at h2
    have := List.all_eq_true.1 h2 ch hm
    rw [hw] at this
    cases this
theorem no_star2 {ch : UInt8} (h42 : ch ≠ 42) {x : ByteArray} (h : star2B x = true) : ch ∉ x.data.toList := by
  have h1 : x.data.toList = [42, 42] := by simpa [star2B, toList_data] using h
  rw [h1]
  simp [h42]
theorem no_split {ch : UInt8} (h47 : ch ≠ 47) : ∀ (n : Nat) (s : ByteArray), s.size ≤ n → (∀ x ∈ split s 47, ch ∉ x.data.toList) → ch ∉ s.data.toList := by
  intro n
  induction n with
  | zero =>
    intro s hs h
    have : s.data.toList = [] := List.eq_nil_of_length_eq_zero (by rw [show s.data.toList.length = s.size by simp]; omega)
    rw [this]
    exact List.not_mem_nil
  | succ n ih =>
    intro s hs h
    cases hf : fI s 47 with
    | none =>
      rw [split_none hf] at h
      exact h s (by simp)
    | some i =>
      rw [split_some hf] at h
      have hlt := fI_lt hf
      have h1 := h _ (List.mem_cons_self)
      have h2 := ih (s.extract (i + 1) s.size) (by rw [ByteArray.size_extract]; omega) (fun x hx => h x (List.mem_cons_of_mem _ hx))
      rw [data_parts s i hlt, fI_at hf, List.mem_append, List.mem_cons]
      rintro (h3 | h3 | h3)
      · exact h1 h3
      · exact h47 h3
      · exact h2 h3
theorem no_pt {ch : UInt8} (hw : wordCh ch = false) (h42 : ch ≠ 42) : ∀ l : List ByteArray, ptOk l = true → ∀ x ∈ l, ch ∉ x.data.toList
  | [], _, x, hx => by cases hx
  | y :: r, h, x, hx => by
    unfold ptOk at h
    split at h
    · rename_i h2
      have hr : r = [] := by simpa using h
      subst hr
      rw [List.mem_singleton] at hx
      subst hx
      exact no_star2 h42 h2
    · rw [Bool.and_eq_true] at h
      rw [List.mem_cons] at hx
      rcases hx with rfl | hx
      · exact no_ws hw h42 h.1
      · exact no_pt hw h42 r h.2 x hx
theorem no_path {ch : UInt8} (hw : wordCh ch = false) (h42 : ch ≠ 42) (h47 : ch ≠ 47) {s : ByteArray} (h : ptBs s = true) : ch ∉ s.data.toList := by
  cases h0 : slashB s
  · cases h1 : headB s
    · have hp : pathPs s = none := by
        unfold pathPs
        rw [h0, h1]
        rfl
      unfold ptBs at h
      rw [hp] at h
      cases h
    · unfold ptBs at h
      rw [pathPs_head h0 h1] at h
      simp only [ptB_eq, Bool.and_eq_true] at h
      have h2 := no_split h47 _ (s.extract 1 s.size) (Nat.le_refl _) (no_pt hw h42 _ h.1)
      have hs : 0 < s.size := by
        rcases Nat.eq_zero_or_pos s.size with hz | hz
        · have : s.data.toList = [] := List.eq_nil_of_length_eq_zero (by rw [show s.data.toList.length = s.size by simp]; omega)
          unfold headB at h1
          rw [this] at h1
          cases h1
        · exact hz
      have hd := data_parts s 0 hs
      have h4 : (s.extract 0 0).data.toList = [] := by
        rw [ByteArray.data_extract, Array.toList_extract, List.extract_eq_take_drop]
        simp
      rw [h4, List.nil_append] at hd
      unfold headB at h1
      rw [hd] at h1
      have h5 : s[0] = 47 := by simpa using h1
      rw [hd, h5, List.mem_cons]
      rintro (h6 | h6)
      · exact h47 h6
      · exact h2 h6
  · have h1 : s.data.toList = [47] := by simpa [slashB, toList_data] using h0
    rw [h1, List.mem_singleton]
    exact h47
theorem no_name {ch : UInt8} (hw : wordCh ch = false) (h42 : ch ≠ 42) (h47 : ch ≠ 47) {s : ByteArray} (h : nmB (split s 47) = true) : ch ∉ s.data.toList := by
  rw [nmB_eq, Bool.and_eq_true, List.all_eq_true] at h
  exact no_split h47 _ s (Nat.le_refl _) (fun x hx => no_ws hw h42 (h.2 x hx))
/-! A text parted at a byte that its first part has not. -/
theorem fI_parts {ch : UInt8} : ∀ (a b : List UInt8), ch ∉ a → (a ++ ch :: b).findIdx? (fun x => x == ch) = some a.length
  | [], b, _ => by rw [List.nil_append, List.findIdx?_cons]; simp
  | x :: a, b, h => by
    have hx : (x == ch) = false := by
      rw [beq_eq_false_iff_ne]
      rintro rfl
      exact h List.mem_cons_self
    rw [List.cons_append, List.findIdx?_cons, hx, fI_parts a b (fun hm => h (List.mem_cons_of_mem _ hm))]
    simp
theorem bytes_of (s : ByteArray) : s = ⟨s.data.toList.toArray⟩ := by
  apply ByteArray.ext
  simp
theorem ext_front (a b : List UInt8) : (⟨(a ++ b).toArray⟩ : ByteArray).extract 0 a.length = ⟨a.toArray⟩ := by
  apply bytes_same
  rw [ByteArray.data_extract, Array.toList_extract, List.extract_eq_take_drop]
  simp
theorem ext_back (a b : List UInt8) (ch : UInt8) : (⟨(a ++ ch :: b).toArray⟩ : ByteArray).extract (a.length + 1) (⟨(a ++ ch :: b).toArray⟩ : ByteArray).size = ⟨b.toArray⟩ := by
  apply bytes_same
  rw [ByteArray.data_extract, Array.toList_extract, List.extract_eq_take_drop]
  have h1 : (⟨(a ++ ch :: b).toArray⟩ : ByteArray).size = a.length + 1 + b.length := by
    show (a ++ ch :: b).toArray.size = _
    simp
    omega
  rw [h1, List.take_of_length_le (by simp)]
  show (a ++ ch :: b).drop (a.length + 1) = b
  rw [← List.drop_drop, List.drop_left]
  rfl
theorem split_parts {ch : UInt8} (a b : List UInt8) (h : ch ∉ a) : split ⟨(a ++ ch :: b).toArray⟩ ch = ⟨a.toArray⟩ :: split ⟨b.toArray⟩ ch := by
  have hf : fI ⟨(a ++ ch :: b).toArray⟩ ch = some a.length := fI_parts a b h
  rw [split_some hf, ext_front, ext_back]
theorem split_one {ch : UInt8} (a : List UInt8) (h : ch ∉ a) : split ⟨a.toArray⟩ ch = [⟨a.toArray⟩] := by
  refine split_none ?_
  unfold fI
  rw [List.findIdx?_eq_none_iff]
  intro x hx
  rw [beq_eq_false_iff_ne]
  rintro rfl
  exact h (by simpa using hx)


end Go.Proofs.Ytnbojbcljfiamaa

namespace Go.Proofs.Ytnbojbcljfiamaa

/-- A link. -/
structure Lk where
  who : ByteArray
  to : ByteArray
  se : Int
  fr : Int
  un : Int
def seB (n : Int) : Bool := decide (1 ≤ n ∧ n ≤ 100000)
def tmB (n : Int) : Bool := decide (0 ≤ n ∧ n ≤ 100000)
def nmOk (s : ByteArray) : Bool := gnB (split s 47)
def Lk.good (k : Lk) : Bool := nmOk k.who && (nmOk k.to && (seB k.se && (tmB k.fr && (tmB k.un && decide (k.fr ≤ k.un)))))
def Lk.size (k : Lk) : Nat := k.who.size + k.to.size
theorem Lk.good_iff (k : Lk) : k.good = true ↔ nmOk k.who = true ∧ nmOk k.to = true ∧ (1 ≤ k.se ∧ k.se ≤ 100000) ∧ (0 ≤ k.fr ∧ k.fr ≤ 100000) ∧ (0 ≤ k.un ∧ k.un ≤ 100000) ∧ k.fr ≤ k.un := by
  unfold Lk.good seB tmB
  simp only [Bool.and_eq_true, decide_eq_true_eq]

/-- The i-th link is good, and follows the one ahead. -/
def lkAt (ks : List Lk) (i : Nat) : Bool := match ks[i]? with
  | some k => k.good && (i == 0 || (match ks[i - 1]? with
    | some p => p.to.toList == k.who.toList
    | none => false))
  | none => false
def tkTo (ks : List Lk) (n : Nat) : Bool := (List.range n).all (lkAt ks)
def tkB (ks : List Lk) : Bool := tkTo ks ks.length && decide (1 ≤ ks.length ∧ ks.length ≤ 6)
theorem tkTo_zero (ks : List Lk) : tkTo ks 0 = true := rfl
theorem tkTo_succ (ks : List Lk) (n : Nat) : tkTo ks (n + 1) = (tkTo ks n && lkAt ks n) := by
  unfold tkTo
  rw [List.range_succ, List.all_append]
  simp
theorem lkAt_zero {ks : List Lk} (h : 0 < ks.length) : lkAt ks 0 = ks[0].good := by
  unfold lkAt
  rw [List.getElem?_eq_getElem h]
  simp
theorem lkAt_succ {ks : List Lk} {n : Nat} (h : n + 1 < ks.length) : lkAt ks (n + 1) = (ks[n + 1].good && (ks[n].to.toList == ks[n + 1].who.toList)) := by
  unfold lkAt
  rw [List.getElem?_eq_getElem h, Nat.add_sub_cancel, List.getElem?_eq_getElem (by omega : n < ks.length)]
  simp
theorem tk_bad {ks : List Lk} {n : Nat} (h : n < ks.length) (hb : lkAt ks n = false) : tkB ks = false := by
  have : tkTo ks ks.length = false := by
    unfold tkTo
    rw [List.all_eq_false]
    exact ⟨n, List.mem_range.2 h, by rw [hb]; exact Bool.false_ne_true⟩
  unfold tkB
  rw [this]
  rfl
theorem tk_len {ks : List Lk} (h : ¬ (1 ≤ ks.length ∧ ks.length ≤ 6)) : tkB ks = false := by
  unfold tkB
  rw [decide_eq_false h, Bool.and_false]
theorem tk_end {ks : List Lk} (h : tkTo ks ks.length = true) : tkB ks = decide (1 ≤ ks.length ∧ ks.length ≤ 6) := by
  unfold tkB
  rw [h, Bool.true_and]
theorem tkB_len {ks : List Lk} (h : tkB ks = true) : 1 ≤ ks.length ∧ ks.length ≤ 6 := by
  unfold tkB at h
  rw [Bool.and_eq_true, decide_eq_true_eq] at h
  exact h.2
theorem tkTo_good {ks : List Lk} {n : Nat} (h : tkTo ks n = true) (i : Nat) (hi : i < n) (hl : i < ks.length) : ks[i].good = true := by
  unfold tkTo at h
  have := List.all_eq_true.1 h i (List.mem_range.2 hi)
  cases i with
  | zero => rwa [lkAt_zero hl] at this
  | succ i =>
    rw [lkAt_succ hl, Bool.and_eq_true] at this
    exact this.1
theorem tkB_good {ks : List Lk} (h : tkB ks = true) (k : Lk) (hk : k ∈ ks) : k.good = true := by
  unfold tkB at h
  rw [Bool.and_eq_true] at h
  obtain ⟨i, hi, rfl⟩ := List.getElem_of_mem hk
  exact tkTo_good h.1 i hi hi

/-- A number's text. -/
def numT (n : Int) : ByteArray := ⟨(Lib.itoa n).toArray⟩
theorem dd_dig (u : Nat) : ∀ b ∈ Lib.decDigits u, 48 ≤ b.toNat ∧ b.toNat ≤ 57 := by
  induction u using Nat.strongRecOn with
  | _ u ih =>
    intro b hb
    have hd : ∀ d, d < 10 → (UInt8.ofNat (48 + d)).toNat = 48 + d := fun d hd => by
      rw [UInt8.toNat_ofNat']
      omega
    by_cases h : u < 10
    · rw [Lib.decDigits, dif_pos h, List.mem_singleton] at hb
      rw [hb, hd u h]
      omega
    · rw [Lib.decDigits, dif_neg h, List.mem_append, List.mem_singleton] at hb
      rcases hb with hb | hb
      · exact ih (u / 10) (by omega) b hb
      · rw [hb, hd _ (Nat.mod_lt _ (by decide))]
        omega
theorem itoa_pos {n : Int} (h : 0 ≤ n) : Lib.itoa n = Lib.decDigits n.toNat := by
  unfold Lib.itoa
  rw [if_neg (by omega)]
theorem no_num {ch : UInt8} (h : ¬ (48 ≤ ch.toNat ∧ ch.toNat ≤ 57)) {n : Int} (hn : 0 ≤ n) : ch ∉ Lib.itoa n := by
  rw [itoa_pos hn]
  exact fun hm => h (dd_dig _ _ hm)
theorem decFrom_snoc : ∀ (l : List UInt8) (acc : Nat) (b : UInt8), Lib.decFrom acc (l ++ [b]) = match Lib.decFrom acc l with
    | some n => (match Lib.digitVal b with
      | some d => some (n * 10 + d)
      | none => none)
    | none => none
  | [], acc, b => by
    simp only [List.nil_append, Lib.decFrom]
    cases Lib.digitVal b <;> rfl
  | x :: l, acc, b => by
    simp only [List.cons_append, Lib.decFrom]
    cases Lib.digitVal x with
    | none => rfl
    | some d => exact decFrom_snoc l _ b
theorem digit_of (d : Nat) (h : d < 10) : Lib.digitVal (UInt8.ofNat (48 + d)) = some d := by
  have : (UInt8.ofNat (48 + d)).toNat = 48 + d := by rw [UInt8.toNat_ofNat']; omega
  unfold Lib.digitVal
  rw [this, if_pos (by omega)]
  congr 1
  omega
theorem dec_back (u : Nat) : Lib.decFrom 0 (Lib.decDigits u) = some u := by
  induction u using Nat.strongRecOn with
  | _ u ih =>
    by_cases h : u < 10
    · rw [Lib.decDigits, dif_pos h]
      simp only [Lib.decFrom, digit_of u h]
      simp
    · rw [Lib.decDigits, dif_neg h, decFrom_snoc, ih (u / 10) (by omega), digit_of _ (Nat.mod_lt _ (by decide))]
      simp only
      congr 1
      omega
theorem dd_head (u : Nat) (h : 0 < u) : (Lib.decDigits u).head? ≠ some 48 := by
  induction u using Nat.strongRecOn with
  | _ u ih =>
    by_cases h1 : u < 10
    · rw [Lib.decDigits, dif_pos h1]
      intro e
      have e1 : UInt8.ofNat (48 + u) = 48 := by simpa using e
      have : (UInt8.ofNat (48 + u)).toNat = 48 + u := by rw [UInt8.toNat_ofNat']; omega
      rw [e1] at this
      have e2 : (48 : UInt8).toNat = 48 := rfl
      omega
    · rw [Lib.decDigits, dif_neg h1, List.head?_append]
      have h2 := ih (u / 10) (by omega) (by omega)
      cases h3 : (Lib.decDigits (u / 10)).head? with
      | none =>
        have : Lib.decDigits (u / 10) = [] := List.head?_eq_none_iff.1 h3
        have h4 := Lib.decDigits_length (u / 10)
        rw [this] at h4
        have := Lib.nDigits_pos (u / 10)
        simp at h4
        omega
      | some x =>
        rw [h3] at h2
        simpa using h2
theorem dd_len6 {u : Nat} (h : u < 1000000) : 1 ≤ (Lib.decDigits u).length ∧ (Lib.decDigits u).length ≤ 6 := by
  rw [Lib.decDigits_length]
  refine ⟨Lib.nDigits_pos u, ?_⟩
  rcases Nat.lt_or_ge 6 (Lib.nDigits u) with h1 | h1
  · exfalso
    have e : ∀ k, k ≤ 5 → 10 ^ k ≤ u → u < 10 ^ (k + 1) → False := fun k hk a b => by
      have := Lib.nDigits_unique k u a b
      omega
    by_cases c0 : u < 10
    · rw [Lib.nDigits_small c0] at h1
      omega
    · by_cases c1 : u < 100
      · exact e 1 (by omega) (by omega) (by omega)
      · by_cases c2 : u < 1000
        · exact e 2 (by omega) (by omega) (by omega)
        · by_cases c3 : u < 10000
          · exact e 3 (by omega) (by omega) (by omega)
          · by_cases c4 : u < 100000
            · exact e 4 (by omega) (by omega) (by omega)
            · have := Lib.nDigits_unique 5 u (by omega) (by omega)
              omega
  · exact h1
theorem itoa_len6 {n : Int} (h0 : 0 ≤ n) (h : n ≤ 100000) : 1 ≤ (Lib.itoa n).length ∧ (Lib.itoa n).length ≤ 6 := by
  rw [itoa_pos h0]
  exact dd_len6 (by omega)
theorem numT_size (n : Int) : (numT n).size = (Lib.itoa n).length := by
  unfold numT
  show (Lib.itoa n).toArray.size = _
  simp

/-- A number as the specification reads it. -/
def numR (s : ByteArray) : Int :=
  if decide (1 ≤ s.size ∧ s.size ≤ 6) && !(s.data.toList.head? == some 48 && decide (1 < s.size)) then (match Lib.decFrom 0 s.data.toList with
    | some n => (n : Int)
    | none => -1) else -1
/-- A number as the program reads it. -/
def numI (s : ByteArray) : Option Int := match Lib.atoiAll s.data.toList with
  | .ok n => if (Lib.itoa n == s.data.toList) = true then some n else none
  | _ => none
theorem numR_back {n : Int} (h0 : 0 ≤ n) (h : n ≤ 100000) : numR (numT n) = n := by
  obtain ⟨l1, l6⟩ := itoa_len6 h0 h
  have hd : (numT n).data.toList = Lib.decDigits n.toNat := by
    unfold numT
    rw [itoa_pos h0]
  unfold numR
  rw [numT_size, hd, dec_back, decide_eq_true ⟨l1, l6⟩]
  have hz : ((Lib.decDigits n.toNat).head? == some 48 && decide (1 < (Lib.itoa n).length)) = false := by
    by_cases hn : 0 < n.toNat
    · have : ((Lib.decDigits n.toNat).head? == some 48) = false := by
        rw [beq_eq_false_iff_ne]
        exact dd_head _ hn
      rw [this]
      rfl
    · have e : n.toNat = 0 := by omega
      rw [itoa_pos h0, e, Lib.decDigits_one (by decide)]
      decide
  rw [hz]
  simp
  omega
theorem atoi_itoa {n : Int} (h0 : 0 ≤ n) (h : n ≤ 100000) : Lib.atoi (Lib.itoa n) = some n := by
  have hp := itoa_pos h0
  obtain ⟨l1, l6⟩ := itoa_len6 h0 h
  rw [hp] at *
  cases hd : Lib.decDigits n.toNat with
  | nil => rw [hd] at l1; simp at l1
  | cons b r =>
    have hb := dd_dig n.toNat b (by rw [hd]; exact List.mem_cons_self)
    have h1 := dec_back n.toNat
    rw [hd] at h1
    unfold Lib.atoi
    have n1 : (b == 45) = false := by
      rw [beq_eq_false_iff_ne]
      rintro rfl
      exact absurd hb.1 (by decide)
    have n2 : (b == 43) = false := by
      rw [beq_eq_false_iff_ne]
      rintro rfl
      exact absurd hb.1 (by decide)
    simp only [n1, n2, if_false, Lib.decNat, List.isEmpty_cons, Bool.false_eq_true, h1, Option.map_some]
    congr 1
    omega
theorem numI_back {n : Int} (h0 : 0 ≤ n) (h : n ≤ 100000) : numI (numT n) = some n := by
  obtain ⟨l1, l6⟩ := itoa_len6 h0 h
  have hd : (numT n).data.toList = Lib.itoa n := rfl
  unfold numI
  rw [hd, Lib.atoiAll_short _ (by omega), atoi_itoa h0 h]
  simp [Lib.NumEnd.ofOption]
theorem numI_text {s : ByteArray} {n : Int} (h : numI s = some n) : numT n = s := by
  unfold numI at h
  split at h
  · split at h
    · rename_i m _ he
      cases h
      exact bytes_same (by simpa [numT] using he)
    · cases h
  · cases h

/-- A link's text. -/
def Lk.text (k : Lk) : ByteArray := k.who ++ ⟨#[32]⟩ ++ k.to ++ ⟨#[32]⟩ ++ numT k.se ++ ⟨#[32]⟩ ++ numT k.fr ++ ⟨#[32]⟩ ++ numT k.un ++ ⟨#[59]⟩
def Lk.body (k : Lk) : List UInt8 := k.who.data.toList ++ 32 :: (k.to.data.toList ++ 32 :: (Lib.itoa k.se ++ 32 :: (Lib.itoa k.fr ++ 32 :: Lib.itoa k.un)))
theorem Lk.text_list (k : Lk) : k.text.data.toList = k.body ++ [59] := by simp [Lk.text, Lk.body, numT]
def tkL (ks : List Lk) : List UInt8 := ks.flatMap (fun k => k.text.data.toList)
/-- A token's text. -/
def tkT (ks : List Lk) : ByteArray := ⟨(tkL ks).toArray⟩
theorem tkT_nil : tkT [] = ⟨#[]⟩ := rfl
theorem tkT_snoc (ks : List Lk) (k : Lk) : tkT (ks ++ [k]) = tkT ks ++ k.text := by
  apply bytes_same
  simp [tkT, tkL]
theorem tkT_succ {ks : List Lk} {n : Nat} (h : n < ks.length) : tkT (ks.take (n + 1)) = tkT (ks.take n) ++ ks[n].text := by
  rw [List.take_succ_eq_append_getElem h, tkT_snoc]
theorem tkL_cons (k : Lk) (ks : List Lk) : tkL (k :: ks) = k.body ++ 59 :: tkL ks := by
  unfold tkL
  rw [List.flatMap_cons, Lk.text_list]
  simp
theorem nm_of {s : ByteArray} (h : nmOk s = true) : nmB (split s 47) = true := by
  unfold nmOk gnB at h
  rw [Bool.and_eq_true] at h
  rw [nmB_eq, h.1, Bool.true_and, List.all_eq_true]
  intro x hx
  have := List.all_eq_true.1 h.2 x hx
  unfold wsB
  rw [this, Bool.or_true]
theorem body_split {k : Lk} (h : k.good = true) : split ⟨k.body.toArray⟩ 32 = [k.who, k.to, numT k.se, numT k.fr, numT k.un] := by
  obtain ⟨h1, h2, h3, h4, h5, _⟩ := (Lk.good_iff k).1 h
  unfold Lk.body
  rw [split_parts _ _ (no_name (by decide) (by decide) (by decide) (nm_of h1)), split_parts _ _ (no_name (by decide) (by decide) (by decide) (nm_of h2)), split_parts _ _ (no_num (by decide) (by omega)), split_parts _ _ (no_num (by decide) (by omega)), split_one _ (no_num (by decide) (by omega)), ← bytes_of, ← bytes_of]
  rfl
theorem body_end {k : Lk} (h : k.good = true) : (59 : UInt8) ∉ k.body := by
  obtain ⟨h1, h2, h3, h4, h5, _⟩ := (Lk.good_iff k).1 h
  unfold Lk.body
  have a1 := no_name (ch := 59) (by decide) (by decide) (by decide) (nm_of h1)
  have a2 := no_name (ch := 59) (by decide) (by decide) (by decide) (nm_of h2)
  have a3 := no_num (ch := 59) (by decide) (show 0 ≤ k.se by omega)
  have a4 := no_num (ch := 59) (by decide) (show 0 ≤ k.fr by omega)
  have a5 := no_num (ch := 59) (by decide) (show 0 ≤ k.un by omega)
  simp only [List.mem_append, List.mem_cons, not_or]
  exact ⟨a1, by decide, a2, by decide, a3, by decide, a4, by decide, a5⟩
theorem tk_split (ks : List Lk) (h : ∀ k ∈ ks, k.good = true) : split (tkT ks) 59 = ks.map (fun k => (⟨k.body.toArray⟩ : ByteArray)) ++ [⟨#[]⟩] := by
  induction ks with
  | nil => exact split_none rfl
  | cons k ks ih =>
    unfold tkT
    rw [tkL_cons, split_parts _ _ (body_end (h k List.mem_cons_self))]
    have := ih (fun x hx => h x (List.mem_cons_of_mem _ hx))
    unfold tkT at this
    rw [this]
    rfl

/-- A link read from its text, its numbers by f. -/
def rdLk (f : ByteArray → Option Int) (p : ByteArray) : Option Lk := match split p 32 with
  | [a, b, c, d, e] => (match f c, f d, f e with
    | some x, some y, some z => some ⟨a, b, x, y, z⟩
    | _, _, _ => none)
  | _ => none
theorem rdLk_five {f : ByteArray → Option Int} {p a b c d e : ByteArray} (h : split p 32 = [a, b, c, d, e]) : rdLk f p = (match f c, f d, f e with
    | some x, some y, some z => some ⟨a, b, x, y, z⟩
    | _, _, _ => none) := by
  unfold rdLk
  rw [h]
theorem five {l : List ByteArray} (h : l.length = 5) : ∃ a b c d e, l = [a, b, c, d, e] := by
  match l, h with
  | [a, b, c, d, e], _ => exact ⟨a, b, c, d, e, rfl⟩
theorem rdLk_other {f : ByteArray → Option Int} {p : ByteArray} (h : (split p 32).length ≠ 5) : rdLk f p = none := by
  unfold rdLk
  split
  · rename_i h1
    rw [h1] at h
    exact absurd rfl h
  · rfl
theorem rdLk_back {f : ByteArray → Option Int} (hf : ∀ n : Int, 0 ≤ n → n ≤ 100000 → f (numT n) = some n) {k : Lk} (h : k.good = true) : rdLk f ⟨k.body.toArray⟩ = some k := by
  obtain ⟨h1, h2, h3, h4, h5, _⟩ := (Lk.good_iff k).1 h
  rw [rdLk_five (body_split h), hf _ (by omega) (by omega), hf _ (by omega) (by omega), hf _ (by omega) (by omega)]

/-- The links of some texts. -/
def rdAll : List ByteArray → Option (List Lk)
  | [] => some []
  | x :: r => match rdLk (fun s => some (numR s)) x, rdAll r with
    | some k, some ks => some (k :: ks)
    | _, _ => none
theorem rdAll_cons (x : ByteArray) (r : List ByteArray) : rdAll (x :: r) = (match rdLk (fun s => some (numR s)) x, rdAll r with
    | some k, some ks => some (k :: ks)
    | _, _ => none) := rfl
theorem rdAll_snoc (l : List ByteArray) (x : ByteArray) : rdAll (l ++ [x]) = match rdAll l, rdLk (fun s => some (numR s)) x with
    | some ks, some k => some (ks ++ [k])
    | _, _ => none := by
  induction l with
  | nil =>
    simp only [List.nil_append, rdAll]
    cases rdLk (fun s => some (numR s)) x <;> rfl
  | cons y l ih =>
    simp only [List.cons_append, rdAll]
    rw [ih]
    cases rdLk (fun s => some (numR s)) y with
    | none => simp
    | some k =>
      cases rdAll l with
      | none => simp
      | some ks => cases rdLk (fun s => some (numR s)) x <;> simp
theorem rdAll_pre {p l : List ByteArray} (h : p <+: l) (hp : rdAll p = none) : rdAll l = none := by
  obtain ⟨t, rfl⟩ := h
  induction p with
  | nil => cases hp
  | cons x p ih =>
    rw [List.cons_append]
    rw [rdAll_cons] at hp ⊢
    cases h1 : rdLk (fun s => some (numR s)) x with
    | none => rfl
    | some k =>
      rw [h1] at hp
      cases h2 : rdAll p with
      | none => rw [ih h2]
      | some ks =>
        rw [h2] at hp
        cases hp
theorem rdAll_back (ks : List Lk) (h : ∀ k ∈ ks, k.good = true) : rdAll (ks.map (fun k => (⟨k.body.toArray⟩ : ByteArray))) = some ks := by
  induction ks with
  | nil => rfl
  | cons k ks ih =>
    rw [List.map_cons]
    unfold rdAll
    rw [rdLk_back (fun n h0 h1 => by rw [numR_back h0 h1]) (h k List.mem_cons_self), ih (fun x hx => h x (List.mem_cons_of_mem _ hx))]
/-- A token as the specification reads it. -/
def rdSp (s : ByteArray) : List Lk × Bool := match rdAll (split s 59).dropLast with
  | some ks => if (tkB ks && ((tkT ks).toList == s.toList)) = true then (ks, true) else ([], false)
  | none => ([], false)
theorem rdSp_back {ks : List Lk} (h : tkB ks = true) : rdSp (tkT ks) = (ks, true) := by
  unfold rdSp
  rw [tk_split ks (tkB_good h), List.dropLast_concat, rdAll_back ks (tkB_good h)]
  simp only
  rw [h, if_pos (by simp)]
theorem rdSp_sound {s : ByteArray} (h : (rdSp s).2 = true) : tkB (rdSp s).1 = true ∧ tkT (rdSp s).1 = s := by
  unfold rdSp at *
  split at h
  · split at h
    · rename_i ks _ hc
      rw [if_pos hc]
      rw [Bool.and_eq_true] at hc
      refine ⟨hc.1, bytes_same ?_⟩
      have := hc.2
      rw [toList_data, toList_data] at this
      simpa using this
    · cases h
  · cases h
theorem rdSp_no {s : ByteArray} (h : (rdSp s).2 = false) : rdSp s = ([], false) := by
  unfold rdSp at *
  split at h
  · split at h
    · cases h
    · rename_i hc
      rw [if_neg hc]
  · rfl

/-- The links of a text, one by one, as the program reads them. -/
def rdIL : List ByteArray → List Lk → Option (List Lk)
  | [], _ => none
  | [x], acc => if x.toList.isEmpty = true then some acc else none
  | x :: y :: r, acc => match rdLk numI x with
    | some k => if acc.length = 6 then none else rdIL (y :: r) (acc ++ [k])
    | none => none
theorem rdIL_end {s : ByteArray} {acc : List Lk} (h : s.toList.isEmpty = true) : rdIL (split s 59) acc = some acc := by
  rw [empty_of h]
  have : split ⟨#[]⟩ 59 = [⟨#[]⟩] := split_none rfl
  rw [this]
  unfold rdIL
  rw [if_pos (by rw [toList_data]; rfl)]
theorem rdIL_open {s : ByteArray} {acc : List Lk} (h : s.toList.isEmpty = false) (hf : fI s 59 = none) : rdIL (split s 59) acc = none := by
  rw [split_none hf]
  unfold rdIL
  rw [h]
  rfl
theorem rdIL_cut {s : ByteArray} {i : Nat} {acc : List Lk} (hf : fI s 59 = some i) : rdIL (split s 59) acc = (match rdLk numI (s.extract 0 i) with
    | some k => if acc.length = 6 then none else rdIL (split (s.extract (i + 1) s.size) 59) (acc ++ [k])
    | none => none) := by
  rw [split_some hf]
  obtain ⟨x, r, h⟩ := split_ne (s.extract (i + 1) s.size) 59
  rw [h]
  rfl
/-- A token as the program reads it. -/
def rdIm (s : ByteArray) : List Lk × Bool := match rdIL (split s 59) [] with
  | some ks => if tkB ks = true then (ks, true) else ([], false)
  | none => ([], false)
theorem rdIL_back : ∀ (ks acc : List Lk), (∀ k ∈ ks, k.good = true) → acc.length + ks.length ≤ 6 → rdIL (ks.map (fun k => (⟨k.body.toArray⟩ : ByteArray)) ++ [⟨#[]⟩]) acc = some (acc ++ ks)
  | [], acc, _, _ => by
    simp only [List.map_nil, List.nil_append, List.append_nil]
    unfold rdIL
    rw [if_pos (by rw [toList_data]; rfl)]
  | k :: ks, acc, h, hl => by
    simp only [List.length_cons] at hl
    have ih := rdIL_back ks (acc ++ [k]) (fun x hx => h x (List.mem_cons_of_mem _ hx)) (by simp; omega)
    have e : rdIL ((k :: ks).map (fun k => (⟨k.body.toArray⟩ : ByteArray)) ++ [⟨#[]⟩]) acc = (match rdLk numI ⟨k.body.toArray⟩ with
      | some k => if acc.length = 6 then none else rdIL (ks.map (fun k => (⟨k.body.toArray⟩ : ByteArray)) ++ [⟨#[]⟩]) (acc ++ [k])
      | none => none) := by
      cases ks <;> rfl
    rw [e, rdLk_back (fun n h0 h1 => numI_back h0 h1) (h k List.mem_cons_self)]
    simp only
    rw [if_neg (by omega), ih]
    simp
/-- What was parted, put together again. -/
def joinL (c : UInt8) : List ByteArray → List UInt8
  | [] => []
  | [x] => x.data.toList
  | x :: y :: r => x.data.toList ++ c :: joinL c (y :: r)
theorem join_split (c : UInt8) : ∀ (n : Nat) (s : ByteArray), s.size ≤ n → joinL c (split s c) = s.data.toList := by
  intro n
  induction n with
  | zero =>
    intro s hs
    have hf : fI s c = none := by
      have : s.data.toList = [] := List.eq_nil_of_length_eq_zero (by rw [show s.data.toList.length = s.size by simp]; omega)
      unfold fI
      rw [this]
      rfl
    rw [split_none hf]
    rfl
  | succ n ih =>
    intro s hs
    cases hf : fI s c with
    | none => rw [split_none hf]; rfl
    | some i =>
      have hlt := fI_lt hf
      rw [split_some hf]
      have := ih (s.extract (i + 1) s.size) (by rw [ByteArray.size_extract]; omega)
      obtain ⟨x, r, h⟩ := split_ne (s.extract (i + 1) s.size) c
      rw [h] at this ⊢
      unfold joinL
      rw [this, data_parts s i hlt, fI_at hf]
theorem rdLk_text {p : ByteArray} {k : Lk} (h : rdLk numI p = some k) : p.data.toList = k.body := by
  have hj := join_split 32 _ p (Nat.le_refl _)
  by_cases hl : (split p 32).length = 5
  · obtain ⟨a, b, c, d, e, he⟩ := five hl
    rw [rdLk_five he] at h
    split at h
    · rename_i x y z h1 h2 h3
      cases h
      rw [he] at hj
      have t1 := numI_text h1
      have t2 := numI_text h2
      have t3 := numI_text h3
      rw [← hj]
      unfold Lk.body
      simp only [joinL, ← t1, ← t2, ← t3, numT]
    · cases h
  · rw [rdLk_other hl] at h
    cases h
theorem rdIL_sound : ∀ (n : Nat) (s : ByteArray) (acc ks : List Lk), s.size ≤ n → rdIL (split s 59) acc = some ks → ∃ l, ks = acc ++ l ∧ tkL l = s.data.toList := by
  intro n
  induction n with
  | zero =>
    intro s acc ks hs h
    have he : s.toList.isEmpty = true := by rw [size_toList]; exact decide_eq_true (by omega)
    rw [rdIL_end he] at h
    cases h
    refine ⟨[], by simp, ?_⟩
    rw [toList_data] at he
    have : s.data.toList = [] := by simpa using he
    rw [this]
    rfl
  | succ n ih =>
    intro s acc ks hs h
    cases he : s.toList.isEmpty with
    | true =>
      rw [rdIL_end he] at h
      cases h
      refine ⟨[], by simp, ?_⟩
      rw [toList_data] at he
      have : s.data.toList = [] := by simpa using he
      rw [this]
      rfl
    | false =>
      cases hf : fI s 59 with
      | none =>
        rw [rdIL_open he hf] at h
        cases h
      | some i =>
        have hlt := fI_lt hf
        rw [rdIL_cut hf] at h
        split at h
        · rename_i k hk
          split at h
          · cases h
          · obtain ⟨l, rfl, hl⟩ := ih (s.extract (i + 1) s.size) _ _ (by rw [ByteArray.size_extract]; omega) h
            refine ⟨k :: l, by simp, ?_⟩
            rw [tkL_cons, ← rdLk_text hk, hl, data_parts s i hlt, fI_at hf]
        · cases h
theorem rdIm_back {ks : List Lk} (h : tkB ks = true) : rdIm (tkT ks) = (ks, true) := by
  have hl := tkB_len h
  unfold rdIm
  rw [tk_split ks (tkB_good h), rdIL_back ks [] (tkB_good h) (by simp; omega)]
  simp only [List.nil_append]
  rw [if_pos h]
theorem rdIm_sound {s : ByteArray} (h : (rdIm s).2 = true) : tkB (rdIm s).1 = true ∧ tkT (rdIm s).1 = s := by
  unfold rdIm at *
  split at h
  · rename_i ks hk
    split at h
    · rename_i hc
      rw [if_pos hc]
      obtain ⟨l, e, hl⟩ := rdIL_sound _ _ _ _ (Nat.le_refl _) hk
      refine ⟨hc, bytes_same ?_⟩
      rw [List.nil_append] at e
      rw [e]
      exact hl
    · cases h
  · cases h
theorem rdIm_no {s : ByteArray} (h : (rdIm s).2 = false) : rdIm s = ([], false) := by
  unfold rdIm at *
  split at h
  · split at h
    · cases h
    · rename_i hc
      rw [if_neg hc]
  · rfl
/-- Both read alike. -/
theorem rd_alike (s : ByteArray) : rdIm s = rdSp s := by
  cases h : (rdSp s).2 with
  | true =>
    obtain ⟨h1, h2⟩ := rdSp_sound h
    have h3 := rdIm_back h1
    have h4 := rdSp_back h1
    rw [h2] at h3 h4
    rw [h3, ← h4]
  | false =>
    cases h' : (rdIm s).2 with
    | true =>
      obtain ⟨h1, h2⟩ := rdIm_sound h'
      have h4 := rdSp_back h1
      rw [h2] at h4
      rw [h4] at h
      cases h
    | false => rw [rdSp_no h, rdIm_no h']

end Go.Proofs.Ytnbojbcljfiamaa

namespace Go.Proofs.Ytnbojbcljfiamaa
open Go.RowKit Go.Shelf

abbrev Lk.val (k : Lk) : Value := .agg #[.string k.who, .string k.to, .int .i64 k.se, .int .i64 k.fr, .int .i64 k.un]
/-- Its texts are no longer than a text may be. -/
def Lk.fits (k : Lk) : Prop := k.who.size ≤ maxLen ∧ k.to.size ≤ maxLen
/-- A link lies in memory. -/
def LkAt (w : World) (b o : Nat) (k : Lk) : Prop := w.cell? ⟨b, o, none⟩ = some (.string k.who) ∧ w.cell? ⟨b, o + 1, none⟩ = some (.string k.to) ∧ w.cell? ⟨b, o + 2, none⟩ = some (.int .i64 k.se) ∧ w.cell? ⟨b, o + 3, none⟩ = some (.int .i64 k.fr) ∧ w.cell? ⟨b, o + 4, none⟩ = some (.int .i64 k.un)
/-- A slice reads as this list of links. -/
def LkS (w : World) (v : Value) (ks : List Lk) : Prop :=
  (∃ a cap, v = .slice a 0 cap ∧ ks = []) ∨
  ∃ b off cap, v = .slice (some ⟨b, off, none⟩) ks.length cap ∧ b < w.heap.size ∧ ks.length ≤ cap ∧ ∀ i (h : i < ks.length), LkAt w b (off + i * 5) ks[i]
theorem LkAt.below {w w' : World} {b o : Nat} {k : Lk} (h : LkAt w b o k) (hb : b < w.heap.size) (hB : Below w.heap.size w w') : LkAt w' b o k :=
  ⟨(hB.cell (p := ⟨b, o, none⟩) hb).trans h.1, (hB.cell (p := ⟨b, o + 1, none⟩) hb).trans h.2.1, (hB.cell (p := ⟨b, o + 2, none⟩) hb).trans h.2.2.1, (hB.cell (p := ⟨b, o + 3, none⟩) hb).trans h.2.2.2.1, (hB.cell (p := ⟨b, o + 4, none⟩) hb).trans h.2.2.2.2⟩
theorem LkS.below {w w' : World} {v : Value} {ks : List Lk} (h : LkS w v ks) (hB : Below w.heap.size w w') : LkS w' v ks := by
  rcases h with h | ⟨b, off, cap, hv, hb, hl, hc⟩
  · exact .inl h
  · exact .inr ⟨b, off, cap, hv, Nat.lt_of_lt_of_le hb hB.size, hl, fun k hk => (hc k hk).below hb hB⟩
theorem LkS.len {w : World} {v : Value} {ks : List Lk} (h : LkS w v ks) : ∃ a cap, v = .slice a ks.length cap := by
  rcases h with ⟨a, cap, hv, rfl⟩ | ⟨b, off, cap, hv, _⟩
  · exact ⟨a, cap, hv⟩
  · exact ⟨_, cap, hv⟩
theorem LkS.at {w : World} {a : Option Addr} {n cap : Nat} {ks : List Lk} (h : LkS w (.slice a n cap) ks) {i : Nat} (hi : i < ks.length) : ∃ b off, a = some ⟨b, off, none⟩ ∧ b < w.heap.size ∧ n ≤ cap ∧ LkAt w b (off + i * 5) ks[i] := by
  rcases h with ⟨_, _, _, rfl⟩ | ⟨b, off, cap, hv, hb, hl, hc⟩
  · simp at hi
  · cases hv
    exact ⟨b, off, rfl, hb, hl, hc i hi⟩
/-- The first ones of a list. -/
theorem LkS.take {w : World} {b off n cap : Nat} {ks : List Lk} (h : LkS w (.slice (some ⟨b, off, none⟩) n cap) ks) (m c : Nat) (hm : m ≤ ks.length) (hc : m ≤ c) : LkS w (.slice (some ⟨b, off, none⟩) m c) (ks.take m) := by
  rcases h with ⟨_, _, hv, rfl⟩ | ⟨b', off', cap', hv, hb, hl, hat⟩
  · exact .inl ⟨_, _, by simp at hm; subst hm; rfl, by simp⟩
  · cases hv
    refine .inr ⟨b, off, c, by rw [List.length_take, Nat.min_eq_left hm], hb, by rw [List.length_take]; omega, fun i hi => ?_⟩
    rw [List.length_take] at hi
    rw [List.getElem_take]
    exact hat i (by omega)

set_option maxRecDepth 100000 in
theorem cellsLink : Try.prog.cellsOf 167 = 5 := by kernel_rfl
set_option maxRecDepth 100000 in
open Go.Deep Go.ChangeShapes Go.WideShapes Go.Joins in
/-- A list of links that comes in. -/
theorem openLkS {H : Type} {enc : TypeId × Value → H} {W : World} {a : Option Addr} {n c : Nat} {d : DataW H} {p : List MemPlace} (h : DataW.Trod enc Try.prog W 0 (fun _ => true) true 114 (.slice a n c) d p) :
    ∃ ks : List Lk, LkS W (.slice a n c) ks ∧ ks.length = n ∧ n ≤ maxLen ∧ ∀ k ∈ ks, k.fits := by
  obtain ⟨fuel, hf⟩ := h
  rcases open_slice Try.underlying114 hf with ⟨hcs, _⟩ | ⟨x, len, cap, m, k, D, Pl, hcs, _, hl, hm, hmm, _, hx⟩
  · simp [Value.cells] at hcs
    obtain ⟨rfl, rfl, rfl⟩ := hcs
    exact ⟨[], .inl ⟨_, _, rfl, rfl⟩, rfl, Nat.zero_le _, fun r hr => by cases hr⟩
  · simp [Value.cells] at hcs
    obtain ⟨rfl, rfl, rfl⟩ := hcs
    have hlm : n ≤ m := by rw [hmm]; simpa using hl
    have each : ∀ i, i < n → ∃ r : Lk, (W.cell? (x.add (i * 5)) = some (.string r.who) ∧ W.cell? (x.add (i * 5 + 1)) = some (.string r.to) ∧ W.cell? (x.add (i * 5 + 2)) = some (.int .i64 r.se) ∧ W.cell? (x.add (i * 5 + 3)) = some (.int .i64 r.fr) ∧ W.cell? (x.add (i * 5 + 4)) = some (.int .i64 r.un)) ∧ r.fits := by
      intro i hi
      obtain ⟨cs', h1, h2⟩ := hx i (by omega)
      rw [cellsLink] at h1
      obtain ⟨_, hlen, hcell⟩ := World.cells?_some h1
      obtain ⟨xs, m', _, _, _, hxl, hfl⟩ := DataW.trod_struct Try.underlying167 h2
      match cs', hlen, xs, hxl with
      | [v0, v1, v2, v3, v4], _, [y0, y1, y2, y3, y4], _ =>
        have g0 := hfl 0 _ rfl
        have g1 := hfl 1 _ rfl
        have g2 := hfl 2 _ rfl
        have g3 := hfl 3 _ rfl
        have g4 := hfl 4 _ rfl
        have e0 := hcell 0 (by omega)
        have e1 := hcell 1 (by omega)
        have e2 := hcell 2 (by omega)
        have e3 := hcell 3 (by omega)
        have e4 := hcell 4 (by omega)
        rw [add_add] at e0 e1 e2 e3 e4
        have c1 : Try.prog.cellsOf 3 = 1 := by kernel_rfl
        have c2 : Try.prog.cellsOf 9 = 1 := by kernel_rfl
        simp [c1, c2] at g0 g1 g2 g3 g4
        obtain ⟨x0, f0, _, w0⟩ := DataW.trod_string Try.underlying9 g0
        obtain ⟨x1, f1, _, w1⟩ := DataW.trod_string Try.underlying9 g1
        obtain ⟨x2, f2, _, _⟩ := DataW.trod_int Try.underlying3 g2
        obtain ⟨x3, f3, _, _⟩ := DataW.trod_int Try.underlying3 g3
        obtain ⟨x4, f4, _, _⟩ := DataW.trod_int Try.underlying3 g4
        simp at f0 f1 f2 f3 f4
        subst f0 f1 f2 f3 f4
        exact ⟨⟨x0, x1, x2, x3, x4⟩, ⟨by simpa using e0, by simpa using e1, by simpa using e2, by simpa using e3, by simpa using e4⟩, w0, w1⟩
    have hin : Inhabited Lk := ⟨⟨ByteArray.empty, ByteArray.empty, 0, 0, 0⟩⟩
    obtain ⟨q, hq⟩ := choose_lt each
    by_cases h0 : n = 0
    · subst h0
      exact ⟨[], .inl ⟨_, _, rfl, rfl⟩, rfl, Nat.zero_le _, fun r hr => by cases hr⟩
    · obtain ⟨b, off, spot⟩ := x
      have hs : spot = none := by simpa [Addr.add] using World.cell?_spot (hq 0 (by omega)).1.1
      subst hs
      have hlt : b < W.heap.size := by
        have := (hq 0 (by omega)).1.1
        rw [Addr.add_lit] at this
        by_cases hb : b < W.heap.size
        · exact hb
        · simp only [World.cell?] at this
          rw [Array.getElem?_eq_none (by omega)] at this
          cases this
      refine ⟨(List.range n).map q, .inr ⟨b, off, c, by simp, hlt, by simpa using hl, fun k hk => ?_⟩, by simp, by omega, ?_⟩
      · have hk' : k < n := by simpa using hk
        have := (hq k hk').1
        simp only [Addr.add_lit, ← Nat.add_assoc] at this
        simpa [LkAt] using this
      · intro r hr
        obtain ⟨i, hi, rfl⟩ := List.mem_map.1 hr
        exact (hq i (List.mem_range.1 hi)).2

def lzTo (ks : List Lk) (n : Nat) : Nat := ((ks.take n).map Lk.size).sum
def lzAll (ks : List Lk) : Nat := ks.length + lzTo ks ks.length
theorem lzTo_zero (ks : List Lk) : lzTo ks 0 = 0 := by simp [lzTo]
theorem lzTo_succ {ks : List Lk} {n : Nat} (h : n < ks.length) : lzTo ks (n + 1) = lzTo ks n + ks[n].size := by
  unfold lzTo
  rw [List.take_succ_eq_append_getElem h, List.map_append, List.sum_append]
  simp
theorem lzTo_le (ks : List Lk) (n : Nat) : lzTo ks n ≤ lzTo ks ks.length := by
  unfold lzTo
  rw [List.take_length]
  conv => rhs; rw [← List.take_append_drop n ks, List.map_append, List.sum_append]
  omega
theorem lz_mem {ks : List Lk} {k : Lk} (h : k ∈ ks) : k.size ≤ lzTo ks ks.length := by
  unfold lzTo
  rw [List.take_length]
  exact sum_mem (List.mem_map.2 ⟨k, h, rfl⟩)
/-- What is left of a budget behind a link, and behind a list. -/
def left2 (n : Int) (a b : Nat) : Int := if (a : Int) + b ≤ n then n - a - b else -1
def leftL (n : Int) (ks : List Lk) : Int := if (lzAll ks : Int) ≤ n then n - lzAll ks else -1

set_option maxHeartbeats 1000000 in
theorem szLink_any (k : Lk) (n : Int) (w : World) (h0 : 0 ≤ n) (h1 : n ≤ 1048576) (ha : k.who.size ≤ maxLen) (hb : k.to.size ≤ maxLen) :
    Calls Try.prog 106 #[k.val, .int .i64 n] w fun e w' => e = .returned (.int .i64 (left2 n k.who.size k.to.size)) ∧ Below w.heap.size w w' := by
  unfold maxLen at ha hb
  by_cases c1 : n < k.who.size
  · have HR := hid (show left2 n k.who.size k.to.size = -1 from if_neg (by omega))
    go_enter Try.func106, Try.ntmps106
    go_wp2
    go_ret
    exact ⟨ret_int HR.out.symm, (Below.refl _ w).alloc (Nat.le_refl _) _⟩
  · by_cases c2 : n - k.who.size < k.to.size
    · have HR := hid (show left2 n k.who.size k.to.size = -1 from if_neg (by omega))
      go_enter Try.func106, Try.ntmps106
      go_wp2
      go_ret
      exact ⟨ret_int HR.out.symm, (Below.refl _ w).alloc (Nat.le_refl _) _⟩
    · have HR := hid (show left2 n k.who.size k.to.size = n - k.who.size - k.to.size from if_pos (by omega))
      go_enter Try.func106, Try.ntmps106
      go_wp2
      go_ret
      exact ⟨ret_int HR.out.symm, (Below.refl _ w).alloc (Nat.le_refl _) _⟩

set_option maxHeartbeats 1000000 in
theorem szLinkS_any (v : Value) (rs : List Lk) (n : Int) (w : World) (h0 : 0 ≤ n) (h1 : n ≤ 1048576) (hm : rs.length ≤ maxLen) (hf : ∀ r ∈ rs, r.fits) (hr : LkS w v rs) :
    Calls Try.prog 100 #[v, .int .i64 n] w fun e w' => e = .returned (.int .i64 (leftL n rs)) ∧ Below w.heap.size w w' := by
  obtain ⟨a, cap, rfl⟩ := hr.len
  unfold maxLen at hm
  by_cases c0 : n < rs.length
  · have HR := hid (show leftL n rs = -1 from if_neg (by unfold lzAll; omega))
    go_enter Try.func100, Try.ntmps100
    go_wp2
    go_ret
    exact ⟨ret_int HR.out.symm, Below.refl _ _⟩
  · have d0 : decide (n - (rs.length : Int) < 0) = false := by simp; omega
    go_enter Try.func100, Try.ntmps100
    go_wp2
    go_loopw [1, 5] (fun m i wr => ∃ k : Nat, k ≤ rs.length ∧ i = .int .i64 k ∧ m = .int .i64 (n - rs.length - lzTo rs k) ∧ 0 ≤ n - rs.length - lzTo rs k ∧ Below w.heap.size w wr) (fun _ i _ => rs.length - (intOf i).toNat)
    case atStart => exact ⟨0, Nat.zero_le _, rfl, by rw [lzTo_zero]; go_num, by rw [lzTo_zero]; omega, Below.refl _ _⟩
    case round =>
      obtain ⟨k, hk, rfl, rfl, hp, hB⟩ := hrel
      by_cases hlt : k < rs.length
      · obtain ⟨b, off, rfl, hb, hcap, q0, q1, q2, q3, q4⟩ := (hr.below hB).at hlt
        obtain ⟨f1, f2⟩ := hf rs[k] (List.getElem_mem hlt)
        have HS := hid (lzTo_succ hlt)
        have HT := hid (lzTo_le rs (k + 1))
        generalize rs[k] = r at *
        go_wp2_with fail
        refine (szLink_any r _ _ hp (by omega) f1 f2).mono ?_
        rintro e w1 ⟨rfl, hB1⟩
        have hB2 := below_one hB hB1
        by_cases c1 : (r.size : Int) ≤ n - rs.length - lzTo rs k
        · have hv : left2 (n - rs.length - lzTo rs k) r.who.size r.to.size = n - rs.length - lzTo rs (k + 1) := by
            rw [HS.out]
            unfold Lk.size at *
            unfold left2
            rw [if_pos (by omega)]
            omega
          have hq : 0 ≤ n - rs.length - lzTo rs (k + 1) := by rw [HS.out]; omega
          rw [hv]
          have d1 : decide (n - (rs.length : Int) - (lzTo rs (k + 1) : Int) < 0) = false := by simp; omega
          clear hv hB1 q0 q1 q2 q3 q4
          go_wp2_with fail
          go_roundw
          case rel => exact ⟨k + 1, by omega, by go_num, rfl, hq, hB2⟩
          case measure => simp [intOf]; omega
        · have hv : left2 (n - rs.length - lzTo rs k) r.who.size r.to.size = -1 := if_neg (by unfold Lk.size at c1; omega)
          have HR := hid (show leftL n rs = -1 from if_neg (by have := HT.out; rw [HS.out] at this; unfold lzAll; omega))
          rw [hv]
          clear hv hB1 q0 q1 q2 q3 q4
          go_wp2_with fail
          go_ret
          exact ⟨ret_int HR.out.symm, hB2⟩
      · obtain rfl : k = rs.length := by omega
        have HR := hid (show leftL n rs = n - rs.length - lzTo rs rs.length by unfold leftL lzAll; rw [if_pos (by omega)]; omega)
        go_wp2
        go_ret
        exact ⟨ret_int HR.out.symm, hB⟩

abbrev Lk.cells (k : Lk) : List Value := [.string k.who, .string k.to, .int .i64 k.se, .int .i64 k.fr, .int .i64 k.un]
theorem lflat_len (ks : List Lk) : (ks.flatMap Lk.cells).length = ks.length * 5 := by
  induction ks with
  | nil => rfl
  | cons r rs ih => rw [List.flatMap_cons, List.length_append, ih]; simp; omega
theorem lflat_at (rs : List Lk) : ∀ (k j : Nat) (h : k < rs.length), j < 5 → (rs.flatMap Lk.cells)[k * 5 + j]? = rs[k].cells[j]? := by
  induction rs with
  | nil => intro k j h; simp at h
  | cons r rs ih =>
    intro k j h hj
    rw [List.flatMap_cons]
    cases k with
    | zero => rw [List.getElem?_append_left (by simp; omega)]; simp
    | succ k =>
      rw [List.getElem?_append_right (by simp; omega)]
      have := ih k j (by simpa using h) hj
      rw [show (k + 1) * 5 + j - r.cells.length = k * 5 + j by simp; omega]
      simpa using this
/-- A slice of links of one's own reads as its list. -/
theorem LkS.own {w : World} {base : Nat} {v : Value} {rs : List Lk} (h : w.ownsRow base 75 5 v rs.length (rs.flatMap Lk.cells)) : LkS w v rs := by
  rcases h.2 with ⟨rfl, h0⟩ | ⟨g, cap, cur, rfl, hg, hb, hle, _⟩
  · exact .inl ⟨none, 0, rfl, List.eq_nil_of_length_eq_zero h0⟩
  · refine .inr ⟨g, 0, cap, rfl, (Array.getElem?_eq_some_iff.1 hb).1, hle, fun k hk => ?_⟩
    have hc : ∀ j, j < 5 → w.cell? ⟨g, k * 5 + j, none⟩ = rs[k].cells[j]? := fun j hj => by rw [h.cellAt (k * 5 + j) (by omega), lflat_at rs k j hk hj]
    have h0 := hc 0 (by omega)
    have h1 := hc 1 (by omega)
    have h2 := hc 2 (by omega)
    have h3 := hc 3 (by omega)
    have h4 := hc 4 (by omega)
    simp only [Nat.add_zero, List.getElem?_cons_zero, List.getElem?_cons_succ] at h0 h1 h2 h3 h4
    exact ⟨by rw [Nat.zero_add]; exact h0, by rw [Nat.zero_add]; exact h1, by rw [Nat.zero_add]; exact h2, by rw [Nat.zero_add]; exact h3, by rw [Nat.zero_add]; exact h4⟩
theorem take_set5 {α : Type} (xs : List α) (k : Nat) (a b c d e : α) (h : k * 5 + 5 ≤ xs.length) : (((((xs.set (k * 5) a).set (k * 5 + 1) b).set (k * 5 + 2) c).set (k * 5 + 3) d).set (k * 5 + 4) e).take ((k + 1) * 5) = xs.take (k * 5) ++ [a, b, c, d, e] := by
  apply List.ext_getElem?
  intro i
  rw [List.getElem?_take]
  by_cases h1 : i < k * 5
  · rw [if_pos (by omega), List.getElem?_append_left (by rw [List.length_take]; omega), List.getElem?_take, if_pos h1]
    rw [List.getElem?_set_ne (by omega), List.getElem?_set_ne (by omega), List.getElem?_set_ne (by omega), List.getElem?_set_ne (by omega), List.getElem?_set_ne (by omega)]
  · by_cases h2 : i < (k + 1) * 5
    · rw [if_pos h2, List.getElem?_append_right (by rw [List.length_take]; omega)]
      have hl : (xs.take (k * 5)).length = k * 5 := by rw [List.length_take]; omega
      rw [hl]
      obtain h | h | h | h | h : i = k * 5 ∨ i = k * 5 + 1 ∨ i = k * 5 + 2 ∨ i = k * 5 + 3 ∨ i = k * 5 + 4 := by omega
      all_goals subst h
      · rw [List.getElem?_set_ne (by omega), List.getElem?_set_ne (by omega), List.getElem?_set_ne (by omega), List.getElem?_set_ne (by omega), List.getElem?_set_self (by omega)]
        simp
      · rw [List.getElem?_set_ne (by omega), List.getElem?_set_ne (by omega), List.getElem?_set_ne (by omega), List.getElem?_set_self (by simp; omega)]
        simp
      · rw [List.getElem?_set_ne (by omega), List.getElem?_set_ne (by omega), List.getElem?_set_self (by simp; omega)]
        simp
      · rw [List.getElem?_set_ne (by omega), List.getElem?_set_self (by simp; omega)]
        simp
      · rw [List.getElem?_set_self (by simp; omega)]
        simp
    · rw [if_neg h2, List.getElem?_eq_none (by rw [List.length_append, List.length_take]; simp; omega)]
theorem infoLink : (Try.prog.info? 75).map (fun i => (i.zero, i.size, i.bytes)) = some (some (.agg #[.string ByteArray.empty, .string ByteArray.empty, .int .i64 0, .int .i64 0, .int .i64 0]), 5, 56) := by kernel_rfl

set_option maxHeartbeats 1000000 in
theorem toLink_any (k : Lk) (w : World) :
    Calls Try.prog 107 #[k.val] w fun e w' => e = .returned k.val ∧ Below w.heap.size w w' := by
  go_enter Try.func107, Try.ntmps107
  go_wp2
  exact bodyPost_ret (v := k.val) (by simp [results, Try.results107, go_sem]) rfl ⟨rfl, (((Below.refl _ w).alloc (Nat.le_refl _) _).alloc (by simp) _).alloc (by simp; omega) _⟩

set_option maxHeartbeats 2000000 in
theorem toLinkS_any (v : Value) (rs : List Lk) (w : World) (hm : rs.length ≤ 1048576) (hr : LkS w v rs) :
    Calls Try.prog 104 #[v] w fun e w' => ∃ v', e = .returned v' ∧ w'.ownsRow w.heap.size 75 5 v' rs.length (rs.flatMap Lk.cells) ∧ Below w.heap.size w w' := by
  obtain ⟨a, cap, rfl⟩ := hr.len
  obtain ⟨i0, hi, hz0, hz1, hz2⟩ := info_parts infoLink
  go_enter Try.func104, Try.ntmps104
  go_wp2_with (at_make; refine wpList_make_full _ rfl _ _ 63 rfl w.heap.size 75 i0 _ 5 Try.underlying63 hi hz0 hz1 _ _ _ _ rs.length rfl rfl rfl rfl (by rw [hz2]; omega) (by unfold maxLen; omega) (Nat.le_refl _) ?_; intro w1 hown hgrow)
  have hB1 : Below w.heap.size w w1 := (Below.refl _ w).grown hgrow (Nat.le_refl _) (fun k e => by cases e)
  go_loopw [4] (fun i wr => ∃ k : Nat, k ≤ rs.length ∧ i = .int .i64 k ∧ ∃ xs, wr.ownsRow w.heap.size 75 5 (.slice (some ⟨w.heap.size, 0, none⟩) rs.length rs.length) rs.length xs ∧ xs.take (k * 5) = (rs.take k).flatMap Lk.cells ∧ Below w.heap.size w wr) (fun i _ => rs.length - (intOf i).toNat)
  case atStart => exact ⟨0, Nat.zero_le _, rfl, _, hown, by simp, hB1⟩
  case round =>
    obtain ⟨k, hk, rfl, xs, hrow, hx, hB⟩ := hrel
    have HX := hid hx
    clear hx
    by_cases hlt : k < rs.length
    · obtain ⟨b, off, rfl, hb, hcap, q0, q1, q2, q3, q4⟩ := (hr.below hB).at hlt
      have HT := hid (List.take_succ_eq_append_getElem hlt)
      generalize rs[k] = r at *
      go_wp2_with fail
      refine (toLink_any r _).mono ?_
      rintro e w2 ⟨rfl, hB2⟩
      have hrow2 := ownsRow_below hrow hB2
      have hB3 := below_one hB hB2
      have hlen : xs.length = rs.length * 5 := hrow2.1
      have s0 := hrow2.cellAt (k * 5) (by omega)
      have s1 := hrow2.cellAt (k * 5 + 1) (by omega)
      have s2 := hrow2.cellAt (k * 5 + 2) (by omega)
      have s3 := hrow2.cellAt (k * 5 + 3) (by omega)
      have s4 := hrow2.cellAt (k * 5 + 4) (by omega)
      rw [List.getElem?_eq_getElem (by omega)] at s0 s1 s2 s3 s4
      have t0 := hrow2.frozenAt (k * 5)
      have t1 := hrow2.frozenAt (k * 5 + 1)
      have t2 := hrow2.frozenAt (k * 5 + 2)
      have t3 := hrow2.frozenAt (k * 5 + 3)
      have t4 := hrow2.frozenAt (k * 5 + 4)
      generalize xs[k * 5] = y0 at *
      generalize xs[k * 5 + 1] = y1 at *
      generalize xs[k * 5 + 2] = y2 at *
      generalize xs[k * 5 + 3] = y3 at *
      generalize xs[k * 5 + 4] = y4 at *
      clear q0 q1 q2 q3 q4 hB2
      go_wp2_with fail
      go_roundw
      case rel =>
        refine ⟨k + 1, by omega, by go_num, _, ((((hrow2.stored (k * 5) (.string r.who)).1.stored (k * 5 + 1) (.string r.to)).1.stored (k * 5 + 2) (.int .i64 r.se)).1.stored (k * 5 + 3) (.int .i64 r.fr)).1.stored (k * 5 + 4) (.int .i64 r.un) |>.1, ?_, ((((hB3.setCell (p := ⟨w.heap.size, _, none⟩) (Nat.le_refl _) _).setCell (p := ⟨w.heap.size, _, none⟩) (Nat.le_refl _) _).setCell (p := ⟨w.heap.size, _, none⟩) (Nat.le_refl _) _).setCell (p := ⟨w.heap.size, _, none⟩) (Nat.le_refl _) _).setCell (p := ⟨w.heap.size, _, none⟩) (Nat.le_refl _) _⟩
        rw [take_set5 _ _ _ _ _ _ _ (by omega), HX.out, HT.out, List.flatMap_append]
        simp
      case measure => simp [intOf]; omega
    · obtain rfl : k = rs.length := by omega
      have HF := hid (show xs = rs.flatMap Lk.cells by have := HX.out; rw [List.take_of_length_le (by have := hrow.1; omega), List.take_length] at this; exact this)
      go_wp2
      go_ret
      exact ⟨_, rfl, by rw [← HF.out]; exact hrow, hB⟩

end Go.Proofs.Ytnbojbcljfiamaa
