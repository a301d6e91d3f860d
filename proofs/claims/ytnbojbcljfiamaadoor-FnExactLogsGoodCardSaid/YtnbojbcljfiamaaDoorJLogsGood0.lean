/-
  The program's sort of rules by their texts: what it compares, the copy, and the sort.
-/
import Derived.RangeFuncNested
import Derived.RangeFuncBound
import Derived.RangeFuncCalls
import Derived.RangeFuncLeaves
import Derived.RangeFuncBox
import Derived.Shelf.Abstract
import Derived.Shelf.RegionOpen
import Derived.WalkKit
import Derived.OwnWalkIn
import Derived.TacticsInMore
import Derived.LoopNIn
import Derived.LoopIn
import Derived.Maps.AppendAt
import Derived.WalkSpells
import Derived.Outline
import Derived.Test.YtnbojbcljfiamaaDoorProg
import Derived.Laws.Strings
import Derived.Deep.QuietTactic
import Derived.BigQuiet
import Derived.Deep.RegionWith
import Derived.WalkSmall
import Derived.ProofKit
import Derived.OpenShut
import Derived.Lib.SmallJoins
import Derived.Deep.Slices
import Derived.Deep.RegionHeld3
import Derived.Shelf.Strconv.Itoa3
import Derived.Maps.OwnOps
import Derived.Maps.Views
import Derived.Lib.Bytealg
namespace Go.Proofs.YtnbojbcljfiamaaDoor

/-- A letter a-z or a digit. -/
def wordCh (c : UInt8) : Bool := decide ((97 ≤ (c.toNat : Int) ∧ (c.toNat : Int) ≤ 122) ∨ (48 ≤ (c.toNat : Int) ∧ (c.toNat : Int) ≤ 57))
theorem wordCh_yes {c : UInt8} (h : (97 ≤ (c.toNat : Int) ∧ (c.toNat : Int) ≤ 122) ∨ (48 ≤ (c.toNat : Int) ∧ (c.toNat : Int) ≤ 57)) : wordCh c = true := decide_eq_true h
theorem wordCh_no {c : UInt8} (h : ¬ ((97 ≤ (c.toNat : Int) ∧ (c.toNat : Int) ≤ 122) ∨ (48 ≤ (c.toNat : Int) ∧ (c.toNat : Int) ≤ 57))) : wordCh c = false := decide_eq_false h

/-- The first k bytes are letters or digits. -/
def wordTo (s : ByteArray) (k : Nat) : Bool := (s.data.toList.take k).all wordCh
theorem wordTo_zero (s : ByteArray) : wordTo s 0 = true := by simp [wordTo]
theorem wordTo_succ (s : ByteArray) (k : Nat) (h : k < s.size) : wordTo s (k + 1) = (wordTo s k && wordCh s[k]) := by
  unfold wordTo
  rw [List.take_succ_eq_append_getElem (by simpa using h), List.all_append]
  simp
  rfl
theorem wordTo_mono (s : ByteArray) (k : Nat) (h : wordTo s k = false) : ∀ m, k ≤ m → wordTo s m = false := by
  intro m hm
  unfold wordTo at *
  obtain ⟨d, rfl⟩ := Nat.exists_eq_add_of_le hm
  rw [List.take_add, List.all_append, h]
  rfl

/-- A word: 1 to 8 letters or digits. -/
def wordB (s : ByteArray) : Bool := wordTo s s.size && decide (1 ≤ s.size ∧ s.size ≤ 8)
theorem wordB_bad (s : ByteArray) (k : Nat) (hk : k < s.size) (hc : wordCh s[k] = false) : wordB s = false := by
  have h1 : wordTo s (k + 1) = false := by rw [wordTo_succ s k hk, hc, Bool.and_false]
  unfold wordB
  rw [wordTo_mono s (k + 1) h1 s.size (by omega)]
  rfl
theorem wordB_end (s : ByteArray) (h : wordTo s s.size = true) : wordB s = decide (1 ≤ s.size ∧ s.size ≤ 8) := by
  unfold wordB
  rw [h]
  rfl
theorem wordB_len (s : ByteArray) (h : ¬ (1 ≤ s.size ∧ s.size ≤ 8)) : wordB s = false := by
  unfold wordB
  rw [decide_eq_false h, Bool.and_false]

/-- A text cut at the byte b, i bytes of it looked at: the pieces that are over, and where the next one begins. -/
def spP (s : ByteArray) (b : UInt8) : Nat → List ByteArray × Nat
  | 0 => ([], 0)
  | i + 1 => if i = s.size ∨ s.data.toList[i]? = some b then ((spP s b i).1 ++ [s.extract (spP s b i).2 i], i + 1) else spP s b i
def spL (s : ByteArray) (b : UInt8) (i : Nat) : List ByteArray := (spP s b i).1
def spA (s : ByteArray) (b : UInt8) (i : Nat) : Nat := (spP s b i).2
/-- A text cut at the byte b. -/
def split (s : ByteArray) (b : UInt8) : List ByteArray := spL s b (s.size + 1)

theorem spL_zero (s : ByteArray) (b : UInt8) : spL s b 0 = [] := rfl
theorem spA_zero (s : ByteArray) (b : UInt8) : spA s b 0 = 0 := rfl
theorem spA_le (s : ByteArray) (b : UInt8) : ∀ i, spA s b i ≤ i
  | 0 => Nat.le_refl _
  | i + 1 => by
    have ih := spA_le s b i
    unfold spA at *
    unfold spP
    split
    · exact Nat.le_refl _
    · omega
theorem spL_len (s : ByteArray) (b : UInt8) : ∀ i, (spL s b i).length ≤ i
  | 0 => Nat.le_refl _
  | i + 1 => by
    have ih := spL_len s b i
    unfold spL at *
    unfold spP
    split
    · simp; exact ih
    · omega
theorem at_some (s : ByteArray) (b : UInt8) (i : Nat) (h : i < s.size) : s.data.toList[i]? = some b ↔ s[i] = b := by
  rw [List.getElem?_eq_getElem (by simpa using h)]
  simp
  rfl
theorem spL_hit (s : ByteArray) (b : UInt8) (i : Nat) (h : i < s.size) (hb : s[i] = b) : spL s b (i + 1) = spL s b i ++ [s.extract (spA s b i) i] := by
  unfold spL spA
  rw [spP, if_pos (.inr ((at_some s b i h).2 hb))]
theorem spA_hit (s : ByteArray) (b : UInt8) (i : Nat) (h : i < s.size) (hb : s[i] = b) : spA s b (i + 1) = i + 1 := by
  unfold spA
  rw [spP, if_pos (.inr ((at_some s b i h).2 hb))]
theorem spL_end (s : ByteArray) (b : UInt8) : spL s b (s.size + 1) = spL s b s.size ++ [s.extract (spA s b s.size) s.size] := by
  unfold spL spA
  rw [spP, if_pos (.inl rfl)]
theorem spA_end (s : ByteArray) (b : UInt8) : spA s b (s.size + 1) = s.size + 1 := by
  unfold spA
  rw [spP, if_pos (.inl rfl)]
theorem sp_miss (s : ByteArray) (b : UInt8) (i : Nat) (h : i < s.size) (hb : s[i] ≠ b) : spP s b (i + 1) = spP s b i := by
  rw [spP, if_neg]
  rintro (e | e)
  · omega
  · exact hb ((at_some s b i h).1 e)
theorem spL_miss (s : ByteArray) (b : UInt8) (i : Nat) (h : i < s.size) (hb : s[i] ≠ b) : spL s b (i + 1) = spL s b i := by
  unfold spL
  rw [sp_miss s b i h hb]
theorem spA_miss (s : ByteArray) (b : UInt8) (i : Nat) (h : i < s.size) (hb : s[i] ≠ b) : spA s b (i + 1) = spA s b i := by
  unfold spA
  rw [sp_miss s b i h hb]
theorem split_end (s : ByteArray) (b : UInt8) : split s b = spL s b s.size ++ [s.extract (spA s b s.size) s.size] := spL_end s b
theorem split_len (s : ByteArray) (b : UInt8) : (split s b).length ≤ s.size + 1 := spL_len s b _
theorem spL_pre (s : ByteArray) (b : UInt8) : ∀ i, spL s b i <+: spL s b (i + 1) := by
  intro i
  unfold spL
  rw [spP]
  split
  · exact List.prefix_append _ _
  · exact List.prefix_refl _
theorem spL_le (s : ByteArray) (b : UInt8) (i d : Nat) : spL s b i <+: spL s b (i + d) := by
  induction d with
  | zero => exact List.prefix_refl _
  | succ d ih => exact ih.trans (spL_pre s b (i + d))
theorem spL_split (s : ByteArray) (b : UInt8) (i : Nat) (h : i ≤ s.size + 1) : spL s b i <+: split s b := by
  obtain ⟨d, hd⟩ := Nat.exists_eq_add_of_le h
  unfold split
  rw [hd]
  exact spL_le s b i d
theorem spL_lt_hit (s : ByteArray) (b : UInt8) (k : Nat) (h : k < s.size) (hb : s[k] = b) : (spL s b k).length < (split s b).length := by
  have h1 := (spL_split s b (k + 1) (by omega)).length_le
  rw [spL_hit s b k h hb] at h1
  simp at h1
  omega
theorem spL_lt_end (s : ByteArray) (b : UInt8) : (spL s b s.size).length < (split s b).length := by
  rw [split_end]
  simp
theorem spP_size (s : ByteArray) (b : UInt8) : ∀ i, ∀ x ∈ (spP s b i).1, x.size ≤ s.size
  | 0 => by intro x hx; cases hx
  | i + 1 => by
    intro x hx
    rw [spP] at hx
    split at hx
    · rw [List.mem_append] at hx
      rcases hx with hx | hx
      · exact spP_size s b i x hx
      · rw [List.mem_singleton] at hx
        subst hx
        rw [ByteArray.size_extract]
        omega
    · exact spP_size s b i x hx
theorem split_size (s : ByteArray) (b : UInt8) : ∀ x ∈ split s b, x.size ≤ s.size := spP_size s b _
theorem byte_eq {a b : UInt8} (h : (a.toNat : Int) = (b.toNat : Int)) : a = b := UInt8.toNat_inj.1 (by omega)
theorem byte_ne {a b : UInt8} (h : ¬ (a.toNat : Int) = (b.toNat : Int)) : a ≠ b := fun e => h (by rw [e])

end Go.Proofs.YtnbojbcljfiamaaDoor

namespace Go.Proofs.YtnbojbcljfiamaaDoor
open Go.RowKit Go.Shelf

theorem hid {p : Prop} (h : p) : Hid p := h
theorem ret_two {v : Value} {a b : Bool} (h : a = b) : Ending.returned (.tuple #[v, .bool a]) = .returned (.tuple #[v, .bool b]) := by rw [h]
theorem ret_bool {a b : Bool} (h : a = b) : Ending.returned (.bool a) = .returned (.bool b) := by rw [h]

/-- Behind an append onto a row of one's own nothing has turned that lay below n₀. -/
theorem below_appended {n₀ : Nat} {W w1 : World} {e : TypeId} {size k : Nat} {v : Value} {xs : List Value} {tmp : Obj} (hn₀ : n₀ ≤ W.heap.size)
    (hrow : W.ownsRow n₀ e size v k xs) (hgrow : (W.alloc tmp).grownBy w1 v.ownBlock) : Below n₀ W w1 := by
  refine ((Below.refl n₀ W).alloc hn₀ tmp).grown hgrow (by simp; omega) fun j ej => ?_
  rcases hrow.2 with ⟨rfl, _⟩ | ⟨g, cap, cur, rfl, hb, _, _⟩
  · simp [Value.ownBlock] at ej
  · obtain rfl : g = j := by simpa [Value.ownBlock] using ej
    exact hb

theorem infoStr : (Tryd.prog.info? 9).map (fun i => (i.zero, i.size, i.bytes)) = some (some (.string ByteArray.empty), 1, 16) := by kernel_rfl

end Go.Proofs.YtnbojbcljfiamaaDoor

namespace Go.Proofs.YtnbojbcljfiamaaDoor

def starB (x : ByteArray) : Bool := x.toList == [42]
def star2B (x : ByteArray) : Bool := x.toList == [42, 42]
/-- A word or a star. -/
def wsB (x : ByteArray) : Bool := starB x || wordB x

theorem toList_data (x : ByteArray) : x.toList = x.data.toList := ByteArray.toList_eq x
theorem star2_not_ws (x : ByteArray) (h : star2B x = true) : wsB x = false := by
  have h1 : x.data.toList = [42, 42] := by simpa [star2B, toList_data] using h
  have h2 : wordTo x x.size = false := by
    unfold wordTo
    rw [h1, show x.size = x.data.toList.length by simp, h1]
    decide
  simp [wsB, starB, wordB, toList_data, h1, h2]

/-! ### Names -/

/-- The pieces of a name pattern as they come: how many have come; none behind a piece that is one too many or none. -/
def nmStep (o : Option Nat) (x : ByteArray) : Option Nat := match o with
  | none => none
  | some n => if n = 2 then none else if wsB x = true then some (n + 1) else none
def nmSt (l : List ByteArray) : Option Nat := l.foldl nmStep (some 0)
theorem nmSt_nil : nmSt [] = some 0 := rfl
theorem nmSt_snoc (l : List ByteArray) (x : ByteArray) : nmSt (l ++ [x]) = nmStep (nmSt l) x := by simp [nmSt, List.foldl_append]
theorem nmFold_none (l : List ByteArray) : l.foldl nmStep none = none := by
  induction l with
  | nil => rfl
  | cons x l ih => simpa [List.foldl, nmStep] using ih
theorem nmSt_pre {p l : List ByteArray} (h : p <+: l) (hp : nmSt p = none) : nmSt l = none := by
  obtain ⟨r, rfl⟩ := h
  unfold nmSt at *
  rw [List.foldl_append, hp, nmFold_none]
theorem nmFold_eq (l : List ByteArray) : ∀ n, n ≤ 2 → l.foldl nmStep (some n) = if l.all wsB = true ∧ n + l.length ≤ 2 then some (n + l.length) else none := by
  induction l with
  | nil => intro n hn; simp [hn]
  | cons x l ih =>
    intro n hn
    rw [List.foldl_cons]
    by_cases h2 : n = 2
    · subst h2
      rw [show nmStep (some 2) x = none from rfl, nmFold_none, if_neg (by simp)]
    · by_cases hx : wsB x = true
      · rw [show nmStep (some n) x = some (n + 1) by simp [nmStep, h2, hx], ih (n + 1) (by omega)]
        simp only [List.all_cons, hx, Bool.true_and, List.length_cons]
        rw [show n + 1 + l.length = n + (l.length + 1) by omega]
      · rw [show nmStep (some n) x = none by simp [nmStep, h2, hx], nmFold_none, if_neg (by simp [hx])]
theorem nmSt_eq (l : List ByteArray) : nmSt l = if l.all wsB = true ∧ l.length ≤ 2 then some l.length else none := by
  have := nmFold_eq l 0 (by omega)
  simpa [nmSt] using this
theorem nmSt_le {l : List ByteArray} (h : nmSt l = some l.length) : l.length ≤ 2 := by
  rw [nmSt_eq] at h
  split at h
  · rename_i h'; exact h'.2
  · cases h
theorem nmSt_full {l : List ByteArray} (x : ByteArray) (h : nmSt l = some l.length) (h2 : l.length = 2) : nmSt (l ++ [x]) = none := by
  rw [nmSt_snoc, h, h2]
  rfl
theorem nmSt_bad {l : List ByteArray} (x : ByteArray) (h : nmSt l = some l.length) (hx : wsB x = false) : nmSt (l ++ [x]) = none := by
  rw [nmSt_snoc, h]
  simp [nmStep, hx]
theorem nmSt_good {l : List ByteArray} (x : ByteArray) (h : nmSt l = some l.length) (h2 : ¬ l.length = 2) (hx : wsB x = true) : nmSt (l ++ [x]) = some (l ++ [x]).length := by
  rw [nmSt_snoc, h]
  simp [nmStep, hx, h2]
/-- The pieces are those of a name pattern. -/
def nmB (l : List ByteArray) : Bool := decide (nmSt l = some 2)
theorem nmB_eq (l : List ByteArray) : nmB l = (decide (l.length = 2) && l.all wsB) := by
  unfold nmB
  rw [nmSt_eq]
  by_cases h : l.all wsB = true
  · by_cases h2 : l.length ≤ 2
    · simp [h, h2]
    · rw [if_neg (by simp [h2])]
      simp; omega
  · rw [if_neg (by simp [h])]
    simp at h
    simp [h]
/-- The pieces of a name pattern, none where they are not one's. -/
def nmL (l : List ByteArray) : List ByteArray := if nmB l = true then l else []
theorem nmL_yes {l : List ByteArray} (h : nmB l = true) : nmL l = l := if_pos h
theorem nmL_no {l : List ByteArray} (h : nmB l = false) : nmL l = [] := if_neg (by rw [h]; exact Bool.false_ne_true)
theorem nmB_none {l : List ByteArray} (h : nmSt l = none) : nmB l = false := by
  unfold nmB
  rw [h]
  rfl
theorem nmB_some {l : List ByteArray} (h : nmSt l = some l.length) : nmB l = decide (l.length = 2) := by
  unfold nmB
  rw [h]
  simp
theorem nmB_len {l : List ByteArray} (h : ¬ l.length = 2) : nmB l = false := by rw [nmB_eq]; simp [h]
theorem nmB_two (x y : ByteArray) : nmB [x, y] = (wsB x && wsB y) := by simp [nmB_eq]

/-! ### Paths -/

/-- The pieces of a path pattern as they come: how many have come, and whether two stars have ended it. -/
def ptStep (o : Option (Nat × Bool)) (x : ByteArray) : Option (Nat × Bool) := match o with
  | none => none
  | some (n, e) => if e = true ∨ n = 6 then none else if star2B x = true then some (n + 1, true) else if wsB x = true then some (n + 1, false) else none
def ptSt (l : List ByteArray) : Option (Nat × Bool) := l.foldl ptStep (some (0, false))
theorem ptSt_nil : ptSt [] = some (0, false) := rfl
theorem ptSt_snoc (l : List ByteArray) (x : ByteArray) : ptSt (l ++ [x]) = ptStep (ptSt l) x := by simp [ptSt, List.foldl_append]
theorem ptFold_none (l : List ByteArray) : l.foldl ptStep none = none := by
  induction l with
  | nil => rfl
  | cons x l ih => simpa [List.foldl, ptStep] using ih
theorem ptSt_pre {p l : List ByteArray} (h : p <+: l) (hp : ptSt p = none) : ptSt l = none := by
  obtain ⟨r, rfl⟩ := h
  unfold ptSt at *
  rw [List.foldl_append, hp, ptFold_none]
/-- Words and stars, two stars at the end alone. -/
def ptOk : List ByteArray → Bool
  | [] => true
  | x :: r => if star2B x = true then r.isEmpty else wsB x && ptOk r
theorem ptFold_eq (l : List ByteArray) : ∀ n, n ≤ 6 → (l.foldl ptStep (some (n, false))).isSome = (ptOk l && decide (n + l.length ≤ 6)) := by
  induction l with
  | nil => intro n hn; simp [ptOk, hn]
  | cons x l ih =>
    intro n hn
    rw [List.foldl_cons]
    by_cases h6 : n = 6
    · subst h6
      rw [show ptStep (some (6, false)) x = none from rfl, ptFold_none]
      simp
    · by_cases h2 : star2B x = true
      · rw [show ptStep (some (n, false)) x = some (n + 1, true) by simp [ptStep, h6, h2]]
        cases l with
        | nil => simp [ptOk, h2]; omega
        | cons y r => rw [List.foldl_cons, show ptStep (some (n + 1, true)) y = none by simp [ptStep], ptFold_none]; simp [ptOk, h2]
      · by_cases hx : wsB x = true
        · rw [show ptStep (some (n, false)) x = some (n + 1, false) by simp [ptStep, h6, h2, hx], ih (n + 1) (by omega)]
          simp only [ptOk, h2, hx, Bool.true_and, List.length_cons, Bool.false_eq_true, if_false]
          rw [show n + 1 + l.length = n + (l.length + 1) by omega]
        · rw [show ptStep (some (n, false)) x = none by simp [ptStep, h6, h2, hx], ptFold_none]
          simp [ptOk, h2, hx]
/-- The pieces are those of a path pattern. -/
def ptB (l : List ByteArray) : Bool := (ptSt l).isSome
theorem ptB_eq (l : List ByteArray) : ptB l = (ptOk l && decide (l.length ≤ 6)) := by
  have := ptFold_eq l 0 (by omega)
  simpa [ptB, ptSt] using this
theorem ptSt_len (l : List ByteArray) : ∀ n e m f, l.foldl ptStep (some (n, e)) = some (m, f) → m = n + l.length := by
  induction l with
  | nil => intro n e m f h; simp at h; simp [h.1]
  | cons x l ih =>
    intro n e m f h
    rw [List.foldl_cons] at h
    have hs : ptStep (some (n, e)) x = none ∨ ∃ g, ptStep (some (n, e)) x = some (n + 1, g) := by
      unfold ptStep
      simp only
      split
      · exact .inl rfl
      · split
        · exact .inr ⟨_, rfl⟩
        · split
          · exact .inr ⟨_, rfl⟩
          · exact .inl rfl
    rcases hs with hs | ⟨g, hs⟩
    · rw [hs, ptFold_none] at h; cases h
    · rw [hs] at h
      have := ih _ _ _ _ h
      simp; omega
theorem ptSt_num {l : List ByteArray} {m : Nat} {f : Bool} (h : ptSt l = some (m, f)) : m = l.length := by
  have := ptSt_len l 0 false m f h
  omega

/-- What the other program asks of the piece at i. -/
def ppAt (l : List ByteArray) (i : Nat) : Bool := wordB (l.getD i ByteArray.empty) || starB (l.getD i ByteArray.empty) || (star2B (l.getD i ByteArray.empty) && decide (i + 1 = l.length))
def ppTo (l : List ByteArray) (k : Nat) : Bool := (List.range k).all (ppAt l)
theorem ppTo_zero (l : List ByteArray) : ppTo l 0 = true := rfl
theorem ppTo_succ (l : List ByteArray) (k : Nat) : ppTo l (k + 1) = (ppTo l k && ppAt l k) := by
  unfold ppTo
  rw [List.range_succ, List.all_append]
  simp
theorem pp_ok (l : List ByteArray) : ppTo l l.length = ptOk l := by
  induction l with
  | nil => rfl
  | cons x r ih =>
    have hall : ppTo (x :: r) (r.length + 1) = (ppAt (x :: r) 0 && (List.range r.length).all (fun i => ppAt (x :: r) (i + 1))) := by
      unfold ppTo
      rw [List.range_succ_eq_map, List.all_cons, List.all_map]
      rfl
    have hsh : (List.range r.length).all (fun i => ppAt (x :: r) (i + 1)) = ppTo r r.length := by
      unfold ppTo
      have : ∀ i ∈ List.range r.length, ppAt (x :: r) (i + 1) = ppAt r i := by
        intro i _
        simp [ppAt]
      rw [Bool.eq_iff_iff, List.all_eq_true, List.all_eq_true]
      exact ⟨fun h i hi => (this i hi) ▸ h i hi, fun h i hi => (this i hi).symm ▸ h i hi⟩
    rw [List.length_cons, hall, hsh, ih]
    rw [ptOk]
    by_cases h2 : star2B x = true
    · have hn := star2_not_ws x h2
      have hw : wordB x = false := by simp [wsB] at hn; exact hn.2
      have hs : starB x = false := by simp [wsB] at hn; exact hn.1
      rw [if_pos h2]
      simp only [ppAt, List.getD_cons_zero, hw, hs, h2, Bool.or_false, Bool.true_and, Bool.false_or, List.length_cons]
      cases r with
      | nil => simp [ptOk]
      | cons y t => simp
    · rw [if_neg h2]
      simp at h2
      simp only [ppAt, List.getD_cons_zero, h2, Bool.false_and, Bool.or_false, wsB]
      rw [Bool.or_comm (wordB x)]
theorem plain_ok (l : List ByteArray) (h : l.all wordB = true) : ptOk l = true := by
  induction l with
  | nil => rfl
  | cons x r ih =>
    simp only [List.all_cons, Bool.and_eq_true] at h
    unfold ptOk
    by_cases h2 : star2B x = true
    · have hn := star2_not_ws x h2
      simp [wsB, h.1] at hn
    · rw [if_neg h2]
      simp [wsB, h.1, ih h.2]

/-- Whether two stars have ended what has come. -/
def endB (l : List ByteArray) : Bool := match ptSt l with
  | some (_, e) => e
  | none => false
theorem pt_ended {l : List ByteArray} (x : ByteArray) (h : ptSt l = some (l.length, endB l)) (he : endB l = true) : ptSt (l ++ [x]) = none := by
  rw [ptSt_snoc, h, he]
  simp [ptStep]
theorem pt_full {l : List ByteArray} (x : ByteArray) (h : ptSt l = some (l.length, endB l)) (h6 : l.length = 6) : ptSt (l ++ [x]) = none := by
  rw [ptSt_snoc, h, h6]
  simp [ptStep]
theorem pt_bad {l : List ByteArray} (x : ByteArray) (h : ptSt l = some (l.length, endB l)) (h2 : star2B x = false) (hx : wsB x = false) : ptSt (l ++ [x]) = none := by
  rw [ptSt_snoc, h]
  simp [ptStep, h2, hx]
theorem pt_end {l : List ByteArray} (x : ByteArray) (h : ptSt l = some (l.length, endB l)) (he : endB l = false) (h6 : ¬ l.length = 6) (h2 : star2B x = true) : ptSt (l ++ [x]) = some ((l ++ [x]).length, true) := by
  rw [ptSt_snoc, h, he]
  simp [ptStep, h6, h2]
theorem pt_on {l : List ByteArray} (x : ByteArray) (h : ptSt l = some (l.length, endB l)) (he : endB l = false) (h6 : ¬ l.length = 6) (h2 : star2B x = false) (hx : wsB x = true) : ptSt (l ++ [x]) = some ((l ++ [x]).length, false) := by
  rw [ptSt_snoc, h, he]
  simp [ptStep, h6, h2, hx]
theorem endB_of {l : List ByteArray} {n : Nat} {e : Bool} (h : ptSt l = some (n, e)) : endB l = e := by
  unfold endB
  rw [h]
theorem pt_le {l : List ByteArray} (h : ptSt l = some (l.length, endB l)) : l.length ≤ 6 := by
  have : ptB l = true := by unfold ptB; rw [h]; rfl
  rw [ptB_eq] at this
  simp at this
  exact this.2

/-- The pieces behind a text's first slash; none where it is no path's form. -/
def slashB (s : ByteArray) : Bool := s.toList == [47]
def headB (s : ByteArray) : Bool := s.data.toList.head? == some 47
def pathPs (s : ByteArray) : Option (List ByteArray) := if slashB s = true then some [] else if headB s = true then some (split (s.extract 1 s.size) 47) else none
theorem pathPs_slash {s : ByteArray} (h : slashB s = true) : pathPs s = some [] := if_pos h
theorem pathPs_head {s : ByteArray} (h : slashB s = false) (h2 : headB s = true) : pathPs s = some (split (s.extract 1 s.size) 47) := by
  unfold pathPs
  rw [if_neg (by simp [h]), if_pos h2]
theorem pathPs_none {s : ByteArray} (h : slashB s = false) (h2 : headB s = false) : pathPs s = none := by
  unfold pathPs
  rw [if_neg (by simp [h]), if_neg (by simp [h2])]
/-- The text is a path pattern. -/
def ptBs (s : ByteArray) : Bool := match pathPs s with
  | none => false
  | some l => ptB l
def ptLs (s : ByteArray) : List ByteArray := if ptBs s = true then (pathPs s).getD [] else []
theorem ptLs_no {s : ByteArray} (h : ptBs s = false) : ptLs s = [] := if_neg (by rw [h]; exact Bool.false_ne_true)
theorem ptLs_yes {s : ByteArray} (h : ptBs s = true) {l : List ByteArray} (hl : pathPs s = some l) : ptLs s = l := by
  unfold ptLs
  rw [if_pos h, hl]
  rfl
theorem ptBs_some {s : ByteArray} {l : List ByteArray} (hl : pathPs s = some l) : ptBs s = ptB l := by
  unfold ptBs
  rw [hl]
theorem ptBs_none {s : ByteArray} (hl : pathPs s = none) : ptBs s = false := by
  unfold ptBs
  rw [hl]
theorem ptB_none {l : List ByteArray} (h : ptSt l = none) : ptB l = false := by
  unfold ptB
  rw [h]
  rfl
theorem ptB_some {l : List ByteArray} {x : Nat × Bool} (h : ptSt l = some x) : ptB l = true := by
  unfold ptB
  rw [h]
  rfl
theorem headB_at {s : ByteArray} (h : 0 < s.size) (hb : s[0] = 47) : headB s = true := by
  have h0 : 0 < s.data.toList.length := by simpa using h
  have : s.data.toList.head? = some s[0] := by
    rw [List.head?_eq_getElem?, List.getElem?_eq_getElem h0]
    rfl
  unfold headB
  rw [this, hb]
  rfl
theorem headB_not {s : ByteArray} (h : 0 < s.size) (hb : s[0] ≠ 47) : headB s = false := by
  have h0 : 0 < s.data.toList.length := by simpa using h
  have : s.data.toList.head? = some s[0] := by
    rw [List.head?_eq_getElem?, List.getElem?_eq_getElem h0]
    rfl
  unfold headB
  rw [this]
  simp [hb]
theorem headB_empty {s : ByteArray} (h : s.size = 0) : headB s = false := by
  have : s.data.toList = [] := List.eq_nil_of_length_eq_zero (by simpa using h)
  unfold headB
  rw [this]
  rfl
theorem size_toList (s : ByteArray) : s.toList.isEmpty = decide (s.size = 0) := by
  rw [toList_data, Bool.eq_iff_iff, List.isEmpty_iff]
  simp only [decide_eq_true_eq]
  exact ⟨fun h => by have := congrArg List.length h; simpa using this, fun h => List.eq_nil_of_length_eq_zero (by simpa using h)⟩
theorem rest_size (s : ByteArray) : (s.extract 1 s.size).size ≤ s.size := by
  rw [ByteArray.size_extract]
  omega

/-- What the specification's words of a text are, and whether they are few enough. -/
def wL (s : ByteArray) : List ByteArray := (pathPs s).getD []
def wOk (s : ByteArray) : Bool := match pathPs s with
  | none => false
  | some l => decide (l.length ≤ 6)
theorem wL_some {s : ByteArray} {l : List ByteArray} (h : pathPs s = some l) : wL s = l := by unfold wL; rw [h]; rfl
theorem wL_none {s : ByteArray} (h : pathPs s = none) : wL s = [] := by unfold wL; rw [h]; rfl
theorem wOk_some {s : ByteArray} {l : List ByteArray} (h : pathPs s = some l) : wOk s = decide (l.length ≤ 6) := by unfold wOk; rw [h]
theorem wOk_none {s : ByteArray} (h : pathPs s = none) : wOk s = false := by unfold wOk; rw [h]
theorem wL_mem {s x : ByteArray} (h : x ∈ wL s) : x.size ≤ s.size := by
  unfold wL pathPs at h
  split at h
  · cases h
  · split at h
    · exact Nat.le_trans (split_size _ _ x h) (rest_size s)
    · cases h
theorem wL_len (s : ByteArray) : (wL s).length ≤ s.size + 1 := by
  unfold wL pathPs
  split
  · simp
  · split
    · exact Nat.le_trans (split_len _ _) (by have := rest_size s; omega)
    · simp
def allTo (xs : List ByteArray) (k : Nat) : Bool := (xs.take k).all wordB
theorem allTo_zero (xs : List ByteArray) : allTo xs 0 = true := by simp [allTo]
theorem allTo_succ (xs : List ByteArray) (k : Nat) (h : k < xs.length) : allTo xs (k + 1) = (allTo xs k && wordB xs[k]) := by
  unfold allTo
  rw [List.take_succ_eq_append_getElem h, List.all_append]
  simp
theorem allTo_end (xs : List ByteArray) : allTo xs xs.length = xs.all wordB := by simp [allTo]
theorem all_bad (xs : List ByteArray) (k : Nat) (h : k < xs.length) (hb : wordB xs[k] = false) : xs.all wordB = false := by
  rw [List.all_eq_false]
  exact ⟨xs[k], List.getElem_mem h, by simp [hb]⟩
/-- The specification's loops, k rounds over. -/
def gpTo (s : ByteArray) (k : Nat) : Bool := wOk s && allTo (wL s) k
theorem gpTo_zero (s : ByteArray) : gpTo s 0 = wOk s := by simp [gpTo, allTo_zero]
theorem gpTo_no {s : ByteArray} {k : Nat} (h : k < (wL s).length) (hg : gpTo s k = false) : gpTo s (k + 1) = false := by
  unfold gpTo at *
  rw [allTo_succ _ k h, ← Bool.and_assoc, hg]
  rfl
theorem gpTo_yes {s : ByteArray} {k : Nat} (h : k < (wL s).length) (hg : gpTo s k = true) : gpTo s (k + 1) = wordB (wL s)[k] := by
  unfold gpTo at *
  rw [allTo_succ _ k h, ← Bool.and_assoc, hg]
  rfl
def pgTo (s : ByteArray) (k : Nat) : Bool := wOk s && ppTo (wL s) k
theorem pgTo_zero (s : ByteArray) : pgTo s 0 = wOk s := by simp [pgTo, ppTo_zero]
theorem pgTo_no {s : ByteArray} {k : Nat} (hg : pgTo s k = false) : pgTo s (k + 1) = false := by
  unfold pgTo at *
  rw [ppTo_succ, ← Bool.and_assoc, hg]
  rfl
theorem pgTo_yes {s : ByteArray} {k : Nat} (h : k < (wL s).length) (hg : pgTo s k = true) : pgTo s (k + 1) = (wordB (wL s)[k] || starB (wL s)[k] || (star2B (wL s)[k] && decide (k + 1 = (wL s).length))) := by
  unfold pgTo at *
  rw [ppTo_succ, ← Bool.and_assoc, hg, Bool.true_and]
  unfold ppAt
  rw [List.getD_eq_getElem?_getD, List.getElem?_eq_getElem h]
  rfl
/-- The text is a path. -/
def gpB (s : ByteArray) : Bool := ptBs s && (ptLs s).all wordB
theorem gp_end (s : ByteArray) : gpTo s (wL s).length = gpB s := by
  unfold gpTo gpB
  rw [allTo_end]
  cases hp : pathPs s with
  | none => rw [wOk_none hp, ptBs_none hp]; rfl
  | some l =>
    rw [wOk_some hp, wL_some hp, ptBs_some hp]
    cases hb : ptB l with
    | true =>
      rw [ptLs_yes (by rw [ptBs_some hp]; exact hb) hp]
      rw [ptB_eq] at hb
      simp at hb
      simp [hb.2]
    | false =>
      rw [ptB_eq] at hb
      cases ha : l.all wordB with
      | false => simp
      | true => rw [plain_ok l ha] at hb; simp at hb; simp; omega
theorem pg_end (s : ByteArray) : pgTo s (wL s).length = ptBs s := by
  unfold pgTo
  cases hp : pathPs s with
  | none => rw [wOk_none hp, ptBs_none hp]; rfl
  | some l => rw [wOk_some hp, wL_some hp, ptBs_some hp, ptB_eq, pp_ok, Bool.and_comm]
/-- The pieces of a name. -/
def gnB (l : List ByteArray) : Bool := decide (l.length = 2) && l.all wordB

end Go.Proofs.YtnbojbcljfiamaaDoor

namespace Go.Proofs.YtnbojbcljfiamaaDoor
open Go.RowKit Go.Shelf
attribute [local go_sem] Oper.semAt_some

/-- What a round keeps for the iterator: its captured text's box. -/
def KeepsAt (B : Nat) (W W' : World) : Prop := W'.heap[B]? = W.heap[B]?
theorem keepsAt_t {Bn : Nat} {A B C : World} (h : KeepsAt Bn A B) (k : KeepsAt Bn B C) : KeepsAt Bn A C := Eq.trans k h

/-- What owns a row of n is a slice of length n. -/
theorem ownsRow_len {W : World} {base : Nat} {e : TypeId} {size : Nat} {v : Value} {k : Nat} {xs : List Value} (h : W.ownsRow base e size v k xs) : ∃ a cap, v = .slice a k cap := by
  rcases h.2 with ⟨rfl, rfl⟩ | ⟨g, cap, _, rfl, _⟩
  · exact ⟨none, 0, rfl⟩
  · exact ⟨_, cap, rfl⟩
/-- What owns a row owns it where nothing old has turned. -/
theorem ownsRow_below {w w' : World} {base : Nat} {e : TypeId} {size : Nat} {v : Value} {k : Nat} {xs : List Value} (h : w.ownsRow base e size v k xs) (hB : Below w.heap.size w w') : w'.ownsRow base e size v k xs := by
  refine ⟨h.1, ?_⟩
  rcases h.2 with h0 | ⟨g, cap, cur, hv, hg, hb, r⟩
  · exact .inl h0
  · exact .inr ⟨g, cap, cur, hv, hg, (hB.block g (Array.getElem?_eq_some_iff.1 hb).1).trans hb, r⟩
theorem ownsRow_base {W : World} {base base' : Nat} {e : TypeId} {size : Nat} {v : Value} {k : Nat} {xs : List Value} (h : W.ownsRow base e size v k xs) (hb : base' ≤ base) : W.ownsRow base' e size v k xs := by
  refine ⟨h.1, ?_⟩
  rcases h.2 with h0 | ⟨g, cap, cur, hv, hg, r⟩
  · exact .inl h0
  · exact .inr ⟨g, cap, cur, hv, Nat.le_trans hb hg, r⟩
theorem ownsRow_low {W : World} {base : Nat} {e : TypeId} {size : Nat} {v : Value} {k B : Nat} {xs : List Value} (h : W.ownsRow base e size v k xs) (hB : B < base) : some B ≠ v.ownBlock := by
  rcases h.2 with ⟨rfl, _⟩ | ⟨g, cap, cur, rfl, hg, _⟩
  · simp [Value.ownBlock]
  · simp [Value.ownBlock]; omega
/-- 'out = append(out, x)': out's box lies at B below the row: behind the store. -/
theorem boxed_appended {W w1 : World} {n₁ B : Nat} {t e : TypeId} {size : Nat} {v v' : Value} {k m : Nat} {xs ys : List Value} {tmp : Obj}
    (hv : Boxed W B t v) (hB : B < n₁) (hn₁ : n₁ ≤ W.heap.size) (hrow : W.ownsRow n₁ e size v k xs) (hown' : w1.ownsRow n₁ e size v' m ys) (hgrow : (W.alloc tmp).grownBy w1 v.ownBlock) :
    Boxed w1 B t v ∧ Boxed (w1.setCell ⟨B, 0, none⟩ v') B t v' ∧ (w1.setCell ⟨B, 0, none⟩ v').ownsRow n₁ e size v' m ys ∧ KeepsOthers W (w1.setCell ⟨B, 0, none⟩ v') ∧ Below B W (w1.setCell ⟨B, 0, none⟩ v') ∧
      (∀ j, j < n₁ → j ≠ B → (w1.setCell ⟨B, 0, none⟩ v').heap[j]? = W.heap[j]?) := by
  have hv1 : Boxed w1 B t v := (hv.alloc tmp).kept hgrow (ownsRow_low hrow hB)
  have hbl := below_appended hn₁ hrow hgrow
  refine ⟨hv1, hv1.set v', hown'.kept (grownBy_setCell' w1 B v') (.inr (ownsRow_low hown' hB).symm), ?_, ?_, ?_⟩
  · refine ((KeepsOthers.alloc W tmp).trans (KeepsOthers.of_grownBy hgrow fun j o ej hj => ?_)).trans (KeepsOthers.setCell _ _ _)
    rcases (hrow.alloc tmp).2 with ⟨rfl, _⟩ | ⟨g, cap, cur, rfl, _, hgb, _⟩
    · simp [Value.ownBlock] at ej
    · obtain rfl : g = j := by simpa [Value.ownBlock] using ej
      rw [hgb] at hj; cases hj; rfl
  · exact (hbl.mono (Nat.le_of_lt hB)).setCell (p := ⟨B, 0, none⟩) (Nat.le_refl _) v'
  · intro j hj hne
    exact (Below.heap_setCell _ _ _ j hne).trans (hbl.block j hj)

end Go.Proofs.YtnbojbcljfiamaaDoor

namespace Go.Proofs.YtnbojbcljfiamaaDoor
open Go.RowKit Go.Shelf

theorem ret_int {k : IntKind} {a b : Int} (h : a = b) : Ending.returned (.int k a) = .returned (.int k b) := by rw [h]
/-- Behind a call that makes memory alone every old cell reads as it did. -/
theorem bcell {W w1 : World} (hb : Below W.heap.size W w1) : (∀ b o, b < W.heap.size → w1.cell? ⟨b, o, none⟩ = W.cell? ⟨b, o, none⟩) ∧ (∀ b o, b < W.heap.size → w1.frozen? ⟨b, o, none⟩ = W.frozen? ⟨b, o, none⟩) :=
  ⟨fun b o h => hb.cell (p := ⟨b, o, none⟩) h, fun b o h => hb.frozen (p := ⟨b, o, none⟩) h⟩
theorem below_one {w W w1 : World} (h : Below w.heap.size w W) (h1 : Below W.heap.size W w1) : Below w.heap.size w w1 := h.trans (h1.mono h.size)
theorem below_two {w W w1 w2 : World} (h : Below w.heap.size w W) (h1 : Below W.heap.size W w1) (h2 : Below w1.heap.size w1 w2) : Below w.heap.size w w2 := below_one (below_one h h1) h2
theorem ret_str {a b : ByteArray} (h : a = b) : Ending.returned (.string a) = .returned (.string b) := by rw [h]
theorem ret_strb {a b : ByteArray} {c d : Bool} (h : a = b) (h' : c = d) : Ending.returned (.tuple #[.string a, .bool c]) = .returned (.tuple #[.string b, .bool d]) := by rw [h, h']
theorem below_drew1 {W w1 : World} (h : Below W.heap.size W.drew w1) : Below W.heap.size W w1 := (Below.refl W.heap.size W).drew.trans h
theorem sum_mem {l : List Nat} {x : Nat} (h : x ∈ l) : x ≤ l.sum := by
  induction l with
  | nil => cases h
  | cons y l ih =>
    rw [List.sum_cons]
    rcases List.mem_cons.1 h with rfl | h
    · omega
    · have := ih h
      omega
/-- A row that the call owns is a slice: none, or one with an address. -/
theorem row_form {w : World} {base : Nat} {e : TypeId} {size n : Nat} {v : Value} {xs : List Value} (h : w.ownsRow base e size v n xs) : (v = .slice none 0 0 ∧ n = 0) ∨ ∃ g cap, v = .slice (some ⟨g, 0, none⟩) n cap ∧ base ≤ g ∧ n ≤ cap := by
  rcases h.2 with h | ⟨g, cap, cur, hv, hg, _, hn, _⟩
  · exact .inl h
  · exact .inr ⟨g, cap, hv, hg, hn⟩
theorem grown_below {w W w2 : World} {r : Option Nat} (h : w.grownBy W r) (hB : Below W.heap.size W w2) : w.grownBy w2 r :=
  ⟨hB.os.trans h.os, hB.tape.trans h.tape, hB.output.trans h.output, Nat.le_trans h.size hB.size, fun k hk hne => (hB.block k (Nat.lt_of_lt_of_le hk h.size)).trans (h.block k hk hne)⟩
theorem grown_two {w W w2 : World} {r : Option Nat} (h : w.grownBy W r) (h2 : W.grownBy w2 r) : w.grownBy w2 r :=
  ⟨h2.os.trans h.os, h2.tape.trans h.tape, h2.output.trans h.output, Nat.le_trans h.size h2.size, fun k hk hne => (h2.block k (Nat.lt_of_lt_of_le hk h.size) hne).trans (h.block k hk hne)⟩
theorem grown_self (w : World) (r : Option Nat) : w.grownBy w r := ⟨rfl, rfl, rfl, Nat.le_refl _, fun _ _ _ => rfl⟩
theorem kept_apart {w w' : World} {base : Nat} {e : TypeId} {size n : Nat} {v v2 : Value} {xs : List Value} (h : w.ownsRow base e size v n xs) (hg : w.grownBy w' v2.ownBlock) (ha : ∀ k, v.ownBlock = some k → v2.ownBlock = some k → False) : w'.ownsRow base e size v n xs := by
  cases hb : v.ownBlock with
  | none => exact h.kept hg (.inl hb)
  | some b => exact h.kept hg (.inr (fun e => ha b hb (e ▸ hb)))

end Go.Proofs.YtnbojbcljfiamaaDoor

namespace Go.Proofs.YtnbojbcljfiamaaDoor
open Go.RowKit Go.Shelf

/-- The decimal digits of a number, none of 0. -/
def digT (n : Nat) : ByteArray := if _h : n = 0 then ⟨#[]⟩ else digT (n / 10) ++ ⟨#[UInt8.ofNat (48 + n % 10)]⟩
termination_by n
decreasing_by omega
theorem digT_zero : digT 0 = ⟨#[]⟩ := by rw [digT]; rfl
theorem digT_pos {n : Nat} (h : 0 < n) : digT n = digT (n / 10) ++ ⟨#[UInt8.ofNat (48 + n % 10)]⟩ := by
  rw [digT, dif_neg (by omega)]
theorem digT_size (n : Nat) : (digT n).size ≤ n := by
  induction n using Nat.strongRecOn with
  | ind n ih =>
    by_cases h : n = 0
    · subst h
      rw [digT_zero]
      exact Nat.zero_le _
    · rw [digT_pos (by omega), ByteArray.size_append]
      have := ih (n / 10) (by omega)
      have h1 : (⟨#[UInt8.ofNat (48 + n % 10)]⟩ : ByteArray).size = 1 := rfl
      omega
theorem app_nil (x : ByteArray) : x ++ ⟨#[]⟩ = x := by
  apply ByteArray.ext
  simp [ByteArray.data_append]
def mkT (n : Nat) : ByteArray := if n = 0 then ⟨#[109, 48]⟩ else ⟨#[109]⟩ ++ digT n

theorem digit_conv (w : World) (m : Nat) : (convert 160 9 (.slice (some ⟨w.heap.size, 0, none⟩) 1 1)).run Tryd.prog (w.alloc (.cells #[.int .u8 (48 + (m : Int) % 10)] 5)) = .ok (.string ⟨#[UInt8.ofNat (48 + m % 10)]⟩) (w.alloc (.cells #[.int .u8 (48 + (m : Int) % 10)] 5)) := by
  refine run_convert_bytes_back (P := Tryd.prog) _ 160 9 5 ⟨w.heap.size, 0, none⟩ 1 [UInt8.ofNat (48 + m % 10)] Tryd.underlying160 Tryd.underlying5 Tryd.underlying9 ?_
  intro j hj
  match j, hj with
  | 0, _ =>
    simp [Addr.add]
    omega

end Go.Proofs.YtnbojbcljfiamaaDoor

namespace Go.Proofs.YtnbojbcljfiamaaDoor
open Go.RowKit Go.Shelf

/-- A slice whose elements have one cell each reads as these values. -/
def VS (w : World) (v : Value) (xs : List Value) : Prop :=
  (∃ a cap, v = .slice a 0 cap ∧ xs = []) ∨
  ∃ b off cap, v = .slice (some ⟨b, off, none⟩) xs.length cap ∧ b < w.heap.size ∧ xs.length ≤ cap ∧ ∀ i (h : i < xs.length), w.cell? ⟨b, off + i, none⟩ = some xs[i]
theorem VS.below {w w' : World} {v : Value} {xs : List Value} (h : VS w v xs) (hB : Below w.heap.size w w') : VS w' v xs := by
  rcases h with h | ⟨b, off, cap, hv, hb, hl, hc⟩
  · exact .inl h
  · exact .inr ⟨b, off, cap, hv, Nat.lt_of_lt_of_le hb hB.size, hl, fun k hk => (hB.cell (p := ⟨b, off + k, none⟩) hb).trans (hc k hk)⟩
theorem VS.len {w : World} {v : Value} {xs : List Value} (h : VS w v xs) : ∃ a cap, v = .slice a xs.length cap := by
  rcases h with ⟨a, cap, hv, rfl⟩ | ⟨b, off, cap, hv, _⟩
  · exact ⟨a, cap, hv⟩
  · exact ⟨_, cap, hv⟩
theorem VS.at {w : World} {a : Option Addr} {n cap : Nat} {xs : List Value} (h : VS w (.slice a n cap) xs) {i : Nat} (hi : i < xs.length) : ∃ b off, a = some ⟨b, off, none⟩ ∧ b < w.heap.size ∧ n ≤ cap ∧ w.cell? ⟨b, off + i, none⟩ = some xs[i] := by
  rcases h with ⟨_, _, _, rfl⟩ | ⟨b, off, cap, hv, hb, hl, hc⟩
  · simp at hi
  · cases hv
    exact ⟨b, off, rfl, hb, hl, hc i hi⟩
theorem VS.own {w : World} {base : Nat} {e : TypeId} {v : Value} {xs : List Value} (h : w.ownsRow base e 1 v xs.length xs) : VS w v xs := by
  rcases h.2 with ⟨rfl, h0⟩ | ⟨g, cap, cur, rfl, hg, hb, hle, _⟩
  · exact .inl ⟨none, 0, rfl, List.eq_nil_of_length_eq_zero h0⟩
  · refine .inr ⟨g, 0, cap, rfl, (Array.getElem?_eq_some_iff.1 hb).1, hle, fun k hk => ?_⟩
    have := h.cellAt k (by omega)
    rw [List.getElem?_eq_getElem hk] at this
    rw [Nat.zero_add]
    exact this

abbrev strs (ss : List ByteArray) : List Value := ss.map Value.string
theorem VS.ownS {w : World} {base : Nat} {e : TypeId} {v : Value} {ss : List ByteArray} (h : w.ownsRow base e 1 v ss.length (ss.map Value.string)) : VS w v (ss.map Value.string) :=
  VS.own (by rw [List.length_map]; exact h)
theorem VS.ownN {w : World} {base : Nat} {e : TypeId} {v : Value} {zs : List Int} (h : w.ownsRow base e 1 v zs.length (zs.map (Value.int .i64))) : VS w v (zs.map (Value.int .i64)) :=
  VS.own (by rw [List.length_map]; exact h)
abbrev nums (zs : List Int) : List Value := zs.map (Value.int .i64)
theorem strs_len (ss : List ByteArray) : (strs ss).length = ss.length := List.length_map _
theorem nums_len (zs : List Int) : (nums zs).length = zs.length := List.length_map _
theorem VS.str {w : World} {a : Option Addr} {n cap : Nat} {ss : List ByteArray} (h : VS w (.slice a n cap) (strs ss)) {i : Nat} (hi : i < ss.length) : ∃ b off, a = some ⟨b, off, none⟩ ∧ b < w.heap.size ∧ n ≤ cap ∧ w.cell? ⟨b, off + i, none⟩ = some (.string ss[i]) := by
  obtain ⟨b, off, h1, h2, h3, h4⟩ := h.at (i := i) (by rw [strs_len]; exact hi)
  exact ⟨b, off, h1, h2, h3, by rw [h4, List.getElem_map]⟩
theorem VS.num {w : World} {a : Option Addr} {n cap : Nat} {zs : List Int} (h : VS w (.slice a n cap) (nums zs)) {i : Nat} (hi : i < zs.length) : ∃ b off, a = some ⟨b, off, none⟩ ∧ b < w.heap.size ∧ n ≤ cap ∧ w.cell? ⟨b, off + i, none⟩ = some (.int .i64 zs[i]) := by
  obtain ⟨b, off, h1, h2, h3, h4⟩ := h.at (i := i) (by rw [nums_len]; exact hi)
  exact ⟨b, off, h1, h2, h3, by rw [h4, List.getElem_map]⟩
theorem VS.strLen {w : World} {v : Value} {ss : List ByteArray} (h : VS w v (strs ss)) : ∃ a cap, v = .slice a ss.length cap := by
  have := h.len
  rwa [strs_len] at this
theorem VS.numLen {w : World} {v : Value} {zs : List Int} (h : VS w v (nums zs)) : ∃ a cap, v = .slice a zs.length cap := by
  have := h.len
  rwa [nums_len] at this

set_option maxRecDepth 100000 in
open Go.Deep Go.ChangeShapes Go.WideShapes Go.Joins in
/-- A list of texts that comes in. -/
theorem openStS {H : Type} {enc : TypeId × Value → H} {W : World} {a : Option Addr} {n c : Nat} {d : DataW H} {p : List MemPlace} (h : DataW.Trod enc Tryd.prog W 0 (fun _ => true) true 24 (.slice a n c) d p) :
    ∃ ss : List ByteArray, VS W (.slice a n c) (strs ss) ∧ ss.length = n ∧ n ≤ maxLen ∧ ∀ s ∈ ss, s.size ≤ maxLen := by
  obtain ⟨fuel, hf⟩ := h
  have c2 : Tryd.prog.cellsOf 9 = 1 := by kernel_rfl
  rcases open_slice Tryd.underlying24 hf with ⟨hcs, _⟩ | ⟨x, len, cap, m, k, D, Pl, hcs, _, hl, hm, hmm, _, hx⟩
  · simp [Value.cells] at hcs
    obtain ⟨rfl, rfl, rfl⟩ := hcs
    exact ⟨[], .inl ⟨_, _, rfl, rfl⟩, rfl, Nat.zero_le _, fun r hr => by cases hr⟩
  · simp [Value.cells] at hcs
    obtain ⟨rfl, rfl, rfl⟩ := hcs
    have hlm : n ≤ m := by rw [hmm]; simpa using hl
    have each : ∀ i, i < n → ∃ r : ByteArray, W.cell? (x.add i) = some (.string r) ∧ r.size ≤ maxLen := by
      intro i hi
      obtain ⟨cs', h1, h2⟩ := hx i (by omega)
      rw [c2, Nat.mul_one] at h1
      obtain ⟨_, hlen, hcell⟩ := World.cells?_some h1
      obtain ⟨x0, f0, _, w0⟩ := DataW.trod_string Tryd.underlying9 h2
      subst f0
      have e0 := hcell 0 (by omega)
      rw [add_add] at e0
      exact ⟨x0, by simpa using e0, w0⟩
    have hin : Inhabited ByteArray := ⟨ByteArray.empty⟩
    obtain ⟨q, hq⟩ := choose_lt each
    by_cases h0 : n = 0
    · subst h0
      exact ⟨[], .inl ⟨_, _, rfl, rfl⟩, rfl, Nat.zero_le _, fun r hr => by cases hr⟩
    · obtain ⟨b, off, spot⟩ := x
      have hs : spot = none := by simpa [Addr.add] using World.cell?_spot (hq 0 (by omega)).1
      subst hs
      have hlt : b < W.heap.size := by
        have := (hq 0 (by omega)).1
        rw [Addr.add_lit] at this
        by_cases hb : b < W.heap.size
        · exact hb
        · simp only [World.cell?] at this
          rw [Array.getElem?_eq_none (by omega)] at this
          cases this
      refine ⟨(List.range n).map q, .inr ⟨b, off, c, by simp [strs], hlt, by simpa [strs] using hl, fun k hk => ?_⟩, by simp, by omega, ?_⟩
      · have hk' : k < n := by simpa [strs] using hk
        have := (hq k hk').1
        simp only [Addr.add_lit] at this
        simpa [strs] using this
      · intro r hr
        obtain ⟨i, hi, rfl⟩ := List.mem_map.1 hr
        exact (hq i (List.mem_range.1 hi)).2

set_option maxRecDepth 100000 in
open Go.Deep Go.ChangeShapes Go.WideShapes Go.Joins in
/-- A list of numbers that comes in. -/
theorem openInS {H : Type} {enc : TypeId × Value → H} {W : World} {a : Option Addr} {n c : Nat} {d : DataW H} {p : List MemPlace} (h : DataW.Trod enc Tryd.prog W 0 (fun _ => true) true 23 (.slice a n c) d p) :
    ∃ zs : List Int, VS W (.slice a n c) (nums zs) ∧ zs.length = n ∧ n ≤ maxLen := by
  obtain ⟨fuel, hf⟩ := h
  have c2 : Tryd.prog.cellsOf 3 = 1 := by kernel_rfl
  rcases open_slice Tryd.underlying23 hf with ⟨hcs, _⟩ | ⟨x, len, cap, m, k, D, Pl, hcs, _, hl, hm, hmm, _, hx⟩
  · simp [Value.cells] at hcs
    obtain ⟨rfl, rfl, rfl⟩ := hcs
    exact ⟨[], .inl ⟨_, _, rfl, rfl⟩, rfl, Nat.zero_le _⟩
  · simp [Value.cells] at hcs
    obtain ⟨rfl, rfl, rfl⟩ := hcs
    have hlm : n ≤ m := by rw [hmm]; simpa using hl
    have each : ∀ i, i < n → ∃ r : Int, W.cell? (x.add i) = some (.int .i64 r) := by
      intro i hi
      obtain ⟨cs', h1, h2⟩ := hx i (by omega)
      rw [c2, Nat.mul_one] at h1
      obtain ⟨_, hlen, hcell⟩ := World.cells?_some h1
      obtain ⟨x0, f0, _, _⟩ := DataW.trod_int Tryd.underlying3 h2
      subst f0
      have e0 := hcell 0 (by omega)
      rw [add_add] at e0
      exact ⟨x0, by simpa using e0⟩
    obtain ⟨q, hq⟩ := choose_lt each
    by_cases h0 : n = 0
    · subst h0
      exact ⟨[], .inl ⟨_, _, rfl, rfl⟩, rfl, Nat.zero_le _⟩
    · obtain ⟨b, off, spot⟩ := x
      have hs : spot = none := by simpa [Addr.add] using World.cell?_spot (hq 0 (by omega))
      subst hs
      have hlt : b < W.heap.size := by
        have := hq 0 (by omega)
        rw [Addr.add_lit] at this
        by_cases hb : b < W.heap.size
        · exact hb
        · simp only [World.cell?] at this
          rw [Array.getElem?_eq_none (by omega)] at this
          cases this
      refine ⟨(List.range n).map q, .inr ⟨b, off, c, by simp [nums], hlt, by simpa [nums] using hl, fun k hk => ?_⟩, by simp, by omega⟩
      have hk' : k < n := by simpa [nums] using hk
      have := hq k hk'
      simp only [Addr.add_lit] at this
      simpa [nums] using this

theorem take_one {α : Type} (xs : List α) (k : Nat) (a : α) (h : k < xs.length) : (xs.set k a).take (k + 1) = xs.take k ++ [a] := by
  rw [List.take_succ_eq_append_getElem (by simpa using h), List.take_set_of_le (Nat.le_refl _)]
  simp
theorem below_drewn {w W : World} (h : Below w.heap.size w W) (n : Nat) : Below w.heap.size w (W.drewN n) :=
  h.trans ⟨rfl, rfl, rfl, Nat.le_refl _, fun _ _ => rfl⟩
theorem infoString : (Tryd.prog.info? 9).map (fun i => (i.zero, i.size, i.bytes)) = some (some (.string ByteArray.empty), 1, 16) := by kernel_rfl
theorem infoInt : (Tryd.prog.info? 3).map (fun i => (i.zero, i.size, i.bytes)) = some (some (.int .i64 0), 1, 8) := by kernel_rfl

/-- Two lists of texts are alike. -/
def ssTo (xs ys : List ByteArray) (k : Nat) : Bool := ((xs.zip ys).take k).all (fun q => q.1.toList == q.2.toList)
def ssS (xs ys : List ByteArray) : Bool := decide (xs.length = ys.length) && (xs.zip ys).all (fun q => q.1.toList == q.2.toList)
theorem ssTo_zero (xs ys : List ByteArray) : ssTo xs ys 0 = true := by simp [ssTo]
theorem ssTo_succ {xs ys : List ByteArray} {k : Nat} (h : k < xs.length) (h' : k < ys.length) : ssTo xs ys (k + 1) = (ssTo xs ys k && (xs[k].toList == ys[k].toList)) := by
  unfold ssTo
  rw [List.take_succ_eq_append_getElem (by rw [List.length_zip]; omega), List.all_append]
  simp
theorem ss_end {xs ys : List ByteArray} (h : xs.length = ys.length) : ssTo xs ys xs.length = ssS xs ys := by
  unfold ssTo ssS
  rw [List.take_of_length_le (by rw [List.length_zip]; omega), decide_eq_true h, Bool.true_and]
theorem ssS_refl (xs : List ByteArray) : ssS xs xs = true := by
  unfold ssS
  rw [decide_eq_true rfl, Bool.true_and, List.all_eq_true]
  intro x hx
  obtain ⟨i, hi, he⟩ := List.getElem_of_mem hx
  rw [List.getElem_zip] at he
  rw [← he]
  simp

set_option maxHeartbeats 1000000 in
/-- A list of texts is like itself, wherever the two lie. -/
theorem eqStringS_any (v v' : Value) (ss : List ByteArray) (w : World) (hn : ss.length ≤ 1048577) (hr : VS w v (strs ss)) (hr' : VS w v' (strs ss)) :
    Calls Tryd.prog 43 #[v, v'] w fun e w' => e = .returned (.bool true) ∧ Below w.heap.size w w' := by
  obtain ⟨a, cap, rfl⟩ := hr.strLen
  obtain ⟨a', cap', rfl⟩ := hr'.strLen
  have e0 : ((ss.length : Int) != (ss.length : Int)) = false := by simp
  go_enter Tryd.func43, Tryd.ntmps43
  go_wp2
  go_loopw [5] (fun i wr => ∃ j : Nat, j ≤ ss.length ∧ i = .int .i64 j ∧ Below w.heap.size w wr) (fun i _ => ss.length - (intOf i).toNat)
  case atStart => exact ⟨0, Nat.zero_le _, rfl, Below.refl _ _⟩
  case round =>
    obtain ⟨j, hj, rfl, hB⟩ := hrel
    by_cases hlt : j < ss.length
    · obtain ⟨b, off, rfl, hb, hcap, q0⟩ := (hr.below hB).str hlt
      obtain ⟨b', off', rfl, hb', hcap', q1⟩ := (hr'.below hB).str hlt
      generalize ss[j] = x at q0 q1
      go_wp2_with fail
      go_quiet (fail)
      go_wp2
      go_roundw
      case rel => first | exact ⟨j + 1, by omega, by go_num, below_drewn hB _⟩ | ((repeat apply Exists.intro); exact ⟨⟨j + 1, by omega, by go_num, below_drewn hB _⟩, rfl⟩)
      case measure => simp [intOf]; omega
    · obtain rfl : j = ss.length := by omega
      go_wp2
      go_ret
      exact ⟨rfl, hB⟩

set_option maxHeartbeats 1000000 in
/-- A list of numbers is like itself, wherever the two lie. -/
theorem eqIntS_same (v v' : Value) (zs : List Int) (w : World) (hn : zs.length ≤ 1048577) (hr : VS w v (nums zs)) (hr' : VS w v' (nums zs)) :
    Calls Tryd.prog 42 #[v, v'] w fun e w' => e = .returned (.bool true) ∧ Below w.heap.size w w' := by
  obtain ⟨a, cap, rfl⟩ := hr.numLen
  obtain ⟨a', cap', rfl⟩ := hr'.numLen
  have e0 : ((zs.length : Int) != (zs.length : Int)) = false := by simp
  go_enter Tryd.func42, Tryd.ntmps42
  go_wp2
  go_loopw [5] (fun i wr => ∃ j : Nat, j ≤ zs.length ∧ i = .int .i64 j ∧ Below w.heap.size w wr) (fun i _ => zs.length - (intOf i).toNat)
  case atStart => exact ⟨0, Nat.zero_le _, rfl, Below.refl _ _⟩
  case round =>
    obtain ⟨j, hj, rfl, hB⟩ := hrel
    by_cases hlt : j < zs.length
    · obtain ⟨b, off, rfl, hb, hcap, q0⟩ := (hr.below hB).num hlt
      obtain ⟨b', off', rfl, hb', hcap', q1⟩ := (hr'.below hB).num hlt
      generalize zs[j] = x at q0 q1
      go_wp2_with fail
      go_quiet (fail)
      go_wp2
      go_roundw
      case rel => first | exact ⟨j + 1, by omega, by go_num, below_drewn hB _⟩ | ((repeat apply Exists.intro); exact ⟨⟨j + 1, by omega, by go_num, below_drewn hB _⟩, rfl⟩)
      case measure => simp [intOf]; omega
    · obtain rfl : j = zs.length := by omega
      go_wp2
      go_ret
      exact ⟨rfl, hB⟩

set_option maxHeartbeats 1000000 in
theorem toStringS_any (v : Value) (ss : List ByteArray) (w : World) (hm : ss.length ≤ 1048576) (hr : VS w v (strs ss)) :
    Calls Tryd.prog 35 #[v] w fun e w' => ∃ v', e = .returned v' ∧ w'.ownsRow w.heap.size 9 1 v' ss.length (strs ss) ∧ Below w.heap.size w w' := by
  obtain ⟨a, cap, rfl⟩ := hr.strLen
  obtain ⟨i0, hi, hz0, hz1, hz2⟩ := info_parts infoString
  go_enter Tryd.func35, Tryd.ntmps35
  go_wp2_with (at_make; refine wpList_make_full _ rfl _ _ 24 rfl w.heap.size 9 i0 _ 1 Tryd.underlying24 hi hz0 hz1 _ _ _ _ ss.length rfl rfl rfl rfl (by rw [hz2]; omega) (by unfold maxLen; omega) (Nat.le_refl _) ?_; intro w1 hown hgrow)
  have hB1 : Below w.heap.size w w1 := (Below.refl _ w).grown hgrow (Nat.le_refl _) (fun k e => by cases e)
  go_loopw [4] (fun i wr => ∃ k : Nat, k ≤ ss.length ∧ i = .int .i64 k ∧ ∃ xs, wr.ownsRow w.heap.size 9 1 (.slice (some ⟨w.heap.size, 0, none⟩) ss.length ss.length) ss.length xs ∧ xs.take k = strs (ss.take k) ∧ Below w.heap.size w wr) (fun i _ => ss.length - (intOf i).toNat)
  case atStart => exact ⟨0, Nat.zero_le _, rfl, _, hown, by simp, hB1⟩
  case round =>
    obtain ⟨k, hk, rfl, xs, hrow, hx, hB⟩ := hrel
    have HX := hid hx
    clear hx
    by_cases hlt : k < ss.length
    · obtain ⟨b, off, rfl, hb, hcap, q0⟩ := (hr.below hB).str hlt
      have HT := hid (List.take_succ_eq_append_getElem hlt)
      generalize ss[k] = r at *
      have hlen : xs.length = ss.length := by have := hrow.1; omega
      have s0 := hrow.cellAt k (by omega)
      rw [List.getElem?_eq_getElem (by omega)] at s0
      have t0 := hrow.frozenAt k
      generalize xs[k] = y0 at *
      go_wp2
      go_roundw
      case rel =>
        refine ⟨k + 1, by omega, by go_num, _, (hrow.stored k (.string r)).1, ?_, hB.setCell (p := ⟨w.heap.size, _, none⟩) (Nat.le_refl _) _⟩
        rw [take_one _ _ _ (by omega), HX.out, HT.out]
        simp [strs]
      case measure => simp [intOf]; omega
    · obtain rfl : k = ss.length := by omega
      have HF := hid (show xs = strs ss by have := HX.out; rw [List.take_of_length_le (by have := hrow.1; omega), List.take_length] at this; exact this)
      go_wp2
      go_ret
      exact ⟨_, rfl, by rw [← HF.out]; exact hrow, hB⟩

set_option maxHeartbeats 1000000 in
theorem toIntS_any (v : Value) (zs : List Int) (w : World) (hm : zs.length ≤ 1048576) (hr : VS w v (nums zs)) :
    Calls Tryd.prog 34 #[v] w fun e w' => ∃ v', e = .returned v' ∧ w'.ownsRow w.heap.size 3 1 v' zs.length (nums zs) ∧ Below w.heap.size w w' := by
  obtain ⟨a, cap, rfl⟩ := hr.numLen
  obtain ⟨i0, hi, hz0, hz1, hz2⟩ := info_parts infoInt
  go_enter Tryd.func34, Tryd.ntmps34
  go_wp2_with (at_make; refine wpList_make_full _ rfl _ _ 23 rfl w.heap.size 3 i0 _ 1 Tryd.underlying23 hi hz0 hz1 _ _ _ _ zs.length rfl rfl rfl rfl (by rw [hz2]; omega) (by unfold maxLen; omega) (Nat.le_refl _) ?_; intro w1 hown hgrow)
  have hB1 : Below w.heap.size w w1 := (Below.refl _ w).grown hgrow (Nat.le_refl _) (fun k e => by cases e)
  go_loopw [4] (fun i wr => ∃ k : Nat, k ≤ zs.length ∧ i = .int .i64 k ∧ ∃ xs, wr.ownsRow w.heap.size 3 1 (.slice (some ⟨w.heap.size, 0, none⟩) zs.length zs.length) zs.length xs ∧ xs.take k = nums (zs.take k) ∧ Below w.heap.size w wr) (fun i _ => zs.length - (intOf i).toNat)
  case atStart => exact ⟨0, Nat.zero_le _, rfl, _, hown, by simp, hB1⟩
  case round =>
    obtain ⟨k, hk, rfl, xs, hrow, hx, hB⟩ := hrel
    have HX := hid hx
    clear hx
    by_cases hlt : k < zs.length
    · obtain ⟨b, off, rfl, hb, hcap, q0⟩ := (hr.below hB).num hlt
      have HT := hid (List.take_succ_eq_append_getElem hlt)
      generalize zs[k] = r at *
      have hlen : xs.length = zs.length := by have := hrow.1; omega
      have s0 := hrow.cellAt k (by omega)
      rw [List.getElem?_eq_getElem (by omega)] at s0
      have t0 := hrow.frozenAt k
      generalize xs[k] = y0 at *
      go_wp2
      go_roundw
      case rel =>
        refine ⟨k + 1, by omega, by go_num, _, (hrow.stored k (.int .i64 r)).1, ?_, hB.setCell (p := ⟨w.heap.size, _, none⟩) (Nat.le_refl _) _⟩
        rw [take_one _ _ _ (by omega), HX.out, HT.out]
        simp [nums]
      case measure => simp [intOf]; omega
    · obtain rfl : k = zs.length := by omega
      have HF := hid (show xs = nums zs by have := HX.out; rw [List.take_of_length_le (by have := hrow.1; omega), List.take_length] at this; exact this)
      go_wp2
      go_ret
      exact ⟨_, rfl, by rw [← HF.out]; exact hrow, hB⟩

/-- What is left of a budget behind a list of texts. -/
def tzTo (ss : List ByteArray) (n : Nat) : Nat := ((ss.take n).map ByteArray.size).sum
def tzAll (ss : List ByteArray) : Nat := ss.length + tzTo ss ss.length
theorem tzTo_zero (ss : List ByteArray) : tzTo ss 0 = 0 := by simp [tzTo]
theorem tzTo_succ {ss : List ByteArray} {n : Nat} (h : n < ss.length) : tzTo ss (n + 1) = tzTo ss n + ss[n].size := by
  unfold tzTo
  rw [List.take_succ_eq_append_getElem h, List.map_append, List.sum_append]
  simp
theorem tzTo_le (ss : List ByteArray) (n : Nat) : tzTo ss n ≤ tzTo ss ss.length := by
  unfold tzTo
  rw [List.take_length]
  conv => rhs; rw [← List.take_append_drop n ss, List.map_append, List.sum_append]
  omega
theorem tz_mem {ss : List ByteArray} {s : ByteArray} (h : s ∈ ss) : s.size ≤ tzTo ss ss.length := by
  unfold tzTo
  rw [List.take_length]
  exact sum_mem (List.mem_map.2 ⟨s, h, rfl⟩)
def leftT (n : Int) (ss : List ByteArray) : Int := if (tzAll ss : Int) ≤ n then n - tzAll ss else -1

set_option maxHeartbeats 1000000 in
theorem szStringS_any (v : Value) (rs : List ByteArray) (n : Int) (w : World) (h0 : 0 ≤ n) (h1 : n ≤ 1048576) (hm : rs.length ≤ maxLen) (hf : ∀ r ∈ rs, r.size ≤ maxLen) (hr : VS w v (strs rs)) :
    Calls Tryd.prog 27 #[v, .int .i64 n] w fun e w' => e = .returned (.int .i64 (leftT n rs)) ∧ Below w.heap.size w w' := by
  obtain ⟨a, cap, rfl⟩ := hr.strLen
  unfold maxLen at hm hf
  by_cases c0 : n < rs.length
  · have HR := hid (show leftT n rs = -1 from if_neg (by unfold tzAll; omega))
    go_enter Tryd.func27, Tryd.ntmps27
    go_wp2
    go_ret
    exact ⟨ret_int HR.out.symm, Below.refl _ _⟩
  · have d0 : decide (n - (rs.length : Int) < 0) = false := by simp; omega
    go_enter Tryd.func27, Tryd.ntmps27
    go_wp2
    go_loopw [1, 5] (fun m i wr => ∃ (k : Nat) (z : Int), k ≤ rs.length ∧ i = .int .i64 k ∧ m = .int .i64 z ∧ z = n - rs.length - tzTo rs k ∧ 0 ≤ z ∧ Below w.heap.size w wr) (fun _ i _ => rs.length - (intOf i).toNat)
    case atStart => exact ⟨0, _, Nat.zero_le _, rfl, by go_num, by rw [tzTo_zero]; omega, by omega, Below.refl _ _⟩
    case round =>
      obtain ⟨k, z, hk, rfl, rfl, hz, hp, hB⟩ := hrel
      have hz1 : z ≤ 1048576 := by omega
      have HZ := hid hz
      clear hz
      by_cases hlt : k < rs.length
      · obtain ⟨b, off, rfl, hb, hcap, q0⟩ := (hr.below hB).str hlt
        have f1 := hf rs[k] (List.getElem_mem hlt)
        have HS := hid (tzTo_succ hlt)
        have HT := hid (tzTo_le rs (k + 1))
        generalize rs[k] = r at *
        by_cases c1 : (r.size : Int) ≤ z
        · have d1 : decide (z - (r.size : Int) < 0) = false := by simp; omega
          go_wp2
          go_roundw
          case rel => exact ⟨k + 1, z - r.size, by omega, by go_num, by go_num, by have := HZ.out; have := HS.out; omega, by omega, hB⟩
          case measure => simp [intOf]; omega
        · have HR := hid (show leftT n rs = -1 from if_neg (by have := HT.out; rw [HS.out] at this; have := HZ.out; unfold tzAll; omega))
          have d1 : decide (z - (r.size : Int) < 0) = true := by simp; omega
          go_wp2
          go_ret
          exact ⟨ret_int HR.out.symm, hB⟩
      · obtain rfl : k = rs.length := by omega
        have HR := hid (show leftT n rs = z by have := HZ.out; unfold leftT tzAll; rw [if_pos (by omega)]; omega)
        go_wp2
        go_ret
        exact ⟨ret_int HR.out.symm, hB⟩

def mkS (k n : Nat) : List ByteArray := (List.range n).map (fun i => mkT (k + i))
theorem mkS_len (k n : Nat) : (mkS k n).length = n := by simp [mkS]
theorem mkS_succ (k n : Nat) : mkS k (n + 1) = mkS k n ++ [mkT (k + n)] := by
  unfold mkS
  rw [List.range_succ, List.map_append]
  rfl
theorem mkS_at {k n i : Nat} (h : i < (mkS k n).length) : (mkS k n)[i] = mkT (k + i) := by simp [mkS]

end Go.Proofs.YtnbojbcljfiamaaDoor

namespace Go.Proofs.YtnbojbcljfiamaaDoor
open Go.RowKit Go.Shelf

def left1 (n : Int) (a : Nat) : Int := if (a : Int) ≤ n then n - a else -1

open Go.Deep Go.ChangeShapes Go.WideShapes Go.Joins in
theorem openStR {H : Type} {enc : TypeId × Value → H} {W : World} {c0 : Value} {d : DataW H × List MemPlace} {fuel : Nat} (hf : DataW.trod enc Tryd.prog W 0 (fun _ => true) true fuel 24 [c0] = some d) :
    ∃ (a : Option Addr) (n c : Nat) (ss : List ByteArray), c0 = .slice a n c ∧ VS W (.slice a n c) (strs ss) ∧ ss.length = n ∧ n ≤ maxLen ∧ ∀ s ∈ ss, s.size ≤ maxLen := by
  have hs : ∃ a n c, c0 = .slice a n c := by
    rcases open_slice Tryd.underlying24 hf with ⟨hcs, _⟩ | ⟨x, n, c, m, k, D, Pl, hcs, _⟩
    · simp at hcs; exact ⟨_, _, _, hcs⟩
    · simp at hcs; exact ⟨_, _, _, hcs⟩
  obtain ⟨a, n, c, rfl⟩ := hs
  obtain ⟨ss, h⟩ := openStS (a := a) (n := n) (c := c) (d := d.1) (p := d.2) ⟨fuel, hf⟩
  exact ⟨a, n, c, ss, rfl, h⟩
open Go.Deep Go.ChangeShapes Go.WideShapes Go.Joins in
theorem openInR {H : Type} {enc : TypeId × Value → H} {W : World} {c0 : Value} {d : DataW H × List MemPlace} {fuel : Nat} (hf : DataW.trod enc Tryd.prog W 0 (fun _ => true) true fuel 23 [c0] = some d) :
    ∃ (a : Option Addr) (n c : Nat) (zs : List Int), c0 = .slice a n c ∧ VS W (.slice a n c) (nums zs) ∧ zs.length = n ∧ n ≤ maxLen := by
  have hs : ∃ a n c, c0 = .slice a n c := by
    rcases open_slice Tryd.underlying23 hf with ⟨hcs, _⟩ | ⟨x, n, c, m, k, D, Pl, hcs, _⟩
    · simp at hcs; exact ⟨_, _, _, hcs⟩
    · simp at hcs; exact ⟨_, _, _, hcs⟩
  obtain ⟨a, n, c, rfl⟩ := hs
  obtain ⟨zs, h⟩ := openInS (a := a) (n := n) (c := c) (d := d.1) (p := d.2) ⟨fuel, hf⟩
  exact ⟨a, n, c, zs, rfl, h⟩

theorem take_set3 {α : Type} (xs : List α) (k : Nat) (a b c : α) (h : k * 3 + 3 ≤ xs.length) : (((xs.set (k * 3) a).set (k * 3 + 1) b).set (k * 3 + 2) c).take ((k + 1) * 3) = xs.take (k * 3) ++ [a, b, c] := by
  apply List.ext_getElem?
  intro i
  rw [List.getElem?_take]
  by_cases h1 : i < k * 3
  · rw [if_pos (by omega), List.getElem?_append_left (by rw [List.length_take]; omega), List.getElem?_take, if_pos h1]
    rw [List.getElem?_set_ne (by omega), List.getElem?_set_ne (by omega), List.getElem?_set_ne (by omega)]
  · by_cases h2 : i < (k + 1) * 3
    · rw [if_pos h2, List.getElem?_append_right (by rw [List.length_take]; omega)]
      have hl : (xs.take (k * 3)).length = k * 3 := by rw [List.length_take]; omega
      rw [hl]
      obtain h | h | h : i = k * 3 ∨ i = k * 3 + 1 ∨ i = k * 3 + 2 := by omega
      all_goals subst h
      · rw [List.getElem?_set_ne (by omega), List.getElem?_set_ne (by omega), List.getElem?_set_self (by omega)]
        simp
      · rw [List.getElem?_set_ne (by omega), List.getElem?_set_self (by simp; omega)]
        simp
      · rw [List.getElem?_set_self (by simp; omega)]
        simp
    · rw [if_neg h2, List.getElem?_eq_none (by rw [List.length_append, List.length_take]; simp; omega)]

/-- Four cells that are a block of their own. -/
def Four (w : World) (t : TypeId) (k : Nat) (a b c d : Value) : Prop := w.ownsRow k t 4 (.slice (some ⟨k, 0, none⟩) 1 1) 1 [a, b, c, d]
theorem Four.at (w : World) (a b c d : Value) (t : TypeId) {k : Nat} (hk : k = w.heap.size) : Four (w.alloc (.cells #[a, b, c, d] t)) t k a b c d := by
  subst hk
  exact ⟨rfl, .inr ⟨w.heap.size, 1, #[a, b, c, d], rfl, Nat.le_refl _, by show (w.heap.push _)[w.heap.size]? = _; rw [Array.getElem?_push_size], Nat.le_refl _, by unfold maxLen; omega, rfl, rfl⟩⟩
theorem Four.new (w : World) (a b c d : Value) (t : TypeId) : Four (w.alloc (.cells #[a, b, c, d] t)) t w.heap.size a b c d := Four.at w a b c d t rfl
theorem Four.below {w w' : World} {t : TypeId} {k : Nat} {a b c d : Value} (h : Four w t k a b c d) (hB : Below w.heap.size w w') : Four w' t k a b c d := ownsRow_below h hB
theorem Four.c {w : World} {t : TypeId} {k : Nat} {a b c d : Value} (h : Four w t k a b c d) : w.cell? ⟨k, 0, none⟩ = some a ∧ w.cell? ⟨k, 1, none⟩ = some b ∧ w.cell? ⟨k, 2, none⟩ = some c ∧ w.cell? ⟨k, 3, none⟩ = some d :=
  ⟨World.ownsRow.cellAt h 0 (by omega), World.ownsRow.cellAt h 1 (by omega), World.ownsRow.cellAt h 2 (by omega), World.ownsRow.cellAt h 3 (by omega)⟩
theorem Four.f {w : World} {t : TypeId} {k : Nat} {a b c d : Value} (h : Four w t k a b c d) (j : Nat) : w.frozen? ⟨k, j, none⟩ = false := World.ownsRow.frozenAt h j
theorem Four.s0 {w : World} {t : TypeId} {k : Nat} {a b c d : Value} (h : Four w t k a b c d) (x : Value) : Four (w.setCell ⟨k, 0, none⟩ x) t k x b c d := (World.ownsRow.stored h 0 x).1
theorem Four.s1 {w : World} {t : TypeId} {k : Nat} {a b c d : Value} (h : Four w t k a b c d) (x : Value) : Four (w.setCell ⟨k, 1, none⟩ x) t k a x c d := (World.ownsRow.stored h 1 x).1
theorem Four.s2 {w : World} {t : TypeId} {k : Nat} {a b c d : Value} (h : Four w t k a b c d) (x : Value) : Four (w.setCell ⟨k, 2, none⟩ x) t k a b x d := (World.ownsRow.stored h 2 x).1
theorem Four.s3 {w : World} {t : TypeId} {k : Nat} {a b c d : Value} (h : Four w t k a b c d) (x : Value) : Four (w.setCell ⟨k, 3, none⟩ x) t k a b c x := (World.ownsRow.stored h 3 x).1
theorem Four.other {w : World} {t : TypeId} {k : Nat} {a b c d : Value} (h : Four w t k a b c d) {k' : Nat} (hk : k ≠ k') (j : Nat) (x : Value) : Four (w.setCell ⟨k', j, none⟩ x) t k a b c d := ownsRow_setCell_other h (by simpa [Value.ownBlock] using hk) x
theorem Four.lt {w : World} {t : TypeId} {k : Nat} {a b c d : Value} (h : Four w t k a b c d) : k < w.heap.size := (World.ownsRow.lt h k rfl).2

set_option maxHeartbeats 1000000 in
theorem szIntS_any (v : Value) (zs : List Int) (n : Int) (w : World) (h0 : 0 ≤ n) (h1 : n ≤ 1048576) (hm : zs.length ≤ maxLen) (hr : VS w v (nums zs)) :
    Calls Tryd.prog 26 #[v, .int .i64 n] w fun e w' => e = .returned (.int .i64 (left1 n zs.length)) ∧ Below w.heap.size w w' := by
  obtain ⟨a, cap, rfl⟩ := hr.numLen
  unfold maxLen at hm
  by_cases c0 : n < zs.length
  · have HR := hid (show left1 n zs.length = -1 from if_neg (by omega))
    go_enter Tryd.func26, Tryd.ntmps26
    go_wp2
    go_ret
    exact ⟨ret_int HR.out.symm, Below.refl _ _⟩
  · have HR := hid (show left1 n zs.length = n - zs.length from if_pos (by omega))
    have d0 : decide (n - (zs.length : Int) < 0) = false := by simp; omega
    go_enter Tryd.func26, Tryd.ntmps26
    go_wp2
    go_ret
    exact ⟨ret_int HR.out.symm, Below.refl _ _⟩

theorem row_slice {w : World} {base : Nat} {e : TypeId} {size n : Nat} {v : Value} {xs : List Value} (h : w.ownsRow base e size v n xs) : ∃ a m c, v = .slice a m c := by
  rcases h.2 with ⟨h, _⟩ | ⟨g, cap, cur, hv, _⟩
  · exact ⟨_, _, _, h⟩
  · exact ⟨_, _, _, hv⟩

theorem row_four {w : World} {base : Nat} {e : TypeId} {size n : Nat} {v : Value} {xs : List Value} (h : w.ownsRow base e size v n xs) {k : Nat} (hk : k < base) (x0 x1 x2 x3 : Value) : ((((w.setCell ⟨k, 0, none⟩ x0).setCell ⟨k, 1, none⟩ x1).setCell ⟨k, 2, none⟩ x2).setCell ⟨k, 3, none⟩ x3).ownsRow base e size v n xs :=
  ownsRow_setCell_below (ownsRow_setCell_below (ownsRow_setCell_below (ownsRow_setCell_below h (a := ⟨k, 0, none⟩) hk x0) (a := ⟨k, 1, none⟩) hk x1) (a := ⟨k, 2, none⟩) hk x2) (a := ⟨k, 3, none⟩) hk x3
theorem below_four {n k : Nat} {w W : World} (h : Below n w W) (hk : n ≤ k) (x0 x1 x2 x3 : Value) : Below n w ((((W.setCell ⟨k, 0, none⟩ x0).setCell ⟨k, 1, none⟩ x1).setCell ⟨k, 2, none⟩ x2).setCell ⟨k, 3, none⟩ x3) :=
  (((h.setCell (p := ⟨k, 0, none⟩) hk x0).setCell (p := ⟨k, 1, none⟩) hk x1).setCell (p := ⟨k, 2, none⟩) hk x2).setCell (p := ⟨k, 3, none⟩) hk x3

def mkN (k n : Nat) : List Int := (List.range n).map (fun i => ((k + i : Nat) : Int))
theorem mkN_len (k n : Nat) : (mkN k n).length = n := by simp [mkN]
theorem mkN_succ (k n : Nat) : mkN k (n + 1) = mkN k n ++ [((k + n : Nat) : Int)] := by
  unfold mkN
  rw [List.range_succ, List.map_append]
  rfl
theorem mkN_at {k n i : Nat} (h : i < (mkN k n).length) : (mkN k n)[i] = ((k + i : Nat) : Int) := by simp [mkN]

/-- Only blocks from lo on, below hi, and new ones have turned. -/
structure Mid (lo hi : Nat) (w w' : World) : Prop where
  os : w'.os = w.os
  tape : w'.tape = w.tape
  output : w'.output = w.output
  size : w.heap.size ≤ w'.heap.size
  block : ∀ k, k < w.heap.size → (k < lo ∨ hi ≤ k) → w'.heap[k]? = w.heap[k]?
theorem Mid.trans {lo hi : Nat} {w w1 w2 : World} (h : Mid lo hi w w1) (h2 : Mid lo hi w1 w2) : Mid lo hi w w2 :=
  ⟨h2.os.trans h.os, h2.tape.trans h.tape, h2.output.trans h.output, Nat.le_trans h.size h2.size, fun k hk hn => (h2.block k (Nat.lt_of_lt_of_le hk h.size) hn).trans (h.block k hk hn)⟩
theorem Mid.of_below {lo hi : Nat} {w w1 : World} (h : Below w.heap.size w w1) : Mid lo hi w w1 :=
  ⟨h.os, h.tape, h.output, h.size, fun k hk _ => h.block k hk⟩
theorem Mid.of_grown {lo hi : Nat} {w w1 : World} {r : Option Nat} (h : w.grownBy w1 r) (hr : ∀ k, r = some k → lo ≤ k ∧ k < hi) : Mid lo hi w w1 :=
  ⟨h.os, h.tape, h.output, h.size, fun k hk hn => h.block k hk (fun e => by have := hr k e.symm; omega)⟩
theorem Mid.below {lo hi n : Nat} {w w1 : World} (h : Mid lo hi w w1) (hn : n ≤ lo) (hs : n ≤ w.heap.size) : Below n w w1 :=
  ⟨h.os, h.tape, h.output, h.size, fun k hk => h.block k (by omega) (.inl (by omega))⟩
theorem Mid.row {lo hi : Nat} {w w1 : World} (h : Mid lo hi w w1) {base : Nat} {e : TypeId} {size n : Nat} {v : Value} {xs : List Value} (hr : w.ownsRow base e size v n xs) (ho : ∀ k, v.ownBlock = some k → k < lo ∨ hi ≤ k) : w1.ownsRow base e size v n xs := by
  refine ⟨hr.1, ?_⟩
  rcases hr.2 with hv | ⟨g, cap, cur, rfl, hg, hb, h4⟩
  · exact .inl hv
  · exact .inr ⟨g, cap, cur, rfl, hg, (h.block g (Array.getElem?_eq_some_iff.1 hb).1 (ho g rfl)).trans hb, h4⟩

theorem Mid.four {lo hi : Nat} {w w1 : World} (h : Mid lo hi w w1) {t : TypeId} {k : Nat} {a b c d : Value} (hr : Four w t k a b c d) (ho : k < lo ∨ hi ≤ k) : Four w1 t k a b c d :=
  h.row hr (fun j hj => by simp [Value.ownBlock] at hj; omega)

theorem Mid.app {lo hi : Nat} {w w1 w2 : World} {r : Option Nat} (h : Mid lo hi w w1) (hg : w1.grownBy w2 r) (hr : ∀ k, r = some k → w.heap.size ≤ k) : Mid lo hi w w2 :=
  ⟨hg.os.trans h.os, hg.tape.trans h.tape, hg.output.trans h.output, Nat.le_trans h.size hg.size, fun k hk hn => (hg.block k (Nat.lt_of_lt_of_le hk h.size) (fun e => by have := hr k e.symm; omega)).trans (h.block k hk hn)⟩
theorem Mid.set {lo hi : Nat} {w w1 : World} (h : Mid lo hi w w1) {p : Addr} (hp : lo ≤ p.block) (hp2 : p.block < hi) (u : Value) : Mid lo hi w (w1.setCell p u) :=
  ⟨h.os, h.tape, h.output, by rw [World.size_setCell]; exact h.size, fun k hk hn => (Below.heap_setCell w1 p u k (by omega)).trans (h.block k hk hn)⟩
theorem row_kind {w : World} {B : Nat} {e : TypeId} {size : Nat} {v : Value} {n : Nat} {xs : List Value} (h : w.ownsRow B e size v n xs) : ∀ g, v.ownBlock = some g → ∃ c, w.heap[g]? = some (.cells c e (0, 0)) := by
  intro g hg
  rcases h.2 with ⟨rfl, _⟩ | ⟨g', cap, cur, rfl, _, hgg, _⟩
  · simp [Value.ownBlock] at hg
  · simp [Value.ownBlock] at hg
    subst hg
    exact ⟨cur, hgg⟩
/-- Rows of different kinds lie apart. -/
theorem row_apart {w : World} {b1 b2 : Nat} {e1 e2 : TypeId} {s1 s2 n1 n2 : Nat} {v1 v2 : Value} {x1 x2 : List Value} (h1 : w.ownsRow b1 e1 s1 v1 n1 x1) (h2 : w.ownsRow b2 e2 s2 v2 n2 x2) (hne : e1 ≠ e2) : ∀ k, v1.ownBlock = some k → v2.ownBlock = some k → False := fun k hk1 hk2 => by
  obtain ⟨c1, g1⟩ := row_kind h1 k hk1
  obtain ⟨c2, g2⟩ := row_kind h2 k hk2
  rw [g1] at g2
  injection g2 with g2
  injection g2 with _ g2 _
  exact hne g2

end Go.Proofs.YtnbojbcljfiamaaDoor

namespace Go.Proofs.YtnbojbcljfiamaaDoor
open Go.RowKit Go.Shelf

/-- 3 cells that are a block of their own. -/
def Three (w : World) (t : TypeId) (k : Nat) (a b c : Value) : Prop := w.ownsRow k t 3 (.slice (some ⟨k, 0, none⟩) 1 1) 1 [a, b, c]
theorem Three.at (w : World) (a b c : Value) (t : TypeId) {k : Nat} (hk : k = w.heap.size) : Three (w.alloc (.cells #[a, b, c] t)) t k a b c := by
  subst hk
  exact ⟨rfl, .inr ⟨w.heap.size, 1, #[a, b, c], rfl, Nat.le_refl _, by show (w.heap.push _)[w.heap.size]? = _; rw [Array.getElem?_push_size], Nat.le_refl _, by unfold maxLen; omega, rfl, rfl⟩⟩
theorem Three.new (w : World) (a b c : Value) (t : TypeId) : Three (w.alloc (.cells #[a, b, c] t)) t w.heap.size a b c := Three.at w a b c t rfl
theorem Three.below {w' : World} {w : World} {t : TypeId} {k : Nat} {a b c : Value} (h : Three w t k a b c) (hB : Below w.heap.size w w') : Three w' t k a b c := ownsRow_below h hB
theorem Three.c {w : World} {t : TypeId} {k : Nat} {a b c : Value} (h : Three w t k a b c) : w.cell? ⟨k, 0, none⟩ = some a ∧ w.cell? ⟨k, 1, none⟩ = some b ∧ w.cell? ⟨k, 2, none⟩ = some c :=
  ⟨World.ownsRow.cellAt h 0 (by omega), World.ownsRow.cellAt h 1 (by omega), World.ownsRow.cellAt h 2 (by omega)⟩
theorem Three.f {w : World} {t : TypeId} {k : Nat} {a b c : Value} (h : Three w t k a b c) (j : Nat) : w.frozen? ⟨k, j, none⟩ = false := World.ownsRow.frozenAt h j
theorem Three.s0 {w : World} {t : TypeId} {k : Nat} {a b c : Value} (h : Three w t k a b c) (x : Value) : Three (w.setCell ⟨k, 0, none⟩ x) t k x b c := (World.ownsRow.stored h 0 x).1
theorem Three.s1 {w : World} {t : TypeId} {k : Nat} {a b c : Value} (h : Three w t k a b c) (x : Value) : Three (w.setCell ⟨k, 1, none⟩ x) t k a x c := (World.ownsRow.stored h 1 x).1
theorem Three.s2 {w : World} {t : TypeId} {k : Nat} {a b c : Value} (h : Three w t k a b c) (x : Value) : Three (w.setCell ⟨k, 2, none⟩ x) t k a b x := (World.ownsRow.stored h 2 x).1
theorem Three.other {w : World} {t : TypeId} {k : Nat} {a b c : Value} (h : Three w t k a b c) {k' : Nat} (hk : k ≠ k') (j : Nat) (x : Value) : Three (w.setCell ⟨k', j, none⟩ x) t k a b c := ownsRow_setCell_other h (by simpa [Value.ownBlock] using hk) x
theorem Three.lt {w : World} {t : TypeId} {k : Nat} {a b c : Value} (h : Three w t k a b c) : k < w.heap.size := (World.ownsRow.lt h k rfl).2
theorem Mid.three {lo hi : Nat} {w1 : World} {w : World} {t : TypeId} {k : Nat} {a b c : Value} (h : Mid lo hi w w1) (hr : Three w t k a b c) (ho : k < lo ∨ hi ≤ k) : Three w1 t k a b c :=
  h.row hr (fun j hj => by simp [Value.ownBlock] at hj; omega)
theorem row_three {w : World} {base : Nat} {e : TypeId} {size n : Nat} {v : Value} {xs : List Value} (h : w.ownsRow base e size v n xs) {k : Nat} (hk : k < base) (x0 x1 x2 : Value) : (((w.setCell ⟨k, 0, none⟩ x0).setCell ⟨k, 1, none⟩ x1).setCell ⟨k, 2, none⟩ x2).ownsRow base e size v n xs :=
  (ownsRow_setCell_below (ownsRow_setCell_below (ownsRow_setCell_below h (a := ⟨k, 0, none⟩) hk x0) (a := ⟨k, 1, none⟩) hk x1) (a := ⟨k, 2, none⟩) hk x2)
theorem below_three {n k : Nat} {w W : World} (h : Below n w W) (hk : n ≤ k) (x0 x1 x2 : Value) : Below n w (((W.setCell ⟨k, 0, none⟩ x0).setCell ⟨k, 1, none⟩ x1).setCell ⟨k, 2, none⟩ x2) :=
  (((h.setCell (p := ⟨k, 0, none⟩) hk x0).setCell (p := ⟨k, 1, none⟩) hk x1).setCell (p := ⟨k, 2, none⟩) hk x2)

/-- 5 cells that are a block of their own. -/
def Five (w : World) (t : TypeId) (k : Nat) (a b c d e : Value) : Prop := w.ownsRow k t 5 (.slice (some ⟨k, 0, none⟩) 1 1) 1 [a, b, c, d, e]
theorem Five.at (w : World) (a b c d e : Value) (t : TypeId) {k : Nat} (hk : k = w.heap.size) : Five (w.alloc (.cells #[a, b, c, d, e] t)) t k a b c d e := by
  subst hk
  exact ⟨rfl, .inr ⟨w.heap.size, 1, #[a, b, c, d, e], rfl, Nat.le_refl _, by show (w.heap.push _)[w.heap.size]? = _; rw [Array.getElem?_push_size], Nat.le_refl _, by unfold maxLen; omega, rfl, rfl⟩⟩
theorem Five.new (w : World) (a b c d e : Value) (t : TypeId) : Five (w.alloc (.cells #[a, b, c, d, e] t)) t w.heap.size a b c d e := Five.at w a b c d e t rfl
theorem Five.below {w' : World} {w : World} {t : TypeId} {k : Nat} {a b c d e : Value} (h : Five w t k a b c d e) (hB : Below w.heap.size w w') : Five w' t k a b c d e := ownsRow_below h hB
theorem Five.c {w : World} {t : TypeId} {k : Nat} {a b c d e : Value} (h : Five w t k a b c d e) : w.cell? ⟨k, 0, none⟩ = some a ∧ w.cell? ⟨k, 1, none⟩ = some b ∧ w.cell? ⟨k, 2, none⟩ = some c ∧ w.cell? ⟨k, 3, none⟩ = some d ∧ w.cell? ⟨k, 4, none⟩ = some e :=
  ⟨World.ownsRow.cellAt h 0 (by omega), World.ownsRow.cellAt h 1 (by omega), World.ownsRow.cellAt h 2 (by omega), World.ownsRow.cellAt h 3 (by omega), World.ownsRow.cellAt h 4 (by omega)⟩
theorem Five.f {w : World} {t : TypeId} {k : Nat} {a b c d e : Value} (h : Five w t k a b c d e) (j : Nat) : w.frozen? ⟨k, j, none⟩ = false := World.ownsRow.frozenAt h j
theorem Five.s0 {w : World} {t : TypeId} {k : Nat} {a b c d e : Value} (h : Five w t k a b c d e) (x : Value) : Five (w.setCell ⟨k, 0, none⟩ x) t k x b c d e := (World.ownsRow.stored h 0 x).1
theorem Five.s1 {w : World} {t : TypeId} {k : Nat} {a b c d e : Value} (h : Five w t k a b c d e) (x : Value) : Five (w.setCell ⟨k, 1, none⟩ x) t k a x c d e := (World.ownsRow.stored h 1 x).1
theorem Five.s2 {w : World} {t : TypeId} {k : Nat} {a b c d e : Value} (h : Five w t k a b c d e) (x : Value) : Five (w.setCell ⟨k, 2, none⟩ x) t k a b x d e := (World.ownsRow.stored h 2 x).1
theorem Five.s3 {w : World} {t : TypeId} {k : Nat} {a b c d e : Value} (h : Five w t k a b c d e) (x : Value) : Five (w.setCell ⟨k, 3, none⟩ x) t k a b c x e := (World.ownsRow.stored h 3 x).1
theorem Five.s4 {w : World} {t : TypeId} {k : Nat} {a b c d e : Value} (h : Five w t k a b c d e) (x : Value) : Five (w.setCell ⟨k, 4, none⟩ x) t k a b c d x := (World.ownsRow.stored h 4 x).1
theorem Five.other {w : World} {t : TypeId} {k : Nat} {a b c d e : Value} (h : Five w t k a b c d e) {k' : Nat} (hk : k ≠ k') (j : Nat) (x : Value) : Five (w.setCell ⟨k', j, none⟩ x) t k a b c d e := ownsRow_setCell_other h (by simpa [Value.ownBlock] using hk) x
theorem Five.lt {w : World} {t : TypeId} {k : Nat} {a b c d e : Value} (h : Five w t k a b c d e) : k < w.heap.size := (World.ownsRow.lt h k rfl).2
theorem Mid.five {lo hi : Nat} {w1 : World} {w : World} {t : TypeId} {k : Nat} {a b c d e : Value} (h : Mid lo hi w w1) (hr : Five w t k a b c d e) (ho : k < lo ∨ hi ≤ k) : Five w1 t k a b c d e :=
  h.row hr (fun j hj => by simp [Value.ownBlock] at hj; omega)
theorem row_five {w : World} {base : Nat} {e : TypeId} {size n : Nat} {v : Value} {xs : List Value} (h : w.ownsRow base e size v n xs) {k : Nat} (hk : k < base) (x0 x1 x2 x3 x4 : Value) : (((((w.setCell ⟨k, 0, none⟩ x0).setCell ⟨k, 1, none⟩ x1).setCell ⟨k, 2, none⟩ x2).setCell ⟨k, 3, none⟩ x3).setCell ⟨k, 4, none⟩ x4).ownsRow base e size v n xs :=
  (ownsRow_setCell_below (ownsRow_setCell_below (ownsRow_setCell_below (ownsRow_setCell_below (ownsRow_setCell_below h (a := ⟨k, 0, none⟩) hk x0) (a := ⟨k, 1, none⟩) hk x1) (a := ⟨k, 2, none⟩) hk x2) (a := ⟨k, 3, none⟩) hk x3) (a := ⟨k, 4, none⟩) hk x4)
theorem below_five {n k : Nat} {w W : World} (h : Below n w W) (hk : n ≤ k) (x0 x1 x2 x3 x4 : Value) : Below n w (((((W.setCell ⟨k, 0, none⟩ x0).setCell ⟨k, 1, none⟩ x1).setCell ⟨k, 2, none⟩ x2).setCell ⟨k, 3, none⟩ x3).setCell ⟨k, 4, none⟩ x4) :=
  (((((h.setCell (p := ⟨k, 0, none⟩) hk x0).setCell (p := ⟨k, 1, none⟩) hk x1).setCell (p := ⟨k, 2, none⟩) hk x2).setCell (p := ⟨k, 3, none⟩) hk x3).setCell (p := ⟨k, 4, none⟩) hk x4)

end Go.Proofs.YtnbojbcljfiamaaDoor

namespace Go.Proofs
open Go.Shelf
def Tryd.lays171_ren : Go.Shelf.Ren := ⟨fun | 171 => 88 | 243 => 90 | 246 => 91 | 283 => 92 | 284 => 93 | 285 => 94 | 286 => 95 | 129 => 97 | 317 => 96 | 318 => 98 | 319 => 99 | 320 => 100 | 337 => 101 | 338 => 102 | n => n, fun | 3 => 3 | 9 => 9 | 2 => 2 | 4 => 4 | 171 => 165 | 0 => 0 | 53 => 166 | 37 => 160 | 5 => 5 | 173 => 169 | 212 => 173 | 51 => 116 | 20 => 20 | 213 => 174 | 46 => 176 | 232 => 179 | 233 => 180 | n => n, fun | 17 => 0 | 18 => 1 | 19 => 2 | n => n⟩
theorem Tryd.lays171 : Go.Proofs.LaysM.n171 Tryd.prog Tryd.lays171_ren := {
  mixed := by kernel_rfl
  f129 := Tryd.func97.trans (congrArg some (by kernel_rfl))
  f171 := Tryd.func88.trans (congrArg some (by kernel_rfl))
  f243 := Tryd.func90.trans (congrArg some (by kernel_rfl))
  f246 := Tryd.func91.trans (congrArg some (by kernel_rfl))
  f283 := Tryd.func92.trans (congrArg some (by kernel_rfl))
  f284 := Tryd.func93.trans (congrArg some (by kernel_rfl))
  f285 := Tryd.func94.trans (congrArg some (by kernel_rfl))
  f286 := Tryd.func95.trans (congrArg some (by kernel_rfl))
  f317 := Tryd.func96.trans (congrArg some (by kernel_rfl))
  f318 := Tryd.func98.trans (congrArg some (by kernel_rfl))
  f319 := Tryd.func99.trans (congrArg some (by kernel_rfl))
  f320 := Tryd.func100.trans (congrArg some (by kernel_rfl))
  f337 := Tryd.func101.trans (congrArg some (by kernel_rfl))
  f338 := Tryd.func102.trans (congrArg some (by kernel_rfl))
  t0 := Tryd.underlying0
  a0 := Tryd.isAgg0
  z0 := Tryd.sizeOf0
  v0 := Tryd.zeroValue0
  t2 := Tryd.underlying2
  a2 := Tryd.isAgg2
  z2 := Tryd.sizeOf2
  v2 := Tryd.zeroValue2
  t3 := Tryd.underlying3
  a3 := Tryd.isAgg3
  z3 := Tryd.sizeOf3
  v3 := Tryd.zeroValue3
  t4 := Tryd.underlying4
  a4 := Tryd.isAgg4
  z4 := Tryd.sizeOf4
  v4 := Tryd.zeroValue4
  t5 := Tryd.underlying5
  a5 := Tryd.isAgg5
  z5 := Tryd.sizeOf5
  v5 := Tryd.zeroValue5
  t9 := Tryd.underlying9
  a9 := Tryd.isAgg9
  z9 := Tryd.sizeOf9
  v9 := Tryd.zeroValue9
  t20 := Tryd.underlying20
  a20 := Tryd.isAgg20
  z20 := Tryd.sizeOf20
  v20 := Tryd.zeroValue20
  t37 := Tryd.underlying160
  a37 := Tryd.isAgg160
  z37 := Tryd.sizeOf160
  v37 := Tryd.zeroValue160
  t46 := Tryd.underlying176
  a46 := Tryd.isAgg176
  z46 := Tryd.sizeOf176
  v46 := Tryd.zeroValue176
  t51 := Tryd.underlying116
  a51 := Tryd.isAgg116
  z51 := Tryd.sizeOf116
  v51 := Tryd.zeroValue116
  t53 := Tryd.underlying166
  a53 := Tryd.isAgg166
  z53 := Tryd.sizeOf166
  v53 := Tryd.zeroValue166
  t171 := Tryd.underlying165
  a171 := Tryd.isAgg165
  z171 := Tryd.sizeOf165
  v171 := Tryd.zeroValue165
  t173 := Tryd.underlying169
  a173 := Tryd.isAgg169
  z173 := Tryd.sizeOf169
  v173 := Tryd.zeroValue169
  t212 := Tryd.underlying173
  a212 := Tryd.isAgg173
  z212 := Tryd.sizeOf173
  v212 := Tryd.zeroValue173
  t213 := Tryd.underlying174
  a213 := Tryd.isAgg174
  z213 := Tryd.sizeOf174
  t232 := Tryd.underlying179
  a232 := Tryd.isAgg179
  z232 := Tryd.sizeOf179
  v232 := Tryd.zeroValue179
  t233 := Tryd.underlying180
  a233 := Tryd.isAgg180
  z233 := Tryd.sizeOf180
  v233 := Tryd.zeroValue180
  g17 := by kernel_rfl
  g18 := by kernel_rfl
  g19 := by kernel_rfl
  i0 := by kernel_rfl
  i2 := by kernel_rfl
  i3 := by kernel_rfl
  i4 := by kernel_rfl
  i5 := by kernel_rfl
  i9 := by kernel_rfl
  i20 := by kernel_rfl
  i37 := by kernel_rfl
  i46 := by kernel_rfl
  i51 := by kernel_rfl
  i53 := by kernel_rfl
  i171 := by kernel_rfl
  i173 := by kernel_rfl
  i212 := by kernel_rfl
  i232 := by kernel_rfl
  i233 := by kernel_rfl
  m17 := by kernel_rfl
  m18 := by kernel_rfl
  m19 := by kernel_rfl }
end Go.Proofs

namespace Go.Proofs.YtnbojbcljfiamaaDoor
open Go.RowKit Go.Shelf
attribute [local go_sem] Oper.semAt_some

theorem cell_one_at (w : World) (x : Value) (t : TypeId) (n : Nat) (hn : n = w.heap.size) : ∀ j u, [x][j]? = some u → (w.alloc (.cells #[x] t)).cell? ((⟨n, 0, none⟩ : Addr).add j) = some u := by
  subst hn
  exact cell_one_new w x t

end Go.Proofs.YtnbojbcljfiamaaDoor

namespace Go.Proofs.YtnbojbcljfiamaaDoor
open Go.RowKit Go.Shelf

/-- A row of texts, cell by cell. -/
theorem row_cell {w : World} {base g cap : Nat} {xs : List ByteArray} (hrow : w.ownsRow base 9 1 (.slice (some ⟨g, 0, none⟩) xs.length cap) xs.length (xs.map Value.string)) (k : Nat) (h : k < xs.length) : w.cell? ⟨g, k, none⟩ = some (.string xs[k]) := by
  rw [hrow.cellAt k (by omega)]
  simp [h]

theorem gnB_two (x y : ByteArray) : gnB [x, y] = (wordB x && wordB y) := by simp [gnB]
theorem gnB_no {l : List ByteArray} (h : ¬ l.length = 2) : gnB l = false := by simp [gnB, h]
theorem gnB_nm (l : List ByteArray) (h : nmB l = true) : gnB l = l.all wordB := by
  rw [nmB_eq] at h
  simp at h
  simp [gnB, h.1]
theorem gnB_not (l : List ByteArray) (h : nmB l = false) : gnB l = false := by
  rw [nmB_eq] at h
  cases e : gnB l with
  | false => rfl
  | true =>
    simp [gnB] at e
    have : l.all wsB = true := by
      rw [List.all_eq_true]
      intro x hx
      simp [wsB, e.2 x hx]
    rw [this] at h
    simp [e.1] at h
theorem two_of {l : List ByteArray} (h : l.length = 2) : ∃ x y, l = [x, y] := by
  match l, h with
  | [x, y], _ => exact ⟨x, y, rfl⟩

/-- A row of two texts. -/
theorem row_two {w : World} {base : Nat} {v : Value} {x y : ByteArray} (hrow : w.ownsRow base 9 1 v [x, y].length ([x, y].map Value.string)) : ∃ g cap, v = .slice (some ⟨g, 0, none⟩) 2 cap ∧ w.cell? ⟨g, 0, none⟩ = some (.string x) ∧ w.cell? ⟨g, 1, none⟩ = some (.string y) := by
  obtain ⟨g, cap, rfl⟩ := ownsRow_succ hrow
  exact ⟨g, cap, rfl, row_cell (xs := [x, y]) hrow 0 (by simp), row_cell (xs := [x, y]) hrow 1 (by simp)⟩

end Go.Proofs.YtnbojbcljfiamaaDoor

namespace Go.Proofs.YtnbojbcljfiamaaDoor
open Go.RowKit Go.Shelf

theorem ptLs_len (s : ByteArray) : (ptLs s).length ≤ s.size + 1 := by
  unfold ptLs
  split
  · exact wL_len s
  · simp

end Go.Proofs.YtnbojbcljfiamaaDoor

namespace Go.Proofs.YtnbojbcljfiamaaDoor
open Go.RowKit Go.Shelf

end Go.Proofs.YtnbojbcljfiamaaDoor

namespace Go.Proofs.YtnbojbcljfiamaaDoor
open Go.RowKit Go.Shelf

/-- A rule, and a call. -/
structure Ru where
  deny : Bool
  who : ByteArray
  method : ByteArray
  path : ByteArray
structure Ca where
  who : ByteArray
  method : ByteArray
  path : ByteArray
def Ru.size (r : Ru) : Nat := r.who.size + r.method.size + r.path.size
def Ca.size (c : Ca) : Nat := c.who.size + c.method.size + c.path.size
abbrev Ru.val (r : Ru) : Value := .agg #[.bool r.deny, .string r.who, .string r.method, .string r.path]
abbrev Ca.val (c : Ca) : Value := .agg #[.string c.who, .string c.method, .string c.path]
/-- The methods. -/
def getB (s : ByteArray) : Bool := s.toList == [103, 101, 116]
def putB (s : ByteArray) : Bool := s.toList == [112, 117, 116]
def mthB (s : ByteArray) : Bool := getB s || putB s
def Ru.good (r : Ru) : Bool := (nmB (split r.who 47) && ptBs r.path) && (mthB r.method || starB r.method)
def Ca.good (c : Ca) : Bool := (gnB (split c.who 47) && gpB c.path) && mthB c.method

set_option maxHeartbeats 1000000 in
theorem toRule_any (r : Ru) (w : World) :
    Calls Tryd.prog 76 #[r.val] w fun e w' => e = .returned r.val ∧ Below w.heap.size w w' := by
  go_enter Tryd.func76, Tryd.ntmps76
  go_wp2
  exact bodyPost_ret (v := r.val) (by simp [results, Tryd.results76, go_sem]) rfl ⟨rfl, (((Below.refl _ w).alloc (Nat.le_refl _) _).alloc (by simp) _).alloc (by simp; omega) _⟩

/-- What is left of a budget. -/
def left3 (n : Int) (a b c : Nat) : Int := if (a : Int) + b + c ≤ n then n - a - b - c else -1

set_option maxHeartbeats 1000000 in
theorem szRule_any (r : Ru) (n : Int) (w : World) (h0 : 0 ≤ n) (h1 : n ≤ 1048576) (ha : r.who.size ≤ maxLen) (hb : r.method.size ≤ maxLen) (hc : r.path.size ≤ maxLen) :
    Calls Tryd.prog 70 #[r.val, .int .i64 n] w fun e w' => e = .returned (.int .i64 (left3 n r.who.size r.method.size r.path.size)) ∧ Below w.heap.size w w' := by
  unfold maxLen at ha hb hc
  by_cases c1 : n < r.who.size
  · have HR := hid (show left3 n r.who.size r.method.size r.path.size = -1 from if_neg (by omega))
    go_enter Tryd.func70, Tryd.ntmps70
    go_wp2
    go_ret
    exact ⟨ret_int HR.out.symm, (Below.refl _ w).alloc (Nat.le_refl _) _⟩
  · by_cases c2 : n - r.who.size < r.method.size
    · have HR := hid (show left3 n r.who.size r.method.size r.path.size = -1 from if_neg (by omega))
      go_enter Tryd.func70, Tryd.ntmps70
      go_wp2
      go_ret
      exact ⟨ret_int HR.out.symm, (Below.refl _ w).alloc (Nat.le_refl _) _⟩
    · by_cases c3 : n - r.who.size - r.method.size < r.path.size
      · have HR := hid (show left3 n r.who.size r.method.size r.path.size = -1 from if_neg (by omega))
        go_enter Tryd.func70, Tryd.ntmps70
        go_wp2
        go_ret
        exact ⟨ret_int HR.out.symm, (Below.refl _ w).alloc (Nat.le_refl _) _⟩
      · have HR := hid (show left3 n r.who.size r.method.size r.path.size = n - r.who.size - r.method.size - r.path.size from if_pos (by omega))
        go_enter Tryd.func70, Tryd.ntmps70
        go_wp2
        go_ret
        exact ⟨ret_int HR.out.symm, (Below.refl _ w).alloc (Nat.le_refl _) _⟩

end Go.Proofs.YtnbojbcljfiamaaDoor

namespace Go.Proofs.YtnbojbcljfiamaaDoor
open Go.RowKit Go.Shelf

/-- The text of a rule. -/
def Ru.text (r : Ru) : ByteArray := (if r.deny = true then ⟨#[100, 101, 110, 121, 32]⟩ else ⟨#[97, 108, 108, 111, 119, 32]⟩) ++ r.who ++ ⟨#[32]⟩ ++ r.method ++ ⟨#[32]⟩ ++ r.path
def Ru.textG (r : Ru) : ByteArray := if r.good = true then r.text else ⟨#[]⟩

end Go.Proofs.YtnbojbcljfiamaaDoor

namespace Go.Proofs.YtnbojbcljfiamaaDoor
open Go.RowKit Go.Shelf Go.WideMaps Go.Maps

/-- The methods that a rule may have, as the program's map holds them. -/
abbrev one1 : DataW Unit := .lit (.int .i64 1)
def kD : DataW Unit := (((DataW.map []).put (.string [103, 101, 116]) one1).put (.string [112, 117, 116]) one1).put (.string [42]) one1
def rmB (s : ByteArray) : Bool := mthB s || starB s
theorem key_str (l : List UInt8) : WideAt.IsKeyLit (.string l) := by trivial
theorem ne_str {a b : List UInt8} (h : a ≠ b) : Lit.string a ≠ .string b := fun e => h (by injection e)
theorem kD_yes {s : ByteArray} (h : rmB s = true) : kD.atKey (.string s.data.toList) (.lit (.int .i64 0)) = .lit (.int .i64 1) := by
  unfold kD
  by_cases h3 : s.data.toList = [42]
  · rw [h3]; exact atKey_put_same ((isMap_empty.put _ _).put _ _) (key_str _) _ _
  · rw [atKey_put_other (ne_str h3)]
    by_cases h2 : s.data.toList = [112, 117, 116]
    · rw [h2]; exact atKey_put_same (isMap_empty.put _ _) (key_str _) _ _
    · rw [atKey_put_other (ne_str h2)]
      by_cases h1 : s.data.toList = [103, 101, 116]
      · rw [h1]; exact atKey_put_same isMap_empty (key_str _) _ _
      · simp [rmB, mthB, getB, putB, starB, toList_data, h1, h2, h3] at h
theorem kD_no {s : ByteArray} (h : rmB s = false) : kD.atKey (.string s.data.toList) (.lit (.int .i64 0)) = .lit (.int .i64 0) := by
  simp [rmB, mthB, getB, putB, starB, toList_data] at h
  obtain ⟨⟨h1, h2⟩, h3⟩ := h
  unfold kD
  rw [atKey_put_other (ne_str h3), atKey_put_other (ne_str h2), atKey_put_other (ne_str h1)]
  rfl

theorem lawStr : Keyed Tryd.prog 9 := string_keyed Tryd.underlying9
theorem zeroInt (w : World) : (zeroValue 3).run Tryd.prog w = .ok (.int .i64 0) w := by kernel_rfl
theorem good_eq (r : Ru) : r.good = ((rmB r.method && nmB (split r.who 47)) && ptBs r.path) := by
  unfold Ru.good rmB
  cases nmB (split r.who 47) <;> cases ptBs r.path <;> cases (mthB r.method || starB r.method) <;> rfl

def rmI (s : ByteArray) : Int := if rmB s = true then 1 else 0

end Go.Proofs.YtnbojbcljfiamaaDoor

namespace Go.Proofs.YtnbojbcljfiamaaDoor
open Go.RowKit Go.Shelf

theorem cgood_eq (c : Ca) : c.good = ((mthB c.method && gnB (split c.who 47)) && gpB c.path) := by
  unfold Ca.good
  cases gnB (split c.who 47) <;> cases gpB c.path <;> cases mthB c.method <;> rfl

abbrev Ru.obj (r : Ru) : Obj := .cells #[.bool r.deny, .string r.who, .string r.method, .string r.path] 147

end Go.Proofs.YtnbojbcljfiamaaDoor

namespace Go.Proofs.YtnbojbcljfiamaaDoor

/-- Where the byte stands first. -/
def fI (s : ByteArray) (b : UInt8) : Option Nat := s.data.toList.findIdx? (fun x => x == b)
theorem fI_lt {s : ByteArray} {b : UInt8} {i : Nat} (h : fI s b = some i) : i < s.size := by
  unfold fI at h
  have := List.findIdx?_eq_some_iff_getElem.1 h
  obtain ⟨h1, _⟩ := this
  simpa using h1
theorem fI_at {s : ByteArray} {b : UInt8} {i : Nat} (h : fI s b = some i) : s[i]'(fI_lt h) = b := by
  have := List.findIdx?_eq_some_iff_getElem.1 h
  obtain ⟨h1, h2, _⟩ := this
  simp at h2
  exact h2
theorem fI_ahead {s : ByteArray} {b : UInt8} {i : Nat} (h : fI s b = some i) (j : Nat) (hj : j < i) (hs : j < s.size) : s[j] ≠ b := by
  have := List.findIdx?_eq_some_iff_getElem.1 h
  obtain ⟨h1, _, h3⟩ := this
  have := h3 j hj
  simp at this
  exact this
theorem fI_none {s : ByteArray} {b : UInt8} (h : fI s b = none) (j : Nat) (hs : j < s.size) : s[j] ≠ b := by
  unfold fI at h
  rw [List.findIdx?_eq_none_iff] at h
  intro e
  have := h s[j] (by
    have : s.data.toList[j]'(by simpa using hs) = s[j] := by simp; rfl
    rw [← this]
    exact List.getElem_mem _)
  rw [e] at this
  simp at this
theorem idx_fI : ∀ (l : List UInt8) (b : UInt8), Lib.indexByte l b = match l.findIdx? (fun x => x == b) with
    | some i => (i : Int)
    | none => -1
  | [], _ => rfl
  | x :: l, b => by
    have ih := idx_fI l b
    unfold Lib.indexByte
    rw [List.findIdx?_cons]
    by_cases hx : (x == b) = true
    · simp [hx]
    · rw [if_neg hx, if_neg hx]
      cases h : l.findIdx? (fun x => x == b) with
      | none => rw [h] at ih; rw [ih]; rfl
      | some i =>
        rw [h] at ih
        rw [ih]
        have : ((i : Int) == -1) = false := by
          rw [beq_eq_false_iff_ne]
          omega
        simp [this]
theorem index_some {s : ByteArray} {b : UInt8} {i : Nat} (h : fI s b = some i) : Lib.indexByte s.data.toList b = i := by
  unfold fI at h
  rw [idx_fI, h]
theorem index_none {s : ByteArray} {b : UInt8} (h : fI s b = none) : Lib.indexByte s.data.toList b = -1 := by
  unfold fI at h
  rw [idx_fI, h]
theorem sp_none (s : ByteArray) (b : UInt8) : ∀ i, i ≤ s.size → (∀ j (_ : j < i) (hs : j < s.size), s[j] ≠ b) → spP s b i = ([], 0)
  | 0, _, _ => rfl
  | i + 1, hi, h => by
    rw [sp_miss s b i (by omega) (h i (by omega) (by omega))]
    exact sp_none s b i (by omega) (fun j hj hs => h j (by omega) hs)
theorem split_none {s : ByteArray} {b : UInt8} (h : fI s b = none) : split s b = [s] := by
  have := sp_none s b s.size (Nat.le_refl _) (fun j _ hs => fI_none h j hs)
  rw [split_end]
  unfold spL spA
  rw [this]
  simp
theorem sp_shift {s : ByteArray} {b : UInt8} {i : Nat} (h : fI s b = some i) : ∀ k, k ≤ (s.extract (i + 1) s.size).size + 1 →
    spP s b (i + 1 + k) = (s.extract 0 i :: (spP (s.extract (i + 1) s.size) b k).1, i + 1 + (spP (s.extract (i + 1) s.size) b k).2)
  | 0, _ => by
    have h0 := sp_none s b i (Nat.le_of_lt (fI_lt h)) (fun j hj hs => fI_ahead h j hj hs)
    have hl := spL_hit s b i (fI_lt h) (fI_at h)
    have ha := spA_hit s b i (fI_lt h) (fI_at h)
    unfold spL spA at hl ha
    rw [h0] at hl
    refine Prod.ext ?_ ?_
    · rw [Nat.add_zero, hl]; rfl
    · rw [Nat.add_zero, ha]; rfl
  | k + 1, hk => by
    have ih := sp_shift h k (by omega)
    have hlt := fI_lt h
    have hsz : (s.extract (i + 1) s.size).size = s.size - (i + 1) := by rw [ByteArray.size_extract]; omega
    have hc : (i + 1 + k = s.size ∨ s.data.toList[i + 1 + k]? = some b) ↔ (k = (s.extract (i + 1) s.size).size ∨ (s.extract (i + 1) s.size).data.toList[k]? = some b) := by
      have e : (s.extract (i + 1) s.size).data.toList[k]? = s.data.toList[i + 1 + k]? := by
        rw [ByteArray.data_extract, Array.toList_extract, List.extract_eq_take_drop, List.getElem?_take]
        rw [hsz] at hk
        by_cases hks : k < s.size - (i + 1)
        · rw [if_pos hks, List.getElem?_drop]
        · rw [if_neg hks, List.getElem?_eq_none (by simp; omega)]
      rw [e, hsz]
      constructor
      · rintro (e | e)
        · exact .inl (by omega)
        · exact .inr e
      · rintro (e | e)
        · exact .inl (by omega)
        · exact .inr e
    rw [show i + 1 + (k + 1) = (i + 1 + k) + 1 from rfl, spP, spP]
    by_cases hh : k = (s.extract (i + 1) s.size).size ∨ (s.extract (i + 1) s.size).data.toList[k]? = some b
    · rw [if_pos hh, if_pos (hc.2 hh), ih]
      refine Prod.ext ?_ rfl
      have hx : s.extract (i + 1 + (spP (s.extract (i + 1) s.size) b k).2) (i + 1 + k) = (s.extract (i + 1) s.size).extract (spP (s.extract (i + 1) s.size) b k).2 k := by
        rw [ByteArray.extract_extract]
        congr 1
        omega
      simp only [hx, List.cons_append]
    · rw [if_neg hh, if_neg (fun h' => hh (hc.1 h')), ih]
theorem split_some {s : ByteArray} {b : UInt8} {i : Nat} (h : fI s b = some i) : split s b = s.extract 0 i :: split (s.extract (i + 1) s.size) b := by
  have hlt := fI_lt h
  have hsz : (s.extract (i + 1) s.size).size = s.size - (i + 1) := by rw [ByteArray.size_extract]; omega
  have := sp_shift h ((s.extract (i + 1) s.size).size + 1) (Nat.le_refl _)
  rw [show i + 1 + ((s.extract (i + 1) s.size).size + 1) = s.size + 1 by omega] at this
  unfold split spL
  rw [this]
/-- The part ahead, the part behind, and whether the byte is there. -/
def cutA (s : ByteArray) (b : UInt8) : ByteArray := match fI s b with
  | some i => s.extract 0 i
  | none => s
def cutB (s : ByteArray) (b : UInt8) : ByteArray := match fI s b with
  | some i => s.extract (i + 1) s.size
  | none => ⟨#[]⟩
def cutF (s : ByteArray) (b : UInt8) : Bool := (fI s b).isSome
theorem cut_some {s : ByteArray} {b : UInt8} {i : Nat} (h : fI s b = some i) : cutA s b = s.extract 0 i ∧ cutB s b = s.extract (i + 1) s.size ∧ cutF s b = true := by
  unfold cutA cutB cutF
  rw [h]
  exact ⟨rfl, rfl, rfl⟩
theorem cut_none {s : ByteArray} {b : UInt8} (h : fI s b = none) : cutA s b = s ∧ cutB s b = ⟨#[]⟩ ∧ cutF s b = false := by
  unfold cutA cutB cutF
  rw [h]
  exact ⟨rfl, rfl, rfl⟩
theorem split_head (s : ByteArray) (b : UInt8) : ∃ r, split s b = cutA s b :: r := by
  cases h : fI s b with
  | none => exact ⟨[], by rw [split_none h, (cut_none h).1]⟩
  | some i => exact ⟨_, by rw [split_some h, (cut_some h).1]⟩
theorem data_parts (s : ByteArray) (i : Nat) (h : i < s.size) : s.data.toList = (s.extract 0 i).data.toList ++ s[i] :: (s.extract (i + 1) s.size).data.toList := by
  have h0 : i < s.data.toList.length := by simpa using h
  have h1 : (s.extract 0 i).data.toList = s.data.toList.take i := by
    rw [ByteArray.data_extract, Array.toList_extract, List.extract_eq_take_drop]
    simp
  have h2 : (s.extract (i + 1) s.size).data.toList = s.data.toList.drop (i + 1) := by
    rw [ByteArray.data_extract, Array.toList_extract, List.extract_eq_take_drop]
    rw [List.take_of_length_le (by simp)]
  have h3 : s[i] = s.data.toList[i] := by simp; rfl
  rw [h1, h2, h3, ← List.drop_eq_getElem_cons h0, List.take_append_drop]

end Go.Proofs.YtnbojbcljfiamaaDoor

namespace Go.Proofs.YtnbojbcljfiamaaDoor
open Go.ChangeShapes Go.WideShapes Go.ChangeAt Go.RowKit Go.Joins Go.Deep

/-- Its texts are no longer than a text may be. -/
def Ru.fits (r : Ru) : Prop := r.who.size ≤ maxLen ∧ r.method.size ≤ maxLen ∧ r.path.size ≤ maxLen
def Ca.fits (r : Ca) : Prop := r.who.size ≤ maxLen ∧ r.method.size ≤ maxLen ∧ r.path.size ≤ maxLen

set_option maxRecDepth 100000 in
theorem cellsRule : Tryd.prog.cellsOf 140 = 4 := by kernel_rfl
set_option maxRecDepth 100000 in
theorem openRu {H : Type} {enc : TypeId × Value → H} {W : World} {base : Nat} {v : Value} {d : DataW H} {p : List MemPlace} (hv : Value.okWide Tryd.prog W .any base 140 v) (h : DataW.Trod enc Tryd.prog W 0 (fun _ => true) true 140 v d p) :
    ∃ r : Ru, v = r.val ∧ r.fits := by
  obtain ⟨c0, c1, c2, c3, y0, y1, y2, y3, m, rfl, _, _, h0, h1, h2, h3⟩ := open_agg4 Tryd.underlying140 (by kernel_rfl) cellsRule hv h
  obtain ⟨x0, e0, _⟩ := DataW.trod_bool Tryd.underlying4 h0
  obtain ⟨x1, e1, _, w1⟩ := DataW.trod_string Tryd.underlying9 h1
  obtain ⟨x2, e2, _, w2⟩ := DataW.trod_string Tryd.underlying9 h2
  obtain ⟨x3, e3, _, w3⟩ := DataW.trod_string Tryd.underlying9 h3
  simp only [List.cons.injEq, and_true] at e0 e1 e2 e3
  subst e0 e1 e2 e3
  exact ⟨⟨x0, x1, x2, x3⟩, rfl, w1, w2, w3⟩

end Go.Proofs.YtnbojbcljfiamaaDoor

namespace Go.Proofs.YtnbojbcljfiamaaDoor
open Go.RowKit Go.Shelf

/-- A rule lies in memory. -/
def RuAt (w : World) (b o : Nat) (r : Ru) : Prop := w.cell? ⟨b, o, none⟩ = some (.bool r.deny) ∧ w.cell? ⟨b, o + 1, none⟩ = some (.string r.who) ∧ w.cell? ⟨b, o + 2, none⟩ = some (.string r.method) ∧ w.cell? ⟨b, o + 3, none⟩ = some (.string r.path)
/-- A slice reads as this list of rules. -/
def RuS (w : World) (v : Value) (rs : List Ru) : Prop :=
  (∃ a cap, v = .slice a 0 cap ∧ rs = []) ∨
  ∃ b off cap, v = .slice (some ⟨b, off, none⟩) rs.length cap ∧ b < w.heap.size ∧ rs.length ≤ cap ∧ ∀ k (h : k < rs.length), RuAt w b (off + k * 4) rs[k]
theorem RuAt.below {w w' : World} {b o : Nat} {r : Ru} (h : RuAt w b o r) (hb : b < w.heap.size) (hB : Below w.heap.size w w') : RuAt w' b o r :=
  ⟨(hB.cell (p := ⟨b, o, none⟩) hb).trans h.1, (hB.cell (p := ⟨b, o + 1, none⟩) hb).trans h.2.1, (hB.cell (p := ⟨b, o + 2, none⟩) hb).trans h.2.2.1, (hB.cell (p := ⟨b, o + 3, none⟩) hb).trans h.2.2.2⟩
theorem RuS.below {w w' : World} {v : Value} {rs : List Ru} (h : RuS w v rs) (hB : Below w.heap.size w w') : RuS w' v rs := by
  rcases h with h | ⟨b, off, cap, hv, hb, hl, hc⟩
  · exact .inl h
  · exact .inr ⟨b, off, cap, hv, Nat.lt_of_lt_of_le hb hB.size, hl, fun k hk => (hc k hk).below hb hB⟩
theorem RuS.len {w : World} {v : Value} {rs : List Ru} (h : RuS w v rs) : ∃ a cap, v = .slice a rs.length cap := by
  rcases h with ⟨a, cap, hv, rfl⟩ | ⟨b, off, cap, hv, _⟩
  · exact ⟨a, cap, hv⟩
  · exact ⟨_, cap, hv⟩
theorem RuS.at {w : World} {a : Option Addr} {n cap : Nat} {rs : List Ru} (h : RuS w (.slice a n cap) rs) {k : Nat} (hk : k < rs.length) : ∃ b off, a = some ⟨b, off, none⟩ ∧ b < w.heap.size ∧ n ≤ cap ∧ RuAt w b (off + k * 4) rs[k] := by
  rcases h with ⟨_, _, _, rfl⟩ | ⟨b, off, cap, hv, hb, hl, hc⟩
  · simp at hk
  · cases hv
    exact ⟨b, off, rfl, hb, hl, hc k hk⟩

set_option maxRecDepth 100000 in
open Go.Deep Go.ChangeShapes Go.WideShapes Go.Joins in
/-- A list of rules that comes in. -/
theorem openRuS {H : Type} {enc : TypeId × Value → H} {W : World} {a : Option Addr} {n c : Nat} {d : DataW H} {p : List MemPlace} (h : DataW.Trod enc Tryd.prog W 0 (fun _ => true) true 72 (.slice a n c) d p) :
    ∃ rs : List Ru, RuS W (.slice a n c) rs ∧ rs.length = n ∧ n ≤ maxLen ∧ ∀ r ∈ rs, r.fits := by
  obtain ⟨fuel, hf⟩ := h
  rcases open_slice Tryd.underlying72 hf with ⟨hcs, _⟩ | ⟨x, len, cap, m, k, D, Pl, hcs, _, hl, hm, hmm, _, hx⟩
  · simp [Value.cells] at hcs
    obtain ⟨rfl, rfl, rfl⟩ := hcs
    exact ⟨[], .inl ⟨_, _, rfl, rfl⟩, rfl, Nat.zero_le _, fun r hr => by cases hr⟩
  · simp [Value.cells] at hcs
    obtain ⟨rfl, rfl, rfl⟩ := hcs
    have hlm : n ≤ m := by rw [hmm]; simpa using hl
    have each : ∀ i, i < n → ∃ r : Ru, (W.cell? (x.add (i * 4)) = some (.bool r.deny) ∧ W.cell? (x.add (i * 4 + 1)) = some (.string r.who) ∧ W.cell? (x.add (i * 4 + 2)) = some (.string r.method) ∧ W.cell? (x.add (i * 4 + 3)) = some (.string r.path)) ∧ r.fits := by
      intro i hi
      obtain ⟨cs', h1, h2⟩ := hx i (by omega)
      rw [cellsRule] at h1
      obtain ⟨_, hlen, hcell⟩ := World.cells?_some h1
      obtain ⟨y0, y1, y2, y3, m', _, _, g0, g1, g2, g3⟩ := trod_struct4 Tryd.underlying140 h2
      match cs', hlen with
      | [v0, v1, v2, v3], _ =>
        have e0 := hcell 0 (by omega)
        have e1 := hcell 1 (by omega)
        have e2 := hcell 2 (by omega)
        have e3 := hcell 3 (by omega)
        rw [add_add] at e0 e1 e2 e3
        obtain ⟨x0, f0, _⟩ := DataW.trod_bool Tryd.underlying4 g0
        obtain ⟨x1, f1, _, w1⟩ := DataW.trod_string Tryd.underlying9 g1
        obtain ⟨x2, f2, _, w2⟩ := DataW.trod_string Tryd.underlying9 g2
        obtain ⟨x3, f3, _, w3⟩ := DataW.trod_string Tryd.underlying9 g3
        have c1 : Tryd.prog.cellsOf 4 = 1 := by kernel_rfl
        have c2 : Tryd.prog.cellsOf 9 = 1 := by kernel_rfl
        simp [c1, c2] at f0 f1 f2 f3
        subst f0 f1 f2 f3
        exact ⟨⟨x0, x1, x2, x3⟩, ⟨by simpa using e0, by simpa using e1, by simpa using e2, by simpa using e3⟩, w1, w2, w3⟩
    have hin : Inhabited Ru := ⟨⟨false, ByteArray.empty, ByteArray.empty, ByteArray.empty⟩⟩
    obtain ⟨q, hq⟩ := choose_lt each
    by_cases h0 : n = 0
    · subst h0
      exact ⟨[], .inl ⟨_, _, rfl, rfl⟩, rfl, Nat.zero_le _, fun r hr => by cases hr⟩
    · obtain ⟨b, off, spot⟩ := x
      have hs : spot = none := by simpa [Addr.add] using World.cell?_spot (hq 0 (by omega)).1.1
      subst hs
      have hlt : b < W.heap.size := by
        have := (hq 0 (by omega)).1.1
        rw [Addr.add_lit] at this
        by_cases hb : b < W.heap.size
        · exact hb
        · simp only [World.cell?] at this
          rw [Array.getElem?_eq_none (by omega)] at this
          cases this
      refine ⟨(List.range n).map q, .inr ⟨b, off, c, by simp, hlt, by simpa using hl, fun k hk => ?_⟩, by simp, by omega, ?_⟩
      · have hk' : k < n := by simpa using hk
        have := (hq k hk').1
        simp only [Addr.add_lit, ← Nat.add_assoc] at this
        simpa [RuAt] using this
      · intro r hr
        obtain ⟨i, hi, rfl⟩ := List.mem_map.1 hr
        exact (hq i (List.mem_range.1 hi)).2

def szTo (rs : List Ru) (k : Nat) : Nat := ((rs.take k).map Ru.size).sum
def szAll (rs : List Ru) : Nat := rs.length + szTo rs rs.length
theorem szTo_zero (rs : List Ru) : szTo rs 0 = 0 := by simp [szTo]
theorem szTo_succ {rs : List Ru} {k : Nat} (h : k < rs.length) : szTo rs (k + 1) = szTo rs k + rs[k].size := by
  unfold szTo
  rw [List.take_succ_eq_append_getElem h, List.map_append, List.sum_append]
  simp
theorem szTo_le (rs : List Ru) (k : Nat) : szTo rs k ≤ szTo rs rs.length := by
  unfold szTo
  rw [List.take_length]
  conv => rhs; rw [← List.take_append_drop k rs, List.map_append, List.sum_append]
  omega
theorem sz_mem {rs : List Ru} {r : Ru} (h : r ∈ rs) : r.size ≤ szTo rs rs.length := by
  unfold szTo
  rw [List.take_length]
  exact sum_mem (List.mem_map.2 ⟨r, h, rfl⟩)
/-- What is left of a budget behind a list. -/
def leftS (n : Int) (rs : List Ru) : Int := if (szAll rs : Int) ≤ n then n - szAll rs else -1

set_option maxHeartbeats 1000000 in
theorem szRuleS_any (v : Value) (rs : List Ru) (n : Int) (w : World) (h0 : 0 ≤ n) (h1 : n ≤ 1048576) (hm : rs.length ≤ maxLen) (hf : ∀ r ∈ rs, r.fits) (hr : RuS w v rs) :
    Calls Tryd.prog 48 #[v, .int .i64 n] w fun e w' => e = .returned (.int .i64 (leftS n rs)) ∧ Below w.heap.size w w' := by
  obtain ⟨a, cap, rfl⟩ := hr.len
  unfold maxLen at hm
  by_cases c0 : n < rs.length
  · have HR := hid (show leftS n rs = -1 from if_neg (by unfold szAll; omega))
    go_enter Tryd.func48, Tryd.ntmps48
    go_wp2
    go_ret
    exact ⟨ret_int HR.out.symm, Below.refl _ _⟩
  · have d0 : decide (n - (rs.length : Int) < 0) = false := by simp; omega
    go_enter Tryd.func48, Tryd.ntmps48
    go_wp2
    go_loopw [1, 5] (fun m i wr => ∃ k : Nat, k ≤ rs.length ∧ i = .int .i64 k ∧ m = .int .i64 (n - rs.length - szTo rs k) ∧ 0 ≤ n - rs.length - szTo rs k ∧ Below w.heap.size w wr) (fun _ i _ => rs.length - (intOf i).toNat)
    case atStart => exact ⟨0, Nat.zero_le _, rfl, by rw [szTo_zero]; go_num, by rw [szTo_zero]; omega, Below.refl _ _⟩
    case round =>
      obtain ⟨k, hk, rfl, rfl, hp, hB⟩ := hrel
      by_cases hlt : k < rs.length
      · obtain ⟨b, off, rfl, hb, hcap, q0, q1, q2, q3⟩ := (hr.below hB).at hlt
        obtain ⟨f1, f2, f3⟩ := hf rs[k] (List.getElem_mem hlt)
        have HS := hid (szTo_succ hlt)
        have HT := hid (szTo_le rs (k + 1))
        generalize rs[k] = r at *
        go_wp2_with fail
        refine (szRule_any r _ _ hp (by omega) f1 f2 f3).mono ?_
        rintro e w1 ⟨rfl, hB1⟩
        have hB2 := below_one hB hB1
        by_cases c1 : (r.size : Int) ≤ n - rs.length - szTo rs k
        · have hv : left3 (n - rs.length - szTo rs k) r.who.size r.method.size r.path.size = n - rs.length - szTo rs (k + 1) := by
            rw [HS.out]
            unfold Ru.size at *
            unfold left3
            rw [if_pos (by omega)]
            omega
          have hq : 0 ≤ n - rs.length - szTo rs (k + 1) := by rw [HS.out]; omega
          rw [hv]
          have d1 : decide (n - (rs.length : Int) - (szTo rs (k + 1) : Int) < 0) = false := by simp; omega
          clear hv hB1 q0 q1 q2 q3
          go_wp2_with fail
          go_roundw
          case rel => exact ⟨k + 1, by omega, by go_num, rfl, hq, hB2⟩
          case measure => simp [intOf]; omega
        · have hv : left3 (n - rs.length - szTo rs k) r.who.size r.method.size r.path.size = -1 := if_neg (by unfold Ru.size at c1; omega)
          have HR := hid (show leftS n rs = -1 from if_neg (by have := HT.out; rw [HS.out] at this; unfold szAll; omega))
          rw [hv]
          clear hv hB1 q0 q1 q2 q3
          go_wp2_with fail
          go_ret
          exact ⟨ret_int HR.out.symm, hB2⟩
      · obtain rfl : k = rs.length := by omega
        have HR := hid (show leftS n rs = n - rs.length - szTo rs rs.length by unfold leftS szAll; rw [if_pos (by omega)]; omega)
        go_wp2
        go_ret
        exact ⟨ret_int HR.out.symm, hB⟩

abbrev Ru.cells (r : Ru) : List Value := [.bool r.deny, .string r.who, .string r.method, .string r.path]
theorem flat_len (rs : List Ru) : (rs.flatMap Ru.cells).length = rs.length * 4 := by
  induction rs with
  | nil => rfl
  | cons r rs ih => rw [List.flatMap_cons, List.length_append, ih]; simp; omega
theorem flat_at (rs : List Ru) : ∀ (k j : Nat) (h : k < rs.length), j < 4 → (rs.flatMap Ru.cells)[k * 4 + j]? = rs[k].cells[j]? := by
  induction rs with
  | nil => intro k j h; simp at h
  | cons r rs ih =>
    intro k j h hj
    rw [List.flatMap_cons]
    cases k with
    | zero => rw [List.getElem?_append_left (by simp; omega)]; simp
    | succ k =>
      rw [List.getElem?_append_right (by simp; omega)]
      have := ih k j (by simpa using h) hj
      rw [show (k + 1) * 4 + j - r.cells.length = k * 4 + j by simp; omega]
      simpa using this
/-- A slice of rules of one's own reads as its list. -/
theorem RuS.own {w : World} {base : Nat} {v : Value} {rs : List Ru} (h : w.ownsRow base 147 4 v rs.length (rs.flatMap Ru.cells)) : RuS w v rs := by
  rcases h.2 with ⟨rfl, h0⟩ | ⟨g, cap, cur, rfl, hg, hb, hle, _⟩
  · exact .inl ⟨none, 0, rfl, List.eq_nil_of_length_eq_zero h0⟩
  · refine .inr ⟨g, 0, cap, rfl, (Array.getElem?_eq_some_iff.1 hb).1, hle, fun k hk => ?_⟩
    have hc : ∀ j, j < 4 → w.cell? ⟨g, k * 4 + j, none⟩ = rs[k].cells[j]? := fun j hj => by rw [h.cellAt (k * 4 + j) (by omega), flat_at rs k j hk hj]
    have h0 := hc 0 (by omega)
    have h1 := hc 1 (by omega)
    have h2 := hc 2 (by omega)
    have h3 := hc 3 (by omega)
    simp only [Nat.add_zero, List.getElem?_cons_zero, List.getElem?_cons_succ] at h0 h1 h2 h3
    exact ⟨by rw [Nat.zero_add]; exact h0, by rw [Nat.zero_add]; exact h1, by rw [Nat.zero_add]; exact h2, by rw [Nat.zero_add]; exact h3⟩
theorem take_set4 {α : Type} (xs : List α) (k : Nat) (a b c d : α) (h : k * 4 + 4 ≤ xs.length) : ((((xs.set (k * 4) a).set (k * 4 + 1) b).set (k * 4 + 2) c).set (k * 4 + 3) d).take ((k + 1) * 4) = xs.take (k * 4) ++ [a, b, c, d] := by
  apply List.ext_getElem?
  intro i
  rw [List.getElem?_take]
  by_cases h1 : i < k * 4
  · rw [if_pos (by omega), List.getElem?_append_left (by rw [List.length_take]; omega), List.getElem?_take, if_pos h1]
    rw [List.getElem?_set_ne (by omega), List.getElem?_set_ne (by omega), List.getElem?_set_ne (by omega), List.getElem?_set_ne (by omega)]
  · by_cases h2 : i < (k + 1) * 4
    · rw [if_pos h2, List.getElem?_append_right (by rw [List.length_take]; omega)]
      have hl : (xs.take (k * 4)).length = k * 4 := by rw [List.length_take]; omega
      rw [hl]
      obtain h | h | h | h : i = k * 4 ∨ i = k * 4 + 1 ∨ i = k * 4 + 2 ∨ i = k * 4 + 3 := by omega
      all_goals subst h
      · rw [List.getElem?_set_ne (by omega), List.getElem?_set_ne (by omega), List.getElem?_set_ne (by omega), List.getElem?_set_self (by omega)]
        simp
      · rw [List.getElem?_set_ne (by omega), List.getElem?_set_ne (by omega), List.getElem?_set_self (by simp; omega)]
        simp
      · rw [List.getElem?_set_ne (by omega), List.getElem?_set_self (by simp; omega)]
        simp
      · rw [List.getElem?_set_self (by simp; omega)]
        simp
    · rw [if_neg h2, List.getElem?_eq_none (by rw [List.length_append, List.length_take]; simp; omega)]
theorem infoRule : (Tryd.prog.info? 147).map (fun i => (i.zero, i.size, i.bytes)) = some (some (.agg #[.bool false, .string ByteArray.empty, .string ByteArray.empty, .string ByteArray.empty]), 4, 56) := by kernel_rfl

set_option maxHeartbeats 1000000 in
theorem toRuleS_any (v : Value) (rs : List Ru) (w : World) (hm : rs.length ≤ 1048576) (hr : RuS w v rs) :
    Calls Tryd.prog 56 #[v] w fun e w' => ∃ v', e = .returned v' ∧ w'.ownsRow w.heap.size 147 4 v' rs.length (rs.flatMap Ru.cells) ∧ Below w.heap.size w w' := by
  obtain ⟨a, cap, rfl⟩ := hr.len
  obtain ⟨i0, hi, hz0, hz1, hz2⟩ := info_parts infoRule
  go_enter Tryd.func56, Tryd.ntmps56
  go_wp2_with (at_make; refine wpList_make_full _ rfl _ _ 49 rfl w.heap.size 147 i0 _ 4 Tryd.underlying49 hi hz0 hz1 _ _ _ _ rs.length rfl rfl rfl rfl (by rw [hz2]; omega) (by unfold maxLen; omega) (Nat.le_refl _) ?_; intro w1 hown hgrow)
  have hB1 : Below w.heap.size w w1 := (Below.refl _ w).grown hgrow (Nat.le_refl _) (fun k e => by cases e)
  go_loopw [4] (fun i wr => ∃ k : Nat, k ≤ rs.length ∧ i = .int .i64 k ∧ ∃ xs, wr.ownsRow w.heap.size 147 4 (.slice (some ⟨w.heap.size, 0, none⟩) rs.length rs.length) rs.length xs ∧ xs.take (k * 4) = (rs.take k).flatMap Ru.cells ∧ Below w.heap.size w wr) (fun i _ => rs.length - (intOf i).toNat)
  case atStart => exact ⟨0, Nat.zero_le _, rfl, _, hown, by simp, hB1⟩
  case round =>
    obtain ⟨k, hk, rfl, xs, hrow, hx, hB⟩ := hrel
    have HX := hid hx
    clear hx
    by_cases hlt : k < rs.length
    · obtain ⟨b, off, rfl, hb, hcap, q0, q1, q2, q3⟩ := (hr.below hB).at hlt
      have HT := hid (List.take_succ_eq_append_getElem hlt)
      generalize rs[k] = r at *
      go_wp2_with fail
      refine (toRule_any r _).mono ?_
      rintro e w2 ⟨rfl, hB2⟩
      have hrow2 := ownsRow_below hrow hB2
      have hB3 := below_one hB hB2
      have hlen : xs.length = rs.length * 4 := hrow2.1
      have s0 := hrow2.cellAt (k * 4) (by omega)
      have s1 := hrow2.cellAt (k * 4 + 1) (by omega)
      have s2 := hrow2.cellAt (k * 4 + 2) (by omega)
      have s3 := hrow2.cellAt (k * 4 + 3) (by omega)
      rw [List.getElem?_eq_getElem (by omega)] at s0 s1 s2 s3
      have t0 := hrow2.frozenAt (k * 4)
      have t1 := hrow2.frozenAt (k * 4 + 1)
      have t2 := hrow2.frozenAt (k * 4 + 2)
      have t3 := hrow2.frozenAt (k * 4 + 3)
      generalize xs[k * 4] = y0 at *
      generalize xs[k * 4 + 1] = y1 at *
      generalize xs[k * 4 + 2] = y2 at *
      generalize xs[k * 4 + 3] = y3 at *
      clear q0 q1 q2 q3 hB2
      go_wp2_with fail
      go_roundw
      case rel =>
        refine ⟨k + 1, by omega, by go_num, _, (((hrow2.stored (k * 4) (.bool r.deny)).1.stored (k * 4 + 1) (.string r.who)).1.stored (k * 4 + 2) (.string r.method)).1.stored (k * 4 + 3) (.string r.path) |>.1, ?_, (((hB3.setCell (p := ⟨w.heap.size, _, none⟩) (Nat.le_refl _) _).setCell (p := ⟨w.heap.size, _, none⟩) (Nat.le_refl _) _).setCell (p := ⟨w.heap.size, _, none⟩) (Nat.le_refl _) _).setCell (p := ⟨w.heap.size, _, none⟩) (Nat.le_refl _) _⟩
        rw [take_set4 _ _ _ _ _ _ (by omega), HX.out, HT.out, List.flatMap_append]
        simp
      case measure => simp [intOf]; omega
    · obtain rfl : k = rs.length := by omega
      have HF := hid (show xs = rs.flatMap Ru.cells by have := HX.out; rw [List.take_of_length_le (by have := hrow.1; omega), List.take_length] at this; exact this)
      go_wp2
      go_ret
      exact ⟨_, rfl, by rw [← HF.out]; exact hrow, hB⟩

end Go.Proofs.YtnbojbcljfiamaaDoor

namespace Go.Proofs.YtnbojbcljfiamaaDoor
open Go.RowKit Go.Shelf

theorem cell_lt {w : World} {g o : Nat} {v : Value} (h : w.cell? ⟨g, o, none⟩ = some v) : g < w.heap.size := by
  simp only [World.cell?] at h
  by_cases hl : g < w.heap.size
  · exact hl
  · rw [Array.getElem?_eq_none (by omega)] at h
    cases h
def eqB (x y : ByteArray) : Bool := x.toList == y.toList
/-- The piece x stands for y. -/
def stB (x y : ByteArray) : Bool := starB x || eqB x y
def mnB (l m : List ByteArray) : Bool := match l, m with
  | [x, y], [u, v] => stB x u && stB y v
  | _, _ => false

end Go.Proofs.YtnbojbcljfiamaaDoor

namespace Go.Proofs.YtnbojbcljfiamaaDoor
open Go.RowKit Go.Shelf

def Ru.same (r s : Ru) : Bool := ((r.deny == s.deny && eqB r.who s.who) && eqB r.method s.method) && eqB r.path s.path
theorem Ru.same_refl (r : Ru) : r.same r = true := by simp [Ru.same, eqB]

set_option maxHeartbeats 1000000 in
theorem eqRule_any (r s : Ru) (w : World) :
    Calls Tryd.prog 81 #[r.val, s.val] w fun e w' => e = .returned (.bool (r.same s)) ∧ Below w.heap.size w w' := by
  cases b0 : r.deny == s.deny
  · have e0 : (r.deny == s.deny) = false := b0
    have HR := hid (show r.same s = false by unfold Ru.same; rw [b0]; rfl)
    clear b0
    go_enter Tryd.func81, Tryd.ntmps81
    go_wp2
    go_ret
    exact ⟨ret_bool HR.out.symm, ((Below.refl _ w).alloc (Nat.le_refl _) _).alloc (by simp) _⟩
  · have e0 : (r.deny == s.deny) = true := b0
    cases b1 : eqB r.who s.who
    · have e1 : (r.who.toList == s.who.toList) = false := b1
      have HR := hid (show r.same s = false by unfold Ru.same; rw [b0, b1]; rfl)
      clear b0 b1
      go_enter Tryd.func81, Tryd.ntmps81
      go_wp2
      go_ret
      exact ⟨ret_bool HR.out.symm, ((Below.refl _ w).alloc (Nat.le_refl _) _).alloc (by simp) _⟩
    · have e1 : (r.who.toList == s.who.toList) = true := b1
      cases b2 : eqB r.method s.method
      · have e2 : (r.method.toList == s.method.toList) = false := b2
        have HR := hid (show r.same s = false by unfold Ru.same; rw [b0, b1, b2]; rfl)
        clear b0 b1 b2
        go_enter Tryd.func81, Tryd.ntmps81
        go_wp2
        go_ret
        exact ⟨ret_bool HR.out.symm, ((Below.refl _ w).alloc (Nat.le_refl _) _).alloc (by simp) _⟩
      · have e2 : (r.method.toList == s.method.toList) = true := b2
        cases b3 : eqB r.path s.path
        · have e3 : (r.path.toList == s.path.toList) = false := b3
          have HR := hid (show r.same s = false by unfold Ru.same; rw [b0, b1, b2, b3]; rfl)
          clear b0 b1 b2 b3
          go_enter Tryd.func81, Tryd.ntmps81
          go_wp2
          go_ret
          exact ⟨ret_bool HR.out.symm, ((Below.refl _ w).alloc (Nat.le_refl _) _).alloc (by simp) _⟩
        · have e3 : (r.path.toList == s.path.toList) = true := b3
          have HR := hid (show r.same s = true by unfold Ru.same; rw [b0, b1, b2, b3]; rfl)
          clear b0 b1 b2 b3
          go_enter Tryd.func81, Tryd.ntmps81
          go_wp2
          go_ret
          exact ⟨ret_bool HR.out.symm, ((Below.refl _ w).alloc (Nat.le_refl _) _).alloc (by simp) _⟩


def sameTo (rs ss : List Ru) (k : Nat) : Bool := ((rs.zip ss).take k).all (fun q => q.1.same q.2)
def sameS (rs ss : List Ru) : Bool := decide (rs.length = ss.length) && (rs.zip ss).all (fun q => q.1.same q.2)
theorem sameTo_zero (rs ss : List Ru) : sameTo rs ss 0 = true := by simp [sameTo]
theorem sameTo_succ {rs ss : List Ru} {k : Nat} (h : k < rs.length) (h' : k < ss.length) : sameTo rs ss (k + 1) = (sameTo rs ss k && rs[k].same ss[k]) := by
  unfold sameTo
  rw [List.take_succ_eq_append_getElem (by rw [List.length_zip]; omega), List.all_append]
  simp
theorem same_bad {rs ss : List Ru} {k : Nat} (hb : sameTo rs ss (k + 1) = false) : sameS rs ss = false := by
  unfold sameTo at hb
  rw [List.all_eq_false] at hb
  obtain ⟨x, hx, hn⟩ := hb
  unfold sameS
  rw [Bool.and_eq_false_iff]
  exact .inr (List.all_eq_false.2 ⟨x, List.mem_of_mem_take hx, hn⟩)
theorem same_end {rs ss : List Ru} (h : rs.length = ss.length) : sameTo rs ss rs.length = sameS rs ss := by
  unfold sameTo sameS
  rw [List.take_of_length_le (by rw [List.length_zip]; omega), decide_eq_true h, Bool.true_and]
theorem sameS_refl (rs : List Ru) : sameS rs rs = true := by
  unfold sameS
  rw [decide_eq_true rfl, Bool.true_and, List.all_eq_true]
  intro x hx
  have := List.of_mem_zip hx
  obtain ⟨i, hi, he⟩ := List.getElem_of_mem hx
  rw [List.getElem_zip] at he
  rw [← he]
  exact Ru.same_refl _

set_option maxHeartbeats 2000000 in
theorem eqRuleS_any (v v' : Value) (rs ss : List Ru) (w : World) (_hm : rs.length ≤ 1048577) (hm' : ss.length ≤ 1048577) (hr : RuS w v rs) (hr' : RuS w v' ss) :
    Calls Tryd.prog 65 #[v, v'] w fun e w' => e = .returned (.bool (sameS rs ss)) ∧ Below w.heap.size w w' := by
  obtain ⟨a, cap, rfl⟩ := hr.len
  obtain ⟨a', cap', rfl⟩ := hr'.len
  by_cases hl : rs.length = ss.length
  · have e0 : ((rs.length : Int) != (ss.length : Int)) = false := by simp; omega
    have hl1 : rs.length ≤ ss.length := by omega
    have HL := hid hl
    clear hl
    go_enter Tryd.func65, Tryd.ntmps65
    go_wp2
    go_loopw [5] (fun i wr => ∃ k : Nat, k ≤ rs.length ∧ i = .int .i64 k ∧ sameTo rs ss k = true ∧ Below w.heap.size w wr) (fun i _ => rs.length - (intOf i).toNat)
    case atStart => exact ⟨0, Nat.zero_le _, rfl, sameTo_zero _ _, Below.refl _ _⟩
    case round =>
      obtain ⟨k, hk, rfl, hs, hB⟩ := hrel
      have HS := hid hs
      clear hs
      by_cases hlt : k < rs.length
      · have hlt' : k < ss.length := by omega
        obtain ⟨b, off, rfl, hb, hcap, q0, q1, q2, q3⟩ := (hr.below hB).at hlt
        obtain ⟨b', off', rfl, hb', hcap', p0, p1, p2, p3⟩ := (hr'.below hB).at hlt'
        have HT := hid (sameTo_succ hlt hlt')
        generalize rs[k] = r at *
        generalize ss[k] = s at *
        cases hq : r.same s
        · have HR := hid (show sameS rs ss = false from same_bad (by rw [HT.out, hq, Bool.and_false]))
          go_wp2_with fail
          go_region_with (go_at_call 81; refine (eqRule_any r s _).mono ?_; rintro e w1 ⟨rfl, hB1⟩)
          all_goals go_wp2
          all_goals go_ret
          all_goals exact ⟨ret_bool HR.out.symm, below_one hB (below_drew1 hB1)⟩
        · have HR := hid (show sameTo rs ss (k + 1) = true by rw [HT.out, HS.out, hq]; rfl)
          go_wp2_with fail
          go_region_with (go_at_call 81; refine (eqRule_any r s _).mono ?_; rintro e w1 ⟨rfl, hB1⟩)
          all_goals go_wp2
          all_goals go_roundw
          all_goals first
            | exact ⟨k + 1, by omega, by go_num, HR.out, below_one hB (below_drew1 hB1)⟩
            | (simp [intOf]; omega)
      · obtain rfl : k = rs.length := by omega
        have HR := hid (show sameS rs ss = true by rw [← same_end HL.out]; exact HS.out)
        go_wp2
        go_ret
        exact ⟨ret_bool HR.out.symm, hB⟩
  · have e0 : ((rs.length : Int) != (ss.length : Int)) = true := by simp; omega
    have HR := hid (show sameS rs ss = false by unfold sameS; rw [decide_eq_false hl]; rfl)
    clear hl
    go_enter Tryd.func65, Tryd.ntmps65
    go_wp2
    go_ret
    exact ⟨ret_bool HR.out.symm, Below.refl _ _⟩

end Go.Proofs.YtnbojbcljfiamaaDoor

namespace Go.Proofs.YtnbojbcljfiamaaDoor

/-! The order of bytes. -/
theorem bl_cmp : ∀ a b : List UInt8, decide (Lib.compareBytes a b < 0) = Op.bytesLess a b
  | [], [] => rfl
  | [], _ :: _ => rfl
  | _ :: _, [] => rfl
  | x :: a, y :: b => by
    have ih := bl_cmp a b
    unfold Lib.compareBytes Op.bytesLess
    by_cases h1 : x < y
    · simp [h1]
    · by_cases h2 : y < x
      · have h3 : (x == y) = false := by
          rw [beq_eq_false_iff_ne]
          intro e
          subst e
          exact h1 h2
        simp [h1, h2, h3]
      · have h3 : x = y := UInt8.le_antisymm (UInt8.not_lt.1 h2) (UInt8.not_lt.1 h1)
        subst h3
        simp only [h1, if_false, ih]
        simp
theorem bl_irrefl : ∀ a : List UInt8, Op.bytesLess a a = false
  | [] => rfl
  | x :: a => by
    unfold Op.bytesLess
    simp [bl_irrefl a]
theorem bl_trans : ∀ a b c : List UInt8, Op.bytesLess a b = true → Op.bytesLess b c = true → Op.bytesLess a c = true
  | _, _, [], _, h2 => by simp [Op.bytesLess] at h2
  | _, [], _ :: _, h1, _ => by simp [Op.bytesLess] at h1
  | [], _ :: _, _ :: _, _, _ => rfl
  | x :: a, y :: b, z :: c, h1, h2 => by
    unfold Op.bytesLess at h1 h2 ⊢
    simp only [Bool.or_eq_true, decide_eq_true_eq, Bool.and_eq_true, beq_iff_eq] at h1 h2 ⊢
    rcases h1 with h1 | ⟨rfl, h1⟩
    · rcases h2 with h2 | ⟨rfl, h2⟩
      · exact .inl (UInt8.lt_trans h1 h2)
      · exact .inl h1
    · rcases h2 with h2 | ⟨rfl, h2⟩
      · exact .inl h2
      · exact .inr ⟨rfl, bl_trans a b c h1 h2⟩
theorem bl_total : ∀ a b : List UInt8, Op.bytesLess a b = false → Op.bytesLess b a = false → a = b
  | [], [], _, _ => rfl
  | [], _ :: _, h, _ => by simp [Op.bytesLess] at h
  | _ :: _, [], _, h => by simp [Op.bytesLess] at h
  | x :: a, y :: b, h1, h2 => by
    unfold Op.bytesLess at h1 h2
    simp only [Bool.or_eq_false_iff, decide_eq_false_iff_not, Bool.and_eq_false_iff, beq_eq_false_iff_ne] at h1 h2
    have e : x = y := UInt8.le_antisymm (UInt8.not_lt.1 h2.1) (UInt8.not_lt.1 h1.1)
    subst e
    have h3 : Op.bytesLess a b = false := by
      rcases h1.2 with h | h
      · exact absurd rfl h
      · exact h
    have h4 : Op.bytesLess b a = false := by
      rcases h2.2 with h | h
      · exact absurd rfl h
      · exact h
    rw [bl_total a b h3 h4]
theorem bl_asym {a b : List UInt8} (h : Op.bytesLess a b = true) : Op.bytesLess b a = false := by
  cases h2 : Op.bytesLess b a
  · rfl
  · have := bl_trans a b a h h2
    rw [bl_irrefl] at this
    cases this
theorem bl_ntrans {a b c : List UInt8} (h1 : Op.bytesLess a b = false) (h2 : Op.bytesLess b c = false) : Op.bytesLess a c = false := by
  cases h3 : Op.bytesLess a c
  · rfl
  · cases h4 : Op.bytesLess b a
    · have e := bl_total a b h1 h4
      subst e
      rw [h2] at h3
      cases h3
    · have := bl_trans b a c h4 h3
      rw [h2] at this
      cases this
/-- a ≤ b < c. -/
theorem bl_le_lt {a b c : List UInt8} (h1 : Op.bytesLess b a = false) (h2 : Op.bytesLess b c = true) : Op.bytesLess a c = true := by
  cases h3 : Op.bytesLess a c
  · have := bl_ntrans h1 h3
    rw [h2] at this
    cases this
  · rfl

/-! No blank in the parts of a good rule; texts tell good rules apart. -/
def nosp (s : ByteArray) : Prop := (32 : UInt8) ∉ s.data.toList
theorem nosp_ws {x : ByteArray} (h : wsB x = true) : nosp x := by
  unfold nosp
  unfold wsB at h
  rw [Bool.or_eq_true] at h
  rcases h with h | h
  · have h1 : x.data.toList = [42] := by simpa [starB, toList_data] using h
    rw [h1]
    decide
  · unfold wordB wordTo at h
    rw [Bool.and_eq_true] at h
    intro hm
    have h2 := h.1
    rw [List.take_of_length_le (by simp)] at h2
    have := List.all_eq_true.1 h2 32 hm
    revert this
    decide
theorem nosp_star2 {x : ByteArray} (h : star2B x = true) : nosp x := by
  have h1 : x.data.toList = [42, 42] := by simpa [star2B, toList_data] using h
  unfold nosp
  rw [h1]
  decide
theorem nosp_split : ∀ (n : Nat) (s : ByteArray), s.size ≤ n → (∀ x ∈ split s 47, nosp x) → nosp s := by
  intro n
  induction n with
  | zero =>
    intro s hs h
    have : s.data.toList = [] := List.eq_nil_of_length_eq_zero (by rw [show s.data.toList.length = s.size by simp]; omega)
    unfold nosp
    rw [this]
    exact List.not_mem_nil
  | succ n ih =>
    intro s hs h
    cases hf : fI s 47 with
    | none =>
      rw [split_none hf] at h
      exact h s (by simp)
    | some i =>
      rw [split_some hf] at h
      have hlt := fI_lt hf
      have h1 := h _ (List.mem_cons_self)
      have h2 := ih (s.extract (i + 1) s.size) (by rw [ByteArray.size_extract]; omega) (fun x hx => h x (List.mem_cons_of_mem _ hx))
      unfold nosp at *
      rw [data_parts s i hlt, fI_at hf, List.mem_append, List.mem_cons]
      rintro (h3 | h3 | h3)
      · exact h1 h3
      · revert h3
        decide
      · exact h2 h3
theorem nosp_pt : ∀ l : List ByteArray, ptOk l = true → ∀ x ∈ l, nosp x
  | [], _, x, hx => by cases hx
  | y :: r, h, x, hx => by
    unfold ptOk at h
    split at h
    · rename_i h2
      have hr : r = [] := by simpa using h
      subst hr
      rw [List.mem_singleton] at hx
      subst hx
      exact nosp_star2 h2
    · rw [Bool.and_eq_true] at h
      rw [List.mem_cons] at hx
      rcases hx with rfl | hx
      · exact nosp_ws h.1
      · exact nosp_pt r h.2 x hx
theorem nosp_path {s : ByteArray} (h : ptBs s = true) : nosp s := by
  cases h0 : slashB s
  · cases h1 : headB s
    · have hp : pathPs s = none := by
        unfold pathPs
        rw [h0, h1]
        rfl
      unfold ptBs at h
      rw [hp] at h
      cases h
    · unfold ptBs at h
      rw [pathPs_head h0 h1] at h
      simp only [ptB_eq, Bool.and_eq_true] at h
      have h2 := nosp_split _ (s.extract 1 s.size) (Nat.le_refl _) (nosp_pt _ h.1)
      have hs : 0 < s.size := by
        rcases Nat.eq_zero_or_pos s.size with hz | hz
        · have : s.data.toList = [] := List.eq_nil_of_length_eq_zero (by rw [show s.data.toList.length = s.size by simp]; omega)
          unfold headB at h1
          rw [this] at h1
          cases h1
        · exact hz
      have hd := data_parts s 0 hs
      have h4 : (s.extract 0 0).data.toList = [] := by
        rw [ByteArray.data_extract, Array.toList_extract, List.extract_eq_take_drop]
        simp
      rw [h4, List.nil_append] at hd
      unfold headB at h1
      rw [hd] at h1
      have h5 : s[0] = 47 := by simpa using h1
      unfold nosp at *
      rw [hd, h5, List.mem_cons]
      rintro (h6 | h6)
      · revert h6
        decide
      · exact h2 h6
  · have h1 : s.data.toList = [47] := by simpa [slashB, toList_data] using h0
    unfold nosp
    rw [h1]
    decide
theorem nosp_name {s : ByteArray} (h : nmB (split s 47) = true) : nosp s := by
  rw [nmB_eq, Bool.and_eq_true, List.all_eq_true] at h
  exact nosp_split _ s (Nat.le_refl _) (fun x hx => nosp_ws (h.2 x hx))
theorem nosp_method {s : ByteArray} (h : (mthB s || starB s) = true) : nosp s := by
  unfold mthB getB putB starB at h
  rw [toList_data] at h
  simp only [Bool.or_eq_true, beq_iff_eq] at h
  unfold nosp
  rcases h with (h | h) | h
  all_goals rw [h]; decide
theorem cut_blank : ∀ a a' b b' : List UInt8, (32 : UInt8) ∉ a → (32 : UInt8) ∉ a' → a ++ 32 :: b = a' ++ 32 :: b' → a = a' ∧ b = b'
  | [], [], b, b', _, _, h => by simpa using h
  | [], y :: a', b, b', _, h2, h => by
    simp only [List.nil_append, List.cons_append, List.cons.injEq] at h
    exact absurd (by rw [h.1]; exact List.mem_cons_self) h2
  | x :: a, [], b, b', h1, _, h => by
    simp only [List.nil_append, List.cons_append, List.cons.injEq] at h
    exact absurd (by rw [h.1]; exact List.mem_cons_self) h1
  | x :: a, y :: a', b, b', h1, h2, h => by
    simp only [List.cons_append, List.cons.injEq] at h
    obtain ⟨e1, e2⟩ := cut_blank a a' b b' (fun hm => h1 (List.mem_cons_of_mem _ hm)) (fun hm => h2 (List.mem_cons_of_mem _ hm)) h.2
    exact ⟨by rw [h.1, e1], e2⟩
theorem text_list (r : Ru) : r.text.data.toList = (if r.deny = true then [100, 101, 110, 121] else [97, 108, 108, 111, 119]) ++ 32 :: (r.who.data.toList ++ 32 :: (r.method.data.toList ++ 32 :: r.path.data.toList)) := by
  unfold Ru.text
  cases r.deny <;> simp [ByteArray.data_append]
theorem bytes_eq {a b : ByteArray} (h : a.data.toList = b.data.toList) : a = b := by
  apply ByteArray.ext
  exact Array.toList_inj.1 h
theorem text_inj {r s : Ru} (hr : r.good = true) (hs : s.good = true) (h : r.text.data.toList = s.text.data.toList) : r = s := by
  unfold Ru.good at hr hs
  simp only [Bool.and_eq_true] at hr hs
  rw [text_list, text_list] at h
  obtain ⟨h1, h2⟩ := cut_blank _ _ _ _ (by cases r.deny <;> decide) (by cases s.deny <;> decide) h
  obtain ⟨h3, h4⟩ := cut_blank _ _ _ _ (nosp_name hr.1.1) (nosp_name hs.1.1) h2
  obtain ⟨h5, h6⟩ := cut_blank _ _ _ _ (nosp_method hr.2) (nosp_method hs.2) h4
  have hd : r.deny = s.deny := by
    cases h7 : r.deny <;> cases h8 : s.deny <;> first | rfl | (rw [h7, h8] at h1; simp at h1)
  obtain ⟨d, a, b, c⟩ := r
  obtain ⟨d', a', b', c'⟩ := s
  simp only at h3 h5 h6 hd
  rw [bytes_eq h3, bytes_eq h5, bytes_eq h6, hd]


/-! Lists in the order of texts. -/
def ltR (x y : Ru) : Bool := Op.bytesLess x.text.data.toList y.text.data.toList
def SS (l : List Ru) : Prop := l.Pairwise (fun x y => ltR x y = true)
theorem same_eq {x y : Ru} (h : x.same y = true) : x = y := by
  unfold Ru.same eqB at h
  simp only [Bool.and_eq_true, beq_iff_eq, toList_data] at h
  obtain ⟨d, a, b, c⟩ := x
  obtain ⟨d', a', b', c'⟩ := y
  simp only at h
  rw [h.1.1.1, bytes_eq h.1.1.2, bytes_eq h.1.2, bytes_eq h.2]
theorem ss_unique : ∀ l l' : List Ru, SS l → SS l' → (∀ y, y ∈ l ↔ y ∈ l') → l = l'
  | [], [], _, _, _ => rfl
  | [], y :: _, _, _, h => by have := (h y).2 List.mem_cons_self; cases this
  | x :: _, [], _, _, h => by have := (h x).1 List.mem_cons_self; cases this
  | x :: xs, y :: ys, h1, h2, h => by
    unfold SS at h1 h2
    rw [List.pairwise_cons] at h1 h2
    have hxy : x = y := by
      have a1 := (h x).1 List.mem_cons_self
      have a2 := (h y).2 List.mem_cons_self
      rw [List.mem_cons] at a1 a2
      rcases a1 with a1 | a1
      · exact a1
      · rcases a2 with a2 | a2
        · exact a2.symm
        · have b1 := h2.1 x a1
          have b2 := h1.1 y a2
          unfold ltR at b1 b2
          rw [bl_asym b2] at b1
          cases b1
    subst hxy
    have ht : ∀ z, z ∈ xs ↔ z ∈ ys := fun z => by
      constructor
      · intro hz
        have := (h z).1 (List.mem_cons_of_mem _ hz)
        rw [List.mem_cons] at this
        rcases this with rfl | this
        · have := h1.1 z hz
          unfold ltR at this
          rw [bl_irrefl] at this
          cases this
        · exact this
      · intro hz
        have := (h z).2 (List.mem_cons_of_mem _ hz)
        rw [List.mem_cons] at this
        rcases this with rfl | this
        · have := h2.1 z hz
          unfold ltR at this
          rw [bl_irrefl] at this
          cases this
        · exact this
    rw [ss_unique xs ys h1.2 h2.2 ht]
/-- A rule laid in where it belongs, once. -/
def insU (r : Ru) : List Ru → List Ru
  | [] => [r]
  | x :: xs => if ltR x r = true then x :: insU r xs else if x.same r = true then x :: xs else r :: x :: xs
theorem insU_mem (r : Ru) : ∀ (l : List Ru) (y : Ru), y ∈ insU r l ↔ y = r ∨ y ∈ l
  | [], y => by simp [insU]
  | x :: xs, y => by
    unfold insU
    split
    · rw [List.mem_cons, insU_mem r xs y, List.mem_cons]
      constructor
      · rintro (h | h | h)
        · exact .inr (.inl h)
        · exact .inl h
        · exact .inr (.inr h)
      · rintro (h | h | h)
        · exact .inr (.inl h)
        · exact .inl h
        · exact .inr (.inr h)
    · split
      · rename_i h2
        have := same_eq h2
        subst this
        simp
      · simp
theorem insU_ss {r : Ru} (hr : r.good = true) : ∀ l : List Ru, (∀ x ∈ l, x.good = true) → SS l → SS (insU r l)
  | [], _, _ => by simp [insU, SS]
  | x :: xs, hg, h => by
    unfold SS at h
    rw [List.pairwise_cons] at h
    unfold insU
    split
    · rename_i h1
      unfold SS
      rw [List.pairwise_cons]
      refine ⟨fun y hy => ?_, insU_ss hr xs (fun z hz => hg z (List.mem_cons_of_mem _ hz)) h.2⟩
      rw [insU_mem] at hy
      rcases hy with rfl | hy
      · exact h1
      · exact h.1 y hy
    · rename_i h1
      split
      · unfold SS
        rw [List.pairwise_cons]
        exact h
      · rename_i h2
        have hrx : ltR r x = true := by
          cases h3 : ltR r x
          · unfold ltR at h1 h3
            have h4 : Op.bytesLess x.text.data.toList r.text.data.toList = false := by simpa using h1
            have := text_inj (hg x List.mem_cons_self) hr (bl_total _ _ h4 h3)
            subst this
            exact absurd (Ru.same_refl x) h2
          · rfl
        unfold SS
        rw [List.pairwise_cons, List.pairwise_cons]
        refine ⟨fun y hy => ?_, h⟩
        rw [List.mem_cons] at hy
        rcases hy with rfl | hy
        · exact hrx
        · exact bl_trans _ _ _ hrx (h.1 y hy)
def plTo (rs : List Ru) (k : Nat) : List Ru := (rs.take k).foldl (fun o r => insU r o) []
theorem plTo_succ {rs : List Ru} {k : Nat} (h : k < rs.length) : plTo rs (k + 1) = insU rs[k] (plTo rs k) := by
  unfold plTo
  rw [List.take_succ_eq_append_getElem h, List.foldl_append]
  rfl
theorem plTo_mem {rs : List Ru} : ∀ k, k ≤ rs.length → ∀ y, y ∈ plTo rs k ↔ y ∈ rs.take k
  | 0, _, y => by simp [plTo]
  | k + 1, hk, y => by
    rw [plTo_succ (by omega), insU_mem, plTo_mem k (by omega) y, List.take_succ_eq_append_getElem (by omega), List.mem_append, List.mem_singleton]
    exact Or.comm
theorem plTo_ss {rs : List Ru} (hg : ∀ r ∈ rs, r.good = true) : ∀ k, k ≤ rs.length → SS (plTo rs k)
  | 0, _ => by simp [plTo, SS]
  | k + 1, hk => by
    rw [plTo_succ (by omega)]
    exact insU_ss (hg _ (List.getElem_mem _)) _ (fun x hx => hg x (List.mem_of_mem_take ((plTo_mem k (by omega) x).1 hx))) (plTo_ss hg k (by omega))
/-- What stays of a list when of neighbours alike the first stays. -/
def kpB (rs : List Ru) (i : Nat) : Bool := match i, rs[i]?, rs[i - 1]? with
  | 0, _, _ => true
  | _ + 1, some x, some y => !(x.same y)
  | _ + 1, _, _ => true
def cpTo (rs : List Ru) : Nat → List Ru
  | 0 => []
  | m + 1 => if kpB rs m = true then cpTo rs m ++ rs[m]?.toList else cpTo rs m
theorem kpB_succ {rs : List Ru} {i : Nat} (h : i + 1 < rs.length) : kpB rs (i + 1) = !(rs[i + 1].same rs[i]) := by
  unfold kpB
  simp only [Nat.add_sub_cancel]
  rw [List.getElem?_eq_getElem h, List.getElem?_eq_getElem (by omega)]
theorem cpTo_yes {rs : List Ru} {m : Nat} (h : m < rs.length) (hk : kpB rs m = true) : cpTo rs (m + 1) = cpTo rs m ++ [rs[m]] := by
  rw [cpTo, if_pos hk, List.getElem?_eq_getElem h]
  rfl
theorem cpTo_no {rs : List Ru} {m : Nat} (hk : kpB rs m = false) : cpTo rs (m + 1) = cpTo rs m := by
  rw [cpTo, if_neg (by rw [hk]; exact Bool.false_ne_true)]
theorem cpTo_len (rs : List Ru) : ∀ m, (cpTo rs m).length ≤ m
  | 0 => Nat.le_refl _
  | m + 1 => by
    have ih := cpTo_len rs m
    rw [cpTo]
    split
    · rw [List.length_append]
      cases rs[m]? <;> simp <;> omega
    · omega
theorem cpTo_all {rs : List Ru} : ∀ m, m ≤ rs.length → (∀ i, i < m → kpB rs i = true) → cpTo rs m = rs.take m
  | 0, _, _ => by simp [cpTo]
  | m + 1, hm, h => by
    rw [cpTo_yes (by omega) (h m (by omega)), cpTo_all m (by omega) (fun i hi => h i (by omega)), List.take_succ_eq_append_getElem (by omega)]
theorem cpTo_ss {ds : List Ru} (hg : ∀ r ∈ ds, r.good = true) (hs : ∀ i j (hi : i < j) (hj : j < ds.length), ltR ds[j] ds[i] = false) : ∀ m, m ≤ ds.length → SS (cpTo ds m) ∧ ∀ y, y ∈ cpTo ds m ↔ y ∈ ds.take m
  | 0, _ => by simp [cpTo, SS]
  | m + 1, hm => by
    obtain ⟨h1, h2⟩ := cpTo_ss hg hs m (by omega)
    cases hk : kpB ds m
    · rw [cpTo_no hk]
      refine ⟨h1, fun y => ?_⟩
      rw [h2, List.take_succ_eq_append_getElem (by omega), List.mem_append, List.mem_singleton]
      constructor
      · exact .inl
      · rintro (h | rfl)
        · exact h
        · cases m with
          | zero => simp [kpB] at hk
          | succ i =>
            rw [kpB_succ (by omega)] at hk
            have := same_eq (by simpa using hk)
            rw [this, List.mem_take_iff_getElem]
            exact ⟨i, by omega, rfl⟩
    · rw [cpTo_yes (by omega) hk]
      refine ⟨?_, fun y => by rw [List.mem_append, h2, List.take_succ_eq_append_getElem (by omega), List.mem_append]⟩
      unfold SS at *
      rw [List.pairwise_append]
      refine ⟨h1, by simp, fun x hx y hy => ?_⟩
      rw [List.mem_singleton] at hy
      subst hy
      have hx' := (h2 x).1 hx
      rw [List.mem_take_iff_getElem] at hx'
      obtain ⟨i, hi, rfl⟩ := hx'
      cases m with
      | zero => omega
      | succ p =>
        rw [kpB_succ (by omega)] at hk
        have hlt : ltR ds[p] ds[p + 1] = true := by
          cases h3 : ltR ds[p] ds[p + 1]
          · have h4 := hs p (p + 1) (by omega) (by omega)
            unfold ltR at h3 h4
            have := text_inj (hg _ (List.getElem_mem _)) (hg _ (List.getElem_mem _)) (bl_total _ _ h3 h4)
            rw [this, Ru.same_refl] at hk
            cases hk
          · rfl
        by_cases hip : i = p
        · subst hip
          exact hlt
        · exact bl_le_lt (hs i p (by omega) (by omega)) hlt
/-- A sorted copy, neighbours alike taken away, is what the specification lays. -/
theorem plain_eq {rs ds : List Ru} (hg : ∀ r ∈ rs, r.good = true) (hp : ds.Perm rs) (hs : ∀ i j (hi : i < j) (hj : j < ds.length), ltR ds[j] ds[i] = false) : cpTo ds ds.length = plTo rs rs.length := by
  have h1 := cpTo_ss (fun r hr => hg r (hp.mem_iff.1 hr)) hs ds.length (Nat.le_refl _)
  refine ss_unique _ _ h1.1 (plTo_ss hg _ (Nat.le_refl _)) (fun y => ?_)
  rw [h1.2, plTo_mem _ (Nat.le_refl _), List.take_length, List.take_length, hp.mem_iff]

end Go.Proofs.YtnbojbcljfiamaaDoor

namespace Go.Proofs.YtnbojbcljfiamaaDoor
open Go.RowKit Go.Shelf

/-- The rule that is laid at i, from the number k on. -/
def mkR (k i : Nat) : Ru := ⟨((k + 4 * i : Nat) : Int) % 3 == 0, mkT (k + 4 * i + 1), mkT (k + 4 * i + 2), mkT (k + 4 * i + 3)⟩
def mkL (k n : Nat) : List Ru := (List.range n).map (mkR k)
theorem mkL_len (k n : Nat) : (mkL k n).length = n := by simp [mkL]
theorem mkL_succ (k n : Nat) : mkL k (n + 1) = mkL k n ++ [mkR k n] := by
  unfold mkL
  rw [List.range_succ, List.map_append]
  rfl
theorem mkL_at {k n i : Nat} (h : i < (mkL k n).length) : (mkL k n)[i] = mkR k i := by simp [mkL]



end Go.Proofs.YtnbojbcljfiamaaDoor

namespace Go.Proofs.YtnbojbcljfiamaaDoor
open Go.RowKit Go.Shelf Go.Sort

/-- Memory that was only made, and draws: in the sort's words. -/
theorem grow_of {W w' : World} (hB : Below W.heap.size W w') (hd : W.drawn ≤ w'.drawn) : ∃ q os', w' = grow (W.drewN q) os' := by
  refine ⟨w'.drawn - W.drawn, w'.heap.extract W.heap.size w'.heap.size, ?_⟩
  have hh : w'.heap = W.heap ++ w'.heap.extract W.heap.size w'.heap.size := by
    apply Array.ext_getElem?
    intro k
    by_cases hk : k < W.heap.size
    · rw [Array.getElem?_append_left hk, hB.block k hk]
    · rw [Array.getElem?_append_right (by omega), Array.getElem?_extract]
      by_cases h2 : k < w'.heap.size
      · rw [if_pos (by omega)]
        congr 1
        omega
      · rw [if_neg (by omega), Array.getElem?_eq_none (by omega)]
  have h1 := hB.os
  have h2 := hB.tape
  have h3 := hB.output
  obtain ⟨hp, tp, dr, os, out⟩ := w'
  obtain ⟨hp0, tp0, dr0, os0, out0⟩ := W
  simp only at h1 h2 h3 hd hh
  simp only [grow, World.drewN]
  rw [← hh, h1, h2, h3, Nat.add_sub_cancel' hd]

end Go.Proofs.YtnbojbcljfiamaaDoor
