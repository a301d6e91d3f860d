/-
  A rule read from its text, a policy read from its lines: without the model.
-/
import Derived.Lib.IndexBytes
import Derived.Lib.SplitLaws
import Derived.Lib.CountLaws
import Derived.Test.YtnblnhlfifhkkaaGreatCutM
import Derived.Test.YtnblnhlfifhkkaaGreatRule
namespace Go.Proofs.YtnblnhlfifhkkaaGreat

def alB (s : ByteArray) : Bool := s.toList == [97, 108, 108, 111, 119]
def dnB (s : ByteArray) : Bool := s.toList == [100, 101, 110, 121]
def ruOf (s : ByteArray) : Ru := match split s 32 with
  | [a, b, c, d] => ⟨dnB a, b, c, d⟩
  | _ => ⟨false, ⟨#[]⟩, ⟨#[]⟩, ⟨#[]⟩⟩
def ruOk (s : ByteArray) : Bool := match split s 32 with
  | [a, b, c, d] => (alB a || dnB a) && Ru.good ⟨dnB a, b, c, d⟩
  | _ => false
theorem ru_four {s a b c d : ByteArray} (h : split s 32 = [a, b, c, d]) : ruOf s = ⟨dnB a, b, c, d⟩ ∧ ruOk s = ((alB a || dnB a) && Ru.good ⟨dnB a, b, c, d⟩) := by
  unfold ruOf ruOk
  rw [h]
  exact ⟨rfl, rfl⟩
theorem ru_other {s : ByteArray} (h : (split s 32).length ≠ 4) : ruOk s = false := by
  unfold ruOk
  split
  · rename_i h1
    rw [h1] at h
    simp at h
  · rfl
theorem four {l : List ByteArray} (h : l.length = 4) : ∃ a b c d, l = [a, b, c, d] := by
  match l, h with
  | [a, b, c, d], _ => exact ⟨a, b, c, d, rfl⟩
theorem al_dn {s : ByteArray} (h : alB s = true) : dnB s = false := by
  unfold alB at h
  unfold dnB
  rw [eq_of_beq h]
  rfl
/-- What is read of lines, from the i-th on: the rules, the line's number, the code. -/
def rdL : List ByteArray → Nat → List Ru → List Ru × Nat × Nat
  | [], _, acc => (acc, 0, 0)
  | [x], i, acc => if x.toList.isEmpty = true then (acc, 0, 0) else ([], i + 1, 2)
  | x :: y :: r, i, acc => if ruOk x = false then ([], i + 1, 2) else if acc.length = 30 then ([], i + 1, 3) else rdL (y :: r) (i + 1) (acc ++ [ruOf x])
def rdS (s : ByteArray) : List Ru × Nat × Nat := if 1500 < s.size then ([], 0, 1) else rdL (split s 10) 0 []
theorem rdL_len : ∀ (l : List ByteArray) (i : Nat) (acc : List Ru), acc.length ≤ 30 → (rdL l i acc).1.length ≤ 30
  | [], _, acc, h => h
  | [x], i, acc, h => by
    unfold rdL
    split
    · exact h
    · exact Nat.zero_le _
  | x :: y :: r, i, acc, h => by
    unfold rdL
    split
    · exact Nat.zero_le _
    · split
      · exact Nat.zero_le _
      · exact rdL_len (y :: r) (i + 1) _ (by rw [List.length_append]; simp; omega)
theorem rdS_len (s : ByteArray) : (rdS s).1.length ≤ 30 := by
  unfold rdS
  split
  · exact Nat.zero_le _
  · exact rdL_len _ _ _ (Nat.zero_le _)
theorem split_ne (s : ByteArray) (b : UInt8) : ∃ x r, split s b = x :: r := by
  obtain ⟨r, h⟩ := split_head s b
  exact ⟨_, r, h⟩
theorem empty_of {s : ByteArray} (h : s.toList.isEmpty = true) : s = ⟨#[]⟩ := by
  rw [toList_data] at h
  apply ByteArray.ext
  have : s.data.toList = [] := by simpa using h
  exact Array.toList_inj.1 (by rw [this])
theorem rd_end {s : ByteArray} {i : Nat} {acc : List Ru} (h : s.toList.isEmpty = true) : rdL (split s 10) i acc = (acc, 0, 0) := by
  rw [empty_of h]
  have : split ⟨#[]⟩ 10 = [⟨#[]⟩] := split_none rfl
  rw [this]
  show (if (⟨#[]⟩ : ByteArray).toList.isEmpty = true then (acc, 0, 0) else ([], i + 1, 2)) = _
  rw [if_pos (by rw [toList_data]; rfl)]
theorem rd_open {s : ByteArray} {i : Nat} {acc : List Ru} (h : s.toList.isEmpty = false) (hf : fI s 10 = none) : rdL (split s 10) i acc = ([], i + 1, 2) := by
  rw [split_none hf]
  unfold rdL
  rw [h]
  rfl
theorem rd_cut {s : ByteArray} {i k : Nat} {acc : List Ru} (hf : fI s 10 = some k) : rdL (split s 10) i acc = (if ruOk (s.extract 0 k) = false then ([], i + 1, 2) else if acc.length = 30 then ([], i + 1, 3) else rdL (split (s.extract (k + 1) s.size) 10) (i + 1) (acc ++ [ruOf (s.extract 0 k)])) := by
  rw [split_some hf]
  obtain ⟨x, r, h⟩ := split_ne (s.extract (k + 1) s.size) 10
  rw [h]
  rfl
/-- The library's cutting at one byte is ours. -/
theorem index_of_one (s : ByteArray) (c : UInt8) : Lib.indexB s ⟨#[c]⟩ = Lib.indexByte s.data.toList c := by
  show Lib.index s.data.toList [c] = _
  exact Lib.index_one _ _
theorem split_lib (c : UInt8) : ∀ (n : Nat) (s : ByteArray), s.size ≤ n → Lib.splitB ⟨#[c]⟩ 0 (Lib.countB s ⟨#[c]⟩) s = split s c := by
  intro n
  induction n with
  | zero =>
    intro s hs
    have hf : fI s c = none := by
      have : s.data.toList = [] := List.eq_nil_of_length_eq_zero (by rw [show s.data.toList.length = s.size by simp]; omega)
      unfold fI
      rw [this]
      rfl
    rw [Lib.splitB_miss _ _ _ _ (by rw [index_of_one, index_none hf]), split_none hf]
  | succ n ih =>
    intro s hs
    cases hf : fI s c with
    | none => rw [Lib.splitB_miss _ _ _ _ (by rw [index_of_one, index_none hf]), split_none hf]
    | some i =>
      have hlt := fI_lt hf
      have hi : Lib.indexB s ⟨#[c]⟩ = i := by rw [index_of_one, index_some hf]
      have hc := Lib.countB_hit s ⟨#[c]⟩ i (show 1 ≤ (⟨#[c]⟩ : ByteArray).size from Nat.le_refl _) hi
      rw [hc, Nat.add_comm 1, Lib.splitB_hit _ _ _ _ i hi, split_some hf]
      have hsz : (⟨#[c]⟩ : ByteArray).size = 1 := rfl
      rw [hsz, Nat.add_zero, ih (s.extract (i + 1) s.size) (by rw [ByteArray.size_extract]; omega)]

end Go.Proofs.YtnblnhlfifhkkaaGreat
