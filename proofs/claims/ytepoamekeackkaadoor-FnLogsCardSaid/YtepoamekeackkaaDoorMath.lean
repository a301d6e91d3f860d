/-
  Plain facts on texts and their pieces, without a program: which texts are words, how a text is cut at a byte, which lists of pieces are names, paths and their patterns.
-/
namespace Go.Proofs.YtepoamekeackkaaDoor

/-- A letter a-z or a digit. -/
def wordCh (c : UInt8) : Bool := decide ((97 ≤ (c.toNat : Int) ∧ (c.toNat : Int) ≤ 122) ∨ (48 ≤ (c.toNat : Int) ∧ (c.toNat : Int) ≤ 57))
theorem wordCh_yes {c : UInt8} (h : (97 ≤ (c.toNat : Int) ∧ (c.toNat : Int) ≤ 122) ∨ (48 ≤ (c.toNat : Int) ∧ (c.toNat : Int) ≤ 57)) : wordCh c = true := decide_eq_true h
theorem wordCh_no {c : UInt8} (h : ¬ ((97 ≤ (c.toNat : Int) ∧ (c.toNat : Int) ≤ 122) ∨ (48 ≤ (c.toNat : Int) ∧ (c.toNat : Int) ≤ 57))) : wordCh c = false := decide_eq_false h

/-- The first k bytes are letters or digits. -/
def wordTo (s : ByteArray) (k : Nat) : Bool := (s.data.toList.take k).all wordCh
theorem wordTo_zero (s : ByteArray) : wordTo s 0 = true := by simp [wordTo]
theorem wordTo_succ (s : ByteArray) (k : Nat) (h : k < s.size) : wordTo s (k + 1) = (wordTo s k && wordCh s[k]) := by
  unfold wordTo
  rw [List.take_succ_eq_append_getElem (by simpa using h), List.all_append]
  simp
  rfl
theorem wordTo_mono (s : ByteArray) (k : Nat) (h : wordTo s k = false) : ∀ m, k ≤ m → wordTo s m = false := by
  intro m hm
  unfold wordTo at *
  obtain ⟨d, rfl⟩ := Nat.exists_eq_add_of_le hm
  rw [List.take_add, List.all_append, h]
  rfl

/-- A word: 1 to 8 letters or digits. -/
def wordB (s : ByteArray) : Bool := wordTo s s.size && decide (1 ≤ s.size ∧ s.size ≤ 8)
theorem wordB_bad (s : ByteArray) (k : Nat) (hk : k < s.size) (hc : wordCh s[k] = false) : wordB s = false := by
  have h1 : wordTo s (k + 1) = false := by rw [wordTo_succ s k hk, hc, Bool.and_false]
  unfold wordB
  rw [wordTo_mono s (k + 1) h1 s.size (by omega)]
  rfl
theorem wordB_end (s : ByteArray) (h : wordTo s s.size = true) : wordB s = decide (1 ≤ s.size ∧ s.size ≤ 8) := by
  unfold wordB
  rw [h]
  rfl
theorem wordB_len (s : ByteArray) (h : ¬ (1 ≤ s.size ∧ s.size ≤ 8)) : wordB s = false := by
  unfold wordB
  rw [decide_eq_false h, Bool.and_false]

/-- A text cut at the byte b, i bytes of it looked at: the pieces that are over, and where the next one begins. -/
def spP (s : ByteArray) (b : UInt8) : Nat → List ByteArray × Nat
  | 0 => ([], 0)
  | i + 1 => if i = s.size ∨ s.data.toList[i]? = some b then ((spP s b i).1 ++ [s.extract (spP s b i).2 i], i + 1) else spP s b i
def spL (s : ByteArray) (b : UInt8) (i : Nat) : List ByteArray := (spP s b i).1
def spA (s : ByteArray) (b : UInt8) (i : Nat) : Nat := (spP s b i).2
/-- A text cut at the byte b. -/
def split (s : ByteArray) (b : UInt8) : List ByteArray := spL s b (s.size + 1)

theorem spL_zero (s : ByteArray) (b : UInt8) : spL s b 0 = [] := rfl
theorem spA_zero (s : ByteArray) (b : UInt8) : spA s b 0 = 0 := rfl
theorem spA_le (s : ByteArray) (b : UInt8) : ∀ i, spA s b i ≤ i
  | 0 => Nat.le_refl _
  | i + 1 => by
    have ih := spA_le s b i
    unfold spA at *
    unfold spP
    split
    · exact Nat.le_refl _
    · omega
theorem spL_len (s : ByteArray) (b : UInt8) : ∀ i, (spL s b i).length ≤ i
  | 0 => Nat.le_refl _
  | i + 1 => by
    have ih := spL_len s b i
    unfold spL at *
    unfold spP
    split
    · simp; exact ih
    · omega
theorem at_some (s : ByteArray) (b : UInt8) (i : Nat) (h : i < s.size) : s.data.toList[i]? = some b ↔ s[i] = b := by
  rw [List.getElem?_eq_getElem (by simpa using h)]
  simp
  rfl
theorem spL_hit (s : ByteArray) (b : UInt8) (i : Nat) (h : i < s.size) (hb : s[i] = b) : spL s b (i + 1) = spL s b i ++ [s.extract (spA s b i) i] := by
  unfold spL spA
  rw [spP, if_pos (.inr ((at_some s b i h).2 hb))]
theorem spA_hit (s : ByteArray) (b : UInt8) (i : Nat) (h : i < s.size) (hb : s[i] = b) : spA s b (i + 1) = i + 1 := by
  unfold spA
  rw [spP, if_pos (.inr ((at_some s b i h).2 hb))]
theorem spL_end (s : ByteArray) (b : UInt8) : spL s b (s.size + 1) = spL s b s.size ++ [s.extract (spA s b s.size) s.size] := by
  unfold spL spA
  rw [spP, if_pos (.inl rfl)]
theorem spA_end (s : ByteArray) (b : UInt8) : spA s b (s.size + 1) = s.size + 1 := by
  unfold spA
  rw [spP, if_pos (.inl rfl)]
theorem sp_miss (s : ByteArray) (b : UInt8) (i : Nat) (h : i < s.size) (hb : s[i] ≠ b) : spP s b (i + 1) = spP s b i := by
  rw [spP, if_neg]
  rintro (e | e)
  · omega
  · exact hb ((at_some s b i h).1 e)
theorem spL_miss (s : ByteArray) (b : UInt8) (i : Nat) (h : i < s.size) (hb : s[i] ≠ b) : spL s b (i + 1) = spL s b i := by
  unfold spL
  rw [sp_miss s b i h hb]
theorem spA_miss (s : ByteArray) (b : UInt8) (i : Nat) (h : i < s.size) (hb : s[i] ≠ b) : spA s b (i + 1) = spA s b i := by
  unfold spA
  rw [sp_miss s b i h hb]
theorem split_end (s : ByteArray) (b : UInt8) : split s b = spL s b s.size ++ [s.extract (spA s b s.size) s.size] := spL_end s b
theorem split_len (s : ByteArray) (b : UInt8) : (split s b).length ≤ s.size + 1 := spL_len s b _
theorem spL_pre (s : ByteArray) (b : UInt8) : ∀ i, spL s b i <+: spL s b (i + 1) := by
  intro i
  unfold spL
  rw [spP]
  split
  · exact List.prefix_append _ _
  · exact List.prefix_refl _
theorem spL_le (s : ByteArray) (b : UInt8) (i d : Nat) : spL s b i <+: spL s b (i + d) := by
  induction d with
  | zero => exact List.prefix_refl _
  | succ d ih => exact ih.trans (spL_pre s b (i + d))
theorem spL_split (s : ByteArray) (b : UInt8) (i : Nat) (h : i ≤ s.size + 1) : spL s b i <+: split s b := by
  obtain ⟨d, hd⟩ := Nat.exists_eq_add_of_le h
  unfold split
  rw [hd]
  exact spL_le s b i d
theorem spL_lt_hit (s : ByteArray) (b : UInt8) (k : Nat) (h : k < s.size) (hb : s[k] = b) : (spL s b k).length < (split s b).length := by
  have h1 := (spL_split s b (k + 1) (by omega)).length_le
  rw [spL_hit s b k h hb] at h1
  simp at h1
  omega
theorem spL_lt_end (s : ByteArray) (b : UInt8) : (spL s b s.size).length < (split s b).length := by
  rw [split_end]
  simp
theorem spP_size (s : ByteArray) (b : UInt8) : ∀ i, ∀ x ∈ (spP s b i).1, x.size ≤ s.size
  | 0 => by intro x hx; cases hx
  | i + 1 => by
    intro x hx
    rw [spP] at hx
    split at hx
    · rw [List.mem_append] at hx
      rcases hx with hx | hx
      · exact spP_size s b i x hx
      · rw [List.mem_singleton] at hx
        subst hx
        rw [ByteArray.size_extract]
        omega
    · exact spP_size s b i x hx
theorem split_size (s : ByteArray) (b : UInt8) : ∀ x ∈ split s b, x.size ≤ s.size := spP_size s b _
theorem byte_eq {a b : UInt8} (h : (a.toNat : Int) = (b.toNat : Int)) : a = b := UInt8.toNat_inj.1 (by omega)
theorem byte_ne {a b : UInt8} (h : ¬ (a.toNat : Int) = (b.toNat : Int)) : a ≠ b := fun e => h (by rw [e])

end Go.Proofs.YtepoamekeackkaaDoor
