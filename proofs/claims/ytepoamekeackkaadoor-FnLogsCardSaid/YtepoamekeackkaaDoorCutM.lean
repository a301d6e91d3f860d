/-
  A text parted at the first place of a byte, and what the cutting at that byte makes of the two parts.
-/
import Derived.Lib.Bytealg
import Derived.Test.YtepoamekeackkaaDoorMathB
namespace Go.Proofs.YtepoamekeackkaaDoor

/-- Where the byte stands first. -/
def fI (s : ByteArray) (b : UInt8) : Option Nat := s.data.toList.findIdx? (fun x => x == b)
theorem fI_lt {s : ByteArray} {b : UInt8} {i : Nat} (h : fI s b = some i) : i < s.size := by
  unfold fI at h
  have := List.findIdx?_eq_some_iff_getElem.1 h
  obtain ⟨h1, _⟩ := this
  simpa using h1
theorem fI_at {s : ByteArray} {b : UInt8} {i : Nat} (h : fI s b = some i) : s[i]'(fI_lt h) = b := by
  have := List.findIdx?_eq_some_iff_getElem.1 h
  obtain ⟨h1, h2, _⟩ := this
  simp at h2
  exact h2
theorem fI_ahead {s : ByteArray} {b : UInt8} {i : Nat} (h : fI s b = some i) (j : Nat) (hj : j < i) (hs : j < s.size) : s[j] ≠ b := by
  have := List.findIdx?_eq_some_iff_getElem.1 h
  obtain ⟨h1, _, h3⟩ := this
  have := h3 j hj
  simp at this
  exact this
theorem fI_none {s : ByteArray} {b : UInt8} (h : fI s b = none) (j : Nat) (hs : j < s.size) : s[j] ≠ b := by
  unfold fI at h
  rw [List.findIdx?_eq_none_iff] at h
  intro e
  have := h s[j] (by
    have : s.data.toList[j]'(by simpa using hs) = s[j] := by simp; rfl
    rw [← this]
    exact List.getElem_mem _)
  rw [e] at this
  simp at this
theorem idx_fI : ∀ (l : List UInt8) (b : UInt8), Lib.indexByte l b = match l.findIdx? (fun x => x == b) with
    | some i => (i : Int)
    | none => -1
  | [], _ => rfl
  | x :: l, b => by
    have ih := idx_fI l b
    unfold Lib.indexByte
    rw [List.findIdx?_cons]
    by_cases hx : (x == b) = true
    · simp [hx]
    · rw [if_neg hx, if_neg hx]
      cases h : l.findIdx? (fun x => x == b) with
      | none => rw [h] at ih; rw [ih]; rfl
      | some i =>
        rw [h] at ih
        rw [ih]
        have : ((i : Int) == -1) = false := by
          rw [beq_eq_false_iff_ne]
          omega
        simp [this]
theorem index_some {s : ByteArray} {b : UInt8} {i : Nat} (h : fI s b = some i) : Lib.indexByte s.data.toList b = i := by
  unfold fI at h
  rw [idx_fI, h]
theorem index_none {s : ByteArray} {b : UInt8} (h : fI s b = none) : Lib.indexByte s.data.toList b = -1 := by
  unfold fI at h
  rw [idx_fI, h]
theorem sp_none (s : ByteArray) (b : UInt8) : ∀ i, i ≤ s.size → (∀ j (_ : j < i) (hs : j < s.size), s[j] ≠ b) → spP s b i = ([], 0)
  | 0, _, _ => rfl
  | i + 1, hi, h => by
    rw [sp_miss s b i (by omega) (h i (by omega) (by omega))]
    exact sp_none s b i (by omega) (fun j hj hs => h j (by omega) hs)
theorem split_none {s : ByteArray} {b : UInt8} (h : fI s b = none) : split s b = [s] := by
  have := sp_none s b s.size (Nat.le_refl _) (fun j _ hs => fI_none h j hs)
  rw [split_end]
  unfold spL spA
  rw [this]
  simp
theorem sp_shift {s : ByteArray} {b : UInt8} {i : Nat} (h : fI s b = some i) : ∀ k, k ≤ (s.extract (i + 1) s.size).size + 1 →
    spP s b (i + 1 + k) = (s.extract 0 i :: (spP (s.extract (i + 1) s.size) b k).1, i + 1 + (spP (s.extract (i + 1) s.size) b k).2)
  | 0, _ => by
    have h0 := sp_none s b i (Nat.le_of_lt (fI_lt h)) (fun j hj hs => fI_ahead h j hj hs)
    have hl := spL_hit s b i (fI_lt h) (fI_at h)
    have ha := spA_hit s b i (fI_lt h) (fI_at h)
    unfold spL spA at hl ha
    rw [h0] at hl
    refine Prod.ext ?_ ?_
    · rw [Nat.add_zero, hl]; rfl
    · rw [Nat.add_zero, ha]; rfl
  | k + 1, hk => by
    have ih := sp_shift h k (by omega)
    have hlt := fI_lt h
    have hsz : (s.extract (i + 1) s.size).size = s.size - (i + 1) := by rw [ByteArray.size_extract]; omega
    have hc : (i + 1 + k = s.size ∨ s.data.toList[i + 1 + k]? = some b) ↔ (k = (s.extract (i + 1) s.size).size ∨ (s.extract (i + 1) s.size).data.toList[k]? = some b) := by
      have e : (s.extract (i + 1) s.size).data.toList[k]? = s.data.toList[i + 1 + k]? := by
        rw [ByteArray.data_extract, Array.toList_extract, List.extract_eq_take_drop, List.getElem?_take]
        rw [hsz] at hk
        by_cases hks : k < s.size - (i + 1)
        · rw [if_pos hks, List.getElem?_drop]
        · rw [if_neg hks, List.getElem?_eq_none (by simp; omega)]
      rw [e, hsz]
      constructor
      · rintro (e | e)
        · exact .inl (by omega)
        · exact .inr e
      · rintro (e | e)
        · exact .inl (by omega)
        · exact .inr e
    rw [show i + 1 + (k + 1) = (i + 1 + k) + 1 from rfl, spP, spP]
    by_cases hh : k = (s.extract (i + 1) s.size).size ∨ (s.extract (i + 1) s.size).data.toList[k]? = some b
    · rw [if_pos hh, if_pos (hc.2 hh), ih]
      refine Prod.ext ?_ rfl
      have hx : s.extract (i + 1 + (spP (s.extract (i + 1) s.size) b k).2) (i + 1 + k) = (s.extract (i + 1) s.size).extract (spP (s.extract (i + 1) s.size) b k).2 k := by
        rw [ByteArray.extract_extract]
        congr 1
        omega
      simp only [hx, List.cons_append]
    · rw [if_neg hh, if_neg (fun h' => hh (hc.1 h')), ih]
theorem split_some {s : ByteArray} {b : UInt8} {i : Nat} (h : fI s b = some i) : split s b = s.extract 0 i :: split (s.extract (i + 1) s.size) b := by
  have hlt := fI_lt h
  have hsz : (s.extract (i + 1) s.size).size = s.size - (i + 1) := by rw [ByteArray.size_extract]; omega
  have := sp_shift h ((s.extract (i + 1) s.size).size + 1) (Nat.le_refl _)
  rw [show i + 1 + ((s.extract (i + 1) s.size).size + 1) = s.size + 1 by omega] at this
  unfold split spL
  rw [this]
/-- The part ahead, the part behind, and whether the byte is there. -/
def cutA (s : ByteArray) (b : UInt8) : ByteArray := match fI s b with
  | some i => s.extract 0 i
  | none => s
def cutB (s : ByteArray) (b : UInt8) : ByteArray := match fI s b with
  | some i => s.extract (i + 1) s.size
  | none => ⟨#[]⟩
def cutF (s : ByteArray) (b : UInt8) : Bool := (fI s b).isSome
theorem cut_some {s : ByteArray} {b : UInt8} {i : Nat} (h : fI s b = some i) : cutA s b = s.extract 0 i ∧ cutB s b = s.extract (i + 1) s.size ∧ cutF s b = true := by
  unfold cutA cutB cutF
  rw [h]
  exact ⟨rfl, rfl, rfl⟩
theorem cut_none {s : ByteArray} {b : UInt8} (h : fI s b = none) : cutA s b = s ∧ cutB s b = ⟨#[]⟩ ∧ cutF s b = false := by
  unfold cutA cutB cutF
  rw [h]
  exact ⟨rfl, rfl, rfl⟩
theorem split_head (s : ByteArray) (b : UInt8) : ∃ r, split s b = cutA s b :: r := by
  cases h : fI s b with
  | none => exact ⟨[], by rw [split_none h, (cut_none h).1]⟩
  | some i => exact ⟨_, by rw [split_some h, (cut_some h).1]⟩
theorem data_parts (s : ByteArray) (i : Nat) (h : i < s.size) : s.data.toList = (s.extract 0 i).data.toList ++ s[i] :: (s.extract (i + 1) s.size).data.toList := by
  have h0 : i < s.data.toList.length := by simpa using h
  have h1 : (s.extract 0 i).data.toList = s.data.toList.take i := by
    rw [ByteArray.data_extract, Array.toList_extract, List.extract_eq_take_drop]
    simp
  have h2 : (s.extract (i + 1) s.size).data.toList = s.data.toList.drop (i + 1) := by
    rw [ByteArray.data_extract, Array.toList_extract, List.extract_eq_take_drop]
    rw [List.take_of_length_le (by simp)]
  have h3 : s[i] = s.data.toList[i] := by simp; rfl
  rw [h1, h2, h3, ← List.drop_eq_getElem_cons h0, List.take_append_drop]

end Go.Proofs.YtepoamekeackkaaDoor
