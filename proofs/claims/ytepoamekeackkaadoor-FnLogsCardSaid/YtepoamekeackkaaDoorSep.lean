/-
  Bytes that stand in no good part, and texts parted at such a byte: without the model.
-/
import Derived.Lib.IndexBytes
import Derived.Lib.SplitLaws
import Derived.Lib.CountLaws
import Derived.Test.YtepoamekeackkaaDoorCutM
namespace Go.Proofs.YtepoamekeackkaaDoor

theorem bytes_same {a b : ByteArray} (h : a.data.toList = b.data.toList) : a = b := ByteArray.ext (Array.toList_inj.1 h)
theorem split_ne (s : ByteArray) (b : UInt8) : ∃ x r, split s b = x :: r := by
  obtain ⟨r, h⟩ := split_head s b
  exact ⟨_, r, h⟩
theorem empty_of {s : ByteArray} (h : s.toList.isEmpty = true) : s = ⟨#[]⟩ := by
  rw [toList_data] at h
  apply ByteArray.ext
  have : s.data.toList = [] := by simpa using h
  exact Array.toList_inj.1 (by rw [this])
/-- The library's cutting at one byte is ours. -/
theorem index_of_one (s : ByteArray) (c : UInt8) : Lib.indexB s ⟨#[c]⟩ = Lib.indexByte s.data.toList c := by
  show Lib.index s.data.toList [c] = _
  exact Lib.index_one _ _
theorem split_lib (c : UInt8) : ∀ (n : Nat) (s : ByteArray), s.size ≤ n → Lib.splitB ⟨#[c]⟩ 0 (Lib.countB s ⟨#[c]⟩) s = split s c := by
  intro n
  induction n with
  | zero =>
    intro s hs
    have hf : fI s c = none := by
      have : s.data.toList = [] := List.eq_nil_of_length_eq_zero (by rw [show s.data.toList.length = s.size by simp]; omega)
      unfold fI
      rw [this]
      rfl
    rw [Lib.splitB_miss _ _ _ _ (by rw [index_of_one, index_none hf]), split_none hf]
  | succ n ih =>
    intro s hs
    cases hf : fI s c with
    | none => rw [Lib.splitB_miss _ _ _ _ (by rw [index_of_one, index_none hf]), split_none hf]
    | some i =>
      have hlt := fI_lt hf
      have hi : Lib.indexB s ⟨#[c]⟩ = i := by rw [index_of_one, index_some hf]
      have hc := Lib.countB_hit s ⟨#[c]⟩ i (show 1 ≤ (⟨#[c]⟩ : ByteArray).size from Nat.le_refl _) hi
      rw [hc, Nat.add_comm 1, Lib.splitB_hit _ _ _ _ i hi, split_some hf]
      have hsz : (⟨#[c]⟩ : ByteArray).size = 1 := rfl
      rw [hsz, Nat.add_zero, ih (s.extract (i + 1) s.size) (by rw [ByteArray.size_extract]; omega)]
theorem no_ws {ch : UInt8} (hw : wordCh ch = false) (h42 : ch ≠ 42) {x : ByteArray} (h : wsB x = true) : ch ∉ x.data.toList := by
  unfold wsB at h
  rw [Bool.or_eq_true] at h
  rcases h with h | h
  · have h1 : x.data.toList = [42] := by simpa [starB, toList_data] using h
    rw [h1, List.mem_singleton]
    exact h42
  · unfold wordB wordTo at h
    rw [Bool.and_eq_true] at h
    intro hm
    have h2 := h.1
    rw [List.take_of_length_le (by simp)] at h2
    have := List.all_eq_true.1 h2 ch hm
    rw [hw] at this
    cases this
theorem no_star2 {ch : UInt8} (h42 : ch ≠ 42) {x : ByteArray} (h : star2B x = true) : ch ∉ x.data.toList := by
  have h1 : x.data.toList = [42, 42] := by simpa [star2B, toList_data] using h
  rw [h1]
  simp [h42]
theorem no_split {ch : UInt8} (h47 : ch ≠ 47) : ∀ (n : Nat) (s : ByteArray), s.size ≤ n → (∀ x ∈ split s 47, ch ∉ x.data.toList) → ch ∉ s.data.toList := by
  intro n
  induction n with
  | zero =>
    intro s hs h
    have : s.data.toList = [] := List.eq_nil_of_length_eq_zero (by rw [show s.data.toList.length = s.size by simp]; omega)
    rw [this]
    exact List.not_mem_nil
  | succ n ih =>
    intro s hs h
    cases hf : fI s 47 with
    | none =>
      rw [split_none hf] at h
      exact h s (by simp)
    | some i =>
      rw [split_some hf] at h
      have hlt := fI_lt hf
      have h1 := h _ (List.mem_cons_self)
      have h2 := ih (s.extract (i + 1) s.size) (by rw [ByteArray.size_extract]; omega) (fun x hx => h x (List.mem_cons_of_mem _ hx))
      rw [data_parts s i hlt, fI_at hf, List.mem_append, List.mem_cons]
      rintro (h3 | h3 | h3)
      · exact h1 h3
      · exact h47 h3
      · exact h2 h3
theorem no_pt {ch : UInt8} (hw : wordCh ch = false) (h42 : ch ≠ 42) : ∀ l : List ByteArray, ptOk l = true → ∀ x ∈ l, ch ∉ x.data.toList
  | [], _, x, hx => by cases hx
  | y :: r, h, x, hx => by
    unfold ptOk at h
    split at h
    · rename_i h2
      have hr : r = [] := by simpa using h
      subst hr
      rw [List.mem_singleton] at hx
      subst hx
      exact no_star2 h42 h2
    · rw [Bool.and_eq_true] at h
      rw [List.mem_cons] at hx
      rcases hx with rfl | hx
      · exact no_ws hw h42 h.1
      · exact no_pt hw h42 r h.2 x hx
theorem no_path {ch : UInt8} (hw : wordCh ch = false) (h42 : ch ≠ 42) (h47 : ch ≠ 47) {s : ByteArray} (h : ptBs s = true) : ch ∉ s.data.toList := by
  cases h0 : slashB s
  · cases h1 : headB s
    · have hp : pathPs s = none := by
        unfold pathPs
        rw [h0, h1]
        rfl
      unfold ptBs at h
      rw [hp] at h
      cases h
    · unfold ptBs at h
      rw [pathPs_head h0 h1] at h
      simp only [ptB_eq, Bool.and_eq_true] at h
      have h2 := no_split h47 _ (s.extract 1 s.size) (Nat.le_refl _) (no_pt hw h42 _ h.1)
      have hs : 0 < s.size := by
        rcases Nat.eq_zero_or_pos s.size with hz | hz
        · have : s.data.toList = [] := List.eq_nil_of_length_eq_zero (by rw [show s.data.toList.length = s.size by simp]; omega)
          unfold headB at h1
          rw [this] at h1
          cases h1
        · exact hz
      have hd := data_parts s 0 hs
      have h4 : (s.extract 0 0).data.toList = [] := by
        rw [ByteArray.data_extract, Array.toList_extract, List.extract_eq_take_drop]
        simp
      rw [h4, List.nil_append] at hd
      unfold headB at h1
      rw [hd] at h1
      have h5 : s[0] = 47 := by simpa using h1
      rw [hd, h5, List.mem_cons]
      rintro (h6 | h6)
      · exact h47 h6
      · exact h2 h6
  · have h1 : s.data.toList = [47] := by simpa [slashB, toList_data] using h0
    rw [h1, List.mem_singleton]
    exact h47
theorem no_name {ch : UInt8} (hw : wordCh ch = false) (h42 : ch ≠ 42) (h47 : ch ≠ 47) {s : ByteArray} (h : nmB (split s 47) = true) : ch ∉ s.data.toList := by
  rw [nmB_eq, Bool.and_eq_true, List.all_eq_true] at h
  exact no_split h47 _ s (Nat.le_refl _) (fun x hx => no_ws hw h42 (h.2 x hx))
/-! A text parted at a byte that its first part has not. -/
theorem fI_parts {ch : UInt8} : ∀ (a b : List UInt8), ch ∉ a → (a ++ ch :: b).findIdx? (fun x => x == ch) = some a.length
  | [], b, _ => by rw [List.nil_append, List.findIdx?_cons]; simp
  | x :: a, b, h => by
    have hx : (x == ch) = false := by
      rw [beq_eq_false_iff_ne]
      rintro rfl
      exact h List.mem_cons_self
    rw [List.cons_append, List.findIdx?_cons, hx, fI_parts a b (fun hm => h (List.mem_cons_of_mem _ hm))]
    simp
theorem bytes_of (s : ByteArray) : s = ⟨s.data.toList.toArray⟩ := by
  apply ByteArray.ext
  simp
theorem ext_front (a b : List UInt8) : (⟨(a ++ b).toArray⟩ : ByteArray).extract 0 a.length = ⟨a.toArray⟩ := by
  apply bytes_same
  rw [ByteArray.data_extract, Array.toList_extract, List.extract_eq_take_drop]
  simp
theorem ext_back (a b : List UInt8) (ch : UInt8) : (⟨(a ++ ch :: b).toArray⟩ : ByteArray).extract (a.length + 1) (⟨(a ++ ch :: b).toArray⟩ : ByteArray).size = ⟨b.toArray⟩ := by
  apply bytes_same
  rw [ByteArray.data_extract, Array.toList_extract, List.extract_eq_take_drop]
  have h1 : (⟨(a ++ ch :: b).toArray⟩ : ByteArray).size = a.length + 1 + b.length := by
    show (a ++ ch :: b).toArray.size = _
    simp
    omega
  rw [h1, List.take_of_length_le (by simp)]
  show (a ++ ch :: b).drop (a.length + 1) = b
  rw [← List.drop_drop, List.drop_left]
  rfl
theorem split_parts {ch : UInt8} (a b : List UInt8) (h : ch ∉ a) : split ⟨(a ++ ch :: b).toArray⟩ ch = ⟨a.toArray⟩ :: split ⟨b.toArray⟩ ch := by
  have hf : fI ⟨(a ++ ch :: b).toArray⟩ ch = some a.length := fI_parts a b h
  rw [split_some hf, ext_front, ext_back]
theorem split_one {ch : UInt8} (a : List UInt8) (h : ch ∉ a) : split ⟨a.toArray⟩ ch = [⟨a.toArray⟩] := by
  refine split_none ?_
  unfold fI
  rw [List.findIdx?_eq_none_iff]
  intro x hx
  rw [beq_eq_false_iff_ne]
  rintro rfl
  exact h (by simpa using hx)


end Go.Proofs.YtepoamekeackkaaDoor
