/-
  What is read of a policy's text is the policy, and a plain policy is plain again: without the model.
-/
import Derived.Test.YtnblnhlfifhkkaaGreatPlainM
import Derived.Test.YtnblnhlfifhkkaaGreatReadM
namespace Go.Proofs.YtnblnhlfifhkkaaGreat

theorem no_ws {ch : UInt8} (hw : wordCh ch = false) (h42 : ch ≠ 42) {x : ByteArray} (h : wsB x = true) : ch ∉ x.data.toList := by
  unfold wsB at h
  rw [Bool.or_eq_true] at h
  rcases h with h | h
  · have h1 : x.data.toList = [42] := by simpa [starB, toList_data] using h
    rw [h1, List.mem_singleton]
    exact h42
  · unfold wordB wordTo at h
    rw [Bool.and_eq_true] at h
    intro hm
    have h2 := h.1
    rw [List.take_of_length_le (by simp)] at h2
    have := List.all_eq_true.1 h2 ch hm
    rw [hw] at this
    cases this
theorem no_star2 {ch : UInt8} (h42 : ch ≠ 42) {x : ByteArray} (h : star2B x = true) : ch ∉ x.data.toList := by
  have h1 : x.data.toList = [42, 42] := by simpa [star2B, toList_data] using h
  rw [h1]
  simp [h42]
theorem no_split {ch : UInt8} (h47 : ch ≠ 47) : ∀ (n : Nat) (s : ByteArray), s.size ≤ n → (∀ x ∈ split s 47, ch ∉ x.data.toList) → ch ∉ s.data.toList := by
  intro n
  induction n with
  | zero =>
    intro s hs h
    have : s.data.toList = [] := List.eq_nil_of_length_eq_zero (by rw [show s.data.toList.length = s.size by simp]; omega)
    rw [this]
    exact List.not_mem_nil
  | succ n ih =>
    intro s hs h
    cases hf : fI s 47 with
    | none =>
      rw [split_none hf] at h
      exact h s (by simp)
    | some i =>
      rw [split_some hf] at h
      have hlt := fI_lt hf
      have h1 := h _ (List.mem_cons_self)
      have h2 := ih (s.extract (i + 1) s.size) (by rw [ByteArray.size_extract]; omega) (fun x hx => h x (List.mem_cons_of_mem _ hx))
      rw [data_parts s i hlt, fI_at hf, List.mem_append, List.mem_cons]
      rintro (h3 | h3 | h3)
      · exact h1 h3
      · exact h47 h3
      · exact h2 h3
theorem no_pt {ch : UInt8} (hw : wordCh ch = false) (h42 : ch ≠ 42) : ∀ l : List ByteArray, ptOk l = true → ∀ x ∈ l, ch ∉ x.data.toList
  | [], _, x, hx => by cases hx
  | y :: r, h, x, hx => by
    unfold ptOk at h
    split at h
    · rename_i h2
      have hr : r = [] := by simpa using h
      subst hr
      rw [List.mem_singleton] at hx
      subst hx
      exact no_star2 h42 h2
    · rw [Bool.and_eq_true] at h
      rw [List.mem_cons] at hx
      rcases hx with rfl | hx
      · exact no_ws hw h42 h.1
      · exact no_pt hw h42 r h.2 x hx
theorem no_path {ch : UInt8} (hw : wordCh ch = false) (h42 : ch ≠ 42) (h47 : ch ≠ 47) {s : ByteArray} (h : ptBs s = true) : ch ∉ s.data.toList := by
  cases h0 : slashB s
  · cases h1 : headB s
    · have hp : pathPs s = none := by
        unfold pathPs
        rw [h0, h1]
        rfl
      unfold ptBs at h
      rw [hp] at h
      cases h
    · unfold ptBs at h
      rw [pathPs_head h0 h1] at h
      simp only [ptB_eq, Bool.and_eq_true] at h
      have h2 := no_split h47 _ (s.extract 1 s.size) (Nat.le_refl _) (no_pt hw h42 _ h.1)
      have hs : 0 < s.size := by
        rcases Nat.eq_zero_or_pos s.size with hz | hz
        · have : s.data.toList = [] := List.eq_nil_of_length_eq_zero (by rw [show s.data.toList.length = s.size by simp]; omega)
          unfold headB at h1
          rw [this] at h1
          cases h1
        · exact hz
      have hd := data_parts s 0 hs
      have h4 : (s.extract 0 0).data.toList = [] := by
        rw [ByteArray.data_extract, Array.toList_extract, List.extract_eq_take_drop]
        simp
      rw [h4, List.nil_append] at hd
      unfold headB at h1
      rw [hd] at h1
      have h5 : s[0] = 47 := by simpa using h1
      rw [hd, h5, List.mem_cons]
      rintro (h6 | h6)
      · exact h47 h6
      · exact h2 h6
  · have h1 : s.data.toList = [47] := by simpa [slashB, toList_data] using h0
    rw [h1, List.mem_singleton]
    exact h47
theorem no_name {ch : UInt8} (hw : wordCh ch = false) (h42 : ch ≠ 42) (h47 : ch ≠ 47) {s : ByteArray} (h : nmB (split s 47) = true) : ch ∉ s.data.toList := by
  rw [nmB_eq, Bool.and_eq_true, List.all_eq_true] at h
  exact no_split h47 _ s (Nat.le_refl _) (fun x hx => no_ws hw h42 (h.2 x hx))
theorem no_method {ch : UInt8} (hw : wordCh ch = false) (h42 : ch ≠ 42) {s : ByteArray} (h : (mthB s || starB s) = true) : ch ∉ s.data.toList := by
  unfold mthB getB putB starB at h
  rw [toList_data] at h
  simp only [Bool.or_eq_true, beq_iff_eq] at h
  rcases h with (h | h) | h
  · rw [h]
    intro hm
    simp only [List.mem_cons, List.not_mem_nil, or_false] at hm
    rcases hm with rfl | rfl | rfl <;> revert hw <;> decide
  · rw [h]
    intro hm
    simp only [List.mem_cons, List.not_mem_nil, or_false] at hm
    rcases hm with rfl | rfl | rfl <;> revert hw <;> decide
  · rw [h, List.mem_singleton]
    exact h42

/-! A text parted at a byte that its first part has not. -/
theorem fI_parts {ch : UInt8} : ∀ (a b : List UInt8), ch ∉ a → (a ++ ch :: b).findIdx? (fun x => x == ch) = some a.length
  | [], b, _ => by rw [List.nil_append, List.findIdx?_cons]; simp
  | x :: a, b, h => by
    have hx : (x == ch) = false := by
      rw [beq_eq_false_iff_ne]
      rintro rfl
      exact h List.mem_cons_self
    rw [List.cons_append, List.findIdx?_cons, hx, fI_parts a b (fun hm => h (List.mem_cons_of_mem _ hm))]
    simp
theorem bytes_of (s : ByteArray) : s = ⟨s.data.toList.toArray⟩ := by
  apply ByteArray.ext
  simp
theorem ext_front (a b : List UInt8) : (⟨(a ++ b).toArray⟩ : ByteArray).extract 0 a.length = ⟨a.toArray⟩ := by
  apply bytes_eq
  rw [ByteArray.data_extract, Array.toList_extract, List.extract_eq_take_drop]
  simp
theorem ext_back (a b : List UInt8) (ch : UInt8) : (⟨(a ++ ch :: b).toArray⟩ : ByteArray).extract (a.length + 1) (⟨(a ++ ch :: b).toArray⟩ : ByteArray).size = ⟨b.toArray⟩ := by
  apply bytes_eq
  rw [ByteArray.data_extract, Array.toList_extract, List.extract_eq_take_drop]
  have h1 : (⟨(a ++ ch :: b).toArray⟩ : ByteArray).size = a.length + 1 + b.length := by
    show (a ++ ch :: b).toArray.size = _
    simp
    omega
  rw [h1, List.take_of_length_le (by simp)]
  show (a ++ ch :: b).drop (a.length + 1) = b
  rw [← List.drop_drop, List.drop_left]
  rfl
theorem split_parts {ch : UInt8} (a b : List UInt8) (h : ch ∉ a) : split ⟨(a ++ ch :: b).toArray⟩ ch = ⟨a.toArray⟩ :: split ⟨b.toArray⟩ ch := by
  have hf : fI ⟨(a ++ ch :: b).toArray⟩ ch = some a.length := fI_parts a b h
  rw [split_some hf, ext_front, ext_back]
theorem split_one {ch : UInt8} (a : List UInt8) (h : ch ∉ a) : split ⟨a.toArray⟩ ch = [⟨a.toArray⟩] := by
  refine split_none ?_
  unfold fI
  rw [List.findIdx?_eq_none_iff]
  intro x hx
  rw [beq_eq_false_iff_ne]
  rintro rfl
  exact h (by simpa using hx)

/-! A good rule comes back from its text. -/
theorem text_split {r : Ru} (hr : r.good = true) : split r.text 32 = [if r.deny = true then ⟨#[100, 101, 110, 121]⟩ else ⟨#[97, 108, 108, 111, 119]⟩, r.who, r.method, r.path] := by
  unfold Ru.good at hr
  simp only [Bool.and_eq_true] at hr
  rw [bytes_of r.text, text_list, split_parts _ _ (by cases r.deny <;> decide), split_parts _ _ (no_name (by decide) (by decide) (by decide) hr.1.1), split_parts _ _ (no_method (by decide) (by decide) hr.2), split_one _ (no_path (by decide) (by decide) (by decide) hr.1.2)]
  rw [← bytes_of r.who, ← bytes_of r.method, ← bytes_of r.path]
  cases r.deny <;> rfl
theorem text_back {r : Ru} (hr : r.good = true) : ruOf r.text = r ∧ ruOk r.text = true := by
  obtain ⟨h1, h2⟩ := ru_four (text_split hr)
  rw [h1, h2]
  obtain ⟨d, a, b, c⟩ := r
  cases d
  · have e1 : alB ⟨#[97, 108, 108, 111, 119]⟩ = true := by unfold alB; rw [toList_data]; rfl
    have e2 : dnB ⟨#[97, 108, 108, 111, 119]⟩ = false := by unfold dnB; rw [toList_data]; rfl
    simp only [Bool.false_eq_true, if_false, e1, e2, Bool.true_or, Bool.true_and]
    exact ⟨trivial, hr⟩
  · have e2 : dnB ⟨#[100, 101, 110, 121]⟩ = true := by unfold dnB; rw [toList_data]; rfl
    simp only [if_true, e2, Bool.or_true, Bool.true_and]
    exact ⟨trivial, hr⟩
theorem text_line {r : Ru} (hr : r.good = true) : (10 : UInt8) ∉ r.text.data.toList := by
  unfold Ru.good at hr
  simp only [Bool.and_eq_true] at hr
  rw [text_list]
  have h0 : (10 : UInt8) ∉ (if r.deny = true then [100, 101, 110, 121] else [97, 108, 108, 111, 119] : List UInt8) := by cases r.deny <;> decide
  have h1 := no_name (ch := 10) (by decide) (by decide) (by decide) hr.1.1
  have h2 := no_method (ch := 10) (by decide) (by decide) hr.2
  have h3 := no_path (ch := 10) (by decide) (by decide) (by decide) hr.1.2
  simp only [List.mem_append, List.mem_cons, not_or]
  exact ⟨h0, by decide, h1, by decide, h2, by decide, h3⟩
def flatT (rs : List Ru) : List UInt8 := rs.flatMap (fun r => r.text.data.toList ++ [10])
theorem rdL_flat : ∀ (rs : List Ru) (i : Nat) (acc : List Ru), (∀ r ∈ rs, r.good = true) → acc.length + rs.length ≤ 30 → rdL (split ⟨(flatT rs).toArray⟩ 10) i acc = (acc ++ rs, 0, 0)
  | [], i, acc, _, _ => by
    rw [rd_end (s := ⟨(flatT []).toArray⟩) (by rw [toList_data]; rfl), List.append_nil]
  | r :: rs, i, acc, hg, hl => by
    have hr := hg r List.mem_cons_self
    have e : flatT (r :: rs) = r.text.data.toList ++ 10 :: flatT rs := by
      unfold flatT
      rw [List.flatMap_cons, List.append_assoc]
      rfl
    have hf : fI ⟨(flatT (r :: rs)).toArray⟩ 10 = some r.text.data.toList.length := by
      rw [e]
      exact fI_parts _ _ (text_line hr)
    rw [rd_cut hf, e, ext_front, ext_back, ← bytes_of r.text, (text_back hr).1, (text_back hr).2, if_neg (by decide), if_neg (by rw [List.length_cons] at hl; omega)]
    rw [rdL_flat rs (i + 1) (acc ++ [r]) (fun x hx => hg x (List.mem_cons_of_mem _ hx)) (by rw [List.length_append, List.length_cons] at *; simp; omega)]
    rw [List.append_assoc]
    rfl

/-! A plain policy is a policy, and plain again. -/
theorem insU_last {r : Ru} : ∀ l : List Ru, (∀ x ∈ l, ltR x r = true) → insU r l = l ++ [r]
  | [], _ => rfl
  | x :: l, h => by
    unfold insU
    rw [if_pos (h x List.mem_cons_self), insU_last l (fun y hy => h y (List.mem_cons_of_mem _ hy))]
    rfl
theorem plTo_self {rs : List Ru} (h : SS rs) : ∀ k, k ≤ rs.length → plTo rs k = rs.take k
  | 0, _ => by simp [plTo]
  | k + 1, hk => by
    rw [plTo_succ (by omega), plTo_self h k (by omega), insU_last _ (fun x hx => ?_), List.take_succ_eq_append_getElem (by omega)]
    rw [List.mem_take_iff_getElem] at hx
    obtain ⟨i, hi, rfl⟩ := hx
    exact List.pairwise_iff_getElem.1 h i k (by omega) (by omega) (by omega)
theorem insU_len (r : Ru) : ∀ l : List Ru, (insU r l).length ≤ l.length + 1
  | [] => by simp [insU]
  | x :: l => by
    have ih := insU_len r l
    unfold insU
    split
    · simp only [List.length_cons]
      omega
    · split
      · simp
      · simp
theorem plTo_len (rs : List Ru) : ∀ k, k ≤ rs.length → (plTo rs k).length ≤ k
  | 0, _ => by simp [plTo]
  | k + 1, hk => by
    rw [plTo_succ (by omega)]
    have h1 := insU_len rs[k] (plTo rs k)
    have h2 := plTo_len rs k (by omega)
    omega

end Go.Proofs.YtnblnhlfifhkkaaGreat
