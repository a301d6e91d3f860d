/-
  What is decided by the index, by the plain policy, and without a rule that never counts: without the model.
-/
import Derived.Test.YtnblnhlfifhkkaaGreatPlxM
import Derived.Test.YtnblnhlfifhkkaaGreatDeci3
import Derived.Test.YtnblnhlfifhkkaaGreatCovP
import Derived.Test.YtnblnhlfifhkkaaGreatCovT
import Derived.Test.YtnblnhlfifhkkaaGreatNever
namespace Go.Proofs.YtnblnhlfifhkkaaGreat

theorem find_sift {α : Type} {p q : α → Bool} : ∀ l : List α, (∀ x ∈ l, q x = true → p x = true) → (l.filter p).find? q = l.find? q
  | [], _ => rfl
  | x :: l, h => by
    have ih := find_sift l (fun y hy => h y (List.mem_cons_of_mem _ hy))
    cases hq : q x
    · rw [List.find?_cons, hq, List.filter_cons]
      split
      · rw [List.find?_cons, hq]
        exact ih
      · exact ih
    · rw [List.filter_cons, if_pos (h x List.mem_cons_self hq), List.find?_cons, hq, List.find?_cons, hq]
theorem rule_path {r : Ru} (h : r.good = true) : ptOk (wL r.path) = true ∧ (wL r.path).length ≤ 6 := by
  unfold Ru.good at h
  simp only [Bool.and_eq_true] at h
  exact (pt_wL h.1.2).2
theorem call_path {c : Ca} (h : c.good = true) : (wL c.path).all wordB = true := by
  unfold Ca.good gpB at h
  simp only [Bool.and_eq_true] at h
  rw [← (pt_wL h.1.2.1).1]
  exact h.1.2.2
theorem spk_parts {r : Ru} {c : Ca} (hr : r.good = true) (hc : c.good = true) (h : spkB r c = true) : mnB (split r.who 47) (split c.who 47) = true ∧ cvB (wL r.path) (wL c.path) = true ∧ stB r.method c.method = true := by
  unfold spkB at h
  simp only [Bool.and_eq_true] at h
  exact ⟨h.1.1, by rw [← lm_cv _ _ (rule_path hr).1 (call_path hc)]; exact h.1.2, h.2⟩
theorem spk_idx {r : Ru} {c : Ca} (hr : r.good = true) (hc : c.good = true) (h : spkB r c = true) : idxF (fstB r.path) (fstB c.path) = true := by
  have hv := (spk_parts hr hc h).2.1
  have hw := call_path hc
  unfold fstB idxF
  cases hp : wL r.path with
  | nil =>
    rw [hp] at hv
    cases hq : wL c.path with
    | nil => simp [eqB]
    | cons y ys =>
      rw [hq] at hv
      cases hv
  | cons x xs =>
    rw [hp] at hv
    cases hq : wL c.path with
    | nil =>
      rw [hq] at hv
      have : star2B x = true := hv
      simp [this]
    | cons y ys =>
      rw [hq] at hv hw
      rw [cvB, Bool.or_eq_true, Bool.and_eq_true] at hv
      rcases hv with hv | ⟨hv, _⟩
      · simp [hv]
      · rcases cw_split hv with hv | ⟨hv, _⟩
        · simp [hv]
        · have hy : wordB y = true := by
            rw [List.all_cons, Bool.and_eq_true] at hw
            exact hw.1
          have hne : y.toList.isEmpty = false := by
            unfold wordB at hy
            rw [Bool.and_eq_true] at hy
            have h1 := (of_decide_eq_true hy.2).1
            rw [toList_data]
            cases he : y.data.toList with
            | nil =>
              have : y.data.toList.length = y.size := by simp
              rw [he] at this
              simp at this
              omega
            | cons _ _ => rfl
          simp [hv, hne]
theorem idx_dec {rs : List Ru} {c : Ca} (h : polB rs = true) (hc : c.good = true) : decC rs c (idxTo rs (fstB c.path) rs.length) = decC rs c (List.range rs.length) ∧ decK rs c (idxTo rs (fstB c.path) rs.length) = decK rs c (List.range rs.length) := by
  obtain ⟨hg, _⟩ := pol_all h
  have hf : ∀ d, (idxTo rs (fstB c.path) rs.length).find? (hitAt rs c d) = (List.range rs.length).find? (hitAt rs c d) := fun d => by
    unfold idxTo
    refine find_sift _ (fun k hk hh => ?_)
    have hk' := List.mem_range.1 hk
    rw [hitAt_lt hk', Bool.and_eq_true] at hh
    rw [idxAt_lt hk']
    exact spk_idx (hg _ (List.getElem_mem hk')) hc hh.2
  unfold decC decK
  rw [hf true, hf false]
  exact ⟨rfl, rfl⟩

/-! The first answer hangs on which rules are there, not on their order. -/
def anyD (rs : List Ru) (c : Ca) (d : Bool) : Bool := rs.any (fun r => (r.deny == d) && spkB r c)
theorem anyD_iff {rs : List Ru} {c : Ca} {d : Bool} : anyD rs c d = true ↔ ∃ r ∈ rs, r.deny = d ∧ spkB r c = true := by
  unfold anyD
  rw [List.any_eq_true]
  simp only [Bool.and_eq_true, beq_iff_eq]
theorem find_yes {rs : List Ru} {c : Ca} {d : Bool} (h : anyD rs c d = true) : ∃ k, (List.range rs.length).find? (hitAt rs c d) = some k := by
  obtain ⟨r, hr, hd, hs⟩ := anyD_iff.1 h
  obtain ⟨k, hk, rfl⟩ := List.getElem_of_mem hr
  cases hf : (List.range rs.length).find? (hitAt rs c d) with
  | some k => exact ⟨k, rfl⟩
  | none =>
    have := List.find?_eq_none.1 hf k (List.mem_range.2 hk)
    rw [hitAt_lt hk, hd, hs] at this
    simp at this
theorem find_no {rs : List Ru} {c : Ca} {d : Bool} (h : anyD rs c d = false) : (List.range rs.length).find? (hitAt rs c d) = none := by
  rw [List.find?_eq_none]
  intro k hk
  have hk' := List.mem_range.1 hk
  rw [hitAt_lt hk']
  intro hh
  rw [Bool.and_eq_true, beq_iff_eq] at hh
  rw [anyD_iff.2 ⟨_, List.getElem_mem hk', hh.1, hh.2⟩] at h
  cases h
theorem decC_any (rs : List Ru) (c : Ca) : decC rs c (List.range rs.length) = if anyD rs c true = true then 2 else if anyD rs c false = true then 1 else 3 := by
  cases h1 : anyD rs c true
  · rw [if_neg Bool.false_ne_true]
    cases h2 : anyD rs c false
    · rw [if_neg Bool.false_ne_true]
      exact (dec_none (find_no h1) (find_no h2)).1.symm
    · rw [if_pos rfl]
      obtain ⟨k, hk⟩ := find_yes h2
      exact (dec_allow (find_no h1) hk).1.symm
  · rw [if_pos rfl]
    obtain ⟨k, hk⟩ := find_yes h1
    exact (dec_deny hk).1.symm
theorem anyD_mem {rs ss : List Ru} (h : ∀ r, r ∈ rs ↔ r ∈ ss) (c : Ca) (d : Bool) : anyD rs c d = anyD ss c d := by
  rw [Bool.eq_iff_iff, anyD_iff, anyD_iff]
  constructor
  · rintro ⟨r, hr, h1⟩
    exact ⟨r, (h r).1 hr, h1⟩
  · rintro ⟨r, hr, h1⟩
    exact ⟨r, (h r).2 hr, h1⟩
theorem plain_dec {rs : List Ru} (h : polB rs = true) (c : Ca) : decC (plX rs) c (List.range (plX rs).length) = decC rs c (List.range rs.length) := by
  rw [decC_any, decC_any, anyD_mem (plX_mem h) c true, anyD_mem (plX_mem h) c false]

/-! What another rule covers may go. -/
theorem st_trans {x y z : ByteArray} (h1 : stB x y = true) (h2 : stB y z = true) : stB x z = true := by
  unfold stB at *
  rw [Bool.or_eq_true] at *
  rcases h1 with h1 | h1
  · exact .inl h1
  · rcases h2 with h2 | h2
    · exact .inl ((star_of h1).trans h2)
    · exact .inr (eqB_iff.2 ((eqB_iff.1 h1).trans (eqB_iff.1 h2)))
theorem mn_trans {l m n : List ByteArray} (h1 : mnB l m = true) (h2 : mnB m n = true) : mnB l n = true := by
  unfold mnB at h1
  split at h1
  · rename_i x y u v
    unfold mnB at h2
    split at h2
    · rename_i u' v' p q he
      simp only [List.cons.injEq, and_true] at he
      obtain ⟨rfl, rfl⟩ := he
      unfold mnB
      rw [Bool.and_eq_true] at *
      exact ⟨st_trans h1.1 h2.1, st_trans h1.2 h2.2⟩
    · cases h2
  · cases h1
theorem spk_cov {o r : Ru} {c : Ca} (ho : o.good = true) (hr : r.good = true) (hc : c.good = true) (h : covB o r = true) (hs : spkB r c = true) : spkB o c = true ∧ (o.deny = true ∨ r.deny = false) := by
  obtain ⟨h1, h2, h3⟩ := spk_parts hr hc hs
  unfold covB at h
  simp only [Bool.and_eq_true] at h
  obtain ⟨⟨⟨g1, g2⟩, g3⟩, g4⟩ := h
  have g2' : cvB (wL o.path) (wL r.path) = true := by
    rw [← lc_cv _ 6 _ (rule_path ho).2 (rule_path hr).2 (rule_path ho).1 (rule_path hr).1]
    exact g2
  have hw := call_path hc
  have hn2 : ∀ p ∈ wL c.path, star2B p = false := fun p hp => by
    have h1 : wordB p = true := List.all_eq_true.1 hw p hp
    cases hs2 : star2B p with
    | false => rfl
    | true =>
      have h2 : p.data.toList = [42, 42] := by simpa [star2B, toList_data] using hs2
      have h3 : p = ⟨#[42, 42]⟩ := bytes_eq (by rw [h2])
      rw [h3] at h1
      revert h1
      decide
  refine ⟨?_, ?_⟩
  · unfold spkB
    simp only [Bool.and_eq_true]
    exact ⟨⟨mn_trans g1 h1, by rw [lm_cv _ _ (rule_path ho).1 hw]; exact cv_trans _ _ _ hn2 g2' h2⟩, st_trans g3 h3⟩
  · rw [Bool.or_eq_true, Bool.not_eq_true'] at g4
    exact g4
def rmv (rs : List Ru) (i : Nat) : List Ru := rs.take i ++ rs.drop (i + 1)
theorem rmv_mem {rs : List Ru} {i j : Nat} (hj : j < rs.length) (hne : j ≠ i) : rs[j] ∈ rmv rs i := by
  unfold rmv
  rw [List.mem_append]
  by_cases h : j < i
  · left
    rw [List.mem_take_iff_getElem]
    exact ⟨j, by omega, rfl⟩
  · right
    rw [List.mem_drop_iff_getElem]
    exact ⟨j - (i + 1), by omega, by congr 1; omega⟩
theorem rmv_sub {rs : List Ru} {i : Nat} {r : Ru} (h : r ∈ rmv rs i) : r ∈ rs := by
  unfold rmv at h
  rw [List.mem_append] at h
  rcases h with h | h
  · exact List.mem_of_mem_take h
  · exact List.mem_of_mem_drop h
theorem rmv_len {rs : List Ru} {i : Nat} (h : i < rs.length) : (rmv rs i).length = rs.length - 1 := by
  unfold rmv
  rw [List.length_append, List.length_take, List.length_drop]
  omega
theorem rmv_pol {rs : List Ru} {i : Nat} (hi : i < rs.length) (h : polB rs = true) : polB (rmv rs i) = true := by
  obtain ⟨hg, hn⟩ := pol_all h
  unfold polB
  rw [Bool.and_eq_true, List.all_eq_true]
  exact ⟨fun r hr => hg r (rmv_sub hr), decide_eq_true (by rw [rmv_len hi]; omega)⟩
theorem never_dec {rs : List Ru} {c : Ca} {i : Nat} (h : polB rs = true) (hc : c.good = true) (hi : i < rs.length) (hn : ncTo rs i rs.length = true) : decC (rmv rs i) c (List.range (rmv rs i).length) = decC rs c (List.range rs.length) := by
  obtain ⟨hg, _⟩ := pol_all h
  unfold ncTo at hn
  rw [List.any_eq_true] at hn
  obtain ⟨j, hj, hj2⟩ := hn
  have hjl := List.mem_range.1 hj
  rw [ncAt_lt hjl hi, Bool.and_eq_true, Bool.not_eq_true', Bool.or_eq_false_iff] at hj2
  obtain ⟨⟨hne, _⟩, hcov⟩ := hj2
  have hne : j ≠ i := of_decide_eq_false hne
  have hom := rmv_mem (i := i) hjl hne
  have hog := hg _ (List.getElem_mem hjl)
  have hrg := hg _ (List.getElem_mem hi)
  have part : ∀ d r, r ∈ rs → r.deny = d → spkB r c = true → (r ∈ rmv rs i) ∨ (r = rs[i]) := fun d r hr _ _ => by
    obtain ⟨k, hk, rfl⟩ := List.getElem_of_mem hr
    by_cases hki : k = i
    · subst hki
      exact .inr rfl
    · exact .inl (rmv_mem hk hki)
  have e1 : anyD (rmv rs i) c true = anyD rs c true := by
    rw [Bool.eq_iff_iff, anyD_iff, anyD_iff]
    constructor
    · rintro ⟨r, hr, h1⟩
      exact ⟨r, rmv_sub hr, h1⟩
    · rintro ⟨r, hr, hd, hs⟩
      rcases part true r hr hd hs with hm | rfl
      · exact ⟨r, hm, hd, hs⟩
      · obtain ⟨a1, a2⟩ := spk_cov hog hrg hc hcov hs
        rw [hd] at a2
        exact ⟨_, hom, by simpa using a2, a1⟩
  rw [decC_any, decC_any, e1]
  cases h1 : anyD rs c true
  · rw [if_neg Bool.false_ne_true, if_neg Bool.false_ne_true]
    have e2 : anyD (rmv rs i) c false = anyD rs c false := by
      rw [Bool.eq_iff_iff, anyD_iff, anyD_iff]
      constructor
      · rintro ⟨r, hr, h1⟩
        exact ⟨r, rmv_sub hr, h1⟩
      · rintro ⟨r, hr, hd, hs⟩
        rcases part false r hr hd hs with hm | rfl
        · exact ⟨r, hm, hd, hs⟩
        · obtain ⟨a1, _⟩ := spk_cov hog hrg hc hcov hs
          cases hod : rs[j].deny
          · exact ⟨_, hom, hod, a1⟩
          · rw [anyD_iff.2 ⟨_, List.getElem_mem hjl, hod, a1⟩] at h1
            cases h1
    rw [e2]
  · rfl

end Go.Proofs.YtnblnhlfifhkkaaGreat
