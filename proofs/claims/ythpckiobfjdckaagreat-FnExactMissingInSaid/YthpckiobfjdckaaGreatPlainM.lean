/-
  Rules in the order of their texts: what the plain policy holds, without the model.
-/
import Derived.Test.YthpckiobfjdckaaGreatCutM
import Derived.Test.YthpckiobfjdckaaGreatRuleE
namespace Go.Proofs.YthpckiobfjdckaaGreat

/-! The order of bytes. -/
theorem bl_cmp : ∀ a b : List UInt8, decide (Lib.compareBytes a b < 0) = Op.bytesLess a b
  | [], [] => rfl
  | [], _ :: _ => rfl
  | _ :: _, [] => rfl
  | x :: a, y :: b => by
    have ih := bl_cmp a b
    unfold Lib.compareBytes Op.bytesLess
    by_cases h1 : x < y
    · simp [h1]
    · by_cases h2 : y < x
      · have h3 : (x == y) = false := by
          rw [beq_eq_false_iff_ne]
          intro e
          subst e
          exact h1 h2
        simp [h1, h2, h3]
      · have h3 : x = y := UInt8.le_antisymm (UInt8.not_lt.1 h2) (UInt8.not_lt.1 h1)
        subst h3
        simp only [h1, if_false, ih]
        simp
theorem bl_irrefl : ∀ a : List UInt8, Op.bytesLess a a = false
  | [] => rfl
  | x :: a => by
    unfold Op.bytesLess
    simp [bl_irrefl a]
theorem bl_trans : ∀ a b c : List UInt8, Op.bytesLess a b = true → Op.bytesLess b c = true → Op.bytesLess a c = true
  | _, _, [], _, h2 => by simp [Op.bytesLess] at h2
  | _, [], _ :: _, h1, _ => by simp [Op.bytesLess] at h1
  | [], _ :: _, _ :: _, _, _ => rfl
  | x :: a, y :: b, z :: c, h1, h2 => by
    unfold Op.bytesLess at h1 h2 ⊢
    simp only [Bool.or_eq_true, decide_eq_true_eq, Bool.and_eq_true, beq_iff_eq] at h1 h2 ⊢
    rcases h1 with h1 | ⟨rfl, h1⟩
    · rcases h2 with h2 | ⟨rfl, h2⟩
      · exact .inl (UInt8.lt_trans h1 h2)
      · exact .inl h1
    · rcases h2 with h2 | ⟨rfl, h2⟩
      · exact .inl h2
      · exact .inr ⟨rfl, bl_trans a b c h1 h2⟩
theorem bl_total : ∀ a b : List UInt8, Op.bytesLess a b = false → Op.bytesLess b a = false → a = b
  | [], [], _, _ => rfl
  | [], _ :: _, h, _ => by simp [Op.bytesLess] at h
  | _ :: _, [], _, h => by simp [Op.bytesLess] at h
  | x :: a, y :: b, h1, h2 => by
    unfold Op.bytesLess at h1 h2
    simp only [Bool.or_eq_false_iff, decide_eq_false_iff_not, Bool.and_eq_false_iff, beq_eq_false_iff_ne] at h1 h2
    have e : x = y := UInt8.le_antisymm (UInt8.not_lt.1 h2.1) (UInt8.not_lt.1 h1.1)
    subst e
    have h3 : Op.bytesLess a b = false := by
      rcases h1.2 with h | h
      · exact absurd rfl h
      · exact h
    have h4 : Op.bytesLess b a = false := by
      rcases h2.2 with h | h
      · exact absurd rfl h
      · exact h
    rw [bl_total a b h3 h4]
theorem bl_asym {a b : List UInt8} (h : Op.bytesLess a b = true) : Op.bytesLess b a = false := by
  cases h2 : Op.bytesLess b a
  · rfl
  · have := bl_trans a b a h h2
    rw [bl_irrefl] at this
    cases this
theorem bl_ntrans {a b c : List UInt8} (h1 : Op.bytesLess a b = false) (h2 : Op.bytesLess b c = false) : Op.bytesLess a c = false := by
  cases h3 : Op.bytesLess a c
  · rfl
  · cases h4 : Op.bytesLess b a
    · have e := bl_total a b h1 h4
      subst e
      rw [h2] at h3
      cases h3
    · have := bl_trans b a c h4 h3
      rw [h2] at this
      cases this
/-- a ≤ b < c. -/
theorem bl_le_lt {a b c : List UInt8} (h1 : Op.bytesLess b a = false) (h2 : Op.bytesLess b c = true) : Op.bytesLess a c = true := by
  cases h3 : Op.bytesLess a c
  · have := bl_ntrans h1 h3
    rw [h2] at this
    cases this
  · rfl

/-! No blank in the parts of a good rule; texts tell good rules apart. -/
def nosp (s : ByteArray) : Prop := (32 : UInt8) ∉ s.data.toList
theorem nosp_ws {x : ByteArray} (h : wsB x = true) : nosp x := by
  unfold nosp
  unfold wsB at h
  rw [Bool.or_eq_true] at h
  rcases h with h | h
  · have h1 : x.data.toList = [42] := by simpa [starB, toList_data] using h
    rw [h1]
    decide
  · unfold wordB wordTo at h
    rw [Bool.and_eq_true] at h
    intro hm
    have h2 := h.1
    rw [List.take_of_length_le (by simp)] at h2
    have := List.all_eq_true.1 h2 32 hm
    revert this
    decide
theorem nosp_star2 {x : ByteArray} (h : star2B x = true) : nosp x := by
  have h1 : x.data.toList = [42, 42] := by simpa [star2B, toList_data] using h
  unfold nosp
  rw [h1]
  decide
theorem nosp_split : ∀ (n : Nat) (s : ByteArray), s.size ≤ n → (∀ x ∈ split s 47, nosp x) → nosp s := by
  intro n
  induction n with
  | zero =>
    intro s hs h
    have : s.data.toList = [] := List.eq_nil_of_length_eq_zero (by rw [show s.data.toList.length = s.size by simp]; omega)
    unfold nosp
    rw [this]
    exact List.not_mem_nil
  | succ n ih =>
    intro s hs h
    cases hf : fI s 47 with
    | none =>
      rw [split_none hf] at h
      exact h s (by simp)
    | some i =>
      rw [split_some hf] at h
      have hlt := fI_lt hf
      have h1 := h _ (List.mem_cons_self)
      have h2 := ih (s.extract (i + 1) s.size) (by rw [ByteArray.size_extract]; omega) (fun x hx => h x (List.mem_cons_of_mem _ hx))
      unfold nosp at *
      rw [data_parts s i hlt, fI_at hf, List.mem_append, List.mem_cons]
      rintro (h3 | h3 | h3)
      · exact h1 h3
      · revert h3
        decide
      · exact h2 h3
theorem nosp_pt : ∀ l : List ByteArray, ptOk l = true → ∀ x ∈ l, nosp x
  | [], _, x, hx => by cases hx
  | y :: r, h, x, hx => by
    unfold ptOk at h
    split at h
    · rename_i h2
      have hr : r = [] := by simpa using h
      subst hr
      rw [List.mem_singleton] at hx
      subst hx
      exact nosp_star2 h2
    · rw [Bool.and_eq_true] at h
      rw [List.mem_cons] at hx
      rcases hx with rfl | hx
      · exact nosp_ws h.1
      · exact nosp_pt r h.2 x hx
theorem nosp_path {s : ByteArray} (h : ptBs s = true) : nosp s := by
  cases h0 : slashB s
  · cases h1 : headB s
    · have hp : pathPs s = none := by
        unfold pathPs
        rw [h0, h1]
        rfl
      unfold ptBs at h
      rw [hp] at h
      cases h
    · unfold ptBs at h
      rw [pathPs_head h0 h1] at h
      simp only [ptB_eq, Bool.and_eq_true] at h
      have h2 := nosp_split _ (s.extract 1 s.size) (Nat.le_refl _) (nosp_pt _ h.1)
      have hs : 0 < s.size := by
        rcases Nat.eq_zero_or_pos s.size with hz | hz
        · have : s.data.toList = [] := List.eq_nil_of_length_eq_zero (by rw [show s.data.toList.length = s.size by simp]; omega)
          unfold headB at h1
          rw [this] at h1
          cases h1
        · exact hz
      have hd := data_parts s 0 hs
      have h4 : (s.extract 0 0).data.toList = [] := by
        rw [ByteArray.data_extract, Array.toList_extract, List.extract_eq_take_drop]
        simp
      rw [h4, List.nil_append] at hd
      unfold headB at h1
      rw [hd] at h1
      have h5 : s[0] = 47 := by simpa using h1
      unfold nosp at *
      rw [hd, h5, List.mem_cons]
      rintro (h6 | h6)
      · revert h6
        decide
      · exact h2 h6
  · have h1 : s.data.toList = [47] := by simpa [slashB, toList_data] using h0
    unfold nosp
    rw [h1]
    decide
theorem nosp_name {s : ByteArray} (h : nmB (split s 47) = true) : nosp s := by
  rw [nmB_eq, Bool.and_eq_true, List.all_eq_true] at h
  exact nosp_split _ s (Nat.le_refl _) (fun x hx => nosp_ws (h.2 x hx))
theorem nosp_method {s : ByteArray} (h : (mthB s || starB s) = true) : nosp s := by
  unfold mthB getB putB starB at h
  rw [toList_data] at h
  simp only [Bool.or_eq_true, beq_iff_eq] at h
  unfold nosp
  rcases h with (h | h) | h
  all_goals rw [h]; decide
theorem cut_blank : ∀ a a' b b' : List UInt8, (32 : UInt8) ∉ a → (32 : UInt8) ∉ a' → a ++ 32 :: b = a' ++ 32 :: b' → a = a' ∧ b = b'
  | [], [], b, b', _, _, h => by simpa using h
  | [], y :: a', b, b', _, h2, h => by
    simp only [List.nil_append, List.cons_append, List.cons.injEq] at h
    exact absurd (by rw [h.1]; exact List.mem_cons_self) h2
  | x :: a, [], b, b', h1, _, h => by
    simp only [List.nil_append, List.cons_append, List.cons.injEq] at h
    exact absurd (by rw [h.1]; exact List.mem_cons_self) h1
  | x :: a, y :: a', b, b', h1, h2, h => by
    simp only [List.cons_append, List.cons.injEq] at h
    obtain ⟨e1, e2⟩ := cut_blank a a' b b' (fun hm => h1 (List.mem_cons_of_mem _ hm)) (fun hm => h2 (List.mem_cons_of_mem _ hm)) h.2
    exact ⟨by rw [h.1, e1], e2⟩
theorem text_list (r : Ru) : r.text.data.toList = (if r.deny = true then [100, 101, 110, 121] else [97, 108, 108, 111, 119]) ++ 32 :: (r.who.data.toList ++ 32 :: (r.method.data.toList ++ 32 :: r.path.data.toList)) := by
  unfold Ru.text
  cases r.deny <;> simp [ByteArray.data_append]
theorem bytes_eq {a b : ByteArray} (h : a.data.toList = b.data.toList) : a = b := by
  apply ByteArray.ext
  exact Array.toList_inj.1 h
theorem text_inj {r s : Ru} (hr : r.good = true) (hs : s.good = true) (h : r.text.data.toList = s.text.data.toList) : r = s := by
  unfold Ru.good at hr hs
  simp only [Bool.and_eq_true] at hr hs
  rw [text_list, text_list] at h
  obtain ⟨h1, h2⟩ := cut_blank _ _ _ _ (by cases r.deny <;> decide) (by cases s.deny <;> decide) h
  obtain ⟨h3, h4⟩ := cut_blank _ _ _ _ (nosp_name hr.1.1) (nosp_name hs.1.1) h2
  obtain ⟨h5, h6⟩ := cut_blank _ _ _ _ (nosp_method hr.2) (nosp_method hs.2) h4
  have hd : r.deny = s.deny := by
    cases h7 : r.deny <;> cases h8 : s.deny <;> first | rfl | (rw [h7, h8] at h1; simp at h1)
  obtain ⟨d, a, b, c⟩ := r
  obtain ⟨d', a', b', c'⟩ := s
  simp only at h3 h5 h6 hd
  rw [bytes_eq h3, bytes_eq h5, bytes_eq h6, hd]


/-! Lists in the order of texts. -/
def ltR (x y : Ru) : Bool := Op.bytesLess x.text.data.toList y.text.data.toList
def SS (l : List Ru) : Prop := l.Pairwise (fun x y => ltR x y = true)
theorem same_eq {x y : Ru} (h : x.same y = true) : x = y := by
  unfold Ru.same eqB at h
  simp only [Bool.and_eq_true, beq_iff_eq, toList_data] at h
  obtain ⟨d, a, b, c⟩ := x
  obtain ⟨d', a', b', c'⟩ := y
  simp only at h
  rw [h.1.1.1, bytes_eq h.1.1.2, bytes_eq h.1.2, bytes_eq h.2]
theorem ss_unique : ∀ l l' : List Ru, SS l → SS l' → (∀ y, y ∈ l ↔ y ∈ l') → l = l'
  | [], [], _, _, _ => rfl
  | [], y :: _, _, _, h => by have := (h y).2 List.mem_cons_self; cases this
  | x :: _, [], _, _, h => by have := (h x).1 List.mem_cons_self; cases this
  | x :: xs, y :: ys, h1, h2, h => by
    unfold SS at h1 h2
    rw [List.pairwise_cons] at h1 h2
    have hxy : x = y := by
      have a1 := (h x).1 List.mem_cons_self
      have a2 := (h y).2 List.mem_cons_self
      rw [List.mem_cons] at a1 a2
      rcases a1 with a1 | a1
      · exact a1
      · rcases a2 with a2 | a2
        · exact a2.symm
        · have b1 := h2.1 x a1
          have b2 := h1.1 y a2
          unfold ltR at b1 b2
          rw [bl_asym b2] at b1
          cases b1
    subst hxy
    have ht : ∀ z, z ∈ xs ↔ z ∈ ys := fun z => by
      constructor
      · intro hz
        have := (h z).1 (List.mem_cons_of_mem _ hz)
        rw [List.mem_cons] at this
        rcases this with rfl | this
        · have := h1.1 z hz
          unfold ltR at this
          rw [bl_irrefl] at this
          cases this
        · exact this
      · intro hz
        have := (h z).2 (List.mem_cons_of_mem _ hz)
        rw [List.mem_cons] at this
        rcases this with rfl | this
        · have := h2.1 z hz
          unfold ltR at this
          rw [bl_irrefl] at this
          cases this
        · exact this
    rw [ss_unique xs ys h1.2 h2.2 ht]
/-- A rule laid in where it belongs, once. -/
def insU (r : Ru) : List Ru → List Ru
  | [] => [r]
  | x :: xs => if ltR x r = true then x :: insU r xs else if x.same r = true then x :: xs else r :: x :: xs
theorem insU_mem (r : Ru) : ∀ (l : List Ru) (y : Ru), y ∈ insU r l ↔ y = r ∨ y ∈ l
  | [], y => by simp [insU]
  | x :: xs, y => by
    unfold insU
    split
    · rw [List.mem_cons, insU_mem r xs y, List.mem_cons]
      constructor
      · rintro (h | h | h)
        · exact .inr (.inl h)
        · exact .inl h
        · exact .inr (.inr h)
      · rintro (h | h | h)
        · exact .inr (.inl h)
        · exact .inl h
        · exact .inr (.inr h)
    · split
      · rename_i h2
        have := same_eq h2
        subst this
        simp
      · simp
theorem insU_ss {r : Ru} (hr : r.good = true) : ∀ l : List Ru, (∀ x ∈ l, x.good = true) → SS l → SS (insU r l)
  | [], _, _ => by simp [insU, SS]
  | x :: xs, hg, h => by
    unfold SS at h
    rw [List.pairwise_cons] at h
    unfold insU
    split
    · rename_i h1
      unfold SS
      rw [List.pairwise_cons]
      refine ⟨fun y hy => ?_, insU_ss hr xs (fun z hz => hg z (List.mem_cons_of_mem _ hz)) h.2⟩
      rw [insU_mem] at hy
      rcases hy with rfl | hy
      · exact h1
      · exact h.1 y hy
    · rename_i h1
      split
      · unfold SS
        rw [List.pairwise_cons]
        exact h
      · rename_i h2
        have hrx : ltR r x = true := by
          cases h3 : ltR r x
          · unfold ltR at h1 h3
            have h4 : Op.bytesLess x.text.data.toList r.text.data.toList = false := by simpa using h1
            have := text_inj (hg x List.mem_cons_self) hr (bl_total _ _ h4 h3)
            subst this
            exact absurd (Ru.same_refl x) h2
          · rfl
        unfold SS
        rw [List.pairwise_cons, List.pairwise_cons]
        refine ⟨fun y hy => ?_, h⟩
        rw [List.mem_cons] at hy
        rcases hy with rfl | hy
        · exact hrx
        · exact bl_trans _ _ _ hrx (h.1 y hy)
def plTo (rs : List Ru) (k : Nat) : List Ru := (rs.take k).foldl (fun o r => insU r o) []
theorem plTo_succ {rs : List Ru} {k : Nat} (h : k < rs.length) : plTo rs (k + 1) = insU rs[k] (plTo rs k) := by
  unfold plTo
  rw [List.take_succ_eq_append_getElem h, List.foldl_append]
  rfl
theorem plTo_mem {rs : List Ru} : ∀ k, k ≤ rs.length → ∀ y, y ∈ plTo rs k ↔ y ∈ rs.take k
  | 0, _, y => by simp [plTo]
  | k + 1, hk, y => by
    rw [plTo_succ (by omega), insU_mem, plTo_mem k (by omega) y, List.take_succ_eq_append_getElem (by omega), List.mem_append, List.mem_singleton]
    exact Or.comm
theorem plTo_ss {rs : List Ru} (hg : ∀ r ∈ rs, r.good = true) : ∀ k, k ≤ rs.length → SS (plTo rs k)
  | 0, _ => by simp [plTo, SS]
  | k + 1, hk => by
    rw [plTo_succ (by omega)]
    exact insU_ss (hg _ (List.getElem_mem _)) _ (fun x hx => hg x (List.mem_of_mem_take ((plTo_mem k (by omega) x).1 hx))) (plTo_ss hg k (by omega))
/-- What stays of a list when of neighbours alike the first stays. -/
def kpB (rs : List Ru) (i : Nat) : Bool := match i, rs[i]?, rs[i - 1]? with
  | 0, _, _ => true
  | _ + 1, some x, some y => !(x.same y)
  | _ + 1, _, _ => true
def cpTo (rs : List Ru) : Nat → List Ru
  | 0 => []
  | m + 1 => if kpB rs m = true then cpTo rs m ++ rs[m]?.toList else cpTo rs m
theorem kpB_succ {rs : List Ru} {i : Nat} (h : i + 1 < rs.length) : kpB rs (i + 1) = !(rs[i + 1].same rs[i]) := by
  unfold kpB
  simp only [Nat.add_sub_cancel]
  rw [List.getElem?_eq_getElem h, List.getElem?_eq_getElem (by omega)]
theorem cpTo_yes {rs : List Ru} {m : Nat} (h : m < rs.length) (hk : kpB rs m = true) : cpTo rs (m + 1) = cpTo rs m ++ [rs[m]] := by
  rw [cpTo, if_pos hk, List.getElem?_eq_getElem h]
  rfl
theorem cpTo_no {rs : List Ru} {m : Nat} (hk : kpB rs m = false) : cpTo rs (m + 1) = cpTo rs m := by
  rw [cpTo, if_neg (by rw [hk]; exact Bool.false_ne_true)]
theorem cpTo_len (rs : List Ru) : ∀ m, (cpTo rs m).length ≤ m
  | 0 => Nat.le_refl _
  | m + 1 => by
    have ih := cpTo_len rs m
    rw [cpTo]
    split
    · rw [List.length_append]
      cases rs[m]? <;> simp <;> omega
    · omega
theorem cpTo_all {rs : List Ru} : ∀ m, m ≤ rs.length → (∀ i, i < m → kpB rs i = true) → cpTo rs m = rs.take m
  | 0, _, _ => by simp [cpTo]
  | m + 1, hm, h => by
    rw [cpTo_yes (by omega) (h m (by omega)), cpTo_all m (by omega) (fun i hi => h i (by omega)), List.take_succ_eq_append_getElem (by omega)]
theorem cpTo_ss {ds : List Ru} (hg : ∀ r ∈ ds, r.good = true) (hs : ∀ i j (hi : i < j) (hj : j < ds.length), ltR ds[j] ds[i] = false) : ∀ m, m ≤ ds.length → SS (cpTo ds m) ∧ ∀ y, y ∈ cpTo ds m ↔ y ∈ ds.take m
  | 0, _ => by simp [cpTo, SS]
  | m + 1, hm => by
    obtain ⟨h1, h2⟩ := cpTo_ss hg hs m (by omega)
    cases hk : kpB ds m
    · rw [cpTo_no hk]
      refine ⟨h1, fun y => ?_⟩
      rw [h2, List.take_succ_eq_append_getElem (by omega), List.mem_append, List.mem_singleton]
      constructor
      · exact .inl
      · rintro (h | rfl)
        · exact h
        · cases m with
          | zero => simp [kpB] at hk
          | succ i =>
            rw [kpB_succ (by omega)] at hk
            have := same_eq (by simpa using hk)
            rw [this, List.mem_take_iff_getElem]
            exact ⟨i, by omega, rfl⟩
    · rw [cpTo_yes (by omega) hk]
      refine ⟨?_, fun y => by rw [List.mem_append, h2, List.take_succ_eq_append_getElem (by omega), List.mem_append]⟩
      unfold SS at *
      rw [List.pairwise_append]
      refine ⟨h1, by simp, fun x hx y hy => ?_⟩
      rw [List.mem_singleton] at hy
      subst hy
      have hx' := (h2 x).1 hx
      rw [List.mem_take_iff_getElem] at hx'
      obtain ⟨i, hi, rfl⟩ := hx'
      cases m with
      | zero => omega
      | succ p =>
        rw [kpB_succ (by omega)] at hk
        have hlt : ltR ds[p] ds[p + 1] = true := by
          cases h3 : ltR ds[p] ds[p + 1]
          · have h4 := hs p (p + 1) (by omega) (by omega)
            unfold ltR at h3 h4
            have := text_inj (hg _ (List.getElem_mem _)) (hg _ (List.getElem_mem _)) (bl_total _ _ h3 h4)
            rw [this, Ru.same_refl] at hk
            cases hk
          · rfl
        by_cases hip : i = p
        · subst hip
          exact hlt
        · exact bl_le_lt (hs i p (by omega) (by omega)) hlt
/-- A sorted copy, neighbours alike taken away, is what the specification lays. -/
theorem plain_eq {rs ds : List Ru} (hg : ∀ r ∈ rs, r.good = true) (hp : ds.Perm rs) (hs : ∀ i j (hi : i < j) (hj : j < ds.length), ltR ds[j] ds[i] = false) : cpTo ds ds.length = plTo rs rs.length := by
  have h1 := cpTo_ss (fun r hr => hg r (hp.mem_iff.1 hr)) hs ds.length (Nat.le_refl _)
  refine ss_unique _ _ h1.1 (plTo_ss hg _ (Nat.le_refl _)) (fun y => ?_)
  rw [h1.2, plTo_mem _ (Nat.le_refl _), List.take_length, List.take_length, hp.mem_iff]

end Go.Proofs.YthpckiobfjdckaaGreat
