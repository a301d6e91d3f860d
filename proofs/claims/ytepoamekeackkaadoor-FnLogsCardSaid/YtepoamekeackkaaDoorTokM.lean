/-
  Tokens: good links, their texts, and how a token comes back from its text: without the model.
-/
import Derived.Lib.ItoaNum
import Derived.Lib.ItoaLen
import Derived.Lib.AtoiTie
import Derived.Test.YtepoamekeackkaaDoorSep
namespace Go.Proofs.YtepoamekeackkaaDoor

/-- A link. -/
structure Lk where
  who : ByteArray
  to : ByteArray
  se : Int
  fr : Int
  un : Int
def seB (n : Int) : Bool := decide (1 ≤ n ∧ n ≤ 100000)
def tmB (n : Int) : Bool := decide (0 ≤ n ∧ n ≤ 100000)
def nmOk (s : ByteArray) : Bool := gnB (split s 47)
def Lk.good (k : Lk) : Bool := nmOk k.who && (nmOk k.to && (seB k.se && (tmB k.fr && (tmB k.un && decide (k.fr ≤ k.un)))))
def Lk.size (k : Lk) : Nat := k.who.size + k.to.size
theorem Lk.good_iff (k : Lk) : k.good = true ↔ nmOk k.who = true ∧ nmOk k.to = true ∧ (1 ≤ k.se ∧ k.se ≤ 100000) ∧ (0 ≤ k.fr ∧ k.fr ≤ 100000) ∧ (0 ≤ k.un ∧ k.un ≤ 100000) ∧ k.fr ≤ k.un := by
  unfold Lk.good seB tmB
  simp only [Bool.and_eq_true, decide_eq_true_eq]

/-- The i-th link is good, and follows the one ahead. -/
def lkAt (ks : List Lk) (i : Nat) : Bool := match ks[i]? with
  | some k => k.good && (i == 0 || (match ks[i - 1]? with
    | some p => p.to.toList == k.who.toList
    | none => false))
  | none => false
def tkTo (ks : List Lk) (n : Nat) : Bool := (List.range n).all (lkAt ks)
def tkB (ks : List Lk) : Bool := tkTo ks ks.length && decide (1 ≤ ks.length ∧ ks.length ≤ 6)
theorem tkTo_zero (ks : List Lk) : tkTo ks 0 = true := rfl
theorem tkTo_succ (ks : List Lk) (n : Nat) : tkTo ks (n + 1) = (tkTo ks n && lkAt ks n) := by
  unfold tkTo
  rw [List.range_succ, List.all_append]
  simp
theorem lkAt_zero {ks : List Lk} (h : 0 < ks.length) : lkAt ks 0 = ks[0].good := by
  unfold lkAt
  rw [List.getElem?_eq_getElem h]
  simp
theorem lkAt_succ {ks : List Lk} {n : Nat} (h : n + 1 < ks.length) : lkAt ks (n + 1) = (ks[n + 1].good && (ks[n].to.toList == ks[n + 1].who.toList)) := by
  unfold lkAt
  rw [List.getElem?_eq_getElem h, Nat.add_sub_cancel, List.getElem?_eq_getElem (by omega : n < ks.length)]
  simp
theorem tk_bad {ks : List Lk} {n : Nat} (h : n < ks.length) (hb : lkAt ks n = false) : tkB ks = false := by
  have : tkTo ks ks.length = false := by
    unfold tkTo
    rw [List.all_eq_false]
    exact ⟨n, List.mem_range.2 h, by rw [hb]; exact Bool.false_ne_true⟩
  unfold tkB
  rw [this]
  rfl
theorem tk_len {ks : List Lk} (h : ¬ (1 ≤ ks.length ∧ ks.length ≤ 6)) : tkB ks = false := by
  unfold tkB
  rw [decide_eq_false h, Bool.and_false]
theorem tk_end {ks : List Lk} (h : tkTo ks ks.length = true) : tkB ks = decide (1 ≤ ks.length ∧ ks.length ≤ 6) := by
  unfold tkB
  rw [h, Bool.true_and]
theorem tkB_len {ks : List Lk} (h : tkB ks = true) : 1 ≤ ks.length ∧ ks.length ≤ 6 := by
  unfold tkB at h
  rw [Bool.and_eq_true, decide_eq_true_eq] at h
  exact h.2
theorem tkTo_good {ks : List Lk} {n : Nat} (h : tkTo ks n = true) (i : Nat) (hi : i < n) (hl : i < ks.length) : ks[i].good = true := by
  unfold tkTo at h
  have := List.all_eq_true.1 h i (List.mem_range.2 hi)
  cases i with
  | zero => rwa [lkAt_zero hl] at this
  | succ i =>
    rw [lkAt_succ hl, Bool.and_eq_true] at this
    exact this.1
theorem tkB_good {ks : List Lk} (h : tkB ks = true) (k : Lk) (hk : k ∈ ks) : k.good = true := by
  unfold tkB at h
  rw [Bool.and_eq_true] at h
  obtain ⟨i, hi, rfl⟩ := List.getElem_of_mem hk
  exact tkTo_good h.1 i hi hi

/-- A number's text. -/
def numT (n : Int) : ByteArray := ⟨(Lib.itoa n).toArray⟩
theorem dd_dig (u : Nat) : ∀ b ∈ Lib.decDigits u, 48 ≤ b.toNat ∧ b.toNat ≤ 57 := by
  induction u using Nat.strongRecOn with
  | _ u ih =>
    intro b hb
    have hd : ∀ d, d < 10 → (UInt8.ofNat (48 + d)).toNat = 48 + d := fun d hd => by
      rw [UInt8.toNat_ofNat']
      omega
    by_cases h : u < 10
    · rw [Lib.decDigits, dif_pos h, List.mem_singleton] at hb
      rw [hb, hd u h]
      omega
    · rw [Lib.decDigits, dif_neg h, List.mem_append, List.mem_singleton] at hb
      rcases hb with hb | hb
      · exact ih (u / 10) (by omega) b hb
      · rw [hb, hd _ (Nat.mod_lt _ (by decide))]
        omega
theorem itoa_pos {n : Int} (h : 0 ≤ n) : Lib.itoa n = Lib.decDigits n.toNat := by
  unfold Lib.itoa
  rw [if_neg (by omega)]
theorem no_num {ch : UInt8} (h : ¬ (48 ≤ ch.toNat ∧ ch.toNat ≤ 57)) {n : Int} (hn : 0 ≤ n) : ch ∉ Lib.itoa n := by
  rw [itoa_pos hn]
  exact fun hm => h (dd_dig _ _ hm)
theorem decFrom_snoc : ∀ (l : List UInt8) (acc : Nat) (b : UInt8), Lib.decFrom acc (l ++ [b]) = match Lib.decFrom acc l with
    | some n => (match Lib.digitVal b with
      | some d => some (n * 10 + d)
      | none => none)
    | none => none
  | [], acc, b => by
    simp only [List.nil_append, Lib.decFrom]
    cases Lib.digitVal b <;> rfl
  | x :: l, acc, b => by
    simp only [List.cons_append, Lib.decFrom]
    cases Lib.digitVal x with
    | none => rfl
    | some d => exact decFrom_snoc l _ b
theorem digit_of (d : Nat) (h : d < 10) : Lib.digitVal (UInt8.ofNat (48 + d)) = some d := by
  have : (UInt8.ofNat (48 + d)).toNat = 48 + d := by rw [UInt8.toNat_ofNat']; omega
  unfold Lib.digitVal
  rw [this, if_pos (by omega)]
  congr 1
  omega
theorem dec_back (u : Nat) : Lib.decFrom 0 (Lib.decDigits u) = some u := by
  induction u using Nat.strongRecOn with
  | _ u ih =>
    by_cases h : u < 10
    · rw [Lib.decDigits, dif_pos h]
      simp only [Lib.decFrom, digit_of u h]
      simp
    · rw [Lib.decDigits, dif_neg h, decFrom_snoc, ih (u / 10) (by omega), digit_of _ (Nat.mod_lt _ (by decide))]
      simp only
      congr 1
      omega
theorem dd_head (u : Nat) (h : 0 < u) : (Lib.decDigits u).head? ≠ some 48 := by
  induction u using Nat.strongRecOn with
  | _ u ih =>
    by_cases h1 : u < 10
    · rw [Lib.decDigits, dif_pos h1]
      intro e
      have e1 : UInt8.ofNat (48 + u) = 48 := by simpa using e
      have : (UInt8.ofNat (48 + u)).toNat = 48 + u := by rw [UInt8.toNat_ofNat']; omega
      rw [e1] at this
      have e2 : (48 : UInt8).toNat = 48 := rfl
      omega
    · rw [Lib.decDigits, dif_neg h1, List.head?_append]
      have h2 := ih (u / 10) (by omega) (by omega)
      cases h3 : (Lib.decDigits (u / 10)).head? with
      | none =>
        have : Lib.decDigits (u / 10) = [] := List.head?_eq_none_iff.1 h3
        have h4 := Lib.decDigits_length (u / 10)
        rw [this] at h4
        have := Lib.nDigits_pos (u / 10)
        simp at h4
        omega
      | some x =>
        rw [h3] at h2
        simpa using h2
theorem dd_len6 {u : Nat} (h : u < 1000000) : 1 ≤ (Lib.decDigits u).length ∧ (Lib.decDigits u).length ≤ 6 := by
  rw [Lib.decDigits_length]
  refine ⟨Lib.nDigits_pos u, ?_⟩
  rcases Nat.lt_or_ge 6 (Lib.nDigits u) with h1 | h1
  · exfalso
    have e : ∀ k, k ≤ 5 → 10 ^ k ≤ u → u < 10 ^ (k + 1) → False := fun k hk a b => by
      have := Lib.nDigits_unique k u a b
      omega
    by_cases c0 : u < 10
    · rw [Lib.nDigits_small c0] at h1
      omega
    · by_cases c1 : u < 100
      · exact e 1 (by omega) (by omega) (by omega)
      · by_cases c2 : u < 1000
        · exact e 2 (by omega) (by omega) (by omega)
        · by_cases c3 : u < 10000
          · exact e 3 (by omega) (by omega) (by omega)
          · by_cases c4 : u < 100000
            · exact e 4 (by omega) (by omega) (by omega)
            · have := Lib.nDigits_unique 5 u (by omega) (by omega)
              omega
  · exact h1
theorem itoa_len6 {n : Int} (h0 : 0 ≤ n) (h : n ≤ 100000) : 1 ≤ (Lib.itoa n).length ∧ (Lib.itoa n).length ≤ 6 := by
  rw [itoa_pos h0]
  exact dd_len6 (by omega)
theorem numT_size (n : Int) : (numT n).size = (Lib.itoa n).length := by
  unfold numT
  show (Lib.itoa n).toArray.size = _
  simp

/-- A number as the specification reads it. -/
def numR (s : ByteArray) : Int :=
  if decide (1 ≤ s.size ∧ s.size ≤ 6) && !(s.data.toList.head? == some 48 && decide (1 < s.size)) then (match Lib.decFrom 0 s.data.toList with
    | some n => (n : Int)
    | none => -1) else -1
/-- A number as the program reads it. -/
def numI (s : ByteArray) : Option Int := match Lib.atoiAll s.data.toList with
  | .ok n => if (Lib.itoa n == s.data.toList) = true then some n else none
  | _ => none
theorem numR_back {n : Int} (h0 : 0 ≤ n) (h : n ≤ 100000) : numR (numT n) = n := by
  obtain ⟨l1, l6⟩ := itoa_len6 h0 h
  have hd : (numT n).data.toList = Lib.decDigits n.toNat := by
    unfold numT
    rw [itoa_pos h0]
  unfold numR
  rw [numT_size, hd, dec_back, decide_eq_true ⟨l1, l6⟩]
  have hz : ((Lib.decDigits n.toNat).head? == some 48 && decide (1 < (Lib.itoa n).length)) = false := by
    by_cases hn : 0 < n.toNat
    · have : ((Lib.decDigits n.toNat).head? == some 48) = false := by
        rw [beq_eq_false_iff_ne]
        exact dd_head _ hn
      rw [this]
      rfl
    · have e : n.toNat = 0 := by omega
      rw [itoa_pos h0, e, Lib.decDigits_one (by decide)]
      decide
  rw [hz]
  simp
  omega
theorem atoi_itoa {n : Int} (h0 : 0 ≤ n) (h : n ≤ 100000) : Lib.atoi (Lib.itoa n) = some n := by
  have hp := itoa_pos h0
  obtain ⟨l1, l6⟩ := itoa_len6 h0 h
  rw [hp] at *
  cases hd : Lib.decDigits n.toNat with
  | nil => rw [hd] at l1; simp at l1
  | cons b r =>
    have hb := dd_dig n.toNat b (by rw [hd]; exact List.mem_cons_self)
    have h1 := dec_back n.toNat
    rw [hd] at h1
    unfold Lib.atoi
    have n1 : (b == 45) = false := by
      rw [beq_eq_false_iff_ne]
      rintro rfl
      exact absurd hb.1 (by decide)
    have n2 : (b == 43) = false := by
      rw [beq_eq_false_iff_ne]
      rintro rfl
      exact absurd hb.1 (by decide)
    simp only [n1, n2, if_false, Lib.decNat, List.isEmpty_cons, Bool.false_eq_true, h1, Option.map_some]
    congr 1
    omega
theorem numI_back {n : Int} (h0 : 0 ≤ n) (h : n ≤ 100000) : numI (numT n) = some n := by
  obtain ⟨l1, l6⟩ := itoa_len6 h0 h
  have hd : (numT n).data.toList = Lib.itoa n := rfl
  unfold numI
  rw [hd, Lib.atoiAll_short _ (by omega), atoi_itoa h0 h]
  simp [Lib.NumEnd.ofOption]
theorem numI_text {s : ByteArray} {n : Int} (h : numI s = some n) : numT n = s := by
  unfold numI at h
  split at h
  · split at h
    · rename_i m _ he
      cases h
      exact bytes_same (by simpa [numT] using he)
    · cases h
  · cases h

/-- A link's text. -/
def Lk.text (k : Lk) : ByteArray := k.who ++ ⟨#[32]⟩ ++ k.to ++ ⟨#[32]⟩ ++ numT k.se ++ ⟨#[32]⟩ ++ numT k.fr ++ ⟨#[32]⟩ ++ numT k.un ++ ⟨#[59]⟩
def Lk.body (k : Lk) : List UInt8 := k.who.data.toList ++ 32 :: (k.to.data.toList ++ 32 :: (Lib.itoa k.se ++ 32 :: (Lib.itoa k.fr ++ 32 :: Lib.itoa k.un)))
theorem Lk.text_list (k : Lk) : k.text.data.toList = k.body ++ [59] := by simp [Lk.text, Lk.body, numT]
def tkL (ks : List Lk) : List UInt8 := ks.flatMap (fun k => k.text.data.toList)
/-- A token's text. -/
def tkT (ks : List Lk) : ByteArray := ⟨(tkL ks).toArray⟩
theorem tkT_nil : tkT [] = ⟨#[]⟩ := rfl
theorem tkT_snoc (ks : List Lk) (k : Lk) : tkT (ks ++ [k]) = tkT ks ++ k.text := by
  apply bytes_same
  simp [tkT, tkL]
theorem tkT_succ {ks : List Lk} {n : Nat} (h : n < ks.length) : tkT (ks.take (n + 1)) = tkT (ks.take n) ++ ks[n].text := by
  rw [List.take_succ_eq_append_getElem h, tkT_snoc]
theorem tkL_cons (k : Lk) (ks : List Lk) : tkL (k :: ks) = k.body ++ 59 :: tkL ks := by
  unfold tkL
  rw [List.flatMap_cons, Lk.text_list]
  simp
theorem nm_of {s : ByteArray} (h : nmOk s = true) : nmB (split s 47) = true := by
  unfold nmOk gnB at h
  rw [Bool.and_eq_true] at h
  rw [nmB_eq, h.1, Bool.true_and, List.all_eq_true]
  intro x hx
  have := List.all_eq_true.1 h.2 x hx
  unfold wsB
  rw [this, Bool.or_true]
theorem body_split {k : Lk} (h : k.good = true) : split ⟨k.body.toArray⟩ 32 = [k.who, k.to, numT k.se, numT k.fr, numT k.un] := by
  obtain ⟨h1, h2, h3, h4, h5, _⟩ := (Lk.good_iff k).1 h
  unfold Lk.body
  rw [split_parts _ _ (no_name (by decide) (by decide) (by decide) (nm_of h1)), split_parts _ _ (no_name (by decide) (by decide) (by decide) (nm_of h2)), split_parts _ _ (no_num (by decide) (by omega)), split_parts _ _ (no_num (by decide) (by omega)), split_one _ (no_num (by decide) (by omega)), ← bytes_of, ← bytes_of]
  rfl
theorem body_end {k : Lk} (h : k.good = true) : (59 : UInt8) ∉ k.body := by
  obtain ⟨h1, h2, h3, h4, h5, _⟩ := (Lk.good_iff k).1 h
  unfold Lk.body
  have a1 := no_name (ch := 59) (by decide) (by decide) (by decide) (nm_of h1)
  have a2 := no_name (ch := 59) (by decide) (by decide) (by decide) (nm_of h2)
  have a3 := no_num (ch := 59) (by decide) (show 0 ≤ k.se by omega)
  have a4 := no_num (ch := 59) (by decide) (show 0 ≤ k.fr by omega)
  have a5 := no_num (ch := 59) (by decide) (show 0 ≤ k.un by omega)
  simp only [List.mem_append, List.mem_cons, not_or]
  exact ⟨a1, by decide, a2, by decide, a3, by decide, a4, by decide, a5⟩
theorem tk_split (ks : List Lk) (h : ∀ k ∈ ks, k.good = true) : split (tkT ks) 59 = ks.map (fun k => (⟨k.body.toArray⟩ : ByteArray)) ++ [⟨#[]⟩] := by
  induction ks with
  | nil => exact split_none rfl
  | cons k ks ih =>
    unfold tkT
    rw [tkL_cons, split_parts _ _ (body_end (h k List.mem_cons_self))]
    have := ih (fun x hx => h x (List.mem_cons_of_mem _ hx))
    unfold tkT at this
    rw [this]
    rfl

/-- A link read from its text, its numbers by f. -/
def rdLk (f : ByteArray → Option Int) (p : ByteArray) : Option Lk := match split p 32 with
  | [a, b, c, d, e] => (match f c, f d, f e with
    | some x, some y, some z => some ⟨a, b, x, y, z⟩
    | _, _, _ => none)
  | _ => none
theorem rdLk_five {f : ByteArray → Option Int} {p a b c d e : ByteArray} (h : split p 32 = [a, b, c, d, e]) : rdLk f p = (match f c, f d, f e with
    | some x, some y, some z => some ⟨a, b, x, y, z⟩
    | _, _, _ => none) := by
  unfold rdLk
  rw [h]
theorem five {l : List ByteArray} (h : l.length = 5) : ∃ a b c d e, l = [a, b, c, d, e] := by
  match l, h with
  | [a, b, c, d, e], _ => exact ⟨a, b, c, d, e, rfl⟩
theorem rdLk_other {f : ByteArray → Option Int} {p : ByteArray} (h : (split p 32).length ≠ 5) : rdLk f p = none := by
  unfold rdLk
  split
  · rename_i h1
    rw [h1] at h
    exact absurd rfl h
  · rfl
theorem rdLk_back {f : ByteArray → Option Int} (hf : ∀ n : Int, 0 ≤ n → n ≤ 100000 → f (numT n) = some n) {k : Lk} (h : k.good = true) : rdLk f ⟨k.body.toArray⟩ = some k := by
  obtain ⟨h1, h2, h3, h4, h5, _⟩ := (Lk.good_iff k).1 h
  rw [rdLk_five (body_split h), hf _ (by omega) (by omega), hf _ (by omega) (by omega), hf _ (by omega) (by omega)]

/-- The links of some texts. -/
def rdAll : List ByteArray → Option (List Lk)
  | [] => some []
  | x :: r => match rdLk (fun s => some (numR s)) x, rdAll r with
    | some k, some ks => some (k :: ks)
    | _, _ => none
theorem rdAll_cons (x : ByteArray) (r : List ByteArray) : rdAll (x :: r) = (match rdLk (fun s => some (numR s)) x, rdAll r with
    | some k, some ks => some (k :: ks)
    | _, _ => none) := rfl
theorem rdAll_snoc (l : List ByteArray) (x : ByteArray) : rdAll (l ++ [x]) = match rdAll l, rdLk (fun s => some (numR s)) x with
    | some ks, some k => some (ks ++ [k])
    | _, _ => none := by
  induction l with
  | nil =>
    simp only [List.nil_append, rdAll]
    cases rdLk (fun s => some (numR s)) x <;> rfl
  | cons y l ih =>
    simp only [List.cons_append, rdAll]
    rw [ih]
    cases rdLk (fun s => some (numR s)) y with
    | none => simp
    | some k =>
      cases rdAll l with
      | none => simp
      | some ks => cases rdLk (fun s => some (numR s)) x <;> simp
theorem rdAll_pre {p l : List ByteArray} (h : p <+: l) (hp : rdAll p = none) : rdAll l = none := by
  obtain ⟨t, rfl⟩ := h
  induction p with
  | nil => cases hp
  | cons x p ih =>
    rw [List.cons_append]
    rw [rdAll_cons] at hp ⊢
    cases h1 : rdLk (fun s => some (numR s)) x with
    | none => rfl
    | some k =>
      rw [h1] at hp
      cases h2 : rdAll p with
      | none => rw [ih h2]
      | some ks =>
        rw [h2] at hp
        cases hp
theorem rdAll_back (ks : List Lk) (h : ∀ k ∈ ks, k.good = true) : rdAll (ks.map (fun k => (⟨k.body.toArray⟩ : ByteArray))) = some ks := by
  induction ks with
  | nil => rfl
  | cons k ks ih =>
    rw [List.map_cons]
    unfold rdAll
    rw [rdLk_back (fun n h0 h1 => by rw [numR_back h0 h1]) (h k List.mem_cons_self), ih (fun x hx => h x (List.mem_cons_of_mem _ hx))]
/-- A token as the specification reads it. -/
def rdSp (s : ByteArray) : List Lk × Bool := match rdAll (split s 59).dropLast with
  | some ks => if (tkB ks && ((tkT ks).toList == s.toList)) = true then (ks, true) else ([], false)
  | none => ([], false)
theorem rdSp_back {ks : List Lk} (h : tkB ks = true) : rdSp (tkT ks) = (ks, true) := by
  unfold rdSp
  rw [tk_split ks (tkB_good h), List.dropLast_concat, rdAll_back ks (tkB_good h)]
  simp only
  rw [h, if_pos (by simp)]
theorem rdSp_sound {s : ByteArray} (h : (rdSp s).2 = true) : tkB (rdSp s).1 = true ∧ tkT (rdSp s).1 = s := by
  unfold rdSp at *
  split at h
  · split at h
    · rename_i ks _ hc
      rw [if_pos hc]
      rw [Bool.and_eq_true] at hc
      refine ⟨hc.1, bytes_same ?_⟩
      have := hc.2
      rw [toList_data, toList_data] at this
      simpa using this
    · cases h
  · cases h
theorem rdSp_no {s : ByteArray} (h : (rdSp s).2 = false) : rdSp s = ([], false) := by
  unfold rdSp at *
  split at h
  · split at h
    · cases h
    · rename_i hc
      rw [if_neg hc]
  · rfl

/-- The links of a text, one by one, as the program reads them. -/
def rdIL : List ByteArray → List Lk → Option (List Lk)
  | [], _ => none
  | [x], acc => if x.toList.isEmpty = true then some acc else none
  | x :: y :: r, acc => match rdLk numI x with
    | some k => if acc.length = 6 then none else rdIL (y :: r) (acc ++ [k])
    | none => none
theorem rdIL_end {s : ByteArray} {acc : List Lk} (h : s.toList.isEmpty = true) : rdIL (split s 59) acc = some acc := by
  rw [empty_of h]
  have : split ⟨#[]⟩ 59 = [⟨#[]⟩] := split_none rfl
  rw [this]
  unfold rdIL
  rw [if_pos (by rw [toList_data]; rfl)]
theorem rdIL_open {s : ByteArray} {acc : List Lk} (h : s.toList.isEmpty = false) (hf : fI s 59 = none) : rdIL (split s 59) acc = none := by
  rw [split_none hf]
  unfold rdIL
  rw [h]
  rfl
theorem rdIL_cut {s : ByteArray} {i : Nat} {acc : List Lk} (hf : fI s 59 = some i) : rdIL (split s 59) acc = (match rdLk numI (s.extract 0 i) with
    | some k => if acc.length = 6 then none else rdIL (split (s.extract (i + 1) s.size) 59) (acc ++ [k])
    | none => none) := by
  rw [split_some hf]
  obtain ⟨x, r, h⟩ := split_ne (s.extract (i + 1) s.size) 59
  rw [h]
  rfl
/-- A token as the program reads it. -/
def rdIm (s : ByteArray) : List Lk × Bool := match rdIL (split s 59) [] with
  | some ks => if tkB ks = true then (ks, true) else ([], false)
  | none => ([], false)
theorem rdIL_back : ∀ (ks acc : List Lk), (∀ k ∈ ks, k.good = true) → acc.length + ks.length ≤ 6 → rdIL (ks.map (fun k => (⟨k.body.toArray⟩ : ByteArray)) ++ [⟨#[]⟩]) acc = some (acc ++ ks)
  | [], acc, _, _ => by
    simp only [List.map_nil, List.nil_append, List.append_nil]
    unfold rdIL
    rw [if_pos (by rw [toList_data]; rfl)]
  | k :: ks, acc, h, hl => by
    simp only [List.length_cons] at hl
    have ih := rdIL_back ks (acc ++ [k]) (fun x hx => h x (List.mem_cons_of_mem _ hx)) (by simp; omega)
    have e : rdIL ((k :: ks).map (fun k => (⟨k.body.toArray⟩ : ByteArray)) ++ [⟨#[]⟩]) acc = (match rdLk numI ⟨k.body.toArray⟩ with
      | some k => if acc.length = 6 then none else rdIL (ks.map (fun k => (⟨k.body.toArray⟩ : ByteArray)) ++ [⟨#[]⟩]) (acc ++ [k])
      | none => none) := by
      cases ks <;> rfl
    rw [e, rdLk_back (fun n h0 h1 => numI_back h0 h1) (h k List.mem_cons_self)]
    simp only
    rw [if_neg (by omega), ih]
    simp
/-- What was parted, put together again. -/
def joinL (c : UInt8) : List ByteArray → List UInt8
  | [] => []
  | [x] => x.data.toList
  | x :: y :: r => x.data.toList ++ c :: joinL c (y :: r)
theorem join_split (c : UInt8) : ∀ (n : Nat) (s : ByteArray), s.size ≤ n → joinL c (split s c) = s.data.toList := by
  intro n
  induction n with
  | zero =>
    intro s hs
    have hf : fI s c = none := by
      have : s.data.toList = [] := List.eq_nil_of_length_eq_zero (by rw [show s.data.toList.length = s.size by simp]; omega)
      unfold fI
      rw [this]
      rfl
    rw [split_none hf]
    rfl
  | succ n ih =>
    intro s hs
    cases hf : fI s c with
    | none => rw [split_none hf]; rfl
    | some i =>
      have hlt := fI_lt hf
      rw [split_some hf]
      have := ih (s.extract (i + 1) s.size) (by rw [ByteArray.size_extract]; omega)
      obtain ⟨x, r, h⟩ := split_ne (s.extract (i + 1) s.size) c
      rw [h] at this ⊢
      unfold joinL
      rw [this, data_parts s i hlt, fI_at hf]
theorem rdLk_text {p : ByteArray} {k : Lk} (h : rdLk numI p = some k) : p.data.toList = k.body := by
  have hj := join_split 32 _ p (Nat.le_refl _)
  by_cases hl : (split p 32).length = 5
  · obtain ⟨a, b, c, d, e, he⟩ := five hl
    rw [rdLk_five he] at h
    split at h
    · rename_i x y z h1 h2 h3
      cases h
      rw [he] at hj
      have t1 := numI_text h1
      have t2 := numI_text h2
      have t3 := numI_text h3
      rw [← hj]
      unfold Lk.body
      simp only [joinL, ← t1, ← t2, ← t3, numT]
    · cases h
  · rw [rdLk_other hl] at h
    cases h
theorem rdIL_sound : ∀ (n : Nat) (s : ByteArray) (acc ks : List Lk), s.size ≤ n → rdIL (split s 59) acc = some ks → ∃ l, ks = acc ++ l ∧ tkL l = s.data.toList := by
  intro n
  induction n with
  | zero =>
    intro s acc ks hs h
    have he : s.toList.isEmpty = true := by rw [size_toList]; exact decide_eq_true (by omega)
    rw [rdIL_end he] at h
    cases h
    refine ⟨[], by simp, ?_⟩
    rw [toList_data] at he
    have : s.data.toList = [] := by simpa using he
    rw [this]
    rfl
  | succ n ih =>
    intro s acc ks hs h
    cases he : s.toList.isEmpty with
    | true =>
      rw [rdIL_end he] at h
      cases h
      refine ⟨[], by simp, ?_⟩
      rw [toList_data] at he
      have : s.data.toList = [] := by simpa using he
      rw [this]
      rfl
    | false =>
      cases hf : fI s 59 with
      | none =>
        rw [rdIL_open he hf] at h
        cases h
      | some i =>
        have hlt := fI_lt hf
        rw [rdIL_cut hf] at h
        split at h
        · rename_i k hk
          split at h
          · cases h
          · obtain ⟨l, rfl, hl⟩ := ih (s.extract (i + 1) s.size) _ _ (by rw [ByteArray.size_extract]; omega) h
            refine ⟨k :: l, by simp, ?_⟩
            rw [tkL_cons, ← rdLk_text hk, hl, data_parts s i hlt, fI_at hf]
        · cases h
theorem rdIm_back {ks : List Lk} (h : tkB ks = true) : rdIm (tkT ks) = (ks, true) := by
  have hl := tkB_len h
  unfold rdIm
  rw [tk_split ks (tkB_good h), rdIL_back ks [] (tkB_good h) (by simp; omega)]
  simp only [List.nil_append]
  rw [if_pos h]
theorem rdIm_sound {s : ByteArray} (h : (rdIm s).2 = true) : tkB (rdIm s).1 = true ∧ tkT (rdIm s).1 = s := by
  unfold rdIm at *
  split at h
  · rename_i ks hk
    split at h
    · rename_i hc
      rw [if_pos hc]
      obtain ⟨l, e, hl⟩ := rdIL_sound _ _ _ _ (Nat.le_refl _) hk
      refine ⟨hc, bytes_same ?_⟩
      rw [List.nil_append] at e
      rw [e]
      exact hl
    · cases h
  · cases h
theorem rdIm_no {s : ByteArray} (h : (rdIm s).2 = false) : rdIm s = ([], false) := by
  unfold rdIm at *
  split at h
  · split at h
    · cases h
    · rename_i hc
      rw [if_neg hc]
  · rfl
/-- Both read alike. -/
theorem rd_alike (s : ByteArray) : rdIm s = rdSp s := by
  cases h : (rdSp s).2 with
  | true =>
    obtain ⟨h1, h2⟩ := rdSp_sound h
    have h3 := rdIm_back h1
    have h4 := rdSp_back h1
    rw [h2] at h3 h4
    rw [h3, ← h4]
  | false =>
    cases h' : (rdIm s).2 with
    | true =>
      obtain ⟨h1, h2⟩ := rdIm_sound h'
      have h4 := rdSp_back h1
      rw [h2] at h4
      rw [h4] at h
      cases h
    | false => rw [rdSp_no h, rdIm_no h']

end Go.Proofs.YtepoamekeackkaaDoor
