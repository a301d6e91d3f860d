/-
  Chapter 5: lists of versions by the program: when one is good, where a number stands, copies, SnapshotAt.
-/
import Derived.Lib.SlicesCompact
import Derived.WalkKit
import Derived.ProofKit
import Derived.Test.YtoaeckcenobfcaaGreatJDiffs1
import Derived.Deep.RegionHeld3
import Derived.Test.YtoaeckcenobfcaaGreatJDiffs0
import Derived.Shelf.Slices.Turned
import Derived.Shelf.SlicesQ.Equal
import Derived.Shelf.SlicesQ.Contains
import Derived.Shelf.SlicesE.Clone
import Derived.WalkLawsBesides
namespace Go.Proofs.YtoaeckcenobfcaaGreat

/-! Numbers that rise. -/
def upI (zs : List Int) (i : Nat) : Bool := match i with
  | 0 => true
  | i + 1 => match zs[i]?, zs[i + 1]? with
    | some a, some b => decide (a < b)
    | _, _ => true
theorem upI_succ {zs : List Int} {i : Nat} (h : i + 1 < zs.length) : upI zs (i + 1) = decide (zs[i] < zs[i + 1]) := by
  simp only [upI]
  rw [List.getElem?_eq_getElem h, List.getElem?_eq_getElem (by omega)]
def upN (zs : List Int) : Bool := (List.range zs.length).all (upI zs)
def okN (nx : Int) (zs : List Int) : Bool := zs.all (fun n => decide (1 ≤ n ∧ n < nx))
theorem upN_no {zs : List Int} {i : Nat} (h : i < zs.length) (hb : upI zs i = false) : upN zs = false :=
  List.all_eq_false.2 ⟨i, List.mem_range.2 h, by rw [hb]; simp⟩
theorem upN_yes {zs : List Int} (h : ∀ i, i < zs.length → upI zs i = true) : upN zs = true :=
  List.all_eq_true.2 fun i hi => h i (List.mem_range.1 hi)
theorem okN_no {nx : Int} {zs : List Int} {i : Nat} (h : i < zs.length) (hb : ¬ (1 ≤ zs[i] ∧ zs[i] < nx)) : okN nx zs = false :=
  List.all_eq_false.2 ⟨_, List.getElem_mem h, by simp; omega⟩
theorem okN_yes {nx : Int} {zs : List Int} (h : ∀ i (hi : i < zs.length), 1 ≤ zs[i] ∧ zs[i] < nx) : okN nx zs = true :=
  List.all_eq_true.2 fun x hx => by
    obtain ⟨i, hi, rfl⟩ := List.getElem_of_mem hx
    exact decide_eq_true (h i hi)
def atN : List Int → Int → Nat
  | [], _ => 0
  | x :: r, n => if x < n then atN r n + 1 else 0
theorem atN_le : ∀ (zs : List Int) (n : Int), atN zs n ≤ zs.length
  | [], _ => Nat.le_refl _
  | x :: r, n => by
    have := atN_le r n
    unfold atN
    split <;> simp <;> omega
theorem atN_lt : ∀ {zs : List Int} {n : Int} {k : Nat} (h : k < zs.length), k < atN zs n → zs[k] < n
  | [], _, _, h, _ => by simp at h
  | x :: r, n, k, h, hk => by
    unfold atN at hk
    split at hk
    · rename_i hx
      cases k with
      | zero => exact hx
      | succ k => exact atN_lt (zs := r) (by simpa using h) (by omega)
    · omega
theorem atN_at : ∀ {zs : List Int} {n : Int} {k : Nat} (h : k < zs.length), k = atN zs n → ¬ zs[k] < n
  | [], _, _, h, _ => by simp at h
  | x :: r, n, k, h, hk => by
    unfold atN at hk
    split at hk
    · subst hk
      exact atN_at (zs := r) (by simpa using h) rfl
    · rename_i hx
      subst hk
      simpa using hx
def hasN (zs : List Int) (n : Int) : Bool := match zs[atN zs n]? with
  | some x => x == n
  | Option.none => false
theorem hasN_at {zs : List Int} {n : Int} (h : atN zs n < zs.length) : hasN zs n = (zs[atN zs n] == n) := by
  unfold hasN
  rw [List.getElem?_eq_getElem h]
theorem hasN_end {zs : List Int} {n : Int} (h : ¬ atN zs n < zs.length) : hasN zs n = false := by
  unfold hasN
  rw [List.getElem?_eq_none (by omega)]
/-- Numbers that rise: one is among them just where it would stand. -/
theorem up_lt {zs : List Int} (h : upN zs = true) : ∀ i j (_ : i < j) (hj : j < zs.length), zs[i] < zs[j] := by
  intro i j hij
  induction j with
  | zero => omega
  | succ j ih =>
    intro hj
    have h1 : upI zs (j + 1) = true := List.all_eq_true.1 h _ (List.mem_range.2 hj)
    rw [upI_succ hj] at h1
    have h1 := of_decide_eq_true h1
    rcases Nat.lt_or_ge i j with h2 | h2
    · have := ih h2 (by omega)
      omega
    · obtain rfl : i = j := by omega
      exact h1

/-- A number is among some. -/
def isTo (zs : List Int) (z : Int) (n : Nat) : Bool := (zs.take n).any (fun x => x == z)
def isI (zs : List Int) (z : Int) : Bool := zs.any (fun x => x == z)
theorem isTo_zero (zs : List Int) (z : Int) : isTo zs z 0 = false := by simp [isTo]
theorem isTo_succ {zs : List Int} {z : Int} {n : Nat} (h : n < zs.length) : isTo zs z (n + 1) = (isTo zs z n || (zs[n] == z)) := by
  unfold isTo
  rw [List.take_succ_eq_append_getElem h, List.any_append]
  simp
theorem isI_yes {zs : List Int} {z : Int} {n : Nat} (h : n < zs.length) (he : (zs[n] == z) = true) : isI zs z = true :=
  List.any_eq_true.2 ⟨zs[n], List.getElem_mem h, he⟩
theorem isI_end (zs : List Int) (z : Int) : isTo zs z zs.length = isI zs z := by
  unfold isTo isI
  rw [List.take_length]
theorem isI_hasN {zs : List Int} (h : upN zs = true) (n : Int) : isI zs n = hasN zs n := by
  rcases Nat.lt_or_ge (atN zs n) zs.length with h1 | h1
  · rw [hasN_at h1]
    cases h2 : (zs[atN zs n] == n)
    · unfold isI
      rw [List.any_eq_false]
      intro x hx he
      obtain ⟨i, hi, rfl⟩ := List.getElem_of_mem hx
      have he := eq_of_beq he
      rcases Nat.lt_trichotomy i (atN zs n) with h3 | h3 | h3
      · have := atN_lt hi h3
        omega
      · subst h3
        rw [he] at h2
        simp at h2
      · have h4 := up_lt h _ _ h3 hi
        have h5 := atN_at h1 rfl
        omega
    · unfold isI
      rw [List.any_eq_true]
      exact ⟨_, List.getElem_mem h1, h2⟩
  · rw [hasN_end (by omega)]
    unfold isI
    rw [List.any_eq_false]
    intro x hx he
    obtain ⟨i, hi, rfl⟩ := List.getElem_of_mem hx
    have := atN_lt (n := n) hi (by omega)
    have he := eq_of_beq he
    omega

/-- A number put among rising ones. -/
def insZ (z : Int) : List Int → List Int
  | [] => [z]
  | x :: r => if x < z then x :: insZ z r else if x = z then x :: r else z :: x :: r
def SZ (l : List Int) : Prop := l.Pairwise (fun x y => x < y)
theorem insZ_mem (z : Int) : ∀ (l : List Int) (y : Int), y ∈ insZ z l ↔ y = z ∨ y ∈ l
  | [], y => by simp [insZ]
  | x :: xs, y => by
    unfold insZ
    split
    · rw [List.mem_cons, insZ_mem z xs y, List.mem_cons]
      constructor
      · rintro (h | h | h)
        · exact .inr (.inl h)
        · exact .inl h
        · exact .inr (.inr h)
      · rintro (h | h | h)
        · exact .inr (.inl h)
        · exact .inl h
        · exact .inr (.inr h)
    · split
      · rename_i h
        subst h
        simp
      · simp
theorem insZ_sz {z : Int} : ∀ l : List Int, SZ l → SZ (insZ z l)
  | [], _ => by simp [insZ, SZ]
  | x :: xs, h => by
    unfold SZ at h
    rw [List.pairwise_cons] at h
    unfold insZ
    split
    · rename_i hx
      unfold SZ
      rw [List.pairwise_cons]
      refine ⟨fun y hy => ?_, insZ_sz xs h.2⟩
      rcases (insZ_mem z xs y).1 hy with rfl | hy
      · exact hx
      · exact h.1 y hy
    · split
      · unfold SZ
        rw [List.pairwise_cons]
        exact h
      · unfold SZ
        rw [List.pairwise_cons, List.pairwise_cons]
        refine ⟨fun y hy => ?_, h⟩
        rw [List.mem_cons] at hy
        rcases hy with rfl | hy
        · omega
        · have := h.1 y hy
          omega
theorem insZ_len (z : Int) : ∀ l : List Int, (insZ z l).length ≤ l.length + 1
  | [] => by simp [insZ]
  | x :: xs => by
    have := insZ_len z xs
    unfold insZ
    split
    · simp; omega
    · split <;> simp
theorem sz_unique : ∀ l l' : List Int, SZ l → SZ l' → (∀ y, y ∈ l ↔ y ∈ l') → l = l'
  | [], [], _, _, _ => rfl
  | [], y :: _, _, _, h => by have := (h y).2 List.mem_cons_self; cases this
  | x :: _, [], _, _, h => by have := (h x).1 List.mem_cons_self; cases this
  | x :: xs, y :: ys, h1, h2, h => by
    unfold SZ at h1 h2
    rw [List.pairwise_cons] at h1 h2
    have hxy : x = y := by
      have a1 := (h x).1 List.mem_cons_self
      have a2 := (h y).2 List.mem_cons_self
      rw [List.mem_cons] at a1 a2
      rcases a1 with a1 | a1
      · exact a1
      · rcases a2 with a2 | a2
        · exact a2.symm
        · have b1 := h2.1 x a1
          have b2 := h1.1 y a2
          omega
    subst hxy
    have ht : ∀ z, z ∈ xs ↔ z ∈ ys := fun z => by
      constructor
      · intro hz
        have := (h z).1 (List.mem_cons_of_mem _ hz)
        rw [List.mem_cons] at this
        rcases this with rfl | this
        · have := h1.1 z hz
          omega
        · exact this
      · intro hz
        have := (h z).2 (List.mem_cons_of_mem _ hz)
        rw [List.mem_cons] at this
        rcases this with rfl | this
        · have := h2.1 z hz
          omega
        · exact this
    rw [sz_unique xs ys h1.2 h2.2 ht]
/-- The numbers of a list rising, each once. -/
def srT (zs : List Int) (k : Nat) : List Int := (zs.take k).foldl (fun o z => insZ z o) []
def srN (zs : List Int) : List Int := srT zs zs.length
theorem srT_zero (zs : List Int) : srT zs 0 = [] := by simp [srT]
theorem srT_succ {zs : List Int} {k : Nat} (h : k < zs.length) : srT zs (k + 1) = insZ zs[k] (srT zs k) := by
  unfold srT
  rw [List.take_succ_eq_append_getElem h, List.foldl_append]
  rfl
theorem srT_mem {zs : List Int} : ∀ k, k ≤ zs.length → ∀ y, y ∈ srT zs k ↔ y ∈ zs.take k
  | 0, _, y => by simp [srT]
  | k + 1, h, y => by
    rw [srT_succ (by omega), insZ_mem, srT_mem k (by omega) y, List.take_succ_eq_append_getElem (by omega), List.mem_append, List.mem_singleton]
    exact Or.comm
theorem srT_sz {zs : List Int} : ∀ k, k ≤ zs.length → SZ (srT zs k)
  | 0, _ => by simp [srT, SZ]
  | k + 1, h => by rw [srT_succ (by omega)]; exact insZ_sz _ (srT_sz k (by omega))
theorem srT_len {zs : List Int} : ∀ k, k ≤ zs.length → (srT zs k).length ≤ k
  | 0, _ => by simp [srT]
  | k + 1, h => by
    rw [srT_succ (by omega)]
    have := insZ_len (zs[k]'(by omega)) (srT zs k)
    have := srT_len (zs := zs) k (by omega)
    omega
theorem srN_mem {zs : List Int} (y : Int) : y ∈ srN zs ↔ y ∈ zs := by
  unfold srN
  rw [srT_mem _ (Nat.le_refl _), List.take_length]
theorem srN_sz (zs : List Int) : SZ (srN zs) := srT_sz _ (Nat.le_refl _)
theorem srN_len (zs : List Int) : (srN zs).length ≤ zs.length := srT_len _ (Nat.le_refl _)
/-- Where a number stands among rising ones, and what putting it there makes. -/
theorem insZ_at {z : Int} : ∀ (l : List Int) (m : Nat), m ≤ l.length → (∀ j (h : j < l.length), j < m → l[j] < z) → (∀ h : m < l.length, ¬ l[m] < z) →
    insZ z l = if h : m < l.length then (if l[m] = z then l else l.take m ++ z :: l.drop m) else l ++ [z]
  | [], m, hm, _, _ => by
    obtain rfl : m = 0 := by simpa using hm
    simp [insZ]
  | x :: xs, 0, _, _, h2 => by
    have this : ¬ x < z := h2 (by simp)
    unfold insZ
    rw [if_neg this]
    simp
  | x :: xs, m + 1, hm, h1, h2 => by
    have hx : x < z := h1 0 (by simp) (by omega)
    have ih := insZ_at (z := z) xs m (by simpa using hm) (fun j hj hjm => h1 (j + 1) (by simpa using hj) (by omega)) (fun hj => h2 (by simpa using hj))
    unfold insZ
    rw [if_pos hx, ih]
    by_cases hlt : m < xs.length
    · rw [dif_pos hlt, dif_pos (by simpa using hlt)]
      simp only [List.getElem_cons_succ]
      split <;> simp
    · rw [dif_neg hlt, dif_neg (by simpa using hlt)]
      simp
theorem insZ_keep {z : Int} {l : List Int} {m : Nat} (hm : m < l.length) (h1 : ∀ j (h : j < l.length), j < m → l[j] < z) (he : l[m] = z) : insZ z l = l := by
  rw [insZ_at l m (by omega) h1 (fun _ => by omega), dif_pos hm, if_pos he]
theorem insZ_new {z : Int} {l : List Int} {m : Nat} (hm : m < l.length) (h1 : ∀ j (h : j < l.length), j < m → l[j] < z) (h2 : ¬ l[m] < z) (he : l[m] ≠ z) : insZ z l = l.take m ++ z :: l.drop m := by
  rw [insZ_at l m (by omega) h1 (fun _ => h2), dif_pos hm, if_neg he]
theorem insZ_end {z : Int} {l : List Int} (h1 : ∀ j (h : j < l.length), j < l.length → l[j] < z) : insZ z l = l ++ [z] := by
  rw [insZ_at l l.length (by omega) h1 (fun h => by omega), dif_neg (by omega)]
/-- Numbers that rise are sorted, each once. -/
theorem sz_up {zs : List Int} : SZ zs ↔ upN zs = true := by
  constructor
  · intro h
    refine upN_yes fun i hi => ?_
    cases i with
    | zero => rfl
    | succ i =>
      rw [upI_succ hi]
      exact decide_eq_true (List.pairwise_iff_getElem.1 h i (i + 1) (by omega) hi (by omega))
  · intro h
    exact List.pairwise_iff_getElem.2 fun i j hi hj hij => up_lt h i j hij hj
theorem srN_up (zs : List Int) : upN (srN zs) = true := sz_up.1 (srN_sz zs)
theorem srN_self {zs : List Int} (h : upN zs = true) : srN zs = zs := sz_unique _ _ (srN_sz zs) (sz_up.2 h) (fun _ => srN_mem _)
/-- Sorted, and runs of one number taken together: the numbers rising, each once. -/
theorem compact_sz {ds : List Int} (hs : ds.Pairwise (fun x y => x ≤ y)) : ∀ m, m ≤ ds.length → SZ (Lib.compactUpTo ds.toArray m) ∧ ∀ y, y ∈ Lib.compactUpTo ds.toArray m ↔ y ∈ ds.take m
  | 0, _ => by simp [Lib.compactUpTo, SZ]
  | m + 1, hm => by
    obtain ⟨i1, i2⟩ := compact_sz hs m (by omega)
    have hget : ds.toArray[m]! = ds[m]'(by omega) := by simp [getElem!_def, List.getElem?_eq_getElem (show m < ds.length by omega)]
    have hle : ∀ y ∈ ds.take m, y ≤ ds[m]'(by omega) := by
      intro y hy
      obtain ⟨j, hj, rfl⟩ := List.getElem_of_mem hy
      rw [List.length_take] at hj
      rw [List.getElem_take]
      exact List.pairwise_iff_getElem.1 hs j m (by omega) (by omega) (by omega)
    rw [Lib.compactUpTo_succ, List.take_succ_eq_append_getElem (by omega), hget]
    by_cases hk : Lib.keeps ds.toArray m = true
    · rw [if_pos hk]
      have hlt : ∀ y ∈ ds.take m, y < ds[m]'(by omega) := by
        intro y hy
        have h1 := hle y hy
        cases m with
        | zero => simp at hy
        | succ m =>
          have hne : ds[m + 1]'(by omega) ≠ ds[m]'(by omega) := by
            intro he
            have : Lib.keeps ds.toArray (m + 1) = false := by
              unfold Lib.keeps
              simp [getElem!_def, List.getElem?_eq_getElem (show m < ds.length by omega), List.getElem?_eq_getElem (show m + 1 < ds.length by omega), he]
            rw [this] at hk
            cases hk
          have h2 : ds[m]'(by omega) ≤ ds[m + 1]'(by omega) := List.pairwise_iff_getElem.1 hs m (m + 1) (by omega) (by omega) (by omega)
          obtain ⟨j, hj, rfl⟩ := List.getElem_of_mem hy
          rw [List.length_take] at hj
          rw [List.getElem_take]
          rcases Nat.lt_or_ge j m with h3 | h3
          · have := List.pairwise_iff_getElem.1 hs j m (by omega) (by omega) h3
            omega
          · have : j = m := by omega
            subst this
            omega
      refine ⟨?_, fun y => ?_⟩
      · unfold SZ
        rw [List.pairwise_append]
        exact ⟨i1, by simp, fun a ha b hb => by rw [List.mem_singleton] at hb; subst hb; exact hlt a ((i2 a).1 ha)⟩
      · rw [List.mem_append, List.mem_append, i2]
    · rw [if_neg hk, List.append_nil]
      refine ⟨i1, fun y => ?_⟩
      rw [i2, List.mem_append, List.mem_singleton]
      constructor
      · exact .inl
      · rintro (h | rfl)
        · exact h
        · cases m with
          | zero => simp [Lib.keeps] at hk
          | succ m =>
            have he : ds[m + 1]'(by omega) = ds[m]'(by omega) := by
              unfold Lib.keeps at hk
              simpa [getElem!_def, List.getElem?_eq_getElem (show m < ds.length by omega), List.getElem?_eq_getElem (show m + 1 < ds.length by omega)] using hk
            rw [he]
            exact List.mem_take_iff_getElem.2 ⟨m, by omega, rfl⟩
theorem compact_sorted (zs : List Int) : Lib.compact (zs.mergeSort fun x y => decide (x ≤ y)) = srN zs := by
  have hs : (zs.mergeSort fun x y => decide (x ≤ y)).Pairwise (fun x y => x ≤ y) :=
    (List.pairwise_mergeSort (le := fun x y => decide (x ≤ y)) (fun a b c h1 h2 => by simp at *; omega) (fun a b => by simp; omega) zs).imp (fun h => by simpa using h)
  obtain ⟨h1, h2⟩ := compact_sz hs _ (Nat.le_refl _)
  refine sz_unique _ _ h1 (srN_sz zs) fun y => ?_
  rw [show Lib.compact _ = Lib.compactUpTo _ _ from rfl, h2, List.take_length, srN_mem]
  exact List.mem_mergeSort

end Go.Proofs.YtoaeckcenobfcaaGreat

namespace Go.Proofs.YtoaeckcenobfcaaGreat

/-- A version, and a difference. -/
structure Sn where
  num : Int
  pol : List Ru
  rv : List Int
structure Df where
  fr : Int
  tt : Int
  dr : List Ru
  ad : List Ru
  rv : List Int
theorem insU_length (r : Ru) : ∀ l : List Ru, (insU r l).length ≤ l.length + 1
  | [] => by simp [insU]
  | x :: xs => by
    have := insU_length r xs
    unfold insU
    split
    · simp; omega
    · split <;> simp
def Sn.none : Sn := ⟨0, [], []⟩
def Df.none : Df := ⟨0, 0, [], [], []⟩
def numB (n : Int) : Bool := decide (1 ≤ n ∧ n ≤ 100000)
def fewB (zs : List Int) : Bool := decide (zs.length ≤ 200) && okN 100001 zs
/-- A version is good. -/
def snB (s : Sn) : Bool := numB s.num && (polB s.pol && (sameS (plX s.pol) s.pol && (fewB s.rv && upN s.rv)))
theorem snB_no1 {s : Sn} (h : numB s.num = false) : snB s = false := by unfold snB; rw [h]; rfl
theorem snB_no2 {s : Sn} (h : polB s.pol = false) : snB s = false := by unfold snB; rw [h]; simp
theorem snB_no3 {s : Sn} (h : sameS (plX s.pol) s.pol = false) : snB s = false := by unfold snB; rw [h]; simp
theorem snB_no4 {s : Sn} (h : fewB s.rv = false) : snB s = false := by unfold snB; rw [h]; simp
theorem snB_no5 {s : Sn} (h : upN s.rv = false) : snB s = false := by unfold snB; rw [h]; simp
theorem snB_yes {s : Sn} (h1 : numB s.num = true) (h2 : polB s.pol = true) (h3 : sameS (plX s.pol) s.pol = true) (h4 : fewB s.rv = true) (h5 : upN s.rv = true) : snB s = true := by
  unfold snB; rw [h1, h2, h3, h4, h5]; rfl
theorem snB_parts {s : Sn} (h : snB s = true) : numB s.num = true ∧ polB s.pol = true ∧ sameS (plX s.pol) s.pol = true ∧ fewB s.rv = true ∧ upN s.rv = true := by
  unfold snB at h
  simpa [Bool.and_eq_true] using h
theorem snB_num {s : Sn} (h : snB s = true) : 1 ≤ s.num ∧ s.num ≤ 100000 := of_decide_eq_true (snB_parts h).1
theorem fewB_len {zs : List Int} (h : fewB zs = true) : zs.length ≤ 200 := by
  unfold fewB at h
  rw [Bool.and_eq_true] at h
  exact of_decide_eq_true h.1
theorem fewB_ok {zs : List Int} (h : fewB zs = true) : okN 100001 zs = true := by
  unfold fewB at h
  rw [Bool.and_eq_true] at h
  exact h.2
theorem fewB_no1 {zs : List Int} (h : ¬ zs.length ≤ 200) : fewB zs = false := by unfold fewB; rw [decide_eq_false h]; rfl
theorem fewB_no2 {zs : List Int} (h : okN 100001 zs = false) : fewB zs = false := by unfold fewB; rw [h]; simp
theorem fewB_yes {zs : List Int} (h1 : zs.length ≤ 200) (h2 : okN 100001 zs = true) : fewB zs = true := by unfold fewB; rw [decide_eq_true h1, h2]; rfl

theorem plX_len {rs : List Ru} (h : rs.length ≤ 1048577) : (plX rs).length ≤ 1048577 := by
  unfold plX
  split
  · have hl : ∀ k, k ≤ rs.length → (plTo rs k).length ≤ k := fun k => by
      induction k with
      | zero => intro _; simp [plTo]
      | succ k ih =>
        intro hk
        rw [plTo_succ (by omega)]
        have := insU_length (rs[k]'(by omega)) (plTo rs k)
        have := ih (by omega)
        omega
    exact Nat.le_trans (hl _ (Nat.le_refl _)) h
  · exact Nat.zero_le _

/-- Whether the one at i has the number behind the one ahead of it. -/
def nexB (ss : List Sn) (i : Nat) : Bool := match i with
  | 0 => true
  | i + 1 => match ss[i]?, ss[i + 1]? with
    | some a, some b => b.num == a.num + 1
    | _, _ => true
theorem nexB_succ {ss : List Sn} {i : Nat} (h : i + 1 < ss.length) : nexB ss (i + 1) = (ss[i + 1].num == ss[i].num + 1) := by
  simp only [nexB]
  rw [List.getElem?_eq_getElem h, List.getElem?_eq_getElem (by omega)]
def gdB (ss : List Sn) (i : Nat) : Bool := match ss[i]? with
  | some s => snB s
  | Option.none => true
theorem gdB_at {ss : List Sn} {i : Nat} (h : i < ss.length) : gdB ss i = snB ss[i] := by
  unfold gdB
  rw [List.getElem?_eq_getElem h]
def allB (ss : List Sn) : Bool := (List.range ss.length).all (fun i => gdB ss i && nexB ss i)
/-- A list of versions is good. -/
def lsB (ss : List Sn) : Bool := decide (ss.length ≤ 20) && allB ss
theorem lsB_no1 {ss : List Sn} (h : ¬ ss.length ≤ 20) : lsB ss = false := by unfold lsB; rw [decide_eq_false h]; rfl
theorem lsB_no2 {ss : List Sn} {i : Nat} (h : i < ss.length) (hb : gdB ss i = false) : lsB ss = false := by
  unfold lsB allB
  rw [Bool.and_eq_false_iff]
  exact .inr (List.all_eq_false.2 ⟨i, List.mem_range.2 h, by rw [hb]; simp⟩)
theorem lsB_no3 {ss : List Sn} {i : Nat} (h : i < ss.length) (hb : nexB ss i = false) : lsB ss = false := by
  unfold lsB allB
  rw [Bool.and_eq_false_iff]
  exact .inr (List.all_eq_false.2 ⟨i, List.mem_range.2 h, by rw [hb]; simp⟩)
theorem lsB_yes {ss : List Sn} (h1 : ss.length ≤ 20) (h : ∀ i, i < ss.length → gdB ss i = true ∧ nexB ss i = true) : lsB ss = true := by
  unfold lsB allB
  rw [decide_eq_true h1, Bool.true_and]
  exact List.all_eq_true.2 fun i hi => by have := h i (List.mem_range.1 hi); rw [this.1, this.2]; rfl
theorem lsB_all {ss : List Sn} (h : lsB ss = true) : ss.length ≤ 20 ∧ ∀ i, i < ss.length → gdB ss i = true ∧ nexB ss i = true := by
  unfold lsB allB at h
  rw [Bool.and_eq_true, List.all_eq_true] at h
  refine ⟨of_decide_eq_true h.1, fun i hi => ?_⟩
  have := h.2 i (List.mem_range.2 hi)
  rw [Bool.and_eq_true] at this
  exact this
theorem lsB_mem {ss : List Sn} (h : lsB ss = true) : ∀ s ∈ ss, snB s = true := fun s hs => by
  obtain ⟨i, hi, rfl⟩ := List.getElem_of_mem hs
  have := ((lsB_all h).2 i hi).1
  rwa [gdB_at hi] at this
/-- The numbers of a list of versions. -/
def vN (ss : List Sn) : List Int := ss.map Sn.num
theorem vN_len (ss : List Sn) : (vN ss).length = ss.length := List.length_map _
theorem vN_at {ss : List Sn} {i : Nat} (h : i < (vN ss).length) : (vN ss)[i] = (ss[i]'(by rw [← vN_len ss]; exact h)).num := by simp [vN]
theorem lsB_up {ss : List Sn} (h : lsB ss = true) : upN (vN ss) = true := by
  refine upN_yes fun i hi => ?_
  rw [vN_len] at hi
  cases i with
  | zero => rfl
  | succ i =>
    rw [upI_succ (by rw [vN_len]; exact hi), vN_at, vN_at]
    have := ((lsB_all h).2 (i + 1) hi).2
    rw [nexB_succ hi] at this
    have := eq_of_beq this
    exact decide_eq_true (by omega)
/-- Among rising numbers a number stands where it is. -/
theorem up_at {zs : List Int} {n : Int} {k : Nat} (hu : upN zs = true) (hk : k < zs.length) (he : zs[k] = n) : atN zs n = k ∧ hasN zs n = true := by
  have h1 : atN zs n = k := by
    rcases Nat.lt_trichotomy (atN zs n) k with h | h | h
    · have h2 := atN_at (zs := zs) (n := n) (k := atN zs n) (by omega) rfl
      have h3 := up_lt hu _ _ h hk
      omega
    · exact h
    · have := atN_lt (zs := zs) (n := n) hk h
      omega
  refine ⟨h1, ?_⟩
  rw [hasN_at (by rw [h1]; exact hk)]
  simp only [h1, he, beq_self_eq_true]
theorem up_none {zs : List Int} {n : Int} (hu : upN zs = true) (h : ∀ k (hk : k < zs.length), zs[k] ≠ n) : hasN zs n = false := by
  rw [← isI_hasN hu]
  unfold isI
  rw [List.any_eq_false]
  intro x hx he
  obtain ⟨i, hi, rfl⟩ := List.getElem_of_mem hx
  exact h i hi (eq_of_beq he)
theorem hasN_lt {zs : List Int} {n : Int} (h : hasN zs n = true) : atN zs n < zs.length := by
  rcases Nat.lt_or_ge (atN zs n) zs.length with h1 | h1
  · exact h1
  · rw [hasN_end (by omega)] at h
    cases h
/-- Whether a list is good and has a number. -/
def thB (ss : List Sn) (n : Int) : Bool := lsB ss && hasN (vN ss) n
/-- What SnapshotAt and CompactTo tell. -/
def saX (ss : List Sn) (n : Int) : Sn := if thB ss n = true then (ss[atN (vN ss) n]?).getD Sn.none else Sn.none
def ctX (ss : List Sn) (n : Int) : List Sn := if thB ss n = true then ss.drop (atN (vN ss) n) else []
theorem saX_no {ss : List Sn} {n : Int} (h : thB ss n = false) : saX ss n = Sn.none := if_neg (by rw [h]; exact Bool.false_ne_true)
theorem ctX_no {ss : List Sn} {n : Int} (h : thB ss n = false) : ctX ss n = [] := if_neg (by rw [h]; exact Bool.false_ne_true)
theorem saX_yes {ss : List Sn} {n : Int} {k : Nat} (h : thB ss n = true) (hk : k < ss.length) (he : atN (vN ss) n = k) : saX ss n = ss[k] := by
  unfold saX
  rw [if_pos h, he, List.getElem?_eq_getElem hk]
  rfl
theorem ctX_yes {ss : List Sn} {n : Int} {k : Nat} (h : thB ss n = true) (he : atN (vN ss) n = k) : ctX ss n = ss.drop k := by
  unfold ctX
  rw [if_pos h, he]
/-- The number behind the last one's. -/
def nxN (ss : List Sn) : Int := match ss.getLast? with
  | some s => s.num + 1
  | Option.none => 1
/-- What PutSnapshot tells. -/
def nwS (ss : List Sn) (rs : List Ru) (zs : List Int) : Sn := ⟨nxN ss, plX rs, srN zs⟩
def puB (ss : List Sn) (rs : List Ru) (zs : List Int) : Bool := (lsB ss && (polB rs && fewB zs)) && snB (nwS ss rs zs)
def puX (ss : List Sn) (rs : List Ru) (zs : List Int) : List Sn := if puB ss rs zs = true then (ss ++ [nwS ss rs zs]).drop (ss.length + 1 - 20) else []

/-- Rules and numbers that others have not. -/
def hasR (b : List Ru) (r : Ru) : Bool := b.any (fun y => r.same y)
def woR (a b : List Ru) : List Ru := a.filter (fun r => !(hasR b r))
def woRT (a b : List Ru) (k : Nat) : List Ru := (a.take k).filter (fun r => !(hasR b r))
def woN (a b : List Int) : List Int := a.filter (fun z => !(isI b z))
def woNT (a b : List Int) (k : Nat) : List Int := (a.take k).filter (fun z => !(isI b z))
theorem woRT_zero (a b : List Ru) : woRT a b 0 = [] := by simp [woRT]
theorem woNT_zero (a b : List Int) : woNT a b 0 = [] := by simp [woNT]
theorem woRT_end (a b : List Ru) : woRT a b a.length = woR a b := by unfold woRT woR; rw [List.take_length]
theorem woNT_end (a b : List Int) : woNT a b a.length = woN a b := by unfold woNT woN; rw [List.take_length]
theorem woRT_yes {a b : List Ru} {k : Nat} (h : k < a.length) (hb : hasR b a[k] = true) : woRT a b (k + 1) = woRT a b k := by
  unfold woRT
  rw [List.take_succ_eq_append_getElem h, List.filter_append]
  simp [hb]
theorem woRT_no {a b : List Ru} {k : Nat} (h : k < a.length) (hb : hasR b a[k] = false) : woRT a b (k + 1) = woRT a b k ++ [a[k]] := by
  unfold woRT
  rw [List.take_succ_eq_append_getElem h, List.filter_append]
  simp [hb]
theorem woNT_yes {a b : List Int} {k : Nat} (h : k < a.length) (hb : isI b a[k] = true) : woNT a b (k + 1) = woNT a b k := by
  unfold woNT
  rw [List.take_succ_eq_append_getElem h, List.filter_append]
  simp [hb]
theorem woNT_no {a b : List Int} {k : Nat} (h : k < a.length) (hb : isI b a[k] = false) : woNT a b (k + 1) = woNT a b k ++ [a[k]] := by
  unfold woNT
  rw [List.take_succ_eq_append_getElem h, List.filter_append]
  simp [hb]
theorem woRT_len (a b : List Ru) (k : Nat) : (woRT a b k).length ≤ k := Nat.le_trans (List.length_filter_le _ _) (by rw [List.length_take]; omega)
theorem woNT_len (a b : List Int) (k : Nat) : (woNT a b k).length ≤ k := Nat.le_trans (List.length_filter_le _ _) (by rw [List.length_take]; omega)
theorem woR_len (a b : List Ru) : (woR a b).length ≤ a.length := List.length_filter_le _ _
theorem woN_len (a b : List Int) : (woN a b).length ≤ a.length := List.length_filter_le _ _
theorem woR_mem {a b : List Ru} {r : Ru} (h : r ∈ woR a b) : r ∈ a := (List.mem_filter.1 h).1
/-- What DiffOf tells. -/
def dfB (a b : Sn) : Bool := (snB a && (snB b && decide (a.num < b.num))) && (woN a.rv b.rv).isEmpty
def dfX (a b : Sn) : Df := if dfB a b = true then ⟨a.num, b.num, woR a.pol b.pol, woR b.pol a.pol, woN b.rv a.rv⟩ else Df.none
theorem dfX_no {a b : Sn} (h : dfB a b = false) : dfX a b = Df.none := if_neg (by rw [h]; exact Bool.false_ne_true)
theorem dfX_yes {a b : Sn} (h : dfB a b = true) : dfX a b = ⟨a.num, b.num, woR a.pol b.pol, woR b.pol a.pol, woN b.rv a.rv⟩ := if_pos h

end Go.Proofs.YtoaeckcenobfcaaGreat

namespace Go.Proofs.YtoaeckcenobfcaaGreat
open Go.RowKit Go.Shelf

end Go.Proofs.YtoaeckcenobfcaaGreat

namespace Go.Proofs.YtoaeckcenobfcaaGreat
open Go.RowKit Go.Shelf

/-- Lists that can be read, by an address or none at all. -/
def RuR (w : World) (v : Value) (rs : List Ru) : Prop :=
  (v = .slice none 0 0 ∧ rs = []) ∨ ∃ b off cap, v = .slice (some ⟨b, off, none⟩) rs.length cap ∧ b < w.heap.size ∧ rs.length ≤ cap ∧ ∀ k (h : k < rs.length), RuAt w b (off + k * 4) rs[k]
def NuR (w : World) (v : Value) (zs : List Int) : Prop :=
  (v = .slice none 0 0 ∧ zs = []) ∨ ∃ b off cap, v = .slice (some ⟨b, off, none⟩) zs.length cap ∧ b < w.heap.size ∧ zs.length ≤ cap ∧ ∀ k (h : k < zs.length), w.cell? ⟨b, off + k, none⟩ = some (.int .i64 zs[k])
theorem RuR.s {w : World} {v : Value} {rs : List Ru} (h : RuR w v rs) : RuS w v rs := by
  rcases h with ⟨rfl, rfl⟩ | h
  · exact .inl ⟨_, _, rfl, rfl⟩
  · exact .inr h
theorem NuR.s {w : World} {v : Value} {zs : List Int} (h : NuR w v zs) : VS w v (nums zs) := by
  rcases h with ⟨rfl, rfl⟩ | ⟨b, off, cap, rfl, hb, hl, hc⟩
  · exact .inl ⟨_, _, rfl, rfl⟩
  · refine .inr ⟨b, off, cap, by rw [nums_len], hb, by rw [nums_len]; exact hl, fun k hk => ?_⟩
    rw [nums_len] at hk
    rw [hc k hk]
    simp [nums]
theorem RuR.below {w w' : World} {v : Value} {rs : List Ru} (h : RuR w v rs) (hB : Below w.heap.size w w') : RuR w' v rs := by
  rcases h with h | ⟨b, off, cap, hv, hb, hl, hc⟩
  · exact .inl h
  · exact .inr ⟨b, off, cap, hv, Nat.lt_of_lt_of_le hb hB.size, hl, fun k hk => (hc k hk).below hb hB⟩
theorem NuR.below {w w' : World} {v : Value} {zs : List Int} (h : NuR w v zs) (hB : Below w.heap.size w w') : NuR w' v zs := by
  rcases h with h | ⟨b, off, cap, hv, hb, hl, hc⟩
  · exact .inl h
  · exact .inr ⟨b, off, cap, hv, Nat.lt_of_lt_of_le hb hB.size, hl, fun k hk => (hB.cell (p := ⟨b, off + k, none⟩) hb).trans (hc k hk)⟩
theorem RuR.len {w : World} {v : Value} {rs : List Ru} (h : RuR w v rs) : ∃ a cap, v = .slice a rs.length cap := h.s.len
theorem NuR.len {w : World} {v : Value} {zs : List Int} (h : NuR w v zs) : ∃ a cap, v = .slice a zs.length cap := h.s.numLen
theorem RuR.own {w : World} {base : Nat} {v : Value} {rs : List Ru} (h : w.ownsRow base 41 4 v rs.length (rs.flatMap Ru.cells)) : RuR w v rs := by
  have hs := RuS.own h
  rcases row_form h with ⟨rfl, h0⟩ | ⟨g, cap, rfl, _, hc⟩
  · exact .inl ⟨rfl, List.eq_nil_of_length_eq_zero h0⟩
  · refine .inr ⟨g, 0, cap, rfl, (h.lt g rfl).2, hc, fun k hk => ?_⟩
    obtain ⟨b, off, hbo, _, _, hat⟩ := hs.at hk
    cases hbo
    exact hat
theorem NuR.own {w : World} {base : Nat} {v : Value} {zs : List Int} (h : w.ownsRow base 3 1 v zs.length (nums zs)) : NuR w v zs := by
  rcases row_form h with ⟨rfl, h0⟩ | ⟨g, cap, rfl, _, hc⟩
  · exact .inl ⟨rfl, List.eq_nil_of_length_eq_zero h0⟩
  · refine .inr ⟨g, 0, cap, rfl, (h.lt g rfl).2, hc, fun k hk => ?_⟩
    rw [Nat.zero_add, h.cellAt k (by omega)]
    simp [nums, hk]
/-- All cells of a list of rules, one behind the other. -/
theorem RuR.flat {w : World} {b off : Nat} {rs : List Ru} (hc : ∀ k (h : k < rs.length), RuAt w b (off + k * 4) rs[k]) : ∀ j u, (rs.flatMap Ru.cells)[j]? = some u → w.cell? ⟨b, off + j, none⟩ = some u := by
  intro j u hu
  have hj : j < rs.length * 4 := by rw [← flat_len]; exact (List.getElem?_eq_some_iff.1 hu).1
  have hk : j / 4 < rs.length := by omega
  have hm : j % 4 < 4 := Nat.mod_lt _ (by omega)
  have e : j = j / 4 * 4 + j % 4 := by omega
  rw [e, flat_at rs _ _ hk hm] at hu
  obtain ⟨h0, h1, h2, h3⟩ := hc (j / 4) hk
  rw [show off + j = off + j / 4 * 4 + j % 4 by omega]
  obtain h | h | h | h : j % 4 = 0 ∨ j % 4 = 1 ∨ j % 4 = 2 ∨ j % 4 = 3 := by omega
  all_goals rw [h] at hu ⊢
  · simp at hu; rw [← hu]; exact h0
  · simp at hu; rw [← hu]; exact h1
  · simp at hu; rw [← hu]; exact h2
  · simp at hu; rw [← hu]; exact h3

/-- A version in memory. -/
def SnA (w : World) (v : Value) (s : Sn) : Prop := ∃ vp vr, v = .agg #[.int .i64 s.num, vp, vr] ∧ RuS w vp s.pol ∧ VS w vr (nums s.rv)
def SnR (w : World) (v : Value) (s : Sn) : Prop := ∃ vp vr, v = .agg #[.int .i64 s.num, vp, vr] ∧ RuR w vp s.pol ∧ NuR w vr s.rv
/-- .. of one's own: its lists lie in blocks from base on, below top. -/
def SnO (w : World) (base top : Nat) (v : Value) (s : Sn) : Prop :=
  ∃ vp vr, v = .agg #[.int .i64 s.num, vp, vr] ∧ w.ownsRow base 41 4 vp s.pol.length (s.pol.flatMap Ru.cells) ∧ w.ownsRow base 3 1 vr s.rv.length (nums s.rv) ∧ (∀ k, vp.ownBlock = some k → k < top) ∧ ∀ k, vr.ownBlock = some k → k < top
theorem SnA.below {w w' : World} {v : Value} {s : Sn} (h : SnA w v s) (hB : Below w.heap.size w w') : SnA w' v s := by
  obtain ⟨vp, vr, rfl, h1, h2⟩ := h
  exact ⟨_, _, rfl, h1.below hB, h2.below hB⟩
theorem SnR.below {w w' : World} {v : Value} {s : Sn} (h : SnR w v s) (hB : Below w.heap.size w w') : SnR w' v s := by
  obtain ⟨vp, vr, rfl, h1, h2⟩ := h
  exact ⟨_, _, rfl, h1.below hB, h2.below hB⟩
theorem SnO.below {w w' : World} {base top : Nat} {v : Value} {s : Sn} (h : SnO w base top v s) (hB : Below w.heap.size w w') : SnO w' base top v s := by
  obtain ⟨vp, vr, rfl, h1, h2, t1, t2⟩ := h
  exact ⟨vp, vr, rfl, ownsRow_below h1 hB, ownsRow_below h2 hB, t1, t2⟩
theorem SnR.a {w : World} {v : Value} {s : Sn} (h : SnR w v s) : SnA w v s := by
  obtain ⟨vp, vr, rfl, h1, h2⟩ := h
  exact ⟨_, _, rfl, h1.s, h2.s⟩
theorem SnO.r {w : World} {base top : Nat} {v : Value} {s : Sn} (h : SnO w base top v s) : SnR w v s := by
  obtain ⟨vp, vr, rfl, h1, h2, _⟩ := h
  exact ⟨_, _, rfl, RuR.own h1, NuR.own h2⟩
theorem SnO.a {w : World} {base top : Nat} {v : Value} {s : Sn} (h : SnO w base top v s) : SnA w v s := h.r.a
theorem SnO.of {w : World} {base : Nat} {vp vr : Value} {s : Sn} (h1 : w.ownsRow base 41 4 vp s.pol.length (s.pol.flatMap Ru.cells)) (h2 : w.ownsRow base 3 1 vr s.rv.length (nums s.rv)) : SnO w base w.heap.size (.agg #[.int .i64 s.num, vp, vr]) s :=
  ⟨vp, vr, rfl, h1, h2, fun k hk => (h1.lt k hk).2, fun k hk => (h2.lt k hk).2⟩
theorem SnO.mono {w : World} {base base' top top' : Nat} {v : Value} {s : Sn} (h : SnO w base top v s) (hb : base' ≤ base) (ht : top ≤ top') : SnO w base' top' v s := by
  obtain ⟨vp, vr, rfl, h1, h2, t1, t2⟩ := h
  exact ⟨vp, vr, rfl, Go.Joins.ownsRow_le h1 hb, Go.Joins.ownsRow_le h2 hb, fun k hk => Nat.lt_of_lt_of_le (t1 k hk) ht, fun k hk => Nat.lt_of_lt_of_le (t2 k hk) ht⟩
theorem Mid.sno {lo hi : Nat} {w w1 : World} (h : Mid lo hi w w1) {base top : Nat} {v : Value} {s : Sn} (hr : SnO w base top v s) (ho : hi ≤ base ∨ top ≤ lo) : SnO w1 base top v s := by
  obtain ⟨vp, vr, rfl, h1, h2, t1, t2⟩ := hr
  exact ⟨vp, vr, rfl, h.row h1 (fun k hk => by have := h1.lt k hk; have := t1 k hk; omega), h.row h2 (fun k hk => by have := h2.lt k hk; have := t2 k hk; omega), t1, t2⟩
def Sn.fits (s : Sn) : Prop := s.pol.length ≤ maxLen ∧ (∀ r ∈ s.pol, r.fits) ∧ s.rv.length ≤ maxLen
/-- What the laws count of a version. -/
def Sn.size (s : Sn) : Nat := szAll s.pol + s.rv.length
def leftV (n : Int) (s : Sn) : Int := if (s.size : Int) ≤ n then n - s.size else -1
/-- No list of it is longer than the laws take, and no rule greater. -/
def Sn.short (s : Sn) : Prop := s.pol.length ≤ 1048576 ∧ s.rv.length ≤ 1048576 ∧ ∀ r ∈ s.pol, r.size ≤ 1048576
theorem Sn.short_of {s : Sn} (h : s.size ≤ 1048576) : s.short := by
  unfold Sn.size szAll at h
  exact ⟨by omega, by omega, fun r hr => by have := sz_mem hr; omega⟩
theorem sn_forms {w : World} {v : Value} {s : Sn} (h : SnA w v s) : ∃ ap cp ar cr, v = .agg #[.int .i64 s.num, .slice ap s.pol.length cp, .slice ar s.rv.length cr] := by
  obtain ⟨vp, vr, rfl, h1, h2⟩ := h
  obtain ⟨ap, cp, rfl⟩ := h1.len
  obtain ⟨ar, cr, rfl⟩ := h2.numLen
  exact ⟨_, _, _, _, rfl⟩

/-- What lies in a version that was marked. -/
def mkSn (k : Nat) (s : Sn) : Sn := ⟨s.num, mkL k s.pol.length, mkN (k + 4 * s.pol.length) s.rv.length⟩
def Sn.many (s : Sn) : Nat := 4 * s.pol.length + s.rv.length

end Go.Proofs.YtoaeckcenobfcaaGreat

namespace Go.Proofs.YtoaeckcenobfcaaGreat
open Go.RowKit Go.Shelf

set_option maxHeartbeats 1000000 in
theorem l1Has_any (v : Value) (zs : List Int) (z : Int) (w : World) (hm : zs.length ≤ 1048577) (hr : VS w v (nums zs)) :
    Calls Tryz.prog 28 #[v, .int .i64 z] w fun e w' => e = .returned (.bool (isI zs z)) ∧ w' = w := by
  obtain ⟨a, cap, rfl⟩ := hr.numLen
  go_enter Tryz.func28, Tryz.ntmps28
  go_wp2
  go_loop [9] (fun i => ∃ n : Nat, n ≤ zs.length ∧ i = .int .i64 n ∧ isTo zs z n = false) (fun i => zs.length - (intOf i).toNat)
  case atStart => exact ⟨0, Nat.zero_le _, rfl, isTo_zero _ _⟩
  case round =>
    obtain ⟨n, hn, rfl, ht⟩ := hrel
    have HT := hid ht
    clear ht
    by_cases hlt : n < zs.length
    · obtain ⟨b, off, rfl, hb, hcap, q0⟩ := hr.num hlt
      have HS := hid (isTo_succ (z := z) hlt)
      have HY := hid (fun h => isI_yes (z := z) hlt h)
      generalize zs[n] = x at *
      cases he : (x == z)
      · have HR := hid (show isTo zs z (n + 1) = false by rw [HS.out, HT.out, he]; rfl)
        go_wp2
        exact ⟨⟨n + 1, by omega, by go_num, HR.out⟩, by simp [intOf]; omega⟩
      · have HR := hid (HY.out he)
        go_wp2
        go_ret
        exact ⟨ret_bool HR.out.symm, rfl⟩
    · obtain rfl : n = zs.length := by omega
      have HR := hid (show isI zs z = false by rw [← isI_end, HT.out])
      go_wp2
      go_ret
      exact ⟨ret_bool HR.out.symm, rfl⟩

theorem contains_isI (zs : List Int) (z : Int) : zs.contains z = isI zs z := by
  rw [Bool.eq_iff_iff]
  unfold isI
  rw [List.any_eq_true, List.contains_iff_mem]
  constructor
  · intro h
    exact ⟨z, h, by simp⟩
  · rintro ⟨x, hx, he⟩
    have : x = z := by simpa using he
    rw [← this]
    exact hx

theorem contI_any (v : Value) (zs : List Int) (z : Int) (w : World) (hm : zs.length ≤ 1048577) (hr : VS w v (nums zs)) :
    Calls Tryz.prog 55 #[v, .int .i64 z] w fun e w' => e = .returned (.bool (isI zs z)) ∧ w' = w := by
  rcases hr with ⟨a, cap, rfl, h0⟩ | ⟨b, off, cap, rfl, hb, hl, hc⟩
  · have : zs = [] := by simpa [nums] using h0
    subst this
    exact Any.slices_Contains_int_empty Tryz.lays107 a cap z w
  · have h := Any.slices_Contains_int Tryz.lays107 b off zs.length cap zs z w (Nat.le_refl _) (by omega) (fun j hj => by
      have := hc j (by rw [nums_len]; exact hj)
      rw [this]
      simp [nums, hj])
    rw [List.take_length, contains_isI] at h
    rw [nums_len]
    exact h

end Go.Proofs.YtoaeckcenobfcaaGreat

namespace Go.Proofs.YtoaeckcenobfcaaGreat
open Go.RowKit Go.Shelf

instance : Inhabited Ru := ⟨⟨false, ByteArray.empty, ByteArray.empty, ByteArray.empty⟩⟩
theorem eqAt_ru : EqlAt Tryz.prog 41 (fun r : Ru => .agg r.cells.toArray) Ru.same := ⟨fun x y w => eql_ru x y w, GuardAt.agg _ (by kernel_rfl)⟩
theorem neAt_ru : NeqAt Tryz.prog 41 (fun r : Ru => .agg r.cells.toArray) Ru.same := ⟨fun x y w => neq_ru x y w, GuardAt.agg _ (by kernel_rfl)⟩
theorem allEq_same : ∀ rs ss : List Ru, Lib.allEq Ru.same rs ss = sameS rs ss
  | [], [] => rfl
  | [], s :: ss => by simp [Lib.allEq, sameS]
  | r :: rs, [] => by simp [Lib.allEq, sameS]
  | r :: rs, s :: ss => by
    rw [Lib.allEq, allEq_same rs ss]
    unfold sameS
    simp only [List.length_cons, List.zip_cons_cons, List.all_cons]
    by_cases h : rs.length = ss.length
    · rw [decide_eq_true h, decide_eq_true (by omega)]
      simp
    · rw [decide_eq_false h, decide_eq_false (by omega)]
      simp
theorem cells_at {w : World} {b off : Nat} {rs : List Ru} (hc : ∀ k (h : k < rs.length), RuAt w b (off + k * 4) rs[k]) : ∀ j, j < rs.length → ∀ i v, (Ru.cells rs[j]!)[i]? = some v → w.cell? ⟨b, off + j * 4 + i, none⟩ = some v := by
  intro j hj i v hv
  have e : rs[j]! = rs[j] := by simp [getElem!_def, List.getElem?_eq_getElem hj]
  rw [e] at hv
  obtain ⟨h0, h1, h2, h3⟩ := hc j hj
  have hi : i < 4 := by
    have := (List.getElem?_eq_some_iff.1 hv).1
    simpa using this
  obtain rfl | rfl | rfl | rfl : i = 0 ∨ i = 1 ∨ i = 2 ∨ i = 3 := by omega
  · simp at hv; rw [← hv]; exact h0
  · simp at hv; rw [← hv]; exact h1
  · simp at hv; rw [← hv]; exact h2
  · simp at hv; rw [← hv]; exact h3
theorem same_len {rs ss : List Ru} (h : rs.length ≠ ss.length) : sameS rs ss = false := by
  unfold sameS
  rw [decide_eq_false h]
  rfl

set_option maxHeartbeats 1000000 in
/-- No rules, held against some: by their number alone. -/
theorem equalRu_nil (a a' : Option Addr) (n c c' : Nat) (w : World) (hn : n ≤ 1048577) :
    Calls Tryz.prog 51 #[.slice a 0 c, .slice a' n c'] w fun e w' => e = .returned (.bool (decide (n = 0))) ∧ w' = w := by
  by_cases h : n = 0
  · subst h
    go_enter Tryz.func51, Tryz.ntmps51
    go_wp2
    refine wp_loop_rounds 1 ?_
    rw [rounds_succ]
    go_wp2
    go_ret
    exact ⟨rfl, rfl⟩
  · have e0 : ((0 : Int) != (n : Int)) = true := by simp; omega
    go_enter Tryz.func51, Tryz.ntmps51
    go_wp2
    go_ret
    exact ⟨by simp [h], rfl⟩

set_option maxHeartbeats 1000000 in
theorem equalRu_other (a a' : Option Addr) (n m c c' : Nat) (w : World) (_hn : n ≤ 1048577) (_hm : m ≤ 1048577) (hne : n ≠ m) :
    Calls Tryz.prog 51 #[.slice a n c, .slice a' m c'] w fun e w' => e = .returned (.bool false) ∧ w' = w := by
  have e0 : ((n : Int) != (m : Int)) = true := by simp; omega
  go_enter Tryz.func51, Tryz.ntmps51
  go_wp2
  go_ret
  exact ⟨rfl, rfl⟩

theorem equalRu_any (v v' : Value) (rs ss : List Ru) (w : World) (hm : rs.length ≤ 1048577) (hm' : ss.length ≤ 1048577) (hr : RuR w v rs) (hr' : RuR w v' ss) :
    Calls Tryz.prog 51 #[v, v'] w fun e w' => e = .returned (.bool (sameS rs ss)) ∧ Below w.heap.size w w' := by
  by_cases hl : rs.length = ss.length
  · rcases hr with ⟨rfl, rfl⟩ | ⟨b, off, cap, rfl, hb, hle, hc⟩
    · have h0 : ss = [] := List.eq_nil_of_length_eq_zero hl.symm
      subst h0
      obtain ⟨a', c', rfl⟩ := hr'.len
      refine (equalRu_nil none a' 0 0 c' w (by omega)).mono ?_
      rintro e w1 ⟨rfl, rfl⟩
      exact ⟨rfl, Below.refl _ _⟩
    · rcases hr' with ⟨rfl, rfl⟩ | ⟨b', off', cap', rfl, hb', hle', hc'⟩
      · have h0 : rs = [] := List.eq_nil_of_length_eq_zero hl
        subst h0
        refine (equalRu_nil _ none 0 cap 0 w (by omega)).mono ?_
        rintro e w1 ⟨rfl, rfl⟩
        exact ⟨rfl, Below.refl _ _⟩
      · have h := AnyQ.slices_Equal Tryz.equalRu 4 Tryz.isAgg41 Tryz.sizeOf41 Ru.cells (fun _ => rfl) Ru.same neAt_ru b off rs.length cap b' off' ss.length cap' rs ss w (Nat.le_refl _) (Nat.le_refl _) (by omega) (by omega) (cells_at hc) (cells_at hc')
        refine h.mono ?_
        rintro e w1 ⟨rfl, q, rfl⟩
        rw [List.take_length, List.take_length, allEq_same]
        exact ⟨rfl, below_drewn (Below.refl _ _) q⟩
  · obtain ⟨a, c, rfl⟩ := hr.len
    obtain ⟨a', c', rfl⟩ := hr'.len
    refine (equalRu_other a a' _ _ c c' w hm hm' hl).mono ?_
    rintro e w1 ⟨rfl, rfl⟩
    rw [same_len hl]
    exact ⟨rfl, Below.refl _ _⟩

set_option maxHeartbeats 1000000 in
theorem indexRu_nil (a : Option Addr) (c : Nat) (r : Ru) (w : World) :
    Calls Tryz.prog 93 #[.slice a 0 c, r.val] w fun e w' => e = .returned (.int .i64 (-1)) ∧ Below w.heap.size w w' := by
  go_enter Tryz.func93, Tryz.ntmps93
  go_wp2
  refine wp_loop_rounds 1 ?_
  rw [rounds_succ]
  go_wp2
  go_ret
  exact ⟨rfl, (Below.refl _ w).alloc (Nat.le_refl _) _⟩

set_option maxHeartbeats 1000000 in
theorem contRu_nil (a : Option Addr) (c : Nat) (r : Ru) (w : World) :
    Calls Tryz.prog 56 #[.slice a 0 c, r.val] w fun e w' => e = .returned (.bool false) ∧ Below w.heap.size w w' := by
  have hB0 : Below w.heap.size w (w.alloc (.cells #[.bool r.deny, .string r.who, .string r.method, .string r.path] 41)) := (Below.refl _ w).alloc (Nat.le_refl _) _
  go_enter Tryz.func56, Tryz.ntmps56
  go_wp2_with fail
  refine (indexRu_nil a c r _).mono ?_
  rintro e w1 ⟨rfl, hB1⟩
  go_wp2_with fail
  go_ret
  exact ⟨rfl, below_one hB0 hB1⟩

theorem contRu_any (v : Value) (rs : List Ru) (r : Ru) (w : World) (hm : rs.length ≤ 1048577) (hr : RuR w v rs) :
    Calls Tryz.prog 56 #[v, r.val] w fun e w' => e = .returned (.bool (hasR rs r)) ∧ Below w.heap.size w w' := by
  rcases hr with ⟨rfl, rfl⟩ | ⟨b, off, cap, rfl, hb, hle, hc⟩
  · exact contRu_nil none 0 r w
  · have h := AnyQ.slices_Contains Tryz.contRu 4 Tryz.isAgg41 Tryz.sizeOf41 Ru.cells (fun _ => rfl) Ru.same eqAt_ru b off rs.length cap rs r w (Nat.le_refl _) (by omega) (cells_at hc)
    rw [List.take_length] at h
    exact h

theorem cloneRu_any (v : Value) (rs : List Ru) (w : World) (hm : rs.length ≤ 1048577) (hr : RuR w v rs) :
    Calls Tryz.prog 63 #[v] w fun e w' => ∃ v', e = .returned v' ∧ w'.ownsRow w.heap.size 41 4 v' rs.length (rs.flatMap Ru.cells) ∧ (v = .slice none 0 0 ∨ v' ≠ .slice none 0 0) ∧ Below w.heap.size w w' := by
  rcases hr with ⟨rfl, rfl⟩ | ⟨b, off, cap, rfl, hb, hle, hc⟩
  · refine (cloneRules_nil 0 0 w).mono ?_
    rintro e w1 ⟨rfl, rfl⟩
    exact ⟨_, rfl, World.ownsRow_nil _ _ _ _, .inl rfl, Below.refl _ _⟩
  · obtain ⟨i0, hi, hz0, hz1, hz2⟩ := info_parts infoRule
    refine (AnyE.slices_Clone Tryz.cloneRu i0 _ 4 56 hi hz0 hz1 hz2 rfl (by decide) Tryz.sizeOf41 b off rs.length cap (rs.flatMap Ru.cells) w (flat_len rs) (by unfold maxLen; omega) (by omega) (RuR.flat hc) cells_one).mono ?_
    rintro e w1 ⟨v', rfl, h1, h2, h3⟩
    exact ⟨v', rfl, h1, .inr h2, h3⟩

theorem cloneNu_any (v : Value) (zs : List Int) (w : World) (hm : zs.length ≤ 1048577) (hr : NuR w v zs) :
    Calls Tryz.prog 84 #[v] w fun e w' => ∃ v', e = .returned v' ∧ w'.ownsRow w.heap.size 3 1 v' zs.length (nums zs) ∧ Below w.heap.size w w' := by
  rcases hr with ⟨rfl, rfl⟩ | ⟨b, off, cap, rfl, hb, hle, hc⟩
  · refine (AnyE.slices_Clone_nil Tryz.cloneIn 0 0 w).mono ?_
    rintro e w1 ⟨rfl, rfl⟩
    exact ⟨_, rfl, World.ownsRow_nil _ _ _ _, Below.refl _ _⟩
  · obtain ⟨i0, hi, hz0, hz1, hz2⟩ := info_parts infoInt
    refine (AnyE.slices_Clone Tryz.cloneIn i0 _ 1 8 hi hz0 hz1 hz2 rfl (by decide) Tryz.sizeOf3 b off zs.length cap (nums zs) w (by rw [nums_len]; omega) (by unfold maxLen; omega) (by omega) (fun j u hu => by
        have hj : j < zs.length := by rw [← nums_len]; exact (List.getElem?_eq_some_iff.1 hu).1
        rw [hc j hj]
        simpa [nums, hj] using hu) (fun u hu => by
        obtain ⟨z, _, rfl⟩ := List.mem_map.1 hu
        rfl)).mono ?_
    rintro e w1 ⟨v', rfl, h1, _, h3⟩
    exact ⟨v', rfl, h1, h3⟩

end Go.Proofs.YtoaeckcenobfcaaGreat

namespace Go.Proofs.YtoaeckcenobfcaaGreat
open Go.RowKit Go.Shelf

theorem cell_four_w (w : World) (r : Ru) : ∀ j u, r.cells[j]? = some u → (w.alloc (.cells #[.bool r.deny, .string r.who, .string r.method, .string r.path] 41)).cell? ((⟨w.heap.size, 0, none⟩ : Addr).add j) = some u := by
  intro j u hu
  rw [Addr.add_lit, Nat.zero_add]
  have hj : j < 4 := by
    have := (List.getElem?_eq_some_iff.1 hu).1
    simpa using this
  obtain rfl | rfl | rfl | rfl : j = 0 ∨ j = 1 ∨ j = 2 ∨ j = 3 := by omega
  all_goals (simp at hu; subst hu; simp)

set_option maxHeartbeats 2000000 in
theorem withoutN_any (v v' : Value) (zs gs : List Int) (w : World) (hm : zs.length ≤ 1048577) (hm' : gs.length ≤ 1048577) (hr : VS w v (nums zs)) (hr' : VS w v' (nums gs)) :
    Calls Tryz.prog 25 #[v, v'] w fun e w' => ∃ u, e = .returned u ∧ w'.ownsRow w.heap.size 3 1 u (woN zs gs).length (nums (woN zs gs)) ∧ Below w.heap.size w w' := by
  obtain ⟨a, cap, rfl⟩ := hr.numLen
  obtain ⟨a', cap', rfl⟩ := hr'.numLen
  obtain ⟨i0, hi, hz0, hz1, hz2⟩ := info_parts infoInt
  go_enter Tryz.func25, Tryz.ntmps25
  go_wp2
  go_loopw [5, 10] (fun out i wr => ∃ k : Nat, k ≤ zs.length ∧ i = .int .i64 k ∧ wr.ownsRow w.heap.size 3 1 out (woNT zs gs k).length (nums (woNT zs gs k)) ∧ Below w.heap.size w wr) (fun _ i _ => zs.length - (intOf i).toNat)
  case atStart => exact ⟨0, Nat.zero_le _, rfl, by rw [woNT_zero]; exact World.ownsRow_nil _ _ _ _, Below.refl _ _⟩
  case round =>
    obtain ⟨k, hk, rfl, hrow, hB⟩ := hrel
    have hl1 := woNT_len zs gs k
    have hz3 := hB.size
    by_cases hlt : k < zs.length
    · obtain ⟨b, off, rfl, hb, hcap, q0⟩ := (hr.below hB).num hlt
      have HY := hid (fun h => woNT_yes (b := gs) hlt h)
      have HN := hid (fun h => woNT_no (b := gs) hlt h)
      have hC := contI_any (.slice a' gs.length cap') gs zs[k] _ hm' (hr'.below hB)
      generalize zs[k] = x at *
      cases hq : isI gs x
      · have HR := hid (HN.out hq)
        go_wp2_with fail
        refine hC.mono ?_
        rintro e w1 ⟨rfl, rfl⟩
        rw [hq]
        clear hC
        go_wp2_with (at_builtin; refine wpList_append_own _ rfl _ _ 24 rfl w.heap.size 3 i0 (.int .i64 0) 1 8 Tryz.underlying24 hi hz0 hz1 hz2 rfl (by decide) _ _ _ rfl (hrow.alloc _) ⟨w1.heap.size, 0, none⟩ 1 1 [.int .i64 x] rfl rfl (cell_one_new _ _ _) (by intro u hu; simp at hu; rcases hu with rfl <;> rfl) (by unfold maxLen; first | omega | (simp <;> omega)) (by first | omega | (simp <;> omega)) (by first | omega | (simp <;> omega)) ?_; intro u' w3 hown' hgrow _; obtain ⟨g', cap3, rfl⟩ := ownsRow_succ hown')
        go_roundw
        case rel =>
          refine ⟨k + 1, by omega, by go_num, ?_, hB.trans (below_appended hz3 hrow hgrow)⟩
          rw [HR.out]
          simpa [nums] using hown'
        case measure => simp [intOf]; omega
      · have HR := hid (HY.out hq)
        go_wp2_with fail
        refine hC.mono ?_
        rintro e w1 ⟨rfl, rfl⟩
        rw [hq]
        clear hC
        go_wp2_with fail
        go_roundw
        case rel => exact ⟨k + 1, by omega, by go_num, by rw [HR.out]; exact hrow, hB⟩
        case measure => simp [intOf]; omega
    · obtain rfl : k = zs.length := by omega
      rw [woNT_end] at hrow
      go_wp2
      go_ret
      exact ⟨_, rfl, hrow, hB⟩

set_option maxHeartbeats 2000000 in
theorem withoutR_any (v v' : Value) (rs gs : List Ru) (w : World) (hm : rs.length ≤ 1048577) (hm' : gs.length ≤ 1048577) (hr : RuS w v rs) (hr' : RuR w v' gs) :
    Calls Tryz.prog 26 #[v, v'] w fun e w' => ∃ u, e = .returned u ∧ w'.ownsRow w.heap.size 41 4 u (woR rs gs).length ((woR rs gs).flatMap Ru.cells) ∧ Below w.heap.size w w' := by
  obtain ⟨a, cap, rfl⟩ := hr.len
  obtain ⟨a', cap', rfl⟩ := hr'.len
  obtain ⟨i0, hi, hz0, hz1, hz2⟩ := info_parts infoRule
  go_enter Tryz.func26, Tryz.ntmps26
  go_wp2
  go_loopw [5, 10] (fun out i wr => ∃ k : Nat, k ≤ rs.length ∧ i = .int .i64 k ∧ wr.ownsRow w.heap.size 41 4 out (woRT rs gs k).length ((woRT rs gs k).flatMap Ru.cells) ∧ Below w.heap.size w wr) (fun _ i _ => rs.length - (intOf i).toNat)
  case atStart => exact ⟨0, Nat.zero_le _, rfl, by rw [woRT_zero]; exact World.ownsRow_nil _ _ _ _, Below.refl _ _⟩
  case round =>
    obtain ⟨k, hk, rfl, hrow, hB⟩ := hrel
    have hl1 := woRT_len rs gs k
    by_cases hlt : k < rs.length
    · obtain ⟨b, off, rfl, hb, hcap, q0, q1, q2, q3⟩ := (hr.below hB).at hlt
      have HY := hid (fun h => woRT_yes (b := gs) hlt h)
      have HN := hid (fun h => woRT_no (b := gs) hlt h)
      generalize rs[k] = r at *
      have hBw : Below wr.heap.size wr (wr.alloc (.cells #[.bool r.deny, .string r.who, .string r.method, .string r.path] 41)) := (Below.refl _ wr).alloc (Nat.le_refl _) _
      have F := Four.new wr (.bool r.deny) (.string r.who) (.string r.method) (.string r.path) 41
      have hrowW := ownsRow_below hrow hBw
      have hBW := below_one hB hBw
      clear hrow hB hBw
      cases hq : hasR gs r
      · have HR := hid (HN.out hq)
        go_wp2_with fail
        clear q0 q1 q2 q3
        generalize wr.alloc (.cells #[.bool r.deny, .string r.who, .string r.method, .string r.path] 41) = W0 at *
        refine (contRu_any (.slice a' gs.length cap') gs r _ hm' (hr'.below hBW)).mono ?_
        rintro e w1 ⟨rfl, hB1⟩
        rw [hq]
        replace F := F.below hB1
        have hrow1 := ownsRow_below hrowW hB1
        have hBB := below_one hBW hB1
        have hz3 := hBB.size
        clear hrowW hBW hB1
        obtain ⟨c0, c1, c2, c3⟩ := F.c
        go_wp2_with (at_builtin; refine wpList_append_own _ rfl _ _ 23 rfl w.heap.size 41 i0 _ 4 56 Tryz.underlying23 hi hz0 hz1 hz2 rfl (by decide) _ _ _ rfl (hrow1.alloc _) ⟨w1.heap.size, 0, none⟩ 1 1 r.cells rfl rfl (cell_four_w w1 r) (by intro u hu; simp at hu; rcases hu with rfl | rfl | rfl | rfl <;> rfl) (by unfold maxLen; first | omega | (simp <;> omega)) (by first | omega | (simp <;> omega)) (by first | omega | (simp <;> omega)) ?_; intro u' w3 hown' hgrow _; obtain ⟨g', cap3, rfl⟩ := ownsRow_succ hown')
        go_roundw
        case rel =>
          refine ⟨k + 1, by omega, by go_num, ?_, hBB.trans (below_appended hz3 hrow1 hgrow)⟩
          rw [HR.out, List.flatMap_append]
          simpa using hown'
        case measure => simp [intOf]; omega
      · have HR := hid (HY.out hq)
        go_wp2_with fail
        clear q0 q1 q2 q3
        generalize wr.alloc (.cells #[.bool r.deny, .string r.who, .string r.method, .string r.path] 41) = W0 at *
        refine (contRu_any (.slice a' gs.length cap') gs r _ hm' (hr'.below hBW)).mono ?_
        rintro e w1 ⟨rfl, hB1⟩
        rw [hq]
        have hrow1 := ownsRow_below hrowW hB1
        have hBB := below_one hBW hB1
        clear hrowW hBW hB1
        go_wp2_with fail
        go_roundw
        case rel => exact ⟨k + 1, by omega, by go_num, by rw [HR.out]; exact hrow1, hBB⟩
        case measure => simp [intOf]; omega
    · obtain rfl : k = rs.length := by omega
      rw [woRT_end] at hrow
      go_wp2
      go_ret
      exact ⟨_, rfl, hrow, hB⟩

theorem same_comm (r s : Ru) : r.same s = s.same r := by
  cases h : r.same s
  · cases h' : s.same r
    · rfl
    · have := same_eq h'
      subst this
      rw [h'] at h
      cases h
  · have := same_eq h
    subst this
    exact h.symm
def hasRT (b : List Ru) (r : Ru) (k : Nat) : Bool := (b.take k).any (fun y => r.same y)
theorem hasRT_zero (b : List Ru) (r : Ru) : hasRT b r 0 = false := by simp [hasRT]
theorem hasRT_succ {b : List Ru} {r : Ru} {k : Nat} (h : k < b.length) : hasRT b r (k + 1) = (hasRT b r k || r.same b[k]) := by
  unfold hasRT
  rw [List.take_succ_eq_append_getElem h, List.any_append]
  simp
theorem hasR_yes {b : List Ru} {r : Ru} {k : Nat} (h : k < b.length) (he : r.same b[k] = true) : hasR b r = true := List.any_eq_true.2 ⟨b[k], List.getElem_mem h, he⟩
theorem hasR_end (b : List Ru) (r : Ru) : hasRT b r b.length = hasR b r := by unfold hasRT hasR; rw [List.take_length]

set_option maxHeartbeats 2000000 in
theorem l5HasRule_any (v : Value) (rs : List Ru) (r : Ru) (w : World) (hm : rs.length ≤ 1048577) (hr : RuS w v rs) :
    Calls Tryz.prog 61 #[v, r.val] w fun e w' => e = .returned (.bool (hasR rs r)) ∧ Below w.heap.size w w' := by
  obtain ⟨a, cap, rfl⟩ := hr.len
  have hB0 : Below w.heap.size w (w.alloc (.cells #[.bool r.deny, .string r.who, .string r.method, .string r.path] 41)) := (Below.refl _ w).alloc (Nat.le_refl _) _
  have F := Four.new w (.bool r.deny) (.string r.who) (.string r.method) (.string r.path) 41
  go_enter Tryz.func61, Tryz.ntmps61
  go_wp2
  generalize w.alloc (.cells #[.bool r.deny, .string r.who, .string r.method, .string r.path] 41) = W0 at *
  go_loopw [9] (fun i wr => ∃ k : Nat, k ≤ rs.length ∧ i = .int .i64 k ∧ hasRT rs r k = false ∧ Below W0.heap.size W0 wr) (fun i _ => rs.length - (intOf i).toNat)
  case atStart => exact ⟨0, Nat.zero_le _, rfl, hasRT_zero _ _, Below.refl _ _⟩
  case round =>
    obtain ⟨k, hk, rfl, ht, hB⟩ := hrel
    have HT := hid ht
    clear ht
    have hBB := below_one hB0 hB
    by_cases hlt : k < rs.length
    · obtain ⟨b, off, rfl, hb, hcap, q0, q1, q2, q3⟩ := (hr.below hBB).at hlt
      have HS := hid (hasRT_succ (r := r) hlt)
      have HY := hid (fun h => hasR_yes (r := r) hlt h)
      generalize rs[k] = x at *
      obtain ⟨c0, c1, c2, c3⟩ := (F.below hB).c
      have hse := eql_ru x r
      have hlb := (F.below hB).lt
      have hBx : Below W0.heap.size W0 (wr.alloc (.cells #[.bool x.deny, .string x.who, .string x.method, .string x.path] 41)) := hB.alloc hB.size _
      cases hq : x.same r
      · have HR := hid (show hasRT rs r (k + 1) = false by rw [HS.out, HT.out, same_comm, hq]; rfl)
        go_wp2
        go_roundw
        case rel => exact ⟨k + 1, by omega, by go_num, HR.out, hBx⟩
        case measure => simp [intOf]; omega
      · have HR := hid (HY.out (by rw [same_comm]; exact hq))
        go_wp2
        go_ret
        exact ⟨ret_bool HR.out.symm, below_one hB0 hBx⟩
    · obtain rfl : k = rs.length := by omega
      have HR := hid (show hasR rs r = false by rw [← hasR_end, HT.out])
      go_wp2
      go_ret
      exact ⟨ret_bool HR.out.symm, hBB⟩

set_option maxHeartbeats 2000000 in
theorem l5Less_any (v v' : Value) (rs gs : List Ru) (w : World) (hm : rs.length ≤ 1048577) (hm' : gs.length ≤ 1048577) (hr : RuS w v rs) (hr' : RuS w v' gs) :
    Calls Tryz.prog 29 #[v, v'] w fun e w' => ∃ u, e = .returned u ∧ w'.ownsRow w.heap.size 41 4 u (woR rs gs).length ((woR rs gs).flatMap Ru.cells) ∧ Below w.heap.size w w' := by
  obtain ⟨a, cap, rfl⟩ := hr.len
  obtain ⟨a', cap', rfl⟩ := hr'.len
  obtain ⟨i0, hi, hz0, hz1, hz2⟩ := info_parts infoRule
  go_enter Tryz.func29, Tryz.ntmps29
  go_wp2
  go_loopw [5, 10] (fun out i wr => ∃ k : Nat, k ≤ rs.length ∧ i = .int .i64 k ∧ wr.ownsRow w.heap.size 41 4 out (woRT rs gs k).length ((woRT rs gs k).flatMap Ru.cells) ∧ Below w.heap.size w wr) (fun _ i _ => rs.length - (intOf i).toNat)
  case atStart => exact ⟨0, Nat.zero_le _, rfl, by rw [woRT_zero]; exact World.ownsRow_nil _ _ _ _, Below.refl _ _⟩
  case round =>
    obtain ⟨k, hk, rfl, hrow, hB⟩ := hrel
    have hl1 := woRT_len rs gs k
    by_cases hlt : k < rs.length
    · obtain ⟨b, off, rfl, hb, hcap, q0, q1, q2, q3⟩ := (hr.below hB).at hlt
      have HY := hid (fun h => woRT_yes (b := gs) hlt h)
      have HN := hid (fun h => woRT_no (b := gs) hlt h)
      generalize rs[k] = r at *
      have hBw : Below wr.heap.size wr (wr.alloc (.cells #[.bool r.deny, .string r.who, .string r.method, .string r.path] 41)) := (Below.refl _ wr).alloc (Nat.le_refl _) _
      have F := Four.new wr (.bool r.deny) (.string r.who) (.string r.method) (.string r.path) 41
      have hrowW := ownsRow_below hrow hBw
      have hBW := below_one hB hBw
      clear hrow hB hBw
      cases hq : hasR gs r
      · have HR := hid (HN.out hq)
        go_wp2_with fail
        clear q0 q1 q2 q3
        generalize wr.alloc (.cells #[.bool r.deny, .string r.who, .string r.method, .string r.path] 41) = W0 at *
        refine (l5HasRule_any (.slice a' gs.length cap') gs r _ hm' (hr'.below hBW)).mono ?_
        rintro e w1 ⟨rfl, hB1⟩
        rw [hq]
        replace F := F.below hB1
        have hrow1 := ownsRow_below hrowW hB1
        have hBB := below_one hBW hB1
        have hz3 := hBB.size
        clear hrowW hBW hB1
        obtain ⟨c0, c1, c2, c3⟩ := F.c
        go_wp2_with (at_builtin; refine wpList_append_own _ rfl _ _ 23 rfl w.heap.size 41 i0 _ 4 56 Tryz.underlying23 hi hz0 hz1 hz2 rfl (by decide) _ _ _ rfl (hrow1.alloc _) ⟨w1.heap.size, 0, none⟩ 1 1 r.cells rfl rfl (cell_four_w w1 r) (by intro u hu; simp at hu; rcases hu with rfl | rfl | rfl | rfl <;> rfl) (by unfold maxLen; first | omega | (simp <;> omega)) (by first | omega | (simp <;> omega)) (by first | omega | (simp <;> omega)) ?_; intro u' w3 hown' hgrow _; obtain ⟨g', cap3, rfl⟩ := ownsRow_succ hown')
        go_roundw
        case rel =>
          refine ⟨k + 1, by omega, by go_num, ?_, hBB.trans (below_appended hz3 hrow1 hgrow)⟩
          rw [HR.out, List.flatMap_append]
          simpa using hown'
        case measure => simp [intOf]; omega
      · have HR := hid (HY.out hq)
        go_wp2_with fail
        clear q0 q1 q2 q3
        generalize wr.alloc (.cells #[.bool r.deny, .string r.who, .string r.method, .string r.path] 41) = W0 at *
        refine (l5HasRule_any (.slice a' gs.length cap') gs r _ hm' (hr'.below hBW)).mono ?_
        rintro e w1 ⟨rfl, hB1⟩
        rw [hq]
        have hrow1 := ownsRow_below hrowW hB1
        have hBB := below_one hBW hB1
        clear hrowW hBW hB1
        go_wp2_with fail
        go_roundw
        case rel => exact ⟨k + 1, by omega, by go_num, by rw [HR.out]; exact hrow1, hBB⟩
        case measure => simp [intOf]; omega
    · obtain rfl : k = rs.length := by omega
      rw [woRT_end] at hrow
      go_wp2
      go_ret
      exact ⟨_, rfl, hrow, hB⟩

end Go.Proofs.YtoaeckcenobfcaaGreat

namespace Go.Proofs.YtoaeckcenobfcaaGreat
open Go.RowKit Go.Shelf

/-- A list of numbers is being drawn, from the world w on. -/
structure NS (w : World) (b : Nat) (a : Option Addr) (n c : Nat) (wr : World) (v : Value) (zs : List Int) (q : Nat) : Prop where
  row : wr.ownsRow w.heap.size 3 1 v zs.length (nums zs)
  by_ : ByS wr a n
  cur : CurB wr b a n c q
  gr : w.grownBy wr (some b)
theorem NS.grown {w wr w' : World} {b : Nat} {a : Option Addr} {n c q q' : Nat} {v : Value} {zs : List Int} (h : NS w b a n c wr v zs q) (hb : b < w.heap.size) (hg : wr.grownBy w' (some b)) (hB : ByS w' a n) (hC : CurB w' b a n c q') : NS w b a n c w' v zs q' :=
  ⟨h.row.kept hg (by
    rcases h.row.2 with ⟨rfl, _⟩ | ⟨g, cap, cur, rfl, hgb, _⟩
    · exact .inl rfl
    · right
      simp only [Value.ownBlock, ne_eq, Option.some.injEq]
      omega), hB, hC, g2 h.gr hg⟩
theorem NS.below {w wr w' : World} {b : Nat} {a : Option Addr} {n c q : Nat} {v : Value} {zs : List Int} (h : NS w b a n c wr v zs q) (hB : Below wr.heap.size wr w') : NS w b a n c w' v zs q :=
  ⟨ownsRow_below h.row hB, h.by_.below hB, h.cur.below hB, gB h.gr hB⟩
theorem NS.appended {w wr w' : World} {b : Nat} {a : Option Addr} {n c q : Nat} {v v' : Value} {zs : List Int} {z : Int} {tmp : Obj} (h : NS w b a n c wr v zs q) (hb : b < w.heap.size) (hown : w'.ownsRow w.heap.size 3 1 v' (zs.length + 1) (nums zs ++ [.int .i64 z])) (hgrow : (wr.alloc tmp).grownBy w' v.ownBlock) : NS w b a n c w' v' (zs ++ [z]) q := by
  have hB := below_appended h.gr.size h.row hgrow
  exact ⟨by simpa [nums] using hown, h.by_.belowN hB (fun p hp => Nat.lt_trans (h.cur.apart p hp) hb), h.cur.belowN hB hb, gBN h.gr hB⟩

set_option maxHeartbeats 2000000 in
set_option maxRecDepth 100000 in
theorem numbers_any (b : Nat) (a : Option Addr) (n c k : Nat) (w : World) (hB : ByS w a n) (hC : CurB w b a n c k) (hk : k ≤ 1000000) :
    Calls Tryz.prog 22 #[.pointer (some ⟨b, 0, none⟩)] w fun e w' => ∃ (v : Value) (zs : List Int) (q : Nat), e = .returned v ∧ zs.length ≤ 4 ∧ q ≤ k + 10 ∧ NS w b a n c w' v zs q := by
  obtain ⟨i0, hi, hz0, hz1, hz2⟩ := info_parts infoInt
  have hbl := hC.lt
  go_enter Tryz.func22, Tryz.ntmps22
  go_wp2_with fail
  refine (pick_any b a n c k 4 w (by omega) (by omega) hB hC (by omega)).mono ?_
  rintro e w1 ⟨m, hm, rfl, hC1, hg1⟩
  have hB1 := curB_grown hB hC.apart hC.lt hg1
  clear hB hC
  go_wp2_with fail
  go_loopw [3, 4] (fun sv nv wr => ∃ (v : Value) (zs : List Int) (j q : Nat), v = sv ∧ nv = .int .i64 j ∧ j ≤ 3 ∧ zs.length + j ≤ 3 ∧ q + j ≤ k + 4 ∧ NS w b a n c wr v zs q) (fun _ nv _ => (intOf nv).toNat)
  case atStart => exact ⟨_, [], m, k + 1, rfl, rfl, by omega, by simp; omega, by omega, World.ownsRow_nil _ _ _ _, hB1, hC1, hg1⟩
  case round =>
    obtain ⟨v, zs, j, q, rfl, rfl, hj, hlen, hq, hP⟩ := hrel
    clear hB1 hC1 hg1
    by_cases hjz : 0 < j
    · have d0 : decide ((j : Int) > 0) = true := by simp; omega
      go_wp2_with fail
      refine (pick_any b a n c q 20 wr (by omega) (by omega) hP.by_ hP.cur (by omega)).mono ?_
      rintro e w2 ⟨x, hx, rfl, hC2, hg2⟩
      have hP2 := hP.grown hbl hg2 (curB_grown hP.by_ hP.cur.apart hP.cur.lt hg2) hC2
      clear hP hC2 hg2
      have hown := hP2.row
      have hsz := hP2.gr.size
      rcases row_form hown with ⟨rfl, hl0⟩ | ⟨go, capo, rfl, hg, hcapo⟩
      · obtain rfl : zs = [] := List.eq_nil_of_length_eq_zero hl0
        go_wp2_with (at_builtin; refine wpList_append_own _ rfl _ _ 24 rfl w.heap.size 3 i0 (.int .i64 0) 1 8 Tryz.underlying24 hi hz0 hz1 hz2 rfl (by decide) _ _ _ rfl (hown.alloc _) ⟨w2.heap.size, 0, none⟩ 1 1 [.int .i64 (1 + (x : Int))] rfl rfl (cell_one_new _ _ _) (by intro u hu; simp at hu; rcases hu with rfl <;> rfl) (by unfold maxLen; first | omega | (simp <;> omega)) (by first | omega | (simp <;> omega)) (by first | omega | (simp <;> omega)) ?_; intro v' w5 hown' hgrow _)
        go_roundw
        case rel => exact ⟨v', [] ++ [1 + (x : Int)], j - 1, q + 1, rfl, by go_num, by omega, by simp; omega, by omega, hP2.appended hbl hown' hgrow⟩
        case measure => simp [intOf]; omega
      · go_wp2_with (at_builtin; refine wpList_append_own _ rfl _ _ 24 rfl w.heap.size 3 i0 (.int .i64 0) 1 8 Tryz.underlying24 hi hz0 hz1 hz2 rfl (by decide) _ _ _ rfl (hown.alloc _) ⟨w2.heap.size, 0, none⟩ 1 1 [.int .i64 (1 + (x : Int))] rfl rfl (cell_one_new _ _ _) (by intro u hu; simp at hu; rcases hu with rfl <;> rfl) (by unfold maxLen; first | omega | (simp <;> omega)) (by first | omega | (simp <;> omega)) (by first | omega | (simp <;> omega)) ?_; intro v' w5 hown' hgrow _)
        go_roundw
        case rel => exact ⟨v', zs ++ [1 + (x : Int)], j - 1, q + 1, rfl, by go_num, by omega, by simp; omega, by omega, hP2.appended hbl hown' hgrow⟩
        case measure => simp [intOf]; omega
    · have d0 : decide ((j : Int) > 0) = false := by simp; omega
      go_wp2_with fail
      refine (one_any b a n c q 40 wr (by omega) (by omega) hP.by_ hP.cur (by omega)).mono ?_
      rintro e w2 ⟨y, rfl, hC2, hg2⟩
      have hP2 := hP.grown hbl hg2 (curB_grown hP.by_ hP.cur.apart hP.cur.lt hg2) hC2
      clear hP hC2 hg2
      cases y
      · go_wp2_with fail
        go_ret
        exact ⟨v, zs, q + 1, rfl, by omega, by omega, hP2⟩
      · go_wp2_with fail
        refine (amongNew_any b a n c (q + 1) [0, 100000, 100001] w2 (by simp) (by simp) hP2.by_ hP2.cur (by omega)).mono ?_
        rintro e w3 ⟨y, hy, rfl, hB3, hC3, hg3⟩
        have hP3 := hP2.grown hbl hg3 hB3 hC3
        clear hP2 hB3 hC3 hg3
        have hown := hP3.row
        have hsz := hP3.gr.size
        rcases row_form hown with ⟨rfl, hl0⟩ | ⟨go, capo, rfl, hg, hcapo⟩
        · obtain rfl : zs = [] := List.eq_nil_of_length_eq_zero hl0
          go_wp2_with (at_builtin; refine wpList_append_own _ rfl _ _ 24 rfl w.heap.size 3 i0 (.int .i64 0) 1 8 Tryz.underlying24 hi hz0 hz1 hz2 rfl (by decide) _ _ _ rfl (hown.alloc _) ⟨w3.heap.size, 0, none⟩ 1 1 [.int .i64 y] rfl rfl (cell_one_new _ _ _) (by intro u hu; simp at hu; rcases hu with rfl <;> rfl) (by unfold maxLen; first | omega | (simp <;> omega)) (by first | omega | (simp <;> omega)) (by first | omega | (simp <;> omega)) ?_; intro v' w5 hown' hgrow _)
          go_ret
          exact ⟨v', [] ++ [y], q + 1 + 1, rfl, by simp, by omega, hP3.appended hbl hown' hgrow⟩
        · go_wp2_with (at_builtin; refine wpList_append_own _ rfl _ _ 24 rfl w.heap.size 3 i0 (.int .i64 0) 1 8 Tryz.underlying24 hi hz0 hz1 hz2 rfl (by decide) _ _ _ rfl (hown.alloc _) ⟨w3.heap.size, 0, none⟩ 1 1 [.int .i64 y] rfl rfl (cell_one_new _ _ _) (by intro u hu; simp at hu; rcases hu with rfl <;> rfl) (by unfold maxLen; first | omega | (simp <;> omega)) (by first | omega | (simp <;> omega)) (by first | omega | (simp <;> omega)) ?_; intro v' w5 hown' hgrow _)
          go_ret
          exact ⟨v', zs ++ [y], q + 1 + 1, rfl, by simp; omega, by omega, hP3.appended hbl hown' hgrow⟩

end Go.Proofs.YtoaeckcenobfcaaGreat

namespace Go.Proofs.YtoaeckcenobfcaaGreat
open Go.RowKit Go.Shelf

theorem at_drop {ops : Array Oper} {i : Nat} {o : Oper} (h : (ops.toList.drop i).head? = some o) : ops[i]? = some o := by
  rw [List.head?_drop] at h
  simpa using h
theorem takeW {P : Program} {ops : Array Oper} {Q : Exit → Act → World → Prop} {md : Region.Mode} {S : World → Prop} (i : Nat) {oi : Oper} {v : Value} {fuel : Nat} {listed : Array Bool} {a : Act} {w : World} (hi : (ops.toList.drop i).head? = some oi)
    (hs : Region.noSelect ops = true) (hf : Region.free md ops listed i = true) (hr : (Region.ready md ops listed).contains i = true)
    (hQ : ∀ c a w, Q (.panic c) (a.put oi.dst v) w → Q (.panic c) a w) (hw : Region.wanted oi (yielded ops a.tmps) = true) (hS : S w) (hy : ∀ w, S w → (execOp a.eval oi).run P w = .ok (.value v) w)
    (h : wpAnyH P md ops Q S fuel (listed.setIfInBounds i true) (a.put oi.dst v) w) : wpAnyH P md ops Q S (fuel + 1) listed a w :=
  wpAnyH_take (at_drop hi) hs hf hr hQ (Or.inl ⟨hw, hy⟩) hS h
theorem takeX {P : Program} {ops : Array Oper} {Q : Exit → Act → World → Prop} {md : Region.Mode} {S : World → Prop} (i : Nat) {oi : Oper} {fuel : Nat} {listed : Array Bool} {a : Act} {w : World} (hi : (ops.toList.drop i).head? = some oi)
    (hs : Region.noSelect ops = true) (hf : Region.free md ops listed i = true) (hr : (Region.ready md ops listed).contains i = true)
    (hQ : ∀ c a w, Q (.panic c) (a.put oi.dst undef) w → Q (.panic c) a w) (hw : Region.wanted oi (yielded ops a.tmps) = false) (hS : S w)
    (h : wpAnyH P md ops Q S fuel (listed.setIfInBounds i true) (a.put oi.dst undef) w) : wpAnyH P md ops Q S (fuel + 1) listed a w :=
  wpAnyH_take (at_drop hi) hs hf hr hQ (Or.inr ⟨hw, rfl⟩) hS h
theorem takeC {P : Program} {ops : Array Oper} {Q : Exit → Act → World → Prop} {md : Region.Mode} {S : World → Prop} (i : Nat) {oi : Oper} {fuel : Nat} {listed : Array Bool} {a : Act} {w : World} (hr : Region.ready md ops listed = [i]) (hi : (ops.toList.drop i).head? = some oi)
    (h : ∀ K' : Act → World → Prop, Shut (∀ a w, S w → (S w → wpAnyH P md ops Q S fuel (listed.setIfInBounds i true) a w) → K' a w) → if Region.wanted oi (yielded ops a.tmps) = true then Oper.wp P oi a w K' Q else K' (a.put oi.dst undef) w) : wpAnyH P md ops Q S (fuel + 1) listed a w :=
  wpAnyH_ready hr (by simp) (AllReadyH.cons (at_drop hi) h AllReadyH.nil)
/-- Two operations, either of which may come first. -/
theorem takeC2 {P : Program} {ops : Array Oper} {Q : Exit → Act → World → Prop} {md : Region.Mode} {S : World → Prop} (i j : Nat) {oi oj : Oper} {fuel : Nat} {listed : Array Bool} {a : Act} {w : World} (hr : Region.ready md ops listed = [i, j]) (hi : (ops.toList.drop i).head? = some oi) (hj : (ops.toList.drop j).head? = some oj)
    (h : ∀ K' : Act → World → Prop, Shut (∀ a w, S w → (S w → wpAnyH P md ops Q S fuel (listed.setIfInBounds i true) a w) → K' a w) → if Region.wanted oi (yielded ops a.tmps) = true then Oper.wp P oi a w K' Q else K' (a.put oi.dst undef) w)
    (h' : ∀ K' : Act → World → Prop, Shut (∀ a w, S w → (S w → wpAnyH P md ops Q S fuel (listed.setIfInBounds j true) a w) → K' a w) → if Region.wanted oj (yielded ops a.tmps) = true then Oper.wp P oj a w K' Q else K' (a.put oj.dst undef) w) : wpAnyH P md ops Q S (fuel + 1) listed a w :=
  wpAnyH_ready hr (by simp) (AllReadyH.cons (at_drop hi) h (AllReadyH.cons (at_drop hj) h' AllReadyH.nil))

def inB (lo hi n : Int) : Bool := decide (lo ≤ n ∧ n ≤ hi)

theorem l1In_any (n lo hi : Int) (w : World) :
    Calls Tryz.prog 57 #[.int .i64 n, .int .i64 lo, .int .i64 hi] w fun e w' => e = .returned (.bool (inB lo hi n)) ∧ w' = w := by
  by_cases c1 : lo ≤ n
  · by_cases c2 : n ≤ hi
    · have HR := hid (show inB lo hi n = true from decide_eq_true ⟨c1, c2⟩)
      go_enter Tryz.func57, Tryz.ntmps57
      go_wp2
      go_ret
      exact ⟨ret_bool HR.out.symm, rfl⟩
    · have HR := hid (show inB lo hi n = false from decide_eq_false (fun h => c2 h.2))
      go_enter Tryz.func57, Tryz.ntmps57
      go_wp2
      go_ret
      exact ⟨ret_bool HR.out.symm, rfl⟩
  · have HR := hid (show inB lo hi n = false from decide_eq_false (fun h => c1 h.1))
    go_enter Tryz.func57, Tryz.ntmps57
    go_wp2
    go_ret
    exact ⟨ret_bool HR.out.symm, rfl⟩

end Go.Proofs.YtoaeckcenobfcaaGreat

namespace Go.Proofs.YtoaeckcenobfcaaGreat
open Go.RowKit Go.Shelf

theorem itself_any (n : Int) (w : World) :
    Calls Tryz.prog 54 #[.int .i64 n] w fun e w' => e = .returned (.int .i64 n) ∧ w' = w := by
  go_enter Tryz.func54, Tryz.ntmps54
  go_wp2
  go_ret
  exact ⟨rfl, rfl⟩

set_option maxHeartbeats 2000000 in
set_option maxRecDepth 100000 in
theorem risingN_any (v : Value) (zs : List Int) (w : World) (hm : zs.length ≤ 1048577) (hr : VS w v (nums zs)) :
    Calls Tryz.prog 53 #[v, .func (.func 54) #[] #[]] w fun e w' => e = .returned (.bool (upN zs)) ∧ Below w.heap.size w w' := by
  obtain ⟨a, cap, rfl⟩ := hr.numLen
  go_enter Tryz.func53, Tryz.ntmps53
  go_wp2
  go_loopw [5] (fun i wr => ∃ m : Nat, (m ≤ zs.length ∨ m = 1) ∧ 1 ≤ m ∧ i = .int .i64 m ∧ (∀ j, j < m → upI zs j = true) ∧ Below w.heap.size w wr) (fun i _ => zs.length - (intOf i).toNat)
  case atStart => exact ⟨1, .inr rfl, Nat.le_refl _, rfl, fun j hj => (by obtain rfl : j = 0 := Nat.lt_one_iff.1 hj; rfl), Below.refl _ _⟩
  case round =>
    obtain ⟨m, hm2, hm1, rfl, hu, hB⟩ := hrel
    have HU := hid hu
    clear hu
    obtain ⟨n, hn⟩ : ∃ n, m = n + 1 := ⟨m - 1, by omega⟩
    by_cases hlt : m < zs.length
    · obtain ⟨b, off, rfl, hb, hcap, q0⟩ := (hr.below hB).num hlt
      obtain ⟨b', off', hbo, _, _, p0⟩ := (hr.below hB).num (i := n) (by omega)
      cases hbo
      have HS := hid (show upI zs m = decide ((zs[n]'(by omega)) < zs[m]) by subst hn; exact upI_succ hlt)
      have HN := hid (fun h => upN_no (zs := zs) (i := m) hlt h)
      have hw1 : IntKind.i64.wrap ((m : Int) - 1) = (n : Int) := by rw [IntKind.wrap_i64]; omega
      have hl1 : (m : Int) < (zs.length : Int) := by omega
      have hl2 : (n : Int) < (zs.length : Int) := by omega
      generalize zs[m] = k at *
      generalize zs[n] = p at *
      clear hn
      by_cases hc : k ≤ p
      · have HR := hid (HN.out (by rw [HS.out]; exact decide_eq_false (by omega)))
        have dc : decide (k ≤ p) = true := decide_eq_true hc
        go_wp2_with fail
        refine wp_region_held_drew (S := fun w' => w'.cell? ⟨b, off + m, none⟩ = some (.int .i64 k) ∧ w'.cell? ⟨b, off + n, none⟩ = some (.int .i64 p)) (by kernel_rfl) ?_ (fun hHeld => ?_)
        · go_keep
        refine takeW 0 (v := ?v25) rfl (by kernel_rfl) (by kernel_rfl) (by kernel_rfl) (fun _ _ _ h => h) (by rfl) (by assumption) ?hy25 ?rest25
        case hy25 => intro w' hSw; (try dsimp only at hSw); go_simp; try with_reducible rfl
        try simp only [Act.put, List.setIfInBounds_toArray, List.set_cons_zero, List.set_cons_succ]
        refine takeW 1 (v := ?v26) rfl (by kernel_rfl) (by kernel_rfl) (by kernel_rfl) (fun _ _ _ h => h) (by rfl) (by assumption) ?hy26 ?rest26
        case hy26 => intro w' hSw; (try dsimp only at hSw); go_simp; try with_reducible rfl
        try simp only [Act.put, List.setIfInBounds_toArray, List.set_cons_zero, List.set_cons_succ]
        refine takeW 2 (v := ?v27) rfl (by kernel_rfl) (by kernel_rfl) (by kernel_rfl) (fun _ _ _ h => h) (by rfl) (by assumption) ?hy27 ?rest27
        case hy27 => intro w' hSw; (try dsimp only at hSw); go_simp; try with_reducible rfl
        try simp only [Act.put, List.setIfInBounds_toArray, List.set_cons_zero, List.set_cons_succ]
        refine takeW 3 (v := ?v28) rfl (by kernel_rfl) (by kernel_rfl) (by kernel_rfl) (fun _ _ _ h => h) (by rfl) (by assumption) ?hy28 ?rest28
        case hy28 => intro w' hSw; (try dsimp only at hSw); go_simp; try with_reducible rfl
        try simp only [Act.put, List.setIfInBounds_toArray, List.set_cons_zero, List.set_cons_succ]
        refine takeW 4 (v := ?v29) rfl (by kernel_rfl) (by kernel_rfl) (by kernel_rfl) (fun _ _ _ h => h) (by rfl) (by assumption) ?hy29 ?rest29
        case hy29 => intro w' hSw; (try dsimp only at hSw); go_simp; try with_reducible rfl
        try simp only [Act.put, List.setIfInBounds_toArray, List.set_cons_zero, List.set_cons_succ]
        refine takeW 6 (v := ?v30) rfl (by kernel_rfl) (by kernel_rfl) (by kernel_rfl) (fun _ _ _ h => h) (by rfl) (by assumption) ?hy30 ?rest30
        case hy30 => intro w' hSw; (try dsimp only at hSw); go_simp; try with_reducible rfl
        try simp only [Act.put, List.setIfInBounds_toArray, List.set_cons_zero, List.set_cons_succ]
        refine takeW 7 (v := ?v31) rfl (by kernel_rfl) (by kernel_rfl) (by kernel_rfl) (fun _ _ _ h => h) (by rfl) (by assumption) ?hy31 ?rest31
        case hy31 => intro w' hSw; (try dsimp only at hSw); go_simp; try with_reducible rfl
        try simp only [Act.put, List.setIfInBounds_toArray, List.set_cons_zero, List.set_cons_succ]
        refine takeW 8 (v := ?v32) rfl (by kernel_rfl) (by kernel_rfl) (by kernel_rfl) (fun _ _ _ h => h) (by rfl) (by assumption) ?hy32 ?rest32
        case hy32 => intro w' hSw; (try dsimp only at hSw); go_simp; try with_reducible rfl
        try simp only [Act.put, List.setIfInBounds_toArray, List.set_cons_zero, List.set_cons_succ]
        refine takeW 9 (v := ?v33) rfl (by kernel_rfl) (by kernel_rfl) (by kernel_rfl) (fun _ _ _ h => h) (by rfl) (by assumption) ?hy33 ?rest33
        case hy33 => intro w' hSw; (try dsimp only at hSw); go_simp; try with_reducible rfl
        try simp only [Act.put, List.setIfInBounds_toArray, List.set_cons_zero, List.set_cons_succ]
        refine takeW 10 (v := ?v34) rfl (by kernel_rfl) (by kernel_rfl) (by kernel_rfl) (fun _ _ _ h => h) (by rfl) (by assumption) ?hy34 ?rest34
        case hy34 => intro w' hSw; (try dsimp only at hSw); go_simp; try with_reducible rfl
        try simp only [Act.put, List.setIfInBounds_toArray, List.set_cons_zero, List.set_cons_succ]
        refine takeW 11 (v := ?v35) rfl (by kernel_rfl) (by kernel_rfl) (by kernel_rfl) (fun _ _ _ h => h) (by rfl) (by assumption) ?hy35 ?rest35
        case hy35 => intro w' hSw; (try dsimp only at hSw); go_simp; try with_reducible rfl
        try simp only [Act.put, List.setIfInBounds_toArray, List.set_cons_zero, List.set_cons_succ]
        refine takeC 5 (by kernel_rfl) rfl (fun K hK => ?_)
        go_simp
        refine (itself_any k _).mono ?_; rintro e w1 ⟨rfl, rfl⟩
        refine hK.out _ _ ?_ (fun hHeld => ?_)
        · go_keep
        clear hK K
        try simp only [Act.put, List.setIfInBounds_toArray, List.set_cons_zero, List.set_cons_succ]
        refine takeC 12 (by kernel_rfl) rfl (fun K hK => ?_)
        go_simp
        refine (itself_any p _).mono ?_; rintro e w2 ⟨rfl, rfl⟩
        refine hK.out _ _ ?_ (fun hHeld => ?_)
        · go_keep
        clear hK K
        try simp only [Act.put, List.setIfInBounds_toArray, List.set_cons_zero, List.set_cons_succ]
        refine takeW 13 (v := ?v36) rfl (by kernel_rfl) (by kernel_rfl) (by kernel_rfl) (fun _ _ _ h => h) (by rfl) (by assumption) ?hy36 ?rest36
        case hy36 => intro w' hSw; (try dsimp only at hSw); go_simp; try with_reducible rfl
        try simp only [Act.put, List.setIfInBounds_toArray, List.set_cons_zero, List.set_cons_succ]
        refine wpAnyH_done (by kernel_rfl) ?_ _
        all_goals go_wp2
        all_goals go_ret
        all_goals exact ⟨ret_bool HR.out.symm, below_one hB (Below.refl _ wr).drew⟩
      · have HR := hid (show ∀ j, j < m + 1 → upI zs j = true from fun j hj => (by
          by_cases e : j = m
          · subst e
            rw [HS.out]
            exact decide_eq_true (by omega)
          · exact HU.out j (by omega)))
        have dc : decide (k ≤ p) = false := decide_eq_false hc
        go_wp2_with fail
        refine wp_region_held_drew (S := fun w' => w'.cell? ⟨b, off + m, none⟩ = some (.int .i64 k) ∧ w'.cell? ⟨b, off + n, none⟩ = some (.int .i64 p)) (by kernel_rfl) ?_ (fun hHeld => ?_)
        · go_keep
        refine takeW 0 (v := ?v37) rfl (by kernel_rfl) (by kernel_rfl) (by kernel_rfl) (fun _ _ _ h => h) (by rfl) (by assumption) ?hy37 ?rest37
        case hy37 => intro w' hSw; (try dsimp only at hSw); go_simp; try with_reducible rfl
        try simp only [Act.put, List.setIfInBounds_toArray, List.set_cons_zero, List.set_cons_succ]
        refine takeW 1 (v := ?v38) rfl (by kernel_rfl) (by kernel_rfl) (by kernel_rfl) (fun _ _ _ h => h) (by rfl) (by assumption) ?hy38 ?rest38
        case hy38 => intro w' hSw; (try dsimp only at hSw); go_simp; try with_reducible rfl
        try simp only [Act.put, List.setIfInBounds_toArray, List.set_cons_zero, List.set_cons_succ]
        refine takeW 2 (v := ?v39) rfl (by kernel_rfl) (by kernel_rfl) (by kernel_rfl) (fun _ _ _ h => h) (by rfl) (by assumption) ?hy39 ?rest39
        case hy39 => intro w' hSw; (try dsimp only at hSw); go_simp; try with_reducible rfl
        try simp only [Act.put, List.setIfInBounds_toArray, List.set_cons_zero, List.set_cons_succ]
        refine takeW 3 (v := ?v40) rfl (by kernel_rfl) (by kernel_rfl) (by kernel_rfl) (fun _ _ _ h => h) (by rfl) (by assumption) ?hy40 ?rest40
        case hy40 => intro w' hSw; (try dsimp only at hSw); go_simp; try with_reducible rfl
        try simp only [Act.put, List.setIfInBounds_toArray, List.set_cons_zero, List.set_cons_succ]
        refine takeW 4 (v := ?v41) rfl (by kernel_rfl) (by kernel_rfl) (by kernel_rfl) (fun _ _ _ h => h) (by rfl) (by assumption) ?hy41 ?rest41
        case hy41 => intro w' hSw; (try dsimp only at hSw); go_simp; try with_reducible rfl
        try simp only [Act.put, List.setIfInBounds_toArray, List.set_cons_zero, List.set_cons_succ]
        refine takeW 6 (v := ?v42) rfl (by kernel_rfl) (by kernel_rfl) (by kernel_rfl) (fun _ _ _ h => h) (by rfl) (by assumption) ?hy42 ?rest42
        case hy42 => intro w' hSw; (try dsimp only at hSw); go_simp; try with_reducible rfl
        try simp only [Act.put, List.setIfInBounds_toArray, List.set_cons_zero, List.set_cons_succ]
        refine takeW 7 (v := ?v43) rfl (by kernel_rfl) (by kernel_rfl) (by kernel_rfl) (fun _ _ _ h => h) (by rfl) (by assumption) ?hy43 ?rest43
        case hy43 => intro w' hSw; (try dsimp only at hSw); go_simp; try with_reducible rfl
        try simp only [Act.put, List.setIfInBounds_toArray, List.set_cons_zero, List.set_cons_succ]
        refine takeW 8 (v := ?v44) rfl (by kernel_rfl) (by kernel_rfl) (by kernel_rfl) (fun _ _ _ h => h) (by rfl) (by assumption) ?hy44 ?rest44
        case hy44 => intro w' hSw; (try dsimp only at hSw); go_simp; try with_reducible rfl
        try simp only [Act.put, List.setIfInBounds_toArray, List.set_cons_zero, List.set_cons_succ]
        refine takeW 9 (v := ?v45) rfl (by kernel_rfl) (by kernel_rfl) (by kernel_rfl) (fun _ _ _ h => h) (by rfl) (by assumption) ?hy45 ?rest45
        case hy45 => intro w' hSw; (try dsimp only at hSw); go_simp; try with_reducible rfl
        try simp only [Act.put, List.setIfInBounds_toArray, List.set_cons_zero, List.set_cons_succ]
        refine takeW 10 (v := ?v46) rfl (by kernel_rfl) (by kernel_rfl) (by kernel_rfl) (fun _ _ _ h => h) (by rfl) (by assumption) ?hy46 ?rest46
        case hy46 => intro w' hSw; (try dsimp only at hSw); go_simp; try with_reducible rfl
        try simp only [Act.put, List.setIfInBounds_toArray, List.set_cons_zero, List.set_cons_succ]
        refine takeW 11 (v := ?v47) rfl (by kernel_rfl) (by kernel_rfl) (by kernel_rfl) (fun _ _ _ h => h) (by rfl) (by assumption) ?hy47 ?rest47
        case hy47 => intro w' hSw; (try dsimp only at hSw); go_simp; try with_reducible rfl
        try simp only [Act.put, List.setIfInBounds_toArray, List.set_cons_zero, List.set_cons_succ]
        refine takeC 5 (by kernel_rfl) rfl (fun K hK => ?_)
        go_simp
        refine (itself_any k _).mono ?_; rintro e w1 ⟨rfl, rfl⟩
        refine hK.out _ _ ?_ (fun hHeld => ?_)
        · go_keep
        clear hK K
        try simp only [Act.put, List.setIfInBounds_toArray, List.set_cons_zero, List.set_cons_succ]
        refine takeC 12 (by kernel_rfl) rfl (fun K hK => ?_)
        go_simp
        refine (itself_any p _).mono ?_; rintro e w2 ⟨rfl, rfl⟩
        refine hK.out _ _ ?_ (fun hHeld => ?_)
        · go_keep
        clear hK K
        try simp only [Act.put, List.setIfInBounds_toArray, List.set_cons_zero, List.set_cons_succ]
        refine takeW 13 (v := ?v48) rfl (by kernel_rfl) (by kernel_rfl) (by kernel_rfl) (fun _ _ _ h => h) (by rfl) (by assumption) ?hy48 ?rest48
        case hy48 => intro w' hSw; (try dsimp only at hSw); go_simp; try with_reducible rfl
        try simp only [Act.put, List.setIfInBounds_toArray, List.set_cons_zero, List.set_cons_succ]
        refine wpAnyH_done (by kernel_rfl) ?_ _
        all_goals go_wp2
        all_goals go_roundw
        all_goals first
          | exact ⟨m + 1, .inl hlt, by omega, by go_num, HR.out, below_one hB (Below.refl _ wr).drew⟩
          | ((repeat apply Exists.intro); exact ⟨⟨m + 1, .inl hlt, by omega, by go_num, HR.out, below_one hB (Below.refl _ wr).drew⟩, rfl⟩)
          | (simp [intOf]; omega)
    · have HR := hid (show upN zs = true from upN_yes fun i hi => HU.out i (by omega))
      have hl1 : ¬ (m : Int) < (zs.length : Int) := by omega
      go_wp2
      go_ret
      exact ⟨ret_bool HR.out.symm, hB⟩

end Go.Proofs.YtoaeckcenobfcaaGreat

namespace Go.Proofs.YtoaeckcenobfcaaGreat
open Go.RowKit Go.Shelf Go.Sort

set_option maxHeartbeats 2000000 in
theorem implPlain_any (v : Value) (rs : List Ru) (w : World) (hm : rs.length ≤ 1048577) (hf : ∀ r ∈ rs, r.size ≤ 1048576) (hr : RuR w v rs) :
    Calls Tryz.prog 30 #[v] w fun e w' => ∃ v', e = .returned (.tuple #[v', .bool (polB rs)]) ∧ w'.ownsRow w.heap.size 41 4 v' (plX rs).length ((plX rs).flatMap Ru.cells) ∧ Below w.heap.size w w' := by
  rcases hr with ⟨rfl, rfl⟩ | ⟨b, off, cap, rfl, hb, hle, hc⟩
  · exact implPlainPolicy_any _ [] w.heap.size w hm hf (World.ownsRow_nil _ _ _ _)
  have hr : RuR w (.slice (some ⟨b, off, none⟩) rs.length cap) rs := .inr ⟨b, off, cap, rfl, hb, hle, hc⟩
  clear hc
  cases hp : polB rs
  · have HX := hid (plX_no hp)
    go_enter Tryz.func30, Tryz.ntmps30
    go_wp2_with fail
    refine (goodPolicy_any _ rs _ hm hf hr.s).mono ?_
    rintro e w1 ⟨rfl, hB1⟩
    rw [hp]
    go_wp2_with fail
    go_ret2
    exact ⟨_, rfl, by rw [HX.out]; exact World.ownsRow_nil _ _ _ _, hB1⟩
  · have HX := hid (plX_yes hp)
    have HG := hid (pol_all hp)
    go_enter Tryz.func30, Tryz.ntmps30
    go_wp2_with fail
    refine (goodPolicy_any _ rs _ hm hf hr.s).mono ?_
    rintro e w1 ⟨rfl, hB1⟩
    rw [hp]
    go_wp2_with fail
    refine (cloneRu_any _ rs _ hm (hr.below hB1)).mono ?_
    rintro e w2 ⟨v2, rfl, hrow2, hnn, hB2⟩
    have hBB2 := below_one hB1 hB2
    rcases row_form hrow2 with ⟨h', _⟩ | ⟨g2, cap2, rfl, hg2, hcap2⟩
    · rcases hnn with hnn | hnn
      · cases hnn
      · exact absurd h' hnn
    · clear hnn
      obtain ⟨l, hl⟩ : ∃ l : List SmR, l.map Subtype.val = rs := ⟨rs.pmap Subtype.mk hf, by simp [List.map_pmap]⟩
      have hll : l.length = rs.length := by rw [← hl, List.length_map]
      have hrow2' : w2.ownsRow w1.heap.size 41 4 (.slice (some ⟨g2, 0, none⟩) l.length cap2) l.length ((l.map Subtype.val).flatMap Ru.cells) := by rw [hl, hll]; exact hrow2
      have hz12 := hB1.size
      clear hr
      go_wp2_with fail
      rw [← hll]
      refine (sortRules_any w1.heap.size g2 cap2 l _ (by omega) hrow2').mono ?_
      rintro e w3 ⟨rfl, ds, hperm, hsort, hrow3, hg3⟩
      have hBB3 : Below w.heap.size w w3 := hBB2.grown hg3 hBB2.size (fun k hk => by cases hk; omega)
      have hdl : (ds.map Subtype.val).length = rs.length := by rw [List.length_map, ← hll]; exact hperm.length_eq
      rw [hll] at hrow3
      have HP := hid (show cpTo (ds.map Subtype.val) rs.length = plTo rs rs.length by
        have := plain_eq (rs := rs) (ds := ds.map Subtype.val) HG.out.1 (by rw [← hl]; exact hperm.map _) (fun i j hi hj => by
          rw [List.getElem_map, List.getElem_map]
          exact hsort i j hi (by rw [List.length_map] at hj; exact hj))
        rw [hdl] at this
        exact this)
      clear hrow2 hrow2' hB1 hB2 hsort hperm
      go_wp2_with fail
      refine (compact_any w1.heap.size g2 cap2 rs.length (ds.map Subtype.val) _ hdl (by omega) hrow3).mono ?_
      rintro e w4 ⟨rfl, hrow4, hg4⟩
      rw [HP.out] at hrow4 ⊢
      have hBB4 : Below w.heap.size w w4 := hBB3.grown hg4 hBB3.size (fun k hk => by cases hk; omega)
      go_wp2_with fail
      go_ret2
      exact ⟨_, rfl, by rw [HX.out]; exact Go.Joins.ownsRow_le hrow4 hz12, hBB4⟩

/-- A number is a serial. -/
def okS (n : Int) : Bool := decide (1 ≤ n ∧ n < 100001)
theorem okSerial_any (n : Int) (w : World) :
    Calls Tryz.prog 86 #[.int .i64 n] w fun e w' => e = .returned (.bool (okS n)) ∧ w' = w := by
  by_cases c1 : 1 ≤ n
  · by_cases c2 : n ≤ 100000
    · have HR := hid (show okS n = true from decide_eq_true (by omega))
      go_enter Tryz.func86, Tryz.ntmps86
      go_wp2
      go_ret
      exact ⟨ret_bool HR.out.symm, rfl⟩
    · have HR := hid (show okS n = false from decide_eq_false (by omega))
      go_enter Tryz.func86, Tryz.ntmps86
      go_wp2
      go_ret
      exact ⟨ret_bool HR.out.symm, rfl⟩
  · have HR := hid (show okS n = false from decide_eq_false (by omega))
    go_enter Tryz.func86, Tryz.ntmps86
    go_wp2
    go_ret
    exact ⟨ret_bool HR.out.symm, rfl⟩

set_option maxHeartbeats 1000000 in
theorem fewSerials_any (v : Value) (zs : List Int) (w : World) (hm : zs.length ≤ 1048577) (hr : VS w v (nums zs)) :
    Calls Tryz.prog 52 #[v] w fun e w' => e = .returned (.bool (fewB zs)) ∧ w' = w := by
  obtain ⟨a, cap, rfl⟩ := hr.numLen
  by_cases h2 : zs.length ≤ 200
  · have HY := hid (fun h => fewB_yes (zs := zs) h2 h)
    have HL := hid h2
    have d0 : ¬ (200 : Int) < (zs.length : Int) := by omega
    go_enter Tryz.func52, Tryz.ntmps52
    go_wp2
    go_loop [10] (fun i => ∃ n : Nat, n ≤ zs.length ∧ i = .int .i64 n ∧ ∀ j (hj : j < zs.length), j < n → 1 ≤ zs[j] ∧ zs[j] < 100001) (fun i => zs.length - (intOf i).toNat)
    case atStart => exact ⟨0, Nat.zero_le _, rfl, fun _ _ h => absurd h (Nat.not_lt_zero _)⟩
    case round =>
      obtain ⟨n, hn, rfl, ht⟩ := hrel
      have HT := hid ht
      clear ht
      by_cases hlt : n < zs.length
      · obtain ⟨b, off, rfl, hb, hcap, q0⟩ := hr.num hlt
        have HN := hid (fun h => fewB_no2 (okN_no (nx := 100001) (zs := zs) hlt h))
        have HS := hid (show (1 ≤ zs[n] ∧ zs[n] < 100001) → ∀ j (hj : j < zs.length), j < n + 1 → 1 ≤ zs[j] ∧ zs[j] < 100001 from fun h j hj hjn => by
          by_cases e : j = n
          · subst e; exact h
          · exact HT.out j hj (by omega))
        generalize zs[n] = x at *
        by_cases hx : 1 ≤ x ∧ x < 100001
        · have hd : okS x = true := decide_eq_true hx
          have HR := hid (HS.out hx)
          clear hx
          go_wp2_with (go_at_call 86; refine (okSerial_any x _).mono ?_; rintro e w1 ⟨rfl, rfl⟩; rw [hd])
          exact ⟨⟨n + 1, by omega, by go_num, HR.out⟩, by simp [intOf]; omega⟩
        · have hd : okS x = false := decide_eq_false hx
          have HR := hid (HN.out hx)
          clear hx
          go_wp2_with (go_at_call 86; refine (okSerial_any x _).mono ?_; rintro e w1 ⟨rfl, rfl⟩; rw [hd])
          go_ret
          exact ⟨ret_bool HR.out.symm, rfl⟩
      · obtain rfl : n = zs.length := by omega
        have HR := hid (HY.out (okN_yes fun i hi => HT.out i hi hi))
        go_wp2
        go_ret
        exact ⟨ret_bool HR.out.symm, rfl⟩
  · have HR := hid (fewB_no1 (zs := zs) h2)
    have d0 : (200 : Int) < (zs.length : Int) := by omega
    go_enter Tryz.func52, Tryz.ntmps52
    go_wp2
    go_ret
    exact ⟨ret_bool HR.out.symm, rfl⟩

set_option maxHeartbeats 4000000 in
theorem implGoodSnapshot_any (v : Value) (s : Sn) (w : World) (hs : s.short) (h : SnR w v s) :
    Calls Tryz.prog 24 #[v] w fun e w' => e = .returned (.bool (snB s)) ∧ Below w.heap.size w w' := by
  obtain ⟨vp, vr, rfl, h1, h2⟩ := h
  obtain ⟨l1, l2, hz⟩ := hs
  obtain ⟨ap, cp, rfl⟩ := h1.len
  obtain ⟨ar, cr, rfl⟩ := h2.len
  have hB0 : Below w.heap.size w (w.alloc (.cells #[.int .i64 s.num, .slice ap s.pol.length cp, .slice ar s.rv.length cr] 26)) := (Below.refl _ w).alloc (Nat.le_refl _) _
  have F := Three.new w (.int .i64 s.num) (.slice ap s.pol.length cp) (.slice ar s.rv.length cr) 26
  by_cases c1 : s.num < 1
  · have HR := hid (snB_no1 (s := s) (decide_eq_false (by omega)))
    go_enter Tryz.func24, Tryz.ntmps24
    go_wp2
    go_ret
    exact ⟨ret_bool HR.out.symm, hB0⟩
  by_cases c2 : 100000 < s.num
  · have HR := hid (snB_no1 (s := s) (decide_eq_false (by omega)))
    go_enter Tryz.func24, Tryz.ntmps24
    go_wp2
    go_ret
    exact ⟨ret_bool HR.out.symm, hB0⟩
  have HN := hid (show numB s.num = true from decide_eq_true (by omega))
  go_enter Tryz.func24, Tryz.ntmps24
  go_wp2_with fail
  generalize w.alloc (.cells #[.int .i64 s.num, .slice ap s.pol.length cp, .slice ar s.rv.length cr] 26) = W0 at *
  refine (implPlain_any _ s.pol _ (by omega) hz (h1.below hB0)).mono ?_
  rintro e w1 ⟨v1, rfl, o1, hB1⟩
  have hpl := plX_len (rs := s.pol) (by omega)
  obtain ⟨a1, k1, rfl⟩ := ownsRow_len o1
  replace F := F.below hB1
  have hBB1 := below_one hB0 hB1
  clear hB0 hB1
  obtain ⟨a0, a1', a2⟩ := F.c
  cases hp : polB s.pol
  · have HR := hid (snB_no2 hp)
    go_wp2
    go_ret
    exact ⟨ret_bool HR.out.symm, hBB1⟩
  go_wp2_with fail
  refine (equalRu_any _ _ (plX s.pol) s.pol _ hpl (by omega) (RuR.own o1) (h1.below hBB1)).mono ?_
  rintro e w2 ⟨rfl, hB2⟩
  replace F := F.below hB2
  have hBB2 := below_one hBB1 hB2
  clear hBB1 hB2 a0 a1' a2
  obtain ⟨a0, a1', a2⟩ := F.c
  cases hsm : sameS (plX s.pol) s.pol
  · have HR := hid (snB_no3 hsm)
    go_wp2
    go_ret
    exact ⟨ret_bool HR.out.symm, hBB2⟩
  go_wp2_with fail
  refine (fewSerials_any _ s.rv _ (by omega) (h2.below hBB2).s).mono ?_
  rintro e w3 ⟨rfl, rfl⟩
  cases hfw : fewB s.rv
  · have HR := hid (snB_no4 hfw)
    go_wp2
    go_ret
    exact ⟨ret_bool HR.out.symm, hBB2⟩
  go_wp2_with fail
  refine (risingN_any _ s.rv _ (by omega) (h2.below hBB2).s).mono ?_
  rintro e w4 ⟨rfl, hB4⟩
  have hBB4 := below_one hBB2 hB4
  cases hup : upN s.rv
  · have HR := hid (snB_no5 hup)
    go_wp2
    go_ret
    exact ⟨ret_bool HR.out.symm, hBB4⟩
  have HR := hid (snB_yes HN.out hp hsm hfw hup)
  go_wp2
  go_ret
  exact ⟨ret_bool HR.out.symm, hBB4⟩

end Go.Proofs.YtoaeckcenobfcaaGreat

namespace Go.Proofs.YtoaeckcenobfcaaGreat
open Go.RowKit Go.Shelf

/-- A slice reads as this list of versions. -/
def SsA (w : World) (v : Value) (ss : List Sn) : Prop :=
  (∃ a cap, v = .slice a 0 cap ∧ ss = []) ∨
  ∃ b off cap, v = .slice (some ⟨b, off, none⟩) ss.length cap ∧ b < w.heap.size ∧ ss.length ≤ cap ∧ ∀ i (h : i < ss.length), ∃ vp vr, w.cell? ⟨b, off + i * 3, none⟩ = some (.int .i64 ss[i].num) ∧ w.cell? ⟨b, off + i * 3 + 1, none⟩ = some vp ∧ w.cell? ⟨b, off + i * 3 + 2, none⟩ = some vr ∧ RuS w vp ss[i].pol ∧ VS w vr (nums ss[i].rv)
def SsR (w : World) (v : Value) (ss : List Sn) : Prop :=
  (v = .slice none 0 0 ∧ ss = []) ∨
  ∃ b off cap, v = .slice (some ⟨b, off, none⟩) ss.length cap ∧ b < w.heap.size ∧ ss.length ≤ cap ∧ ∀ i (h : i < ss.length), ∃ vp vr, w.cell? ⟨b, off + i * 3, none⟩ = some (.int .i64 ss[i].num) ∧ w.cell? ⟨b, off + i * 3 + 1, none⟩ = some vp ∧ w.cell? ⟨b, off + i * 3 + 2, none⟩ = some vr ∧ RuR w vp ss[i].pol ∧ NuR w vr ss[i].rv
theorem SsA.below {w w' : World} {v : Value} {ss : List Sn} (h : SsA w v ss) (hB : Below w.heap.size w w') : SsA w' v ss := by
  rcases h with h | ⟨b, off, cap, hv, hb, hl, hc⟩
  · exact .inl h
  · refine .inr ⟨b, off, cap, hv, Nat.lt_of_lt_of_le hb hB.size, hl, fun i hi => ?_⟩
    obtain ⟨vp, vr, c0, c1, c2, h1, h2⟩ := hc i hi
    exact ⟨vp, vr, (hB.cell (p := ⟨b, _, none⟩) hb).trans c0, (hB.cell (p := ⟨b, _, none⟩) hb).trans c1, (hB.cell (p := ⟨b, _, none⟩) hb).trans c2, h1.below hB, h2.below hB⟩
theorem SsR.below {w w' : World} {v : Value} {ss : List Sn} (h : SsR w v ss) (hB : Below w.heap.size w w') : SsR w' v ss := by
  rcases h with h | ⟨b, off, cap, hv, hb, hl, hc⟩
  · exact .inl h
  · refine .inr ⟨b, off, cap, hv, Nat.lt_of_lt_of_le hb hB.size, hl, fun i hi => ?_⟩
    obtain ⟨vp, vr, c0, c1, c2, h1, h2⟩ := hc i hi
    exact ⟨vp, vr, (hB.cell (p := ⟨b, _, none⟩) hb).trans c0, (hB.cell (p := ⟨b, _, none⟩) hb).trans c1, (hB.cell (p := ⟨b, _, none⟩) hb).trans c2, h1.below hB, h2.below hB⟩
theorem SsR.a {w : World} {v : Value} {ss : List Sn} (h : SsR w v ss) : SsA w v ss := by
  rcases h with ⟨rfl, rfl⟩ | ⟨b, off, cap, hv, hb, hl, hc⟩
  · exact .inl ⟨_, _, rfl, rfl⟩
  · refine .inr ⟨b, off, cap, hv, hb, hl, fun i hi => ?_⟩
    obtain ⟨vp, vr, c0, c1, c2, h1, h2⟩ := hc i hi
    exact ⟨vp, vr, c0, c1, c2, h1.s, h2.s⟩
theorem SsA.len {w : World} {v : Value} {ss : List Sn} (h : SsA w v ss) : ∃ a cap, v = .slice a ss.length cap := by
  rcases h with ⟨a, cap, hv, rfl⟩ | ⟨b, off, cap, hv, _⟩
  · exact ⟨a, cap, hv⟩
  · exact ⟨_, cap, hv⟩
theorem SsR.len {w : World} {v : Value} {ss : List Sn} (h : SsR w v ss) : ∃ a cap, v = .slice a ss.length cap := h.a.len
theorem SsA.at {w : World} {a : Option Addr} {n cap : Nat} {ss : List Sn} (h : SsA w (.slice a n cap) ss) {i : Nat} (hi : i < ss.length) :
    ∃ b off xp cp xr cr, a = some ⟨b, off, none⟩ ∧ b < w.heap.size ∧ n ≤ cap ∧ w.cell? ⟨b, off + i * 3, none⟩ = some (.int .i64 ss[i].num) ∧ w.cell? ⟨b, off + i * 3 + 1, none⟩ = some (.slice xp ss[i].pol.length cp) ∧ w.cell? ⟨b, off + i * 3 + 2, none⟩ = some (.slice xr ss[i].rv.length cr) ∧ RuS w (.slice xp ss[i].pol.length cp) ss[i].pol ∧ VS w (.slice xr ss[i].rv.length cr) (nums ss[i].rv) := by
  rcases h with ⟨_, _, _, rfl⟩ | ⟨b, off, cap, hv, hb, hl, hc⟩
  · simp at hi
  · cases hv
    obtain ⟨vp, vr, c0, c1, c2, h1, h2⟩ := hc i hi
    obtain ⟨xp, cp, rfl⟩ := h1.len
    obtain ⟨xr, cr, rfl⟩ := h2.numLen
    exact ⟨b, off, xp, cp, xr, cr, rfl, hb, hl, c0, c1, c2, h1, h2⟩
theorem SsR.at {w : World} {a : Option Addr} {n cap : Nat} {ss : List Sn} (h : SsR w (.slice a n cap) ss) {i : Nat} (hi : i < ss.length) :
    ∃ b off xp cp xr cr, a = some ⟨b, off, none⟩ ∧ b < w.heap.size ∧ n ≤ cap ∧ w.cell? ⟨b, off + i * 3, none⟩ = some (.int .i64 ss[i].num) ∧ w.cell? ⟨b, off + i * 3 + 1, none⟩ = some (.slice xp ss[i].pol.length cp) ∧ w.cell? ⟨b, off + i * 3 + 2, none⟩ = some (.slice xr ss[i].rv.length cr) ∧ RuR w (.slice xp ss[i].pol.length cp) ss[i].pol ∧ NuR w (.slice xr ss[i].rv.length cr) ss[i].rv := by
  rcases h with ⟨_, rfl⟩ | ⟨b, off, cap, hv, hb, hl, hc⟩
  · simp at hi
  · cases hv
    obtain ⟨vp, vr, c0, c1, c2, h1, h2⟩ := hc i hi
    obtain ⟨xp, cp, rfl⟩ := h1.len
    obtain ⟨xr, cr, rfl⟩ := h2.len
    exact ⟨b, off, xp, cp, xr, cr, rfl, hb, hl, c0, c1, c2, h1, h2⟩

def vzTo (ss : List Sn) (n : Nat) : Nat := ((ss.take n).map Sn.size).sum
def vzAll (ss : List Sn) : Nat := ss.length + vzTo ss ss.length
theorem vzTo_zero (ss : List Sn) : vzTo ss 0 = 0 := by simp [vzTo]
theorem vzTo_succ {ss : List Sn} {n : Nat} (h : n < ss.length) : vzTo ss (n + 1) = vzTo ss n + ss[n].size := by
  unfold vzTo
  rw [List.take_succ_eq_append_getElem h, List.map_append, List.sum_append]
  simp
theorem vzTo_le (ss : List Sn) (n : Nat) : vzTo ss n ≤ vzTo ss ss.length := by
  unfold vzTo
  rw [List.take_length]
  conv => rhs; rw [← List.take_append_drop n ss, List.map_append, List.sum_append]
  omega
theorem vz_mem {ss : List Sn} {s : Sn} (h : s ∈ ss) : s.size ≤ vzTo ss ss.length := by
  unfold vzTo
  rw [List.take_length]
  exact sum_mem (List.mem_map.2 ⟨s, h, rfl⟩)
def leftVS (n : Int) (ss : List Sn) : Int := if (vzAll ss : Int) ≤ n then n - vzAll ss else -1

/-- No list is longer than the laws take. -/
def shortS (ss : List Sn) : Prop := ss.length ≤ 1048576 ∧ ∀ s ∈ ss, s.short
theorem shortS_of {ss : List Sn} (h : vzAll ss ≤ 1048576) : shortS ss := by
  unfold vzAll at h
  exact ⟨by omega, fun s hs => Sn.short_of (by have := vz_mem hs; omega)⟩

end Go.Proofs.YtoaeckcenobfcaaGreat

namespace Go.Proofs.YtoaeckcenobfcaaGreat
open Go.RowKit Go.Shelf

/-- A row of n places, of which the first k hold these versions, whose lists lie in blocks of their own from base on, below top. -/
structure SsK (w : World) (base top : Nat) (v : Value) (n : Nat) (ss : List Sn) (k : Nat) (xs : List Value) (vp vr : Nat → Value) : Prop where
  row : w.ownsRow base 26 3 v n xs
  rlt : ∀ j, v.ownBlock = some j → j < top
  cs : ∀ i (h : i < ss.length), i < k → xs[i * 3]? = some (.int .i64 ss[i].num) ∧ xs[i * 3 + 1]? = some (vp i) ∧ xs[i * 3 + 2]? = some (vr i)
  pol : ∀ i (h : i < ss.length), i < k → w.ownsRow base 41 4 (vp i) ss[i].pol.length (ss[i].pol.flatMap Ru.cells)
  num : ∀ i (h : i < ss.length), i < k → w.ownsRow base 3 1 (vr i) ss[i].rv.length (nums ss[i].rv)
  plt : ∀ i, i < ss.length → i < k → ∀ j, (vp i).ownBlock = some j → j < top
  nlt : ∀ i, i < ss.length → i < k → ∀ j, (vr i).ownBlock = some j → j < top
  pap : ∀ i j, i < ss.length → j < ss.length → i < k → j < k → i ≠ j → ∀ b, (vp i).ownBlock = some b → (vp j).ownBlock = some b → False
  nap : ∀ i j, i < ss.length → j < ss.length → i < k → j < k → i ≠ j → ∀ b, (vr i).ownBlock = some b → (vr j).ownBlock = some b → False
/-- A list of versions of one's own. -/
def SsO (w : World) (base top : Nat) (v : Value) (ss : List Sn) : Prop := ∃ xs vp vr, SsK w base top v ss.length ss ss.length xs vp vr
theorem SsK.below {w w' : World} {base top : Nat} {v : Value} {n : Nat} {ss : List Sn} {k : Nat} {xs : List Value} {vp vr : Nat → Value} (h : SsK w base top v n ss k xs vp vr) (hB : Below w.heap.size w w') : SsK w' base top v n ss k xs vp vr :=
  ⟨ownsRow_below h.row hB, h.rlt, h.cs, fun i hi hk => ownsRow_below (h.pol i hi hk) hB, fun i hi hk => ownsRow_below (h.num i hi hk) hB, h.plt, h.nlt, h.pap, h.nap⟩
theorem SsO.below {w w' : World} {base top : Nat} {v : Value} {ss : List Sn} (h : SsO w base top v ss) (hB : Below w.heap.size w w') : SsO w' base top v ss := by
  obtain ⟨xs, vp, vr, h⟩ := h
  exact ⟨xs, vp, vr, h.below hB⟩
theorem Mid.sso {lo hi : Nat} {w w1 : World} (hM : Mid lo hi w w1) {base top : Nat} {v : Value} {ss : List Sn} (h : SsO w base top v ss) (ho : hi ≤ base ∨ top ≤ lo) : SsO w1 base top v ss := by
  obtain ⟨xs, vp, vr, h⟩ := h
  exact ⟨xs, vp, vr, hM.row h.row (fun j hj => by have := h.row.lt j hj; have := h.rlt j hj; omega), h.rlt, h.cs,
    fun i hi hk => hM.row (h.pol i hi hk) (fun j hj => by have := (h.pol i hi hk).lt j hj; have := h.plt i hi hk j hj; omega),
    fun i hi hk => hM.row (h.num i hi hk) (fun j hj => by have := (h.num i hi hk).lt j hj; have := h.nlt i hi hk j hj; omega), h.plt, h.nlt, h.pap, h.nap⟩
theorem SsO.r {w : World} {base top : Nat} {v : Value} {ss : List Sn} (h : SsO w base top v ss) : SsR w v ss := by
  obtain ⟨xs, vp, vr, h⟩ := h
  rcases row_form h.row with ⟨rfl, h0⟩ | ⟨g, cap, rfl, hg, hcap⟩
  · exact .inl ⟨rfl, List.eq_nil_of_length_eq_zero h0⟩
  · refine .inr ⟨g, 0, cap, rfl, (h.row.lt g rfl).2, hcap, fun i hi => ?_⟩
    obtain ⟨c0, c1, c2⟩ := h.cs i hi hi
    refine ⟨vp i, vr i, ?_, ?_, ?_, RuR.own (h.pol i hi hi), NuR.own (h.num i hi hi)⟩
    · rw [Nat.zero_add, h.row.cellAt (i * 3) (by omega)]; exact c0
    · rw [Nat.zero_add, h.row.cellAt (i * 3 + 1) (by omega)]; exact c1
    · rw [Nat.zero_add, h.row.cellAt (i * 3 + 2) (by omega)]; exact c2
theorem SsO.a {w : World} {base top : Nat} {v : Value} {ss : List Sn} (h : SsO w base top v ss) : SsA w v ss := h.r.a
theorem SsO.mono {w : World} {base base' top top' : Nat} {v : Value} {ss : List Sn} (h : SsO w base top v ss) (hb : base' ≤ base) (ht : top ≤ top') : SsO w base' top' v ss := by
  obtain ⟨xs, vp, vr, h⟩ := h
  exact ⟨xs, vp, vr, Go.Joins.ownsRow_le h.row hb, fun j hj => Nat.lt_of_lt_of_le (h.rlt j hj) ht, h.cs, fun i hi hk => Go.Joins.ownsRow_le (h.pol i hi hk) hb, fun i hi hk => Go.Joins.ownsRow_le (h.num i hi hk) hb,
    fun i hi hk j hj => Nat.lt_of_lt_of_le (h.plt i hi hk j hj) ht, fun i hi hk j hj => Nat.lt_of_lt_of_le (h.nlt i hi hk j hj) ht, h.pap, h.nap⟩
theorem SsO.none (w : World) (base top : Nat) : SsO w base top (.slice none 0 0) [] :=
  ⟨[], fun _ => .nilIface, fun _ => .nilIface, World.ownsRow_nil _ _ _ _, fun _ h => by simp [Value.ownBlock] at h, fun _ h => by simp at h, fun _ h => by simp at h, fun _ h => by simp at h, fun _ h => by simp at h, fun _ h => by simp at h, fun _ _ h => by simp at h, fun _ _ h => by simp at h⟩
theorem tyR : (41 : TypeId) ≠ 26 := by decide
theorem tyN : (3 : TypeId) ≠ 26 := by decide
theorem tyRN : (41 : TypeId) ≠ 3 := by decide
/-- Three cells stored into a row's block leave rows of another kind as they are. -/
theorem row_kept3 {w : World} {b1 b2 : Nat} {e1 : TypeId} {s1 n1 g n cap : Nat} {v1 : Value} {x1 xs : List Value} (h : w.ownsRow b1 e1 s1 v1 n1 x1) (hr : w.ownsRow b2 26 3 (.slice (some ⟨g, 0, none⟩) n cap) n xs) (hne : e1 ≠ 26) (o0 o1 o2 : Nat) (y0 y1 y2 : Value) :
    (((w.setCell ⟨g, o0, none⟩ y0).setCell ⟨g, o1, none⟩ y1).setCell ⟨g, o2, none⟩ y2).ownsRow b1 e1 s1 v1 n1 x1 := by
  have hb : v1.ownBlock ≠ some g := fun e => row_apart h hr hne g e rfl
  exact ownsRow_setCell_other (ownsRow_setCell_other (ownsRow_setCell_other h (a := ⟨g, o0, none⟩) hb y0) (a := ⟨g, o1, none⟩) hb y1) (a := ⟨g, o2, none⟩) hb y2
/-- One more version is laid into the row. -/
theorem SsK.add {w w2 : World} {base g n cap : Nat} {ss : List Sn} {k : Nat} {xs : List Value} {vp vr : Nat → Value} {p r : Value} (h : SsK w base w.heap.size (.slice (some ⟨g, 0, none⟩) n cap) n ss k xs vp vr) (hB : Below w.heap.size w w2) (hk : k < ss.length) (hkn : k < n) (hb : base ≤ w.heap.size)
    (hp : w2.ownsRow w.heap.size 41 4 p ss[k].pol.length (ss[k].pol.flatMap Ru.cells)) (hr : w2.ownsRow w.heap.size 3 1 r ss[k].rv.length (nums ss[k].rv)) :
    SsK (((w2.setCell ⟨g, k * 3, none⟩ (.int .i64 ss[k].num)).setCell ⟨g, k * 3 + 1, none⟩ p).setCell ⟨g, k * 3 + 2, none⟩ r) base (((w2.setCell ⟨g, k * 3, none⟩ (.int .i64 ss[k].num)).setCell ⟨g, k * 3 + 1, none⟩ p).setCell ⟨g, k * 3 + 2, none⟩ r).heap.size (.slice (some ⟨g, 0, none⟩) n cap) n ss (k + 1) (((xs.set (k * 3) (.int .i64 ss[k].num)).set (k * 3 + 1) p).set (k * 3 + 2) r) (fun i => if i = k then p else vp i) (fun i => if i = k then r else vr i) := by
  have h2 := h.below hB
  have hlen : xs.length = n * 3 := h.row.1
  have hsz : (((w2.setCell ⟨g, k * 3, none⟩ (.int .i64 ss[k].num)).setCell ⟨g, k * 3 + 1, none⟩ p).setCell ⟨g, k * 3 + 2, none⟩ r).heap.size = w2.heap.size := by rw [World.size_setCell, World.size_setCell, World.size_setCell]
  have hs := hB.size
  refine ⟨((h2.row.stored (k * 3) _).1.stored (k * 3 + 1) _).1.stored (k * 3 + 2) _ |>.1, ?_, ?_, ?_, ?_, ?_, ?_, ?_, ?_⟩
  · intro j hj
    rw [hsz]
    exact Nat.lt_of_lt_of_le (h.rlt j hj) hs
  · intro i hi hik
    by_cases e : i = k
    · subst e
      rw [if_pos rfl, if_pos rfl]
      refine ⟨?_, ?_, ?_⟩
      · rw [List.getElem?_set_ne (by omega), List.getElem?_set_ne (by omega), List.getElem?_set_self (by omega)]
      · rw [List.getElem?_set_ne (by omega), List.getElem?_set_self (by simp; omega)]
      · rw [List.getElem?_set_self (by simp; omega)]
    · rw [if_neg e, if_neg e]
      obtain ⟨c0, c1, c2⟩ := h.cs i hi (by omega)
      refine ⟨?_, ?_, ?_⟩
      · rw [List.getElem?_set_ne (by omega), List.getElem?_set_ne (by omega), List.getElem?_set_ne (by omega)]; exact c0
      · rw [List.getElem?_set_ne (by omega), List.getElem?_set_ne (by omega), List.getElem?_set_ne (by omega)]; exact c1
      · rw [List.getElem?_set_ne (by omega), List.getElem?_set_ne (by omega), List.getElem?_set_ne (by omega)]; exact c2
  · intro i hi hik
    by_cases e : i = k
    · subst e
      rw [if_pos rfl]
      exact row_kept3 (Go.Joins.ownsRow_le hp hb) h2.row tyR _ _ _ _ _ _
    · rw [if_neg e]
      exact row_kept3 (h2.pol i hi (by omega)) h2.row tyR _ _ _ _ _ _
  · intro i hi hik
    by_cases e : i = k
    · subst e
      rw [if_pos rfl]
      exact row_kept3 (Go.Joins.ownsRow_le hr hb) h2.row tyN _ _ _ _ _ _
    · rw [if_neg e]
      exact row_kept3 (h2.num i hi (by omega)) h2.row tyN _ _ _ _ _ _
  · intro i hi hik j hj
    rw [hsz]
    by_cases e : i = k
    · rw [if_pos e] at hj
      exact (hp.lt j hj).2
    · rw [if_neg e] at hj
      exact Nat.lt_of_lt_of_le (h.plt i hi (by omega) j hj) hs
  · intro i hi hik j hj
    rw [hsz]
    by_cases e : i = k
    · rw [if_pos e] at hj
      exact (hr.lt j hj).2
    · rw [if_neg e] at hj
      exact Nat.lt_of_lt_of_le (h.nlt i hi (by omega) j hj) hs
  · intro i j hi hj hik hjk hij b h1 h2'
    by_cases e : i = k
    · rw [if_pos e] at h1
      rw [if_neg (by omega)] at h2'
      have := (hp.lt b h1).1
      have := h.plt j hj (by omega) b h2'
      omega
    · rw [if_neg e] at h1
      have := h.plt i hi (by omega) b h1
      by_cases e2 : j = k
      · rw [if_pos e2] at h2'
        have := (hp.lt b h2').1
        omega
      · rw [if_neg e2] at h2'
        exact h.pap i j hi hj (by omega) (by omega) hij b h1 h2'
  · intro i j hi hj hik hjk hij b h1 h2'
    by_cases e : i = k
    · rw [if_pos e] at h1
      rw [if_neg (by omega)] at h2'
      have := (hr.lt b h1).1
      have := h.nlt j hj (by omega) b h2'
      omega
    · rw [if_neg e] at h1
      have := h.nlt i hi (by omega) b h1
      by_cases e2 : j = k
      · rw [if_pos e2] at h2'
        have := (hr.lt b h2').1
        omega
      · rw [if_neg e2] at h2'
        exact h.nap i j hi hj (by omega) (by omega) hij b h1 h2'
theorem infoSnapshot : (Tryz.prog.info? 26).map (fun i => (i.zero, i.size, i.bytes)) = some (some (.agg #[.int .i64 0, .slice none 0 0, .slice none 0 0]), 3, 56) := by kernel_rfl

end Go.Proofs.YtoaeckcenobfcaaGreat

namespace Go.Proofs.YtoaeckcenobfcaaGreat
open Go.RowKit Go.Shelf

/-- The version that is laid from the number c on. -/
def mkV (c : Nat) (s : Sn) : Sn := ⟨(c : Int), mkL (c + 1) s.pol.length, mkN (c + 1 + 4 * s.pol.length) s.rv.length⟩
def mvTo (ss : List Sn) (j : Nat) : Nat := ((ss.take j).map (fun s => 1 + s.many)).sum
theorem mvTo_zero (ss : List Sn) : mvTo ss 0 = 0 := by simp [mvTo]
theorem mvTo_succ {ss : List Sn} {j : Nat} (h : j < ss.length) : mvTo ss (j + 1) = mvTo ss j + (1 + ss[j].many) := by
  unfold mvTo
  rw [List.take_succ_eq_append_getElem h, List.map_append, List.sum_append]
  simp
theorem mvTo_le (ss : List Sn) (j : Nat) : mvTo ss j ≤ mvTo ss ss.length := by
  unfold mvTo
  rw [List.take_length]
  conv => rhs; rw [← List.take_append_drop j ss, List.map_append, List.sum_append]
  omega
theorem mvTo_size (ss : List Sn) : mvTo ss ss.length ≤ 4 * vzAll ss := by
  have h : ∀ l : List Sn, (l.map (fun s => 1 + s.many)).sum ≤ l.length + 4 * (l.map Sn.size).sum := by
    intro l
    induction l with
    | nil => simp
    | cons s l ih =>
      simp only [List.map_cons, List.sum_cons, List.length_cons]
      have : s.many ≤ 4 * s.size := by unfold Sn.many Sn.size szAll; omega
      omega
  have := h ss
  unfold mvTo vzAll vzTo
  rw [List.take_length]
  omega
/-- The versions of a marked list. -/
def mkVs (c : Nat) (ss : List Sn) : List Sn := (List.range ss.length).map (fun i => match ss[i]? with
  | some s => mkV (c + mvTo ss i) s
  | Option.none => Sn.none)
theorem mkVs_len (c : Nat) (ss : List Sn) : (mkVs c ss).length = ss.length := by simp [mkVs]
theorem mkVs_at {c : Nat} {ss : List Sn} {i : Nat} (h : i < (mkVs c ss).length) : (mkVs c ss)[i] = mkV (c + mvTo ss i) (ss[i]'(by rw [← mkVs_len c ss]; exact h)) := by
  have hi : i < ss.length := by rw [← mkVs_len c ss]; exact h
  simp [mkVs, List.getElem?_eq_getElem hi]
theorem set_next {α : Type} {M L : List α} {j : Nat} (hM : M.length = L.length) (hj : j < L.length) : (M.take j ++ L.drop j).set j (M[j]'(by omega)) = M.take (j + 1) ++ L.drop (j + 1) := by
  rw [List.set_append_right _ _ (by rw [List.length_take]; omega), List.length_take, show j - min j M.length = 0 by omega, List.take_succ_eq_append_getElem (by omega), List.append_assoc]
  congr 1
  rw [List.drop_eq_getElem_cons hj]
  rfl
theorem get_next {α : Type} {M L : List α} {j : Nat} (hM : M.length = L.length) (hj : j < L.length) (h : j < (M.take j ++ L.drop j).length) : (M.take j ++ L.drop j)[j] = L[j] := by
  rw [List.getElem_append_right (by rw [List.length_take]; omega)]
  simp only [List.length_take]
  rw [List.getElem_drop]
  congr 1
  omega
theorem SsK.setNum {w : World} {base top g cap n : Nat} {ss : List Sn} {xs : List Value} {vp vr : Nat → Value} (h : SsK w base top (.slice (some ⟨g, 0, none⟩) n cap) n ss n xs vp vr) (hl : ss.length = n) {j : Nat} (hj : j < ss.length) (z : Int) :
    SsK (w.setCell ⟨g, j * 3, none⟩ (.int .i64 z)) base top (.slice (some ⟨g, 0, none⟩) n cap) n (ss.set j ⟨z, ss[j].pol, ss[j].rv⟩) n (xs.set (j * 3) (.int .i64 z)) vp vr := by
  have hlen : xs.length = n * 3 := h.row.1
  have hnb : ∀ {e : TypeId} {s m : Nat} {v : Value} {x : List Value}, w.ownsRow base e s v m x → e ≠ 26 → v.ownBlock ≠ some g := fun hr hne e => row_apart hr h.row hne g e rfl
  refine ⟨(h.row.stored (j * 3) _).1, h.rlt, ?_, ?_, ?_, fun i hi => h.plt i (by simpa using hi), fun i hi => h.nlt i (by simpa using hi), fun i k hi hk => h.pap i k (by simpa using hi) (by simpa using hk), fun i k hi hk => h.nap i k (by simpa using hi) (by simpa using hk)⟩
  · intro i hi hik
    have hi' : i < ss.length := by simpa using hi
    obtain ⟨c0, c1, c2⟩ := h.cs i hi' hik
    by_cases e : j = i
    · subst e
      rw [List.getElem_set_self]
      exact ⟨by rw [List.getElem?_set_self (by omega)], by rw [List.getElem?_set_ne (by omega)]; exact c1, by rw [List.getElem?_set_ne (by omega)]; exact c2⟩
    · rw [List.getElem_set_ne e]
      exact ⟨by rw [List.getElem?_set_ne (by omega)]; exact c0, by rw [List.getElem?_set_ne (by omega)]; exact c1, by rw [List.getElem?_set_ne (by omega)]; exact c2⟩
  · intro i hi hik
    have hi' : i < ss.length := by simpa using hi
    have := ownsRow_setCell_other (h.pol i hi' hik) (a := ⟨g, j * 3, none⟩) (hnb (h.pol i hi' hik) tyR) (.int .i64 z)
    by_cases e : j = i
    · subst e
      rw [List.getElem_set_self]
      exact this
    · rw [List.getElem_set_ne e]
      exact this
  · intro i hi hik
    have hi' : i < ss.length := by simpa using hi
    have := ownsRow_setCell_other (h.num i hi' hik) (a := ⟨g, j * 3, none⟩) (hnb (h.num i hi' hik) tyN) (.int .i64 z)
    by_cases e : j = i
    · subst e
      rw [List.getElem_set_self]
      exact this
    · rw [List.getElem_set_ne e]
      exact this
theorem SsK.setPol {w w1 : World} {base top n : Nat} {v : Value} {ss : List Sn} {xs : List Value} {vp vr : Nat → Value} (h : SsK w base top v n ss n xs vp vr) (hl : ss.length = n) {j : Nat} (hj : j < ss.length) {rs : List Ru} (hg : w.grownBy w1 (vp j).ownBlock) (hp : w1.ownsRow base 41 4 (vp j) rs.length (rs.flatMap Ru.cells)) :
    SsK w1 base top v n (ss.set j ⟨ss[j].num, rs, ss[j].rv⟩) n xs vp vr := by
  have hpj := h.pol j hj (by omega)
  refine ⟨kept_apart h.row hg (fun k h1 h2 => row_apart hpj h.row tyR k h2 h1), h.rlt, ?_, ?_, ?_, fun i hi => h.plt i (by simpa using hi), fun i hi => h.nlt i (by simpa using hi), fun i k hi hk => h.pap i k (by simpa using hi) (by simpa using hk), fun i k hi hk => h.nap i k (by simpa using hi) (by simpa using hk)⟩
  · intro i hi hik
    have hi' : i < ss.length := by simpa using hi
    by_cases e : j = i
    · subst e
      rw [List.getElem_set_self]
      exact h.cs j hi' hik
    · rw [List.getElem_set_ne e]
      exact h.cs i hi' hik
  · intro i hi hik
    have hi' : i < ss.length := by simpa using hi
    by_cases e : j = i
    · subst e
      rw [List.getElem_set_self]
      exact hp
    · rw [List.getElem_set_ne e]
      exact kept_apart (h.pol i hi' hik) hg (fun k h1 h2 => h.pap i j hi' hj hik (by omega) (by omega) k h1 h2)
  · intro i hi hik
    have hi' : i < ss.length := by simpa using hi
    have := kept_apart (h.num i hi' hik) hg (fun k h1 h2 => row_apart hpj (h.num i hi' hik) tyRN k h2 h1)
    by_cases e : j = i
    · subst e
      rw [List.getElem_set_self]
      exact this
    · rw [List.getElem_set_ne e]
      exact this
theorem SsK.setRv {w w1 : World} {base top n : Nat} {v : Value} {ss : List Sn} {xs : List Value} {vp vr : Nat → Value} (h : SsK w base top v n ss n xs vp vr) (hl : ss.length = n) {j : Nat} (hj : j < ss.length) {zs : List Int} (hg : w.grownBy w1 (vr j).ownBlock) (hp : w1.ownsRow base 3 1 (vr j) zs.length (nums zs)) :
    SsK w1 base top v n (ss.set j ⟨ss[j].num, ss[j].pol, zs⟩) n xs vp vr := by
  have hpj := h.num j hj (by omega)
  refine ⟨kept_apart h.row hg (fun k h1 h2 => row_apart hpj h.row tyN k h2 h1), h.rlt, ?_, ?_, ?_, fun i hi => h.plt i (by simpa using hi), fun i hi => h.nlt i (by simpa using hi), fun i k hi hk => h.pap i k (by simpa using hi) (by simpa using hk), fun i k hi hk => h.nap i k (by simpa using hi) (by simpa using hk)⟩
  · intro i hi hik
    have hi' : i < ss.length := by simpa using hi
    by_cases e : j = i
    · subst e
      rw [List.getElem_set_self]
      exact h.cs j hi' hik
    · rw [List.getElem_set_ne e]
      exact h.cs i hi' hik
  · intro i hi hik
    have hi' : i < ss.length := by simpa using hi
    have := kept_apart (h.pol i hi' hik) hg (fun k h1 h2 => row_apart (h.pol i hi' hik) hpj tyRN k h1 h2)
    by_cases e : j = i
    · subst e
      rw [List.getElem_set_self]
      exact this
    · rw [List.getElem_set_ne e]
      exact this
  · intro i hi hik
    have hi' : i < ss.length := by simpa using hi
    by_cases e : j = i
    · subst e
      rw [List.getElem_set_self]
      exact hp
    · rw [List.getElem_set_ne e]
      exact kept_apart (h.num i hi' hik) hg (fun k h1 h2 => h.nap i j hi' hj hik (by omega) (by omega) k h1 h2)

end Go.Proofs.YtoaeckcenobfcaaGreat

namespace Go.Proofs.YtoaeckcenobfcaaGreat
open Go.RowKit Go.Shelf

/-- A difference in memory. -/
def DfA (w : World) (v : Value) (d : Df) : Prop := ∃ vd va vr, v = .agg #[.int .i64 d.fr, .int .i64 d.tt, vd, va, vr] ∧ RuS w vd d.dr ∧ RuS w va d.ad ∧ VS w vr (nums d.rv)
def DfR (w : World) (v : Value) (d : Df) : Prop := ∃ vd va vr, v = .agg #[.int .i64 d.fr, .int .i64 d.tt, vd, va, vr] ∧ RuR w vd d.dr ∧ RuR w va d.ad ∧ NuR w vr d.rv
/-- .. of one's own. -/
def DfO (w : World) (base top : Nat) (v : Value) (d : Df) : Prop :=
  ∃ vd va vr, v = .agg #[.int .i64 d.fr, .int .i64 d.tt, vd, va, vr] ∧ w.ownsRow base 41 4 vd d.dr.length (d.dr.flatMap Ru.cells) ∧ w.ownsRow base 41 4 va d.ad.length (d.ad.flatMap Ru.cells) ∧ w.ownsRow base 3 1 vr d.rv.length (nums d.rv) ∧ (∀ k, vd.ownBlock = some k → k < top) ∧ (∀ k, va.ownBlock = some k → k < top) ∧ (∀ k, vr.ownBlock = some k → k < top) ∧ ∀ k, vd.ownBlock = some k → va.ownBlock = some k → False
theorem DfA.below {w w' : World} {v : Value} {d : Df} (h : DfA w v d) (hB : Below w.heap.size w w') : DfA w' v d := by
  obtain ⟨vd, va, vr, rfl, h1, h2, h3⟩ := h
  exact ⟨_, _, _, rfl, h1.below hB, h2.below hB, h3.below hB⟩
theorem DfR.below {w w' : World} {v : Value} {d : Df} (h : DfR w v d) (hB : Below w.heap.size w w') : DfR w' v d := by
  obtain ⟨vd, va, vr, rfl, h1, h2, h3⟩ := h
  exact ⟨_, _, _, rfl, h1.below hB, h2.below hB, h3.below hB⟩
theorem DfO.below {w w' : World} {base top : Nat} {v : Value} {d : Df} (h : DfO w base top v d) (hB : Below w.heap.size w w') : DfO w' base top v d := by
  obtain ⟨vd, va, vr, rfl, h1, h2, h3, t⟩ := h
  exact ⟨vd, va, vr, rfl, ownsRow_below h1 hB, ownsRow_below h2 hB, ownsRow_below h3 hB, t⟩
theorem DfR.a {w : World} {v : Value} {d : Df} (h : DfR w v d) : DfA w v d := by
  obtain ⟨vd, va, vr, rfl, h1, h2, h3⟩ := h
  exact ⟨_, _, _, rfl, h1.s, h2.s, h3.s⟩
theorem DfO.r {w : World} {base top : Nat} {v : Value} {d : Df} (h : DfO w base top v d) : DfR w v d := by
  obtain ⟨vd, va, vr, rfl, h1, h2, h3, _⟩ := h
  exact ⟨_, _, _, rfl, RuR.own h1, RuR.own h2, NuR.own h3⟩
theorem DfO.a {w : World} {base top : Nat} {v : Value} {d : Df} (h : DfO w base top v d) : DfA w v d := h.r.a
theorem DfO.mono {w : World} {base base' top top' : Nat} {v : Value} {d : Df} (h : DfO w base top v d) (hb : base' ≤ base) (ht : top ≤ top') : DfO w base' top' v d := by
  obtain ⟨vd, va, vr, rfl, h1, h2, h3, t1, t2, t3, t4⟩ := h
  exact ⟨vd, va, vr, rfl, Go.Joins.ownsRow_le h1 hb, Go.Joins.ownsRow_le h2 hb, Go.Joins.ownsRow_le h3 hb, fun k hk => Nat.lt_of_lt_of_le (t1 k hk) ht, fun k hk => Nat.lt_of_lt_of_le (t2 k hk) ht, fun k hk => Nat.lt_of_lt_of_le (t3 k hk) ht, t4⟩
theorem Mid.dfo {lo hi : Nat} {w w1 : World} (h : Mid lo hi w w1) {base top : Nat} {v : Value} {d : Df} (hr : DfO w base top v d) (ho : hi ≤ base ∨ top ≤ lo) : DfO w1 base top v d := by
  obtain ⟨vd, va, vr, rfl, h1, h2, h3, t1, t2, t3, t4⟩ := hr
  exact ⟨vd, va, vr, rfl, h.row h1 (fun k hk => by have := h1.lt k hk; have := t1 k hk; omega), h.row h2 (fun k hk => by have := h2.lt k hk; have := t2 k hk; omega), h.row h3 (fun k hk => by have := h3.lt k hk; have := t3 k hk; omega), t1, t2, t3, t4⟩
theorem DfO.five {w : World} {base top : Nat} {v : Value} {d : Df} (h : DfO w base top v d) {k : Nat} (hk : k < base) (x0 x1 x2 x3 x4 : Value) : DfO (((((w.setCell ⟨k, 0, none⟩ x0).setCell ⟨k, 1, none⟩ x1).setCell ⟨k, 2, none⟩ x2).setCell ⟨k, 3, none⟩ x3).setCell ⟨k, 4, none⟩ x4) base top v d := by
  obtain ⟨vd, va, vr, rfl, h1, h2, h3, t⟩ := h
  exact ⟨vd, va, vr, rfl, row_five h1 hk x0 x1 x2 x3 x4, row_five h2 hk x0 x1 x2 x3 x4, row_five h3 hk x0 x1 x2 x3 x4, t⟩
theorem SnO.three {w : World} {base top : Nat} {v : Value} {s : Sn} (h : SnO w base top v s) {k : Nat} (hk : k < base) (x0 x1 x2 : Value) : SnO (((w.setCell ⟨k, 0, none⟩ x0).setCell ⟨k, 1, none⟩ x1).setCell ⟨k, 2, none⟩ x2) base top v s := by
  obtain ⟨vp, vr, rfl, h1, h2, t⟩ := h
  exact ⟨vp, vr, rfl, row_three h1 hk x0 x1 x2, row_three h2 hk x0 x1 x2, t⟩
/-- A difference with nothing in it. -/
theorem DfO.none (w : World) (base top : Nat) : DfO w base top (.agg #[.int .i64 0, .int .i64 0, .slice none 0 0, .slice none 0 0, .slice none 0 0]) Df.none :=
  ⟨_, _, _, rfl, World.ownsRow_nil _ _ _ _, World.ownsRow_nil _ _ _ _, World.ownsRow_nil _ _ _ _, fun _ h => by simp [Value.ownBlock] at h, fun _ h => by simp [Value.ownBlock] at h, fun _ h => by simp [Value.ownBlock] at h, fun _ h => by simp [Value.ownBlock] at h⟩
theorem SnO.none (w : World) (base top : Nat) : SnO w base top (.agg #[.int .i64 0, .slice none 0 0, .slice none 0 0]) Sn.none :=
  ⟨_, _, rfl, World.ownsRow_nil _ _ _ _, World.ownsRow_nil _ _ _ _, fun _ h => by simp [Value.ownBlock] at h, fun _ h => by simp [Value.ownBlock] at h⟩
def Df.fits (d : Df) : Prop := d.dr.length ≤ maxLen ∧ (∀ r ∈ d.dr, r.fits) ∧ d.ad.length ≤ maxLen ∧ (∀ r ∈ d.ad, r.fits) ∧ d.rv.length ≤ maxLen
def Df.size (d : Df) : Nat := szAll d.dr + szAll d.ad + d.rv.length
def leftD (n : Int) (d : Df) : Int := if (d.size : Int) ≤ n then n - d.size else -1
def Df.short (d : Df) : Prop := d.dr.length ≤ 1048576 ∧ d.ad.length ≤ 1048576 ∧ d.rv.length ≤ 1048576 ∧ (∀ r ∈ d.dr, r.size ≤ 1048576) ∧ ∀ r ∈ d.ad, r.size ≤ 1048576
theorem Df.short_of {d : Df} (h : d.size ≤ 1048576) : d.short := by
  unfold Df.size szAll at h
  exact ⟨by omega, by omega, by omega, fun r hr => by have := sz_mem hr; omega, fun r hr => by have := sz_mem hr; omega⟩
theorem df_forms {w : World} {v : Value} {d : Df} (h : DfA w v d) : ∃ ad cd aa ca ar cr, v = .agg #[.int .i64 d.fr, .int .i64 d.tt, .slice ad d.dr.length cd, .slice aa d.ad.length ca, .slice ar d.rv.length cr] := by
  obtain ⟨vd, va, vr, rfl, h1, h2, h3⟩ := h
  obtain ⟨a1, c1, rfl⟩ := h1.len
  obtain ⟨a2, c2, rfl⟩ := h2.len
  obtain ⟨a3, c3, rfl⟩ := h3.numLen
  exact ⟨_, _, _, _, _, _, rfl⟩

/-- What lies in a difference that was marked. -/
def mkDf (k : Nat) (d : Df) : Df := ⟨d.fr, d.tt, mkL k d.dr.length, mkL (k + 4 * d.dr.length) d.ad.length, mkN (k + 4 * d.dr.length + 4 * d.ad.length) d.rv.length⟩
def Df.many (d : Df) : Nat := 4 * d.dr.length + 4 * d.ad.length + d.rv.length

end Go.Proofs.YtoaeckcenobfcaaGreat

namespace Go.Proofs.YtoaeckcenobfcaaGreat
open Go.RowKit Go.Shelf

set_option maxHeartbeats 4000000 in
set_option maxRecDepth 100000 in
theorem copySnapshot_any (v : Value) (s : Sn) (w : World) (hs : s.short) (h : SnR w v s) :
    Calls Tryz.prog 42 #[v] w fun e w' => ∃ v', e = .returned v' ∧ SnO w' w.heap.size w'.heap.size v' s ∧ Below w.heap.size w w' := by
  obtain ⟨vp, vr, rfl, h1, h2⟩ := h
  obtain ⟨l1, l2, _⟩ := hs
  obtain ⟨xp, cp, rfl⟩ := h1.len
  obtain ⟨xr, cr, rfl⟩ := h2.len
  have hBB : Below w.heap.size w ((w.alloc (.cells #[.int .i64 s.num, .slice xp s.pol.length cp, .slice xr s.rv.length cr] 26)).alloc (.cells #[.int .i64 0, .slice none 0 0, .slice none 0 0] 26)) := ((Below.refl _ w).alloc (Nat.le_refl _) _).alloc (by simp) _
  have F1 := (Three.new w (.int .i64 s.num) (.slice xp s.pol.length cp) (.slice xr s.rv.length cr) 26).below ((Below.refl _ _).alloc (Nat.le_refl _) (.cells #[.int .i64 0, .slice none 0 0, .slice none 0 0] 26))
  have F2 := Three.at (w.alloc (.cells #[.int .i64 s.num, .slice xp s.pol.length cp, .slice xr s.rv.length cr] 26)) (.int .i64 0) (.slice none 0 0) (.slice none 0 0) 26 (k := w.heap.size + 1) (by simp)
  have n01 : w.heap.size ≠ w.heap.size + 1 := by omega
  have n10 : w.heap.size + 1 ≠ w.heap.size := by omega
  go_enter Tryz.func42, Tryz.ntmps42
  go_wp2_with fail
  generalize (w.alloc (.cells #[.int .i64 s.num, .slice xp s.pol.length cp, .slice xr s.rv.length cr] 26)).alloc (.cells #[.int .i64 0, .slice none 0 0, .slice none 0 0] 26) = W0 at *
  obtain ⟨a0, a1, a2⟩ := F1.c
  refine wp_region_held_drew (S := fun w' => w'.cell? ⟨w.heap.size, 0, none⟩ = some (.int .i64 s.num) ∧ w'.cell? ⟨w.heap.size, 1, none⟩ = some (.slice xp s.pol.length cp) ∧ w'.cell? ⟨w.heap.size, 2, none⟩ = some (.slice xr s.rv.length cr)) (by kernel_rfl) ?_ (fun hHeld => ?_)
  · go_keep
  refine takeW 0 (v := ?v1) rfl (by kernel_rfl) (by kernel_rfl) (by kernel_rfl) (fun _ _ _ h => h) (by rfl) (by assumption) ?hy1 ?rest1
  case hy1 => intro w' hSw; (try dsimp only at hSw); go_simp; try with_reducible rfl
  try simp only [Act.put, List.setIfInBounds_toArray, List.set_cons_zero, List.set_cons_succ]
  refine takeW 1 (v := ?v2) rfl (by kernel_rfl) (by kernel_rfl) (by kernel_rfl) (fun _ _ _ h => h) (by rfl) (by assumption) ?hy2 ?rest2
  case hy2 => intro w' hSw; (try dsimp only at hSw); go_simp; try with_reducible rfl
  try simp only [Act.put, List.setIfInBounds_toArray, List.set_cons_zero, List.set_cons_succ]
  refine takeW 2 (v := ?v3) rfl (by kernel_rfl) (by kernel_rfl) (by kernel_rfl) (fun _ _ _ h => h) (by rfl) (by assumption) ?hy3 ?rest3
  case hy3 => intro w' hSw; (try dsimp only at hSw); go_simp; try with_reducible rfl
  try simp only [Act.put, List.setIfInBounds_toArray, List.set_cons_zero, List.set_cons_succ]
  refine takeW 3 (v := ?v4) rfl (by kernel_rfl) (by kernel_rfl) (by kernel_rfl) (fun _ _ _ h => h) (by rfl) (by assumption) ?hy4 ?rest4
  case hy4 => intro w' hSw; (try dsimp only at hSw); go_simp; try with_reducible rfl
  try simp only [Act.put, List.setIfInBounds_toArray, List.set_cons_zero, List.set_cons_succ]
  refine takeW 5 (v := ?v5) rfl (by kernel_rfl) (by kernel_rfl) (by kernel_rfl) (fun _ _ _ h => h) (by rfl) (by assumption) ?hy5 ?rest5
  case hy5 => intro w' hSw; (try dsimp only at hSw); go_simp; try with_reducible rfl
  try simp only [Act.put, List.setIfInBounds_toArray, List.set_cons_zero, List.set_cons_succ]
  refine takeW 6 (v := ?v6) rfl (by kernel_rfl) (by kernel_rfl) (by kernel_rfl) (fun _ _ _ h => h) (by rfl) (by assumption) ?hy6 ?rest6
  case hy6 => intro w' hSw; (try dsimp only at hSw); go_simp; try with_reducible rfl
  try simp only [Act.put, List.setIfInBounds_toArray, List.set_cons_zero, List.set_cons_succ]
  refine takeC 4 (by kernel_rfl) rfl (fun K hK => ?_)
  go_simp
  refine (cloneRu_any _ s.pol _ (by omega) (by exact (h1.below hBB).below (Below.refl _ _).drew)).mono ?_; rintro e w4 ⟨u4, rfl, o4, _, hB4⟩; obtain ⟨x4, y4, z4, rfl⟩ := row_slice o4; have hD4 : Below W0.heap.size W0 w4 := below_drew1 hB4; have hc4 := fun o => hB4.cell (p := ⟨w.heap.size, o, none⟩) (by exact F1.lt); have G1 : Three w4 _ _ _ _ _ := F1.below hD4; have G2 : Three w4 _ _ _ _ _ := F2.below hD4; have hBB4 := below_one hBB hD4
  refine hK.out _ _ ?_ (fun hHeld => ?_)
  · go_keep
  clear hK K
  try simp only [Act.put, List.setIfInBounds_toArray, List.set_cons_zero, List.set_cons_succ]
  refine takeC 7 (by kernel_rfl) rfl (fun K hK => ?_)
  go_simp
  refine (cloneNu_any _ s.rv _ (by omega) (h2.below hBB4)).mono ?_; rintro e w5 ⟨u5, rfl, o5, hB5⟩; obtain ⟨x5, y5, z5, rfl⟩ := row_slice o5; have hc5 := fun o => hB5.cell (p := ⟨w.heap.size, o, none⟩) (by exact G1.lt); have H2 := G2.below hB5; have hBB5 := below_one hBB4 hB5; have o4' := ownsRow_below o4 hB5; obtain ⟨r0, r1, r2⟩ := H2.c; have f0 := H2.f 0; have f1 := H2.f 1; have f2 := H2.f 2
  refine hK.out _ _ ?_ (fun hHeld => ?_)
  · go_keep
  clear hK K
  try simp only [Act.put, List.setIfInBounds_toArray, List.set_cons_zero, List.set_cons_succ]
  refine takeW 8 (v := ?v7) rfl (by kernel_rfl) (by kernel_rfl) (by kernel_rfl) (fun _ _ _ h => h) (by rfl) (by assumption) ?hy7 ?rest7
  case hy7 => intro w' hSw; (try dsimp only at hSw); go_simp; try with_reducible rfl
  try simp only [Act.put, List.setIfInBounds_toArray, List.set_cons_zero, List.set_cons_succ]
  refine takeC 9 (by kernel_rfl) rfl (fun K hK => ?_)
  go_simp
  skip
  refine hK.out _ _ ?_ (fun hHeld => ?_)
  · go_keep
  clear hK K
  try simp only [Act.put, List.setIfInBounds_toArray, List.set_cons_zero, List.set_cons_succ]
  refine wpAnyH_done (by kernel_rfl) ?_ _
  have G := ((H2.s0 (.int .i64 s.num)).s1 (.slice x4 y4 z4)).s2 (.slice x5 y5 z5)
  have q4 := row_three o4' (k := w.heap.size + 1) F2.lt (.int .i64 s.num) (.slice x4 y4 z4) (.slice x5 y5 z5)
  have q5 := row_three o5 (k := w.heap.size + 1) G2.lt (.int .i64 s.num) (.slice x4 y4 z4) (.slice x5 y5 z5)
  have pB := below_three hBB5 (k := w.heap.size + 1) (by omega) (.int .i64 s.num) (.slice x4 y4 z4) (.slice x5 y5 z5)
  have s3 := hBB.size
  have s4 := hBB4.size
  go_wp2_with fail
  clear r0 r1 r2 f0 f1 f2 hHeld hc4 hc5
  generalize ((w5.setCell ⟨w.heap.size + 1, 0, none⟩ (.int .i64 s.num)).setCell ⟨w.heap.size + 1, 1, none⟩ (.slice x4 y4 z4)).setCell ⟨w.heap.size + 1, 2, none⟩ (.slice x5 y5 z5) = W9 at *
  obtain ⟨d0, d1, d2⟩ := G.c
  exact bodyPost_ret (v := .agg #[.int .i64 s.num, .slice x4 y4 z4, .slice x5 y5 z5]) (by simp [results, Tryz.results42, go_sem, d0, d1, d2]) rfl ⟨_, rfl, SnO.of (Go.Joins.ownsRow_le q4 s3) (Go.Joins.ownsRow_le q5 s4), pB⟩

end Go.Proofs.YtoaeckcenobfcaaGreat
