/-
  Chapter 7: sums and notes, by the specification and by the program.
-/
import Derived.Lib.SlicesCompact
import Derived.WalkKit
import Derived.ProofKit
import Derived.Test.YtnbojbcljfiamaaGreatDoorJPermittedBy1
import Derived.Deep.RegionHeld3
import Derived.Test.YtnbojbcljfiamaaGreatDoorJPermittedBy0
import Derived.Lib.IndexBytes
import Derived.Lib.SplitLaws
import Derived.Lib.CountLaws
import Derived.Lib.ItoaNum
import Derived.Lib.ItoaLen
import Derived.Lib.AtoiTie
import Derived.Laws.BitsAllLaws
namespace Go.Proofs.YtnbojbcljfiamaaGreatDoor

/-! Numbers that rise. -/
def upI (zs : List Int) (i : Nat) : Bool := match i with
  | 0 => true
  | i + 1 => match zs[i]?, zs[i + 1]? with
    | some a, some b => decide (a < b)
    | _, _ => true
theorem upI_succ {zs : List Int} {i : Nat} (h : i + 1 < zs.length) : upI zs (i + 1) = decide (zs[i] < zs[i + 1]) := by
  simp only [upI]
  rw [List.getElem?_eq_getElem h, List.getElem?_eq_getElem (by omega)]
def upN (zs : List Int) : Bool := (List.range zs.length).all (upI zs)
def okN (nx : Int) (zs : List Int) : Bool := zs.all (fun n => decide (1 ≤ n ∧ n < nx))
theorem upN_no {zs : List Int} {i : Nat} (h : i < zs.length) (hb : upI zs i = false) : upN zs = false :=
  List.all_eq_false.2 ⟨i, List.mem_range.2 h, by rw [hb]; simp⟩
theorem upN_yes {zs : List Int} (h : ∀ i, i < zs.length → upI zs i = true) : upN zs = true :=
  List.all_eq_true.2 fun i hi => h i (List.mem_range.1 hi)
theorem okN_no {nx : Int} {zs : List Int} {i : Nat} (h : i < zs.length) (hb : ¬ (1 ≤ zs[i] ∧ zs[i] < nx)) : okN nx zs = false :=
  List.all_eq_false.2 ⟨_, List.getElem_mem h, by simp; omega⟩
theorem okN_yes {nx : Int} {zs : List Int} (h : ∀ i (hi : i < zs.length), 1 ≤ zs[i] ∧ zs[i] < nx) : okN nx zs = true :=
  List.all_eq_true.2 fun x hx => by
    obtain ⟨i, hi, rfl⟩ := List.getElem_of_mem hx
    exact decide_eq_true (h i hi)
def atN : List Int → Int → Nat
  | [], _ => 0
  | x :: r, n => if x < n then atN r n + 1 else 0
theorem atN_le : ∀ (zs : List Int) (n : Int), atN zs n ≤ zs.length
  | [], _ => Nat.le_refl _
  | x :: r, n => by
    have := atN_le r n
    unfold atN
    split <;> simp <;> omega
theorem atN_lt : ∀ {zs : List Int} {n : Int} {k : Nat} (h : k < zs.length), k < atN zs n → zs[k] < n
  | [], _, _, h, _ => by simp at h
  | x :: r, n, k, h, hk => by
    unfold atN at hk
    split at hk
    · rename_i hx
      cases k with
      | zero => exact hx
      | succ k => exact atN_lt (zs := r) (by simpa using h) (by omega)
    · omega
theorem atN_at : ∀ {zs : List Int} {n : Int} {k : Nat} (h : k < zs.length), k = atN zs n → ¬ zs[k] < n
  | [], _, _, h, _ => by simp at h
  | x :: r, n, k, h, hk => by
    unfold atN at hk
    split at hk
    · subst hk
      exact atN_at (zs := r) (by simpa using h) rfl
    · rename_i hx
      subst hk
      simpa using hx
def hasN (zs : List Int) (n : Int) : Bool := match zs[atN zs n]? with
  | some x => x == n
  | Option.none => false
theorem hasN_at {zs : List Int} {n : Int} (h : atN zs n < zs.length) : hasN zs n = (zs[atN zs n] == n) := by
  unfold hasN
  rw [List.getElem?_eq_getElem h]
theorem hasN_end {zs : List Int} {n : Int} (h : ¬ atN zs n < zs.length) : hasN zs n = false := by
  unfold hasN
  rw [List.getElem?_eq_none (by omega)]
/-- Numbers that rise: one is among them just where it would stand. -/
theorem up_lt {zs : List Int} (h : upN zs = true) : ∀ i j (_ : i < j) (hj : j < zs.length), zs[i] < zs[j] := by
  intro i j hij
  induction j with
  | zero => omega
  | succ j ih =>
    intro hj
    have h1 : upI zs (j + 1) = true := List.all_eq_true.1 h _ (List.mem_range.2 hj)
    rw [upI_succ hj] at h1
    have h1 := of_decide_eq_true h1
    rcases Nat.lt_or_ge i j with h2 | h2
    · have := ih h2 (by omega)
      omega
    · obtain rfl : i = j := by omega
      exact h1

/-- A number is among some. -/
def isTo (zs : List Int) (z : Int) (n : Nat) : Bool := (zs.take n).any (fun x => x == z)
def isI (zs : List Int) (z : Int) : Bool := zs.any (fun x => x == z)
theorem isTo_zero (zs : List Int) (z : Int) : isTo zs z 0 = false := by simp [isTo]
theorem isTo_succ {zs : List Int} {z : Int} {n : Nat} (h : n < zs.length) : isTo zs z (n + 1) = (isTo zs z n || (zs[n] == z)) := by
  unfold isTo
  rw [List.take_succ_eq_append_getElem h, List.any_append]
  simp
theorem isI_yes {zs : List Int} {z : Int} {n : Nat} (h : n < zs.length) (he : (zs[n] == z) = true) : isI zs z = true :=
  List.any_eq_true.2 ⟨zs[n], List.getElem_mem h, he⟩
theorem isI_end (zs : List Int) (z : Int) : isTo zs z zs.length = isI zs z := by
  unfold isTo isI
  rw [List.take_length]
theorem isI_hasN {zs : List Int} (h : upN zs = true) (n : Int) : isI zs n = hasN zs n := by
  rcases Nat.lt_or_ge (atN zs n) zs.length with h1 | h1
  · rw [hasN_at h1]
    cases h2 : (zs[atN zs n] == n)
    · unfold isI
      rw [List.any_eq_false]
      intro x hx he
      obtain ⟨i, hi, rfl⟩ := List.getElem_of_mem hx
      have he := eq_of_beq he
      rcases Nat.lt_trichotomy i (atN zs n) with h3 | h3 | h3
      · have := atN_lt hi h3
        omega
      · subst h3
        rw [he] at h2
        simp at h2
      · have h4 := up_lt h _ _ h3 hi
        have h5 := atN_at h1 rfl
        omega
    · unfold isI
      rw [List.any_eq_true]
      exact ⟨_, List.getElem_mem h1, h2⟩
  · rw [hasN_end (by omega)]
    unfold isI
    rw [List.any_eq_false]
    intro x hx he
    obtain ⟨i, hi, rfl⟩ := List.getElem_of_mem hx
    have := atN_lt (n := n) hi (by omega)
    have he := eq_of_beq he
    omega

/-- A number put among rising ones. -/
def insZ (z : Int) : List Int → List Int
  | [] => [z]
  | x :: r => if x < z then x :: insZ z r else if x = z then x :: r else z :: x :: r
def SZ (l : List Int) : Prop := l.Pairwise (fun x y => x < y)
theorem insZ_mem (z : Int) : ∀ (l : List Int) (y : Int), y ∈ insZ z l ↔ y = z ∨ y ∈ l
  | [], y => by simp [insZ]
  | x :: xs, y => by
    unfold insZ
    split
    · rw [List.mem_cons, insZ_mem z xs y, List.mem_cons]
      constructor
      · rintro (h | h | h)
        · exact .inr (.inl h)
        · exact .inl h
        · exact .inr (.inr h)
      · rintro (h | h | h)
        · exact .inr (.inl h)
        · exact .inl h
        · exact .inr (.inr h)
    · split
      · rename_i h
        subst h
        simp
      · simp
theorem insZ_sz {z : Int} : ∀ l : List Int, SZ l → SZ (insZ z l)
  | [], _ => by simp [insZ, SZ]
  | x :: xs, h => by
    unfold SZ at h
    rw [List.pairwise_cons] at h
    unfold insZ
    split
    · rename_i hx
      unfold SZ
      rw [List.pairwise_cons]
      refine ⟨fun y hy => ?_, insZ_sz xs h.2⟩
      rcases (insZ_mem z xs y).1 hy with rfl | hy
      · exact hx
      · exact h.1 y hy
    · split
      · unfold SZ
        rw [List.pairwise_cons]
        exact h
      · unfold SZ
        rw [List.pairwise_cons, List.pairwise_cons]
        refine ⟨fun y hy => ?_, h⟩
        rw [List.mem_cons] at hy
        rcases hy with rfl | hy
        · omega
        · have := h.1 y hy
          omega
theorem insZ_len (z : Int) : ∀ l : List Int, (insZ z l).length ≤ l.length + 1
  | [] => by simp [insZ]
  | x :: xs => by
    have := insZ_len z xs
    unfold insZ
    split
    · simp; omega
    · split <;> simp
theorem sz_unique : ∀ l l' : List Int, SZ l → SZ l' → (∀ y, y ∈ l ↔ y ∈ l') → l = l'
  | [], [], _, _, _ => rfl
  | [], y :: _, _, _, h => by have := (h y).2 List.mem_cons_self; cases this
  | x :: _, [], _, _, h => by have := (h x).1 List.mem_cons_self; cases this
  | x :: xs, y :: ys, h1, h2, h => by
    unfold SZ at h1 h2
    rw [List.pairwise_cons] at h1 h2
    have hxy : x = y := by
      have a1 := (h x).1 List.mem_cons_self
      have a2 := (h y).2 List.mem_cons_self
      rw [List.mem_cons] at a1 a2
      rcases a1 with a1 | a1
      · exact a1
      · rcases a2 with a2 | a2
        · exact a2.symm
        · have b1 := h2.1 x a1
          have b2 := h1.1 y a2
          omega
    subst hxy
    have ht : ∀ z, z ∈ xs ↔ z ∈ ys := fun z => by
      constructor
      · intro hz
        have := (h z).1 (List.mem_cons_of_mem _ hz)
        rw [List.mem_cons] at this
        rcases this with rfl | this
        · have := h1.1 z hz
          omega
        · exact this
      · intro hz
        have := (h z).2 (List.mem_cons_of_mem _ hz)
        rw [List.mem_cons] at this
        rcases this with rfl | this
        · have := h2.1 z hz
          omega
        · exact this
    rw [sz_unique xs ys h1.2 h2.2 ht]
/-- The numbers of a list rising, each once. -/
def srT (zs : List Int) (k : Nat) : List Int := (zs.take k).foldl (fun o z => insZ z o) []
def srN (zs : List Int) : List Int := srT zs zs.length
theorem srT_zero (zs : List Int) : srT zs 0 = [] := by simp [srT]
theorem srT_succ {zs : List Int} {k : Nat} (h : k < zs.length) : srT zs (k + 1) = insZ zs[k] (srT zs k) := by
  unfold srT
  rw [List.take_succ_eq_append_getElem h, List.foldl_append]
  rfl
theorem srT_mem {zs : List Int} : ∀ k, k ≤ zs.length → ∀ y, y ∈ srT zs k ↔ y ∈ zs.take k
  | 0, _, y => by simp [srT]
  | k + 1, h, y => by
    rw [srT_succ (by omega), insZ_mem, srT_mem k (by omega) y, List.take_succ_eq_append_getElem (by omega), List.mem_append, List.mem_singleton]
    exact Or.comm
theorem srT_sz {zs : List Int} : ∀ k, k ≤ zs.length → SZ (srT zs k)
  | 0, _ => by simp [srT, SZ]
  | k + 1, h => by rw [srT_succ (by omega)]; exact insZ_sz _ (srT_sz k (by omega))
theorem srT_len {zs : List Int} : ∀ k, k ≤ zs.length → (srT zs k).length ≤ k
  | 0, _ => by simp [srT]
  | k + 1, h => by
    rw [srT_succ (by omega)]
    have := insZ_len (zs[k]'(by omega)) (srT zs k)
    have := srT_len (zs := zs) k (by omega)
    omega
theorem srN_mem {zs : List Int} (y : Int) : y ∈ srN zs ↔ y ∈ zs := by
  unfold srN
  rw [srT_mem _ (Nat.le_refl _), List.take_length]
theorem srN_sz (zs : List Int) : SZ (srN zs) := srT_sz _ (Nat.le_refl _)
theorem srN_len (zs : List Int) : (srN zs).length ≤ zs.length := srT_len _ (Nat.le_refl _)
/-- Where a number stands among rising ones, and what putting it there makes. -/
theorem insZ_at {z : Int} : ∀ (l : List Int) (m : Nat), m ≤ l.length → (∀ j (h : j < l.length), j < m → l[j] < z) → (∀ h : m < l.length, ¬ l[m] < z) →
    insZ z l = if h : m < l.length then (if l[m] = z then l else l.take m ++ z :: l.drop m) else l ++ [z]
  | [], m, hm, _, _ => by
    obtain rfl : m = 0 := by simpa using hm
    simp [insZ]
  | x :: xs, 0, _, _, h2 => by
    have this : ¬ x < z := h2 (by simp)
    unfold insZ
    rw [if_neg this]
    simp
  | x :: xs, m + 1, hm, h1, h2 => by
    have hx : x < z := h1 0 (by simp) (by omega)
    have ih := insZ_at (z := z) xs m (by simpa using hm) (fun j hj hjm => h1 (j + 1) (by simpa using hj) (by omega)) (fun hj => h2 (by simpa using hj))
    unfold insZ
    rw [if_pos hx, ih]
    by_cases hlt : m < xs.length
    · rw [dif_pos hlt, dif_pos (by simpa using hlt)]
      simp only [List.getElem_cons_succ]
      split <;> simp
    · rw [dif_neg hlt, dif_neg (by simpa using hlt)]
      simp
theorem insZ_keep {z : Int} {l : List Int} {m : Nat} (hm : m < l.length) (h1 : ∀ j (h : j < l.length), j < m → l[j] < z) (he : l[m] = z) : insZ z l = l := by
  rw [insZ_at l m (by omega) h1 (fun _ => by omega), dif_pos hm, if_pos he]
theorem insZ_new {z : Int} {l : List Int} {m : Nat} (hm : m < l.length) (h1 : ∀ j (h : j < l.length), j < m → l[j] < z) (h2 : ¬ l[m] < z) (he : l[m] ≠ z) : insZ z l = l.take m ++ z :: l.drop m := by
  rw [insZ_at l m (by omega) h1 (fun _ => h2), dif_pos hm, if_neg he]
theorem insZ_end {z : Int} {l : List Int} (h1 : ∀ j (h : j < l.length), j < l.length → l[j] < z) : insZ z l = l ++ [z] := by
  rw [insZ_at l l.length (by omega) h1 (fun h => by omega), dif_neg (by omega)]
/-- Numbers that rise are sorted, each once. -/
theorem sz_up {zs : List Int} : SZ zs ↔ upN zs = true := by
  constructor
  · intro h
    refine upN_yes fun i hi => ?_
    cases i with
    | zero => rfl
    | succ i =>
      rw [upI_succ hi]
      exact decide_eq_true (List.pairwise_iff_getElem.1 h i (i + 1) (by omega) hi (by omega))
  · intro h
    exact List.pairwise_iff_getElem.2 fun i j hi hj hij => up_lt h i j hij hj
theorem srN_up (zs : List Int) : upN (srN zs) = true := sz_up.1 (srN_sz zs)
theorem srN_self {zs : List Int} (h : upN zs = true) : srN zs = zs := sz_unique _ _ (srN_sz zs) (sz_up.2 h) (fun _ => srN_mem _)
/-- Sorted, and runs of one number taken together: the numbers rising, each once. -/
theorem compact_sz {ds : List Int} (hs : ds.Pairwise (fun x y => x ≤ y)) : ∀ m, m ≤ ds.length → SZ (Lib.compactUpTo ds.toArray m) ∧ ∀ y, y ∈ Lib.compactUpTo ds.toArray m ↔ y ∈ ds.take m
  | 0, _ => by simp [Lib.compactUpTo, SZ]
  | m + 1, hm => by
    obtain ⟨i1, i2⟩ := compact_sz hs m (by omega)
    have hget : ds.toArray[m]! = ds[m]'(by omega) := by simp [getElem!_def, List.getElem?_eq_getElem (show m < ds.length by omega)]
    have hle : ∀ y ∈ ds.take m, y ≤ ds[m]'(by omega) := by
      intro y hy
      obtain ⟨j, hj, rfl⟩ := List.getElem_of_mem hy
      rw [List.length_take] at hj
      rw [List.getElem_take]
      exact List.pairwise_iff_getElem.1 hs j m (by omega) (by omega) (by omega)
    rw [Lib.compactUpTo_succ, List.take_succ_eq_append_getElem (by omega), hget]
    by_cases hk : Lib.keeps ds.toArray m = true
    · rw [if_pos hk]
      have hlt : ∀ y ∈ ds.take m, y < ds[m]'(by omega) := by
        intro y hy
        have h1 := hle y hy
        cases m with
        | zero => simp at hy
        | succ m =>
          have hne : ds[m + 1]'(by omega) ≠ ds[m]'(by omega) := by
            intro he
            have : Lib.keeps ds.toArray (m + 1) = false := by
              unfold Lib.keeps
              simp [getElem!_def, List.getElem?_eq_getElem (show m < ds.length by omega), List.getElem?_eq_getElem (show m + 1 < ds.length by omega), he]
            rw [this] at hk
            cases hk
          have h2 : ds[m]'(by omega) ≤ ds[m + 1]'(by omega) := List.pairwise_iff_getElem.1 hs m (m + 1) (by omega) (by omega) (by omega)
          obtain ⟨j, hj, rfl⟩ := List.getElem_of_mem hy
          rw [List.length_take] at hj
          rw [List.getElem_take]
          rcases Nat.lt_or_ge j m with h3 | h3
          · have := List.pairwise_iff_getElem.1 hs j m (by omega) (by omega) h3
            omega
          · have : j = m := by omega
            subst this
            omega
      refine ⟨?_, fun y => ?_⟩
      · unfold SZ
        rw [List.pairwise_append]
        exact ⟨i1, by simp, fun a ha b hb => by rw [List.mem_singleton] at hb; subst hb; exact hlt a ((i2 a).1 ha)⟩
      · rw [List.mem_append, List.mem_append, i2]
    · rw [if_neg hk, List.append_nil]
      refine ⟨i1, fun y => ?_⟩
      rw [i2, List.mem_append, List.mem_singleton]
      constructor
      · exact .inl
      · rintro (h | rfl)
        · exact h
        · cases m with
          | zero => simp [Lib.keeps] at hk
          | succ m =>
            have he : ds[m + 1]'(by omega) = ds[m]'(by omega) := by
              unfold Lib.keeps at hk
              simpa [getElem!_def, List.getElem?_eq_getElem (show m < ds.length by omega), List.getElem?_eq_getElem (show m + 1 < ds.length by omega)] using hk
            rw [he]
            exact List.mem_take_iff_getElem.2 ⟨m, by omega, rfl⟩
theorem compact_sorted (zs : List Int) : Lib.compact (zs.mergeSort fun x y => decide (x ≤ y)) = srN zs := by
  have hs : (zs.mergeSort fun x y => decide (x ≤ y)).Pairwise (fun x y => x ≤ y) :=
    (List.pairwise_mergeSort (le := fun x y => decide (x ≤ y)) (fun a b c h1 h2 => by simp at *; omega) (fun a b => by simp; omega) zs).imp (fun h => by simpa using h)
  obtain ⟨h1, h2⟩ := compact_sz hs _ (Nat.le_refl _)
  refine sz_unique _ _ h1 (srN_sz zs) fun y => ?_
  rw [show Lib.compact _ = Lib.compactUpTo _ _ from rfl, h2, List.take_length, srN_mem]
  exact List.mem_mergeSort

end Go.Proofs.YtnbojbcljfiamaaGreatDoor

namespace Go.Proofs.YtnbojbcljfiamaaGreatDoor

/-- A version, and a difference. -/
structure Sn where
  num : Int
  pol : List Ru
  rv : List Int
structure Df where
  fr : Int
  tt : Int
  dr : List Ru
  ad : List Ru
  rv : List Int
theorem insU_length (r : Ru) : ∀ l : List Ru, (insU r l).length ≤ l.length + 1
  | [] => by simp [insU]
  | x :: xs => by
    have := insU_length r xs
    unfold insU
    split
    · simp; omega
    · split <;> simp
def Sn.none : Sn := ⟨0, [], []⟩
def Df.none : Df := ⟨0, 0, [], [], []⟩
def numB (n : Int) : Bool := decide (1 ≤ n ∧ n ≤ 100000)
def fewB (zs : List Int) : Bool := decide (zs.length ≤ 200) && okN 100001 zs
/-- A version is good. -/
def snB (s : Sn) : Bool := numB s.num && (polB s.pol && (sameS (plX s.pol) s.pol && (fewB s.rv && upN s.rv)))
theorem snB_no1 {s : Sn} (h : numB s.num = false) : snB s = false := by unfold snB; rw [h]; rfl
theorem snB_no2 {s : Sn} (h : polB s.pol = false) : snB s = false := by unfold snB; rw [h]; simp
theorem snB_no3 {s : Sn} (h : sameS (plX s.pol) s.pol = false) : snB s = false := by unfold snB; rw [h]; simp
theorem snB_no4 {s : Sn} (h : fewB s.rv = false) : snB s = false := by unfold snB; rw [h]; simp
theorem snB_no5 {s : Sn} (h : upN s.rv = false) : snB s = false := by unfold snB; rw [h]; simp
theorem snB_yes {s : Sn} (h1 : numB s.num = true) (h2 : polB s.pol = true) (h3 : sameS (plX s.pol) s.pol = true) (h4 : fewB s.rv = true) (h5 : upN s.rv = true) : snB s = true := by
  unfold snB; rw [h1, h2, h3, h4, h5]; rfl
theorem snB_parts {s : Sn} (h : snB s = true) : numB s.num = true ∧ polB s.pol = true ∧ sameS (plX s.pol) s.pol = true ∧ fewB s.rv = true ∧ upN s.rv = true := by
  unfold snB at h
  simpa [Bool.and_eq_true] using h
theorem snB_num {s : Sn} (h : snB s = true) : 1 ≤ s.num ∧ s.num ≤ 100000 := of_decide_eq_true (snB_parts h).1
theorem fewB_len {zs : List Int} (h : fewB zs = true) : zs.length ≤ 200 := by
  unfold fewB at h
  rw [Bool.and_eq_true] at h
  exact of_decide_eq_true h.1
theorem fewB_ok {zs : List Int} (h : fewB zs = true) : okN 100001 zs = true := by
  unfold fewB at h
  rw [Bool.and_eq_true] at h
  exact h.2
theorem fewB_no1 {zs : List Int} (h : ¬ zs.length ≤ 200) : fewB zs = false := by unfold fewB; rw [decide_eq_false h]; rfl
theorem fewB_no2 {zs : List Int} (h : okN 100001 zs = false) : fewB zs = false := by unfold fewB; rw [h]; simp
theorem fewB_yes {zs : List Int} (h1 : zs.length ≤ 200) (h2 : okN 100001 zs = true) : fewB zs = true := by unfold fewB; rw [decide_eq_true h1, h2]; rfl

theorem plX_len {rs : List Ru} (h : rs.length ≤ 1048577) : (plX rs).length ≤ 1048577 := by
  unfold plX
  split
  · have hl : ∀ k, k ≤ rs.length → (plTo rs k).length ≤ k := fun k => by
      induction k with
      | zero => intro _; simp [plTo]
      | succ k ih =>
        intro hk
        rw [plTo_succ (by omega)]
        have := insU_length (rs[k]'(by omega)) (plTo rs k)
        have := ih (by omega)
        omega
    exact Nat.le_trans (hl _ (Nat.le_refl _)) h
  · exact Nat.zero_le _

/-- Whether the one at i has the number behind the one ahead of it. -/
def nexB (ss : List Sn) (i : Nat) : Bool := match i with
  | 0 => true
  | i + 1 => match ss[i]?, ss[i + 1]? with
    | some a, some b => b.num == a.num + 1
    | _, _ => true
theorem nexB_succ {ss : List Sn} {i : Nat} (h : i + 1 < ss.length) : nexB ss (i + 1) = (ss[i + 1].num == ss[i].num + 1) := by
  simp only [nexB]
  rw [List.getElem?_eq_getElem h, List.getElem?_eq_getElem (by omega)]
def gdB (ss : List Sn) (i : Nat) : Bool := match ss[i]? with
  | some s => snB s
  | Option.none => true
theorem gdB_at {ss : List Sn} {i : Nat} (h : i < ss.length) : gdB ss i = snB ss[i] := by
  unfold gdB
  rw [List.getElem?_eq_getElem h]
def allB (ss : List Sn) : Bool := (List.range ss.length).all (fun i => gdB ss i && nexB ss i)
/-- A list of versions is good. -/
def lsB (ss : List Sn) : Bool := decide (ss.length ≤ 20) && allB ss
theorem lsB_no1 {ss : List Sn} (h : ¬ ss.length ≤ 20) : lsB ss = false := by unfold lsB; rw [decide_eq_false h]; rfl
theorem lsB_no2 {ss : List Sn} {i : Nat} (h : i < ss.length) (hb : gdB ss i = false) : lsB ss = false := by
  unfold lsB allB
  rw [Bool.and_eq_false_iff]
  exact .inr (List.all_eq_false.2 ⟨i, List.mem_range.2 h, by rw [hb]; simp⟩)
theorem lsB_no3 {ss : List Sn} {i : Nat} (h : i < ss.length) (hb : nexB ss i = false) : lsB ss = false := by
  unfold lsB allB
  rw [Bool.and_eq_false_iff]
  exact .inr (List.all_eq_false.2 ⟨i, List.mem_range.2 h, by rw [hb]; simp⟩)
theorem lsB_yes {ss : List Sn} (h1 : ss.length ≤ 20) (h : ∀ i, i < ss.length → gdB ss i = true ∧ nexB ss i = true) : lsB ss = true := by
  unfold lsB allB
  rw [decide_eq_true h1, Bool.true_and]
  exact List.all_eq_true.2 fun i hi => by have := h i (List.mem_range.1 hi); rw [this.1, this.2]; rfl
theorem lsB_all {ss : List Sn} (h : lsB ss = true) : ss.length ≤ 20 ∧ ∀ i, i < ss.length → gdB ss i = true ∧ nexB ss i = true := by
  unfold lsB allB at h
  rw [Bool.and_eq_true, List.all_eq_true] at h
  refine ⟨of_decide_eq_true h.1, fun i hi => ?_⟩
  have := h.2 i (List.mem_range.2 hi)
  rw [Bool.and_eq_true] at this
  exact this
theorem lsB_mem {ss : List Sn} (h : lsB ss = true) : ∀ s ∈ ss, snB s = true := fun s hs => by
  obtain ⟨i, hi, rfl⟩ := List.getElem_of_mem hs
  have := ((lsB_all h).2 i hi).1
  rwa [gdB_at hi] at this
/-- The numbers of a list of versions. -/
def vN (ss : List Sn) : List Int := ss.map Sn.num
theorem vN_len (ss : List Sn) : (vN ss).length = ss.length := List.length_map _
theorem vN_at {ss : List Sn} {i : Nat} (h : i < (vN ss).length) : (vN ss)[i] = (ss[i]'(by rw [← vN_len ss]; exact h)).num := by simp [vN]
theorem lsB_up {ss : List Sn} (h : lsB ss = true) : upN (vN ss) = true := by
  refine upN_yes fun i hi => ?_
  rw [vN_len] at hi
  cases i with
  | zero => rfl
  | succ i =>
    rw [upI_succ (by rw [vN_len]; exact hi), vN_at, vN_at]
    have := ((lsB_all h).2 (i + 1) hi).2
    rw [nexB_succ hi] at this
    have := eq_of_beq this
    exact decide_eq_true (by omega)
/-- Among rising numbers a number stands where it is. -/
theorem up_at {zs : List Int} {n : Int} {k : Nat} (hu : upN zs = true) (hk : k < zs.length) (he : zs[k] = n) : atN zs n = k ∧ hasN zs n = true := by
  have h1 : atN zs n = k := by
    rcases Nat.lt_trichotomy (atN zs n) k with h | h | h
    · have h2 := atN_at (zs := zs) (n := n) (k := atN zs n) (by omega) rfl
      have h3 := up_lt hu _ _ h hk
      omega
    · exact h
    · have := atN_lt (zs := zs) (n := n) hk h
      omega
  refine ⟨h1, ?_⟩
  rw [hasN_at (by rw [h1]; exact hk)]
  simp only [h1, he, beq_self_eq_true]
theorem up_none {zs : List Int} {n : Int} (hu : upN zs = true) (h : ∀ k (hk : k < zs.length), zs[k] ≠ n) : hasN zs n = false := by
  rw [← isI_hasN hu]
  unfold isI
  rw [List.any_eq_false]
  intro x hx he
  obtain ⟨i, hi, rfl⟩ := List.getElem_of_mem hx
  exact h i hi (eq_of_beq he)
theorem hasN_lt {zs : List Int} {n : Int} (h : hasN zs n = true) : atN zs n < zs.length := by
  rcases Nat.lt_or_ge (atN zs n) zs.length with h1 | h1
  · exact h1
  · rw [hasN_end (by omega)] at h
    cases h
/-- Whether a list is good and has a number. -/
def thB (ss : List Sn) (n : Int) : Bool := lsB ss && hasN (vN ss) n
/-- What SnapshotAt and CompactTo tell. -/
def saX (ss : List Sn) (n : Int) : Sn := if thB ss n = true then (ss[atN (vN ss) n]?).getD Sn.none else Sn.none
def ctX (ss : List Sn) (n : Int) : List Sn := if thB ss n = true then ss.drop (atN (vN ss) n) else []
theorem saX_no {ss : List Sn} {n : Int} (h : thB ss n = false) : saX ss n = Sn.none := if_neg (by rw [h]; exact Bool.false_ne_true)
theorem ctX_no {ss : List Sn} {n : Int} (h : thB ss n = false) : ctX ss n = [] := if_neg (by rw [h]; exact Bool.false_ne_true)
theorem saX_yes {ss : List Sn} {n : Int} {k : Nat} (h : thB ss n = true) (hk : k < ss.length) (he : atN (vN ss) n = k) : saX ss n = ss[k] := by
  unfold saX
  rw [if_pos h, he, List.getElem?_eq_getElem hk]
  rfl
theorem ctX_yes {ss : List Sn} {n : Int} {k : Nat} (h : thB ss n = true) (he : atN (vN ss) n = k) : ctX ss n = ss.drop k := by
  unfold ctX
  rw [if_pos h, he]
/-- The number behind the last one's. -/
def nxN (ss : List Sn) : Int := match ss.getLast? with
  | some s => s.num + 1
  | Option.none => 1
/-- What PutSnapshot tells. -/
def nwS (ss : List Sn) (rs : List Ru) (zs : List Int) : Sn := ⟨nxN ss, plX rs, srN zs⟩
def puB (ss : List Sn) (rs : List Ru) (zs : List Int) : Bool := (lsB ss && (polB rs && fewB zs)) && snB (nwS ss rs zs)
def puX (ss : List Sn) (rs : List Ru) (zs : List Int) : List Sn := if puB ss rs zs = true then (ss ++ [nwS ss rs zs]).drop (ss.length + 1 - 20) else []

/-- Rules and numbers that others have not. -/
def hasR (b : List Ru) (r : Ru) : Bool := b.any (fun y => r.same y)
def woR (a b : List Ru) : List Ru := a.filter (fun r => !(hasR b r))
def woRT (a b : List Ru) (k : Nat) : List Ru := (a.take k).filter (fun r => !(hasR b r))
def woN (a b : List Int) : List Int := a.filter (fun z => !(isI b z))
def woNT (a b : List Int) (k : Nat) : List Int := (a.take k).filter (fun z => !(isI b z))
theorem woRT_zero (a b : List Ru) : woRT a b 0 = [] := by simp [woRT]
theorem woNT_zero (a b : List Int) : woNT a b 0 = [] := by simp [woNT]
theorem woRT_end (a b : List Ru) : woRT a b a.length = woR a b := by unfold woRT woR; rw [List.take_length]
theorem woNT_end (a b : List Int) : woNT a b a.length = woN a b := by unfold woNT woN; rw [List.take_length]
theorem woRT_yes {a b : List Ru} {k : Nat} (h : k < a.length) (hb : hasR b a[k] = true) : woRT a b (k + 1) = woRT a b k := by
  unfold woRT
  rw [List.take_succ_eq_append_getElem h, List.filter_append]
  simp [hb]
theorem woRT_no {a b : List Ru} {k : Nat} (h : k < a.length) (hb : hasR b a[k] = false) : woRT a b (k + 1) = woRT a b k ++ [a[k]] := by
  unfold woRT
  rw [List.take_succ_eq_append_getElem h, List.filter_append]
  simp [hb]
theorem woNT_yes {a b : List Int} {k : Nat} (h : k < a.length) (hb : isI b a[k] = true) : woNT a b (k + 1) = woNT a b k := by
  unfold woNT
  rw [List.take_succ_eq_append_getElem h, List.filter_append]
  simp [hb]
theorem woNT_no {a b : List Int} {k : Nat} (h : k < a.length) (hb : isI b a[k] = false) : woNT a b (k + 1) = woNT a b k ++ [a[k]] := by
  unfold woNT
  rw [List.take_succ_eq_append_getElem h, List.filter_append]
  simp [hb]
theorem woRT_len (a b : List Ru) (k : Nat) : (woRT a b k).length ≤ k := Nat.le_trans (List.length_filter_le _ _) (by rw [List.length_take]; omega)
theorem woNT_len (a b : List Int) (k : Nat) : (woNT a b k).length ≤ k := Nat.le_trans (List.length_filter_le _ _) (by rw [List.length_take]; omega)
theorem woR_len (a b : List Ru) : (woR a b).length ≤ a.length := List.length_filter_le _ _
theorem woN_len (a b : List Int) : (woN a b).length ≤ a.length := List.length_filter_le _ _
theorem woR_mem {a b : List Ru} {r : Ru} (h : r ∈ woR a b) : r ∈ a := (List.mem_filter.1 h).1
/-- What DiffOf tells. -/
def dfB (a b : Sn) : Bool := (snB a && (snB b && decide (a.num < b.num))) && (woN a.rv b.rv).isEmpty
def dfX (a b : Sn) : Df := if dfB a b = true then ⟨a.num, b.num, woR a.pol b.pol, woR b.pol a.pol, woN b.rv a.rv⟩ else Df.none
theorem dfX_no {a b : Sn} (h : dfB a b = false) : dfX a b = Df.none := if_neg (by rw [h]; exact Bool.false_ne_true)
theorem dfX_yes {a b : Sn} (h : dfB a b = true) : dfX a b = ⟨a.num, b.num, woR a.pol b.pol, woR b.pol a.pol, woN b.rv a.rv⟩ := if_pos h

end Go.Proofs.YtnbojbcljfiamaaGreatDoor

namespace Go.Proofs.YtnbojbcljfiamaaGreatDoor
open Go.RowKit Go.Shelf

end Go.Proofs.YtnbojbcljfiamaaGreatDoor

namespace Go.Proofs.YtnbojbcljfiamaaGreatDoor
open Go.RowKit Go.Shelf

/-- Lists that can be read, by an address or none at all. -/
def RuR (w : World) (v : Value) (rs : List Ru) : Prop :=
  (v = .slice none 0 0 ∧ rs = []) ∨ ∃ b off cap, v = .slice (some ⟨b, off, none⟩) rs.length cap ∧ b < w.heap.size ∧ rs.length ≤ cap ∧ ∀ k (h : k < rs.length), RuAt w b (off + k * 4) rs[k]
def NuR (w : World) (v : Value) (zs : List Int) : Prop :=
  (v = .slice none 0 0 ∧ zs = []) ∨ ∃ b off cap, v = .slice (some ⟨b, off, none⟩) zs.length cap ∧ b < w.heap.size ∧ zs.length ≤ cap ∧ ∀ k (h : k < zs.length), w.cell? ⟨b, off + k, none⟩ = some (.int .i64 zs[k])
theorem RuR.s {w : World} {v : Value} {rs : List Ru} (h : RuR w v rs) : RuS w v rs := by
  rcases h with ⟨rfl, rfl⟩ | h
  · exact .inl ⟨_, _, rfl, rfl⟩
  · exact .inr h
theorem NuR.s {w : World} {v : Value} {zs : List Int} (h : NuR w v zs) : VS w v (nums zs) := by
  rcases h with ⟨rfl, rfl⟩ | ⟨b, off, cap, rfl, hb, hl, hc⟩
  · exact .inl ⟨_, _, rfl, rfl⟩
  · refine .inr ⟨b, off, cap, by rw [nums_len], hb, by rw [nums_len]; exact hl, fun k hk => ?_⟩
    rw [nums_len] at hk
    rw [hc k hk]
    simp [nums]
theorem RuR.below {w w' : World} {v : Value} {rs : List Ru} (h : RuR w v rs) (hB : Below w.heap.size w w') : RuR w' v rs := by
  rcases h with h | ⟨b, off, cap, hv, hb, hl, hc⟩
  · exact .inl h
  · exact .inr ⟨b, off, cap, hv, Nat.lt_of_lt_of_le hb hB.size, hl, fun k hk => (hc k hk).below hb hB⟩
theorem NuR.below {w w' : World} {v : Value} {zs : List Int} (h : NuR w v zs) (hB : Below w.heap.size w w') : NuR w' v zs := by
  rcases h with h | ⟨b, off, cap, hv, hb, hl, hc⟩
  · exact .inl h
  · exact .inr ⟨b, off, cap, hv, Nat.lt_of_lt_of_le hb hB.size, hl, fun k hk => (hB.cell (p := ⟨b, off + k, none⟩) hb).trans (hc k hk)⟩
theorem RuR.len {w : World} {v : Value} {rs : List Ru} (h : RuR w v rs) : ∃ a cap, v = .slice a rs.length cap := h.s.len
theorem NuR.len {w : World} {v : Value} {zs : List Int} (h : NuR w v zs) : ∃ a cap, v = .slice a zs.length cap := h.s.numLen
theorem RuR.own {w : World} {base : Nat} {v : Value} {rs : List Ru} (h : w.ownsRow base 122 4 v rs.length (rs.flatMap Ru.cells)) : RuR w v rs := by
  have hs := RuS.own h
  rcases row_form h with ⟨rfl, h0⟩ | ⟨g, cap, rfl, _, hc⟩
  · exact .inl ⟨rfl, List.eq_nil_of_length_eq_zero h0⟩
  · refine .inr ⟨g, 0, cap, rfl, (h.lt g rfl).2, hc, fun k hk => ?_⟩
    obtain ⟨b, off, hbo, _, _, hat⟩ := hs.at hk
    cases hbo
    exact hat
theorem NuR.own {w : World} {base : Nat} {v : Value} {zs : List Int} (h : w.ownsRow base 3 1 v zs.length (nums zs)) : NuR w v zs := by
  rcases row_form h with ⟨rfl, h0⟩ | ⟨g, cap, rfl, _, hc⟩
  · exact .inl ⟨rfl, List.eq_nil_of_length_eq_zero h0⟩
  · refine .inr ⟨g, 0, cap, rfl, (h.lt g rfl).2, hc, fun k hk => ?_⟩
    rw [Nat.zero_add, h.cellAt k (by omega)]
    simp [nums, hk]
/-- All cells of a list of rules, one behind the other. -/
theorem RuR.flat {w : World} {b off : Nat} {rs : List Ru} (hc : ∀ k (h : k < rs.length), RuAt w b (off + k * 4) rs[k]) : ∀ j u, (rs.flatMap Ru.cells)[j]? = some u → w.cell? ⟨b, off + j, none⟩ = some u := by
  intro j u hu
  have hj : j < rs.length * 4 := by rw [← flat_len]; exact (List.getElem?_eq_some_iff.1 hu).1
  have hk : j / 4 < rs.length := by omega
  have hm : j % 4 < 4 := Nat.mod_lt _ (by omega)
  have e : j = j / 4 * 4 + j % 4 := by omega
  rw [e, flat_at rs _ _ hk hm] at hu
  obtain ⟨h0, h1, h2, h3⟩ := hc (j / 4) hk
  rw [show off + j = off + j / 4 * 4 + j % 4 by omega]
  obtain h | h | h | h : j % 4 = 0 ∨ j % 4 = 1 ∨ j % 4 = 2 ∨ j % 4 = 3 := by omega
  all_goals rw [h] at hu ⊢
  · simp at hu; rw [← hu]; exact h0
  · simp at hu; rw [← hu]; exact h1
  · simp at hu; rw [← hu]; exact h2
  · simp at hu; rw [← hu]; exact h3

/-- A version in memory. -/
def SnA (w : World) (v : Value) (s : Sn) : Prop := ∃ vp vr, v = .agg #[.int .i64 s.num, vp, vr] ∧ RuS w vp s.pol ∧ VS w vr (nums s.rv)
def SnR (w : World) (v : Value) (s : Sn) : Prop := ∃ vp vr, v = .agg #[.int .i64 s.num, vp, vr] ∧ RuR w vp s.pol ∧ NuR w vr s.rv
/-- .. of one's own: its lists lie in blocks from base on, below top. -/
def SnO (w : World) (base top : Nat) (v : Value) (s : Sn) : Prop :=
  ∃ vp vr, v = .agg #[.int .i64 s.num, vp, vr] ∧ w.ownsRow base 122 4 vp s.pol.length (s.pol.flatMap Ru.cells) ∧ w.ownsRow base 3 1 vr s.rv.length (nums s.rv) ∧ (∀ k, vp.ownBlock = some k → k < top) ∧ ∀ k, vr.ownBlock = some k → k < top
theorem SnA.below {w w' : World} {v : Value} {s : Sn} (h : SnA w v s) (hB : Below w.heap.size w w') : SnA w' v s := by
  obtain ⟨vp, vr, rfl, h1, h2⟩ := h
  exact ⟨_, _, rfl, h1.below hB, h2.below hB⟩
theorem SnR.below {w w' : World} {v : Value} {s : Sn} (h : SnR w v s) (hB : Below w.heap.size w w') : SnR w' v s := by
  obtain ⟨vp, vr, rfl, h1, h2⟩ := h
  exact ⟨_, _, rfl, h1.below hB, h2.below hB⟩
theorem SnO.below {w w' : World} {base top : Nat} {v : Value} {s : Sn} (h : SnO w base top v s) (hB : Below w.heap.size w w') : SnO w' base top v s := by
  obtain ⟨vp, vr, rfl, h1, h2, t1, t2⟩ := h
  exact ⟨vp, vr, rfl, ownsRow_below h1 hB, ownsRow_below h2 hB, t1, t2⟩
theorem SnR.a {w : World} {v : Value} {s : Sn} (h : SnR w v s) : SnA w v s := by
  obtain ⟨vp, vr, rfl, h1, h2⟩ := h
  exact ⟨_, _, rfl, h1.s, h2.s⟩
theorem SnO.r {w : World} {base top : Nat} {v : Value} {s : Sn} (h : SnO w base top v s) : SnR w v s := by
  obtain ⟨vp, vr, rfl, h1, h2, _⟩ := h
  exact ⟨_, _, rfl, RuR.own h1, NuR.own h2⟩
theorem SnO.a {w : World} {base top : Nat} {v : Value} {s : Sn} (h : SnO w base top v s) : SnA w v s := h.r.a
theorem SnO.of {w : World} {base : Nat} {vp vr : Value} {s : Sn} (h1 : w.ownsRow base 122 4 vp s.pol.length (s.pol.flatMap Ru.cells)) (h2 : w.ownsRow base 3 1 vr s.rv.length (nums s.rv)) : SnO w base w.heap.size (.agg #[.int .i64 s.num, vp, vr]) s :=
  ⟨vp, vr, rfl, h1, h2, fun k hk => (h1.lt k hk).2, fun k hk => (h2.lt k hk).2⟩
theorem SnO.mono {w : World} {base base' top top' : Nat} {v : Value} {s : Sn} (h : SnO w base top v s) (hb : base' ≤ base) (ht : top ≤ top') : SnO w base' top' v s := by
  obtain ⟨vp, vr, rfl, h1, h2, t1, t2⟩ := h
  exact ⟨vp, vr, rfl, Go.Joins.ownsRow_le h1 hb, Go.Joins.ownsRow_le h2 hb, fun k hk => Nat.lt_of_lt_of_le (t1 k hk) ht, fun k hk => Nat.lt_of_lt_of_le (t2 k hk) ht⟩
theorem Mid.sno {lo hi : Nat} {w w1 : World} (h : Mid lo hi w w1) {base top : Nat} {v : Value} {s : Sn} (hr : SnO w base top v s) (ho : hi ≤ base ∨ top ≤ lo) : SnO w1 base top v s := by
  obtain ⟨vp, vr, rfl, h1, h2, t1, t2⟩ := hr
  exact ⟨vp, vr, rfl, h.row h1 (fun k hk => by have := h1.lt k hk; have := t1 k hk; omega), h.row h2 (fun k hk => by have := h2.lt k hk; have := t2 k hk; omega), t1, t2⟩
def Sn.fits (s : Sn) : Prop := s.pol.length ≤ maxLen ∧ (∀ r ∈ s.pol, r.fits) ∧ s.rv.length ≤ maxLen
/-- What the laws count of a version. -/
def Sn.size (s : Sn) : Nat := szAll s.pol + s.rv.length
def leftV (n : Int) (s : Sn) : Int := if (s.size : Int) ≤ n then n - s.size else -1
/-- No list of it is longer than the laws take, and no rule greater. -/
def Sn.short (s : Sn) : Prop := s.pol.length ≤ 1048576 ∧ s.rv.length ≤ 1048576 ∧ ∀ r ∈ s.pol, r.size ≤ 1048576
theorem Sn.short_of {s : Sn} (h : s.size ≤ 1048576) : s.short := by
  unfold Sn.size szAll at h
  exact ⟨by omega, by omega, fun r hr => by have := sz_mem hr; omega⟩
theorem sn_forms {w : World} {v : Value} {s : Sn} (h : SnA w v s) : ∃ ap cp ar cr, v = .agg #[.int .i64 s.num, .slice ap s.pol.length cp, .slice ar s.rv.length cr] := by
  obtain ⟨vp, vr, rfl, h1, h2⟩ := h
  obtain ⟨ap, cp, rfl⟩ := h1.len
  obtain ⟨ar, cr, rfl⟩ := h2.numLen
  exact ⟨_, _, _, _, rfl⟩

open Go.Deep Go.ChangeShapes Go.WideShapes Go.Joins in
theorem openRuR {H : Type} {enc : TypeId × Value → H} {W : World} {c0 : Value} {d : DataW H × List MemPlace} {fuel : Nat} (hf : DataW.trod enc Tryz.prog W 0 (fun _ => true) true fuel 22 [c0] = some d) :
    ∃ (a : Option Addr) (n c : Nat) (rs : List Ru), c0 = .slice a n c ∧ RuS W (.slice a n c) rs ∧ rs.length = n ∧ n ≤ maxLen ∧ ∀ r ∈ rs, r.fits := by
  have hs : ∃ a n c, c0 = .slice a n c := by
    rcases open_slice Tryz.underlying22 hf with ⟨hcs, _⟩ | ⟨x, n, c, m, k, D, Pl, hcs, _⟩
    · simp at hcs; exact ⟨_, _, _, hcs⟩
    · simp at hcs; exact ⟨_, _, _, hcs⟩
  obtain ⟨a, n, c, rfl⟩ := hs
  obtain ⟨rs, h⟩ := openRuS (a := a) (n := n) (c := c) (d := d.1) (p := d.2) ⟨fuel, hf⟩
  exact ⟨a, n, c, rs, rfl, h⟩
set_option maxRecDepth 100000 in
theorem cellsSnapshot : Tryz.prog.cellsOf 25 = 3 := by kernel_rfl
set_option maxRecDepth 100000 in
open Go.Deep Go.ChangeShapes Go.WideShapes Go.ChangeAt Go.Joins in
/-- A version that comes in. -/
theorem openSn {H : Type} {enc : TypeId × Value → H} {W : World} {base : Nat} {v : Value} {d : DataW H} {p : List MemPlace} (hv : Value.okWide Tryz.prog W .any base 25 v) (h : DataW.Trod enc Tryz.prog W 0 (fun _ => true) true 25 v d p) :
    ∃ s : Sn, SnA W v s ∧ s.fits := by
  obtain ⟨c0, c1, c2, y0, y1, y2, m, rfl, _, _, h0, h1, h2⟩ := open_agg3 Tryz.underlying25 (by kernel_rfl) cellsSnapshot hv h
  obtain ⟨x0, e0, _, _⟩ := DataW.trod_int Tryz.underlying3 h0
  obtain ⟨a1, n1, k1, rs, rfl, r1, rfl, l1, f1⟩ := openRuR h1
  obtain ⟨a2, n2, k2, rv, rfl, r2, rfl, l2⟩ := openInR h2
  simp only [List.cons.injEq, and_true] at e0
  subst e0
  exact ⟨⟨x0, rs, rv⟩, ⟨_, _, rfl, r1, r2⟩, l1, f1, l2⟩

set_option maxHeartbeats 2000000 in
theorem szSnapshot_any (v : Value) (s : Sn) (n : Int) (w : World) (h0 : 0 ≤ n) (hn : n ≤ 1048576) (hf : s.fits) (h : SnA w v s) :
    Calls Tryz.prog 24 #[v, .int .i64 n] w fun e w' => e = .returned (.int .i64 (leftV n s)) ∧ Below w.heap.size w w' := by
  obtain ⟨vp, vr, rfl, h1, h2⟩ := h
  obtain ⟨l1, f1, l2⟩ := hf
  have hB0 : Below w.heap.size w (w.alloc (.cells #[.int .i64 s.num, vp, vr] 25)) := (Below.refl _ w).alloc (Nat.le_refl _) _
  have F1 := Three.new w (.int .i64 s.num) vp vr 25
  have HI := hid (show leftV n s = if (s.size : Int) ≤ n then n - (s.size : Int) else (-1 : Int) from rfl)
  have HZ := hid (show s.size = szAll s.pol + s.rv.length from rfl)
  go_enter Tryz.func24, Tryz.ntmps24
  go_wp2_with fail
  generalize w.alloc (.cells #[.int .i64 s.num, vp, vr] 25) = W0 at *
  refine (szRuleS_any vp s.pol n _ h0 hn l1 f1 (h1.below hB0)).mono ?_
  rintro e w1 ⟨rfl, hB1⟩
  replace F1 := F1.below hB1
  have hBB1 := below_one hB0 hB1
  clear hB1 hB0
  obtain ⟨a0, a1, a2⟩ := F1.c
  by_cases c1 : (szAll s.pol : Int) ≤ n
  · rw [show leftS n s.pol = n - szAll s.pol from if_pos c1]
    have d1 : decide (n - (szAll s.pol : Int) < 0) = false := by simp; omega
    go_wp2_with fail
    refine (szIntS_any vr s.rv _ _ (by omega) (by omega) l2 (h2.below hBB1)).mono ?_
    rintro e w2 ⟨rfl, hB2⟩
    have hBB2 := below_one hBB1 hB2
    clear hB2 a0 a1 a2
    by_cases c2 : (s.rv.length : Int) ≤ n - szAll s.pol
    · rw [show left1 (n - (szAll s.pol : Int)) s.rv.length = n - szAll s.pol - s.rv.length from if_pos c2]
      have d2 : decide (n - (szAll s.pol : Int) - (s.rv.length : Int) < 0) = false := by simp; omega
      have HR := hid (show leftV n s = n - szAll s.pol - s.rv.length by rw [HI.out, if_pos (by rw [HZ.out]; push_cast; omega), HZ.out]; push_cast; omega)
      go_wp2_with fail
      go_ret
      exact ⟨ret_int HR.out.symm, hBB2⟩
    · rw [show left1 (n - (szAll s.pol : Int)) s.rv.length = -1 from if_neg c2]
      have HR := hid (show leftV n s = -1 by rw [HI.out, if_neg (by rw [HZ.out]; push_cast; omega)])
      go_wp2_with fail
      go_ret
      exact ⟨ret_int HR.out.symm, hBB2⟩
  · rw [show leftS n s.pol = -1 from if_neg c1]
    have HR := hid (show leftV n s = -1 by rw [HI.out, if_neg (by rw [HZ.out]; push_cast; omega)])
    go_wp2_with fail
    go_ret
    exact ⟨ret_int HR.out.symm, hBB1⟩

set_option maxHeartbeats 2000000 in
/-- A version is like itself, wherever the two lie. -/
theorem eqSnapshot_same (v v' : Value) (s : Sn) (w : World) (hs : s.short) (h : SnA w v s) (h' : SnA w v' s) :
    Calls Tryz.prog 41 #[v, v'] w fun e w' => e = .returned (.bool true) ∧ Below w.heap.size w w' := by
  obtain ⟨vp, vr, rfl, h1, h2⟩ := h
  obtain ⟨vp', vr', rfl, h1', h2'⟩ := h'
  obtain ⟨l1, l2, _⟩ := hs
  have hB0 : Below w.heap.size w ((w.alloc (.cells #[.int .i64 s.num, vp, vr] 40)).alloc (.cells #[.int .i64 s.num, vp', vr'] 40)) := ((Below.refl _ w).alloc (Nat.le_refl _) _).alloc (by simp) _
  have F1 := (Three.new w (.int .i64 s.num) vp vr 40).below ((Below.refl _ _).alloc (Nat.le_refl _) (.cells #[.int .i64 s.num, vp', vr'] 40))
  have F2 := Three.at (w.alloc (.cells #[.int .i64 s.num, vp, vr] 40)) (.int .i64 s.num) vp' vr' 40 (k := w.heap.size + 1) (by simp)
  have e1 : (s.num != s.num) = false := by simp
  go_enter Tryz.func41, Tryz.ntmps41
  go_wp2_with fail
  generalize (w.alloc (.cells #[.int .i64 s.num, vp, vr] 40)).alloc (.cells #[.int .i64 s.num, vp', vr'] 40) = W0 at *
  refine (eqRuleS_any vp vp' s.pol s.pol _ (by omega) (by omega) (h1.below hB0) (h1'.below hB0)).mono ?_
  rintro e w1 ⟨rfl, hB1⟩
  rw [sameS_refl]
  replace F1 := F1.below hB1
  replace F2 := F2.below hB1
  have hBB1 := below_one hB0 hB1
  clear hB1 hB0
  obtain ⟨a0, a1, a2⟩ := F1.c
  obtain ⟨c0, c1, c2⟩ := F2.c
  go_wp2_with fail
  refine (eqIntS_same vr vr' s.rv _ (by omega) (h2.below hBB1) (h2'.below hBB1)).mono ?_
  rintro e w2 ⟨rfl, hB2⟩
  have hBB2 := below_one hBB1 hB2
  clear a0 a1 a2 c0 c1 c2 hB2
  go_wp2_with fail
  go_ret
  exact ⟨rfl, hBB2⟩

set_option maxHeartbeats 2000000 in
theorem toSnapshot_any (v : Value) (s : Sn) (w : World) (hs : s.short) (h : SnA w v s) :
    Calls Tryz.prog 32 #[v] w fun e w' => ∃ v', e = .returned v' ∧ SnO w' w.heap.size w'.heap.size v' s ∧ Below w.heap.size w w' := by
  obtain ⟨vp, vr, rfl, h1, h2⟩ := h
  obtain ⟨l1, l2, _⟩ := hs
  have hB0' : Below w.heap.size w (((w.alloc (.cells #[.int .i64 s.num, vp, vr] 25)).alloc (.cells #[.int .i64 0, .slice none 0 0, .slice none 0 0] 40)).alloc (.cells #[.int .i64 s.num, .slice none 0 0, .slice none 0 0] 40)) := (((Below.refl _ w).alloc (Nat.le_refl _) _).alloc (by simp) _).alloc (by simp; omega) _
  have F1' := ((Three.new w (.int .i64 s.num) vp vr 25).below ((Below.refl _ _).alloc (Nat.le_refl _) (.cells #[.int .i64 0, .slice none 0 0, .slice none 0 0] 40))).below ((Below.refl _ _).alloc (Nat.le_refl _) (.cells #[.int .i64 s.num, .slice none 0 0, .slice none 0 0] 40))
  have F2' := (Three.at (w.alloc (.cells #[.int .i64 s.num, vp, vr] 25)) (.int .i64 0) (.slice none 0 0) (.slice none 0 0) 40 (k := w.heap.size + 1) (by simp)).below ((Below.refl _ _).alloc (Nat.le_refl _) (.cells #[.int .i64 s.num, .slice none 0 0, .slice none 0 0] 40))
  have F3' := Three.at ((w.alloc (.cells #[.int .i64 s.num, vp, vr] 25)).alloc (.cells #[.int .i64 0, .slice none 0 0, .slice none 0 0] 40)) (.int .i64 s.num) (.slice none 0 0) (.slice none 0 0) 40 (k := w.heap.size + 1 + 1) (by simp)
  have hz0 : (((w.alloc (.cells #[.int .i64 s.num, vp, vr] 25)).alloc (.cells #[.int .i64 0, .slice none 0 0, .slice none 0 0] 40)).alloc (.cells #[.int .i64 s.num, .slice none 0 0, .slice none 0 0] 40)).heap.size = w.heap.size + 1 + 1 + 1 := by simp
  have HZ' := hid hz0
  clear hz0
  go_enter Tryz.func32, Tryz.ntmps32
  go_wp2_with fail
  generalize ((w.alloc (.cells #[.int .i64 s.num, vp, vr] 25)).alloc (.cells #[.int .i64 0, .slice none 0 0, .slice none 0 0] 40)).alloc (.cells #[.int .i64 s.num, .slice none 0 0, .slice none 0 0] 40) = W0 at *
  refine (toRuleS_any vp s.pol _ l1 (h1.below hB0')).mono ?_
  rintro e w1 ⟨v1, rfl, o1, hB1⟩
  obtain ⟨a1', m1', c1', hv1⟩ := row_slice o1
  subst hv1
  replace F1 := F1'.below hB1
  replace F2 := F2'.below hB1
  replace F3 := F3'.below hB1
  have hBB1 := below_one hB0' hB1
  clear hB1 hB0' F1' F2' F3'
  obtain ⟨a0, a1, a2⟩ := F1.c
  obtain ⟨c0, c1, c2⟩ := F3.c
  have f1 := F3.f 1
  go_wp2_with fail
  have F2' := F2.other (k' := w.heap.size + 1 + 1) (by omega) 1 (.slice a1' m1' c1')
  have F3' := F3.s1 (.slice a1' m1' c1')
  have hB1' := hBB1.setCell (p := ⟨w.heap.size + 1 + 1, 1, none⟩) (by simp; omega) (.slice a1' m1' c1')
  have o1' := ownsRow_setCell_below o1 (a := ⟨w.heap.size + 1 + 1, 1, none⟩) (by rw [HZ'.out]; simp) (.slice a1' m1' c1')
  clear F1 F2 F3 hBB1 o1 a0 a1 a2 c0 c1 c2 f1
  generalize w1.setCell ⟨w.heap.size + 1 + 1, 1, none⟩ (.slice a1' m1' c1') = W1 at *
  refine (toIntS_any vr s.rv _ l2 (h2.below hB1')).mono ?_
  rintro e w2 ⟨v2, rfl, o2, hB2⟩
  obtain ⟨a2', m2', c2', hv2⟩ := row_slice o2
  subst hv2
  have z1 := hB1'.size
  replace F2 := F2'.below hB2
  replace F3 := F3'.below hB2
  replace o1 := ownsRow_below o1' hB2
  have hBB2 := below_one hB1' hB2
  have hl3 := F3'.lt
  have hl2 := F2'.lt
  clear hB2 hB1' F2' F3' o1'
  obtain ⟨b0, b1, b2⟩ := F2.c
  obtain ⟨c0, c1, c2⟩ := F3.c
  have f2 := F3.f 2
  have g0 := F2.f 0
  have g1 := F2.f 1
  have g2 := F2.f 2
  have o1' := ownsRow_setCell_below o1 (a := ⟨w.heap.size + 1 + 1, 2, none⟩) (by rw [HZ'.out]; simp) (.slice a2' m2' c2')
  have o2' := ownsRow_setCell_below o2 (a := ⟨w.heap.size + 1 + 1, 2, none⟩) hl3 (.slice a2' m2' c2')
  have hBB' := hBB2.setCell (p := ⟨w.heap.size + 1 + 1, 2, none⟩) (by simp; omega) (.slice a2' m2' c2')
  go_wp2_with fail
  have G := (((F2.other (k' := w.heap.size + 1 + 1) (by omega) 2 (.slice a2' m2' c2')).s0 (.int .i64 s.num)).s1 (.slice a1' m1' c1')).s2 (.slice a2' m2' c2')
  have p1 := row_three o1' (k := w.heap.size + 1) (by rw [HZ'.out]; omega) (.int .i64 s.num) (.slice a1' m1' c1') (.slice a2' m2' c2')
  have p2 := row_three o2' (k := w.heap.size + 1) hl2 (.int .i64 s.num) (.slice a1' m1' c1') (.slice a2' m2' c2')
  have pB := below_three hBB' (k := w.heap.size + 1) (by omega) (.int .i64 s.num) (.slice a1' m1' c1') (.slice a2' m2' c2')
  have hW0 : w.heap.size ≤ W0.heap.size := by rw [HZ'.out]; omega
  generalize (((w2.setCell ⟨w.heap.size + 1 + 1, 2, none⟩ (.slice a2' m2' c2')).setCell ⟨w.heap.size + 1, 0, none⟩ (.int .i64 s.num)).setCell ⟨w.heap.size + 1, 1, none⟩ (.slice a1' m1' c1')).setCell ⟨w.heap.size + 1, 2, none⟩ (.slice a2' m2' c2') = W4 at *
  obtain ⟨d0, d1, d2⟩ := G.c
  exact bodyPost_ret (v := .agg #[.int .i64 s.num, (.slice a1' m1' c1'), (.slice a2' m2' c2')]) (by simp [results, Tryz.results32, go_sem, d0, d1, d2]) rfl ⟨_, rfl, SnO.of (Go.Joins.ownsRow_le p1 hW0) (Go.Joins.ownsRow_le p2 z1), pB⟩

/-- What lies in a version that was marked. -/
def mkSn (k : Nat) (s : Sn) : Sn := ⟨s.num, mkL k s.pol.length, mkN (k + 4 * s.pol.length) s.rv.length⟩
def Sn.many (s : Sn) : Nat := 4 * s.pol.length + s.rv.length

end Go.Proofs.YtnbojbcljfiamaaGreatDoor

namespace Go.Proofs.YtnbojbcljfiamaaGreatDoor
open Go.RowKit Go.Shelf

abbrev bls (bs : List Bool) : List Value := bs.map Value.bool
theorem bls_len (bs : List Bool) : (bls bs).length = bs.length := List.length_map _
theorem VS.bol {w : World} {a : Option Addr} {n cap : Nat} {bs : List Bool} (h : VS w (.slice a n cap) (bls bs)) {i : Nat} (hi : i < bs.length) : ∃ b off, a = some ⟨b, off, none⟩ ∧ b < w.heap.size ∧ n ≤ cap ∧ w.cell? ⟨b, off + i, none⟩ = some (.bool bs[i]) := by
  obtain ⟨b, off, h1, h2, h3, h4⟩ := h.at (i := i) (by rw [bls_len]; exact hi)
  exact ⟨b, off, h1, h2, h3, by rw [h4, List.getElem_map]⟩
theorem VS.bolLen {w : World} {v : Value} {bs : List Bool} (h : VS w v (bls bs)) : ∃ a cap, v = .slice a bs.length cap := by
  have := h.len
  rwa [bls_len] at this
theorem infoBool : (Tryz.prog.info? 4).map (fun i => (i.zero, i.size, i.bytes)) = some (some (.bool false), 1, 1) := by kernel_rfl
/-- A list of yes and no that can be read, by an address or none at all. -/
def BoR (w : World) (v : Value) (bs : List Bool) : Prop :=
  (v = .slice none 0 0 ∧ bs = []) ∨ ∃ b off cap, v = .slice (some ⟨b, off, none⟩) bs.length cap ∧ b < w.heap.size ∧ bs.length ≤ cap ∧ ∀ k (h : k < bs.length), w.cell? ⟨b, off + k, none⟩ = some (.bool bs[k])
theorem BoR.s {w : World} {v : Value} {bs : List Bool} (h : BoR w v bs) : VS w v (bls bs) := by
  rcases h with ⟨rfl, rfl⟩ | ⟨b, off, cap, rfl, hb, hl, hc⟩
  · exact .inl ⟨_, _, rfl, rfl⟩
  · refine .inr ⟨b, off, cap, by rw [bls_len], hb, by rw [bls_len]; exact hl, fun k hk => ?_⟩
    rw [bls_len] at hk
    rw [hc k hk]
    simp [bls]
theorem BoR.below {w w' : World} {v : Value} {bs : List Bool} (h : BoR w v bs) (hB : Below w.heap.size w w') : BoR w' v bs := by
  rcases h with h | ⟨b, off, cap, hv, hb, hl, hc⟩
  · exact .inl h
  · exact .inr ⟨b, off, cap, hv, Nat.lt_of_lt_of_le hb hB.size, hl, fun k hk => (hB.cell (p := ⟨b, off + k, none⟩) hb).trans (hc k hk)⟩
theorem BoR.own {w : World} {base : Nat} {v : Value} {bs : List Bool} (h : w.ownsRow base 4 1 v bs.length (bls bs)) : BoR w v bs := by
  rcases row_form h with ⟨rfl, h0⟩ | ⟨g, cap, rfl, _, hc⟩
  · exact .inl ⟨rfl, List.eq_nil_of_length_eq_zero h0⟩
  · refine .inr ⟨g, 0, cap, rfl, (h.lt g rfl).2, hc, fun k hk => ?_⟩
    rw [Nat.zero_add, h.cellAt k (by omega)]
    simp [bls, hk]


set_option maxRecDepth 100000 in
open Go.Deep Go.ChangeShapes Go.WideShapes Go.Joins in
/-- A list of numbers that comes in. -/
theorem openBoS {H : Type} {enc : TypeId × Value → H} {W : World} {a : Option Addr} {n c : Nat} {d : DataW H} {p : List MemPlace} (h : DataW.Trod enc Tryz.prog W 0 (fun _ => true) true 26 (.slice a n c) d p) :
    ∃ zs : List Bool, VS W (.slice a n c) (bls zs) ∧ zs.length = n ∧ n ≤ maxLen := by
  obtain ⟨fuel, hf⟩ := h
  have c2 : Tryz.prog.cellsOf 4 = 1 := by kernel_rfl
  rcases open_slice Tryz.underlying26 hf with ⟨hcs, _⟩ | ⟨x, len, cap, m, k, D, Pl, hcs, _, hl, hm, hmm, _, hx⟩
  · simp [Value.cells] at hcs
    obtain ⟨rfl, rfl, rfl⟩ := hcs
    exact ⟨[], .inl ⟨_, _, rfl, rfl⟩, rfl, Nat.zero_le _⟩
  · simp [Value.cells] at hcs
    obtain ⟨rfl, rfl, rfl⟩ := hcs
    have hlm : n ≤ m := by rw [hmm]; simpa using hl
    have each : ∀ i, i < n → ∃ r : Bool, W.cell? (x.add i) = some (.bool r) := by
      intro i hi
      obtain ⟨cs', h1, h2⟩ := hx i (by omega)
      rw [c2, Nat.mul_one] at h1
      obtain ⟨_, hlen, hcell⟩ := World.cells?_some h1
      obtain ⟨x0, f0, _⟩ := DataW.trod_bool Tryz.underlying4 h2
      subst f0
      have e0 := hcell 0 (by omega)
      rw [add_add] at e0
      exact ⟨x0, by simpa using e0⟩
    have hin : Inhabited Bool := ⟨false⟩
    obtain ⟨q, hq⟩ := choose_lt each
    by_cases h0 : n = 0
    · subst h0
      exact ⟨[], .inl ⟨_, _, rfl, rfl⟩, rfl, Nat.zero_le _⟩
    · obtain ⟨b, off, spot⟩ := x
      have hs : spot = none := by simpa [Addr.add] using World.cell?_spot (hq 0 (by omega))
      subst hs
      have hlt : b < W.heap.size := by
        have := hq 0 (by omega)
        rw [Addr.add_lit] at this
        by_cases hb : b < W.heap.size
        · exact hb
        · simp only [World.cell?] at this
          rw [Array.getElem?_eq_none (by omega)] at this
          cases this
      refine ⟨(List.range n).map q, .inr ⟨b, off, c, by simp [bls], hlt, by simpa [bls] using hl, fun k hk => ?_⟩, by simp, by omega⟩
      have hk' : k < n := by simpa [bls] using hk
      have := hq k hk'
      simp only [Addr.add_lit] at this
      simpa [bls] using this

open Go.Deep Go.ChangeShapes Go.WideShapes Go.Joins in
theorem openBoR {H : Type} {enc : TypeId × Value → H} {W : World} {c0 : Value} {d : DataW H × List MemPlace} {fuel : Nat} (hf : DataW.trod enc Tryz.prog W 0 (fun _ => true) true fuel 26 [c0] = some d) :
    ∃ (a : Option Addr) (n c : Nat) (zs : List Bool), c0 = .slice a n c ∧ VS W (.slice a n c) (bls zs) ∧ zs.length = n ∧ n ≤ maxLen := by
  have hs : ∃ a n c, c0 = .slice a n c := by
    rcases open_slice Tryz.underlying26 hf with ⟨hcs, _⟩ | ⟨x, n, c, m, k, D, Pl, hcs, _⟩
    · simp at hcs; exact ⟨_, _, _, hcs⟩
    · simp at hcs; exact ⟨_, _, _, hcs⟩
  obtain ⟨a, n, c, rfl⟩ := hs
  obtain ⟨zs, h⟩ := openBoS (a := a) (n := n) (c := c) (d := d.1) (p := d.2) ⟨fuel, hf⟩
  exact ⟨a, n, c, zs, rfl, h⟩

set_option maxHeartbeats 1000000 in
theorem szBoolS_any (v : Value) (zs : List Bool) (n : Int) (w : World) (h0 : 0 ≤ n) (h1 : n ≤ 1048576) (hm : zs.length ≤ maxLen) (hr : VS w v (bls zs)) :
    Calls Tryz.prog 26 #[v, .int .i64 n] w fun e w' => e = .returned (.int .i64 (left1 n zs.length)) ∧ Below w.heap.size w w' := by
  obtain ⟨a, cap, rfl⟩ := hr.bolLen
  unfold maxLen at hm
  by_cases c0 : n < zs.length
  · have HR := hid (show left1 n zs.length = -1 from if_neg (by omega))
    go_enter Tryz.func26, Tryz.ntmps26
    go_wp2
    go_ret
    exact ⟨ret_int HR.out.symm, Below.refl _ _⟩
  · have HR := hid (show left1 n zs.length = n - zs.length from if_pos (by omega))
    have d0 : decide (n - (zs.length : Int) < 0) = false := by simp; omega
    go_enter Tryz.func26, Tryz.ntmps26
    go_wp2
    go_ret
    exact ⟨ret_int HR.out.symm, Below.refl _ _⟩

set_option maxHeartbeats 1000000 in
/-- A list of numbers is like itself, wherever the two lie. -/
theorem eqBoolS_same (v v' : Value) (zs : List Bool) (w : World) (hn : zs.length ≤ 1048577) (hr : VS w v (bls zs)) (hr' : VS w v' (bls zs)) :
    Calls Tryz.prog 43 #[v, v'] w fun e w' => e = .returned (.bool true) ∧ Below w.heap.size w w' := by
  obtain ⟨a, cap, rfl⟩ := hr.bolLen
  obtain ⟨a', cap', rfl⟩ := hr'.bolLen
  have e0 : ((zs.length : Int) != (zs.length : Int)) = false := by simp
  go_enter Tryz.func43, Tryz.ntmps43
  go_wp2
  go_loopw [5] (fun i wr => ∃ j : Nat, j ≤ zs.length ∧ i = .int .i64 j ∧ Below w.heap.size w wr) (fun i _ => zs.length - (intOf i).toNat)
  case atStart => exact ⟨0, Nat.zero_le _, rfl, Below.refl _ _⟩
  case round =>
    obtain ⟨j, hj, rfl, hB⟩ := hrel
    by_cases hlt : j < zs.length
    · obtain ⟨b, off, rfl, hb, hcap, q0⟩ := (hr.below hB).bol hlt
      obtain ⟨b', off', rfl, hb', hcap', q1⟩ := (hr'.below hB).bol hlt
      generalize zs[j] = x at q0 q1
      go_wp2_with fail
      go_quiet (fail)
      go_wp2
      go_roundw
      case rel => first | exact ⟨j + 1, by omega, by go_num, below_drewn hB _⟩ | ((repeat apply Exists.intro); exact ⟨⟨j + 1, by omega, by go_num, below_drewn hB _⟩, rfl⟩)
      case measure => simp [intOf]; omega
    · obtain rfl : j = zs.length := by omega
      go_wp2
      go_ret
      exact ⟨rfl, hB⟩

set_option maxHeartbeats 1000000 in
theorem toBoolS_any (v : Value) (zs : List Bool) (w : World) (hm : zs.length ≤ 1048576) (hr : VS w v (bls zs)) :
    Calls Tryz.prog 34 #[v] w fun e w' => ∃ v', e = .returned v' ∧ w'.ownsRow w.heap.size 4 1 v' zs.length (bls zs) ∧ Below w.heap.size w w' := by
  obtain ⟨a, cap, rfl⟩ := hr.bolLen
  obtain ⟨i0, hi, hz0, hz1, hz2⟩ := info_parts infoBool
  go_enter Tryz.func34, Tryz.ntmps34
  go_wp2_with (at_make; refine wpList_make_full _ rfl _ _ 26 rfl w.heap.size 4 i0 _ 1 Tryz.underlying26 hi hz0 hz1 _ _ _ _ zs.length rfl rfl rfl rfl (by rw [hz2]; omega) (by unfold maxLen; omega) (Nat.le_refl _) ?_; intro w1 hown hgrow)
  have hB1 : Below w.heap.size w w1 := (Below.refl _ w).grown hgrow (Nat.le_refl _) (fun k e => by cases e)
  go_loopw [4] (fun i wr => ∃ k : Nat, k ≤ zs.length ∧ i = .int .i64 k ∧ ∃ xs, wr.ownsRow w.heap.size 4 1 (.slice (some ⟨w.heap.size, 0, none⟩) zs.length zs.length) zs.length xs ∧ xs.take k = bls (zs.take k) ∧ Below w.heap.size w wr) (fun i _ => zs.length - (intOf i).toNat)
  case atStart => exact ⟨0, Nat.zero_le _, rfl, _, hown, by simp, hB1⟩
  case round =>
    obtain ⟨k, hk, rfl, xs, hrow, hx, hB⟩ := hrel
    have HX := hid hx
    clear hx
    by_cases hlt : k < zs.length
    · obtain ⟨b, off, rfl, hb, hcap, q0⟩ := (hr.below hB).bol hlt
      have HT := hid (List.take_succ_eq_append_getElem hlt)
      generalize zs[k] = r at *
      have hlen : xs.length = zs.length := by have := hrow.1; omega
      have s0 := hrow.cellAt k (by omega)
      rw [List.getElem?_eq_getElem (by omega)] at s0
      have t0 := hrow.frozenAt k
      generalize xs[k] = y0 at *
      go_wp2
      go_roundw
      case rel =>
        refine ⟨k + 1, by omega, by go_num, _, (hrow.stored k (.bool r)).1, ?_, hB.setCell (p := ⟨w.heap.size, _, none⟩) (Nat.le_refl _) _⟩
        rw [take_one _ _ _ (by omega), HX.out, HT.out]
        simp [bls]
      case measure => simp [intOf]; omega
    · obtain rfl : k = zs.length := by omega
      have HF := hid (show xs = bls zs by have := HX.out; rw [List.take_of_length_le (by have := hrow.1; omega), List.take_length] at this; exact this)
      go_wp2
      go_ret
      exact ⟨_, rfl, by rw [← HF.out]; exact hrow, hB⟩

def mkY (k n : Nat) : List Bool := (List.range n).map (fun i => ((k + i : Nat) : Int) % 3 == 0)
theorem mkY_len (k n : Nat) : (mkY k n).length = n := by simp [mkY]
theorem mkY_succ (k n : Nat) : mkY k (n + 1) = mkY k n ++ [((k + n : Nat) : Int) % 3 == 0] := by
  unfold mkY
  rw [List.range_succ, List.map_append]
  rfl
theorem mkY_at {k n i : Nat} (h : i < (mkY k n).length) : (mkY k n)[i] = (((k + i : Nat) : Int) % 3 == 0) := by simp [mkY]

end Go.Proofs.YtnbojbcljfiamaaGreatDoor

namespace Go.Proofs.YtnbojbcljfiamaaGreatDoor
open Go.RowKit Go.Shelf

/-- 6 cells that are a block of their own. -/
def Six (w : World) (t : TypeId) (k : Nat) (a b c d e f : Value) : Prop := w.ownsRow k t 6 (.slice (some ⟨k, 0, none⟩) 1 1) 1 [a, b, c, d, e, f]
theorem Six.at (w : World) (a b c d e f : Value) (t : TypeId) {k : Nat} (hk : k = w.heap.size) : Six (w.alloc (.cells #[a, b, c, d, e, f] t)) t k a b c d e f := by
  subst hk
  exact ⟨rfl, .inr ⟨w.heap.size, 1, #[a, b, c, d, e, f], rfl, Nat.le_refl _, by show (w.heap.push _)[w.heap.size]? = _; rw [Array.getElem?_push_size], Nat.le_refl _, by unfold maxLen; omega, rfl, rfl⟩⟩
theorem Six.new (w : World) (a b c d e f : Value) (t : TypeId) : Six (w.alloc (.cells #[a, b, c, d, e, f] t)) t w.heap.size a b c d e f := Six.at w a b c d e f t rfl
theorem Six.below {w' : World} {w : World} {t : TypeId} {k : Nat} {a b c d e f : Value} (h : Six w t k a b c d e f) (hB : Below w.heap.size w w') : Six w' t k a b c d e f := ownsRow_below h hB
theorem Six.c {w : World} {t : TypeId} {k : Nat} {a b c d e f : Value} (h : Six w t k a b c d e f) : w.cell? ⟨k, 0, none⟩ = some a ∧ w.cell? ⟨k, 1, none⟩ = some b ∧ w.cell? ⟨k, 2, none⟩ = some c ∧ w.cell? ⟨k, 3, none⟩ = some d ∧ w.cell? ⟨k, 4, none⟩ = some e ∧ w.cell? ⟨k, 5, none⟩ = some f :=
  ⟨World.ownsRow.cellAt h 0 (by omega), World.ownsRow.cellAt h 1 (by omega), World.ownsRow.cellAt h 2 (by omega), World.ownsRow.cellAt h 3 (by omega), World.ownsRow.cellAt h 4 (by omega), World.ownsRow.cellAt h 5 (by omega)⟩
theorem Six.f {w : World} {t : TypeId} {k : Nat} {a b c d e f : Value} (h : Six w t k a b c d e f) (j : Nat) : w.frozen? ⟨k, j, none⟩ = false := World.ownsRow.frozenAt h j
theorem Six.s0 {w : World} {t : TypeId} {k : Nat} {a b c d e f : Value} (h : Six w t k a b c d e f) (x : Value) : Six (w.setCell ⟨k, 0, none⟩ x) t k x b c d e f := (World.ownsRow.stored h 0 x).1
theorem Six.s1 {w : World} {t : TypeId} {k : Nat} {a b c d e f : Value} (h : Six w t k a b c d e f) (x : Value) : Six (w.setCell ⟨k, 1, none⟩ x) t k a x c d e f := (World.ownsRow.stored h 1 x).1
theorem Six.s2 {w : World} {t : TypeId} {k : Nat} {a b c d e f : Value} (h : Six w t k a b c d e f) (x : Value) : Six (w.setCell ⟨k, 2, none⟩ x) t k a b x d e f := (World.ownsRow.stored h 2 x).1
theorem Six.s3 {w : World} {t : TypeId} {k : Nat} {a b c d e f : Value} (h : Six w t k a b c d e f) (x : Value) : Six (w.setCell ⟨k, 3, none⟩ x) t k a b c x e f := (World.ownsRow.stored h 3 x).1
theorem Six.s4 {w : World} {t : TypeId} {k : Nat} {a b c d e f : Value} (h : Six w t k a b c d e f) (x : Value) : Six (w.setCell ⟨k, 4, none⟩ x) t k a b c d x f := (World.ownsRow.stored h 4 x).1
theorem Six.s5 {w : World} {t : TypeId} {k : Nat} {a b c d e f : Value} (h : Six w t k a b c d e f) (x : Value) : Six (w.setCell ⟨k, 5, none⟩ x) t k a b c d e x := (World.ownsRow.stored h 5 x).1
theorem Six.other {w : World} {t : TypeId} {k : Nat} {a b c d e f : Value} (h : Six w t k a b c d e f) {k' : Nat} (hk : k ≠ k') (j : Nat) (x : Value) : Six (w.setCell ⟨k', j, none⟩ x) t k a b c d e f := ownsRow_setCell_other h (by simpa [Value.ownBlock] using hk) x
theorem Six.lt {w : World} {t : TypeId} {k : Nat} {a b c d e f : Value} (h : Six w t k a b c d e f) : k < w.heap.size := (World.ownsRow.lt h k rfl).2
theorem Mid.six {lo hi : Nat} {w1 : World} {w : World} {t : TypeId} {k : Nat} {a b c d e f : Value} (h : Mid lo hi w w1) (hr : Six w t k a b c d e f) (ho : k < lo ∨ hi ≤ k) : Six w1 t k a b c d e f :=
  h.row hr (fun j hj => by simp [Value.ownBlock] at hj; omega)
theorem row_six {w : World} {base : Nat} {e : TypeId} {size n : Nat} {v : Value} {xs : List Value} (h : w.ownsRow base e size v n xs) {k : Nat} (hk : k < base) (x0 x1 x2 x3 x4 x5 : Value) : ((((((w.setCell ⟨k, 0, none⟩ x0).setCell ⟨k, 1, none⟩ x1).setCell ⟨k, 2, none⟩ x2).setCell ⟨k, 3, none⟩ x3).setCell ⟨k, 4, none⟩ x4).setCell ⟨k, 5, none⟩ x5).ownsRow base e size v n xs :=
  (ownsRow_setCell_below (ownsRow_setCell_below (ownsRow_setCell_below (ownsRow_setCell_below (ownsRow_setCell_below (ownsRow_setCell_below h (a := ⟨k, 0, none⟩) hk x0) (a := ⟨k, 1, none⟩) hk x1) (a := ⟨k, 2, none⟩) hk x2) (a := ⟨k, 3, none⟩) hk x3) (a := ⟨k, 4, none⟩) hk x4) (a := ⟨k, 5, none⟩) hk x5)
theorem below_six {n k : Nat} {w W : World} (h : Below n w W) (hk : n ≤ k) (x0 x1 x2 x3 x4 x5 : Value) : Below n w ((((((W.setCell ⟨k, 0, none⟩ x0).setCell ⟨k, 1, none⟩ x1).setCell ⟨k, 2, none⟩ x2).setCell ⟨k, 3, none⟩ x3).setCell ⟨k, 4, none⟩ x4).setCell ⟨k, 5, none⟩ x5) :=
  ((((((h.setCell (p := ⟨k, 0, none⟩) hk x0).setCell (p := ⟨k, 1, none⟩) hk x1).setCell (p := ⟨k, 2, none⟩) hk x2).setCell (p := ⟨k, 3, none⟩) hk x3).setCell (p := ⟨k, 4, none⟩) hk x4).setCell (p := ⟨k, 5, none⟩) hk x5)

/-- 7 cells that are a block of their own. -/
def Seven (w : World) (t : TypeId) (k : Nat) (a b c d e f g : Value) : Prop := w.ownsRow k t 7 (.slice (some ⟨k, 0, none⟩) 1 1) 1 [a, b, c, d, e, f, g]
theorem Seven.at (w : World) (a b c d e f g : Value) (t : TypeId) {k : Nat} (hk : k = w.heap.size) : Seven (w.alloc (.cells #[a, b, c, d, e, f, g] t)) t k a b c d e f g := by
  subst hk
  exact ⟨rfl, .inr ⟨w.heap.size, 1, #[a, b, c, d, e, f, g], rfl, Nat.le_refl _, by show (w.heap.push _)[w.heap.size]? = _; rw [Array.getElem?_push_size], Nat.le_refl _, by unfold maxLen; omega, rfl, rfl⟩⟩
theorem Seven.new (w : World) (a b c d e f g : Value) (t : TypeId) : Seven (w.alloc (.cells #[a, b, c, d, e, f, g] t)) t w.heap.size a b c d e f g := Seven.at w a b c d e f g t rfl
theorem Seven.below {w' : World} {w : World} {t : TypeId} {k : Nat} {a b c d e f g : Value} (h : Seven w t k a b c d e f g) (hB : Below w.heap.size w w') : Seven w' t k a b c d e f g := ownsRow_below h hB
theorem Seven.c {w : World} {t : TypeId} {k : Nat} {a b c d e f g : Value} (h : Seven w t k a b c d e f g) : w.cell? ⟨k, 0, none⟩ = some a ∧ w.cell? ⟨k, 1, none⟩ = some b ∧ w.cell? ⟨k, 2, none⟩ = some c ∧ w.cell? ⟨k, 3, none⟩ = some d ∧ w.cell? ⟨k, 4, none⟩ = some e ∧ w.cell? ⟨k, 5, none⟩ = some f ∧ w.cell? ⟨k, 6, none⟩ = some g :=
  ⟨World.ownsRow.cellAt h 0 (by omega), World.ownsRow.cellAt h 1 (by omega), World.ownsRow.cellAt h 2 (by omega), World.ownsRow.cellAt h 3 (by omega), World.ownsRow.cellAt h 4 (by omega), World.ownsRow.cellAt h 5 (by omega), World.ownsRow.cellAt h 6 (by omega)⟩
theorem Seven.f {w : World} {t : TypeId} {k : Nat} {a b c d e f g : Value} (h : Seven w t k a b c d e f g) (j : Nat) : w.frozen? ⟨k, j, none⟩ = false := World.ownsRow.frozenAt h j
theorem Seven.s0 {w : World} {t : TypeId} {k : Nat} {a b c d e f g : Value} (h : Seven w t k a b c d e f g) (x : Value) : Seven (w.setCell ⟨k, 0, none⟩ x) t k x b c d e f g := (World.ownsRow.stored h 0 x).1
theorem Seven.s1 {w : World} {t : TypeId} {k : Nat} {a b c d e f g : Value} (h : Seven w t k a b c d e f g) (x : Value) : Seven (w.setCell ⟨k, 1, none⟩ x) t k a x c d e f g := (World.ownsRow.stored h 1 x).1
theorem Seven.s2 {w : World} {t : TypeId} {k : Nat} {a b c d e f g : Value} (h : Seven w t k a b c d e f g) (x : Value) : Seven (w.setCell ⟨k, 2, none⟩ x) t k a b x d e f g := (World.ownsRow.stored h 2 x).1
theorem Seven.s3 {w : World} {t : TypeId} {k : Nat} {a b c d e f g : Value} (h : Seven w t k a b c d e f g) (x : Value) : Seven (w.setCell ⟨k, 3, none⟩ x) t k a b c x e f g := (World.ownsRow.stored h 3 x).1
theorem Seven.s4 {w : World} {t : TypeId} {k : Nat} {a b c d e f g : Value} (h : Seven w t k a b c d e f g) (x : Value) : Seven (w.setCell ⟨k, 4, none⟩ x) t k a b c d x f g := (World.ownsRow.stored h 4 x).1
theorem Seven.s5 {w : World} {t : TypeId} {k : Nat} {a b c d e f g : Value} (h : Seven w t k a b c d e f g) (x : Value) : Seven (w.setCell ⟨k, 5, none⟩ x) t k a b c d e x g := (World.ownsRow.stored h 5 x).1
theorem Seven.s6 {w : World} {t : TypeId} {k : Nat} {a b c d e f g : Value} (h : Seven w t k a b c d e f g) (x : Value) : Seven (w.setCell ⟨k, 6, none⟩ x) t k a b c d e f x := (World.ownsRow.stored h 6 x).1
theorem Seven.other {w : World} {t : TypeId} {k : Nat} {a b c d e f g : Value} (h : Seven w t k a b c d e f g) {k' : Nat} (hk : k ≠ k') (j : Nat) (x : Value) : Seven (w.setCell ⟨k', j, none⟩ x) t k a b c d e f g := ownsRow_setCell_other h (by simpa [Value.ownBlock] using hk) x
theorem Seven.lt {w : World} {t : TypeId} {k : Nat} {a b c d e f g : Value} (h : Seven w t k a b c d e f g) : k < w.heap.size := (World.ownsRow.lt h k rfl).2
theorem Mid.seven {lo hi : Nat} {w1 : World} {w : World} {t : TypeId} {k : Nat} {a b c d e f g : Value} (h : Mid lo hi w w1) (hr : Seven w t k a b c d e f g) (ho : k < lo ∨ hi ≤ k) : Seven w1 t k a b c d e f g :=
  h.row hr (fun j hj => by simp [Value.ownBlock] at hj; omega)
theorem row_seven {w : World} {base : Nat} {e : TypeId} {size n : Nat} {v : Value} {xs : List Value} (h : w.ownsRow base e size v n xs) {k : Nat} (hk : k < base) (x0 x1 x2 x3 x4 x5 x6 : Value) : (((((((w.setCell ⟨k, 0, none⟩ x0).setCell ⟨k, 1, none⟩ x1).setCell ⟨k, 2, none⟩ x2).setCell ⟨k, 3, none⟩ x3).setCell ⟨k, 4, none⟩ x4).setCell ⟨k, 5, none⟩ x5).setCell ⟨k, 6, none⟩ x6).ownsRow base e size v n xs :=
  (ownsRow_setCell_below (ownsRow_setCell_below (ownsRow_setCell_below (ownsRow_setCell_below (ownsRow_setCell_below (ownsRow_setCell_below (ownsRow_setCell_below h (a := ⟨k, 0, none⟩) hk x0) (a := ⟨k, 1, none⟩) hk x1) (a := ⟨k, 2, none⟩) hk x2) (a := ⟨k, 3, none⟩) hk x3) (a := ⟨k, 4, none⟩) hk x4) (a := ⟨k, 5, none⟩) hk x5) (a := ⟨k, 6, none⟩) hk x6)
theorem below_seven {n k : Nat} {w W : World} (h : Below n w W) (hk : n ≤ k) (x0 x1 x2 x3 x4 x5 x6 : Value) : Below n w (((((((W.setCell ⟨k, 0, none⟩ x0).setCell ⟨k, 1, none⟩ x1).setCell ⟨k, 2, none⟩ x2).setCell ⟨k, 3, none⟩ x3).setCell ⟨k, 4, none⟩ x4).setCell ⟨k, 5, none⟩ x5).setCell ⟨k, 6, none⟩ x6) :=
  (((((((h.setCell (p := ⟨k, 0, none⟩) hk x0).setCell (p := ⟨k, 1, none⟩) hk x1).setCell (p := ⟨k, 2, none⟩) hk x2).setCell (p := ⟨k, 3, none⟩) hk x3).setCell (p := ⟨k, 4, none⟩) hk x4).setCell (p := ⟨k, 5, none⟩) hk x5).setCell (p := ⟨k, 6, none⟩) hk x6)

end Go.Proofs.YtnbojbcljfiamaaGreatDoor

namespace Go.Proofs.YtnbojbcljfiamaaGreatDoor
open Go.RowKit Go.Shelf

/-- A side. -/
structure Sd where
  fo : Sn
  co : Int
  ru : List Ru
  ha : List Bool
  se : List Int
def Sd.none : Sd := ⟨Sn.none, 0, [], [], []⟩
def SdA (w : World) (v : Value) (s : Sd) : Prop := ∃ vp vr vu vh vs, v = .agg #[.int .i64 s.fo.num, vp, vr, .int .i64 s.co, vu, vh, vs] ∧ RuS w vp s.fo.pol ∧ VS w vr (nums s.fo.rv) ∧ RuS w vu s.ru ∧ VS w vh (bls s.ha) ∧ VS w vs (nums s.se)
def SdR (w : World) (v : Value) (s : Sd) : Prop := ∃ vp vr vu vh vs, v = .agg #[.int .i64 s.fo.num, vp, vr, .int .i64 s.co, vu, vh, vs] ∧ RuR w vp s.fo.pol ∧ NuR w vr s.fo.rv ∧ RuR w vu s.ru ∧ BoR w vh s.ha ∧ NuR w vs s.se
/-- .. of one's own: the version's lists lie in blocks from base on, below m, the others from m on, below top. -/
def SdO (w : World) (base top : Nat) (v : Value) (s : Sd) : Prop :=
  ∃ m vp vr vu vh vs, v = .agg #[.int .i64 s.fo.num, vp, vr, .int .i64 s.co, vu, vh, vs] ∧ base ≤ m ∧ m ≤ top ∧ SnO w base m (.agg #[.int .i64 s.fo.num, vp, vr]) s.fo ∧ w.ownsRow m 122 4 vu s.ru.length (s.ru.flatMap Ru.cells) ∧ w.ownsRow m 4 1 vh s.ha.length (bls s.ha) ∧ w.ownsRow m 3 1 vs s.se.length (nums s.se) ∧ (∀ k, vu.ownBlock = some k → k < top) ∧ (∀ k, vh.ownBlock = some k → k < top) ∧ ∀ k, vs.ownBlock = some k → k < top
theorem SdA.below {w w' : World} {v : Value} {s : Sd} (h : SdA w v s) (hB : Below w.heap.size w w') : SdA w' v s := by
  obtain ⟨vp, vr, vu, vh, vs, rfl, h1, h2, h3, h4, h5⟩ := h
  exact ⟨_, _, _, _, _, rfl, h1.below hB, h2.below hB, h3.below hB, h4.below hB, h5.below hB⟩
theorem SdR.below {w w' : World} {v : Value} {s : Sd} (h : SdR w v s) (hB : Below w.heap.size w w') : SdR w' v s := by
  obtain ⟨vp, vr, vu, vh, vs, rfl, h1, h2, h3, h4, h5⟩ := h
  exact ⟨_, _, _, _, _, rfl, h1.below hB, h2.below hB, h3.below hB, h4.below hB, h5.below hB⟩
theorem SdO.below {w w' : World} {base top : Nat} {v : Value} {s : Sd} (h : SdO w base top v s) (hB : Below w.heap.size w w') : SdO w' base top v s := by
  obtain ⟨m, vp, vr, vu, vh, vs, rfl, hm, ht, h1, h3, h4, h5, t⟩ := h
  exact ⟨m, vp, vr, vu, vh, vs, rfl, hm, ht, h1.below hB, ownsRow_below h3 hB, ownsRow_below h4 hB, ownsRow_below h5 hB, t⟩
theorem SdR.a {w : World} {v : Value} {s : Sd} (h : SdR w v s) : SdA w v s := by
  obtain ⟨vp, vr, vu, vh, vs, rfl, h1, h2, h3, h4, h5⟩ := h
  exact ⟨_, _, _, _, _, rfl, h1.s, h2.s, h3.s, h4.s, h5.s⟩
theorem SdO.r {w : World} {base top : Nat} {v : Value} {s : Sd} (h : SdO w base top v s) : SdR w v s := by
  obtain ⟨m, vp, vr, vu, vh, vs, rfl, hm, ht, ⟨vp', vr', e, h1, h2, _, _⟩, h3, h4, h5, t⟩ := h
  cases e
  exact ⟨_, _, _, _, _, rfl, RuR.own h1, NuR.own h2, RuR.own h3, BoR.own h4, NuR.own h5⟩
theorem SdO.a {w : World} {base top : Nat} {v : Value} {s : Sd} (h : SdO w base top v s) : SdA w v s := h.r.a
theorem SdR.fo {w : World} {vp vr vu vh vs : Value} {s : Sd} (h : SdR w (.agg #[.int .i64 s.fo.num, vp, vr, .int .i64 s.co, vu, vh, vs]) s) : SnR w (.agg #[.int .i64 s.fo.num, vp, vr]) s.fo := by
  obtain ⟨_, _, _, _, _, e, h1, h2, _⟩ := h
  cases e
  exact ⟨_, _, rfl, h1, h2⟩
theorem SdO.mono {w : World} {base base' top top' : Nat} {v : Value} {s : Sd} (h : SdO w base top v s) (hb : base' ≤ base) (ht : top ≤ top') : SdO w base' top' v s := by
  obtain ⟨m, vp, vr, vu, vh, vs, rfl, hm, hmt, h1, h3, h4, h5, t1, t2, t3⟩ := h
  exact ⟨m, vp, vr, vu, vh, vs, rfl, by omega, by omega, h1.mono hb (Nat.le_refl _), h3, h4, h5, fun k hk => Nat.lt_of_lt_of_le (t1 k hk) ht, fun k hk => Nat.lt_of_lt_of_le (t2 k hk) ht, fun k hk => Nat.lt_of_lt_of_le (t3 k hk) ht⟩
theorem Mid.sdo {lo hi : Nat} {w w1 : World} (h : Mid lo hi w w1) {base top : Nat} {v : Value} {s : Sd} (hr : SdO w base top v s) (ho : hi ≤ base ∨ top ≤ lo) : SdO w1 base top v s := by
  obtain ⟨m, vp, vr, vu, vh, vs, rfl, hm, hmt, h1, h3, h4, h5, t1, t2, t3⟩ := hr
  exact ⟨m, vp, vr, vu, vh, vs, rfl, hm, hmt, h.sno h1 (by omega), h.row h3 (fun k hk => by have := h3.lt k hk; have := t1 k hk; omega), h.row h4 (fun k hk => by have := h4.lt k hk; have := t2 k hk; omega), h.row h5 (fun k hk => by have := h5.lt k hk; have := t3 k hk; omega), t1, t2, t3⟩
theorem SdO.none (w : World) (base top : Nat) (h : base ≤ top) : SdO w base top (.agg #[.int .i64 0, .slice none 0 0, .slice none 0 0, .int .i64 0, .slice none 0 0, .slice none 0 0, .slice none 0 0]) Sd.none :=
  ⟨base, _, _, _, _, _, rfl, Nat.le_refl _, h, ⟨_, _, rfl, World.ownsRow_nil _ _ _ _, World.ownsRow_nil _ _ _ _, fun _ h => by simp [Value.ownBlock] at h, fun _ h => by simp [Value.ownBlock] at h⟩, World.ownsRow_nil _ _ _ _, World.ownsRow_nil _ _ _ _, World.ownsRow_nil _ _ _ _, fun _ h => by simp [Value.ownBlock] at h, fun _ h => by simp [Value.ownBlock] at h, fun _ h => by simp [Value.ownBlock] at h⟩
def Sd.fits (s : Sd) : Prop := s.fo.fits ∧ s.ru.length ≤ maxLen ∧ (∀ r ∈ s.ru, r.fits) ∧ s.ha.length ≤ maxLen ∧ s.se.length ≤ maxLen
def Sd.size (s : Sd) : Nat := s.fo.size + szAll s.ru + s.ha.length + s.se.length
def leftSd (n : Int) (s : Sd) : Int := if (s.size : Int) ≤ n then n - s.size else -1
def Sd.short (s : Sd) : Prop := s.fo.short ∧ s.ru.length ≤ 1048576 ∧ s.ha.length ≤ 1048576 ∧ s.se.length ≤ 1048576 ∧ ∀ r ∈ s.ru, r.size ≤ 1048576
theorem Sd.short_of {s : Sd} (h : s.size ≤ 1048576) : s.short := by
  unfold Sd.size szAll at h
  exact ⟨Sn.short_of (by omega), by omega, by omega, by omega, fun r hr => by have := sz_mem hr; omega⟩
theorem sd_forms {w : World} {v : Value} {s : Sd} (h : SdA w v s) : ∃ ap cp ar cr au cu ah ch as' cs, v = .agg #[.int .i64 s.fo.num, .slice ap s.fo.pol.length cp, .slice ar s.fo.rv.length cr, .int .i64 s.co, .slice au s.ru.length cu, .slice ah s.ha.length ch, .slice as' s.se.length cs] := by
  obtain ⟨vp, vr, vu, vh, vs, rfl, h1, h2, h3, h4, h5⟩ := h
  obtain ⟨a1, c1, rfl⟩ := h1.len
  obtain ⟨a2, c2, rfl⟩ := h2.numLen
  obtain ⟨a3, c3, rfl⟩ := h3.len
  obtain ⟨a4, c4, rfl⟩ := h4.bolLen
  obtain ⟨a5, c5, rfl⟩ := h5.numLen
  exact ⟨_, _, _, _, _, _, _, _, _, _, rfl⟩

set_option maxRecDepth 100000 in
theorem cellsSide : Tryz.prog.cellsOf 28 = 7 := by kernel_rfl
set_option maxRecDepth 100000 in
open Go.Deep Go.ChangeShapes Go.WideShapes Go.ChangeAt Go.Joins in
/-- A side that comes in. -/
theorem openSd {H : Type} {enc : TypeId × Value → H} {W : World} {base : Nat} {v : Value} {y : DataW H} {p : List MemPlace} (hv : Value.okWide Tryz.prog W .any base 28 v) (h : DataW.Trod enc Tryz.prog W 0 (fun _ => true) true 28 v y p) :
    ∃ s : Sd, SdA W v s ∧ s.fits := by
  obtain ⟨cs, rfl, hsz⟩ := okWide_struct Tryz.underlying28 hv
  rw [cellsSide] at hsz
  obtain ⟨l⟩ := cs
  obtain ⟨c0, c1, c2, c3, c4, c5, c6, rfl⟩ : ∃ c0 c1 c2 c3 c4 c5 c6, l = [c0, c1, c2, c3, c4, c5, c6] := by
    match l, hsz with
    | [c0, c1, c2, c3, c4, c5, c6], _ => exact ⟨c0, c1, c2, c3, c4, c5, c6, rfl⟩
  obtain ⟨fuel, hf⟩ := h
  obtain ⟨xs, n, _, _, _, hlen, hfs⟩ := DataW.trod_struct Tryz.underlying28 hf
  obtain ⟨y0, y1, y2, y3, y4, rfl⟩ : ∃ y0 y1 y2 y3 y4, xs = [y0, y1, y2, y3, y4] := by
    match xs, hlen with
    | [y0, y1, y2, y3, y4], _ => exact ⟨y0, y1, y2, y3, y4, rfl⟩
  have ci : Tryz.prog.cellsOf 3 = 1 := by kernel_rfl
  have cr : Tryz.prog.cellsOf 22 = 1 := by kernel_rfl
  have cb : Tryz.prog.cellsOf 26 = 1 := by kernel_rfl
  have cn : Tryz.prog.cellsOf 23 = 1 := by kernel_rfl
  have h0 : DataW.trod enc Tryz.prog W 0 (fun _ => true) true n 25 [c0, c1, c2] = some y0 := by have := hfs 0 _ rfl; simpa [Value.cells, cellsSnapshot] using this
  have h1 : DataW.trod enc Tryz.prog W 0 (fun _ => true) true n 3 [c3] = some y1 := by have := hfs 1 _ rfl; simpa [Value.cells, ci] using this
  have h2 : DataW.trod enc Tryz.prog W 0 (fun _ => true) true n 22 [c4] = some y2 := by have := hfs 2 _ rfl; simpa [Value.cells, cr] using this
  have h3 : DataW.trod enc Tryz.prog W 0 (fun _ => true) true n 26 [c5] = some y3 := by have := hfs 3 _ rfl; simpa [Value.cells, cb] using this
  have h4 : DataW.trod enc Tryz.prog W 0 (fun _ => true) true n 23 [c6] = some y4 := by have := hfs 4 _ rfl; simpa [Value.cells, cn] using this
  obtain ⟨zs, n', _, _, _, hlen', hgs⟩ := DataW.trod_struct Tryz.underlying25 h0
  obtain ⟨z0, z1, z2, rfl⟩ : ∃ z0 z1 z2, zs = [z0, z1, z2] := by
    match zs, hlen' with
    | [z0, z1, z2], _ => exact ⟨z0, z1, z2, rfl⟩
  have g0 : DataW.trod enc Tryz.prog W 0 (fun _ => true) true n' 3 [c0] = some z0 := by have := hgs 0 _ rfl; simpa [Value.cells, ci] using this
  have g1 : DataW.trod enc Tryz.prog W 0 (fun _ => true) true n' 22 [c1] = some z1 := by have := hgs 1 _ rfl; simpa [Value.cells, cr] using this
  have g2 : DataW.trod enc Tryz.prog W 0 (fun _ => true) true n' 23 [c2] = some z2 := by have := hgs 2 _ rfl; simpa [Value.cells, cn] using this
  obtain ⟨x0, e0, _, _⟩ := DataW.trod_int Tryz.underlying3 g0
  obtain ⟨a1, n1, k1, rs, rfl, r1, rfl, l1, f1⟩ := openRuR g1
  obtain ⟨a2, n2, k2, rv, rfl, r2, rfl, l2⟩ := openInR g2
  obtain ⟨x3, e3, _, _⟩ := DataW.trod_int Tryz.underlying3 h1
  obtain ⟨a4, n4, k4, ru, rfl, r4, rfl, l4, f4⟩ := openRuR h2
  obtain ⟨a5, n5, k5, ha, rfl, r5, rfl, l5⟩ := openBoR h3
  obtain ⟨a6, n6, k6, se, rfl, r6, rfl, l6⟩ := openInR h4
  simp only [List.cons.injEq, and_true] at e0 e3
  subst e0 e3
  exact ⟨⟨⟨x0, rs, rv⟩, x3, ru, ha, se⟩, ⟨_, _, _, _, _, rfl, r1, r2, r4, r5, r6⟩, ⟨l1, f1, l2⟩, l4, f4, l5, l6⟩

set_option maxHeartbeats 2000000 in
theorem szSide_any (v : Value) (s : Sd) (n : Int) (w : World) (h0 : 0 ≤ n) (hn : n ≤ 1048576) (hf : s.fits) (h : SdA w v s) :
    Calls Tryz.prog 5 #[v, .int .i64 n] w fun e w' => e = .returned (.int .i64 (leftSd n s)) ∧ Below w.heap.size w w' := by
  obtain ⟨vp, vr, vu, vh, vs, rfl, h1, h2, h3, h4, h5⟩ := h
  obtain ⟨fs, l3, f3, l4, l5⟩ := hf
  have hS0 : SnA w (.agg #[.int .i64 s.fo.num, vp, vr]) s.fo := ⟨_, _, rfl, h1, h2⟩
  have hB0 : Below w.heap.size w (w.alloc (.cells #[.int .i64 s.fo.num, vp, vr, .int .i64 s.co, vu, vh, vs] 28)) := (Below.refl _ w).alloc (Nat.le_refl _) _
  have F1 := Seven.new w (.int .i64 s.fo.num) vp vr (.int .i64 s.co) vu vh vs 28
  have HI := hid (show leftSd n s = if (s.size : Int) ≤ n then n - (s.size : Int) else (-1 : Int) from rfl)
  have HZ := hid (show s.size = s.fo.size + szAll s.ru + s.ha.length + s.se.length from rfl)
  obtain ⟨N0, HN0⟩ : ∃ N : Nat, Hid (N = s.fo.size) := ⟨_, hid rfl⟩
  obtain ⟨N1, HN1⟩ : ∃ N : Nat, Hid (N = szAll s.ru) := ⟨_, hid rfl⟩
  go_enter Tryz.func5, Tryz.ntmps5
  go_wp2_with fail
  generalize w.alloc (.cells #[.int .i64 s.fo.num, vp, vr, .int .i64 s.co, vu, vh, vs] 28) = W0 at *
  refine (szSnapshot_any (.agg #[.int .i64 s.fo.num, vp, vr]) s.fo (n) _ (by omega) (by omega) fs (SnA.below hS0 hB0)).mono ?_
  rintro e w1 ⟨rfl, hB1⟩
  replace F1 := F1.below hB1
  replace hB0 := below_one hB0 hB1
  clear hB1
  obtain ⟨a0, a1, a2, a3, a4, a5, a6⟩ := F1.c
  by_cases c0 : (N0 : Int) ≤ n
  · rw [show leftV (n) s.fo = n - (N0 : Int) from by unfold leftV; rw [← HN0.out]; exact if_pos c0]
    have d0 : decide (n - (N0 : Int) < 0) = false := by simp; omega
    go_wp2_with fail
    refine (szRuleS_any vu s.ru (n - (N0 : Int)) _ (by omega) (by omega) l3 f3 (h3.below hB0)).mono ?_
    rintro e w2 ⟨rfl, hB2⟩
    replace F1 := F1.below hB2
    replace hB0 := below_one hB0 hB2
    clear hB2
    clear a0 a1 a2 a3 a4 a5 a6
    obtain ⟨a0, a1, a2, a3, a4, a5, a6⟩ := F1.c
    by_cases c1 : (N1 : Int) ≤ n - (N0 : Int)
    · rw [show leftS (n - (N0 : Int)) s.ru = n - (N0 : Int) - (N1 : Int) from by unfold leftS; rw [← HN1.out]; exact if_pos c1]
      have d1 : decide (n - (N0 : Int) - (N1 : Int) < 0) = false := by simp; omega
      go_wp2_with fail
      refine (szBoolS_any vh s.ha (n - (N0 : Int) - (N1 : Int)) _ (by omega) (by omega) l4 (h4.below hB0)).mono ?_
      rintro e w3 ⟨rfl, hB3⟩
      replace F1 := F1.below hB3
      replace hB0 := below_one hB0 hB3
      clear hB3
      clear a0 a1 a2 a3 a4 a5 a6
      obtain ⟨a0, a1, a2, a3, a4, a5, a6⟩ := F1.c
      by_cases c2 : (s.ha.length : Int) ≤ n - (N0 : Int) - (N1 : Int)
      · rw [show left1 (n - (N0 : Int) - (N1 : Int)) s.ha.length = n - (N0 : Int) - (N1 : Int) - (s.ha.length : Int) from if_pos c2]
        have d2 : decide (n - (N0 : Int) - (N1 : Int) - (s.ha.length : Int) < 0) = false := by simp; omega
        go_wp2_with fail
        refine (szIntS_any vs s.se (n - (N0 : Int) - (N1 : Int) - (s.ha.length : Int)) _ (by omega) (by omega) l5 (h5.below hB0)).mono ?_
        rintro e w4 ⟨rfl, hB4⟩
        replace F1 := F1.below hB4
        replace hB0 := below_one hB0 hB4
        clear hB4
        clear a0 a1 a2 a3 a4 a5 a6
        obtain ⟨a0, a1, a2, a3, a4, a5, a6⟩ := F1.c
        by_cases c3 : (s.se.length : Int) ≤ n - (N0 : Int) - (N1 : Int) - (s.ha.length : Int)
        · rw [show left1 (n - (N0 : Int) - (N1 : Int) - (s.ha.length : Int)) s.se.length = n - (N0 : Int) - (N1 : Int) - (s.ha.length : Int) - (s.se.length : Int) from if_pos c3]
          have d3 : decide (n - (N0 : Int) - (N1 : Int) - (s.ha.length : Int) - (s.se.length : Int) < 0) = false := by simp; omega
          have HR := hid (show leftSd n s = n - (N0 : Int) - (N1 : Int) - (s.ha.length : Int) - (s.se.length : Int) by rw [HI.out, if_pos (by rw [HZ.out, ← HN0.out, ← HN1.out]; push_cast; omega), HZ.out, ← HN0.out, ← HN1.out]; push_cast; omega)
          go_wp2_with fail
          go_ret
          exact ⟨ret_int HR.out.symm, hB0⟩
        · rw [show left1 (n - (N0 : Int) - (N1 : Int) - (s.ha.length : Int)) s.se.length = -1 from if_neg c3]
          have HR := hid (show leftSd n s = -1 by rw [HI.out, if_neg (by rw [HZ.out, ← HN0.out, ← HN1.out]; push_cast; omega)])
          go_wp2_with fail
          go_ret
          exact ⟨ret_int HR.out.symm, hB0⟩
      · rw [show left1 (n - (N0 : Int) - (N1 : Int)) s.ha.length = -1 from if_neg c2]
        have HR := hid (show leftSd n s = -1 by rw [HI.out, if_neg (by rw [HZ.out, ← HN0.out, ← HN1.out]; push_cast; omega)])
        go_wp2_with fail
        go_ret
        exact ⟨ret_int HR.out.symm, hB0⟩
    · rw [show leftS (n - (N0 : Int)) s.ru = -1 from by unfold leftS; rw [← HN1.out]; exact if_neg c1]
      have HR := hid (show leftSd n s = -1 by rw [HI.out, if_neg (by rw [HZ.out, ← HN0.out, ← HN1.out]; push_cast; omega)])
      go_wp2_with fail
      go_ret
      exact ⟨ret_int HR.out.symm, hB0⟩
  · rw [show leftV (n) s.fo = -1 from by unfold leftV; rw [← HN0.out]; exact if_neg c0]
    have HR := hid (show leftSd n s = -1 by rw [HI.out, if_neg (by rw [HZ.out, ← HN0.out, ← HN1.out]; push_cast; omega)])
    go_wp2_with fail
    go_ret
    exact ⟨ret_int HR.out.symm, hB0⟩

set_option maxHeartbeats 2000000 in
/-- A side is like itself, wherever the two lie. -/
theorem eqSide_same (v v' : Value) (s : Sd) (w : World) (hs : s.short) (h : SdA w v s) (h' : SdA w v' s) :
    Calls Tryz.prog 13 #[v, v'] w fun e w' => e = .returned (.bool true) ∧ Below w.heap.size w w' := by
  obtain ⟨vp, vr, vu, vh, vs, rfl, h1, h2, h3, h4, h5⟩ := h
  obtain ⟨vp', vr', vu', vh', vs', rfl, h1', h2', h3', h4', h5'⟩ := h'
  obtain ⟨hf, l3, l4, l5, _⟩ := hs
  have hS : SnA w (.agg #[.int .i64 s.fo.num, vp, vr]) s.fo := ⟨_, _, rfl, h1, h2⟩
  have hS' : SnA w (.agg #[.int .i64 s.fo.num, vp', vr']) s.fo := ⟨_, _, rfl, h1', h2'⟩
  have hB0 : Below w.heap.size w ((w.alloc (.cells #[.int .i64 s.fo.num, vp, vr, .int .i64 s.co, vu, vh, vs] 42)).alloc (.cells #[.int .i64 s.fo.num, vp', vr', .int .i64 s.co, vu', vh', vs'] 42)) := ((Below.refl _ w).alloc (Nat.le_refl _) _).alloc (by simp) _
  have F1 := (Seven.new w (.int .i64 s.fo.num) vp vr (.int .i64 s.co) vu vh vs 42).below ((Below.refl _ _).alloc (Nat.le_refl _) (.cells #[.int .i64 s.fo.num, vp', vr', .int .i64 s.co, vu', vh', vs'] 42))
  have F2 := Seven.at (w.alloc (.cells #[.int .i64 s.fo.num, vp, vr, .int .i64 s.co, vu, vh, vs] 42)) (.int .i64 s.fo.num) vp' vr' (.int .i64 s.co) vu' vh' vs' 42 (k := w.heap.size + 1) (by simp)
  have e1 : (s.co != s.co) = false := by simp
  go_enter Tryz.func13, Tryz.ntmps13
  go_wp2_with fail
  generalize (w.alloc (.cells #[.int .i64 s.fo.num, vp, vr, .int .i64 s.co, vu, vh, vs] 42)).alloc (.cells #[.int .i64 s.fo.num, vp', vr', .int .i64 s.co, vu', vh', vs'] 42) = W0 at *
  refine (eqSnapshot_same _ _ s.fo _ hf (hS.below hB0) (hS'.below hB0)).mono ?_
  rintro e w1 ⟨rfl, hB1⟩
  replace F1 := F1.below hB1
  replace F2 := F2.below hB1
  replace hB0 := below_one hB0 hB1
  clear hB1
  obtain ⟨a0, a1, a2, a3, a4, a5, a6⟩ := F1.c
  obtain ⟨c0, c1, c2, c3, c4, c5, c6⟩ := F2.c
  go_wp2_with fail
  refine (eqRuleS_any vu vu' s.ru s.ru _ (by omega) (by omega) (h3.below hB0) (h3'.below hB0)).mono ?_
  rintro e w2 ⟨rfl, hB2⟩
  rw [sameS_refl]
  clear a0 a1 a2 a3 a4 a5 a6 c0 c1 c2 c3 c4 c5 c6
  replace F1 := F1.below hB2
  replace F2 := F2.below hB2
  replace hB0 := below_one hB0 hB2
  clear hB2
  obtain ⟨a0, a1, a2, a3, a4, a5, a6⟩ := F1.c
  obtain ⟨c0, c1, c2, c3, c4, c5, c6⟩ := F2.c
  go_wp2_with fail
  refine (eqBoolS_same vh vh' s.ha _ (by omega) (h4.below hB0) (h4'.below hB0)).mono ?_
  rintro e w3 ⟨rfl, hB3⟩
  clear a0 a1 a2 a3 a4 a5 a6 c0 c1 c2 c3 c4 c5 c6
  replace F1 := F1.below hB3
  replace F2 := F2.below hB3
  replace hB0 := below_one hB0 hB3
  clear hB3
  obtain ⟨a0, a1, a2, a3, a4, a5, a6⟩ := F1.c
  obtain ⟨c0, c1, c2, c3, c4, c5, c6⟩ := F2.c
  go_wp2_with fail
  refine (eqIntS_same vs vs' s.se _ (by omega) (h5.below hB0) (h5'.below hB0)).mono ?_
  rintro e w4 ⟨rfl, hB4⟩
  replace hB0 := below_one hB0 hB4
  go_wp2_with fail
  go_ret
  exact ⟨rfl, hB0⟩

set_option maxHeartbeats 8000000 in
set_option maxRecDepth 100000 in
theorem toSide_any (v : Value) (s : Sd) (w : World) (hs : s.short) (h : SdA w v s) :
    Calls Tryz.prog 9 #[v] w fun e w' => ∃ v', e = .returned v' ∧ SdO w' w.heap.size w'.heap.size v' s ∧ Below w.heap.size w w' := by
  obtain ⟨vp, vr, vu, vh, vs, rfl, h1, h2, h3, h4, h5⟩ := h
  obtain ⟨hf, l3, l4, l5, _⟩ := hs
  have hS : SnA w (.agg #[.int .i64 s.fo.num, vp, vr]) s.fo := ⟨_, _, rfl, h1, h2⟩
  have hB0 : Below w.heap.size w (((w.alloc (.cells #[.int .i64 s.fo.num, vp, vr, .int .i64 s.co, vu, vh, vs] 28)).alloc (.cells #[.int .i64 0, .slice none 0 0, .slice none 0 0, .int .i64 0, .slice none 0 0, .slice none 0 0, .slice none 0 0] 42)).alloc (.cells #[.int .i64 0, .slice none 0 0, .slice none 0 0, .int .i64 0, .slice none 0 0, .slice none 0 0, .slice none 0 0] 42)) := (((Below.refl _ w).alloc (Nat.le_refl _) _).alloc (by simp) _).alloc (by simp; omega) _
  have F1 := ((Seven.new w (.int .i64 s.fo.num) vp vr (.int .i64 s.co) vu vh vs 28).below ((Below.refl _ _).alloc (Nat.le_refl _) (.cells #[.int .i64 0, .slice none 0 0, .slice none 0 0, .int .i64 0, .slice none 0 0, .slice none 0 0, .slice none 0 0] 42))).below ((Below.refl _ _).alloc (Nat.le_refl _) (.cells #[.int .i64 0, .slice none 0 0, .slice none 0 0, .int .i64 0, .slice none 0 0, .slice none 0 0, .slice none 0 0] 42))
  have F2 := (Seven.at (w.alloc (.cells #[.int .i64 s.fo.num, vp, vr, .int .i64 s.co, vu, vh, vs] 28)) (.int .i64 0) (.slice none 0 0) (.slice none 0 0) (.int .i64 0) (.slice none 0 0) (.slice none 0 0) (.slice none 0 0) 42 (k := w.heap.size + 1) (by simp)).below ((Below.refl _ _).alloc (Nat.le_refl _) (.cells #[.int .i64 0, .slice none 0 0, .slice none 0 0, .int .i64 0, .slice none 0 0, .slice none 0 0, .slice none 0 0] 42))
  have F3 := Seven.at ((w.alloc (.cells #[.int .i64 s.fo.num, vp, vr, .int .i64 s.co, vu, vh, vs] 28)).alloc (.cells #[.int .i64 0, .slice none 0 0, .slice none 0 0, .int .i64 0, .slice none 0 0, .slice none 0 0, .slice none 0 0] 42)) (.int .i64 0) (.slice none 0 0) (.slice none 0 0) (.int .i64 0) (.slice none 0 0) (.slice none 0 0) (.slice none 0 0) 42 (k := w.heap.size + 1 + 1) (by simp)
  have hK : w.heap.size + 1 + 1 < (((w.alloc (.cells #[.int .i64 s.fo.num, vp, vr, .int .i64 s.co, vu, vh, vs] 28)).alloc (.cells #[.int .i64 0, .slice none 0 0, .slice none 0 0, .int .i64 0, .slice none 0 0, .slice none 0 0, .slice none 0 0] 42)).alloc (.cells #[.int .i64 0, .slice none 0 0, .slice none 0 0, .int .i64 0, .slice none 0 0, .slice none 0 0, .slice none 0 0] 42)).heap.size := F3.lt
  go_enter Tryz.func9, Tryz.ntmps9
  go_wp2_with fail
  generalize ((w.alloc (.cells #[.int .i64 s.fo.num, vp, vr, .int .i64 s.co, vu, vh, vs] 28)).alloc (.cells #[.int .i64 0, .slice none 0 0, .slice none 0 0, .int .i64 0, .slice none 0 0, .slice none 0 0, .slice none 0 0] 42)).alloc (.cells #[.int .i64 0, .slice none 0 0, .slice none 0 0, .int .i64 0, .slice none 0 0, .slice none 0 0, .slice none 0 0] 42) = W0 at *
  refine (toSnapshot_any _ s.fo _ hf (hS.below hB0)).mono ?_
  rintro e w1 ⟨v1, rfl, O1, hB1⟩
  obtain ⟨x1, z1, x2, z2, rfl⟩ := sn_forms O1.a
  obtain ⟨_, _, ee, o1, o2, t1, t2⟩ := O1
  cases ee
  replace F1 := F1.below hB1
  replace F2 := F2.below hB1
  replace F3 := F3.below hB1
  replace hB0 := below_one hB0 hB1
  have hs1 := hB1.size
  clear hB1
  obtain ⟨a0, a1, a2, a3, a4, a5, a6⟩ := F1.c
  obtain ⟨c0, c1, c2, c3, c4, c5, c6⟩ := F3.c
  have f0 := F3.f 0
  have f1 := F3.f 1
  have f2 := F3.f 2
  have f3 := F3.f 3
  go_wp2_with fail
  clear a0 a1 a2 a3 a4 a5 a6 c0 c1 c2 c3 c4 c5 c6 f0 f1 f2 f3
  replace F1 := ((((F1.other (k' := w.heap.size + 1 + 1) (by omega) 0 (.int .i64 s.fo.num)).other (k' := w.heap.size + 1 + 1) (by omega) 1 (.slice x1 s.fo.pol.length z1)).other (k' := w.heap.size + 1 + 1) (by omega) 2 (.slice x2 s.fo.rv.length z2)).other (k' := w.heap.size + 1 + 1) (by omega) 3 (.int .i64 s.co))
  replace F2 := ((((F2.other (k' := w.heap.size + 1 + 1) (by omega) 0 (.int .i64 s.fo.num)).other (k' := w.heap.size + 1 + 1) (by omega) 1 (.slice x1 s.fo.pol.length z1)).other (k' := w.heap.size + 1 + 1) (by omega) 2 (.slice x2 s.fo.rv.length z2)).other (k' := w.heap.size + 1 + 1) (by omega) 3 (.int .i64 s.co))
  replace F3 := ((((F3.s0 (.int .i64 s.fo.num)).s1 (.slice x1 s.fo.pol.length z1)).s2 (.slice x2 s.fo.rv.length z2)).s3 (.int .i64 s.co))
  replace hB0 := ((((hB0.setCell (p := ⟨w.heap.size + 1 + 1, 0, none⟩) (by simp; omega) (.int .i64 s.fo.num)).setCell (p := ⟨w.heap.size + 1 + 1, 1, none⟩) (by simp; omega) (.slice x1 s.fo.pol.length z1)).setCell (p := ⟨w.heap.size + 1 + 1, 2, none⟩) (by simp; omega) (.slice x2 s.fo.rv.length z2)).setCell (p := ⟨w.heap.size + 1 + 1, 3, none⟩) (by simp; omega) (.int .i64 s.co))
  replace o1 := (ownsRow_setCell_below (ownsRow_setCell_below (ownsRow_setCell_below (ownsRow_setCell_below o1 (a := ⟨w.heap.size + 1 + 1, 0, none⟩) (by simp; omega) (.int .i64 s.fo.num)) (a := ⟨w.heap.size + 1 + 1, 1, none⟩) (by simp; omega) (.slice x1 s.fo.pol.length z1)) (a := ⟨w.heap.size + 1 + 1, 2, none⟩) (by simp; omega) (.slice x2 s.fo.rv.length z2)) (a := ⟨w.heap.size + 1 + 1, 3, none⟩) (by simp; omega) (.int .i64 s.co))
  replace o2 := (ownsRow_setCell_below (ownsRow_setCell_below (ownsRow_setCell_below (ownsRow_setCell_below o2 (a := ⟨w.heap.size + 1 + 1, 0, none⟩) (by simp; omega) (.int .i64 s.fo.num)) (a := ⟨w.heap.size + 1 + 1, 1, none⟩) (by simp; omega) (.slice x1 s.fo.pol.length z1)) (a := ⟨w.heap.size + 1 + 1, 2, none⟩) (by simp; omega) (.slice x2 s.fo.rv.length z2)) (a := ⟨w.heap.size + 1 + 1, 3, none⟩) (by simp; omega) (.int .i64 s.co))
  have hq1 : w1.heap.size ≤ ((((w1.setCell ⟨w.heap.size + 1 + 1, 0, none⟩ (.int .i64 s.fo.num)).setCell ⟨w.heap.size + 1 + 1, 1, none⟩ (.slice x1 s.fo.pol.length z1)).setCell ⟨w.heap.size + 1 + 1, 2, none⟩ (.slice x2 s.fo.rv.length z2)).setCell ⟨w.heap.size + 1 + 1, 3, none⟩ (.int .i64 s.co)).heap.size := by simp
  have hp1 : ((((w1.setCell ⟨w.heap.size + 1 + 1, 0, none⟩ (.int .i64 s.fo.num)).setCell ⟨w.heap.size + 1 + 1, 1, none⟩ (.slice x1 s.fo.pol.length z1)).setCell ⟨w.heap.size + 1 + 1, 2, none⟩ (.slice x2 s.fo.rv.length z2)).setCell ⟨w.heap.size + 1 + 1, 3, none⟩ (.int .i64 s.co)).heap.size ≤ w1.heap.size := by simp
  generalize (((w1.setCell ⟨w.heap.size + 1 + 1, 0, none⟩ (.int .i64 s.fo.num)).setCell ⟨w.heap.size + 1 + 1, 1, none⟩ (.slice x1 s.fo.pol.length z1)).setCell ⟨w.heap.size + 1 + 1, 2, none⟩ (.slice x2 s.fo.rv.length z2)).setCell ⟨w.heap.size + 1 + 1, 3, none⟩ (.int .i64 s.co) = W1 at *
  refine (toRuleS_any vu s.ru _ l3 (h3.below hB0)).mono ?_
  rintro e w2 ⟨v2, rfl, o3, hB2⟩
  replace o3 := Go.Joins.ownsRow_le o3 hq1
  obtain ⟨x3, y3, z3, rfl⟩ := row_slice o3
  replace F1 := F1.below hB2
  replace F2 := F2.below hB2
  replace F3 := F3.below hB2
  replace o1 := ownsRow_below o1 hB2
  replace o2 := ownsRow_below o2 hB2
  replace hB0 := below_one hB0 hB2
  have hs2 := hB2.size
  clear hB2
  obtain ⟨a0, a1, a2, a3, a4, a5, a6⟩ := F1.c
  obtain ⟨c0, c1, c2, c3, c4, c5, c6⟩ := F3.c
  have f4 := F3.f 4
  go_wp2_with fail
  clear a0 a1 a2 a3 a4 a5 a6 c0 c1 c2 c3 c4 c5 c6 f4
  replace F1 := (F1.other (k' := w.heap.size + 1 + 1) (by omega) 4 (.slice x3 y3 z3))
  replace F2 := (F2.other (k' := w.heap.size + 1 + 1) (by omega) 4 (.slice x3 y3 z3))
  replace F3 := (F3.s4 (.slice x3 y3 z3))
  replace hB0 := (hB0.setCell (p := ⟨w.heap.size + 1 + 1, 4, none⟩) (by simp; omega) (.slice x3 y3 z3))
  replace o1 := (ownsRow_setCell_below o1 (a := ⟨w.heap.size + 1 + 1, 4, none⟩) (by simp; omega) (.slice x3 y3 z3))
  replace o2 := (ownsRow_setCell_below o2 (a := ⟨w.heap.size + 1 + 1, 4, none⟩) (by simp; omega) (.slice x3 y3 z3))
  replace o3 := (ownsRow_setCell_below o3 (a := ⟨w.heap.size + 1 + 1, 4, none⟩) (by simp; omega) (.slice x3 y3 z3))
  have hq2 : w2.heap.size ≤ (w2.setCell ⟨w.heap.size + 1 + 1, 4, none⟩ (.slice x3 y3 z3)).heap.size := by simp
  have hp2 : (w2.setCell ⟨w.heap.size + 1 + 1, 4, none⟩ (.slice x3 y3 z3)).heap.size ≤ w2.heap.size := by simp
  generalize w2.setCell ⟨w.heap.size + 1 + 1, 4, none⟩ (.slice x3 y3 z3) = W2 at *
  refine (toBoolS_any vh s.ha _ l4 (h4.below hB0)).mono ?_
  rintro e w3 ⟨v3, rfl, o4, hB3⟩
  replace o4 := Go.Joins.ownsRow_le o4 (Nat.le_trans hq1 (Nat.le_trans hs2 hq2))
  obtain ⟨x4, y4, z4, rfl⟩ := row_slice o4
  replace F1 := F1.below hB3
  replace F2 := F2.below hB3
  replace F3 := F3.below hB3
  replace o1 := ownsRow_below o1 hB3
  replace o2 := ownsRow_below o2 hB3
  replace o3 := ownsRow_below o3 hB3
  replace hB0 := below_one hB0 hB3
  have hs3 := hB3.size
  clear hB3
  obtain ⟨a0, a1, a2, a3, a4, a5, a6⟩ := F1.c
  obtain ⟨c0, c1, c2, c3, c4, c5, c6⟩ := F3.c
  have f5 := F3.f 5
  go_wp2_with fail
  clear a0 a1 a2 a3 a4 a5 a6 c0 c1 c2 c3 c4 c5 c6 f5
  replace F1 := (F1.other (k' := w.heap.size + 1 + 1) (by omega) 5 (.slice x4 y4 z4))
  replace F2 := (F2.other (k' := w.heap.size + 1 + 1) (by omega) 5 (.slice x4 y4 z4))
  replace F3 := (F3.s5 (.slice x4 y4 z4))
  replace hB0 := (hB0.setCell (p := ⟨w.heap.size + 1 + 1, 5, none⟩) (by simp; omega) (.slice x4 y4 z4))
  replace o1 := (ownsRow_setCell_below o1 (a := ⟨w.heap.size + 1 + 1, 5, none⟩) (by simp; omega) (.slice x4 y4 z4))
  replace o2 := (ownsRow_setCell_below o2 (a := ⟨w.heap.size + 1 + 1, 5, none⟩) (by simp; omega) (.slice x4 y4 z4))
  replace o3 := (ownsRow_setCell_below o3 (a := ⟨w.heap.size + 1 + 1, 5, none⟩) (by simp; omega) (.slice x4 y4 z4))
  replace o4 := (ownsRow_setCell_below o4 (a := ⟨w.heap.size + 1 + 1, 5, none⟩) (by simp; omega) (.slice x4 y4 z4))
  have hq3 : w3.heap.size ≤ (w3.setCell ⟨w.heap.size + 1 + 1, 5, none⟩ (.slice x4 y4 z4)).heap.size := by simp
  have hp3 : (w3.setCell ⟨w.heap.size + 1 + 1, 5, none⟩ (.slice x4 y4 z4)).heap.size ≤ w3.heap.size := by simp
  generalize w3.setCell ⟨w.heap.size + 1 + 1, 5, none⟩ (.slice x4 y4 z4) = W3x at *
  refine (toIntS_any vs s.se _ l5 (h5.below hB0)).mono ?_
  rintro e w4 ⟨v4, rfl, o5, hB4⟩
  replace o5 := Go.Joins.ownsRow_le o5 (Nat.le_trans hq1 (Nat.le_trans hs2 (Nat.le_trans hq2 (Nat.le_trans hs3 hq3))))
  obtain ⟨x5, y5, z5, rfl⟩ := row_slice o5
  replace F1 := F1.below hB4
  replace F2 := F2.below hB4
  replace F3 := F3.below hB4
  replace o1 := ownsRow_below o1 hB4
  replace o2 := ownsRow_below o2 hB4
  replace o3 := ownsRow_below o3 hB4
  replace o4 := ownsRow_below o4 hB4
  replace hB0 := below_one hB0 hB4
  have hs4 := hB4.size
  clear hB4
  obtain ⟨a0, a1, a2, a3, a4, a5, a6⟩ := F1.c
  obtain ⟨c0, c1, c2, c3, c4, c5, c6⟩ := F3.c
  have f6 := F3.f 6
  have G3 := F3.s6 (.slice x5 y5 z5)
  have G2 := F2.other (k' := w.heap.size + 1 + 1) (by omega) 6 (.slice x5 y5 z5)
  replace hB0 := hB0.setCell (p := ⟨w.heap.size + 1 + 1, 6, none⟩) (by simp; omega) (.slice x5 y5 z5)
  replace o1 := ownsRow_setCell_below o1 (a := ⟨w.heap.size + 1 + 1, 6, none⟩) (by simp; omega) (.slice x5 y5 z5)
  replace o2 := ownsRow_setCell_below o2 (a := ⟨w.heap.size + 1 + 1, 6, none⟩) (by simp; omega) (.slice x5 y5 z5)
  replace o3 := ownsRow_setCell_below o3 (a := ⟨w.heap.size + 1 + 1, 6, none⟩) (by simp; omega) (.slice x5 y5 z5)
  replace o4 := ownsRow_setCell_below o4 (a := ⟨w.heap.size + 1 + 1, 6, none⟩) (by simp; omega) (.slice x5 y5 z5)
  replace o5 := ownsRow_setCell_below o5 (a := ⟨w.heap.size + 1 + 1, 6, none⟩) (by simp; omega) (.slice x5 y5 z5)
  obtain ⟨m0, m1, m2, m3, m4, m5, m6⟩ := G3.c
  obtain ⟨r0, r1, r2, r3, r4, r5, r6⟩ := G2.c
  have g0 := G2.f 0
  have g1 := G2.f 1
  have g2 := G2.f 2
  have g3 := G2.f 3
  have g4 := G2.f 4
  have g5 := G2.f 5
  have g6 := G2.f 6
  have G := (((((((G2.s0 (.int .i64 s.fo.num)).s1 (.slice x1 s.fo.pol.length z1)).s2 (.slice x2 s.fo.rv.length z2)).s3 (.int .i64 s.co)).s4 (.slice x3 y3 z3)).s5 (.slice x4 y4 z4)).s6 (.slice x5 y5 z5))
  have p1 := row_seven o1 (k := w.heap.size + 1) (by omega) (.int .i64 s.fo.num) (.slice x1 s.fo.pol.length z1) (.slice x2 s.fo.rv.length z2) (.int .i64 s.co) (.slice x3 y3 z3) (.slice x4 y4 z4) (.slice x5 y5 z5)
  have p2 := row_seven o2 (k := w.heap.size + 1) (by omega) (.int .i64 s.fo.num) (.slice x1 s.fo.pol.length z1) (.slice x2 s.fo.rv.length z2) (.int .i64 s.co) (.slice x3 y3 z3) (.slice x4 y4 z4) (.slice x5 y5 z5)
  have p3 := row_seven o3 (k := w.heap.size + 1) (by omega) (.int .i64 s.fo.num) (.slice x1 s.fo.pol.length z1) (.slice x2 s.fo.rv.length z2) (.int .i64 s.co) (.slice x3 y3 z3) (.slice x4 y4 z4) (.slice x5 y5 z5)
  have p4 := row_seven o4 (k := w.heap.size + 1) (by omega) (.int .i64 s.fo.num) (.slice x1 s.fo.pol.length z1) (.slice x2 s.fo.rv.length z2) (.int .i64 s.co) (.slice x3 y3 z3) (.slice x4 y4 z4) (.slice x5 y5 z5)
  have p5 := row_seven o5 (k := w.heap.size + 1) (by omega) (.int .i64 s.fo.num) (.slice x1 s.fo.pol.length z1) (.slice x2 s.fo.rv.length z2) (.int .i64 s.co) (.slice x3 y3 z3) (.slice x4 y4 z4) (.slice x5 y5 z5)
  have pB := below_seven hB0 (k := w.heap.size + 1) (by omega) (.int .i64 s.fo.num) (.slice x1 s.fo.pol.length z1) (.slice x2 s.fo.rv.length z2) (.int .i64 s.co) (.slice x3 y3 z3) (.slice x4 y4 z4) (.slice x5 y5 z5)
  have hW0 : w.heap.size ≤ W0.heap.size := by omega
  have htp : ∀ k, w1.heap.size ≤ k → w1.heap.size ≤ k := fun _ h => h
  have hsE : w4.heap.size ≤ ((((((((w4.setCell ⟨w.heap.size + 1 + 1, 6, none⟩ (.slice x5 y5 z5)).setCell ⟨w.heap.size + 1, 0, none⟩ (.int .i64 s.fo.num)).setCell ⟨w.heap.size + 1, 1, none⟩ (.slice x1 s.fo.pol.length z1)).setCell ⟨w.heap.size + 1, 2, none⟩ (.slice x2 s.fo.rv.length z2)).setCell ⟨w.heap.size + 1, 3, none⟩ (.int .i64 s.co)).setCell ⟨w.heap.size + 1, 4, none⟩ (.slice x3 y3 z3)).setCell ⟨w.heap.size + 1, 5, none⟩ (.slice x4 y4 z4)).setCell ⟨w.heap.size + 1, 6, none⟩ (.slice x5 y5 z5)).heap.size := by simp
  have hm1 : w1.heap.size ≤ w4.heap.size := by omega
  clear F1 F2 F3 o1 o2 o3 o4 o5
  go_wp2_with fail
  clear a0 a1 a2 a3 a4 a5 a6 c0 c1 c2 c3 c4 c5 c6 f6 m0 m1 m2 m3 m4 m5 m6 r0 r1 r2 r3 r4 r5 r6 g0 g1 g2 g3 g4 g5 g6
  generalize (((((((w4.setCell ⟨w.heap.size + 1 + 1, 6, none⟩ (.slice x5 y5 z5)).setCell ⟨w.heap.size + 1, 0, none⟩ (.int .i64 s.fo.num)).setCell ⟨w.heap.size + 1, 1, none⟩ (.slice x1 s.fo.pol.length z1)).setCell ⟨w.heap.size + 1, 2, none⟩ (.slice x2 s.fo.rv.length z2)).setCell ⟨w.heap.size + 1, 3, none⟩ (.int .i64 s.co)).setCell ⟨w.heap.size + 1, 4, none⟩ (.slice x3 y3 z3)).setCell ⟨w.heap.size + 1, 5, none⟩ (.slice x4 y4 z4)).setCell ⟨w.heap.size + 1, 6, none⟩ (.slice x5 y5 z5) = W4 at *
  obtain ⟨d0, d1, d2, d3, d4, d5, d6⟩ := G.c
  exact bodyPost_ret (v := .agg #[.int .i64 s.fo.num, .slice x1 s.fo.pol.length z1, .slice x2 s.fo.rv.length z2, .int .i64 s.co, .slice x3 y3 z3, .slice x4 y4 z4, .slice x5 y5 z5]) (by simp [results, Tryz.results9, go_sem, d0, d1, d2, d3, d4, d5, d6]) rfl ⟨_, rfl, ⟨w1.heap.size, _, _, _, _, _, rfl, by omega, by omega, ⟨_, _, rfl, Go.Joins.ownsRow_le p1 hW0, Go.Joins.ownsRow_le p2 hW0, t1, t2⟩, p3, p4, p5, fun k hk => (p3.lt k hk).2, fun k hk => (p4.lt k hk).2, fun k hk => (p5.lt k hk).2⟩, pB⟩

/-- What lies in a side that was marked. -/
def mkSd (k : Nat) (s : Sd) : Sd := ⟨mkSn k s.fo, s.co, mkL (k + s.fo.many) s.ru.length, mkY (k + s.fo.many + 4 * s.ru.length) s.ha.length, mkN (k + s.fo.many + 4 * s.ru.length + s.ha.length) s.se.length⟩
def Sd.many (s : Sd) : Nat := s.fo.many + 4 * s.ru.length + s.ha.length + s.se.length

end Go.Proofs.YtnbojbcljfiamaaGreatDoor

namespace Go.Proofs.YtnbojbcljfiamaaGreatDoor

theorem bytes_same {a b : ByteArray} (h : a.data.toList = b.data.toList) : a = b := ByteArray.ext (Array.toList_inj.1 h)
theorem split_ne (s : ByteArray) (b : UInt8) : ∃ x r, split s b = x :: r := by
  obtain ⟨r, h⟩ := split_head s b
  exact ⟨_, r, h⟩
theorem empty_of {s : ByteArray} (h : s.toList.isEmpty = true) : s = ⟨#[]⟩ := by
  rw [toList_data] at h
  apply ByteArray.ext
  have : s.data.toList = [] := by simpa using h
  exact Array.toList_inj.1 (by rw [this])
/-- The library's cutting at one byte is ours. -/
theorem index_of_one (s : ByteArray) (c : UInt8) : Lib.indexB s ⟨#[c]⟩ = Lib.indexByte s.data.toList c := by
  show Lib.index s.data.toList [c] = _
  exact Lib.index_one _ _
theorem split_lib (c : UInt8) : ∀ (n : Nat) (s : ByteArray), s.size ≤ n → Lib.splitB ⟨#[c]⟩ 0 (Lib.countB s ⟨#[c]⟩) s = split s c := by
  intro n
  induction n with
  | zero =>
    intro s hs
    have hf : fI s c = none := by
      have : s.data.toList = [] := List.eq_nil_of_length_eq_zero (by rw [show s.data.toList.length = s.size by simp]; omega)
      unfold fI
      rw [this]
      rfl
    rw [Lib.splitB_miss _ _ _ _ (by rw [index_of_one, index_none hf]), split_none hf]
  | succ n ih =>
    intro s hs
    cases hf : fI s c with
    | none => rw [Lib.splitB_miss _ _ _ _ (by rw [index_of_one, index_none hf]), split_none hf]
    | some i =>
      have hlt := fI_lt hf
      have hi : Lib.indexB s ⟨#[c]⟩ = i := by rw [index_of_one, index_some hf]
      have hc := Lib.countB_hit s ⟨#[c]⟩ i (show 1 ≤ (⟨#[c]⟩ : ByteArray).size from Nat.le_refl _) hi
      rw [hc, Nat.add_comm 1, Lib.splitB_hit _ _ _ _ i hi, split_some hf]
      have hsz : (⟨#[c]⟩ : ByteArray).size = 1 := rfl
      rw [hsz, Nat.add_zero, ih (s.extract (i + 1) s.size) (by rw [ByteArray.size_extract]; omega)]
theorem no_ws {ch : UInt8} (hw : wordCh ch = false) (h42 : ch ≠ 42) {x : ByteArray} (h : wsB x = true) : ch ∉ x.data.toList := by
  unfold wsB at h
  rw [Bool.or_eq_true] at h
  rcases h with h | h
  · have h1 : x.data.toList = [42] := by simpa [starB, toList_data] using h
    rw [h1, List.mem_singleton]
    exact h42
  · unfold wordB wordTo at h
    rw [Bool.and_eq_true] at h
    intro hm
    have h2 := h.1
    rw [List.take_of_length_le (by simp)] at h2
    have := List.all_eq_true.1 h2 ch hm
    rw [hw] at this
    cases this
theorem no_star2 {ch : UInt8} (h42 : ch ≠ 42) {x : ByteArray} (h : star2B x = true) : ch ∉ x.data.toList := by
  have h1 : x.data.toList = [42, 42] := by simpa [star2B, toList_data] using h
  rw [h1]
  simp [h42]
theorem no_split {ch : UInt8} (h47 : ch ≠ 47) : ∀ (n : Nat) (s : ByteArray), s.size ≤ n → (∀ x ∈ split s 47, ch ∉ x.data.toList) → ch ∉ s.data.toList := by
  intro n
  induction n with
  | zero =>
    intro s hs h
    have : s.data.toList = [] := List.eq_nil_of_length_eq_zero (by rw [show s.data.toList.length = s.size by simp]; omega)
    rw [this]
    exact List.not_mem_nil
  | succ n ih =>
    intro s hs h
    cases hf : fI s 47 with
    | none =>
      rw [split_none hf] at h
      exact h s (by simp)
    | some i =>
      rw [split_some hf] at h
      have hlt := fI_lt hf
      have h1 := h _ (List.mem_cons_self)
      have h2 := ih (s.extract (i + 1) s.size) (by rw [ByteArray.size_extract]; omega) (fun x hx => h x (List.mem_cons_of_mem _ hx))
      rw [data_parts s i hlt, fI_at hf, List.mem_append, List.mem_cons]
      rintro (h3 | h3 | h3)
      · exact h1 h3
      · exact h47 h3
      · exact h2 h3
theorem no_pt {ch : UInt8} (hw : wordCh ch = false) (h42 : ch ≠ 42) : ∀ l : List ByteArray, ptOk l = true → ∀ x ∈ l, ch ∉ x.data.toList
  | [], _, x, hx => by cases hx
  | y :: r, h, x, hx => by
    unfold ptOk at h
    split at h
    · rename_i h2
      have hr : r = [] := by simpa using h
      subst hr
      rw [List.mem_singleton] at hx
      subst hx
      exact no_star2 h42 h2
    · rw [Bool.and_eq_true] at h
      rw [List.mem_cons] at hx
      rcases hx with rfl | hx
      · exact no_ws hw h42 h.1
      · exact no_pt hw h42 r h.2 x hx
theorem no_path {ch : UInt8} (hw : wordCh ch = false) (h42 : ch ≠ 42) (h47 : ch ≠ 47) {s : ByteArray} (h : ptBs s = true) : ch ∉ s.data.toList := by
  cases h0 : slashB s
  · cases h1 : headB s
    · have hp : pathPs s = none := by
        unfold pathPs
        rw [h0, h1]
        rfl
      unfold ptBs at h
      rw [hp] at h
      cases h
    · unfold ptBs at h
      rw [pathPs_head h0 h1] at h
      simp only [ptB_eq, Bool.and_eq_true] at h
      have h2 := no_split h47 _ (s.extract 1 s.size) (Nat.le_refl _) (no_pt hw h42 _ h.1)
      have hs : 0 < s.size := by
        rcases Nat.eq_zero_or_pos s.size with hz | hz
        · have : s.data.toList = [] := List.eq_nil_of_length_eq_zero (by rw [show s.data.toList.length = s.size by simp]; omega)
          unfold headB at h1
          rw [this] at h1
          cases h1
        · exact hz
      have hd := data_parts s 0 hs
      have h4 : (s.extract 0 0).data.toList = [] := by
        rw [ByteArray.data_extract, Array.toList_extract, List.extract_eq_take_drop]
        simp
      rw [h4, List.nil_append] at hd
      unfold headB at h1
      rw [hd] at h1
      have h5 : s[0] = 47 := by simpa using h1
      rw [hd, h5, List.mem_cons]
      rintro (h6 | h6)
      · exact h47 h6
      · exact h2 h6
  · have h1 : s.data.toList = [47] := by simpa [slashB, toList_data] using h0
    rw [h1, List.mem_singleton]
    exact h47
theorem no_name {ch : UInt8} (hw : wordCh ch = false) (h42 : ch ≠ 42) (h47 : ch ≠ 47) {s : ByteArray} (h : nmB (split s 47) = true) : ch ∉ s.data.toList := by
  rw [nmB_eq, Bool.and_eq_true, List.all_eq_true] at h
  exact no_split h47 _ s (Nat.le_refl _) (fun x hx => no_ws hw h42 (h.2 x hx))
/-! A text parted at a byte that its first part has not. -/
theorem fI_parts {ch : UInt8} : ∀ (a b : List UInt8), ch ∉ a → (a ++ ch :: b).findIdx? (fun x => x == ch) = some a.length
  | [], b, _ => by rw [List.nil_append, List.findIdx?_cons]; simp
  | x :: a, b, h => by
    have hx : (x == ch) = false := by
      rw [beq_eq_false_iff_ne]
      rintro rfl
      exact h List.mem_cons_self
    rw [List.cons_append, List.findIdx?_cons, hx, fI_parts a b (fun hm => h (List.mem_cons_of_mem _ hm))]
    simp
theorem bytes_of (s : ByteArray) : s = ⟨s.data.toList.toArray⟩ := by
  apply ByteArray.ext
  simp
theorem ext_front (a b : List UInt8) : (⟨(a ++ b).toArray⟩ : ByteArray).extract 0 a.length = ⟨a.toArray⟩ := by
  apply bytes_same
  rw [ByteArray.data_extract, Array.toList_extract, List.extract_eq_take_drop]
  simp
theorem ext_back (a b : List UInt8) (ch : UInt8) : (⟨(a ++ ch :: b).toArray⟩ : ByteArray).extract (a.length + 1) (⟨(a ++ ch :: b).toArray⟩ : ByteArray).size = ⟨b.toArray⟩ := by
  apply bytes_same
  rw [ByteArray.data_extract, Array.toList_extract, List.extract_eq_take_drop]
  have h1 : (⟨(a ++ ch :: b).toArray⟩ : ByteArray).size = a.length + 1 + b.length := by
    show (a ++ ch :: b).toArray.size = _
    simp
    omega
  rw [h1, List.take_of_length_le (by simp)]
  show (a ++ ch :: b).drop (a.length + 1) = b
  rw [← List.drop_drop, List.drop_left]
  rfl
theorem split_parts {ch : UInt8} (a b : List UInt8) (h : ch ∉ a) : split ⟨(a ++ ch :: b).toArray⟩ ch = ⟨a.toArray⟩ :: split ⟨b.toArray⟩ ch := by
  have hf : fI ⟨(a ++ ch :: b).toArray⟩ ch = some a.length := fI_parts a b h
  rw [split_some hf, ext_front, ext_back]
theorem split_one {ch : UInt8} (a : List UInt8) (h : ch ∉ a) : split ⟨a.toArray⟩ ch = [⟨a.toArray⟩] := by
  refine split_none ?_
  unfold fI
  rw [List.findIdx?_eq_none_iff]
  intro x hx
  rw [beq_eq_false_iff_ne]
  rintro rfl
  exact h (by simpa using hx)


end Go.Proofs.YtnbojbcljfiamaaGreatDoor

namespace Go.Proofs.YtnbojbcljfiamaaGreatDoor

/-- A link. -/
structure Lk where
  who : ByteArray
  to : ByteArray
  se : Int
  fr : Int
  un : Int
def seB (n : Int) : Bool := decide (1 ≤ n ∧ n ≤ 100000)
def tmB (n : Int) : Bool := decide (0 ≤ n ∧ n ≤ 100000)
def nmOk (s : ByteArray) : Bool := gnB (split s 47)
def Lk.good (k : Lk) : Bool := nmOk k.who && (nmOk k.to && (seB k.se && (tmB k.fr && (tmB k.un && decide (k.fr ≤ k.un)))))
def Lk.size (k : Lk) : Nat := k.who.size + k.to.size
theorem Lk.good_iff (k : Lk) : k.good = true ↔ nmOk k.who = true ∧ nmOk k.to = true ∧ (1 ≤ k.se ∧ k.se ≤ 100000) ∧ (0 ≤ k.fr ∧ k.fr ≤ 100000) ∧ (0 ≤ k.un ∧ k.un ≤ 100000) ∧ k.fr ≤ k.un := by
  unfold Lk.good seB tmB
  simp only [Bool.and_eq_true, decide_eq_true_eq]

/-- The i-th link is good, and follows the one ahead. -/
def lkAt (ks : List Lk) (i : Nat) : Bool := match ks[i]? with
  | some k => k.good && (i == 0 || (match ks[i - 1]? with
    | some p => p.to.toList == k.who.toList
    | none => false))
  | none => false
def tkTo (ks : List Lk) (n : Nat) : Bool := (List.range n).all (lkAt ks)
def tkB (ks : List Lk) : Bool := tkTo ks ks.length && decide (1 ≤ ks.length ∧ ks.length ≤ 6)
theorem tkTo_zero (ks : List Lk) : tkTo ks 0 = true := rfl
theorem tkTo_succ (ks : List Lk) (n : Nat) : tkTo ks (n + 1) = (tkTo ks n && lkAt ks n) := by
  unfold tkTo
  rw [List.range_succ, List.all_append]
  simp
theorem lkAt_zero {ks : List Lk} (h : 0 < ks.length) : lkAt ks 0 = ks[0].good := by
  unfold lkAt
  rw [List.getElem?_eq_getElem h]
  simp
theorem lkAt_succ {ks : List Lk} {n : Nat} (h : n + 1 < ks.length) : lkAt ks (n + 1) = (ks[n + 1].good && (ks[n].to.toList == ks[n + 1].who.toList)) := by
  unfold lkAt
  rw [List.getElem?_eq_getElem h, Nat.add_sub_cancel, List.getElem?_eq_getElem (by omega : n < ks.length)]
  simp
theorem tk_bad {ks : List Lk} {n : Nat} (h : n < ks.length) (hb : lkAt ks n = false) : tkB ks = false := by
  have : tkTo ks ks.length = false := by
    unfold tkTo
    rw [List.all_eq_false]
    exact ⟨n, List.mem_range.2 h, by rw [hb]; exact Bool.false_ne_true⟩
  unfold tkB
  rw [this]
  rfl
theorem tk_len {ks : List Lk} (h : ¬ (1 ≤ ks.length ∧ ks.length ≤ 6)) : tkB ks = false := by
  unfold tkB
  rw [decide_eq_false h, Bool.and_false]
theorem tk_end {ks : List Lk} (h : tkTo ks ks.length = true) : tkB ks = decide (1 ≤ ks.length ∧ ks.length ≤ 6) := by
  unfold tkB
  rw [h, Bool.true_and]
theorem tkB_len {ks : List Lk} (h : tkB ks = true) : 1 ≤ ks.length ∧ ks.length ≤ 6 := by
  unfold tkB at h
  rw [Bool.and_eq_true, decide_eq_true_eq] at h
  exact h.2
theorem tkTo_good {ks : List Lk} {n : Nat} (h : tkTo ks n = true) (i : Nat) (hi : i < n) (hl : i < ks.length) : ks[i].good = true := by
  unfold tkTo at h
  have := List.all_eq_true.1 h i (List.mem_range.2 hi)
  cases i with
  | zero => rwa [lkAt_zero hl] at this
  | succ i =>
    rw [lkAt_succ hl, Bool.and_eq_true] at this
    exact this.1
theorem tkB_good {ks : List Lk} (h : tkB ks = true) (k : Lk) (hk : k ∈ ks) : k.good = true := by
  unfold tkB at h
  rw [Bool.and_eq_true] at h
  obtain ⟨i, hi, rfl⟩ := List.getElem_of_mem hk
  exact tkTo_good h.1 i hi hi

/-- A number's text. -/
def numT (n : Int) : ByteArray := ⟨(Lib.itoa n).toArray⟩
theorem dd_dig (u : Nat) : ∀ b ∈ Lib.decDigits u, 48 ≤ b.toNat ∧ b.toNat ≤ 57 := by
  induction u using Nat.strongRecOn with
  | _ u ih =>
    intro b hb
    have hd : ∀ d, d < 10 → (UInt8.ofNat (48 + d)).toNat = 48 + d := fun d hd => by
      rw [UInt8.toNat_ofNat']
      omega
    by_cases h : u < 10
    · rw [Lib.decDigits, dif_pos h, List.mem_singleton] at hb
      rw [hb, hd u h]
      omega
    · rw [Lib.decDigits, dif_neg h, List.mem_append, List.mem_singleton] at hb
      rcases hb with hb | hb
      · exact ih (u / 10) (by omega) b hb
      · rw [hb, hd _ (Nat.mod_lt _ (by decide))]
        omega
theorem itoa_pos {n : Int} (h : 0 ≤ n) : Lib.itoa n = Lib.decDigits n.toNat := by
  unfold Lib.itoa
  rw [if_neg (by omega)]
theorem no_num {ch : UInt8} (h : ¬ (48 ≤ ch.toNat ∧ ch.toNat ≤ 57)) {n : Int} (hn : 0 ≤ n) : ch ∉ Lib.itoa n := by
  rw [itoa_pos hn]
  exact fun hm => h (dd_dig _ _ hm)
theorem decFrom_snoc : ∀ (l : List UInt8) (acc : Nat) (b : UInt8), Lib.decFrom acc (l ++ [b]) = match Lib.decFrom acc l with
    | some n => (match Lib.digitVal b with
      | some d => some (n * 10 + d)
      | none => none)
    | none => none
  | [], acc, b => by
    simp only [List.nil_append, Lib.decFrom]
    cases Lib.digitVal b <;> rfl
  | x :: l, acc, b => by
    simp only [List.cons_append, Lib.decFrom]
    cases Lib.digitVal x with
    | none => rfl
    | some d => exact decFrom_snoc l _ b
theorem digit_of (d : Nat) (h : d < 10) : Lib.digitVal (UInt8.ofNat (48 + d)) = some d := by
  have : (UInt8.ofNat (48 + d)).toNat = 48 + d := by rw [UInt8.toNat_ofNat']; omega
  unfold Lib.digitVal
  rw [this, if_pos (by omega)]
  congr 1
  omega
theorem dec_back (u : Nat) : Lib.decFrom 0 (Lib.decDigits u) = some u := by
  induction u using Nat.strongRecOn with
  | _ u ih =>
    by_cases h : u < 10
    · rw [Lib.decDigits, dif_pos h]
      simp only [Lib.decFrom, digit_of u h]
      simp
    · rw [Lib.decDigits, dif_neg h, decFrom_snoc, ih (u / 10) (by omega), digit_of _ (Nat.mod_lt _ (by decide))]
      simp only
      congr 1
      omega
theorem dd_head (u : Nat) (h : 0 < u) : (Lib.decDigits u).head? ≠ some 48 := by
  induction u using Nat.strongRecOn with
  | _ u ih =>
    by_cases h1 : u < 10
    · rw [Lib.decDigits, dif_pos h1]
      intro e
      have e1 : UInt8.ofNat (48 + u) = 48 := by simpa using e
      have : (UInt8.ofNat (48 + u)).toNat = 48 + u := by rw [UInt8.toNat_ofNat']; omega
      rw [e1] at this
      have e2 : (48 : UInt8).toNat = 48 := rfl
      omega
    · rw [Lib.decDigits, dif_neg h1, List.head?_append]
      have h2 := ih (u / 10) (by omega) (by omega)
      cases h3 : (Lib.decDigits (u / 10)).head? with
      | none =>
        have : Lib.decDigits (u / 10) = [] := List.head?_eq_none_iff.1 h3
        have h4 := Lib.decDigits_length (u / 10)
        rw [this] at h4
        have := Lib.nDigits_pos (u / 10)
        simp at h4
        omega
      | some x =>
        rw [h3] at h2
        simpa using h2
theorem dd_len6 {u : Nat} (h : u < 1000000) : 1 ≤ (Lib.decDigits u).length ∧ (Lib.decDigits u).length ≤ 6 := by
  rw [Lib.decDigits_length]
  refine ⟨Lib.nDigits_pos u, ?_⟩
  rcases Nat.lt_or_ge 6 (Lib.nDigits u) with h1 | h1
  · exfalso
    have e : ∀ k, k ≤ 5 → 10 ^ k ≤ u → u < 10 ^ (k + 1) → False := fun k hk a b => by
      have := Lib.nDigits_unique k u a b
      omega
    by_cases c0 : u < 10
    · rw [Lib.nDigits_small c0] at h1
      omega
    · by_cases c1 : u < 100
      · exact e 1 (by omega) (by omega) (by omega)
      · by_cases c2 : u < 1000
        · exact e 2 (by omega) (by omega) (by omega)
        · by_cases c3 : u < 10000
          · exact e 3 (by omega) (by omega) (by omega)
          · by_cases c4 : u < 100000
            · exact e 4 (by omega) (by omega) (by omega)
            · have := Lib.nDigits_unique 5 u (by omega) (by omega)
              omega
  · exact h1
theorem itoa_len6 {n : Int} (h0 : 0 ≤ n) (h : n ≤ 100000) : 1 ≤ (Lib.itoa n).length ∧ (Lib.itoa n).length ≤ 6 := by
  rw [itoa_pos h0]
  exact dd_len6 (by omega)
theorem numT_size (n : Int) : (numT n).size = (Lib.itoa n).length := by
  unfold numT
  show (Lib.itoa n).toArray.size = _
  simp

/-- A number as the specification reads it. -/
def numR (s : ByteArray) : Int :=
  if decide (1 ≤ s.size ∧ s.size ≤ 6) && !(s.data.toList.head? == some 48 && decide (1 < s.size)) then (match Lib.decFrom 0 s.data.toList with
    | some n => (n : Int)
    | none => -1) else -1
/-- A number as the program reads it. -/
def numI (s : ByteArray) : Option Int := match Lib.atoiAll s.data.toList with
  | .ok n => if (Lib.itoa n == s.data.toList) = true then some n else none
  | _ => none
theorem numR_back {n : Int} (h0 : 0 ≤ n) (h : n ≤ 100000) : numR (numT n) = n := by
  obtain ⟨l1, l6⟩ := itoa_len6 h0 h
  have hd : (numT n).data.toList = Lib.decDigits n.toNat := by
    unfold numT
    rw [itoa_pos h0]
  unfold numR
  rw [numT_size, hd, dec_back, decide_eq_true ⟨l1, l6⟩]
  have hz : ((Lib.decDigits n.toNat).head? == some 48 && decide (1 < (Lib.itoa n).length)) = false := by
    by_cases hn : 0 < n.toNat
    · have : ((Lib.decDigits n.toNat).head? == some 48) = false := by
        rw [beq_eq_false_iff_ne]
        exact dd_head _ hn
      rw [this]
      rfl
    · have e : n.toNat = 0 := by omega
      rw [itoa_pos h0, e, Lib.decDigits_one (by decide)]
      decide
  rw [hz]
  simp
  omega
theorem atoi_itoa {n : Int} (h0 : 0 ≤ n) (h : n ≤ 100000) : Lib.atoi (Lib.itoa n) = some n := by
  have hp := itoa_pos h0
  obtain ⟨l1, l6⟩ := itoa_len6 h0 h
  rw [hp] at *
  cases hd : Lib.decDigits n.toNat with
  | nil => rw [hd] at l1; simp at l1
  | cons b r =>
    have hb := dd_dig n.toNat b (by rw [hd]; exact List.mem_cons_self)
    have h1 := dec_back n.toNat
    rw [hd] at h1
    unfold Lib.atoi
    have n1 : (b == 45) = false := by
      rw [beq_eq_false_iff_ne]
      rintro rfl
      exact absurd hb.1 (by decide)
    have n2 : (b == 43) = false := by
      rw [beq_eq_false_iff_ne]
      rintro rfl
      exact absurd hb.1 (by decide)
    simp only [n1, n2, if_false, Lib.decNat, List.isEmpty_cons, Bool.false_eq_true, h1, Option.map_some]
    congr 1
    omega
theorem numI_back {n : Int} (h0 : 0 ≤ n) (h : n ≤ 100000) : numI (numT n) = some n := by
  obtain ⟨l1, l6⟩ := itoa_len6 h0 h
  have hd : (numT n).data.toList = Lib.itoa n := rfl
  unfold numI
  rw [hd, Lib.atoiAll_short _ (by omega), atoi_itoa h0 h]
  simp [Lib.NumEnd.ofOption]
theorem numI_text {s : ByteArray} {n : Int} (h : numI s = some n) : numT n = s := by
  unfold numI at h
  split at h
  · split at h
    · rename_i m _ he
      cases h
      exact bytes_same (by simpa [numT] using he)
    · cases h
  · cases h

/-- A link's text. -/
def Lk.text (k : Lk) : ByteArray := k.who ++ ⟨#[32]⟩ ++ k.to ++ ⟨#[32]⟩ ++ numT k.se ++ ⟨#[32]⟩ ++ numT k.fr ++ ⟨#[32]⟩ ++ numT k.un ++ ⟨#[59]⟩
def Lk.body (k : Lk) : List UInt8 := k.who.data.toList ++ 32 :: (k.to.data.toList ++ 32 :: (Lib.itoa k.se ++ 32 :: (Lib.itoa k.fr ++ 32 :: Lib.itoa k.un)))
theorem Lk.text_list (k : Lk) : k.text.data.toList = k.body ++ [59] := by simp [Lk.text, Lk.body, numT]
def tkL (ks : List Lk) : List UInt8 := ks.flatMap (fun k => k.text.data.toList)
/-- A token's text. -/
def tkT (ks : List Lk) : ByteArray := ⟨(tkL ks).toArray⟩
theorem tkT_nil : tkT [] = ⟨#[]⟩ := rfl
theorem tkT_snoc (ks : List Lk) (k : Lk) : tkT (ks ++ [k]) = tkT ks ++ k.text := by
  apply bytes_same
  simp [tkT, tkL]
theorem tkT_succ {ks : List Lk} {n : Nat} (h : n < ks.length) : tkT (ks.take (n + 1)) = tkT (ks.take n) ++ ks[n].text := by
  rw [List.take_succ_eq_append_getElem h, tkT_snoc]
theorem tkL_cons (k : Lk) (ks : List Lk) : tkL (k :: ks) = k.body ++ 59 :: tkL ks := by
  unfold tkL
  rw [List.flatMap_cons, Lk.text_list]
  simp
theorem nm_of {s : ByteArray} (h : nmOk s = true) : nmB (split s 47) = true := by
  unfold nmOk gnB at h
  rw [Bool.and_eq_true] at h
  rw [nmB_eq, h.1, Bool.true_and, List.all_eq_true]
  intro x hx
  have := List.all_eq_true.1 h.2 x hx
  unfold wsB
  rw [this, Bool.or_true]
theorem body_split {k : Lk} (h : k.good = true) : split ⟨k.body.toArray⟩ 32 = [k.who, k.to, numT k.se, numT k.fr, numT k.un] := by
  obtain ⟨h1, h2, h3, h4, h5, _⟩ := (Lk.good_iff k).1 h
  unfold Lk.body
  rw [split_parts _ _ (no_name (by decide) (by decide) (by decide) (nm_of h1)), split_parts _ _ (no_name (by decide) (by decide) (by decide) (nm_of h2)), split_parts _ _ (no_num (by decide) (by omega)), split_parts _ _ (no_num (by decide) (by omega)), split_one _ (no_num (by decide) (by omega)), ← bytes_of, ← bytes_of]
  rfl
theorem body_end {k : Lk} (h : k.good = true) : (59 : UInt8) ∉ k.body := by
  obtain ⟨h1, h2, h3, h4, h5, _⟩ := (Lk.good_iff k).1 h
  unfold Lk.body
  have a1 := no_name (ch := 59) (by decide) (by decide) (by decide) (nm_of h1)
  have a2 := no_name (ch := 59) (by decide) (by decide) (by decide) (nm_of h2)
  have a3 := no_num (ch := 59) (by decide) (show 0 ≤ k.se by omega)
  have a4 := no_num (ch := 59) (by decide) (show 0 ≤ k.fr by omega)
  have a5 := no_num (ch := 59) (by decide) (show 0 ≤ k.un by omega)
  simp only [List.mem_append, List.mem_cons, not_or]
  exact ⟨a1, by decide, a2, by decide, a3, by decide, a4, by decide, a5⟩
theorem tk_split (ks : List Lk) (h : ∀ k ∈ ks, k.good = true) : split (tkT ks) 59 = ks.map (fun k => (⟨k.body.toArray⟩ : ByteArray)) ++ [⟨#[]⟩] := by
  induction ks with
  | nil => exact split_none rfl
  | cons k ks ih =>
    unfold tkT
    rw [tkL_cons, split_parts _ _ (body_end (h k List.mem_cons_self))]
    have := ih (fun x hx => h x (List.mem_cons_of_mem _ hx))
    unfold tkT at this
    rw [this]
    rfl

/-- A link read from its text, its numbers by f. -/
def rdLk (f : ByteArray → Option Int) (p : ByteArray) : Option Lk := match split p 32 with
  | [a, b, c, d, e] => (match f c, f d, f e with
    | some x, some y, some z => some ⟨a, b, x, y, z⟩
    | _, _, _ => none)
  | _ => none
theorem rdLk_five {f : ByteArray → Option Int} {p a b c d e : ByteArray} (h : split p 32 = [a, b, c, d, e]) : rdLk f p = (match f c, f d, f e with
    | some x, some y, some z => some ⟨a, b, x, y, z⟩
    | _, _, _ => none) := by
  unfold rdLk
  rw [h]
theorem five {l : List ByteArray} (h : l.length = 5) : ∃ a b c d e, l = [a, b, c, d, e] := by
  match l, h with
  | [a, b, c, d, e], _ => exact ⟨a, b, c, d, e, rfl⟩
theorem rdLk_other {f : ByteArray → Option Int} {p : ByteArray} (h : (split p 32).length ≠ 5) : rdLk f p = none := by
  unfold rdLk
  split
  · rename_i h1
    rw [h1] at h
    exact absurd rfl h
  · rfl
theorem rdLk_back {f : ByteArray → Option Int} (hf : ∀ n : Int, 0 ≤ n → n ≤ 100000 → f (numT n) = some n) {k : Lk} (h : k.good = true) : rdLk f ⟨k.body.toArray⟩ = some k := by
  obtain ⟨h1, h2, h3, h4, h5, _⟩ := (Lk.good_iff k).1 h
  rw [rdLk_five (body_split h), hf _ (by omega) (by omega), hf _ (by omega) (by omega), hf _ (by omega) (by omega)]

/-- The links of some texts. -/
def rdAll : List ByteArray → Option (List Lk)
  | [] => some []
  | x :: r => match rdLk (fun s => some (numR s)) x, rdAll r with
    | some k, some ks => some (k :: ks)
    | _, _ => none
theorem rdAll_cons (x : ByteArray) (r : List ByteArray) : rdAll (x :: r) = (match rdLk (fun s => some (numR s)) x, rdAll r with
    | some k, some ks => some (k :: ks)
    | _, _ => none) := rfl
theorem rdAll_snoc (l : List ByteArray) (x : ByteArray) : rdAll (l ++ [x]) = match rdAll l, rdLk (fun s => some (numR s)) x with
    | some ks, some k => some (ks ++ [k])
    | _, _ => none := by
  induction l with
  | nil =>
    simp only [List.nil_append, rdAll]
    cases rdLk (fun s => some (numR s)) x <;> rfl
  | cons y l ih =>
    simp only [List.cons_append, rdAll]
    rw [ih]
    cases rdLk (fun s => some (numR s)) y with
    | none => simp
    | some k =>
      cases rdAll l with
      | none => simp
      | some ks => cases rdLk (fun s => some (numR s)) x <;> simp
theorem rdAll_pre {p l : List ByteArray} (h : p <+: l) (hp : rdAll p = none) : rdAll l = none := by
  obtain ⟨t, rfl⟩ := h
  induction p with
  | nil => cases hp
  | cons x p ih =>
    rw [List.cons_append]
    rw [rdAll_cons] at hp ⊢
    cases h1 : rdLk (fun s => some (numR s)) x with
    | none => rfl
    | some k =>
      rw [h1] at hp
      cases h2 : rdAll p with
      | none => rw [ih h2]
      | some ks =>
        rw [h2] at hp
        cases hp
theorem rdAll_back (ks : List Lk) (h : ∀ k ∈ ks, k.good = true) : rdAll (ks.map (fun k => (⟨k.body.toArray⟩ : ByteArray))) = some ks := by
  induction ks with
  | nil => rfl
  | cons k ks ih =>
    rw [List.map_cons]
    unfold rdAll
    rw [rdLk_back (fun n h0 h1 => by rw [numR_back h0 h1]) (h k List.mem_cons_self), ih (fun x hx => h x (List.mem_cons_of_mem _ hx))]
/-- A token as the specification reads it. -/
def rdSp (s : ByteArray) : List Lk × Bool := match rdAll (split s 59).dropLast with
  | some ks => if (tkB ks && ((tkT ks).toList == s.toList)) = true then (ks, true) else ([], false)
  | none => ([], false)
theorem rdSp_back {ks : List Lk} (h : tkB ks = true) : rdSp (tkT ks) = (ks, true) := by
  unfold rdSp
  rw [tk_split ks (tkB_good h), List.dropLast_concat, rdAll_back ks (tkB_good h)]
  simp only
  rw [h, if_pos (by simp)]
theorem rdSp_sound {s : ByteArray} (h : (rdSp s).2 = true) : tkB (rdSp s).1 = true ∧ tkT (rdSp s).1 = s := by
  unfold rdSp at *
  split at h
  · split at h
    · rename_i ks _ hc
      rw [if_pos hc]
      rw [Bool.and_eq_true] at hc
      refine ⟨hc.1, bytes_same ?_⟩
      have := hc.2
      rw [toList_data, toList_data] at this
      simpa using this
    · cases h
  · cases h
theorem rdSp_no {s : ByteArray} (h : (rdSp s).2 = false) : rdSp s = ([], false) := by
  unfold rdSp at *
  split at h
  · split at h
    · cases h
    · rename_i hc
      rw [if_neg hc]
  · rfl

/-- The links of a text, one by one, as the program reads them. -/
def rdIL : List ByteArray → List Lk → Option (List Lk)
  | [], _ => none
  | [x], acc => if x.toList.isEmpty = true then some acc else none
  | x :: y :: r, acc => match rdLk numI x with
    | some k => if acc.length = 6 then none else rdIL (y :: r) (acc ++ [k])
    | none => none
theorem rdIL_end {s : ByteArray} {acc : List Lk} (h : s.toList.isEmpty = true) : rdIL (split s 59) acc = some acc := by
  rw [empty_of h]
  have : split ⟨#[]⟩ 59 = [⟨#[]⟩] := split_none rfl
  rw [this]
  unfold rdIL
  rw [if_pos (by rw [toList_data]; rfl)]
theorem rdIL_open {s : ByteArray} {acc : List Lk} (h : s.toList.isEmpty = false) (hf : fI s 59 = none) : rdIL (split s 59) acc = none := by
  rw [split_none hf]
  unfold rdIL
  rw [h]
  rfl
theorem rdIL_cut {s : ByteArray} {i : Nat} {acc : List Lk} (hf : fI s 59 = some i) : rdIL (split s 59) acc = (match rdLk numI (s.extract 0 i) with
    | some k => if acc.length = 6 then none else rdIL (split (s.extract (i + 1) s.size) 59) (acc ++ [k])
    | none => none) := by
  rw [split_some hf]
  obtain ⟨x, r, h⟩ := split_ne (s.extract (i + 1) s.size) 59
  rw [h]
  rfl
/-- A token as the program reads it. -/
def rdIm (s : ByteArray) : List Lk × Bool := match rdIL (split s 59) [] with
  | some ks => if tkB ks = true then (ks, true) else ([], false)
  | none => ([], false)
theorem rdIL_back : ∀ (ks acc : List Lk), (∀ k ∈ ks, k.good = true) → acc.length + ks.length ≤ 6 → rdIL (ks.map (fun k => (⟨k.body.toArray⟩ : ByteArray)) ++ [⟨#[]⟩]) acc = some (acc ++ ks)
  | [], acc, _, _ => by
    simp only [List.map_nil, List.nil_append, List.append_nil]
    unfold rdIL
    rw [if_pos (by rw [toList_data]; rfl)]
  | k :: ks, acc, h, hl => by
    simp only [List.length_cons] at hl
    have ih := rdIL_back ks (acc ++ [k]) (fun x hx => h x (List.mem_cons_of_mem _ hx)) (by simp; omega)
    have e : rdIL ((k :: ks).map (fun k => (⟨k.body.toArray⟩ : ByteArray)) ++ [⟨#[]⟩]) acc = (match rdLk numI ⟨k.body.toArray⟩ with
      | some k => if acc.length = 6 then none else rdIL (ks.map (fun k => (⟨k.body.toArray⟩ : ByteArray)) ++ [⟨#[]⟩]) (acc ++ [k])
      | none => none) := by
      cases ks <;> rfl
    rw [e, rdLk_back (fun n h0 h1 => numI_back h0 h1) (h k List.mem_cons_self)]
    simp only
    rw [if_neg (by omega), ih]
    simp
/-- What was parted, put together again. -/
def joinL (c : UInt8) : List ByteArray → List UInt8
  | [] => []
  | [x] => x.data.toList
  | x :: y :: r => x.data.toList ++ c :: joinL c (y :: r)
theorem join_split (c : UInt8) : ∀ (n : Nat) (s : ByteArray), s.size ≤ n → joinL c (split s c) = s.data.toList := by
  intro n
  induction n with
  | zero =>
    intro s hs
    have hf : fI s c = none := by
      have : s.data.toList = [] := List.eq_nil_of_length_eq_zero (by rw [show s.data.toList.length = s.size by simp]; omega)
      unfold fI
      rw [this]
      rfl
    rw [split_none hf]
    rfl
  | succ n ih =>
    intro s hs
    cases hf : fI s c with
    | none => rw [split_none hf]; rfl
    | some i =>
      have hlt := fI_lt hf
      rw [split_some hf]
      have := ih (s.extract (i + 1) s.size) (by rw [ByteArray.size_extract]; omega)
      obtain ⟨x, r, h⟩ := split_ne (s.extract (i + 1) s.size) c
      rw [h] at this ⊢
      unfold joinL
      rw [this, data_parts s i hlt, fI_at hf]
theorem rdLk_text {p : ByteArray} {k : Lk} (h : rdLk numI p = some k) : p.data.toList = k.body := by
  have hj := join_split 32 _ p (Nat.le_refl _)
  by_cases hl : (split p 32).length = 5
  · obtain ⟨a, b, c, d, e, he⟩ := five hl
    rw [rdLk_five he] at h
    split at h
    · rename_i x y z h1 h2 h3
      cases h
      rw [he] at hj
      have t1 := numI_text h1
      have t2 := numI_text h2
      have t3 := numI_text h3
      rw [← hj]
      unfold Lk.body
      simp only [joinL, ← t1, ← t2, ← t3, numT]
    · cases h
  · rw [rdLk_other hl] at h
    cases h
theorem rdIL_sound : ∀ (n : Nat) (s : ByteArray) (acc ks : List Lk), s.size ≤ n → rdIL (split s 59) acc = some ks → ∃ l, ks = acc ++ l ∧ tkL l = s.data.toList := by
  intro n
  induction n with
  | zero =>
    intro s acc ks hs h
    have he : s.toList.isEmpty = true := by rw [size_toList]; exact decide_eq_true (by omega)
    rw [rdIL_end he] at h
    cases h
    refine ⟨[], by simp, ?_⟩
    rw [toList_data] at he
    have : s.data.toList = [] := by simpa using he
    rw [this]
    rfl
  | succ n ih =>
    intro s acc ks hs h
    cases he : s.toList.isEmpty with
    | true =>
      rw [rdIL_end he] at h
      cases h
      refine ⟨[], by simp, ?_⟩
      rw [toList_data] at he
      have : s.data.toList = [] := by simpa using he
      rw [this]
      rfl
    | false =>
      cases hf : fI s 59 with
      | none =>
        rw [rdIL_open he hf] at h
        cases h
      | some i =>
        have hlt := fI_lt hf
        rw [rdIL_cut hf] at h
        split at h
        · rename_i k hk
          split at h
          · cases h
          · obtain ⟨l, rfl, hl⟩ := ih (s.extract (i + 1) s.size) _ _ (by rw [ByteArray.size_extract]; omega) h
            refine ⟨k :: l, by simp, ?_⟩
            rw [tkL_cons, ← rdLk_text hk, hl, data_parts s i hlt, fI_at hf]
        · cases h
theorem rdIm_back {ks : List Lk} (h : tkB ks = true) : rdIm (tkT ks) = (ks, true) := by
  have hl := tkB_len h
  unfold rdIm
  rw [tk_split ks (tkB_good h), rdIL_back ks [] (tkB_good h) (by simp; omega)]
  simp only [List.nil_append]
  rw [if_pos h]
theorem rdIm_sound {s : ByteArray} (h : (rdIm s).2 = true) : tkB (rdIm s).1 = true ∧ tkT (rdIm s).1 = s := by
  unfold rdIm at *
  split at h
  · rename_i ks hk
    split at h
    · rename_i hc
      rw [if_pos hc]
      obtain ⟨l, e, hl⟩ := rdIL_sound _ _ _ _ (Nat.le_refl _) hk
      refine ⟨hc, bytes_same ?_⟩
      rw [List.nil_append] at e
      rw [e]
      exact hl
    · cases h
  · cases h
theorem rdIm_no {s : ByteArray} (h : (rdIm s).2 = false) : rdIm s = ([], false) := by
  unfold rdIm at *
  split at h
  · split at h
    · cases h
    · rename_i hc
      rw [if_neg hc]
  · rfl
/-- Both read alike. -/
theorem rd_alike (s : ByteArray) : rdIm s = rdSp s := by
  cases h : (rdSp s).2 with
  | true =>
    obtain ⟨h1, h2⟩ := rdSp_sound h
    have h3 := rdIm_back h1
    have h4 := rdSp_back h1
    rw [h2] at h3 h4
    rw [h3, ← h4]
  | false =>
    cases h' : (rdIm s).2 with
    | true =>
      obtain ⟨h1, h2⟩ := rdIm_sound h'
      have h4 := rdSp_back h1
      rw [h2] at h4
      rw [h4] at h
      cases h
    | false => rw [rdSp_no h, rdIm_no h']

end Go.Proofs.YtnbojbcljfiamaaGreatDoor

namespace Go.Proofs.YtnbojbcljfiamaaGreatDoor
open Go.RowKit

/-- A record. -/
structure Rc where
  num : Int
  note : ByteArray
  su : Nat

def smS (h : Nat) (b : UInt8) : Nat := (h ^^^ b.toNat) * 16777619 % 4294967296
/-- The sum of some bytes behind a sum. -/
def smL (h : Nat) (l : List UInt8) : Nat := l.foldl smS h
theorem smS_lt (h : Nat) (b : UInt8) : smS h b < 4294967296 := Nat.mod_lt _ (by decide)
theorem smL_lt {h : Nat} (l : List UInt8) (hh : h < 4294967296) : smL h l < 4294967296 := by
  induction l generalizing h with
  | nil => exact hh
  | cons b l ih =>
    rw [show smL h (b :: l) = smL (smS h b) l from rfl]
    exact ih (smS_lt h b)
theorem smL_snoc (h : Nat) (l : List UInt8) (b : UInt8) : smL h (l ++ [b]) = smS (smL h l) b := by
  unfold smL
  rw [List.foldl_append, List.foldl_cons, List.foldl_nil]

/-- A byte that is plain; a note that is good. -/
def plB (b : UInt8) : Bool := decide (32 ≤ b.toNat) && decide (b.toNat ≤ 126)
def ntB (s : ByteArray) : Bool := decide (s.size ≤ 80) && s.data.toList.all plB
/-- A log, as said. -/
def lgB (l : List Rc) : Bool := decide (l.length ≤ 60) && l.all (fun r => ntB r.note)
/-- The text that a record's sum speaks of. -/
def rcT (n : Nat) (note : ByteArray) : ByteArray := numT (n : Int) ++ ⟨#[32]⟩ ++ note
/-- The record that a note makes behind n others, the last sum being h. -/
def rcN (h n : Nat) (note : ByteArray) : Rc := ⟨((n + 1 : Nat) : Int), note, smL h (rcT (n + 1) note).data.toList⟩
/-- The sum ahead of the place i. -/
def pvS (l : List Rc) (i : Nat) : Nat := if i = 0 then 2166136261 else match l[i - 1]? with | some r => r.su | none => 0
def Rc.same (r s : Rc) : Bool := ((r.num == s.num) && (r.note.toList == s.note.toList)) && ((r.su : Int) == (s.su : Int))
theorem Rc.same_eq {r s : Rc} (h : r.same s = true) : r = s := by
  unfold Rc.same at h
  simp only [Bool.and_eq_true, beq_iff_eq, toList_data] at h
  obtain ⟨⟨h1, h2⟩, h3⟩ := h
  obtain ⟨a, b, c⟩ := r
  obtain ⟨a', b', c'⟩ := s
  simp only at h1 h2 h3
  rw [bytes_same h2, h1, Int.ofNat_inj.1 h3]
theorem Rc.same_refl (r : Rc) : r.same r = true := by simp [Rc.same]
/-- The record at i is the one that its note makes there. -/
def okA (l : List Rc) (i : Nat) : Bool := match l[i]? with | some r => r.same (rcN (pvS l i) i r.note) | none => true
theorem okA_at {l : List Rc} {i : Nat} (h : i < l.length) : okA l i = l[i].same (rcN (pvS l i) i l[i].note) := by
  unfold okA
  rw [List.getElem?_eq_getElem h]
/-- Where the first broken record stands. -/
def brX (l : List Rc) : Option Nat := (List.range l.length).find? (fun i => !okA l i)
theorem brX_at {l : List Rc} {k : Nat} (hk : k < l.length) (h : ∀ j, j < k → okA l j = true) (hb : okA l k = false) : brX l = some k := by
  unfold brX
  rw [List.find?_eq_some_iff_getElem]
  refine ⟨by rw [hb]; rfl, k, by simpa using hk, by simp, fun j hj => ?_⟩
  simp [h j hj]
theorem brX_none {l : List Rc} (h : ∀ j, j < l.length → okA l j = true) : brX l = none := by
  unfold brX
  rw [List.find?_eq_none]
  intro j hj
  simp [h j (List.mem_range.1 hj)]
theorem brX_lt {l : List Rc} {k : Nat} (h : brX l = some k) : k < l.length := by
  unfold brX at h
  have := List.mem_of_find?_eq_some h
  exact List.mem_range.1 this
theorem brX_all {l : List Rc} (h : brX l = none) : ∀ j, j < l.length → okA l j = true := by
  intro j hj
  unfold brX at h
  rw [List.find?_eq_none] at h
  have := h j (List.mem_range.2 hj)
  simpa using this
/-- A good log. -/
def glB (l : List Rc) : Bool := lgB l && (brX l).isNone
/-- What FirstBroken tells. -/
def fbN (l : List Rc) : Nat := if lgB l then (brX l).getD 0 else 0
def fbB (l : List Rc) : Bool := lgB l && (brX l).isSome
/-- A log with a note behind. -/
def puR (l : List Rc) (note : ByteArray) : List Rc := l ++ [rcN (pvS l l.length) l.length note]
def apB (l : List Rc) (note : ByteArray) : Bool := (glB l && ntB note) && !(l.length == 60)
def apR (l : List Rc) (note : ByteArray) : List Rc := if apB l note then puR l note else []

end Go.Proofs.YtnbojbcljfiamaaGreatDoor

namespace Go.Proofs.YtnbojbcljfiamaaGreatDoor
open Go.RowKit Go.Shelf

theorem u32_nat {x : Int} (h : (Lit.int .u32 x).wf = true) : ∃ n : Nat, x = n ∧ n < 4294967296 := by
  have hmin : IntKind.u32.min = 0 := rfl
  have hmax : IntKind.u32.max = 4294967295 := rfl
  simp only [Lit.wf, Bool.and_eq_true, decide_eq_true_eq] at h
  exact ⟨x.toNat, by omega, by omega⟩
theorem sm_take (h : Nat) (s : ByteArray) (k : Nat) (hk : k < s.size) : smL h (s.data.toList.take (k + 1)) = smS (smL h (s.data.toList.take k)) s[k] := by
  have hl : k < s.data.toList.length := by rw [Array.length_toList]; exact hk
  rw [List.take_succ_eq_append_getElem hl, smL_snoc]
  rfl
theorem sm_end (h : Nat) (s : ByteArray) : smL h (s.data.toList.take s.size) = smL h s.data.toList := by
  rw [List.take_of_length_le (by rw [Array.length_toList]; exact Nat.le_refl _)]
theorem sm_step (h b : Nat) : IntKind.u32.wrap (((h ^^^ b : Nat) : Int) * 16777619) = (((h ^^^ b) * 16777619 % 4294967296 : Nat) : Int) := by
  rw [IntKind.wrap_u32]
  omega

/-- The bytes up to k are plain. -/
def ntTo (s : ByteArray) (k : Nat) : Bool := (s.data.toList.take k).all plB
theorem ntTo_zero (s : ByteArray) : ntTo s 0 = true := by simp [ntTo]
theorem ntTo_succ (s : ByteArray) (k : Nat) (hk : k < s.size) : ntTo s (k + 1) = (ntTo s k && plB s[k]) := by
  have hl : k < s.data.toList.length := by rw [Array.length_toList]; exact hk
  unfold ntTo
  rw [List.take_succ_eq_append_getElem hl, List.all_append]
  simp
  rfl
theorem ntB_bad (s : ByteArray) (k : Nat) (hk : k < s.size) (h : plB s[k] = false) : ntB s = false := by
  unfold ntB
  rw [Bool.and_eq_false_iff]
  refine .inr (List.all_eq_false.2 ⟨s[k], ?_, by simp [h]⟩)
  have hl : k < s.data.toList.length := by rw [Array.length_toList]; exact hk
  exact List.getElem_mem hl
theorem ntB_end (s : ByteArray) (h : ntTo s s.size = true) : ntB s = decide (s.size ≤ 80) := by
  unfold ntB ntTo at *
  rw [List.take_of_length_le (by rw [Array.length_toList]; exact Nat.le_refl _)] at h
  rw [h, Bool.and_true]
theorem plB_no1 {b : UInt8} (h : (b.toNat : Int) < 32) : plB b = false := by
  unfold plB
  rw [decide_eq_false (by omega)]
  rfl
theorem plB_no2 {b : UInt8} (h : (126 : Int) < b.toNat) : plB b = false := by
  unfold plB
  rw [decide_eq_false (by omega : ¬ b.toNat ≤ 126), Bool.and_false]
theorem plB_yes {b : UInt8} (h : ¬ (b.toNat : Int) < 32) (h' : ¬ (126 : Int) < b.toNat) : plB b = true := by
  unfold plB
  rw [decide_eq_true (by omega), decide_eq_true (by omega)]
  rfl

end Go.Proofs.YtnbojbcljfiamaaGreatDoor
