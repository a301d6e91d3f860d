/-
  Chapter 3: numbers as texts, by the specification.
-/
import Derived.Lib.SlicesCompact
import Derived.WalkKit
import Derived.ProofKit
import Derived.Test.YtodkpoppgfomeaaGreatDoorJHopToken0
import Derived.Deep.RegionHeld3
import Derived.OpenShut
import Derived.Lib.SmallJoins
import Derived.Deep.Slices
import Derived.LaidEql
import Derived.Stop.Asserts
import Derived.RowKitTokens
import Derived.Shelf.SlicesE.Clone
import Derived.Test.YtodkpoppgfomeaaGreatDoorRows
import Derived.LaidHandle
import Derived.LaidLaws
import Derived.Stop.Joined
import Derived.Stop.JoinedAt
import Derived.Stop.LaidErr
import Derived.Stop.LaidTwo
import Derived.Stop.Texts
import Derived.Lib.ItoaNum
namespace Go.Proofs.YtodkpoppgfomeaaGreatDoor

/-! Numbers that rise. -/
def upI (zs : List Int) (i : Nat) : Bool := match i with
  | 0 => true
  | i + 1 => match zs[i]?, zs[i + 1]? with
    | some a, some b => decide (a < b)
    | _, _ => true
theorem upI_succ {zs : List Int} {i : Nat} (h : i + 1 < zs.length) : upI zs (i + 1) = decide (zs[i] < zs[i + 1]) := by
  simp only [upI]
  rw [List.getElem?_eq_getElem h, List.getElem?_eq_getElem (by omega)]
def upN (zs : List Int) : Bool := (List.range zs.length).all (upI zs)
def okN (nx : Int) (zs : List Int) : Bool := zs.all (fun n => decide (1 ≤ n ∧ n < nx))
theorem upN_no {zs : List Int} {i : Nat} (h : i < zs.length) (hb : upI zs i = false) : upN zs = false :=
  List.all_eq_false.2 ⟨i, List.mem_range.2 h, by rw [hb]; simp⟩
theorem upN_yes {zs : List Int} (h : ∀ i, i < zs.length → upI zs i = true) : upN zs = true :=
  List.all_eq_true.2 fun i hi => h i (List.mem_range.1 hi)
theorem okN_no {nx : Int} {zs : List Int} {i : Nat} (h : i < zs.length) (hb : ¬ (1 ≤ zs[i] ∧ zs[i] < nx)) : okN nx zs = false :=
  List.all_eq_false.2 ⟨_, List.getElem_mem h, by simp; omega⟩
theorem okN_yes {nx : Int} {zs : List Int} (h : ∀ i (hi : i < zs.length), 1 ≤ zs[i] ∧ zs[i] < nx) : okN nx zs = true :=
  List.all_eq_true.2 fun x hx => by
    obtain ⟨i, hi, rfl⟩ := List.getElem_of_mem hx
    exact decide_eq_true (h i hi)
def atN : List Int → Int → Nat
  | [], _ => 0
  | x :: r, n => if x < n then atN r n + 1 else 0
theorem atN_le : ∀ (zs : List Int) (n : Int), atN zs n ≤ zs.length
  | [], _ => Nat.le_refl _
  | x :: r, n => by
    have := atN_le r n
    unfold atN
    split <;> simp <;> omega
theorem atN_lt : ∀ {zs : List Int} {n : Int} {k : Nat} (h : k < zs.length), k < atN zs n → zs[k] < n
  | [], _, _, h, _ => by simp at h
  | x :: r, n, k, h, hk => by
    unfold atN at hk
    split at hk
    · rename_i hx
      cases k with
      | zero => exact hx
      | succ k => exact atN_lt (zs := r) (by simpa using h) (by omega)
    · omega
theorem atN_at : ∀ {zs : List Int} {n : Int} {k : Nat} (h : k < zs.length), k = atN zs n → ¬ zs[k] < n
  | [], _, _, h, _ => by simp at h
  | x :: r, n, k, h, hk => by
    unfold atN at hk
    split at hk
    · subst hk
      exact atN_at (zs := r) (by simpa using h) rfl
    · rename_i hx
      subst hk
      simpa using hx
def hasN (zs : List Int) (n : Int) : Bool := match zs[atN zs n]? with
  | some x => x == n
  | Option.none => false
theorem hasN_at {zs : List Int} {n : Int} (h : atN zs n < zs.length) : hasN zs n = (zs[atN zs n] == n) := by
  unfold hasN
  rw [List.getElem?_eq_getElem h]
theorem hasN_end {zs : List Int} {n : Int} (h : ¬ atN zs n < zs.length) : hasN zs n = false := by
  unfold hasN
  rw [List.getElem?_eq_none (by omega)]
/-- Numbers that rise: one is among them just where it would stand. -/
theorem up_lt {zs : List Int} (h : upN zs = true) : ∀ i j (_ : i < j) (hj : j < zs.length), zs[i] < zs[j] := by
  intro i j hij
  induction j with
  | zero => omega
  | succ j ih =>
    intro hj
    have h1 : upI zs (j + 1) = true := List.all_eq_true.1 h _ (List.mem_range.2 hj)
    rw [upI_succ hj] at h1
    have h1 := of_decide_eq_true h1
    rcases Nat.lt_or_ge i j with h2 | h2
    · have := ih h2 (by omega)
      omega
    · obtain rfl : i = j := by omega
      exact h1

/-- A number is among some. -/
def isTo (zs : List Int) (z : Int) (n : Nat) : Bool := (zs.take n).any (fun x => x == z)
def isI (zs : List Int) (z : Int) : Bool := zs.any (fun x => x == z)
theorem isTo_zero (zs : List Int) (z : Int) : isTo zs z 0 = false := by simp [isTo]
theorem isTo_succ {zs : List Int} {z : Int} {n : Nat} (h : n < zs.length) : isTo zs z (n + 1) = (isTo zs z n || (zs[n] == z)) := by
  unfold isTo
  rw [List.take_succ_eq_append_getElem h, List.any_append]
  simp
theorem isI_yes {zs : List Int} {z : Int} {n : Nat} (h : n < zs.length) (he : (zs[n] == z) = true) : isI zs z = true :=
  List.any_eq_true.2 ⟨zs[n], List.getElem_mem h, he⟩
theorem isI_end (zs : List Int) (z : Int) : isTo zs z zs.length = isI zs z := by
  unfold isTo isI
  rw [List.take_length]
theorem isI_hasN {zs : List Int} (h : upN zs = true) (n : Int) : isI zs n = hasN zs n := by
  rcases Nat.lt_or_ge (atN zs n) zs.length with h1 | h1
  · rw [hasN_at h1]
    cases h2 : (zs[atN zs n] == n)
    · unfold isI
      rw [List.any_eq_false]
      intro x hx he
      obtain ⟨i, hi, rfl⟩ := List.getElem_of_mem hx
      have he := eq_of_beq he
      rcases Nat.lt_trichotomy i (atN zs n) with h3 | h3 | h3
      · have := atN_lt hi h3
        omega
      · subst h3
        rw [he] at h2
        simp at h2
      · have h4 := up_lt h _ _ h3 hi
        have h5 := atN_at h1 rfl
        omega
    · unfold isI
      rw [List.any_eq_true]
      exact ⟨_, List.getElem_mem h1, h2⟩
  · rw [hasN_end (by omega)]
    unfold isI
    rw [List.any_eq_false]
    intro x hx he
    obtain ⟨i, hi, rfl⟩ := List.getElem_of_mem hx
    have := atN_lt (n := n) hi (by omega)
    have he := eq_of_beq he
    omega

/-- A number put among rising ones. -/
def insZ (z : Int) : List Int → List Int
  | [] => [z]
  | x :: r => if x < z then x :: insZ z r else if x = z then x :: r else z :: x :: r
def SZ (l : List Int) : Prop := l.Pairwise (fun x y => x < y)
theorem insZ_mem (z : Int) : ∀ (l : List Int) (y : Int), y ∈ insZ z l ↔ y = z ∨ y ∈ l
  | [], y => by simp [insZ]
  | x :: xs, y => by
    unfold insZ
    split
    · rw [List.mem_cons, insZ_mem z xs y, List.mem_cons]
      constructor
      · rintro (h | h | h)
        · exact .inr (.inl h)
        · exact .inl h
        · exact .inr (.inr h)
      · rintro (h | h | h)
        · exact .inr (.inl h)
        · exact .inl h
        · exact .inr (.inr h)
    · split
      · rename_i h
        subst h
        simp
      · simp
theorem insZ_sz {z : Int} : ∀ l : List Int, SZ l → SZ (insZ z l)
  | [], _ => by simp [insZ, SZ]
  | x :: xs, h => by
    unfold SZ at h
    rw [List.pairwise_cons] at h
    unfold insZ
    split
    · rename_i hx
      unfold SZ
      rw [List.pairwise_cons]
      refine ⟨fun y hy => ?_, insZ_sz xs h.2⟩
      rcases (insZ_mem z xs y).1 hy with rfl | hy
      · exact hx
      · exact h.1 y hy
    · split
      · unfold SZ
        rw [List.pairwise_cons]
        exact h
      · unfold SZ
        rw [List.pairwise_cons, List.pairwise_cons]
        refine ⟨fun y hy => ?_, h⟩
        rw [List.mem_cons] at hy
        rcases hy with rfl | hy
        · omega
        · have := h.1 y hy
          omega
theorem insZ_len (z : Int) : ∀ l : List Int, (insZ z l).length ≤ l.length + 1
  | [] => by simp [insZ]
  | x :: xs => by
    have := insZ_len z xs
    unfold insZ
    split
    · simp; omega
    · split <;> simp
theorem sz_unique : ∀ l l' : List Int, SZ l → SZ l' → (∀ y, y ∈ l ↔ y ∈ l') → l = l'
  | [], [], _, _, _ => rfl
  | [], y :: _, _, _, h => by have := (h y).2 List.mem_cons_self; cases this
  | x :: _, [], _, _, h => by have := (h x).1 List.mem_cons_self; cases this
  | x :: xs, y :: ys, h1, h2, h => by
    unfold SZ at h1 h2
    rw [List.pairwise_cons] at h1 h2
    have hxy : x = y := by
      have a1 := (h x).1 List.mem_cons_self
      have a2 := (h y).2 List.mem_cons_self
      rw [List.mem_cons] at a1 a2
      rcases a1 with a1 | a1
      · exact a1
      · rcases a2 with a2 | a2
        · exact a2.symm
        · have b1 := h2.1 x a1
          have b2 := h1.1 y a2
          omega
    subst hxy
    have ht : ∀ z, z ∈ xs ↔ z ∈ ys := fun z => by
      constructor
      · intro hz
        have := (h z).1 (List.mem_cons_of_mem _ hz)
        rw [List.mem_cons] at this
        rcases this with rfl | this
        · have := h1.1 z hz
          omega
        · exact this
      · intro hz
        have := (h z).2 (List.mem_cons_of_mem _ hz)
        rw [List.mem_cons] at this
        rcases this with rfl | this
        · have := h2.1 z hz
          omega
        · exact this
    rw [sz_unique xs ys h1.2 h2.2 ht]
/-- The numbers of a list rising, each once. -/
def srT (zs : List Int) (k : Nat) : List Int := (zs.take k).foldl (fun o z => insZ z o) []
def srN (zs : List Int) : List Int := srT zs zs.length
theorem srT_zero (zs : List Int) : srT zs 0 = [] := by simp [srT]
theorem srT_succ {zs : List Int} {k : Nat} (h : k < zs.length) : srT zs (k + 1) = insZ zs[k] (srT zs k) := by
  unfold srT
  rw [List.take_succ_eq_append_getElem h, List.foldl_append]
  rfl
theorem srT_mem {zs : List Int} : ∀ k, k ≤ zs.length → ∀ y, y ∈ srT zs k ↔ y ∈ zs.take k
  | 0, _, y => by simp [srT]
  | k + 1, h, y => by
    rw [srT_succ (by omega), insZ_mem, srT_mem k (by omega) y, List.take_succ_eq_append_getElem (by omega), List.mem_append, List.mem_singleton]
    exact Or.comm
theorem srT_sz {zs : List Int} : ∀ k, k ≤ zs.length → SZ (srT zs k)
  | 0, _ => by simp [srT, SZ]
  | k + 1, h => by rw [srT_succ (by omega)]; exact insZ_sz _ (srT_sz k (by omega))
theorem srT_len {zs : List Int} : ∀ k, k ≤ zs.length → (srT zs k).length ≤ k
  | 0, _ => by simp [srT]
  | k + 1, h => by
    rw [srT_succ (by omega)]
    have := insZ_len (zs[k]'(by omega)) (srT zs k)
    have := srT_len (zs := zs) k (by omega)
    omega
theorem srN_mem {zs : List Int} (y : Int) : y ∈ srN zs ↔ y ∈ zs := by
  unfold srN
  rw [srT_mem _ (Nat.le_refl _), List.take_length]
theorem srN_sz (zs : List Int) : SZ (srN zs) := srT_sz _ (Nat.le_refl _)
theorem srN_len (zs : List Int) : (srN zs).length ≤ zs.length := srT_len _ (Nat.le_refl _)
/-- Where a number stands among rising ones, and what putting it there makes. -/
theorem insZ_at {z : Int} : ∀ (l : List Int) (m : Nat), m ≤ l.length → (∀ j (h : j < l.length), j < m → l[j] < z) → (∀ h : m < l.length, ¬ l[m] < z) →
    insZ z l = if h : m < l.length then (if l[m] = z then l else l.take m ++ z :: l.drop m) else l ++ [z]
  | [], m, hm, _, _ => by
    obtain rfl : m = 0 := by simpa using hm
    simp [insZ]
  | x :: xs, 0, _, _, h2 => by
    have this : ¬ x < z := h2 (by simp)
    unfold insZ
    rw [if_neg this]
    simp
  | x :: xs, m + 1, hm, h1, h2 => by
    have hx : x < z := h1 0 (by simp) (by omega)
    have ih := insZ_at (z := z) xs m (by simpa using hm) (fun j hj hjm => h1 (j + 1) (by simpa using hj) (by omega)) (fun hj => h2 (by simpa using hj))
    unfold insZ
    rw [if_pos hx, ih]
    by_cases hlt : m < xs.length
    · rw [dif_pos hlt, dif_pos (by simpa using hlt)]
      simp only [List.getElem_cons_succ]
      split <;> simp
    · rw [dif_neg hlt, dif_neg (by simpa using hlt)]
      simp
theorem insZ_keep {z : Int} {l : List Int} {m : Nat} (hm : m < l.length) (h1 : ∀ j (h : j < l.length), j < m → l[j] < z) (he : l[m] = z) : insZ z l = l := by
  rw [insZ_at l m (by omega) h1 (fun _ => by omega), dif_pos hm, if_pos he]
theorem insZ_new {z : Int} {l : List Int} {m : Nat} (hm : m < l.length) (h1 : ∀ j (h : j < l.length), j < m → l[j] < z) (h2 : ¬ l[m] < z) (he : l[m] ≠ z) : insZ z l = l.take m ++ z :: l.drop m := by
  rw [insZ_at l m (by omega) h1 (fun _ => h2), dif_pos hm, if_neg he]
theorem insZ_end {z : Int} {l : List Int} (h1 : ∀ j (h : j < l.length), j < l.length → l[j] < z) : insZ z l = l ++ [z] := by
  rw [insZ_at l l.length (by omega) h1 (fun h => by omega), dif_neg (by omega)]
/-- Numbers that rise are sorted, each once. -/
theorem sz_up {zs : List Int} : SZ zs ↔ upN zs = true := by
  constructor
  · intro h
    refine upN_yes fun i hi => ?_
    cases i with
    | zero => rfl
    | succ i =>
      rw [upI_succ hi]
      exact decide_eq_true (List.pairwise_iff_getElem.1 h i (i + 1) (by omega) hi (by omega))
  · intro h
    exact List.pairwise_iff_getElem.2 fun i j hi hj hij => up_lt h i j hij hj
theorem srN_up (zs : List Int) : upN (srN zs) = true := sz_up.1 (srN_sz zs)
theorem srN_self {zs : List Int} (h : upN zs = true) : srN zs = zs := sz_unique _ _ (srN_sz zs) (sz_up.2 h) (fun _ => srN_mem _)
/-- Sorted, and runs of one number taken together: the numbers rising, each once. -/
theorem compact_sz {ds : List Int} (hs : ds.Pairwise (fun x y => x ≤ y)) : ∀ m, m ≤ ds.length → SZ (Lib.compactUpTo ds.toArray m) ∧ ∀ y, y ∈ Lib.compactUpTo ds.toArray m ↔ y ∈ ds.take m
  | 0, _ => by simp [Lib.compactUpTo, SZ]
  | m + 1, hm => by
    obtain ⟨i1, i2⟩ := compact_sz hs m (by omega)
    have hget : ds.toArray[m]! = ds[m]'(by omega) := by simp [getElem!_def, List.getElem?_eq_getElem (show m < ds.length by omega)]
    have hle : ∀ y ∈ ds.take m, y ≤ ds[m]'(by omega) := by
      intro y hy
      obtain ⟨j, hj, rfl⟩ := List.getElem_of_mem hy
      rw [List.length_take] at hj
      rw [List.getElem_take]
      exact List.pairwise_iff_getElem.1 hs j m (by omega) (by omega) (by omega)
    rw [Lib.compactUpTo_succ, List.take_succ_eq_append_getElem (by omega), hget]
    by_cases hk : Lib.keeps ds.toArray m = true
    · rw [if_pos hk]
      have hlt : ∀ y ∈ ds.take m, y < ds[m]'(by omega) := by
        intro y hy
        have h1 := hle y hy
        cases m with
        | zero => simp at hy
        | succ m =>
          have hne : ds[m + 1]'(by omega) ≠ ds[m]'(by omega) := by
            intro he
            have : Lib.keeps ds.toArray (m + 1) = false := by
              unfold Lib.keeps
              simp [getElem!_def, List.getElem?_eq_getElem (show m < ds.length by omega), List.getElem?_eq_getElem (show m + 1 < ds.length by omega), he]
            rw [this] at hk
            cases hk
          have h2 : ds[m]'(by omega) ≤ ds[m + 1]'(by omega) := List.pairwise_iff_getElem.1 hs m (m + 1) (by omega) (by omega) (by omega)
          obtain ⟨j, hj, rfl⟩ := List.getElem_of_mem hy
          rw [List.length_take] at hj
          rw [List.getElem_take]
          rcases Nat.lt_or_ge j m with h3 | h3
          · have := List.pairwise_iff_getElem.1 hs j m (by omega) (by omega) h3
            omega
          · have : j = m := by omega
            subst this
            omega
      refine ⟨?_, fun y => ?_⟩
      · unfold SZ
        rw [List.pairwise_append]
        exact ⟨i1, by simp, fun a ha b hb => by rw [List.mem_singleton] at hb; subst hb; exact hlt a ((i2 a).1 ha)⟩
      · rw [List.mem_append, List.mem_append, i2]
    · rw [if_neg hk, List.append_nil]
      refine ⟨i1, fun y => ?_⟩
      rw [i2, List.mem_append, List.mem_singleton]
      constructor
      · exact .inl
      · rintro (h | rfl)
        · exact h
        · cases m with
          | zero => simp [Lib.keeps] at hk
          | succ m =>
            have he : ds[m + 1]'(by omega) = ds[m]'(by omega) := by
              unfold Lib.keeps at hk
              simpa [getElem!_def, List.getElem?_eq_getElem (show m < ds.length by omega), List.getElem?_eq_getElem (show m + 1 < ds.length by omega)] using hk
            rw [he]
            exact List.mem_take_iff_getElem.2 ⟨m, by omega, rfl⟩
theorem compact_sorted (zs : List Int) : Lib.compact (zs.mergeSort fun x y => decide (x ≤ y)) = srN zs := by
  have hs : (zs.mergeSort fun x y => decide (x ≤ y)).Pairwise (fun x y => x ≤ y) :=
    (List.pairwise_mergeSort (le := fun x y => decide (x ≤ y)) (fun a b c h1 h2 => by simp at *; omega) (fun a b => by simp; omega) zs).imp (fun h => by simpa using h)
  obtain ⟨h1, h2⟩ := compact_sz hs _ (Nat.le_refl _)
  refine sz_unique _ _ h1 (srN_sz zs) fun y => ?_
  rw [show Lib.compact _ = Lib.compactUpTo _ _ from rfl, h2, List.take_length, srN_mem]
  exact List.mem_mergeSort

end Go.Proofs.YtodkpoppgfomeaaGreatDoor

namespace Go.Proofs.YtodkpoppgfomeaaGreatDoor

/-- A text is among some. -/
def hasTo (ss : List ByteArray) (s : ByteArray) (n : Nat) : Bool := (ss.take n).any (fun x => x.toList == s.toList)
def hasT (ss : List ByteArray) (s : ByteArray) : Bool := ss.any (fun x => x.toList == s.toList)
theorem hasTo_zero (ss : List ByteArray) (s : ByteArray) : hasTo ss s 0 = false := by simp [hasTo]
theorem hasTo_succ {ss : List ByteArray} {s : ByteArray} {n : Nat} (h : n < ss.length) : hasTo ss s (n + 1) = (hasTo ss s n || (ss[n].toList == s.toList)) := by
  unfold hasTo
  rw [List.take_succ_eq_append_getElem h, List.any_append]
  simp
theorem hasT_yes {ss : List ByteArray} {s : ByteArray} {n : Nat} (h : n < ss.length) (he : (ss[n].toList == s.toList) = true) : hasT ss s = true :=
  List.any_eq_true.2 ⟨ss[n], List.getElem_mem h, he⟩
theorem hasT_end (ss : List ByteArray) (s : ByteArray) : hasTo ss s ss.length = hasT ss s := by
  unfold hasTo hasT
  rw [List.take_length]
/-- All of some texts are among others. -/
def allTo3 (ss ts : List ByteArray) (n : Nat) : Bool := (ts.take n).all (hasT ss)
def allT (ss ts : List ByteArray) : Bool := ts.all (hasT ss)
theorem allTo3_zero (ss ts : List ByteArray) : allTo3 ss ts 0 = true := by simp [allTo3]
theorem allTo3_succ {ss ts : List ByteArray} {n : Nat} (h : n < ts.length) : allTo3 ss ts (n + 1) = (allTo3 ss ts n && hasT ss ts[n]) := by
  unfold allTo3
  rw [List.take_succ_eq_append_getElem h, List.all_append]
  simp
theorem allT_no {ss ts : List ByteArray} {n : Nat} (h : n < ts.length) (he : hasT ss ts[n] = false) : allT ss ts = false :=
  List.all_eq_false.2 ⟨ts[n], List.getElem_mem h, by rw [he]; exact Bool.false_ne_true⟩
theorem allT_end (ss ts : List ByteArray) : allTo3 ss ts ts.length = allT ss ts := by
  unfold allTo3 allT
  rw [List.take_length]
/-- A time lies within all links' times. -/
def tmIn (k : Lk) (nw : Int) : Bool := decide (k.fr ≤ nw ∧ nw ≤ k.un)
def inTo (ks : List Lk) (nw : Int) (n : Nat) : Bool := (ks.take n).all (fun k => tmIn k nw)
def inT (ks : List Lk) (nw : Int) : Bool := ks.all (fun k => tmIn k nw)
theorem inTo_zero (ks : List Lk) (nw : Int) : inTo ks nw 0 = true := by simp [inTo]
theorem inTo_succ {ks : List Lk} {nw : Int} {n : Nat} (h : n < ks.length) : inTo ks nw (n + 1) = (inTo ks nw n && tmIn ks[n] nw) := by
  unfold inTo
  rw [List.take_succ_eq_append_getElem h, List.all_append]
  simp
theorem inT_no {ks : List Lk} {nw : Int} {n : Nat} (h : n < ks.length) (he : tmIn ks[n] nw = false) : inT ks nw = false :=
  List.all_eq_false.2 ⟨ks[n], List.getElem_mem h, by rw [he]; exact Bool.false_ne_true⟩
theorem inT_end (ks : List Lk) (nw : Int) : inTo ks nw ks.length = inT ks nw := by
  unfold inTo inT
  rw [List.take_length]
/-- A serial is revoked. -/
def rvTo (ks : List Lk) (zs : List Int) (n : Nat) : Bool := (ks.take n).any (fun k => isI zs k.se)
def rvB (ks : List Lk) (zs : List Int) : Bool := ks.any (fun k => isI zs k.se)
theorem rvTo_zero (ks : List Lk) (zs : List Int) : rvTo ks zs 0 = false := by simp [rvTo]
theorem rvTo_succ {ks : List Lk} {zs : List Int} {n : Nat} (h : n < ks.length) : rvTo ks zs (n + 1) = (rvTo ks zs n || isI zs ks[n].se) := by
  unfold rvTo
  rw [List.take_succ_eq_append_getElem h, List.any_append]
  simp
theorem rvB_yes {ks : List Lk} {zs : List Int} {n : Nat} (h : n < ks.length) (he : isI zs ks[n].se = true) : rvB ks zs = true :=
  List.any_eq_true.2 ⟨ks[n], List.getElem_mem h, he⟩
theorem rvB_end (ks : List Lk) (zs : List Int) : rvTo ks zs ks.length = rvB ks zs := by
  unfold rvTo rvB
  rw [List.take_length]
/-- It leads where it should. -/
def toOk (ks : List Lk) (at_ : ByteArray) : Bool := match ks[ks.length - 1]? with
  | some k => k.to.toList == at_.toList
  | none => false
theorem toOk_at {ks : List Lk} {at_ : ByteArray} {m : Nat} (h : m < ks.length) (hm : m = ks.length - 1) : toOk ks at_ = (ks[m].to.toList == at_.toList) := by
  unfold toOk
  rw [← hm, List.getElem?_eq_getElem h]

/-- What comes first of what CheckToken tells, of a token that is good. -/
def chk1 (ks : List Lk) (sg ss : List ByteArray) (nw : Int) (zs : List Int) (at_ : ByteArray) : Int :=
  if allT ss sg = false then 2 else if inT ks nw = false then 3 else if rvB ks zs = true then 4 else if toOk ks at_ = false then 5 else 0
def argB (nw : Int) (at_ : ByteArray) (ss : List ByteArray) (zs : List Int) : Bool := tmB nw && (gnB (split at_ 47) && (decide (ss.length ≤ 200) && decide (zs.length ≤ 200)))
def chkX (ks : List Lk) (sg ss : List ByteArray) (nw : Int) (zs : List Int) (at_ : ByteArray) : Int :=
  if (tkB ks && argB nw at_ ss zs) = true then chk1 ks sg ss nw zs at_ else 1
theorem chkX_no1 {ks : List Lk} (sg ss : List ByteArray) (nw : Int) (zs : List Int) (at_ : ByteArray) (h : tkB ks = false) : chkX ks sg ss nw zs at_ = 1 := by
  unfold chkX
  rw [h, if_neg (by simp)]
theorem chkX_no2 (ks : List Lk) (sg : List ByteArray) {ss : List ByteArray} {nw : Int} {zs : List Int} {at_ : ByteArray} (h : argB nw at_ ss zs = false) : chkX ks sg ss nw zs at_ = 1 := by
  unfold chkX
  rw [h, if_neg (by simp)]
theorem chkX_yes {ks : List Lk} (sg : List ByteArray) {ss : List ByteArray} {nw : Int} {zs : List Int} {at_ : ByteArray} (h : tkB ks = true) (h2 : argB nw at_ ss zs = true) : chkX ks sg ss nw zs at_ = chk1 ks sg ss nw zs at_ := by
  unfold chkX
  rw [h, h2, if_pos (by rfl)]

/-! The window of times. -/
def mxF (ks : List Lk) (n : Nat) : Nat := (ks.take n).foldl (fun a k => max a k.fr.toNat) 0
def mnU (ks : List Lk) (n : Nat) : Nat := (ks.take n).foldl (fun a k => min a k.un.toNat) 100000
theorem mxF_zero (ks : List Lk) : mxF ks 0 = 0 := by simp [mxF]
theorem mnU_zero (ks : List Lk) : mnU ks 0 = 100000 := by simp [mnU]
theorem mxF_succ {ks : List Lk} {n : Nat} (h : n < ks.length) : mxF ks (n + 1) = max (mxF ks n) ks[n].fr.toNat := by
  unfold mxF
  rw [List.take_succ_eq_append_getElem h, List.foldl_append]
  rfl
theorem mnU_succ {ks : List Lk} {n : Nat} (h : n < ks.length) : mnU ks (n + 1) = min (mnU ks n) ks[n].un.toNat := by
  unfold mnU
  rw [List.take_succ_eq_append_getElem h, List.foldl_append]
  rfl
theorem win_le {ks : List Lk} (hg : ∀ k ∈ ks, k.good = true) : ∀ n, n ≤ ks.length → mxF ks n ≤ 100000 ∧ mnU ks n ≤ 100000
  | 0, _ => by rw [mxF_zero, mnU_zero]; omega
  | n + 1, h => by
    obtain ⟨h1, h2⟩ := win_le hg n (by omega)
    obtain ⟨_, _, _, b4, b5, _⟩ := (Lk.good_iff _).1 (hg _ (List.getElem_mem (show n < ks.length by omega)))
    rw [mxF_succ (by omega), mnU_succ (by omega)]
    omega
theorem win_in {ks : List Lk} (hg : ∀ k ∈ ks, k.good = true) {nw : Nat} (h : nw ≤ 100000) : ∀ n, n ≤ ks.length → inTo ks nw n = decide (mxF ks n ≤ nw ∧ nw ≤ mnU ks n)
  | 0, _ => by rw [inTo_zero, mxF_zero, mnU_zero]; simp; omega
  | n + 1, hn => by
    have ih := win_in hg h n (by omega)
    obtain ⟨_, _, _, b4, b5, _⟩ := (Lk.good_iff _).1 (hg _ (List.getElem_mem (show n < ks.length by omega)))
    rw [inTo_succ (by omega), ih, mxF_succ (by omega), mnU_succ (by omega)]
    unfold tmIn
    rw [← Bool.decide_and, decide_eq_decide]
    omega

end Go.Proofs.YtodkpoppgfomeaaGreatDoor

namespace Go.Proofs.YtodkpoppgfomeaaGreatDoor

/-! The order of bytes. -/
theorem blo_irrefl : ∀ a : List UInt8, Op.bytesLess a a = false
  | [] => rfl
  | x :: a => by
    unfold Op.bytesLess
    simp [blo_irrefl a]
theorem blo_trans : ∀ a b c : List UInt8, Op.bytesLess a b = true → Op.bytesLess b c = true → Op.bytesLess a c = true
  | _, _, [], _, h2 => by simp [Op.bytesLess] at h2
  | _, [], _ :: _, h1, _ => by simp [Op.bytesLess] at h1
  | [], _ :: _, _ :: _, _, _ => rfl
  | x :: a, y :: b, z :: c, h1, h2 => by
    unfold Op.bytesLess at h1 h2 ⊢
    simp only [Bool.or_eq_true, decide_eq_true_eq, Bool.and_eq_true, beq_iff_eq] at h1 h2 ⊢
    rcases h1 with h1 | ⟨rfl, h1⟩
    · rcases h2 with h2 | ⟨rfl, h2⟩
      · exact .inl (UInt8.lt_trans h1 h2)
      · exact .inl h1
    · rcases h2 with h2 | ⟨rfl, h2⟩
      · exact .inl h2
      · exact .inr ⟨rfl, blo_trans a b c h1 h2⟩
theorem blo_total : ∀ a b : List UInt8, Op.bytesLess a b = false → Op.bytesLess b a = false → a = b
  | [], [], _, _ => rfl
  | [], _ :: _, h, _ => by simp [Op.bytesLess] at h
  | _ :: _, [], _, h => by simp [Op.bytesLess] at h
  | x :: a, y :: b, h1, h2 => by
    unfold Op.bytesLess at h1 h2
    simp only [Bool.or_eq_false_iff, decide_eq_false_iff_not, Bool.and_eq_false_iff, beq_eq_false_iff_ne] at h1 h2
    have e : x = y := UInt8.le_antisymm (UInt8.not_lt.1 h2.1) (UInt8.not_lt.1 h1.1)
    subst e
    have h3 : Op.bytesLess a b = false := by
      rcases h1.2 with h | h
      · exact absurd rfl h
      · exact h
    have h4 : Op.bytesLess b a = false := by
      rcases h2.2 with h | h
      · exact absurd rfl h
      · exact h
    rw [blo_total a b h3 h4]
theorem blo_asym {a b : List UInt8} (h : Op.bytesLess a b = true) : Op.bytesLess b a = false := by
  cases h2 : Op.bytesLess b a
  · rfl
  · have := blo_trans a b a h h2
    rw [blo_irrefl] at this
    cases this

/-- A work, and an issuer. -/
structure Wk where
  name : ByteArray
  live : Bool
  se : Int
structure Is where
  ws : List Wk
  nx : Int
  rv : List Int
  sg : List ByteArray
def Is.none : Is := ⟨[], 0, [], []⟩
def blt (a b : ByteArray) : Bool := Op.bytesLess a.toList b.toList
theorem ble_not (a b : ByteArray) : (Op.bytesLess a.toList b.toList || a.toList == b.toList) = !(blt b a) := by
  unfold blt
  cases h : Op.bytesLess b.toList a.toList
  · cases h2 : Op.bytesLess a.toList b.toList
    · have := blo_total _ _ h2 h
      rw [this]
      simp
    · rfl
  · have h2 := blo_asym h
    rw [h2]
    have : (a.toList == b.toList) = false := by
      rw [beq_eq_false_iff_ne]
      intro e
      rw [e, blo_irrefl] at h
      cases h
    rw [this]
    rfl

def wkOk (nx : Int) (x : Wk) : Bool := nmOk x.name && decide (0 ≤ x.se ∧ x.se < nx)
def upB (ws : List Wk) (i : Nat) : Bool := match i with
  | 0 => true
  | i + 1 => match ws[i]?, ws[i + 1]? with
    | some a, some b => blt a.name b.name
    | _, _ => true
theorem upB_succ {ws : List Wk} {i : Nat} (h : i + 1 < ws.length) : upB ws (i + 1) = blt ws[i].name ws[i + 1].name := by
  simp only [upB]
  rw [List.getElem?_eq_getElem h, List.getElem?_eq_getElem (by omega)]
def upW (ws : List Wk) : Bool := (List.range ws.length).all (upB ws)
def okW (nx : Int) (ws : List Wk) : Bool := ws.all (wkOk nx)
def hdB (s : Is) : Bool := decide (s.ws.length ≤ 20) && (decide (1 ≤ s.nx ∧ s.nx ≤ 100000) && decide (s.sg.length ≤ 200))
/-- An issuer is good. -/
def isB (s : Is) : Bool := hdB s && (upW s.ws && (okW s.nx s.ws && (upN s.rv && okN s.nx s.rv)))
theorem upW_no {ws : List Wk} {i : Nat} (h : i < ws.length) (hb : upB ws i = false) : upW ws = false :=
  List.all_eq_false.2 ⟨i, List.mem_range.2 h, by rw [hb]; simp⟩
theorem upW_yes {ws : List Wk} (h : ∀ i, i < ws.length → upB ws i = true) : upW ws = true :=
  List.all_eq_true.2 fun i hi => h i (List.mem_range.1 hi)
theorem okW_no {nx : Int} {ws : List Wk} {i : Nat} (h : i < ws.length) (hb : wkOk nx ws[i] = false) : okW nx ws = false :=
  List.all_eq_false.2 ⟨_, List.getElem_mem h, by rw [hb]; simp⟩
theorem okW_yes {nx : Int} {ws : List Wk} (h : ∀ i (hi : i < ws.length), wkOk nx ws[i] = true) : okW nx ws = true :=
  List.all_eq_true.2 fun x hx => by
    obtain ⟨i, hi, rfl⟩ := List.getElem_of_mem hx
    exact h i hi
theorem isB_parts {s : Is} (h : isB s = true) : hdB s = true ∧ upW s.ws = true ∧ okW s.nx s.ws = true ∧ upN s.rv = true ∧ okN s.nx s.rv = true := by
  unfold isB at h
  simpa [Bool.and_eq_true] using h
theorem isB_hd {s : Is} (h : isB s = true) : s.ws.length ≤ 20 ∧ 1 ≤ s.nx ∧ s.nx ≤ 100000 ∧ s.sg.length ≤ 200 := by
  have := (isB_parts h).1
  unfold hdB at this
  simp at this
  omega
theorem isB_no1 {s : Is} (h : hdB s = false) : isB s = false := by unfold isB; rw [h]; rfl
theorem isB_no2 {s : Is} (h : upW s.ws = false) : isB s = false := by unfold isB; rw [h]; simp
theorem isB_no3 {s : Is} (h : okW s.nx s.ws = false) : isB s = false := by unfold isB; rw [h]; simp
theorem isB_no4 {s : Is} (h : upN s.rv = false) : isB s = false := by unfold isB; rw [h]; simp
theorem isB_no5 {s : Is} (h : okN s.nx s.rv = false) : isB s = false := by unfold isB; rw [h]; simp
theorem isB_yes {s : Is} (h1 : hdB s = true) (h2 : upW s.ws = true) (h3 : okW s.nx s.ws = true) (h4 : upN s.rv = true) (h5 : okN s.nx s.rv = true) : isB s = true := by
  unfold isB; rw [h1, h2, h3, h4, h5]; rfl

/-- Where a work stands or would stand. -/
def atW : List Wk → ByteArray → Nat
  | [], _ => 0
  | x :: r, n => if blt x.name n = true then atW r n + 1 else 0
theorem atW_le : ∀ (ws : List Wk) (n : ByteArray), atW ws n ≤ ws.length
  | [], _ => Nat.le_refl _
  | x :: r, n => by
    have := atW_le r n
    unfold atW
    split <;> simp <;> omega
theorem atW_lt : ∀ {ws : List Wk} {n : ByteArray} {k : Nat} (h : k < ws.length), k < atW ws n → blt ws[k].name n = true
  | [], _, _, h, _ => by simp at h
  | x :: r, n, k, h, hk => by
    unfold atW at hk
    split at hk
    · rename_i hx
      cases k with
      | zero => exact hx
      | succ k => exact atW_lt (ws := r) (by simpa using h) (by omega)
    · omega
theorem atW_at : ∀ {ws : List Wk} {n : ByteArray} {k : Nat} (h : k < ws.length), k = atW ws n → blt ws[k].name n = false
  | [], _, _, h, _ => by simp at h
  | x :: r, n, k, h, hk => by
    unfold atW at hk
    split at hk
    · subst hk
      exact atW_at (ws := r) (by simpa using h) rfl
    · rename_i hx
      subst hk
      simpa using hx
def hasW (ws : List Wk) (n : ByteArray) : Bool := match ws[atW ws n]? with
  | some x => x.name.toList == n.toList
  | Option.none => false
def livW (ws : List Wk) (n : ByteArray) : Bool := match ws[atW ws n]? with
  | some x => (x.name.toList == n.toList) && x.live
  | Option.none => false
theorem hasW_at {ws : List Wk} {n : ByteArray} (h : atW ws n < ws.length) : hasW ws n = (ws[atW ws n].name.toList == n.toList) := by
  unfold hasW
  rw [List.getElem?_eq_getElem h]
theorem hasW_end {ws : List Wk} {n : ByteArray} (h : ¬ atW ws n < ws.length) : hasW ws n = false := by
  unfold hasW
  rw [List.getElem?_eq_none (by omega)]
theorem hasW_lt {ws : List Wk} {n : ByteArray} (h : hasW ws n = true) : atW ws n < ws.length := by
  rcases Nat.lt_or_ge (atW ws n) ws.length with h1 | h1
  · exact h1
  · rw [hasW_end (by omega)] at h
    cases h
theorem livW_at {ws : List Wk} {n : ByteArray} (h : atW ws n < ws.length) : livW ws n = (hasW ws n && ws[atW ws n].live) := by
  rw [hasW_at h]
  unfold livW
  rw [List.getElem?_eq_getElem h]
theorem livW_no {ws : List Wk} {n : ByteArray} (h : hasW ws n = false) : livW ws n = false := by
  rcases Nat.lt_or_ge (atW ws n) ws.length with h1 | h1
  · rw [livW_at h1, h]; rfl
  · unfold livW
    rw [List.getElem?_eq_none (by omega)]
theorem livW_has {ws : List Wk} {n : ByteArray} (h : livW ws n = true) : hasW ws n = true := by
  cases h1 : hasW ws n
  · rw [livW_no h1] at h; cases h
  · rfl
theorem hasW_name {ws : List Wk} {n : ByteArray} (h : hasW ws n = true) (h1 : atW ws n < ws.length) : ws[atW ws n].name = n := by
  rw [hasW_at h1] at h
  have := eq_of_beq h
  rw [toList_data, toList_data] at this
  exact bytes_same this
/-- What EnrolWork tells. -/
def enX (s : Is) (n : ByteArray) : Is × Int :=
  if (isB s && nmOk n) = false then (Is.none, 1)
  else if livW s.ws n = true then (s, 2)
  else if hasW s.ws n = true then (⟨s.ws.set (atW s.ws n) ⟨n, true, 0⟩, s.nx, s.rv, s.sg⟩, 0)
  else if s.ws.length = 20 then (s, 4)
  else (⟨s.ws.take (atW s.ws n) ++ ⟨n, true, 0⟩ :: s.ws.drop (atW s.ws n), s.nx, s.rv, s.sg⟩, 0)
def seSet (ws : List Wk) (a : Nat) (z : Int) : List Wk := match ws[a]? with
  | some x => ws.set a ⟨x.name, x.live, z⟩
  | Option.none => ws
def liSet (ws : List Wk) (a : Nat) (b : Bool) : List Wk := match ws[a]? with
  | some x => ws.set a ⟨x.name, b, x.se⟩
  | Option.none => ws
theorem seSet_at {ws : List Wk} {a : Nat} {z : Int} (h : a < ws.length) : seSet ws a z = ws.set a ⟨ws[a].name, ws[a].live, z⟩ := by
  unfold seSet
  rw [List.getElem?_eq_getElem h]
theorem liSet_at {ws : List Wk} {a : Nat} {b : Bool} (h : a < ws.length) : liSet ws a b = ws.set a ⟨ws[a].name, b, ws[a].se⟩ := by
  unfold liSet
  rw [List.getElem?_eq_getElem h]
/-- A token is signed and counted to a work. -/
def sgX (s : Is) (ks : List Lk) (who : ByteArray) : Is := ⟨seSet s.ws (atW s.ws who) s.nx, s.nx + 1, s.rv, s.sg ++ [tkT ks]⟩
def fullB (s : Is) : Bool := (s.nx == 100000) || decide (s.sg.length = 200)
/-- What RevokeWork tells. -/
def insN (zs : List Int) (z : Int) : List Int := zs.take (atN zs z) ++ z :: zs.drop (atN zs z)
def rvN (zs : List Int) (z : Int) : List Int := if (z != 0 && !(hasN zs z)) = true then insN zs z else zs
def rkX (s : Is) (n : ByteArray) : Is × Int × Int :=
  if (isB s && nmOk n) = false then (Is.none, 0, 1)
  else if livW s.ws n = false then (s, (s.rv.length : Int), 3)
  else match s.ws[atW s.ws n]? with
    | some x => (⟨liSet s.ws (atW s.ws n) false, s.nx, rvN s.rv x.se, s.sg⟩, ((rvN s.rv x.se).length : Int), 0)
    | Option.none => (s, 0, 0)
/-- What SerialsOf tells. -/
def seX (s : Is) (n : ByteArray) : Int × Bool :=
  if isB s = false then (0, false)
  else match s.ws[atW s.ws n]? with
    | some x => if hasW s.ws n = true then (x.se, true) else (0, false)
    | Option.none => (0, false)

end Go.Proofs.YtodkpoppgfomeaaGreatDoor

namespace Go.Proofs.YtodkpoppgfomeaaGreatDoor
open Go.RowKit Go.Shelf

def left1 (n : Int) (a : Nat) : Int := if (a : Int) ≤ n then n - a else -1

open Go.Deep Go.ChangeShapes Go.WideShapes Go.Joins in
theorem openStR {H : Type} {enc : TypeId × Value → H} {W : World} {c0 : Value} {d : DataW H × List MemPlace} {fuel : Nat} (hf : DataW.trod enc Tryz.prog W 0 (fun _ => true) true fuel 24 [c0] = some d) :
    ∃ (a : Option Addr) (n c : Nat) (ss : List ByteArray), c0 = .slice a n c ∧ VS W (.slice a n c) (strs ss) ∧ ss.length = n ∧ n ≤ maxLen ∧ ∀ s ∈ ss, s.size ≤ maxLen := by
  have hs : ∃ a n c, c0 = .slice a n c := by
    rcases open_slice Tryz.underlying24 hf with ⟨hcs, _⟩ | ⟨x, n, c, m, k, D, Pl, hcs, _⟩
    · simp at hcs; exact ⟨_, _, _, hcs⟩
    · simp at hcs; exact ⟨_, _, _, hcs⟩
  obtain ⟨a, n, c, rfl⟩ := hs
  obtain ⟨ss, h⟩ := openStS (a := a) (n := n) (c := c) (d := d.1) (p := d.2) ⟨fuel, hf⟩
  exact ⟨a, n, c, ss, rfl, h⟩
open Go.Deep Go.ChangeShapes Go.WideShapes Go.Joins in
theorem openInR {H : Type} {enc : TypeId × Value → H} {W : World} {c0 : Value} {d : DataW H × List MemPlace} {fuel : Nat} (hf : DataW.trod enc Tryz.prog W 0 (fun _ => true) true fuel 23 [c0] = some d) :
    ∃ (a : Option Addr) (n c : Nat) (zs : List Int), c0 = .slice a n c ∧ VS W (.slice a n c) (nums zs) ∧ zs.length = n ∧ n ≤ maxLen := by
  have hs : ∃ a n c, c0 = .slice a n c := by
    rcases open_slice Tryz.underlying23 hf with ⟨hcs, _⟩ | ⟨x, n, c, m, k, D, Pl, hcs, _⟩
    · simp at hcs; exact ⟨_, _, _, hcs⟩
    · simp at hcs; exact ⟨_, _, _, hcs⟩
  obtain ⟨a, n, c, rfl⟩ := hs
  obtain ⟨zs, h⟩ := openInS (a := a) (n := n) (c := c) (d := d.1) (p := d.2) ⟨fuel, hf⟩
  exact ⟨a, n, c, zs, rfl, h⟩

theorem take_set3 {α : Type} (xs : List α) (k : Nat) (a b c : α) (h : k * 3 + 3 ≤ xs.length) : (((xs.set (k * 3) a).set (k * 3 + 1) b).set (k * 3 + 2) c).take ((k + 1) * 3) = xs.take (k * 3) ++ [a, b, c] := by
  apply List.ext_getElem?
  intro i
  rw [List.getElem?_take]
  by_cases h1 : i < k * 3
  · rw [if_pos (by omega), List.getElem?_append_left (by rw [List.length_take]; omega), List.getElem?_take, if_pos h1]
    rw [List.getElem?_set_ne (by omega), List.getElem?_set_ne (by omega), List.getElem?_set_ne (by omega)]
  · by_cases h2 : i < (k + 1) * 3
    · rw [if_pos h2, List.getElem?_append_right (by rw [List.length_take]; omega)]
      have hl : (xs.take (k * 3)).length = k * 3 := by rw [List.length_take]; omega
      rw [hl]
      obtain h | h | h : i = k * 3 ∨ i = k * 3 + 1 ∨ i = k * 3 + 2 := by omega
      all_goals subst h
      · rw [List.getElem?_set_ne (by omega), List.getElem?_set_ne (by omega), List.getElem?_set_self (by omega)]
        simp
      · rw [List.getElem?_set_ne (by omega), List.getElem?_set_self (by simp; omega)]
        simp
      · rw [List.getElem?_set_self (by simp; omega)]
        simp
    · rw [if_neg h2, List.getElem?_eq_none (by rw [List.length_append, List.length_take]; simp; omega)]

/-- Four cells that are a block of their own. -/
def Four (w : World) (t : TypeId) (k : Nat) (a b c d : Value) : Prop := w.ownsRow k t 4 (.slice (some ⟨k, 0, none⟩) 1 1) 1 [a, b, c, d]
theorem Four.at (w : World) (a b c d : Value) (t : TypeId) {k : Nat} (hk : k = w.heap.size) : Four (w.alloc (.cells #[a, b, c, d] t)) t k a b c d := by
  subst hk
  exact ⟨rfl, .inr ⟨w.heap.size, 1, #[a, b, c, d], rfl, Nat.le_refl _, by show (w.heap.push _)[w.heap.size]? = _; rw [Array.getElem?_push_size], Nat.le_refl _, by unfold maxLen; omega, rfl, rfl⟩⟩
theorem Four.new (w : World) (a b c d : Value) (t : TypeId) : Four (w.alloc (.cells #[a, b, c, d] t)) t w.heap.size a b c d := Four.at w a b c d t rfl
theorem Four.below {w w' : World} {t : TypeId} {k : Nat} {a b c d : Value} (h : Four w t k a b c d) (hB : Below w.heap.size w w') : Four w' t k a b c d := ownsRow_below h hB
theorem Four.c {w : World} {t : TypeId} {k : Nat} {a b c d : Value} (h : Four w t k a b c d) : w.cell? ⟨k, 0, none⟩ = some a ∧ w.cell? ⟨k, 1, none⟩ = some b ∧ w.cell? ⟨k, 2, none⟩ = some c ∧ w.cell? ⟨k, 3, none⟩ = some d :=
  ⟨World.ownsRow.cellAt h 0 (by omega), World.ownsRow.cellAt h 1 (by omega), World.ownsRow.cellAt h 2 (by omega), World.ownsRow.cellAt h 3 (by omega)⟩
theorem Four.f {w : World} {t : TypeId} {k : Nat} {a b c d : Value} (h : Four w t k a b c d) (j : Nat) : w.frozen? ⟨k, j, none⟩ = false := World.ownsRow.frozenAt h j
theorem Four.s0 {w : World} {t : TypeId} {k : Nat} {a b c d : Value} (h : Four w t k a b c d) (x : Value) : Four (w.setCell ⟨k, 0, none⟩ x) t k x b c d := (World.ownsRow.stored h 0 x).1
theorem Four.s1 {w : World} {t : TypeId} {k : Nat} {a b c d : Value} (h : Four w t k a b c d) (x : Value) : Four (w.setCell ⟨k, 1, none⟩ x) t k a x c d := (World.ownsRow.stored h 1 x).1
theorem Four.s2 {w : World} {t : TypeId} {k : Nat} {a b c d : Value} (h : Four w t k a b c d) (x : Value) : Four (w.setCell ⟨k, 2, none⟩ x) t k a b x d := (World.ownsRow.stored h 2 x).1
theorem Four.s3 {w : World} {t : TypeId} {k : Nat} {a b c d : Value} (h : Four w t k a b c d) (x : Value) : Four (w.setCell ⟨k, 3, none⟩ x) t k a b c x := (World.ownsRow.stored h 3 x).1
theorem Four.other {w : World} {t : TypeId} {k : Nat} {a b c d : Value} (h : Four w t k a b c d) {k' : Nat} (hk : k ≠ k') (j : Nat) (x : Value) : Four (w.setCell ⟨k', j, none⟩ x) t k a b c d := ownsRow_setCell_other h (by simpa [Value.ownBlock] using hk) x
theorem Four.lt {w : World} {t : TypeId} {k : Nat} {a b c d : Value} (h : Four w t k a b c d) : k < w.heap.size := (World.ownsRow.lt h k rfl).2

set_option maxHeartbeats 1000000 in
theorem szIntS_any (v : Value) (zs : List Int) (n : Int) (w : World) (h0 : 0 ≤ n) (h1 : n ≤ 1048576) (hm : zs.length ≤ maxLen) (hr : VS w v (nums zs)) :
    Calls Tryz.prog 27 #[v, .int .i64 n] w fun e w' => e = .returned (.int .i64 (left1 n zs.length)) ∧ Below w.heap.size w w' := by
  obtain ⟨a, cap, rfl⟩ := hr.numLen
  unfold maxLen at hm
  by_cases c0 : n < zs.length
  · have HR := hid (show left1 n zs.length = -1 from if_neg (by omega))
    go_enter Tryz.func27, Tryz.ntmps27
    go_wp2
    go_ret
    exact ⟨ret_int HR.out.symm, Below.refl _ _⟩
  · have HR := hid (show left1 n zs.length = n - zs.length from if_pos (by omega))
    have d0 : decide (n - (zs.length : Int) < 0) = false := by simp; omega
    go_enter Tryz.func27, Tryz.ntmps27
    go_wp2
    go_ret
    exact ⟨ret_int HR.out.symm, Below.refl _ _⟩

theorem row_slice {w : World} {base : Nat} {e : TypeId} {size n : Nat} {v : Value} {xs : List Value} (h : w.ownsRow base e size v n xs) : ∃ a m c, v = .slice a m c := by
  rcases h.2 with ⟨h, _⟩ | ⟨g, cap, cur, hv, _⟩
  · exact ⟨_, _, _, h⟩
  · exact ⟨_, _, _, hv⟩

theorem row_four {w : World} {base : Nat} {e : TypeId} {size n : Nat} {v : Value} {xs : List Value} (h : w.ownsRow base e size v n xs) {k : Nat} (hk : k < base) (x0 x1 x2 x3 : Value) : ((((w.setCell ⟨k, 0, none⟩ x0).setCell ⟨k, 1, none⟩ x1).setCell ⟨k, 2, none⟩ x2).setCell ⟨k, 3, none⟩ x3).ownsRow base e size v n xs :=
  ownsRow_setCell_below (ownsRow_setCell_below (ownsRow_setCell_below (ownsRow_setCell_below h (a := ⟨k, 0, none⟩) hk x0) (a := ⟨k, 1, none⟩) hk x1) (a := ⟨k, 2, none⟩) hk x2) (a := ⟨k, 3, none⟩) hk x3
theorem below_four {n k : Nat} {w W : World} (h : Below n w W) (hk : n ≤ k) (x0 x1 x2 x3 : Value) : Below n w ((((W.setCell ⟨k, 0, none⟩ x0).setCell ⟨k, 1, none⟩ x1).setCell ⟨k, 2, none⟩ x2).setCell ⟨k, 3, none⟩ x3) :=
  (((h.setCell (p := ⟨k, 0, none⟩) hk x0).setCell (p := ⟨k, 1, none⟩) hk x1).setCell (p := ⟨k, 2, none⟩) hk x2).setCell (p := ⟨k, 3, none⟩) hk x3

def mkN (k n : Nat) : List Int := (List.range n).map (fun i => ((k + i : Nat) : Int))
theorem mkN_len (k n : Nat) : (mkN k n).length = n := by simp [mkN]
theorem mkN_succ (k n : Nat) : mkN k (n + 1) = mkN k n ++ [((k + n : Nat) : Int)] := by
  unfold mkN
  rw [List.range_succ, List.map_append]
  rfl
theorem mkN_at {k n i : Nat} (h : i < (mkN k n).length) : (mkN k n)[i] = ((k + i : Nat) : Int) := by simp [mkN]

set_option maxHeartbeats 1000000 in
theorem markIntS_to (v : Value) (n k base : Nat) (xs : List Value) (w : World) (hn : n ≤ 1048577) (hk : k + n ≤ 8000000) (hrow : w.ownsRow base 3 1 v n xs) :
    Calls Tryz.prog 46 #[v, .int .i64 k] w fun e w' => e = .returned (.int .i64 ((k + n : Nat) : Int)) ∧ w'.ownsRow base 3 1 v n (nums (mkN k n)) ∧ w.grownBy w' v.ownBlock := by
  rcases row_form hrow with ⟨rfl, rfl⟩ | ⟨g, cap, rfl, hg, hcap⟩
  · go_enter Tryz.func46, Tryz.ntmps46
    go_wp2
    refine wp_loop_rounds 1 ?_
    rw [rounds_succ]
    go_wp2
    go_ret
    exact ⟨rfl, World.ownsRow_nil _ _ _ _, grown_self _ _⟩
  · go_enter Tryz.func46, Tryz.ntmps46
    go_wp2
    go_loopw [1, 5] (fun kv i wr => ∃ (j c : Nat), j ≤ n ∧ c = k + j ∧ kv = .int .i64 c ∧ i = .int .i64 j ∧ ∃ ys, wr.ownsRow base 3 1 (.slice (some ⟨g, 0, none⟩) n cap) n ys ∧ ys.take j = nums (mkN k j) ∧ w.grownBy wr (some g)) (fun _ i _ => n - (intOf i).toNat)
    case atStart => exact ⟨0, k, Nat.zero_le _, by omega, rfl, rfl, xs, hrow, by simp [mkN], grown_self _ _⟩
    case round =>
      obtain ⟨j, c, hj, hc, rfl, rfl, ys, row0, hx, hg0⟩ := hrel
      have HX := hid hx
      have HC := hid hc
      clear hx hc hrow
      have hc9 : c ≤ 8000000 := by have := HC.out; omega
      by_cases hlt : j < n
      · have hlen : ys.length = n := by have := row0.1; omega
        have s0 := row0.cellAt j (by omega)
        rw [List.getElem?_eq_getElem (by omega)] at s0
        have t0 := row0.frozenAt j
        have P0 := row0.stored j (.int .i64 (c : Int))
        have HM := hid (show nums (mkN k (j + 1)) = nums (mkN k j) ++ [.int .i64 (c : Int)] by rw [mkN_succ, ← HC.out]; simp [nums])
        go_wp2
        go_roundw
        case rel =>
          refine ⟨j + 1, c + 1, by omega, by have := HC.out; omega, by go_num, by go_num, _, P0.1, ?_, grown_two hg0 P0.2⟩
          rw [take_one _ _ _ (by omega), HX.out, HM.out]
        case measure => simp [intOf]; omega
      · obtain rfl : j = n := by omega
        have HF := hid (show ys = nums (mkN k j) by have := HX.out; rw [List.take_of_length_le (by have := row0.1; omega)] at this; exact this)
        go_wp2
        go_ret
        exact ⟨ret_int (by rw [HC.out]), by rw [← HF.out]; exact row0, hg0⟩

set_option maxHeartbeats 1000000 in
theorem heldIntS_to (v : Value) (n k : Nat) (w : World) (hn : n ≤ 1048577) (hk : k + n ≤ 8000000) (hr : VS w v (nums (mkN k n))) :
    Calls Tryz.prog 50 #[v, .int .i64 k] w fun e w' => e = .returned (.int .i64 ((k + n : Nat) : Int)) ∧ Below w.heap.size w w' := by
  obtain ⟨a, cap, rfl⟩ := hr.numLen
  have hln := mkN_len k n
  rw [hln] at hr ⊢
  clear hln
  go_enter Tryz.func50, Tryz.ntmps50
  go_wp2
  go_loopw [1, 5] (fun kv i wr => ∃ (j c : Nat), j ≤ n ∧ c = k + j ∧ kv = .int .i64 c ∧ i = .int .i64 j ∧ Below w.heap.size w wr) (fun _ i _ => n - (intOf i).toNat)
  case atStart => exact ⟨0, k, Nat.zero_le _, by omega, rfl, rfl, Below.refl _ _⟩
  case round =>
    obtain ⟨j, c, hj, hc, rfl, rfl, hB⟩ := hrel
    have HC := hid hc
    clear hc
    have hc9 : c ≤ 8000000 := by have := HC.out; omega
    by_cases hlt : j < n
    · obtain ⟨b, off, rfl, hb, hcap, q0⟩ := (hr.below hB).num (i := j) (by rw [mkN_len]; exact hlt)
      rw [mkN_at, ← HC.out] at q0
      clear hr
      go_wp2
      go_roundw
      case rel => exact ⟨j + 1, c + 1, by omega, by have := HC.out; omega, by go_num, by go_num, hB⟩
      case measure => simp [intOf]; omega
    · obtain rfl : j = n := by omega
      go_wp2
      go_ret
      exact ⟨ret_int (by rw [HC.out]), hB⟩

/-- Only blocks from lo on, below hi, and new ones have turned. -/
structure Mid (lo hi : Nat) (w w' : World) : Prop where
  os : w'.os = w.os
  tape : w'.tape = w.tape
  output : w'.output = w.output
  size : w.heap.size ≤ w'.heap.size
  block : ∀ k, k < w.heap.size → (k < lo ∨ hi ≤ k) → w'.heap[k]? = w.heap[k]?
theorem Mid.trans {lo hi : Nat} {w w1 w2 : World} (h : Mid lo hi w w1) (h2 : Mid lo hi w1 w2) : Mid lo hi w w2 :=
  ⟨h2.os.trans h.os, h2.tape.trans h.tape, h2.output.trans h.output, Nat.le_trans h.size h2.size, fun k hk hn => (h2.block k (Nat.lt_of_lt_of_le hk h.size) hn).trans (h.block k hk hn)⟩
theorem Mid.of_below {lo hi : Nat} {w w1 : World} (h : Below w.heap.size w w1) : Mid lo hi w w1 :=
  ⟨h.os, h.tape, h.output, h.size, fun k hk _ => h.block k hk⟩
theorem Mid.of_grown {lo hi : Nat} {w w1 : World} {r : Option Nat} (h : w.grownBy w1 r) (hr : ∀ k, r = some k → lo ≤ k ∧ k < hi) : Mid lo hi w w1 :=
  ⟨h.os, h.tape, h.output, h.size, fun k hk hn => h.block k hk (fun e => by have := hr k e.symm; omega)⟩
theorem Mid.below {lo hi n : Nat} {w w1 : World} (h : Mid lo hi w w1) (hn : n ≤ lo) (hs : n ≤ w.heap.size) : Below n w w1 :=
  ⟨h.os, h.tape, h.output, h.size, fun k hk => h.block k (by omega) (.inl (by omega))⟩
theorem Mid.row {lo hi : Nat} {w w1 : World} (h : Mid lo hi w w1) {base : Nat} {e : TypeId} {size n : Nat} {v : Value} {xs : List Value} (hr : w.ownsRow base e size v n xs) (ho : ∀ k, v.ownBlock = some k → k < lo ∨ hi ≤ k) : w1.ownsRow base e size v n xs := by
  refine ⟨hr.1, ?_⟩
  rcases hr.2 with hv | ⟨g, cap, cur, rfl, hg, hb, h4⟩
  · exact .inl hv
  · exact .inr ⟨g, cap, cur, rfl, hg, (h.block g (Array.getElem?_eq_some_iff.1 hb).1 (ho g rfl)).trans hb, h4⟩

theorem Mid.four {lo hi : Nat} {w w1 : World} (h : Mid lo hi w w1) {t : TypeId} {k : Nat} {a b c d : Value} (hr : Four w t k a b c d) (ho : k < lo ∨ hi ≤ k) : Four w1 t k a b c d :=
  h.row hr (fun j hj => by simp [Value.ownBlock] at hj; omega)

theorem Mid.app {lo hi : Nat} {w w1 w2 : World} {r : Option Nat} (h : Mid lo hi w w1) (hg : w1.grownBy w2 r) (hr : ∀ k, r = some k → w.heap.size ≤ k) : Mid lo hi w w2 :=
  ⟨hg.os.trans h.os, hg.tape.trans h.tape, hg.output.trans h.output, Nat.le_trans h.size hg.size, fun k hk hn => (hg.block k (Nat.lt_of_lt_of_le hk h.size) (fun e => by have := hr k e.symm; omega)).trans (h.block k hk hn)⟩
theorem Mid.set {lo hi : Nat} {w w1 : World} (h : Mid lo hi w w1) {p : Addr} (hp : lo ≤ p.block) (hp2 : p.block < hi) (u : Value) : Mid lo hi w (w1.setCell p u) :=
  ⟨h.os, h.tape, h.output, by rw [World.size_setCell]; exact h.size, fun k hk hn => (Below.heap_setCell w1 p u k (by omega)).trans (h.block k hk hn)⟩
theorem row_kind {w : World} {B : Nat} {e : TypeId} {size : Nat} {v : Value} {n : Nat} {xs : List Value} (h : w.ownsRow B e size v n xs) : ∀ g, v.ownBlock = some g → ∃ c, w.heap[g]? = some (.cells c e (0, 0)) := by
  intro g hg
  rcases h.2 with ⟨rfl, _⟩ | ⟨g', cap, cur, rfl, _, hgg, _⟩
  · simp [Value.ownBlock] at hg
  · simp [Value.ownBlock] at hg
    subst hg
    exact ⟨cur, hgg⟩
/-- Rows of different kinds lie apart. -/
theorem row_apart {w : World} {b1 b2 : Nat} {e1 e2 : TypeId} {s1 s2 n1 n2 : Nat} {v1 v2 : Value} {x1 x2 : List Value} (h1 : w.ownsRow b1 e1 s1 v1 n1 x1) (h2 : w.ownsRow b2 e2 s2 v2 n2 x2) (hne : e1 ≠ e2) : ∀ k, v1.ownBlock = some k → v2.ownBlock = some k → False := fun k hk1 hk2 => by
  obtain ⟨c1, g1⟩ := row_kind h1 k hk1
  obtain ⟨c2, g2⟩ := row_kind h2 k hk2
  rw [g1] at g2
  injection g2 with g2
  injection g2 with _ g2 _
  exact hne g2

end Go.Proofs.YtodkpoppgfomeaaGreatDoor

namespace Go.Proofs.YtodkpoppgfomeaaGreatDoor
open Go.RowKit Go.Shelf

abbrev Wk.val (k : Wk) : Value := .agg #[.string k.name, .bool k.live, .int .i64 k.se]
def Wk.fits (k : Wk) : Prop := k.name.size ≤ maxLen
/-- A work lies in memory. -/
def WkAt (w : World) (b o : Nat) (k : Wk) : Prop := w.cell? ⟨b, o, none⟩ = some (.string k.name) ∧ w.cell? ⟨b, o + 1, none⟩ = some (.bool k.live) ∧ w.cell? ⟨b, o + 2, none⟩ = some (.int .i64 k.se)
/-- A slice reads as this list of works. -/
def WkS (w : World) (v : Value) (ks : List Wk) : Prop :=
  (∃ a cap, v = .slice a 0 cap ∧ ks = []) ∨
  ∃ b off cap, v = .slice (some ⟨b, off, none⟩) ks.length cap ∧ b < w.heap.size ∧ ks.length ≤ cap ∧ ∀ i (h : i < ks.length), WkAt w b (off + i * 3) ks[i]
theorem WkAt.below {w w' : World} {b o : Nat} {k : Wk} (h : WkAt w b o k) (hb : b < w.heap.size) (hB : Below w.heap.size w w') : WkAt w' b o k :=
  ⟨(hB.cell (p := ⟨b, o, none⟩) hb).trans h.1, (hB.cell (p := ⟨b, o + 1, none⟩) hb).trans h.2.1, (hB.cell (p := ⟨b, o + 2, none⟩) hb).trans h.2.2⟩
theorem WkS.below {w w' : World} {v : Value} {ks : List Wk} (h : WkS w v ks) (hB : Below w.heap.size w w') : WkS w' v ks := by
  rcases h with h | ⟨b, off, cap, hv, hb, hl, hc⟩
  · exact .inl h
  · exact .inr ⟨b, off, cap, hv, Nat.lt_of_lt_of_le hb hB.size, hl, fun k hk => (hc k hk).below hb hB⟩
theorem WkS.len {w : World} {v : Value} {ks : List Wk} (h : WkS w v ks) : ∃ a cap, v = .slice a ks.length cap := by
  rcases h with ⟨a, cap, hv, rfl⟩ | ⟨b, off, cap, hv, _⟩
  · exact ⟨a, cap, hv⟩
  · exact ⟨_, cap, hv⟩
theorem WkS.at {w : World} {a : Option Addr} {n cap : Nat} {ks : List Wk} (h : WkS w (.slice a n cap) ks) {i : Nat} (hi : i < ks.length) : ∃ b off, a = some ⟨b, off, none⟩ ∧ b < w.heap.size ∧ n ≤ cap ∧ WkAt w b (off + i * 3) ks[i] := by
  rcases h with ⟨_, _, _, rfl⟩ | ⟨b, off, cap, hv, hb, hl, hc⟩
  · simp at hi
  · cases hv
    exact ⟨b, off, rfl, hb, hl, hc i hi⟩

set_option maxRecDepth 100000 in
theorem cellsWork : Tryz.prog.cellsOf 113 = 3 := by kernel_rfl
set_option maxRecDepth 100000 in
open Go.Deep Go.ChangeShapes Go.WideShapes Go.Joins in
/-- A list of works that comes in. -/
theorem openWkR {H : Type} {enc : TypeId × Value → H} {W : World} {c0 : Value} {d : DataW H × List MemPlace} {fuel : Nat} (hf : DataW.trod enc Tryz.prog W 0 (fun _ => true) true fuel 22 [c0] = some d) :
    ∃ (a : Option Addr) (n c : Nat) (ks : List Wk), c0 = .slice a n c ∧ WkS W (.slice a n c) ks ∧ ks.length = n ∧ n ≤ maxLen ∧ ∀ k ∈ ks, k.fits := by
  rcases open_slice Tryz.underlying22 hf with ⟨hcs, _⟩ | ⟨x, n, c, m, k, D, Pl, hcs, _, hl, hm, hmm, _, hx⟩
  · simp at hcs
    subst hcs
    exact ⟨_, _, _, [], rfl, .inl ⟨_, _, rfl, rfl⟩, rfl, Nat.zero_le _, fun r hr => by cases hr⟩
  · simp at hcs
    subst hcs
    have hlm : n ≤ m := by rw [hmm]; simpa using hl
    have each : ∀ i, i < n → ∃ r : Wk, (W.cell? (x.add (i * 3)) = some (.string r.name) ∧ W.cell? (x.add (i * 3 + 1)) = some (.bool r.live) ∧ W.cell? (x.add (i * 3 + 2)) = some (.int .i64 r.se)) ∧ r.fits := by
      intro i hi
      obtain ⟨cs', h1, h2⟩ := hx i (by omega)
      rw [cellsWork] at h1
      obtain ⟨_, hlen, hcell⟩ := World.cells?_some h1
      obtain ⟨xs, m', _, _, _, hxl, hfl⟩ := DataW.trod_struct Tryz.underlying113 h2
      match cs', hlen, xs, hxl with
      | [v0, v1, v2], _, [y0, y1, y2], _ =>
        have g0 := hfl 0 _ rfl
        have g1 := hfl 1 _ rfl
        have g2 := hfl 2 _ rfl
        have e0 := hcell 0 (by omega)
        have e1 := hcell 1 (by omega)
        have e2 := hcell 2 (by omega)
        rw [add_add] at e0 e1 e2
        have c1 : Tryz.prog.cellsOf 3 = 1 := by kernel_rfl
        have c2 : Tryz.prog.cellsOf 9 = 1 := by kernel_rfl
        have c3 : Tryz.prog.cellsOf 4 = 1 := by kernel_rfl
        simp [c1, c2, c3] at g0 g1 g2
        obtain ⟨x0, f0, _, w0⟩ := DataW.trod_string Tryz.underlying9 g0
        obtain ⟨x1, f1, _⟩ := DataW.trod_bool Tryz.underlying4 g1
        obtain ⟨x2, f2, _, _⟩ := DataW.trod_int Tryz.underlying3 g2
        simp at f0 f1 f2
        subst f0 f1 f2
        exact ⟨⟨x0, x1, x2⟩, ⟨by simpa using e0, by simpa using e1, by simpa using e2⟩, w0⟩
    have hin : Inhabited Wk := ⟨⟨ByteArray.empty, false, 0⟩⟩
    obtain ⟨q, hq⟩ := choose_lt each
    by_cases h0 : n = 0
    · subst h0
      exact ⟨_, _, _, [], rfl, .inl ⟨_, _, rfl, rfl⟩, rfl, Nat.zero_le _, fun r hr => by cases hr⟩
    · obtain ⟨b, off, spot⟩ := x
      have hs : spot = none := by simpa [Addr.add] using World.cell?_spot (hq 0 (by omega)).1.1
      subst hs
      have hlt : b < W.heap.size := by
        have := (hq 0 (by omega)).1.1
        rw [Addr.add_lit] at this
        by_cases hb : b < W.heap.size
        · exact hb
        · simp only [World.cell?] at this
          rw [Array.getElem?_eq_none (by omega)] at this
          cases this
      refine ⟨_, _, _, (List.range n).map q, rfl, .inr ⟨b, off, c, by simp, hlt, by simpa using hl, fun k hk => ?_⟩, by simp, by omega, ?_⟩
      · have hk' : k < n := by simpa using hk
        have := (hq k hk').1
        simp only [Addr.add_lit, ← Nat.add_assoc] at this
        simpa [WkAt] using this
      · intro r hr
        obtain ⟨i, hi, rfl⟩ := List.mem_map.1 hr
        exact (hq i (List.mem_range.1 hi)).2

/-- An issuer in memory: its lists read as these. -/
structure IsA (w : World) (v : Value) (s : Is) : Prop where
  mk ::
  parts : ∃ vw vr vs, v = .agg #[vw, .int .i64 s.nx, vr, vs] ∧ WkS w vw s.ws ∧ VS w vr (nums s.rv) ∧ VS w vs (strs s.sg)
theorem IsA.below {w w' : World} {v : Value} {s : Is} (h : IsA w v s) (hB : Below w.heap.size w w') : IsA w' v s := by
  obtain ⟨vw, vr, vs, rfl, h1, h2, h3⟩ := h.parts
  exact ⟨_, _, _, rfl, h1.below hB, h2.below hB, h3.below hB⟩
def Is.fits (s : Is) : Prop := s.ws.length ≤ maxLen ∧ (∀ k ∈ s.ws, k.fits) ∧ s.rv.length ≤ maxLen ∧ s.sg.length ≤ maxLen ∧ ∀ x ∈ s.sg, x.size ≤ maxLen

set_option maxRecDepth 100000 in
theorem cellsIssuer : Tryz.prog.cellsOf 26 = 4 := by kernel_rfl
set_option maxRecDepth 100000 in
open Go.Deep Go.ChangeShapes Go.WideShapes Go.ChangeAt Go.Joins in
/-- An issuer that comes in. -/
theorem openIs {H : Type} {enc : TypeId × Value → H} {W : World} {base : Nat} {v : Value} {d : DataW H} {p : List MemPlace} (hv : Value.okWide Tryz.prog W .any base 26 v) (h : DataW.Trod enc Tryz.prog W 0 (fun _ => true) true 26 v d p) :
    ∃ s : Is, IsA W v s ∧ s.fits := by
  obtain ⟨c0, c1, c2, c3, y0, y1, y2, y3, m, rfl, _, _, h0, h1, h2, h3⟩ := open_agg4 Tryz.underlying26 (by kernel_rfl) cellsIssuer hv h
  obtain ⟨a0, n0, k0, ws, rfl, r0, rfl, l0, f0⟩ := openWkR h0
  obtain ⟨x1, e1, _, _⟩ := DataW.trod_int Tryz.underlying3 h1
  obtain ⟨a2, n2, k2, rv, rfl, r2, rfl, l2⟩ := openInR h2
  obtain ⟨a3, n3, k3, sg, rfl, r3, rfl, l3, f3⟩ := openStR h3
  simp only [List.cons.injEq, and_true] at e1
  subst e1
  exact ⟨⟨ws, x1, rv, sg⟩, ⟨_, _, _, rfl, r0, r2, r3⟩, l0, f0, l2, l3, f3⟩

def wzTo (ks : List Wk) (n : Nat) : Nat := ((ks.take n).map (fun k => k.name.size)).sum
def wzAll (ks : List Wk) : Nat := ks.length + wzTo ks ks.length
theorem wzTo_zero (ks : List Wk) : wzTo ks 0 = 0 := by simp [wzTo]
theorem wzTo_succ {ks : List Wk} {n : Nat} (h : n < ks.length) : wzTo ks (n + 1) = wzTo ks n + ks[n].name.size := by
  unfold wzTo
  rw [List.take_succ_eq_append_getElem h, List.map_append, List.sum_append]
  simp
theorem wzTo_le (ks : List Wk) (n : Nat) : wzTo ks n ≤ wzTo ks ks.length := by
  unfold wzTo
  rw [List.take_length]
  conv => rhs; rw [← List.take_append_drop n ks, List.map_append, List.sum_append]
  omega
theorem wz_mem {ks : List Wk} {k : Wk} (h : k ∈ ks) : k.name.size ≤ wzTo ks ks.length := by
  unfold wzTo
  rw [List.take_length]
  exact sum_mem (List.mem_map.2 ⟨k, h, rfl⟩)
def leftW (n : Int) (ks : List Wk) : Int := if (wzAll ks : Int) ≤ n then n - wzAll ks else -1
/-- What the laws count of an issuer. -/
def Is.size (s : Is) : Nat := wzAll s.ws + s.rv.length + tzAll s.sg
def leftI (n : Int) (s : Is) : Int := if (s.size : Int) ≤ n then n - s.size else -1

set_option maxHeartbeats 1000000 in
theorem szWork_any (k : Wk) (n : Int) (w : World) (h0 : 0 ≤ n) (h1 : n ≤ 1048576) (ha : k.name.size ≤ maxLen) :
    Calls Tryz.prog 79 #[k.val, .int .i64 n] w fun e w' => e = .returned (.int .i64 (left1 n k.name.size)) ∧ Below w.heap.size w w' := by
  unfold maxLen at ha
  by_cases c1 : n < k.name.size
  · have HR := hid (show left1 n k.name.size = -1 from if_neg (by omega))
    go_enter Tryz.func79, Tryz.ntmps79
    go_wp2
    go_ret
    exact ⟨ret_int HR.out.symm, (Below.refl _ w).alloc (Nat.le_refl _) _⟩
  · have HR := hid (show left1 n k.name.size = n - k.name.size from if_pos (by omega))
    go_enter Tryz.func79, Tryz.ntmps79
    go_wp2
    go_ret
    exact ⟨ret_int HR.out.symm, (Below.refl _ w).alloc (Nat.le_refl _) _⟩

set_option maxHeartbeats 1000000 in
theorem szWorkS_any (v : Value) (rs : List Wk) (n : Int) (w : World) (h0 : 0 ≤ n) (h1 : n ≤ 1048576) (hm : rs.length ≤ maxLen) (hf : ∀ r ∈ rs, r.fits) (hr : WkS w v rs) :
    Calls Tryz.prog 26 #[v, .int .i64 n] w fun e w' => e = .returned (.int .i64 (leftW n rs)) ∧ Below w.heap.size w w' := by
  obtain ⟨a, cap, rfl⟩ := hr.len
  unfold maxLen at hm
  by_cases c0 : n < rs.length
  · have HR := hid (show leftW n rs = -1 from if_neg (by unfold wzAll; omega))
    go_enter Tryz.func26, Tryz.ntmps26
    go_wp2
    go_ret
    exact ⟨ret_int HR.out.symm, Below.refl _ _⟩
  · have d0 : decide (n - (rs.length : Int) < 0) = false := by simp; omega
    go_enter Tryz.func26, Tryz.ntmps26
    go_wp2
    go_loopw [1, 5] (fun m i wr => ∃ k : Nat, k ≤ rs.length ∧ i = .int .i64 k ∧ m = .int .i64 (n - rs.length - wzTo rs k) ∧ 0 ≤ n - rs.length - wzTo rs k ∧ Below w.heap.size w wr) (fun _ i _ => rs.length - (intOf i).toNat)
    case atStart => exact ⟨0, Nat.zero_le _, rfl, by rw [wzTo_zero]; go_num, by rw [wzTo_zero]; omega, Below.refl _ _⟩
    case round =>
      obtain ⟨k, hk, rfl, rfl, hp, hB⟩ := hrel
      by_cases hlt : k < rs.length
      · obtain ⟨b, off, rfl, hb, hcap, q0, q1, q2⟩ := (hr.below hB).at hlt
        have f1 := hf rs[k] (List.getElem_mem hlt)
        have HS := hid (wzTo_succ hlt)
        have HT := hid (wzTo_le rs (k + 1))
        generalize rs[k] = r at *
        go_wp2_with fail
        refine (szWork_any r _ _ hp (by omega) f1).mono ?_
        rintro e w1 ⟨rfl, hB1⟩
        have hB2 := below_one hB hB1
        by_cases c1 : (r.name.size : Int) ≤ n - rs.length - wzTo rs k
        · have hv : left1 (n - rs.length - wzTo rs k) r.name.size = n - rs.length - wzTo rs (k + 1) := by
            rw [HS.out]
            unfold left1
            rw [if_pos (by omega)]
            omega
          have hq : 0 ≤ n - rs.length - wzTo rs (k + 1) := by rw [HS.out]; omega
          rw [hv]
          have d1 : decide (n - (rs.length : Int) - (wzTo rs (k + 1) : Int) < 0) = false := by simp; omega
          clear hv hB1 q0 q1 q2
          go_wp2_with fail
          go_roundw
          case rel => exact ⟨k + 1, by omega, by go_num, rfl, hq, hB2⟩
          case measure => simp [intOf]; omega
        · have hv : left1 (n - rs.length - wzTo rs k) r.name.size = -1 := if_neg (by omega)
          have HR := hid (show leftW n rs = -1 from if_neg (by have := HT.out; rw [HS.out] at this; unfold wzAll; omega))
          rw [hv]
          clear hv hB1 q0 q1 q2
          go_wp2_with fail
          go_ret
          exact ⟨ret_int HR.out.symm, hB2⟩
      · obtain rfl : k = rs.length := by omega
        have HR := hid (show leftW n rs = n - rs.length - wzTo rs rs.length by unfold leftW wzAll; rw [if_pos (by omega)]; omega)
        go_wp2
        go_ret
        exact ⟨ret_int HR.out.symm, hB⟩

abbrev Wk.cells (k : Wk) : List Value := [.string k.name, .bool k.live, .int .i64 k.se]
theorem wflat_len (ks : List Wk) : (ks.flatMap Wk.cells).length = ks.length * 3 := by
  induction ks with
  | nil => rfl
  | cons r rs ih => rw [List.flatMap_cons, List.length_append, ih]; simp; omega
theorem wflat_at (rs : List Wk) : ∀ (k j : Nat) (h : k < rs.length), j < 3 → (rs.flatMap Wk.cells)[k * 3 + j]? = rs[k].cells[j]? := by
  induction rs with
  | nil => intro k j h; simp at h
  | cons r rs ih =>
    intro k j h hj
    rw [List.flatMap_cons]
    cases k with
    | zero => rw [List.getElem?_append_left (by simp; omega)]; simp
    | succ k =>
      rw [List.getElem?_append_right (by simp; omega)]
      have := ih k j (by simpa using h) hj
      rw [show (k + 1) * 3 + j - r.cells.length = k * 3 + j by simp; omega]
      simpa using this
/-- A slice of works of one's own reads as its list. -/
theorem WkS.own {w : World} {base : Nat} {v : Value} {rs : List Wk} (h : w.ownsRow base 97 3 v rs.length (rs.flatMap Wk.cells)) : WkS w v rs := by
  rcases h.2 with ⟨rfl, h0⟩ | ⟨g, cap, cur, rfl, hg, hb, hle, _⟩
  · exact .inl ⟨none, 0, rfl, List.eq_nil_of_length_eq_zero h0⟩
  · refine .inr ⟨g, 0, cap, rfl, (Array.getElem?_eq_some_iff.1 hb).1, hle, fun k hk => ?_⟩
    have hc : ∀ j, j < 3 → w.cell? ⟨g, k * 3 + j, none⟩ = rs[k].cells[j]? := fun j hj => by rw [h.cellAt (k * 3 + j) (by omega), wflat_at rs k j hk hj]
    have h0 := hc 0 (by omega)
    have h1 := hc 1 (by omega)
    have h2 := hc 2 (by omega)
    simp only [Nat.add_zero, List.getElem?_cons_zero, List.getElem?_cons_succ] at h0 h1 h2
    exact ⟨by rw [Nat.zero_add]; exact h0, by rw [Nat.zero_add]; exact h1, by rw [Nat.zero_add]; exact h2⟩
theorem infoWork : (Tryz.prog.info? 97).map (fun i => (i.zero, i.size, i.bytes)) = some (some (.agg #[.string ByteArray.empty, .bool false, .int .i64 0]), 3, 32) := by kernel_rfl

set_option maxHeartbeats 1000000 in
theorem toWork_any (k : Wk) (w : World) :
    Calls Tryz.prog 85 #[k.val] w fun e w' => e = .returned k.val ∧ Below w.heap.size w w' := by
  go_enter Tryz.func85, Tryz.ntmps85
  go_wp2
  exact bodyPost_ret (v := k.val) (by simp [results, Tryz.results85, go_sem]) rfl ⟨rfl, (((Below.refl _ w).alloc (Nat.le_refl _) _).alloc (by simp) _).alloc (by simp; omega) _⟩

set_option maxHeartbeats 2000000 in
theorem toWorkS_any (v : Value) (rs : List Wk) (w : World) (hm : rs.length ≤ 1048576) (hr : WkS w v rs) :
    Calls Tryz.prog 36 #[v] w fun e w' => ∃ v', e = .returned v' ∧ w'.ownsRow w.heap.size 97 3 v' rs.length (rs.flatMap Wk.cells) ∧ Below w.heap.size w w' := by
  obtain ⟨a, cap, rfl⟩ := hr.len
  obtain ⟨i0, hi, hz0, hz1, hz2⟩ := info_parts infoWork
  go_enter Tryz.func36, Tryz.ntmps36
  go_wp2_with (at_make; refine wpList_make_full _ rfl _ _ 28 rfl w.heap.size 97 i0 _ 3 Tryz.underlying28 hi hz0 hz1 _ _ _ _ rs.length rfl rfl rfl rfl (by rw [hz2]; omega) (by unfold maxLen; omega) (Nat.le_refl _) ?_; intro w1 hown hgrow)
  have hB1 : Below w.heap.size w w1 := (Below.refl _ w).grown hgrow (Nat.le_refl _) (fun k e => by cases e)
  go_loopw [4] (fun i wr => ∃ k : Nat, k ≤ rs.length ∧ i = .int .i64 k ∧ ∃ xs, wr.ownsRow w.heap.size 97 3 (.slice (some ⟨w.heap.size, 0, none⟩) rs.length rs.length) rs.length xs ∧ xs.take (k * 3) = (rs.take k).flatMap Wk.cells ∧ Below w.heap.size w wr) (fun i _ => rs.length - (intOf i).toNat)
  case atStart => exact ⟨0, Nat.zero_le _, rfl, _, hown, by simp, hB1⟩
  case round =>
    obtain ⟨k, hk, rfl, xs, hrow, hx, hB⟩ := hrel
    have HX := hid hx
    clear hx
    by_cases hlt : k < rs.length
    · obtain ⟨b, off, rfl, hb, hcap, q0, q1, q2⟩ := (hr.below hB).at hlt
      have HT := hid (List.take_succ_eq_append_getElem hlt)
      generalize rs[k] = r at *
      go_wp2_with fail
      refine (toWork_any r _).mono ?_
      rintro e w2 ⟨rfl, hB2⟩
      have hrow2 := ownsRow_below hrow hB2
      have hB3 := below_one hB hB2
      have hlen : xs.length = rs.length * 3 := hrow2.1
      have s0 := hrow2.cellAt (k * 3) (by omega)
      have s1 := hrow2.cellAt (k * 3 + 1) (by omega)
      have s2 := hrow2.cellAt (k * 3 + 2) (by omega)
      rw [List.getElem?_eq_getElem (by omega)] at s0 s1 s2
      have t0 := hrow2.frozenAt (k * 3)
      have t1 := hrow2.frozenAt (k * 3 + 1)
      have t2 := hrow2.frozenAt (k * 3 + 2)
      generalize xs[k * 3] = y0 at *
      generalize xs[k * 3 + 1] = y1 at *
      generalize xs[k * 3 + 2] = y2 at *
      clear q0 q1 q2 hB2
      go_wp2_with fail
      go_roundw
      case rel =>
        refine ⟨k + 1, by omega, by go_num, _, ((hrow2.stored (k * 3) (.string r.name)).1.stored (k * 3 + 1) (.bool r.live)).1.stored (k * 3 + 2) (.int .i64 r.se) |>.1, ?_, ((hB3.setCell (p := ⟨w.heap.size, _, none⟩) (Nat.le_refl _) _).setCell (p := ⟨w.heap.size, _, none⟩) (Nat.le_refl _) _).setCell (p := ⟨w.heap.size, _, none⟩) (Nat.le_refl _) _⟩
        rw [take_set3 _ _ _ _ _ (by omega), HX.out, HT.out, List.flatMap_append]
        simp
      case measure => simp [intOf]; omega
    · obtain rfl : k = rs.length := by omega
      have HF := hid (show xs = rs.flatMap Wk.cells by have := HX.out; rw [List.take_of_length_le (by have := hrow.1; omega), List.take_length] at this; exact this)
      go_wp2
      go_ret
      exact ⟨_, rfl, by rw [← HF.out]; exact hrow, hB⟩

end Go.Proofs.YtodkpoppgfomeaaGreatDoor

namespace Go.Proofs.YtodkpoppgfomeaaGreatDoor
open Go.RowKit Go.Shelf

set_option maxHeartbeats 1000000 in
theorem eqWork_same (r : Wk) (w : World) :
    Calls Tryz.prog 91 #[r.val, r.val] w fun e w' => e = .returned (.bool true) ∧ Below w.heap.size w w' := by
  have e0 : (r.name.toList == r.name.toList) = true := by simp
  have e1 : (r.live != r.live) = false := by simp
  have e2 : (r.se != r.se) = false := by simp
  go_enter Tryz.func91, Tryz.ntmps91
  go_wp2
  go_ret
  exact ⟨rfl, ((Below.refl _ w).alloc (Nat.le_refl _) _).alloc (by simp) _⟩

set_option maxHeartbeats 2000000 in
/-- A list of works is like itself, wherever the two lie. -/
theorem eqWorkS_same (v v' : Value) (ks : List Wk) (w : World) (hn : ks.length ≤ 1048577) (hr : WkS w v ks) (hr' : WkS w v' ks) :
    Calls Tryz.prog 41 #[v, v'] w fun e w' => e = .returned (.bool true) ∧ Below w.heap.size w w' := by
  obtain ⟨a, cap, rfl⟩ := hr.len
  obtain ⟨a', cap', rfl⟩ := hr'.len
  have e0 : ((ks.length : Int) != (ks.length : Int)) = false := by simp
  go_enter Tryz.func41, Tryz.ntmps41
  go_wp2
  go_loopw [5] (fun i wr => ∃ j : Nat, j ≤ ks.length ∧ i = .int .i64 j ∧ Below w.heap.size w wr) (fun i _ => ks.length - (intOf i).toNat)
  case atStart => exact ⟨0, Nat.zero_le _, rfl, Below.refl _ _⟩
  case round =>
    obtain ⟨j, hj, rfl, hB⟩ := hrel
    by_cases hlt : j < ks.length
    · obtain ⟨b, off, rfl, hb, hcap, q0, q1, q2⟩ := (hr.below hB).at hlt
      obtain ⟨b', off', rfl, hb', hcap', p0, p1, p2⟩ := (hr'.below hB).at hlt
      generalize ks[j] = r at *
      go_wp2_with fail
      go_region_with (go_at_call 91; refine (eqWork_same r _).mono ?_; rintro e w1 ⟨rfl, hB1⟩)
      all_goals go_wp2
      all_goals go_roundw
      all_goals first
        | exact ⟨j + 1, by omega, by go_num, below_one hB (below_drew1 hB1)⟩
        | (simp [intOf]; omega)
    · obtain rfl : j = ks.length := by omega
      go_wp2
      go_ret
      exact ⟨rfl, hB⟩

/-- No list of an issuer is longer than the laws take. -/
def Is.short (s : Is) : Prop := s.ws.length ≤ 1048577 ∧ s.rv.length ≤ 1048577 ∧ s.sg.length ≤ 1048577
set_option maxHeartbeats 2000000 in
/-- An issuer is like itself, wherever the two lie. -/
theorem eqIssuer_same (v v' : Value) (s : Is) (w : World) (hs : s.short) (h : IsA w v s) (h' : IsA w v' s) :
    Calls Tryz.prog 10 #[v, v'] w fun e w' => e = .returned (.bool true) ∧ Below w.heap.size w w' := by
  obtain ⟨vw, vr, vs, rfl, h1, h2, h3⟩ := h.parts
  obtain ⟨vw', vr', vs', rfl, h1', h2', h3'⟩ := h'.parts
  obtain ⟨l1, l2, l3⟩ := hs
  have hB0 : Below w.heap.size w ((w.alloc (.cells #[vw, .int .i64 s.nx, vr, vs] 30)).alloc (.cells #[vw', .int .i64 s.nx, vr', vs'] 30)) := ((Below.refl _ w).alloc (Nat.le_refl _) _).alloc (by simp) _
  have F1 := (Four.new w vw (.int .i64 s.nx) vr vs 30).below ((Below.refl _ _).alloc (Nat.le_refl _) (.cells #[vw', .int .i64 s.nx, vr', vs'] 30))
  have F2 := Four.at (w.alloc (.cells #[vw, .int .i64 s.nx, vr, vs] 30)) vw' (.int .i64 s.nx) vr' vs' 30 (k := w.heap.size + 1) (by simp)
  have e1 : (s.nx != s.nx) = false := by simp
  go_enter Tryz.func10, Tryz.ntmps10
  go_wp2_with fail
  generalize (w.alloc (.cells #[vw, .int .i64 s.nx, vr, vs] 30)).alloc (.cells #[vw', .int .i64 s.nx, vr', vs'] 30) = W0 at *
  refine (eqWorkS_same vw vw' s.ws _ l1 (h1.below hB0) (h1'.below hB0)).mono ?_
  rintro e w1 ⟨rfl, hB1⟩
  replace F1 := F1.below hB1
  replace F2 := F2.below hB1
  have hBB1 := below_one hB0 hB1
  clear hB1 hB0
  obtain ⟨a0, a1, a2, a3⟩ := F1.c
  obtain ⟨c0, c1, c2, c3⟩ := F2.c
  go_wp2_with fail
  refine (eqIntS_same vr vr' s.rv _ l2 (h2.below hBB1) (h2'.below hBB1)).mono ?_
  rintro e w2 ⟨rfl, hB2⟩
  replace F1 := F1.below hB2
  replace F2 := F2.below hB2
  have hBB2 := below_one hBB1 hB2
  clear a0 a1 a2 a3 c0 c1 c2 c3 hB2
  obtain ⟨a0, a1, a2, a3⟩ := F1.c
  obtain ⟨c0, c1, c2, c3⟩ := F2.c
  go_wp2_with fail
  refine (eqStringS_any vs vs' s.sg _ l3 (h3.below hBB2) (h3'.below hBB2)).mono ?_
  rintro e w3 ⟨rfl, hB3⟩
  go_wp2_with fail
  go_ret
  exact ⟨rfl, below_one hBB2 hB3⟩

set_option maxHeartbeats 2000000 in
theorem szIssuer_any (v : Value) (s : Is) (w : World) (hf : s.fits) (h : IsA w v s) :
    Calls Tryz.prog 6 #[v, .int .i64 1048576] w fun e w' => e = .returned (.int .i64 (leftI 1048576 s)) ∧ Below w.heap.size w w' := by
  obtain ⟨vw, vr, vs, rfl, h1, h2, h3⟩ := h.parts
  obtain ⟨l1, f1, l2, l3, f3⟩ := hf
  have hB0 : Below w.heap.size w (w.alloc (.cells #[vw, .int .i64 s.nx, vr, vs] 26)) := (Below.refl _ w).alloc (Nat.le_refl _) _
  have F1 := Four.new w vw (.int .i64 s.nx) vr vs 26
  have HI := hid (show leftI 1048576 s = if (s.size : Int) ≤ 1048576 then (1048576 : Int) - (s.size : Int) else (-1 : Int) from rfl)
  have HZ := hid (show s.size = wzAll s.ws + s.rv.length + tzAll s.sg from rfl)
  go_enter Tryz.func6, Tryz.ntmps6
  go_wp2_with fail
  generalize w.alloc (.cells #[vw, .int .i64 s.nx, vr, vs] 26) = W0 at *
  refine (szWorkS_any vw s.ws 1048576 _ (by omega) (by omega) l1 f1 (h1.below hB0)).mono ?_
  rintro e w1 ⟨rfl, hB1⟩
  replace F1 := F1.below hB1
  have hBB1 := below_one hB0 hB1
  clear hB1 hB0
  obtain ⟨a0, a1, a2, a3⟩ := F1.c
  by_cases c1 : (wzAll s.ws : Int) ≤ 1048576
  · rw [show leftW 1048576 s.ws = 1048576 - wzAll s.ws from if_pos c1]
    have d1 : decide ((1048576 : Int) - (wzAll s.ws : Int) < 0) = false := by simp; omega
    go_wp2_with fail
    refine (szIntS_any vr s.rv _ _ (by omega) (by omega) l2 (h2.below hBB1)).mono ?_
    rintro e w2 ⟨rfl, hB2⟩
    replace F1 := F1.below hB2
    have hBB2 := below_one hBB1 hB2
    clear hB2 a0 a1 a2 a3
    obtain ⟨a0, a1, a2, a3⟩ := F1.c
    by_cases c2 : (s.rv.length : Int) ≤ 1048576 - wzAll s.ws
    · rw [show left1 (1048576 - (wzAll s.ws : Int)) s.rv.length = 1048576 - wzAll s.ws - s.rv.length from if_pos c2]
      have d2 : decide ((1048576 : Int) - (wzAll s.ws : Int) - (s.rv.length : Int) < 0) = false := by simp; omega
      go_wp2_with fail
      refine (szStringS_any vs s.sg _ _ (by omega) (by omega) l3 f3 (h3.below hBB2)).mono ?_
      rintro e w3 ⟨rfl, hB3⟩
      have hBB3 := below_one hBB2 hB3
      clear hB3 a0 a1 a2 a3
      by_cases c3 : (tzAll s.sg : Int) ≤ 1048576 - wzAll s.ws - s.rv.length
      · rw [show leftT (1048576 - (wzAll s.ws : Int) - (s.rv.length : Int)) s.sg = 1048576 - wzAll s.ws - s.rv.length - tzAll s.sg from if_pos c3]
        have d3 : decide ((1048576 : Int) - (wzAll s.ws : Int) - (s.rv.length : Int) - (tzAll s.sg : Int) < 0) = false := by simp; omega
        have HR := hid (show leftI 1048576 s = 1048576 - wzAll s.ws - s.rv.length - tzAll s.sg by rw [HI.out, if_pos (by rw [HZ.out]; push_cast; omega), HZ.out]; push_cast; omega)
        go_wp2_with fail
        go_ret
        exact ⟨ret_int HR.out.symm, hBB3⟩
      · rw [show leftT (1048576 - (wzAll s.ws : Int) - (s.rv.length : Int)) s.sg = -1 from if_neg c3]
        have HR := hid (show leftI 1048576 s = -1 by rw [HI.out, if_neg (by rw [HZ.out]; push_cast; omega)])
        go_wp2_with fail
        go_ret
        exact ⟨ret_int HR.out.symm, hBB3⟩
    · rw [show left1 (1048576 - (wzAll s.ws : Int)) s.rv.length = -1 from if_neg c2]
      have HR := hid (show leftI 1048576 s = -1 by rw [HI.out, if_neg (by rw [HZ.out]; push_cast; omega)])
      go_wp2_with fail
      go_ret
      exact ⟨ret_int HR.out.symm, hBB2⟩
  · rw [show leftW 1048576 s.ws = -1 from if_neg c1]
    have HR := hid (show leftI 1048576 s = -1 by rw [HI.out, if_neg (by rw [HZ.out]; push_cast; omega)])
    go_wp2_with fail
    go_ret
    exact ⟨ret_int HR.out.symm, hBB1⟩

/-- An issuer of one's own: its lists lie in blocks from base on, below top. -/
def IsO (w : World) (base top : Nat) (v : Value) (s : Is) : Prop :=
  ∃ vw vr vs, v = .agg #[vw, .int .i64 s.nx, vr, vs] ∧ w.ownsRow base 97 3 vw s.ws.length (s.ws.flatMap Wk.cells) ∧ w.ownsRow base 3 1 vr s.rv.length (nums s.rv) ∧ w.ownsRow base 9 1 vs s.sg.length (strs s.sg) ∧ (∀ k, vw.ownBlock = some k → k < top) ∧ (∀ k, vr.ownBlock = some k → k < top) ∧ ∀ k, vs.ownBlock = some k → k < top
theorem IsO.a {w : World} {base top : Nat} {v : Value} {s : Is} (h : IsO w base top v s) : IsA w v s := by
  obtain ⟨vw, vr, vs, rfl, h1, h2, h3, _⟩ := h
  exact ⟨vw, vr, vs, rfl, WkS.own h1, VS.ownN h2, VS.ownS h3⟩
theorem IsO.below {w w' : World} {base top : Nat} {v : Value} {s : Is} (h : IsO w base top v s) (hB : Below w.heap.size w w') : IsO w' base top v s := by
  obtain ⟨vw, vr, vs, rfl, h1, h2, h3, t1, t2, t3⟩ := h
  exact ⟨vw, vr, vs, rfl, ownsRow_below h1 hB, ownsRow_below h2 hB, ownsRow_below h3 hB, t1, t2, t3⟩
theorem IsO.of {w : World} {base : Nat} {vw vr vs : Value} {s : Is} (h1 : w.ownsRow base 97 3 vw s.ws.length (s.ws.flatMap Wk.cells)) (h2 : w.ownsRow base 3 1 vr s.rv.length (nums s.rv)) (h3 : w.ownsRow base 9 1 vs s.sg.length (strs s.sg)) : IsO w base w.heap.size (.agg #[vw, .int .i64 s.nx, vr, vs]) s :=
  ⟨vw, vr, vs, rfl, h1, h2, h3, fun k hk => (h1.lt k hk).2, fun k hk => (h2.lt k hk).2, fun k hk => (h3.lt k hk).2⟩
theorem IsO.mono {w : World} {base base' top top' : Nat} {v : Value} {s : Is} (h : IsO w base top v s) (hb : base' ≤ base) (ht : top ≤ top') : IsO w base' top' v s := by
  obtain ⟨vw, vr, vs, rfl, h1, h2, h3, t1, t2, t3⟩ := h
  exact ⟨vw, vr, vs, rfl, Go.Joins.ownsRow_le h1 hb, Go.Joins.ownsRow_le h2 hb, Go.Joins.ownsRow_le h3 hb, fun k hk => Nat.lt_of_lt_of_le (t1 k hk) ht, fun k hk => Nat.lt_of_lt_of_le (t2 k hk) ht, fun k hk => Nat.lt_of_lt_of_le (t3 k hk) ht⟩

set_option maxHeartbeats 2000000 in
theorem toIssuer_any (v : Value) (s : Is) (w : World) (hs : s.size ≤ 1048576) (h : IsA w v s) :
    Calls Tryz.prog 8 #[v] w fun e w' => ∃ v', e = .returned v' ∧ IsO w' w.heap.size w'.heap.size v' s ∧ Below w.heap.size w w' := by
  obtain ⟨vw, vr, vs, rfl, h1, h2, h3⟩ := h.parts
  have l1 : s.ws.length ≤ 1048576 := by unfold Is.size wzAll at hs; omega
  have l2 : s.rv.length ≤ 1048576 := by unfold Is.size at hs; omega
  have l3 : s.sg.length ≤ 1048576 := by unfold Is.size tzAll at hs; omega
  have hB0 : Below w.heap.size w (((w.alloc (.cells #[vw, .int .i64 s.nx, vr, vs] 26)).alloc (.cells #[.slice none 0 0, .int .i64 0, .slice none 0 0, .slice none 0 0] 30)).alloc (.cells #[.slice none 0 0, .int .i64 0, .slice none 0 0, .slice none 0 0] 30)) := (((Below.refl _ w).alloc (Nat.le_refl _) _).alloc (by simp) _).alloc (by simp; omega) _
  have F1 := ((Four.new w vw (.int .i64 s.nx) vr vs 26).below ((Below.refl _ _).alloc (Nat.le_refl _) (.cells #[.slice none 0 0, .int .i64 0, .slice none 0 0, .slice none 0 0] 30))).below ((Below.refl _ _).alloc (Nat.le_refl _) (.cells #[.slice none 0 0, .int .i64 0, .slice none 0 0, .slice none 0 0] 30))
  have F2 := (Four.at (w.alloc (.cells #[vw, .int .i64 s.nx, vr, vs] 26)) (.slice none 0 0) (.int .i64 0) (.slice none 0 0) (.slice none 0 0) 30 (k := w.heap.size + 1) (by simp)).below ((Below.refl _ _).alloc (Nat.le_refl _) (.cells #[.slice none 0 0, .int .i64 0, .slice none 0 0, .slice none 0 0] 30))
  have F3 := Four.at ((w.alloc (.cells #[vw, .int .i64 s.nx, vr, vs] 26)).alloc (.cells #[.slice none 0 0, .int .i64 0, .slice none 0 0, .slice none 0 0] 30)) (.slice none 0 0) (.int .i64 0) (.slice none 0 0) (.slice none 0 0) 30 (k := w.heap.size + 1 + 1) (by simp)
  have hz0 : (((w.alloc (.cells #[vw, .int .i64 s.nx, vr, vs] 26)).alloc (.cells #[.slice none 0 0, .int .i64 0, .slice none 0 0, .slice none 0 0] 30)).alloc (.cells #[.slice none 0 0, .int .i64 0, .slice none 0 0, .slice none 0 0] 30)).heap.size = w.heap.size + 1 + 1 + 1 := by simp
  have HZ := hid hz0
  clear hz0
  go_enter Tryz.func8, Tryz.ntmps8
  go_wp2_with fail
  generalize (((w.alloc (.cells #[vw, .int .i64 s.nx, vr, vs] 26)).alloc (.cells #[.slice none 0 0, .int .i64 0, .slice none 0 0, .slice none 0 0] 30)).alloc (.cells #[.slice none 0 0, .int .i64 0, .slice none 0 0, .slice none 0 0] 30)) = W0 at *
  refine (toWorkS_any vw s.ws _ l1 (h1.below hB0)).mono ?_
  rintro e w1 ⟨v1, rfl, o1, hB1⟩
  obtain ⟨a1', m1', c1', hv1⟩ := row_slice o1
  subst hv1
  replace F1 := F1.below hB1
  replace F2 := F2.below hB1
  replace F3 := F3.below hB1
  have hBB1 := below_one hB0 hB1
  clear hB1 hB0
  obtain ⟨a0, a1, a2, a3⟩ := F1.c
  obtain ⟨c0, c1, c2, c3⟩ := F3.c
  have f0 := F3.f 0
  have f1 := F3.f 1
  go_wp2_with fail
  have F1' := (F1.other (k' := w.heap.size + 1 + 1) (by omega) 0 (.slice a1' m1' c1')).other (k' := w.heap.size + 1 + 1) (by omega) 1 (.int .i64 s.nx)
  have F2' := (F2.other (k' := w.heap.size + 1 + 1) (by omega) 0 (.slice a1' m1' c1')).other (k' := w.heap.size + 1 + 1) (by omega) 1 (.int .i64 s.nx)
  have F3' := (F3.s0 (.slice a1' m1' c1')).s1 (.int .i64 s.nx)
  have hB1' := (hBB1.setCell (p := ⟨w.heap.size + 1 + 1, 0, none⟩) (by simp; omega) (.slice a1' m1' c1')).setCell (p := ⟨w.heap.size + 1 + 1, 1, none⟩) (by simp; omega) (.int .i64 s.nx)
  have o1' := ownsRow_setCell_below (ownsRow_setCell_below o1 (a := ⟨w.heap.size + 1 + 1, 0, none⟩) (by rw [HZ.out]; simp) (.slice a1' m1' c1')) (a := ⟨w.heap.size + 1 + 1, 1, none⟩) (by rw [HZ.out]; simp) (.int .i64 s.nx)
  clear F1 F2 F3 hBB1 o1 a0 a1 a2 a3 c0 c1 c2 c3 f0 f1
  generalize (w1.setCell ⟨w.heap.size + 1 + 1, 0, none⟩ (.slice a1' m1' c1')).setCell ⟨w.heap.size + 1 + 1, 1, none⟩ (.int .i64 s.nx) = W1 at *
  refine (toIntS_any vr s.rv _ l2 (h2.below hB1')).mono ?_
  rintro e w2 ⟨v2, rfl, o2, hB2⟩
  obtain ⟨a2', m2', c2', hv2⟩ := row_slice o2
  subst hv2
  have z1 := hB1'.size
  replace F1 := F1'.below hB2
  replace F2 := F2'.below hB2
  replace F3 := F3'.below hB2
  replace o1 := ownsRow_below o1' hB2
  have hBB2 := below_one hB1' hB2
  have hl3 := F3'.lt
  clear hB2 hB1' F1' F2' F3' o1'
  obtain ⟨a0, a1, a2, a3⟩ := F1.c
  obtain ⟨c0, c1, c2, c3⟩ := F3.c
  have f2 := F3.f 2
  go_wp2_with fail
  have F2' := F2.other (k' := w.heap.size + 1 + 1) (by omega) 2 (.slice a2' m2' c2')
  have F3' := F3.s2 (.slice a2' m2' c2')
  have hB2' := hBB2.setCell (p := ⟨w.heap.size + 1 + 1, 2, none⟩) (by simp; omega) (.slice a2' m2' c2')
  have o1' := ownsRow_setCell_below o1 (a := ⟨w.heap.size + 1 + 1, 2, none⟩) (by rw [HZ.out]; simp) (.slice a2' m2' c2')
  have o2' := ownsRow_setCell_below o2 (a := ⟨w.heap.size + 1 + 1, 2, none⟩) hl3 (.slice a2' m2' c2')
  clear F1 F2 F3 hBB2 o1 o2 a0 a1 a2 a3 c0 c1 c2 c3 f2
  generalize w2.setCell ⟨w.heap.size + 1 + 1, 2, none⟩ (.slice a2' m2' c2') = W2 at *
  refine (toStringS_any vs s.sg _ l3 (h3.below hB2')).mono ?_
  rintro e w3 ⟨v3, rfl, o3, hB3⟩
  obtain ⟨a3', m3', c3', hv3⟩ := row_slice o3
  subst hv3
  have z2 := hB2'.size
  replace F2 := F2'.below hB3
  replace F3 := F3'.below hB3
  replace o1 := ownsRow_below o1' hB3
  replace o2 := ownsRow_below o2' hB3
  have hBB3 := below_one hB2' hB3
  have hl4 := F3'.lt
  have hl5 := F2'.lt
  clear hB3 hB2' F2' F3' o1' o2'
  obtain ⟨b0, b1, b2, b3⟩ := F2.c
  obtain ⟨c0, c1, c2, c3⟩ := F3.c
  have f3 := F3.f 3
  have g0 := F2.f 0
  have g1 := F2.f 1
  have g2 := F2.f 2
  have g3 := F2.f 3
  have o1' := ownsRow_setCell_below o1 (a := ⟨w.heap.size + 1 + 1, 3, none⟩) (by rw [HZ.out]; simp) (.slice a3' m3' c3')
  have o2' := ownsRow_setCell_below o2 (a := ⟨w.heap.size + 1 + 1, 3, none⟩) hl3 (.slice a3' m3' c3')
  have o3' := ownsRow_setCell_below o3 (a := ⟨w.heap.size + 1 + 1, 3, none⟩) hl4 (.slice a3' m3' c3')
  have hBB' := hBB3.setCell (p := ⟨w.heap.size + 1 + 1, 3, none⟩) (by simp; omega) (.slice a3' m3' c3')
  go_wp2_with fail
  have G := ((((F2.other (k' := w.heap.size + 1 + 1) (by omega) 3 (.slice a3' m3' c3')).s0 (.slice a1' m1' c1')).s1 (.int .i64 s.nx)).s2 (.slice a2' m2' c2')).s3 (.slice a3' m3' c3')
  have p1 := row_four o1' (k := w.heap.size + 1) (by rw [HZ.out]; omega) (.slice a1' m1' c1') (.int .i64 s.nx) (.slice a2' m2' c2') (.slice a3' m3' c3')
  have p2 := row_four o2' (k := w.heap.size + 1) (by omega) (.slice a1' m1' c1') (.int .i64 s.nx) (.slice a2' m2' c2') (.slice a3' m3' c3')
  have p3 := row_four o3' (k := w.heap.size + 1) (by omega) (.slice a1' m1' c1') (.int .i64 s.nx) (.slice a2' m2' c2') (.slice a3' m3' c3')
  have pB := below_four hBB' (k := w.heap.size + 1) (by omega) (.slice a1' m1' c1') (.int .i64 s.nx) (.slice a2' m2' c2') (.slice a3' m3' c3')
  have hW0 : w.heap.size ≤ W0.heap.size := by rw [HZ.out]; omega
  generalize ((((w3.setCell ⟨w.heap.size + 1 + 1, 3, none⟩ (.slice a3' m3' c3')).setCell ⟨w.heap.size + 1, 0, none⟩ (.slice a1' m1' c1')).setCell ⟨w.heap.size + 1, 1, none⟩ (.int .i64 s.nx)).setCell ⟨w.heap.size + 1, 2, none⟩ (.slice a2' m2' c2')).setCell ⟨w.heap.size + 1, 3, none⟩ (.slice a3' m3' c3') = W4 at *
  obtain ⟨d0, d1, d2, d3⟩ := G.c
  exact bodyPost_ret (v := .agg #[(.slice a1' m1' c1'), .int .i64 s.nx, (.slice a2' m2' c2'), (.slice a3' m3' c3')]) (by simp [results, Tryz.results8, go_sem, d0, d1, d2, d3]) rfl ⟨_, rfl, IsO.of (Go.Joins.ownsRow_le p1 hW0) (Go.Joins.ownsRow_le p2 z1) (Go.Joins.ownsRow_le p3 z2), pB⟩

end Go.Proofs.YtodkpoppgfomeaaGreatDoor

namespace Go.Proofs.YtodkpoppgfomeaaGreatDoor
open Go.RowKit Go.Extern.Stop Go.Stop Go.Extern

/-- A sentinel's value, and a refusal that holds it. -/
abbrev eV (a : Addr) : Value := .iface 211 (.pointer (some a))
abbrev rV (a : Addr) : Value := .iface 131 (.agg #[eV a])

theorem Tryz.isTypeOf (v : Value) (w : World) : (Extern.ReflectliteType.typeOf #[.iface 211 v]).run Tryz.prog w = .ok (.iface 179 (.agg #[.pointer (some ⟨9, 211, none⟩)])) w := by kernel_rfl
/-- The model's entry for a function of the library's. -/
def extE (f : Func) : Array Value → Sem Value := (Extern.find f).getD (fun _ => pure .nilIface)
theorem Tryz.isComparable (w : World) : (extE Tryz.f186 #[.agg #[.pointer (some ⟨9, 211, none⟩)]]).run Tryz.prog w = .ok (.bool true) w := by kernel_rfl
theorem Tryz.isMethodComparable (v : Value) (w : World) : (Go.method 341 179 v "Comparable").run Tryz.prog w = .ok (186, v) w := by kernel_rfl
theorem Tryz.isComp : (Tryz.prog.info? 211).map (·.comparable) = some true := by kernel_rfl
theorem Tryz.isSize : (Tryz.prog.info? 229).map (·.size) = some 1 := by kernel_rfl
theorem Tryz.noIsE (v : Value) (xT : TypeId) (w : World) : (Instr.typeAssert (.iface 211 v) xT 191 true).run Tryz.prog w = .ok (.tuple #[.nilIface, .bool false]) w := run_typeAssert_lacksB Tryz.underlying191 (by kernel_rfl) (by kernel_rfl) v xT w
theorem Tryz.noUnwrapE (v : Value) (xT : TypeId) (w : World) : (Instr.typeAssert (.iface 211 v) xT 186 true).run Tryz.prog w = .ok (.tuple #[.nilIface, .bool false]) w := run_typeAssert_lacksB Tryz.underlying186 (by kernel_rfl) (by kernel_rfl) v xT w
theorem Tryz.noUnwrapsE (v : Value) (xT : TypeId) (w : World) : (Instr.typeAssert (.iface 211 v) xT 188 true).run Tryz.prog w = .ok (.tuple #[.nilIface, .bool false]) w := run_typeAssert_lacksB Tryz.underlying188 (by kernel_rfl) (by kernel_rfl) v xT w
theorem Tryz.noIsR (v : Value) (xT : TypeId) (w : World) : (Instr.typeAssert (.iface 131 v) xT 191 true).run Tryz.prog w = .ok (.tuple #[.nilIface, .bool false]) w := run_typeAssert_lacksB Tryz.underlying191 (by kernel_rfl) (by kernel_rfl) v xT w
theorem Tryz.hasUnwrapR (v : Value) (xT : TypeId) (w : World) : (Instr.typeAssert (.iface 131 v) xT 186 true).run Tryz.prog w = .ok (.tuple #[.iface 131 v, .bool true]) w := run_typeAssert_hasB Tryz.underlying186 (by kernel_rfl) v xT w
theorem Tryz.methodUnwrap (v : Value) (w : World) : (Go.method 341 131 v "Unwrap").run Tryz.prog w = .ok (179, v) w := by kernel_rfl

theorem unwrap_any (x : Value) (w : World) :
    Calls Tryz.prog 179 #[.agg #[x]] w fun e w' => e = .returned x ∧ w' = w.alloc (.cells #[x] 131) := by
  go_enter Tryz.func179, Tryz.ntmps179
  go_wp2
  go_ret
  exact ⟨rfl, rfl⟩

/-- A sentinel is itself. -/
theorem is_same (a : Addr) (w : World) :
    Calls Tryz.prog 111 #[eV a, eV a] w fun e w' => e = .returned (.bool true) ∧ w' = w := by
  obtain ⟨i, hi, hcmp⟩ := Option.map_eq_some_iff.1 Tryz.isComp
  obtain ⟨j, hj, hjs⟩ := Option.map_eq_some_iff.1 Tryz.isSize
  have h8 := @run_callFunc_extern Tryz.prog 134 _ Extern.ReflectliteType.typeOf Tryz.func134 (by kernel_rfl) (by kernel_rfl) (by kernel_rfl) (by kernel_rfl)
  have h32 := @run_callFunc_extern Tryz.prog 186 _ (extE Tryz.f186) Tryz.func186 (by kernel_rfl) (by kernel_rfl) (by kernel_rfl) (by kernel_rfl)
  have tT := Tryz.isTypeOf
  have cT := Tryz.isComparable
  have mR := Tryz.isMethodComparable
  have heq := run_eql_iface_ptr_same (P := Tryz.prog) w a Tryz.underlying69 Tryz.underlying211 hi hcmp hj
  go_enter Tryz.func111, Tryz.ntmps111
  go_wp2
  refine wp_loop_rounds 1 ?_
  rw [rounds_succ]
  go_wp2
  go_ret
  exact ⟨rfl, rfl⟩

/-- A sentinel is no other. -/
theorem is_other (a b : Addr) (ca cb : Array Value) (ta tb : TypeId) (w : World) (hne : a ≠ b) (ha : w.heap[a.block]? = some (.cells ca ta (0, 0))) (hb : w.heap[b.block]? = some (.cells cb tb (0, 0))) :
    Calls Tryz.prog 111 #[eV a, eV b] w fun e w' => e = .returned (.bool false) ∧ w' = w := by
  obtain ⟨i, hi, hcmp⟩ := Option.map_eq_some_iff.1 Tryz.isComp
  obtain ⟨j, hj, hjs⟩ := Option.map_eq_some_iff.1 Tryz.isSize
  have h8 := @run_callFunc_extern Tryz.prog 134 _ Extern.ReflectliteType.typeOf Tryz.func134 (by kernel_rfl) (by kernel_rfl) (by kernel_rfl) (by kernel_rfl)
  have h32 := @run_callFunc_extern Tryz.prog 186 _ (extE Tryz.f186) Tryz.func186 (by kernel_rfl) (by kernel_rfl) (by kernel_rfl) (by kernel_rfl)
  have tT := Tryz.isTypeOf
  have cT := Tryz.isComparable
  have mR := Tryz.isMethodComparable
  have nE := Tryz.noIsE
  have uE := Tryz.noUnwrapE
  have vE := Tryz.noUnwrapsE
  have heq := run_eql_iface_ptr_other (P := Tryz.prog) w Tryz.underlying69 Tryz.underlying211 hi hcmp hj (by rw [hjs]; decide) hne ha hb
  go_enter Tryz.func111, Tryz.ntmps111
  go_wp2
  refine wp_loop_rounds 1 ?_
  rw [rounds_succ]
  go_wp2
  go_ret
  exact ⟨rfl, rfl⟩

/-- A refusal is what it holds. -/
theorem is_ref_same (b : Addr) (w : World) :
    Calls Tryz.prog 111 #[rV b, eV b] w fun e w' => e = .returned (.bool true) ∧ w' = w.alloc (.cells #[eV b] 131) := by
  obtain ⟨i, hi, hcmp⟩ := Option.map_eq_some_iff.1 Tryz.isComp
  obtain ⟨j, hj, hjs⟩ := Option.map_eq_some_iff.1 Tryz.isSize
  have h8 := @run_callFunc_extern Tryz.prog 134 _ Extern.ReflectliteType.typeOf Tryz.func134 (by kernel_rfl) (by kernel_rfl) (by kernel_rfl) (by kernel_rfl)
  have h32 := @run_callFunc_extern Tryz.prog 186 _ (extE Tryz.f186) Tryz.func186 (by kernel_rfl) (by kernel_rfl) (by kernel_rfl) (by kernel_rfl)
  have tT := Tryz.isTypeOf
  have cT := Tryz.isComparable
  have mR := Tryz.isMethodComparable
  have nR := Tryz.noIsR
  have uR := Tryz.hasUnwrapR
  have mU := Tryz.methodUnwrap
  have heq := run_eql_iface_ptr_same (P := Tryz.prog) (w.alloc (.cells #[eV b] 131)) b Tryz.underlying69 Tryz.underlying211 hi hcmp hj
  have hty := run_eql_iface_types (P := Tryz.prog) 131 211 (.agg #[eV b]) (.pointer (some b)) Tryz.underlying69 (by decide) w
  go_enter Tryz.func111, Tryz.ntmps111
  go_wp2
  refine wp_loop_rounds 2 ?_
  rw [rounds_succ]
  go_wp2_with (go_at_call 179; refine (unwrap_any _ _).mono ?_; rintro e w1 ⟨rfl, rfl⟩)
  rw [rounds_succ]
  go_wp2
  go_ret
  exact ⟨rfl, rfl⟩

/-- A refusal is no other than what it holds. -/
theorem is_ref_other (a b : Addr) (ca cb : Array Value) (ta tb : TypeId) (w : World) (hne : a ≠ b) (ha : w.heap[a.block]? = some (.cells ca ta (0, 0))) (hb : w.heap[b.block]? = some (.cells cb tb (0, 0))) :
    Calls Tryz.prog 111 #[rV a, eV b] w fun e w' => e = .returned (.bool false) ∧ w' = w.alloc (.cells #[eV a] 131) := by
  obtain ⟨i, hi, hcmp⟩ := Option.map_eq_some_iff.1 Tryz.isComp
  obtain ⟨j, hj, hjs⟩ := Option.map_eq_some_iff.1 Tryz.isSize
  have h8 := @run_callFunc_extern Tryz.prog 134 _ Extern.ReflectliteType.typeOf Tryz.func134 (by kernel_rfl) (by kernel_rfl) (by kernel_rfl) (by kernel_rfl)
  have h32 := @run_callFunc_extern Tryz.prog 186 _ (extE Tryz.f186) Tryz.func186 (by kernel_rfl) (by kernel_rfl) (by kernel_rfl) (by kernel_rfl)
  have tT := Tryz.isTypeOf
  have cT := Tryz.isComparable
  have mR := Tryz.isMethodComparable
  have nR := Tryz.noIsR
  have uR := Tryz.hasUnwrapR
  have mU := Tryz.methodUnwrap
  have nE := Tryz.noIsE
  have uE := Tryz.noUnwrapE
  have vE := Tryz.noUnwrapsE
  have hB : Below w.heap.size w (w.alloc (.cells #[eV a] 131)) := (Below.refl _ w).alloc (Nat.le_refl _) _
  have heq := run_eql_iface_ptr_other (P := Tryz.prog) (w.alloc (.cells #[eV a] 131)) Tryz.underlying69 Tryz.underlying211 hi hcmp hj (by rw [hjs]; decide) hne ((hB.block _ (Array.getElem?_eq_some_iff.1 ha).1).trans ha) ((hB.block _ (Array.getElem?_eq_some_iff.1 hb).1).trans hb)
  have hty := run_eql_iface_types (P := Tryz.prog) 131 211 (.agg #[eV a]) (.pointer (some b)) Tryz.underlying69 (by decide) w
  go_enter Tryz.func111, Tryz.ntmps111
  go_wp2
  refine wp_loop_rounds 2 ?_
  rw [rounds_succ]
  go_wp2_with (go_at_call 179; refine (unwrap_any _ _).mono ?_; rintro e w1 ⟨rfl, rfl⟩)
  rw [rounds_succ]
  go_wp2
  go_ret
  exact ⟨rfl, rfl⟩

end Go.Proofs.YtodkpoppgfomeaaGreatDoor

namespace Go.Proofs.YtodkpoppgfomeaaGreatDoor
open Go.RowKit Go.Extern.Stop Go.Stop Go.Extern

/-- The value that reflectlite makes of a pointer to a refusal. -/
abbrev tgV (a : Addr) : Value := .agg #[.pointer (some ⟨9, 143, none⟩), .pointer (some a), .int .u64 150]
abbrev typ (t : TypeId) : Value := .agg #[.pointer (some ⟨9, t, none⟩)]
theorem Tryz.asValueOf (t : Addr) (w : World) : (ReflectliteValue.unpack (.iface 143 (.pointer (some t)))).run Tryz.prog w = .ok (tgV ⟨w.heap.size, 0, none⟩) (w.alloc (.cells #[.pointer (some t)] 143)) := by kernel_rfl
theorem Tryz.asType (a : Addr) (w : World) : (extE Tryz.f131 #[tgV a]).run Tryz.prog w = .ok (.iface 179 (typ 143)) w := by kernel_rfl
theorem Tryz.asMethodKind (h : Value) (w : World) : (Go.method 341 179 (.agg #[h]) "Kind").run Tryz.prog w = .ok (175, h) w := by kernel_rfl
theorem Tryz.asMethodElem (h : Value) (w : World) : (Go.method 341 179 (.agg #[h]) "Elem").run Tryz.prog w = .ok (187, .agg #[h]) w := by kernel_rfl
theorem Tryz.asMethodImplements (h : Value) (w : World) : (Go.method 341 179 (.agg #[h]) "Implements").run Tryz.prog w = .ok (188, .agg #[h]) w := by kernel_rfl
theorem Tryz.asMethodAssignable (h : Value) (w : World) : (Go.method 341 179 (.agg #[h]) "AssignableTo").run Tryz.prog w = .ok (185, .agg #[h]) w := by kernel_rfl
theorem Tryz.asKindP (w : World) : (extE Tryz.f175 #[.pointer (some ⟨9, 143, none⟩)]).run Tryz.prog w = .ok (.int .u8 22) w := by kernel_rfl
theorem Tryz.asKindR (w : World) : (extE Tryz.f175 #[.pointer (some ⟨9, 131, none⟩)]).run Tryz.prog w = .ok (.int .u8 25) w := by kernel_rfl
theorem Tryz.asElem (w : World) : (extE Tryz.f187 #[typ 143]).run Tryz.prog w = .ok (.iface 179 (typ 131)) w := by kernel_rfl
theorem Tryz.asImplements (w : World) : (extE Tryz.f188 #[typ 131, .iface 179 (typ 69)]).run Tryz.prog w = .ok (.bool true) w := by kernel_rfl
theorem Tryz.asTypeOfR (v : Value) (w : World) : (extE Tryz.f134 #[.iface 131 v]).run Tryz.prog w = .ok (.iface 179 (typ 131)) w := by kernel_rfl
theorem Tryz.asTypeOfE (v : Value) (w : World) : (extE Tryz.f134 #[.iface 211 v]).run Tryz.prog w = .ok (.iface 179 (typ 211)) w := by kernel_rfl
theorem Tryz.asAssignR (w : World) : (extE Tryz.f185 #[typ 131, .iface 179 (typ 131)]).run Tryz.prog w = .ok (.bool true) w := by kernel_rfl
theorem Tryz.asAssignE (w : World) : (extE Tryz.f185 #[typ 211, .iface 179 (typ 131)]).run Tryz.prog w = .ok (.bool false) w := by kernel_rfl
theorem Tryz.asValueOfR (x : Value) (w : World) : (ReflectliteValue.unpack (.iface 131 (.agg #[x]))).run Tryz.prog w = .ok (.agg #[.pointer (some ⟨9, 131, none⟩), .pointer (some ⟨w.heap.size, 0, none⟩), .int .u64 153]) (w.alloc (.cells #[x] 131)) := by kernel_rfl
theorem Tryz.noAsE (v : Value) (xT : TypeId) (w : World) : (Instr.typeAssert (.iface 211 v) xT 183 true).run Tryz.prog w = .ok (.tuple #[.nilIface, .bool false]) w := run_typeAssert_lacksB Tryz.underlying183 (by kernel_rfl) (by kernel_rfl) v xT w

theorem rl_method (z : Sem Value) (f : TypeId → Addr → Nat → Nat → Sem Value) (v : Value) :
    ReflectliteValue.method z f #[v] = (ReflectliteValue.parts v >>= fun o => match o with | none => z | some (t, a, fl) => f t a fl (fl % 32)) := rfl
theorem Tryz.asParts (a : Addr) (w : World) : (ReflectliteValue.parts (tgV a)).run Tryz.prog w = .ok (some (143, a, 150)) w := by kernel_rfl
theorem Tryz.asIsNil (a p : Addr) (W : World) (ha : W.cell? a = some (.pointer (some p))) :
    (ReflectliteValue.method (ReflectliteValue.valueError "reflectlite.Value.IsNil" 0) ReflectliteValue.isNil #[tgV a]).run Tryz.prog W = .ok (.bool false) W := by
  rw [rl_method]
  simp only [Sem.run_bind, Tryz.asParts, Result.andThen]
  simp [ReflectliteValue.isNil, loadVar, isAgg, underlying, Tryz.underlying143, ha, Result.andThen]
theorem Tryz.asElemOf (w : World) : (Rtype.elem? 143).run Tryz.prog w = .ok (some 131) w := by kernel_rfl
theorem Tryz.asMk (p : Addr) (w : World) : (ReflectliteValue.mk 131 p ReflectliteValue.flagAddr).run Tryz.prog w = .ok (.agg #[.pointer (some ⟨9, 131, none⟩), .pointer (some p), .int .u64 409]) w := by kernel_rfl
theorem Tryz.asElemV (a p : Addr) (W : World) (ha : W.cell? a = some (.pointer (some p))) :
    (ReflectliteValue.method (ReflectliteValue.valueError "reflectlite.Value.Elem" 0) ReflectliteValue.elem #[tgV a]).run Tryz.prog W
      = .ok (.agg #[.pointer (some ⟨9, 131, none⟩), .pointer (some p), .int .u64 409]) W := by
  rw [rl_method]
  simp only [Sem.run_bind, Tryz.asParts, Result.andThen]
  simp [ReflectliteValue.elem, loadVar, isAgg, underlying, Tryz.underlying143, ha, Result.andThen, Tryz.asElemOf, Tryz.asMk]
theorem Tryz.asPartsA (a : Addr) (w : World) : (ReflectliteValue.parts (.agg #[.pointer (some ⟨9, 131, none⟩), .pointer (some a), .int .u64 409])).run Tryz.prog w = .ok (some (131, a, 409)) w := by kernel_rfl
theorem Tryz.asPartsB (a : Addr) (w : World) : (ReflectliteValue.parts (.agg #[.pointer (some ⟨9, 131, none⟩), .pointer (some a), .int .u64 153])).run Tryz.prog w = .ok (some (131, a, 153)) w := by kernel_rfl
theorem Tryz.asDirect (w : World) : (Rtype.directlyAssignable 131 131).run Tryz.prog w = .ok true w := by kernel_rfl
theorem Tryz.asSize (w : World) : (sizeOf 131).run Tryz.prog w = .ok 1 w := by kernel_rfl
theorem Tryz.asSet (ta b : Addr) (x old : Value) (W : World) (hx : x.oneCell' = true) (hb : W.cell? b = some x) (ht : W.cell? ta = some old) (hf : W.frozen? ta = false) :
    (ReflectliteValue.set #[.agg #[.pointer (some ⟨9, 131, none⟩), .pointer (some ta), .int .u64 409], .agg #[.pointer (some ⟨9, 131, none⟩), .pointer (some b), .int .u64 153]]).run Tryz.prog W
      = .ok (.tuple #[]) (W.setCell ta x) := by
  have hA := Tryz.asPartsA ta W
  have hB := Tryz.asPartsB b W
  generalize (.agg #[.pointer (some ⟨9, 131, none⟩), .pointer (some ta), .int .u64 409] : Value) = v at *
  generalize (.agg #[.pointer (some ⟨9, 131, none⟩), .pointer (some b), .int .u64 153] : Value) = u at *
  change Sem.run Tryz.prog (ReflectliteValue.parts v >>= _) W = _
  rw [Sem.run_bind, hA]
  simp only [Result.andThen]
  change Sem.run Tryz.prog (ReflectliteValue.parts u >>= _) W = _
  rw [Sem.run_bind, hB]
  simp [ReflectliteValue.flagAddr, loadVar, isAgg, underlying, Tryz.underlying131, Result.andThen, Tryz.asDirect, storeVar, Value.cells]
  rw [show (1 : Nat) = [x].length from rfl, run_loadCells_list W b [x] (fun j y hj => by
    obtain rfl : j = 0 := by have := (List.getElem?_eq_some_iff.1 hj).1; simpa using this
    simp at hj
    subst hj
    simpa [Addr.add] using hb)]
  simp [storeCells]
  rw [show ta.add 0 = ta from rfl, run_store Tryz.prog W ta x _ (by cases x <;> first | rfl | cases hx)]
  simp [ht, hf]

end Go.Proofs.YtodkpoppgfomeaaGreatDoor

namespace Go.Proofs.YtodkpoppgfomeaaGreatDoor
open Go.RowKit Go.Extern.Stop Go.Stop Go.Extern

theorem blk_lt {w : World} {a : Addr} {v : Value} (h : w.cell? a = some v) : a.block < w.heap.size := by
  rcases Nat.lt_or_ge a.block w.heap.size with h1 | h1
  · exact h1
  · simp only [World.cell?, Array.getElem?_eq_none h1] at h
    cases h
theorem grown_set {w W : World} (hB : Below w.heap.size w W) (t : Addr) (x : Value) : w.grownBy (W.setCell t x) (some t.block) :=
  ⟨hB.os, hB.tape, hB.output, by simpa [World.setCell] using hB.size, fun k hk hne => (Below.heap_setCell W t x k (fun e => hne (by rw [e]))).trans (hB.block k hk)⟩

set_option maxHeartbeats 4000000 in
/-- A sentinel is no refusal. -/
theorem as_miss (a t : Addr) (w : World) (hg : w.cell? ⟨4, 0, none⟩ = some (.iface 179 (typ 69))) :
    Calls Tryz.prog 107 #[eV a, .iface 143 (.pointer (some t))] w fun e w' => e = .returned (.bool false) ∧ Below w.heap.size w w' := by
  have h6 := @run_callFunc_extern Tryz.prog 130 _ (fun args => ReflectliteValue.unpack (args.getD 0 (.tuple #[]))) Tryz.func130 (by kernel_rfl) (by kernel_rfl) (by kernel_rfl) (by kernel_rfl)
  have h7 := @run_callFunc_extern Tryz.prog 131 _ (extE Tryz.f131) Tryz.func131 (by kernel_rfl) (by kernel_rfl) (by kernel_rfl) (by kernel_rfl)
  have h8 := @run_callFunc_extern Tryz.prog 132 _ (ReflectliteValue.method (ReflectliteValue.valueError "reflectlite.Value.IsNil" 0) ReflectliteValue.isNil) Tryz.func132 (by kernel_rfl) (by kernel_rfl) (by kernel_rfl) (by kernel_rfl)
  have h27 := @run_callFunc_extern Tryz.prog 175 _ (extE Tryz.f175) Tryz.func175 (by kernel_rfl) (by kernel_rfl) (by kernel_rfl) (by kernel_rfl)
  have h37 := @run_callFunc_extern Tryz.prog 187 _ (extE Tryz.f187) Tryz.func187 (by kernel_rfl) (by kernel_rfl) (by kernel_rfl) (by kernel_rfl)
  have h38 := @run_callFunc_extern Tryz.prog 188 _ (extE Tryz.f188) Tryz.func188 (by kernel_rfl) (by kernel_rfl) (by kernel_rfl) (by kernel_rfl)
  have h10 := @run_callFunc_extern Tryz.prog 134 _ (extE Tryz.f134) Tryz.func134 (by kernel_rfl) (by kernel_rfl) (by kernel_rfl) (by kernel_rfl)
  have h35 := @run_callFunc_extern Tryz.prog 185 _ (extE Tryz.f185) Tryz.func185 (by kernel_rfl) (by kernel_rfl) (by kernel_rfl) (by kernel_rfl)
  have f6 := Tryz.asValueOf
  have f7 := Tryz.asType
  have mK := Tryz.asMethodKind
  have mE := Tryz.asMethodElem
  have mI := Tryz.asMethodImplements
  have mA := Tryz.asMethodAssignable
  have kP := Tryz.asKindP
  have kR := Tryz.asKindR
  have eP := Tryz.asElem
  have iR := Tryz.asImplements
  have tE := Tryz.asTypeOfE
  have aE := Tryz.asAssignE
  have nA := Tryz.noAsE
  have uE := Tryz.noUnwrapE
  have vE := Tryz.noUnwrapsE
  have n8 := Tryz.asIsNil ⟨w.heap.size, 0, none⟩ t ((w.alloc (.cells #[.pointer (some t)] 143)).alloc (.cells #[.pointer (some ⟨9, 143, none⟩), .pointer (some ⟨w.heap.size, 0, none⟩), .int .u64 150] 165)) (by simp)
  have hlt : 4 < w.heap.size := blk_lt hg
  have hg2 : ((w.alloc (.cells #[.pointer (some t)] 143)).alloc (.cells #[.pointer (some ⟨9, 143, none⟩), .pointer (some ⟨w.heap.size, 0, none⟩), .int .u64 150] 165)).cell? ⟨4, 0, none⟩ = some (.iface 179 (typ 69)) := by
    rw [World.cell?_alloc_lt _ _ ⟨4, 0, none⟩ (by simp; omega), World.cell?_alloc_lt _ _ ⟨4, 0, none⟩ hlt]; exact hg
  go_enter Tryz.func107, Tryz.ntmps107
  go_wp2
  refine wp_loop_rounds 1 ?_
  rw [rounds_succ]
  go_wp2
  go_ret
  exact ⟨rfl, (((Below.refl _ w).alloc (Nat.le_refl _) _).alloc (by simp) _).alloc (by simp; omega) _⟩

set_option maxHeartbeats 4000000 in
/-- A refusal is one, and is laid where it is asked for. -/
theorem as_hit (a t : Addr) (old : Value) (w : World) (hg : w.cell? ⟨4, 0, none⟩ = some (.iface 179 (typ 69))) (ht0 : w.cell? t = some old) (hf0 : w.frozen? t = false) :
    Calls Tryz.prog 107 #[rV a, .iface 143 (.pointer (some t))] w fun e w' => e = .returned (.bool true) ∧ w.grownBy w' (some t.block) := by
  have h6 := @run_callFunc_extern Tryz.prog 130 _ (fun args => ReflectliteValue.unpack (args.getD 0 (.tuple #[]))) Tryz.func130 (by kernel_rfl) (by kernel_rfl) (by kernel_rfl) (by kernel_rfl)
  have h7 := @run_callFunc_extern Tryz.prog 131 _ (extE Tryz.f131) Tryz.func131 (by kernel_rfl) (by kernel_rfl) (by kernel_rfl) (by kernel_rfl)
  have h8 := @run_callFunc_extern Tryz.prog 132 _ (ReflectliteValue.method (ReflectliteValue.valueError "reflectlite.Value.IsNil" 0) ReflectliteValue.isNil) Tryz.func132 (by kernel_rfl) (by kernel_rfl) (by kernel_rfl) (by kernel_rfl)
  have h27 := @run_callFunc_extern Tryz.prog 175 _ (extE Tryz.f175) Tryz.func175 (by kernel_rfl) (by kernel_rfl) (by kernel_rfl) (by kernel_rfl)
  have h37 := @run_callFunc_extern Tryz.prog 187 _ (extE Tryz.f187) Tryz.func187 (by kernel_rfl) (by kernel_rfl) (by kernel_rfl) (by kernel_rfl)
  have h38 := @run_callFunc_extern Tryz.prog 188 _ (extE Tryz.f188) Tryz.func188 (by kernel_rfl) (by kernel_rfl) (by kernel_rfl) (by kernel_rfl)
  have h10 := @run_callFunc_extern Tryz.prog 134 _ (extE Tryz.f134) Tryz.func134 (by kernel_rfl) (by kernel_rfl) (by kernel_rfl) (by kernel_rfl)
  have h35 := @run_callFunc_extern Tryz.prog 185 _ (extE Tryz.f185) Tryz.func185 (by kernel_rfl) (by kernel_rfl) (by kernel_rfl) (by kernel_rfl)
  have f6 := Tryz.asValueOf
  have f7 := Tryz.asType
  have mK := Tryz.asMethodKind
  have mE := Tryz.asMethodElem
  have mI := Tryz.asMethodImplements
  have mA := Tryz.asMethodAssignable
  have kP := Tryz.asKindP
  have kR := Tryz.asKindR
  have eP := Tryz.asElem
  have iR := Tryz.asImplements
  have h11 := @run_callFunc_extern Tryz.prog 143 _ (ReflectliteValue.method (ReflectliteValue.valueError "reflectlite.Value.Elem" 0) ReflectliteValue.elem) Tryz.func143 (by kernel_rfl) (by kernel_rfl) (by kernel_rfl) (by kernel_rfl)
  have h12 := @run_callFunc_extern Tryz.prog 144 _ ReflectliteValue.set Tryz.func144 (by kernel_rfl) (by kernel_rfl) (by kernel_rfl) (by kernel_rfl)
  have tR := Tryz.asTypeOfR
  have aR := Tryz.asAssignR
  have vR := Tryz.asValueOfR
  have htl : t.block < w.heap.size := blk_lt ht0
  have n8 := Tryz.asIsNil ⟨w.heap.size, 0, none⟩ t ((w.alloc (.cells #[.pointer (some t)] 143)).alloc (.cells #[.pointer (some ⟨9, 143, none⟩), .pointer (some ⟨w.heap.size, 0, none⟩), .int .u64 150] 165)) (by simp)
  have hlt : 4 < w.heap.size := blk_lt hg
  have hg2 : ((w.alloc (.cells #[.pointer (some t)] 143)).alloc (.cells #[.pointer (some ⟨9, 143, none⟩), .pointer (some ⟨w.heap.size, 0, none⟩), .int .u64 150] 165)).cell? ⟨4, 0, none⟩ = some (.iface 179 (typ 69)) := by
    rw [World.cell?_alloc_lt _ _ ⟨4, 0, none⟩ (by simp; omega), World.cell?_alloc_lt _ _ ⟨4, 0, none⟩ hlt]; exact hg
  have el := Tryz.asElemV ⟨w.heap.size, 0, none⟩ t (((w.alloc (.cells #[.pointer (some t)] 143)).alloc (.cells #[.pointer (some ⟨9, 143, none⟩), .pointer (some ⟨w.heap.size, 0, none⟩), .int .u64 150] 165)).alloc (.cells #[.pointer (some ⟨9, 143, none⟩), .pointer (some ⟨w.heap.size, 0, none⟩), .int .u64 150] 165)) (by rw [World.cell?_alloc_lt _ _ ⟨w.heap.size, 0, none⟩ (by simp; omega)]; simp)
  have st := Tryz.asSet t ⟨w.heap.size + 1 + 1 + 1, 0, none⟩ (eV a) old ((((w.alloc (.cells #[.pointer (some t)] 143)).alloc (.cells #[.pointer (some ⟨9, 143, none⟩), .pointer (some ⟨w.heap.size, 0, none⟩), .int .u64 150] 165)).alloc (.cells #[.pointer (some ⟨9, 143, none⟩), .pointer (some ⟨w.heap.size, 0, none⟩), .int .u64 150] 165)).alloc (.cells #[eV a] 131)) rfl
    (by rw [World.cell?_alloc_at _ _ _ _ (by simp)]; rfl)
    (by rw [World.cell?_alloc_lt _ _ t (by simp; omega), World.cell?_alloc_lt _ _ t (by simp; omega), World.cell?_alloc_lt _ _ t (by simp; omega), World.cell?_alloc_lt _ _ t htl]; exact ht0)
    (by rw [World.frozen?_alloc_old _ _ t (by simp; omega), World.frozen?_alloc_old _ _ t (by simp; omega), World.frozen?_alloc_old _ _ t (by simp; omega), World.frozen?_alloc_old _ _ t (Nat.ne_of_lt htl)]; exact hf0)
  go_enter Tryz.func107, Tryz.ntmps107
  go_wp2
  refine wp_loop_rounds 1 ?_
  rw [rounds_succ]
  go_wp2
  go_ret
  refine ⟨rfl, ?_⟩
  have hB : Below w.heap.size w ((((w.alloc (.cells #[.pointer (some t)] 143)).alloc (.cells #[.pointer (some ⟨9, 143, none⟩), .pointer (some ⟨w.heap.size, 0, none⟩), .int .u64 150] 165)).alloc (.cells #[.pointer (some ⟨9, 143, none⟩), .pointer (some ⟨w.heap.size, 0, none⟩), .int .u64 150] 165)).alloc (.cells #[eV a] 131)) := ((((Below.refl _ w).alloc (Nat.le_refl _) _).alloc (by simp) _).alloc (by simp; omega) _).alloc (by simp; omega) _
  exact grown_set hB t _

end Go.Proofs.YtodkpoppgfomeaaGreatDoor

namespace Go.Proofs.YtodkpoppgfomeaaGreatDoor
open Go.RowKit Go.Shelf

/-- The work that is laid at i, from the number k on. -/
def mkW (k i : Nat) : Wk := ⟨mkT (k + 3 * i), (((k + 3 * i : Nat) : Int) + 1) % 3 == 0, ((k + 3 * i : Nat) : Int) + 2⟩
def mkWs (k n : Nat) : List Wk := (List.range n).map (mkW k)
theorem mkWs_len (k n : Nat) : (mkWs k n).length = n := by simp [mkWs]
theorem mkWs_succ (k n : Nat) : mkWs k (n + 1) = mkWs k n ++ [mkW k n] := by
  unfold mkWs
  rw [List.range_succ, List.map_append]
  rfl
theorem mkWs_at {k n i : Nat} (h : i < (mkWs k n).length) : (mkWs k n)[i] = mkW k i := by simp [mkWs]

set_option maxHeartbeats 2000000 in
set_option maxRecDepth 100000 in
theorem markWorkS_to (v : Value) (n k base : Nat) (xs : List Value) (w : World) (hn : n ≤ 1048577) (hk : k + 3 * n ≤ 8000000) (hrow : w.ownsRow base 97 3 v n xs) :
    Calls Tryz.prog 45 #[v, .int .i64 k] w fun e w' => e = .returned (.int .i64 ((k + 3 * n : Nat) : Int)) ∧ w'.ownsRow base 97 3 v n ((mkWs k n).flatMap Wk.cells) ∧ w.grownBy w' v.ownBlock := by
  rcases row_form hrow with ⟨rfl, rfl⟩ | ⟨g, cap, rfl, hg, hcap⟩
  · go_enter Tryz.func45, Tryz.ntmps45
    go_wp2
    refine wp_loop_rounds 1 ?_
    rw [rounds_succ]
    go_wp2
    go_ret
    exact ⟨rfl, World.ownsRow_nil _ _ _ _, ⟨rfl, rfl, rfl, Nat.le_refl _, fun _ _ _ => rfl⟩⟩
  · go_enter Tryz.func45, Tryz.ntmps45
    go_wp2
    go_loopw [1, 5] (fun kv i wr => ∃ (j c : Nat), j ≤ n ∧ c = k + 3 * j ∧ kv = .int .i64 c ∧ i = .int .i64 j ∧ ∃ ys, wr.ownsRow base 97 3 (.slice (some ⟨g, 0, none⟩) n cap) n ys ∧ ys.take (j * 3) = (mkWs k j).flatMap Wk.cells ∧ w.grownBy wr (some g)) (fun _ i _ => n - (intOf i).toNat)
    case atStart => exact ⟨0, k, Nat.zero_le _, by omega, rfl, rfl, xs, hrow, by simp [mkWs], grown_self _ _⟩
    case round =>
      obtain ⟨j, c, hj, hc, rfl, rfl, ys, row0, hx, hg0⟩ := hrel
      have HX := hid hx
      have HC := hid hc
      clear hx hc hrow
      have hc9 : c ≤ 8000000 := by have := HC.out; omega
      by_cases hlt : j < n
      · have hlen : ys.length = n * 3 := row0.1
        go_wp2_with fail
        refine (markText_at c _ _ rfl (by omega)).mono ?_
        rintro e v1 ⟨rfl, hB1⟩
        have row1 := ownsRow_below row0 hB1
        have hg1 := grown_below hg0 hB1
        clear row0 hg0 hB1
        have hl1 := row1.1
        have s0 := row1.cellAt (j * 3) (by omega)
        have s1 := row1.cellAt (j * 3 + 1) (by omega)
        have s2 := row1.cellAt (j * 3 + 2) (by omega)
        rw [List.getElem?_eq_getElem (by omega)] at s0 s1 s2
        have t0 := row1.frozenAt (j * 3)
        have t1 := row1.frozenAt (j * 3 + 1)
        have t2 := row1.frozenAt (j * 3 + 2)
        have P0 := row1.stored (j * 3) (.string (mkT c))
        have P1 := P0.1.stored (j * 3 + 1) (.bool (((c : Int) + 1) % 3 == 0))
        have P2 := P1.1.stored (j * 3 + 2) (.int .i64 ((c : Int) + 2))
        have HP0 := hid P0.2
        have HP1 := hid P1.2
        have HP2 := hid P2.2
        have HO := hid P2.1
        clear P0 P1 P2
        go_wp2_with fail
        have HM := hid (show mkWs k (j + 1) = mkWs k j ++ [⟨mkT c, ((c : Int) + 1) % 3 == 0, (c : Int) + 2⟩] by rw [mkWs_succ]; unfold mkW; rw [← HC.out])
        go_roundw
        case rel =>
          refine ⟨j + 1, c + 3, by omega, by have := HC.out; omega, by go_num, by go_num, _, HO.out, ?_, grown_two (grown_two (grown_two hg1 HP0.out) HP1.out) HP2.out⟩
          rw [take_set3 _ _ _ _ _ (by omega), HX.out, HM.out, List.flatMap_append]
          simp
        case measure => simp [intOf]; omega
      · obtain rfl : j = n := by omega
        have HF := hid (show ys = (mkWs k j).flatMap Wk.cells by have := HX.out; rw [List.take_of_length_le (by have := row0.1; omega)] at this; exact this)
        go_wp2
        go_ret
        exact ⟨ret_int (by rw [HC.out]), by rw [← HF.out]; exact row0, hg0⟩

set_option maxHeartbeats 2000000 in
set_option maxRecDepth 100000 in
theorem heldWorkS_to (v : Value) (n k : Nat) (w : World) (hn : n ≤ 1048577) (hk : k + 3 * n ≤ 8000000) (hr : WkS w v (mkWs k n)) :
    Calls Tryz.prog 49 #[v, .int .i64 k] w fun e w' => e = .returned (.int .i64 ((k + 3 * n : Nat) : Int)) ∧ Below w.heap.size w w' := by
  obtain ⟨a, cap, rfl⟩ := hr.len
  have hln := mkWs_len k n
  rw [hln] at hr ⊢
  clear hln
  go_enter Tryz.func49, Tryz.ntmps49
  go_wp2
  go_loopw [1, 5] (fun kv i wr => ∃ (j c : Nat), j ≤ n ∧ c = k + 3 * j ∧ kv = .int .i64 c ∧ i = .int .i64 j ∧ Below w.heap.size w wr) (fun _ i _ => n - (intOf i).toNat)
  case atStart => exact ⟨0, k, Nat.zero_le _, by omega, rfl, rfl, Below.refl _ _⟩
  case round =>
    obtain ⟨j, c, hj, hc, rfl, rfl, hB⟩ := hrel
    have HC := hid hc
    clear hc
    have hc9 : c ≤ 8000000 := by have := HC.out; omega
    by_cases hlt : j < n
    · obtain ⟨b, off, rfl, hb, hcap, q0, q1, q2⟩ := (hr.below hB).at (i := j) (by rw [mkWs_len]; exact hlt)
      rw [mkWs_at] at q0 q1 q2
      unfold mkW at q0 q1 q2
      dsimp only at q0 q1 q2
      rw [← HC.out] at q0 q1 q2
      clear hr
      cases hq : (((c : Int) + 1) % 3 == 0)
      all_goals rw [hq] at q1
      all_goals go_wp2_with fail
      all_goals go_region_held3 (fun w' => w'.cell? ⟨b, off + j * 3, none⟩ = some (.string (mkT c))) (go_keep) (first | (go_at_call 48; refine (markText_at c _ _ rfl (by omega)).mono ?_; rintro e v1 ⟨rfl, hB1⟩; have r0 := (hB1.cell (p := ⟨b, off + j * 3, none⟩) (by exact hb)).trans (by exact q0); have r1 := (hB1.cell (p := ⟨b, off + j * 3 + 1, none⟩) (by exact hb)).trans (by exact q1); have r2 := (hB1.cell (p := ⟨b, off + j * 3 + 2, none⟩) (by exact hb)).trans (by exact q2)))
      all_goals have hBB1 := below_one hB (below_drew1 hB1)
      all_goals clear hB1
      all_goals go_wp2
      all_goals go_roundw
      all_goals first
        | exact ⟨j + 1, c + 3, by omega, by have := HC.out; omega, by go_num, by go_num, hBB1⟩
        | ((repeat apply Exists.intro); exact ⟨⟨j + 1, c + 3, by omega, by have := HC.out; omega, by go_num, by go_num, hBB1⟩, rfl⟩)
        | (simp [intOf]; omega)
    · obtain rfl : j = n := by omega
      go_wp2
      go_ret
      exact ⟨ret_int (by rw [HC.out]), hB⟩

end Go.Proofs.YtodkpoppgfomeaaGreatDoor

namespace Go.Proofs.YtodkpoppgfomeaaGreatDoor
open Go.RowKit Go.Shelf

theorem Mid.iso {lo hi : Nat} {w w1 : World} (h : Mid lo hi w w1) {base top : Nat} {v : Value} {s : Is} (hr : IsO w base top v s) (ho : hi ≤ base ∨ top ≤ lo) : IsO w1 base top v s := by
  obtain ⟨vw, vr, vs, rfl, h1, h2, h3, t1, t2, t3⟩ := hr
  exact ⟨vw, vr, vs, rfl, h.row h1 (fun k hk => by have := h1.lt k hk; have := t1 k hk; omega), h.row h2 (fun k hk => by have := h2.lt k hk; have := t2 k hk; omega), h.row h3 (fun k hk => by have := h3.lt k hk; have := t3 k hk; omega), t1, t2, t3⟩
/-- What lies in an issuer that was marked. -/
def mkIs (k : Nat) (s : Is) : Is := ⟨mkWs k s.ws.length, s.nx, mkN (k + 3 * s.ws.length) s.rv.length, mkS (k + 3 * s.ws.length + s.rv.length) s.sg.length⟩
def Is.many (s : Is) : Nat := 3 * s.ws.length + s.rv.length + s.sg.length

set_option maxHeartbeats 2000000 in
theorem markIssuer_any (v : Value) (s : Is) (k base top : Nat) (w : World) (hs : s.short) (hk : k + s.many ≤ 8000000) (ht : top ≤ w.heap.size) (h : IsO w base top v s) :
    Calls Tryz.prog 12 #[v, .int .i64 k] w fun e w' => e = .returned (.int .i64 ((k + s.many : Nat) : Int)) ∧ IsO w' base top v (mkIs k s) ∧ Mid base top w w' := by
  obtain ⟨vw, vr, vs, rfl, h1, h2, h3, t1, t2, t3⟩ := h
  obtain ⟨l1, l2, l3⟩ := hs
  unfold Is.many at hk
  obtain ⟨c1, HC1⟩ : ∃ c, Hid (c = k + 3 * s.ws.length) := ⟨_, hid rfl⟩
  obtain ⟨c2, HC2⟩ : ∃ c, Hid (c = c1 + s.rv.length) := ⟨_, hid rfl⟩
  have hc1 : c1 ≤ 8000000 := by have := HC1.out; omega
  have hc2 : c2 ≤ 8000000 := by have := HC1.out; have := HC2.out; omega
  have hB0 : Below w.heap.size w (w.alloc (.cells #[vw, .int .i64 s.nx, vr, vs] 30)) := (Below.refl _ w).alloc (Nat.le_refl _) _
  have F := Four.new w vw (.int .i64 s.nx) vr vs 30
  replace h1 := ownsRow_below h1 hB0
  replace h2 := ownsRow_below h2 hB0
  replace h3 := ownsRow_below h3 hB0
  have M0 : Mid base top w (w.alloc (.cells #[vw, .int .i64 s.nx, vr, vs] 30)) := Mid.of_below hB0
  go_enter Tryz.func12, Tryz.ntmps12
  go_wp2_with fail
  clear hB0
  generalize w.alloc (.cells #[vw, .int .i64 s.nx, vr, vs] 30) = W0 at *
  refine (markWorkS_to vw s.ws.length k base _ _ l1 (by omega) h1).mono ?_
  rintro e w1 ⟨rfl, r1, g1⟩
  rw [← HC1.out]
  have M1 : Mid base top W0 w1 := Mid.of_grown g1 (fun j hj => ⟨(h1.lt j hj).1, t1 j hj⟩)
  replace h2 := kept_apart h2 g1 (row_apart h2 h1 (by decide))
  replace h3 := kept_apart h3 g1 (row_apart h3 h1 (by decide))
  replace F := M1.four F (.inr ht)
  replace M0 := M0.trans M1
  clear M1 g1
  obtain ⟨a0, a1, a2, a3⟩ := F.c
  go_wp2_with fail
  refine (markIntS_to vr s.rv.length c1 base _ _ l2 (by have := HC1.out; omega) h2).mono ?_
  rintro e w2 ⟨rfl, r2, g2⟩
  rw [← HC2.out]
  have M1 : Mid base top w1 w2 := Mid.of_grown g2 (fun j hj => ⟨(h2.lt j hj).1, t2 j hj⟩)
  replace r1 := kept_apart r1 g2 (row_apart r1 h2 (by decide))
  replace h3 := kept_apart h3 g2 (row_apart h3 h2 (by decide))
  replace F := M1.four F (.inr ht)
  replace M0 := M0.trans M1
  clear M1 g2 a0 a1 a2 a3
  obtain ⟨a0, a1, a2, a3⟩ := F.c
  go_wp2_with fail
  refine (markStringS_to vs s.sg.length c2 base _ _ l3 (by have := HC1.out; have := HC2.out; omega) h3).mono ?_
  rintro e w3 ⟨rfl, r3, g3⟩
  have HE := hid (show ((c2 + s.sg.length : Nat) : Int) = ((k + s.many : Nat) : Int) by have := HC1.out; have := HC2.out; unfold Is.many; omega)
  rw [HE.out]
  have M1 : Mid base top w2 w3 := Mid.of_grown g3 (fun j hj => ⟨(h3.lt j hj).1, t3 j hj⟩)
  replace r1 := kept_apart r1 g3 (row_apart r1 h3 (by decide))
  replace r2 := kept_apart r2 g3 (row_apart r2 h3 (by decide))
  replace M0 := M0.trans M1
  clear M1 g3 a0 a1 a2 a3
  go_wp2_with fail
  go_ret
  refine ⟨rfl, ⟨vw, vr, vs, rfl, ?_, ?_, ?_, t1, t2, t3⟩, M0⟩
  · show World.ownsRow _ _ _ _ _ (mkWs k s.ws.length).length _
    rw [mkWs_len]
    exact r1
  · show World.ownsRow _ _ _ _ _ (mkN (k + 3 * s.ws.length) s.rv.length).length (nums (mkN (k + 3 * s.ws.length) s.rv.length))
    rw [mkN_len, ← HC1.out]
    exact r2
  · show World.ownsRow _ _ _ _ _ (mkS (k + 3 * s.ws.length + s.rv.length) s.sg.length).length (strs (mkS (k + 3 * s.ws.length + s.rv.length) s.sg.length))
    rw [mkS_len, ← HC1.out, ← HC2.out]
    exact r3

set_option maxHeartbeats 2000000 in
theorem heldIssuer_any (v : Value) (s : Is) (k : Nat) (w : World) (hs : s.short) (hk : k + s.many ≤ 8000000) (h : IsA w v (mkIs k s)) :
    Calls Tryz.prog 14 #[v, .int .i64 k] w fun e w' => e = .returned (.int .i64 ((k + s.many : Nat) : Int)) ∧ Below w.heap.size w w' := by
  obtain ⟨vw, vr, vs, rfl, h1, h2, h3⟩ := h.parts
  obtain ⟨l1, l2, l3⟩ := hs
  unfold Is.many at hk
  obtain ⟨c1, HC1⟩ : ∃ c, Hid (c = k + 3 * s.ws.length) := ⟨_, hid rfl⟩
  obtain ⟨c2, HC2⟩ : ∃ c, Hid (c = c1 + s.rv.length) := ⟨_, hid rfl⟩
  have hc1 : c1 ≤ 8000000 := by have := HC1.out; omega
  have hc2 : c2 ≤ 8000000 := by have := HC1.out; have := HC2.out; omega
  have h1' : WkS w vw (mkWs k s.ws.length) := h1
  have h2' : VS w vr (nums (mkN c1 s.rv.length)) := by rw [HC1.out]; exact h2
  have h3' : VS w vs (strs (mkS c2 s.sg.length)) := by rw [HC2.out, HC1.out]; exact h3
  have hnx : (mkIs k s).nx = s.nx := rfl
  rw [hnx]
  clear h h1 h2 h3 hnx
  have hB0 : Below w.heap.size w (w.alloc (.cells #[vw, .int .i64 s.nx, vr, vs] 30)) := (Below.refl _ w).alloc (Nat.le_refl _) _
  have F := Four.new w vw (.int .i64 s.nx) vr vs 30
  go_enter Tryz.func14, Tryz.ntmps14
  go_wp2_with fail
  generalize w.alloc (.cells #[vw, .int .i64 s.nx, vr, vs] 30) = W0 at *
  refine (heldWorkS_to vw s.ws.length k _ l1 (by omega) (h1'.below hB0)).mono ?_
  rintro e w1 ⟨rfl, hB1⟩
  rw [← HC1.out]
  replace F := F.below hB1
  have hBB1 := below_one hB0 hB1
  clear hB0 hB1
  obtain ⟨a0, a1, a2, a3⟩ := F.c
  have d1 : decide ((c1 : Int) < 0) = false := by simp
  go_wp2_with fail
  refine (heldIntS_to vr s.rv.length c1 _ l2 (by have := HC1.out; omega) (h2'.below hBB1)).mono ?_
  rintro e w2 ⟨rfl, hB2⟩
  rw [← HC2.out]
  replace F := F.below hB2
  have hBB2 := below_one hBB1 hB2
  clear hBB1 hB2 a0 a1 a2 a3
  obtain ⟨a0, a1, a2, a3⟩ := F.c
  have d2 : decide ((c2 : Int) < 0) = false := by simp
  go_wp2_with fail
  refine (heldStringS_to vs s.sg.length c2 _ l3 (by have := HC1.out; have := HC2.out; omega) (h3'.below hBB2)).mono ?_
  rintro e w3 ⟨rfl, hB3⟩
  obtain ⟨c3, HC3⟩ : ∃ c, Hid (c = c2 + s.sg.length) := ⟨_, hid rfl⟩
  rw [← HC3.out]
  have d3 : decide ((c3 : Int) < 0) = false := by simp
  go_wp2_with fail
  go_ret
  exact ⟨ret_int (by have := HC1.out; have := HC2.out; have := HC3.out; unfold Is.many; omega), below_one hBB2 hB3⟩

end Go.Proofs.YtodkpoppgfomeaaGreatDoor

namespace Go.Proofs.YtodkpoppgfomeaaGreatDoor
open Go.RowKit Go.Shelf

theorem cloneW_any (v : Value) (base n : Nat) (xs : List Value) (w : World) (hn : n ≤ 1048577) (h1 : ∀ u ∈ xs, u.oneCell' = true) (h : w.ownsRow base 97 3 v n xs) :
    Calls Tryz.prog 108 #[v] w fun e w' => ∃ v', e = .returned v' ∧ w'.ownsRow w.heap.size 97 3 v' n xs ∧ Below w.heap.size w w' := by
  obtain ⟨i0, hi, hz0, hz1, hz2⟩ := info_parts infoWork
  rcases row_form h with ⟨rfl, rfl⟩ | ⟨g, cap, rfl, _, _⟩
  · refine (AnyE.slices_Clone_nil Tryz.cloneWk 0 0 w).mono ?_
    rintro e w1 ⟨rfl, rfl⟩
    have hx : xs = [] := List.eq_nil_of_length_eq_zero (by have := h.1; omega)
    subst hx
    exact ⟨_, rfl, World.ownsRow_nil _ _ _ _, Below.refl _ _⟩
  · refine (AnyE.slices_Clone Tryz.cloneWk i0 _ 3 32 hi hz0 hz1 hz2 rfl (by decide) Tryz.sizeOf97 g 0 n cap xs w h.1 (by unfold maxLen; omega) (by omega) (fun j u hu => by have := h.cells (g := g) rfl j u hu; rw [Addr.add_lit] at this; exact this) h1).mono ?_
    rintro e w1 ⟨v', rfl, hr, _, hB⟩
    exact ⟨v', rfl, hr, hB⟩

theorem cloneN_any (v : Value) (base n : Nat) (xs : List Value) (w : World) (hn : n ≤ 1048577) (h1 : ∀ u ∈ xs, u.oneCell' = true) (h : w.ownsRow base 3 1 v n xs) :
    Calls Tryz.prog 109 #[v] w fun e w' => ∃ v', e = .returned v' ∧ w'.ownsRow w.heap.size 3 1 v' n xs ∧ Below w.heap.size w w' := by
  obtain ⟨i0, hi, hz0, hz1, hz2⟩ := info_parts infoInt
  rcases row_form h with ⟨rfl, rfl⟩ | ⟨g, cap, rfl, _, _⟩
  · refine (AnyE.slices_Clone_nil Tryz.cloneIn 0 0 w).mono ?_
    rintro e w1 ⟨rfl, rfl⟩
    have hx : xs = [] := List.eq_nil_of_length_eq_zero (by have := h.1; omega)
    subst hx
    exact ⟨_, rfl, World.ownsRow_nil _ _ _ _, Below.refl _ _⟩
  · refine (AnyE.slices_Clone Tryz.cloneIn i0 _ 1 8 hi hz0 hz1 hz2 rfl (by decide) Tryz.sizeOf3 g 0 n cap xs w h.1 (by unfold maxLen; omega) (by omega) (fun j u hu => by have := h.cells (g := g) rfl j u hu; rw [Addr.add_lit] at this; exact this) h1).mono ?_
    rintro e w1 ⟨v', rfl, hr, _, hB⟩
    exact ⟨v', rfl, hr, hB⟩

theorem cloneS_any (v : Value) (base n : Nat) (xs : List Value) (w : World) (hn : n ≤ 1048577) (h1 : ∀ u ∈ xs, u.oneCell' = true) (h : w.ownsRow base 9 1 v n xs) :
    Calls Tryz.prog 110 #[v] w fun e w' => ∃ v', e = .returned v' ∧ w'.ownsRow w.heap.size 9 1 v' n xs ∧ Below w.heap.size w w' := by
  obtain ⟨i0, hi, hz0, hz1, hz2⟩ := info_parts infoString
  rcases row_form h with ⟨rfl, rfl⟩ | ⟨g, cap, rfl, _, _⟩
  · refine (AnyE.slices_Clone_nil Tryz.cloneSt 0 0 w).mono ?_
    rintro e w1 ⟨rfl, rfl⟩
    have hx : xs = [] := List.eq_nil_of_length_eq_zero (by have := h.1; omega)
    subst hx
    exact ⟨_, rfl, World.ownsRow_nil _ _ _ _, Below.refl _ _⟩
  · refine (AnyE.slices_Clone Tryz.cloneSt i0 _ 1 16 hi hz0 hz1 hz2 rfl (by decide) Tryz.sizeOf9 g 0 n cap xs w h.1 (by unfold maxLen; omega) (by omega) (fun j u hu => by have := h.cells (g := g) rfl j u hu; rw [Addr.add_lit] at this; exact this) h1).mono ?_
    rintro e w1 ⟨v', rfl, hr, _, hB⟩
    exact ⟨v', rfl, hr, hB⟩

/-- The program's four faults and the type of all faults lie where they were laid. -/
structure ErA (w : World) (p0 p1 p2 p3 : Addr) : Prop where
  g0 : w.cell? ⟨0, 0, none⟩ = some (eV p0)
  g1 : w.cell? ⟨3, 0, none⟩ = some (eV p1)
  g2 : w.cell? ⟨1, 0, none⟩ = some (eV p2)
  g3 : w.cell? ⟨2, 0, none⟩ = some (eV p3)
  gt : w.cell? ⟨4, 0, none⟩ = some (.iface 179 (typ 69))
  b0 : ∃ c t, w.heap[p0.block]? = some (.cells c t (0, 0))
  b1 : ∃ c t, w.heap[p1.block]? = some (.cells c t (0, 0))
  b2 : ∃ c t, w.heap[p2.block]? = some (.cells c t (0, 0))
  b3 : ∃ c t, w.heap[p3.block]? = some (.cells c t (0, 0))
  n01 : p0 ≠ p1
  n02 : p0 ≠ p2
  n03 : p0 ≠ p3
  n12 : p1 ≠ p2
  n13 : p1 ≠ p3
  n23 : p2 ≠ p3
theorem blk_keep {w w' : World} (hB : Below w.heap.size w w') {k : Nat} (h : ∃ c t, w.heap[k]? = some (.cells c t (0, 0))) : ∃ c t, w'.heap[k]? = some (.cells c t (0, 0)) := by
  obtain ⟨c, t, h⟩ := h
  exact ⟨c, t, (hB.block _ (Array.getElem?_eq_some_iff.1 h).1).trans h⟩
theorem ErA.below {w w' : World} {p0 p1 p2 p3 : Addr} (h : ErA w p0 p1 p2 p3) (hB : Below w.heap.size w w') : ErA w' p0 p1 p2 p3 :=
  ⟨(hB.cell (blk_lt h.g0)).trans h.g0, (hB.cell (blk_lt h.g1)).trans h.g1, (hB.cell (blk_lt h.g2)).trans h.g2, (hB.cell (blk_lt h.g3)).trans h.g3, (hB.cell (blk_lt h.gt)).trans h.gt,
   blk_keep hB h.b0, blk_keep hB h.b1, blk_keep hB h.b2, blk_keep hB h.b3, h.n01, h.n02, h.n03, h.n12, h.n13, h.n23⟩
/-- What a function of the program's tells of a fault. -/
inductive Er where
  | nil | bad | twice | noWork | full
abbrev Er.val (p0 p1 p2 p3 : Addr) : Er → Value
  | .nil => .nilIface
  | .bad => eV p0
  | .twice => rV p1
  | .full => rV p2
  | .noWork => rV p3
def Er.code : Er → Int
  | .nil => 0
  | .bad => 1
  | .twice => 2
  | .noWork => 3
  | .full => 4
/-- errors.Is at a refusal, whatever it holds. -/
theorem is_ref (a b : Addr) (w : World) (hne : a ≠ b) (ha : ∃ c t, w.heap[a.block]? = some (.cells c t (0, 0))) (hb : ∃ c t, w.heap[b.block]? = some (.cells c t (0, 0))) :
    Calls Tryz.prog 111 #[rV a, eV b] w fun e w' => e = .returned (.bool false) ∧ Below w.heap.size w w' := by
  obtain ⟨ca, ta, ha⟩ := ha
  obtain ⟨cb, tb, hb⟩ := hb
  refine (is_ref_other a b ca cb ta tb w hne ha hb).mono ?_
  rintro e w' ⟨rfl, rfl⟩
  exact ⟨rfl, (Below.refl _ w).alloc (Nat.le_refl _) _⟩
theorem is_refS (b : Addr) (w : World) :
    Calls Tryz.prog 111 #[rV b, eV b] w fun e w' => e = .returned (.bool true) ∧ Below w.heap.size w w' := by
  refine (is_ref_same b w).mono ?_
  rintro e w' ⟨rfl, rfl⟩
  exact ⟨rfl, (Below.refl _ w).alloc (Nat.le_refl _) _⟩

set_option maxHeartbeats 2000000 in
theorem codeOf_any (x : Er) (p0 p1 p2 p3 : Addr) (w : World) (hx : x ≠ .nil) (hE : ErA w p0 p1 p2 p3) :
    Calls Tryz.prog 76 #[x.val p0 p1 p2 p3] w fun e w' => e = .returned (.int .i64 x.code) ∧ Below w.heap.size w w' := by
  cases x with
  | nil => exact absurd rfl hx
  | bad =>
    have g0 := hE.g0
    go_enter Tryz.func76, Tryz.ntmps76
    go_wp2_with fail
    refine (is_same p0 _).mono ?_
    rintro e w1 ⟨rfl, rfl⟩
    go_wp2_with fail
    go_ret
    exact ⟨rfl, Below.refl _ _⟩
  | twice =>
    have g0 := hE.g0
    go_enter Tryz.func76, Tryz.ntmps76
    go_wp2_with fail
    refine (is_ref p1 p0 _ hE.n01.symm hE.b1 hE.b0).mono ?_
    rintro e w1 ⟨rfl, hB1⟩
    have E1 := hE.below hB1
    have g1 := E1.g1
    go_wp2_with fail
    refine (is_refS p1 _).mono ?_
    rintro e w2 ⟨rfl, hB2⟩
    go_wp2_with fail
    go_ret
    exact ⟨rfl, below_one hB1 hB2⟩
  | noWork =>
    have g0 := hE.g0
    go_enter Tryz.func76, Tryz.ntmps76
    go_wp2_with fail
    refine (is_ref p3 p0 _ hE.n03.symm hE.b3 hE.b0).mono ?_
    rintro e w1 ⟨rfl, hB1⟩
    have E1 := hE.below hB1
    have g1 := E1.g1
    go_wp2_with fail
    refine (is_ref p3 p1 _ E1.n13.symm E1.b3 E1.b1).mono ?_
    rintro e w2 ⟨rfl, hB2⟩
    have E2 := E1.below hB2
    have g3 := E2.g3
    go_wp2_with fail
    refine (is_refS p3 _).mono ?_
    rintro e w3 ⟨rfl, hB3⟩
    go_wp2_with fail
    go_ret
    exact ⟨rfl, below_two hB1 hB2 hB3⟩
  | full =>
    have g0 := hE.g0
    go_enter Tryz.func76, Tryz.ntmps76
    go_wp2_with fail
    refine (is_ref p2 p0 _ hE.n02.symm hE.b2 hE.b0).mono ?_
    rintro e w1 ⟨rfl, hB1⟩
    have E1 := hE.below hB1
    have g1 := E1.g1
    go_wp2_with fail
    refine (is_ref p2 p1 _ E1.n12.symm E1.b2 E1.b1).mono ?_
    rintro e w2 ⟨rfl, hB2⟩
    have E2 := E1.below hB2
    have g3 := E2.g3
    go_wp2_with fail
    refine (is_ref p2 p3 _ E2.n23 E2.b2 E2.b3).mono ?_
    rintro e w3 ⟨rfl, hB3⟩
    have E3 := E2.below hB3
    have g2 := E3.g2
    go_wp2_with fail
    refine (is_refS p2 _).mono ?_
    rintro e w4 ⟨rfl, hB4⟩
    go_wp2_with fail
    go_ret
    exact ⟨rfl, below_one (below_two hB1 hB2 hB3) hB4⟩

end Go.Proofs.YtodkpoppgfomeaaGreatDoor

namespace Go.Proofs.YtodkpoppgfomeaaGreatDoor
open Go.ChangeShapes Go.WideShapes Go.RowKit Go.Shelf
open Go.Extern.Stop Go.Stop Go.Extern

theorem flt_own : ownKnob Tryz.prog.godebug = none := by kernel_rfl
theorem flt_gT : Tryz.prog.globalNamed "errors.errorType" = some 4 := by kernel_rfl
theorem flt_rt : (Tryz.prog.cutTypes.find? (·.1 == "internal/reflectlite.rtype")).map (·.2) = some 179 := by kernel_rfl
theorem flt_row : ((List.range 241).filter fun t => Tryz.prog.rowNamed t [101, 114, 114, 111, 114]) = [69] := by kernel_rfl
theorem flt_size : Tryz.prog.types.size = 241 := by kernel_rfl
theorem flt_star : "*" ++ "errors.errorString" = "*errors.errorString" := by decide
theorem flt_ptr (u : TypeId) (h : Tryz.prog.typeName? 3 u = some "*errors.errorString") : u = 211 :=
  typeName_ptr_named (nm := "errors.errorString") (by rw [flt_star]; kernel_rfl) (by kernel_rfl) (by decide) u (by rw [flt_star]; exact h)
theorem flt_cE : Tryz.prog.cellsOf 229 = 1 := by kernel_rfl
theorem flt_cS : Tryz.prog.cellsOf 9 = 1 := by kernel_rfl
theorem flt_g0 : Tryz.prog.globalNamed "loop.example/g00167/impl.errNotGood" = some 0 := by kernel_rfl
theorem flt_t0 : (Tryz.prog.globals[0]?).map (·.type) = some 69 := by kernel_rfl
theorem flt_g1 : Tryz.prog.globalNamed "loop.example/g00167/impl.errTwice" = some 3 := by kernel_rfl
theorem flt_t1 : (Tryz.prog.globals[3]?).map (·.type) = some 69 := by kernel_rfl
theorem flt_g2 : Tryz.prog.globalNamed "loop.example/g00167/impl.errNoWork" = some 2 := by kernel_rfl
theorem flt_t2 : (Tryz.prog.globals[2]?).map (·.type) = some 69 := by kernel_rfl
theorem flt_g3 : Tryz.prog.globalNamed "loop.example/g00167/impl.errFull" = some 1 := by kernel_rfl
theorem flt_t3 : (Tryz.prog.globals[1]?).map (·.type) = some 69 := by kernel_rfl
abbrev fltL : List (String × DataW Unit) := [("errors.errorType", Rows.laid_errors_errorType), ("loop.example/g00167/impl.errNotGood", Rows.laid_loop_example_g00167_impl_errNotGood), ("loop.example/g00167/impl.errTwice", Rows.laid_loop_example_g00167_impl_errTwice), ("loop.example/g00167/impl.errNoWork", Rows.laid_loop_example_g00167_impl_errNoWork), ("loop.example/g00167/impl.errFull", Rows.laid_loop_example_g00167_impl_errFull)]

/-- The type's handle, as the row lists it. -/
theorem flt_handle {W : World} (h : laidMetH Tryz.prog fltL W) : W.cell? ⟨4, 0, none⟩ = some (.iface 179 (typ 69)) := by
  have h' : laidMet Tryz.prog [("loop.example/g00167/impl.errNotGood", Rows.laid_loop_example_g00167_impl_errNotGood), ("loop.example/g00167/impl.errTwice", Rows.laid_loop_example_g00167_impl_errTwice), ("loop.example/g00167/impl.errNoWork", Rows.laid_loop_example_g00167_impl_errNoWork), ("loop.example/g00167/impl.errFull", Rows.laid_loop_example_g00167_impl_errFull)] W ∧ handlesMet Tryz.prog [("errors.errorType", Rows.laid_errors_errorType)] W := h
  obtain ⟨name, u, ty, e1, e2, e3, e4, e5⟩ := h'.2 _ (List.mem_singleton.2 rfl)
  have en : name = [101, 114, 114, 111, 114] := (Option.some.inj e1).symm
  subst en
  obtain rfl := Option.some.inj (flt_rt.symm.trans e2)
  have hm : ty ∈ (List.range 241).filter fun t => Tryz.prog.rowNamed t [101, 114, 114, 111, 114] := List.mem_filter.2 ⟨List.mem_range.2 (by rw [← flt_size]; exact e3), e4⟩
  rw [flt_row] at hm
  obtain rfl := List.mem_singleton.1 hm
  have hh : typeHandle Tryz.prog 69 = .pointer (some ⟨9, 69, none⟩) := by kernel_rfl
  rw [hh] at e5
  simpa using World.var?_cell flt_gT e5 0
theorem flt_ne {W : World} {a b : Addr} {s t : ByteArray} (ha : W.cell? a = some (.string s)) (hb : W.cell? b = some (.string t)) (h : s.data.toList ≠ t.data.toList) : a ≠ b := fun e => by
  subst e
  rw [ha] at hb
  cases hb
  exact h rfl
/-- Where the faults lie. -/
theorem era_of {W : World} (h : laidMetH Tryz.prog fltL W) : ∃ p0 p1 p2 p3, ErA W p0 p1 p2 p3 := by
  have hT := flt_handle h
  have h' : laidMet Tryz.prog [("loop.example/g00167/impl.errNotGood", Rows.laid_loop_example_g00167_impl_errNotGood), ("loop.example/g00167/impl.errTwice", Rows.laid_loop_example_g00167_impl_errTwice), ("loop.example/g00167/impl.errNoWork", Rows.laid_loop_example_g00167_impl_errNoWork), ("loop.example/g00167/impl.errFull", Rows.laid_loop_example_g00167_impl_errFull)] W ∧ handlesMet Tryz.prog [("errors.errorType", Rows.laid_errors_errorType)] W := h
  obtain ⟨a0, a1, s0, s1, c0, c1, t0, t1, hv0, hv1, hc0, hs0, _, hc1, hs1, _, hne, hb0, hb1⟩ := laid_sentinels2 h'.1 flt_g0 flt_t0 flt_g1 flt_t1 Tryz.underlying69 flt_ptr Tryz.underlying211 Tryz.underlying229 rfl rfl Tryz.underlying9 flt_cE flt_cS
  obtain ⟨a2, a3, s2, s3, c2, c3, t2, t3, hv2, hv3, hc2, hs2, _, hc3, hs3, _, hne', hb2, hb3⟩ := laid_sentinels2 h'.1.tail.tail flt_g2 flt_t2 flt_g3 flt_t3 Tryz.underlying69 flt_ptr Tryz.underlying211 Tryz.underlying229 rfl rfl Tryz.underlying9 flt_cE flt_cS
  refine ⟨a0, a1, a3, a2, ⟨by simpa using World.var?_cell flt_g0 hv0 0, by simpa using World.var?_cell flt_g1 hv1 0, by simpa using World.var?_cell flt_g3 hv3 0, by simpa using World.var?_cell flt_g2 hv2 0, hT, ⟨_, _, hb0⟩, ⟨_, _, hb1⟩, ⟨_, _, hb3⟩, ⟨_, _, hb2⟩, hne, ?_, ?_, ?_, ?_, hne'.symm⟩⟩
  · exact flt_ne hc0 hc3 (by rw [hs0, hs3]; decide)
  · exact flt_ne hc0 hc2 (by rw [hs0, hs2]; decide)
  · exact flt_ne hc1 hc3 (by rw [hs1, hs3]; decide)
  · exact flt_ne hc1 hc2 (by rw [hs1, hs2]; decide)

noncomputable def fltLow : Nat := (World.holding Tryz.prog default ⟨#[], #[], []⟩).heap.size
abbrev fltS0 : ByteArray := { data := #[119, 104, 97, 116, 32, 119, 97, 115, 32, 104, 97, 110, 100, 101, 100, 32, 105, 110, 32, 105, 115, 32, 110, 111, 116, 32, 103, 111, 111, 100] }
abbrev fltS1 : ByteArray := { data := #[116, 104, 101, 32, 119, 111, 114, 107, 32, 105, 115, 32, 116, 104, 101, 114, 101, 32, 97, 110, 100, 32, 108, 105, 118, 101] }
abbrev fltS2 : ByteArray := { data := #[110, 111, 32, 115, 117, 99, 104, 32, 119, 111, 114, 107, 32, 105, 115, 32, 108, 105, 118, 101] }
abbrev fltS3 : ByteArray := { data := #[110, 111, 32, 109, 111, 114, 101, 32, 102, 105, 116] }
/-- A world for the witness. -/
noncomputable def fltWorld (os : Os) : World :=
  let w0 := World.holding Tryz.prog os ⟨#[.cells #[.string fltS0] 229, .cells #[.string fltS1] 229, .cells #[.string fltS2] 229, .cells #[.string fltS3] 229], #[], []⟩
  { w0 with heap := (((((w0.heap.modify 0 fun
      | .cells _ t frozen => .cells #[eV ⟨fltLow, 0, none⟩] t frozen
      | o => o).modify 3 fun
      | .cells _ t frozen => .cells #[eV ⟨fltLow + 1, 0, none⟩] t frozen
      | o => o).modify 2 fun
      | .cells _ t frozen => .cells #[eV ⟨fltLow + 2, 0, none⟩] t frozen
      | o => o).modify 1 fun
      | .cells _ t frozen => .cells #[eV ⟨fltLow + 3, 0, none⟩] t frozen
      | o => o).modify 4 fun
      | .cells _ t frozen => .cells #[.iface 179 (typ 69)] t frozen
      | o => o) }
theorem flt_met (os : Os) (args : Array Value) : laidMetH Tryz.prog fltL ((fltWorld os).forCall (fun _ _ => 0) ⟨#[], args, []⟩).memory :=
  laidMetH_of_parts (laidMet_of_run (ps := [.cell 0 0, .cell (fltLow) 0, .cell 3 0, .cell (fltLow + 1) 0, .cell 2 0, .cell (fltLow + 2) 0, .cell 1 0, .cell (fltLow + 3) 0]) 8 (by kernel_rfl) (by kernel_rfl) (by kernel_rfl)) (by kernel_rfl)

end Go.Proofs.YtodkpoppgfomeaaGreatDoor

namespace Go.Proofs.YtodkpoppgfomeaaGreatDoor
open Go.RowKit Go.Shelf

theorem dd_big {u : Nat} (h : ¬ u < 10) : (⟨(Lib.decDigits u).toArray⟩ : ByteArray) = ⟨(Lib.decDigits (u / 10)).toArray⟩ ++ ⟨#[UInt8.ofNat (48 + u % 10)]⟩ := by
  apply bytes_same
  rw [Lib.decDigits, dif_neg h]
  simp
theorem dd_one {u : Nat} (h : u < 10) : (⟨(Lib.decDigits u).toArray⟩ : ByteArray) = ⟨#[UInt8.ofNat (48 + u % 10)]⟩ := by
  apply bytes_same
  rw [Lib.decDigits_one h, Nat.mod_eq_of_lt h]
theorem dd_size (u : Nat) (h : u ≤ 1000000) : (⟨(Lib.decDigits u).toArray⟩ : ByteArray).size ≤ 7 := by
  show (Lib.decDigits u).toArray.size ≤ 7
  rw [List.size_toArray, Lib.decDigits_length]
  rcases Nat.lt_or_ge u 1000000 with h1 | h1
  · have := (dd_len6 h1).2
    rw [Lib.decDigits_length] at this
    omega
  · have : u = 1000000 := by omega
    subst this
    have := Lib.nDigits_unique 6 1000000 (by decide) (by decide)
    omega

theorem conv_any (b m : Nat) (W : World) (h : W.cell? ⟨b, 0, none⟩ = some (.int .u8 (48 + (m : Int) % 10))) : (convert 45 9 (.slice (some ⟨b, 0, none⟩) 1 1)).run Tryz.prog W = .ok (.string ⟨#[UInt8.ofNat (48 + m % 10)]⟩) W := by
  refine run_convert_bytes_back (P := Tryz.prog) _ 45 9 5 ⟨b, 0, none⟩ 1 [UInt8.ofNat (48 + m % 10)] Tryz.underlying45 Tryz.underlying5 Tryz.underlying9 ?_
  intro j hj
  match j, hj with
  | 0, _ =>
    simp [Addr.add, h]
    omega

set_option maxHeartbeats 4000000 in
set_option maxRecDepth 100000 in
theorem l1Num_nat : ∀ (u : Nat) (w : World), u ≤ 1000000 →
    Calls Tryz.prog 114 #[.int .i64 (u : Int)] w fun e w' => e = .returned (.string ⟨(Lib.decDigits u).toArray⟩) ∧ Below w.heap.size w w' := by
  intro u
  induction u using Nat.strongRecOn with
  | _ u ih =>
    intro w hu
    by_cases h : u < 10
    · have hc := digit_conv w u
      have h1 : (u : Int) % 10 = u := by omega
      rw [h1] at hc
      have HR := hid (dd_one h)
      generalize UInt8.ofNat (48 + u % 10) = d at *
      go_enter Tryz.func114, Tryz.ntmps114
      go_wp2
      go_ret
      exact ⟨ret_str HR.out.symm, (Below.refl _ w).alloc (Nat.le_refl _) _⟩
    · have HR := hid (dd_big h)
      have hih : ∀ (z : Int) (W : World), z = ((u / 10 : Nat) : Int) → Calls Tryz.prog 114 #[.int .i64 z] W fun e w' => e = .returned (.string ⟨(Lib.decDigits (u / 10)).toArray⟩) ∧ Below W.heap.size W w' := fun z W hz => by
        subst hz
        exact ih (u / 10) (by omega) W (by omega)
      have hcv := fun b W h => conv_any b u W h
      have hsz := dd_size (u / 10) (by omega)
      generalize (⟨(Lib.decDigits (u / 10)).toArray⟩ : ByteArray) = x at *
      generalize UInt8.ofNat (48 + u % 10) = d at *
      clear ih
      have g1 : ¬9223372036854775807 < x.size + 1 := by omega
      have e1 : IntKind.i64.wrap ((u : Int) / 10) = (u : Int) / 10 := by rw [IntKind.wrap_i64]; omega
      have e2 : (u : Int).tmod 10 = (u : Int) % 10 := Int.tmod_eq_emod_of_nonneg (by omega)
      have e3 : IntKind.i64.wrap (48 + (u : Int) % 10) = 48 + (u : Int) % 10 := by rw [IntKind.wrap_i64]; omega
      have e4 : IntKind.u8.wrap (48 + (u : Int) % 10) = 48 + (u : Int) % 10 := by rw [IntKind.wrap_u8]; omega
      go_enter Tryz.func114, Tryz.ntmps114
      go_wp2_with fail
      go_region_with (go_at_call 114; refine (hih _ _ (by omega)).mono ?_; rintro e w1 ⟨rfl, hB1⟩; have hq := hB1.cell (p := ⟨w.heap.size, 0, none⟩))
      all_goals go_wp2
      all_goals go_ret
      all_goals refine ⟨ret_str HR.out.symm, ?_⟩
      all_goals first
        | exact ((Below.refl _ w).trans (below_drew1 hB1)).alloc (below_drew1 hB1).size _
        | exact below_one ((Below.refl _ w).alloc (Nat.le_refl _) _) (below_drew1 hB1)
        | exact below_one ((Below.refl _ w).alloc (Nat.le_refl _) _) hB1

theorem l1Num_any (n : Int) (w : World) (h0 : 0 ≤ n) (h : n ≤ 1000000) :
    Calls Tryz.prog 114 #[.int .i64 n] w fun e w' => e = .returned (.string (numT n)) ∧ Below w.heap.size w w' := by
  obtain ⟨u, rfl⟩ := Int.eq_ofNat_of_zero_le h0
  have e : numT (u : Int) = ⟨(Lib.decDigits u).toArray⟩ := by
    unfold numT
    rw [itoa_pos h0]
    rfl
  rw [e]
  exact l1Num_nat u w (by omega)

end Go.Proofs.YtodkpoppgfomeaaGreatDoor
