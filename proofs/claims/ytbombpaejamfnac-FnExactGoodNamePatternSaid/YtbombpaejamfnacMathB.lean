/-
  Plain facts on names, paths and their patterns as lists of pieces, without a program.
-/
import Derived.Laws.Strings
import Derived.Test.YtbombpaejamfnacMath
namespace Go.Proofs.Ytbombpaejamfnac

def starB (x : ByteArray) : Bool := x.toList == [42]
def star2B (x : ByteArray) : Bool := x.toList == [42, 42]
/-- A word or a star. -/
def wsB (x : ByteArray) : Bool := starB x || wordB x

theorem toList_data (x : ByteArray) : x.toList = x.data.toList := ByteArray.toList_eq x
theorem star2_not_ws (x : ByteArray) (h : star2B x = true) : wsB x = false := by
  have h1 : x.data.toList = [42, 42] := by simpa [star2B, toList_data] using h
  have h2 : wordTo x x.size = false := by
    unfold wordTo
    rw [h1, show x.size = x.data.toList.length by simp, h1]
    decide
  simp [wsB, starB, wordB, toList_data, h1, h2]

/-! ### Names -/

/-- The pieces of a name pattern as they come: how many have come; none behind a piece that is one too many or none. -/
def nmStep (o : Option Nat) (x : ByteArray) : Option Nat := match o with
  | none => none
  | some n => if n = 2 then none else if wsB x = true then some (n + 1) else none
def nmSt (l : List ByteArray) : Option Nat := l.foldl nmStep (some 0)
theorem nmSt_nil : nmSt [] = some 0 := rfl
theorem nmSt_snoc (l : List ByteArray) (x : ByteArray) : nmSt (l ++ [x]) = nmStep (nmSt l) x := by simp [nmSt, List.foldl_append]
theorem nmFold_none (l : List ByteArray) : l.foldl nmStep none = none := by
  induction l with
  | nil => rfl
  | cons x l ih => simpa [List.foldl, nmStep] using ih
theorem nmSt_pre {p l : List ByteArray} (h : p <+: l) (hp : nmSt p = none) : nmSt l = none := by
  obtain ⟨r, rfl⟩ := h
  unfold nmSt at *
  rw [List.foldl_append, hp, nmFold_none]
theorem nmFold_eq (l : List ByteArray) : ∀ n, n ≤ 2 → l.foldl nmStep (some n) = if l.all wsB = true ∧ n + l.length ≤ 2 then some (n + l.length) else none := by
  induction l with
  | nil => intro n hn; simp [hn]
  | cons x l ih =>
    intro n hn
    rw [List.foldl_cons]
    by_cases h2 : n = 2
    · subst h2
      rw [show nmStep (some 2) x = none from rfl, nmFold_none, if_neg (by simp)]
    · by_cases hx : wsB x = true
      · rw [show nmStep (some n) x = some (n + 1) by simp [nmStep, h2, hx], ih (n + 1) (by omega)]
        simp only [List.all_cons, hx, Bool.true_and, List.length_cons]
        rw [show n + 1 + l.length = n + (l.length + 1) by omega]
      · rw [show nmStep (some n) x = none by simp [nmStep, h2, hx], nmFold_none, if_neg (by simp [hx])]
theorem nmSt_eq (l : List ByteArray) : nmSt l = if l.all wsB = true ∧ l.length ≤ 2 then some l.length else none := by
  have := nmFold_eq l 0 (by omega)
  simpa [nmSt] using this
theorem nmSt_le {l : List ByteArray} (h : nmSt l = some l.length) : l.length ≤ 2 := by
  rw [nmSt_eq] at h
  split at h
  · rename_i h'; exact h'.2
  · cases h
theorem nmSt_full {l : List ByteArray} (x : ByteArray) (h : nmSt l = some l.length) (h2 : l.length = 2) : nmSt (l ++ [x]) = none := by
  rw [nmSt_snoc, h, h2]
  rfl
theorem nmSt_bad {l : List ByteArray} (x : ByteArray) (h : nmSt l = some l.length) (hx : wsB x = false) : nmSt (l ++ [x]) = none := by
  rw [nmSt_snoc, h]
  simp [nmStep, hx]
theorem nmSt_good {l : List ByteArray} (x : ByteArray) (h : nmSt l = some l.length) (h2 : ¬ l.length = 2) (hx : wsB x = true) : nmSt (l ++ [x]) = some (l ++ [x]).length := by
  rw [nmSt_snoc, h]
  simp [nmStep, hx, h2]
/-- The pieces are those of a name pattern. -/
def nmB (l : List ByteArray) : Bool := decide (nmSt l = some 2)
theorem nmB_eq (l : List ByteArray) : nmB l = (decide (l.length = 2) && l.all wsB) := by
  unfold nmB
  rw [nmSt_eq]
  by_cases h : l.all wsB = true
  · by_cases h2 : l.length ≤ 2
    · simp [h, h2]
    · rw [if_neg (by simp [h2])]
      simp; omega
  · rw [if_neg (by simp [h])]
    simp at h
    simp [h]
/-- The pieces of a name pattern, none where they are not one's. -/
def nmL (l : List ByteArray) : List ByteArray := if nmB l = true then l else []
theorem nmL_yes {l : List ByteArray} (h : nmB l = true) : nmL l = l := if_pos h
theorem nmL_no {l : List ByteArray} (h : nmB l = false) : nmL l = [] := if_neg (by rw [h]; exact Bool.false_ne_true)
theorem nmB_none {l : List ByteArray} (h : nmSt l = none) : nmB l = false := by
  unfold nmB
  rw [h]
  rfl
theorem nmB_some {l : List ByteArray} (h : nmSt l = some l.length) : nmB l = decide (l.length = 2) := by
  unfold nmB
  rw [h]
  simp
theorem nmB_len {l : List ByteArray} (h : ¬ l.length = 2) : nmB l = false := by rw [nmB_eq]; simp [h]
theorem nmB_two (x y : ByteArray) : nmB [x, y] = (wsB x && wsB y) := by simp [nmB_eq]

/-! ### Paths -/

/-- The pieces of a path pattern as they come: how many have come, and whether two stars have ended it. -/
def ptStep (o : Option (Nat × Bool)) (x : ByteArray) : Option (Nat × Bool) := match o with
  | none => none
  | some (n, e) => if e = true ∨ n = 6 then none else if star2B x = true then some (n + 1, true) else if wsB x = true then some (n + 1, false) else none
def ptSt (l : List ByteArray) : Option (Nat × Bool) := l.foldl ptStep (some (0, false))
theorem ptSt_nil : ptSt [] = some (0, false) := rfl
theorem ptSt_snoc (l : List ByteArray) (x : ByteArray) : ptSt (l ++ [x]) = ptStep (ptSt l) x := by simp [ptSt, List.foldl_append]
theorem ptFold_none (l : List ByteArray) : l.foldl ptStep none = none := by
  induction l with
  | nil => rfl
  | cons x l ih => simpa [List.foldl, ptStep] using ih
theorem ptSt_pre {p l : List ByteArray} (h : p <+: l) (hp : ptSt p = none) : ptSt l = none := by
  obtain ⟨r, rfl⟩ := h
  unfold ptSt at *
  rw [List.foldl_append, hp, ptFold_none]
/-- Words and stars, two stars at the end alone. -/
def ptOk : List ByteArray → Bool
  | [] => true
  | x :: r => if star2B x = true then r.isEmpty else wsB x && ptOk r
theorem ptFold_eq (l : List ByteArray) : ∀ n, n ≤ 6 → (l.foldl ptStep (some (n, false))).isSome = (ptOk l && decide (n + l.length ≤ 6)) := by
  induction l with
  | nil => intro n hn; simp [ptOk, hn]
  | cons x l ih =>
    intro n hn
    rw [List.foldl_cons]
    by_cases h6 : n = 6
    · subst h6
      rw [show ptStep (some (6, false)) x = none from rfl, ptFold_none]
      simp
    · by_cases h2 : star2B x = true
      · rw [show ptStep (some (n, false)) x = some (n + 1, true) by simp [ptStep, h6, h2]]
        cases l with
        | nil => simp [ptOk, h2]; omega
        | cons y r => rw [List.foldl_cons, show ptStep (some (n + 1, true)) y = none by simp [ptStep], ptFold_none]; simp [ptOk, h2]
      · by_cases hx : wsB x = true
        · rw [show ptStep (some (n, false)) x = some (n + 1, false) by simp [ptStep, h6, h2, hx], ih (n + 1) (by omega)]
          simp only [ptOk, h2, hx, Bool.true_and, List.length_cons, Bool.false_eq_true, if_false]
          rw [show n + 1 + l.length = n + (l.length + 1) by omega]
        · rw [show ptStep (some (n, false)) x = none by simp [ptStep, h6, h2, hx], ptFold_none]
          simp [ptOk, h2, hx]
/-- The pieces are those of a path pattern. -/
def ptB (l : List ByteArray) : Bool := (ptSt l).isSome
theorem ptB_eq (l : List ByteArray) : ptB l = (ptOk l && decide (l.length ≤ 6)) := by
  have := ptFold_eq l 0 (by omega)
  simpa [ptB, ptSt] using this
theorem ptSt_len (l : List ByteArray) : ∀ n e m f, l.foldl ptStep (some (n, e)) = some (m, f) → m = n + l.length := by
  induction l with
  | nil => intro n e m f h; simp at h; simp [h.1]
  | cons x l ih =>
    intro n e m f h
    rw [List.foldl_cons] at h
    have hs : ptStep (some (n, e)) x = none ∨ ∃ g, ptStep (some (n, e)) x = some (n + 1, g) := by
      unfold ptStep
      simp only
      split
      · exact .inl rfl
      · split
        · exact .inr ⟨_, rfl⟩
        · split
          · exact .inr ⟨_, rfl⟩
          · exact .inl rfl
    rcases hs with hs | ⟨g, hs⟩
    · rw [hs, ptFold_none] at h; cases h
    · rw [hs] at h
      have := ih _ _ _ _ h
      simp; omega
theorem ptSt_num {l : List ByteArray} {m : Nat} {f : Bool} (h : ptSt l = some (m, f)) : m = l.length := by
  have := ptSt_len l 0 false m f h
  omega

/-- What the other program asks of the piece at i. -/
def ppAt (l : List ByteArray) (i : Nat) : Bool := wordB (l.getD i ByteArray.empty) || starB (l.getD i ByteArray.empty) || (star2B (l.getD i ByteArray.empty) && decide (i + 1 = l.length))
def ppTo (l : List ByteArray) (k : Nat) : Bool := (List.range k).all (ppAt l)
theorem ppTo_zero (l : List ByteArray) : ppTo l 0 = true := rfl
theorem ppTo_succ (l : List ByteArray) (k : Nat) : ppTo l (k + 1) = (ppTo l k && ppAt l k) := by
  unfold ppTo
  rw [List.range_succ, List.all_append]
  simp
theorem pp_ok (l : List ByteArray) : ppTo l l.length = ptOk l := by
  induction l with
  | nil => rfl
  | cons x r ih =>
    have hall : ppTo (x :: r) (r.length + 1) = (ppAt (x :: r) 0 && (List.range r.length).all (fun i => ppAt (x :: r) (i + 1))) := by
      unfold ppTo
      rw [List.range_succ_eq_map, List.all_cons, List.all_map]
      rfl
    have hsh : (List.range r.length).all (fun i => ppAt (x :: r) (i + 1)) = ppTo r r.length := by
      unfold ppTo
      have : ∀ i ∈ List.range r.length, ppAt (x :: r) (i + 1) = ppAt r i := by
        intro i _
        simp [ppAt]
      rw [Bool.eq_iff_iff, List.all_eq_true, List.all_eq_true]
      exact ⟨fun h i hi => (this i hi) ▸ h i hi, fun h i hi => (this i hi).symm ▸ h i hi⟩
    rw [List.length_cons, hall, hsh, ih]
    rw [ptOk]
    by_cases h2 : star2B x = true
    · have hn := star2_not_ws x h2
      have hw : wordB x = false := by simp [wsB] at hn; exact hn.2
      have hs : starB x = false := by simp [wsB] at hn; exact hn.1
      rw [if_pos h2]
      simp only [ppAt, List.getD_cons_zero, hw, hs, h2, Bool.or_false, Bool.true_and, Bool.false_or, List.length_cons]
      cases r with
      | nil => simp [ptOk]
      | cons y t => simp
    · rw [if_neg h2]
      simp at h2
      simp only [ppAt, List.getD_cons_zero, h2, Bool.false_and, Bool.or_false, wsB]
      rw [Bool.or_comm (wordB x)]
theorem plain_ok (l : List ByteArray) (h : l.all wordB = true) : ptOk l = true := by
  induction l with
  | nil => rfl
  | cons x r ih =>
    simp only [List.all_cons, Bool.and_eq_true] at h
    unfold ptOk
    by_cases h2 : star2B x = true
    · have hn := star2_not_ws x h2
      simp [wsB, h.1] at hn
    · rw [if_neg h2]
      simp [wsB, h.1, ih h.2]

end Go.Proofs.Ytbombpaejamfnac
