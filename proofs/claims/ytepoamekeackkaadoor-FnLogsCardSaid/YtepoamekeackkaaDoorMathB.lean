/-
  Plain facts on names, paths and their patterns as lists of pieces, without a program.
-/
import Derived.Laws.Strings
import Derived.Test.YtepoamekeackkaaDoorMath
namespace Go.Proofs.YtepoamekeackkaaDoor

def starB (x : ByteArray) : Bool := x.toList == [42]
def star2B (x : ByteArray) : Bool := x.toList == [42, 42]
/-- A word or a star. -/
def wsB (x : ByteArray) : Bool := starB x || wordB x

theorem toList_data (x : ByteArray) : x.toList = x.data.toList := ByteArray.toList_eq x
theorem star2_not_ws (x : ByteArray) (h : star2B x = true) : wsB x = false := by
  have h1 : x.data.toList = [42, 42] := by simpa [star2B, toList_data] using h
  have h2 : wordTo x x.size = false := by
    unfold wordTo
    rw [h1, show x.size = x.data.toList.length by simp, h1]
    decide
  simp [wsB, starB, wordB, toList_data, h1, h2]

/-! ### Names -/

/-- The pieces of a name pattern as they come: how many have come; none behind a piece that is one too many or none. -/
def nmStep (o : Option Nat) (x : ByteArray) : Option Nat := match o with
  | none => none
  | some n => if n = 2 then none else if wsB x = true then some (n + 1) else none
def nmSt (l : List ByteArray) : Option Nat := l.foldl nmStep (some 0)
theorem nmSt_nil : nmSt [] = some 0 := rfl
theorem nmSt_snoc (l : List ByteArray) (x : ByteArray) : nmSt (l ++ [x]) = nmStep (nmSt l) x := by simp [nmSt, List.foldl_append]
theorem nmFold_none (l : List ByteArray) : l.foldl nmStep none = none := by
  induction l with
  | nil => rfl
  | cons x l ih => simpa [List.foldl, nmStep] using ih
theorem nmSt_pre {p l : List ByteArray} (h : p <+: l) (hp : nmSt p = none) : nmSt l = none := by
  obtain ⟨r, rfl⟩ := h
  unfold nmSt at *
  rw [List.foldl_append, hp, nmFold_none]
theorem nmFold_eq (l : List ByteArray) : ∀ n, n ≤ 2 → l.foldl nmStep (some n) = if l.all wsB = true ∧ n + l.length ≤ 2 then some (n + l.length) else none := by
  induction l with
  | nil => intro n hn; simp [hn]
  | cons x l ih =>
    intro n hn
    rw [List.foldl_cons]
    by_cases h2 : n = 2
    · subst h2
      rw [show nmStep (some 2) x = none from rfl, nmFold_none, if_neg (by simp)]
    · by_cases hx : wsB x = true
      · rw [show nmStep (some n) x = some (n + 1) by simp [nmStep, h2, hx], ih (n + 1) (by omega)]
        simp only [List.all_cons, hx, Bool.true_and, List.length_cons]
        rw [show n + 1 + l.length = n + (l.length + 1) by omega]
      · rw [show nmStep (some n) x = none by simp [nmStep, h2, hx], nmFold_none, if_neg (by simp [hx])]
theorem nmSt_eq (l : List ByteArray) : nmSt l = if l.all wsB = true ∧ l.length ≤ 2 then some l.length else none := by
  have := nmFold_eq l 0 (by omega)
  simpa [nmSt] using this
theorem nmSt_le {l : List ByteArray} (h : nmSt l = some l.length) : l.length ≤ 2 := by
  rw [nmSt_eq] at h
  split at h
  · rename_i h'; exact h'.2
  · cases h
theorem nmSt_full {l : List ByteArray} (x : ByteArray) (h : nmSt l = some l.length) (h2 : l.length = 2) : nmSt (l ++ [x]) = none := by
  rw [nmSt_snoc, h, h2]
  rfl
theorem nmSt_bad {l : List ByteArray} (x : ByteArray) (h : nmSt l = some l.length) (hx : wsB x = false) : nmSt (l ++ [x]) = none := by
  rw [nmSt_snoc, h]
  simp [nmStep, hx]
theorem nmSt_good {l : List ByteArray} (x : ByteArray) (h : nmSt l = some l.length) (h2 : ¬ l.length = 2) (hx : wsB x = true) : nmSt (l ++ [x]) = some (l ++ [x]).length := by
  rw [nmSt_snoc, h]
  simp [nmStep, hx, h2]
/-- The pieces are those of a name pattern. -/
def nmB (l : List ByteArray) : Bool := decide (nmSt l = some 2)
theorem nmB_eq (l : List ByteArray) : nmB l = (decide (l.length = 2) && l.all wsB) := by
  unfold nmB
  rw [nmSt_eq]
  by_cases h : l.all wsB = true
  · by_cases h2 : l.length ≤ 2
    · simp [h, h2]
    · rw [if_neg (by simp [h2])]
      simp; omega
  · rw [if_neg (by simp [h])]
    simp at h
    simp [h]
/-- The pieces of a name pattern, none where they are not one's. -/
def nmL (l : List ByteArray) : List ByteArray := if nmB l = true then l else []
theorem nmL_yes {l : List ByteArray} (h : nmB l = true) : nmL l = l := if_pos h
theorem nmL_no {l : List ByteArray} (h : nmB l = false) : nmL l = [] := if_neg (by rw [h]; exact Bool.false_ne_true)
theorem nmB_none {l : List ByteArray} (h : nmSt l = none) : nmB l = false := by
  unfold nmB
  rw [h]
  rfl
theorem nmB_some {l : List ByteArray} (h : nmSt l = some l.length) : nmB l = decide (l.length = 2) := by
  unfold nmB
  rw [h]
  simp
theorem nmB_len {l : List ByteArray} (h : ¬ l.length = 2) : nmB l = false := by rw [nmB_eq]; simp [h]
theorem nmB_two (x y : ByteArray) : nmB [x, y] = (wsB x && wsB y) := by simp [nmB_eq]

/-! ### Paths -/

/-- The pieces of a path pattern as they come: how many have come, and whether two stars have ended it. -/
def ptStep (o : Option (Nat × Bool)) (x : ByteArray) : Option (Nat × Bool) := match o with
  | none => none
  | some (n, e) => if e = true ∨ n = 6 then none else if star2B x = true then some (n + 1, true) else if wsB x = true then some (n + 1, false) else none
def ptSt (l : List ByteArray) : Option (Nat × Bool) := l.foldl ptStep (some (0, false))
theorem ptSt_nil : ptSt [] = some (0, false) := rfl
theorem ptSt_snoc (l : List ByteArray) (x : ByteArray) : ptSt (l ++ [x]) = ptStep (ptSt l) x := by simp [ptSt, List.foldl_append]
theorem ptFold_none (l : List ByteArray) : l.foldl ptStep none = none := by
  induction l with
  | nil => rfl
  | cons x l ih => simpa [List.foldl, ptStep] using ih
theorem ptSt_pre {p l : List ByteArray} (h : p <+: l) (hp : ptSt p = none) : ptSt l = none := by
  obtain ⟨r, rfl⟩ := h
  unfold ptSt at *
  rw [List.foldl_append, hp, ptFold_none]
/-- Words and stars, two stars at the end alone. -/
def ptOk : List ByteArray → Bool
  | [] => true
  | x :: r => if star2B x = true then r.isEmpty else wsB x && ptOk r
theorem ptFold_eq (l : List ByteArray) : ∀ n, n ≤ 6 → (l.foldl ptStep (some (n, false))).isSome = (ptOk l && decide (n + l.length ≤ 6)) := by
  induction l with
  | nil => intro n hn; simp [ptOk, hn]
  | cons x l ih =>
    intro n hn
    rw [List.foldl_cons]
    by_cases h6 : n = 6
    · subst h6
      rw [show ptStep (some (6, false)) x = none from rfl, ptFold_none]
      simp
    · by_cases h2 : star2B x = true
      · rw [show ptStep (some (n, false)) x = some (n + 1, true) by simp [ptStep, h6, h2]]
        cases l with
        | nil => simp [ptOk, h2]; omega
        | cons y r => rw [List.foldl_cons, show ptStep (some (n + 1, true)) y = none by simp [ptStep], ptFold_none]; simp [ptOk, h2]
      · by_cases hx : wsB x = true
        · rw [show ptStep (some (n, false)) x = some (n + 1, false) by simp [ptStep, h6, h2, hx], ih (n + 1) (by omega)]
          simp only [ptOk, h2, hx, Bool.true_and, List.length_cons, Bool.false_eq_true, if_false]
          rw [show n + 1 + l.length = n + (l.length + 1) by omega]
        · rw [show ptStep (some (n, false)) x = none by simp [ptStep, h6, h2, hx], ptFold_none]
          simp [ptOk, h2, hx]
/-- The pieces are those of a path pattern. -/
def ptB (l : List ByteArray) : Bool := (ptSt l).isSome
theorem ptB_eq (l : List ByteArray) : ptB l = (ptOk l && decide (l.length ≤ 6)) := by
  have := ptFold_eq l 0 (by omega)
  simpa [ptB, ptSt] using this
theorem ptSt_len (l : List ByteArray) : ∀ n e m f, l.foldl ptStep (some (n, e)) = some (m, f) → m = n + l.length := by
  induction l with
  | nil => intro n e m f h; simp at h; simp [h.1]
  | cons x l ih =>
    intro n e m f h
    rw [List.foldl_cons] at h
    have hs : ptStep (some (n, e)) x = none ∨ ∃ g, ptStep (some (n, e)) x = some (n + 1, g) := by
      unfold ptStep
      simp only
      split
      · exact .inl rfl
      · split
        · exact .inr ⟨_, rfl⟩
        · split
          · exact .inr ⟨_, rfl⟩
          · exact .inl rfl
    rcases hs with hs | ⟨g, hs⟩
    · rw [hs, ptFold_none] at h; cases h
    · rw [hs] at h
      have := ih _ _ _ _ h
      simp; omega
theorem ptSt_num {l : List ByteArray} {m : Nat} {f : Bool} (h : ptSt l = some (m, f)) : m = l.length := by
  have := ptSt_len l 0 false m f h
  omega

/-- What the other program asks of the piece at i. -/
def ppAt (l : List ByteArray) (i : Nat) : Bool := wordB (l.getD i ByteArray.empty) || starB (l.getD i ByteArray.empty) || (star2B (l.getD i ByteArray.empty) && decide (i + 1 = l.length))
def ppTo (l : List ByteArray) (k : Nat) : Bool := (List.range k).all (ppAt l)
theorem ppTo_zero (l : List ByteArray) : ppTo l 0 = true := rfl
theorem ppTo_succ (l : List ByteArray) (k : Nat) : ppTo l (k + 1) = (ppTo l k && ppAt l k) := by
  unfold ppTo
  rw [List.range_succ, List.all_append]
  simp
theorem pp_ok (l : List ByteArray) : ppTo l l.length = ptOk l := by
  induction l with
  | nil => rfl
  | cons x r ih =>
    have hall : ppTo (x :: r) (r.length + 1) = (ppAt (x :: r) 0 && (List.range r.length).all (fun i => ppAt (x :: r) (i + 1))) := by
      unfold ppTo
      rw [List.range_succ_eq_map, List.all_cons, List.all_map]
      rfl
    have hsh : (List.range r.length).all (fun i => ppAt (x :: r) (i + 1)) = ppTo r r.length := by
      unfold ppTo
      have : ∀ i ∈ List.range r.length, ppAt (x :: r) (i + 1) = ppAt r i := by
        intro i _
        simp [ppAt]
      rw [Bool.eq_iff_iff, List.all_eq_true, List.all_eq_true]
      exact ⟨fun h i hi => (this i hi) ▸ h i hi, fun h i hi => (this i hi).symm ▸ h i hi⟩
    rw [List.length_cons, hall, hsh, ih]
    rw [ptOk]
    by_cases h2 : star2B x = true
    · have hn := star2_not_ws x h2
      have hw : wordB x = false := by simp [wsB] at hn; exact hn.2
      have hs : starB x = false := by simp [wsB] at hn; exact hn.1
      rw [if_pos h2]
      simp only [ppAt, List.getD_cons_zero, hw, hs, h2, Bool.or_false, Bool.true_and, Bool.false_or, List.length_cons]
      cases r with
      | nil => simp [ptOk]
      | cons y t => simp
    · rw [if_neg h2]
      simp at h2
      simp only [ppAt, List.getD_cons_zero, h2, Bool.false_and, Bool.or_false, wsB]
      rw [Bool.or_comm (wordB x)]
theorem plain_ok (l : List ByteArray) (h : l.all wordB = true) : ptOk l = true := by
  induction l with
  | nil => rfl
  | cons x r ih =>
    simp only [List.all_cons, Bool.and_eq_true] at h
    unfold ptOk
    by_cases h2 : star2B x = true
    · have hn := star2_not_ws x h2
      simp [wsB, h.1] at hn
    · rw [if_neg h2]
      simp [wsB, h.1, ih h.2]

/-- Whether two stars have ended what has come. -/
def endB (l : List ByteArray) : Bool := match ptSt l with
  | some (_, e) => e
  | none => false
theorem pt_ended {l : List ByteArray} (x : ByteArray) (h : ptSt l = some (l.length, endB l)) (he : endB l = true) : ptSt (l ++ [x]) = none := by
  rw [ptSt_snoc, h, he]
  simp [ptStep]
theorem pt_full {l : List ByteArray} (x : ByteArray) (h : ptSt l = some (l.length, endB l)) (h6 : l.length = 6) : ptSt (l ++ [x]) = none := by
  rw [ptSt_snoc, h, h6]
  simp [ptStep]
theorem pt_bad {l : List ByteArray} (x : ByteArray) (h : ptSt l = some (l.length, endB l)) (h2 : star2B x = false) (hx : wsB x = false) : ptSt (l ++ [x]) = none := by
  rw [ptSt_snoc, h]
  simp [ptStep, h2, hx]
theorem pt_end {l : List ByteArray} (x : ByteArray) (h : ptSt l = some (l.length, endB l)) (he : endB l = false) (h6 : ¬ l.length = 6) (h2 : star2B x = true) : ptSt (l ++ [x]) = some ((l ++ [x]).length, true) := by
  rw [ptSt_snoc, h, he]
  simp [ptStep, h6, h2]
theorem pt_on {l : List ByteArray} (x : ByteArray) (h : ptSt l = some (l.length, endB l)) (he : endB l = false) (h6 : ¬ l.length = 6) (h2 : star2B x = false) (hx : wsB x = true) : ptSt (l ++ [x]) = some ((l ++ [x]).length, false) := by
  rw [ptSt_snoc, h, he]
  simp [ptStep, h6, h2, hx]
theorem endB_of {l : List ByteArray} {n : Nat} {e : Bool} (h : ptSt l = some (n, e)) : endB l = e := by
  unfold endB
  rw [h]
theorem pt_le {l : List ByteArray} (h : ptSt l = some (l.length, endB l)) : l.length ≤ 6 := by
  have : ptB l = true := by unfold ptB; rw [h]; rfl
  rw [ptB_eq] at this
  simp at this
  exact this.2

/-- The pieces behind a text's first slash; none where it is no path's form. -/
def slashB (s : ByteArray) : Bool := s.toList == [47]
def headB (s : ByteArray) : Bool := s.data.toList.head? == some 47
def pathPs (s : ByteArray) : Option (List ByteArray) := if slashB s = true then some [] else if headB s = true then some (split (s.extract 1 s.size) 47) else none
theorem pathPs_slash {s : ByteArray} (h : slashB s = true) : pathPs s = some [] := if_pos h
theorem pathPs_head {s : ByteArray} (h : slashB s = false) (h2 : headB s = true) : pathPs s = some (split (s.extract 1 s.size) 47) := by
  unfold pathPs
  rw [if_neg (by simp [h]), if_pos h2]
theorem pathPs_none {s : ByteArray} (h : slashB s = false) (h2 : headB s = false) : pathPs s = none := by
  unfold pathPs
  rw [if_neg (by simp [h]), if_neg (by simp [h2])]
/-- The text is a path pattern. -/
def ptBs (s : ByteArray) : Bool := match pathPs s with
  | none => false
  | some l => ptB l
def ptLs (s : ByteArray) : List ByteArray := if ptBs s = true then (pathPs s).getD [] else []
theorem ptLs_no {s : ByteArray} (h : ptBs s = false) : ptLs s = [] := if_neg (by rw [h]; exact Bool.false_ne_true)
theorem ptLs_yes {s : ByteArray} (h : ptBs s = true) {l : List ByteArray} (hl : pathPs s = some l) : ptLs s = l := by
  unfold ptLs
  rw [if_pos h, hl]
  rfl
theorem ptBs_some {s : ByteArray} {l : List ByteArray} (hl : pathPs s = some l) : ptBs s = ptB l := by
  unfold ptBs
  rw [hl]
theorem ptBs_none {s : ByteArray} (hl : pathPs s = none) : ptBs s = false := by
  unfold ptBs
  rw [hl]
theorem ptB_none {l : List ByteArray} (h : ptSt l = none) : ptB l = false := by
  unfold ptB
  rw [h]
  rfl
theorem ptB_some {l : List ByteArray} {x : Nat × Bool} (h : ptSt l = some x) : ptB l = true := by
  unfold ptB
  rw [h]
  rfl
theorem headB_at {s : ByteArray} (h : 0 < s.size) (hb : s[0] = 47) : headB s = true := by
  have h0 : 0 < s.data.toList.length := by simpa using h
  have : s.data.toList.head? = some s[0] := by
    rw [List.head?_eq_getElem?, List.getElem?_eq_getElem h0]
    rfl
  unfold headB
  rw [this, hb]
  rfl
theorem headB_not {s : ByteArray} (h : 0 < s.size) (hb : s[0] ≠ 47) : headB s = false := by
  have h0 : 0 < s.data.toList.length := by simpa using h
  have : s.data.toList.head? = some s[0] := by
    rw [List.head?_eq_getElem?, List.getElem?_eq_getElem h0]
    rfl
  unfold headB
  rw [this]
  simp [hb]
theorem headB_empty {s : ByteArray} (h : s.size = 0) : headB s = false := by
  have : s.data.toList = [] := List.eq_nil_of_length_eq_zero (by simpa using h)
  unfold headB
  rw [this]
  rfl
theorem size_toList (s : ByteArray) : s.toList.isEmpty = decide (s.size = 0) := by
  rw [toList_data, Bool.eq_iff_iff, List.isEmpty_iff]
  simp only [decide_eq_true_eq]
  exact ⟨fun h => by have := congrArg List.length h; simpa using this, fun h => List.eq_nil_of_length_eq_zero (by simpa using h)⟩
theorem rest_size (s : ByteArray) : (s.extract 1 s.size).size ≤ s.size := by
  rw [ByteArray.size_extract]
  omega

/-- What the specification's words of a text are, and whether they are few enough. -/
def wL (s : ByteArray) : List ByteArray := (pathPs s).getD []
def wOk (s : ByteArray) : Bool := match pathPs s with
  | none => false
  | some l => decide (l.length ≤ 6)
theorem wL_some {s : ByteArray} {l : List ByteArray} (h : pathPs s = some l) : wL s = l := by unfold wL; rw [h]; rfl
theorem wL_none {s : ByteArray} (h : pathPs s = none) : wL s = [] := by unfold wL; rw [h]; rfl
theorem wOk_some {s : ByteArray} {l : List ByteArray} (h : pathPs s = some l) : wOk s = decide (l.length ≤ 6) := by unfold wOk; rw [h]
theorem wOk_none {s : ByteArray} (h : pathPs s = none) : wOk s = false := by unfold wOk; rw [h]
theorem wL_mem {s x : ByteArray} (h : x ∈ wL s) : x.size ≤ s.size := by
  unfold wL pathPs at h
  split at h
  · cases h
  · split at h
    · exact Nat.le_trans (split_size _ _ x h) (rest_size s)
    · cases h
theorem wL_len (s : ByteArray) : (wL s).length ≤ s.size + 1 := by
  unfold wL pathPs
  split
  · simp
  · split
    · exact Nat.le_trans (split_len _ _) (by have := rest_size s; omega)
    · simp
def allTo (xs : List ByteArray) (k : Nat) : Bool := (xs.take k).all wordB
theorem allTo_zero (xs : List ByteArray) : allTo xs 0 = true := by simp [allTo]
theorem allTo_succ (xs : List ByteArray) (k : Nat) (h : k < xs.length) : allTo xs (k + 1) = (allTo xs k && wordB xs[k]) := by
  unfold allTo
  rw [List.take_succ_eq_append_getElem h, List.all_append]
  simp
theorem allTo_end (xs : List ByteArray) : allTo xs xs.length = xs.all wordB := by simp [allTo]
theorem all_bad (xs : List ByteArray) (k : Nat) (h : k < xs.length) (hb : wordB xs[k] = false) : xs.all wordB = false := by
  rw [List.all_eq_false]
  exact ⟨xs[k], List.getElem_mem h, by simp [hb]⟩
/-- The specification's loops, k rounds over. -/
def gpTo (s : ByteArray) (k : Nat) : Bool := wOk s && allTo (wL s) k
theorem gpTo_zero (s : ByteArray) : gpTo s 0 = wOk s := by simp [gpTo, allTo_zero]
theorem gpTo_no {s : ByteArray} {k : Nat} (h : k < (wL s).length) (hg : gpTo s k = false) : gpTo s (k + 1) = false := by
  unfold gpTo at *
  rw [allTo_succ _ k h, ← Bool.and_assoc, hg]
  rfl
theorem gpTo_yes {s : ByteArray} {k : Nat} (h : k < (wL s).length) (hg : gpTo s k = true) : gpTo s (k + 1) = wordB (wL s)[k] := by
  unfold gpTo at *
  rw [allTo_succ _ k h, ← Bool.and_assoc, hg]
  rfl
def pgTo (s : ByteArray) (k : Nat) : Bool := wOk s && ppTo (wL s) k
theorem pgTo_zero (s : ByteArray) : pgTo s 0 = wOk s := by simp [pgTo, ppTo_zero]
theorem pgTo_no {s : ByteArray} {k : Nat} (hg : pgTo s k = false) : pgTo s (k + 1) = false := by
  unfold pgTo at *
  rw [ppTo_succ, ← Bool.and_assoc, hg]
  rfl
theorem pgTo_yes {s : ByteArray} {k : Nat} (h : k < (wL s).length) (hg : pgTo s k = true) : pgTo s (k + 1) = (wordB (wL s)[k] || starB (wL s)[k] || (star2B (wL s)[k] && decide (k + 1 = (wL s).length))) := by
  unfold pgTo at *
  rw [ppTo_succ, ← Bool.and_assoc, hg, Bool.true_and]
  unfold ppAt
  rw [List.getD_eq_getElem?_getD, List.getElem?_eq_getElem h]
  rfl
/-- The text is a path. -/
def gpB (s : ByteArray) : Bool := ptBs s && (ptLs s).all wordB
theorem gp_end (s : ByteArray) : gpTo s (wL s).length = gpB s := by
  unfold gpTo gpB
  rw [allTo_end]
  cases hp : pathPs s with
  | none => rw [wOk_none hp, ptBs_none hp]; rfl
  | some l =>
    rw [wOk_some hp, wL_some hp, ptBs_some hp]
    cases hb : ptB l with
    | true =>
      rw [ptLs_yes (by rw [ptBs_some hp]; exact hb) hp]
      rw [ptB_eq] at hb
      simp at hb
      simp [hb.2]
    | false =>
      rw [ptB_eq] at hb
      cases ha : l.all wordB with
      | false => simp
      | true => rw [plain_ok l ha] at hb; simp at hb; simp; omega
theorem pg_end (s : ByteArray) : pgTo s (wL s).length = ptBs s := by
  unfold pgTo
  cases hp : pathPs s with
  | none => rw [wOk_none hp, ptBs_none hp]; rfl
  | some l => rw [wOk_some hp, wL_some hp, ptBs_some hp, ptB_eq, pp_ok, Bool.and_comm]
/-- The pieces of a name. -/
def gnB (l : List ByteArray) : Bool := decide (l.length = 2) && l.all wordB

end Go.Proofs.YtepoamekeackkaaDoor
