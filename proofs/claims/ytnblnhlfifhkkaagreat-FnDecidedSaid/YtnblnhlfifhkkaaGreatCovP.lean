/-
  Chapter 1's covering of path patterns by the specification.
-/
import Derived.Test.YtnblnhlfifhkkaaGreatPathM
namespace Go.Proofs.YtnblnhlfifhkkaaGreat
open Go.RowKit Go.Shelf

/-- What the specification says of covering, m words being the most. -/
def lcB (m : Nat) (ps qs : List ByteArray) : Bool := if (oL qs).length < (oL ps).length ∨ (opB ps = false ∧ ((oL ps).length < (oL qs).length ∨ (opB qs = true ∧ (oL ps).length < m))) then false else ((oL ps).zip (oL qs)).all (fun q => stB q.1 q.2)
theorem lcB_on {m : Nat} {ps qs : List ByteArray} (h : (oL ps).length ≤ (oL qs).length) (h' : ¬ (opB ps = false ∧ ((oL ps).length < (oL qs).length ∨ (opB qs = true ∧ (oL ps).length < m)))) : lcB m ps qs = ((oL ps).zip (oL qs)).all (fun q => stB q.1 q.2) :=
  if_neg (fun e => e.elim (fun e => by omega) h')
theorem opB_step {x : ByteArray} (r : List ByteArray) (h : star2B x = false) : opB (x :: r) = opB r := by
  cases r with
  | nil => exact h
  | cons y r => exact opB_cons x y r
theorem oL_step {x : ByteArray} (r : List ByteArray) (h : star2B x = false) : oL (x :: r) = x :: oL r := by
  cases r with
  | nil => exact oL_no h
  | cons y r => exact oL_cons x y r
theorem ok_star {x : ByteArray} {r : List ByteArray} (h : ptOk (x :: r) = true) (h2 : star2B x = true) : r = [] := by
  rw [ptOk, if_pos h2] at h
  exact List.isEmpty_iff.1 h
theorem ok_step {x : ByteArray} {r : List ByteArray} (h : ptOk (x :: r) = true) (h2 : star2B x = false) : ptOk r = true := by
  rw [ptOk, if_neg (by rw [h2]; exact Bool.false_ne_true), Bool.and_eq_true] at h
  exact h.2
theorem eq_star {x y : ByteArray} (hx : star2B x = false) (hy : star2B y = true) : eqB x y = false := by
  cases h : eqB x y with
  | false => rfl
  | true =>
    have h1 : x.toList = y.toList := eq_of_beq h
    unfold star2B at hx hy
    rw [h1, hy] at hx
    cases hx
theorem cw_two {x y : ByteArray} (hx : star2B x = false) (hy : star2B y = true) : cwB x y = false := by
  unfold cwB
  rw [eq_star hx hy, hy]
  simp
theorem cw_on {x y : ByteArray} (hy : star2B y = false) : cwB x y = stB x y := by
  unfold cwB stB
  rw [hy, Bool.not_false, Bool.and_true, Bool.or_comm]
theorem lc_cv (ps : List ByteArray) : ∀ (m : Nat) (qs : List ByteArray), ps.length ≤ m → qs.length ≤ m → ptOk ps = true → ptOk qs = true → lcB m ps qs = cvB ps qs := by
  induction ps with
  | nil =>
    intro m qs _ hm _ hq
    cases qs with
    | nil => rfl
    | cons y s =>
      simp only [List.length_cons] at hm
      refine if_pos (.inr ⟨rfl, ?_⟩)
      cases h2 : star2B y with
      | true =>
        obtain rfl := ok_star hq h2
        exact .inr ⟨h2, by show 0 < m; omega⟩
      | false => rw [oL_step s h2]; exact .inl (by simp [oL, opB])
  | cons x r ih =>
    intro m qs hp hm ho hq
    simp only [List.length_cons] at hp
    cases hx : star2B x with
    | true =>
      obtain rfl := ok_star ho hx
      have h0 : oL [x] = [] := oL_yes hx
      have h1 : opB [x] = true := hx
      have hl : lcB m [x] qs = true := by
        unfold lcB
        rw [h0, h1, if_neg (by simp)]
        rfl
      rw [hl]
      cases qs with
      | nil => exact hx.symm
      | cons y s => simp [cvB, hx]
    | false =>
      cases qs with
      | nil =>
        have : lcB m (x :: r) [] = false := if_pos (.inl (by rw [oL_step r hx]; simp [oL, opB]))
        rw [this]
        exact hx.symm
      | cons y s =>
        simp only [List.length_cons] at hm
        cases hy : star2B y with
        | true =>
          obtain rfl := ok_star hq hy
          have h0 : oL [y] = [] := oL_yes hy
          have : lcB m (x :: r) [y] = false := if_pos (.inl (by rw [oL_step r hx, h0]; simp))
          rw [this, cvB, hx, cw_two hx hy]
          rfl
        | false =>
          have hs : lcB m (x :: r) (y :: s) = (stB x y && lcB (m - 1) r s) := by
            unfold lcB
            rw [oL_step r hx, oL_step s hy, opB_step r hx, opB_step s hy]
            have he : ((y :: oL s).length < (x :: oL r).length ∨ (opB r = false ∧ ((x :: oL r).length < (y :: oL s).length ∨ (opB s = true ∧ (x :: oL r).length < m)))) ↔ ((oL s).length < (oL r).length ∨ (opB r = false ∧ ((oL r).length < (oL s).length ∨ (opB s = true ∧ (oL r).length < m - 1)))) := by
              simp only [List.length_cons, Nat.add_lt_add_iff_right]
              rw [show ((oL r).length + 1 < m) ↔ ((oL r).length < m - 1) from by omega]
            by_cases hc : (oL s).length < (oL r).length ∨ (opB r = false ∧ ((oL r).length < (oL s).length ∨ (opB s = true ∧ (oL r).length < m - 1)))
            · rw [if_pos hc, if_pos (he.2 hc), Bool.and_false]
            · rw [if_neg hc, if_neg (fun e => hc (he.1 e))]
              rfl
          rw [hs, ih (m - 1) s (by omega) (by omega) (ok_step ho hx) (ok_step hq hy), cvB, hx, Bool.false_or, cw_on hy]
theorem pt_wL {s : ByteArray} (h : ptBs s = true) : ptLs s = wL s ∧ ptOk (wL s) = true ∧ (wL s).length ≤ 6 := by
  refine ⟨by unfold ptLs; rw [if_pos h]; rfl, ?_⟩
  cases hp : pathPs s with
  | none => rw [ptBs_none hp] at h; cases h
  | some l =>
    rw [ptBs_some hp, ptB_eq, Bool.and_eq_true] at h
    rw [wL_some hp]
    exact ⟨h.1, of_decide_eq_true h.2⟩
theorem cp_lc {s t : ByteArray} (h1 : ptBs s = true) (h2 : ptBs t = true) : cpB s t = lcB 6 (wL s) (wL t) := by
  obtain ⟨e1, o1, l1⟩ := pt_wL h1
  obtain ⟨e2, o2, l2⟩ := pt_wL h2
  rw [lc_cv _ _ _ l1 l2 o1 o2]
  unfold cpB cpOk
  rw [h1, h2, e1, e2]
  rfl

end Go.Proofs.YtnblnhlfifhkkaaGreat
