/-
  What covers a pattern matches what it matches; patterns that match one path meet: without the model.
-/
import Derived.Test.YtnblnhlfifhkkaaGreatMeet
namespace Go.Proofs.YtnblnhlfifhkkaaGreat

theorem eqB_iff {x y : ByteArray} : eqB x y = true ↔ x.toList = y.toList := by
  unfold eqB
  exact beq_iff_eq
theorem star2_of {x y : ByteArray} (h : eqB x y = true) : star2B x = star2B y := by
  unfold star2B
  rw [eqB_iff.1 h]
theorem star_of {x y : ByteArray} (h : eqB x y = true) : starB x = starB y := by
  unfold starB
  rw [eqB_iff.1 h]
theorem cw_split {x y : ByteArray} (h : cwB x y = true) : eqB x y = true ∨ (starB x = true ∧ star2B y = false) := by
  unfold cwB at h
  simp only [Bool.or_eq_true, Bool.and_eq_true, Bool.not_eq_true'] at h
  exact h
theorem cw_star2 {x y : ByteArray} (h : cwB x y = true) (hx : star2B x = false) : star2B y = false := by
  rcases cw_split h with h | h
  · rw [← star2_of h]
    exact hx
  · exact h.2
theorem cw_trans {x y p : ByteArray} (h1 : cwB x y = true) (h2 : cwB y p = true) (hp : star2B p = false) : cwB x p = true := by
  unfold cwB
  simp only [Bool.or_eq_true, Bool.and_eq_true, Bool.not_eq_true']
  rcases cw_split h1 with h1 | h1
  · rcases cw_split h2 with h2 | h2
    · exact .inl (eqB_iff.2 ((eqB_iff.1 h1).trans (eqB_iff.1 h2)))
    · exact .inr ⟨(star_of h1).trans h2.1, hp⟩
  · exact .inr ⟨h1.1, hp⟩
theorem cv_star {x : ByteArray} {xs : List ByteArray} (h : star2B x = true) : ∀ ys, cvB (x :: xs) ys = true
  | [] => h
  | y :: ys => by
    rw [cvB, h]
    rfl
/-- Covering goes on. -/
theorem cv_trans : ∀ (xs0 bs ps : List ByteArray), (∀ p ∈ ps, star2B p = false) → cvB xs0 bs = true → cvB bs ps = true → cvB xs0 ps = true
  | [], [], _, _, _, h2 => h2
  | [], _ :: _, _, _, h1, _ => by cases h1
  | x :: xs, bs, ps, hp, h1, h2 => by
    cases hx : star2B x with
    | true => exact cv_star hx ps
    | false =>
      cases bs with
      | nil =>
        rw [cvB, hx] at h1
        cases h1
      | cons y ys =>
        rw [cvB, hx, Bool.false_or, Bool.and_eq_true] at h1
        have hy := cw_star2 h1.1 hx
        cases ps with
        | nil =>
          rw [cvB, hy] at h2
          cases h2
        | cons p ps =>
          rw [cvB, hy, Bool.false_or, Bool.and_eq_true] at h2
          rw [cvB, hx, Bool.false_or, Bool.and_eq_true]
          exact ⟨cw_trans h1.1 h2.1 (hp p (by simp)), cv_trans xs ys ps (fun q hq => hp q (by simp [hq])) h1.2 h2.2⟩
/-- Two that cover one list meet. -/
theorem cv_meet : ∀ (xs0 bs ps : List ByteArray), cvB xs0 ps = true → cvB bs ps = true → mwB xs0 bs = true
  | [], [], _, _, _ => rfl
  | [], y :: ys, [], _, h2 => h2
  | [], y :: ys, p :: ps, h1, _ => by cases h1
  | x :: xs, [], [], h1, _ => h1
  | x :: xs, [], p :: ps, _, h2 => by cases h2
  | x :: xs, y :: ys, [], h1, h2 => by
    have h3 : star2B x = true := h1
    rw [mwB, h3]
    rfl
  | x :: xs, y :: ys, p :: ps, h1, h2 => by
    cases hx : star2B x with
    | true =>
      rw [mwB, hx]
      rfl
    | false =>
      cases hy : star2B y with
      | true =>
        rw [mwB, hx, hy]
        rfl
      | false =>
        rw [cvB, hx, Bool.false_or, Bool.and_eq_true] at h1
        rw [cvB, hy, Bool.false_or, Bool.and_eq_true] at h2
        rw [mwB, hx, hy, Bool.or_false, Bool.false_or, Bool.and_eq_true]
        refine ⟨?_, cv_meet xs ys ps h1.2 h2.2⟩
        unfold mtB
        simp only [Bool.or_eq_true]
        rcases cw_split h1.1 with h1 | h1
        · rcases cw_split h2.1 with h2 | h2
          · exact .inl (.inl (eqB_iff.2 ((eqB_iff.1 h1).trans (eqB_iff.1 h2).symm)))
          · exact .inr h2.1
        · exact .inl (.inr h1.1)

end Go.Proofs.YtnblnhlfifhkkaaGreat
