/-
  Chapter 1's matching of paths by the specification.
-/
import Derived.Test.YtmmjiocmldnamaaGreatPathC
namespace Go.Proofs.YtmmjiocmldnamaaGreat
open Go.RowKit Go.Shelf

/-- The pieces ahead of the end stand for those at their place, k of them. -/
def stTo (p ws : List ByteArray) (k : Nat) : Bool := ((p.zip ws).take k).all (fun q => stB q.1 q.2)
theorem stTo_zero (p ws : List ByteArray) : stTo p ws 0 = true := by simp [stTo]
theorem stTo_succ {p ws : List ByteArray} {k : Nat} (h : k < p.length) (h' : k < ws.length) : stTo p ws (k + 1) = (stTo p ws k && stB p[k] ws[k]) := by
  unfold stTo
  rw [List.take_succ_eq_append_getElem (by rw [List.length_zip]; omega), List.all_append]
  simp
theorem st_all (p ws : List ByteArray) (k : Nat) (h : (p.zip ws).all (fun q => stB q.1 q.2) = true) : stTo p ws k = true := by
  unfold stTo
  rw [List.all_eq_true] at *
  exact fun x hx => h x (List.mem_of_mem_take hx)
theorem st_bad {p ws : List ByteArray} {k : Nat} (_h : k < p.length) (_h' : k < ws.length) (hb : stTo p ws (k + 1) = false) : (p.zip ws).all (fun q => stB q.1 q.2) = false := by
  cases h : (p.zip ws).all (fun q => stB q.1 q.2) with
  | false => rfl
  | true => rw [st_all p ws (k + 1) h] at hb; cases hb
theorem st_end {p ws : List ByteArray} (h : p.length ≤ ws.length) : stTo p ws p.length = (p.zip ws).all (fun q => stB q.1 q.2) := by
  unfold stTo
  rw [List.take_of_length_le (by rw [List.length_zip]; omega)]
def lmB (ps ws : List ByteArray) : Bool := if ws.length < (oL ps).length ∨ ((oL ps).length < ws.length ∧ opB ps = false) then false else ((oL ps).zip ws).all (fun q => stB q.1 q.2)

theorem row_some {w : World} {base cap n k : Nat} {a : Option Addr} {e : TypeId} {xs : List Value} (hrow : w.ownsRow base e 1 (.slice a n cap) n xs) (h : k < n) : ∃ g, a = some ⟨g, 0, none⟩ := by
  rcases hrow.2 with ⟨_, h0⟩ | ⟨g, _, _, hv, _⟩
  · omega
  · cases hv; exact ⟨g, rfl⟩
theorem row_cap {w : World} {base cap n k : Nat} {a : Option Addr} {e : TypeId} {xs : List Value} (hrow : w.ownsRow base e 1 (.slice a n cap) n xs) (h : k < n) : n ≤ cap := by
  rcases hrow.2 with ⟨_, h0⟩ | ⟨g, _, _, hv, _, _, hle, _⟩
  · omega
  · cases hv; exact hle

theorem opB_cons (x y : ByteArray) (r : List ByteArray) : opB (x :: y :: r) = opB (y :: r) := by
  unfold opB
  rw [List.getLast?_cons_cons]
theorem oL_cons (x y : ByteArray) (r : List ByteArray) : oL (x :: y :: r) = x :: oL (y :: r) := by
  unfold oL
  rw [opB_cons]
  split <;> simp
theorem word_ws {x : ByteArray} (h : wordB x = true) : wsB x = true := by simp [wsB, h]
theorem lm_cv (xs : List ByteArray) : ∀ ys : List ByteArray, ptOk xs = true → ys.all wordB = true → lmB xs ys = cvB xs ys := by
  induction xs with
  | nil =>
    intro ys _ _
    cases ys with
    | nil => rfl
    | cons y ys => exact if_pos (.inr ⟨by simp [oL, opB], rfl⟩)
  | cons x r ih =>
    intro ys hx hy
    cases r with
    | nil =>
      cases h2 : star2B x with
      | true =>
        have ho : opB [x] = true := h2
        have hp : oL [x] = [] := oL_yes ho
        have hl : lmB [x] ys = true := by
          unfold lmB
          rw [hp, ho, if_neg (by simp)]
          rfl
        rw [hl]
        cases ys with
        | nil => exact h2.symm
        | cons y ys => simp [cvB, h2]
      | false =>
        have ho : opB [x] = false := h2
        have hp : oL [x] = [x] := oL_no ho
        unfold lmB
        rw [hp, ho]
        cases ys with
        | nil => rw [if_pos (.inl (by simp))]; exact h2.symm
        | cons y ys =>
          simp only [List.all_cons, Bool.and_eq_true] at hy
          cases ys with
          | nil => rw [if_neg (by simp)]; simp [cvB, h2, cw_st (word_ws hy.1)]
          | cons z ys => rw [if_pos (.inr ⟨by simp, rfl⟩)]; simp [cvB, h2]
    | cons z r =>
      have h2 : star2B x = false := by
        cases h : star2B x with
        | false => rfl
        | true => simp [ptOk, h] at hx
      have hx' : ptOk (z :: r) = true := by
        rw [ptOk, if_neg (by rw [h2]; exact Bool.false_ne_true), Bool.and_eq_true] at hx
        exact hx.2
      cases ys with
      | nil =>
        unfold lmB
        rw [oL_cons, if_pos (.inl (by simp))]
        exact h2.symm
      | cons y ys =>
        simp only [List.all_cons, Bool.and_eq_true] at hy
        have := ih ys hx' hy.2
        have hs : lmB (x :: z :: r) (y :: ys) = (stB x y && lmB (z :: r) ys) := by
          unfold lmB
          rw [oL_cons, opB_cons]
          by_cases hc : ys.length < (oL (z :: r)).length ∨ ((oL (z :: r)).length < ys.length ∧ opB (z :: r) = false)
          · rw [if_pos hc, if_pos (by simpa using hc), Bool.and_false]
          · rw [if_neg hc, if_neg (by simpa using hc)]
            rfl
        rw [hs, this, cvB, h2, Bool.false_or, cw_st (word_ws hy.1)]
theorem mt_lm {s t : ByteArray} (h1 : ptBs s = true) (h2 : gpB t = true) : mtpB s t = lmB (wL s) (wL t) := by
  have h3 : ptBs t = true := by unfold gpB at h2; rw [Bool.and_eq_true] at h2; exact h2.1
  have h4 : (ptLs t).all wordB = true := by unfold gpB at h2; rw [Bool.and_eq_true] at h2; exact h2.2
  have e1 : ptLs s = wL s := by unfold ptLs; rw [if_pos h1]; rfl
  have e2 : ptLs t = wL t := by unfold ptLs; rw [if_pos h3]; rfl
  have h5 : ptOk (wL s) = true := by
    cases hp : pathPs s with
    | none => rw [ptBs_none hp] at h1; cases h1
    | some l =>
      rw [ptBs_some hp, ptB_eq, Bool.and_eq_true] at h1
      rw [wL_some hp]
      exact h1.1
  rw [lm_cv (wL s) (wL t) h5 (by rw [← e2]; exact h4)]
  unfold mtpB cpB cpOk
  rw [h1, h2, h3, e1, e2]
  simp

end Go.Proofs.YtmmjiocmldnamaaGreat
