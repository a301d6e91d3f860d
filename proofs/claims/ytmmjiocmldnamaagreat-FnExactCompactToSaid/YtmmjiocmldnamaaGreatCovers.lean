/-
  Chapter 1's covering of words, walked by goto.
-/
import Derived.Deep.QuietTactic
import Derived.BigQuiet
import Derived.WalkSmall
import Derived.ScopeJumps
import Derived.WalkMore
import Derived.Test.YtmmjiocmldnamaaGreatMatchN
namespace Go.Proofs.YtmmjiocmldnamaaGreat
open Go.RowKit Go.Shelf

theorem int_beq (m n : Nat) : ((m : Int) == (n : Int)) = decide (m = n) := by
  rw [Bool.eq_iff_iff, beq_iff_eq, decide_eq_true_eq]
  omega

/-- Two stars stand at k. -/
def restB (xs : List ByteArray) (k : Nat) : Bool := match xs[k]? with
  | some x => star2B x
  | none => false
theorem restB_lt {xs : List ByteArray} {k : Nat} (h : k < xs.length) : restB xs k = star2B xs[k] := by
  unfold restB
  rw [List.getElem?_eq_getElem h]
theorem restB_ge {xs : List ByteArray} {k : Nat} (h : ¬ k < xs.length) : restB xs k = false := by
  unfold restB
  rw [List.getElem?_eq_none (by omega)]
/-- One word covers another. -/
def cwB (x y : ByteArray) : Bool := eqB x y || (starB x && !star2B y)
/-- A list of words covers another. -/
def cvB : List ByteArray → List ByteArray → Bool
  | [], [] => true
  | [], _ :: _ => false
  | x :: _, [] => star2B x
  | x :: xs, y :: ys => star2B x || (cwB x y && cvB xs ys)
theorem cvB_rest {xs ys : List ByteArray} {k : Nat} (h : restB xs k = true) : cvB (xs.drop k) (ys.drop k) = true := by
  by_cases hk : k < xs.length
  · rw [restB_lt hk] at h
    rw [List.drop_eq_getElem_cons hk]
    cases ys.drop k with
    | nil => exact h
    | cons y r => simp [cvB, h]
  · rw [restB_ge hk] at h
    cases h
theorem cvB_end {xs ys : List ByteArray} {k : Nat} (hx : k ≤ xs.length) (hy : k ≤ ys.length) (h : restB xs k = false) (he : k = xs.length ∨ k = ys.length) : cvB (xs.drop k) (ys.drop k) = decide (xs.length = ys.length) := by
  by_cases hk : k < xs.length
  · obtain rfl : k = ys.length := by omega
    rw [restB_lt hk] at h
    rw [List.drop_eq_getElem_cons hk, List.drop_length, cvB, h]
    exact (decide_eq_false (by omega)).symm
  · obtain rfl : k = xs.length := by omega
    rw [List.drop_length]
    by_cases hl : xs.length < ys.length
    · rw [List.drop_eq_getElem_cons hl, cvB]
      exact (decide_eq_false (by omega)).symm
    · rw [List.drop_of_length_le (by omega), cvB]
      exact (decide_eq_true (by omega)).symm
theorem cvB_step {xs ys : List ByteArray} {k : Nat} (hx : k < xs.length) (hy : k < ys.length) (h : restB xs k = false) : cvB (xs.drop k) (ys.drop k) = (cwB xs[k] ys[k] && cvB (xs.drop (k + 1)) (ys.drop (k + 1))) := by
  rw [restB_lt hx] at h
  rw [List.drop_eq_getElem_cons hx, List.drop_eq_getElem_cons hy, cvB, h]
  rfl

/-- A label at which a goto comes again and again: the passes first, the way to it behind them. -/
theorem wp_scope_loop {P : Program} {a : Act} {w : World} {Q : Exit → Act → World → Prop} {c rest : Code} (l : Nat) (J : Act → World → Prop) (μ : Act → World → Nat) (hf : findLabel c l = some (Code.skip.seq rest))
    (pass : ∀ a w, J a w → rest.wp P (Exit.jump l (fun a' w' => J a' w' ∧ μ a' w' < μ a w) Q) a w)
    (first : Hid (∀ a w, J a w → rest.wp P (Exit.jump l J Q) a w) → c.wp P (Exit.jump l J Q) a w) : (Code.scope c).wp P Q a w :=
  wp_scope_jumps l J μ hf (first (fun a w hJ => Code.wp_mono (fun e a w q => by cases e <;> first | exact q | exact ⟨q.1, q.2.1⟩) (pass a w hJ))) fun a w hJ => wp_seq (wp_skip (pass a w hJ))

theorem nmL_len (s : ByteArray) : (nmL (split s 47)).length ≤ s.size + 1 := by
  unfold nmL
  split
  · exact split_len s 47
  · simp
/-- A name pattern covers another. -/
def cnB (s t : ByteArray) : Bool := (nmB (split s 47) && nmB (split t 47)) && cvB (split s 47) (split t 47)
def cnOk (s t : ByteArray) : Bool := nmB (split s 47) && nmB (split t 47)
theorem ret_bools {a b c d : Bool} (h : a = b) (h' : c = d) : Ending.returned (.tuple #[.bool a, .bool c]) = .returned (.tuple #[.bool b, .bool d]) := by rw [h, h']

end Go.Proofs.YtmmjiocmldnamaaGreat
