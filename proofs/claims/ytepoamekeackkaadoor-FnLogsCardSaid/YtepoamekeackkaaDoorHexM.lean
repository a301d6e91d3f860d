/-
  Eight small hex digits of a number, and as few as there are.
-/
import Derived.Test.YtepoamekeackkaaDoorRecM
namespace Go.Proofs.YtepoamekeackkaaDoor
open Go.RowKit

/-- A small hex digit. -/
def hexD (d : Nat) : UInt8 := if d < 10 then UInt8.ofNat (48 + d) else UInt8.ofNat (87 + d)
/-- The last k hex digits. -/
def hxW : Nat → Nat → List UInt8
  | 0, _ => []
  | k + 1, n => hxW k (n / 16) ++ [hexD (n % 16)]
theorem hxW_len (k n : Nat) : (hxW k n).length = k := by
  induction k generalizing n with
  | zero => rfl
  | succ k ih => rw [hxW, List.length_append, ih]; rfl
theorem hxW_zero (k : Nat) : hxW k 0 = List.replicate k 48 := by
  induction k with
  | zero => rfl
  | succ k ih => rw [hxW, Nat.zero_div, ih, List.replicate_succ']; rfl
/-- The hex digits that there are, at most k + 1 of them. -/
def hxL : Nat → Nat → List UInt8
  | 0, n => [hexD n]
  | k + 1, n => if n < 16 then [hexD n] else hxL k (n / 16) ++ [hexD (n % 16)]
theorem hxL_len (k n : Nat) : 1 ≤ (hxL k n).length ∧ (hxL k n).length ≤ k + 1 := by
  induction k generalizing n with
  | zero => simp [hxL]
  | succ k ih =>
    rw [hxL]
    split
    · simp
    · rw [List.length_append]
      have := ih (n / 16)
      simp
      omega
theorem hx_pad (k n : Nat) (h : n < 16 ^ (k + 1)) : List.replicate (k + 1 - (hxL k n).length) 48 ++ hxL k n = hxW (k + 1) n := by
  induction k generalizing n with
  | zero =>
    have hn : n < 16 := by simpa using h
    rw [hxL, hxW, hxW, Nat.mod_eq_of_lt hn]
    rfl
  | succ k ih =>
    rw [hxL]
    split
    · rename_i hn
      rw [hxW, Nat.mod_eq_of_lt hn, Nat.div_eq_of_lt hn, hxW_zero]
      rfl
    · have h2 : n / 16 < 16 ^ (k + 1) := by
        rw [Nat.pow_succ] at h
        omega
      have := ih (n / 16) h2
      have hl := hxL_len k (n / 16)
      rw [hxW, ← this, List.length_append, ← List.append_assoc]
      congr 3
      simp

/-- The text of a record: its line without its end. -/
def rlT (r : Rc) : ByteArray := numT r.num ++ ⟨#[32]⟩ ++ ⟨(hxW 8 r.su).toArray⟩ ++ ⟨#[32]⟩ ++ r.note
/-- The text of a log. -/
def ltT : List Rc → ByteArray
  | [] => ⟨#[]⟩
  | r :: l => rlT r ++ ⟨#[10]⟩ ++ ltT l
theorem ltT_snoc (l : List Rc) (r : Rc) : ltT (l ++ [r]) = ltT l ++ (rlT r ++ ⟨#[10]⟩) := by
  induction l with
  | nil =>
    apply bytes_same
    simp [ltT]
  | cons x l ih =>
    apply bytes_same
    have := congrArg (fun b : ByteArray => b.data.toList) ih
    simp [ltT] at this ⊢
    simp [this]

end Go.Proofs.YtepoamekeackkaaDoor
