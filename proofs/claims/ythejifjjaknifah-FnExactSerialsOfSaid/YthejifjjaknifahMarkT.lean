/-
  The laws' marks: texts of numbers.
-/
import Derived.Test.YthejifjjaknifahGen
namespace Go.Proofs.Ythejifjjaknifah
open Go.RowKit Go.Shelf

/-- The decimal digits of a number, none of 0. -/
def digT (n : Nat) : ByteArray := if _h : n = 0 then ⟨#[]⟩ else digT (n / 10) ++ ⟨#[UInt8.ofNat (48 + n % 10)]⟩
termination_by n
decreasing_by omega
theorem digT_zero : digT 0 = ⟨#[]⟩ := by rw [digT]; rfl
theorem digT_pos {n : Nat} (h : 0 < n) : digT n = digT (n / 10) ++ ⟨#[UInt8.ofNat (48 + n % 10)]⟩ := by
  rw [digT, dif_neg (by omega)]
theorem digT_size (n : Nat) : (digT n).size ≤ n := by
  induction n using Nat.strongRecOn with
  | ind n ih =>
    by_cases h : n = 0
    · subst h
      rw [digT_zero]
      exact Nat.zero_le _
    · rw [digT_pos (by omega), ByteArray.size_append]
      have := ih (n / 10) (by omega)
      have h1 : (⟨#[UInt8.ofNat (48 + n % 10)]⟩ : ByteArray).size = 1 := rfl
      omega
theorem app_nil (x : ByteArray) : x ++ ⟨#[]⟩ = x := by
  apply ByteArray.ext
  simp [ByteArray.data_append]
def mkT (n : Nat) : ByteArray := if n = 0 then ⟨#[109, 48]⟩ else ⟨#[109]⟩ ++ digT n

end Go.Proofs.Ythejifjjaknifah
