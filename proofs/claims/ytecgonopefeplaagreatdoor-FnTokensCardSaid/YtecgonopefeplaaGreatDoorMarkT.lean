/-
  The laws' marks: texts of numbers.
-/
import Derived.Test.YtecgonopefeplaaGreatDoorGen
namespace Go.Proofs.YtecgonopefeplaaGreatDoor
open Go.RowKit Go.Shelf

/-- The decimal digits of a number, none of 0. -/
def digT (n : Nat) : ByteArray := if _h : n = 0 then ⟨#[]⟩ else digT (n / 10) ++ ⟨#[UInt8.ofNat (48 + n % 10)]⟩
termination_by n
decreasing_by omega
theorem digT_zero : digT 0 = ⟨#[]⟩ := by rw [digT]; rfl
theorem digT_pos {n : Nat} (h : 0 < n) : digT n = digT (n / 10) ++ ⟨#[UInt8.ofNat (48 + n % 10)]⟩ := by
  rw [digT, dif_neg (by omega)]
theorem digT_size (n : Nat) : (digT n).size ≤ n := by
  induction n using Nat.strongRecOn with
  | ind n ih =>
    by_cases h : n = 0
    · subst h
      rw [digT_zero]
      exact Nat.zero_le _
    · rw [digT_pos (by omega), ByteArray.size_append]
      have := ih (n / 10) (by omega)
      have h1 : (⟨#[UInt8.ofNat (48 + n % 10)]⟩ : ByteArray).size = 1 := rfl
      omega
theorem app_nil (x : ByteArray) : x ++ ⟨#[]⟩ = x := by
  apply ByteArray.ext
  simp [ByteArray.data_append]
def mkT (n : Nat) : ByteArray := if n = 0 then ⟨#[109, 48]⟩ else ⟨#[109]⟩ ++ digT n

theorem digit_conv (w : World) (m : Nat) : (convert 22 9 (.slice (some ⟨w.heap.size, 0, none⟩) 1 1)).run Tryz.prog (w.alloc (.cells #[.int .u8 (48 + (m : Int) % 10)] 5)) = .ok (.string ⟨#[UInt8.ofNat (48 + m % 10)]⟩) (w.alloc (.cells #[.int .u8 (48 + (m : Int) % 10)] 5)) := by
  refine run_convert_bytes_back (P := Tryz.prog) _ 22 9 5 ⟨w.heap.size, 0, none⟩ 1 [UInt8.ofNat (48 + m % 10)] Tryz.underlying22 Tryz.underlying5 Tryz.underlying9 ?_
  intro j hj
  match j, hj with
  | 0, _ =>
    simp [Addr.add]
    omega

end Go.Proofs.YtecgonopefeplaaGreatDoor
