/-
  Hex digits by the specification.
-/
import Derived.Laws.BitsAllLaws
import Derived.Test.YtepoamekeackkaaDoorGen
import Derived.Test.YtepoamekeackkaaDoorHexM
namespace Go.Proofs.YtepoamekeackkaaDoor
open Go.RowKit Go.Shelf

theorem hex_cut (d : Nat) (h : d < 16) : (⟨#[48, 49, 50, 51, 52, 53, 54, 55, 56, 57, 97, 98, 99, 100, 101, 102]⟩ : ByteArray).extract d (d + 1) = ⟨#[hexD d]⟩ := by
  have : ∀ k : Fin 16, (⟨#[48, 49, 50, 51, 52, 53, 54, 55, 56, 57, 97, 98, 99, 100, 101, 102]⟩ : ByteArray).extract k.val (k.val + 1) = ⟨#[hexD k.val]⟩ := by decide
  exact this ⟨d, h⟩
theorem pow_16 (k : Nat) : (16 : Nat) ^ k = 2 ^ (4 * k) := by rw [Nat.pow_mul]
theorem and_15 (m : Nat) (h : m < 4294967296) : bits .and .u32 (m : Int) 15 = ((m % 16 : Nat) : Int) := by
  have := u32_and_nat m 15 h (by omega)
  rw [show ((15 : Nat) : Int) = 15 from rfl] at this
  rw [this, show (15 : Nat) = 2 ^ 4 - 1 from rfl, Nat.and_two_pow_sub_one_eq_mod]
theorem hxW_next (j n : Nat) (h : j < 8) : (⟨(hxW j (n / 16 ^ (8 - j))).toArray⟩ : ByteArray) ++ ⟨#[hexD (n / 16 ^ (7 - j) % 16)]⟩ = ⟨(hxW (j + 1) (n / 16 ^ (8 - (j + 1)))).toArray⟩ := by
  apply bytes_same
  rw [show 8 - (j + 1) = 7 - j by omega, hxW, Nat.div_div_eq_div_mul, ← Nat.pow_succ, show (7 - j).succ = 8 - j by omega]
  simp

set_option maxHeartbeats 1000000 in
theorem l7Hex_any (n : Nat) (w : World) (hn : n < 4294967296) :
    Calls Tryd.prog 59 #[.int .u32 (n : Int)] w fun e w' => e = .returned (.string ⟨(hxW 8 n).toArray⟩) ∧ w' = w := by
  go_enter Tryd.func59, Tryd.ntmps59
  go_wp2
  go_loop [3, 4] (fun s k => ∃ j : Nat, j ≤ 8 ∧ k = .int .i64 (28 - 4 * (j : Int)) ∧ s = .string ⟨(hxW j (n / 16 ^ (8 - j))).toArray⟩) (fun _ k => ((intOf k) + 4).toNat)
  case atStart => exact ⟨0, by omega, rfl, rfl⟩
  case round =>
    obtain ⟨j, hj, rfl, rfl⟩ := hrel
    by_cases hlt : j < 8
    · have d1 : 0 ≤ 28 - 4 * (j : Int) := by omega
      have e0 : ((n : Int) / 2 ^ (28 - 4 * j)) = ((n / 16 ^ (7 - j) : Nat) : Int) := by
        rw [pow_16, show 4 * (7 - j) = 28 - 4 * j by omega]
        norm_cast
      have hm : n / 16 ^ (7 - j) < 4294967296 := Nat.lt_of_le_of_lt (Nat.div_le_self _ _) hn
      have e1 := and_15 (n / 16 ^ (7 - j)) hm
      have hd : n / 16 ^ (7 - j) % 16 < 16 := Nat.mod_lt _ (by omega)
      have HX := hid (hxW_next j n hlt)
      have hlen := hxW_len j (n / 16 ^ (8 - j))
      rw [← e0] at e1
      clear e0 hm
      generalize n / 16 ^ (7 - j) % 16 = d at *
      have e2 := hex_cut d hd
      have e3 : ((d : Int) + 1) % 4294967296 = (d : Int) + 1 := by omega
      generalize hxW j (n / 16 ^ (8 - j)) = l at *
      go_wp2
      exact ⟨⟨j + 1, by omega, by go_num, by rw [← HX.out]⟩, by simp [intOf]; omega⟩
    · obtain rfl : j = 8 := by omega
      go_wp2
      go_ret
      exact ⟨by simp, rfl⟩

end Go.Proofs.YtepoamekeackkaaDoor
