/-
  Chapter 3: numbers as texts, by the specification.
-/
import Derived.Deep.RegionHeld3
import Derived.Lib.ItoaNum
import Derived.Test.YtepoamekeackkaaDoorMarkT
import Derived.Test.YtepoamekeackkaaDoorTokM
namespace Go.Proofs.YtepoamekeackkaaDoor
open Go.RowKit Go.Shelf

theorem dd_big {u : Nat} (h : ¬ u < 10) : (⟨(Lib.decDigits u).toArray⟩ : ByteArray) = ⟨(Lib.decDigits (u / 10)).toArray⟩ ++ ⟨#[UInt8.ofNat (48 + u % 10)]⟩ := by
  apply bytes_same
  rw [Lib.decDigits, dif_neg h]
  simp
theorem dd_one {u : Nat} (h : u < 10) : (⟨(Lib.decDigits u).toArray⟩ : ByteArray) = ⟨#[UInt8.ofNat (48 + u % 10)]⟩ := by
  apply bytes_same
  rw [Lib.decDigits_one h, Nat.mod_eq_of_lt h]
theorem dd_size (u : Nat) (h : u ≤ 1000000) : (⟨(Lib.decDigits u).toArray⟩ : ByteArray).size ≤ 7 := by
  show (Lib.decDigits u).toArray.size ≤ 7
  rw [List.size_toArray, Lib.decDigits_length]
  rcases Nat.lt_or_ge u 1000000 with h1 | h1
  · have := (dd_len6 h1).2
    rw [Lib.decDigits_length] at this
    omega
  · have : u = 1000000 := by omega
    subst this
    have := Lib.nDigits_unique 6 1000000 (by decide) (by decide)
    omega

theorem conv_any (b m : Nat) (W : World) (h : W.cell? ⟨b, 0, none⟩ = some (.int .u8 (48 + (m : Int) % 10))) : (convert 22 9 (.slice (some ⟨b, 0, none⟩) 1 1)).run Tryd.prog W = .ok (.string ⟨#[UInt8.ofNat (48 + m % 10)]⟩) W := by
  refine run_convert_bytes_back (P := Tryd.prog) _ 22 9 5 ⟨b, 0, none⟩ 1 [UInt8.ofNat (48 + m % 10)] Tryd.underlying22 Tryd.underlying5 Tryd.underlying9 ?_
  intro j hj
  match j, hj with
  | 0, _ =>
    simp [Addr.add, h]
    omega

set_option maxHeartbeats 4000000 in
set_option maxRecDepth 100000 in
theorem l1Num_nat : ∀ (u : Nat) (w : World), u ≤ 1000000 →
    Calls Tryd.prog 58 #[.int .i64 (u : Int)] w fun e w' => e = .returned (.string ⟨(Lib.decDigits u).toArray⟩) ∧ Below w.heap.size w w' := by
  intro u
  induction u using Nat.strongRecOn with
  | _ u ih =>
    intro w hu
    by_cases h : u < 10
    · have hc := digit_conv w u
      have h1 : (u : Int) % 10 = u := by omega
      rw [h1] at hc
      have HR := hid (dd_one h)
      generalize UInt8.ofNat (48 + u % 10) = d at *
      go_enter Tryd.func58, Tryd.ntmps58
      go_wp2
      go_ret
      exact ⟨ret_str HR.out.symm, (Below.refl _ w).alloc (Nat.le_refl _) _⟩
    · have HR := hid (dd_big h)
      have hih : ∀ (z : Int) (W : World), z = ((u / 10 : Nat) : Int) → Calls Tryd.prog 58 #[.int .i64 z] W fun e w' => e = .returned (.string ⟨(Lib.decDigits (u / 10)).toArray⟩) ∧ Below W.heap.size W w' := fun z W hz => by
        subst hz
        exact ih (u / 10) (by omega) W (by omega)
      have hcv := fun b W h => conv_any b u W h
      have hsz := dd_size (u / 10) (by omega)
      generalize (⟨(Lib.decDigits (u / 10)).toArray⟩ : ByteArray) = x at *
      generalize UInt8.ofNat (48 + u % 10) = d at *
      clear ih
      have g1 : ¬9223372036854775807 < x.size + 1 := by omega
      have e1 : IntKind.i64.wrap ((u : Int) / 10) = (u : Int) / 10 := by rw [IntKind.wrap_i64]; omega
      have e2 : (u : Int).tmod 10 = (u : Int) % 10 := Int.tmod_eq_emod_of_nonneg (by omega)
      have e3 : IntKind.i64.wrap (48 + (u : Int) % 10) = 48 + (u : Int) % 10 := by rw [IntKind.wrap_i64]; omega
      have e4 : IntKind.u8.wrap (48 + (u : Int) % 10) = 48 + (u : Int) % 10 := by rw [IntKind.wrap_u8]; omega
      go_enter Tryd.func58, Tryd.ntmps58
      go_wp2_with fail
      go_region_with (go_at_call 58; refine (hih _ _ (by omega)).mono ?_; rintro e w1 ⟨rfl, hB1⟩; have hq := hB1.cell (p := ⟨w.heap.size, 0, none⟩))
      all_goals go_wp2
      all_goals go_ret
      all_goals refine ⟨ret_str HR.out.symm, ?_⟩
      all_goals first
        | exact ((Below.refl _ w).trans (below_drew1 hB1)).alloc (below_drew1 hB1).size _
        | exact below_one ((Below.refl _ w).alloc (Nat.le_refl _) _) (below_drew1 hB1)
        | exact below_one ((Below.refl _ w).alloc (Nat.le_refl _) _) hB1

theorem l1Num_any (n : Int) (w : World) (h0 : 0 ≤ n) (h : n ≤ 1000000) :
    Calls Tryd.prog 58 #[.int .i64 n] w fun e w' => e = .returned (.string (numT n)) ∧ Below w.heap.size w w' := by
  obtain ⟨u, rfl⟩ := Int.eq_ofNat_of_zero_le h0
  have e : numT (u : Int) = ⟨(Lib.decDigits u).toArray⟩ := by
    unfold numT
    rw [itoa_pos h0]
    rfl
  rw [e]
  exact l1Num_nat u w (by omega)

end Go.Proofs.YtepoamekeackkaaDoor
