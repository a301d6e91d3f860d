/-
  Small whole numbers as floats: how they are held against each other.
-/
import Derived.Laws.FloatArith
namespace Go.Proofs.YtfchmhcnejifhaaDoor

/-- A small whole number as a float's bits. -/
def fN (n : Nat) : Nat := floatOfInt .f64 (n : Int)
theorem shl_pow (n k : Nat) : n <<< k = n * 2 ^ k := Nat.shiftLeft_eq n k
theorem kept_eq (n : Nat) : Ieee.Toward.even.cut false n 0 = n := by
  unfold Ieee.Toward.cut
  have h : n % 1 = 0 := Nat.mod_one n
  simp [h]
theorem fN_pos {n : Nat} (h0 : 0 < n) (h : n ≤ 1000000) : fN n = (n.log2 + 1022) * 2 ^ 52 + n * 2 ^ (52 - n.log2) ∧ n.log2 ≤ 20 ∧ 2 ^ 52 ≤ n * 2 ^ (52 - n.log2) ∧ n * 2 ^ (52 - n.log2) < 2 ^ 53 := by
  have hl : n.log2 < 20 := (Nat.log2_lt (by omega)).2 (by omega)
  have a1 : 2 ^ n.log2 ≤ n := Nat.log2_self_le (by omega)
  have a2 : n < 2 ^ (n.log2 + 1) := Nat.lt_log2_self
  have b1 : 2 ^ 52 ≤ n * 2 ^ (52 - n.log2) := by
    have : 2 ^ n.log2 * 2 ^ (52 - n.log2) ≤ n * 2 ^ (52 - n.log2) := Nat.mul_le_mul_right _ a1
    rwa [← Nat.pow_add, show n.log2 + (52 - n.log2) = 52 by omega] at this
  have b2 : n * 2 ^ (52 - n.log2) < 2 ^ 53 := by
    have : n * 2 ^ (52 - n.log2) < 2 ^ (n.log2 + 1) * 2 ^ (52 - n.log2) := Nat.mul_lt_mul_of_pos_right a2 (Nat.two_pow_pos _)
    rwa [← Nat.pow_add, show n.log2 + 1 + (52 - n.log2) = 53 by omega] at this
  refine ⟨?_, by omega, b1, b2⟩
  unfold fN floatOfInt FloatKind.nearest FloatKind.encode Ieee.Format.write
  have hn : decide ((n : Int) < 0) = false := by simp
  simp only [hn, Int.natAbs_natCast]
  unfold Ieee.Format.nearest
  rw [if_neg (by omega)]
  have hlast : max (0 + (n.log2 : Int) - (FloatKind.f64.format.fractionBits : Int)) FloatKind.f64.format.leastPlace = (n.log2 : Int) - 52 := by
    have e1 : (FloatKind.f64.format.fractionBits : Int) = 52 := rfl
    have e2 : FloatKind.f64.format.leastPlace = -1074 := by decide
    rw [e1, e2]
    omega
  simp only [hlast]
  have e3 : (0 - ((n.log2 : Int) - 52)).toNat = 52 - n.log2 := by omega
  have e4 : ((n.log2 : Int) - 52 - 0).toNat = 0 := by omega
  rw [e3, e4, kept_eq, shl_pow]
  have e2 : FloatKind.f64.format.leastPlace = -1074 := by decide
  have e5 : FloatKind.f64.format.binade = 2 ^ 52 := by decide
  have e6 : FloatKind.f64.format.infRung = 2047 * 2 ^ 52 := by decide
  rw [e2, e5, e6, show ((n.log2 : Int) - 52 - -1074).toNat = n.log2 + 1022 by omega]
  unfold Ieee.Format.word
  rw [if_neg (by decide), Nat.min_eq_left]
  omega
theorem read_fN {n : Nat} (h0 : 0 < n) (h : n ≤ 1000000) : FloatKind.f64.format.read (fN n) = .number false (n * 2 ^ (52 - n.log2)) ((n.log2 : Int) - 52) := by
  obtain ⟨e, hl, b1, b2⟩ := fN_pos h0 h
  rw [e]
  generalize hk : n * 2 ^ (52 - n.log2) = k at *
  generalize n.log2 = L at *
  have e2 : FloatKind.f64.format.leastPlace = -1074 := by decide
  have e5 : FloatKind.f64.format.binade = 2 ^ 52 := by decide
  have e6 : FloatKind.f64.format.infRung = 2047 * 2 ^ 52 := by decide
  have e7 : FloatKind.f64.format.signWeight = 2 ^ 63 := by decide
  unfold Ieee.Format.read
  rw [e2, e5, e6, e7]
  have d1 : ((L + 1022) * 2 ^ 52 + k) / 2 ^ 63 = 0 := Nat.div_eq_of_lt (by omega)
  have d2 : ((L + 1022) * 2 ^ 52 + k) % 2 ^ 63 = (L + 1022) * 2 ^ 52 + k := Nat.mod_eq_of_lt (by omega)
  have d3 : ((L + 1022) * 2 ^ 52 + k) % 2 ^ 52 = k - 2 ^ 52 := by omega
  have d4 : ((L + 1022) * 2 ^ 52 + k) / 2 ^ 52 = L + 1023 := by omega
  simp only [d1, d2, d3, d4]
  rw [if_neg (by omega), if_pos (by omega)]
  have d5 : 2 ^ 52 + (k - 2 ^ 52) = k := by omega
  have d6 : (-1074 : Int) + ((L + 1023 - 1 : Nat) : Int) = (L : Int) - 52 := by omega
  rw [d5, d6]
  rfl
theorem read_fN0 : FloatKind.f64.format.read (fN 0) = .number false 0 (-1074) := by decide
theorem z_mul (p : Nat) : 0 = 0 * 2 ^ p := (Nat.zero_mul _).symm
theorem read_any (n : Nat) (h : n ≤ 1000000) : ∃ (k : Nat) (p : Nat), FloatKind.f64.format.read (fN n) = .number false k (-(p : Int)) ∧ k = n * 2 ^ p := by
  by_cases h0 : 0 < n
  · have hl : n.log2 < 20 := (Nat.log2_lt (by omega)).2 (by omega)
    refine ⟨_, 52 - n.log2, ?_, rfl⟩
    rw [read_fN h0 h]
    congr 1
    omega
  · have : n = 0 := by omega
    subst this
    exact ⟨0, 1074, read_fN0, z_mul 1074⟩
theorem cmp_mul (a b p : Nat) : compare ((a * 2 ^ p : Nat) : Int) ((b * 2 ^ p : Nat) : Int) = compare a b := by
  have hp : 0 < 2 ^ p := Nat.two_pow_pos p
  have hA : ∀ x y : Nat, ((x * 2 ^ p : Nat) : Int) < ((y * 2 ^ p : Nat) : Int) ↔ x < y := fun x y => by
    rw [Int.ofNat_lt]
    exact Nat.mul_lt_mul_right hp
  rcases Nat.lt_trichotomy a b with h | h | h
  · rw [Nat.compare_eq_lt.2 h]
    simp only [compare, compareOfLessAndEq]
    rw [if_pos ((hA a b).2 h)]
  · subst h
    rw [Nat.compare_eq_eq.2 rfl]
    simp [compare, compareOfLessAndEq]
  · rw [Nat.compare_eq_gt.2 h]
    simp only [compare, compareOfLessAndEq]
    rw [if_neg (by rw [hA]; omega), if_neg (by intro e; have := (hA b a).2 h; omega)]
theorem order_fN (a b : Nat) (ha : a ≤ 1000000) (hb : b ≤ 1000000) : FloatKind.f64.format.order (fN a) (fN b) = some (compare a b) := by
  obtain ⟨k, p, e, rfl⟩ := read_any a ha
  obtain ⟨l, q, e', rfl⟩ := read_any b hb
  unfold Ieee.Format.order
  rw [e, e']
  unfold Ieee.Datum.order
  simp only [Ieee.signed]
  have h1 : ∃ m : Nat, min (-(p : Int)) (-(q : Int)) = -(m : Int) ∧ p ≤ m ∧ q ≤ m := by
    refine ⟨max p q, by omega, by omega, by omega⟩
  obtain ⟨m, hm, h2, h3⟩ := h1
  rw [hm, show (-(p : Int) - -(m : Int)).toNat = m - p by omega, show (-(q : Int) - -(m : Int)).toNat = m - q by omega, shl_pow, shl_pow, Nat.mul_assoc, ← Nat.pow_add, Nat.mul_assoc, ← Nat.pow_add, show p + (m - p) = m by omega, show q + (m - q) = m by omega]
  simp only [if_neg (by decide : ¬ (false = true))]
  rw [cmp_mul]
theorem neg_fN (a : Nat) (ha : a ≤ 1000000) : (FloatKind.f64.decode (fN a)).neg = false := by
  obtain ⟨k, p, e, _⟩ := read_any a ha
  unfold FloatKind.decode
  rw [e]
  rfl

end Go.Proofs.YtfchmhcnejifhaaDoor
