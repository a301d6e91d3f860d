/-
  Chapter 3: numbers read from texts, by the specification and by the program.
-/
import Derived.Shelf.Strconv.ErrVarAll
import Derived.Test.YtecgonopefeplaaGreatDoorTextT
namespace Go.Proofs.YtecgonopefeplaaGreatDoor
open Go.RowKit Go.Shelf

theorem numR_len {s : ByteArray} (h : ¬ (1 ≤ s.size ∧ s.size ≤ 6)) : numR s = -1 := by
  unfold numR
  rw [decide_eq_false h]
  rfl
theorem head_at {s : ByteArray} (h : 0 < s.size) : s.data.toList.head? = some s[0] := by
  rw [List.head?_eq_getElem?, List.getElem?_eq_getElem (by simpa using h)]
  simp
  rfl
theorem numR_nought {s : ByteArray} (h : 1 < s.size) (h0 : s[0] = 48) : numR s = -1 := by
  unfold numR
  rw [head_at (by omega), h0, decide_eq_true h]
  simp
theorem numR_go {s : ByteArray} (hl : 1 ≤ s.size ∧ s.size ≤ 6) (h : ¬ (s[0] = 48 ∧ 1 < s.size)) : numR s = (match Lib.decFrom 0 s.data.toList with
    | some n => (n : Int)
    | none => -1) := by
  unfold numR
  rw [head_at (by omega), decide_eq_true hl]
  have : (some s[0] == some 48 && decide (1 < s.size)) = false := by
    by_cases h0 : s[0] = 48
    · have : ¬ 1 < s.size := fun h1 => h ⟨h0, h1⟩
      rw [decide_eq_false this, Bool.and_false]
    · have : (some s[0] == some (48 : UInt8)) = false := by simpa using h0
      rw [this, Bool.false_and]
  rw [this]
  rfl
theorem byte_get {s : ByteArray} {k : Nat} (h : k < s.size) : s.data.toList[k]? = some s[k] := by
  rw [List.getElem?_eq_getElem (by simpa using h)]
  simp
  rfl
theorem dec_step {s : ByteArray} {k acc : Nat} (h : k < s.size) (ha : Lib.decFrom 0 (s.data.toList.take k) = some acc) (h1 : 48 ≤ s[k].toNat) (h2 : s[k].toNat ≤ 57) : Lib.decFrom 0 (s.data.toList.take (k + 1)) = some (acc * 10 + (s[k].toNat - 48)) :=
  Lib.decFrom_take _ k 0 acc s[k] _ ha (byte_get h) (by unfold Lib.digitVal; rw [if_pos ⟨h1, h2⟩])
theorem dec_bad {s : ByteArray} {k : Nat} (h : k < s.size) (hb : ¬ (48 ≤ s[k].toNat ∧ s[k].toNat ≤ 57)) : Lib.decFrom 0 s.data.toList = none := by
  cases hd : Lib.decFrom 0 s.data.toList with
  | none => rfl
  | some n =>
    obtain ⟨d, hd'⟩ := Lib.digit_of_decFrom _ _ _ hd k s[k] (byte_get h)
    exact absurd (Lib.digitVal_eq hd').1 (fun h1 => hb ⟨h1, (Lib.digitVal_eq hd').2.1⟩)
theorem dec_small {s : ByteArray} {k acc : Nat} (hk : k ≤ 5) (ha : Lib.decFrom 0 (s.data.toList.take k) = some acc) : acc < 100000 := by
  have h := Lib.decFrom_lt _ _ _ ha
  have hl : (s.data.toList.take k).length ≤ 5 := by rw [List.length_take]; omega
  have hp : 10 ^ (s.data.toList.take k).length ≤ 10 ^ 5 := Nat.pow_le_pow_right (by decide) hl
  omega

end Go.Proofs.YtecgonopefeplaaGreatDoor
