/-
  Chapter 2: calls one by one, and the text of a rule by the specification.
-/
import Derived.Test.YtnblnhlfifhkkaaGreatRule
namespace Go.Proofs.YtnblnhlfifhkkaaGreat
open Go.RowKit Go.Shelf

set_option maxHeartbeats 1000000 in
theorem specGoodCall_any (r : Ca) (w : World) (hs : r.who.size ≤ 1048576) (ht : r.path.size ≤ 1048576) :
    Calls Tryz.prog 16 #[r.val] w fun e w' => e = .returned (.bool r.good) ∧ Below w.heap.size w w' := by
  cases h1 : gnB (split r.who 47)
  · have HR := hid (show r.good = false by unfold Ca.good; rw [h1]; rfl)
    go_enter Tryz.func16, Tryz.ntmps16
    go_wp2_with (first | (go_at_call 39; refine (specGoodName_any _ _ hs).mono ?_; rintro e w1 ⟨rfl, hB1⟩; obtain ⟨hc1, hf1⟩ := bcell hB1; have hz : w.heap.size < w1.heap.size := (by have := hB1.size; simp at this; omega)) | (go_at_call 40; refine (specGoodPath_any _ _ ht).mono ?_; rintro e w2 ⟨rfl, hB2⟩; obtain ⟨hc2, hf2⟩ := bcell hB2) | (go_at_call 41; refine (l2Method_any _ _).mono ?_; rintro e w3 ⟨rfl, rfl⟩))
    go_ret
    exact ⟨ret_bool HR.out.symm, below_one ((Below.refl _ w).alloc (Nat.le_refl _) _) hB1⟩
  · cases h2 : gpB r.path
    · have HR := hid (show r.good = false by unfold Ca.good; rw [h1, h2]; rfl)
      go_enter Tryz.func16, Tryz.ntmps16
      go_wp2_with (first | (go_at_call 39; refine (specGoodName_any _ _ hs).mono ?_; rintro e w1 ⟨rfl, hB1⟩; obtain ⟨hc1, hf1⟩ := bcell hB1; have hz : w.heap.size < w1.heap.size := (by have := hB1.size; simp at this; omega)) | (go_at_call 40; refine (specGoodPath_any _ _ ht).mono ?_; rintro e w2 ⟨rfl, hB2⟩; obtain ⟨hc2, hf2⟩ := bcell hB2) | (go_at_call 41; refine (l2Method_any _ _).mono ?_; rintro e w3 ⟨rfl, rfl⟩))
      go_ret
      exact ⟨ret_bool HR.out.symm, below_two ((Below.refl _ w).alloc (Nat.le_refl _) _) hB1 hB2⟩
    · have HR := hid (show r.good = mthB r.method by unfold Ca.good; rw [h1, h2]; rfl)
      go_enter Tryz.func16, Tryz.ntmps16
      go_wp2_with (first | (go_at_call 39; refine (specGoodName_any _ _ hs).mono ?_; rintro e w1 ⟨rfl, hB1⟩; obtain ⟨hc1, hf1⟩ := bcell hB1; have hz : w.heap.size < w1.heap.size := (by have := hB1.size; simp at this; omega)) | (go_at_call 40; refine (specGoodPath_any _ _ ht).mono ?_; rintro e w2 ⟨rfl, hB2⟩; obtain ⟨hc2, hf2⟩ := bcell hB2) | (go_at_call 41; refine (l2Method_any _ _).mono ?_; rintro e w3 ⟨rfl, rfl⟩))
      go_ret
      exact ⟨ret_bool HR.out.symm, below_two ((Below.refl _ w).alloc (Nat.le_refl _) _) hB1 hB2⟩

/-- The text of a rule. -/
def Ru.text (r : Ru) : ByteArray := (if r.deny = true then ⟨#[100, 101, 110, 121, 32]⟩ else ⟨#[97, 108, 108, 111, 119, 32]⟩) ++ r.who ++ ⟨#[32]⟩ ++ r.method ++ ⟨#[32]⟩ ++ r.path
def Ru.textG (r : Ru) : ByteArray := if r.good = true then r.text else ⟨#[]⟩
theorem ret_str {a b : ByteArray} (h : a = b) : Ending.returned (.string a) = .returned (.string b) := by rw [h]
theorem ret_strb {a b : ByteArray} {c d : Bool} (h : a = b) (h' : c = d) : Ending.returned (.tuple #[.string a, .bool c]) = .returned (.tuple #[.string b, .bool d]) := by rw [h, h']

theorem specGoodCall_sz (r : Ca) (w : World) (hs : r.size ≤ 1048576) :
    Calls Tryz.prog 16 #[r.val] w fun e w' => e = .returned (.bool r.good) ∧ Below w.heap.size w w' :=
  specGoodCall_any r w (by unfold Ca.size at hs; omega) (by unfold Ca.size at hs; omega)

end Go.Proofs.YtnblnhlfifhkkaaGreat
