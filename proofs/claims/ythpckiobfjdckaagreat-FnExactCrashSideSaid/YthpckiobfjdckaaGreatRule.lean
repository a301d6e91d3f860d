/-
  Chapter 2's rules and calls, one by one: what the specification says of them, and how the laws hand them on.
-/
import Derived.Test.YthpckiobfjdckaaGreatGen
import Derived.Test.YthpckiobfjdckaaGreatSpecPath
import Derived.Test.YthpckiobfjdckaaGreatNameP
namespace Go.Proofs.YthpckiobfjdckaaGreat
open Go.RowKit Go.Shelf

/-- A rule, and a call. -/
structure Ru where
  deny : Bool
  who : ByteArray
  method : ByteArray
  path : ByteArray
structure Ca where
  who : ByteArray
  method : ByteArray
  path : ByteArray
def Ru.size (r : Ru) : Nat := r.who.size + r.method.size + r.path.size
def Ca.size (c : Ca) : Nat := c.who.size + c.method.size + c.path.size
abbrev Ru.val (r : Ru) : Value := .agg #[.bool r.deny, .string r.who, .string r.method, .string r.path]
abbrev Ca.val (c : Ca) : Value := .agg #[.string c.who, .string c.method, .string c.path]
/-- The methods. -/
def getB (s : ByteArray) : Bool := s.toList == [103, 101, 116]
def putB (s : ByteArray) : Bool := s.toList == [112, 117, 116]
def mthB (s : ByteArray) : Bool := getB s || putB s
def Ru.good (r : Ru) : Bool := (nmB (split r.who 47) && ptBs r.path) && (mthB r.method || starB r.method)
def Ca.good (c : Ca) : Bool := (gnB (split c.who 47) && gpB c.path) && mthB c.method


set_option maxHeartbeats 400000 in
theorem l2Method_any (s : ByteArray) (w : World) :
    Calls Tryz.prog 105 #[.string s] w fun e w' => e = .returned (.bool (mthB s)) ∧ w' = w := by
  cases b1 : getB s
  · have e1 : (s.toList == [103, 101, 116]) = false := b1
    have HR := hid (show mthB s = putB s by unfold mthB; rw [b1]; rfl)
    clear b1
    go_enter Tryz.func105, Tryz.ntmps105
    go_wp2
    go_ret
    exact ⟨ret_bool HR.out.symm, rfl⟩
  · have e1 : (s.toList == [103, 101, 116]) = true := b1
    have HR := hid (show mthB s = true by unfold mthB; rw [b1]; rfl)
    clear b1
    go_enter Tryz.func105, Tryz.ntmps105
    go_wp2
    go_ret
    exact ⟨ret_bool HR.out.symm, rfl⟩

set_option maxHeartbeats 1000000 in
theorem toRule_any (r : Ru) (w : World) :
    Calls Tryz.prog 66 #[r.val] w fun e w' => e = .returned r.val ∧ Below w.heap.size w w' := by
  go_enter Tryz.func66, Tryz.ntmps66
  go_wp2
  exact bodyPost_ret (v := r.val) (by simp [results, Tryz.results66, go_sem]) rfl ⟨rfl, (((Below.refl _ w).alloc (Nat.le_refl _) _).alloc (by simp) _).alloc (by simp; omega) _⟩

/-- What is left of a budget. -/
def left3 (n : Int) (a b c : Nat) : Int := if (a : Int) + b + c ≤ n then n - a - b - c else -1

set_option maxHeartbeats 1000000 in
theorem szRule_any (r : Ru) (n : Int) (w : World) (h0 : 0 ≤ n) (h1 : n ≤ 1048576) (ha : r.who.size ≤ maxLen) (hb : r.method.size ≤ maxLen) (hc : r.path.size ≤ maxLen) :
    Calls Tryz.prog 58 #[r.val, .int .i64 n] w fun e w' => e = .returned (.int .i64 (left3 n r.who.size r.method.size r.path.size)) ∧ Below w.heap.size w w' := by
  unfold maxLen at ha hb hc
  by_cases c1 : n < r.who.size
  · have HR := hid (show left3 n r.who.size r.method.size r.path.size = -1 from if_neg (by omega))
    go_enter Tryz.func58, Tryz.ntmps58
    go_wp2
    go_ret
    exact ⟨ret_int HR.out.symm, (Below.refl _ w).alloc (Nat.le_refl _) _⟩
  · by_cases c2 : n - r.who.size < r.method.size
    · have HR := hid (show left3 n r.who.size r.method.size r.path.size = -1 from if_neg (by omega))
      go_enter Tryz.func58, Tryz.ntmps58
      go_wp2
      go_ret
      exact ⟨ret_int HR.out.symm, (Below.refl _ w).alloc (Nat.le_refl _) _⟩
    · by_cases c3 : n - r.who.size - r.method.size < r.path.size
      · have HR := hid (show left3 n r.who.size r.method.size r.path.size = -1 from if_neg (by omega))
        go_enter Tryz.func58, Tryz.ntmps58
        go_wp2
        go_ret
        exact ⟨ret_int HR.out.symm, (Below.refl _ w).alloc (Nat.le_refl _) _⟩
      · have HR := hid (show left3 n r.who.size r.method.size r.path.size = n - r.who.size - r.method.size - r.path.size from if_pos (by omega))
        go_enter Tryz.func58, Tryz.ntmps58
        go_wp2
        go_ret
        exact ⟨ret_int HR.out.symm, (Below.refl _ w).alloc (Nat.le_refl _) _⟩

set_option maxHeartbeats 1000000 in
theorem specGoodRule_any (r : Ru) (w : World) (hs : r.who.size ≤ 1048576) (ht : r.path.size ≤ 1048576) :
    Calls Tryz.prog 87 #[r.val] w fun e w' => e = .returned (.bool r.good) ∧ Below w.heap.size w w' := by
  cases h1 : nmB (split r.who 47)
  · have HR := hid (show r.good = false by unfold Ru.good; rw [h1]; rfl)
    go_enter Tryz.func87, Tryz.ntmps87
    go_wp2_with (first | (go_at_call 103; refine (specGoodNamePattern_any _ _ hs).mono ?_; rintro e w1 ⟨rfl, hB1⟩; obtain ⟨hc1, hf1⟩ := bcell hB1; have hz : w.heap.size < w1.heap.size := (by have := hB1.size; simp at this; omega)) | (go_at_call 104; refine (specGoodPathPattern_any _ _ ht).mono ?_; rintro e w2 ⟨rfl, hB2⟩; obtain ⟨hc2, hf2⟩ := bcell hB2) | (go_at_call 105; refine (l2Method_any _ _).mono ?_; rintro e w3 ⟨rfl, rfl⟩))
    go_ret
    exact ⟨ret_bool HR.out.symm, ((Below.refl _ w).alloc (Nat.le_refl _) _).trans (hB1.mono (by simp))⟩
  · cases h2 : ptBs r.path
    · have HR := hid (show r.good = false by unfold Ru.good; rw [h1, h2]; rfl)
      go_enter Tryz.func87, Tryz.ntmps87
      go_wp2_with (first | (go_at_call 103; refine (specGoodNamePattern_any _ _ hs).mono ?_; rintro e w1 ⟨rfl, hB1⟩; obtain ⟨hc1, hf1⟩ := bcell hB1; have hz : w.heap.size < w1.heap.size := (by have := hB1.size; simp at this; omega)) | (go_at_call 104; refine (specGoodPathPattern_any _ _ ht).mono ?_; rintro e w2 ⟨rfl, hB2⟩; obtain ⟨hc2, hf2⟩ := bcell hB2) | (go_at_call 105; refine (l2Method_any _ _).mono ?_; rintro e w3 ⟨rfl, rfl⟩))
      go_ret
      exact ⟨ret_bool HR.out.symm, below_two ((Below.refl _ w).alloc (Nat.le_refl _) _) hB1 hB2⟩
    · cases h3 : mthB r.method
      · have HR := hid (show r.good = starB r.method by unfold Ru.good; rw [h1, h2, h3]; rfl)
        go_enter Tryz.func87, Tryz.ntmps87
        go_wp2_with (first | (go_at_call 103; refine (specGoodNamePattern_any _ _ hs).mono ?_; rintro e w1 ⟨rfl, hB1⟩; obtain ⟨hc1, hf1⟩ := bcell hB1; have hz : w.heap.size < w1.heap.size := (by have := hB1.size; simp at this; omega)) | (go_at_call 104; refine (specGoodPathPattern_any _ _ ht).mono ?_; rintro e w2 ⟨rfl, hB2⟩; obtain ⟨hc2, hf2⟩ := bcell hB2) | (go_at_call 105; refine (l2Method_any _ _).mono ?_; rintro e w3 ⟨rfl, rfl⟩))
        go_ret
        exact ⟨ret_bool HR.out.symm, below_two ((Below.refl _ w).alloc (Nat.le_refl _) _) hB1 hB2⟩
      · have HR := hid (show r.good = true by unfold Ru.good; rw [h1, h2, h3]; rfl)
        go_enter Tryz.func87, Tryz.ntmps87
        go_wp2_with (first | (go_at_call 103; refine (specGoodNamePattern_any _ _ hs).mono ?_; rintro e w1 ⟨rfl, hB1⟩; obtain ⟨hc1, hf1⟩ := bcell hB1; have hz : w.heap.size < w1.heap.size := (by have := hB1.size; simp at this; omega)) | (go_at_call 104; refine (specGoodPathPattern_any _ _ ht).mono ?_; rintro e w2 ⟨rfl, hB2⟩; obtain ⟨hc2, hf2⟩ := bcell hB2) | (go_at_call 105; refine (l2Method_any _ _).mono ?_; rintro e w3 ⟨rfl, rfl⟩))
        go_ret
        exact ⟨ret_bool HR.out.symm, below_two ((Below.refl _ w).alloc (Nat.le_refl _) _) hB1 hB2⟩

theorem specGoodRule_sz (r : Ru) (w : World) (hs : r.size ≤ 1048576) :
    Calls Tryz.prog 87 #[r.val] w fun e w' => e = .returned (.bool r.good) ∧ Below w.heap.size w w' :=
  specGoodRule_any r w (by unfold Ru.size at hs; omega) (by unfold Ru.size at hs; omega)

end Go.Proofs.YthpckiobfjdckaaGreat
