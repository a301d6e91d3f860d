/-
  Chapter 3: good links and good tokens, by the program.
-/
import Derived.Test.YtecgonopefeplaaGreatDoorTake
import Derived.Test.YtecgonopefeplaaGreatDoorLinkV
import Derived.Test.YtecgonopefeplaaGreatDoorName
namespace Go.Proofs.YtecgonopefeplaaGreatDoor
open Go.RowKit Go.Shelf

theorem goodTime_any (n : Int) (w : World) :
    Calls Tryz.prog 20 #[.int .i64 n] w fun e w' => e = .returned (.bool (tmB n)) ∧ w' = w := by
  by_cases c1 : 0 ≤ n
  · by_cases c2 : n ≤ 100000
    · have HR := hid (show tmB n = true from decide_eq_true ⟨c1, c2⟩)
      go_enter Tryz.func20, Tryz.ntmps20
      go_wp2
      go_ret
      exact ⟨ret_bool HR.out.symm, rfl⟩
    · have HR := hid (show tmB n = false from decide_eq_false (fun h => c2 h.2))
      go_enter Tryz.func20, Tryz.ntmps20
      go_wp2
      go_ret
      exact ⟨ret_bool HR.out.symm, rfl⟩
  · have HR := hid (show tmB n = false from decide_eq_false (fun h => c1 h.1))
    go_enter Tryz.func20, Tryz.ntmps20
    go_wp2
    go_ret
    exact ⟨ret_bool HR.out.symm, rfl⟩

theorem goodSerial_any (n : Int) (w : World) :
    Calls Tryz.prog 50 #[.int .i64 n] w fun e w' => e = .returned (.bool (seB n)) ∧ w' = w := by
  by_cases c1 : 1 ≤ n
  · by_cases c2 : n ≤ 100000
    · have HR := hid (show seB n = true from decide_eq_true ⟨c1, c2⟩)
      go_enter Tryz.func50, Tryz.ntmps50
      go_wp2
      go_ret
      exact ⟨ret_bool HR.out.symm, rfl⟩
    · have HR := hid (show seB n = false from decide_eq_false (fun h => c2 h.2))
      go_enter Tryz.func50, Tryz.ntmps50
      go_wp2
      go_ret
      exact ⟨ret_bool HR.out.symm, rfl⟩
  · have HR := hid (show seB n = false from decide_eq_false (fun h => c1 h.1))
    go_enter Tryz.func50, Tryz.ntmps50
    go_wp2
    go_ret
    exact ⟨ret_bool HR.out.symm, rfl⟩

/-- A link as a hop. -/
abbrev Lk.hop (k : Lk) : Value := .agg #[.string k.who, .string k.to, .int .i64 k.fr, .int .i64 k.un, .int .i64 k.se]

set_option maxHeartbeats 1000000 in
theorem hopOf_any (k : Lk) (w : World) :
    Calls Tryz.prog 27 #[k.val] w fun e w' => e = .returned k.hop ∧ Below w.heap.size w w' := by
  go_enter Tryz.func27, Tryz.ntmps27
  go_wp2
  exact bodyPost_ret (v := k.hop) (by simp [results, Tryz.results27, go_sem]) rfl ⟨rfl, ((Below.refl _ w).alloc (Nat.le_refl _) _).alloc (by simp) _⟩

set_option maxHeartbeats 1000000 in
theorem named_any (a b : ByteArray) (w : World) (hs : a.size ≤ 1048576) (ht : b.size ≤ 1048576) :
    Calls Tryz.prog 48 #[.agg #[.string a, .string b]] w fun e w' => e = .returned (.bool (nmOk a && nmOk b)) ∧ Below w.heap.size w w' := by
  cases h1 : gnB (split a 47)
  · have HR := hid (show (nmOk a && nmOk b) = false by unfold nmOk; rw [h1]; rfl)
    go_enter Tryz.func48, Tryz.ntmps48
    go_wp2_with (first | (go_at_call 21; first | (have hz1 := hz; refine (implGoodName_any b _ ht).mono ?_; rintro e w2 ⟨rfl, hB2⟩) | (refine (implGoodName_any a _ hs).mono ?_; rintro e w1 ⟨rfl, hB1⟩; obtain ⟨hc1, hf1⟩ := bcell hB1; have hz : w.heap.size < w1.heap.size := (by have := hB1.size; simp at this; omega))))
    go_ret
    exact ⟨ret_bool HR.out.symm, below_one ((Below.refl _ w).alloc (Nat.le_refl _) _) hB1⟩
  · cases h2 : gnB (split b 47)
    · have HR := hid (show (nmOk a && nmOk b) = false by unfold nmOk; rw [h1, h2]; rfl)
      go_enter Tryz.func48, Tryz.ntmps48
      go_wp2_with (first | (go_at_call 21; first | (have hz1 := hz; refine (implGoodName_any b _ ht).mono ?_; rintro e w2 ⟨rfl, hB2⟩) | (refine (implGoodName_any a _ hs).mono ?_; rintro e w1 ⟨rfl, hB1⟩; obtain ⟨hc1, hf1⟩ := bcell hB1; have hz : w.heap.size < w1.heap.size := (by have := hB1.size; simp at this; omega))))
      go_ret
      exact ⟨ret_bool HR.out.symm, below_two ((Below.refl _ w).alloc (Nat.le_refl _) _) hB1 hB2⟩
    · have HR := hid (show (nmOk a && nmOk b) = true by unfold nmOk; rw [h1, h2]; rfl)
      go_enter Tryz.func48, Tryz.ntmps48
      go_wp2_with (first | (go_at_call 21; first | (have hz1 := hz; refine (implGoodName_any b _ ht).mono ?_; rintro e w2 ⟨rfl, hB2⟩) | (refine (implGoodName_any a _ hs).mono ?_; rintro e w1 ⟨rfl, hB1⟩; obtain ⟨hc1, hf1⟩ := bcell hB1; have hz : w.heap.size < w1.heap.size := (by have := hB1.size; simp at this; omega))))
      go_ret
      exact ⟨ret_bool HR.out.symm, below_two ((Below.refl _ w).alloc (Nat.le_refl _) _) hB1 hB2⟩

def timB (a b : Int) : Bool := tmB a && (tmB b && decide (a ≤ b))

set_option maxHeartbeats 1000000 in
theorem timed_any (a b : Int) (w : World) :
    Calls Tryz.prog 49 #[.agg #[.int .i64 a, .int .i64 b]] w fun e w' => e = .returned (.bool (timB a b)) ∧ Below w.heap.size w w' := by
  cases h1 : tmB a
  · have HR := hid (show timB a b = false by unfold timB; rw [h1]; rfl)
    go_enter Tryz.func49, Tryz.ntmps49
    go_wp2_with (go_at_call 20; refine (goodTime_any _ _).mono ?_; rintro e w1 ⟨rfl, rfl⟩)
    go_ret
    exact ⟨ret_bool HR.out.symm, (Below.refl _ w).alloc (Nat.le_refl _) _⟩
  · cases h2 : tmB b
    · have HR := hid (show timB a b = false by unfold timB; rw [h1, h2]; rfl)
      go_enter Tryz.func49, Tryz.ntmps49
      go_wp2_with (go_at_call 20; refine (goodTime_any _ _).mono ?_; rintro e w1 ⟨rfl, rfl⟩)
      go_ret
      exact ⟨ret_bool HR.out.symm, (Below.refl _ w).alloc (Nat.le_refl _) _⟩
    · cases h3 : decide (a ≤ b)
      · have HR := hid (show timB a b = false by unfold timB; rw [h1, h2, h3]; rfl)
        go_enter Tryz.func49, Tryz.ntmps49
        go_wp2_with (go_at_call 20; refine (goodTime_any _ _).mono ?_; rintro e w1 ⟨rfl, rfl⟩)
        go_ret
        exact ⟨ret_bool HR.out.symm, (Below.refl _ w).alloc (Nat.le_refl _) _⟩
      · have HR := hid (show timB a b = true by unfold timB; rw [h1, h2, h3]; rfl)
        go_enter Tryz.func49, Tryz.ntmps49
        go_wp2_with (go_at_call 20; refine (goodTime_any _ _).mono ?_; rintro e w1 ⟨rfl, rfl⟩)
        go_ret
        exact ⟨ret_bool HR.out.symm, (Below.refl _ w).alloc (Nat.le_refl _) _⟩

theorem good_parts (k : Lk) : k.good = ((nmOk k.who && nmOk k.to) && (timB k.fr k.un && seB k.se)) := by
  unfold Lk.good timB
  cases nmOk k.who <;> cases nmOk k.to <;> cases seB k.se <;> cases tmB k.fr <;> cases tmB k.un <;> cases decide (k.fr ≤ k.un) <;> rfl

set_option maxHeartbeats 1000000 in
theorem hopGood_any (k : Lk) (w : World) (hs : k.who.size ≤ 1048576) (ht : k.to.size ≤ 1048576) :
    Calls Tryz.prog 28 #[k.hop] w fun e w' => e = .returned (.bool k.good) ∧ Below w.heap.size w w' := by
  have HP := hid (good_parts k)
  cases h1 : (nmOk k.who && nmOk k.to)
  · have HR := hid (show k.good = false by rw [HP.out, h1]; rfl)
    go_enter Tryz.func28, Tryz.ntmps28
    go_wp2_with (first | (go_at_call 48; refine (named_any k.who k.to _ hs ht).mono ?_; rintro e w1 ⟨rfl, hB1⟩; obtain ⟨hc1, hf1⟩ := bcell hB1; have hz : w.heap.size < w1.heap.size := (by have := hB1.size; simp at this; omega)) | (go_at_call 49; refine (timed_any k.fr k.un _).mono ?_; rintro e w2 ⟨rfl, hB2⟩; obtain ⟨hc2, hf2⟩ := bcell hB2; have hz2 := Nat.lt_of_lt_of_le hz hB2.size) | (go_at_call 50; refine (goodSerial_any _ _).mono ?_; rintro e w3 ⟨rfl, rfl⟩))
    go_ret
    exact ⟨ret_bool HR.out.symm, below_one ((Below.refl _ w).alloc (Nat.le_refl _) _) hB1⟩
  · cases h2 : timB k.fr k.un
    · have HR := hid (show k.good = false by rw [HP.out, h1, h2]; rfl)
      go_enter Tryz.func28, Tryz.ntmps28
      go_wp2_with (first | (go_at_call 48; refine (named_any k.who k.to _ hs ht).mono ?_; rintro e w1 ⟨rfl, hB1⟩; obtain ⟨hc1, hf1⟩ := bcell hB1; have hz : w.heap.size < w1.heap.size := (by have := hB1.size; simp at this; omega)) | (go_at_call 49; refine (timed_any k.fr k.un _).mono ?_; rintro e w2 ⟨rfl, hB2⟩; obtain ⟨hc2, hf2⟩ := bcell hB2; have hz2 := Nat.lt_of_lt_of_le hz hB2.size) | (go_at_call 50; refine (goodSerial_any _ _).mono ?_; rintro e w3 ⟨rfl, rfl⟩))
      go_ret
      exact ⟨ret_bool HR.out.symm, below_two ((Below.refl _ w).alloc (Nat.le_refl _) _) hB1 hB2⟩
    · have HR := hid (show k.good = seB k.se by rw [HP.out, h1, h2]; rfl)
      go_enter Tryz.func28, Tryz.ntmps28
      go_wp2_with (first | (go_at_call 48; refine (named_any k.who k.to _ hs ht).mono ?_; rintro e w1 ⟨rfl, hB1⟩; obtain ⟨hc1, hf1⟩ := bcell hB1; have hz : w.heap.size < w1.heap.size := (by have := hB1.size; simp at this; omega)) | (go_at_call 49; refine (timed_any k.fr k.un _).mono ?_; rintro e w2 ⟨rfl, hB2⟩; obtain ⟨hc2, hf2⟩ := bcell hB2; have hz2 := Nat.lt_of_lt_of_le hz hB2.size) | (go_at_call 50; refine (goodSerial_any _ _).mono ?_; rintro e w3 ⟨rfl, rfl⟩))
      go_ret
      exact ⟨ret_bool HR.out.symm, below_two ((Below.refl _ w).alloc (Nat.le_refl _) _) hB1 hB2⟩

end Go.Proofs.YtecgonopefeplaaGreatDoor
