/-
  Chapter 7: a record behind others; the first broken record, by the specification and by the program (which gives up by a panic and catches it).
-/
import Derived.Deep.RegionHeld3
import Derived.Defers
import Derived.Recover
import Derived.Laws.Pointers
import Derived.Test.YtepoamekeackkaaDoorLogF
namespace Go.Proofs.YtepoamekeackkaaDoor
open Go.RowKit Go.Shelf

theorem num_size {n : Nat} (h : n ≤ 1000) : (numT (n : Int)).size ≤ 7 := by
  have := (itoa_len6 (show 0 ≤ (n : Int) by omega) (by omega)).2
  rw [numT_size]
  omega

set_option maxHeartbeats 1000000 in
theorem l7Record_any (h n : Nat) (z : Int) (note : ByteArray) (w : World) (hh : h < 4294967296) (hz : z = ((n + 1 : Nat) : Int)) (hn : n + 1 ≤ 1000) (hs : note.size ≤ 1048576) :
    Calls Tryd.prog 50 #[.int .u32 (h : Int), .int .i64 z, .string note] w fun e w' => e = .returned (rcN h n note).val ∧ Below w.heap.size w w' := by
  subst hz
  have hx := num_size hn
  have hnum := fun W => l1Num_any ((n + 1 : Nat) : Int) W (by omega) (by omega)
  have HR := hid (show (rcN h n note) = ⟨((n + 1 : Nat) : Int), note, smL h (numT ((n + 1 : Nat) : Int) ++ ⟨#[32]⟩ ++ note).data.toList⟩ from rfl)
  generalize numT ((n + 1 : Nat) : Int) = x at *
  generalize ((n + 1 : Nat) : Int) = z at *
  have g1 : ¬9223372036854775807 < x.size + 1 := by omega
  have g2 : ¬9223372036854775807 < x.size + 1 + note.size := by omega
  go_enter Tryd.func50, Tryd.ntmps50
  go_wp2_with fail
  refine (hnum _).mono ?_
  rintro e w1 ⟨rfl, hB1⟩
  have hB2 : Below w.heap.size w w1 := below_one ((Below.refl _ w).alloc (Nat.le_refl _) _) hB1
  have c0 := hB1.cell (p := ⟨w.heap.size, 0, none⟩) (by simp)
  have c1 := hB1.cell (p := ⟨w.heap.size, 1, none⟩) (by simp)
  have c2 := hB1.cell (p := ⟨w.heap.size, 2, none⟩) (by simp)
  have f0 := hB1.frozen (p := ⟨w.heap.size, 0, none⟩) (by simp)
  have f1 := hB1.frozen (p := ⟨w.heap.size, 1, none⟩) (by simp)
  have f2 := hB1.frozen (p := ⟨w.heap.size, 2, none⟩) (by simp)
  simp [go_sem] at c0 c1 c2 f0 f1 f2
  go_wp2_with fail
  refine (l7Sum_any h _ _ hh (by simp only [ByteArray.size_append]; show x.size + 1 + note.size ≤ _; omega)).mono ?_
  rintro e w2 ⟨rfl, rfl⟩
  go_wp2_with fail
  rw [HR.out]
  refine bodyPost_ret (v := .agg #[.int .i64 z, .string note, .int .u32 (smL h (x ++ ⟨#[32]⟩ ++ note).data.toList : Int)]) (by simp [results, Tryd.results50, go_sem, c0, c1, c2]) rfl ⟨rfl, ?_⟩
  exact ((hB2.setCell (p := ⟨w.heap.size, _, none⟩) (Nat.le_refl _) _).setCell (p := ⟨w.heap.size, _, none⟩) (Nat.le_refl _) _).setCell (p := ⟨w.heap.size, _, none⟩) (Nat.le_refl _) _

set_option maxHeartbeats 1000000 in
theorem recordBehind_zero (a : Option Addr) (cap h : Nat) (note : ByteArray) (w : World) (ht : Tab w) (h0 : h = 2166136261) (hs : note.size ≤ 1048576) :
    Calls Tryd.prog 29 #[.slice a 0 cap, .string note] w fun e w' => e = .returned (rcN h 0 note).val ∧ Below w.heap.size w w' := by
  have hh : h < 4294967296 := by omega
  have hx := num_size (show 0 + 1 ≤ 1000 by omega)
  have hnum : ∀ (z : Int) (W : World), z = ((0 + 1 : Nat) : Int) → Tab W → Calls Tryd.prog 49 #[.int .i64 z] W fun e w' => e = .returned (.string (numT ((0 + 1 : Nat) : Int))) ∧ Below W.heap.size W w' := fun z W hz ht => by
    subst hz
    exact itoa_any ((0 + 1 : Nat) : Int) W (by omega) (by omega) ht
  have HR := hid (show (rcN h 0 note) = ⟨((0 + 1 : Nat) : Int), note, smL h (numT ((0 + 1 : Nat) : Int) ++ ⟨#[32]⟩ ++ note).data.toList⟩ from rfl)
  generalize numT ((0 + 1 : Nat) : Int) = x at *
  have g1 : ¬9223372036854775807 < x.size + 1 := by omega
  have g2 : ¬9223372036854775807 < x.size + 1 + note.size := by omega
  have HT := hid ht
  clear ht
  subst h0
  go_enter Tryd.func29, Tryd.ntmps29
  go_wp2_with fail
  refine (hnum _ _ (by omega) (HT.out.on ((Below.refl _ w).alloc (Nat.le_refl _) _))).mono ?_
  rintro e w1 ⟨rfl, hB1⟩
  have hB2 : Below w.heap.size w w1 := below_one ((Below.refl _ w).alloc (Nat.le_refl _) _) hB1
  have c0 := hB1.cell (p := ⟨w.heap.size, 0, none⟩) (by simp)
  have c1 := hB1.cell (p := ⟨w.heap.size, 1, none⟩) (by simp)
  have c2 := hB1.cell (p := ⟨w.heap.size, 2, none⟩) (by simp)
  have f0 := hB1.frozen (p := ⟨w.heap.size, 0, none⟩) (by simp)
  have f1 := hB1.frozen (p := ⟨w.heap.size, 1, none⟩) (by simp)
  have f2 := hB1.frozen (p := ⟨w.heap.size, 2, none⟩) (by simp)
  simp [go_sem] at c0 c1 c2 f0 f1 f2
  go_wp2_with fail
  refine (sumText_any 2166136261 _ _ hh (by simp only [ByteArray.size_append]; show x.size + 1 + note.size ≤ _; omega)).mono ?_
  rintro e w2 ⟨rfl, rfl⟩
  go_wp2_with fail
  rw [HR.out]
  refine bodyPost_ret (v := .agg #[.int .i64 1, .string note, .int .u32 (smL 2166136261 (x ++ ⟨#[32]⟩ ++ note).data.toList : Int)]) (by simp [results, Tryd.results29, go_sem, c0, c1, c2]) rfl ⟨rfl, ?_⟩
  exact ((hB2.setCell (p := ⟨w.heap.size, _, none⟩) (Nat.le_refl _) _).setCell (p := ⟨w.heap.size, _, none⟩) (Nat.le_refl _) _).setCell (p := ⟨w.heap.size, _, none⟩) (Nat.le_refl _) _

set_option maxHeartbeats 1000000 in
theorem recordBehind_succ (b off m cap h : Nat) (note : ByteArray) (w : World) (ht : Tab w) (hh : h < 4294967296) (hm : m ≤ 900) (hb : b < w.heap.size) (hs : note.size ≤ 1048576) (hq : w.cell? ⟨b, off + m * 3 + 2, none⟩ = some (.int .u32 (h : Int))) :
    Calls Tryd.prog 29 #[.slice (some ⟨b, off, none⟩) (m + 1) cap, .string note] w fun e w' => e = .returned (rcN h (m + 1) note).val ∧ Below w.heap.size w w' := by
  have hx := num_size (show m + 1 + 1 ≤ 1000 by omega)
  have hnum : ∀ (z : Int) (W : World), z = ((m + 1 + 1 : Nat) : Int) → Tab W → Calls Tryd.prog 49 #[.int .i64 z] W fun e w' => e = .returned (.string (numT ((m + 1 + 1 : Nat) : Int))) ∧ Below W.heap.size W w' := fun z W hz ht => by
    subst hz
    exact itoa_any ((m + 1 + 1 : Nat) : Int) W (by omega) (by omega) ht
  have HR := hid (show (rcN h (m + 1) note) = ⟨((m + 1 + 1 : Nat) : Int), note, smL h (numT ((m + 1 + 1 : Nat) : Int) ++ ⟨#[32]⟩ ++ note).data.toList⟩ from rfl)
  generalize numT ((m + 1 + 1 : Nat) : Int) = x at *
  have g1 : ¬9223372036854775807 < x.size + 1 := by omega
  have g2 : ¬9223372036854775807 < x.size + 1 + note.size := by omega
  have HT := hid ht
  clear ht
  go_enter Tryd.func29, Tryd.ntmps29
  go_wp2_with fail
  refine (hnum _ _ (by omega) (HT.out.on ((Below.refl _ w).alloc (Nat.le_refl _) _))).mono ?_
  rintro e w1 ⟨rfl, hB1⟩
  have hB2 : Below w.heap.size w w1 := below_one ((Below.refl _ w).alloc (Nat.le_refl _) _) hB1
  have c0 := hB1.cell (p := ⟨w.heap.size, 0, none⟩) (by simp)
  have c1 := hB1.cell (p := ⟨w.heap.size, 1, none⟩) (by simp)
  have c2 := hB1.cell (p := ⟨w.heap.size, 2, none⟩) (by simp)
  have f0 := hB1.frozen (p := ⟨w.heap.size, 0, none⟩) (by simp)
  have f1 := hB1.frozen (p := ⟨w.heap.size, 1, none⟩) (by simp)
  have f2 := hB1.frozen (p := ⟨w.heap.size, 2, none⟩) (by simp)
  simp [go_sem] at c0 c1 c2 f0 f1 f2
  go_wp2_with fail
  refine (sumText_any h _ _ hh (by simp only [ByteArray.size_append]; show x.size + 1 + note.size ≤ _; omega)).mono ?_
  rintro e w2 ⟨rfl, rfl⟩
  go_wp2_with fail
  rw [HR.out]
  refine bodyPost_ret (v := .agg #[.int .i64 ((m : Int) + 1 + 1), .string note, .int .u32 (smL h (x ++ ⟨#[32]⟩ ++ note).data.toList : Int)]) (by simp [results, Tryd.results29, go_sem, c0, c1, c2]) rfl ⟨rfl, ?_⟩
  exact ((hB2.setCell (p := ⟨w.heap.size, _, none⟩) (Nat.le_refl _) _).setCell (p := ⟨w.heap.size, _, none⟩) (Nat.le_refl _) _).setCell (p := ⟨w.heap.size, _, none⟩) (Nat.le_refl _) _

end Go.Proofs.YtepoamekeackkaaDoor
