/-
  Pairs of texts that the wide laws draw from their bytes: they are short, and nothing old has turned.
-/
import Derived.Test.YtnblnhlfifhkkaaCurQ
namespace Go.Proofs.Ytnblnhlfifhkkaa
open Go.RowKit Go.Shelf

set_option maxHeartbeats 1000000 in
theorem drawCP_any (a : Option Addr) (n c : Nat) (w : World) (hle : n ≤ c) (hB : ByS w a n) (hap : ∀ p, a = some p → p.block < w.heap.size) :
    Calls Try.prog 4 #[.slice a n c] w fun e w' => ∃ x y : ByteArray, x.size ≤ 100 ∧ y.size ≤ 100 ∧ e = .returned (.tuple #[.string x, .string y]) ∧ Below w.heap.size w w' := by
  have hBl : Below w.heap.size w (w.alloc (.cells #[.slice a n c, .int .i64 0, .int .u64 0] 32)) := (Below.refl _ w).alloc (Nat.le_refl _) _
  have hC0 : CurB (w.alloc (.cells #[.slice a n c, .int .i64 0, .int .u64 0] 32)) w.heap.size a n c 0 := ⟨hle, by simp, by simp, ⟨0, by simp⟩, by simp, by simp, hap⟩
  have hB0 := hB.below hBl
  go_enter Try.func4, Try.ntmps4
  go_wp2_with fail
  refine (drawPP_any w.heap.size a n c 0 _ hB0 hC0 (by omega)).mono ?_
  rintro e w1 ⟨x, hx, rfl, hB1, ⟨k1, hk1, hC1⟩, hg1⟩
  go_wp2_with fail
  refine (drawPP_any w.heap.size a n c k1 _ hB1 hC1 (by omega)).mono ?_
  rintro e w2 ⟨y, hy, rfl, hB2, ⟨k2, hk2, hC2⟩, hg2⟩
  have hBB : Below w.heap.size w w2 := (hBl.grown hg1 hBl.size (fun k hk => by cases hk; exact Nat.le_refl _)).grown hg2 (Nat.le_trans hBl.size hg1.size) (fun k hk => by cases hk; exact Nat.le_refl _)
  go_wp2_with fail
  exact bodyPost_ret (v := .tuple #[.string x, .string y]) (by simp [results, Try.results4, go_sem, *]) rfl ⟨x, y, hx, hy, rfl, hBB⟩

set_option maxHeartbeats 1000000 in
theorem drawMP_any (a : Option Addr) (n c : Nat) (w : World) (hle : n ≤ c) (hB : ByS w a n) (hap : ∀ p, a = some p → p.block < w.heap.size) :
    Calls Try.prog 9 #[.slice a n c] w fun e w' => ∃ x y : ByteArray, x.size ≤ 100 ∧ y.size ≤ 100 ∧ e = .returned (.tuple #[.string x, .string y]) ∧ Below w.heap.size w w' := by
  have hBl : Below w.heap.size w (w.alloc (.cells #[.slice a n c, .int .i64 0, .int .u64 0] 32)) := (Below.refl _ w).alloc (Nat.le_refl _) _
  have hC0 : CurB (w.alloc (.cells #[.slice a n c, .int .i64 0, .int .u64 0] 32)) w.heap.size a n c 0 := ⟨hle, by simp, by simp, ⟨0, by simp⟩, by simp, by simp, hap⟩
  have hB0 := hB.below hBl
  go_enter Try.func9, Try.ntmps9
  go_wp2_with fail
  refine (drawPP_any w.heap.size a n c 0 _ hB0 hC0 (by omega)).mono ?_
  rintro e w1 ⟨x, hx, rfl, hB1, ⟨k1, hk1, hC1⟩, hg1⟩
  go_wp2_with fail
  refine (drawP_any w.heap.size a n c k1 _ hB1 hC1 (by omega)).mono ?_
  rintro e w2 ⟨y, hy, rfl, hB2, ⟨k2, hk2, hC2⟩, hg2⟩
  have hBB : Below w.heap.size w w2 := (hBl.grown hg1 hBl.size (fun k hk => by cases hk; exact Nat.le_refl _)).grown hg2 (Nat.le_trans hBl.size hg1.size) (fun k hk => by cases hk; exact Nat.le_refl _)
  go_wp2_with fail
  exact bodyPost_ret (v := .tuple #[.string x, .string y]) (by simp [results, Try.results9, go_sem, *]) rfl ⟨x, y, hx, hy, rfl, hBB⟩

set_option maxHeartbeats 1000000 in
theorem drawCN_any (a : Option Addr) (n c : Nat) (w : World) (hle : n ≤ c) (hB : ByS w a n) (hap : ∀ p, a = some p → p.block < w.heap.size) :
    Calls Try.prog 12 #[.slice a n c] w fun e w' => ∃ x y : ByteArray, x.size ≤ 100 ∧ y.size ≤ 100 ∧ e = .returned (.tuple #[.string x, .string y]) ∧ Below w.heap.size w w' := by
  have hBl : Below w.heap.size w (w.alloc (.cells #[.slice a n c, .int .i64 0, .int .u64 0] 32)) := (Below.refl _ w).alloc (Nat.le_refl _) _
  have hC0 : CurB (w.alloc (.cells #[.slice a n c, .int .i64 0, .int .u64 0] 32)) w.heap.size a n c 0 := ⟨hle, by simp, by simp, ⟨0, by simp⟩, by simp, by simp, hap⟩
  have hB0 := hB.below hBl
  go_enter Try.func12, Try.ntmps12
  go_wp2_with fail
  refine (drawNP_any w.heap.size a n c 0 _ hB0 hC0 (by omega)).mono ?_
  rintro e w1 ⟨x, hx, rfl, hB1, ⟨k1, hk1, hC1⟩, hg1⟩
  go_wp2_with fail
  refine (drawNP_any w.heap.size a n c k1 _ hB1 hC1 (by omega)).mono ?_
  rintro e w2 ⟨y, hy, rfl, hB2, ⟨k2, hk2, hC2⟩, hg2⟩
  have hBB : Below w.heap.size w w2 := (hBl.grown hg1 hBl.size (fun k hk => by cases hk; exact Nat.le_refl _)).grown hg2 (Nat.le_trans hBl.size hg1.size) (fun k hk => by cases hk; exact Nat.le_refl _)
  go_wp2_with fail
  exact bodyPost_ret (v := .tuple #[.string x, .string y]) (by simp [results, Try.results12, go_sem, *]) rfl ⟨x, y, hx, hy, rfl, hBB⟩

set_option maxHeartbeats 1000000 in
theorem drawMN_any (a : Option Addr) (n c : Nat) (w : World) (hle : n ≤ c) (hB : ByS w a n) (hap : ∀ p, a = some p → p.block < w.heap.size) :
    Calls Try.prog 15 #[.slice a n c] w fun e w' => ∃ x y : ByteArray, x.size ≤ 100 ∧ y.size ≤ 100 ∧ e = .returned (.tuple #[.string x, .string y]) ∧ Below w.heap.size w w' := by
  have hBl : Below w.heap.size w (w.alloc (.cells #[.slice a n c, .int .i64 0, .int .u64 0] 32)) := (Below.refl _ w).alloc (Nat.le_refl _) _
  have hC0 : CurB (w.alloc (.cells #[.slice a n c, .int .i64 0, .int .u64 0] 32)) w.heap.size a n c 0 := ⟨hle, by simp, by simp, ⟨0, by simp⟩, by simp, by simp, hap⟩
  have hB0 := hB.below hBl
  go_enter Try.func15, Try.ntmps15
  go_wp2_with fail
  refine (drawNP_any w.heap.size a n c 0 _ hB0 hC0 (by omega)).mono ?_
  rintro e w1 ⟨x, hx, rfl, hB1, ⟨k1, hk1, hC1⟩, hg1⟩
  go_wp2_with fail
  refine (drawN_any w.heap.size a n c k1 _ hB1 hC1 (by omega)).mono ?_
  rintro e w2 ⟨y, hy, rfl, hB2, ⟨k2, hk2, hC2⟩, hg2⟩
  have hBB : Below w.heap.size w w2 := (hBl.grown hg1 hBl.size (fun k hk => by cases hk; exact Nat.le_refl _)).grown hg2 (Nat.le_trans hBl.size hg1.size) (fun k hk => by cases hk; exact Nat.le_refl _)
  go_wp2_with fail
  exact bodyPost_ret (v := .tuple #[.string x, .string y]) (by simp [results, Try.results15, go_sem, *]) rfl ⟨x, y, hx, hy, rfl, hBB⟩

end Go.Proofs.Ytnblnhlfifhkkaa
