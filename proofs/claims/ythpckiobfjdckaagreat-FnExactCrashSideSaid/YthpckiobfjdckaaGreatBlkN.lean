/-
  Blocks of a few cells that belong to one variable.
-/
import Derived.Test.YthpckiobfjdckaaGreatLstN
namespace Go.Proofs.YthpckiobfjdckaaGreat
open Go.RowKit Go.Shelf

/-- 3 cells that are a block of their own. -/
def Three (w : World) (t : TypeId) (k : Nat) (a b c : Value) : Prop := w.ownsRow k t 3 (.slice (some ⟨k, 0, none⟩) 1 1) 1 [a, b, c]
theorem Three.at (w : World) (a b c : Value) (t : TypeId) {k : Nat} (hk : k = w.heap.size) : Three (w.alloc (.cells #[a, b, c] t)) t k a b c := by
  subst hk
  exact ⟨rfl, .inr ⟨w.heap.size, 1, #[a, b, c], rfl, Nat.le_refl _, by show (w.heap.push _)[w.heap.size]? = _; rw [Array.getElem?_push_size], Nat.le_refl _, by unfold maxLen; omega, rfl, rfl⟩⟩
theorem Three.new (w : World) (a b c : Value) (t : TypeId) : Three (w.alloc (.cells #[a, b, c] t)) t w.heap.size a b c := Three.at w a b c t rfl
theorem Three.below {w' : World} {w : World} {t : TypeId} {k : Nat} {a b c : Value} (h : Three w t k a b c) (hB : Below w.heap.size w w') : Three w' t k a b c := ownsRow_below h hB
theorem Three.c {w : World} {t : TypeId} {k : Nat} {a b c : Value} (h : Three w t k a b c) : w.cell? ⟨k, 0, none⟩ = some a ∧ w.cell? ⟨k, 1, none⟩ = some b ∧ w.cell? ⟨k, 2, none⟩ = some c :=
  ⟨World.ownsRow.cellAt h 0 (by omega), World.ownsRow.cellAt h 1 (by omega), World.ownsRow.cellAt h 2 (by omega)⟩
theorem Three.f {w : World} {t : TypeId} {k : Nat} {a b c : Value} (h : Three w t k a b c) (j : Nat) : w.frozen? ⟨k, j, none⟩ = false := World.ownsRow.frozenAt h j
theorem Three.s0 {w : World} {t : TypeId} {k : Nat} {a b c : Value} (h : Three w t k a b c) (x : Value) : Three (w.setCell ⟨k, 0, none⟩ x) t k x b c := (World.ownsRow.stored h 0 x).1
theorem Three.s1 {w : World} {t : TypeId} {k : Nat} {a b c : Value} (h : Three w t k a b c) (x : Value) : Three (w.setCell ⟨k, 1, none⟩ x) t k a x c := (World.ownsRow.stored h 1 x).1
theorem Three.s2 {w : World} {t : TypeId} {k : Nat} {a b c : Value} (h : Three w t k a b c) (x : Value) : Three (w.setCell ⟨k, 2, none⟩ x) t k a b x := (World.ownsRow.stored h 2 x).1
theorem Three.other {w : World} {t : TypeId} {k : Nat} {a b c : Value} (h : Three w t k a b c) {k' : Nat} (hk : k ≠ k') (j : Nat) (x : Value) : Three (w.setCell ⟨k', j, none⟩ x) t k a b c := ownsRow_setCell_other h (by simpa [Value.ownBlock] using hk) x
theorem Three.lt {w : World} {t : TypeId} {k : Nat} {a b c : Value} (h : Three w t k a b c) : k < w.heap.size := (World.ownsRow.lt h k rfl).2
theorem Mid.three {lo hi : Nat} {w1 : World} {w : World} {t : TypeId} {k : Nat} {a b c : Value} (h : Mid lo hi w w1) (hr : Three w t k a b c) (ho : k < lo ∨ hi ≤ k) : Three w1 t k a b c :=
  h.row hr (fun j hj => by simp [Value.ownBlock] at hj; omega)
theorem row_three {w : World} {base : Nat} {e : TypeId} {size n : Nat} {v : Value} {xs : List Value} (h : w.ownsRow base e size v n xs) {k : Nat} (hk : k < base) (x0 x1 x2 : Value) : (((w.setCell ⟨k, 0, none⟩ x0).setCell ⟨k, 1, none⟩ x1).setCell ⟨k, 2, none⟩ x2).ownsRow base e size v n xs :=
  (ownsRow_setCell_below (ownsRow_setCell_below (ownsRow_setCell_below h (a := ⟨k, 0, none⟩) hk x0) (a := ⟨k, 1, none⟩) hk x1) (a := ⟨k, 2, none⟩) hk x2)
theorem below_three {n k : Nat} {w W : World} (h : Below n w W) (hk : n ≤ k) (x0 x1 x2 : Value) : Below n w (((W.setCell ⟨k, 0, none⟩ x0).setCell ⟨k, 1, none⟩ x1).setCell ⟨k, 2, none⟩ x2) :=
  (((h.setCell (p := ⟨k, 0, none⟩) hk x0).setCell (p := ⟨k, 1, none⟩) hk x1).setCell (p := ⟨k, 2, none⟩) hk x2)

/-- 5 cells that are a block of their own. -/
def Five (w : World) (t : TypeId) (k : Nat) (a b c d e : Value) : Prop := w.ownsRow k t 5 (.slice (some ⟨k, 0, none⟩) 1 1) 1 [a, b, c, d, e]
theorem Five.at (w : World) (a b c d e : Value) (t : TypeId) {k : Nat} (hk : k = w.heap.size) : Five (w.alloc (.cells #[a, b, c, d, e] t)) t k a b c d e := by
  subst hk
  exact ⟨rfl, .inr ⟨w.heap.size, 1, #[a, b, c, d, e], rfl, Nat.le_refl _, by show (w.heap.push _)[w.heap.size]? = _; rw [Array.getElem?_push_size], Nat.le_refl _, by unfold maxLen; omega, rfl, rfl⟩⟩
theorem Five.new (w : World) (a b c d e : Value) (t : TypeId) : Five (w.alloc (.cells #[a, b, c, d, e] t)) t w.heap.size a b c d e := Five.at w a b c d e t rfl
theorem Five.below {w' : World} {w : World} {t : TypeId} {k : Nat} {a b c d e : Value} (h : Five w t k a b c d e) (hB : Below w.heap.size w w') : Five w' t k a b c d e := ownsRow_below h hB
theorem Five.c {w : World} {t : TypeId} {k : Nat} {a b c d e : Value} (h : Five w t k a b c d e) : w.cell? ⟨k, 0, none⟩ = some a ∧ w.cell? ⟨k, 1, none⟩ = some b ∧ w.cell? ⟨k, 2, none⟩ = some c ∧ w.cell? ⟨k, 3, none⟩ = some d ∧ w.cell? ⟨k, 4, none⟩ = some e :=
  ⟨World.ownsRow.cellAt h 0 (by omega), World.ownsRow.cellAt h 1 (by omega), World.ownsRow.cellAt h 2 (by omega), World.ownsRow.cellAt h 3 (by omega), World.ownsRow.cellAt h 4 (by omega)⟩
theorem Five.f {w : World} {t : TypeId} {k : Nat} {a b c d e : Value} (h : Five w t k a b c d e) (j : Nat) : w.frozen? ⟨k, j, none⟩ = false := World.ownsRow.frozenAt h j
theorem Five.s0 {w : World} {t : TypeId} {k : Nat} {a b c d e : Value} (h : Five w t k a b c d e) (x : Value) : Five (w.setCell ⟨k, 0, none⟩ x) t k x b c d e := (World.ownsRow.stored h 0 x).1
theorem Five.s1 {w : World} {t : TypeId} {k : Nat} {a b c d e : Value} (h : Five w t k a b c d e) (x : Value) : Five (w.setCell ⟨k, 1, none⟩ x) t k a x c d e := (World.ownsRow.stored h 1 x).1
theorem Five.s2 {w : World} {t : TypeId} {k : Nat} {a b c d e : Value} (h : Five w t k a b c d e) (x : Value) : Five (w.setCell ⟨k, 2, none⟩ x) t k a b x d e := (World.ownsRow.stored h 2 x).1
theorem Five.s3 {w : World} {t : TypeId} {k : Nat} {a b c d e : Value} (h : Five w t k a b c d e) (x : Value) : Five (w.setCell ⟨k, 3, none⟩ x) t k a b c x e := (World.ownsRow.stored h 3 x).1
theorem Five.s4 {w : World} {t : TypeId} {k : Nat} {a b c d e : Value} (h : Five w t k a b c d e) (x : Value) : Five (w.setCell ⟨k, 4, none⟩ x) t k a b c d x := (World.ownsRow.stored h 4 x).1
theorem Five.other {w : World} {t : TypeId} {k : Nat} {a b c d e : Value} (h : Five w t k a b c d e) {k' : Nat} (hk : k ≠ k') (j : Nat) (x : Value) : Five (w.setCell ⟨k', j, none⟩ x) t k a b c d e := ownsRow_setCell_other h (by simpa [Value.ownBlock] using hk) x
theorem Five.lt {w : World} {t : TypeId} {k : Nat} {a b c d e : Value} (h : Five w t k a b c d e) : k < w.heap.size := (World.ownsRow.lt h k rfl).2
theorem Mid.five {lo hi : Nat} {w1 : World} {w : World} {t : TypeId} {k : Nat} {a b c d e : Value} (h : Mid lo hi w w1) (hr : Five w t k a b c d e) (ho : k < lo ∨ hi ≤ k) : Five w1 t k a b c d e :=
  h.row hr (fun j hj => by simp [Value.ownBlock] at hj; omega)
theorem row_five {w : World} {base : Nat} {e : TypeId} {size n : Nat} {v : Value} {xs : List Value} (h : w.ownsRow base e size v n xs) {k : Nat} (hk : k < base) (x0 x1 x2 x3 x4 : Value) : (((((w.setCell ⟨k, 0, none⟩ x0).setCell ⟨k, 1, none⟩ x1).setCell ⟨k, 2, none⟩ x2).setCell ⟨k, 3, none⟩ x3).setCell ⟨k, 4, none⟩ x4).ownsRow base e size v n xs :=
  (ownsRow_setCell_below (ownsRow_setCell_below (ownsRow_setCell_below (ownsRow_setCell_below (ownsRow_setCell_below h (a := ⟨k, 0, none⟩) hk x0) (a := ⟨k, 1, none⟩) hk x1) (a := ⟨k, 2, none⟩) hk x2) (a := ⟨k, 3, none⟩) hk x3) (a := ⟨k, 4, none⟩) hk x4)
theorem below_five {n k : Nat} {w W : World} (h : Below n w W) (hk : n ≤ k) (x0 x1 x2 x3 x4 : Value) : Below n w (((((W.setCell ⟨k, 0, none⟩ x0).setCell ⟨k, 1, none⟩ x1).setCell ⟨k, 2, none⟩ x2).setCell ⟨k, 3, none⟩ x3).setCell ⟨k, 4, none⟩ x4) :=
  (((((h.setCell (p := ⟨k, 0, none⟩) hk x0).setCell (p := ⟨k, 1, none⟩) hk x1).setCell (p := ⟨k, 2, none⟩) hk x2).setCell (p := ⟨k, 3, none⟩) hk x3).setCell (p := ⟨k, 4, none⟩) hk x4)

end Go.Proofs.YthpckiobfjdckaaGreat
