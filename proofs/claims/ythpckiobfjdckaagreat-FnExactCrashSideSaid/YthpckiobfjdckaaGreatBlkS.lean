/-
  Blocks of six and seven cells that belong to one variable.
-/
import Derived.Test.YthpckiobfjdckaaGreatLstN
namespace Go.Proofs.YthpckiobfjdckaaGreat
open Go.RowKit Go.Shelf

/-- 6 cells that are a block of their own. -/
def Six (w : World) (t : TypeId) (k : Nat) (a b c d e f : Value) : Prop := w.ownsRow k t 6 (.slice (some ⟨k, 0, none⟩) 1 1) 1 [a, b, c, d, e, f]
theorem Six.at (w : World) (a b c d e f : Value) (t : TypeId) {k : Nat} (hk : k = w.heap.size) : Six (w.alloc (.cells #[a, b, c, d, e, f] t)) t k a b c d e f := by
  subst hk
  exact ⟨rfl, .inr ⟨w.heap.size, 1, #[a, b, c, d, e, f], rfl, Nat.le_refl _, by show (w.heap.push _)[w.heap.size]? = _; rw [Array.getElem?_push_size], Nat.le_refl _, by unfold maxLen; omega, rfl, rfl⟩⟩
theorem Six.new (w : World) (a b c d e f : Value) (t : TypeId) : Six (w.alloc (.cells #[a, b, c, d, e, f] t)) t w.heap.size a b c d e f := Six.at w a b c d e f t rfl
theorem Six.below {w' : World} {w : World} {t : TypeId} {k : Nat} {a b c d e f : Value} (h : Six w t k a b c d e f) (hB : Below w.heap.size w w') : Six w' t k a b c d e f := ownsRow_below h hB
theorem Six.c {w : World} {t : TypeId} {k : Nat} {a b c d e f : Value} (h : Six w t k a b c d e f) : w.cell? ⟨k, 0, none⟩ = some a ∧ w.cell? ⟨k, 1, none⟩ = some b ∧ w.cell? ⟨k, 2, none⟩ = some c ∧ w.cell? ⟨k, 3, none⟩ = some d ∧ w.cell? ⟨k, 4, none⟩ = some e ∧ w.cell? ⟨k, 5, none⟩ = some f :=
  ⟨World.ownsRow.cellAt h 0 (by omega), World.ownsRow.cellAt h 1 (by omega), World.ownsRow.cellAt h 2 (by omega), World.ownsRow.cellAt h 3 (by omega), World.ownsRow.cellAt h 4 (by omega), World.ownsRow.cellAt h 5 (by omega)⟩
theorem Six.f {w : World} {t : TypeId} {k : Nat} {a b c d e f : Value} (h : Six w t k a b c d e f) (j : Nat) : w.frozen? ⟨k, j, none⟩ = false := World.ownsRow.frozenAt h j
theorem Six.s0 {w : World} {t : TypeId} {k : Nat} {a b c d e f : Value} (h : Six w t k a b c d e f) (x : Value) : Six (w.setCell ⟨k, 0, none⟩ x) t k x b c d e f := (World.ownsRow.stored h 0 x).1
theorem Six.s1 {w : World} {t : TypeId} {k : Nat} {a b c d e f : Value} (h : Six w t k a b c d e f) (x : Value) : Six (w.setCell ⟨k, 1, none⟩ x) t k a x c d e f := (World.ownsRow.stored h 1 x).1
theorem Six.s2 {w : World} {t : TypeId} {k : Nat} {a b c d e f : Value} (h : Six w t k a b c d e f) (x : Value) : Six (w.setCell ⟨k, 2, none⟩ x) t k a b x d e f := (World.ownsRow.stored h 2 x).1
theorem Six.s3 {w : World} {t : TypeId} {k : Nat} {a b c d e f : Value} (h : Six w t k a b c d e f) (x : Value) : Six (w.setCell ⟨k, 3, none⟩ x) t k a b c x e f := (World.ownsRow.stored h 3 x).1
theorem Six.s4 {w : World} {t : TypeId} {k : Nat} {a b c d e f : Value} (h : Six w t k a b c d e f) (x : Value) : Six (w.setCell ⟨k, 4, none⟩ x) t k a b c d x f := (World.ownsRow.stored h 4 x).1
theorem Six.s5 {w : World} {t : TypeId} {k : Nat} {a b c d e f : Value} (h : Six w t k a b c d e f) (x : Value) : Six (w.setCell ⟨k, 5, none⟩ x) t k a b c d e x := (World.ownsRow.stored h 5 x).1
theorem Six.other {w : World} {t : TypeId} {k : Nat} {a b c d e f : Value} (h : Six w t k a b c d e f) {k' : Nat} (hk : k ≠ k') (j : Nat) (x : Value) : Six (w.setCell ⟨k', j, none⟩ x) t k a b c d e f := ownsRow_setCell_other h (by simpa [Value.ownBlock] using hk) x
theorem Six.lt {w : World} {t : TypeId} {k : Nat} {a b c d e f : Value} (h : Six w t k a b c d e f) : k < w.heap.size := (World.ownsRow.lt h k rfl).2
theorem Mid.six {lo hi : Nat} {w1 : World} {w : World} {t : TypeId} {k : Nat} {a b c d e f : Value} (h : Mid lo hi w w1) (hr : Six w t k a b c d e f) (ho : k < lo ∨ hi ≤ k) : Six w1 t k a b c d e f :=
  h.row hr (fun j hj => by simp [Value.ownBlock] at hj; omega)
theorem row_six {w : World} {base : Nat} {e : TypeId} {size n : Nat} {v : Value} {xs : List Value} (h : w.ownsRow base e size v n xs) {k : Nat} (hk : k < base) (x0 x1 x2 x3 x4 x5 : Value) : ((((((w.setCell ⟨k, 0, none⟩ x0).setCell ⟨k, 1, none⟩ x1).setCell ⟨k, 2, none⟩ x2).setCell ⟨k, 3, none⟩ x3).setCell ⟨k, 4, none⟩ x4).setCell ⟨k, 5, none⟩ x5).ownsRow base e size v n xs :=
  (ownsRow_setCell_below (ownsRow_setCell_below (ownsRow_setCell_below (ownsRow_setCell_below (ownsRow_setCell_below (ownsRow_setCell_below h (a := ⟨k, 0, none⟩) hk x0) (a := ⟨k, 1, none⟩) hk x1) (a := ⟨k, 2, none⟩) hk x2) (a := ⟨k, 3, none⟩) hk x3) (a := ⟨k, 4, none⟩) hk x4) (a := ⟨k, 5, none⟩) hk x5)
theorem below_six {n k : Nat} {w W : World} (h : Below n w W) (hk : n ≤ k) (x0 x1 x2 x3 x4 x5 : Value) : Below n w ((((((W.setCell ⟨k, 0, none⟩ x0).setCell ⟨k, 1, none⟩ x1).setCell ⟨k, 2, none⟩ x2).setCell ⟨k, 3, none⟩ x3).setCell ⟨k, 4, none⟩ x4).setCell ⟨k, 5, none⟩ x5) :=
  ((((((h.setCell (p := ⟨k, 0, none⟩) hk x0).setCell (p := ⟨k, 1, none⟩) hk x1).setCell (p := ⟨k, 2, none⟩) hk x2).setCell (p := ⟨k, 3, none⟩) hk x3).setCell (p := ⟨k, 4, none⟩) hk x4).setCell (p := ⟨k, 5, none⟩) hk x5)

/-- 7 cells that are a block of their own. -/
def Seven (w : World) (t : TypeId) (k : Nat) (a b c d e f g : Value) : Prop := w.ownsRow k t 7 (.slice (some ⟨k, 0, none⟩) 1 1) 1 [a, b, c, d, e, f, g]
theorem Seven.at (w : World) (a b c d e f g : Value) (t : TypeId) {k : Nat} (hk : k = w.heap.size) : Seven (w.alloc (.cells #[a, b, c, d, e, f, g] t)) t k a b c d e f g := by
  subst hk
  exact ⟨rfl, .inr ⟨w.heap.size, 1, #[a, b, c, d, e, f, g], rfl, Nat.le_refl _, by show (w.heap.push _)[w.heap.size]? = _; rw [Array.getElem?_push_size], Nat.le_refl _, by unfold maxLen; omega, rfl, rfl⟩⟩
theorem Seven.new (w : World) (a b c d e f g : Value) (t : TypeId) : Seven (w.alloc (.cells #[a, b, c, d, e, f, g] t)) t w.heap.size a b c d e f g := Seven.at w a b c d e f g t rfl
theorem Seven.below {w' : World} {w : World} {t : TypeId} {k : Nat} {a b c d e f g : Value} (h : Seven w t k a b c d e f g) (hB : Below w.heap.size w w') : Seven w' t k a b c d e f g := ownsRow_below h hB
theorem Seven.c {w : World} {t : TypeId} {k : Nat} {a b c d e f g : Value} (h : Seven w t k a b c d e f g) : w.cell? ⟨k, 0, none⟩ = some a ∧ w.cell? ⟨k, 1, none⟩ = some b ∧ w.cell? ⟨k, 2, none⟩ = some c ∧ w.cell? ⟨k, 3, none⟩ = some d ∧ w.cell? ⟨k, 4, none⟩ = some e ∧ w.cell? ⟨k, 5, none⟩ = some f ∧ w.cell? ⟨k, 6, none⟩ = some g :=
  ⟨World.ownsRow.cellAt h 0 (by omega), World.ownsRow.cellAt h 1 (by omega), World.ownsRow.cellAt h 2 (by omega), World.ownsRow.cellAt h 3 (by omega), World.ownsRow.cellAt h 4 (by omega), World.ownsRow.cellAt h 5 (by omega), World.ownsRow.cellAt h 6 (by omega)⟩
theorem Seven.f {w : World} {t : TypeId} {k : Nat} {a b c d e f g : Value} (h : Seven w t k a b c d e f g) (j : Nat) : w.frozen? ⟨k, j, none⟩ = false := World.ownsRow.frozenAt h j
theorem Seven.s0 {w : World} {t : TypeId} {k : Nat} {a b c d e f g : Value} (h : Seven w t k a b c d e f g) (x : Value) : Seven (w.setCell ⟨k, 0, none⟩ x) t k x b c d e f g := (World.ownsRow.stored h 0 x).1
theorem Seven.s1 {w : World} {t : TypeId} {k : Nat} {a b c d e f g : Value} (h : Seven w t k a b c d e f g) (x : Value) : Seven (w.setCell ⟨k, 1, none⟩ x) t k a x c d e f g := (World.ownsRow.stored h 1 x).1
theorem Seven.s2 {w : World} {t : TypeId} {k : Nat} {a b c d e f g : Value} (h : Seven w t k a b c d e f g) (x : Value) : Seven (w.setCell ⟨k, 2, none⟩ x) t k a b x d e f g := (World.ownsRow.stored h 2 x).1
theorem Seven.s3 {w : World} {t : TypeId} {k : Nat} {a b c d e f g : Value} (h : Seven w t k a b c d e f g) (x : Value) : Seven (w.setCell ⟨k, 3, none⟩ x) t k a b c x e f g := (World.ownsRow.stored h 3 x).1
theorem Seven.s4 {w : World} {t : TypeId} {k : Nat} {a b c d e f g : Value} (h : Seven w t k a b c d e f g) (x : Value) : Seven (w.setCell ⟨k, 4, none⟩ x) t k a b c d x f g := (World.ownsRow.stored h 4 x).1
theorem Seven.s5 {w : World} {t : TypeId} {k : Nat} {a b c d e f g : Value} (h : Seven w t k a b c d e f g) (x : Value) : Seven (w.setCell ⟨k, 5, none⟩ x) t k a b c d e x g := (World.ownsRow.stored h 5 x).1
theorem Seven.s6 {w : World} {t : TypeId} {k : Nat} {a b c d e f g : Value} (h : Seven w t k a b c d e f g) (x : Value) : Seven (w.setCell ⟨k, 6, none⟩ x) t k a b c d e f x := (World.ownsRow.stored h 6 x).1
theorem Seven.other {w : World} {t : TypeId} {k : Nat} {a b c d e f g : Value} (h : Seven w t k a b c d e f g) {k' : Nat} (hk : k ≠ k') (j : Nat) (x : Value) : Seven (w.setCell ⟨k', j, none⟩ x) t k a b c d e f g := ownsRow_setCell_other h (by simpa [Value.ownBlock] using hk) x
theorem Seven.lt {w : World} {t : TypeId} {k : Nat} {a b c d e f g : Value} (h : Seven w t k a b c d e f g) : k < w.heap.size := (World.ownsRow.lt h k rfl).2
theorem Mid.seven {lo hi : Nat} {w1 : World} {w : World} {t : TypeId} {k : Nat} {a b c d e f g : Value} (h : Mid lo hi w w1) (hr : Seven w t k a b c d e f g) (ho : k < lo ∨ hi ≤ k) : Seven w1 t k a b c d e f g :=
  h.row hr (fun j hj => by simp [Value.ownBlock] at hj; omega)
theorem row_seven {w : World} {base : Nat} {e : TypeId} {size n : Nat} {v : Value} {xs : List Value} (h : w.ownsRow base e size v n xs) {k : Nat} (hk : k < base) (x0 x1 x2 x3 x4 x5 x6 : Value) : (((((((w.setCell ⟨k, 0, none⟩ x0).setCell ⟨k, 1, none⟩ x1).setCell ⟨k, 2, none⟩ x2).setCell ⟨k, 3, none⟩ x3).setCell ⟨k, 4, none⟩ x4).setCell ⟨k, 5, none⟩ x5).setCell ⟨k, 6, none⟩ x6).ownsRow base e size v n xs :=
  (ownsRow_setCell_below (ownsRow_setCell_below (ownsRow_setCell_below (ownsRow_setCell_below (ownsRow_setCell_below (ownsRow_setCell_below (ownsRow_setCell_below h (a := ⟨k, 0, none⟩) hk x0) (a := ⟨k, 1, none⟩) hk x1) (a := ⟨k, 2, none⟩) hk x2) (a := ⟨k, 3, none⟩) hk x3) (a := ⟨k, 4, none⟩) hk x4) (a := ⟨k, 5, none⟩) hk x5) (a := ⟨k, 6, none⟩) hk x6)
theorem below_seven {n k : Nat} {w W : World} (h : Below n w W) (hk : n ≤ k) (x0 x1 x2 x3 x4 x5 x6 : Value) : Below n w (((((((W.setCell ⟨k, 0, none⟩ x0).setCell ⟨k, 1, none⟩ x1).setCell ⟨k, 2, none⟩ x2).setCell ⟨k, 3, none⟩ x3).setCell ⟨k, 4, none⟩ x4).setCell ⟨k, 5, none⟩ x5).setCell ⟨k, 6, none⟩ x6) :=
  (((((((h.setCell (p := ⟨k, 0, none⟩) hk x0).setCell (p := ⟨k, 1, none⟩) hk x1).setCell (p := ⟨k, 2, none⟩) hk x2).setCell (p := ⟨k, 3, none⟩) hk x3).setCell (p := ⟨k, 4, none⟩) hk x4).setCell (p := ⟨k, 5, none⟩) hk x5).setCell (p := ⟨k, 6, none⟩) hk x6)

end Go.Proofs.YthpckiobfjdckaaGreat
