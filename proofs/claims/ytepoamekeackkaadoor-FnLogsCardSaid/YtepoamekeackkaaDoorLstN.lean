/-
  Lists of numbers measured and marked by the laws; blocks of four cells; what has turned between two blocks.
-/
import Derived.Deep.RegionHeld3
import Derived.Test.YtepoamekeackkaaDoorGen
import Derived.Test.YtepoamekeackkaaDoorListV
namespace Go.Proofs.YtepoamekeackkaaDoor
open Go.RowKit Go.Shelf

def left1 (n : Int) (a : Nat) : Int := if (a : Int) ≤ n then n - a else -1

theorem take_set3 {α : Type} (xs : List α) (k : Nat) (a b c : α) (h : k * 3 + 3 ≤ xs.length) : (((xs.set (k * 3) a).set (k * 3 + 1) b).set (k * 3 + 2) c).take ((k + 1) * 3) = xs.take (k * 3) ++ [a, b, c] := by
  apply List.ext_getElem?
  intro i
  rw [List.getElem?_take]
  by_cases h1 : i < k * 3
  · rw [if_pos (by omega), List.getElem?_append_left (by rw [List.length_take]; omega), List.getElem?_take, if_pos h1]
    rw [List.getElem?_set_ne (by omega), List.getElem?_set_ne (by omega), List.getElem?_set_ne (by omega)]
  · by_cases h2 : i < (k + 1) * 3
    · rw [if_pos h2, List.getElem?_append_right (by rw [List.length_take]; omega)]
      have hl : (xs.take (k * 3)).length = k * 3 := by rw [List.length_take]; omega
      rw [hl]
      obtain h | h | h : i = k * 3 ∨ i = k * 3 + 1 ∨ i = k * 3 + 2 := by omega
      all_goals subst h
      · rw [List.getElem?_set_ne (by omega), List.getElem?_set_ne (by omega), List.getElem?_set_self (by omega)]
        simp
      · rw [List.getElem?_set_ne (by omega), List.getElem?_set_self (by simp; omega)]
        simp
      · rw [List.getElem?_set_self (by simp; omega)]
        simp
    · rw [if_neg h2, List.getElem?_eq_none (by rw [List.length_append, List.length_take]; simp; omega)]

/-- Four cells that are a block of their own. -/
def Four (w : World) (t : TypeId) (k : Nat) (a b c d : Value) : Prop := w.ownsRow k t 4 (.slice (some ⟨k, 0, none⟩) 1 1) 1 [a, b, c, d]
theorem Four.at (w : World) (a b c d : Value) (t : TypeId) {k : Nat} (hk : k = w.heap.size) : Four (w.alloc (.cells #[a, b, c, d] t)) t k a b c d := by
  subst hk
  exact ⟨rfl, .inr ⟨w.heap.size, 1, #[a, b, c, d], rfl, Nat.le_refl _, by show (w.heap.push _)[w.heap.size]? = _; rw [Array.getElem?_push_size], Nat.le_refl _, by unfold maxLen; omega, rfl, rfl⟩⟩
theorem Four.new (w : World) (a b c d : Value) (t : TypeId) : Four (w.alloc (.cells #[a, b, c, d] t)) t w.heap.size a b c d := Four.at w a b c d t rfl
theorem Four.below {w w' : World} {t : TypeId} {k : Nat} {a b c d : Value} (h : Four w t k a b c d) (hB : Below w.heap.size w w') : Four w' t k a b c d := ownsRow_below h hB
theorem Four.c {w : World} {t : TypeId} {k : Nat} {a b c d : Value} (h : Four w t k a b c d) : w.cell? ⟨k, 0, none⟩ = some a ∧ w.cell? ⟨k, 1, none⟩ = some b ∧ w.cell? ⟨k, 2, none⟩ = some c ∧ w.cell? ⟨k, 3, none⟩ = some d :=
  ⟨World.ownsRow.cellAt h 0 (by omega), World.ownsRow.cellAt h 1 (by omega), World.ownsRow.cellAt h 2 (by omega), World.ownsRow.cellAt h 3 (by omega)⟩
theorem Four.f {w : World} {t : TypeId} {k : Nat} {a b c d : Value} (h : Four w t k a b c d) (j : Nat) : w.frozen? ⟨k, j, none⟩ = false := World.ownsRow.frozenAt h j
theorem Four.s0 {w : World} {t : TypeId} {k : Nat} {a b c d : Value} (h : Four w t k a b c d) (x : Value) : Four (w.setCell ⟨k, 0, none⟩ x) t k x b c d := (World.ownsRow.stored h 0 x).1
theorem Four.s1 {w : World} {t : TypeId} {k : Nat} {a b c d : Value} (h : Four w t k a b c d) (x : Value) : Four (w.setCell ⟨k, 1, none⟩ x) t k a x c d := (World.ownsRow.stored h 1 x).1
theorem Four.s2 {w : World} {t : TypeId} {k : Nat} {a b c d : Value} (h : Four w t k a b c d) (x : Value) : Four (w.setCell ⟨k, 2, none⟩ x) t k a b x d := (World.ownsRow.stored h 2 x).1
theorem Four.s3 {w : World} {t : TypeId} {k : Nat} {a b c d : Value} (h : Four w t k a b c d) (x : Value) : Four (w.setCell ⟨k, 3, none⟩ x) t k a b c x := (World.ownsRow.stored h 3 x).1
theorem Four.other {w : World} {t : TypeId} {k : Nat} {a b c d : Value} (h : Four w t k a b c d) {k' : Nat} (hk : k ≠ k') (j : Nat) (x : Value) : Four (w.setCell ⟨k', j, none⟩ x) t k a b c d := ownsRow_setCell_other h (by simpa [Value.ownBlock] using hk) x
theorem Four.lt {w : World} {t : TypeId} {k : Nat} {a b c d : Value} (h : Four w t k a b c d) : k < w.heap.size := (World.ownsRow.lt h k rfl).2

theorem row_slice {w : World} {base : Nat} {e : TypeId} {size n : Nat} {v : Value} {xs : List Value} (h : w.ownsRow base e size v n xs) : ∃ a m c, v = .slice a m c := by
  rcases h.2 with ⟨h, _⟩ | ⟨g, cap, cur, hv, _⟩
  · exact ⟨_, _, _, h⟩
  · exact ⟨_, _, _, hv⟩

theorem row_four {w : World} {base : Nat} {e : TypeId} {size n : Nat} {v : Value} {xs : List Value} (h : w.ownsRow base e size v n xs) {k : Nat} (hk : k < base) (x0 x1 x2 x3 : Value) : ((((w.setCell ⟨k, 0, none⟩ x0).setCell ⟨k, 1, none⟩ x1).setCell ⟨k, 2, none⟩ x2).setCell ⟨k, 3, none⟩ x3).ownsRow base e size v n xs :=
  ownsRow_setCell_below (ownsRow_setCell_below (ownsRow_setCell_below (ownsRow_setCell_below h (a := ⟨k, 0, none⟩) hk x0) (a := ⟨k, 1, none⟩) hk x1) (a := ⟨k, 2, none⟩) hk x2) (a := ⟨k, 3, none⟩) hk x3
theorem below_four {n k : Nat} {w W : World} (h : Below n w W) (hk : n ≤ k) (x0 x1 x2 x3 : Value) : Below n w ((((W.setCell ⟨k, 0, none⟩ x0).setCell ⟨k, 1, none⟩ x1).setCell ⟨k, 2, none⟩ x2).setCell ⟨k, 3, none⟩ x3) :=
  (((h.setCell (p := ⟨k, 0, none⟩) hk x0).setCell (p := ⟨k, 1, none⟩) hk x1).setCell (p := ⟨k, 2, none⟩) hk x2).setCell (p := ⟨k, 3, none⟩) hk x3

def mkN (k n : Nat) : List Int := (List.range n).map (fun i => ((k + i : Nat) : Int))
theorem mkN_len (k n : Nat) : (mkN k n).length = n := by simp [mkN]
theorem mkN_succ (k n : Nat) : mkN k (n + 1) = mkN k n ++ [((k + n : Nat) : Int)] := by
  unfold mkN
  rw [List.range_succ, List.map_append]
  rfl
theorem mkN_at {k n i : Nat} (h : i < (mkN k n).length) : (mkN k n)[i] = ((k + i : Nat) : Int) := by simp [mkN]

/-- Only blocks from lo on, below hi, and new ones have turned. -/
structure Mid (lo hi : Nat) (w w' : World) : Prop where
  os : w'.os = w.os
  tape : w'.tape = w.tape
  output : w'.output = w.output
  size : w.heap.size ≤ w'.heap.size
  block : ∀ k, k < w.heap.size → (k < lo ∨ hi ≤ k) → w'.heap[k]? = w.heap[k]?
theorem Mid.trans {lo hi : Nat} {w w1 w2 : World} (h : Mid lo hi w w1) (h2 : Mid lo hi w1 w2) : Mid lo hi w w2 :=
  ⟨h2.os.trans h.os, h2.tape.trans h.tape, h2.output.trans h.output, Nat.le_trans h.size h2.size, fun k hk hn => (h2.block k (Nat.lt_of_lt_of_le hk h.size) hn).trans (h.block k hk hn)⟩
theorem Mid.of_below {lo hi : Nat} {w w1 : World} (h : Below w.heap.size w w1) : Mid lo hi w w1 :=
  ⟨h.os, h.tape, h.output, h.size, fun k hk _ => h.block k hk⟩
theorem Mid.of_grown {lo hi : Nat} {w w1 : World} {r : Option Nat} (h : w.grownBy w1 r) (hr : ∀ k, r = some k → lo ≤ k ∧ k < hi) : Mid lo hi w w1 :=
  ⟨h.os, h.tape, h.output, h.size, fun k hk hn => h.block k hk (fun e => by have := hr k e.symm; omega)⟩
theorem Mid.below {lo hi n : Nat} {w w1 : World} (h : Mid lo hi w w1) (hn : n ≤ lo) (hs : n ≤ w.heap.size) : Below n w w1 :=
  ⟨h.os, h.tape, h.output, h.size, fun k hk => h.block k (by omega) (.inl (by omega))⟩
theorem Mid.row {lo hi : Nat} {w w1 : World} (h : Mid lo hi w w1) {base : Nat} {e : TypeId} {size n : Nat} {v : Value} {xs : List Value} (hr : w.ownsRow base e size v n xs) (ho : ∀ k, v.ownBlock = some k → k < lo ∨ hi ≤ k) : w1.ownsRow base e size v n xs := by
  refine ⟨hr.1, ?_⟩
  rcases hr.2 with hv | ⟨g, cap, cur, rfl, hg, hb, h4⟩
  · exact .inl hv
  · exact .inr ⟨g, cap, cur, rfl, hg, (h.block g (Array.getElem?_eq_some_iff.1 hb).1 (ho g rfl)).trans hb, h4⟩

theorem Mid.four {lo hi : Nat} {w w1 : World} (h : Mid lo hi w w1) {t : TypeId} {k : Nat} {a b c d : Value} (hr : Four w t k a b c d) (ho : k < lo ∨ hi ≤ k) : Four w1 t k a b c d :=
  h.row hr (fun j hj => by simp [Value.ownBlock] at hj; omega)

theorem Mid.app {lo hi : Nat} {w w1 w2 : World} {r : Option Nat} (h : Mid lo hi w w1) (hg : w1.grownBy w2 r) (hr : ∀ k, r = some k → w.heap.size ≤ k) : Mid lo hi w w2 :=
  ⟨hg.os.trans h.os, hg.tape.trans h.tape, hg.output.trans h.output, Nat.le_trans h.size hg.size, fun k hk hn => (hg.block k (Nat.lt_of_lt_of_le hk h.size) (fun e => by have := hr k e.symm; omega)).trans (h.block k hk hn)⟩
theorem Mid.set {lo hi : Nat} {w w1 : World} (h : Mid lo hi w w1) {p : Addr} (hp : lo ≤ p.block) (hp2 : p.block < hi) (u : Value) : Mid lo hi w (w1.setCell p u) :=
  ⟨h.os, h.tape, h.output, by rw [World.size_setCell]; exact h.size, fun k hk hn => (Below.heap_setCell w1 p u k (by omega)).trans (h.block k hk hn)⟩
theorem row_kind {w : World} {B : Nat} {e : TypeId} {size : Nat} {v : Value} {n : Nat} {xs : List Value} (h : w.ownsRow B e size v n xs) : ∀ g, v.ownBlock = some g → ∃ c, w.heap[g]? = some (.cells c e (0, 0)) := by
  intro g hg
  rcases h.2 with ⟨rfl, _⟩ | ⟨g', cap, cur, rfl, _, hgg, _⟩
  · simp [Value.ownBlock] at hg
  · simp [Value.ownBlock] at hg
    subst hg
    exact ⟨cur, hgg⟩
/-- Rows of different kinds lie apart. -/
theorem row_apart {w : World} {b1 b2 : Nat} {e1 e2 : TypeId} {s1 s2 n1 n2 : Nat} {v1 v2 : Value} {x1 x2 : List Value} (h1 : w.ownsRow b1 e1 s1 v1 n1 x1) (h2 : w.ownsRow b2 e2 s2 v2 n2 x2) (hne : e1 ≠ e2) : ∀ k, v1.ownBlock = some k → v2.ownBlock = some k → False := fun k hk1 hk2 => by
  obtain ⟨c1, g1⟩ := row_kind h1 k hk1
  obtain ⟨c2, g2⟩ := row_kind h2 k hk2
  rw [g1] at g2
  injection g2 with g2
  injection g2 with _ g2 _
  exact hne g2

end Go.Proofs.YtepoamekeackkaaDoor
