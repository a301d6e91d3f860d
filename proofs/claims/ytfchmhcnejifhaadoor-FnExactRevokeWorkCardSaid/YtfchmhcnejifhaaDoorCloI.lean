/-
  Chapter 4: lists cloned by the library, and faults by their kind.
-/
import Derived.Shelf.SlicesE.Clone
import Derived.Test.YtfchmhcnejifhaaDoorShelf
import Derived.Test.YtfchmhcnejifhaaDoorErrB
import Derived.Test.YtfchmhcnejifhaaDoorMarkJ
namespace Go.Proofs.YtfchmhcnejifhaaDoor
open Go.RowKit Go.Shelf

theorem cloneW_any (v : Value) (base n : Nat) (xs : List Value) (w : World) (hn : n ≤ 1048577) (h1 : ∀ u ∈ xs, u.oneCell' = true) (h : w.ownsRow base 48 3 v n xs) :
    Calls Tryd.prog 53 #[v] w fun e w' => ∃ v', e = .returned v' ∧ w'.ownsRow w.heap.size 48 3 v' n xs ∧ Below w.heap.size w w' := by
  obtain ⟨i0, hi, hz0, hz1, hz2⟩ := info_parts infoWork
  rcases row_form h with ⟨rfl, rfl⟩ | ⟨g, cap, rfl, _, _⟩
  · refine (AnyE.slices_Clone_nil Tryd.cloneWk 0 0 w).mono ?_
    rintro e w1 ⟨rfl, rfl⟩
    have hx : xs = [] := List.eq_nil_of_length_eq_zero (by have := h.1; omega)
    subst hx
    exact ⟨_, rfl, World.ownsRow_nil _ _ _ _, Below.refl _ _⟩
  · refine (AnyE.slices_Clone Tryd.cloneWk i0 _ 3 32 hi hz0 hz1 hz2 rfl (by decide) Tryd.sizeOf48 g 0 n cap xs w h.1 (by unfold maxLen; omega) (by omega) (fun j u hu => by have := h.cells (g := g) rfl j u hu; rw [Addr.add_lit] at this; exact this) h1).mono ?_
    rintro e w1 ⟨v', rfl, hr, _, hB⟩
    exact ⟨v', rfl, hr, hB⟩

theorem cloneN_any (v : Value) (base n : Nat) (xs : List Value) (w : World) (hn : n ≤ 1048577) (h1 : ∀ u ∈ xs, u.oneCell' = true) (h : w.ownsRow base 3 1 v n xs) :
    Calls Tryd.prog 54 #[v] w fun e w' => ∃ v', e = .returned v' ∧ w'.ownsRow w.heap.size 3 1 v' n xs ∧ Below w.heap.size w w' := by
  obtain ⟨i0, hi, hz0, hz1, hz2⟩ := info_parts infoInt
  rcases row_form h with ⟨rfl, rfl⟩ | ⟨g, cap, rfl, _, _⟩
  · refine (AnyE.slices_Clone_nil Tryd.cloneIn 0 0 w).mono ?_
    rintro e w1 ⟨rfl, rfl⟩
    have hx : xs = [] := List.eq_nil_of_length_eq_zero (by have := h.1; omega)
    subst hx
    exact ⟨_, rfl, World.ownsRow_nil _ _ _ _, Below.refl _ _⟩
  · refine (AnyE.slices_Clone Tryd.cloneIn i0 _ 1 8 hi hz0 hz1 hz2 rfl (by decide) Tryd.sizeOf3 g 0 n cap xs w h.1 (by unfold maxLen; omega) (by omega) (fun j u hu => by have := h.cells (g := g) rfl j u hu; rw [Addr.add_lit] at this; exact this) h1).mono ?_
    rintro e w1 ⟨v', rfl, hr, _, hB⟩
    exact ⟨v', rfl, hr, hB⟩

theorem cloneS_any (v : Value) (base n : Nat) (xs : List Value) (w : World) (hn : n ≤ 1048577) (h1 : ∀ u ∈ xs, u.oneCell' = true) (h : w.ownsRow base 9 1 v n xs) :
    Calls Tryd.prog 55 #[v] w fun e w' => ∃ v', e = .returned v' ∧ w'.ownsRow w.heap.size 9 1 v' n xs ∧ Below w.heap.size w w' := by
  obtain ⟨i0, hi, hz0, hz1, hz2⟩ := info_parts infoString
  rcases row_form h with ⟨rfl, rfl⟩ | ⟨g, cap, rfl, _, _⟩
  · refine (AnyE.slices_Clone_nil Tryd.cloneSt 0 0 w).mono ?_
    rintro e w1 ⟨rfl, rfl⟩
    have hx : xs = [] := List.eq_nil_of_length_eq_zero (by have := h.1; omega)
    subst hx
    exact ⟨_, rfl, World.ownsRow_nil _ _ _ _, Below.refl _ _⟩
  · refine (AnyE.slices_Clone Tryd.cloneSt i0 _ 1 16 hi hz0 hz1 hz2 rfl (by decide) Tryd.sizeOf9 g 0 n cap xs w h.1 (by unfold maxLen; omega) (by omega) (fun j u hu => by have := h.cells (g := g) rfl j u hu; rw [Addr.add_lit] at this; exact this) h1).mono ?_
    rintro e w1 ⟨v', rfl, hr, _, hB⟩
    exact ⟨v', rfl, hr, hB⟩

/-- The program's four faults and the type of all faults lie where they were laid. -/
structure ErA (w : World) (p0 p1 p2 p3 : Addr) : Prop where
  g0 : w.cell? ⟨0, 0, none⟩ = some (eV p0)
  g1 : w.cell? ⟨1, 0, none⟩ = some (eV p1)
  g2 : w.cell? ⟨2, 0, none⟩ = some (eV p2)
  g3 : w.cell? ⟨3, 0, none⟩ = some (eV p3)
  gt : w.cell? ⟨4, 0, none⟩ = some (.iface 109 (typ 53))
  b0 : ∃ c t, w.heap[p0.block]? = some (.cells c t (0, 0))
  b1 : ∃ c t, w.heap[p1.block]? = some (.cells c t (0, 0))
  b2 : ∃ c t, w.heap[p2.block]? = some (.cells c t (0, 0))
  b3 : ∃ c t, w.heap[p3.block]? = some (.cells c t (0, 0))
  n01 : p0 ≠ p1
  n02 : p0 ≠ p2
  n03 : p0 ≠ p3
  n12 : p1 ≠ p2
  n13 : p1 ≠ p3
  n23 : p2 ≠ p3
theorem blk_keep {w w' : World} (hB : Below w.heap.size w w') {k : Nat} (h : ∃ c t, w.heap[k]? = some (.cells c t (0, 0))) : ∃ c t, w'.heap[k]? = some (.cells c t (0, 0)) := by
  obtain ⟨c, t, h⟩ := h
  exact ⟨c, t, (hB.block _ (Array.getElem?_eq_some_iff.1 h).1).trans h⟩
theorem ErA.below {w w' : World} {p0 p1 p2 p3 : Addr} (h : ErA w p0 p1 p2 p3) (hB : Below w.heap.size w w') : ErA w' p0 p1 p2 p3 :=
  ⟨(hB.cell (blk_lt h.g0)).trans h.g0, (hB.cell (blk_lt h.g1)).trans h.g1, (hB.cell (blk_lt h.g2)).trans h.g2, (hB.cell (blk_lt h.g3)).trans h.g3, (hB.cell (blk_lt h.gt)).trans h.gt,
   blk_keep hB h.b0, blk_keep hB h.b1, blk_keep hB h.b2, blk_keep hB h.b3, h.n01, h.n02, h.n03, h.n12, h.n13, h.n23⟩
/-- What a function of the program's tells of a fault. -/
inductive Er where
  | nil | bad | twice | noWork | full
abbrev Er.val (p0 p1 p2 p3 : Addr) : Er → Value
  | .nil => .nilIface
  | .bad => eV p0
  | .twice => rV p1
  | .full => rV p2
  | .noWork => rV p3
def Er.code : Er → Int
  | .nil => 0
  | .bad => 1
  | .twice => 2
  | .noWork => 3
  | .full => 4
/-- errors.Is at a refusal, whatever it holds. -/
theorem is_ref (a b : Addr) (w : World) (hne : a ≠ b) (ha : ∃ c t, w.heap[a.block]? = some (.cells c t (0, 0))) (hb : ∃ c t, w.heap[b.block]? = some (.cells c t (0, 0))) :
    Calls Tryd.prog 56 #[rV a, eV b] w fun e w' => e = .returned (.bool false) ∧ Below w.heap.size w w' := by
  obtain ⟨ca, ta, ha⟩ := ha
  obtain ⟨cb, tb, hb⟩ := hb
  refine (is_ref_other a b ca cb ta tb w hne ha hb).mono ?_
  rintro e w' ⟨rfl, rfl⟩
  exact ⟨rfl, (Below.refl _ w).alloc (Nat.le_refl _) _⟩
theorem is_refS (b : Addr) (w : World) :
    Calls Tryd.prog 56 #[rV b, eV b] w fun e w' => e = .returned (.bool true) ∧ Below w.heap.size w w' := by
  refine (is_ref_same b w).mono ?_
  rintro e w' ⟨rfl, rfl⟩
  exact ⟨rfl, (Below.refl _ w).alloc (Nat.le_refl _) _⟩

set_option maxHeartbeats 2000000 in
theorem codeOf_any (x : Er) (p0 p1 p2 p3 : Addr) (w : World) (hx : x ≠ .nil) (hE : ErA w p0 p1 p2 p3) :
    Calls Tryd.prog 26 #[x.val p0 p1 p2 p3] w fun e w' => e = .returned (.int .i64 x.code) ∧ Below w.heap.size w w' := by
  cases x with
  | nil => exact absurd rfl hx
  | bad =>
    have g0 := hE.g0
    go_enter Tryd.func26, Tryd.ntmps26
    go_wp2_with fail
    refine (is_same p0 _).mono ?_
    rintro e w1 ⟨rfl, rfl⟩
    go_wp2_with fail
    go_ret
    exact ⟨rfl, Below.refl _ _⟩
  | twice =>
    have g0 := hE.g0
    go_enter Tryd.func26, Tryd.ntmps26
    go_wp2_with fail
    refine (is_ref p1 p0 _ hE.n01.symm hE.b1 hE.b0).mono ?_
    rintro e w1 ⟨rfl, hB1⟩
    have E1 := hE.below hB1
    have g1 := E1.g1
    go_wp2_with fail
    refine (is_refS p1 _).mono ?_
    rintro e w2 ⟨rfl, hB2⟩
    go_wp2_with fail
    go_ret
    exact ⟨rfl, below_one hB1 hB2⟩
  | noWork =>
    have g0 := hE.g0
    go_enter Tryd.func26, Tryd.ntmps26
    go_wp2_with fail
    refine (is_ref p3 p0 _ hE.n03.symm hE.b3 hE.b0).mono ?_
    rintro e w1 ⟨rfl, hB1⟩
    have E1 := hE.below hB1
    have g1 := E1.g1
    go_wp2_with fail
    refine (is_ref p3 p1 _ E1.n13.symm E1.b3 E1.b1).mono ?_
    rintro e w2 ⟨rfl, hB2⟩
    have E2 := E1.below hB2
    have g3 := E2.g3
    go_wp2_with fail
    refine (is_refS p3 _).mono ?_
    rintro e w3 ⟨rfl, hB3⟩
    go_wp2_with fail
    go_ret
    exact ⟨rfl, below_two hB1 hB2 hB3⟩
  | full =>
    have g0 := hE.g0
    go_enter Tryd.func26, Tryd.ntmps26
    go_wp2_with fail
    refine (is_ref p2 p0 _ hE.n02.symm hE.b2 hE.b0).mono ?_
    rintro e w1 ⟨rfl, hB1⟩
    have E1 := hE.below hB1
    have g1 := E1.g1
    go_wp2_with fail
    refine (is_ref p2 p1 _ E1.n12.symm E1.b2 E1.b1).mono ?_
    rintro e w2 ⟨rfl, hB2⟩
    have E2 := E1.below hB2
    have g3 := E2.g3
    go_wp2_with fail
    refine (is_ref p2 p3 _ E2.n23 E2.b2 E2.b3).mono ?_
    rintro e w3 ⟨rfl, hB3⟩
    have E3 := E2.below hB3
    have g2 := E3.g2
    go_wp2_with fail
    refine (is_refS p2 _).mono ?_
    rintro e w4 ⟨rfl, hB4⟩
    go_wp2_with fail
    go_ret
    exact ⟨rfl, below_one (below_two hB1 hB2 hB3) hB4⟩

end Go.Proofs.YtfchmhcnejifhaaDoor
