/-
  Chapter 2: the law of ReadPolicy, walked.
-/
import Derived.Deep.RegionHeld3
import Derived.Test.YtnblnhlfifhkkaeDoorReadI
import Derived.Test.YtnblnhlfifhkkaeDoorMarkH
namespace Go.Proofs.YtnblnhlfifhkkaeDoor
open Go.RowKit Go.Shelf

theorem kept_apart {w w' : World} {base : Nat} {e : TypeId} {size n : Nat} {v v2 : Value} {xs : List Value} (h : w.ownsRow base e size v n xs) (hg : w.grownBy w' v2.ownBlock) (ha : ∀ k, v.ownBlock = some k → v2.ownBlock = some k → False) : w'.ownsRow base e size v n xs := by
  cases hb : v.ownBlock with
  | none => exact h.kept hg (.inl hb)
  | some b => exact h.kept hg (.inr (fun e => ha b hb (e ▸ hb)))
theorem markRuleS_one (v : Value) (n base K : Nat) (xs : List Value) (w : World) (hn : n ≤ 1048577) (hK : K = 1 + 4 * n) (hrow : w.ownsRow base 31 4 v n xs) :
    Calls Tryd.prog 7 #[v, .int .i64 1] w fun e w' => e = .returned (.int .i64 (K : Int)) ∧ w'.ownsRow base 31 4 v n ((mkL 1 n).flatMap Ru.cells) ∧ w.grownBy w' v.ownBlock := by
  subst hK
  exact markRuleS_any v n 1 base xs w hn (Nat.le_refl _) hrow
theorem heldRuleS_one (v : Value) (n base K : Nat) (w : World) (hn : n ≤ 1048577) (hK : K = 1 + 4 * n) (hrow : w.ownsRow base 31 4 v n ((mkL 1 n).flatMap Ru.cells)) :
    Calls Tryd.prog 8 #[v, .int .i64 1] w fun e w' => e = .returned (.int .i64 (K : Int)) ∧ Below w.heap.size w w' := by
  subst hK
  exact heldRuleS_any v n 1 w hn (Nat.le_refl _) (RuS.own (by rw [mkL_len]; exact hrow))

set_option maxHeartbeats 400000 in
theorem specRead_any (s : ByteArray) (w : World) (hs : s.size ≤ 1048576) :
    Calls Tryd.prog 4 #[.string s] w fun e w' => ∃ v', e = .returned (.tuple #[v', .int .i64 (rdS s).2.1, .int .i64 (rdS s).2.2]) ∧ w'.ownsRow w.heap.size 31 4 v' (rdS s).1.length ((rdS s).1.flatMap Ru.cells) ∧ Below w.heap.size w w' := by
  go_enter Tryd.func4, Tryd.ntmps4
  go_wp2_with fail
  refine (l2Read_any s _ hs).mono ?_
  rintro e w1 ⟨v1, rfl, hrow1, hB1⟩
  go_wp2_with fail
  go_ret3
  exact ⟨_, rfl, hrow1, hB1⟩

set_option maxHeartbeats 4000000 in
set_option maxRecDepth 100000 in
theorem readWalk (s : ByteArray) (m : Int) (w : World) (w0 : s.size ≤ maxLen) (hm : w.cell? ⟨0, 0, none⟩ = some (.int .i64 m)) :
    Calls Tryd.prog 3 #[.string s] w fun e w' => e = .returned (.bool true) ∧ Below w.heap.size w w' := by
  unfold maxLen at w0
  have h0 := ml_lt hm
  by_cases hs : s.size ≤ 1048576
  · have hlx : (rdS s).1.length ≤ 1048577 := Nat.le_trans (rdS_len s) (by omega)
    have hA := specRead_any s
    have hI := readPolicy_any s m
    obtain ⟨L, n, c, hR⟩ : ∃ L n c, rdS s = (L, n, c) := ⟨_, _, _, rfl⟩
    rw [hR] at hlx hA hI
    simp only at hlx hA hI
    clear hR
    obtain ⟨M, hM⟩ : ∃ M : Nat, M = 1 + 4 * L.length := ⟨_, rfl⟩
    have dM : decide ((M : Int) < 0) = false := by simp
    go_enter Tryd.func3, Tryd.ntmps3
    go_wp2_with fail
    refine (hA _ hs).mono ?_
    rintro e w1 ⟨v1, rfl, hR1, hBB1⟩
    have hm1 := (hBB1.cell (p := ⟨0, 0, none⟩) h0).trans hm
    have hRl := hR1.lt
    obtain ⟨aR, capR, rfl⟩ := ownsRow_len hR1
    go_wp2_with fail
    refine (hI _ hs hm1).mono ?_
    rintro e w2 ⟨v2, rfl, hG2, hB2⟩
    have hR2 := ownsRow_below hR1 hB2
    have hBB2 := below_one hBB1 hB2
    have hGl := hG2.lt
    have hzz1 : w.heap.size ≤ w1.heap.size := hBB1.size
    clear hR1 hBB1 hB2 hm1
    obtain ⟨aG, capG, rfl⟩ := ownsRow_len hG2
    go_wp2_with fail
    refine (eqRuleS_any _ _ L L _ hlx hlx (RuS.own hG2) (RuS.own hR2)).mono ?_
    rintro e w3 ⟨rfl, hB3⟩
    rw [sameS_refl]
    have hR3 := ownsRow_below hR2 hB3
    have hG3 := ownsRow_below hG2 hB3
    have hBB3 := below_one hBB2 hB3
    clear hR2 hG2 hBB2 hB3
    go_wp2_with fail
    refine (markRuleS_one _ L.length _ M _ _ hlx hM hG3).mono ?_
    rintro e w4 ⟨rfl, hG4, hg4⟩
    have hR4 := kept_apart hR3 hg4 (fun k h1 h2 => by have := (hRl k h1).2; have := (hGl k h2).1; omega)
    have hBB4 : Below w.heap.size w w4 := hBB3.grown hg4 hBB3.size (fun k hk => Nat.le_trans hzz1 (hGl k hk).1)
    clear hR3 hG3 hBB3 hg4
    go_wp2_with fail
    refine (heldRuleS_one _ L.length _ M _ hlx hM hG4).mono ?_
    rintro e w5 ⟨rfl, hB5⟩
    have hR5 := ownsRow_below hR4 hB5
    have hG5 := ownsRow_below hG4 hB5
    have hBB5 := below_one hBB4 hB5
    clear hR4 hG4 hBB4 hB5
    have hm5 := (hBB5.cell (p := ⟨0, 0, none⟩) h0).trans hm
    go_wp2_with fail
    refine (hI _ hs hm5).mono ?_
    rintro e w6 ⟨v6, rfl, hH6, hB6⟩
    have hR6 := ownsRow_below hR5 hB6
    have hG6 := ownsRow_below hG5 hB6
    have hBB6 := below_one hBB5 hB6
    clear hR5 hG5 hBB5 hB6 hm5
    obtain ⟨aH, capH, rfl⟩ := ownsRow_len hH6
    go_wp2_with fail
    refine (eqRuleS_any _ _ L L _ hlx hlx (RuS.own hH6) (RuS.own hR6)).mono ?_
    rintro e w7 ⟨rfl, hB7⟩
    rw [sameS_refl]
    have hG7 := ownsRow_below hG6 hB7
    have hBB7 := below_one hBB6 hB7
    clear hR6 hG6 hBB6 hB7 hH6
    go_wp2_with fail
    refine (heldRuleS_one _ L.length _ M _ hlx hM hG7).mono ?_
    rintro e w8 ⟨rfl, hB8⟩
    have hBB8 := below_one hBB7 hB8
    go_wp2_with fail
    go_ret
    exact ⟨rfl, hBB8⟩
  · have hs' : 1048576 < s.size := by omega
    clear hs
    go_enter Tryd.func3, Tryd.ntmps3
    go_wp2
    go_ret
    exact ⟨rfl, Below.refl _ _⟩

end Go.Proofs.YtnblnhlfifhkkaeDoor
