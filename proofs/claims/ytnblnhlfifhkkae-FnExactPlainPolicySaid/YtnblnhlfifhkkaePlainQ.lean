/-
  Chapter 2: PlainPolicy by the specification, whole; marks from the number 1 on.
-/
import Derived.Test.YtnblnhlfifhkkaePlainP
import Derived.Test.YtnblnhlfifhkkaeMarkH
namespace Go.Proofs.Ytnblnhlfifhkkae
open Go.RowKit Go.Shelf

set_option maxHeartbeats 1000000 in
theorem specPlainPolicy_any (v : Value) (rs : List Ru) (w : World) (hm : rs.length ≤ 1048577) (hf : ∀ r ∈ rs, r.size ≤ 1048576) (hr : RuS w v rs) :
    Calls Try.prog 13 #[v] w fun e w' => ∃ v', e = .returned (.tuple #[v', .bool (polB rs)]) ∧ w'.ownsRow w.heap.size 52 4 v' (plX rs).length ((plX rs).flatMap Ru.cells) ∧ Below w.heap.size w w' := by
  obtain ⟨a, cap, rfl⟩ := hr.len
  cases hp : polB rs
  · have HX := hid (plX_no hp)
    go_enter Try.func13, Try.ntmps13
    go_wp2_with fail
    refine (l2Good_any _ rs _ hm hf hr).mono ?_
    rintro e w1 ⟨rfl, hB1⟩
    rw [hp]
    go_wp2_with fail
    go_ret2
    exact ⟨_, rfl, by rw [HX.out]; exact World.ownsRow_nil _ _ _ _, hB1⟩
  · have HX := hid (plX_yes hp)
    have h30 := (pol_all hp).2
    go_enter Try.func13, Try.ntmps13
    go_wp2_with fail
    refine (l2Good_any _ rs _ hm hf hr).mono ?_
    rintro e w1 ⟨rfl, hB1⟩
    rw [hp]
    have hr1 := hr.below hB1
    go_wp2_with fail
    refine (l2Plain_any _ rs _ h30 hf hr1).mono ?_
    rintro e w2 ⟨v2, rfl, hrow2, hB2⟩
    obtain ⟨a2, cap2, rfl⟩ := ownsRow_len hrow2
    go_wp2_with fail
    go_ret2
    exact ⟨_, rfl, by rw [HX.out]; exact Go.Joins.ownsRow_le hrow2 hB1.size, below_one hB1 hB2⟩

theorem kept_apart {w w' : World} {base : Nat} {e : TypeId} {size n : Nat} {v v2 : Value} {xs : List Value} (h : w.ownsRow base e size v n xs) (hg : w.grownBy w' v2.ownBlock) (ha : ∀ k, v.ownBlock = some k → v2.ownBlock = some k → False) : w'.ownsRow base e size v n xs := by
  cases hb : v.ownBlock with
  | none => exact h.kept hg (.inl hb)
  | some b => exact h.kept hg (.inr (fun e => ha b hb (e ▸ hb)))
theorem markRuleS_one (v : Value) (n base K : Nat) (xs : List Value) (w : World) (hn : n ≤ 1048577) (hK : K = 1 + 4 * n) (hrow : w.ownsRow base 52 4 v n xs) :
    Calls Try.prog 15 #[v, .int .i64 1] w fun e w' => e = .returned (.int .i64 (K : Int)) ∧ w'.ownsRow base 52 4 v n ((mkL 1 n).flatMap Ru.cells) ∧ w.grownBy w' v.ownBlock := by
  subst hK
  exact markRuleS_any v n 1 base xs w hn (Nat.le_refl _) hrow
theorem heldRuleS_one (v : Value) (n base K : Nat) (w : World) (hn : n ≤ 1048577) (hK : K = 1 + 4 * n) (hrow : w.ownsRow base 52 4 v n ((mkL 1 n).flatMap Ru.cells)) :
    Calls Try.prog 16 #[v, .int .i64 1] w fun e w' => e = .returned (.int .i64 (K : Int)) ∧ Below w.heap.size w w' := by
  subst hK
  exact heldRuleS_any v n 1 w hn (Nat.le_refl _) (RuS.own (by rw [mkL_len]; exact hrow))

end Go.Proofs.Ytnblnhlfifhkkae
