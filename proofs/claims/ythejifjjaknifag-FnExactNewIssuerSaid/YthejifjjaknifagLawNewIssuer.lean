/-
  Proved: NewIssuer answers as the specification; its answer owns its memory.
-/
import Derived.Test.YthejifjjaknifagRows
import Derived.Test.YthejifjjaknifagIssI
import Derived.Test.YthejifjjaknifagMarkJ
import Derived.WalkKit
import Derived.ProofKit
import Derived.OpenShut
import Derived.ShutString
import Derived.ChangeOld
import Derived.Below
import Derived.Lib.SmallJoins
import Derived.Deep.Slices
namespace Go.Proofs.Ythejifjjaknifag.fnExactNewIssuer
open Go.ChangeShapes Go.WideShapes Go.ChangeAt Go.RowKit Go.Joins Go.Deep Go.Proofs.Ythejifjjaknifag
open Go.ChangeMaps (open_string shut_string)

theorem own : ownKnob Try.prog.godebug = none := by kernel_rfl
theorem laidOut : laidOutB Try.prog = true := by kernel_rfl

def new : Is := ⟨[], 1, [], []⟩
theorem new_o (w : World) (base top : Nat) : IsO w base top (.agg #[.slice none 0 0, .int .i64 1, .slice none 0 0, .slice none 0 0]) new :=
  ⟨_, _, _, rfl, World.ownsRow_nil _ _ _ _, World.ownsRow_nil _ _ _ _, World.ownsRow_nil _ _ _ _, fun _ h => by simp [Value.ownBlock] at h, fun _ h => by simp [Value.ownBlock] at h, fun _ h => by simp [Value.ownBlock] at h⟩
theorem new_short : new.short := ⟨by decide, by decide, by decide⟩
theorem mk_new (k : Nat) : mkIs k new = new := by
  unfold mkIs new mkWs mkN mkS
  simp

theorem implNew (w : World) :
    Calls Try.prog 16 #[] w fun e w' => e = .returned (.agg #[.slice none 0 0, .int .i64 1, .slice none 0 0, .slice none 0 0]) ∧ Below w.heap.size w w' := by
  go_enter Try.func16, Try.ntmps16
  go_wp2
  exact bodyPost_ret (v := .agg #[.slice none 0 0, .int .i64 1, .slice none 0 0, .slice none 0 0]) (by simp [results, Try.results16, go_sem]) rfl ⟨rfl, (Below.refl _ w).alloc (Nat.le_refl _) _⟩

theorem specNew (w : World) :
    Calls Try.prog 15 #[] w fun e w' => e = .returned (.agg #[.slice none 0 0, .int .i64 1, .slice none 0 0, .slice none 0 0]) ∧ Below w.heap.size w w' := by
  go_enter Try.func15, Try.ntmps15
  go_wp2
  exact bodyPost_ret (v := .agg #[.slice none 0 0, .int .i64 1, .slice none 0 0, .slice none 0 0]) (by simp [results, Try.results15, go_sem]) rfl ⟨rfl, (Below.refl _ w).alloc (Nat.le_refl _) _⟩

set_option maxHeartbeats 4000000 in
theorem walk (w : World)  :
    Calls Try.prog 4 #[] w fun e w' => e = .returned (.bool true) ∧ Below w.heap.size w w' := by
  have hnew : ((1 + new.many : Nat) : Int) = 1 := by decide
  go_enter Try.func4, Try.ntmps4
  go_wp2_with fail
  refine (specNew _).mono ?_
  rintro e w1 ⟨rfl, hB1⟩
  have hBa : Below w1.heap.size w1 (w1.alloc (.cells #[.slice none 0 0, .int .i64 1, .slice none 0 0, .slice none 0 0] 37)) := (Below.refl _ w1).alloc (Nat.le_refl _) _
  have FA := Four.new w1 (.slice none 0 0) (.int .i64 1) (.slice none 0 0) (.slice none 0 0) 37
  have hBB := below_one hB1 hBa
  clear hBa hB1
  go_wp2_with fail
  generalize w1.alloc (.cells #[.slice none 0 0, .int .i64 1, .slice none 0 0, .slice none 0 0] 37) = W1 at *
  generalize w1.heap.size = ba at *
  refine (implNew _).mono ?_
  rintro e w2 ⟨rfl, hB2⟩
  have hBa : Below w2.heap.size w2 (w2.alloc (.cells #[.slice none 0 0, .int .i64 1, .slice none 0 0, .slice none 0 0] 37)) := (Below.refl _ w2).alloc (Nat.le_refl _) _
  have FG := Four.new w2 (.slice none 0 0) (.int .i64 1) (.slice none 0 0) (.slice none 0 0) 37
  replace FA := (FA.below hB2).below hBa
  replace hBB := below_two hBB hB2 hBa
  clear hB2 hBa
  obtain ⟨a0, a1, a2, a3⟩ := FA.c
  go_wp2_with fail
  generalize w2.alloc (.cells #[.slice none 0 0, .int .i64 1, .slice none 0 0, .slice none 0 0] 37) = W2 at *
  generalize w2.heap.size = bg at *
  refine (eqIssuer_same _ _ new _ new_short (new_o _ 0 0).a (new_o _ 0 0).a).mono ?_
  rintro e w3 ⟨rfl, hB3⟩
  replace FA := FA.below hB3
  replace FG := FG.below hB3
  replace hBB := below_one hBB hB3
  clear hB3 a0 a1 a2 a3
  obtain ⟨b0, b1, b2, b3⟩ := FG.c
  go_wp2_with fail
  refine (markIssuer_any _ new 1 0 0 _ new_short (by decide) (Nat.zero_le _) (new_o _ 0 0)).mono ?_
  rintro e w4 ⟨rfl, _, M4⟩
  rw [hnew]
  have hB4 : Below w3.heap.size w3 w4 := ⟨M4.os, M4.tape, M4.output, M4.size, fun k hk => M4.block k hk (.inr (Nat.zero_le _))⟩
  replace FA := FA.below hB4
  replace FG := FG.below hB4
  replace hBB := below_one hBB hB4
  clear hB4 b0 b1 b2 b3 M4
  obtain ⟨b0, b1, b2, b3⟩ := FG.c
  go_wp2_with fail
  refine (heldIssuer_any _ new 1 _ new_short (by decide) (by rw [mk_new]; exact (new_o _ 0 0).a)).mono ?_
  rintro e w5 ⟨rfl, hB5⟩
  rw [hnew]
  replace FA := FA.below hB5
  replace FG := FG.below hB5
  replace hBB := below_one hBB hB5
  clear hB5 b0 b1 b2 b3
  go_wp2_with fail
  refine (implNew _).mono ?_
  rintro e w6 ⟨rfl, hB6⟩
  have hBa : Below w6.heap.size w6 (w6.alloc (.cells #[.slice none 0 0, .int .i64 1, .slice none 0 0, .slice none 0 0] 37)) := (Below.refl _ w6).alloc (Nat.le_refl _) _
  have FH := Four.new w6 (.slice none 0 0) (.int .i64 1) (.slice none 0 0) (.slice none 0 0) 37
  replace FA := (FA.below hB6).below hBa
  replace FG := (FG.below hB6).below hBa
  replace hBB := below_two hBB hB6 hBa
  clear hB6 hBa
  obtain ⟨a0, a1, a2, a3⟩ := FA.c
  go_wp2_with fail
  generalize w6.alloc (.cells #[.slice none 0 0, .int .i64 1, .slice none 0 0, .slice none 0 0] 37) = W6 at *
  generalize w6.heap.size = bh at *
  refine (eqIssuer_same _ _ new _ new_short (new_o _ 0 0).a (new_o _ 0 0).a).mono ?_
  rintro e w7 ⟨rfl, hB7⟩
  replace FG := FG.below hB7
  replace hBB := below_one hBB hB7
  clear hB7 a0 a1 a2 a3
  obtain ⟨b0, b1, b2, b3⟩ := FG.c
  go_wp2_with fail
  refine (heldIssuer_any _ new 1 _ new_short (by decide) (by rw [mk_new]; exact (new_o _ 0 0).a)).mono ?_
  rintro e w8 ⟨rfl, hB8⟩
  rw [hnew]
  replace hBB := below_one hBB hB8
  clear hB8 b0 b1 b2 b3
  go_wp2_with fail
  go_ret
  exact ⟨rfl, hBB⟩

set_option maxRecDepth 100000 in
theorem lifted (os : Os) (started : os.Started) (H : Type) (enc : TypeId × Value → H) :
    ReturnsInHanded {} Try.checked os 4 .any (Rows.fnExactNewIssuerSpec.pre6 enc Try.prog Try.f4 Rows.fnExactNewIssuerRow.domain false) (Rows.fnExactNewIssuerSpec.post enc Try.prog Try.f4 false true false false) := by
  refine returnsInHanded_of_change (C := Try.checked) own started (by kernel_rfl) Try.func4
    (ChangeSpec.witness6 (enc := enc) (C := Try.checked) false ⟨#[], #[], []⟩ 8 (by kernel_rfl) (by kernel_rfl) (by kernel_rfl) (by kernel_rfl)) ?_
  intro W base args ds gs before hval0 hW hcnd _
  have hval : ∀ (j : Nat) t v, Try.f4.params[j]? = some t → args[j]? = some v → Value.okWide Try.prog W .any base t v := hval0
  have hW' := hW
  obtain ⟨p, q, hA0, hV, rfl, _, _⟩ := hW
  have hA : DataW.TrodAll enc Try.prog W 0 (fun _ => true) true Try.f4.params.toList args.toList ds p := hA0
  rw [Try.params4] at hA hval
  obtain ⟨hargs, rfl, rfl⟩ := trodAll_nil hA
  obtain rfl : args = #[] := by cases args; simp_all
  obtain ⟨rfl, rfl⟩ := trodVars_none hV
  clear hA0 hval0
  refine (walk  W ).mono fun e W' ⟨he, bel⟩ => ?_
  subst he
  exact ⟨_, rfl, _, _, _, [], _, [], hW', trodAll_mk1 (shut_bool Try.underlying4 _), trodAll_mk0, rfl, bel.frame _, fun h => by cases h⟩

theorem over : Rows.fnExactNewIssuerRow.holds Try.pinned (OpenSpec.ofChange Rows.fnExactNewIssuerSpec) :=
  OpenClaim.holds_of_wide 4 Try.f4 rfl rfl rfl rfl rfl rfl rfl ⟨rfl, rfl, rfl, rfl, rfl⟩ rfl rfl rfl rfl rfl (by kernel_rfl) Try.func4 (by kernel_rfl)
    (of_decide_eq_true (by kernel_rfl)) (by unfold Func.isWrapper; first | (rw [if_pos (by decide +kernel)]; kernel_rfl) | (rw [if_neg (by decide +kernel)]; exact ⟨rfl, rfl⟩))
    (fun os started H enc _ => lifted os started H enc)

end Go.Proofs.Ythejifjjaknifag.fnExactNewIssuer
namespace Go.Proofs.Ythejifjjaknifag
theorem fnExactNewIssuer_holds : Rows.FnExactNewIssuerSaid := fnExactNewIssuer.over
#print axioms fnExactNewIssuer_holds
end Go.Proofs.Ythejifjjaknifag
