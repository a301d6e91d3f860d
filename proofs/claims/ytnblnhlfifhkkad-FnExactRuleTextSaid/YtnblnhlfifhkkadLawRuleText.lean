/-
  Proved: at every argument RuleText answers as the specification, and changes nothing.
-/
import Derived.Test.YtnblnhlfifhkkadRows
import Derived.Test.YtnblnhlfifhkkadRuleT
import Derived.Test.YtnblnhlfifhkkadOpenRu
import Derived.Test.YtnblnhlfifhkkadImplT
import Derived.WalkKit
import Derived.ProofKit
import Derived.OpenShut
import Derived.ShutString
import Derived.ChangeOld
import Derived.Below
import Derived.Lib.SmallJoins
import Derived.Deep.Slices
namespace Go.Proofs.Ytnblnhlfifhkkad.fnExactRuleText
open Go.ChangeShapes Go.WideShapes Go.ChangeAt Go.RowKit Go.Joins Go.Deep Go.Proofs.Ytnblnhlfifhkkad
open Go.ChangeMaps (open_string shut_string)

theorem own : ownKnob Try.prog.godebug = none := by kernel_rfl
theorem laidOut : laidOutB Try.prog = true := by kernel_rfl

set_option maxHeartbeats 1000000 in
theorem walk (r : Ru) (w : World) (w0 : r.fits) :
    Calls Try.prog 8 #[r.val] w fun e w' => e = .returned (.bool true) ∧ Below w.heap.size w w' := by
  obtain ⟨f1, f2, f3⟩ := w0
  have hBa : Below w.heap.size w (w.alloc (.cells #[.bool r.deny, .string r.who, .string r.method, .string r.path] 26)) := (Below.refl _ w).alloc (Nat.le_refl _) _
  have b0 : (w.alloc (.cells #[.bool r.deny, .string r.who, .string r.method, .string r.path] 26)).cell? ⟨w.heap.size, 0, none⟩ = some (.bool r.deny) := by simp
  have b1 : (w.alloc (.cells #[.bool r.deny, .string r.who, .string r.method, .string r.path] 26)).cell? ⟨w.heap.size, 1, none⟩ = some (.string r.who) := by simp
  have b2 : (w.alloc (.cells #[.bool r.deny, .string r.who, .string r.method, .string r.path] 26)).cell? ⟨w.heap.size, 2, none⟩ = some (.string r.method) := by simp
  have b3 : (w.alloc (.cells #[.bool r.deny, .string r.who, .string r.method, .string r.path] 26)).cell? ⟨w.heap.size, 3, none⟩ = some (.string r.path) := by simp
  by_cases hC : r.size ≤ 1048576
  · have HU := hid (show left3 1048576 r.who.size r.method.size r.path.size = 1048576 - r.size by
      unfold Ru.size at *
      unfold left3
      rw [if_pos (by omega)]
      omega)
    have d1 : decide ((1048576 : Int) - r.size < 0) = false := by simp; omega
    go_enter Try.func8, Try.ntmps8
    go_wp2_with fail
    refine (szRule_any r _ _ (by omega) (by omega) f1 f2 f3).mono ?_
    rintro e w1 ⟨rfl, hB1⟩
    rw [HU.out]
    have hz1 : w.heap.size < w1.heap.size := by have := hB1.size; simp at this; omega
    have q10 := (hB1.cell (p := ⟨w.heap.size, 0, none⟩) (by simp)).trans b0
    have q11 := (hB1.cell (p := ⟨w.heap.size, 1, none⟩) (by simp)).trans b1
    have q12 := (hB1.cell (p := ⟨w.heap.size, 2, none⟩) (by simp)).trans b2
    have q13 := (hB1.cell (p := ⟨w.heap.size, 3, none⟩) (by simp)).trans b3
    have hBB1 := below_one hBa hB1
    clear hB1 hBa b0 b1 b2 b3
    go_wp2_with fail
    refine (toRule_any r _).mono ?_
    rintro e w2 ⟨rfl, hB2⟩
    have hz2 : w.heap.size < w2.heap.size := Nat.lt_of_lt_of_le hz1 hB2.size
    have q20 := (hB2.cell (p := ⟨w.heap.size, 0, none⟩) hz1).trans q10
    have q21 := (hB2.cell (p := ⟨w.heap.size, 1, none⟩) hz1).trans q11
    have q22 := (hB2.cell (p := ⟨w.heap.size, 2, none⟩) hz1).trans q12
    have q23 := (hB2.cell (p := ⟨w.heap.size, 3, none⟩) hz1).trans q13
    have hBB2 := below_one hBB1 hB2
    clear hB2 hBB1 q10 q11 q12 q13
    go_wp2_with fail
    refine (specRuleText_any r _ hC).mono ?_
    rintro e w3 ⟨rfl, hB3⟩
    have hz3 : w.heap.size < w3.heap.size := Nat.lt_of_lt_of_le hz2 hB3.size
    have q30 := (hB3.cell (p := ⟨w.heap.size, 0, none⟩) hz2).trans q20
    have q31 := (hB3.cell (p := ⟨w.heap.size, 1, none⟩) hz2).trans q21
    have q32 := (hB3.cell (p := ⟨w.heap.size, 2, none⟩) hz2).trans q22
    have q33 := (hB3.cell (p := ⟨w.heap.size, 3, none⟩) hz2).trans q23
    have hBB3 := below_one hBB2 hB3
    clear hB3 hBB2 q20 q21 q22 q23
    go_wp2_with fail
    refine (toRule_any r _).mono ?_
    rintro e w4 ⟨rfl, hB4⟩
    have hBB4 := below_one hBB3 hB4
    clear hB4 hBB3
    go_wp2_with fail
    refine (implRuleText_any r _ hC).mono ?_
    rintro e w5 ⟨rfl, hB5⟩
    have hBB5 := below_one hBB4 hB5
    clear hB5 hBB4
    go_wp2_with fail
    go_ret
    exact ⟨rfl, hBB5⟩
  · have HU := hid (show left3 1048576 r.who.size r.method.size r.path.size = -1 from if_neg (by unfold Ru.size at hC; omega))
    go_enter Try.func8, Try.ntmps8
    go_wp2_with fail
    refine (szRule_any r _ _ (by omega) (by omega) f1 f2 f3).mono ?_
    rintro e w1 ⟨rfl, hB1⟩
    rw [HU.out]
    have hBB1 := below_one hBa hB1
    go_wp2_with fail
    go_ret
    exact ⟨rfl, hBB1⟩

set_option maxRecDepth 100000 in
theorem lifted (os : Os) (started : os.Started) (H : Type) (enc : TypeId × Value → H) :
    ReturnsInHanded {} Try.checked os 8 .any (Rows.fnExactRuleTextSpec.pre6 enc Try.prog Try.f8 Rows.fnExactRuleTextRow.domain false) (Rows.fnExactRuleTextSpec.post enc Try.prog Try.f8 false true false false) := by
  refine returnsInHanded_of_change (C := Try.checked) own started (by kernel_rfl) Try.func8
    (ChangeSpec.witness6 (enc := enc) (C := Try.checked) false ⟨#[], #[.agg #[.bool false, .string ByteArray.empty, .string ByteArray.empty, .string ByteArray.empty]], []⟩ 8 (by kernel_rfl) (by kernel_rfl) (by kernel_rfl) (by kernel_rfl)) ?_
  intro W base args ds gs before hval0 hW hcnd _
  have hval : ∀ (j : Nat) t v, Try.f8.params[j]? = some t → args[j]? = some v → Value.okWide Try.prog W .any base t v := hval0
  have hW' := hW
  obtain ⟨p, q, hA0, hV, rfl, _, _⟩ := hW
  have hA : DataW.TrodAll enc Try.prog W 0 (fun _ => true) true Try.f8.params.toList args.toList ds p := hA0
  rw [Try.params8] at hA hval
  obtain ⟨v0, vs0, d0, ds0, p0, q0, hargs, rfl, rfl, h0, r0⟩ := trodAll_cons hA
  obtain ⟨rfl, rfl, rfl⟩ := trodAll_nil r0
  obtain rfl : args = #[v0] := by cases args; simp_all
  obtain ⟨rfl, rfl⟩ := trodVars_none hV
  have k0 := h0
  have lt0 : ∀ x ∈ p0, x.block < W.heap.size := by obtain ⟨m, hm⟩ := k0; exact DataW.trod_lt m _ _ _ hm
  obtain ⟨a0, rfl, w0⟩ := openRu (hval 0 26 v0 rfl rfl) h0
  clear hA0 hval0
  refine (walk a0 W w0).mono fun e W' ⟨he, bel⟩ => ?_
  subst he
  exact ⟨_, rfl, _, _, _, [], _, [], hW', trodAll_mk1 (shut_bool Try.underlying4 _), (trodAll_cons_mk (Below.trod laidOut (by kernel_rfl) (of_decide_eq_true (by kernel_rfl)) k0 bel lt0) trodAll_mk0), rfl, bel.frame _, fun h => by cases h⟩

theorem over : Rows.fnExactRuleTextRow.holds Try.pinned (OpenSpec.ofChange Rows.fnExactRuleTextSpec) :=
  OpenClaim.holds_of_wide 8 Try.f8 rfl rfl rfl rfl rfl rfl rfl ⟨rfl, rfl, rfl, rfl, rfl⟩ rfl rfl rfl rfl rfl (by kernel_rfl) Try.func8 (by kernel_rfl)
    (of_decide_eq_true (by kernel_rfl)) (by unfold Func.isWrapper; first | (rw [if_pos (by decide +kernel)]; kernel_rfl) | (rw [if_neg (by decide +kernel)]; exact ⟨rfl, rfl⟩))
    (fun os started H enc _ => lifted os started H enc)

end Go.Proofs.Ytnblnhlfifhkkad.fnExactRuleText
namespace Go.Proofs.Ytnblnhlfifhkkad
theorem fnExactRuleText_holds : Rows.FnExactRuleTextSaid := fnExactRuleText.over
#print axioms fnExactRuleText_holds
end Go.Proofs.Ytnblnhlfifhkkad
