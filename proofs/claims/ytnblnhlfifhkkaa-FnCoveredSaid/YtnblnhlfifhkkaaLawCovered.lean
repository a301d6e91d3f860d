/-
  Proved: for every two slices of bytes the law FnCovered returns true, and nothing that was there is changed; no condition.
-/
import Derived.Test.YtnblnhlfifhkkaaRows
import Derived.Test.YtnblnhlfifhkkaaCovW
import Derived.Test.YtnblnhlfifhkkaaOpenBy
import Derived.WalkKit
import Derived.ProofKit
import Derived.OpenShut
import Derived.ChangeOld
import Derived.Below
import Derived.Lib.SmallJoins
import Derived.Deep.Slices
namespace Go.Proofs.Ytnblnhlfifhkkaa.fnCovered
open Go.ChangeShapes Go.WideShapes Go.ChangeAt Go.RowKit Go.Joins Go.Deep Go.Proofs.Ytnblnhlfifhkkaa

theorem own : ownKnob Try.prog.godebug = none := by kernel_rfl
theorem laidOut : laidOutB Try.prog = true := by kernel_rfl

set_option maxHeartbeats 2000000 in
theorem walk (a a' : Option Addr) (n c n' c' : Nat) (w : World) (hle : n ≤ c) (hle' : n' ≤ c') (hm : n ≤ 140737488351232) (hm' : n' ≤ 140737488351232) (hB : n ≤ 1048576 → ByS w a n) (hB' : n' ≤ 1048576 → ByS w a' n') (hap : ∀ p, a = some p → p.block < w.heap.size) (hap' : ∀ p, a' = some p → p.block < w.heap.size) :
    Calls Try.prog 3 #[.slice a n c, .slice a' n' c'] w fun e w' => e = .returned (.bool true) ∧ Below w.heap.size w w' := by
  by_cases hs : n + n' ≤ 1048576
  · exact coveredWalk a a' n c n' c' w hle hle' hs (hB (by omega)) (hB' (by omega)) hap hap'
  · have d1 : decide ((n : Int) + (n' : Int) > 1048576) = true := by simp; omega
    clear hB hB' hap hap'
    go_enter Try.func3, Try.ntmps3
    go_wp2
    go_ret
    exact ⟨rfl, Below.refl _ _⟩

set_option maxRecDepth 100000 in
theorem lifted (os : Os) (started : os.Started) (H : Type) (enc : TypeId × Value → H) :
    ReturnsInHanded {} Try.checked os 3 .any (Rows.fnCoveredSpec.pre6 enc Try.prog Try.f3 Rows.fnCoveredRow.domain false) (Rows.fnCoveredSpec.post enc Try.prog Try.f3 false true false false) := by
  refine returnsInHanded_of_change_sized (C := Try.checked) own started (by kernel_rfl) Try.func3
    (ChangeSpec.witness6 (enc := enc) (C := Try.checked) false ⟨#[], #[.slice none 0 0, .slice none 0 0], []⟩ 8 (by kernel_rfl) (by kernel_rfl) (by kernel_rfl) (by kernel_rfl)) ?_
  intro W base args ds gs before hval0 hW hcnd hsz0 _
  have hsz : (DataW.weightsEach Try.prog (Try.f3.params.toList ++ Rows.fnCoveredSpec.plain.varTypes Try.prog) (ds ++ gs)).all (· ≤ reachBytes) = true := hsz0
  clear hsz0
  have hval : ∀ (j : Nat) t v, Try.f3.params[j]? = some t → args[j]? = some v → Value.okWide Try.prog W .any base t v := hval0
  have hW' := hW
  obtain ⟨p, q, hA0, hV, rfl, _, _⟩ := hW
  have hA : DataW.TrodAll enc Try.prog W 0 (fun _ => true) true Try.f3.params.toList args.toList ds p := hA0
  rw [Try.params3] at hA hval hsz
  obtain ⟨v0, vs0, d0, ds0, p0, q0, hargs, rfl, rfl, h0, r0⟩ := trodAll_cons hA
  obtain ⟨v1, vs1, d1, ds1, p1, q1, rfl, rfl, rfl, h1, r1⟩ := trodAll_cons r0
  obtain ⟨rfl, rfl, rfl⟩ := trodAll_nil r1
  obtain rfl : args = #[v0, v1] := by cases args; simp_all
  obtain ⟨rfl, rfl⟩ := trodVars_none hV
  have k0 := h0
  have k1 := h1
  have lt0 : ∀ x ∈ p0, x.block < W.heap.size := by obtain ⟨m, hm⟩ := k0; exact DataW.trod_lt m _ _ _ hm
  have lt1 : ∀ x ∈ p1, x.block < W.heap.size := by obtain ⟨m, hm⟩ := k1; exact DataW.trod_lt m _ _ _ hm
  obtain ⟨a0, n0, c0, rfl, hle0, _, hB0, hap0, hd0⟩ := openBy (hval 0 22 v0 rfl rfl) h0
  obtain ⟨a1, n1, c1, rfl, hle1, _, hB1, hap1, hd1⟩ := openBy (hval 1 22 v1 rfl rfl) h1
  have hm0 := reachBy hsz (j := 0) rfl rfl hle0 hd0
  have hm1 := reachBy hsz (j := 1) rfl rfl hle1 hd1
  clear hA0 hval0
  refine (walk a0 a1 n0 c0 n1 c1 W hle0 hle1 hm0 hm1 hB0 hB1 hap0 hap1).mono fun e W' ⟨he, bel⟩ => ?_
  subst he
  exact ⟨_, rfl, _, _, _, [], _, [], hW', trodAll_mk1 (shut_bool Try.underlying4 _), (trodAll_cons_mk (Below.trod laidOut (by kernel_rfl) (of_decide_eq_true (by kernel_rfl)) k0 bel lt0) (trodAll_cons_mk (Below.trod laidOut (by kernel_rfl) (of_decide_eq_true (by kernel_rfl)) k1 bel lt1) trodAll_mk0)), rfl, bel.frame _, fun h => by cases h⟩

theorem over : Rows.fnCoveredRow.holds Try.pinned (OpenSpec.ofChange Rows.fnCoveredSpec) :=
  OpenClaim.holds_of_wide 3 Try.f3 rfl rfl rfl rfl rfl rfl rfl ⟨rfl, rfl, rfl, rfl, rfl⟩ rfl rfl rfl rfl rfl (by kernel_rfl) Try.func3 (by kernel_rfl)
    (of_decide_eq_true (by kernel_rfl)) (by unfold Func.isWrapper; first | (rw [if_pos (by decide +kernel)]; kernel_rfl) | (rw [if_neg (by decide +kernel)]; exact ⟨rfl, rfl⟩))
    (fun os started H enc _ => lifted os started H enc)

end Go.Proofs.Ytnblnhlfifhkkaa.fnCovered
namespace Go.Proofs.Ytnblnhlfifhkkaa
theorem fnCovered_holds : Rows.FnCoveredSaid := fnCovered.over
#print axioms fnCovered_holds
end Go.Proofs.Ytnblnhlfifhkkaa
