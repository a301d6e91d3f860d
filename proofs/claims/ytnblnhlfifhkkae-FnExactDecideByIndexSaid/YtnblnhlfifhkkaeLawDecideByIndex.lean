/-
  Proved: at every argument DecideByIndex answers as the specification, and changes nothing.
-/
import Derived.Test.YtnblnhlfifhkkaeRows
import Derived.Test.YtnblnhlfifhkkaeRuleE
import Derived.Test.YtnblnhlfifhkkaeOpenRu
import Derived.Test.YtnblnhlfifhkkaeDeci3
import Derived.Test.YtnblnhlfifhkkaeImplI
import Derived.WalkKit
import Derived.ProofKit
import Derived.OpenShut
import Derived.ShutString
import Derived.ChangeOld
import Derived.Below
import Derived.Lib.SmallJoins
import Derived.Deep.Slices
namespace Go.Proofs.Ytnblnhlfifhkkae.fnExactDecideByIndex
open Go.ChangeShapes Go.WideShapes Go.ChangeAt Go.RowKit Go.Joins Go.Deep Go.Proofs.Ytnblnhlfifhkkae
open Go.ChangeMaps (open_string shut_string)

theorem own : ownKnob Try.prog.godebug = none := by kernel_rfl
theorem laidOut : laidOutB Try.prog = true := by kernel_rfl

set_option maxHeartbeats 2000000 in
theorem walk (a : Option Addr) (n c : Nat) (rs : List Ru) (cc : Ca) (w : World) (w0 : RuS w (.slice a n c) rs ∧ rs.length = n ∧ n ≤ maxLen ∧ ∀ r ∈ rs, r.fits) (w1 : cc.fits) :
    Calls Try.prog 7 #[.slice a n c, cc.val] w fun e w' => e = .returned (.bool true) ∧ Below w.heap.size w w' := by
  obtain ⟨hr, rfl, hml, hfit⟩ := w0
  obtain ⟨f1, f2, f3⟩ := w1
  have hBa : Below w.heap.size w (w.alloc (.cells #[.string cc.who, .string cc.method, .string cc.path] 34)) := (Below.refl _ w).alloc (Nat.le_refl _) _
  have hr0 := hr.below hBa
  have b0 : (w.alloc (.cells #[.string cc.who, .string cc.method, .string cc.path] 34)).cell? ⟨w.heap.size, 0, none⟩ = some (.string cc.who) := by simp
  have b1 : (w.alloc (.cells #[.string cc.who, .string cc.method, .string cc.path] 34)).cell? ⟨w.heap.size, 1, none⟩ = some (.string cc.method) := by simp
  have b2 : (w.alloc (.cells #[.string cc.who, .string cc.method, .string cc.path] 34)).cell? ⟨w.heap.size, 2, none⟩ = some (.string cc.path) := by simp
  clear hr
  by_cases hA : (szAll rs : Int) ≤ 1048576
  · have hv : leftS 1048576 rs = 1048576 - szAll rs := if_pos hA
    have hsz : (szAll rs : Int) = rs.length + szTo rs rs.length := by unfold szAll; omega
    have hm : rs.length ≤ 1048576 := by omega
    have hm' : rs.length ≤ 1048577 := by omega
    have hfz : ∀ r ∈ rs, r.size ≤ 1048576 := fun r hr => by have := sz_mem hr; omega
    by_cases hC : (szAll rs : Int) + cc.size ≤ 1048576
    · have hc : cc.size ≤ 1048576 := by omega
      have hu : left3 (1048576 - szAll rs) cc.who.size cc.method.size cc.path.size = 1048576 - szAll rs - cc.size := by
        unfold Ca.size at *
        unfold left3
        rw [if_pos (by omega)]
        omega
      have HV := hid hv
      have HU := hid hu
      have d1 : decide ((1048576 : Int) - szAll rs < 0) = false := by simp; omega
      have d2 : decide ((1048576 : Int) - szAll rs - cc.size < 0) = false := by simp; omega
      have HZ := hid hsz
      clear hv hu hsz
      go_enter Try.func7, Try.ntmps7
      go_wp2_with fail
      refine (szRuleS_any _ rs _ _ (by omega) (by omega) hml hfit hr0).mono ?_
      rintro e w1 ⟨rfl, hB1⟩
      rw [HV.out]
      have hz0 : w.heap.size < (w.alloc (.cells #[.string cc.who, .string cc.method, .string cc.path] 34)).heap.size := by simp
      have hr1 : RuS w1 (.slice a rs.length c) rs := RuS.below (by exact hr0) hB1
      have hBB1 : Below w.heap.size w w1 := below_one hBa hB1
      have hz1 : w.heap.size < w1.heap.size := Nat.lt_of_lt_of_le hz0 hB1.size
      have c01 : w1.cell? ⟨w.heap.size, 0, none⟩ = some (.string cc.who) := (hB1.cell (p := ⟨w.heap.size, 0, none⟩) hz0).trans b0
      have c11 : w1.cell? ⟨w.heap.size, 1, none⟩ = some (.string cc.method) := (hB1.cell (p := ⟨w.heap.size, 1, none⟩) hz0).trans b1
      have c21 : w1.cell? ⟨w.heap.size, 2, none⟩ = some (.string cc.path) := (hB1.cell (p := ⟨w.heap.size, 2, none⟩) hz0).trans b2
      clear b0 b1 b2 hr0 hB1 hBa hz0
      go_wp2_with fail
      refine (szCall_any cc _ _ (by omega) (by omega) f1 f2 f3).mono ?_
      rintro e w2 ⟨rfl, hB2⟩
      rw [HU.out]
      have hr2 : RuS w2 (.slice a rs.length c) rs := RuS.below (by exact hr1) hB2
      have hBB2 : Below w.heap.size w w2 := below_one hBB1 hB2
      have hz2 : w.heap.size < w2.heap.size := Nat.lt_of_lt_of_le hz1 hB2.size
      have c02 : w2.cell? ⟨w.heap.size, 0, none⟩ = some (.string cc.who) := (hB2.cell (p := ⟨w.heap.size, 0, none⟩) hz1).trans c01
      have c12 : w2.cell? ⟨w.heap.size, 1, none⟩ = some (.string cc.method) := (hB2.cell (p := ⟨w.heap.size, 1, none⟩) hz1).trans c11
      have c22 : w2.cell? ⟨w.heap.size, 2, none⟩ = some (.string cc.path) := (hB2.cell (p := ⟨w.heap.size, 2, none⟩) hz1).trans c21
      clear hr1 hB2 hBB1 hz1 c01 c11 c21
      go_wp2_with fail
      have hr2d : RuS w2.drew (.slice a rs.length c) rs := hr2
      have hBd : Below w.heap.size w w2.drew := hBB2.drew
      go_region_held3 (fun w' => RuS w' (.slice a rs.length c) rs ∧ Below w.heap.size w w' ∧ w.heap.size < w'.heap.size ∧ w'.cell? ⟨w.heap.size, 0, none⟩ = some (.string cc.who) ∧ w'.cell? ⟨w.heap.size, 1, none⟩ = some (.string cc.method) ∧ w'.cell? ⟨w.heap.size, 2, none⟩ = some (.string cc.path)) (go_keep) (first | (go_at_call 10; refine (toRuleS_any _ rs _ hm (by exact hr2)).mono ?_; rintro e w3 ⟨v3, rfl, hrow3, hB3⟩; obtain ⟨a3, cap3, rfl⟩ := ownsRow_len hrow3; have hr3 : RuS w3 (.slice a rs.length c) rs := RuS.below (by exact hr2) hB3; have hBB3 : Below w.heap.size w w3 := below_one hBB2 (below_drew1 hB3); have hz3 : w.heap.size < w3.heap.size := Nat.lt_of_lt_of_le hz2 hB3.size; have c03 : w3.cell? ⟨w.heap.size, 0, none⟩ = some (.string cc.who) := (hB3.cell (p := ⟨w.heap.size, 0, none⟩) hz2).trans c02; have c13 : w3.cell? ⟨w.heap.size, 1, none⟩ = some (.string cc.method) := (hB3.cell (p := ⟨w.heap.size, 1, none⟩) hz2).trans c12; have c23 : w3.cell? ⟨w.heap.size, 2, none⟩ = some (.string cc.path) := (hB3.cell (p := ⟨w.heap.size, 2, none⟩) hz2).trans c22) | (go_at_call 19; refine (toCall_any cc _).mono ?_; rintro e w4 ⟨rfl, hB4⟩; have hrow4 := ownsRow_below hrow3 hB4; have hr4 : RuS w4 (.slice a rs.length c) rs := RuS.below (by exact hr3) hB4; have hBB4 : Below w.heap.size w w4 := below_one hBB3 hB4; have hz4 : w.heap.size < w4.heap.size := Nat.lt_of_lt_of_le hz3 hB4.size; have c04 : w4.cell? ⟨w.heap.size, 0, none⟩ = some (.string cc.who) := (hB4.cell (p := ⟨w.heap.size, 0, none⟩) hz3).trans c03; have c14 : w4.cell? ⟨w.heap.size, 1, none⟩ = some (.string cc.method) := (hB4.cell (p := ⟨w.heap.size, 1, none⟩) hz3).trans c13; have c24 : w4.cell? ⟨w.heap.size, 2, none⟩ = some (.string cc.path) := (hB4.cell (p := ⟨w.heap.size, 2, none⟩) hz3).trans c23) | (go_at_call 26; refine (specDecideByIndex_any _ rs cc _ hm' hfz hc (RuS.own hrow4)).mono ?_; rintro e w5 ⟨rfl, hB5⟩; have hr5 : RuS w5 (.slice a rs.length c) rs := RuS.below (by exact hr4) hB5; have hBB5 : Below w.heap.size w w5 := below_one hBB4 hB5; have hz5 : w.heap.size < w5.heap.size := Nat.lt_of_lt_of_le hz4 hB5.size; have c05 : w5.cell? ⟨w.heap.size, 0, none⟩ = some (.string cc.who) := (hB5.cell (p := ⟨w.heap.size, 0, none⟩) hz4).trans c04; have c15 : w5.cell? ⟨w.heap.size, 1, none⟩ = some (.string cc.method) := (hB5.cell (p := ⟨w.heap.size, 1, none⟩) hz4).trans c14; have c25 : w5.cell? ⟨w.heap.size, 2, none⟩ = some (.string cc.path) := (hB5.cell (p := ⟨w.heap.size, 2, none⟩) hz4).trans c24))
      clear hr2d hBd hr2 hBB2 hz2 c02 c12 c22 hr3 hBB3 hz3 c03 c13 c23 hr4 hBB4 hz4 c04 c14 c24 hB3 hB4 hB5 hrow3 hrow4
      go_wp2_with fail
      refine (toRuleS_any _ rs _ hm hr5).mono ?_
      rintro e w6 ⟨v6, rfl, hrow6, hB6⟩
      obtain ⟨a6, cap6, rfl⟩ := ownsRow_len hrow6
      have hr6 : RuS w6 (.slice a rs.length c) rs := RuS.below (by exact hr5) hB6
      have hBB6 : Below w.heap.size w w6 := below_one hBB5 hB6
      have hz6 : w.heap.size < w6.heap.size := Nat.lt_of_lt_of_le hz5 hB6.size
      have c06 : w6.cell? ⟨w.heap.size, 0, none⟩ = some (.string cc.who) := (hB6.cell (p := ⟨w.heap.size, 0, none⟩) hz5).trans c05
      have c16 : w6.cell? ⟨w.heap.size, 1, none⟩ = some (.string cc.method) := (hB6.cell (p := ⟨w.heap.size, 1, none⟩) hz5).trans c15
      have c26 : w6.cell? ⟨w.heap.size, 2, none⟩ = some (.string cc.path) := (hB6.cell (p := ⟨w.heap.size, 2, none⟩) hz5).trans c25
      clear hr5 hBB5 hz5 c05 c15 c25 hB6
      go_wp2_with fail
      refine (toCall_any cc _).mono ?_
      rintro e w7 ⟨rfl, hB7⟩
      have hrow7 := ownsRow_below hrow6 hB7
      have hr7 : RuS w7 (.slice a rs.length c) rs := RuS.below (by exact hr6) hB7
      have hBB7 : Below w.heap.size w w7 := below_one hBB6 hB7
      have hz7 : w.heap.size < w7.heap.size := Nat.lt_of_lt_of_le hz6 hB7.size
      have c07 : w7.cell? ⟨w.heap.size, 0, none⟩ = some (.string cc.who) := (hB7.cell (p := ⟨w.heap.size, 0, none⟩) hz6).trans c06
      have c17 : w7.cell? ⟨w.heap.size, 1, none⟩ = some (.string cc.method) := (hB7.cell (p := ⟨w.heap.size, 1, none⟩) hz6).trans c16
      have c27 : w7.cell? ⟨w.heap.size, 2, none⟩ = some (.string cc.path) := (hB7.cell (p := ⟨w.heap.size, 2, none⟩) hz6).trans c26
      clear hr6 hBB6 hz6 c06 c16 c26 hB7 hrow6
      go_wp2_with fail
      refine (implDecideByIndex_any _ rs cc _ hm' hfz hc (RuS.own hrow7)).mono ?_
      rintro e w8 ⟨rfl, hB8⟩
      have hrow8 := ownsRow_below hrow7 hB8
      have hr8 : RuS w8 (.slice a rs.length c) rs := RuS.below (by exact hr7) hB8
      have hBB8 : Below w.heap.size w w8 := below_one hBB7 hB8
      have hz8 : w.heap.size < w8.heap.size := Nat.lt_of_lt_of_le hz7 hB8.size
      have c08 : w8.cell? ⟨w.heap.size, 0, none⟩ = some (.string cc.who) := (hB8.cell (p := ⟨w.heap.size, 0, none⟩) hz7).trans c07
      have c18 : w8.cell? ⟨w.heap.size, 1, none⟩ = some (.string cc.method) := (hB8.cell (p := ⟨w.heap.size, 1, none⟩) hz7).trans c17
      have c28 : w8.cell? ⟨w.heap.size, 2, none⟩ = some (.string cc.path) := (hB8.cell (p := ⟨w.heap.size, 2, none⟩) hz7).trans c27
      clear hr7 hBB7 hz7 c07 c17 c27 hB8 hrow7
      go_wp2_with fail
      refine (toRuleS_any _ rs _ hm hr8).mono ?_
      rintro e w9 ⟨v9, rfl, hrow9, hB9⟩
      obtain ⟨a9, cap9, rfl⟩ := ownsRow_len hrow9
      have hrow89 := ownsRow_below hrow8 hB9
      have hBB9 := below_one hBB8 hB9
      go_wp2_with fail
      refine (eqRuleS_any _ _ rs rs _ hm' hm' (RuS.own hrow89) (RuS.own hrow9)).mono ?_
      rintro e w10 ⟨rfl, hB10⟩
      rw [sameS_refl]
      have hBB10 := below_one hBB9 hB10
      go_wp2_with fail
      go_ret
      exact ⟨rfl, hBB10⟩
    · have hu : left3 (1048576 - szAll rs) cc.who.size cc.method.size cc.path.size = -1 := if_neg (by unfold Ca.size at hC; omega)
      have HV := hid hv
      have HU := hid hu
      have d1 : decide ((1048576 : Int) - szAll rs < 0) = false := by simp; omega
      clear hv hu hsz
      go_enter Try.func7, Try.ntmps7
      go_wp2_with fail
      refine (szRuleS_any _ rs _ _ (by omega) (by omega) hml hfit hr0).mono ?_
      rintro e w1 ⟨rfl, hB1⟩
      rw [HV.out]
      have hz0 : w.heap.size < (w.alloc (.cells #[.string cc.who, .string cc.method, .string cc.path] 34)).heap.size := by simp
      have hr1 : RuS w1 (.slice a rs.length c) rs := RuS.below (by exact hr0) hB1
      have hBB1 : Below w.heap.size w w1 := below_one hBa hB1
      have hz1 : w.heap.size < w1.heap.size := Nat.lt_of_lt_of_le hz0 hB1.size
      have c01 : w1.cell? ⟨w.heap.size, 0, none⟩ = some (.string cc.who) := (hB1.cell (p := ⟨w.heap.size, 0, none⟩) hz0).trans b0
      have c11 : w1.cell? ⟨w.heap.size, 1, none⟩ = some (.string cc.method) := (hB1.cell (p := ⟨w.heap.size, 1, none⟩) hz0).trans b1
      have c21 : w1.cell? ⟨w.heap.size, 2, none⟩ = some (.string cc.path) := (hB1.cell (p := ⟨w.heap.size, 2, none⟩) hz0).trans b2
      clear b0 b1 b2 hr0 hB1 hBa hz0
      go_wp2_with fail
      refine (szCall_any cc _ _ (by omega) (by omega) f1 f2 f3).mono ?_
      rintro e w2 ⟨rfl, hB2⟩
      rw [HU.out]
      have hBB2 := below_one hBB1 hB2
      go_wp2_with fail
      go_ret
      exact ⟨rfl, hBB2⟩
  · have HV := hid (show leftS 1048576 rs = -1 from if_neg hA)
    go_enter Try.func7, Try.ntmps7
    go_wp2_with fail
    refine (szRuleS_any _ rs _ _ (by omega) (by omega) hml hfit hr0).mono ?_
    rintro e w1 ⟨rfl, hB1⟩
    rw [HV.out]
    have hBB1 := below_one hBa hB1
    go_wp2_with fail
    go_ret
    exact ⟨rfl, hBB1⟩

set_option maxRecDepth 100000 in
theorem lifted (os : Os) (started : os.Started) (H : Type) (enc : TypeId × Value → H) :
    ReturnsInHanded {} Try.checked os 7 .any (Rows.fnExactDecideByIndexSpec.pre6 enc Try.prog Try.f7 Rows.fnExactDecideByIndexRow.domain false) (Rows.fnExactDecideByIndexSpec.post enc Try.prog Try.f7 false true false false) := by
  refine returnsInHanded_of_change (C := Try.checked) own started (by kernel_rfl) Try.func7
    (ChangeSpec.witness6 (enc := enc) (C := Try.checked) false ⟨#[], #[.slice none 0 0, .agg #[.string ByteArray.empty, .string ByteArray.empty, .string ByteArray.empty]], []⟩ 8 (by kernel_rfl) (by kernel_rfl) (by kernel_rfl) (by kernel_rfl)) ?_
  intro W base args ds gs before hval0 hW hcnd _
  have hval : ∀ (j : Nat) t v, Try.f7.params[j]? = some t → args[j]? = some v → Value.okWide Try.prog W .any base t v := hval0
  have hW' := hW
  obtain ⟨p, q, hA0, hV, rfl, _, _⟩ := hW
  have hA : DataW.TrodAll enc Try.prog W 0 (fun _ => true) true Try.f7.params.toList args.toList ds p := hA0
  rw [Try.params7] at hA hval
  obtain ⟨v0, vs0, d0, ds0, p0, q0, hargs, rfl, rfl, h0, r0⟩ := trodAll_cons hA
  obtain ⟨v1, vs1, d1, ds1, p1, q1, rfl, rfl, rfl, h1, r1⟩ := trodAll_cons r0
  obtain ⟨rfl, rfl, rfl⟩ := trodAll_nil r1
  obtain rfl : args = #[v0, v1] := by cases args; simp_all
  obtain ⟨rfl, rfl⟩ := trodVars_none hV
  have k0 := h0
  have lt0 : ∀ x ∈ p0, x.block < W.heap.size := by obtain ⟨m, hm⟩ := k0; exact DataW.trod_lt m _ _ _ hm
  obtain ⟨a0, n0, c0, rfl⟩ := okWide_slice Try.underlying22 (hval 0 22 v0 rfl rfl)
  obtain ⟨l0, w0⟩ := openRuS h0
  have k1 := h1
  have lt1 : ∀ x ∈ p1, x.block < W.heap.size := by obtain ⟨m, hm⟩ := k1; exact DataW.trod_lt m _ _ _ hm
  obtain ⟨a1, rfl, w1⟩ := openCa (hval 1 34 v1 rfl rfl) h1
  clear hA0 hval0
  refine (walk a0 n0 c0 l0 a1 W w0 w1).mono fun e W' ⟨he, bel⟩ => ?_
  subst he
  exact ⟨_, rfl, _, _, _, [], _, [], hW', trodAll_mk1 (shut_bool Try.underlying4 _), (trodAll_cons_mk (Below.trod laidOut (by kernel_rfl) (of_decide_eq_true (by kernel_rfl)) k0 bel lt0) (trodAll_cons_mk (Below.trod laidOut (by kernel_rfl) (of_decide_eq_true (by kernel_rfl)) k1 bel lt1) trodAll_mk0)), rfl, bel.frame _, fun h => by cases h⟩

theorem over : Rows.fnExactDecideByIndexRow.holds Try.pinned (OpenSpec.ofChange Rows.fnExactDecideByIndexSpec) :=
  OpenClaim.holds_of_wide 7 Try.f7 rfl rfl rfl rfl rfl rfl rfl ⟨rfl, rfl, rfl, rfl, rfl⟩ rfl rfl rfl rfl rfl (by kernel_rfl) Try.func7 (by kernel_rfl)
    (of_decide_eq_true (by kernel_rfl)) (by unfold Func.isWrapper; first | (rw [if_pos (by decide +kernel)]; kernel_rfl) | (rw [if_neg (by decide +kernel)]; exact ⟨rfl, rfl⟩))
    (fun os started H enc _ => lifted os started H enc)

end Go.Proofs.Ytnblnhlfifhkkae.fnExactDecideByIndex
namespace Go.Proofs.Ytnblnhlfifhkkae
theorem fnExactDecideByIndex_holds : Rows.FnExactDecideByIndexSaid := fnExactDecideByIndex.over
#print axioms fnExactDecideByIndex_holds
end Go.Proofs.Ytnblnhlfifhkkae
