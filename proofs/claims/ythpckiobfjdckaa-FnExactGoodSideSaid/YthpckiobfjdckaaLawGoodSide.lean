/-
  Proved: at every argument GoodSide answers as the specification, changes nothing, and its answer owns its memory.
-/
import Derived.Test.YthpckiobfjdckaaRows
import Derived.Test.YthpckiobfjdckaaSdI
import Derived.Test.YthpckiobfjdckaaTake
import Derived.WalkKit
import Derived.ProofKit
import Derived.OpenShut
import Derived.ShutString
import Derived.ChangeOld
import Derived.Below
import Derived.Lib.SmallJoins
import Derived.Deep.Slices
namespace Go.Proofs.Ythpckiobfjdckaa.fnExactGoodSide
open Go.ChangeShapes Go.WideShapes Go.ChangeAt Go.RowKit Go.Joins Go.Deep Go.Proofs.Ythpckiobfjdckaa
open Go.ChangeMaps (open_string shut_string)

theorem own : ownKnob Try.prog.godebug = none := by kernel_rfl
theorem laidOut : laidOutB Try.prog = true := by kernel_rfl

set_option maxHeartbeats 16000000 in
set_option maxRecDepth 100000 in
theorem walk (v : Value) (s : Sd) (w : World) (hA : SdA w v s) (hfs : s.fits) :
    Calls Try.prog 4 #[v] w fun e w' => e = .returned (.bool true) ∧ Below w.heap.size w w' := by
  obtain ⟨ka0, ka1, ka2, ka3, ka4, ka5, ka6, ka7, ka8, ka9, rfl⟩ := sd_forms hA
  have hBB : Below w.heap.size w (w.alloc (.cells #[.int .i64 s.fo.num, .slice ka0 s.fo.pol.length ka1, .slice ka2 s.fo.rv.length ka3, .int .i64 s.co, .slice ka4 s.ru.length ka5, .slice ka6 s.ha.length ka7, .slice ka8 s.se.length ka9] 41)) := (Below.refl _ w).alloc (Nat.le_refl _) _
  have F := Seven.new w (.int .i64 s.fo.num) (.slice ka0 s.fo.pol.length ka1) (.slice ka2 s.fo.rv.length ka3) (.int .i64 s.co) (.slice ka4 s.ru.length ka5) (.slice ka6 s.ha.length ka7) (.slice ka8 s.se.length ka9) 41
  by_cases hC : s.size ≤ 1048576
  case neg =>
    have HU := hid (show leftW 1048576 s = -1 from if_neg (by omega))
    go_enter Try.func4, Try.ntmps4
    go_wp2_with fail
    generalize w.alloc (.cells #[.int .i64 s.fo.num, .slice ka0 s.fo.pol.length ka1, .slice ka2 s.fo.rv.length ka3, .int .i64 s.co, .slice ka4 s.ru.length ka5, .slice ka6 s.ha.length ka7, .slice ka8 s.se.length ka9] 41) = W0 at *
    refine (szSide_any _ s _ _ (by omega) (by omega) hfs (hA.below hBB)).mono ?_
    rintro e w1 ⟨rfl, hB1⟩
    rw [HU.out]
    replace hBB := below_one hBB hB1
    go_wp2_with fail
    go_ret
    exact ⟨rfl, hBB⟩
  have HU := hid (show leftW 1048576 s = 1048576 - s.size from if_pos (by omega))
  have d1 : decide ((1048576 : Int) - (s.size : Int) < 0) = false := by simp; omega
  have hS := Sd.short_of hC
  obtain ⟨ok, HO⟩ : ∃ ok, Hid (sdB s = ok) := ⟨_, hid rfl⟩
  go_enter Try.func4, Try.ntmps4
  go_wp2_with fail
  generalize w.alloc (.cells #[.int .i64 s.fo.num, .slice ka0 s.fo.pol.length ka1, .slice ka2 s.fo.rv.length ka3, .int .i64 s.co, .slice ka4 s.ru.length ka5, .slice ka6 s.ha.length ka7, .slice ka8 s.se.length ka9] 41) = W0 at *
  refine (szSide_any _ s _ _ (by omega) (by omega) hfs (hA.below hBB)).mono ?_
  rintro e w1 ⟨rfl, hB1⟩
  rw [HU.out]
  replace F := F.below hB1
  replace hBB := below_one hBB hB1
  clear hB1
  obtain ⟨a0, a1, a2, a3, a4, a5, a6⟩ := F.c
  go_wp2_with fail
  refine (toSide_any _ s _ hS (hA.below hBB)).mono ?_
  rintro e w2 ⟨v2, rfl, O2, hB2⟩
  obtain ⟨ki0, ki1, ki2, ki3, ki4, ki5, ki6, ki7, ki8, ki9, rfl⟩ := sd_forms O2.a
  replace F := F.below hB2
  replace hBB := below_one hBB hB2
  clear hB2 a0 a1 a2 a3 a4 a5 a6
  go_wp2_with fail
  refine (specGoodSide_any _ s _ hS O2.a).mono ?_
  rintro e w3 ⟨rfl, hB3⟩
  rw [HO.out]
  replace F := F.below hB3
  replace hBB := below_one hBB hB3
  clear hB3 O2
  have z0 := F.lt
  obtain ⟨a0, a1, a2, a3, a4, a5, a6⟩ := F.c
  go_wp2_with fail
  refine (toSide_any _ s _ hS (hA.below hBB)).mono ?_
  rintro e w4 ⟨v4, rfl, OX, hB4⟩
  obtain ⟨kb0, kb1, kb2, kb3, kb4, kb5, kb6, kb7, kb8, kb9, rfl⟩ := sd_forms OX.a
  have z4 := hB4.size
  replace F := F.below hB4
  replace hBB := below_one hBB hB4
  clear hB4 a0 a1 a2 a3 a4 a5 a6
  have hBv : Below w4.heap.size w4 (w4.alloc (.cells #[.int .i64 s.fo.num, .slice kb0 s.fo.pol.length kb1, .slice kb2 s.fo.rv.length kb3, .int .i64 s.co, .slice kb4 s.ru.length kb5, .slice kb6 s.ha.length kb7, .slice kb8 s.se.length kb9] 45)) := (Below.refl _ w4).alloc (Nat.le_refl _) _
  have FX := Seven.new w4 (.int .i64 s.fo.num) (.slice kb0 s.fo.pol.length kb1) (.slice kb2 s.fo.rv.length kb3) (.int .i64 s.co) (.slice kb4 s.ru.length kb5) (.slice kb6 s.ha.length kb7) (.slice kb8 s.se.length kb9) 45
  replace F := F.below hBv
  replace OX := OX.below hBv
  replace hBB := below_one hBB hBv
  clear hBv
  obtain ⟨a0, a1, a2, a3, a4, a5, a6⟩ := FX.c
  go_wp2_with fail
  generalize w4.alloc (.cells #[.int .i64 s.fo.num, .slice kb0 s.fo.pol.length kb1, .slice kb2 s.fo.rv.length kb3, .int .i64 s.co, .slice kb4 s.ru.length kb5, .slice kb6 s.ha.length kb7, .slice kb8 s.se.length kb9] 45) = W4 at *
  generalize w4.heap.size = kx at *
  have zx := FX.lt
  refine (implGoodSide_any _ s _ hS OX.r).mono ?_
  rintro e w6 ⟨rfl, hB6⟩
  rw [HO.out]
  replace F := F.below hB6
  replace OX := OX.below hB6
  replace FX := FX.below hB6
  replace hBB := below_one hBB hB6
  clear hB6 a0 a1 a2 a3 a4 a5 a6
  have eo : (ok != ok) = false := by simp
  obtain ⟨a0, a1, a2, a3, a4, a5, a6⟩ := F.c
  obtain ⟨b0, b1, b2, b3, b4, b5, b6⟩ := FX.c
  go_wp2_with fail
  refine wp_region_held_drew (S := fun w' => w'.cell? ⟨kx, 0, none⟩ = some (.int .i64 s.fo.num) ∧ w'.cell? ⟨kx, 1, none⟩ = some (.slice kb0 s.fo.pol.length kb1) ∧ w'.cell? ⟨kx, 2, none⟩ = some (.slice kb2 s.fo.rv.length kb3) ∧ w'.cell? ⟨kx, 3, none⟩ = some (.int .i64 s.co) ∧ w'.cell? ⟨kx, 4, none⟩ = some (.slice kb4 s.ru.length kb5) ∧ w'.cell? ⟨kx, 5, none⟩ = some (.slice kb6 s.ha.length kb7) ∧ w'.cell? ⟨kx, 6, none⟩ = some (.slice kb8 s.se.length kb9) ∧ w'.cell? ⟨w.heap.size, 0, none⟩ = some (.int .i64 s.fo.num) ∧ w'.cell? ⟨w.heap.size, 1, none⟩ = some (.slice ka0 s.fo.pol.length ka1) ∧ w'.cell? ⟨w.heap.size, 2, none⟩ = some (.slice ka2 s.fo.rv.length ka3) ∧ w'.cell? ⟨w.heap.size, 3, none⟩ = some (.int .i64 s.co) ∧ w'.cell? ⟨w.heap.size, 4, none⟩ = some (.slice ka4 s.ru.length ka5) ∧ w'.cell? ⟨w.heap.size, 5, none⟩ = some (.slice ka6 s.ha.length ka7) ∧ w'.cell? ⟨w.heap.size, 6, none⟩ = some (.slice ka8 s.se.length ka9)) (by kernel_rfl) ?_ (fun hHeld => ?_)
  · go_keep
  refine takeW 0 (v := ?v1) rfl (by kernel_rfl) (by kernel_rfl) (by kernel_rfl) (fun _ _ _ h => h) (by rfl) (by assumption) ?hy1 ?rest1
  case hy1 => intro w' hSw; (try dsimp only at hSw); go_simp; try with_reducible rfl
  try simp only [Act.put, List.setIfInBounds_toArray, List.set_cons_zero, List.set_cons_succ]
  refine takeW 1 (v := ?v2) rfl (by kernel_rfl) (by kernel_rfl) (by kernel_rfl) (fun _ _ _ h => h) (by rfl) (by assumption) ?hy2 ?rest2
  case hy2 => intro w' hSw; (try dsimp only at hSw); go_simp; try with_reducible rfl
  try simp only [Act.put, List.setIfInBounds_toArray, List.set_cons_zero, List.set_cons_succ]
  refine takeC 2 (by kernel_rfl) rfl (fun K hK => ?_)
  go_simp
  refine (toSide_any _ s _ hS (by exact (hA.below hBB).below (Below.refl _ _).drew)).mono ?_; rintro e w8 ⟨v9, rfl, O9, hB9⟩; have hcx := fun o => hB9.cell (p := ⟨kx, o, none⟩) (by exact FX.lt); have hca := fun o => hB9.cell (p := ⟨w.heap.size, o, none⟩) (by exact F.lt)
  refine hK.out _ _ ?_ (fun hHeld => ?_)
  · go_keep
  clear hK K
  try simp only [Act.put, List.setIfInBounds_toArray, List.set_cons_zero, List.set_cons_succ]
  refine takeC 3 (by kernel_rfl) rfl (fun K hK => ?_)
  go_simp
  refine (eqSide_same _ _ s _ hS (by exact (OX.below (below_drew1 hB9)).a) O9.a).mono ?_; rintro e w9 ⟨rfl, hB10⟩; have hcx2 := fun o => hB10.cell (p := ⟨kx, o, none⟩) (by exact Nat.lt_of_lt_of_le FX.lt (below_drew1 hB9).size); have hca2 := fun o => hB10.cell (p := ⟨w.heap.size, o, none⟩) (by exact Nat.lt_of_lt_of_le F.lt (below_drew1 hB9).size)
  refine hK.out _ _ ?_ (fun hHeld => ?_)
  · go_keep
  clear hK K
  try simp only [Act.put, List.setIfInBounds_toArray, List.set_cons_zero, List.set_cons_succ]
  refine takeW 4 (v := ?v3) rfl (by kernel_rfl) (by kernel_rfl) (by kernel_rfl) (fun _ _ _ h => h) (by rfl) (by assumption) ?hy3 ?rest3
  case hy3 => intro w' hSw; (try dsimp only at hSw); go_simp; try with_reducible rfl
  try simp only [Act.put, List.setIfInBounds_toArray, List.set_cons_zero, List.set_cons_succ]
  refine wpAnyH_done (by kernel_rfl) ?_ _
  have hBd : Below w6.heap.size w6 w9 := below_one (below_drew1 hB9) hB10
  clear hcx hca hcx2 hca2 hB9 hB10 hHeld O9 a0 a1 a2 a3 a4 a5 a6 b0 b1 b2 b3 b4 b5 b6
  replace F := F.below hBd
  replace OX := OX.below hBd
  replace FX := FX.below hBd
  replace hBB := below_one hBB hBd
  clear hBd
  go_wp2_with fail
  go_ret
  exact ⟨rfl, hBB⟩

set_option maxRecDepth 100000 in
theorem lifted (os : Os) (started : os.Started) (H : Type) (enc : TypeId × Value → H) :
    ReturnsInHanded {} Try.checked os 4 .any (Rows.fnExactGoodSideSpec.pre6 enc Try.prog Try.f4 Rows.fnExactGoodSideRow.domain false) (Rows.fnExactGoodSideSpec.post enc Try.prog Try.f4 false true false false) := by
  refine returnsInHanded_of_change (C := Try.checked) own started (by kernel_rfl) Try.func4
    (ChangeSpec.witness6 (enc := enc) (C := Try.checked) false ⟨#[], #[.agg #[.int .i64 0, .slice none 0 0, .slice none 0 0, .int .i64 0, .slice none 0 0, .slice none 0 0, .slice none 0 0]], []⟩ 8 (by kernel_rfl) (by kernel_rfl) (by kernel_rfl) (by kernel_rfl)) ?_
  intro W base args ds gs before hval0 hW hcnd _
  have hval : ∀ (j : Nat) t v, Try.f4.params[j]? = some t → args[j]? = some v → Value.okWide Try.prog W .any base t v := hval0
  have hW' := hW
  obtain ⟨p, q, hA0, hV, rfl, _, _⟩ := hW
  have hA : DataW.TrodAll enc Try.prog W 0 (fun _ => true) true Try.f4.params.toList args.toList ds p := hA0
  rw [Try.params4] at hA hval
  obtain ⟨v0, vs0, d0, ds0, p0, q0, hargs, rfl, rfl, h0, r0⟩ := trodAll_cons hA
  obtain ⟨rfl, rfl, rfl⟩ := trodAll_nil r0
  obtain rfl : args = #[v0] := by cases args; simp_all
  obtain ⟨rfl, rfl⟩ := trodVars_none hV
  have k0 := h0
  have lt0 : ∀ x ∈ p0, x.block < W.heap.size := by obtain ⟨m, hm⟩ := k0; exact DataW.trod_lt m _ _ _ hm
  obtain ⟨a0, w0, f0⟩ := openSd (hval 0 41 v0 rfl rfl) h0
  clear hA0 hval0
  refine (walk v0 a0 W w0 f0).mono fun e W' ⟨he, bel⟩ => ?_
  subst he
  exact ⟨_, rfl, _, _, _, [], _, [], hW', trodAll_mk1 (shut_bool Try.underlying4 _), (trodAll_cons_mk (Below.trod laidOut (by kernel_rfl) (of_decide_eq_true (by kernel_rfl)) k0 bel lt0) trodAll_mk0), rfl, bel.frame _, fun h => by cases h⟩

theorem over : Rows.fnExactGoodSideRow.holds Try.pinned (OpenSpec.ofChange Rows.fnExactGoodSideSpec) :=
  OpenClaim.holds_of_wide 4 Try.f4 rfl rfl rfl rfl rfl rfl rfl ⟨rfl, rfl, rfl, rfl, rfl⟩ rfl rfl rfl rfl rfl (by kernel_rfl) Try.func4 (by kernel_rfl)
    (of_decide_eq_true (by kernel_rfl)) (by unfold Func.isWrapper; first | (rw [if_pos (by decide +kernel)]; kernel_rfl) | (rw [if_neg (by decide +kernel)]; exact ⟨rfl, rfl⟩))
    (fun os started H enc _ => lifted os started H enc)

end Go.Proofs.Ythpckiobfjdckaa.fnExactGoodSide
namespace Go.Proofs.Ythpckiobfjdckaa
theorem fnExactGoodSide_holds : Rows.FnExactGoodSideSaid := fnExactGoodSide.over
#print axioms fnExactGoodSide_holds
end Go.Proofs.Ythpckiobfjdckaa
