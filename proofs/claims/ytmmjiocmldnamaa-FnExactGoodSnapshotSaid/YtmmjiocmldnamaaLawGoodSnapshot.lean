/-
  Proved: at every argument GoodSnapshot answers as the specification, and changes nothing.
-/
import Derived.Test.YtmmjiocmldnamaaRows
import Derived.Test.YtmmjiocmldnamaaPlainR
import Derived.Test.YtmmjiocmldnamaaSnS
import Derived.Test.YtmmjiocmldnamaaTake
import Derived.WalkKit
import Derived.ProofKit
import Derived.OpenShut
import Derived.ShutString
import Derived.ChangeOld
import Derived.Below
import Derived.Lib.SmallJoins
import Derived.Deep.Slices
namespace Go.Proofs.Ytmmjiocmldnamaa.fnExactGoodSnapshot
open Go.ChangeShapes Go.WideShapes Go.ChangeAt Go.RowKit Go.Joins Go.Deep Go.Proofs.Ytmmjiocmldnamaa
open Go.ChangeMaps (open_string shut_string)

theorem own : ownKnob Try.prog.godebug = none := by kernel_rfl
theorem laidOut : laidOutB Try.prog = true := by kernel_rfl

set_option maxHeartbeats 4000000 in
theorem walk (v : Value) (s : Sn) (w : World) (hA : SnA w v s) (hf : s.fits) :
    Calls Try.prog 3 #[v] w fun e w' => e = .returned (.bool true) ∧ Below w.heap.size w w' := by
  obtain ⟨ap, cp, ar, cr, rfl⟩ := sn_forms hA
  have hB0 : Below w.heap.size w (w.alloc (.cells #[.int .i64 s.num, .slice ap s.pol.length cp, .slice ar s.rv.length cr] 25)) := (Below.refl _ w).alloc (Nat.le_refl _) _
  have F := Three.new w (.int .i64 s.num) (.slice ap s.pol.length cp) (.slice ar s.rv.length cr) 25
  by_cases hC : s.size ≤ 1048576
  · have HU := hid (show leftV 1048576 s = 1048576 - s.size from if_pos (by omega))
    have d1 : decide ((1048576 : Int) - (s.size : Int) < 0) = false := by simp; omega
    have hS := Sn.short_of hC
    go_enter Try.func3, Try.ntmps3
    go_wp2_with fail
    generalize w.alloc (.cells #[.int .i64 s.num, .slice ap s.pol.length cp, .slice ar s.rv.length cr] 25) = W0 at *
    refine (szSnapshot_any _ s _ _ (by omega) (by omega) hf (hA.below hB0)).mono ?_
    rintro e w1 ⟨rfl, hB1⟩
    rw [HU.out]
    replace F := F.below hB1
    have hBB1 := below_one hB0 hB1
    clear hB1 hB0
    obtain ⟨a0, a1, a2⟩ := F.c
    go_wp2_with fail
    refine (toSnapshot_any _ s _ hS (hA.below hBB1)).mono ?_
    rintro e w2 ⟨v2, rfl, O2, hB2⟩
    obtain ⟨i0, j0, i1, j1, rfl⟩ := sn_forms O2.a
    go_wp2_with fail
    refine (specGoodSnapshot_any _ s _ hS O2.a).mono ?_
    rintro e w3 ⟨rfl, hB3⟩
    replace F := (F.below hB2).below hB3
    have hBB3 := below_two hBB1 hB2 hB3
    clear hB2 hB3 hBB1 a0 a1 a2
    obtain ⟨a0, a1, a2⟩ := F.c
    go_wp2_with fail
    refine (toSnapshot_any _ s _ hS (hA.below hBB3)).mono ?_
    rintro e w4 ⟨v4, rfl, O4, hB4⟩
    obtain ⟨x0, z0, x1, z1, rfl⟩ := sn_forms O4.a
    have hBB4 := below_one hBB3 hB4
    replace F := F.below hB4
    have hBx : Below w4.heap.size w4 (w4.alloc (.cells #[.int .i64 s.num, .slice x0 s.pol.length z0, .slice x1 s.rv.length z1] 30)) := (Below.refl _ w4).alloc (Nat.le_refl _) _
    have FX := Three.new w4 (.int .i64 s.num) (.slice x0 s.pol.length z0) (.slice x1 s.rv.length z1) 30
    replace F := F.below hBx
    have OX := O4.below hBx
    have hBBx := below_one hBB4 hBx
    clear hB4 hBB3 a0 a1 a2 O4 hBB4 hBx O2
    go_wp2_with fail
    generalize w4.alloc (.cells #[.int .i64 s.num, .slice x0 s.pol.length z0, .slice x1 s.rv.length z1] 30) = Wx at *
    generalize w4.heap.size = bx at *
    refine (implGoodSnapshot_any _ s _ hS OX.r).mono ?_
    rintro e w5 ⟨rfl, hB5⟩
    replace F := F.below hB5
    replace FX := FX.below hB5
    have OX5 := OX.below hB5
    have hBB5 := below_one hBBx hB5
    have hA5 := hA.below hBB5
    have hla := F.lt
    have hlx := FX.lt
    clear hB5 hBBx OX
    obtain ⟨a0, a1, a2⟩ := F.c
    obtain ⟨b0, b1, b2⟩ := FX.c
    have e1 : (snB s != snB s) = false := by simp
    go_wp2_with fail
    refine wp_region_held_drew (S := fun w' => w'.cell? ⟨bx, 0, none⟩ = some (.int .i64 s.num) ∧ w'.cell? ⟨bx, 1, none⟩ = some (.slice x0 s.pol.length z0) ∧ w'.cell? ⟨bx, 2, none⟩ = some (.slice x1 s.rv.length z1) ∧ w'.cell? ⟨w.heap.size, 0, none⟩ = some (.int .i64 s.num) ∧ w'.cell? ⟨w.heap.size, 1, none⟩ = some (.slice ap s.pol.length cp) ∧ w'.cell? ⟨w.heap.size, 2, none⟩ = some (.slice ar s.rv.length cr)) (by kernel_rfl) ?_ (fun hHeld => ?_)
    · go_keep
    refine takeW 0 (v := ?v1) rfl (by kernel_rfl) (by kernel_rfl) (by kernel_rfl) (fun _ _ _ h => h) (by rfl) (by assumption) ?hy1 ?rest1
    case hy1 => intro w' hSw; (try dsimp only at hSw); go_simp; try with_reducible rfl
    try simp only [Act.put, List.setIfInBounds_toArray, List.set_cons_zero, List.set_cons_succ]
    refine takeW 1 (v := ?v2) rfl (by kernel_rfl) (by kernel_rfl) (by kernel_rfl) (fun _ _ _ h => h) (by rfl) (by assumption) ?hy2 ?rest2
    case hy2 => intro w' hSw; (try dsimp only at hSw); go_simp; try with_reducible rfl
    try simp only [Act.put, List.setIfInBounds_toArray, List.set_cons_zero, List.set_cons_succ]
    refine takeC 2 (by kernel_rfl) rfl (fun K hK => ?_)
    go_simp
    refine (toSnapshot_any _ s _ hS (by exact hA5.below (Below.refl _ _).drew)).mono ?_; rintro e w6 ⟨v6, rfl, O6, hB6⟩; have hcx := fun o => hB6.cell (p := ⟨bx, o, none⟩) (by exact hlx); have hca := fun o => hB6.cell (p := ⟨w.heap.size, o, none⟩) (by exact hla)
    refine hK.out _ _ ?_ (fun hHeld => ?_)
    · go_keep
    clear hK K
    try simp only [Act.put, List.setIfInBounds_toArray, List.set_cons_zero, List.set_cons_succ]
    refine takeC 3 (by kernel_rfl) rfl (fun K hK => ?_)
    go_simp
    refine (eqSnapshot_same _ _ s _ hS (by exact (OX5.below (below_drew1 hB6)).a) O6.a).mono ?_; rintro e w7 ⟨rfl, hB7⟩; have hcx7 := fun o => hB7.cell (p := ⟨bx, o, none⟩) (by exact Nat.lt_of_lt_of_le hlx (below_drew1 hB6).size); have hca7 := fun o => hB7.cell (p := ⟨w.heap.size, o, none⟩) (by exact Nat.lt_of_lt_of_le hla (below_drew1 hB6).size)
    refine hK.out _ _ ?_ (fun hHeld => ?_)
    · go_keep
    clear hK K
    try simp only [Act.put, List.setIfInBounds_toArray, List.set_cons_zero, List.set_cons_succ]
    refine takeW 4 (v := ?v3) rfl (by kernel_rfl) (by kernel_rfl) (by kernel_rfl) (fun _ _ _ h => h) (by rfl) (by assumption) ?hy3 ?rest3
    case hy3 => intro w' hSw; (try dsimp only at hSw); go_simp; try with_reducible rfl
    try simp only [Act.put, List.setIfInBounds_toArray, List.set_cons_zero, List.set_cons_succ]
    refine wpAnyH_done (by kernel_rfl) ?_ _
    have hBB7 := below_two hBB5 (below_drew1 hB6) hB7
    clear hcx hca hcx7 hca7
    go_wp2_with fail
    go_ret
    exact ⟨rfl, hBB7⟩
  · have HU := hid (show leftV 1048576 s = -1 from if_neg (by omega))
    go_enter Try.func3, Try.ntmps3
    go_wp2_with fail
    generalize w.alloc (.cells #[.int .i64 s.num, .slice ap s.pol.length cp, .slice ar s.rv.length cr] 25) = W0 at *
    refine (szSnapshot_any _ s _ _ (by omega) (by omega) hf (hA.below hB0)).mono ?_
    rintro e w1 ⟨rfl, hB1⟩
    rw [HU.out]
    have hBB1 := below_one hB0 hB1
    clear hB1 hB0
    go_wp2_with fail
    go_ret
    exact ⟨rfl, hBB1⟩

set_option maxRecDepth 100000 in
theorem lifted (os : Os) (started : os.Started) (H : Type) (enc : TypeId × Value → H) :
    ReturnsInHanded {} Try.checked os 3 .any (Rows.fnExactGoodSnapshotSpec.pre6 enc Try.prog Try.f3 Rows.fnExactGoodSnapshotRow.domain false) (Rows.fnExactGoodSnapshotSpec.post enc Try.prog Try.f3 false true false false) := by
  refine returnsInHanded_of_change (C := Try.checked) own started (by kernel_rfl) Try.func3
    (ChangeSpec.witness6 (enc := enc) (C := Try.checked) false ⟨#[], #[.agg #[.int .i64 0, .slice none 0 0, .slice none 0 0]], []⟩ 8 (by kernel_rfl) (by kernel_rfl) (by kernel_rfl) (by kernel_rfl)) ?_
  intro W base args ds gs before hval0 hW hcnd _
  have hval : ∀ (j : Nat) t v, Try.f3.params[j]? = some t → args[j]? = some v → Value.okWide Try.prog W .any base t v := hval0
  have hW' := hW
  obtain ⟨p, q, hA0, hV, rfl, _, _⟩ := hW
  have hA : DataW.TrodAll enc Try.prog W 0 (fun _ => true) true Try.f3.params.toList args.toList ds p := hA0
  rw [Try.params3] at hA hval
  obtain ⟨v0, vs0, d0, ds0, p0, q0, hargs, rfl, rfl, h0, r0⟩ := trodAll_cons hA
  obtain ⟨rfl, rfl, rfl⟩ := trodAll_nil r0
  obtain rfl : args = #[v0] := by cases args; simp_all
  obtain ⟨rfl, rfl⟩ := trodVars_none hV
  have k0 := h0
  have lt0 : ∀ x ∈ p0, x.block < W.heap.size := by obtain ⟨m, hm⟩ := k0; exact DataW.trod_lt m _ _ _ hm
  obtain ⟨a0, w0, f0⟩ := openSn (hval 0 25 v0 rfl rfl) h0
  clear hA0 hval0
  refine (walk v0 a0 W w0 f0).mono fun e W' ⟨he, bel⟩ => ?_
  subst he
  exact ⟨_, rfl, _, _, _, [], _, [], hW', trodAll_mk1 (shut_bool Try.underlying4 _), (trodAll_cons_mk (Below.trod laidOut (by kernel_rfl) (of_decide_eq_true (by kernel_rfl)) k0 bel lt0) trodAll_mk0), rfl, bel.frame _, fun h => by cases h⟩

theorem over : Rows.fnExactGoodSnapshotRow.holds Try.pinned (OpenSpec.ofChange Rows.fnExactGoodSnapshotSpec) :=
  OpenClaim.holds_of_wide 3 Try.f3 rfl rfl rfl rfl rfl rfl rfl ⟨rfl, rfl, rfl, rfl, rfl⟩ rfl rfl rfl rfl rfl (by kernel_rfl) Try.func3 (by kernel_rfl)
    (of_decide_eq_true (by kernel_rfl)) (by unfold Func.isWrapper; first | (rw [if_pos (by decide +kernel)]; kernel_rfl) | (rw [if_neg (by decide +kernel)]; exact ⟨rfl, rfl⟩))
    (fun os started H enc _ => lifted os started H enc)

end Go.Proofs.Ytmmjiocmldnamaa.fnExactGoodSnapshot
namespace Go.Proofs.Ytmmjiocmldnamaa
theorem fnExactGoodSnapshot_holds : Rows.FnExactGoodSnapshotSaid := fnExactGoodSnapshot.over
#print axioms fnExactGoodSnapshot_holds
end Go.Proofs.Ytmmjiocmldnamaa
