/-
  Proved: at every argument MailsOf answers as the specification, changes nothing, and its answer owns its memory.
-/
import Derived.Test.YthpckiobfjdckaaRows
import Derived.Test.YthpckiobfjdckaaMlF
import Derived.Test.YthpckiobfjdckaaTake
import Derived.WalkKit
import Derived.ProofKit
import Derived.OpenShut
import Derived.ShutString
import Derived.ChangeOld
import Derived.Below
import Derived.Lib.SmallJoins
import Derived.Deep.Slices
namespace Go.Proofs.Ythpckiobfjdckaa.fnExactMailsOf
open Go.ChangeShapes Go.WideShapes Go.ChangeAt Go.RowKit Go.Joins Go.Deep Go.Proofs.Ythpckiobfjdckaa
open Go.ChangeMaps (open_string shut_string)

theorem own : ownKnob Try.prog.godebug = none := by kernel_rfl
theorem laidOut : laidOutB Try.prog = true := by kernel_rfl

set_option maxHeartbeats 16000000 in
set_option maxRecDepth 100000 in
theorem walk (v : Value) (s : Sn) (w : World) (hA : SnA w v s) (hfs : s.fits) :
    Calls Try.prog 3 #[v] w fun e w' => e = .returned (.bool true) ∧ Below w.heap.size w w' := by
  obtain ⟨ap, cp, ar, cr, rfl⟩ := sn_forms hA
  have hBB : Below w.heap.size w (w.alloc (.cells #[.int .i64 s.num, .slice ap s.pol.length cp, .slice ar s.rv.length cr] 25)) := (Below.refl _ w).alloc (Nat.le_refl _) _
  have F := Three.new w (.int .i64 s.num) (.slice ap s.pol.length cp) (.slice ar s.rv.length cr) 25
  by_cases hC : s.size ≤ 1048576
  case neg =>
    have HU := hid (show leftV 1048576 s = -1 from if_neg (by omega))
    go_enter Try.func3, Try.ntmps3
    go_wp2_with fail
    generalize w.alloc (.cells #[.int .i64 s.num, .slice ap s.pol.length cp, .slice ar s.rv.length cr] 25) = W0 at *
    refine (szSnapshot_any _ s _ _ (by omega) (by omega) hfs (hA.below hBB)).mono ?_
    rintro e w1 ⟨rfl, hB1⟩
    rw [HU.out]
    replace hBB := below_one hBB hB1
    go_wp2_with fail
    go_ret
    exact ⟨rfl, hBB⟩
  have HU := hid (show leftV 1048576 s = 1048576 - s.size from if_pos (by omega))
  have d1 : decide ((1048576 : Int) - (s.size : Int) < 0) = false := by simp; omega
  have hS := Sn.short_of hC
  have hms : s.many ≤ 4 * s.size := by unfold Sn.many Sn.size szAll; omega
  obtain ⟨t, HT⟩ : ∃ t, Hid (t = mlX s) := ⟨_, hid rfl⟩
  obtain ⟨ok, HO⟩ : ∃ ok, Hid (snB s = ok) := ⟨_, hid rfl⟩
  have hlt : t.length ≤ 232 := by rw [HT.out]; exact mlX_len s
  have hlt' : t.length ≤ 1048577 := by omega
  go_enter Try.func3, Try.ntmps3
  go_wp2_with fail
  generalize w.alloc (.cells #[.int .i64 s.num, .slice ap s.pol.length cp, .slice ar s.rv.length cr] 25) = W0 at *
  refine (szSnapshot_any _ s _ _ (by omega) (by omega) hfs (hA.below hBB)).mono ?_
  rintro e w1 ⟨rfl, hB1⟩
  rw [HU.out]
  replace F := F.below hB1
  replace hBB := below_one hBB hB1
  clear hB1
  obtain ⟨a0, a1, a2⟩ := F.c
  go_wp2_with fail
  refine (toSnapshot_any _ s _ hS (hA.below hBB)).mono ?_
  rintro e w2 ⟨v2, rfl, O2, hB2⟩
  obtain ⟨i0, j0, i1, j1, rfl⟩ := sn_forms O2.a
  replace F := F.below hB2
  replace hBB := below_one hBB hB2
  clear hB2 a0 a1 a2
  go_wp2_with fail
  refine (specMailsOf_any _ s _ hS O2.a).mono ?_
  rintro e w3 ⟨v3, he, OW, hB3⟩
  rw [← HT.out] at OW
  rw [HO.out] at he
  subst he
  have hlOW : ∀ k, v3.ownBlock = some k → k < w3.heap.size := fun k e => (OW.lt k e).2
  obtain ⟨x3, y3, z3, rfl⟩ := row_slice OW
  replace F := F.below hB3
  replace hBB := below_one hBB hB3
  clear hB3 O2
  have z0 := F.lt
  obtain ⟨a0, a1, a2⟩ := F.c
  go_wp2_with fail
  refine (toSnapshot_any _ s _ hS (hA.below hBB)).mono ?_
  rintro e w4 ⟨v4, rfl, OX, hB4⟩
  obtain ⟨x0, p0, x1, p1, rfl⟩ := sn_forms OX.a
  have z4 := hB4.size
  replace F := F.below hB4
  replace hBB := below_one hBB hB4
  replace OW := ownsRow_below OW hB4
  clear hB4 a0 a1 a2
  have hBv : Below w4.heap.size w4 (w4.alloc (.cells #[.int .i64 s.num, .slice x0 s.pol.length p0, .slice x1 s.rv.length p1] 32)) := (Below.refl _ w4).alloc (Nat.le_refl _) _
  have FX := Three.new w4 (.int .i64 s.num) (.slice x0 s.pol.length p0) (.slice x1 s.rv.length p1) 32
  replace F := F.below hBv
  replace OX := OX.below hBv
  replace hBB := below_one hBB hBv
  replace OW := ownsRow_below OW hBv
  clear hBv
  obtain ⟨a0, a1, a2⟩ := FX.c
  go_wp2_with fail
  generalize w4.alloc (.cells #[.int .i64 s.num, .slice x0 s.pol.length p0, .slice x1 s.rv.length p1] 32) = W4 at *
  generalize w4.heap.size = kx at *
  have zx := FX.lt
  refine (implMailsOf_any _ s _ hS OX.r).mono ?_
  rintro e w6 ⟨v6, he, OG, hB6⟩
  rw [← HT.out] at OG
  rw [HO.out] at he
  subst he
  have hlOG : ∀ k, v6.ownBlock = some k → W4.heap.size ≤ k ∧ k < w6.heap.size := fun k e => OG.lt k e
  obtain ⟨g0, g1, g2, rfl⟩ := row_slice OG
  have z6 := hB6.size
  replace F := F.below hB6
  replace OX := OX.below hB6
  replace FX := FX.below hB6
  replace hBB := below_one hBB hB6
  replace OW := ownsRow_below OW hB6
  clear hB6 a0 a1 a2
  have eo : (ok != ok) = false := by simp
  go_wp2_with fail
  refine (eqMailS_same _ _ t _ hlt' (MlS.own OG) (MlS.own OW)).mono ?_
  rintro e w7 ⟨rfl, hB7⟩
  replace F := F.below hB7
  replace OX := OX.below hB7
  replace FX := FX.below hB7
  replace hBB := below_one hBB hB7
  replace OW := ownsRow_below OW hB7
  replace OG := ownsRow_below OG hB7
  clear hB7
  obtain ⟨a0, a1, a2⟩ := F.c
  obtain ⟨b0, b1, b2⟩ := FX.c
  go_wp2_with fail
  refine wp_region_held_drew (S := fun w' => w'.cell? ⟨kx, 0, none⟩ = some (.int .i64 s.num) ∧ w'.cell? ⟨kx, 1, none⟩ = some (.slice x0 s.pol.length p0) ∧ w'.cell? ⟨kx, 2, none⟩ = some (.slice x1 s.rv.length p1) ∧ w'.cell? ⟨w.heap.size, 0, none⟩ = some (.int .i64 s.num) ∧ w'.cell? ⟨w.heap.size, 1, none⟩ = some (.slice ap s.pol.length cp) ∧ w'.cell? ⟨w.heap.size, 2, none⟩ = some (.slice ar s.rv.length cr)) (by kernel_rfl) ?_ (fun hHeld => ?_)
  · go_keep
  refine takeW 0 (v := ?v1) rfl (by kernel_rfl) (by kernel_rfl) (by kernel_rfl) (fun _ _ _ h => h) (by rfl) (by assumption) ?hy1 ?rest1
  case hy1 => intro w' hSw; (try dsimp only at hSw); go_simp; try with_reducible rfl
  try simp only [Act.put, List.setIfInBounds_toArray, List.set_cons_zero, List.set_cons_succ]
  refine takeW 1 (v := ?v2) rfl (by kernel_rfl) (by kernel_rfl) (by kernel_rfl) (fun _ _ _ h => h) (by rfl) (by assumption) ?hy2 ?rest2
  case hy2 => intro w' hSw; (try dsimp only at hSw); go_simp; try with_reducible rfl
  try simp only [Act.put, List.setIfInBounds_toArray, List.set_cons_zero, List.set_cons_succ]
  refine takeC 2 (by kernel_rfl) rfl (fun K hK => ?_)
  go_simp
  refine (toSnapshot_any _ s _ hS (by exact (hA.below hBB).below (Below.refl _ _).drew)).mono ?_; rintro e w8 ⟨v9, rfl, O9, hB9⟩; have hcx := fun o => hB9.cell (p := ⟨kx, o, none⟩) (by exact FX.lt); have hca := fun o => hB9.cell (p := ⟨w.heap.size, o, none⟩) (by exact F.lt)
  refine hK.out _ _ ?_ (fun hHeld => ?_)
  · go_keep
  clear hK K
  try simp only [Act.put, List.setIfInBounds_toArray, List.set_cons_zero, List.set_cons_succ]
  refine takeC 3 (by kernel_rfl) rfl (fun K hK => ?_)
  go_simp
  refine (eqSnapshot_same _ _ s _ hS (by exact (OX.below (below_drew1 hB9)).a) O9.a).mono ?_; rintro e w9 ⟨rfl, hB10⟩; have hcx2 := fun o => hB10.cell (p := ⟨kx, o, none⟩) (by exact Nat.lt_of_lt_of_le FX.lt (below_drew1 hB9).size); have hca2 := fun o => hB10.cell (p := ⟨w.heap.size, o, none⟩) (by exact Nat.lt_of_lt_of_le F.lt (below_drew1 hB9).size)
  refine hK.out _ _ ?_ (fun hHeld => ?_)
  · go_keep
  clear hK K
  try simp only [Act.put, List.setIfInBounds_toArray, List.set_cons_zero, List.set_cons_succ]
  refine takeW 4 (v := ?v3) rfl (by kernel_rfl) (by kernel_rfl) (by kernel_rfl) (fun _ _ _ h => h) (by rfl) (by assumption) ?hy3 ?rest3
  case hy3 => intro w' hSw; (try dsimp only at hSw); go_simp; try with_reducible rfl
  try simp only [Act.put, List.setIfInBounds_toArray, List.set_cons_zero, List.set_cons_succ]
  refine wpAnyH_done (by kernel_rfl) ?_ _
  have hBd : Below w7.heap.size w7 w9 := below_one (below_drew1 hB9) hB10
  clear hcx hca hcx2 hca2 hB9 hB10 hHeld O9 a0 a1 a2 b0 b1 b2
  replace F := F.below hBd
  replace OX := OX.below hBd
  replace FX := FX.below hBd
  replace hBB := below_one hBB hBd
  replace OW := ownsRow_below OW hBd
  replace OG := ownsRow_below OG hBd
  clear hBd
  have zx9 := FX.lt
  obtain ⟨a0, a1, a2⟩ := FX.c
  go_wp2_with fail
  obtain ⟨c1, HC1⟩ : ∃ c, Hid (c = 1 + s.many) := ⟨_, hid rfl⟩
  obtain ⟨c3, HC3⟩ : ∃ c, Hid (c = 1 + 8 * t.length) := ⟨_, hid rfl⟩
  refine (markSnapshot_any _ s 1 _ _ _ hS (by omega) (by omega) OX).mono ?_
  rintro e w12 ⟨rfl, _, M1⟩
  rw [← HC1.out]
  clear OX
  replace F := M1.three F (by omega)
  replace FX := M1.three FX (by omega)
  replace hBB := hBB.trans (M1.below (n := w.heap.size) (by omega) hBB.size)
  replace OW := M1.row OW (fun k hk => by have := hlOW k hk; omega)
  replace OG := M1.row OG (fun k hk => by have := hlOG k hk; omega)
  clear M1 a0 a1 a2
  have dk : decide ((c1 : Int) < 0) = false := by simp
  go_wp2_with fail
  refine (eqMailS_same _ _ t _ hlt' (MlS.own OG) (MlS.own OW)).mono ?_
  rintro e w14 ⟨rfl, hB14⟩
  replace F := F.below hB14
  replace FX := FX.below hB14
  replace hBB := below_one hBB hB14
  replace OW := ownsRow_below OW hB14
  replace OG := ownsRow_below OG hB14
  clear hB14
  go_wp2_with fail
  refine (markMailS_to _ t.length 1 _ _ _ (by omega) (by omega) OG).mono ?_
  rintro e w15 ⟨rfl, OG', G3⟩
  rw [← HC3.out]
  have M3 : Mid W4.heap.size w6.heap.size w14 w15 := Mid.of_grown G3 (fun k e => hlOG k e)
  clear G3 OG
  replace F := M3.three F (by omega)
  replace FX := M3.three FX (by omega)
  replace hBB := hBB.trans (M3.below (n := w.heap.size) (by omega) hBB.size)
  replace OW := M3.row OW (fun k hk => by have := hlOW k hk; omega)
  have hlOG' := hlOG
  clear M3
  go_wp2_with fail
  refine (heldMailS_to _ t.length 1 _ (by omega) (by omega) (MlS.own (by rw [mkMs_len]; exact OG'))).mono ?_
  rintro e w16 ⟨rfl, hB16⟩
  rw [← HC3.out]
  replace F := F.below hB16
  replace FX := FX.below hB16
  replace hBB := below_one hBB hB16
  replace OW := ownsRow_below OW hB16
  replace OG' := ownsRow_below OG' hB16
  clear hB16
  have dq : decide ((c3 : Int) < 0) = false := by simp
  have eq3 : ((c3 : Int) != (c3 : Int)) = false := by simp
  obtain ⟨a0, a1, a2⟩ := F.c
  go_wp2_with fail
  refine (toSnapshot_any _ s _ hS (hA.below hBB)).mono ?_
  rintro e w17 ⟨v17, rfl, OY, hB17⟩
  obtain ⟨u0, t0, u1, t1, rfl⟩ := sn_forms OY.a
  replace F := F.below hB17
  replace FX := FX.below hB17
  replace hBB := below_one hBB hB17
  replace OW := ownsRow_below OW hB17
  replace OG' := ownsRow_below OG' hB17
  clear hB17 a0 a1 a2
  go_wp2_with fail
  refine (implMailsOf_any _ s _ hS OY.r).mono ?_
  rintro e w18 ⟨v18, he, OH, hB18⟩
  rw [← HT.out] at OH
  rw [HO.out] at he
  subst he
  obtain ⟨h0, h1, h2, rfl⟩ := row_slice OH
  replace F := F.below hB18
  replace FX := FX.below hB18
  replace hBB := below_one hBB hB18
  replace OW := ownsRow_below OW hB18
  replace OG' := ownsRow_below OG' hB18
  clear hB18 OY
  go_wp2_with fail
  refine (eqMailS_same _ _ t _ hlt' (MlS.own OH) (MlS.own OW)).mono ?_
  rintro e w19 ⟨rfl, hB19⟩
  replace F := F.below hB19
  replace FX := FX.below hB19
  replace hBB := below_one hBB hB19
  replace OW := ownsRow_below OW hB19
  replace OG' := ownsRow_below OG' hB19
  clear hB19
  go_wp2_with fail
  refine (heldMailS_to _ t.length 1 _ (by omega) (by omega) (MlS.own (by rw [mkMs_len]; exact OG'))).mono ?_
  rintro e w20 ⟨rfl, hB20⟩
  rw [← HC3.out]
  replace hBB := below_one hBB hB20
  clear hB20
  go_wp2_with fail
  go_ret
  exact ⟨rfl, hBB⟩

set_option maxRecDepth 100000 in
theorem lifted (os : Os) (started : os.Started) (H : Type) (enc : TypeId × Value → H) :
    ReturnsInHanded {} Try.checked os 3 .any (Rows.fnExactMailsOfSpec.pre6 enc Try.prog Try.f3 Rows.fnExactMailsOfRow.domain false) (Rows.fnExactMailsOfSpec.post enc Try.prog Try.f3 false true false false) := by
  refine returnsInHanded_of_change (C := Try.checked) own started (by kernel_rfl) Try.func3
    (ChangeSpec.witness6 (enc := enc) (C := Try.checked) false ⟨#[], #[.agg #[.int .i64 0, .slice none 0 0, .slice none 0 0]], []⟩ 8 (by kernel_rfl) (by kernel_rfl) (by kernel_rfl) (by kernel_rfl)) ?_
  intro W base args ds gs before hval0 hW hcnd _
  have hval : ∀ (j : Nat) t v, Try.f3.params[j]? = some t → args[j]? = some v → Value.okWide Try.prog W .any base t v := hval0
  have hW' := hW
  obtain ⟨p, q, hA0, hV, rfl, _, _⟩ := hW
  have hA : DataW.TrodAll enc Try.prog W 0 (fun _ => true) true Try.f3.params.toList args.toList ds p := hA0
  rw [Try.params3] at hA hval
  obtain ⟨v0, vs0, d0, ds0, p0, q0, hargs, rfl, rfl, h0, r0⟩ := trodAll_cons hA
  obtain ⟨rfl, rfl, rfl⟩ := trodAll_nil r0
  obtain rfl : args = #[v0] := by cases args; simp_all
  obtain ⟨rfl, rfl⟩ := trodVars_none hV
  have k0 := h0
  have lt0 : ∀ x ∈ p0, x.block < W.heap.size := by obtain ⟨m, hm⟩ := k0; exact DataW.trod_lt m _ _ _ hm
  obtain ⟨a0, w0, f0⟩ := openSn (hval 0 25 v0 rfl rfl) h0
  clear hA0 hval0
  refine (walk v0 a0 W w0 f0).mono fun e W' ⟨he, bel⟩ => ?_
  subst he
  exact ⟨_, rfl, _, _, _, [], _, [], hW', trodAll_mk1 (shut_bool Try.underlying4 _), (trodAll_cons_mk (Below.trod laidOut (by kernel_rfl) (of_decide_eq_true (by kernel_rfl)) k0 bel lt0) trodAll_mk0), rfl, bel.frame _, fun h => by cases h⟩

theorem over : Rows.fnExactMailsOfRow.holds Try.pinned (OpenSpec.ofChange Rows.fnExactMailsOfSpec) :=
  OpenClaim.holds_of_wide 3 Try.f3 rfl rfl rfl rfl rfl rfl rfl ⟨rfl, rfl, rfl, rfl, rfl⟩ rfl rfl rfl rfl rfl (by kernel_rfl) Try.func3 (by kernel_rfl)
    (of_decide_eq_true (by kernel_rfl)) (by unfold Func.isWrapper; first | (rw [if_pos (by decide +kernel)]; kernel_rfl) | (rw [if_neg (by decide +kernel)]; exact ⟨rfl, rfl⟩))
    (fun os started H enc _ => lifted os started H enc)

end Go.Proofs.Ythpckiobfjdckaa.fnExactMailsOf
namespace Go.Proofs.Ythpckiobfjdckaa
theorem fnExactMailsOf_holds : Rows.FnExactMailsOfSaid := fnExactMailsOf.over
#print axioms fnExactMailsOf_holds
end Go.Proofs.Ythpckiobfjdckaa
