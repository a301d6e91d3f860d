/-
  Proved: at every argument MissingIn answers as the specification, changes nothing, and its answer owns its memory.
-/
import Derived.Test.YthpckiobfjdckaaGreatRows
import Derived.Test.YthpckiobfjdckaaGreatSdF
import Derived.Test.YthpckiobfjdckaaGreatTake
import Derived.WalkKit
import Derived.ProofKit
import Derived.OpenShut
import Derived.ShutString
import Derived.ChangeOld
import Derived.Below
import Derived.Lib.SmallJoins
import Derived.Deep.Slices
namespace Go.Proofs.YthpckiobfjdckaaGreat.fnExactMissingIn
open Go.ChangeShapes Go.WideShapes Go.ChangeAt Go.RowKit Go.Joins Go.Deep Go.Proofs.YthpckiobfjdckaaGreat
open Go.ChangeMaps (open_string shut_string)

theorem own : ownKnob Tryz.prog.godebug = none := by kernel_rfl
theorem laidOut : laidOutB Tryz.prog = true := by kernel_rfl

set_option maxHeartbeats 16000000 in
set_option maxRecDepth 100000 in
theorem walk (v : Value) (s : Sd) (w : World) (hA : SdA w v s) (hfs : s.fits) :
    Calls Tryz.prog 4 #[v] w fun e w' => e = .returned (.bool true) ∧ Below w.heap.size w w' := by
  obtain ⟨ka0, ka1, ka2, ka3, ka4, ka5, ka6, ka7, ka8, ka9, rfl⟩ := sd_forms hA
  have hBB : Below w.heap.size w (w.alloc (.cells #[.int .i64 s.fo.num, .slice ka0 s.fo.pol.length ka1, .slice ka2 s.fo.rv.length ka3, .int .i64 s.co, .slice ka4 s.ru.length ka5, .slice ka6 s.ha.length ka7, .slice ka8 s.se.length ka9] 46)) := (Below.refl _ w).alloc (Nat.le_refl _) _
  have F := Seven.new w (.int .i64 s.fo.num) (.slice ka0 s.fo.pol.length ka1) (.slice ka2 s.fo.rv.length ka3) (.int .i64 s.co) (.slice ka4 s.ru.length ka5) (.slice ka6 s.ha.length ka7) (.slice ka8 s.se.length ka9) 46
  by_cases hC : s.size ≤ 1048576
  case neg =>
    have HU := hid (show leftW 1048576 s = -1 from if_neg (by omega))
    go_enter Tryz.func4, Tryz.ntmps4
    go_wp2_with fail
    generalize w.alloc (.cells #[.int .i64 s.fo.num, .slice ka0 s.fo.pol.length ka1, .slice ka2 s.fo.rv.length ka3, .int .i64 s.co, .slice ka4 s.ru.length ka5, .slice ka6 s.ha.length ka7, .slice ka8 s.se.length ka9] 46) = W0 at *
    refine (szSide_any _ s _ _ (by omega) (by omega) hfs (hA.below hBB)).mono ?_
    rintro e w1 ⟨rfl, hB1⟩
    rw [HU.out]
    replace hBB := below_one hBB hB1
    go_wp2_with fail
    go_ret
    exact ⟨rfl, hBB⟩
  have HU := hid (show leftW 1048576 s = 1048576 - s.size from if_pos (by omega))
  have d1 : decide ((1048576 : Int) - (s.size : Int) < 0) = false := by simp; omega
  have hS := Sd.short_of hC
  have hms : s.many ≤ 4 * s.size := by unfold Sd.many Sd.size Sn.many Sn.size szAll; omega
  obtain ⟨t, HT⟩ : ∃ t, Hid (t = miX s) := ⟨_, hid rfl⟩
  obtain ⟨ok, HO⟩ : ∃ ok, Hid (sdB s = ok) := ⟨_, hid rfl⟩
  have hlt : t.length ≤ 230 := by rw [HT.out]; exact miX_len s
  have hlt' : t.length ≤ 1048577 := by omega
  go_enter Tryz.func4, Tryz.ntmps4
  go_wp2_with fail
  generalize w.alloc (.cells #[.int .i64 s.fo.num, .slice ka0 s.fo.pol.length ka1, .slice ka2 s.fo.rv.length ka3, .int .i64 s.co, .slice ka4 s.ru.length ka5, .slice ka6 s.ha.length ka7, .slice ka8 s.se.length ka9] 46) = W0 at *
  refine (szSide_any _ s _ _ (by omega) (by omega) hfs (hA.below hBB)).mono ?_
  rintro e w1 ⟨rfl, hB1⟩
  rw [HU.out]
  replace F := F.below hB1
  replace hBB := below_one hBB hB1
  clear hB1
  obtain ⟨a0, a1, a2, a3, a4, a5, a6⟩ := F.c
  go_wp2_with fail
  refine (toSide_any _ s _ hS (hA.below hBB)).mono ?_
  rintro e w2 ⟨v2, rfl, O2, hB2⟩
  obtain ⟨ki0, ki1, ki2, ki3, ki4, ki5, ki6, ki7, ki8, ki9, rfl⟩ := sd_forms O2.a
  replace F := F.below hB2
  replace hBB := below_one hBB hB2
  clear hB2 a0 a1 a2 a3 a4 a5 a6
  go_wp2_with fail
  refine (specMissing_any _ s _ hS O2.a).mono ?_
  rintro e w3 ⟨v3, he, OW, hB3⟩
  rw [← HT.out] at OW
  rw [HO.out] at he
  subst he
  have hlOW : ∀ k, v3.ownBlock = some k → k < w3.heap.size := fun k e => (OW.lt k e).2
  obtain ⟨x3, y3, z3, rfl⟩ := row_slice OW
  replace F := F.below hB3
  replace hBB := below_one hBB hB3
  clear hB3 O2
  have z0 := F.lt
  obtain ⟨a0, a1, a2, a3, a4, a5, a6⟩ := F.c
  go_wp2_with fail
  refine (toSide_any _ s _ hS (hA.below hBB)).mono ?_
  rintro e w4 ⟨v4, rfl, OX, hB4⟩
  obtain ⟨kb0, kb1, kb2, kb3, kb4, kb5, kb6, kb7, kb8, kb9, rfl⟩ := sd_forms OX.a
  have z4 := hB4.size
  replace F := F.below hB4
  replace hBB := below_one hBB hB4
  replace OW := ownsRow_below OW hB4
  clear hB4 a0 a1 a2 a3 a4 a5 a6
  have hBv : Below w4.heap.size w4 (w4.alloc (.cells #[.int .i64 s.fo.num, .slice kb0 s.fo.pol.length kb1, .slice kb2 s.fo.rv.length kb3, .int .i64 s.co, .slice kb4 s.ru.length kb5, .slice kb6 s.ha.length kb7, .slice kb8 s.se.length kb9] 51)) := (Below.refl _ w4).alloc (Nat.le_refl _) _
  have FX := Seven.new w4 (.int .i64 s.fo.num) (.slice kb0 s.fo.pol.length kb1) (.slice kb2 s.fo.rv.length kb3) (.int .i64 s.co) (.slice kb4 s.ru.length kb5) (.slice kb6 s.ha.length kb7) (.slice kb8 s.se.length kb9) 51
  replace F := F.below hBv
  replace OX := OX.below hBv
  replace hBB := below_one hBB hBv
  replace OW := ownsRow_below OW hBv
  clear hBv
  obtain ⟨a0, a1, a2, a3, a4, a5, a6⟩ := FX.c
  go_wp2_with fail
  generalize w4.alloc (.cells #[.int .i64 s.fo.num, .slice kb0 s.fo.pol.length kb1, .slice kb2 s.fo.rv.length kb3, .int .i64 s.co, .slice kb4 s.ru.length kb5, .slice kb6 s.ha.length kb7, .slice kb8 s.se.length kb9] 51) = W4 at *
  generalize w4.heap.size = kx at *
  have zx := FX.lt
  refine (implMissing_any _ s _ hS OX.r).mono ?_
  rintro e w6 ⟨v6, he, OG, hB6⟩
  rw [← HT.out] at OG
  rw [HO.out] at he
  subst he
  have hlOG : ∀ k, v6.ownBlock = some k → W4.heap.size ≤ k ∧ k < w6.heap.size := fun k e => OG.lt k e
  obtain ⟨g0, g1, g2, rfl⟩ := row_slice OG
  have z6 := hB6.size
  replace F := F.below hB6
  replace OX := OX.below hB6
  replace FX := FX.below hB6
  replace hBB := below_one hBB hB6
  replace OW := ownsRow_below OW hB6
  clear hB6 a0 a1 a2 a3 a4 a5 a6
  have eo : (ok != ok) = false := by simp
  go_wp2_with fail
  refine (eqIntS_same _ _ t _ hlt' (NuR.own OG).s (NuR.own OW).s).mono ?_
  rintro e w7 ⟨rfl, hB7⟩
  replace F := F.below hB7
  replace OX := OX.below hB7
  replace FX := FX.below hB7
  replace hBB := below_one hBB hB7
  replace OW := ownsRow_below OW hB7
  replace OG := ownsRow_below OG hB7
  clear hB7
  obtain ⟨a0, a1, a2, a3, a4, a5, a6⟩ := F.c
  obtain ⟨b0, b1, b2, b3, b4, b5, b6⟩ := FX.c
  go_wp2_with fail
  refine wp_region_held_drew (S := fun w' => w'.cell? ⟨kx, 0, none⟩ = some (.int .i64 s.fo.num) ∧ w'.cell? ⟨kx, 1, none⟩ = some (.slice kb0 s.fo.pol.length kb1) ∧ w'.cell? ⟨kx, 2, none⟩ = some (.slice kb2 s.fo.rv.length kb3) ∧ w'.cell? ⟨kx, 3, none⟩ = some (.int .i64 s.co) ∧ w'.cell? ⟨kx, 4, none⟩ = some (.slice kb4 s.ru.length kb5) ∧ w'.cell? ⟨kx, 5, none⟩ = some (.slice kb6 s.ha.length kb7) ∧ w'.cell? ⟨kx, 6, none⟩ = some (.slice kb8 s.se.length kb9) ∧ w'.cell? ⟨w.heap.size, 0, none⟩ = some (.int .i64 s.fo.num) ∧ w'.cell? ⟨w.heap.size, 1, none⟩ = some (.slice ka0 s.fo.pol.length ka1) ∧ w'.cell? ⟨w.heap.size, 2, none⟩ = some (.slice ka2 s.fo.rv.length ka3) ∧ w'.cell? ⟨w.heap.size, 3, none⟩ = some (.int .i64 s.co) ∧ w'.cell? ⟨w.heap.size, 4, none⟩ = some (.slice ka4 s.ru.length ka5) ∧ w'.cell? ⟨w.heap.size, 5, none⟩ = some (.slice ka6 s.ha.length ka7) ∧ w'.cell? ⟨w.heap.size, 6, none⟩ = some (.slice ka8 s.se.length ka9)) (by kernel_rfl) ?_ (fun hHeld => ?_)
  · go_keep
  refine takeW 0 (v := ?v4) rfl (by kernel_rfl) (by kernel_rfl) (by kernel_rfl) (fun _ _ _ h => h) (by rfl) (by assumption) ?hy4 ?rest4
  case hy4 => intro w' hSw; (try dsimp only at hSw); go_simp; try with_reducible rfl
  try simp only [Act.put, List.setIfInBounds_toArray, List.set_cons_zero, List.set_cons_succ]
  refine takeW 1 (v := ?v5) rfl (by kernel_rfl) (by kernel_rfl) (by kernel_rfl) (fun _ _ _ h => h) (by rfl) (by assumption) ?hy5 ?rest5
  case hy5 => intro w' hSw; (try dsimp only at hSw); go_simp; try with_reducible rfl
  try simp only [Act.put, List.setIfInBounds_toArray, List.set_cons_zero, List.set_cons_succ]
  refine takeC 2 (by kernel_rfl) rfl (fun K hK => ?_)
  go_simp
  refine (toSide_any _ s _ hS (by exact (hA.below hBB).below (Below.refl _ _).drew)).mono ?_; rintro e w8 ⟨v9, rfl, O9, hB9⟩; have hcx := fun o => hB9.cell (p := ⟨kx, o, none⟩) (by exact FX.lt); have hca := fun o => hB9.cell (p := ⟨w.heap.size, o, none⟩) (by exact F.lt)
  refine hK.out _ _ ?_ (fun hHeld => ?_)
  · go_keep
  clear hK K
  try simp only [Act.put, List.setIfInBounds_toArray, List.set_cons_zero, List.set_cons_succ]
  refine takeC 3 (by kernel_rfl) rfl (fun K hK => ?_)
  go_simp
  refine (eqSide_same _ _ s _ hS (by exact (OX.below (below_drew1 hB9)).a) O9.a).mono ?_; rintro e w9 ⟨rfl, hB10⟩; have hcx2 := fun o => hB10.cell (p := ⟨kx, o, none⟩) (by exact Nat.lt_of_lt_of_le FX.lt (below_drew1 hB9).size); have hca2 := fun o => hB10.cell (p := ⟨w.heap.size, o, none⟩) (by exact Nat.lt_of_lt_of_le F.lt (below_drew1 hB9).size)
  refine hK.out _ _ ?_ (fun hHeld => ?_)
  · go_keep
  clear hK K
  try simp only [Act.put, List.setIfInBounds_toArray, List.set_cons_zero, List.set_cons_succ]
  refine takeW 4 (v := ?v6) rfl (by kernel_rfl) (by kernel_rfl) (by kernel_rfl) (fun _ _ _ h => h) (by rfl) (by assumption) ?hy6 ?rest6
  case hy6 => intro w' hSw; (try dsimp only at hSw); go_simp; try with_reducible rfl
  try simp only [Act.put, List.setIfInBounds_toArray, List.set_cons_zero, List.set_cons_succ]
  refine wpAnyH_done (by kernel_rfl) ?_ _
  have hBd : Below w7.heap.size w7 w9 := below_one (below_drew1 hB9) hB10
  clear hcx hca hcx2 hca2 hB9 hB10 hHeld O9 a0 a1 a2 a3 a4 a5 a6 b0 b1 b2 b3 b4 b5 b6
  replace F := F.below hBd
  replace OX := OX.below hBd
  replace FX := FX.below hBd
  replace hBB := below_one hBB hBd
  replace OW := ownsRow_below OW hBd
  replace OG := ownsRow_below OG hBd
  clear hBd
  have zx9 := FX.lt
  obtain ⟨a0, a1, a2, a3, a4, a5, a6⟩ := FX.c
  go_wp2_with fail
  obtain ⟨c1, HC1⟩ : ∃ c, Hid (c = 1 + s.many) := ⟨_, hid rfl⟩
  obtain ⟨c3, HC3⟩ : ∃ c, Hid (c = 1 + t.length) := ⟨_, hid rfl⟩
  refine (markSide_any _ s 1 _ _ _ hS (by omega) (by omega) OX).mono ?_
  rintro e w12 ⟨rfl, _, M1⟩
  rw [← HC1.out]
  clear OX
  replace F := M1.seven F (by omega)
  replace FX := M1.seven FX (by omega)
  replace hBB := hBB.trans (M1.below (n := w.heap.size) (by omega) hBB.size)
  replace OW := M1.row OW (fun k hk => by have := hlOW k hk; omega)
  replace OG := M1.row OG (fun k hk => by have := hlOG k hk; omega)
  clear M1 a0 a1 a2 a3 a4 a5 a6
  have dk : decide ((c1 : Int) < 0) = false := by simp
  go_wp2_with fail
  refine (eqIntS_same _ _ t _ hlt' (NuR.own OG).s (NuR.own OW).s).mono ?_
  rintro e w14 ⟨rfl, hB14⟩
  replace F := F.below hB14
  replace FX := FX.below hB14
  replace hBB := below_one hBB hB14
  replace OW := ownsRow_below OW hB14
  replace OG := ownsRow_below OG hB14
  clear hB14
  go_wp2_with fail
  refine (markIntS_to _ t.length 1 _ _ _ (by omega) (by omega) OG).mono ?_
  rintro e w15 ⟨rfl, OG', G3⟩
  rw [← HC3.out]
  have M3 : Mid W4.heap.size w6.heap.size w14 w15 := Mid.of_grown G3 (fun k e => hlOG k e)
  clear G3 OG
  replace F := M3.seven F (by omega)
  replace FX := M3.seven FX (by omega)
  replace hBB := hBB.trans (M3.below (n := w.heap.size) (by omega) hBB.size)
  replace OW := M3.row OW (fun k hk => by have := hlOW k hk; omega)
  clear M3
  go_wp2_with fail
  refine (heldIntS_to _ t.length 1 _ (by omega) (by omega) (NuR.own (zs := mkN 1 t.length) (by rw [mkN_len]; exact OG')).s).mono ?_
  rintro e w16 ⟨rfl, hB16⟩
  rw [← HC3.out]
  replace F := F.below hB16
  replace FX := FX.below hB16
  replace hBB := below_one hBB hB16
  replace OW := ownsRow_below OW hB16
  replace OG' := ownsRow_below OG' hB16
  clear hB16
  have dq : decide ((c3 : Int) < 0) = false := by simp
  have eq3 : ((c3 : Int) != (c3 : Int)) = false := by simp
  obtain ⟨a0, a1, a2, a3, a4, a5, a6⟩ := F.c
  go_wp2_with fail
  refine (toSide_any _ s _ hS (hA.below hBB)).mono ?_
  rintro e w17 ⟨v17, rfl, OY, hB17⟩
  obtain ⟨ky0, ky1, ky2, ky3, ky4, ky5, ky6, ky7, ky8, ky9, rfl⟩ := sd_forms OY.a
  replace F := F.below hB17
  replace FX := FX.below hB17
  replace hBB := below_one hBB hB17
  replace OW := ownsRow_below OW hB17
  replace OG' := ownsRow_below OG' hB17
  clear hB17 a0 a1 a2 a3 a4 a5 a6
  go_wp2_with fail
  refine (implMissing_any _ s _ hS OY.r).mono ?_
  rintro e w18 ⟨v18, he, OH, hB18⟩
  rw [← HT.out] at OH
  rw [HO.out] at he
  subst he
  obtain ⟨h0, h1, h2, rfl⟩ := row_slice OH
  replace F := F.below hB18
  replace FX := FX.below hB18
  replace hBB := below_one hBB hB18
  replace OW := ownsRow_below OW hB18
  replace OG' := ownsRow_below OG' hB18
  clear hB18 OY
  go_wp2_with fail
  refine (eqIntS_same _ _ t _ hlt' (NuR.own OH).s (NuR.own OW).s).mono ?_
  rintro e w19 ⟨rfl, hB19⟩
  replace F := F.below hB19
  replace FX := FX.below hB19
  replace hBB := below_one hBB hB19
  replace OW := ownsRow_below OW hB19
  replace OG' := ownsRow_below OG' hB19
  clear hB19
  go_wp2_with fail
  refine (heldIntS_to _ t.length 1 _ (by omega) (by omega) (NuR.own (zs := mkN 1 t.length) (by rw [mkN_len]; exact OG')).s).mono ?_
  rintro e w20 ⟨rfl, hB20⟩
  rw [← HC3.out]
  replace hBB := below_one hBB hB20
  clear hB20
  go_wp2_with fail
  go_ret
  exact ⟨rfl, hBB⟩

set_option maxRecDepth 100000 in
theorem lifted (os : Os) (started : os.Started) (H : Type) (enc : TypeId × Value → H) :
    ReturnsInHanded {} Tryz.checked os 4 .any (Rows.fnExactMissingInSpec.pre6 enc Tryz.prog Tryz.f4 Rows.fnExactMissingInRow.domain false) (Rows.fnExactMissingInSpec.post enc Tryz.prog Tryz.f4 false true false false) := by
  refine returnsInHanded_of_change (C := Tryz.checked) own started (by kernel_rfl) Tryz.func4
    (ChangeSpec.witness6 (enc := enc) (C := Tryz.checked) false ⟨#[], #[.agg #[.int .i64 0, .slice none 0 0, .slice none 0 0, .int .i64 0, .slice none 0 0, .slice none 0 0, .slice none 0 0]], []⟩ 8 (by kernel_rfl) (by kernel_rfl) (by kernel_rfl) (by kernel_rfl)) ?_
  intro W base args ds gs before hval0 hW hcnd _
  have hval : ∀ (j : Nat) t v, Tryz.f4.params[j]? = some t → args[j]? = some v → Value.okWide Tryz.prog W .any base t v := hval0
  have hW' := hW
  obtain ⟨p, q, hA0, hV, rfl, _, _⟩ := hW
  have hA : DataW.TrodAll enc Tryz.prog W 0 (fun _ => true) true Tryz.f4.params.toList args.toList ds p := hA0
  rw [Tryz.params4] at hA hval
  obtain ⟨v0, vs0, d0, ds0, p0, q0, hargs, rfl, rfl, h0, r0⟩ := trodAll_cons hA
  obtain ⟨rfl, rfl, rfl⟩ := trodAll_nil r0
  obtain rfl : args = #[v0] := by cases args; simp_all
  obtain ⟨rfl, rfl⟩ := trodVars_none hV
  have k0 := h0
  have lt0 : ∀ x ∈ p0, x.block < W.heap.size := by obtain ⟨m, hm⟩ := k0; exact DataW.trod_lt m _ _ _ hm
  obtain ⟨a0, w0, f0⟩ := openSd (hval 0 46 v0 rfl rfl) h0
  clear hA0 hval0
  refine (walk v0 a0 W w0 f0).mono fun e W' ⟨he, bel⟩ => ?_
  subst he
  exact ⟨_, rfl, _, _, _, [], _, [], hW', trodAll_mk1 (shut_bool Tryz.underlying4 _), (trodAll_cons_mk (Below.trod laidOut (by kernel_rfl) (of_decide_eq_true (by kernel_rfl)) k0 bel lt0) trodAll_mk0), rfl, bel.frame _, fun h => by cases h⟩

theorem over : Rows.fnExactMissingInRow.holds Tryz.pinned (OpenSpec.ofChange Rows.fnExactMissingInSpec) :=
  OpenClaim.holds_of_wide 4 Tryz.f4 rfl rfl rfl rfl rfl rfl rfl ⟨rfl, rfl, rfl, rfl, rfl⟩ rfl rfl rfl rfl rfl (by kernel_rfl) Tryz.func4 (by kernel_rfl)
    (of_decide_eq_true (by kernel_rfl)) (by unfold Func.isWrapper; first | (rw [if_pos (by decide +kernel)]; kernel_rfl) | (rw [if_neg (by decide +kernel)]; exact ⟨rfl, rfl⟩))
    (fun os started H enc _ => lifted os started H enc)

end Go.Proofs.YthpckiobfjdckaaGreat.fnExactMissingIn
namespace Go.Proofs.YthpckiobfjdckaaGreat
theorem fnExactMissingIn_holds : Rows.FnExactMissingInSaid := fnExactMissingIn.over
#print axioms fnExactMissingIn_holds
end Go.Proofs.YthpckiobfjdckaaGreat
