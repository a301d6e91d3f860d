/-
  Proved: for every slice of bytes the law FnDiffs returns true, and nothing that was there is changed; no condition.
-/
import Derived.Test.YtoaeckcenobfcaaGreatJDiffs4
import Derived.Test.YtoaeckcenobfcaaGreatJDiffs5
import Derived.WalkKit
import Derived.ProofKit
import Derived.OpenShut
import Derived.ChangeSlices
import Derived.SizedLaws
import Derived.Test.YtoaeckcenobfcaaGreatJDiffs0
import Derived.Test.YtoaeckcenobfcaaGreatRows
import Derived.ChangeOld
import Derived.Below
import Derived.Lib.SmallJoins
import Derived.Deep.Slices
namespace Go.Proofs.YtoaeckcenobfcaaGreat
open Go.RowKit Go.Shelf

theorem polB_few {rs : List Ru} (h : polB rs = true) : rs.length ≤ 30 := by
  unfold polB at h
  rw [Bool.and_eq_true, decide_eq_true_eq] at h
  exact h.2
theorem fewB_few {zs : List Int} (h : fewB zs = true) : zs.length ≤ 200 := by
  unfold fewB at h
  rw [Bool.and_eq_true, decide_eq_true_eq] at h
  exact h.1
theorem dfB_sums {a b : Sn} (h : dfB a b = true) : a.pol.length + (dfX a b).ad.length ≤ 1048576 ∧ a.rv.length + (dfX a b).rv.length ≤ 1048576 := by
  have hb := h
  unfold dfB at hb
  simp only [Bool.and_eq_true, decide_eq_true_eq] at hb
  obtain ⟨⟨h1, h2, _⟩, _⟩ := hb
  obtain ⟨_, a1, _, a2, _⟩ := snB_parts h1
  obtain ⟨_, b1, _, b2, _⟩ := snB_parts h2
  have e1 := polB_few a1
  have e2 := polB_few b1
  have e3 : a.rv.length ≤ 200 := fewB_few a2
  have e4 : b.rv.length ≤ 200 := fewB_few b2
  unfold dfX
  rw [if_pos h]
  have f1 := woR_len b.pol a.pol
  have f2 := woN_len b.rv a.rv
  dsimp only
  omega

set_option maxHeartbeats 4000000 in
set_option maxRecDepth 100000 in
theorem diffsWalk (a : Option Addr) (n c : Nat) (w : World) (hle : n ≤ c) (hs : n ≤ 1048576) (hB : ByS w a n) (hap : ∀ p, a = some p → p.block < w.heap.size) :
    Calls Tryz.prog 3 #[.slice a n c] w fun e w' => e = .returned (.bool true) ∧ Below w.heap.size w w' := by
  have d1 : decide ((n : Int) > 1048576) = false := by simp; omega
  go_enter Tryz.func3, Tryz.ntmps3
  go_wp2_with fail
  refine (drawDiffOf_any a n c w hle hB hap).mono ?_
  rintro e w1 ⟨v1, v2, s1, s2, rfl, hs1, hs2, hR1, hR2, hB1⟩
  obtain ⟨ap, cp, ar, cr, rfl⟩ := sn_forms hR1.a
  obtain ⟨aq, cq, az, cz, rfl⟩ := sn_forms hR2.a
  clear hB hap
  go_upto_region 4 with fail
  have hBa : Below w1.heap.size w1 ((w1.alloc (.cells #[.int .i64 s1.num, .slice ap s1.pol.length cp, .slice ar s1.rv.length cr] 26)).alloc (.cells #[.int .i64 s2.num, .slice aq s2.pol.length cq, .slice az s2.rv.length cz] 26)) := ((Below.refl _ w1).alloc (Nat.le_refl _) _).alloc (by simp) _
  have F1 := (Three.new w1 (.int .i64 s1.num) (.slice ap s1.pol.length cp) (.slice ar s1.rv.length cr) 26).below ((Below.refl _ _).alloc (Nat.le_refl _) (.cells #[.int .i64 s2.num, .slice aq s2.pol.length cq, .slice az s2.rv.length cz] 26))
  have F2 := Three.at (w1.alloc (.cells #[.int .i64 s1.num, .slice ap s1.pol.length cp, .slice ar s1.rv.length cr] 26)) (.int .i64 s2.num) (.slice aq s2.pol.length cq) (.slice az s2.rv.length cz) 26 (k := w1.heap.size + 1) (by simp)
  replace hR1 := hR1.below hBa
  replace hR2 := hR2.below hBa
  have hBB := below_one hB1 hBa
  clear hBa hB1
  generalize (w1.alloc (.cells #[.int .i64 s1.num, .slice ap s1.pol.length cp, .slice ar s1.rv.length cr] 26)).alloc (.cells #[.int .i64 s2.num, .slice aq s2.pol.length cq, .slice az s2.rv.length cz] 26) = W2 at *
  generalize w1.heap.size = k1 at *
  obtain ⟨p0, p1, p2⟩ := F1.c
  obtain ⟨r0, r1, r2⟩ := F2.c
  go_wp2_with fail
  refine (implDiffOf_any _ _ s1 s2 _ hs1 hs2 hR1 hR2).mono ?_
  rintro e w3 ⟨v3, rfl, D3, hB3⟩
  clear p0 p1 p2 r0 r1 r2
  obtain ⟨X, HX⟩ : ∃ X, Hid (X = dfX s1 s2) := ⟨_, hid rfl⟩
  rw [← HX.out] at D3
  obtain ⟨j1, j2, j3, j4, j5, j6, rfl⟩ := df_forms D3.a
  go_upto_region 5 with fail
  have hBe : Below w3.heap.size w3 (w3.alloc (.cells #[.int .i64 X.fr, .int .i64 X.tt, .slice j1 X.dr.length j2, .slice j3 X.ad.length j4, .slice j5 X.rv.length j6] 30)) := (Below.refl _ w3).alloc (Nat.le_refl _) _
  have FD := Five.new w3 (.int .i64 X.fr) (.int .i64 X.tt) (.slice j1 X.dr.length j2) (.slice j3 X.ad.length j4) (.slice j5 X.rv.length j6) 30
  replace F1 := (F1.below hB3).below hBe
  replace F2 := (F2.below hB3).below hBe
  replace hR1 := (hR1.below hB3).below hBe
  replace hR2 := (hR2.below hB3).below hBe
  replace hBB := below_one (below_one hBB hB3) hBe
  have DR := D3.r.below hBe
  clear hB3 hBe D3
  generalize w3.alloc (.cells #[.int .i64 X.fr, .int .i64 X.tt, .slice j1 X.dr.length j2, .slice j3 X.ad.length j4, .slice j5 X.rv.length j6] 30) = W4 at *
  generalize w3.heap.size = k3 at *
  obtain ⟨p0, p1, p2⟩ := F1.c
  obtain ⟨r0, r1, r2⟩ := F2.c
  go_wp2_with fail
  refine (specDiffOf_any _ _ s1 s2 _ hs1 hs2 hR1.a hR2.a).mono ?_
  rintro e w5 ⟨v5, rfl, D5, hB5⟩
  clear p0 p1 p2 r0 r1 r2
  rw [← HX.out] at D5
  obtain ⟨i1, i2, i3, i4, i5, i6, rfl⟩ := df_forms D5.a
  go_upto_region 6 with fail
  have hBe : Below w5.heap.size w5 (w5.alloc (.cells #[.int .i64 X.fr, .int .i64 X.tt, .slice i1 X.dr.length i2, .slice i3 X.ad.length i4, .slice i5 X.rv.length i6] 30)) := (Below.refl _ w5).alloc (Nat.le_refl _) _
  replace F1 := (F1.below hB5).below hBe
  replace F2 := (F2.below hB5).below hBe
  replace FD := (FD.below hB5).below hBe
  replace hR1 := (hR1.below hB5).below hBe
  replace hR2 := (hR2.below hB5).below hBe
  replace hBB := below_one (below_one hBB hB5) hBe
  replace DR := (DR.below hB5).below hBe
  clear hB5 hBe D5
  generalize w5.alloc (.cells #[.int .i64 X.fr, .int .i64 X.tt, .slice i1 X.dr.length i2, .slice i3 X.ad.length i4, .slice i5 X.rv.length i6] 30) = W6 at *
  generalize w5.heap.size = k5 at *
  obtain ⟨q0, q1, q2, q3, q4⟩ := FD.c
  cases hdb : dfB s1 s2
  · have h0 : X.tt = 0 := by
      rw [HX.out]
      unfold dfX
      rw [if_neg (by rw [hdb]; exact Bool.false_ne_true)]
      rfl
    go_wp2
    go_ret
    exact ⟨rfl, hBB⟩
  · have HA := hid (dif_ap hdb)
    have HS := hid (show X.short by rw [HX.out]; exact df_shortA hs1 hs2)
    obtain ⟨p0, p1, p2⟩ := F1.c
    go_wp2_with fail
    refine (implApply_any _ _ s1 X _ hs1 HS.out ?_ ?_ hR1 DR).mono ?_
    · rw [HX.out]
      exact (dfB_sums hdb).1
    · rw [HX.out]
      exact (dfB_sums hdb).2
    rintro e w7 ⟨v7, rfl, O7, hB7⟩
    have hI : apI s1 X = true := by rw [HX.out, ← ap_alike]; exact HA.out.1
    have hY : apY s1 X = s2 := by
      rw [apY_yes hI, HX.out]
      have := HA.out.2
      unfold apX at this
      rw [if_pos HA.out.1] at this
      exact this
    rw [hY] at O7
    rw [hI]
    clear hI hY p0 p1 p2 q0 q1 q2 q3 q4
    obtain ⟨y1, y2, y3, y4, rfl⟩ := sn_forms O7.a
    go_upto_region 11 with fail
    have hBe : Below w7.heap.size w7 (w7.alloc (.cells #[.int .i64 s2.num, .slice y1 s2.pol.length y2, .slice y3 s2.rv.length y4] 26)) := (Below.refl _ w7).alloc (Nat.le_refl _) _
    have F9 := Three.new w7 (.int .i64 s2.num) (.slice y1 s2.pol.length y2) (.slice y3 s2.rv.length y4) 26
    replace F2 := (F2.below hB7).below hBe
    replace hR2 := (hR2.below hB7).below hBe
    replace hBB := below_one (below_one hBB hB7) hBe
    have OA := O7.a.below hBe
    clear hB7 hBe O7
    generalize w7.alloc (.cells #[.int .i64 s2.num, .slice y1 s2.pol.length y2, .slice y3 s2.rv.length y4] 26) = W8 at *
    generalize w7.heap.size = k7 at *
    obtain ⟨p0, p1, p2⟩ := F9.c
    obtain ⟨r0, r1, r2⟩ := F2.c
    go_wp2_with fail
    refine (sameSnapshots_any _ _ s2 _ hs2 OA hR2.a).mono ?_
    rintro e w9 ⟨rfl, hB9⟩
    replace hBB := below_one hBB hB9
    clear p0 p1 p2 r0 r1 r2
    go_wp2
    go_ret
    exact ⟨rfl, hBB⟩

end Go.Proofs.YtoaeckcenobfcaaGreat

namespace Go.Proofs.YtoaeckcenobfcaaGreat
open Go.ChangeShapes Go.WideShapes Go.ChangeAt Go.RowKit

theorem u8_wf {x : Int} (h : (Lit.int .u8 x).wf = true) : ∃ k : Nat, k < 256 ∧ x = k := by
  have e1 : IntKind.u8.min = 0 := by decide
  have e2 : IntKind.u8.max = 255 := by decide
  simp [Lit.wf, e1, e2] at h
  exact ⟨x.toNat, by omega, by omega⟩

set_option maxRecDepth 100000 in
theorem openBy {H : Type} {enc : TypeId × Value → H} {W : World} {base : Nat} {v : Value} {d : DataW H} {p : List MemPlace} (hv : Value.okWide Tryz.prog W .any base 22 v) (h : DataW.Trod enc Tryz.prog W 0 (fun _ => true) true 22 v d p) :
    ∃ a n c, v = .slice a n c ∧ n ≤ c ∧ n ≤ maxLen ∧ (n ≤ 1048576 → ByS W a n) ∧ (∀ q, a = some q → q.block < W.heap.size) ∧ ((d = .nil ∧ n = 0) ∨ ∃ el sp, d = .slice el sp ∧ el.length + sp.length = c) := by
  obtain ⟨a, n, c, rfl⟩ := okWide_slice Tryz.underlying22 hv
  obtain ⟨fuel, hf⟩ := h
  rcases open_ints Tryz.underlying22 Tryz.underlying5 (by kernel_rfl) hf with ⟨hcs, hd⟩ | ⟨x, len, cap, zs, hcs, _, hl, hm, hz, hd, hcell, hwf⟩
  · simp [Value.cells] at hcs
    obtain ⟨rfl, rfl, rfl⟩ := hcs
    exact ⟨none, 0, 0, rfl, Nat.le_refl _, Nat.zero_le _, fun _ => ⟨by omega, fun i hi => by omega⟩, fun q hq => (by cases hq), .inl ⟨by simpa using (Prod.mk.inj hd).1, rfl⟩⟩
  · simp [Value.cells] at hcs
    obtain ⟨rfl, rfl, rfl⟩ := hcs
    have hzs : zs.length = c := hz
    have hhas : W.has Tryz.prog .any base x 5 c := by
      simp only [Value.okWide, Tryz.underlying22, Cell.okWide, Cell.ok] at hv
      exact hv.2.2
    obtain ⟨_, hs, row, cells, hsh, _⟩ := hhas
    obtain ⟨blk, off, spot⟩ := x
    obtain rfl : spot = none := hs
    refine ⟨_, n, c, rfl, hl, by omega, fun hn => ⟨hn, fun i hi => ?_⟩, fun q hq => ?_, .inr ⟨_, _, (Prod.mk.inj hd).1, by simp [lits]; omega⟩⟩
    · have h1 := hcell i (by omega)
      rw [Addr.add_lit] at h1
      obtain ⟨k, hk, hx⟩ := u8_wf (hwf (zs.getD i 0) (by rw [List.getD_eq_getElem?_getD, List.getElem?_eq_getElem (by omega)]; exact List.getElem_mem _))
      rw [hx] at h1
      exact ⟨blk, off, k, rfl, hk, h1⟩
    · cases hq
      by_cases hb : blk < W.heap.size
      · exact hb
      · simp only [World.shape?] at hsh
        rw [Array.getElem?_eq_none (by omega)] at hsh
        cases hsh

set_option maxRecDepth 100000 in
/-- No slice of bytes is longer than the machine's memory. -/
theorem reachBy {H : Type} {ts : List TypeId} {ds : List (DataW H)} {j n c : Nat} {d : DataW H} (h : (DataW.weightsEach Tryz.prog ts ds).all (· ≤ reachBytes) = true) (ht : ts[j]? = some 22) (hd : ds[j]? = some d) (hle : n ≤ c) (hs : (d = .nil ∧ n = 0) ∨ ∃ el sp, d = .slice el sp ∧ el.length + sp.length = c) : n ≤ 140737488351232 := by
  rcases hs with ⟨_, rfl⟩ | ⟨el, sp, rfl, hc⟩
  · omega
  · have h1 := sized_slice h ht hd Tryz.underlying22
    have h2 : Tryz.prog.bytesOf 5 = 1 := by kernel_rfl
    rw [h2] at h1
    unfold reachBytes at h1
    omega

end Go.Proofs.YtoaeckcenobfcaaGreat

namespace Go.Proofs.YtoaeckcenobfcaaGreat.fnDiffs
open Go.ChangeShapes Go.WideShapes Go.ChangeAt Go.RowKit Go.Joins Go.Deep Go.Proofs.YtoaeckcenobfcaaGreat

theorem own : ownKnob Tryz.prog.godebug = none := by kernel_rfl
theorem laidOut : laidOutB Tryz.prog = true := by kernel_rfl

set_option maxHeartbeats 2000000 in
theorem walk (a : Option Addr) (n c : Nat) (w : World) (hle : n ≤ c) (hn : n ≤ maxLen) (hB : n ≤ 1048576 → ByS w a n) (hap : ∀ p, a = some p → p.block < w.heap.size) :
    Calls Tryz.prog 3 #[.slice a n c] w fun e w' => e = .returned (.bool true) ∧ Below w.heap.size w w' := by
  by_cases hs : n ≤ 1048576
  · exact diffsWalk a n c w hle hs (hB hs) hap
  · unfold maxLen at hn
    have d1 : decide ((n : Int) > 1048576) = true := by simp; omega
    clear hB hap
    go_enter Tryz.func3, Tryz.ntmps3
    go_wp2
    go_ret
    exact ⟨rfl, Below.refl _ _⟩

set_option maxRecDepth 100000 in
theorem lifted (os : Os) (started : os.Started) (H : Type) (enc : TypeId × Value → H) :
    ReturnsInHanded {} Tryz.checked os 3 .any (Rows.fnDiffsSpec.pre6 enc Tryz.prog Tryz.f3 Rows.fnDiffsRow.domain false) (Rows.fnDiffsSpec.post enc Tryz.prog Tryz.f3 false true false false) := by
  refine returnsInHanded_of_change (C := Tryz.checked) own started (by kernel_rfl) Tryz.func3
    (ChangeSpec.witness6 (enc := enc) (C := Tryz.checked) false ⟨#[], #[.slice none 0 0], []⟩ 8 (by kernel_rfl) (by kernel_rfl) (by kernel_rfl) (by kernel_rfl)) ?_
  intro W base args ds gs before hval0 hW hcnd _
  have hval : ∀ (j : Nat) t v, Tryz.f3.params[j]? = some t → args[j]? = some v → Value.okWide Tryz.prog W .any base t v := hval0
  have hW' := hW
  obtain ⟨p, q, hA0, hV, rfl, _, _⟩ := hW
  have hA : DataW.TrodAll enc Tryz.prog W 0 (fun _ => true) true Tryz.f3.params.toList args.toList ds p := hA0
  rw [Tryz.params3] at hA hval
  obtain ⟨v0, vs0, d0, ds0, p0, q0, hargs, rfl, rfl, h0, r0⟩ := trodAll_cons hA
  obtain ⟨rfl, rfl, rfl⟩ := trodAll_nil r0
  obtain rfl : args = #[v0] := by cases args; simp_all
  obtain ⟨rfl, rfl⟩ := trodVars_none hV
  have k0 := h0
  have lt0 : ∀ x ∈ p0, x.block < W.heap.size := by obtain ⟨m, hm⟩ := k0; exact DataW.trod_lt m _ _ _ hm
  obtain ⟨a0, n0, c0, rfl, hle0, hm0, hB0, hap0, _⟩ := openBy (hval 0 22 v0 rfl rfl) h0
  clear hA0 hval0
  refine (walk a0 n0 c0 W hle0 hm0 hB0 hap0).mono fun e W' ⟨he, bel⟩ => ?_
  subst he
  exact ⟨_, rfl, _, _, _, [], _, [], hW', trodAll_mk1 (shut_bool Tryz.underlying4 _), (trodAll_cons_mk (Below.trod laidOut (by kernel_rfl) (of_decide_eq_true (by kernel_rfl)) k0 bel lt0) trodAll_mk0), rfl, bel.frame _, fun h => by cases h⟩

theorem over : Rows.fnDiffsRow.holds Tryz.pinned (OpenSpec.ofChange Rows.fnDiffsSpec) :=
  OpenClaim.holds_of_wide 3 Tryz.f3 rfl rfl rfl rfl rfl rfl rfl ⟨rfl, rfl, rfl, rfl, rfl⟩ rfl rfl rfl rfl rfl (by kernel_rfl) Tryz.func3 (by kernel_rfl)
    (of_decide_eq_true (by kernel_rfl)) (by unfold Func.isWrapper; first | (rw [if_pos (by decide +kernel)]; kernel_rfl) | (rw [if_neg (by decide +kernel)]; exact ⟨rfl, rfl⟩))
    (fun os started H enc _ => lifted os started H enc)

end Go.Proofs.YtoaeckcenobfcaaGreat.fnDiffs
namespace Go.Proofs.YtoaeckcenobfcaaGreat
theorem fnDiffs_holds : Rows.FnDiffsSaid := fnDiffs.over
#print axioms fnDiffs_holds
end Go.Proofs.YtoaeckcenobfcaaGreat
