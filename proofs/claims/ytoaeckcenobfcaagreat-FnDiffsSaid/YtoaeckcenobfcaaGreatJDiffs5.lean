/-
  The laws' comparison of two versions, where they read alike.
-/
import Derived.Test.YtoaeckcenobfcaaGreatJDiffs2
import Derived.Test.YtoaeckcenobfcaaGreatJDiffs3
import Derived.Shelf.Slices.Equal
import Derived.Test.YtoaeckcenobfcaaGreatJDiffs1
import Derived.Test.YtoaeckcenobfcaaGreatJDiffs4
import Derived.Laws.AppendOwnNone
import Derived.Deep.RegionHeld3
namespace Go.Proofs.YtoaeckcenobfcaaGreat
open Go.RowKit Go.Shelf

theorem dfB_no1 {a b : Sn} (h : snB a = false) : dfB a b = false := by unfold dfB; rw [h]; rfl
theorem dfB_no2 {a b : Sn} (h : snB b = false) : dfB a b = false := by unfold dfB; rw [h]; simp
theorem dfB_no3 {a b : Sn} (h : ¬ a.num < b.num) : dfB a b = false := by unfold dfB; rw [decide_eq_false h]; simp
theorem dfB_no4 {a b : Sn} (h : (woN a.rv b.rv).length ≠ 0) : dfB a b = false := by
  unfold dfB
  rw [Bool.and_eq_false_iff]
  right
  cases hw : woN a.rv b.rv with
  | nil => rw [hw] at h; exact absurd rfl h
  | cons x xs => rfl
theorem dfB_yes {a b : Sn} (h1 : snB a = true) (h2 : snB b = true) (h3 : a.num < b.num) (h4 : (woN a.rv b.rv).length = 0) : dfB a b = true := by
  unfold dfB
  rw [h1, h2, decide_eq_true h3, List.eq_nil_of_length_eq_zero h4]
  rfl

set_option maxHeartbeats 8000000 in
set_option maxRecDepth 100000 in
theorem implDiffOf_any (va vb : Value) (a b : Sn) (w : World) (hsa : a.short) (hsb : b.short) (ha : SnR w va a) (hb : SnR w vb b) :
    Calls Tryz.prog 6 #[va, vb] w fun e w' => ∃ v', e = .returned (.tuple #[v', .bool (dfB a b)]) ∧ DfO w' w.heap.size w'.heap.size v' (dfX a b) ∧ Below w.heap.size w w' := by
  obtain ⟨vpa, vra, rfl, ha1, ha2⟩ := ha
  obtain ⟨vpb, vrb, rfl, hb1, hb2⟩ := hb
  obtain ⟨pa, ca, rfl⟩ := ha1.len
  obtain ⟨ra, da, rfl⟩ := ha2.len
  obtain ⟨pb, cb, rfl⟩ := hb1.len
  obtain ⟨rb, db, rfl⟩ := hb2.len
  have la1 := hsa.1
  have la2 := hsa.2.1
  have lb1 := hsb.1
  have lb2 := hsb.2.1
  have hBB : Below w.heap.size w (((w.alloc (.cells #[.int .i64 a.num, .slice pa a.pol.length ca, .slice ra a.rv.length da] 26)).alloc (.cells #[.int .i64 b.num, .slice pb b.pol.length cb, .slice rb b.rv.length db] 26)).alloc (.cells #[.int .i64 0, .int .i64 0, .slice none 0 0, .slice none 0 0, .slice none 0 0] 30)) := (((Below.refl _ w).alloc (Nat.le_refl _) _).alloc (by simp) _).alloc (by simp; omega) _
  have F1 := ((Three.new w (.int .i64 a.num) (.slice pa a.pol.length ca) (.slice ra a.rv.length da) 26).below ((Below.refl _ _).alloc (Nat.le_refl _) (.cells #[.int .i64 b.num, .slice pb b.pol.length cb, .slice rb b.rv.length db] 26))).below ((Below.refl _ _).alloc (Nat.le_refl _) (.cells #[.int .i64 0, .int .i64 0, .slice none 0 0, .slice none 0 0, .slice none 0 0] 30))
  have F2 := (Three.at (w.alloc (.cells #[.int .i64 a.num, .slice pa a.pol.length ca, .slice ra a.rv.length da] 26)) (.int .i64 b.num) (.slice pb b.pol.length cb) (.slice rb b.rv.length db) 26 (k := w.heap.size + 1) (by simp)).below ((Below.refl _ _).alloc (Nat.le_refl _) (.cells #[.int .i64 0, .int .i64 0, .slice none 0 0, .slice none 0 0, .slice none 0 0] 30))
  have F3 := Five.at ((w.alloc (.cells #[.int .i64 a.num, .slice pa a.pol.length ca, .slice ra a.rv.length da] 26)).alloc (.cells #[.int .i64 b.num, .slice pb b.pol.length cb, .slice rb b.rv.length db] 26)) (.int .i64 0) (.int .i64 0) (.slice none 0 0) (.slice none 0 0) (.slice none 0 0) 30 (k := w.heap.size + 1 + 1) (by simp)
  go_enter Tryz.func6, Tryz.ntmps6
  go_wp2_with fail
  generalize ((w.alloc (.cells #[.int .i64 a.num, .slice pa a.pol.length ca, .slice ra a.rv.length da] 26)).alloc (.cells #[.int .i64 b.num, .slice pb b.pol.length cb, .slice rb b.rv.length db] 26)).alloc (.cells #[.int .i64 0, .int .i64 0, .slice none 0 0, .slice none 0 0, .slice none 0 0] 30) = W0 at *
  refine (implGoodSnapshot_any _ a _ hsa ⟨_, _, rfl, ha1.below hBB, ha2.below hBB⟩).mono ?_
  rintro e w1 ⟨rfl, hB1⟩
  replace F1 := F1.below hB1
  replace F2 := F2.below hB1
  replace F3 := F3.below hB1
  replace hBB := below_one hBB hB1
  clear hB1
  cases hA : snB a
  · have HR := hid (dfB_no1 (b := b) hA)
    have HX := hid (dfX_no HR.out)
    obtain ⟨r0, r1, r2, r3, r4⟩ := F3.c
    have f0 := F3.f 0
    have f1 := F3.f 1
    have f2 := F3.f 2
    have f3 := F3.f 3
    have f4 := F3.f 4
    have G := ((((F3.s0 (.int .i64 0)).s1 (.int .i64 0)).s2 (.slice none 0 0)).s3 (.slice none 0 0)).s4 (.slice none 0 0)
    have pB := below_five hBB (k := w.heap.size + 1 + 1) (by omega) (.int .i64 0) (.int .i64 0) (.slice none 0 0) (.slice none 0 0) (.slice none 0 0)
    go_wp2_with fail
    clear r0 r1 r2 r3 r4 f0 f1 f2 f3 f4
    generalize (((((w1.setCell ⟨w.heap.size + 1 + 1, 0, none⟩ (.int .i64 0)).setCell ⟨w.heap.size + 1 + 1, 1, none⟩ (.int .i64 0)).setCell ⟨w.heap.size + 1 + 1, 2, none⟩ (.slice none 0 0)).setCell ⟨w.heap.size + 1 + 1, 3, none⟩ (.slice none 0 0)).setCell ⟨w.heap.size + 1 + 1, 4, none⟩ (.slice none 0 0)) = W9 at *
    obtain ⟨d0, d1, d2, d3, d4⟩ := G.c
    exact bodyPost_ret (v := .tuple #[.agg #[.int .i64 0, .int .i64 0, .slice none 0 0, .slice none 0 0, .slice none 0 0], .bool false]) (by simp [results, Tryz.results6, go_sem, d0, d1, d2, d3, d4]) rfl ⟨_, by rw [HR.out], by rw [HX.out]; exact DfO.none _ _ _, pB⟩
  obtain ⟨b0, b1, b2⟩ := F2.c
  go_wp2_with fail
  refine (implGoodSnapshot_any _ b _ hsb ⟨_, _, rfl, hb1.below hBB, hb2.below hBB⟩).mono ?_
  rintro e w2 ⟨rfl, hB2⟩
  replace F1 := F1.below hB2
  replace F2 := F2.below hB2
  replace F3 := F3.below hB2
  replace hBB := below_one hBB hB2
  clear hB2 b0 b1 b2
  obtain ⟨a0, a1, a2⟩ := F1.c
  obtain ⟨b0, b1, b2⟩ := F2.c
  cases hB : snB b
  · have HR := hid (dfB_no2 (a := a) hB)
    have HX := hid (dfX_no HR.out)
    obtain ⟨r0, r1, r2, r3, r4⟩ := F3.c
    have f0 := F3.f 0
    have f1 := F3.f 1
    have f2 := F3.f 2
    have f3 := F3.f 3
    have f4 := F3.f 4
    have G := ((((F3.s0 (.int .i64 0)).s1 (.int .i64 0)).s2 (.slice none 0 0)).s3 (.slice none 0 0)).s4 (.slice none 0 0)
    have pB := below_five hBB (k := w.heap.size + 1 + 1) (by omega) (.int .i64 0) (.int .i64 0) (.slice none 0 0) (.slice none 0 0) (.slice none 0 0)
    go_wp2_with fail
    clear r0 r1 r2 r3 r4 f0 f1 f2 f3 f4
    generalize (((((w2.setCell ⟨w.heap.size + 1 + 1, 0, none⟩ (.int .i64 0)).setCell ⟨w.heap.size + 1 + 1, 1, none⟩ (.int .i64 0)).setCell ⟨w.heap.size + 1 + 1, 2, none⟩ (.slice none 0 0)).setCell ⟨w.heap.size + 1 + 1, 3, none⟩ (.slice none 0 0)).setCell ⟨w.heap.size + 1 + 1, 4, none⟩ (.slice none 0 0)) = W9 at *
    obtain ⟨d0, d1, d2, d3, d4⟩ := G.c
    exact bodyPost_ret (v := .tuple #[.agg #[.int .i64 0, .int .i64 0, .slice none 0 0, .slice none 0 0, .slice none 0 0], .bool false]) (by simp [results, Tryz.results6, go_sem, d0, d1, d2, d3, d4]) rfl ⟨_, by rw [HR.out], by rw [HX.out]; exact DfO.none _ _ _, pB⟩
  by_cases hlt : a.num < b.num
  case neg =>
    have HR := hid (dfB_no3 hlt)
    have HX := hid (dfX_no HR.out)
    have dge : decide (b.num ≤ a.num) = true := by simp; omega
    obtain ⟨r0, r1, r2, r3, r4⟩ := F3.c
    have f0 := F3.f 0
    have f1 := F3.f 1
    have f2 := F3.f 2
    have f3 := F3.f 3
    have f4 := F3.f 4
    have G := ((((F3.s0 (.int .i64 0)).s1 (.int .i64 0)).s2 (.slice none 0 0)).s3 (.slice none 0 0)).s4 (.slice none 0 0)
    have pB := below_five hBB (k := w.heap.size + 1 + 1) (by omega) (.int .i64 0) (.int .i64 0) (.slice none 0 0) (.slice none 0 0) (.slice none 0 0)
    go_wp2_with fail
    clear r0 r1 r2 r3 r4 f0 f1 f2 f3 f4
    generalize (((((w2.setCell ⟨w.heap.size + 1 + 1, 0, none⟩ (.int .i64 0)).setCell ⟨w.heap.size + 1 + 1, 1, none⟩ (.int .i64 0)).setCell ⟨w.heap.size + 1 + 1, 2, none⟩ (.slice none 0 0)).setCell ⟨w.heap.size + 1 + 1, 3, none⟩ (.slice none 0 0)).setCell ⟨w.heap.size + 1 + 1, 4, none⟩ (.slice none 0 0)) = W9 at *
    obtain ⟨d0, d1, d2, d3, d4⟩ := G.c
    exact bodyPost_ret (v := .tuple #[.agg #[.int .i64 0, .int .i64 0, .slice none 0 0, .slice none 0 0, .slice none 0 0], .bool false]) (by simp [results, Tryz.results6, go_sem, d0, d1, d2, d3, d4]) rfl ⟨_, by rw [HR.out], by rw [HX.out]; exact DfO.none _ _ _, pB⟩
  have dge : decide (b.num ≤ a.num) = false := by simp; omega
  go_wp2_with fail
  refine (withoutN_any _ _ a.rv b.rv _ (by omega) (by omega) (ha2.below hBB).s (hb2.below hBB).s).mono ?_
  rintro e w3 ⟨u3, rfl, o3, hB3⟩
  obtain ⟨x3, c3, rfl⟩ := ownsRow_len o3
  replace F1 := F1.below hB3
  replace F2 := F2.below hB3
  replace F3 := F3.below hB3
  replace hBB := below_one hBB hB3
  clear hB3 a0 a1 a2 b0 b1 b2 o3
  by_cases hl0 : (woN a.rv b.rv).length = 0
  case neg =>
    have HR := hid (dfB_no4 hl0)
    have HX := hid (dfX_no HR.out)
    have hln : (woN a.rv b.rv).length ≤ 1048577 := by have := woN_len a.rv b.rv; omega
    have dl : decide ((0 : Int) < ((woN a.rv b.rv).length : Int)) = true := by simp; omega
    obtain ⟨r0, r1, r2, r3, r4⟩ := F3.c
    have f0 := F3.f 0
    have f1 := F3.f 1
    have f2 := F3.f 2
    have f3 := F3.f 3
    have f4 := F3.f 4
    have G := ((((F3.s0 (.int .i64 0)).s1 (.int .i64 0)).s2 (.slice none 0 0)).s3 (.slice none 0 0)).s4 (.slice none 0 0)
    have pB := below_five hBB (k := w.heap.size + 1 + 1) (by omega) (.int .i64 0) (.int .i64 0) (.slice none 0 0) (.slice none 0 0) (.slice none 0 0)
    go_wp2_with fail
    clear r0 r1 r2 r3 r4 f0 f1 f2 f3 f4
    generalize (((((w3.setCell ⟨w.heap.size + 1 + 1, 0, none⟩ (.int .i64 0)).setCell ⟨w.heap.size + 1 + 1, 1, none⟩ (.int .i64 0)).setCell ⟨w.heap.size + 1 + 1, 2, none⟩ (.slice none 0 0)).setCell ⟨w.heap.size + 1 + 1, 3, none⟩ (.slice none 0 0)).setCell ⟨w.heap.size + 1 + 1, 4, none⟩ (.slice none 0 0)) = W9 at *
    obtain ⟨d0, d1, d2, d3, d4⟩ := G.c
    exact bodyPost_ret (v := .tuple #[.agg #[.int .i64 0, .int .i64 0, .slice none 0 0, .slice none 0 0, .slice none 0 0], .bool false]) (by simp [results, Tryz.results6, go_sem, d0, d1, d2, d3, d4]) rfl ⟨_, by rw [HR.out], by rw [HX.out]; exact DfO.none _ _ _, pB⟩
  have HR := hid (dfB_yes hA hB hlt hl0)
  have HX := hid (dfX_yes HR.out)
  rw [hl0]
  clear hl0 dge
  obtain ⟨a0, a1, a2⟩ := F1.c
  obtain ⟨b0, b1, b2⟩ := F2.c
  have n02 : w.heap.size ≠ w.heap.size + 1 + 1 := by omega
  have n20 : w.heap.size + 1 + 1 ≠ w.heap.size := by omega
  have n12 : w.heap.size + 1 ≠ w.heap.size + 1 + 1 := by omega
  have n21 : w.heap.size + 1 + 1 ≠ w.heap.size + 1 := by omega
  go_wp2_with fail
  refine wp_region_held_drew (S := fun w' => w'.cell? ⟨w.heap.size, 0, none⟩ = some (.int .i64 a.num) ∧ w'.cell? ⟨w.heap.size, 1, none⟩ = some (.slice pa a.pol.length ca) ∧ w'.cell? ⟨w.heap.size, 2, none⟩ = some (.slice ra a.rv.length da) ∧ w'.cell? ⟨w.heap.size + 1, 0, none⟩ = some (.int .i64 b.num) ∧ w'.cell? ⟨w.heap.size + 1, 1, none⟩ = some (.slice pb b.pol.length cb) ∧ w'.cell? ⟨w.heap.size + 1, 2, none⟩ = some (.slice rb b.rv.length db)) (by kernel_rfl) ?_ (fun hHeld => ?_)
  · go_keep
  refine takeW 0 (v := ?v1) rfl (by kernel_rfl) (by kernel_rfl) (by kernel_rfl) (fun _ _ _ h => h) (by rfl) (by assumption) ?hy1 ?rest1
  case hy1 => intro w' hSw; (try dsimp only at hSw); go_simp; try with_reducible rfl
  try simp only [Act.put, List.setIfInBounds_toArray, List.set_cons_zero, List.set_cons_succ]
  refine takeW 1 (v := ?v2) rfl (by kernel_rfl) (by kernel_rfl) (by kernel_rfl) (fun _ _ _ h => h) (by rfl) (by assumption) ?hy2 ?rest2
  case hy2 => intro w' hSw; (try dsimp only at hSw); go_simp; try with_reducible rfl
  try simp only [Act.put, List.setIfInBounds_toArray, List.set_cons_zero, List.set_cons_succ]
  refine takeW 2 (v := ?v3) rfl (by kernel_rfl) (by kernel_rfl) (by kernel_rfl) (fun _ _ _ h => h) (by rfl) (by assumption) ?hy3 ?rest3
  case hy3 => intro w' hSw; (try dsimp only at hSw); go_simp; try with_reducible rfl
  try simp only [Act.put, List.setIfInBounds_toArray, List.set_cons_zero, List.set_cons_succ]
  refine takeW 3 (v := ?v4) rfl (by kernel_rfl) (by kernel_rfl) (by kernel_rfl) (fun _ _ _ h => h) (by rfl) (by assumption) ?hy4 ?rest4
  case hy4 => intro w' hSw; (try dsimp only at hSw); go_simp; try with_reducible rfl
  try simp only [Act.put, List.setIfInBounds_toArray, List.set_cons_zero, List.set_cons_succ]
  refine takeW 4 (v := ?v5) rfl (by kernel_rfl) (by kernel_rfl) (by kernel_rfl) (fun _ _ _ h => h) (by rfl) (by assumption) ?hy5 ?rest5
  case hy5 => intro w' hSw; (try dsimp only at hSw); go_simp; try with_reducible rfl
  try simp only [Act.put, List.setIfInBounds_toArray, List.set_cons_zero, List.set_cons_succ]
  refine takeW 5 (v := ?v6) rfl (by kernel_rfl) (by kernel_rfl) (by kernel_rfl) (fun _ _ _ h => h) (by rfl) (by assumption) ?hy6 ?rest6
  case hy6 => intro w' hSw; (try dsimp only at hSw); go_simp; try with_reducible rfl
  try simp only [Act.put, List.setIfInBounds_toArray, List.set_cons_zero, List.set_cons_succ]
  refine takeW 6 (v := ?v7) rfl (by kernel_rfl) (by kernel_rfl) (by kernel_rfl) (fun _ _ _ h => h) (by rfl) (by assumption) ?hy7 ?rest7
  case hy7 => intro w' hSw; (try dsimp only at hSw); go_simp; try with_reducible rfl
  try simp only [Act.put, List.setIfInBounds_toArray, List.set_cons_zero, List.set_cons_succ]
  refine takeW 7 (v := ?v8) rfl (by kernel_rfl) (by kernel_rfl) (by kernel_rfl) (fun _ _ _ h => h) (by rfl) (by assumption) ?hy8 ?rest8
  case hy8 => intro w' hSw; (try dsimp only at hSw); go_simp; try with_reducible rfl
  try simp only [Act.put, List.setIfInBounds_toArray, List.set_cons_zero, List.set_cons_succ]
  refine takeW 9 (v := ?v9) rfl (by kernel_rfl) (by kernel_rfl) (by kernel_rfl) (fun _ _ _ h => h) (by rfl) (by assumption) ?hy9 ?rest9
  case hy9 => intro w' hSw; (try dsimp only at hSw); go_simp; try with_reducible rfl
  try simp only [Act.put, List.setIfInBounds_toArray, List.set_cons_zero, List.set_cons_succ]
  refine takeW 10 (v := ?v10) rfl (by kernel_rfl) (by kernel_rfl) (by kernel_rfl) (fun _ _ _ h => h) (by rfl) (by assumption) ?hy10 ?rest10
  case hy10 => intro w' hSw; (try dsimp only at hSw); go_simp; try with_reducible rfl
  try simp only [Act.put, List.setIfInBounds_toArray, List.set_cons_zero, List.set_cons_succ]
  refine takeW 11 (v := ?v11) rfl (by kernel_rfl) (by kernel_rfl) (by kernel_rfl) (fun _ _ _ h => h) (by rfl) (by assumption) ?hy11 ?rest11
  case hy11 => intro w' hSw; (try dsimp only at hSw); go_simp; try with_reducible rfl
  try simp only [Act.put, List.setIfInBounds_toArray, List.set_cons_zero, List.set_cons_succ]
  refine takeW 12 (v := ?v12) rfl (by kernel_rfl) (by kernel_rfl) (by kernel_rfl) (fun _ _ _ h => h) (by rfl) (by assumption) ?hy12 ?rest12
  case hy12 => intro w' hSw; (try dsimp only at hSw); go_simp; try with_reducible rfl
  try simp only [Act.put, List.setIfInBounds_toArray, List.set_cons_zero, List.set_cons_succ]
  refine takeW 14 (v := ?v13) rfl (by kernel_rfl) (by kernel_rfl) (by kernel_rfl) (fun _ _ _ h => h) (by rfl) (by assumption) ?hy13 ?rest13
  case hy13 => intro w' hSw; (try dsimp only at hSw); go_simp; try with_reducible rfl
  try simp only [Act.put, List.setIfInBounds_toArray, List.set_cons_zero, List.set_cons_succ]
  refine takeW 15 (v := ?v14) rfl (by kernel_rfl) (by kernel_rfl) (by kernel_rfl) (fun _ _ _ h => h) (by rfl) (by assumption) ?hy14 ?rest14
  case hy14 => intro w' hSw; (try dsimp only at hSw); go_simp; try with_reducible rfl
  try simp only [Act.put, List.setIfInBounds_toArray, List.set_cons_zero, List.set_cons_succ]
  refine takeW 16 (v := ?v15) rfl (by kernel_rfl) (by kernel_rfl) (by kernel_rfl) (fun _ _ _ h => h) (by rfl) (by assumption) ?hy15 ?rest15
  case hy15 => intro w' hSw; (try dsimp only at hSw); go_simp; try with_reducible rfl
  try simp only [Act.put, List.setIfInBounds_toArray, List.set_cons_zero, List.set_cons_succ]
  refine takeW 17 (v := ?v16) rfl (by kernel_rfl) (by kernel_rfl) (by kernel_rfl) (fun _ _ _ h => h) (by rfl) (by assumption) ?hy16 ?rest16
  case hy16 => intro w' hSw; (try dsimp only at hSw); go_simp; try with_reducible rfl
  try simp only [Act.put, List.setIfInBounds_toArray, List.set_cons_zero, List.set_cons_succ]
  refine takeC 8 (by kernel_rfl) rfl (fun K hK => ?_)
  go_simp
  refine (withoutR_any _ _ a.pol b.pol _ (by omega) (by omega) (by exact (ha1.below hBB).s.below (Below.refl _ _).drew) (by exact (hb1.below hBB).below (Below.refl _ _).drew)).mono ?_; rintro e w4 ⟨u4, rfl, o4, hB4⟩; obtain ⟨x4, y4, z4, rfl⟩ := row_slice o4; have hD4 : Below w3.heap.size w3 w4 := below_drew1 hB4; have hca4 := fun o => hB4.cell (p := ⟨w.heap.size, o, none⟩) (by exact F1.lt); have hcb4 := fun o => hB4.cell (p := ⟨w.heap.size + 1, o, none⟩) (by exact F2.lt); have G1 : Three w4 _ _ _ _ _ := F1.below hD4; have G2 : Three w4 _ _ _ _ _ := F2.below hD4; have G3 : Five w4 _ _ _ _ _ _ _ := F3.below hD4; have hBB4 := below_one hBB hD4
  refine hK.out _ _ ?_ (fun hHeld => ?_)
  · go_keep
  clear hK K
  try simp only [Act.put, List.setIfInBounds_toArray, List.set_cons_zero, List.set_cons_succ]
  refine takeC 13 (by kernel_rfl) rfl (fun K hK => ?_)
  go_simp
  refine (withoutR_any _ _ b.pol a.pol _ (by omega) (by omega) (hb1.below hBB4).s (ha1.below hBB4)).mono ?_; rintro e w5 ⟨u5, rfl, o5, hB5⟩; obtain ⟨x5, y5, z5, rfl⟩ := row_slice o5; have hca5 := fun o => hB5.cell (p := ⟨w.heap.size, o, none⟩) (by exact G1.lt); have hcb5 := fun o => hB5.cell (p := ⟨w.heap.size + 1, o, none⟩) (by exact G2.lt); have H1 := G1.below hB5; have H2 := G2.below hB5; have H3 := G3.below hB5; have hBB5 := below_one hBB4 hB5; have o4' := ownsRow_below o4 hB5
  refine hK.out _ _ ?_ (fun hHeld => ?_)
  · go_keep
  clear hK K
  try simp only [Act.put, List.setIfInBounds_toArray, List.set_cons_zero, List.set_cons_succ]
  refine takeC 18 (by kernel_rfl) rfl (fun K hK => ?_)
  go_simp
  refine (withoutN_any _ _ b.rv a.rv _ (by omega) (by omega) (hb2.below hBB5).s (ha2.below hBB5).s).mono ?_; rintro e w6 ⟨u6, rfl, o6, hB6⟩; obtain ⟨x6, y6, z6, rfl⟩ := row_slice o6; have hca6 := fun o => hB6.cell (p := ⟨w.heap.size, o, none⟩) (by exact H1.lt); have hcb6 := fun o => hB6.cell (p := ⟨w.heap.size + 1, o, none⟩) (by exact H2.lt); have I3 := H3.below hB6; have hBB6 := below_one hBB5 hB6; have o4'' := ownsRow_below o4' hB6; have o5' := ownsRow_below o5 hB6; obtain ⟨r0, r1, r2, r3, r4⟩ := I3.c; have f0 := I3.f 0; have f1 := I3.f 1; have f2 := I3.f 2; have f3 := I3.f 3; have f4 := I3.f 4
  refine hK.out _ _ ?_ (fun hHeld => ?_)
  · go_keep
  clear hK K
  try simp only [Act.put, List.setIfInBounds_toArray, List.set_cons_zero, List.set_cons_succ]
  refine takeW 19 (v := ?v17) rfl (by kernel_rfl) (by kernel_rfl) (by kernel_rfl) (fun _ _ _ h => h) (by rfl) (by assumption) ?hy17 ?rest17
  case hy17 => intro w' hSw; (try dsimp only at hSw); go_simp; try with_reducible rfl
  try simp only [Act.put, List.setIfInBounds_toArray, List.set_cons_zero, List.set_cons_succ]
  refine takeC 20 (by kernel_rfl) rfl (fun K hK => ?_)
  go_simp
  skip
  refine hK.out _ _ ?_ (fun hHeld => ?_)
  · go_keep
  clear hK K
  try simp only [Act.put, List.setIfInBounds_toArray, List.set_cons_zero, List.set_cons_succ]
  refine takeW 21 (v := ?v18) rfl (by kernel_rfl) (by kernel_rfl) (by kernel_rfl) (fun _ _ _ h => h) (by rfl) (by assumption) ?hy18 ?rest18
  case hy18 => intro w' hSw; (try dsimp only at hSw); go_simp; try with_reducible rfl
  try simp only [Act.put, List.setIfInBounds_toArray, List.set_cons_zero, List.set_cons_succ]
  refine wpAnyH_done (by kernel_rfl) ?_ _
  have G := ((((I3.s0 (.int .i64 a.num)).s1 (.int .i64 b.num)).s2 (.slice x4 y4 z4)).s3 (.slice x5 y5 z5)).s4 (.slice x6 y6 z6)
  have q4 := row_five o4'' (k := w.heap.size + 1 + 1) F3.lt (.int .i64 a.num) (.int .i64 b.num) (.slice x4 y4 z4) (.slice x5 y5 z5) (.slice x6 y6 z6)
  have q5 := row_five o5' (k := w.heap.size + 1 + 1) G3.lt (.int .i64 a.num) (.int .i64 b.num) (.slice x4 y4 z4) (.slice x5 y5 z5) (.slice x6 y6 z6)
  have q6 := row_five o6 (k := w.heap.size + 1 + 1) H3.lt (.int .i64 a.num) (.int .i64 b.num) (.slice x4 y4 z4) (.slice x5 y5 z5) (.slice x6 y6 z6)
  have pB := below_five hBB6 (k := w.heap.size + 1 + 1) (by omega) (.int .i64 a.num) (.int .i64 b.num) (.slice x4 y4 z4) (.slice x5 y5 z5) (.slice x6 y6 z6)
  have s3 := hBB.size
  have s4 := hBB4.size
  have s5 := hBB5.size
  have hap : ∀ k, (Value.slice x4 y4 z4).ownBlock = some k → (Value.slice x5 y5 z5).ownBlock = some k → False := fun k h1 h2 => by
    have := (o4.lt k h1).2
    have := (o5.lt k h2).1
    omega
  go_wp2_with fail
  clear r0 r1 r2 r3 r4 f0 f1 f2 f3 f4 hHeld hca4 hcb4 hca5 hcb5 hca6 hcb6
  generalize (((((w6.setCell ⟨w.heap.size + 1 + 1, 0, none⟩ (.int .i64 a.num)).setCell ⟨w.heap.size + 1 + 1, 1, none⟩ (.int .i64 b.num)).setCell ⟨w.heap.size + 1 + 1, 2, none⟩ (.slice x4 y4 z4)).setCell ⟨w.heap.size + 1 + 1, 3, none⟩ (.slice x5 y5 z5)).setCell ⟨w.heap.size + 1 + 1, 4, none⟩ (.slice x6 y6 z6)) = W9 at *
  obtain ⟨d0, d1, d2, d3, d4⟩ := G.c
  exact bodyPost_ret (v := .tuple #[.agg #[.int .i64 a.num, .int .i64 b.num, .slice x4 y4 z4, .slice x5 y5 z5, .slice x6 y6 z6], .bool true]) (by simp [results, Tryz.results6, go_sem, d0, d1, d2, d3, d4]) rfl ⟨_, by rw [HR.out], by rw [HX.out]; exact ⟨_, _, _, rfl, Go.Joins.ownsRow_le q4 s3, Go.Joins.ownsRow_le q5 s4, Go.Joins.ownsRow_le q6 s5, fun k hk => (q4.lt k hk).2, fun k hk => (q5.lt k hk).2, fun k hk => (q6.lt k hk).2, hap⟩, pB⟩

end Go.Proofs.YtoaeckcenobfcaaGreat

namespace Go.Proofs.YtoaeckcenobfcaaGreat
open Go.RowKit Go.Shelf

theorem woN_nil {a b : List Int} (h : ∀ j (hj : j < a.length), isI b a[j] = true) : (woN a b).length = 0 := by
  have : woN a b = [] := by
    unfold woN
    rw [List.filter_eq_nil_iff]
    intro x hx
    obtain ⟨i, hi, rfl⟩ := List.getElem_of_mem hx
    rw [h i hi]
    simp
  rw [this]
  rfl
/-- Stores into another block leave a row as it is. -/
theorem row_away {w : World} {base : Nat} {e : TypeId} {size n : Nat} {v : Value} {xs : List Value} (h : w.ownsRow base e size v n xs) {k : Nat} (hk : ∀ j, v.ownBlock = some j → j ≠ k) (x0 x1 x2 x3 x4 : Value) : (((((w.setCell ⟨k, 0, none⟩ x0).setCell ⟨k, 1, none⟩ x1).setCell ⟨k, 2, none⟩ x2).setCell ⟨k, 3, none⟩ x3).setCell ⟨k, 4, none⟩ x4).ownsRow base e size v n xs := by
  have hb : v.ownBlock ≠ some k := fun e => hk k e rfl
  exact ownsRow_setCell_other (ownsRow_setCell_other (ownsRow_setCell_other (ownsRow_setCell_other (ownsRow_setCell_other h (a := ⟨k, 0, none⟩) hb x0) (a := ⟨k, 1, none⟩) hb x1) (a := ⟨k, 2, none⟩) hb x2) (a := ⟨k, 3, none⟩) hb x3) (a := ⟨k, 4, none⟩) hb x4
theorem woN_some {a b : List Int} {j : Nat} (hj : j < a.length) (h : isI b a[j] = false) : (woN a b).length ≠ 0 := by
  intro h0
  have hn := List.eq_nil_of_length_eq_zero h0
  unfold woN at hn
  rw [List.filter_eq_nil_iff] at hn
  have := hn a[j] (List.getElem_mem hj)
  rw [h] at this
  simp at this

set_option maxHeartbeats 8000000 in
set_option maxRecDepth 100000 in
theorem specDiffOf_any (va vb : Value) (a b : Sn) (w : World) (hsa : a.short) (hsb : b.short) (ha : SnA w va a) (hb : SnA w vb b) :
    Calls Tryz.prog 7 #[va, vb] w fun e w' => ∃ v', e = .returned (.tuple #[v', .bool (dfB a b)]) ∧ DfO w' w.heap.size w'.heap.size v' (dfX a b) ∧ Below w.heap.size w w' := by
  obtain ⟨vpa, vra, rfl, ha1, ha2⟩ := ha
  obtain ⟨vpb, vrb, rfl, hb1, hb2⟩ := hb
  obtain ⟨pa, ca, rfl⟩ := ha1.len
  obtain ⟨ra, da, rfl⟩ := ha2.numLen
  obtain ⟨pb, cb, rfl⟩ := hb1.len
  obtain ⟨rb, db, rfl⟩ := hb2.numLen
  obtain ⟨i0, hi, hz0, hz1, hz2⟩ := info_parts infoInt
  have la1 := hsa.1
  have la2 := hsa.2.1
  have lb1 := hsb.1
  have lb2 := hsb.2.1
  have hBB : Below w.heap.size w (((w.alloc (.cells #[.int .i64 a.num, .slice pa a.pol.length ca, .slice ra a.rv.length da] 26)).alloc (.cells #[.int .i64 b.num, .slice pb b.pol.length cb, .slice rb b.rv.length db] 26)).alloc (.cells #[.int .i64 0, .int .i64 0, .slice none 0 0, .slice none 0 0, .slice none 0 0] 30)) := (((Below.refl _ w).alloc (Nat.le_refl _) _).alloc (by simp) _).alloc (by simp; omega) _
  have F1 := ((Three.new w (.int .i64 a.num) (.slice pa a.pol.length ca) (.slice ra a.rv.length da) 26).below ((Below.refl _ _).alloc (Nat.le_refl _) (.cells #[.int .i64 b.num, .slice pb b.pol.length cb, .slice rb b.rv.length db] 26))).below ((Below.refl _ _).alloc (Nat.le_refl _) (.cells #[.int .i64 0, .int .i64 0, .slice none 0 0, .slice none 0 0, .slice none 0 0] 30))
  have F2 := (Three.at (w.alloc (.cells #[.int .i64 a.num, .slice pa a.pol.length ca, .slice ra a.rv.length da] 26)) (.int .i64 b.num) (.slice pb b.pol.length cb) (.slice rb b.rv.length db) 26 (k := w.heap.size + 1) (by simp)).below ((Below.refl _ _).alloc (Nat.le_refl _) (.cells #[.int .i64 0, .int .i64 0, .slice none 0 0, .slice none 0 0, .slice none 0 0] 30))
  have F3 := Five.at ((w.alloc (.cells #[.int .i64 a.num, .slice pa a.pol.length ca, .slice ra a.rv.length da] 26)).alloc (.cells #[.int .i64 b.num, .slice pb b.pol.length cb, .slice rb b.rv.length db] 26)) (.int .i64 0) (.int .i64 0) (.slice none 0 0) (.slice none 0 0) (.slice none 0 0) 30 (k := w.heap.size + 1 + 1) (by simp)
  go_enter Tryz.func7, Tryz.ntmps7
  go_wp2_with fail
  generalize ((w.alloc (.cells #[.int .i64 a.num, .slice pa a.pol.length ca, .slice ra a.rv.length da] 26)).alloc (.cells #[.int .i64 b.num, .slice pb b.pol.length cb, .slice rb b.rv.length db] 26)).alloc (.cells #[.int .i64 0, .int .i64 0, .slice none 0 0, .slice none 0 0, .slice none 0 0] 30) = W0 at *
  refine (specGoodSnapshot_any _ a _ hsa ⟨_, _, rfl, ha1.below hBB, ha2.below hBB⟩).mono ?_
  rintro e w1 ⟨rfl, hB1⟩
  replace F1 := F1.below hB1
  replace F2 := F2.below hB1
  replace F3 := F3.below hB1
  replace hBB := below_one hBB hB1
  clear hB1
  cases hA : snB a
  · have HR := hid (dfB_no1 (b := b) hA)
    have HX := hid (dfX_no HR.out)
    obtain ⟨r0, r1, r2, r3, r4⟩ := F3.c
    have f0 := F3.f 0
    have f1 := F3.f 1
    have f2 := F3.f 2
    have f3 := F3.f 3
    have f4 := F3.f 4
    have G := ((((F3.s0 (.int .i64 0)).s1 (.int .i64 0)).s2 (.slice none 0 0)).s3 (.slice none 0 0)).s4 (.slice none 0 0)
    have pB := below_five hBB (k := w.heap.size + 1 + 1) (by omega) (.int .i64 0) (.int .i64 0) (.slice none 0 0) (.slice none 0 0) (.slice none 0 0)
    go_wp2_with fail
    clear r0 r1 r2 r3 r4 f0 f1 f2 f3 f4
    generalize (((((w1.setCell ⟨w.heap.size + 1 + 1, 0, none⟩ (.int .i64 0)).setCell ⟨w.heap.size + 1 + 1, 1, none⟩ (.int .i64 0)).setCell ⟨w.heap.size + 1 + 1, 2, none⟩ (.slice none 0 0)).setCell ⟨w.heap.size + 1 + 1, 3, none⟩ (.slice none 0 0)).setCell ⟨w.heap.size + 1 + 1, 4, none⟩ (.slice none 0 0)) = W9 at *
    obtain ⟨d0, d1, d2, d3, d4⟩ := G.c
    exact bodyPost_ret (v := .tuple #[.agg #[.int .i64 0, .int .i64 0, .slice none 0 0, .slice none 0 0, .slice none 0 0], .bool false]) (by simp [results, Tryz.results7, go_sem, d0, d1, d2, d3, d4]) rfl ⟨_, by rw [HR.out], by rw [HX.out]; exact DfO.none _ _ _, pB⟩
  obtain ⟨b0, b1, b2⟩ := F2.c
  go_wp2_with fail
  refine (specGoodSnapshot_any _ b _ hsb ⟨_, _, rfl, hb1.below hBB, hb2.below hBB⟩).mono ?_
  rintro e w2 ⟨rfl, hB2⟩
  replace F1 := F1.below hB2
  replace F2 := F2.below hB2
  replace F3 := F3.below hB2
  replace hBB := below_one hBB hB2
  clear hB2 b0 b1 b2
  obtain ⟨a0, a1, a2⟩ := F1.c
  obtain ⟨b0, b1, b2⟩ := F2.c
  cases hB : snB b
  · have HR := hid (dfB_no2 (a := a) hB)
    have HX := hid (dfX_no HR.out)
    obtain ⟨r0, r1, r2, r3, r4⟩ := F3.c
    have f0 := F3.f 0
    have f1 := F3.f 1
    have f2 := F3.f 2
    have f3 := F3.f 3
    have f4 := F3.f 4
    have G := ((((F3.s0 (.int .i64 0)).s1 (.int .i64 0)).s2 (.slice none 0 0)).s3 (.slice none 0 0)).s4 (.slice none 0 0)
    have pB := below_five hBB (k := w.heap.size + 1 + 1) (by omega) (.int .i64 0) (.int .i64 0) (.slice none 0 0) (.slice none 0 0) (.slice none 0 0)
    go_wp2_with fail
    clear r0 r1 r2 r3 r4 f0 f1 f2 f3 f4
    generalize (((((w2.setCell ⟨w.heap.size + 1 + 1, 0, none⟩ (.int .i64 0)).setCell ⟨w.heap.size + 1 + 1, 1, none⟩ (.int .i64 0)).setCell ⟨w.heap.size + 1 + 1, 2, none⟩ (.slice none 0 0)).setCell ⟨w.heap.size + 1 + 1, 3, none⟩ (.slice none 0 0)).setCell ⟨w.heap.size + 1 + 1, 4, none⟩ (.slice none 0 0)) = W9 at *
    obtain ⟨d0, d1, d2, d3, d4⟩ := G.c
    exact bodyPost_ret (v := .tuple #[.agg #[.int .i64 0, .int .i64 0, .slice none 0 0, .slice none 0 0, .slice none 0 0], .bool false]) (by simp [results, Tryz.results7, go_sem, d0, d1, d2, d3, d4]) rfl ⟨_, by rw [HR.out], by rw [HX.out]; exact DfO.none _ _ _, pB⟩
  by_cases hlt : a.num < b.num
  case neg =>
    have HR := hid (dfB_no3 hlt)
    have HX := hid (dfX_no HR.out)
    have dge : decide (b.num ≤ a.num) = true := by simp; omega
    obtain ⟨r0, r1, r2, r3, r4⟩ := F3.c
    have f0 := F3.f 0
    have f1 := F3.f 1
    have f2 := F3.f 2
    have f3 := F3.f 3
    have f4 := F3.f 4
    have G := ((((F3.s0 (.int .i64 0)).s1 (.int .i64 0)).s2 (.slice none 0 0)).s3 (.slice none 0 0)).s4 (.slice none 0 0)
    have pB := below_five hBB (k := w.heap.size + 1 + 1) (by omega) (.int .i64 0) (.int .i64 0) (.slice none 0 0) (.slice none 0 0) (.slice none 0 0)
    go_wp2_with fail
    clear r0 r1 r2 r3 r4 f0 f1 f2 f3 f4
    generalize (((((w2.setCell ⟨w.heap.size + 1 + 1, 0, none⟩ (.int .i64 0)).setCell ⟨w.heap.size + 1 + 1, 1, none⟩ (.int .i64 0)).setCell ⟨w.heap.size + 1 + 1, 2, none⟩ (.slice none 0 0)).setCell ⟨w.heap.size + 1 + 1, 3, none⟩ (.slice none 0 0)).setCell ⟨w.heap.size + 1 + 1, 4, none⟩ (.slice none 0 0)) = W9 at *
    obtain ⟨d0, d1, d2, d3, d4⟩ := G.c
    exact bodyPost_ret (v := .tuple #[.agg #[.int .i64 0, .int .i64 0, .slice none 0 0, .slice none 0 0, .slice none 0 0], .bool false]) (by simp [results, Tryz.results7, go_sem, d0, d1, d2, d3, d4]) rfl ⟨_, by rw [HR.out], by rw [HX.out]; exact DfO.none _ _ _, pB⟩
  have dge : decide (b.num ≤ a.num) = false := by simp; omega
  have ha2' := ha2.below hBB
  have hb2' := hb2.below hBB
  go_wp2_with fail
  go_loop [30] (fun i => ∃ n : Nat, n ≤ a.rv.length ∧ i = .int .i64 n ∧ ∀ j (hj : j < a.rv.length), j < n → isI b.rv a.rv[j] = true) (fun i => a.rv.length - (intOf i).toNat)
  case atStart => exact ⟨0, Nat.zero_le _, rfl, fun _ _ h => absurd h (Nat.not_lt_zero _)⟩
  case round =>
    obtain ⟨n, hn, rfl, ht⟩ := hrel
    have HT := hid ht
    clear ht
    by_cases hl : n < a.rv.length
    · obtain ⟨bb, off, rfl, hbb, hcap, q0⟩ := ha2'.num hl
      have HS := hid (show isI b.rv a.rv[n] = true → ∀ j (hj : j < a.rv.length), j < n + 1 → isI b.rv a.rv[j] = true from fun h j hj hjn => by
        by_cases e : j = n
        · subst e; exact h
        · exact HT.out j hj (by omega))
      have HN := hid (fun h => woN_some (b := b.rv) hl h)
      generalize a.rv[n] = x at *
      cases hq : isI b.rv x
      · have HR := hid (dfB_no4 (a := a) (b := b) (HN.out hq))
        have HX := hid (dfX_no HR.out)
        go_wp2_with fail
        refine (l1Has_any _ b.rv x _ (by omega) hb2').mono ?_
        rintro e w3 ⟨rfl, rfl⟩
        rw [hq]
        obtain ⟨r0, r1, r2, r3, r4⟩ := F3.c
        have f0 := F3.f 0
        have f1 := F3.f 1
        have f2 := F3.f 2
        have f3 := F3.f 3
        have f4 := F3.f 4
        have G := ((((F3.s0 (.int .i64 0)).s1 (.int .i64 0)).s2 (.slice none 0 0)).s3 (.slice none 0 0)).s4 (.slice none 0 0)
        have pB := below_five hBB (k := w.heap.size + 1 + 1) (by omega) (.int .i64 0) (.int .i64 0) (.slice none 0 0) (.slice none 0 0) (.slice none 0 0)
        go_wp2_with fail
        clear r0 r1 r2 r3 r4 f0 f1 f2 f3 f4
        generalize (((((w3.setCell ⟨w.heap.size + 1 + 1, 0, none⟩ (.int .i64 0)).setCell ⟨w.heap.size + 1 + 1, 1, none⟩ (.int .i64 0)).setCell ⟨w.heap.size + 1 + 1, 2, none⟩ (.slice none 0 0)).setCell ⟨w.heap.size + 1 + 1, 3, none⟩ (.slice none 0 0)).setCell ⟨w.heap.size + 1 + 1, 4, none⟩ (.slice none 0 0)) = W9 at *
        obtain ⟨d0, d1, d2, d3, d4⟩ := G.c
        exact bodyPost_ret (v := .tuple #[.agg #[.int .i64 0, .int .i64 0, .slice none 0 0, .slice none 0 0, .slice none 0 0], .bool false]) (by simp [results, Tryz.results7, go_sem, d0, d1, d2, d3, d4]) rfl ⟨_, by rw [HR.out], by rw [HX.out]; exact DfO.none _ _ _, pB⟩
      · have HR := hid (HS.out hq)
        go_wp2_with fail
        refine (l1Has_any _ b.rv x _ (by omega) hb2').mono ?_
        rintro e w3 ⟨rfl, rfl⟩
        rw [hq]
        go_wp2_with fail
        exact ⟨⟨n + 1, by omega, by go_num, HR.out⟩, by simp [intOf]; omega⟩
    · obtain rfl : n = a.rv.length := by omega
      have HR := hid (dfB_yes hA hB hlt (woN_nil fun j hj => HT.out j hj hj))
      have HX := hid (dfX_yes HR.out)
      clear hlt HT dge
      have n02 : w.heap.size ≠ w.heap.size + 1 + 1 := by omega
      have n20 : w.heap.size + 1 + 1 ≠ w.heap.size := by omega
      have n12 : w.heap.size + 1 ≠ w.heap.size + 1 + 1 := by omega
      have n21 : w.heap.size + 1 + 1 ≠ w.heap.size + 1 := by omega
      go_wp2_with fail
      refine wp_region_held_drew (S := fun w' => w'.cell? ⟨w.heap.size, 0, none⟩ = some (.int .i64 a.num) ∧ w'.cell? ⟨w.heap.size, 1, none⟩ = some (.slice pa a.pol.length ca) ∧ w'.cell? ⟨w.heap.size, 2, none⟩ = some (.slice ra a.rv.length da) ∧ w'.cell? ⟨w.heap.size + 1, 0, none⟩ = some (.int .i64 b.num) ∧ w'.cell? ⟨w.heap.size + 1, 1, none⟩ = some (.slice pb b.pol.length cb) ∧ w'.cell? ⟨w.heap.size + 1, 2, none⟩ = some (.slice rb b.rv.length db)) (by kernel_rfl) ?_ (fun hHeld => ?_)
      · go_keep
      refine takeW 0 (v := ?v19) rfl (by kernel_rfl) (by kernel_rfl) (by kernel_rfl) (fun _ _ _ h => h) (by rfl) (by assumption) ?hy19 ?rest19
      case hy19 => intro w' hSw; (try dsimp only at hSw); go_simp; try with_reducible rfl
      try simp only [Act.put, List.setIfInBounds_toArray, List.set_cons_zero, List.set_cons_succ]
      refine takeW 1 (v := ?v20) rfl (by kernel_rfl) (by kernel_rfl) (by kernel_rfl) (fun _ _ _ h => h) (by rfl) (by assumption) ?hy20 ?rest20
      case hy20 => intro w' hSw; (try dsimp only at hSw); go_simp; try with_reducible rfl
      try simp only [Act.put, List.setIfInBounds_toArray, List.set_cons_zero, List.set_cons_succ]
      refine takeW 2 (v := ?v21) rfl (by kernel_rfl) (by kernel_rfl) (by kernel_rfl) (fun _ _ _ h => h) (by rfl) (by assumption) ?hy21 ?rest21
      case hy21 => intro w' hSw; (try dsimp only at hSw); go_simp; try with_reducible rfl
      try simp only [Act.put, List.setIfInBounds_toArray, List.set_cons_zero, List.set_cons_succ]
      refine takeW 3 (v := ?v22) rfl (by kernel_rfl) (by kernel_rfl) (by kernel_rfl) (fun _ _ _ h => h) (by rfl) (by assumption) ?hy22 ?rest22
      case hy22 => intro w' hSw; (try dsimp only at hSw); go_simp; try with_reducible rfl
      try simp only [Act.put, List.setIfInBounds_toArray, List.set_cons_zero, List.set_cons_succ]
      refine takeW 4 (v := ?v23) rfl (by kernel_rfl) (by kernel_rfl) (by kernel_rfl) (fun _ _ _ h => h) (by rfl) (by assumption) ?hy23 ?rest23
      case hy23 => intro w' hSw; (try dsimp only at hSw); go_simp; try with_reducible rfl
      try simp only [Act.put, List.setIfInBounds_toArray, List.set_cons_zero, List.set_cons_succ]
      refine takeW 5 (v := ?v24) rfl (by kernel_rfl) (by kernel_rfl) (by kernel_rfl) (fun _ _ _ h => h) (by rfl) (by assumption) ?hy24 ?rest24
      case hy24 => intro w' hSw; (try dsimp only at hSw); go_simp; try with_reducible rfl
      try simp only [Act.put, List.setIfInBounds_toArray, List.set_cons_zero, List.set_cons_succ]
      refine takeW 6 (v := ?v25) rfl (by kernel_rfl) (by kernel_rfl) (by kernel_rfl) (fun _ _ _ h => h) (by rfl) (by assumption) ?hy25 ?rest25
      case hy25 => intro w' hSw; (try dsimp only at hSw); go_simp; try with_reducible rfl
      try simp only [Act.put, List.setIfInBounds_toArray, List.set_cons_zero, List.set_cons_succ]
      refine takeW 7 (v := ?v26) rfl (by kernel_rfl) (by kernel_rfl) (by kernel_rfl) (fun _ _ _ h => h) (by rfl) (by assumption) ?hy26 ?rest26
      case hy26 => intro w' hSw; (try dsimp only at hSw); go_simp; try with_reducible rfl
      try simp only [Act.put, List.setIfInBounds_toArray, List.set_cons_zero, List.set_cons_succ]
      refine takeW 9 (v := ?v27) rfl (by kernel_rfl) (by kernel_rfl) (by kernel_rfl) (fun _ _ _ h => h) (by rfl) (by assumption) ?hy27 ?rest27
      case hy27 => intro w' hSw; (try dsimp only at hSw); go_simp; try with_reducible rfl
      try simp only [Act.put, List.setIfInBounds_toArray, List.set_cons_zero, List.set_cons_succ]
      refine takeW 10 (v := ?v28) rfl (by kernel_rfl) (by kernel_rfl) (by kernel_rfl) (fun _ _ _ h => h) (by rfl) (by assumption) ?hy28 ?rest28
      case hy28 => intro w' hSw; (try dsimp only at hSw); go_simp; try with_reducible rfl
      try simp only [Act.put, List.setIfInBounds_toArray, List.set_cons_zero, List.set_cons_succ]
      refine takeW 11 (v := ?v29) rfl (by kernel_rfl) (by kernel_rfl) (by kernel_rfl) (fun _ _ _ h => h) (by rfl) (by assumption) ?hy29 ?rest29
      case hy29 => intro w' hSw; (try dsimp only at hSw); go_simp; try with_reducible rfl
      try simp only [Act.put, List.setIfInBounds_toArray, List.set_cons_zero, List.set_cons_succ]
      refine takeW 12 (v := ?v30) rfl (by kernel_rfl) (by kernel_rfl) (by kernel_rfl) (fun _ _ _ h => h) (by rfl) (by assumption) ?hy30 ?rest30
      case hy30 => intro w' hSw; (try dsimp only at hSw); go_simp; try with_reducible rfl
      try simp only [Act.put, List.setIfInBounds_toArray, List.set_cons_zero, List.set_cons_succ]
      have m0 : w.heap.size ≠ w2.heap.size := (by have := F1.lt; omega)
      have m0' : w2.heap.size ≠ w.heap.size := (by have := F1.lt; omega)
      have m1 : w.heap.size + 1 ≠ w2.heap.size := (by have := F2.lt; omega)
      have m1' : w2.heap.size ≠ w.heap.size + 1 := (by have := F2.lt; omega)
      refine takeC2 8 15 (by kernel_rfl) rfl rfl (fun K hK => ?_) (fun K hK => ?_)
      · go_simp
        refine (l5Less_any _ _ a.pol b.pol _ (by omega) (by omega) (by exact ((ha1.below hBB).below (Below.refl _ _).drew)) (by exact ((hb1.below hBB).below (Below.refl _ _).drew))).mono ?_; rintro e w4 ⟨u4, rfl, o4, hB4⟩; obtain ⟨x4, y4, z4, rfl⟩ := row_slice o4; have hD4 : Below w2.heap.size w2 w4 := below_drew1 hB4; have hca4 := fun o => hB4.cell (p := ⟨w.heap.size, o, none⟩) (by exact F1.lt); have hcb4 := fun o => hB4.cell (p := ⟨w.heap.size + 1, o, none⟩) (by exact F2.lt); have G1 : Three w4 _ _ _ _ _ := F1.below hD4; have G2 : Three w4 _ _ _ _ _ := F2.below hD4; have G3 : Five w4 _ _ _ _ _ _ _ := F3.below hD4; have hBB4 := below_one hBB hD4
        refine hK.out _ _ ?_ (fun hHeld => ?_)
        · go_keep
        clear hK K
        try simp only [Act.put, List.setIfInBounds_toArray, List.set_cons_zero, List.set_cons_succ]
        clear m0 m0' m1 m1'
        have m0 : w.heap.size ≠ w4.heap.size := (by have := G1.lt; omega)
        have m0' : w4.heap.size ≠ w.heap.size := (by have := G1.lt; omega)
        have m1 : w.heap.size + 1 ≠ w4.heap.size := (by have := G2.lt; omega)
        have m1' : w4.heap.size ≠ w.heap.size + 1 := (by have := G2.lt; omega)
        refine takeC2 13 15 (by kernel_rfl) rfl rfl (fun K hK => ?_) (fun K hK => ?_)
        · go_simp
          refine (l5Less_any _ _ b.pol a.pol _ (by omega) (by omega) (by exact (hb1.below hBB4)) (by exact (ha1.below hBB4))).mono ?_; rintro e w5 ⟨u5, rfl, o5, hB5⟩; obtain ⟨x5, y5, z5, rfl⟩ := row_slice o5; have hD5 := hB5; have hca5 := fun o => hB5.cell (p := ⟨w.heap.size, o, none⟩) (by exact G1.lt); have hcb5 := fun o => hB5.cell (p := ⟨w.heap.size + 1, o, none⟩) (by exact G2.lt); have H1 : Three w5 _ _ _ _ _ := G1.below hD5; have H2 : Three w5 _ _ _ _ _ := G2.below hD5; have H3 : Five w5 _ _ _ _ _ _ _ := G3.below hD5; have hBB5 := below_one hBB4 hB5; have o4' := ownsRow_below o4 hB5
          refine hK.out _ _ ?_ (fun hHeld => ?_)
          · go_keep
          clear hK K
          try simp only [Act.put, List.setIfInBounds_toArray, List.set_cons_zero, List.set_cons_succ]
          clear m0 m0' m1 m1'
          have m0 : w.heap.size ≠ w5.heap.size := (by have := H1.lt; omega)
          have m0' : w5.heap.size ≠ w.heap.size := (by have := H1.lt; omega)
          have m1 : w.heap.size + 1 ≠ w5.heap.size := (by have := H2.lt; omega)
          have m1' : w5.heap.size ≠ w.heap.size + 1 := (by have := H2.lt; omega)
          refine takeW 14 (v := ?v31) rfl (by kernel_rfl) (by kernel_rfl) (by kernel_rfl) (fun _ _ _ h => h) (by rfl) (by assumption) ?hy31 ?rest31
          case hy31 => intro w' hSw; (try dsimp only at hSw); go_simp; try with_reducible rfl
          try simp only [Act.put, List.setIfInBounds_toArray, List.set_cons_zero, List.set_cons_succ]
          refine takeC 15 (by kernel_rfl) rfl (fun K hK => ?_)
          go_simp
          skip
          refine hK.out _ _ ?_ (fun hHeld => ?_)
          · go_keep
          clear hK K
          try simp only [Act.put, List.setIfInBounds_toArray, List.set_cons_zero, List.set_cons_succ]
          refine takeC 16 (by kernel_rfl) rfl (fun K hK => ?_)
          go_simp
          skip
          refine hK.out _ _ ?_ (fun hHeld => ?_)
          · go_keep
          clear hK K
          try simp only [Act.put, List.setIfInBounds_toArray, List.set_cons_zero, List.set_cons_succ]
          refine wpAnyH_done (by kernel_rfl) ?_ _
          have hBd : Below w5.heap.size w5 (w5.alloc (.cells #[.int .i64 a.num, .int .i64 b.num, .slice x4 y4 z4, .slice x5 y5 z5, .slice none 0 0] 30)) := (Below.refl _ w5).alloc (Nat.le_refl _) _
          have FD0 := Five.new w5 (.int .i64 a.num) (.int .i64 b.num) (.slice x4 y4 z4) (.slice x5 y5 z5) (.slice none 0 0) 30
          have P1 : Three (w5.alloc (.cells #[.int .i64 a.num, .int .i64 b.num, .slice x4 y4 z4, .slice x5 y5 z5, .slice none 0 0] 30)) _ _ _ _ _ := H1.below hBd
          have P2 : Three (w5.alloc (.cells #[.int .i64 a.num, .int .i64 b.num, .slice x4 y4 z4, .slice x5 y5 z5, .slice none 0 0] 30)) _ _ _ _ _ := H2.below hBd
          have P3 : Five (w5.alloc (.cells #[.int .i64 a.num, .int .i64 b.num, .slice x4 y4 z4, .slice x5 y5 z5, .slice none 0 0] 30)) _ _ _ _ _ _ _ := H3.below hBd
          have p4 := ownsRow_below o4' hBd
          have p5 := ownsRow_below o5 hBd
          have hap : ∀ k, (Value.slice x4 y4 z4).ownBlock = some k → (Value.slice x5 y5 z5).ownBlock = some k → False := fun k h1 h2 => by
            have := (o4.lt k h1).2
            have := (o5.lt k h2).1
            omega
          have hkb4 : w.heap.size + 1 + 1 < w2.heap.size := F3.lt
          have hzd := FD0.lt
          have hs24 := hD4.size
          have hs25 := hB5.size
          replace hBB5 := below_one hBB5 hBd
          clear hHeld a0 a1 a2 b0 b1 b2 n02 n20 n12 n21 hca4 hcb4 hca5 hcb5 m0 m0' m1 m1' hBd
          generalize w5.alloc (.cells #[.int .i64 a.num, .int .i64 b.num, .slice x4 y4 z4, .slice x5 y5 z5, .slice none 0 0] 30) = W6 at *
          generalize hkd : w5.heap.size = kd at *
          obtain ⟨b0, b1, b2⟩ := P2.c
          go_wp2_with fail
          go_loopw [59] (fun i wr => ∃ (k : Nat) (rvv : Value), k ≤ b.rv.length ∧ i = .int .i64 k ∧ Five wr 30 kd (.int .i64 a.num) (.int .i64 b.num) (.slice x4 y4 z4) (.slice x5 y5 z5) rvv ∧ wr.ownsRow W6.heap.size 3 1 rvv (woNT b.rv a.rv k).length (nums (woNT b.rv a.rv k)) ∧ Mid kd (kd + 1) W6 wr) (fun i _ => b.rv.length - (intOf i).toNat)
          case atStart => exact ⟨0, .slice none 0 0, Nat.zero_le _, rfl, FD0, by rw [woNT_zero]; exact World.ownsRow_nil _ _ _ _, Mid.of_below (Below.refl _ _)⟩
          case round =>
            obtain ⟨k, rvv, hk, rfl, FD, hrow, hM⟩ := hrel
            have hl1 := woNT_len b.rv a.rv k
            have hBB6 := hBB5.trans (hM.below (n := w.heap.size) (by omega) hBB5.size)
            have J1 := hM.three P1 (.inl (by omega))
            have J2 := hM.three P2 (.inl (by omega))
            have J3 := hM.five P3 (.inl (by omega))
            have hz6 := hM.size
            obtain ⟨a0, a1, a2⟩ := J1.c
            by_cases hl : k < b.rv.length
            · obtain ⟨bb, off, rfl, hbb, hcap, q0⟩ := (hb2.below hBB6).num hl
              have HY := hid (fun h => woNT_yes (b := a.rv) hl h)
              have HN := hid (fun h => woNT_no (b := a.rv) hl h)
              have hC := l1Has_any (.slice ra a.rv.length da) a.rv b.rv[k] _ (by omega) (ha2.below hBB6)
              generalize b.rv[k] = x at *
              obtain ⟨r0, r1, r2, r3, r4⟩ := FD.c
              cases hq : isI a.rv x
              · have HR2 := hid (HN.out hq)
                clear HN HY
                generalize woNT b.rv a.rv k = l at *
                rcases row_form hrow with ⟨rfl, hl0⟩ | ⟨go, capo, rfl, hgo, hcapo⟩
                · obtain rfl : l = [] := List.eq_nil_of_length_eq_zero hl0
                  go_wp2_with fail
                  refine hC.mono ?_
                  rintro e w6 ⟨rfl, rfl⟩
                  rw [hq]
                  clear hC
                  go_wp2_with (at_builtin; refine wpList_append_own _ rfl _ _ 24 rfl W6.heap.size 3 i0 (.int .i64 0) 1 8 Tryz.underlying24 hi hz0 hz1 hz2 rfl (by decide) _ _ _ rfl (hrow.alloc _) ⟨w6.heap.size, 0, none⟩ 1 1 [.int .i64 x] rfl rfl (cell_one_new _ _ _) (by intro u hu; simp at hu; subst hu; rfl) (by unfold maxLen; first | omega | (simp <;> omega)) (by first | omega | (simp <;> omega)) (by first | omega | (simp <;> omega)) ?_; intro u' w7 hown' hgrow _; have FD7 : Five w7 _ _ _ _ _ _ _ := kept_apart (FD.below ((Below.refl _ w6).alloc (Nat.le_refl _) _)) hgrow (fun k h1 h2 => by have := (hrow.lt k h2).1; simp [Value.ownBlock] at h1; omega); obtain ⟨e0, e1, e2, e3, e4⟩ := FD7.c; have g4 := FD7.f 4; obtain ⟨g', cap3, rfl⟩ := ownsRow_succ hown')
                  go_roundw
                  case rel =>
                    refine ⟨k + 1, _, by omega, by go_num, FD7.s4 _, ?_, ((hM.trans (Mid.of_below ((Below.refl _ w6).alloc (Nat.le_refl _) _))).app hgrow (fun k hk => (hrow.lt k hk).1)).set (p := ⟨kd, 4, none⟩) (Nat.le_refl _) (Nat.lt_succ_self _) _⟩
                    rw [HR2.out]
                    exact ownsRow_setCell_below (by simpa [nums] using hown') (a := ⟨kd, 4, none⟩) hzd _
                  case measure => simp [intOf]; omega
                · go_wp2_with fail
                  refine hC.mono ?_
                  rintro e w6 ⟨rfl, rfl⟩
                  rw [hq]
                  clear hC
                  go_wp2_with (at_builtin; refine wpList_append_own _ rfl _ _ 24 rfl W6.heap.size 3 i0 (.int .i64 0) 1 8 Tryz.underlying24 hi hz0 hz1 hz2 rfl (by decide) _ _ _ rfl (hrow.alloc _) ⟨w6.heap.size, 0, none⟩ 1 1 [.int .i64 x] rfl rfl (cell_one_new _ _ _) (by intro u hu; simp at hu; subst hu; rfl) (by unfold maxLen; first | omega | (simp <;> omega)) (by first | omega | (simp <;> omega)) (by first | omega | (simp <;> omega)) ?_; intro u' w7 hown' hgrow _; have FD7 : Five w7 _ _ _ _ _ _ _ := kept_apart (FD.below ((Below.refl _ w6).alloc (Nat.le_refl _) _)) hgrow (fun k h1 h2 => by have := (hrow.lt k h2).1; simp [Value.ownBlock] at h1; omega); obtain ⟨e0, e1, e2, e3, e4⟩ := FD7.c; have g4 := FD7.f 4; obtain ⟨g', cap3, rfl⟩ := ownsRow_succ hown')
                  go_roundw
                  case rel =>
                    refine ⟨k + 1, _, by omega, by go_num, FD7.s4 _, ?_, ((hM.trans (Mid.of_below ((Below.refl _ w6).alloc (Nat.le_refl _) _))).app hgrow (fun k hk => (hrow.lt k hk).1)).set (p := ⟨kd, 4, none⟩) (Nat.le_refl _) (Nat.lt_succ_self _) _⟩
                    rw [HR2.out]
                    exact ownsRow_setCell_below (by simpa [nums] using hown') (a := ⟨kd, 4, none⟩) hzd _
                  case measure => simp [intOf]; omega
              · have HR2 := hid (HY.out hq)
                go_wp2_with fail
                refine hC.mono ?_
                rintro e w6 ⟨rfl, rfl⟩
                rw [hq]
                clear hC
                go_wp2_with fail
                go_roundw
                case rel => exact ⟨k + 1, rvv, by omega, by go_num, FD, by rw [HR2.out]; exact hrow, hM⟩
                case measure => simp [intOf]; omega
            · obtain rfl : k = b.rv.length := by omega
              rw [woNT_end] at hrow
              obtain ⟨xr, yr, zr, rfl⟩ := row_slice hrow
              obtain ⟨r0, r1, r2, r3, r4⟩ := FD.c
              obtain ⟨t0, t1, t2, t3, t4⟩ := J3.c
              have f0 := J3.f 0
              have f1 := J3.f 1
              have f2 := J3.f 2
              have f3 := J3.f 3
              have f4 := J3.f 4
              have G := ((((J3.s0 (.int .i64 a.num)).s1 (.int .i64 b.num)).s2 (.slice x4 y4 z4)).s3 (.slice x5 y5 z5)).s4 (.slice xr yr zr)
              have q4 := row_five (hM.row p4 (fun k hk => by have := row_apart p4 FD0 (by decide) k hk; simp [Value.ownBlock] at this; omega)) (k := w.heap.size + 1 + 1) F3.lt (.int .i64 a.num) (.int .i64 b.num) (.slice x4 y4 z4) (.slice x5 y5 z5) (.slice xr yr zr)
              have q5 := row_five (hM.row p5 (fun k hk => by have := row_apart p5 FD0 (by decide) k hk; simp [Value.ownBlock] at this; omega)) (k := w.heap.size + 1 + 1) G3.lt (.int .i64 a.num) (.int .i64 b.num) (.slice x4 y4 z4) (.slice x5 y5 z5) (.slice xr yr zr)
              have q6 := row_five hrow (k := w.heap.size + 1 + 1) (by omega) (.int .i64 a.num) (.int .i64 b.num) (.slice x4 y4 z4) (.slice x5 y5 z5) (.slice xr yr zr)
              have pB := below_five hBB6 (k := w.heap.size + 1 + 1) (by omega) (.int .i64 a.num) (.int .i64 b.num) (.slice x4 y4 z4) (.slice x5 y5 z5) (.slice xr yr zr)
              go_wp2_with fail
              clear r0 r1 r2 r3 r4 f0 f1 f2 f3 f4 t0 t1 t2 t3 t4
              generalize (((((wr.setCell ⟨w.heap.size + 1 + 1, 0, none⟩ (.int .i64 a.num)).setCell ⟨w.heap.size + 1 + 1, 1, none⟩ (.int .i64 b.num)).setCell ⟨w.heap.size + 1 + 1, 2, none⟩ (.slice x4 y4 z4)).setCell ⟨w.heap.size + 1 + 1, 3, none⟩ (.slice x5 y5 z5)).setCell ⟨w.heap.size + 1 + 1, 4, none⟩ (.slice xr yr zr)) = W9 at *
              obtain ⟨d0, d1, d2, d3, d4⟩ := G.c
              exact bodyPost_ret (v := .tuple #[.agg #[.int .i64 a.num, .int .i64 b.num, .slice x4 y4 z4, .slice x5 y5 z5, .slice xr yr zr], .bool true]) (by simp [results, Tryz.results7, go_sem, d0, d1, d2, d3, d4]) rfl ⟨_, by rw [HR.out], by rw [HX.out]; exact ⟨_, _, _, rfl, Go.Joins.ownsRow_le q4 hBB.size, Go.Joins.ownsRow_le q5 hBB4.size, Go.Joins.ownsRow_le q6 (Nat.le_trans hBB5.size (Nat.le_refl _)), fun k hk => (q4.lt k hk).2, fun k hk => (q5.lt k hk).2, fun k hk => (q6.lt k hk).2, hap⟩, pB⟩
        · go_simp
          skip
          refine hK.out _ _ ?_ (fun hHeld => ?_)
          · go_keep
          clear hK K
          try simp only [Act.put, List.setIfInBounds_toArray, List.set_cons_zero, List.set_cons_succ]
          have m2 : w.heap.size + 1 + 1 ≠ w4.heap.size := (by have := G3.lt; omega)
          have hBd : Below w4.heap.size w4 (w4.alloc (.cells #[.int .i64 0, .int .i64 0, .slice none 0 0, .slice none 0 0, .slice none 0 0] 30)) := (Below.refl _ w4).alloc (Nat.le_refl _) _
          have FZ : Five (w4.alloc (.cells #[.int .i64 0, .int .i64 0, .slice none 0 0, .slice none 0 0, .slice none 0 0] 30)) _ _ _ _ _ _ _ := Five.new w4 (.int .i64 0) (.int .i64 0) (.slice none 0 0) (.slice none 0 0) (.slice none 0 0) 30
          have D1 : Three (w4.alloc (.cells #[.int .i64 0, .int .i64 0, .slice none 0 0, .slice none 0 0, .slice none 0 0] 30)) _ _ _ _ _ := G1.below hBd
          have D2 : Three (w4.alloc (.cells #[.int .i64 0, .int .i64 0, .slice none 0 0, .slice none 0 0, .slice none 0 0] 30)) _ _ _ _ _ := G2.below hBd
          have D3 : Five (w4.alloc (.cells #[.int .i64 0, .int .i64 0, .slice none 0 0, .slice none 0 0, .slice none 0 0] 30)) _ _ _ _ _ _ _ := G3.below hBd
          have hBBd := below_one hBB4 hBd
          have hsd := hBd.size
          have o4d := ownsRow_below o4 hBd
          generalize w4.alloc (.cells #[.int .i64 0, .int .i64 0, .slice none 0 0, .slice none 0 0, .slice none 0 0] 30) = Wd at *
          refine takeC 13 (by kernel_rfl) rfl (fun K hK => ?_)
          go_simp
          refine (l5Less_any _ _ b.pol a.pol _ (by omega) (by omega) (by exact (hb1.below hBBd)) (by exact (ha1.below hBBd))).mono ?_; rintro e w5 ⟨u5, rfl, o5, hB5⟩; obtain ⟨x5, y5, z5, rfl⟩ := row_slice o5; have hD5 := hB5; have hca5 := fun o => hB5.cell (p := ⟨w.heap.size, o, none⟩) (by exact D1.lt); have hcb5 := fun o => hB5.cell (p := ⟨w.heap.size + 1, o, none⟩) (by exact D2.lt); have H1 : Three w5 _ _ _ _ _ := D1.below hD5; have H2 : Three w5 _ _ _ _ _ := D2.below hD5; have H3 : Five w5 _ _ _ _ _ _ _ := D3.below hD5; have HZ : Five w5 _ _ _ _ _ _ _ := FZ.below hD5; have hBB5 := below_one hBBd hB5; have o4' := ownsRow_below o4d hB5
          refine hK.out _ _ ?_ (fun hHeld => ?_)
          · go_keep
          clear hK K
          try simp only [Act.put, List.setIfInBounds_toArray, List.set_cons_zero, List.set_cons_succ]
          obtain ⟨e0, e1, e2, e3, e4⟩ := HZ.c
          have g0 := HZ.f 0
          have g1 := HZ.f 1
          have g2 := HZ.f 2
          have g3 := HZ.f 3
          have g4 := HZ.f 4
          refine takeW 14 (v := ?v32) rfl (by kernel_rfl) (by kernel_rfl) (by kernel_rfl) (fun _ _ _ h => h) (by rfl) (by assumption) ?hy32 ?rest32
          case hy32 => intro w' hSw; (try dsimp only at hSw); go_simp; try with_reducible rfl
          try simp only [Act.put, List.setIfInBounds_toArray, List.set_cons_zero, List.set_cons_succ]
          refine takeC 16 (by kernel_rfl) rfl (fun K hK => ?_)
          go_simp
          skip
          refine hK.out _ _ ?_ (fun hHeld => ?_)
          · go_keep
          clear hK K
          try simp only [Act.put, List.setIfInBounds_toArray, List.set_cons_zero, List.set_cons_succ]
          refine wpAnyH_done (by kernel_rfl) ?_ _
          have FD0 := ((((HZ.s0 (.int .i64 a.num)).s1 (.int .i64 b.num)).s2 (.slice x4 y4 z4)).s3 (.slice x5 y5 z5)).s4 (.slice none 0 0)
          have P1 : Three ((((((w5.setCell ⟨w4.heap.size, 0, none⟩ (.int .i64 a.num)).setCell ⟨w4.heap.size, 1, none⟩ (.int .i64 b.num)).setCell ⟨w4.heap.size, 2, none⟩ (.slice x4 y4 z4)).setCell ⟨w4.heap.size, 3, none⟩ (.slice x5 y5 z5)).setCell ⟨w4.heap.size, 4, none⟩ (.slice none 0 0))) _ _ _ _ _ := ((((H1.other (k' := w4.heap.size) m0 0 (.int .i64 a.num)).other m0 1 (.int .i64 b.num)).other m0 2 (.slice x4 y4 z4)).other m0 3 (.slice x5 y5 z5)).other m0 4 (.slice none 0 0)
          have P2 : Three ((((((w5.setCell ⟨w4.heap.size, 0, none⟩ (.int .i64 a.num)).setCell ⟨w4.heap.size, 1, none⟩ (.int .i64 b.num)).setCell ⟨w4.heap.size, 2, none⟩ (.slice x4 y4 z4)).setCell ⟨w4.heap.size, 3, none⟩ (.slice x5 y5 z5)).setCell ⟨w4.heap.size, 4, none⟩ (.slice none 0 0))) _ _ _ _ _ := ((((H2.other (k' := w4.heap.size) m1 0 (.int .i64 a.num)).other m1 1 (.int .i64 b.num)).other m1 2 (.slice x4 y4 z4)).other m1 3 (.slice x5 y5 z5)).other m1 4 (.slice none 0 0)
          have P3 : Five ((((((w5.setCell ⟨w4.heap.size, 0, none⟩ (.int .i64 a.num)).setCell ⟨w4.heap.size, 1, none⟩ (.int .i64 b.num)).setCell ⟨w4.heap.size, 2, none⟩ (.slice x4 y4 z4)).setCell ⟨w4.heap.size, 3, none⟩ (.slice x5 y5 z5)).setCell ⟨w4.heap.size, 4, none⟩ (.slice none 0 0))) _ _ _ _ _ _ _ := ((((H3.other (k' := w4.heap.size) m2 0 (.int .i64 a.num)).other m2 1 (.int .i64 b.num)).other m2 2 (.slice x4 y4 z4)).other m2 3 (.slice x5 y5 z5)).other m2 4 (.slice none 0 0)
          have p4 := row_away o4' (fun k hk e => row_apart o4' HZ (by decide) k hk (by rw [e]; rfl)) (.int .i64 a.num) (.int .i64 b.num) (.slice x4 y4 z4) (.slice x5 y5 z5) (.slice none 0 0)
          have p5 := row_away o5 (fun k hk e => row_apart o5 HZ (by decide) k hk (by rw [e]; rfl)) (.int .i64 a.num) (.int .i64 b.num) (.slice x4 y4 z4) (.slice x5 y5 z5) (.slice none 0 0)
          have hap : ∀ k, (Value.slice x4 y4 z4).ownBlock = some k → (Value.slice x5 y5 z5).ownBlock = some k → False := fun k h1 h2 => by
            have := (o4.lt k h1).2
            have := (o5.lt k h2).1
            omega
          have hkb4 : w.heap.size + 1 + 1 < w2.heap.size := F3.lt
          have hzd := FD0.lt
          have hs24 := hD4.size
          have hs25 := Nat.le_trans hBd.size hB5.size
          replace hBB5 := below_five hBB5 (k := w4.heap.size) (by omega) (.int .i64 a.num) (.int .i64 b.num) (.slice x4 y4 z4) (.slice x5 y5 z5) (.slice none 0 0)
          clear hHeld a0 a1 a2 b0 b1 b2 n02 n20 n12 n21 hca4 hcb4 hca5 hcb5 m0 m0' m1 m1' e0 e1 e2 e3 e4 g0 g1 g2 g3 g4
          generalize (((((w5.setCell ⟨w4.heap.size, 0, none⟩ (.int .i64 a.num)).setCell ⟨w4.heap.size, 1, none⟩ (.int .i64 b.num)).setCell ⟨w4.heap.size, 2, none⟩ (.slice x4 y4 z4)).setCell ⟨w4.heap.size, 3, none⟩ (.slice x5 y5 z5)).setCell ⟨w4.heap.size, 4, none⟩ (.slice none 0 0)) = W6 at *
          generalize hkd : w4.heap.size = kd at *
          obtain ⟨b0, b1, b2⟩ := P2.c
          go_wp2_with fail
          go_loopw [59] (fun i wr => ∃ (k : Nat) (rvv : Value), k ≤ b.rv.length ∧ i = .int .i64 k ∧ Five wr 30 kd (.int .i64 a.num) (.int .i64 b.num) (.slice x4 y4 z4) (.slice x5 y5 z5) rvv ∧ wr.ownsRow W6.heap.size 3 1 rvv (woNT b.rv a.rv k).length (nums (woNT b.rv a.rv k)) ∧ Mid kd (kd + 1) W6 wr) (fun i _ => b.rv.length - (intOf i).toNat)
          case atStart => exact ⟨0, .slice none 0 0, Nat.zero_le _, rfl, FD0, by rw [woNT_zero]; exact World.ownsRow_nil _ _ _ _, Mid.of_below (Below.refl _ _)⟩
          case round =>
            obtain ⟨k, rvv, hk, rfl, FD, hrow, hM⟩ := hrel
            have hl1 := woNT_len b.rv a.rv k
            have hBB6 := hBB5.trans (hM.below (n := w.heap.size) (by omega) hBB5.size)
            have J1 := hM.three P1 (.inl (by omega))
            have J2 := hM.three P2 (.inl (by omega))
            have J3 := hM.five P3 (.inl (by omega))
            have hz6 := hM.size
            obtain ⟨a0, a1, a2⟩ := J1.c
            by_cases hl : k < b.rv.length
            · obtain ⟨bb, off, rfl, hbb, hcap, q0⟩ := (hb2.below hBB6).num hl
              have HY := hid (fun h => woNT_yes (b := a.rv) hl h)
              have HN := hid (fun h => woNT_no (b := a.rv) hl h)
              have hC := l1Has_any (.slice ra a.rv.length da) a.rv b.rv[k] _ (by omega) (ha2.below hBB6)
              generalize b.rv[k] = x at *
              obtain ⟨r0, r1, r2, r3, r4⟩ := FD.c
              cases hq : isI a.rv x
              · have HR2 := hid (HN.out hq)
                clear HN HY
                generalize woNT b.rv a.rv k = l at *
                rcases row_form hrow with ⟨rfl, hl0⟩ | ⟨go, capo, rfl, hgo, hcapo⟩
                · obtain rfl : l = [] := List.eq_nil_of_length_eq_zero hl0
                  go_wp2_with fail
                  refine hC.mono ?_
                  rintro e w6 ⟨rfl, rfl⟩
                  rw [hq]
                  clear hC
                  go_wp2_with (at_builtin; refine wpList_append_own _ rfl _ _ 24 rfl W6.heap.size 3 i0 (.int .i64 0) 1 8 Tryz.underlying24 hi hz0 hz1 hz2 rfl (by decide) _ _ _ rfl (hrow.alloc _) ⟨w6.heap.size, 0, none⟩ 1 1 [.int .i64 x] rfl rfl (cell_one_new _ _ _) (by intro u hu; simp at hu; subst hu; rfl) (by unfold maxLen; first | omega | (simp <;> omega)) (by first | omega | (simp <;> omega)) (by first | omega | (simp <;> omega)) ?_; intro u' w7 hown' hgrow _; have FD7 : Five w7 _ _ _ _ _ _ _ := kept_apart (FD.below ((Below.refl _ w6).alloc (Nat.le_refl _) _)) hgrow (fun k h1 h2 => by have := (hrow.lt k h2).1; simp [Value.ownBlock] at h1; omega); obtain ⟨e0, e1, e2, e3, e4⟩ := FD7.c; have g4 := FD7.f 4; obtain ⟨g', cap3, rfl⟩ := ownsRow_succ hown')
                  go_roundw
                  case rel =>
                    refine ⟨k + 1, _, by omega, by go_num, FD7.s4 _, ?_, ((hM.trans (Mid.of_below ((Below.refl _ w6).alloc (Nat.le_refl _) _))).app hgrow (fun k hk => (hrow.lt k hk).1)).set (p := ⟨kd, 4, none⟩) (Nat.le_refl _) (Nat.lt_succ_self _) _⟩
                    rw [HR2.out]
                    exact ownsRow_setCell_below (by simpa [nums] using hown') (a := ⟨kd, 4, none⟩) hzd _
                  case measure => simp [intOf]; omega
                · go_wp2_with fail
                  refine hC.mono ?_
                  rintro e w6 ⟨rfl, rfl⟩
                  rw [hq]
                  clear hC
                  go_wp2_with (at_builtin; refine wpList_append_own _ rfl _ _ 24 rfl W6.heap.size 3 i0 (.int .i64 0) 1 8 Tryz.underlying24 hi hz0 hz1 hz2 rfl (by decide) _ _ _ rfl (hrow.alloc _) ⟨w6.heap.size, 0, none⟩ 1 1 [.int .i64 x] rfl rfl (cell_one_new _ _ _) (by intro u hu; simp at hu; subst hu; rfl) (by unfold maxLen; first | omega | (simp <;> omega)) (by first | omega | (simp <;> omega)) (by first | omega | (simp <;> omega)) ?_; intro u' w7 hown' hgrow _; have FD7 : Five w7 _ _ _ _ _ _ _ := kept_apart (FD.below ((Below.refl _ w6).alloc (Nat.le_refl _) _)) hgrow (fun k h1 h2 => by have := (hrow.lt k h2).1; simp [Value.ownBlock] at h1; omega); obtain ⟨e0, e1, e2, e3, e4⟩ := FD7.c; have g4 := FD7.f 4; obtain ⟨g', cap3, rfl⟩ := ownsRow_succ hown')
                  go_roundw
                  case rel =>
                    refine ⟨k + 1, _, by omega, by go_num, FD7.s4 _, ?_, ((hM.trans (Mid.of_below ((Below.refl _ w6).alloc (Nat.le_refl _) _))).app hgrow (fun k hk => (hrow.lt k hk).1)).set (p := ⟨kd, 4, none⟩) (Nat.le_refl _) (Nat.lt_succ_self _) _⟩
                    rw [HR2.out]
                    exact ownsRow_setCell_below (by simpa [nums] using hown') (a := ⟨kd, 4, none⟩) hzd _
                  case measure => simp [intOf]; omega
              · have HR2 := hid (HY.out hq)
                go_wp2_with fail
                refine hC.mono ?_
                rintro e w6 ⟨rfl, rfl⟩
                rw [hq]
                clear hC
                go_wp2_with fail
                go_roundw
                case rel => exact ⟨k + 1, rvv, by omega, by go_num, FD, by rw [HR2.out]; exact hrow, hM⟩
                case measure => simp [intOf]; omega
            · obtain rfl : k = b.rv.length := by omega
              rw [woNT_end] at hrow
              obtain ⟨xr, yr, zr, rfl⟩ := row_slice hrow
              obtain ⟨r0, r1, r2, r3, r4⟩ := FD.c
              obtain ⟨t0, t1, t2, t3, t4⟩ := J3.c
              have f0 := J3.f 0
              have f1 := J3.f 1
              have f2 := J3.f 2
              have f3 := J3.f 3
              have f4 := J3.f 4
              have G := ((((J3.s0 (.int .i64 a.num)).s1 (.int .i64 b.num)).s2 (.slice x4 y4 z4)).s3 (.slice x5 y5 z5)).s4 (.slice xr yr zr)
              have q4 := row_five (hM.row p4 (fun k hk => by have := row_apart p4 FD0 (by decide) k hk; simp [Value.ownBlock] at this; omega)) (k := w.heap.size + 1 + 1) F3.lt (.int .i64 a.num) (.int .i64 b.num) (.slice x4 y4 z4) (.slice x5 y5 z5) (.slice xr yr zr)
              have q5 := row_five (hM.row p5 (fun k hk => by have := row_apart p5 FD0 (by decide) k hk; simp [Value.ownBlock] at this; omega)) (k := w.heap.size + 1 + 1) D3.lt (.int .i64 a.num) (.int .i64 b.num) (.slice x4 y4 z4) (.slice x5 y5 z5) (.slice xr yr zr)
              have q6 := row_five hrow (k := w.heap.size + 1 + 1) (by omega) (.int .i64 a.num) (.int .i64 b.num) (.slice x4 y4 z4) (.slice x5 y5 z5) (.slice xr yr zr)
              have pB := below_five hBB6 (k := w.heap.size + 1 + 1) (by omega) (.int .i64 a.num) (.int .i64 b.num) (.slice x4 y4 z4) (.slice x5 y5 z5) (.slice xr yr zr)
              go_wp2_with fail
              clear r0 r1 r2 r3 r4 f0 f1 f2 f3 f4 t0 t1 t2 t3 t4
              generalize (((((wr.setCell ⟨w.heap.size + 1 + 1, 0, none⟩ (.int .i64 a.num)).setCell ⟨w.heap.size + 1 + 1, 1, none⟩ (.int .i64 b.num)).setCell ⟨w.heap.size + 1 + 1, 2, none⟩ (.slice x4 y4 z4)).setCell ⟨w.heap.size + 1 + 1, 3, none⟩ (.slice x5 y5 z5)).setCell ⟨w.heap.size + 1 + 1, 4, none⟩ (.slice xr yr zr)) = W9 at *
              obtain ⟨d0, d1, d2, d3, d4⟩ := G.c
              exact bodyPost_ret (v := .tuple #[.agg #[.int .i64 a.num, .int .i64 b.num, .slice x4 y4 z4, .slice x5 y5 z5, .slice xr yr zr], .bool true]) (by simp [results, Tryz.results7, go_sem, d0, d1, d2, d3, d4]) rfl ⟨_, by rw [HR.out], by rw [HX.out]; exact ⟨_, _, _, rfl, Go.Joins.ownsRow_le q4 hBB.size, Go.Joins.ownsRow_le q5 hBBd.size, Go.Joins.ownsRow_le q6 (Nat.le_trans hBB5.size (Nat.le_refl _)), fun k hk => (q4.lt k hk).2, fun k hk => (q5.lt k hk).2, fun k hk => (q6.lt k hk).2, hap⟩, pB⟩
      · go_simp
        skip
        refine hK.out _ _ ?_ (fun hHeld => ?_)
        · go_keep
        clear hK K
        try simp only [Act.put, List.setIfInBounds_toArray, List.set_cons_zero, List.set_cons_succ]
        have m2 : w.heap.size + 1 + 1 ≠ w2.heap.size := (by have := F3.lt; omega)
        have hBd : Below w2.heap.size w2 ((w2.alloc (.cells #[.int .i64 0, .int .i64 0, .slice none 0 0, .slice none 0 0, .slice none 0 0] 30)).drew) := ((Below.refl _ w2).alloc (Nat.le_refl _) _).drew
        have FZ : Five ((w2.alloc (.cells #[.int .i64 0, .int .i64 0, .slice none 0 0, .slice none 0 0, .slice none 0 0] 30)).drew) _ _ _ _ _ _ _ := (Five.new w2 (.int .i64 0) (.int .i64 0) (.slice none 0 0) (.slice none 0 0) (.slice none 0 0) 30).below (Below.refl _ _).drew
        have D1 : Three ((w2.alloc (.cells #[.int .i64 0, .int .i64 0, .slice none 0 0, .slice none 0 0, .slice none 0 0] 30)).drew) _ _ _ _ _ := F1.below hBd
        have D2 : Three ((w2.alloc (.cells #[.int .i64 0, .int .i64 0, .slice none 0 0, .slice none 0 0, .slice none 0 0] 30)).drew) _ _ _ _ _ := F2.below hBd
        have D3 : Five ((w2.alloc (.cells #[.int .i64 0, .int .i64 0, .slice none 0 0, .slice none 0 0, .slice none 0 0] 30)).drew) _ _ _ _ _ _ _ := F3.below hBd
        have hBBd := below_one hBB hBd
        have hsd := hBd.size
        generalize (w2.alloc (.cells #[.int .i64 0, .int .i64 0, .slice none 0 0, .slice none 0 0, .slice none 0 0] 30)).drew = Wd at *
        refine takeC 8 (by kernel_rfl) rfl (fun K hK => ?_)
        go_simp
        refine (l5Less_any _ _ a.pol b.pol _ (by omega) (by omega) (by exact (ha1.below hBBd)) (by exact (hb1.below hBBd))).mono ?_; rintro e w4 ⟨u4, rfl, o4, hB4⟩; obtain ⟨x4, y4, z4, rfl⟩ := row_slice o4; have hD4 := hB4; have hca4 := fun o => hB4.cell (p := ⟨w.heap.size, o, none⟩) (by exact D1.lt); have hcb4 := fun o => hB4.cell (p := ⟨w.heap.size + 1, o, none⟩) (by exact D2.lt); have G1 : Three w4 _ _ _ _ _ := D1.below hD4; have G2 : Three w4 _ _ _ _ _ := D2.below hD4; have G3 : Five w4 _ _ _ _ _ _ _ := D3.below hD4; have GZ : Five w4 _ _ _ _ _ _ _ := FZ.below hD4; have hBB4 := below_one hBBd hB4
        refine hK.out _ _ ?_ (fun hHeld => ?_)
        · go_keep
        clear hK K
        try simp only [Act.put, List.setIfInBounds_toArray, List.set_cons_zero, List.set_cons_succ]
        refine takeC 13 (by kernel_rfl) rfl (fun K hK => ?_)
        go_simp
        refine (l5Less_any _ _ b.pol a.pol _ (by omega) (by omega) (by exact (hb1.below hBB4)) (by exact (ha1.below hBB4))).mono ?_; rintro e w5 ⟨u5, rfl, o5, hB5⟩; obtain ⟨x5, y5, z5, rfl⟩ := row_slice o5; have hD5 := hB5; have hca5 := fun o => hB5.cell (p := ⟨w.heap.size, o, none⟩) (by exact G1.lt); have hcb5 := fun o => hB5.cell (p := ⟨w.heap.size + 1, o, none⟩) (by exact G2.lt); have H1 : Three w5 _ _ _ _ _ := G1.below hD5; have H2 : Three w5 _ _ _ _ _ := G2.below hD5; have H3 : Five w5 _ _ _ _ _ _ _ := G3.below hD5; have HZ : Five w5 _ _ _ _ _ _ _ := GZ.below hD5; have hBB5 := below_one hBB4 hB5; have o4' := ownsRow_below o4 hB5
        refine hK.out _ _ ?_ (fun hHeld => ?_)
        · go_keep
        clear hK K
        try simp only [Act.put, List.setIfInBounds_toArray, List.set_cons_zero, List.set_cons_succ]
        obtain ⟨e0, e1, e2, e3, e4⟩ := HZ.c
        have g0 := HZ.f 0
        have g1 := HZ.f 1
        have g2 := HZ.f 2
        have g3 := HZ.f 3
        have g4 := HZ.f 4
        refine takeW 14 (v := ?v33) rfl (by kernel_rfl) (by kernel_rfl) (by kernel_rfl) (fun _ _ _ h => h) (by rfl) (by assumption) ?hy33 ?rest33
        case hy33 => intro w' hSw; (try dsimp only at hSw); go_simp; try with_reducible rfl
        try simp only [Act.put, List.setIfInBounds_toArray, List.set_cons_zero, List.set_cons_succ]
        refine takeC 16 (by kernel_rfl) rfl (fun K hK => ?_)
        go_simp
        skip
        refine hK.out _ _ ?_ (fun hHeld => ?_)
        · go_keep
        clear hK K
        try simp only [Act.put, List.setIfInBounds_toArray, List.set_cons_zero, List.set_cons_succ]
        refine wpAnyH_done (by kernel_rfl) ?_ _
        have FD0 := ((((HZ.s0 (.int .i64 a.num)).s1 (.int .i64 b.num)).s2 (.slice x4 y4 z4)).s3 (.slice x5 y5 z5)).s4 (.slice none 0 0)
        have P1 : Three ((((((w5.setCell ⟨w2.heap.size, 0, none⟩ (.int .i64 a.num)).setCell ⟨w2.heap.size, 1, none⟩ (.int .i64 b.num)).setCell ⟨w2.heap.size, 2, none⟩ (.slice x4 y4 z4)).setCell ⟨w2.heap.size, 3, none⟩ (.slice x5 y5 z5)).setCell ⟨w2.heap.size, 4, none⟩ (.slice none 0 0))) _ _ _ _ _ := ((((H1.other (k' := w2.heap.size) m0 0 (.int .i64 a.num)).other m0 1 (.int .i64 b.num)).other m0 2 (.slice x4 y4 z4)).other m0 3 (.slice x5 y5 z5)).other m0 4 (.slice none 0 0)
        have P2 : Three ((((((w5.setCell ⟨w2.heap.size, 0, none⟩ (.int .i64 a.num)).setCell ⟨w2.heap.size, 1, none⟩ (.int .i64 b.num)).setCell ⟨w2.heap.size, 2, none⟩ (.slice x4 y4 z4)).setCell ⟨w2.heap.size, 3, none⟩ (.slice x5 y5 z5)).setCell ⟨w2.heap.size, 4, none⟩ (.slice none 0 0))) _ _ _ _ _ := ((((H2.other (k' := w2.heap.size) m1 0 (.int .i64 a.num)).other m1 1 (.int .i64 b.num)).other m1 2 (.slice x4 y4 z4)).other m1 3 (.slice x5 y5 z5)).other m1 4 (.slice none 0 0)
        have P3 : Five ((((((w5.setCell ⟨w2.heap.size, 0, none⟩ (.int .i64 a.num)).setCell ⟨w2.heap.size, 1, none⟩ (.int .i64 b.num)).setCell ⟨w2.heap.size, 2, none⟩ (.slice x4 y4 z4)).setCell ⟨w2.heap.size, 3, none⟩ (.slice x5 y5 z5)).setCell ⟨w2.heap.size, 4, none⟩ (.slice none 0 0))) _ _ _ _ _ _ _ := ((((H3.other (k' := w2.heap.size) m2 0 (.int .i64 a.num)).other m2 1 (.int .i64 b.num)).other m2 2 (.slice x4 y4 z4)).other m2 3 (.slice x5 y5 z5)).other m2 4 (.slice none 0 0)
        have p4 := row_away o4' (fun k hk e => row_apart o4' HZ (by decide) k hk (by rw [e]; rfl)) (.int .i64 a.num) (.int .i64 b.num) (.slice x4 y4 z4) (.slice x5 y5 z5) (.slice none 0 0)
        have p5 := row_away o5 (fun k hk e => row_apart o5 HZ (by decide) k hk (by rw [e]; rfl)) (.int .i64 a.num) (.int .i64 b.num) (.slice x4 y4 z4) (.slice x5 y5 z5) (.slice none 0 0)
        have hap : ∀ k, (Value.slice x4 y4 z4).ownBlock = some k → (Value.slice x5 y5 z5).ownBlock = some k → False := fun k h1 h2 => by
          have := (o4.lt k h1).2
          have := (o5.lt k h2).1
          omega
        have hkb4 : w.heap.size + 1 + 1 < w2.heap.size := F3.lt
        have hzd := FD0.lt
        have hs24 := Nat.le_trans hBd.size hB4.size
        have hs25 := hB5.size
        replace hBB5 := below_five hBB5 (k := w2.heap.size) (by omega) (.int .i64 a.num) (.int .i64 b.num) (.slice x4 y4 z4) (.slice x5 y5 z5) (.slice none 0 0)
        clear hHeld a0 a1 a2 b0 b1 b2 n02 n20 n12 n21 hca4 hcb4 hca5 hcb5 m0 m0' m1 m1' e0 e1 e2 e3 e4 g0 g1 g2 g3 g4
        generalize (((((w5.setCell ⟨w2.heap.size, 0, none⟩ (.int .i64 a.num)).setCell ⟨w2.heap.size, 1, none⟩ (.int .i64 b.num)).setCell ⟨w2.heap.size, 2, none⟩ (.slice x4 y4 z4)).setCell ⟨w2.heap.size, 3, none⟩ (.slice x5 y5 z5)).setCell ⟨w2.heap.size, 4, none⟩ (.slice none 0 0)) = W6 at *
        generalize hkd : w2.heap.size = kd at *
        obtain ⟨b0, b1, b2⟩ := P2.c
        go_wp2_with fail
        go_loopw [59] (fun i wr => ∃ (k : Nat) (rvv : Value), k ≤ b.rv.length ∧ i = .int .i64 k ∧ Five wr 30 kd (.int .i64 a.num) (.int .i64 b.num) (.slice x4 y4 z4) (.slice x5 y5 z5) rvv ∧ wr.ownsRow W6.heap.size 3 1 rvv (woNT b.rv a.rv k).length (nums (woNT b.rv a.rv k)) ∧ Mid kd (kd + 1) W6 wr) (fun i _ => b.rv.length - (intOf i).toNat)
        case atStart => exact ⟨0, .slice none 0 0, Nat.zero_le _, rfl, FD0, by rw [woNT_zero]; exact World.ownsRow_nil _ _ _ _, Mid.of_below (Below.refl _ _)⟩
        case round =>
          obtain ⟨k, rvv, hk, rfl, FD, hrow, hM⟩ := hrel
          have hl1 := woNT_len b.rv a.rv k
          have hBB6 := hBB5.trans (hM.below (n := w.heap.size) (by omega) hBB5.size)
          have J1 := hM.three P1 (.inl (by omega))
          have J2 := hM.three P2 (.inl (by omega))
          have J3 := hM.five P3 (.inl (by omega))
          have hz6 := hM.size
          obtain ⟨a0, a1, a2⟩ := J1.c
          by_cases hl : k < b.rv.length
          · obtain ⟨bb, off, rfl, hbb, hcap, q0⟩ := (hb2.below hBB6).num hl
            have HY := hid (fun h => woNT_yes (b := a.rv) hl h)
            have HN := hid (fun h => woNT_no (b := a.rv) hl h)
            have hC := l1Has_any (.slice ra a.rv.length da) a.rv b.rv[k] _ (by omega) (ha2.below hBB6)
            generalize b.rv[k] = x at *
            obtain ⟨r0, r1, r2, r3, r4⟩ := FD.c
            cases hq : isI a.rv x
            · have HR2 := hid (HN.out hq)
              clear HN HY
              generalize woNT b.rv a.rv k = l at *
              rcases row_form hrow with ⟨rfl, hl0⟩ | ⟨go, capo, rfl, hgo, hcapo⟩
              · obtain rfl : l = [] := List.eq_nil_of_length_eq_zero hl0
                go_wp2_with fail
                refine hC.mono ?_
                rintro e w6 ⟨rfl, rfl⟩
                rw [hq]
                clear hC
                go_wp2_with (at_builtin; refine wpList_append_own _ rfl _ _ 24 rfl W6.heap.size 3 i0 (.int .i64 0) 1 8 Tryz.underlying24 hi hz0 hz1 hz2 rfl (by decide) _ _ _ rfl (hrow.alloc _) ⟨w6.heap.size, 0, none⟩ 1 1 [.int .i64 x] rfl rfl (cell_one_new _ _ _) (by intro u hu; simp at hu; subst hu; rfl) (by unfold maxLen; first | omega | (simp <;> omega)) (by first | omega | (simp <;> omega)) (by first | omega | (simp <;> omega)) ?_; intro u' w7 hown' hgrow _; have FD7 : Five w7 _ _ _ _ _ _ _ := kept_apart (FD.below ((Below.refl _ w6).alloc (Nat.le_refl _) _)) hgrow (fun k h1 h2 => by have := (hrow.lt k h2).1; simp [Value.ownBlock] at h1; omega); obtain ⟨e0, e1, e2, e3, e4⟩ := FD7.c; have g4 := FD7.f 4; obtain ⟨g', cap3, rfl⟩ := ownsRow_succ hown')
                go_roundw
                case rel =>
                  refine ⟨k + 1, _, by omega, by go_num, FD7.s4 _, ?_, ((hM.trans (Mid.of_below ((Below.refl _ w6).alloc (Nat.le_refl _) _))).app hgrow (fun k hk => (hrow.lt k hk).1)).set (p := ⟨kd, 4, none⟩) (Nat.le_refl _) (Nat.lt_succ_self _) _⟩
                  rw [HR2.out]
                  exact ownsRow_setCell_below (by simpa [nums] using hown') (a := ⟨kd, 4, none⟩) hzd _
                case measure => simp [intOf]; omega
              · go_wp2_with fail
                refine hC.mono ?_
                rintro e w6 ⟨rfl, rfl⟩
                rw [hq]
                clear hC
                go_wp2_with (at_builtin; refine wpList_append_own _ rfl _ _ 24 rfl W6.heap.size 3 i0 (.int .i64 0) 1 8 Tryz.underlying24 hi hz0 hz1 hz2 rfl (by decide) _ _ _ rfl (hrow.alloc _) ⟨w6.heap.size, 0, none⟩ 1 1 [.int .i64 x] rfl rfl (cell_one_new _ _ _) (by intro u hu; simp at hu; subst hu; rfl) (by unfold maxLen; first | omega | (simp <;> omega)) (by first | omega | (simp <;> omega)) (by first | omega | (simp <;> omega)) ?_; intro u' w7 hown' hgrow _; have FD7 : Five w7 _ _ _ _ _ _ _ := kept_apart (FD.below ((Below.refl _ w6).alloc (Nat.le_refl _) _)) hgrow (fun k h1 h2 => by have := (hrow.lt k h2).1; simp [Value.ownBlock] at h1; omega); obtain ⟨e0, e1, e2, e3, e4⟩ := FD7.c; have g4 := FD7.f 4; obtain ⟨g', cap3, rfl⟩ := ownsRow_succ hown')
                go_roundw
                case rel =>
                  refine ⟨k + 1, _, by omega, by go_num, FD7.s4 _, ?_, ((hM.trans (Mid.of_below ((Below.refl _ w6).alloc (Nat.le_refl _) _))).app hgrow (fun k hk => (hrow.lt k hk).1)).set (p := ⟨kd, 4, none⟩) (Nat.le_refl _) (Nat.lt_succ_self _) _⟩
                  rw [HR2.out]
                  exact ownsRow_setCell_below (by simpa [nums] using hown') (a := ⟨kd, 4, none⟩) hzd _
                case measure => simp [intOf]; omega
            · have HR2 := hid (HY.out hq)
              go_wp2_with fail
              refine hC.mono ?_
              rintro e w6 ⟨rfl, rfl⟩
              rw [hq]
              clear hC
              go_wp2_with fail
              go_roundw
              case rel => exact ⟨k + 1, rvv, by omega, by go_num, FD, by rw [HR2.out]; exact hrow, hM⟩
              case measure => simp [intOf]; omega
          · obtain rfl : k = b.rv.length := by omega
            rw [woNT_end] at hrow
            obtain ⟨xr, yr, zr, rfl⟩ := row_slice hrow
            obtain ⟨r0, r1, r2, r3, r4⟩ := FD.c
            obtain ⟨t0, t1, t2, t3, t4⟩ := J3.c
            have f0 := J3.f 0
            have f1 := J3.f 1
            have f2 := J3.f 2
            have f3 := J3.f 3
            have f4 := J3.f 4
            have G := ((((J3.s0 (.int .i64 a.num)).s1 (.int .i64 b.num)).s2 (.slice x4 y4 z4)).s3 (.slice x5 y5 z5)).s4 (.slice xr yr zr)
            have q4 := row_five (hM.row p4 (fun k hk => by have := row_apart p4 FD0 (by decide) k hk; simp [Value.ownBlock] at this; omega)) (k := w.heap.size + 1 + 1) D3.lt (.int .i64 a.num) (.int .i64 b.num) (.slice x4 y4 z4) (.slice x5 y5 z5) (.slice xr yr zr)
            have q5 := row_five (hM.row p5 (fun k hk => by have := row_apart p5 FD0 (by decide) k hk; simp [Value.ownBlock] at this; omega)) (k := w.heap.size + 1 + 1) G3.lt (.int .i64 a.num) (.int .i64 b.num) (.slice x4 y4 z4) (.slice x5 y5 z5) (.slice xr yr zr)
            have q6 := row_five hrow (k := w.heap.size + 1 + 1) (by omega) (.int .i64 a.num) (.int .i64 b.num) (.slice x4 y4 z4) (.slice x5 y5 z5) (.slice xr yr zr)
            have pB := below_five hBB6 (k := w.heap.size + 1 + 1) (by omega) (.int .i64 a.num) (.int .i64 b.num) (.slice x4 y4 z4) (.slice x5 y5 z5) (.slice xr yr zr)
            go_wp2_with fail
            clear r0 r1 r2 r3 r4 f0 f1 f2 f3 f4 t0 t1 t2 t3 t4
            generalize (((((wr.setCell ⟨w.heap.size + 1 + 1, 0, none⟩ (.int .i64 a.num)).setCell ⟨w.heap.size + 1 + 1, 1, none⟩ (.int .i64 b.num)).setCell ⟨w.heap.size + 1 + 1, 2, none⟩ (.slice x4 y4 z4)).setCell ⟨w.heap.size + 1 + 1, 3, none⟩ (.slice x5 y5 z5)).setCell ⟨w.heap.size + 1 + 1, 4, none⟩ (.slice xr yr zr)) = W9 at *
            obtain ⟨d0, d1, d2, d3, d4⟩ := G.c
            exact bodyPost_ret (v := .tuple #[.agg #[.int .i64 a.num, .int .i64 b.num, .slice x4 y4 z4, .slice x5 y5 z5, .slice xr yr zr], .bool true]) (by simp [results, Tryz.results7, go_sem, d0, d1, d2, d3, d4]) rfl ⟨_, by rw [HR.out], by rw [HX.out]; exact ⟨_, _, _, rfl, Go.Joins.ownsRow_le q4 hBBd.size, Go.Joins.ownsRow_le q5 hBB4.size, Go.Joins.ownsRow_le q6 (Nat.le_trans hBB5.size (Nat.le_refl _)), fun k hk => (q4.lt k hk).2, fun k hk => (q5.lt k hk).2, fun k hk => (q6.lt k hk).2, hap⟩, pB⟩

end Go.Proofs.YtoaeckcenobfcaaGreat

namespace Go.Proofs.YtoaeckcenobfcaaGreat
open Go.RowKit Go.Shelf

theorem NuR.getD {w : World} {b off : Nat} {zs : List Int} (hc : ∀ k (h : k < zs.length), w.cell? ⟨b, off + k, none⟩ = some (.int .i64 zs[k])) : ∀ j, j < zs.length → w.cell? ⟨b, off + j, none⟩ = some (.int .i64 (zs.getD j 0)) := fun j hj => by
  rw [hc j hj, List.getD_eq_getElem?_getD, List.getElem?_eq_getElem hj]
  rfl

set_option maxHeartbeats 1000000 in
theorem equalN_any (v v' : Value) (xs ys : List Int) (w : World) (hm : xs.length ≤ 1048577) (hm' : ys.length ≤ 1048577) (hr : NuR w v xs) (hr' : NuR w v' ys) :
    Calls Tryz.prog 72 #[v, v'] w fun e w' => e = .returned (.bool (xs == ys)) ∧ Below w.heap.size w w' := by
  by_cases hl : xs.length = ys.length
  · rcases Nat.eq_zero_or_pos xs.length with h0 | hpos
    · obtain rfl : xs = [] := List.eq_nil_of_length_eq_zero h0
      obtain rfl : ys = [] := List.eq_nil_of_length_eq_zero (by rw [← hl]; rfl)
      obtain ⟨a, c, rfl⟩ := hr.len
      obtain ⟨a', c', rfl⟩ := hr'.len
      refine (Any.slices_Equal_int_empty Tryz.lays111 a a' c 0 c' w (by omega)).mono ?_
      rintro e w1 ⟨rfl, rfl⟩
      exact ⟨rfl, Below.refl _ _⟩
    · rcases hr with ⟨rfl, rfl⟩ | ⟨b, off, cap, rfl, hb, hle, hc⟩
      · simp at hpos
      · rcases hr' with ⟨rfl, rfl⟩ | ⟨b', off', cap', rfl, hb', hle', hc'⟩
        · simp at hl
          subst hl
          simp at hpos
        · refine (Any.slices_Equal_int Tryz.lays111 b off xs.length cap b' off' ys.length cap' xs ys w (Nat.le_refl _) (Nat.le_refl _) (by omega) (by omega) (NuR.getD hc) (NuR.getD hc')).mono ?_
          rintro e w1 ⟨rfl, q, rfl⟩
          rw [List.take_length, List.take_length]
          exact ⟨rfl, below_drewn (Below.refl _ _) q⟩
  · obtain ⟨a, c, rfl⟩ := hr.len
    obtain ⟨a', c', rfl⟩ := hr'.len
    have HR := hid (show (xs == ys) = false by
      cases h : (xs == ys)
      · rfl
      · exact absurd (congrArg List.length (eq_of_beq h)) hl)
    have hne : ((xs.length : Int) != (ys.length : Int)) = true := by simp; omega
    clear hr hr'
    generalize xs.length = n at *
    generalize ys.length = m at *
    go_enter Tryz.func72, Tryz.ntmps72
    go_wp2
    go_ret
    exact ⟨by rw [HR.out]; rfl, Below.refl _ _⟩

set_option maxHeartbeats 4000000 in
set_option maxRecDepth 100000 in
theorem sameDiff_any (va vb : Value) (a b : Df) (w : World) (hsa : a.short) (hsb : b.short) (ha : DfR w va a) (hb : DfR w vb b) :
    Calls Tryz.prog 32 #[va, vb] w fun e w' => e = .returned (.bool (sameD a b)) ∧ Below w.heap.size w w' := by
  obtain ⟨p1, p2, p3, rfl, h1, h2, h3⟩ := ha
  obtain ⟨q1, q2, q3, rfl, k1, k2, k3⟩ := hb
  obtain ⟨l1, l2, l3, _⟩ := hsa
  obtain ⟨m1, m2, m3, _⟩ := hsb
  have hB0 : Below w.heap.size w ((w.alloc (.cells #[.int .i64 a.fr, .int .i64 a.tt, p1, p2, p3] 30)).alloc (.cells #[.int .i64 b.fr, .int .i64 b.tt, q1, q2, q3] 30)) := ((Below.refl _ w).alloc (Nat.le_refl _) _).alloc (by simp) _
  have F1 := (Five.new w (.int .i64 a.fr) (.int .i64 a.tt) p1 p2 p3 30).below ((Below.refl _ _).alloc (Nat.le_refl _) (.cells #[.int .i64 b.fr, .int .i64 b.tt, q1, q2, q3] 30))
  have F2 := Five.at (w.alloc (.cells #[.int .i64 a.fr, .int .i64 a.tt, p1, p2, p3] 30)) (.int .i64 b.fr) (.int .i64 b.tt) q1 q2 q3 30 (k := w.heap.size + 1) (by simp)
  have HS := hid (show sameD a b = ((a.fr == b.fr) && ((a.tt == b.tt) && (sameS a.dr b.dr && (sameS a.ad b.ad && (a.rv == b.rv))))) from rfl)
  go_enter Tryz.func32, Tryz.ntmps32
  cases d1 : (a.fr == b.fr)
  · go_wp2_with fail
    go_ret
    exact ⟨by rw [HS.out, d1]; rfl, hB0⟩
  cases d2 : (a.tt == b.tt)
  · go_wp2_with fail
    go_ret
    exact ⟨by rw [HS.out, d1, d2]; rfl, hB0⟩
  go_wp2_with fail
  generalize (w.alloc (.cells #[.int .i64 a.fr, .int .i64 a.tt, p1, p2, p3] 30)).alloc (.cells #[.int .i64 b.fr, .int .i64 b.tt, q1, q2, q3] 30) = W0 at *
  refine (equalRu_any _ _ a.dr b.dr _ (by omega) (by omega) (h1.below hB0) (k1.below hB0)).mono ?_
  rintro e w1 ⟨rfl, hB1⟩
  replace F1 := F1.below hB1
  replace F2 := F2.below hB1
  replace hB0 := below_one hB0 hB1
  clear hB1
  obtain ⟨a0, a1, a2, a3, a4⟩ := F1.c
  obtain ⟨c0, c1, c2, c3, c4⟩ := F2.c
  cases d3 : sameS a.dr b.dr
  · go_wp2_with fail
    go_ret
    exact ⟨by rw [HS.out, d1, d2, d3]; rfl, hB0⟩
  go_wp2_with fail
  refine (equalRu_any _ _ a.ad b.ad _ (by omega) (by omega) (h2.below hB0) (k2.below hB0)).mono ?_
  rintro e w2 ⟨rfl, hB2⟩
  replace F1 := F1.below hB2
  replace F2 := F2.below hB2
  replace hB0 := below_one hB0 hB2
  clear hB2 a0 a1 a2 a3 a4 c0 c1 c2 c3 c4
  obtain ⟨a0, a1, a2, a3, a4⟩ := F1.c
  obtain ⟨c0, c1, c2, c3, c4⟩ := F2.c
  cases d4 : sameS a.ad b.ad
  · go_wp2_with fail
    go_ret
    exact ⟨by rw [HS.out, d1, d2, d3, d4]; rfl, hB0⟩
  go_wp2_with fail
  refine (equalN_any _ _ a.rv b.rv _ (by omega) (by omega) (h3.below hB0) (k3.below hB0)).mono ?_
  rintro e w3 ⟨rfl, hB3⟩
  replace hB0 := below_one hB0 hB3
  clear hB3 a0 a1 a2 a3 a4 c0 c1 c2 c3 c4
  cases d5 : (a.rv == b.rv)
  · go_wp2_with fail
    go_ret
    exact ⟨by rw [HS.out, d1, d2, d3, d4, d5]; rfl, hB0⟩
  · go_wp2_with fail
    go_ret
    exact ⟨by rw [HS.out, d1, d2, d3, d4, d5]; rfl, hB0⟩

end Go.Proofs.YtoaeckcenobfcaaGreat

namespace Go.Proofs.YtoaeckcenobfcaaGreat
open Go.RowKit Go.Shelf

theorem step_app_read {P : Program} {w : World} {ops : Array Oper} {o : Oper} {a : Act} {K : Act → World → Prop} {Q : Exit → Act → World → Prop} {E : Prop} (hgd : o.guard = none) (s x : Operand) (t : TypeId)
    (ho : o.op = .call { callee := .builtin .append, args := #[s, x], argTypes := #[t, t] })
    (base : Nat) (e : TypeId) (i : TypeInfo) (z : Value) (size bytes : Nat) (ht : P.underlying t = some (.slice e)) (hi : P.info? e = some i) (hz : i.zero = some z)
    (hsize : i.size = size) (hby : i.bytes = bytes) (hzs : z.cells.size = size) (hsz : 0 < size)
    (v u : Value) (n m : Nat) (xs ys : List Value) (hs : a.eval s = v) (hown : w.ownsRow base e size v n xs) (hx : a.eval x = u)
    (hsrc : (u = .slice none 0 0 ∧ m = 0 ∧ ys = []) ∨ ∃ b off cap, u = .slice (some ⟨b, off, none⟩) m cap ∧ ys.length = m * size ∧ ∀ j y, ys[j]? = some y → w.cell? ⟨b, off + j, none⟩ = some y) (h1 : ∀ y ∈ ys, y.oneCell' = true)
    (h63 : n + m ≤ maxLen) (hbytes : (n + m) * bytes ≤ 140737488355328) (hbase : base ≤ w.heap.size)
    (h : ∀ v' w', w'.ownsRow base e size v' (n + m) (xs ++ ys) → w.grownBy w' v.ownBlock → K (a.put o.dst v') w') :
    if Region.wanted o (yielded ops a.tmps) = true then Oper.wp P o a w K Q else E := by
  have hw : Region.wanted o (yielded ops a.tmps) = true := by simp [Region.wanted, hgd]
  rw [if_pos hw]
  rcases hsrc with ⟨rfl, rfl, rfl⟩ | ⟨b, off, cap, rfl, hl, hc⟩
  · have hrun := run_append_owned_none (P := P) (w := w) base t o.type e i size ht hi v n xs hown
    unfold Oper.wp
    simp [execOp, ho, resolve, invoke, builtin, hs, hx, hrun, Result.andThen]
    exact h v w (by simpa using hown) (grown_self _ _)
  · exact wp_append_own w s x t ho base e i z size bytes ht hi hz hsize hby hzs hsz v n xs hs hown ⟨b, off, none⟩ m cap ys hx hl (fun j y hj => by rw [Addr.add_lit]; exact hc j y hj) h1 h63 hbytes hbase (fun v' w' h1 h2 _ => h v' w' h1 h2)
theorem nd_short {s : Sn} {d : Df} (hp : polB (rwL s d) = true) (lf : ∀ r ∈ s.pol, r.size ≤ 1048576) (mg : ∀ r ∈ d.ad, r.size ≤ 1048576) (hq2 : s.rv.length + d.rv.length ≤ 1048576) : (ndS s d).short := by
  have h30 := (pol_all hp).2
  have h1 := plTo_len (rs := rwL s d) _ (Nat.le_refl _)
  have h2 := srN_len (s.rv ++ d.rv)
  rw [List.length_append] at h2
  refine ⟨by show (plTo (rwL s d) (rwL s d).length).length ≤ _; omega, by show (srN (s.rv ++ d.rv)).length ≤ _; omega, fun r hr => ?_⟩
  have hr' : r ∈ plTo (rwL s d) (rwL s d).length := hr
  rw [plTo_mem _ (Nat.le_refl _), List.take_length] at hr'
  unfold rwL at hr'
  rcases List.mem_append.1 hr' with h | h
  · exact lf r (woR_mem h)
  · exact mg r h
theorem df_shortA {a b : Sn} (ha : a.short) (hb : b.short) : (dfX a b).short := by
  obtain ⟨a1, a2, a3⟩ := ha
  obtain ⟨b1, b2, b3⟩ := hb
  unfold dfX
  split
  · have h1 := woR_len a.pol b.pol
    have h2 := woR_len b.pol a.pol
    have h3 := woN_len b.rv a.rv
    exact ⟨Nat.le_trans h1 a1, Nat.le_trans h2 b1, Nat.le_trans h3 b2, fun r hr => a3 r (woR_mem hr), fun r hr => b3 r (woR_mem hr)⟩
  · exact ⟨by simp [Df.none], by simp [Df.none], by simp [Df.none], fun r hr => by simp [Df.none] at hr, fun r hr => by simp [Df.none] at hr⟩
def apY (s : Sn) (d : Df) : Sn := if apI s d = true then ndS s d else Sn.none
theorem apY_no {s : Sn} {d : Df} (h : apI s d = false) : apY s d = Sn.none := if_neg (by rw [h]; exact Bool.false_ne_true)
theorem apY_yes {s : Sn} {d : Df} (h : apI s d = true) : apY s d = ndS s d := if_pos h

set_option maxHeartbeats 8000000 in
set_option maxRecDepth 100000 in
theorem implApply_any (v u : Value) (s : Sn) (d : Df) (w : World) (hs : s.short) (hd : d.short) (hq1 : s.pol.length + d.ad.length ≤ 1048576) (hq2 : s.rv.length + d.rv.length ≤ 1048576) (ha : SnR w v s) (hb : DfR w u d) :
    Calls Tryz.prog 8 #[v, u] w fun e w' => ∃ v', e = .returned (.tuple #[v', .bool (apI s d)]) ∧ SnO w' w.heap.size w'.heap.size v' (apY s d) ∧ Below w.heap.size w w' := by
  have hs' := hs
  have hd' := hd
  have hwl := woR_len s.pol d.dr
  have ha' := ha
  have hb' := hb
  obtain ⟨vp, vr, rfl, h1, h2⟩ := ha
  obtain ⟨vd, va, vz, rfl, k1, k2, k3⟩ := hb
  obtain ⟨l1, l2, lf⟩ := hs
  obtain ⟨m1, m2, m3, mf, mg⟩ := hd
  obtain ⟨ap, cp, rfl⟩ := h1.len
  obtain ⟨ar, cr, rfl⟩ := h2.len
  obtain ⟨bd, cd, rfl⟩ := k1.len
  obtain ⟨ba, ca, rfl⟩ := k2.len
  obtain ⟨bz, cz, rfl⟩ := k3.len
  obtain ⟨i0, hi, hz0, hz1, hz2⟩ := info_parts infoRule
  have hBB : Below w.heap.size w (((w.alloc (.cells #[.int .i64 s.num, .slice ap s.pol.length cp, .slice ar s.rv.length cr] 26)).alloc (.cells #[.int .i64 d.fr, .int .i64 d.tt, .slice bd d.dr.length cd, .slice ba d.ad.length ca, .slice bz d.rv.length cz] 30)).alloc (.cells #[.int .i64 0, .slice none 0 0, .slice none 0 0] 26)) := (((Below.refl _ w).alloc (Nat.le_refl _) _).alloc (by simp) _).alloc (by simp; omega) _
  have F1 := ((Three.new w (.int .i64 s.num) (.slice ap s.pol.length cp) (.slice ar s.rv.length cr) 26).below ((Below.refl _ _).alloc (Nat.le_refl _) (.cells #[.int .i64 d.fr, .int .i64 d.tt, .slice bd d.dr.length cd, .slice ba d.ad.length ca, .slice bz d.rv.length cz] 30))).below ((Below.refl _ _).alloc (Nat.le_refl _) (.cells #[.int .i64 0, .slice none 0 0, .slice none 0 0] 26))
  have F2 := (Five.at (w.alloc (.cells #[.int .i64 s.num, .slice ap s.pol.length cp, .slice ar s.rv.length cr] 26)) (.int .i64 d.fr) (.int .i64 d.tt) (.slice bd d.dr.length cd) (.slice ba d.ad.length ca) (.slice bz d.rv.length cz) 30 (k := w.heap.size + 1) (by simp)).below ((Below.refl _ _).alloc (Nat.le_refl _) (.cells #[.int .i64 0, .slice none 0 0, .slice none 0 0] 26))
  have F3 := Three.at ((w.alloc (.cells #[.int .i64 s.num, .slice ap s.pol.length cp, .slice ar s.rv.length cr] 26)).alloc (.cells #[.int .i64 d.fr, .int .i64 d.tt, .slice bd d.dr.length cd, .slice ba d.ad.length ca, .slice bz d.rv.length cz] 30)) (.int .i64 0) (.slice none 0 0) (.slice none 0 0) 26 (k := w.heap.size + 1 + 1) (by simp)
  go_enter Tryz.func8, Tryz.ntmps8
  go_wp2_with fail
  generalize ((w.alloc (.cells #[.int .i64 s.num, .slice ap s.pol.length cp, .slice ar s.rv.length cr] 26)).alloc (.cells #[.int .i64 d.fr, .int .i64 d.tt, .slice bd d.dr.length cd, .slice ba d.ad.length ca, .slice bz d.rv.length cz] 30)).alloc (.cells #[.int .i64 0, .slice none 0 0, .slice none 0 0] 26) = W0 at *
  refine (implGoodSnapshot_any _ s _ hs' (ha'.below hBB)).mono ?_
  rintro e w1 ⟨rfl, hB1⟩
  replace F1 := F1.below hB1
  replace F2 := F2.below hB1
  replace F3 := F3.below hB1
  replace hBB := below_one hBB hB1
  clear hB1
  obtain ⟨a0, a1, a2⟩ := F1.c
  obtain ⟨c0, c1, c2, c3, c4⟩ := F2.c
  cases hg : snB s
  · have HT := hid (show apI s d = false by unfold apI; rw [hg]; rfl)
    have HX := hid (apY_no HT.out)
    obtain ⟨r0, r1, r2⟩ := F3.c
    have f0 := F3.f 0
    have f1 := F3.f 1
    have f2 := F3.f 2
    have G := ((F3.s0 (.int .i64 0)).s1 (.slice none 0 0)).s2 (.slice none 0 0)
    have pB := below_three hBB (k := w.heap.size + 1 + 1) (by omega) (.int .i64 0) (.slice none 0 0) (.slice none 0 0)
    go_wp2_with fail
    clear r0 r1 r2 f0 f1 f2
    generalize ((w1.setCell ⟨w.heap.size + 1 + 1, 0, none⟩ (.int .i64 0)).setCell ⟨w.heap.size + 1 + 1, 1, none⟩ (.slice none 0 0)).setCell ⟨w.heap.size + 1 + 1, 2, none⟩ (.slice none 0 0) = W9 at *
    obtain ⟨d0, d1, d2⟩ := G.c
    exact bodyPost_ret (v := .tuple #[.agg #[.int .i64 0, .slice none 0 0, .slice none 0 0], .bool false]) (by simp [results, Tryz.results8, go_sem, d0, d1, d2]) rfl ⟨_, by rw [HT.out], by rw [HX.out]; exact SnO.none _ _ _, pB⟩
  go_wp2_with fail
  have hBd : Below w1.heap.size w1 w1.drew := (Below.refl _ _).drew
  replace F1 := F1.below hBd
  replace F2 := F2.below hBd
  replace F3 := F3.below hBd
  replace hBB := below_one hBB hBd
  clear hBd
  have hk2 : w.heap.size + 1 + 1 < w1.drew.heap.size := F3.lt
  refine wp_region_held_drew (S := fun w' => w'.cell? ⟨w.heap.size, 0, none⟩ = some (.int .i64 s.num) ∧ w'.cell? ⟨w.heap.size, 1, none⟩ = some (.slice ap s.pol.length cp) ∧ w'.cell? ⟨w.heap.size, 2, none⟩ = some (.slice ar s.rv.length cr) ∧ w'.cell? ⟨w.heap.size + 1, 0, none⟩ = some (.int .i64 d.fr) ∧ w'.cell? ⟨w.heap.size + 1, 1, none⟩ = some (.int .i64 d.tt) ∧ w'.cell? ⟨w.heap.size + 1, 2, none⟩ = some (.slice bd d.dr.length cd) ∧ w'.cell? ⟨w.heap.size + 1, 3, none⟩ = some (.slice ba d.ad.length ca) ∧ w'.cell? ⟨w.heap.size + 1, 4, none⟩ = some (.slice bz d.rv.length cz)) (by kernel_rfl) ?_ (fun hHeld => ?_)
  · go_keep
  generalize w1.drew = Wd at *
  refine takeW 0 (v := ?v1) rfl (by kernel_rfl) (by kernel_rfl) (by kernel_rfl) (fun _ _ _ h => h) (by rfl) (by assumption) ?hy1 ?rest1
  case hy1 => intro w' hSw; (try dsimp only at hSw); go_simp; try with_reducible rfl
  try simp only [Act.put, List.setIfInBounds_toArray, List.set_cons_zero, List.set_cons_succ]
  refine takeW 1 (v := ?v2) rfl (by kernel_rfl) (by kernel_rfl) (by kernel_rfl) (fun _ _ _ h => h) (by rfl) (by assumption) ?hy2 ?rest2
  case hy2 => intro w' hSw; (try dsimp only at hSw); go_simp; try with_reducible rfl
  try simp only [Act.put, List.setIfInBounds_toArray, List.set_cons_zero, List.set_cons_succ]
  refine takeW 2 (v := ?v3) rfl (by kernel_rfl) (by kernel_rfl) (by kernel_rfl) (fun _ _ _ h => h) (by rfl) (by assumption) ?hy3 ?rest3
  case hy3 => intro w' hSw; (try dsimp only at hSw); go_simp; try with_reducible rfl
  try simp only [Act.put, List.setIfInBounds_toArray, List.set_cons_zero, List.set_cons_succ]
  refine takeW 3 (v := ?v4) rfl (by kernel_rfl) (by kernel_rfl) (by kernel_rfl) (fun _ _ _ h => h) (by rfl) (by assumption) ?hy4 ?rest4
  case hy4 => intro w' hSw; (try dsimp only at hSw); go_simp; try with_reducible rfl
  try simp only [Act.put, List.setIfInBounds_toArray, List.set_cons_zero, List.set_cons_succ]
  refine takeW 5 (v := ?v5) rfl (by kernel_rfl) (by kernel_rfl) (by kernel_rfl) (fun _ _ _ h => h) (by rfl) (by assumption) ?hy5 ?rest5
  case hy5 => intro w' hSw; (try dsimp only at hSw); go_simp; try with_reducible rfl
  try simp only [Act.put, List.setIfInBounds_toArray, List.set_cons_zero, List.set_cons_succ]
  refine takeW 6 (v := ?v6) rfl (by kernel_rfl) (by kernel_rfl) (by kernel_rfl) (fun _ _ _ h => h) (by rfl) (by assumption) ?hy6 ?rest6
  case hy6 => intro w' hSw; (try dsimp only at hSw); go_simp; try with_reducible rfl
  try simp only [Act.put, List.setIfInBounds_toArray, List.set_cons_zero, List.set_cons_succ]
  refine takeC 4 (by kernel_rfl) rfl (fun K hK => ?_)
  go_simp
  refine (withoutR_any _ _ s.pol d.dr _ (by omega) (by omega) (h1.below hBB).s (k1.below hBB)).mono ?_; rintro e w4 ⟨v4, rfl, o4, hB4⟩; replace F1 := F1.below hB4; replace F2 := F2.below hB4; replace F3 := F3.below hB4
  refine hK.out _ _ ?_ (fun hHeld => ?_)
  · first | go_keep | exact ⟨F1.c.1, F1.c.2.1, F1.c.2.2, F2.c⟩
  clear hK K
  try simp only [Act.put, List.setIfInBounds_toArray, List.set_cons_zero, List.set_cons_succ]
  refine takeC 7 (by kernel_rfl) rfl (fun K hK => ?_)
  refine step_app_read rfl _ _ 23 rfl w.heap.size 41 i0 _ 4 56 Tryz.underlying23 hi hz0 hz1 hz2 rfl (by decide) _ _ _ d.ad.length _ (d.ad.flatMap Ru.cells) rfl (Go.Joins.ownsRow_le o4 hBB.size) rfl ((k2.below hBB).below hB4).src cells_one (by unfold maxLen; omega) (by omega) (below_one hBB hB4).size ?_; intro v5 w5 o5 g5; have hB5 : Below w.heap.size w w5 := (below_one hBB hB4).grown g5 (below_one hBB hB4).size (fun k e => by have := (o4.lt k e).1; have := hBB.size; omega); have F1a : Three w5 _ _ _ _ _ := kept_apart F1 g5 (fun k e1 e2 => by have := (o4.lt k e2).1; have := hk2; simp [Value.ownBlock] at e1; omega); have F2a : Five w5 _ _ _ _ _ _ _ := kept_apart F2 g5 (fun k e1 e2 => by have := (o4.lt k e2).1; have := hk2; simp [Value.ownBlock] at e1; omega); have F3a : Three w5 _ _ _ _ _ := kept_apart F3 g5 (fun k e1 e2 => by have := (o4.lt k e2).1; have := hk2; simp [Value.ownBlock] at e1; omega)
  refine hK.out _ _ ?_ (fun hHeld => ?_)
  · exact ⟨F1a.c.1, F1a.c.2.1, F1a.c.2.2, F2a.c⟩
  clear hK K
  try simp only [Act.put, List.setIfInBounds_toArray, List.set_cons_zero, List.set_cons_succ]
  have hrw : RuR w5 v5 (rwL s d) := RuR.own (base := w.heap.size) (by unfold rwL; rw [List.length_append, List.flatMap_append]; exact o5)
  have hlr : (rwL s d).length ≤ 1048577 := by unfold rwL; rw [List.length_append]; omega
  have hfr : ∀ r ∈ rwL s d, r.size ≤ 1048576 := fun r hr => by
    unfold rwL at hr
    rcases List.mem_append.1 hr with h | h
    · exact lf r (woR_mem h)
    · exact mg r h
  refine takeC 8 (by kernel_rfl) rfl (fun K hK => ?_)
  go_simp
  refine (implPlain_any _ (rwL s d) _ hlr hfr hrw).mono ?_; rintro e w6 ⟨v6, rfl, o6, hB6⟩; have F1b := F1a.below hB6; have F2b := F2a.below hB6; have F3b := F3a.below hB6; obtain ⟨x6, y6, z6, rfl⟩ := row_slice o6
  refine hK.out _ _ ?_ (fun hHeld => ?_)
  · exact ⟨F1b.c.1, F1b.c.2.1, F1b.c.2.2, F2b.c⟩
  clear hK K
  try simp only [Act.put, List.setIfInBounds_toArray, List.set_cons_zero, List.set_cons_succ]
  refine takeW 9 (v := ?v7) rfl (by kernel_rfl) (by kernel_rfl) (by kernel_rfl) (fun _ _ _ h => h) (by rfl) (by assumption) ?hy7 ?rest7
  case hy7 => intro w' hSw; (try dsimp only at hSw); go_simp; try with_reducible rfl
  try simp only [Act.put, List.setIfInBounds_toArray, List.set_cons_zero, List.set_cons_succ]
  refine takeW 10 (v := ?v8) rfl (by kernel_rfl) (by kernel_rfl) (by kernel_rfl) (fun _ _ _ h => h) (by rfl) (by assumption) ?hy8 ?rest8
  case hy8 => intro w' hSw; (try dsimp only at hSw); go_simp; try with_reducible rfl
  try simp only [Act.put, List.setIfInBounds_toArray, List.set_cons_zero, List.set_cons_succ]
  refine takeW 11 (v := ?v9) rfl (by kernel_rfl) (by kernel_rfl) (by kernel_rfl) (fun _ _ _ h => h) (by rfl) (by assumption) ?hy9 ?rest9
  case hy9 => intro w' hSw; (try dsimp only at hSw); go_simp; try with_reducible rfl
  try simp only [Act.put, List.setIfInBounds_toArray, List.set_cons_zero, List.set_cons_succ]
  refine takeW 12 (v := ?v10) rfl (by kernel_rfl) (by kernel_rfl) (by kernel_rfl) (fun _ _ _ h => h) (by rfl) (by assumption) ?hy10 ?rest10
  case hy10 => intro w' hSw; (try dsimp only at hSw); go_simp; try with_reducible rfl
  try simp only [Act.put, List.setIfInBounds_toArray, List.set_cons_zero, List.set_cons_succ]
  refine takeW 13 (v := ?v11) rfl (by kernel_rfl) (by kernel_rfl) (by kernel_rfl) (fun _ _ _ h => h) (by rfl) (by assumption) ?hy11 ?rest11
  case hy11 => intro w' hSw; (try dsimp only at hSw); go_simp; try with_reducible rfl
  try simp only [Act.put, List.setIfInBounds_toArray, List.set_cons_zero, List.set_cons_succ]
  refine wpAnyH_done (by kernel_rfl) ?_ _
  have hz5 := hB5.size
  replace hBB := below_one hB5 hB6
  replace o6 := Go.Joins.ownsRow_le o6 hz5
  clear hHeld F1 F2 F3 o4 o5 g5 hB4 hB5 hB6 hrw F1a F2a F3a a0 a1 a2 c0 c1 c2 c3 c4
  have F1 := F1b
  have F2 := F2b
  have F3 := F3b
  clear F1b F2b F3b
  obtain ⟨a0, a1, a2⟩ := F1.c
  obtain ⟨c0, c1, c2, c3, c4⟩ := F2.c
  cases hp : polB (rwL s d)
  · have HT := hid (show apI s d = false by unfold apI; rw [hp, Bool.and_false]; rfl)
    have HX := hid (apY_no HT.out)
    obtain ⟨r0, r1, r2⟩ := F3.c
    have f0 := F3.f 0
    have f1 := F3.f 1
    have f2 := F3.f 2
    have G := ((F3.s0 (.int .i64 0)).s1 (.slice none 0 0)).s2 (.slice none 0 0)
    have pB := below_three hBB (k := w.heap.size + 1 + 1) (by omega) (.int .i64 0) (.slice none 0 0) (.slice none 0 0)
    go_wp2_with fail
    clear r0 r1 r2 f0 f1 f2
    generalize ((w6.setCell ⟨w.heap.size + 1 + 1, 0, none⟩ (.int .i64 0)).setCell ⟨w.heap.size + 1 + 1, 1, none⟩ (.slice none 0 0)).setCell ⟨w.heap.size + 1 + 1, 2, none⟩ (.slice none 0 0) = W9 at *
    obtain ⟨d0, d1, d2⟩ := G.c
    exact bodyPost_ret (v := .tuple #[.agg #[.int .i64 0, .slice none 0 0, .slice none 0 0], .bool false]) (by simp [results, Tryz.results8, go_sem, d0, d1, d2]) rfl ⟨_, by rw [HT.out], by rw [HX.out]; exact SnO.none _ _ _, pB⟩
  rw [plX_yes hp] at o6
  have hsn := nd_short (s := s) (d := d) hp lf mg hq2
  have hsx := df_shortA (a := s) (b := ndS s d) hs' hsn
  go_wp2_with fail
  have hBd : Below w6.heap.size w6 w6.drew := (Below.refl _ _).drew
  replace F1 := F1.below hBd
  replace F2 := F2.below hBd
  replace F3 := F3.below hBd
  replace o6 := ownsRow_below o6 hBd
  replace hBB := below_one hBB hBd
  clear hBd
  refine wp_region_held_drew (S := fun w' => w'.cell? ⟨w.heap.size, 0, none⟩ = some (.int .i64 s.num) ∧ w'.cell? ⟨w.heap.size, 1, none⟩ = some (.slice ap s.pol.length cp) ∧ w'.cell? ⟨w.heap.size, 2, none⟩ = some (.slice ar s.rv.length cr) ∧ w'.cell? ⟨w.heap.size + 1, 0, none⟩ = some (.int .i64 d.fr) ∧ w'.cell? ⟨w.heap.size + 1, 1, none⟩ = some (.int .i64 d.tt) ∧ w'.cell? ⟨w.heap.size + 1, 2, none⟩ = some (.slice bd d.dr.length cd) ∧ w'.cell? ⟨w.heap.size + 1, 3, none⟩ = some (.slice ba d.ad.length ca) ∧ w'.cell? ⟨w.heap.size + 1, 4, none⟩ = some (.slice bz d.rv.length cz)) (by kernel_rfl) ?_ (fun hHeld => ?_)
  · go_keep
  generalize w6.drew = Wd at *
  refine takeW 0 (v := ?v12) rfl (by kernel_rfl) (by kernel_rfl) (by kernel_rfl) (fun _ _ _ h => h) (by rfl) (by assumption) ?hy12 ?rest12
  case hy12 => intro w' hSw; (try dsimp only at hSw); go_simp; try with_reducible rfl
  try simp only [Act.put, List.setIfInBounds_toArray, List.set_cons_zero, List.set_cons_succ]
  refine takeW 1 (v := ?v13) rfl (by kernel_rfl) (by kernel_rfl) (by kernel_rfl) (fun _ _ _ h => h) (by rfl) (by assumption) ?hy13 ?rest13
  case hy13 => intro w' hSw; (try dsimp only at hSw); go_simp; try with_reducible rfl
  try simp only [Act.put, List.setIfInBounds_toArray, List.set_cons_zero, List.set_cons_succ]
  refine takeW 2 (v := ?v14) rfl (by kernel_rfl) (by kernel_rfl) (by kernel_rfl) (fun _ _ _ h => h) (by rfl) (by assumption) ?hy14 ?rest14
  case hy14 => intro w' hSw; (try dsimp only at hSw); go_simp; try with_reducible rfl
  try simp only [Act.put, List.setIfInBounds_toArray, List.set_cons_zero, List.set_cons_succ]
  refine takeW 3 (v := ?v15) rfl (by kernel_rfl) (by kernel_rfl) (by kernel_rfl) (fun _ _ _ h => h) (by rfl) (by assumption) ?hy15 ?rest15
  case hy15 => intro w' hSw; (try dsimp only at hSw); go_simp; try with_reducible rfl
  try simp only [Act.put, List.setIfInBounds_toArray, List.set_cons_zero, List.set_cons_succ]
  refine takeW 4 (v := ?v16) rfl (by kernel_rfl) (by kernel_rfl) (by kernel_rfl) (fun _ _ _ h => h) (by rfl) (by assumption) ?hy16 ?rest16
  case hy16 => intro w' hSw; (try dsimp only at hSw); go_simp; try with_reducible rfl
  try simp only [Act.put, List.setIfInBounds_toArray, List.set_cons_zero, List.set_cons_succ]
  refine takeW 5 (v := ?v17) rfl (by kernel_rfl) (by kernel_rfl) (by kernel_rfl) (fun _ _ _ h => h) (by rfl) (by assumption) ?hy17 ?rest17
  case hy17 => intro w' hSw; (try dsimp only at hSw); go_simp; try with_reducible rfl
  try simp only [Act.put, List.setIfInBounds_toArray, List.set_cons_zero, List.set_cons_succ]
  refine takeW 6 (v := ?v18) rfl (by kernel_rfl) (by kernel_rfl) (by kernel_rfl) (fun _ _ _ h => h) (by rfl) (by assumption) ?hy18 ?rest18
  case hy18 => intro w' hSw; (try dsimp only at hSw); go_simp; try with_reducible rfl
  try simp only [Act.put, List.setIfInBounds_toArray, List.set_cons_zero, List.set_cons_succ]
  refine takeC2 7 10 (by kernel_rfl) rfl rfl (fun K hK => ?_) (fun K hK => ?_)
  · go_simp
    skip
    refine hK.out _ _ ?_ (fun hHeld => ?_)
    · first | go_keep | exact ⟨F1.c.1, F1.c.2.1, F1.c.2.2, F2.c⟩
    clear hK K
    try simp only [Act.put, List.setIfInBounds_toArray, List.set_cons_zero, List.set_cons_succ]
    have hBv : Below Wd.heap.size Wd (Wd.alloc (.cells #[.slice ar s.rv.length cr, .slice bz d.rv.length cz] 24)) := (Below.refl _ Wd).alloc (Nat.le_refl _) _
    have hct0 : (Wd.alloc (.cells #[.slice ar s.rv.length cr, .slice bz d.rv.length cz] 24)).cell? ⟨Wd.heap.size, 0, none⟩ = some (.slice ar s.rv.length cr) := by simp
    have hct1 : (Wd.alloc (.cells #[.slice ar s.rv.length cr, .slice bz d.rv.length cz] 24)).cell? ⟨Wd.heap.size, 1, none⟩ = some (.slice bz d.rv.length cz) := by simp
    have hkt : Wd.heap.size < (Wd.alloc (.cells #[.slice ar s.rv.length cr, .slice bz d.rv.length cz] 24)).heap.size := by simp
    replace F1 := F1.below hBv
    replace F2 := F2.below hBv
    replace F3 := F3.below hBv
    replace o6 := ownsRow_below o6 hBv
    replace hBB := below_one hBB hBv
    clear hBv
    generalize Wd.alloc (.cells #[.slice ar s.rv.length cr, .slice bz d.rv.length cz] 24) = Wt at *
    generalize Wd.heap.size = kt at *
    have hsm : (catT [(Value.slice ar s.rv.length cr, s.rv), (Value.slice bz d.rv.length cz, d.rv)] [(Value.slice ar s.rv.length cr, s.rv), (Value.slice bz d.rv.length cz, d.rv)].length).length ≤ 1100000 := by simp [catT]; omega
    have hcat : catT [(Value.slice ar s.rv.length cr, s.rv), (Value.slice bz d.rv.length cz, d.rv)] [(Value.slice ar s.rv.length cr, s.rv), (Value.slice bz d.rv.length cz, d.rv)].length = s.rv ++ d.rv := by simp [catT]
    have hc1 : ∀ j (h : j < [(Value.slice ar s.rv.length cr, s.rv), (Value.slice bz d.rv.length cz, d.rv)].length), Wt.cell? ⟨kt, j, none⟩ = some ([(Value.slice ar s.rv.length cr, s.rv), (Value.slice bz d.rv.length cz, d.rv)][j]).1 := fun j hj => by
      have hj' : j < 2 := by simpa using hj
      obtain rfl | rfl : j = 0 ∨ j = 1 := by omega
      · exact hct0
      · exact hct1
    have hc2 : ∀ j (h : j < [(Value.slice ar s.rv.length cr, s.rv), (Value.slice bz d.rv.length cz, d.rv)].length), NuR Wt ([(Value.slice ar s.rv.length cr, s.rv), (Value.slice bz d.rv.length cz, d.rv)][j]).1 ([(Value.slice ar s.rv.length cr, s.rv), (Value.slice bz d.rv.length cz, d.rv)][j]).2 := fun j hj => by
      have hj' : j < 2 := by simpa using hj
      obtain rfl | rfl : j = 0 ∨ j = 1 := by omega
      · exact h2.below hBB
      · exact k3.below hBB
    refine takeC2 8 10 (by kernel_rfl) rfl rfl (fun K hK => ?_) (fun K hK => ?_)
    · go_simp
      refine (eachOnce_any kt [(Value.slice ar s.rv.length cr, s.rv), (Value.slice bz d.rv.length cz, d.rv)] _ hsm (by simp) hc1 hkt hc2).mono ?_; rintro e w8 ⟨v8, rfl, o8, hB8⟩; rw [hcat] at o8; obtain ⟨x8, y8, z8, rfl⟩ := row_slice o8; have F1c := F1.below hB8; have F2c := F2.below hB8
      refine hK.out _ _ ?_ (fun hHeld => ?_)
      · first | exact ⟨F1c.c.1, F1c.c.2.1, F1c.c.2.2, F2c.c⟩ | exact ⟨F1.c.1, F1.c.2.1, F1.c.2.2, F2.c⟩ | go_keep
      clear hK K
      try simp only [Act.put, List.setIfInBounds_toArray, List.set_cons_zero, List.set_cons_succ]
      replace o8 := Go.Joins.ownsRow_le o8 hBB.size
      replace F1 := F1.below hB8
      replace F2 := F2.below hB8
      replace F3 := F3.below hB8
      replace o6 := ownsRow_below o6 hB8
      replace hBB := below_one hBB hB8
      clear hB8 F1c F2c hc1 hc2 hsm hcat hct0 hct1 hkt
      refine takeW 9 (v := ?v19) rfl (by kernel_rfl) (by kernel_rfl) (by kernel_rfl) (fun _ _ _ h => h) (by rfl) (by assumption) ?hy19 ?rest19
      case hy19 => intro w' hSw; (try dsimp only at hSw); go_simp; try with_reducible rfl
      try simp only [Act.put, List.setIfInBounds_toArray, List.set_cons_zero, List.set_cons_succ]
      refine takeC 10 (by kernel_rfl) rfl (fun K hK => ?_)
      go_simp
      skip
      refine hK.out _ _ ?_ (fun hHeld => ?_)
      · first | exact ⟨F1c.c.1, F1c.c.2.1, F1c.c.2.2, F2c.c⟩ | exact ⟨F1.c.1, F1.c.2.1, F1.c.2.2, F2.c⟩ | go_keep
      clear hK K
      try simp only [Act.put, List.setIfInBounds_toArray, List.set_cons_zero, List.set_cons_succ]
      refine takeC 11 (by kernel_rfl) rfl (fun K hK => ?_)
      go_simp
      skip
      refine hK.out _ _ ?_ (fun hHeld => ?_)
      · first | exact ⟨F1c.c.1, F1c.c.2.1, F1c.c.2.2, F2c.c⟩ | exact ⟨F1.c.1, F1.c.2.1, F1.c.2.2, F2.c⟩ | go_keep
      clear hK K
      try simp only [Act.put, List.setIfInBounds_toArray, List.set_cons_zero, List.set_cons_succ]
      refine wpAnyH_done (by kernel_rfl) ?_ _
      have hBn : Below w8.heap.size w8 (w8.alloc (.cells #[.int .i64 d.tt, .slice x6 y6 z6, .slice x8 y8 z8] 26)) := (Below.refl _ w8).alloc (Nat.le_refl _) _
      have FN := Three.new w8 (.int .i64 d.tt) (.slice x6 y6 z6) (.slice x8 y8 z8) 26
      replace F1 := F1.below hBn
      replace F2 := F2.below hBn
      replace F3 := F3.below hBn
      replace o6 := ownsRow_below o6 hBn
      replace hBB := below_one hBB hBn
      replace o8 := ownsRow_below o8 hBn
      clear hBn hHeld
      generalize w8.alloc (.cells #[.int .i64 d.tt, .slice x6 y6 z6, .slice x8 y8 z8] 26) = W9 at *
      generalize w8.heap.size = k8 at *
      obtain ⟨X, HXX⟩ : ∃ X, Hid (X = dfX s (ndS s d)) := ⟨_, hid rfl⟩
      rw [← HXX.out] at hsx
      obtain ⟨t0, t1, t2⟩ := F1.c
      obtain ⟨n0, n1, n2⟩ := FN.c
      go_wp2_with fail
      refine (implDiffOf_any _ _ s (ndS s d) _ hs' hsn ⟨_, _, rfl, h1.below hBB, h2.below hBB⟩ ⟨_, _, rfl, RuR.own o6, NuR.own o8⟩).mono ?_
      rintro e w10 ⟨v10, rfl, OD, hB10⟩
      rw [← HXX.out] at OD
      obtain ⟨j1, j2, j3, j4, j5, j6, rfl⟩ := df_forms OD.a
      have hBe : Below w10.heap.size w10 (w10.alloc (.cells #[.int .i64 X.fr, .int .i64 X.tt, .slice j1 X.dr.length j2, .slice j3 X.ad.length j4, .slice j5 X.rv.length j6] 30)) := (Below.refl _ w10).alloc (Nat.le_refl _) _
      have FD := Five.new w10 (.int .i64 X.fr) (.int .i64 X.tt) (.slice j1 X.dr.length j2) (.slice j3 X.ad.length j4) (.slice j5 X.rv.length j6) 30
      replace F2 := (F2.below hB10).below hBe
      replace F3 := (F3.below hB10).below hBe
      replace FN := (FN.below hB10).below hBe
      replace o6 := ownsRow_below (ownsRow_below o6 hB10) hBe
      replace o8 := ownsRow_below (ownsRow_below o8 hB10) hBe
      replace OD := OD.below hBe
      replace hBB := below_one (below_one hBB hB10) hBe
      clear hB10 hBe F1 t0 t1 t2 n0 n1 n2
      cases hdf : dfB s (ndS s d)
      · have HT := hid (show apI s d = false by unfold apI; rw [hdf]; simp)
        have HX := hid (apY_no HT.out)
        obtain ⟨r0, r1, r2⟩ := F3.c
        have f0 := F3.f 0
        have f1 := F3.f 1
        have f2 := F3.f 2
        have G := ((F3.s0 (.int .i64 0)).s1 (.slice none 0 0)).s2 (.slice none 0 0)
        have pB := below_three hBB (k := w.heap.size + 1 + 1) (by omega) (.int .i64 0) (.slice none 0 0) (.slice none 0 0)
        go_wp2_with fail
        clear r0 r1 r2 f0 f1 f2
        generalize (((w10.alloc (.cells #[.int .i64 X.fr, .int .i64 X.tt, .slice j1 X.dr.length j2, .slice j3 X.ad.length j4, .slice j5 X.rv.length j6] 30)).setCell ⟨w.heap.size + 1 + 1, 0, none⟩ (.int .i64 0)).setCell ⟨w.heap.size + 1 + 1, 1, none⟩ (.slice none 0 0)).setCell ⟨w.heap.size + 1 + 1, 2, none⟩ (.slice none 0 0) = W9 at *
        obtain ⟨d0, d1, d2⟩ := G.c
        exact bodyPost_ret (v := .tuple #[.agg #[.int .i64 0, .slice none 0 0, .slice none 0 0], .bool false]) (by simp [results, Tryz.results8, go_sem, d0, d1, d2]) rfl ⟨_, by rw [HT.out], by rw [HX.out]; exact SnO.none _ _ _, pB⟩
      obtain ⟨e0, e1, e2, e3, e4⟩ := FD.c
      obtain ⟨t0, t1, t2, t3, t4⟩ := F2.c
      go_wp2_with fail
      clear e0 e1 e2 e3 e4 t0 t1 t2 t3 t4
      generalize w10.alloc (.cells #[.int .i64 X.fr, .int .i64 X.tt, .slice j1 X.dr.length j2, .slice j3 X.ad.length j4, .slice j5 X.rv.length j6] 30) = W11 at *
      refine (sameDiff_any _ _ X d _ hsx hd' OD.r (hb'.below hBB)).mono ?_
      rintro e w12 ⟨rfl, hB12⟩
      replace F3 := F3.below hB12
      replace FN := FN.below hB12
      replace o6 := ownsRow_below o6 hB12
      replace o8 := ownsRow_below o8 hB12
      replace hBB := below_one hBB hB12
      clear hB12 FD F2 OD
      cases hsd : sameD X d
      · have HT := hid (show apI s d = false by unfold apI; rw [← HXX.out, hsd]; simp)
        have HX := hid (apY_no HT.out)
        obtain ⟨r0, r1, r2⟩ := F3.c
        have f0 := F3.f 0
        have f1 := F3.f 1
        have f2 := F3.f 2
        have G := ((F3.s0 (.int .i64 0)).s1 (.slice none 0 0)).s2 (.slice none 0 0)
        have pB := below_three hBB (k := w.heap.size + 1 + 1) (by omega) (.int .i64 0) (.slice none 0 0) (.slice none 0 0)
        go_wp2_with fail
        clear r0 r1 r2 f0 f1 f2
        generalize ((w12.setCell ⟨w.heap.size + 1 + 1, 0, none⟩ (.int .i64 0)).setCell ⟨w.heap.size + 1 + 1, 1, none⟩ (.slice none 0 0)).setCell ⟨w.heap.size + 1 + 1, 2, none⟩ (.slice none 0 0) = W9 at *
        obtain ⟨d0, d1, d2⟩ := G.c
        exact bodyPost_ret (v := .tuple #[.agg #[.int .i64 0, .slice none 0 0, .slice none 0 0], .bool false]) (by simp [results, Tryz.results8, go_sem, d0, d1, d2]) rfl ⟨_, by rw [HT.out], by rw [HX.out]; exact SnO.none _ _ _, pB⟩
      · have HT := hid (show apI s d = true by unfold apI; rw [hg, hp, hdf, ← HXX.out, hsd]; rfl)
        have HX := hid (apY_yes HT.out)
        obtain ⟨n0, n1, n2⟩ := FN.c
        obtain ⟨r0, r1, r2⟩ := F3.c
        have f0 := F3.f 0
        have f1 := F3.f 1
        have f2 := F3.f 2
        have hn6 : (Value.slice x6 y6 z6).ownBlock ≠ some (w.heap.size + 1 + 1) := fun e => row_apart o6 F3 (by decide) _ e rfl
        have hn8 : (Value.slice x8 y8 z8).ownBlock ≠ some (w.heap.size + 1 + 1) := fun e => row_apart o8 F3 (by decide) _ e rfl
        have G := ((F3.s0 (.int .i64 d.tt)).s1 (.slice x6 y6 z6)).s2 (.slice x8 y8 z8)
        have q6 := ownsRow_setCell_other (ownsRow_setCell_other (ownsRow_setCell_other o6 (a := ⟨w.heap.size + 1 + 1, 0, none⟩) hn6 (.int .i64 d.tt)) (a := ⟨w.heap.size + 1 + 1, 1, none⟩) hn6 (.slice x6 y6 z6)) (a := ⟨w.heap.size + 1 + 1, 2, none⟩) hn6 (.slice x8 y8 z8)
        have q8 := ownsRow_setCell_other (ownsRow_setCell_other (ownsRow_setCell_other o8 (a := ⟨w.heap.size + 1 + 1, 0, none⟩) hn8 (.int .i64 d.tt)) (a := ⟨w.heap.size + 1 + 1, 1, none⟩) hn8 (.slice x6 y6 z6)) (a := ⟨w.heap.size + 1 + 1, 2, none⟩) hn8 (.slice x8 y8 z8)
        have pB := below_three hBB (k := w.heap.size + 1 + 1) (by omega) (.int .i64 d.tt) (.slice x6 y6 z6) (.slice x8 y8 z8)
        go_wp2_with fail
        clear r0 r1 r2 f0 f1 f2 n0 n1 n2
        generalize ((w12.setCell ⟨w.heap.size + 1 + 1, 0, none⟩ (.int .i64 d.tt)).setCell ⟨w.heap.size + 1 + 1, 1, none⟩ (.slice x6 y6 z6)).setCell ⟨w.heap.size + 1 + 1, 2, none⟩ (.slice x8 y8 z8) = W13 at *
        obtain ⟨d0, d1, d2⟩ := G.c
        exact bodyPost_ret (v := .tuple #[.agg #[.int .i64 d.tt, .slice x6 y6 z6, .slice x8 y8 z8], .bool true]) (by simp [results, Tryz.results8, go_sem, d0, d1, d2]) rfl ⟨_, by rw [HT.out], by rw [HX.out]; exact SnO.of (s := ndS s d) q6 q8, pB⟩
    · go_simp
      skip
      refine hK.out _ _ ?_ (fun hHeld => ?_)
      · first | exact ⟨F1c.c.1, F1c.c.2.1, F1c.c.2.2, F2c.c⟩ | exact ⟨F1.c.1, F1.c.2.1, F1.c.2.2, F2.c⟩ | go_keep
      clear hK K
      try simp only [Act.put, List.setIfInBounds_toArray, List.set_cons_zero, List.set_cons_succ]
      clear hc1 hc2
      have hzk : w.heap.size + 1 + 1 < Wt.heap.size := F3.lt
      have hBz : Below Wt.heap.size Wt (Wt.alloc (.cells #[.int .i64 0, .slice none 0 0, .slice none 0 0] 26)) := (Below.refl _ Wt).alloc (Nat.le_refl _) _
      have FZ := Three.new Wt (.int .i64 0) (.slice none 0 0) (.slice none 0 0) 26
      replace F1 := F1.below hBz
      replace F2 := F2.below hBz
      replace F3 := F3.below hBz
      replace o6 := ownsRow_below o6 hBz
      replace hBB := below_one hBB hBz
      replace hct0 := (hBz.cell (p := ⟨kt, 0, none⟩) hkt).trans hct0
      replace hct1 := (hBz.cell (p := ⟨kt, 1, none⟩) hkt).trans hct1
      replace hkt := Nat.lt_of_lt_of_le hkt hBz.size
      clear hBz
      generalize Wt.alloc (.cells #[.int .i64 0, .slice none 0 0, .slice none 0 0] 26) = Wz at *
      generalize Wt.heap.size = kz at *
      have hc1 : ∀ j (h : j < [(Value.slice ar s.rv.length cr, s.rv), (Value.slice bz d.rv.length cz, d.rv)].length), Wz.cell? ⟨kt, j, none⟩ = some ([(Value.slice ar s.rv.length cr, s.rv), (Value.slice bz d.rv.length cz, d.rv)][j]).1 := fun j hj => by
        have hj' : j < 2 := by simpa using hj
        obtain rfl | rfl : j = 0 ∨ j = 1 := by omega
        · exact hct0
        · exact hct1
      have hc2 : ∀ j (h : j < [(Value.slice ar s.rv.length cr, s.rv), (Value.slice bz d.rv.length cz, d.rv)].length), NuR Wz ([(Value.slice ar s.rv.length cr, s.rv), (Value.slice bz d.rv.length cz, d.rv)][j]).1 ([(Value.slice ar s.rv.length cr, s.rv), (Value.slice bz d.rv.length cz, d.rv)][j]).2 := fun j hj => by
        have hj' : j < 2 := by simpa using hj
        obtain rfl | rfl : j = 0 ∨ j = 1 := by omega
        · exact h2.below hBB
        · exact k3.below hBB
      refine takeC 8 (by kernel_rfl) rfl (fun K hK => ?_)
      go_simp
      refine (eachOnce_any kt [(Value.slice ar s.rv.length cr, s.rv), (Value.slice bz d.rv.length cz, d.rv)] _ hsm (by simp) hc1 hkt hc2).mono ?_; rintro e w8 ⟨v8, rfl, o8, hB8⟩; rw [hcat] at o8; obtain ⟨x8, y8, z8, rfl⟩ := row_slice o8; have F1c := F1.below hB8; have F2c := F2.below hB8
      refine hK.out _ _ ?_ (fun hHeld => ?_)
      · first | exact ⟨F1c.c.1, F1c.c.2.1, F1c.c.2.2, F2c.c⟩ | exact ⟨F1.c.1, F1.c.2.1, F1.c.2.2, F2.c⟩ | go_keep
      clear hK K
      try simp only [Act.put, List.setIfInBounds_toArray, List.set_cons_zero, List.set_cons_succ]
      replace o8 := Go.Joins.ownsRow_le o8 hBB.size
      replace F1 := F1.below hB8
      replace F2 := F2.below hB8
      replace F3 := F3.below hB8
      replace o6 := ownsRow_below o6 hB8
      replace hBB := below_one hBB hB8
      replace FZ := FZ.below hB8
      clear hB8 F1c F2c hc1 hc2 hsm hcat hct0 hct1 hkt
      obtain ⟨e0, e1, e2⟩ := FZ.c
      have g0 := FZ.f 0
      have g1 := FZ.f 1
      have g2 := FZ.f 2
      have m1 : w.heap.size ≠ kz := by omega
      have m2 : w.heap.size + 1 ≠ kz := by omega
      have m3 : w.heap.size + 1 + 1 ≠ kz := by omega
      refine takeW 9 (v := ?v20) rfl (by kernel_rfl) (by kernel_rfl) (by kernel_rfl) (fun _ _ _ h => h) (by rfl) (by assumption) ?hy20 ?rest20
      case hy20 => intro w' hSw; (try dsimp only at hSw); go_simp; try with_reducible rfl
      try simp only [Act.put, List.setIfInBounds_toArray, List.set_cons_zero, List.set_cons_succ]
      refine takeC 11 (by kernel_rfl) rfl (fun K hK => ?_)
      go_simp
      skip
      refine hK.out _ _ ?_ (fun hHeld => ?_)
      · first | exact ⟨(((F1.other m1 0 _).other m1 1 _).other m1 2 _).c.1, (((F1.other m1 0 _).other m1 1 _).other m1 2 _).c.2.1, (((F1.other m1 0 _).other m1 1 _).other m1 2 _).c.2.2, (((F2.other m2 0 _).other m2 1 _).other m2 2 _).c⟩ | go_keep
      clear hK K
      try simp only [Act.put, List.setIfInBounds_toArray, List.set_cons_zero, List.set_cons_succ]
      refine wpAnyH_done (by kernel_rfl) ?_ _
      have hn6 : (Value.slice x6 y6 z6).ownBlock ≠ some kz := fun e => row_apart o6 FZ (by decide) kz e rfl
      have hn8 : (Value.slice x8 y8 z8).ownBlock ≠ some kz := fun e => row_apart o8 FZ (by decide) kz e rfl
      have FN := ((FZ.s0 (.int .i64 d.tt)).s1 (.slice x6 y6 z6)).s2 (.slice x8 y8 z8)
      replace F1 := ((F1.other m1 0 (.int .i64 d.tt)).other m1 1 (.slice x6 y6 z6)).other m1 2 (.slice x8 y8 z8)
      replace F2 := ((F2.other m2 0 (.int .i64 d.tt)).other m2 1 (.slice x6 y6 z6)).other m2 2 (.slice x8 y8 z8)
      replace F3 := ((F3.other m3 0 (.int .i64 d.tt)).other m3 1 (.slice x6 y6 z6)).other m3 2 (.slice x8 y8 z8)
      replace o6 := ownsRow_setCell_other (ownsRow_setCell_other (ownsRow_setCell_other o6 (a := ⟨kz, 0, none⟩) hn6 (.int .i64 d.tt)) (a := ⟨kz, 1, none⟩) hn6 (.slice x6 y6 z6)) (a := ⟨kz, 2, none⟩) hn6 (.slice x8 y8 z8)
      replace o8 := ownsRow_setCell_other (ownsRow_setCell_other (ownsRow_setCell_other o8 (a := ⟨kz, 0, none⟩) hn8 (.int .i64 d.tt)) (a := ⟨kz, 1, none⟩) hn8 (.slice x6 y6 z6)) (a := ⟨kz, 2, none⟩) hn8 (.slice x8 y8 z8)
      replace hBB := ((hBB.setCell (p := ⟨kz, 0, none⟩) (by simp; omega) (.int .i64 d.tt)).setCell (p := ⟨kz, 1, none⟩) (by simp; omega) (.slice x6 y6 z6)).setCell (p := ⟨kz, 2, none⟩) (by simp; omega) (.slice x8 y8 z8)
      clear FZ e0 e1 e2 g0 g1 g2 hHeld
      generalize ((w8.setCell ⟨kz, 0, none⟩ (.int .i64 d.tt)).setCell ⟨kz, 1, none⟩ (.slice x6 y6 z6)).setCell ⟨kz, 2, none⟩ (.slice x8 y8 z8) = W9 at *
      obtain ⟨X, HXX⟩ : ∃ X, Hid (X = dfX s (ndS s d)) := ⟨_, hid rfl⟩
      rw [← HXX.out] at hsx
      obtain ⟨t0, t1, t2⟩ := F1.c
      obtain ⟨n0, n1, n2⟩ := FN.c
      go_wp2_with fail
      refine (implDiffOf_any _ _ s (ndS s d) _ hs' hsn ⟨_, _, rfl, h1.below hBB, h2.below hBB⟩ ⟨_, _, rfl, RuR.own o6, NuR.own o8⟩).mono ?_
      rintro e w10 ⟨v10, rfl, OD, hB10⟩
      rw [← HXX.out] at OD
      obtain ⟨j1, j2, j3, j4, j5, j6, rfl⟩ := df_forms OD.a
      have hBe : Below w10.heap.size w10 (w10.alloc (.cells #[.int .i64 X.fr, .int .i64 X.tt, .slice j1 X.dr.length j2, .slice j3 X.ad.length j4, .slice j5 X.rv.length j6] 30)) := (Below.refl _ w10).alloc (Nat.le_refl _) _
      have FD := Five.new w10 (.int .i64 X.fr) (.int .i64 X.tt) (.slice j1 X.dr.length j2) (.slice j3 X.ad.length j4) (.slice j5 X.rv.length j6) 30
      replace F2 := (F2.below hB10).below hBe
      replace F3 := (F3.below hB10).below hBe
      replace FN := (FN.below hB10).below hBe
      replace o6 := ownsRow_below (ownsRow_below o6 hB10) hBe
      replace o8 := ownsRow_below (ownsRow_below o8 hB10) hBe
      replace OD := OD.below hBe
      replace hBB := below_one (below_one hBB hB10) hBe
      clear hB10 hBe F1 t0 t1 t2 n0 n1 n2
      cases hdf : dfB s (ndS s d)
      · have HT := hid (show apI s d = false by unfold apI; rw [hdf]; simp)
        have HX := hid (apY_no HT.out)
        obtain ⟨r0, r1, r2⟩ := F3.c
        have f0 := F3.f 0
        have f1 := F3.f 1
        have f2 := F3.f 2
        have G := ((F3.s0 (.int .i64 0)).s1 (.slice none 0 0)).s2 (.slice none 0 0)
        have pB := below_three hBB (k := w.heap.size + 1 + 1) (by omega) (.int .i64 0) (.slice none 0 0) (.slice none 0 0)
        go_wp2_with fail
        clear r0 r1 r2 f0 f1 f2
        generalize (((w10.alloc (.cells #[.int .i64 X.fr, .int .i64 X.tt, .slice j1 X.dr.length j2, .slice j3 X.ad.length j4, .slice j5 X.rv.length j6] 30)).setCell ⟨w.heap.size + 1 + 1, 0, none⟩ (.int .i64 0)).setCell ⟨w.heap.size + 1 + 1, 1, none⟩ (.slice none 0 0)).setCell ⟨w.heap.size + 1 + 1, 2, none⟩ (.slice none 0 0) = W9 at *
        obtain ⟨d0, d1, d2⟩ := G.c
        exact bodyPost_ret (v := .tuple #[.agg #[.int .i64 0, .slice none 0 0, .slice none 0 0], .bool false]) (by simp [results, Tryz.results8, go_sem, d0, d1, d2]) rfl ⟨_, by rw [HT.out], by rw [HX.out]; exact SnO.none _ _ _, pB⟩
      obtain ⟨e0, e1, e2, e3, e4⟩ := FD.c
      obtain ⟨t0, t1, t2, t3, t4⟩ := F2.c
      go_wp2_with fail
      clear e0 e1 e2 e3 e4 t0 t1 t2 t3 t4
      generalize w10.alloc (.cells #[.int .i64 X.fr, .int .i64 X.tt, .slice j1 X.dr.length j2, .slice j3 X.ad.length j4, .slice j5 X.rv.length j6] 30) = W11 at *
      refine (sameDiff_any _ _ X d _ hsx hd' OD.r (hb'.below hBB)).mono ?_
      rintro e w12 ⟨rfl, hB12⟩
      replace F3 := F3.below hB12
      replace FN := FN.below hB12
      replace o6 := ownsRow_below o6 hB12
      replace o8 := ownsRow_below o8 hB12
      replace hBB := below_one hBB hB12
      clear hB12 FD F2 OD
      cases hsd : sameD X d
      · have HT := hid (show apI s d = false by unfold apI; rw [← HXX.out, hsd]; simp)
        have HX := hid (apY_no HT.out)
        obtain ⟨r0, r1, r2⟩ := F3.c
        have f0 := F3.f 0
        have f1 := F3.f 1
        have f2 := F3.f 2
        have G := ((F3.s0 (.int .i64 0)).s1 (.slice none 0 0)).s2 (.slice none 0 0)
        have pB := below_three hBB (k := w.heap.size + 1 + 1) (by omega) (.int .i64 0) (.slice none 0 0) (.slice none 0 0)
        go_wp2_with fail
        clear r0 r1 r2 f0 f1 f2
        generalize ((w12.setCell ⟨w.heap.size + 1 + 1, 0, none⟩ (.int .i64 0)).setCell ⟨w.heap.size + 1 + 1, 1, none⟩ (.slice none 0 0)).setCell ⟨w.heap.size + 1 + 1, 2, none⟩ (.slice none 0 0) = W9 at *
        obtain ⟨d0, d1, d2⟩ := G.c
        exact bodyPost_ret (v := .tuple #[.agg #[.int .i64 0, .slice none 0 0, .slice none 0 0], .bool false]) (by simp [results, Tryz.results8, go_sem, d0, d1, d2]) rfl ⟨_, by rw [HT.out], by rw [HX.out]; exact SnO.none _ _ _, pB⟩
      · have HT := hid (show apI s d = true by unfold apI; rw [hg, hp, hdf, ← HXX.out, hsd]; rfl)
        have HX := hid (apY_yes HT.out)
        obtain ⟨n0, n1, n2⟩ := FN.c
        obtain ⟨r0, r1, r2⟩ := F3.c
        have f0 := F3.f 0
        have f1 := F3.f 1
        have f2 := F3.f 2
        have hn6 : (Value.slice x6 y6 z6).ownBlock ≠ some (w.heap.size + 1 + 1) := fun e => row_apart o6 F3 (by decide) _ e rfl
        have hn8 : (Value.slice x8 y8 z8).ownBlock ≠ some (w.heap.size + 1 + 1) := fun e => row_apart o8 F3 (by decide) _ e rfl
        have G := ((F3.s0 (.int .i64 d.tt)).s1 (.slice x6 y6 z6)).s2 (.slice x8 y8 z8)
        have q6 := ownsRow_setCell_other (ownsRow_setCell_other (ownsRow_setCell_other o6 (a := ⟨w.heap.size + 1 + 1, 0, none⟩) hn6 (.int .i64 d.tt)) (a := ⟨w.heap.size + 1 + 1, 1, none⟩) hn6 (.slice x6 y6 z6)) (a := ⟨w.heap.size + 1 + 1, 2, none⟩) hn6 (.slice x8 y8 z8)
        have q8 := ownsRow_setCell_other (ownsRow_setCell_other (ownsRow_setCell_other o8 (a := ⟨w.heap.size + 1 + 1, 0, none⟩) hn8 (.int .i64 d.tt)) (a := ⟨w.heap.size + 1 + 1, 1, none⟩) hn8 (.slice x6 y6 z6)) (a := ⟨w.heap.size + 1 + 1, 2, none⟩) hn8 (.slice x8 y8 z8)
        have pB := below_three hBB (k := w.heap.size + 1 + 1) (by omega) (.int .i64 d.tt) (.slice x6 y6 z6) (.slice x8 y8 z8)
        go_wp2_with fail
        clear r0 r1 r2 f0 f1 f2 n0 n1 n2
        generalize ((w12.setCell ⟨w.heap.size + 1 + 1, 0, none⟩ (.int .i64 d.tt)).setCell ⟨w.heap.size + 1 + 1, 1, none⟩ (.slice x6 y6 z6)).setCell ⟨w.heap.size + 1 + 1, 2, none⟩ (.slice x8 y8 z8) = W13 at *
        obtain ⟨d0, d1, d2⟩ := G.c
        exact bodyPost_ret (v := .tuple #[.agg #[.int .i64 d.tt, .slice x6 y6 z6, .slice x8 y8 z8], .bool true]) (by simp [results, Tryz.results8, go_sem, d0, d1, d2]) rfl ⟨_, by rw [HT.out], by rw [HX.out]; exact SnO.of (s := ndS s d) q6 q8, pB⟩
  · go_simp
    skip
    refine hK.out _ _ ?_ (fun hHeld => ?_)
    · first | go_keep | exact ⟨F1.c.1, F1.c.2.1, F1.c.2.2, F2.c⟩
    clear hK K
    try simp only [Act.put, List.setIfInBounds_toArray, List.set_cons_zero, List.set_cons_succ]
    have hzk : w.heap.size + 1 + 1 < Wd.heap.size := F3.lt
    have hBz : Below Wd.heap.size Wd (Wd.alloc (.cells #[.int .i64 0, .slice none 0 0, .slice none 0 0] 26)) := (Below.refl _ Wd).alloc (Nat.le_refl _) _
    have FZ := Three.new Wd (.int .i64 0) (.slice none 0 0) (.slice none 0 0) 26
    replace F1 := F1.below hBz
    replace F2 := F2.below hBz
    replace F3 := F3.below hBz
    replace o6 := ownsRow_below o6 hBz
    replace hBB := below_one hBB hBz
    clear hBz
    generalize Wd.alloc (.cells #[.int .i64 0, .slice none 0 0, .slice none 0 0] 26) = Wz at *
    generalize Wd.heap.size = kz at *
    refine takeC 7 (by kernel_rfl) rfl (fun K hK => ?_)
    go_simp
    skip
    refine hK.out _ _ ?_ (fun hHeld => ?_)
    · first | go_keep | exact ⟨F1.c.1, F1.c.2.1, F1.c.2.2, F2.c⟩
    clear hK K
    try simp only [Act.put, List.setIfInBounds_toArray, List.set_cons_zero, List.set_cons_succ]
    have hBv : Below Wz.heap.size Wz (Wz.alloc (.cells #[.slice ar s.rv.length cr, .slice bz d.rv.length cz] 24)) := (Below.refl _ Wz).alloc (Nat.le_refl _) _
    have hct0 : (Wz.alloc (.cells #[.slice ar s.rv.length cr, .slice bz d.rv.length cz] 24)).cell? ⟨Wz.heap.size, 0, none⟩ = some (.slice ar s.rv.length cr) := by simp
    have hct1 : (Wz.alloc (.cells #[.slice ar s.rv.length cr, .slice bz d.rv.length cz] 24)).cell? ⟨Wz.heap.size, 1, none⟩ = some (.slice bz d.rv.length cz) := by simp
    have hkt : Wz.heap.size < (Wz.alloc (.cells #[.slice ar s.rv.length cr, .slice bz d.rv.length cz] 24)).heap.size := by simp
    replace F1 := F1.below hBv
    replace F2 := F2.below hBv
    replace F3 := F3.below hBv
    replace o6 := ownsRow_below o6 hBv
    replace hBB := below_one hBB hBv
    replace FZ := FZ.below hBv
    clear hBv
    generalize Wz.alloc (.cells #[.slice ar s.rv.length cr, .slice bz d.rv.length cz] 24) = Wt at *
    generalize Wz.heap.size = kt at *
    have hsm : (catT [(Value.slice ar s.rv.length cr, s.rv), (Value.slice bz d.rv.length cz, d.rv)] [(Value.slice ar s.rv.length cr, s.rv), (Value.slice bz d.rv.length cz, d.rv)].length).length ≤ 1100000 := by simp [catT]; omega
    have hcat : catT [(Value.slice ar s.rv.length cr, s.rv), (Value.slice bz d.rv.length cz, d.rv)] [(Value.slice ar s.rv.length cr, s.rv), (Value.slice bz d.rv.length cz, d.rv)].length = s.rv ++ d.rv := by simp [catT]
    have hc1 : ∀ j (h : j < [(Value.slice ar s.rv.length cr, s.rv), (Value.slice bz d.rv.length cz, d.rv)].length), Wt.cell? ⟨kt, j, none⟩ = some ([(Value.slice ar s.rv.length cr, s.rv), (Value.slice bz d.rv.length cz, d.rv)][j]).1 := fun j hj => by
      have hj' : j < 2 := by simpa using hj
      obtain rfl | rfl : j = 0 ∨ j = 1 := by omega
      · exact hct0
      · exact hct1
    have hc2 : ∀ j (h : j < [(Value.slice ar s.rv.length cr, s.rv), (Value.slice bz d.rv.length cz, d.rv)].length), NuR Wt ([(Value.slice ar s.rv.length cr, s.rv), (Value.slice bz d.rv.length cz, d.rv)][j]).1 ([(Value.slice ar s.rv.length cr, s.rv), (Value.slice bz d.rv.length cz, d.rv)][j]).2 := fun j hj => by
      have hj' : j < 2 := by simpa using hj
      obtain rfl | rfl : j = 0 ∨ j = 1 := by omega
      · exact h2.below hBB
      · exact k3.below hBB
    refine takeC 8 (by kernel_rfl) rfl (fun K hK => ?_)
    go_simp
    refine (eachOnce_any kt [(Value.slice ar s.rv.length cr, s.rv), (Value.slice bz d.rv.length cz, d.rv)] _ hsm (by simp) hc1 hkt hc2).mono ?_; rintro e w8 ⟨v8, rfl, o8, hB8⟩; rw [hcat] at o8; obtain ⟨x8, y8, z8, rfl⟩ := row_slice o8; have F1c := F1.below hB8; have F2c := F2.below hB8
    refine hK.out _ _ ?_ (fun hHeld => ?_)
    · first | exact ⟨F1c.c.1, F1c.c.2.1, F1c.c.2.2, F2c.c⟩ | exact ⟨F1.c.1, F1.c.2.1, F1.c.2.2, F2.c⟩ | go_keep
    clear hK K
    try simp only [Act.put, List.setIfInBounds_toArray, List.set_cons_zero, List.set_cons_succ]
    replace o8 := Go.Joins.ownsRow_le o8 hBB.size
    replace F1 := F1.below hB8
    replace F2 := F2.below hB8
    replace F3 := F3.below hB8
    replace o6 := ownsRow_below o6 hB8
    replace hBB := below_one hBB hB8
    replace FZ := FZ.below hB8
    clear hB8 F1c F2c hc1 hc2 hsm hcat hct0 hct1 hkt
    obtain ⟨e0, e1, e2⟩ := FZ.c
    have g0 := FZ.f 0
    have g1 := FZ.f 1
    have g2 := FZ.f 2
    have m1 : w.heap.size ≠ kz := by omega
    have m2 : w.heap.size + 1 ≠ kz := by omega
    have m3 : w.heap.size + 1 + 1 ≠ kz := by omega
    refine takeW 9 (v := ?v21) rfl (by kernel_rfl) (by kernel_rfl) (by kernel_rfl) (fun _ _ _ h => h) (by rfl) (by assumption) ?hy21 ?rest21
    case hy21 => intro w' hSw; (try dsimp only at hSw); go_simp; try with_reducible rfl
    try simp only [Act.put, List.setIfInBounds_toArray, List.set_cons_zero, List.set_cons_succ]
    refine takeC 11 (by kernel_rfl) rfl (fun K hK => ?_)
    go_simp
    skip
    refine hK.out _ _ ?_ (fun hHeld => ?_)
    · first | exact ⟨(((F1.other m1 0 _).other m1 1 _).other m1 2 _).c.1, (((F1.other m1 0 _).other m1 1 _).other m1 2 _).c.2.1, (((F1.other m1 0 _).other m1 1 _).other m1 2 _).c.2.2, (((F2.other m2 0 _).other m2 1 _).other m2 2 _).c⟩ | go_keep
    clear hK K
    try simp only [Act.put, List.setIfInBounds_toArray, List.set_cons_zero, List.set_cons_succ]
    refine wpAnyH_done (by kernel_rfl) ?_ _
    have hn6 : (Value.slice x6 y6 z6).ownBlock ≠ some kz := fun e => row_apart o6 FZ (by decide) kz e rfl
    have hn8 : (Value.slice x8 y8 z8).ownBlock ≠ some kz := fun e => row_apart o8 FZ (by decide) kz e rfl
    have FN := ((FZ.s0 (.int .i64 d.tt)).s1 (.slice x6 y6 z6)).s2 (.slice x8 y8 z8)
    replace F1 := ((F1.other m1 0 (.int .i64 d.tt)).other m1 1 (.slice x6 y6 z6)).other m1 2 (.slice x8 y8 z8)
    replace F2 := ((F2.other m2 0 (.int .i64 d.tt)).other m2 1 (.slice x6 y6 z6)).other m2 2 (.slice x8 y8 z8)
    replace F3 := ((F3.other m3 0 (.int .i64 d.tt)).other m3 1 (.slice x6 y6 z6)).other m3 2 (.slice x8 y8 z8)
    replace o6 := ownsRow_setCell_other (ownsRow_setCell_other (ownsRow_setCell_other o6 (a := ⟨kz, 0, none⟩) hn6 (.int .i64 d.tt)) (a := ⟨kz, 1, none⟩) hn6 (.slice x6 y6 z6)) (a := ⟨kz, 2, none⟩) hn6 (.slice x8 y8 z8)
    replace o8 := ownsRow_setCell_other (ownsRow_setCell_other (ownsRow_setCell_other o8 (a := ⟨kz, 0, none⟩) hn8 (.int .i64 d.tt)) (a := ⟨kz, 1, none⟩) hn8 (.slice x6 y6 z6)) (a := ⟨kz, 2, none⟩) hn8 (.slice x8 y8 z8)
    replace hBB := ((hBB.setCell (p := ⟨kz, 0, none⟩) (by simp; omega) (.int .i64 d.tt)).setCell (p := ⟨kz, 1, none⟩) (by simp; omega) (.slice x6 y6 z6)).setCell (p := ⟨kz, 2, none⟩) (by simp; omega) (.slice x8 y8 z8)
    clear FZ e0 e1 e2 g0 g1 g2 hHeld
    generalize ((w8.setCell ⟨kz, 0, none⟩ (.int .i64 d.tt)).setCell ⟨kz, 1, none⟩ (.slice x6 y6 z6)).setCell ⟨kz, 2, none⟩ (.slice x8 y8 z8) = W9 at *
    obtain ⟨X, HXX⟩ : ∃ X, Hid (X = dfX s (ndS s d)) := ⟨_, hid rfl⟩
    rw [← HXX.out] at hsx
    obtain ⟨t0, t1, t2⟩ := F1.c
    obtain ⟨n0, n1, n2⟩ := FN.c
    go_wp2_with fail
    refine (implDiffOf_any _ _ s (ndS s d) _ hs' hsn ⟨_, _, rfl, h1.below hBB, h2.below hBB⟩ ⟨_, _, rfl, RuR.own o6, NuR.own o8⟩).mono ?_
    rintro e w10 ⟨v10, rfl, OD, hB10⟩
    rw [← HXX.out] at OD
    obtain ⟨j1, j2, j3, j4, j5, j6, rfl⟩ := df_forms OD.a
    have hBe : Below w10.heap.size w10 (w10.alloc (.cells #[.int .i64 X.fr, .int .i64 X.tt, .slice j1 X.dr.length j2, .slice j3 X.ad.length j4, .slice j5 X.rv.length j6] 30)) := (Below.refl _ w10).alloc (Nat.le_refl _) _
    have FD := Five.new w10 (.int .i64 X.fr) (.int .i64 X.tt) (.slice j1 X.dr.length j2) (.slice j3 X.ad.length j4) (.slice j5 X.rv.length j6) 30
    replace F2 := (F2.below hB10).below hBe
    replace F3 := (F3.below hB10).below hBe
    replace FN := (FN.below hB10).below hBe
    replace o6 := ownsRow_below (ownsRow_below o6 hB10) hBe
    replace o8 := ownsRow_below (ownsRow_below o8 hB10) hBe
    replace OD := OD.below hBe
    replace hBB := below_one (below_one hBB hB10) hBe
    clear hB10 hBe F1 t0 t1 t2 n0 n1 n2
    cases hdf : dfB s (ndS s d)
    · have HT := hid (show apI s d = false by unfold apI; rw [hdf]; simp)
      have HX := hid (apY_no HT.out)
      obtain ⟨r0, r1, r2⟩ := F3.c
      have f0 := F3.f 0
      have f1 := F3.f 1
      have f2 := F3.f 2
      have G := ((F3.s0 (.int .i64 0)).s1 (.slice none 0 0)).s2 (.slice none 0 0)
      have pB := below_three hBB (k := w.heap.size + 1 + 1) (by omega) (.int .i64 0) (.slice none 0 0) (.slice none 0 0)
      go_wp2_with fail
      clear r0 r1 r2 f0 f1 f2
      generalize (((w10.alloc (.cells #[.int .i64 X.fr, .int .i64 X.tt, .slice j1 X.dr.length j2, .slice j3 X.ad.length j4, .slice j5 X.rv.length j6] 30)).setCell ⟨w.heap.size + 1 + 1, 0, none⟩ (.int .i64 0)).setCell ⟨w.heap.size + 1 + 1, 1, none⟩ (.slice none 0 0)).setCell ⟨w.heap.size + 1 + 1, 2, none⟩ (.slice none 0 0) = W9 at *
      obtain ⟨d0, d1, d2⟩ := G.c
      exact bodyPost_ret (v := .tuple #[.agg #[.int .i64 0, .slice none 0 0, .slice none 0 0], .bool false]) (by simp [results, Tryz.results8, go_sem, d0, d1, d2]) rfl ⟨_, by rw [HT.out], by rw [HX.out]; exact SnO.none _ _ _, pB⟩
    obtain ⟨e0, e1, e2, e3, e4⟩ := FD.c
    obtain ⟨t0, t1, t2, t3, t4⟩ := F2.c
    go_wp2_with fail
    clear e0 e1 e2 e3 e4 t0 t1 t2 t3 t4
    generalize w10.alloc (.cells #[.int .i64 X.fr, .int .i64 X.tt, .slice j1 X.dr.length j2, .slice j3 X.ad.length j4, .slice j5 X.rv.length j6] 30) = W11 at *
    refine (sameDiff_any _ _ X d _ hsx hd' OD.r (hb'.below hBB)).mono ?_
    rintro e w12 ⟨rfl, hB12⟩
    replace F3 := F3.below hB12
    replace FN := FN.below hB12
    replace o6 := ownsRow_below o6 hB12
    replace o8 := ownsRow_below o8 hB12
    replace hBB := below_one hBB hB12
    clear hB12 FD F2 OD
    cases hsd : sameD X d
    · have HT := hid (show apI s d = false by unfold apI; rw [← HXX.out, hsd]; simp)
      have HX := hid (apY_no HT.out)
      obtain ⟨r0, r1, r2⟩ := F3.c
      have f0 := F3.f 0
      have f1 := F3.f 1
      have f2 := F3.f 2
      have G := ((F3.s0 (.int .i64 0)).s1 (.slice none 0 0)).s2 (.slice none 0 0)
      have pB := below_three hBB (k := w.heap.size + 1 + 1) (by omega) (.int .i64 0) (.slice none 0 0) (.slice none 0 0)
      go_wp2_with fail
      clear r0 r1 r2 f0 f1 f2
      generalize ((w12.setCell ⟨w.heap.size + 1 + 1, 0, none⟩ (.int .i64 0)).setCell ⟨w.heap.size + 1 + 1, 1, none⟩ (.slice none 0 0)).setCell ⟨w.heap.size + 1 + 1, 2, none⟩ (.slice none 0 0) = W9 at *
      obtain ⟨d0, d1, d2⟩ := G.c
      exact bodyPost_ret (v := .tuple #[.agg #[.int .i64 0, .slice none 0 0, .slice none 0 0], .bool false]) (by simp [results, Tryz.results8, go_sem, d0, d1, d2]) rfl ⟨_, by rw [HT.out], by rw [HX.out]; exact SnO.none _ _ _, pB⟩
    · have HT := hid (show apI s d = true by unfold apI; rw [hg, hp, hdf, ← HXX.out, hsd]; rfl)
      have HX := hid (apY_yes HT.out)
      obtain ⟨n0, n1, n2⟩ := FN.c
      obtain ⟨r0, r1, r2⟩ := F3.c
      have f0 := F3.f 0
      have f1 := F3.f 1
      have f2 := F3.f 2
      have hn6 : (Value.slice x6 y6 z6).ownBlock ≠ some (w.heap.size + 1 + 1) := fun e => row_apart o6 F3 (by decide) _ e rfl
      have hn8 : (Value.slice x8 y8 z8).ownBlock ≠ some (w.heap.size + 1 + 1) := fun e => row_apart o8 F3 (by decide) _ e rfl
      have G := ((F3.s0 (.int .i64 d.tt)).s1 (.slice x6 y6 z6)).s2 (.slice x8 y8 z8)
      have q6 := ownsRow_setCell_other (ownsRow_setCell_other (ownsRow_setCell_other o6 (a := ⟨w.heap.size + 1 + 1, 0, none⟩) hn6 (.int .i64 d.tt)) (a := ⟨w.heap.size + 1 + 1, 1, none⟩) hn6 (.slice x6 y6 z6)) (a := ⟨w.heap.size + 1 + 1, 2, none⟩) hn6 (.slice x8 y8 z8)
      have q8 := ownsRow_setCell_other (ownsRow_setCell_other (ownsRow_setCell_other o8 (a := ⟨w.heap.size + 1 + 1, 0, none⟩) hn8 (.int .i64 d.tt)) (a := ⟨w.heap.size + 1 + 1, 1, none⟩) hn8 (.slice x6 y6 z6)) (a := ⟨w.heap.size + 1 + 1, 2, none⟩) hn8 (.slice x8 y8 z8)
      have pB := below_three hBB (k := w.heap.size + 1 + 1) (by omega) (.int .i64 d.tt) (.slice x6 y6 z6) (.slice x8 y8 z8)
      go_wp2_with fail
      clear r0 r1 r2 f0 f1 f2 n0 n1 n2
      generalize ((w12.setCell ⟨w.heap.size + 1 + 1, 0, none⟩ (.int .i64 d.tt)).setCell ⟨w.heap.size + 1 + 1, 1, none⟩ (.slice x6 y6 z6)).setCell ⟨w.heap.size + 1 + 1, 2, none⟩ (.slice x8 y8 z8) = W13 at *
      obtain ⟨d0, d1, d2⟩ := G.c
      exact bodyPost_ret (v := .tuple #[.agg #[.int .i64 d.tt, .slice x6 y6 z6, .slice x8 y8 z8], .bool true]) (by simp [results, Tryz.results8, go_sem, d0, d1, d2]) rfl ⟨_, by rw [HT.out], by rw [HX.out]; exact SnO.of (s := ndS s d) q6 q8, pB⟩

end Go.Proofs.YtoaeckcenobfcaaGreat

namespace Go.Proofs.YtoaeckcenobfcaaGreat
open Go.RowKit Go.Shelf

theorem neq_rule (r : Ru) (w : World) : (binOp .neq 41 r.val r.val).run Tryz.prog w = .ok (.bool false) w := by
  first | rw [run_neq_struct] | skip
  simp [go_sem, Tryz.underlying41]

set_option maxHeartbeats 2000000 in
theorem sameRules_any (v v' : Value) (rs : List Ru) (w : World) (_hm : rs.length ≤ 1048577) (hr : RuS w v rs) (hr' : RuS w v' rs) :
    Calls Tryz.prog 33 #[v, v'] w fun e w' => e = .returned (.bool true) ∧ Below w.heap.size w w' := by
  obtain ⟨a, cap, rfl⟩ := hr.len
  obtain ⟨a', cap', rfl⟩ := hr'.len
  have e0 : ((rs.length : Int) != (rs.length : Int)) = false := by simp
  go_enter Tryz.func33, Tryz.ntmps33
  go_wp2
  go_loopw [13] (fun i wr => ∃ k : Nat, k ≤ rs.length ∧ i = .int .i64 k ∧ Below w.heap.size w wr) (fun i _ => rs.length - (intOf i).toNat)
  case atStart => exact ⟨0, Nat.zero_le _, rfl, Below.refl _ _⟩
  case round =>
    obtain ⟨k, hk, rfl, hB⟩ := hrel
    by_cases hlt : k < rs.length
    · obtain ⟨b, off, rfl, hb, hcap, q0, q1, q2, q3⟩ := (hr.below hB).at hlt
      obtain ⟨b', off', rfl, hb', hcap', p0, p1, p2, p3⟩ := (hr'.below hB).at hlt
      generalize rs[k] = r at *
      obtain ⟨rd, rwh, rme, rpa⟩ := r
      have hse := neq_rule ⟨rd, rwh, rme, rpa⟩
      simp only at q0 q1 q2 q3 p0 p1 p2 p3
      go_wp2_with fail
      go_region
      go_wp2
      go_roundw
      case rel => exact ⟨k + 1, by omega, by go_num, hB.drew⟩
      case measure => simp [intOf]; omega
    · obtain rfl : k = rs.length := by omega
      go_wp2
      go_ret
      exact ⟨rfl, hB⟩

end Go.Proofs.YtoaeckcenobfcaaGreat

namespace Go.Proofs.YtoaeckcenobfcaaGreat
open Go.RowKit Go.Shelf

set_option maxHeartbeats 1000000 in
theorem sameInts_any (v v' : Value) (zs : List Int) (w : World) (hn : zs.length ≤ 1048577) (hr : VS w v (nums zs)) (hr' : VS w v' (nums zs)) :
    Calls Tryz.prog 34 #[v, v'] w fun e w' => e = .returned (.bool true) ∧ Below w.heap.size w w' := by
  obtain ⟨a, cap, rfl⟩ := hr.numLen
  obtain ⟨a', cap', rfl⟩ := hr'.numLen
  have e0 : ((zs.length : Int) != (zs.length : Int)) = false := by simp
  go_enter Tryz.func34, Tryz.ntmps34
  go_wp2
  go_loopw [13] (fun i wr => ∃ j : Nat, j ≤ zs.length ∧ i = .int .i64 j ∧ Below w.heap.size w wr) (fun i _ => zs.length - (intOf i).toNat)
  case atStart => exact ⟨0, Nat.zero_le _, rfl, Below.refl _ _⟩
  case round =>
    obtain ⟨j, hj, rfl, hB⟩ := hrel
    by_cases hlt : j < zs.length
    · obtain ⟨b, off, rfl, hb, hcap, q0⟩ := (hr.below hB).num hlt
      obtain ⟨b', off', rfl, hb', hcap', q1⟩ := (hr'.below hB).num hlt
      generalize zs[j] = x at q0 q1
      go_wp2_with fail
      go_quiet (fail)
      go_wp2
      go_roundw
      case rel => first | exact ⟨j + 1, by omega, by go_num, below_drewn hB _⟩ | ((repeat apply Exists.intro); exact ⟨⟨j + 1, by omega, by go_num, below_drewn hB _⟩, rfl⟩)
      case measure => simp [intOf]; omega
    · obtain rfl : j = zs.length := by omega
      go_wp2
      go_ret
      exact ⟨rfl, hB⟩

set_option maxHeartbeats 2000000 in
theorem sameSnapshots_any (v v' : Value) (s : Sn) (w : World) (hs : s.short) (h : SnA w v s) (h' : SnA w v' s) :
    Calls Tryz.prog 9 #[v, v'] w fun e w' => e = .returned (.bool true) ∧ Below w.heap.size w w' := by
  obtain ⟨vp, vr, rfl, h1, h2⟩ := h
  obtain ⟨vp', vr', rfl, h1', h2'⟩ := h'
  obtain ⟨l1, l2, _⟩ := hs
  have hB0 : Below w.heap.size w ((w.alloc (.cells #[.int .i64 s.num, vp, vr] 26)).alloc (.cells #[.int .i64 s.num, vp', vr'] 26)) := ((Below.refl _ w).alloc (Nat.le_refl _) _).alloc (by simp) _
  have F1 := (Three.new w (.int .i64 s.num) vp vr 26).below ((Below.refl _ _).alloc (Nat.le_refl _) (.cells #[.int .i64 s.num, vp', vr'] 26))
  have F2 := Three.at (w.alloc (.cells #[.int .i64 s.num, vp, vr] 26)) (.int .i64 s.num) vp' vr' 26 (k := w.heap.size + 1) (by simp)
  have e1 : (s.num == s.num) = true := by simp
  obtain ⟨p0, p1, p2⟩ := F1.c
  obtain ⟨r0, r1, r2⟩ := F2.c
  go_enter Tryz.func9, Tryz.ntmps9
  go_wp2_with fail
  generalize (w.alloc (.cells #[.int .i64 s.num, vp, vr] 26)).alloc (.cells #[.int .i64 s.num, vp', vr'] 26) = W0 at *
  refine (sameRules_any vp vp' s.pol _ (by omega) (h1.below hB0) (h1'.below hB0)).mono ?_
  rintro e w1 ⟨rfl, hB1⟩
  clear p0 p1 p2 r0 r1 r2
  replace F1 := F1.below hB1
  replace F2 := F2.below hB1
  have hBB1 := below_one hB0 hB1
  clear hB1 hB0
  obtain ⟨a0, a1, a2⟩ := F1.c
  obtain ⟨c0, c1, c2⟩ := F2.c
  go_wp2_with fail
  refine (sameInts_any vr vr' s.rv _ (by omega) (h2.below hBB1) (h2'.below hBB1)).mono ?_
  rintro e w2 ⟨rfl, hB2⟩
  have hBB2 := below_one hBB1 hB2
  clear a0 a1 a2 c0 c1 c2 hB2
  go_wp2_with fail
  go_ret
  exact ⟨rfl, hBB2⟩

end Go.Proofs.YtoaeckcenobfcaaGreat
