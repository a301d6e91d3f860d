/-
  Chapter 5: DiffOf by the program.
-/
import Derived.Test.YtmmjiocmldnamaaPlainR
import Derived.Test.YtmmjiocmldnamaaWoT
import Derived.Test.YtmmjiocmldnamaaDfV
import Derived.Test.YtmmjiocmldnamaaTake
namespace Go.Proofs.Ytmmjiocmldnamaa
open Go.RowKit Go.Shelf

theorem dfB_no1 {a b : Sn} (h : snB a = false) : dfB a b = false := by unfold dfB; rw [h]; rfl
theorem dfB_no2 {a b : Sn} (h : snB b = false) : dfB a b = false := by unfold dfB; rw [h]; simp
theorem dfB_no3 {a b : Sn} (h : ¬ a.num < b.num) : dfB a b = false := by unfold dfB; rw [decide_eq_false h]; simp
theorem dfB_no4 {a b : Sn} (h : (woN a.rv b.rv).length ≠ 0) : dfB a b = false := by
  unfold dfB
  rw [Bool.and_eq_false_iff]
  right
  cases hw : woN a.rv b.rv with
  | nil => rw [hw] at h; exact absurd rfl h
  | cons x xs => rfl
theorem dfB_yes {a b : Sn} (h1 : snB a = true) (h2 : snB b = true) (h3 : a.num < b.num) (h4 : (woN a.rv b.rv).length = 0) : dfB a b = true := by
  unfold dfB
  rw [h1, h2, decide_eq_true h3, List.eq_nil_of_length_eq_zero h4]
  rfl

set_option maxHeartbeats 8000000 in
set_option maxRecDepth 100000 in
theorem implDiffOf_any (va vb : Value) (a b : Sn) (w : World) (hsa : a.short) (hsb : b.short) (ha : SnR w va a) (hb : SnR w vb b) :
    Calls Try.prog 20 #[va, vb] w fun e w' => ∃ v', e = .returned (.tuple #[v', .bool (dfB a b)]) ∧ DfO w' w.heap.size w'.heap.size v' (dfX a b) ∧ Below w.heap.size w w' := by
  obtain ⟨vpa, vra, rfl, ha1, ha2⟩ := ha
  obtain ⟨vpb, vrb, rfl, hb1, hb2⟩ := hb
  obtain ⟨pa, ca, rfl⟩ := ha1.len
  obtain ⟨ra, da, rfl⟩ := ha2.len
  obtain ⟨pb, cb, rfl⟩ := hb1.len
  obtain ⟨rb, db, rfl⟩ := hb2.len
  have la1 := hsa.1
  have la2 := hsa.2.1
  have lb1 := hsb.1
  have lb2 := hsb.2.1
  have hBB : Below w.heap.size w (((w.alloc (.cells #[.int .i64 a.num, .slice pa a.pol.length ca, .slice ra a.rv.length da] 30)).alloc (.cells #[.int .i64 b.num, .slice pb b.pol.length cb, .slice rb b.rv.length db] 30)).alloc (.cells #[.int .i64 0, .int .i64 0, .slice none 0 0, .slice none 0 0, .slice none 0 0] 45)) := (((Below.refl _ w).alloc (Nat.le_refl _) _).alloc (by simp) _).alloc (by simp; omega) _
  have F1 := ((Three.new w (.int .i64 a.num) (.slice pa a.pol.length ca) (.slice ra a.rv.length da) 30).below ((Below.refl _ _).alloc (Nat.le_refl _) (.cells #[.int .i64 b.num, .slice pb b.pol.length cb, .slice rb b.rv.length db] 30))).below ((Below.refl _ _).alloc (Nat.le_refl _) (.cells #[.int .i64 0, .int .i64 0, .slice none 0 0, .slice none 0 0, .slice none 0 0] 45))
  have F2 := (Three.at (w.alloc (.cells #[.int .i64 a.num, .slice pa a.pol.length ca, .slice ra a.rv.length da] 30)) (.int .i64 b.num) (.slice pb b.pol.length cb) (.slice rb b.rv.length db) 30 (k := w.heap.size + 1) (by simp)).below ((Below.refl _ _).alloc (Nat.le_refl _) (.cells #[.int .i64 0, .int .i64 0, .slice none 0 0, .slice none 0 0, .slice none 0 0] 45))
  have F3 := Five.at ((w.alloc (.cells #[.int .i64 a.num, .slice pa a.pol.length ca, .slice ra a.rv.length da] 30)).alloc (.cells #[.int .i64 b.num, .slice pb b.pol.length cb, .slice rb b.rv.length db] 30)) (.int .i64 0) (.int .i64 0) (.slice none 0 0) (.slice none 0 0) (.slice none 0 0) 45 (k := w.heap.size + 1 + 1) (by simp)
  go_enter Try.func20, Try.ntmps20
  go_wp2_with fail
  generalize ((w.alloc (.cells #[.int .i64 a.num, .slice pa a.pol.length ca, .slice ra a.rv.length da] 30)).alloc (.cells #[.int .i64 b.num, .slice pb b.pol.length cb, .slice rb b.rv.length db] 30)).alloc (.cells #[.int .i64 0, .int .i64 0, .slice none 0 0, .slice none 0 0, .slice none 0 0] 45) = W0 at *
  refine (implGoodSnapshot_any _ a _ hsa ⟨_, _, rfl, ha1.below hBB, ha2.below hBB⟩).mono ?_
  rintro e w1 ⟨rfl, hB1⟩
  replace F1 := F1.below hB1
  replace F2 := F2.below hB1
  replace F3 := F3.below hB1
  replace hBB := below_one hBB hB1
  clear hB1
  cases hA : snB a
  · have HR := hid (dfB_no1 (b := b) hA)
    have HX := hid (dfX_no HR.out)
    obtain ⟨r0, r1, r2, r3, r4⟩ := F3.c
    have f0 := F3.f 0
    have f1 := F3.f 1
    have f2 := F3.f 2
    have f3 := F3.f 3
    have f4 := F3.f 4
    have G := ((((F3.s0 (.int .i64 0)).s1 (.int .i64 0)).s2 (.slice none 0 0)).s3 (.slice none 0 0)).s4 (.slice none 0 0)
    have pB := below_five hBB (k := w.heap.size + 1 + 1) (by omega) (.int .i64 0) (.int .i64 0) (.slice none 0 0) (.slice none 0 0) (.slice none 0 0)
    go_wp2_with fail
    clear r0 r1 r2 r3 r4 f0 f1 f2 f3 f4
    generalize (((((w1.setCell ⟨w.heap.size + 1 + 1, 0, none⟩ (.int .i64 0)).setCell ⟨w.heap.size + 1 + 1, 1, none⟩ (.int .i64 0)).setCell ⟨w.heap.size + 1 + 1, 2, none⟩ (.slice none 0 0)).setCell ⟨w.heap.size + 1 + 1, 3, none⟩ (.slice none 0 0)).setCell ⟨w.heap.size + 1 + 1, 4, none⟩ (.slice none 0 0)) = W9 at *
    obtain ⟨d0, d1, d2, d3, d4⟩ := G.c
    exact bodyPost_ret (v := .tuple #[.agg #[.int .i64 0, .int .i64 0, .slice none 0 0, .slice none 0 0, .slice none 0 0], .bool false]) (by simp [results, Try.results20, go_sem, d0, d1, d2, d3, d4]) rfl ⟨_, by rw [HR.out], by rw [HX.out]; exact DfO.none _ _ _, pB⟩
  obtain ⟨b0, b1, b2⟩ := F2.c
  go_wp2_with fail
  refine (implGoodSnapshot_any _ b _ hsb ⟨_, _, rfl, hb1.below hBB, hb2.below hBB⟩).mono ?_
  rintro e w2 ⟨rfl, hB2⟩
  replace F1 := F1.below hB2
  replace F2 := F2.below hB2
  replace F3 := F3.below hB2
  replace hBB := below_one hBB hB2
  clear hB2 b0 b1 b2
  obtain ⟨a0, a1, a2⟩ := F1.c
  obtain ⟨b0, b1, b2⟩ := F2.c
  cases hB : snB b
  · have HR := hid (dfB_no2 (a := a) hB)
    have HX := hid (dfX_no HR.out)
    obtain ⟨r0, r1, r2, r3, r4⟩ := F3.c
    have f0 := F3.f 0
    have f1 := F3.f 1
    have f2 := F3.f 2
    have f3 := F3.f 3
    have f4 := F3.f 4
    have G := ((((F3.s0 (.int .i64 0)).s1 (.int .i64 0)).s2 (.slice none 0 0)).s3 (.slice none 0 0)).s4 (.slice none 0 0)
    have pB := below_five hBB (k := w.heap.size + 1 + 1) (by omega) (.int .i64 0) (.int .i64 0) (.slice none 0 0) (.slice none 0 0) (.slice none 0 0)
    go_wp2_with fail
    clear r0 r1 r2 r3 r4 f0 f1 f2 f3 f4
    generalize (((((w2.setCell ⟨w.heap.size + 1 + 1, 0, none⟩ (.int .i64 0)).setCell ⟨w.heap.size + 1 + 1, 1, none⟩ (.int .i64 0)).setCell ⟨w.heap.size + 1 + 1, 2, none⟩ (.slice none 0 0)).setCell ⟨w.heap.size + 1 + 1, 3, none⟩ (.slice none 0 0)).setCell ⟨w.heap.size + 1 + 1, 4, none⟩ (.slice none 0 0)) = W9 at *
    obtain ⟨d0, d1, d2, d3, d4⟩ := G.c
    exact bodyPost_ret (v := .tuple #[.agg #[.int .i64 0, .int .i64 0, .slice none 0 0, .slice none 0 0, .slice none 0 0], .bool false]) (by simp [results, Try.results20, go_sem, d0, d1, d2, d3, d4]) rfl ⟨_, by rw [HR.out], by rw [HX.out]; exact DfO.none _ _ _, pB⟩
  by_cases hlt : a.num < b.num
  case neg =>
    have HR := hid (dfB_no3 hlt)
    have HX := hid (dfX_no HR.out)
    have dge : decide (b.num ≤ a.num) = true := by simp; omega
    obtain ⟨r0, r1, r2, r3, r4⟩ := F3.c
    have f0 := F3.f 0
    have f1 := F3.f 1
    have f2 := F3.f 2
    have f3 := F3.f 3
    have f4 := F3.f 4
    have G := ((((F3.s0 (.int .i64 0)).s1 (.int .i64 0)).s2 (.slice none 0 0)).s3 (.slice none 0 0)).s4 (.slice none 0 0)
    have pB := below_five hBB (k := w.heap.size + 1 + 1) (by omega) (.int .i64 0) (.int .i64 0) (.slice none 0 0) (.slice none 0 0) (.slice none 0 0)
    go_wp2_with fail
    clear r0 r1 r2 r3 r4 f0 f1 f2 f3 f4
    generalize (((((w2.setCell ⟨w.heap.size + 1 + 1, 0, none⟩ (.int .i64 0)).setCell ⟨w.heap.size + 1 + 1, 1, none⟩ (.int .i64 0)).setCell ⟨w.heap.size + 1 + 1, 2, none⟩ (.slice none 0 0)).setCell ⟨w.heap.size + 1 + 1, 3, none⟩ (.slice none 0 0)).setCell ⟨w.heap.size + 1 + 1, 4, none⟩ (.slice none 0 0)) = W9 at *
    obtain ⟨d0, d1, d2, d3, d4⟩ := G.c
    exact bodyPost_ret (v := .tuple #[.agg #[.int .i64 0, .int .i64 0, .slice none 0 0, .slice none 0 0, .slice none 0 0], .bool false]) (by simp [results, Try.results20, go_sem, d0, d1, d2, d3, d4]) rfl ⟨_, by rw [HR.out], by rw [HX.out]; exact DfO.none _ _ _, pB⟩
  have dge : decide (b.num ≤ a.num) = false := by simp; omega
  go_wp2_with fail
  refine (withoutN_any _ _ a.rv b.rv _ (by omega) (by omega) (ha2.below hBB).s (hb2.below hBB).s).mono ?_
  rintro e w3 ⟨u3, rfl, o3, hB3⟩
  obtain ⟨x3, c3, rfl⟩ := ownsRow_len o3
  replace F1 := F1.below hB3
  replace F2 := F2.below hB3
  replace F3 := F3.below hB3
  replace hBB := below_one hBB hB3
  clear hB3 a0 a1 a2 b0 b1 b2 o3
  by_cases hl0 : (woN a.rv b.rv).length = 0
  case neg =>
    have HR := hid (dfB_no4 hl0)
    have HX := hid (dfX_no HR.out)
    have hln : (woN a.rv b.rv).length ≤ 1048577 := by have := woN_len a.rv b.rv; omega
    have dl : decide ((0 : Int) < ((woN a.rv b.rv).length : Int)) = true := by simp; omega
    obtain ⟨r0, r1, r2, r3, r4⟩ := F3.c
    have f0 := F3.f 0
    have f1 := F3.f 1
    have f2 := F3.f 2
    have f3 := F3.f 3
    have f4 := F3.f 4
    have G := ((((F3.s0 (.int .i64 0)).s1 (.int .i64 0)).s2 (.slice none 0 0)).s3 (.slice none 0 0)).s4 (.slice none 0 0)
    have pB := below_five hBB (k := w.heap.size + 1 + 1) (by omega) (.int .i64 0) (.int .i64 0) (.slice none 0 0) (.slice none 0 0) (.slice none 0 0)
    go_wp2_with fail
    clear r0 r1 r2 r3 r4 f0 f1 f2 f3 f4
    generalize (((((w3.setCell ⟨w.heap.size + 1 + 1, 0, none⟩ (.int .i64 0)).setCell ⟨w.heap.size + 1 + 1, 1, none⟩ (.int .i64 0)).setCell ⟨w.heap.size + 1 + 1, 2, none⟩ (.slice none 0 0)).setCell ⟨w.heap.size + 1 + 1, 3, none⟩ (.slice none 0 0)).setCell ⟨w.heap.size + 1 + 1, 4, none⟩ (.slice none 0 0)) = W9 at *
    obtain ⟨d0, d1, d2, d3, d4⟩ := G.c
    exact bodyPost_ret (v := .tuple #[.agg #[.int .i64 0, .int .i64 0, .slice none 0 0, .slice none 0 0, .slice none 0 0], .bool false]) (by simp [results, Try.results20, go_sem, d0, d1, d2, d3, d4]) rfl ⟨_, by rw [HR.out], by rw [HX.out]; exact DfO.none _ _ _, pB⟩
  have HR := hid (dfB_yes hA hB hlt hl0)
  have HX := hid (dfX_yes HR.out)
  rw [hl0]
  clear hl0 dge
  obtain ⟨a0, a1, a2⟩ := F1.c
  obtain ⟨b0, b1, b2⟩ := F2.c
  have n02 : w.heap.size ≠ w.heap.size + 1 + 1 := by omega
  have n20 : w.heap.size + 1 + 1 ≠ w.heap.size := by omega
  have n12 : w.heap.size + 1 ≠ w.heap.size + 1 + 1 := by omega
  have n21 : w.heap.size + 1 + 1 ≠ w.heap.size + 1 := by omega
  go_wp2_with fail
  refine wp_region_held_drew (S := fun w' => w'.cell? ⟨w.heap.size, 0, none⟩ = some (.int .i64 a.num) ∧ w'.cell? ⟨w.heap.size, 1, none⟩ = some (.slice pa a.pol.length ca) ∧ w'.cell? ⟨w.heap.size, 2, none⟩ = some (.slice ra a.rv.length da) ∧ w'.cell? ⟨w.heap.size + 1, 0, none⟩ = some (.int .i64 b.num) ∧ w'.cell? ⟨w.heap.size + 1, 1, none⟩ = some (.slice pb b.pol.length cb) ∧ w'.cell? ⟨w.heap.size + 1, 2, none⟩ = some (.slice rb b.rv.length db)) (by kernel_rfl) ?_ (fun hHeld => ?_)
  · go_keep
  refine takeW 0 (v := ?v1) rfl (by kernel_rfl) (by kernel_rfl) (by kernel_rfl) (fun _ _ _ h => h) (by rfl) (by assumption) ?hy1 ?rest1
  case hy1 => intro w' hSw; (try dsimp only at hSw); go_simp; try with_reducible rfl
  try simp only [Act.put, List.setIfInBounds_toArray, List.set_cons_zero, List.set_cons_succ]
  refine takeW 1 (v := ?v2) rfl (by kernel_rfl) (by kernel_rfl) (by kernel_rfl) (fun _ _ _ h => h) (by rfl) (by assumption) ?hy2 ?rest2
  case hy2 => intro w' hSw; (try dsimp only at hSw); go_simp; try with_reducible rfl
  try simp only [Act.put, List.setIfInBounds_toArray, List.set_cons_zero, List.set_cons_succ]
  refine takeW 2 (v := ?v3) rfl (by kernel_rfl) (by kernel_rfl) (by kernel_rfl) (fun _ _ _ h => h) (by rfl) (by assumption) ?hy3 ?rest3
  case hy3 => intro w' hSw; (try dsimp only at hSw); go_simp; try with_reducible rfl
  try simp only [Act.put, List.setIfInBounds_toArray, List.set_cons_zero, List.set_cons_succ]
  refine takeW 3 (v := ?v4) rfl (by kernel_rfl) (by kernel_rfl) (by kernel_rfl) (fun _ _ _ h => h) (by rfl) (by assumption) ?hy4 ?rest4
  case hy4 => intro w' hSw; (try dsimp only at hSw); go_simp; try with_reducible rfl
  try simp only [Act.put, List.setIfInBounds_toArray, List.set_cons_zero, List.set_cons_succ]
  refine takeW 4 (v := ?v5) rfl (by kernel_rfl) (by kernel_rfl) (by kernel_rfl) (fun _ _ _ h => h) (by rfl) (by assumption) ?hy5 ?rest5
  case hy5 => intro w' hSw; (try dsimp only at hSw); go_simp; try with_reducible rfl
  try simp only [Act.put, List.setIfInBounds_toArray, List.set_cons_zero, List.set_cons_succ]
  refine takeW 5 (v := ?v6) rfl (by kernel_rfl) (by kernel_rfl) (by kernel_rfl) (fun _ _ _ h => h) (by rfl) (by assumption) ?hy6 ?rest6
  case hy6 => intro w' hSw; (try dsimp only at hSw); go_simp; try with_reducible rfl
  try simp only [Act.put, List.setIfInBounds_toArray, List.set_cons_zero, List.set_cons_succ]
  refine takeW 6 (v := ?v7) rfl (by kernel_rfl) (by kernel_rfl) (by kernel_rfl) (fun _ _ _ h => h) (by rfl) (by assumption) ?hy7 ?rest7
  case hy7 => intro w' hSw; (try dsimp only at hSw); go_simp; try with_reducible rfl
  try simp only [Act.put, List.setIfInBounds_toArray, List.set_cons_zero, List.set_cons_succ]
  refine takeW 7 (v := ?v8) rfl (by kernel_rfl) (by kernel_rfl) (by kernel_rfl) (fun _ _ _ h => h) (by rfl) (by assumption) ?hy8 ?rest8
  case hy8 => intro w' hSw; (try dsimp only at hSw); go_simp; try with_reducible rfl
  try simp only [Act.put, List.setIfInBounds_toArray, List.set_cons_zero, List.set_cons_succ]
  refine takeW 9 (v := ?v9) rfl (by kernel_rfl) (by kernel_rfl) (by kernel_rfl) (fun _ _ _ h => h) (by rfl) (by assumption) ?hy9 ?rest9
  case hy9 => intro w' hSw; (try dsimp only at hSw); go_simp; try with_reducible rfl
  try simp only [Act.put, List.setIfInBounds_toArray, List.set_cons_zero, List.set_cons_succ]
  refine takeW 10 (v := ?v10) rfl (by kernel_rfl) (by kernel_rfl) (by kernel_rfl) (fun _ _ _ h => h) (by rfl) (by assumption) ?hy10 ?rest10
  case hy10 => intro w' hSw; (try dsimp only at hSw); go_simp; try with_reducible rfl
  try simp only [Act.put, List.setIfInBounds_toArray, List.set_cons_zero, List.set_cons_succ]
  refine takeW 11 (v := ?v11) rfl (by kernel_rfl) (by kernel_rfl) (by kernel_rfl) (fun _ _ _ h => h) (by rfl) (by assumption) ?hy11 ?rest11
  case hy11 => intro w' hSw; (try dsimp only at hSw); go_simp; try with_reducible rfl
  try simp only [Act.put, List.setIfInBounds_toArray, List.set_cons_zero, List.set_cons_succ]
  refine takeW 12 (v := ?v12) rfl (by kernel_rfl) (by kernel_rfl) (by kernel_rfl) (fun _ _ _ h => h) (by rfl) (by assumption) ?hy12 ?rest12
  case hy12 => intro w' hSw; (try dsimp only at hSw); go_simp; try with_reducible rfl
  try simp only [Act.put, List.setIfInBounds_toArray, List.set_cons_zero, List.set_cons_succ]
  refine takeW 14 (v := ?v13) rfl (by kernel_rfl) (by kernel_rfl) (by kernel_rfl) (fun _ _ _ h => h) (by rfl) (by assumption) ?hy13 ?rest13
  case hy13 => intro w' hSw; (try dsimp only at hSw); go_simp; try with_reducible rfl
  try simp only [Act.put, List.setIfInBounds_toArray, List.set_cons_zero, List.set_cons_succ]
  refine takeW 15 (v := ?v14) rfl (by kernel_rfl) (by kernel_rfl) (by kernel_rfl) (fun _ _ _ h => h) (by rfl) (by assumption) ?hy14 ?rest14
  case hy14 => intro w' hSw; (try dsimp only at hSw); go_simp; try with_reducible rfl
  try simp only [Act.put, List.setIfInBounds_toArray, List.set_cons_zero, List.set_cons_succ]
  refine takeW 16 (v := ?v15) rfl (by kernel_rfl) (by kernel_rfl) (by kernel_rfl) (fun _ _ _ h => h) (by rfl) (by assumption) ?hy15 ?rest15
  case hy15 => intro w' hSw; (try dsimp only at hSw); go_simp; try with_reducible rfl
  try simp only [Act.put, List.setIfInBounds_toArray, List.set_cons_zero, List.set_cons_succ]
  refine takeW 17 (v := ?v16) rfl (by kernel_rfl) (by kernel_rfl) (by kernel_rfl) (fun _ _ _ h => h) (by rfl) (by assumption) ?hy16 ?rest16
  case hy16 => intro w' hSw; (try dsimp only at hSw); go_simp; try with_reducible rfl
  try simp only [Act.put, List.setIfInBounds_toArray, List.set_cons_zero, List.set_cons_succ]
  refine takeC 8 (by kernel_rfl) rfl (fun K hK => ?_)
  go_simp
  refine (withoutR_any _ _ a.pol b.pol _ (by omega) (by omega) (by exact (ha1.below hBB).s.below (Below.refl _ _).drew) (by exact (hb1.below hBB).below (Below.refl _ _).drew)).mono ?_; rintro e w4 ⟨u4, rfl, o4, hB4⟩; obtain ⟨x4, y4, z4, rfl⟩ := row_slice o4; have hD4 : Below w3.heap.size w3 w4 := below_drew1 hB4; have hca4 := fun o => hB4.cell (p := ⟨w.heap.size, o, none⟩) (by exact F1.lt); have hcb4 := fun o => hB4.cell (p := ⟨w.heap.size + 1, o, none⟩) (by exact F2.lt); have G1 : Three w4 _ _ _ _ _ := F1.below hD4; have G2 : Three w4 _ _ _ _ _ := F2.below hD4; have G3 : Five w4 _ _ _ _ _ _ _ := F3.below hD4; have hBB4 := below_one hBB hD4
  refine hK.out _ _ ?_ (fun hHeld => ?_)
  · go_keep
  clear hK K
  try simp only [Act.put, List.setIfInBounds_toArray, List.set_cons_zero, List.set_cons_succ]
  refine takeC 13 (by kernel_rfl) rfl (fun K hK => ?_)
  go_simp
  refine (withoutR_any _ _ b.pol a.pol _ (by omega) (by omega) (hb1.below hBB4).s (ha1.below hBB4)).mono ?_; rintro e w5 ⟨u5, rfl, o5, hB5⟩; obtain ⟨x5, y5, z5, rfl⟩ := row_slice o5; have hca5 := fun o => hB5.cell (p := ⟨w.heap.size, o, none⟩) (by exact G1.lt); have hcb5 := fun o => hB5.cell (p := ⟨w.heap.size + 1, o, none⟩) (by exact G2.lt); have H1 := G1.below hB5; have H2 := G2.below hB5; have H3 := G3.below hB5; have hBB5 := below_one hBB4 hB5; have o4' := ownsRow_below o4 hB5
  refine hK.out _ _ ?_ (fun hHeld => ?_)
  · go_keep
  clear hK K
  try simp only [Act.put, List.setIfInBounds_toArray, List.set_cons_zero, List.set_cons_succ]
  refine takeC 18 (by kernel_rfl) rfl (fun K hK => ?_)
  go_simp
  refine (withoutN_any _ _ b.rv a.rv _ (by omega) (by omega) (hb2.below hBB5).s (ha2.below hBB5).s).mono ?_; rintro e w6 ⟨u6, rfl, o6, hB6⟩; obtain ⟨x6, y6, z6, rfl⟩ := row_slice o6; have hca6 := fun o => hB6.cell (p := ⟨w.heap.size, o, none⟩) (by exact H1.lt); have hcb6 := fun o => hB6.cell (p := ⟨w.heap.size + 1, o, none⟩) (by exact H2.lt); have I3 := H3.below hB6; have hBB6 := below_one hBB5 hB6; have o4'' := ownsRow_below o4' hB6; have o5' := ownsRow_below o5 hB6; obtain ⟨r0, r1, r2, r3, r4⟩ := I3.c; have f0 := I3.f 0; have f1 := I3.f 1; have f2 := I3.f 2; have f3 := I3.f 3; have f4 := I3.f 4
  refine hK.out _ _ ?_ (fun hHeld => ?_)
  · go_keep
  clear hK K
  try simp only [Act.put, List.setIfInBounds_toArray, List.set_cons_zero, List.set_cons_succ]
  refine takeW 19 (v := ?v17) rfl (by kernel_rfl) (by kernel_rfl) (by kernel_rfl) (fun _ _ _ h => h) (by rfl) (by assumption) ?hy17 ?rest17
  case hy17 => intro w' hSw; (try dsimp only at hSw); go_simp; try with_reducible rfl
  try simp only [Act.put, List.setIfInBounds_toArray, List.set_cons_zero, List.set_cons_succ]
  refine takeC 20 (by kernel_rfl) rfl (fun K hK => ?_)
  go_simp
  skip
  refine hK.out _ _ ?_ (fun hHeld => ?_)
  · go_keep
  clear hK K
  try simp only [Act.put, List.setIfInBounds_toArray, List.set_cons_zero, List.set_cons_succ]
  refine takeW 21 (v := ?v18) rfl (by kernel_rfl) (by kernel_rfl) (by kernel_rfl) (fun _ _ _ h => h) (by rfl) (by assumption) ?hy18 ?rest18
  case hy18 => intro w' hSw; (try dsimp only at hSw); go_simp; try with_reducible rfl
  try simp only [Act.put, List.setIfInBounds_toArray, List.set_cons_zero, List.set_cons_succ]
  refine wpAnyH_done (by kernel_rfl) ?_ _
  have G := ((((I3.s0 (.int .i64 a.num)).s1 (.int .i64 b.num)).s2 (.slice x4 y4 z4)).s3 (.slice x5 y5 z5)).s4 (.slice x6 y6 z6)
  have q4 := row_five o4'' (k := w.heap.size + 1 + 1) F3.lt (.int .i64 a.num) (.int .i64 b.num) (.slice x4 y4 z4) (.slice x5 y5 z5) (.slice x6 y6 z6)
  have q5 := row_five o5' (k := w.heap.size + 1 + 1) G3.lt (.int .i64 a.num) (.int .i64 b.num) (.slice x4 y4 z4) (.slice x5 y5 z5) (.slice x6 y6 z6)
  have q6 := row_five o6 (k := w.heap.size + 1 + 1) H3.lt (.int .i64 a.num) (.int .i64 b.num) (.slice x4 y4 z4) (.slice x5 y5 z5) (.slice x6 y6 z6)
  have pB := below_five hBB6 (k := w.heap.size + 1 + 1) (by omega) (.int .i64 a.num) (.int .i64 b.num) (.slice x4 y4 z4) (.slice x5 y5 z5) (.slice x6 y6 z6)
  have s3 := hBB.size
  have s4 := hBB4.size
  have s5 := hBB5.size
  have hap : ∀ k, (Value.slice x4 y4 z4).ownBlock = some k → (Value.slice x5 y5 z5).ownBlock = some k → False := fun k h1 h2 => by
    have := (o4.lt k h1).2
    have := (o5.lt k h2).1
    omega
  go_wp2_with fail
  clear r0 r1 r2 r3 r4 f0 f1 f2 f3 f4 hHeld hca4 hcb4 hca5 hcb5 hca6 hcb6
  generalize (((((w6.setCell ⟨w.heap.size + 1 + 1, 0, none⟩ (.int .i64 a.num)).setCell ⟨w.heap.size + 1 + 1, 1, none⟩ (.int .i64 b.num)).setCell ⟨w.heap.size + 1 + 1, 2, none⟩ (.slice x4 y4 z4)).setCell ⟨w.heap.size + 1 + 1, 3, none⟩ (.slice x5 y5 z5)).setCell ⟨w.heap.size + 1 + 1, 4, none⟩ (.slice x6 y6 z6)) = W9 at *
  obtain ⟨d0, d1, d2, d3, d4⟩ := G.c
  exact bodyPost_ret (v := .tuple #[.agg #[.int .i64 a.num, .int .i64 b.num, .slice x4 y4 z4, .slice x5 y5 z5, .slice x6 y6 z6], .bool true]) (by simp [results, Try.results20, go_sem, d0, d1, d2, d3, d4]) rfl ⟨_, by rw [HR.out], by rw [HX.out]; exact ⟨_, _, _, rfl, Go.Joins.ownsRow_le q4 s3, Go.Joins.ownsRow_le q5 s4, Go.Joins.ownsRow_le q6 s5, fun k hk => (q4.lt k hk).2, fun k hk => (q5.lt k hk).2, fun k hk => (q6.lt k hk).2, hap⟩, pB⟩

end Go.Proofs.Ytmmjiocmldnamaa
