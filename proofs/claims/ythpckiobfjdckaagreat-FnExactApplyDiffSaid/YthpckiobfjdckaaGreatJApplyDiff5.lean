/-
  A difference that comes in: how it is read, what the laws measure and hand on.
-/
import Derived.Test.YthpckiobfjdckaaGreatJApplyDiff3
import Derived.Test.YthpckiobfjdckaaGreatJApplyDiff4
import Derived.Laws.AppendOwnNone
import Derived.Test.YthpckiobfjdckaaGreatJApplyDiff2
namespace Go.Proofs.YthpckiobfjdckaaGreat
open Go.RowKit Go.Shelf

theorem woN_nil {a b : List Int} (h : ∀ j (hj : j < a.length), isI b a[j] = true) : (woN a b).length = 0 := by
  have : woN a b = [] := by
    unfold woN
    rw [List.filter_eq_nil_iff]
    intro x hx
    obtain ⟨i, hi, rfl⟩ := List.getElem_of_mem hx
    rw [h i hi]
    simp
  rw [this]
  rfl
/-- Stores into another block leave a row as it is. -/
theorem row_away {w : World} {base : Nat} {e : TypeId} {size n : Nat} {v : Value} {xs : List Value} (h : w.ownsRow base e size v n xs) {k : Nat} (hk : ∀ j, v.ownBlock = some j → j ≠ k) (x0 x1 x2 x3 x4 : Value) : (((((w.setCell ⟨k, 0, none⟩ x0).setCell ⟨k, 1, none⟩ x1).setCell ⟨k, 2, none⟩ x2).setCell ⟨k, 3, none⟩ x3).setCell ⟨k, 4, none⟩ x4).ownsRow base e size v n xs := by
  have hb : v.ownBlock ≠ some k := fun e => hk k e rfl
  exact ownsRow_setCell_other (ownsRow_setCell_other (ownsRow_setCell_other (ownsRow_setCell_other (ownsRow_setCell_other h (a := ⟨k, 0, none⟩) hb x0) (a := ⟨k, 1, none⟩) hb x1) (a := ⟨k, 2, none⟩) hb x2) (a := ⟨k, 3, none⟩) hb x3) (a := ⟨k, 4, none⟩) hb x4
theorem woN_some {a b : List Int} {j : Nat} (hj : j < a.length) (h : isI b a[j] = false) : (woN a b).length ≠ 0 := by
  intro h0
  have hn := List.eq_nil_of_length_eq_zero h0
  unfold woN at hn
  rw [List.filter_eq_nil_iff] at hn
  have := hn a[j] (List.getElem_mem hj)
  rw [h] at this
  simp at this

set_option maxHeartbeats 8000000 in
set_option maxRecDepth 100000 in
theorem specDiffOf_any (va vb : Value) (a b : Sn) (w : World) (hsa : a.short) (hsb : b.short) (ha : SnA w va a) (hb : SnA w vb b) :
    Calls Tryz.prog 35 #[va, vb] w fun e w' => ∃ v', e = .returned (.tuple #[v', .bool (dfB a b)]) ∧ DfO w' w.heap.size w'.heap.size v' (dfX a b) ∧ Below w.heap.size w w' := by
  obtain ⟨vpa, vra, rfl, ha1, ha2⟩ := ha
  obtain ⟨vpb, vrb, rfl, hb1, hb2⟩ := hb
  obtain ⟨pa, ca, rfl⟩ := ha1.len
  obtain ⟨ra, da, rfl⟩ := ha2.numLen
  obtain ⟨pb, cb, rfl⟩ := hb1.len
  obtain ⟨rb, db, rfl⟩ := hb2.numLen
  obtain ⟨i0, hi, hz0, hz1, hz2⟩ := info_parts infoInt
  have la1 := hsa.1
  have la2 := hsa.2.1
  have lb1 := hsb.1
  have lb2 := hsb.2.1
  have hBB : Below w.heap.size w (((w.alloc (.cells #[.int .i64 a.num, .slice pa a.pol.length ca, .slice ra a.rv.length da] 32)).alloc (.cells #[.int .i64 b.num, .slice pb b.pol.length cb, .slice rb b.rv.length db] 32)).alloc (.cells #[.int .i64 0, .int .i64 0, .slice none 0 0, .slice none 0 0, .slice none 0 0] 37)) := (((Below.refl _ w).alloc (Nat.le_refl _) _).alloc (by simp) _).alloc (by simp; omega) _
  have F1 := ((Three.new w (.int .i64 a.num) (.slice pa a.pol.length ca) (.slice ra a.rv.length da) 32).below ((Below.refl _ _).alloc (Nat.le_refl _) (.cells #[.int .i64 b.num, .slice pb b.pol.length cb, .slice rb b.rv.length db] 32))).below ((Below.refl _ _).alloc (Nat.le_refl _) (.cells #[.int .i64 0, .int .i64 0, .slice none 0 0, .slice none 0 0, .slice none 0 0] 37))
  have F2 := (Three.at (w.alloc (.cells #[.int .i64 a.num, .slice pa a.pol.length ca, .slice ra a.rv.length da] 32)) (.int .i64 b.num) (.slice pb b.pol.length cb) (.slice rb b.rv.length db) 32 (k := w.heap.size + 1) (by simp)).below ((Below.refl _ _).alloc (Nat.le_refl _) (.cells #[.int .i64 0, .int .i64 0, .slice none 0 0, .slice none 0 0, .slice none 0 0] 37))
  have F3 := Five.at ((w.alloc (.cells #[.int .i64 a.num, .slice pa a.pol.length ca, .slice ra a.rv.length da] 32)).alloc (.cells #[.int .i64 b.num, .slice pb b.pol.length cb, .slice rb b.rv.length db] 32)) (.int .i64 0) (.int .i64 0) (.slice none 0 0) (.slice none 0 0) (.slice none 0 0) 37 (k := w.heap.size + 1 + 1) (by simp)
  go_enter Tryz.func35, Tryz.ntmps35
  go_wp2_with fail
  generalize ((w.alloc (.cells #[.int .i64 a.num, .slice pa a.pol.length ca, .slice ra a.rv.length da] 32)).alloc (.cells #[.int .i64 b.num, .slice pb b.pol.length cb, .slice rb b.rv.length db] 32)).alloc (.cells #[.int .i64 0, .int .i64 0, .slice none 0 0, .slice none 0 0, .slice none 0 0] 37) = W0 at *
  refine (specGoodSnapshot_any _ a _ hsa ⟨_, _, rfl, ha1.below hBB, ha2.below hBB⟩).mono ?_
  rintro e w1 ⟨rfl, hB1⟩
  replace F1 := F1.below hB1
  replace F2 := F2.below hB1
  replace F3 := F3.below hB1
  replace hBB := below_one hBB hB1
  clear hB1
  cases hA : snB a
  · have HR := hid (dfB_no1 (b := b) hA)
    have HX := hid (dfX_no HR.out)
    obtain ⟨r0, r1, r2, r3, r4⟩ := F3.c
    have f0 := F3.f 0
    have f1 := F3.f 1
    have f2 := F3.f 2
    have f3 := F3.f 3
    have f4 := F3.f 4
    have G := ((((F3.s0 (.int .i64 0)).s1 (.int .i64 0)).s2 (.slice none 0 0)).s3 (.slice none 0 0)).s4 (.slice none 0 0)
    have pB := below_five hBB (k := w.heap.size + 1 + 1) (by omega) (.int .i64 0) (.int .i64 0) (.slice none 0 0) (.slice none 0 0) (.slice none 0 0)
    go_wp2_with fail
    clear r0 r1 r2 r3 r4 f0 f1 f2 f3 f4
    generalize (((((w1.setCell ⟨w.heap.size + 1 + 1, 0, none⟩ (.int .i64 0)).setCell ⟨w.heap.size + 1 + 1, 1, none⟩ (.int .i64 0)).setCell ⟨w.heap.size + 1 + 1, 2, none⟩ (.slice none 0 0)).setCell ⟨w.heap.size + 1 + 1, 3, none⟩ (.slice none 0 0)).setCell ⟨w.heap.size + 1 + 1, 4, none⟩ (.slice none 0 0)) = W9 at *
    obtain ⟨d0, d1, d2, d3, d4⟩ := G.c
    exact bodyPost_ret (v := .tuple #[.agg #[.int .i64 0, .int .i64 0, .slice none 0 0, .slice none 0 0, .slice none 0 0], .bool false]) (by simp [results, Tryz.results35, go_sem, d0, d1, d2, d3, d4]) rfl ⟨_, by rw [HR.out], by rw [HX.out]; exact DfO.none _ _ _, pB⟩
  obtain ⟨b0, b1, b2⟩ := F2.c
  go_wp2_with fail
  refine (specGoodSnapshot_any _ b _ hsb ⟨_, _, rfl, hb1.below hBB, hb2.below hBB⟩).mono ?_
  rintro e w2 ⟨rfl, hB2⟩
  replace F1 := F1.below hB2
  replace F2 := F2.below hB2
  replace F3 := F3.below hB2
  replace hBB := below_one hBB hB2
  clear hB2 b0 b1 b2
  obtain ⟨a0, a1, a2⟩ := F1.c
  obtain ⟨b0, b1, b2⟩ := F2.c
  cases hB : snB b
  · have HR := hid (dfB_no2 (a := a) hB)
    have HX := hid (dfX_no HR.out)
    obtain ⟨r0, r1, r2, r3, r4⟩ := F3.c
    have f0 := F3.f 0
    have f1 := F3.f 1
    have f2 := F3.f 2
    have f3 := F3.f 3
    have f4 := F3.f 4
    have G := ((((F3.s0 (.int .i64 0)).s1 (.int .i64 0)).s2 (.slice none 0 0)).s3 (.slice none 0 0)).s4 (.slice none 0 0)
    have pB := below_five hBB (k := w.heap.size + 1 + 1) (by omega) (.int .i64 0) (.int .i64 0) (.slice none 0 0) (.slice none 0 0) (.slice none 0 0)
    go_wp2_with fail
    clear r0 r1 r2 r3 r4 f0 f1 f2 f3 f4
    generalize (((((w2.setCell ⟨w.heap.size + 1 + 1, 0, none⟩ (.int .i64 0)).setCell ⟨w.heap.size + 1 + 1, 1, none⟩ (.int .i64 0)).setCell ⟨w.heap.size + 1 + 1, 2, none⟩ (.slice none 0 0)).setCell ⟨w.heap.size + 1 + 1, 3, none⟩ (.slice none 0 0)).setCell ⟨w.heap.size + 1 + 1, 4, none⟩ (.slice none 0 0)) = W9 at *
    obtain ⟨d0, d1, d2, d3, d4⟩ := G.c
    exact bodyPost_ret (v := .tuple #[.agg #[.int .i64 0, .int .i64 0, .slice none 0 0, .slice none 0 0, .slice none 0 0], .bool false]) (by simp [results, Tryz.results35, go_sem, d0, d1, d2, d3, d4]) rfl ⟨_, by rw [HR.out], by rw [HX.out]; exact DfO.none _ _ _, pB⟩
  by_cases hlt : a.num < b.num
  case neg =>
    have HR := hid (dfB_no3 hlt)
    have HX := hid (dfX_no HR.out)
    have dge : decide (b.num ≤ a.num) = true := by simp; omega
    obtain ⟨r0, r1, r2, r3, r4⟩ := F3.c
    have f0 := F3.f 0
    have f1 := F3.f 1
    have f2 := F3.f 2
    have f3 := F3.f 3
    have f4 := F3.f 4
    have G := ((((F3.s0 (.int .i64 0)).s1 (.int .i64 0)).s2 (.slice none 0 0)).s3 (.slice none 0 0)).s4 (.slice none 0 0)
    have pB := below_five hBB (k := w.heap.size + 1 + 1) (by omega) (.int .i64 0) (.int .i64 0) (.slice none 0 0) (.slice none 0 0) (.slice none 0 0)
    go_wp2_with fail
    clear r0 r1 r2 r3 r4 f0 f1 f2 f3 f4
    generalize (((((w2.setCell ⟨w.heap.size + 1 + 1, 0, none⟩ (.int .i64 0)).setCell ⟨w.heap.size + 1 + 1, 1, none⟩ (.int .i64 0)).setCell ⟨w.heap.size + 1 + 1, 2, none⟩ (.slice none 0 0)).setCell ⟨w.heap.size + 1 + 1, 3, none⟩ (.slice none 0 0)).setCell ⟨w.heap.size + 1 + 1, 4, none⟩ (.slice none 0 0)) = W9 at *
    obtain ⟨d0, d1, d2, d3, d4⟩ := G.c
    exact bodyPost_ret (v := .tuple #[.agg #[.int .i64 0, .int .i64 0, .slice none 0 0, .slice none 0 0, .slice none 0 0], .bool false]) (by simp [results, Tryz.results35, go_sem, d0, d1, d2, d3, d4]) rfl ⟨_, by rw [HR.out], by rw [HX.out]; exact DfO.none _ _ _, pB⟩
  have dge : decide (b.num ≤ a.num) = false := by simp; omega
  have ha2' := ha2.below hBB
  have hb2' := hb2.below hBB
  go_wp2_with fail
  go_loop [30] (fun i => ∃ n : Nat, n ≤ a.rv.length ∧ i = .int .i64 n ∧ ∀ j (hj : j < a.rv.length), j < n → isI b.rv a.rv[j] = true) (fun i => a.rv.length - (intOf i).toNat)
  case atStart => exact ⟨0, Nat.zero_le _, rfl, fun _ _ h => absurd h (Nat.not_lt_zero _)⟩
  case round =>
    obtain ⟨n, hn, rfl, ht⟩ := hrel
    have HT := hid ht
    clear ht
    by_cases hl : n < a.rv.length
    · obtain ⟨bb, off, rfl, hbb, hcap, q0⟩ := ha2'.num hl
      have HS := hid (show isI b.rv a.rv[n] = true → ∀ j (hj : j < a.rv.length), j < n + 1 → isI b.rv a.rv[j] = true from fun h j hj hjn => by
        by_cases e : j = n
        · subst e; exact h
        · exact HT.out j hj (by omega))
      have HN := hid (fun h => woN_some (b := b.rv) hl h)
      generalize a.rv[n] = x at *
      cases hq : isI b.rv x
      · have HR := hid (dfB_no4 (a := a) (b := b) (HN.out hq))
        have HX := hid (dfX_no HR.out)
        go_wp2_with fail
        refine (l1Has_any _ b.rv x _ (by omega) hb2').mono ?_
        rintro e w3 ⟨rfl, rfl⟩
        rw [hq]
        obtain ⟨r0, r1, r2, r3, r4⟩ := F3.c
        have f0 := F3.f 0
        have f1 := F3.f 1
        have f2 := F3.f 2
        have f3 := F3.f 3
        have f4 := F3.f 4
        have G := ((((F3.s0 (.int .i64 0)).s1 (.int .i64 0)).s2 (.slice none 0 0)).s3 (.slice none 0 0)).s4 (.slice none 0 0)
        have pB := below_five hBB (k := w.heap.size + 1 + 1) (by omega) (.int .i64 0) (.int .i64 0) (.slice none 0 0) (.slice none 0 0) (.slice none 0 0)
        go_wp2_with fail
        clear r0 r1 r2 r3 r4 f0 f1 f2 f3 f4
        generalize (((((w3.setCell ⟨w.heap.size + 1 + 1, 0, none⟩ (.int .i64 0)).setCell ⟨w.heap.size + 1 + 1, 1, none⟩ (.int .i64 0)).setCell ⟨w.heap.size + 1 + 1, 2, none⟩ (.slice none 0 0)).setCell ⟨w.heap.size + 1 + 1, 3, none⟩ (.slice none 0 0)).setCell ⟨w.heap.size + 1 + 1, 4, none⟩ (.slice none 0 0)) = W9 at *
        obtain ⟨d0, d1, d2, d3, d4⟩ := G.c
        exact bodyPost_ret (v := .tuple #[.agg #[.int .i64 0, .int .i64 0, .slice none 0 0, .slice none 0 0, .slice none 0 0], .bool false]) (by simp [results, Tryz.results35, go_sem, d0, d1, d2, d3, d4]) rfl ⟨_, by rw [HR.out], by rw [HX.out]; exact DfO.none _ _ _, pB⟩
      · have HR := hid (HS.out hq)
        go_wp2_with fail
        refine (l1Has_any _ b.rv x _ (by omega) hb2').mono ?_
        rintro e w3 ⟨rfl, rfl⟩
        rw [hq]
        go_wp2_with fail
        exact ⟨⟨n + 1, by omega, by go_num, HR.out⟩, by simp [intOf]; omega⟩
    · obtain rfl : n = a.rv.length := by omega
      have HR := hid (dfB_yes hA hB hlt (woN_nil fun j hj => HT.out j hj hj))
      have HX := hid (dfX_yes HR.out)
      clear hlt HT dge
      have n02 : w.heap.size ≠ w.heap.size + 1 + 1 := by omega
      have n20 : w.heap.size + 1 + 1 ≠ w.heap.size := by omega
      have n12 : w.heap.size + 1 ≠ w.heap.size + 1 + 1 := by omega
      have n21 : w.heap.size + 1 + 1 ≠ w.heap.size + 1 := by omega
      go_wp2_with fail
      refine wp_region_held_drew (S := fun w' => w'.cell? ⟨w.heap.size, 0, none⟩ = some (.int .i64 a.num) ∧ w'.cell? ⟨w.heap.size, 1, none⟩ = some (.slice pa a.pol.length ca) ∧ w'.cell? ⟨w.heap.size, 2, none⟩ = some (.slice ra a.rv.length da) ∧ w'.cell? ⟨w.heap.size + 1, 0, none⟩ = some (.int .i64 b.num) ∧ w'.cell? ⟨w.heap.size + 1, 1, none⟩ = some (.slice pb b.pol.length cb) ∧ w'.cell? ⟨w.heap.size + 1, 2, none⟩ = some (.slice rb b.rv.length db)) (by kernel_rfl) ?_ (fun hHeld => ?_)
      · go_keep
      refine takeW 0 (v := ?v19) rfl (by kernel_rfl) (by kernel_rfl) (by kernel_rfl) (fun _ _ _ h => h) (by rfl) (by assumption) ?hy19 ?rest19
      case hy19 => intro w' hSw; (try dsimp only at hSw); go_simp; try with_reducible rfl
      try simp only [Act.put, List.setIfInBounds_toArray, List.set_cons_zero, List.set_cons_succ]
      refine takeW 1 (v := ?v20) rfl (by kernel_rfl) (by kernel_rfl) (by kernel_rfl) (fun _ _ _ h => h) (by rfl) (by assumption) ?hy20 ?rest20
      case hy20 => intro w' hSw; (try dsimp only at hSw); go_simp; try with_reducible rfl
      try simp only [Act.put, List.setIfInBounds_toArray, List.set_cons_zero, List.set_cons_succ]
      refine takeW 2 (v := ?v21) rfl (by kernel_rfl) (by kernel_rfl) (by kernel_rfl) (fun _ _ _ h => h) (by rfl) (by assumption) ?hy21 ?rest21
      case hy21 => intro w' hSw; (try dsimp only at hSw); go_simp; try with_reducible rfl
      try simp only [Act.put, List.setIfInBounds_toArray, List.set_cons_zero, List.set_cons_succ]
      refine takeW 3 (v := ?v22) rfl (by kernel_rfl) (by kernel_rfl) (by kernel_rfl) (fun _ _ _ h => h) (by rfl) (by assumption) ?hy22 ?rest22
      case hy22 => intro w' hSw; (try dsimp only at hSw); go_simp; try with_reducible rfl
      try simp only [Act.put, List.setIfInBounds_toArray, List.set_cons_zero, List.set_cons_succ]
      refine takeW 4 (v := ?v23) rfl (by kernel_rfl) (by kernel_rfl) (by kernel_rfl) (fun _ _ _ h => h) (by rfl) (by assumption) ?hy23 ?rest23
      case hy23 => intro w' hSw; (try dsimp only at hSw); go_simp; try with_reducible rfl
      try simp only [Act.put, List.setIfInBounds_toArray, List.set_cons_zero, List.set_cons_succ]
      refine takeW 5 (v := ?v24) rfl (by kernel_rfl) (by kernel_rfl) (by kernel_rfl) (fun _ _ _ h => h) (by rfl) (by assumption) ?hy24 ?rest24
      case hy24 => intro w' hSw; (try dsimp only at hSw); go_simp; try with_reducible rfl
      try simp only [Act.put, List.setIfInBounds_toArray, List.set_cons_zero, List.set_cons_succ]
      refine takeW 6 (v := ?v25) rfl (by kernel_rfl) (by kernel_rfl) (by kernel_rfl) (fun _ _ _ h => h) (by rfl) (by assumption) ?hy25 ?rest25
      case hy25 => intro w' hSw; (try dsimp only at hSw); go_simp; try with_reducible rfl
      try simp only [Act.put, List.setIfInBounds_toArray, List.set_cons_zero, List.set_cons_succ]
      refine takeW 7 (v := ?v26) rfl (by kernel_rfl) (by kernel_rfl) (by kernel_rfl) (fun _ _ _ h => h) (by rfl) (by assumption) ?hy26 ?rest26
      case hy26 => intro w' hSw; (try dsimp only at hSw); go_simp; try with_reducible rfl
      try simp only [Act.put, List.setIfInBounds_toArray, List.set_cons_zero, List.set_cons_succ]
      refine takeW 9 (v := ?v27) rfl (by kernel_rfl) (by kernel_rfl) (by kernel_rfl) (fun _ _ _ h => h) (by rfl) (by assumption) ?hy27 ?rest27
      case hy27 => intro w' hSw; (try dsimp only at hSw); go_simp; try with_reducible rfl
      try simp only [Act.put, List.setIfInBounds_toArray, List.set_cons_zero, List.set_cons_succ]
      refine takeW 10 (v := ?v28) rfl (by kernel_rfl) (by kernel_rfl) (by kernel_rfl) (fun _ _ _ h => h) (by rfl) (by assumption) ?hy28 ?rest28
      case hy28 => intro w' hSw; (try dsimp only at hSw); go_simp; try with_reducible rfl
      try simp only [Act.put, List.setIfInBounds_toArray, List.set_cons_zero, List.set_cons_succ]
      refine takeW 11 (v := ?v29) rfl (by kernel_rfl) (by kernel_rfl) (by kernel_rfl) (fun _ _ _ h => h) (by rfl) (by assumption) ?hy29 ?rest29
      case hy29 => intro w' hSw; (try dsimp only at hSw); go_simp; try with_reducible rfl
      try simp only [Act.put, List.setIfInBounds_toArray, List.set_cons_zero, List.set_cons_succ]
      refine takeW 12 (v := ?v30) rfl (by kernel_rfl) (by kernel_rfl) (by kernel_rfl) (fun _ _ _ h => h) (by rfl) (by assumption) ?hy30 ?rest30
      case hy30 => intro w' hSw; (try dsimp only at hSw); go_simp; try with_reducible rfl
      try simp only [Act.put, List.setIfInBounds_toArray, List.set_cons_zero, List.set_cons_succ]
      have m0 : w.heap.size ≠ w2.heap.size := (by have := F1.lt; omega)
      have m0' : w2.heap.size ≠ w.heap.size := (by have := F1.lt; omega)
      have m1 : w.heap.size + 1 ≠ w2.heap.size := (by have := F2.lt; omega)
      have m1' : w2.heap.size ≠ w.heap.size + 1 := (by have := F2.lt; omega)
      refine takeC2 8 15 (by kernel_rfl) rfl rfl (fun K hK => ?_) (fun K hK => ?_)
      · go_simp
        refine (l5Less_any _ _ a.pol b.pol _ (by omega) (by omega) (by exact ((ha1.below hBB).below (Below.refl _ _).drew)) (by exact ((hb1.below hBB).below (Below.refl _ _).drew))).mono ?_; rintro e w4 ⟨u4, rfl, o4, hB4⟩; obtain ⟨x4, y4, z4, rfl⟩ := row_slice o4; have hD4 : Below w2.heap.size w2 w4 := below_drew1 hB4; have hca4 := fun o => hB4.cell (p := ⟨w.heap.size, o, none⟩) (by exact F1.lt); have hcb4 := fun o => hB4.cell (p := ⟨w.heap.size + 1, o, none⟩) (by exact F2.lt); have G1 : Three w4 _ _ _ _ _ := F1.below hD4; have G2 : Three w4 _ _ _ _ _ := F2.below hD4; have G3 : Five w4 _ _ _ _ _ _ _ := F3.below hD4; have hBB4 := below_one hBB hD4
        refine hK.out _ _ ?_ (fun hHeld => ?_)
        · go_keep
        clear hK K
        try simp only [Act.put, List.setIfInBounds_toArray, List.set_cons_zero, List.set_cons_succ]
        clear m0 m0' m1 m1'
        have m0 : w.heap.size ≠ w4.heap.size := (by have := G1.lt; omega)
        have m0' : w4.heap.size ≠ w.heap.size := (by have := G1.lt; omega)
        have m1 : w.heap.size + 1 ≠ w4.heap.size := (by have := G2.lt; omega)
        have m1' : w4.heap.size ≠ w.heap.size + 1 := (by have := G2.lt; omega)
        refine takeC2 13 15 (by kernel_rfl) rfl rfl (fun K hK => ?_) (fun K hK => ?_)
        · go_simp
          refine (l5Less_any _ _ b.pol a.pol _ (by omega) (by omega) (by exact (hb1.below hBB4)) (by exact (ha1.below hBB4))).mono ?_; rintro e w5 ⟨u5, rfl, o5, hB5⟩; obtain ⟨x5, y5, z5, rfl⟩ := row_slice o5; have hD5 := hB5; have hca5 := fun o => hB5.cell (p := ⟨w.heap.size, o, none⟩) (by exact G1.lt); have hcb5 := fun o => hB5.cell (p := ⟨w.heap.size + 1, o, none⟩) (by exact G2.lt); have H1 : Three w5 _ _ _ _ _ := G1.below hD5; have H2 : Three w5 _ _ _ _ _ := G2.below hD5; have H3 : Five w5 _ _ _ _ _ _ _ := G3.below hD5; have hBB5 := below_one hBB4 hB5; have o4' := ownsRow_below o4 hB5
          refine hK.out _ _ ?_ (fun hHeld => ?_)
          · go_keep
          clear hK K
          try simp only [Act.put, List.setIfInBounds_toArray, List.set_cons_zero, List.set_cons_succ]
          clear m0 m0' m1 m1'
          have m0 : w.heap.size ≠ w5.heap.size := (by have := H1.lt; omega)
          have m0' : w5.heap.size ≠ w.heap.size := (by have := H1.lt; omega)
          have m1 : w.heap.size + 1 ≠ w5.heap.size := (by have := H2.lt; omega)
          have m1' : w5.heap.size ≠ w.heap.size + 1 := (by have := H2.lt; omega)
          refine takeW 14 (v := ?v31) rfl (by kernel_rfl) (by kernel_rfl) (by kernel_rfl) (fun _ _ _ h => h) (by rfl) (by assumption) ?hy31 ?rest31
          case hy31 => intro w' hSw; (try dsimp only at hSw); go_simp; try with_reducible rfl
          try simp only [Act.put, List.setIfInBounds_toArray, List.set_cons_zero, List.set_cons_succ]
          refine takeC 15 (by kernel_rfl) rfl (fun K hK => ?_)
          go_simp
          skip
          refine hK.out _ _ ?_ (fun hHeld => ?_)
          · go_keep
          clear hK K
          try simp only [Act.put, List.setIfInBounds_toArray, List.set_cons_zero, List.set_cons_succ]
          refine takeC 16 (by kernel_rfl) rfl (fun K hK => ?_)
          go_simp
          skip
          refine hK.out _ _ ?_ (fun hHeld => ?_)
          · go_keep
          clear hK K
          try simp only [Act.put, List.setIfInBounds_toArray, List.set_cons_zero, List.set_cons_succ]
          refine wpAnyH_done (by kernel_rfl) ?_ _
          have hBd : Below w5.heap.size w5 (w5.alloc (.cells #[.int .i64 a.num, .int .i64 b.num, .slice x4 y4 z4, .slice x5 y5 z5, .slice none 0 0] 37)) := (Below.refl _ w5).alloc (Nat.le_refl _) _
          have FD0 := Five.new w5 (.int .i64 a.num) (.int .i64 b.num) (.slice x4 y4 z4) (.slice x5 y5 z5) (.slice none 0 0) 37
          have P1 : Three (w5.alloc (.cells #[.int .i64 a.num, .int .i64 b.num, .slice x4 y4 z4, .slice x5 y5 z5, .slice none 0 0] 37)) _ _ _ _ _ := H1.below hBd
          have P2 : Three (w5.alloc (.cells #[.int .i64 a.num, .int .i64 b.num, .slice x4 y4 z4, .slice x5 y5 z5, .slice none 0 0] 37)) _ _ _ _ _ := H2.below hBd
          have P3 : Five (w5.alloc (.cells #[.int .i64 a.num, .int .i64 b.num, .slice x4 y4 z4, .slice x5 y5 z5, .slice none 0 0] 37)) _ _ _ _ _ _ _ := H3.below hBd
          have p4 := ownsRow_below o4' hBd
          have p5 := ownsRow_below o5 hBd
          have hap : ∀ k, (Value.slice x4 y4 z4).ownBlock = some k → (Value.slice x5 y5 z5).ownBlock = some k → False := fun k h1 h2 => by
            have := (o4.lt k h1).2
            have := (o5.lt k h2).1
            omega
          have hkb4 : w.heap.size + 1 + 1 < w2.heap.size := F3.lt
          have hzd := FD0.lt
          have hs24 := hD4.size
          have hs25 := hB5.size
          replace hBB5 := below_one hBB5 hBd
          clear hHeld a0 a1 a2 b0 b1 b2 n02 n20 n12 n21 hca4 hcb4 hca5 hcb5 m0 m0' m1 m1' hBd
          generalize w5.alloc (.cells #[.int .i64 a.num, .int .i64 b.num, .slice x4 y4 z4, .slice x5 y5 z5, .slice none 0 0] 37) = W6 at *
          generalize hkd : w5.heap.size = kd at *
          obtain ⟨b0, b1, b2⟩ := P2.c
          go_wp2_with fail
          go_loopw [59] (fun i wr => ∃ (k : Nat) (rvv : Value), k ≤ b.rv.length ∧ i = .int .i64 k ∧ Five wr 37 kd (.int .i64 a.num) (.int .i64 b.num) (.slice x4 y4 z4) (.slice x5 y5 z5) rvv ∧ wr.ownsRow W6.heap.size 3 1 rvv (woNT b.rv a.rv k).length (nums (woNT b.rv a.rv k)) ∧ Mid kd (kd + 1) W6 wr) (fun i _ => b.rv.length - (intOf i).toNat)
          case atStart => exact ⟨0, .slice none 0 0, Nat.zero_le _, rfl, FD0, by rw [woNT_zero]; exact World.ownsRow_nil _ _ _ _, Mid.of_below (Below.refl _ _)⟩
          case round =>
            obtain ⟨k, rvv, hk, rfl, FD, hrow, hM⟩ := hrel
            have hl1 := woNT_len b.rv a.rv k
            have hBB6 := hBB5.trans (hM.below (n := w.heap.size) (by omega) hBB5.size)
            have J1 := hM.three P1 (.inl (by omega))
            have J2 := hM.three P2 (.inl (by omega))
            have J3 := hM.five P3 (.inl (by omega))
            have hz6 := hM.size
            obtain ⟨a0, a1, a2⟩ := J1.c
            by_cases hl : k < b.rv.length
            · obtain ⟨bb, off, rfl, hbb, hcap, q0⟩ := (hb2.below hBB6).num hl
              have HY := hid (fun h => woNT_yes (b := a.rv) hl h)
              have HN := hid (fun h => woNT_no (b := a.rv) hl h)
              have hC := l1Has_any (.slice ra a.rv.length da) a.rv b.rv[k] _ (by omega) (ha2.below hBB6)
              generalize b.rv[k] = x at *
              obtain ⟨r0, r1, r2, r3, r4⟩ := FD.c
              cases hq : isI a.rv x
              · have HR2 := hid (HN.out hq)
                clear HN HY
                generalize woNT b.rv a.rv k = l at *
                rcases row_form hrow with ⟨rfl, hl0⟩ | ⟨go, capo, rfl, hgo, hcapo⟩
                · obtain rfl : l = [] := List.eq_nil_of_length_eq_zero hl0
                  go_wp2_with fail
                  refine hC.mono ?_
                  rintro e w6 ⟨rfl, rfl⟩
                  rw [hq]
                  clear hC
                  go_wp2_with (at_builtin; refine wpList_append_own _ rfl _ _ 23 rfl W6.heap.size 3 i0 (.int .i64 0) 1 8 Tryz.underlying23 hi hz0 hz1 hz2 rfl (by decide) _ _ _ rfl (hrow.alloc _) ⟨w6.heap.size, 0, none⟩ 1 1 [.int .i64 x] rfl rfl (cell_one_new _ _ _) (by intro u hu; simp at hu; subst hu; rfl) (by unfold maxLen; first | omega | (simp <;> omega)) (by first | omega | (simp <;> omega)) (by first | omega | (simp <;> omega)) ?_; intro u' w7 hown' hgrow _; have FD7 : Five w7 _ _ _ _ _ _ _ := kept_apart (FD.below ((Below.refl _ w6).alloc (Nat.le_refl _) _)) hgrow (fun k h1 h2 => by have := (hrow.lt k h2).1; simp [Value.ownBlock] at h1; omega); obtain ⟨e0, e1, e2, e3, e4⟩ := FD7.c; have g4 := FD7.f 4; obtain ⟨g', cap3, rfl⟩ := ownsRow_succ hown')
                  go_roundw
                  case rel =>
                    refine ⟨k + 1, _, by omega, by go_num, FD7.s4 _, ?_, ((hM.trans (Mid.of_below ((Below.refl _ w6).alloc (Nat.le_refl _) _))).app hgrow (fun k hk => (hrow.lt k hk).1)).set (p := ⟨kd, 4, none⟩) (Nat.le_refl _) (Nat.lt_succ_self _) _⟩
                    rw [HR2.out]
                    exact ownsRow_setCell_below (by simpa [nums] using hown') (a := ⟨kd, 4, none⟩) hzd _
                  case measure => simp [intOf]; omega
                · go_wp2_with fail
                  refine hC.mono ?_
                  rintro e w6 ⟨rfl, rfl⟩
                  rw [hq]
                  clear hC
                  go_wp2_with (at_builtin; refine wpList_append_own _ rfl _ _ 23 rfl W6.heap.size 3 i0 (.int .i64 0) 1 8 Tryz.underlying23 hi hz0 hz1 hz2 rfl (by decide) _ _ _ rfl (hrow.alloc _) ⟨w6.heap.size, 0, none⟩ 1 1 [.int .i64 x] rfl rfl (cell_one_new _ _ _) (by intro u hu; simp at hu; subst hu; rfl) (by unfold maxLen; first | omega | (simp <;> omega)) (by first | omega | (simp <;> omega)) (by first | omega | (simp <;> omega)) ?_; intro u' w7 hown' hgrow _; have FD7 : Five w7 _ _ _ _ _ _ _ := kept_apart (FD.below ((Below.refl _ w6).alloc (Nat.le_refl _) _)) hgrow (fun k h1 h2 => by have := (hrow.lt k h2).1; simp [Value.ownBlock] at h1; omega); obtain ⟨e0, e1, e2, e3, e4⟩ := FD7.c; have g4 := FD7.f 4; obtain ⟨g', cap3, rfl⟩ := ownsRow_succ hown')
                  go_roundw
                  case rel =>
                    refine ⟨k + 1, _, by omega, by go_num, FD7.s4 _, ?_, ((hM.trans (Mid.of_below ((Below.refl _ w6).alloc (Nat.le_refl _) _))).app hgrow (fun k hk => (hrow.lt k hk).1)).set (p := ⟨kd, 4, none⟩) (Nat.le_refl _) (Nat.lt_succ_self _) _⟩
                    rw [HR2.out]
                    exact ownsRow_setCell_below (by simpa [nums] using hown') (a := ⟨kd, 4, none⟩) hzd _
                  case measure => simp [intOf]; omega
              · have HR2 := hid (HY.out hq)
                go_wp2_with fail
                refine hC.mono ?_
                rintro e w6 ⟨rfl, rfl⟩
                rw [hq]
                clear hC
                go_wp2_with fail
                go_roundw
                case rel => exact ⟨k + 1, rvv, by omega, by go_num, FD, by rw [HR2.out]; exact hrow, hM⟩
                case measure => simp [intOf]; omega
            · obtain rfl : k = b.rv.length := by omega
              rw [woNT_end] at hrow
              obtain ⟨xr, yr, zr, rfl⟩ := row_slice hrow
              obtain ⟨r0, r1, r2, r3, r4⟩ := FD.c
              obtain ⟨t0, t1, t2, t3, t4⟩ := J3.c
              have f0 := J3.f 0
              have f1 := J3.f 1
              have f2 := J3.f 2
              have f3 := J3.f 3
              have f4 := J3.f 4
              have G := ((((J3.s0 (.int .i64 a.num)).s1 (.int .i64 b.num)).s2 (.slice x4 y4 z4)).s3 (.slice x5 y5 z5)).s4 (.slice xr yr zr)
              have q4 := row_five (hM.row p4 (fun k hk => by have := row_apart p4 FD0 (by decide) k hk; simp [Value.ownBlock] at this; omega)) (k := w.heap.size + 1 + 1) F3.lt (.int .i64 a.num) (.int .i64 b.num) (.slice x4 y4 z4) (.slice x5 y5 z5) (.slice xr yr zr)
              have q5 := row_five (hM.row p5 (fun k hk => by have := row_apart p5 FD0 (by decide) k hk; simp [Value.ownBlock] at this; omega)) (k := w.heap.size + 1 + 1) G3.lt (.int .i64 a.num) (.int .i64 b.num) (.slice x4 y4 z4) (.slice x5 y5 z5) (.slice xr yr zr)
              have q6 := row_five hrow (k := w.heap.size + 1 + 1) (by omega) (.int .i64 a.num) (.int .i64 b.num) (.slice x4 y4 z4) (.slice x5 y5 z5) (.slice xr yr zr)
              have pB := below_five hBB6 (k := w.heap.size + 1 + 1) (by omega) (.int .i64 a.num) (.int .i64 b.num) (.slice x4 y4 z4) (.slice x5 y5 z5) (.slice xr yr zr)
              go_wp2_with fail
              clear r0 r1 r2 r3 r4 f0 f1 f2 f3 f4 t0 t1 t2 t3 t4
              generalize (((((wr.setCell ⟨w.heap.size + 1 + 1, 0, none⟩ (.int .i64 a.num)).setCell ⟨w.heap.size + 1 + 1, 1, none⟩ (.int .i64 b.num)).setCell ⟨w.heap.size + 1 + 1, 2, none⟩ (.slice x4 y4 z4)).setCell ⟨w.heap.size + 1 + 1, 3, none⟩ (.slice x5 y5 z5)).setCell ⟨w.heap.size + 1 + 1, 4, none⟩ (.slice xr yr zr)) = W9 at *
              obtain ⟨d0, d1, d2, d3, d4⟩ := G.c
              exact bodyPost_ret (v := .tuple #[.agg #[.int .i64 a.num, .int .i64 b.num, .slice x4 y4 z4, .slice x5 y5 z5, .slice xr yr zr], .bool true]) (by simp [results, Tryz.results35, go_sem, d0, d1, d2, d3, d4]) rfl ⟨_, by rw [HR.out], by rw [HX.out]; exact ⟨_, _, _, rfl, Go.Joins.ownsRow_le q4 hBB.size, Go.Joins.ownsRow_le q5 hBB4.size, Go.Joins.ownsRow_le q6 (Nat.le_trans hBB5.size (Nat.le_refl _)), fun k hk => (q4.lt k hk).2, fun k hk => (q5.lt k hk).2, fun k hk => (q6.lt k hk).2, hap⟩, pB⟩
        · go_simp
          skip
          refine hK.out _ _ ?_ (fun hHeld => ?_)
          · go_keep
          clear hK K
          try simp only [Act.put, List.setIfInBounds_toArray, List.set_cons_zero, List.set_cons_succ]
          have m2 : w.heap.size + 1 + 1 ≠ w4.heap.size := (by have := G3.lt; omega)
          have hBd : Below w4.heap.size w4 (w4.alloc (.cells #[.int .i64 0, .int .i64 0, .slice none 0 0, .slice none 0 0, .slice none 0 0] 37)) := (Below.refl _ w4).alloc (Nat.le_refl _) _
          have FZ : Five (w4.alloc (.cells #[.int .i64 0, .int .i64 0, .slice none 0 0, .slice none 0 0, .slice none 0 0] 37)) _ _ _ _ _ _ _ := Five.new w4 (.int .i64 0) (.int .i64 0) (.slice none 0 0) (.slice none 0 0) (.slice none 0 0) 37
          have D1 : Three (w4.alloc (.cells #[.int .i64 0, .int .i64 0, .slice none 0 0, .slice none 0 0, .slice none 0 0] 37)) _ _ _ _ _ := G1.below hBd
          have D2 : Three (w4.alloc (.cells #[.int .i64 0, .int .i64 0, .slice none 0 0, .slice none 0 0, .slice none 0 0] 37)) _ _ _ _ _ := G2.below hBd
          have D3 : Five (w4.alloc (.cells #[.int .i64 0, .int .i64 0, .slice none 0 0, .slice none 0 0, .slice none 0 0] 37)) _ _ _ _ _ _ _ := G3.below hBd
          have hBBd := below_one hBB4 hBd
          have hsd := hBd.size
          have o4d := ownsRow_below o4 hBd
          generalize w4.alloc (.cells #[.int .i64 0, .int .i64 0, .slice none 0 0, .slice none 0 0, .slice none 0 0] 37) = Wd at *
          refine takeC 13 (by kernel_rfl) rfl (fun K hK => ?_)
          go_simp
          refine (l5Less_any _ _ b.pol a.pol _ (by omega) (by omega) (by exact (hb1.below hBBd)) (by exact (ha1.below hBBd))).mono ?_; rintro e w5 ⟨u5, rfl, o5, hB5⟩; obtain ⟨x5, y5, z5, rfl⟩ := row_slice o5; have hD5 := hB5; have hca5 := fun o => hB5.cell (p := ⟨w.heap.size, o, none⟩) (by exact D1.lt); have hcb5 := fun o => hB5.cell (p := ⟨w.heap.size + 1, o, none⟩) (by exact D2.lt); have H1 : Three w5 _ _ _ _ _ := D1.below hD5; have H2 : Three w5 _ _ _ _ _ := D2.below hD5; have H3 : Five w5 _ _ _ _ _ _ _ := D3.below hD5; have HZ : Five w5 _ _ _ _ _ _ _ := FZ.below hD5; have hBB5 := below_one hBBd hB5; have o4' := ownsRow_below o4d hB5
          refine hK.out _ _ ?_ (fun hHeld => ?_)
          · go_keep
          clear hK K
          try simp only [Act.put, List.setIfInBounds_toArray, List.set_cons_zero, List.set_cons_succ]
          obtain ⟨e0, e1, e2, e3, e4⟩ := HZ.c
          have g0 := HZ.f 0
          have g1 := HZ.f 1
          have g2 := HZ.f 2
          have g3 := HZ.f 3
          have g4 := HZ.f 4
          refine takeW 14 (v := ?v32) rfl (by kernel_rfl) (by kernel_rfl) (by kernel_rfl) (fun _ _ _ h => h) (by rfl) (by assumption) ?hy32 ?rest32
          case hy32 => intro w' hSw; (try dsimp only at hSw); go_simp; try with_reducible rfl
          try simp only [Act.put, List.setIfInBounds_toArray, List.set_cons_zero, List.set_cons_succ]
          refine takeC 16 (by kernel_rfl) rfl (fun K hK => ?_)
          go_simp
          skip
          refine hK.out _ _ ?_ (fun hHeld => ?_)
          · go_keep
          clear hK K
          try simp only [Act.put, List.setIfInBounds_toArray, List.set_cons_zero, List.set_cons_succ]
          refine wpAnyH_done (by kernel_rfl) ?_ _
          have FD0 := ((((HZ.s0 (.int .i64 a.num)).s1 (.int .i64 b.num)).s2 (.slice x4 y4 z4)).s3 (.slice x5 y5 z5)).s4 (.slice none 0 0)
          have P1 : Three ((((((w5.setCell ⟨w4.heap.size, 0, none⟩ (.int .i64 a.num)).setCell ⟨w4.heap.size, 1, none⟩ (.int .i64 b.num)).setCell ⟨w4.heap.size, 2, none⟩ (.slice x4 y4 z4)).setCell ⟨w4.heap.size, 3, none⟩ (.slice x5 y5 z5)).setCell ⟨w4.heap.size, 4, none⟩ (.slice none 0 0))) _ _ _ _ _ := ((((H1.other (k' := w4.heap.size) m0 0 (.int .i64 a.num)).other m0 1 (.int .i64 b.num)).other m0 2 (.slice x4 y4 z4)).other m0 3 (.slice x5 y5 z5)).other m0 4 (.slice none 0 0)
          have P2 : Three ((((((w5.setCell ⟨w4.heap.size, 0, none⟩ (.int .i64 a.num)).setCell ⟨w4.heap.size, 1, none⟩ (.int .i64 b.num)).setCell ⟨w4.heap.size, 2, none⟩ (.slice x4 y4 z4)).setCell ⟨w4.heap.size, 3, none⟩ (.slice x5 y5 z5)).setCell ⟨w4.heap.size, 4, none⟩ (.slice none 0 0))) _ _ _ _ _ := ((((H2.other (k' := w4.heap.size) m1 0 (.int .i64 a.num)).other m1 1 (.int .i64 b.num)).other m1 2 (.slice x4 y4 z4)).other m1 3 (.slice x5 y5 z5)).other m1 4 (.slice none 0 0)
          have P3 : Five ((((((w5.setCell ⟨w4.heap.size, 0, none⟩ (.int .i64 a.num)).setCell ⟨w4.heap.size, 1, none⟩ (.int .i64 b.num)).setCell ⟨w4.heap.size, 2, none⟩ (.slice x4 y4 z4)).setCell ⟨w4.heap.size, 3, none⟩ (.slice x5 y5 z5)).setCell ⟨w4.heap.size, 4, none⟩ (.slice none 0 0))) _ _ _ _ _ _ _ := ((((H3.other (k' := w4.heap.size) m2 0 (.int .i64 a.num)).other m2 1 (.int .i64 b.num)).other m2 2 (.slice x4 y4 z4)).other m2 3 (.slice x5 y5 z5)).other m2 4 (.slice none 0 0)
          have p4 := row_away o4' (fun k hk e => row_apart o4' HZ (by decide) k hk (by rw [e]; rfl)) (.int .i64 a.num) (.int .i64 b.num) (.slice x4 y4 z4) (.slice x5 y5 z5) (.slice none 0 0)
          have p5 := row_away o5 (fun k hk e => row_apart o5 HZ (by decide) k hk (by rw [e]; rfl)) (.int .i64 a.num) (.int .i64 b.num) (.slice x4 y4 z4) (.slice x5 y5 z5) (.slice none 0 0)
          have hap : ∀ k, (Value.slice x4 y4 z4).ownBlock = some k → (Value.slice x5 y5 z5).ownBlock = some k → False := fun k h1 h2 => by
            have := (o4.lt k h1).2
            have := (o5.lt k h2).1
            omega
          have hkb4 : w.heap.size + 1 + 1 < w2.heap.size := F3.lt
          have hzd := FD0.lt
          have hs24 := hD4.size
          have hs25 := Nat.le_trans hBd.size hB5.size
          replace hBB5 := below_five hBB5 (k := w4.heap.size) (by omega) (.int .i64 a.num) (.int .i64 b.num) (.slice x4 y4 z4) (.slice x5 y5 z5) (.slice none 0 0)
          clear hHeld a0 a1 a2 b0 b1 b2 n02 n20 n12 n21 hca4 hcb4 hca5 hcb5 m0 m0' m1 m1' e0 e1 e2 e3 e4 g0 g1 g2 g3 g4
          generalize (((((w5.setCell ⟨w4.heap.size, 0, none⟩ (.int .i64 a.num)).setCell ⟨w4.heap.size, 1, none⟩ (.int .i64 b.num)).setCell ⟨w4.heap.size, 2, none⟩ (.slice x4 y4 z4)).setCell ⟨w4.heap.size, 3, none⟩ (.slice x5 y5 z5)).setCell ⟨w4.heap.size, 4, none⟩ (.slice none 0 0)) = W6 at *
          generalize hkd : w4.heap.size = kd at *
          obtain ⟨b0, b1, b2⟩ := P2.c
          go_wp2_with fail
          go_loopw [59] (fun i wr => ∃ (k : Nat) (rvv : Value), k ≤ b.rv.length ∧ i = .int .i64 k ∧ Five wr 37 kd (.int .i64 a.num) (.int .i64 b.num) (.slice x4 y4 z4) (.slice x5 y5 z5) rvv ∧ wr.ownsRow W6.heap.size 3 1 rvv (woNT b.rv a.rv k).length (nums (woNT b.rv a.rv k)) ∧ Mid kd (kd + 1) W6 wr) (fun i _ => b.rv.length - (intOf i).toNat)
          case atStart => exact ⟨0, .slice none 0 0, Nat.zero_le _, rfl, FD0, by rw [woNT_zero]; exact World.ownsRow_nil _ _ _ _, Mid.of_below (Below.refl _ _)⟩
          case round =>
            obtain ⟨k, rvv, hk, rfl, FD, hrow, hM⟩ := hrel
            have hl1 := woNT_len b.rv a.rv k
            have hBB6 := hBB5.trans (hM.below (n := w.heap.size) (by omega) hBB5.size)
            have J1 := hM.three P1 (.inl (by omega))
            have J2 := hM.three P2 (.inl (by omega))
            have J3 := hM.five P3 (.inl (by omega))
            have hz6 := hM.size
            obtain ⟨a0, a1, a2⟩ := J1.c
            by_cases hl : k < b.rv.length
            · obtain ⟨bb, off, rfl, hbb, hcap, q0⟩ := (hb2.below hBB6).num hl
              have HY := hid (fun h => woNT_yes (b := a.rv) hl h)
              have HN := hid (fun h => woNT_no (b := a.rv) hl h)
              have hC := l1Has_any (.slice ra a.rv.length da) a.rv b.rv[k] _ (by omega) (ha2.below hBB6)
              generalize b.rv[k] = x at *
              obtain ⟨r0, r1, r2, r3, r4⟩ := FD.c
              cases hq : isI a.rv x
              · have HR2 := hid (HN.out hq)
                clear HN HY
                generalize woNT b.rv a.rv k = l at *
                rcases row_form hrow with ⟨rfl, hl0⟩ | ⟨go, capo, rfl, hgo, hcapo⟩
                · obtain rfl : l = [] := List.eq_nil_of_length_eq_zero hl0
                  go_wp2_with fail
                  refine hC.mono ?_
                  rintro e w6 ⟨rfl, rfl⟩
                  rw [hq]
                  clear hC
                  go_wp2_with (at_builtin; refine wpList_append_own _ rfl _ _ 23 rfl W6.heap.size 3 i0 (.int .i64 0) 1 8 Tryz.underlying23 hi hz0 hz1 hz2 rfl (by decide) _ _ _ rfl (hrow.alloc _) ⟨w6.heap.size, 0, none⟩ 1 1 [.int .i64 x] rfl rfl (cell_one_new _ _ _) (by intro u hu; simp at hu; subst hu; rfl) (by unfold maxLen; first | omega | (simp <;> omega)) (by first | omega | (simp <;> omega)) (by first | omega | (simp <;> omega)) ?_; intro u' w7 hown' hgrow _; have FD7 : Five w7 _ _ _ _ _ _ _ := kept_apart (FD.below ((Below.refl _ w6).alloc (Nat.le_refl _) _)) hgrow (fun k h1 h2 => by have := (hrow.lt k h2).1; simp [Value.ownBlock] at h1; omega); obtain ⟨e0, e1, e2, e3, e4⟩ := FD7.c; have g4 := FD7.f 4; obtain ⟨g', cap3, rfl⟩ := ownsRow_succ hown')
                  go_roundw
                  case rel =>
                    refine ⟨k + 1, _, by omega, by go_num, FD7.s4 _, ?_, ((hM.trans (Mid.of_below ((Below.refl _ w6).alloc (Nat.le_refl _) _))).app hgrow (fun k hk => (hrow.lt k hk).1)).set (p := ⟨kd, 4, none⟩) (Nat.le_refl _) (Nat.lt_succ_self _) _⟩
                    rw [HR2.out]
                    exact ownsRow_setCell_below (by simpa [nums] using hown') (a := ⟨kd, 4, none⟩) hzd _
                  case measure => simp [intOf]; omega
                · go_wp2_with fail
                  refine hC.mono ?_
                  rintro e w6 ⟨rfl, rfl⟩
                  rw [hq]
                  clear hC
                  go_wp2_with (at_builtin; refine wpList_append_own _ rfl _ _ 23 rfl W6.heap.size 3 i0 (.int .i64 0) 1 8 Tryz.underlying23 hi hz0 hz1 hz2 rfl (by decide) _ _ _ rfl (hrow.alloc _) ⟨w6.heap.size, 0, none⟩ 1 1 [.int .i64 x] rfl rfl (cell_one_new _ _ _) (by intro u hu; simp at hu; subst hu; rfl) (by unfold maxLen; first | omega | (simp <;> omega)) (by first | omega | (simp <;> omega)) (by first | omega | (simp <;> omega)) ?_; intro u' w7 hown' hgrow _; have FD7 : Five w7 _ _ _ _ _ _ _ := kept_apart (FD.below ((Below.refl _ w6).alloc (Nat.le_refl _) _)) hgrow (fun k h1 h2 => by have := (hrow.lt k h2).1; simp [Value.ownBlock] at h1; omega); obtain ⟨e0, e1, e2, e3, e4⟩ := FD7.c; have g4 := FD7.f 4; obtain ⟨g', cap3, rfl⟩ := ownsRow_succ hown')
                  go_roundw
                  case rel =>
                    refine ⟨k + 1, _, by omega, by go_num, FD7.s4 _, ?_, ((hM.trans (Mid.of_below ((Below.refl _ w6).alloc (Nat.le_refl _) _))).app hgrow (fun k hk => (hrow.lt k hk).1)).set (p := ⟨kd, 4, none⟩) (Nat.le_refl _) (Nat.lt_succ_self _) _⟩
                    rw [HR2.out]
                    exact ownsRow_setCell_below (by simpa [nums] using hown') (a := ⟨kd, 4, none⟩) hzd _
                  case measure => simp [intOf]; omega
              · have HR2 := hid (HY.out hq)
                go_wp2_with fail
                refine hC.mono ?_
                rintro e w6 ⟨rfl, rfl⟩
                rw [hq]
                clear hC
                go_wp2_with fail
                go_roundw
                case rel => exact ⟨k + 1, rvv, by omega, by go_num, FD, by rw [HR2.out]; exact hrow, hM⟩
                case measure => simp [intOf]; omega
            · obtain rfl : k = b.rv.length := by omega
              rw [woNT_end] at hrow
              obtain ⟨xr, yr, zr, rfl⟩ := row_slice hrow
              obtain ⟨r0, r1, r2, r3, r4⟩ := FD.c
              obtain ⟨t0, t1, t2, t3, t4⟩ := J3.c
              have f0 := J3.f 0
              have f1 := J3.f 1
              have f2 := J3.f 2
              have f3 := J3.f 3
              have f4 := J3.f 4
              have G := ((((J3.s0 (.int .i64 a.num)).s1 (.int .i64 b.num)).s2 (.slice x4 y4 z4)).s3 (.slice x5 y5 z5)).s4 (.slice xr yr zr)
              have q4 := row_five (hM.row p4 (fun k hk => by have := row_apart p4 FD0 (by decide) k hk; simp [Value.ownBlock] at this; omega)) (k := w.heap.size + 1 + 1) F3.lt (.int .i64 a.num) (.int .i64 b.num) (.slice x4 y4 z4) (.slice x5 y5 z5) (.slice xr yr zr)
              have q5 := row_five (hM.row p5 (fun k hk => by have := row_apart p5 FD0 (by decide) k hk; simp [Value.ownBlock] at this; omega)) (k := w.heap.size + 1 + 1) D3.lt (.int .i64 a.num) (.int .i64 b.num) (.slice x4 y4 z4) (.slice x5 y5 z5) (.slice xr yr zr)
              have q6 := row_five hrow (k := w.heap.size + 1 + 1) (by omega) (.int .i64 a.num) (.int .i64 b.num) (.slice x4 y4 z4) (.slice x5 y5 z5) (.slice xr yr zr)
              have pB := below_five hBB6 (k := w.heap.size + 1 + 1) (by omega) (.int .i64 a.num) (.int .i64 b.num) (.slice x4 y4 z4) (.slice x5 y5 z5) (.slice xr yr zr)
              go_wp2_with fail
              clear r0 r1 r2 r3 r4 f0 f1 f2 f3 f4 t0 t1 t2 t3 t4
              generalize (((((wr.setCell ⟨w.heap.size + 1 + 1, 0, none⟩ (.int .i64 a.num)).setCell ⟨w.heap.size + 1 + 1, 1, none⟩ (.int .i64 b.num)).setCell ⟨w.heap.size + 1 + 1, 2, none⟩ (.slice x4 y4 z4)).setCell ⟨w.heap.size + 1 + 1, 3, none⟩ (.slice x5 y5 z5)).setCell ⟨w.heap.size + 1 + 1, 4, none⟩ (.slice xr yr zr)) = W9 at *
              obtain ⟨d0, d1, d2, d3, d4⟩ := G.c
              exact bodyPost_ret (v := .tuple #[.agg #[.int .i64 a.num, .int .i64 b.num, .slice x4 y4 z4, .slice x5 y5 z5, .slice xr yr zr], .bool true]) (by simp [results, Tryz.results35, go_sem, d0, d1, d2, d3, d4]) rfl ⟨_, by rw [HR.out], by rw [HX.out]; exact ⟨_, _, _, rfl, Go.Joins.ownsRow_le q4 hBB.size, Go.Joins.ownsRow_le q5 hBBd.size, Go.Joins.ownsRow_le q6 (Nat.le_trans hBB5.size (Nat.le_refl _)), fun k hk => (q4.lt k hk).2, fun k hk => (q5.lt k hk).2, fun k hk => (q6.lt k hk).2, hap⟩, pB⟩
      · go_simp
        skip
        refine hK.out _ _ ?_ (fun hHeld => ?_)
        · go_keep
        clear hK K
        try simp only [Act.put, List.setIfInBounds_toArray, List.set_cons_zero, List.set_cons_succ]
        have m2 : w.heap.size + 1 + 1 ≠ w2.heap.size := (by have := F3.lt; omega)
        have hBd : Below w2.heap.size w2 ((w2.alloc (.cells #[.int .i64 0, .int .i64 0, .slice none 0 0, .slice none 0 0, .slice none 0 0] 37)).drew) := ((Below.refl _ w2).alloc (Nat.le_refl _) _).drew
        have FZ : Five ((w2.alloc (.cells #[.int .i64 0, .int .i64 0, .slice none 0 0, .slice none 0 0, .slice none 0 0] 37)).drew) _ _ _ _ _ _ _ := (Five.new w2 (.int .i64 0) (.int .i64 0) (.slice none 0 0) (.slice none 0 0) (.slice none 0 0) 37).below (Below.refl _ _).drew
        have D1 : Three ((w2.alloc (.cells #[.int .i64 0, .int .i64 0, .slice none 0 0, .slice none 0 0, .slice none 0 0] 37)).drew) _ _ _ _ _ := F1.below hBd
        have D2 : Three ((w2.alloc (.cells #[.int .i64 0, .int .i64 0, .slice none 0 0, .slice none 0 0, .slice none 0 0] 37)).drew) _ _ _ _ _ := F2.below hBd
        have D3 : Five ((w2.alloc (.cells #[.int .i64 0, .int .i64 0, .slice none 0 0, .slice none 0 0, .slice none 0 0] 37)).drew) _ _ _ _ _ _ _ := F3.below hBd
        have hBBd := below_one hBB hBd
        have hsd := hBd.size
        generalize (w2.alloc (.cells #[.int .i64 0, .int .i64 0, .slice none 0 0, .slice none 0 0, .slice none 0 0] 37)).drew = Wd at *
        refine takeC 8 (by kernel_rfl) rfl (fun K hK => ?_)
        go_simp
        refine (l5Less_any _ _ a.pol b.pol _ (by omega) (by omega) (by exact (ha1.below hBBd)) (by exact (hb1.below hBBd))).mono ?_; rintro e w4 ⟨u4, rfl, o4, hB4⟩; obtain ⟨x4, y4, z4, rfl⟩ := row_slice o4; have hD4 := hB4; have hca4 := fun o => hB4.cell (p := ⟨w.heap.size, o, none⟩) (by exact D1.lt); have hcb4 := fun o => hB4.cell (p := ⟨w.heap.size + 1, o, none⟩) (by exact D2.lt); have G1 : Three w4 _ _ _ _ _ := D1.below hD4; have G2 : Three w4 _ _ _ _ _ := D2.below hD4; have G3 : Five w4 _ _ _ _ _ _ _ := D3.below hD4; have GZ : Five w4 _ _ _ _ _ _ _ := FZ.below hD4; have hBB4 := below_one hBBd hB4
        refine hK.out _ _ ?_ (fun hHeld => ?_)
        · go_keep
        clear hK K
        try simp only [Act.put, List.setIfInBounds_toArray, List.set_cons_zero, List.set_cons_succ]
        refine takeC 13 (by kernel_rfl) rfl (fun K hK => ?_)
        go_simp
        refine (l5Less_any _ _ b.pol a.pol _ (by omega) (by omega) (by exact (hb1.below hBB4)) (by exact (ha1.below hBB4))).mono ?_; rintro e w5 ⟨u5, rfl, o5, hB5⟩; obtain ⟨x5, y5, z5, rfl⟩ := row_slice o5; have hD5 := hB5; have hca5 := fun o => hB5.cell (p := ⟨w.heap.size, o, none⟩) (by exact G1.lt); have hcb5 := fun o => hB5.cell (p := ⟨w.heap.size + 1, o, none⟩) (by exact G2.lt); have H1 : Three w5 _ _ _ _ _ := G1.below hD5; have H2 : Three w5 _ _ _ _ _ := G2.below hD5; have H3 : Five w5 _ _ _ _ _ _ _ := G3.below hD5; have HZ : Five w5 _ _ _ _ _ _ _ := GZ.below hD5; have hBB5 := below_one hBB4 hB5; have o4' := ownsRow_below o4 hB5
        refine hK.out _ _ ?_ (fun hHeld => ?_)
        · go_keep
        clear hK K
        try simp only [Act.put, List.setIfInBounds_toArray, List.set_cons_zero, List.set_cons_succ]
        obtain ⟨e0, e1, e2, e3, e4⟩ := HZ.c
        have g0 := HZ.f 0
        have g1 := HZ.f 1
        have g2 := HZ.f 2
        have g3 := HZ.f 3
        have g4 := HZ.f 4
        refine takeW 14 (v := ?v33) rfl (by kernel_rfl) (by kernel_rfl) (by kernel_rfl) (fun _ _ _ h => h) (by rfl) (by assumption) ?hy33 ?rest33
        case hy33 => intro w' hSw; (try dsimp only at hSw); go_simp; try with_reducible rfl
        try simp only [Act.put, List.setIfInBounds_toArray, List.set_cons_zero, List.set_cons_succ]
        refine takeC 16 (by kernel_rfl) rfl (fun K hK => ?_)
        go_simp
        skip
        refine hK.out _ _ ?_ (fun hHeld => ?_)
        · go_keep
        clear hK K
        try simp only [Act.put, List.setIfInBounds_toArray, List.set_cons_zero, List.set_cons_succ]
        refine wpAnyH_done (by kernel_rfl) ?_ _
        have FD0 := ((((HZ.s0 (.int .i64 a.num)).s1 (.int .i64 b.num)).s2 (.slice x4 y4 z4)).s3 (.slice x5 y5 z5)).s4 (.slice none 0 0)
        have P1 : Three ((((((w5.setCell ⟨w2.heap.size, 0, none⟩ (.int .i64 a.num)).setCell ⟨w2.heap.size, 1, none⟩ (.int .i64 b.num)).setCell ⟨w2.heap.size, 2, none⟩ (.slice x4 y4 z4)).setCell ⟨w2.heap.size, 3, none⟩ (.slice x5 y5 z5)).setCell ⟨w2.heap.size, 4, none⟩ (.slice none 0 0))) _ _ _ _ _ := ((((H1.other (k' := w2.heap.size) m0 0 (.int .i64 a.num)).other m0 1 (.int .i64 b.num)).other m0 2 (.slice x4 y4 z4)).other m0 3 (.slice x5 y5 z5)).other m0 4 (.slice none 0 0)
        have P2 : Three ((((((w5.setCell ⟨w2.heap.size, 0, none⟩ (.int .i64 a.num)).setCell ⟨w2.heap.size, 1, none⟩ (.int .i64 b.num)).setCell ⟨w2.heap.size, 2, none⟩ (.slice x4 y4 z4)).setCell ⟨w2.heap.size, 3, none⟩ (.slice x5 y5 z5)).setCell ⟨w2.heap.size, 4, none⟩ (.slice none 0 0))) _ _ _ _ _ := ((((H2.other (k' := w2.heap.size) m1 0 (.int .i64 a.num)).other m1 1 (.int .i64 b.num)).other m1 2 (.slice x4 y4 z4)).other m1 3 (.slice x5 y5 z5)).other m1 4 (.slice none 0 0)
        have P3 : Five ((((((w5.setCell ⟨w2.heap.size, 0, none⟩ (.int .i64 a.num)).setCell ⟨w2.heap.size, 1, none⟩ (.int .i64 b.num)).setCell ⟨w2.heap.size, 2, none⟩ (.slice x4 y4 z4)).setCell ⟨w2.heap.size, 3, none⟩ (.slice x5 y5 z5)).setCell ⟨w2.heap.size, 4, none⟩ (.slice none 0 0))) _ _ _ _ _ _ _ := ((((H3.other (k' := w2.heap.size) m2 0 (.int .i64 a.num)).other m2 1 (.int .i64 b.num)).other m2 2 (.slice x4 y4 z4)).other m2 3 (.slice x5 y5 z5)).other m2 4 (.slice none 0 0)
        have p4 := row_away o4' (fun k hk e => row_apart o4' HZ (by decide) k hk (by rw [e]; rfl)) (.int .i64 a.num) (.int .i64 b.num) (.slice x4 y4 z4) (.slice x5 y5 z5) (.slice none 0 0)
        have p5 := row_away o5 (fun k hk e => row_apart o5 HZ (by decide) k hk (by rw [e]; rfl)) (.int .i64 a.num) (.int .i64 b.num) (.slice x4 y4 z4) (.slice x5 y5 z5) (.slice none 0 0)
        have hap : ∀ k, (Value.slice x4 y4 z4).ownBlock = some k → (Value.slice x5 y5 z5).ownBlock = some k → False := fun k h1 h2 => by
          have := (o4.lt k h1).2
          have := (o5.lt k h2).1
          omega
        have hkb4 : w.heap.size + 1 + 1 < w2.heap.size := F3.lt
        have hzd := FD0.lt
        have hs24 := Nat.le_trans hBd.size hB4.size
        have hs25 := hB5.size
        replace hBB5 := below_five hBB5 (k := w2.heap.size) (by omega) (.int .i64 a.num) (.int .i64 b.num) (.slice x4 y4 z4) (.slice x5 y5 z5) (.slice none 0 0)
        clear hHeld a0 a1 a2 b0 b1 b2 n02 n20 n12 n21 hca4 hcb4 hca5 hcb5 m0 m0' m1 m1' e0 e1 e2 e3 e4 g0 g1 g2 g3 g4
        generalize (((((w5.setCell ⟨w2.heap.size, 0, none⟩ (.int .i64 a.num)).setCell ⟨w2.heap.size, 1, none⟩ (.int .i64 b.num)).setCell ⟨w2.heap.size, 2, none⟩ (.slice x4 y4 z4)).setCell ⟨w2.heap.size, 3, none⟩ (.slice x5 y5 z5)).setCell ⟨w2.heap.size, 4, none⟩ (.slice none 0 0)) = W6 at *
        generalize hkd : w2.heap.size = kd at *
        obtain ⟨b0, b1, b2⟩ := P2.c
        go_wp2_with fail
        go_loopw [59] (fun i wr => ∃ (k : Nat) (rvv : Value), k ≤ b.rv.length ∧ i = .int .i64 k ∧ Five wr 37 kd (.int .i64 a.num) (.int .i64 b.num) (.slice x4 y4 z4) (.slice x5 y5 z5) rvv ∧ wr.ownsRow W6.heap.size 3 1 rvv (woNT b.rv a.rv k).length (nums (woNT b.rv a.rv k)) ∧ Mid kd (kd + 1) W6 wr) (fun i _ => b.rv.length - (intOf i).toNat)
        case atStart => exact ⟨0, .slice none 0 0, Nat.zero_le _, rfl, FD0, by rw [woNT_zero]; exact World.ownsRow_nil _ _ _ _, Mid.of_below (Below.refl _ _)⟩
        case round =>
          obtain ⟨k, rvv, hk, rfl, FD, hrow, hM⟩ := hrel
          have hl1 := woNT_len b.rv a.rv k
          have hBB6 := hBB5.trans (hM.below (n := w.heap.size) (by omega) hBB5.size)
          have J1 := hM.three P1 (.inl (by omega))
          have J2 := hM.three P2 (.inl (by omega))
          have J3 := hM.five P3 (.inl (by omega))
          have hz6 := hM.size
          obtain ⟨a0, a1, a2⟩ := J1.c
          by_cases hl : k < b.rv.length
          · obtain ⟨bb, off, rfl, hbb, hcap, q0⟩ := (hb2.below hBB6).num hl
            have HY := hid (fun h => woNT_yes (b := a.rv) hl h)
            have HN := hid (fun h => woNT_no (b := a.rv) hl h)
            have hC := l1Has_any (.slice ra a.rv.length da) a.rv b.rv[k] _ (by omega) (ha2.below hBB6)
            generalize b.rv[k] = x at *
            obtain ⟨r0, r1, r2, r3, r4⟩ := FD.c
            cases hq : isI a.rv x
            · have HR2 := hid (HN.out hq)
              clear HN HY
              generalize woNT b.rv a.rv k = l at *
              rcases row_form hrow with ⟨rfl, hl0⟩ | ⟨go, capo, rfl, hgo, hcapo⟩
              · obtain rfl : l = [] := List.eq_nil_of_length_eq_zero hl0
                go_wp2_with fail
                refine hC.mono ?_
                rintro e w6 ⟨rfl, rfl⟩
                rw [hq]
                clear hC
                go_wp2_with (at_builtin; refine wpList_append_own _ rfl _ _ 23 rfl W6.heap.size 3 i0 (.int .i64 0) 1 8 Tryz.underlying23 hi hz0 hz1 hz2 rfl (by decide) _ _ _ rfl (hrow.alloc _) ⟨w6.heap.size, 0, none⟩ 1 1 [.int .i64 x] rfl rfl (cell_one_new _ _ _) (by intro u hu; simp at hu; subst hu; rfl) (by unfold maxLen; first | omega | (simp <;> omega)) (by first | omega | (simp <;> omega)) (by first | omega | (simp <;> omega)) ?_; intro u' w7 hown' hgrow _; have FD7 : Five w7 _ _ _ _ _ _ _ := kept_apart (FD.below ((Below.refl _ w6).alloc (Nat.le_refl _) _)) hgrow (fun k h1 h2 => by have := (hrow.lt k h2).1; simp [Value.ownBlock] at h1; omega); obtain ⟨e0, e1, e2, e3, e4⟩ := FD7.c; have g4 := FD7.f 4; obtain ⟨g', cap3, rfl⟩ := ownsRow_succ hown')
                go_roundw
                case rel =>
                  refine ⟨k + 1, _, by omega, by go_num, FD7.s4 _, ?_, ((hM.trans (Mid.of_below ((Below.refl _ w6).alloc (Nat.le_refl _) _))).app hgrow (fun k hk => (hrow.lt k hk).1)).set (p := ⟨kd, 4, none⟩) (Nat.le_refl _) (Nat.lt_succ_self _) _⟩
                  rw [HR2.out]
                  exact ownsRow_setCell_below (by simpa [nums] using hown') (a := ⟨kd, 4, none⟩) hzd _
                case measure => simp [intOf]; omega
              · go_wp2_with fail
                refine hC.mono ?_
                rintro e w6 ⟨rfl, rfl⟩
                rw [hq]
                clear hC
                go_wp2_with (at_builtin; refine wpList_append_own _ rfl _ _ 23 rfl W6.heap.size 3 i0 (.int .i64 0) 1 8 Tryz.underlying23 hi hz0 hz1 hz2 rfl (by decide) _ _ _ rfl (hrow.alloc _) ⟨w6.heap.size, 0, none⟩ 1 1 [.int .i64 x] rfl rfl (cell_one_new _ _ _) (by intro u hu; simp at hu; subst hu; rfl) (by unfold maxLen; first | omega | (simp <;> omega)) (by first | omega | (simp <;> omega)) (by first | omega | (simp <;> omega)) ?_; intro u' w7 hown' hgrow _; have FD7 : Five w7 _ _ _ _ _ _ _ := kept_apart (FD.below ((Below.refl _ w6).alloc (Nat.le_refl _) _)) hgrow (fun k h1 h2 => by have := (hrow.lt k h2).1; simp [Value.ownBlock] at h1; omega); obtain ⟨e0, e1, e2, e3, e4⟩ := FD7.c; have g4 := FD7.f 4; obtain ⟨g', cap3, rfl⟩ := ownsRow_succ hown')
                go_roundw
                case rel =>
                  refine ⟨k + 1, _, by omega, by go_num, FD7.s4 _, ?_, ((hM.trans (Mid.of_below ((Below.refl _ w6).alloc (Nat.le_refl _) _))).app hgrow (fun k hk => (hrow.lt k hk).1)).set (p := ⟨kd, 4, none⟩) (Nat.le_refl _) (Nat.lt_succ_self _) _⟩
                  rw [HR2.out]
                  exact ownsRow_setCell_below (by simpa [nums] using hown') (a := ⟨kd, 4, none⟩) hzd _
                case measure => simp [intOf]; omega
            · have HR2 := hid (HY.out hq)
              go_wp2_with fail
              refine hC.mono ?_
              rintro e w6 ⟨rfl, rfl⟩
              rw [hq]
              clear hC
              go_wp2_with fail
              go_roundw
              case rel => exact ⟨k + 1, rvv, by omega, by go_num, FD, by rw [HR2.out]; exact hrow, hM⟩
              case measure => simp [intOf]; omega
          · obtain rfl : k = b.rv.length := by omega
            rw [woNT_end] at hrow
            obtain ⟨xr, yr, zr, rfl⟩ := row_slice hrow
            obtain ⟨r0, r1, r2, r3, r4⟩ := FD.c
            obtain ⟨t0, t1, t2, t3, t4⟩ := J3.c
            have f0 := J3.f 0
            have f1 := J3.f 1
            have f2 := J3.f 2
            have f3 := J3.f 3
            have f4 := J3.f 4
            have G := ((((J3.s0 (.int .i64 a.num)).s1 (.int .i64 b.num)).s2 (.slice x4 y4 z4)).s3 (.slice x5 y5 z5)).s4 (.slice xr yr zr)
            have q4 := row_five (hM.row p4 (fun k hk => by have := row_apart p4 FD0 (by decide) k hk; simp [Value.ownBlock] at this; omega)) (k := w.heap.size + 1 + 1) D3.lt (.int .i64 a.num) (.int .i64 b.num) (.slice x4 y4 z4) (.slice x5 y5 z5) (.slice xr yr zr)
            have q5 := row_five (hM.row p5 (fun k hk => by have := row_apart p5 FD0 (by decide) k hk; simp [Value.ownBlock] at this; omega)) (k := w.heap.size + 1 + 1) G3.lt (.int .i64 a.num) (.int .i64 b.num) (.slice x4 y4 z4) (.slice x5 y5 z5) (.slice xr yr zr)
            have q6 := row_five hrow (k := w.heap.size + 1 + 1) (by omega) (.int .i64 a.num) (.int .i64 b.num) (.slice x4 y4 z4) (.slice x5 y5 z5) (.slice xr yr zr)
            have pB := below_five hBB6 (k := w.heap.size + 1 + 1) (by omega) (.int .i64 a.num) (.int .i64 b.num) (.slice x4 y4 z4) (.slice x5 y5 z5) (.slice xr yr zr)
            go_wp2_with fail
            clear r0 r1 r2 r3 r4 f0 f1 f2 f3 f4 t0 t1 t2 t3 t4
            generalize (((((wr.setCell ⟨w.heap.size + 1 + 1, 0, none⟩ (.int .i64 a.num)).setCell ⟨w.heap.size + 1 + 1, 1, none⟩ (.int .i64 b.num)).setCell ⟨w.heap.size + 1 + 1, 2, none⟩ (.slice x4 y4 z4)).setCell ⟨w.heap.size + 1 + 1, 3, none⟩ (.slice x5 y5 z5)).setCell ⟨w.heap.size + 1 + 1, 4, none⟩ (.slice xr yr zr)) = W9 at *
            obtain ⟨d0, d1, d2, d3, d4⟩ := G.c
            exact bodyPost_ret (v := .tuple #[.agg #[.int .i64 a.num, .int .i64 b.num, .slice x4 y4 z4, .slice x5 y5 z5, .slice xr yr zr], .bool true]) (by simp [results, Tryz.results35, go_sem, d0, d1, d2, d3, d4]) rfl ⟨_, by rw [HR.out], by rw [HX.out]; exact ⟨_, _, _, rfl, Go.Joins.ownsRow_le q4 hBBd.size, Go.Joins.ownsRow_le q5 hBB4.size, Go.Joins.ownsRow_le q6 (Nat.le_trans hBB5.size (Nat.le_refl _)), fun k hk => (q4.lt k hk).2, fun k hk => (q5.lt k hk).2, fun k hk => (q6.lt k hk).2, hap⟩, pB⟩

end Go.Proofs.YthpckiobfjdckaaGreat

namespace Go.Proofs.YthpckiobfjdckaaGreat
open Go.RowKit Go.Shelf

theorem step_app_readS {P : Program} {w : World} {ops : Array Oper} {o : Oper} {a : Act} {K : Act → World → Prop} {Q : Exit → Act → World → Prop} {E : Prop} (hgd : o.guard = none) (s x : Operand) (t : TypeId)
    (ho : o.op = .call { callee := .builtin .append, args := #[s, x], argTypes := #[t, t] })
    (base : Nat) (e : TypeId) (i : TypeInfo) (z : Value) (size bytes : Nat) (ht : P.underlying t = some (.slice e)) (hi : P.info? e = some i) (hz : i.zero = some z)
    (hsize : i.size = size) (hby : i.bytes = bytes) (hzs : z.cells.size = size) (hsz : 0 < size)
    (v u : Value) (n m : Nat) (xs ys : List Value) (hs : a.eval s = v) (hown : w.ownsRow base e size v n xs) (hx : a.eval x = u)
    (hsrc : (u = .slice none 0 0 ∧ m = 0 ∧ ys = []) ∨ ∃ b off cap, u = .slice (some ⟨b, off, none⟩) m cap ∧ ys.length = m * size ∧ ∀ j y, ys[j]? = some y → w.cell? ⟨b, off + j, none⟩ = some y) (h1 : ∀ y ∈ ys, y.oneCell' = true)
    (h63 : n + m ≤ maxLen) (hbytes : (n + m) * bytes ≤ 140737488355328) (hbase : base ≤ w.heap.size)
    (h : ∀ v' w', w'.ownsRow base e size v' (n + m) (xs ++ ys) → w.grownBy w' v.ownBlock → K (a.put o.dst v') w') :
    if Region.wanted o (yielded ops a.tmps) = true then Oper.wp P o a w K Q else E := by
  have hw : Region.wanted o (yielded ops a.tmps) = true := by simp [Region.wanted, hgd]
  rw [if_pos hw]
  rcases hsrc with ⟨rfl, rfl, rfl⟩ | ⟨b, off, cap, rfl, hl, hc⟩
  · have hrun := run_append_owned_none (P := P) (w := w) base t o.type e i size ht hi v n xs hown
    unfold Oper.wp
    simp [execOp, ho, resolve, invoke, builtin, hs, hx, hrun, Result.andThen]
    exact h v w (by simpa using hown) (grown_self _ _)
  · exact wp_append_own w s x t ho base e i z size bytes ht hi hz hsize hby hzs hsz v n xs hs hown ⟨b, off, none⟩ m cap ys hx hl (fun j y hj => by rw [Addr.add_lit]; exact hc j y hj) h1 h63 hbytes hbase (fun v' w' h1 h2 _ => h v' w' h1 h2)
theorem nd_shortS {s : Sn} {d : Df} (hp : (rwL s d).length ≤ 60) (lf : ∀ r ∈ s.pol, r.size ≤ 1048576) (mg : ∀ r ∈ d.ad, r.size ≤ 1048576) (hq2 : s.rv.length + d.rv.length ≤ 1048576) : (ndS s d).short := by
  have h1 := plTo_len (rs := rwL s d) _ (Nat.le_refl _)
  have h2 := srN_len (s.rv ++ d.rv)
  rw [List.length_append] at h2
  refine ⟨by show (plTo (rwL s d) (rwL s d).length).length ≤ _; omega, by show (srN (s.rv ++ d.rv)).length ≤ _; omega, fun r hr => ?_⟩
  have hr' : r ∈ plTo (rwL s d) (rwL s d).length := hr
  rw [plTo_mem _ (Nat.le_refl _), List.take_length] at hr'
  unfold rwL at hr'
  rcases List.mem_append.1 hr' with h | h
  · exact lf r (woR_mem h)
  · exact mg r h
theorem df_shortS {a b : Sn} (ha : a.short) (hb : b.short) : (dfX a b).short := by
  obtain ⟨a1, a2, a3⟩ := ha
  obtain ⟨b1, b2, b3⟩ := hb
  unfold dfX
  split
  · have h1 := woR_len a.pol b.pol
    have h2 := woR_len b.pol a.pol
    have h3 := woN_len b.rv a.rv
    exact ⟨Nat.le_trans h1 a1, Nat.le_trans h2 b1, Nat.le_trans h3 b2, fun r hr => a3 r (woR_mem hr), fun r hr => b3 r (woR_mem hr)⟩
  · exact ⟨by simp [Df.none], by simp [Df.none], by simp [Df.none], fun r hr => by simp [Df.none] at hr, fun r hr => by simp [Df.none] at hr⟩
theorem apX_no {s : Sn} {d : Df} (h : apS s d = false) : apX s d = Sn.none := if_neg (by rw [h]; exact Bool.false_ne_true)
theorem apX_yes {s : Sn} {d : Df} (h : apS s d = true) : apX s d = ndS s d := if_pos h
theorem ap_no1 {s : Sn} {d : Df} (h : snB s = false) : apS s d = false := by unfold apS; rw [h]; rfl
theorem ap_no2 {s : Sn} {d : Df} (h : (s.num != d.fr) = true) : apS s d = false := by
  unfold apS
  have : (s.num == d.fr) = false := by
    rw [bne] at h
    cases hq : (s.num == d.fr)
    · rfl
    · rw [hq] at h; cases h
  rw [this]
  simp
theorem ap_no3 {s : Sn} {d : Df} (h : decide ((30 : Int) < (d.dr.length : Int)) = true) : apS s d = false := by
  unfold apS
  rw [decide_eq_false (p := d.dr.length ≤ 30) (by have := of_decide_eq_true h; omega)]
  simp
theorem ap_no4 {s : Sn} {d : Df} (h : decide ((30 : Int) < (d.ad.length : Int)) = true) : apS s d = false := by
  unfold apS
  rw [decide_eq_false (p := d.ad.length ≤ 30) (by have := of_decide_eq_true h; omega)]
  simp
theorem ap_no5 {s : Sn} {d : Df} (h : decide ((200 : Int) < (d.rv.length : Int)) = true) : apS s d = false := by
  unfold apS
  rw [decide_eq_false (p := d.rv.length ≤ 200) (by have := of_decide_eq_true h; omega)]
  simp
theorem ap_all {s : Sn} {d : Df} (h1 : snB s = true) (h2 : (s.num != d.fr) = false) (h3 : decide ((30 : Int) < (d.dr.length : Int)) = false) (h4 : decide ((30 : Int) < (d.ad.length : Int)) = false) (h5 : decide ((200 : Int) < (d.rv.length : Int)) = false) : (snB s && ((s.num == d.fr) && (decide (d.dr.length ≤ 30) && (decide (d.ad.length ≤ 30) && decide (d.rv.length ≤ 200))))) = true := by
  have : (s.num == d.fr) = true := by
    rw [bne] at h2
    cases hq : (s.num == d.fr)
    · rw [hq] at h2; cases h2
    · rfl
  rw [h1, this, decide_eq_true (p := d.dr.length ≤ 30) (by have := of_decide_eq_false h3; omega), decide_eq_true (p := d.ad.length ≤ 30) (by have := of_decide_eq_false h4; omega), decide_eq_true (p := d.rv.length ≤ 200) (by have := of_decide_eq_false h5; omega)]
  rfl
theorem bne_no {a b : Int} (h : (a != b) = true) : (a == b) = false := by
  rw [bne] at h
  cases hq : (a == b)
  · rfl
  · rw [hq] at h; cases h
theorem bne_yes {a b : Int} (h : (a != b) = false) : (a == b) = true := by
  rw [bne] at h
  cases hq : (a == b)
  · rw [hq] at h; cases h
  · rfl
/-- Numbers alike, up to k. -/
def eqNT (a b : List Int) (k : Nat) : Bool := ((a.zip b).take k).all (fun q => q.1 == q.2)
theorem eqNT_zero (a b : List Int) : eqNT a b 0 = true := by simp [eqNT]
theorem eqNT_succ {a b : List Int} {k : Nat} (h : k < a.length) (h' : k < b.length) : eqNT a b (k + 1) = (eqNT a b k && (a[k] == b[k])) := by
  unfold eqNT
  rw [List.take_succ_eq_append_getElem (by rw [List.length_zip]; omega), List.all_append]
  simp
theorem eqNT_end {a b : List Int} (hl : a.length = b.length) (h : eqNT a b a.length = true) : (a == b) = true := by
  unfold eqNT at h
  rw [List.take_of_length_le (by rw [List.length_zip]; omega), List.all_eq_true] at h
  refine beq_iff_eq.2 (List.ext_getElem hl (fun i h1 h2 => ?_))
  have hm := h _ (List.getElem_mem (show i < (a.zip b).length by rw [List.length_zip]; omega))
  rw [List.getElem_zip] at hm
  exact eq_of_beq hm
theorem eqN_no {a b : List Int} {k : Nat} (h : k < a.length) (h' : k < b.length) (hn : (a[k] != b[k]) = true) : (a == b) = false := by
  refine beq_eq_false_iff_ne.2 (fun e => ?_)
  subst e
  simp at hn
theorem eqN_len {a b : List Int} (h : ((a.length : Int) != (b.length : Int)) = true) : (a == b) = false := by
  refine beq_eq_false_iff_ne.2 (fun e => ?_)
  subst e
  simp at h

set_option maxHeartbeats 4000000 in
set_option maxRecDepth 100000 in
theorem l5SameDiff_any (va vb : Value) (a b : Df) (w : World) (hsa : a.short) (hsb : b.short) (ha : DfA w va a) (hb : DfA w vb b) :
    Calls Tryz.prog 36 #[va, vb] w fun e w' => e = .returned (.bool (sameD a b)) ∧ Below w.heap.size w w' := by
  obtain ⟨vd, vad, vr, rfl, h1, h2, h3⟩ := ha
  obtain ⟨vd', vad', vr', rfl, k1, k2, k3⟩ := hb
  obtain ⟨l1, l2, l3, _, _⟩ := hsa
  obtain ⟨m1, m2, m3, _, _⟩ := hsb
  obtain ⟨a1, c1, rfl⟩ := h1.len
  obtain ⟨a2, c2, rfl⟩ := h2.len
  obtain ⟨a3, c3, rfl⟩ := h3.numLen
  obtain ⟨b1, d1, rfl⟩ := k1.len
  obtain ⟨b2, d2, rfl⟩ := k2.len
  obtain ⟨b3, d3, rfl⟩ := k3.numLen
  have hBB : Below w.heap.size w ((w.alloc (.cells #[.int .i64 a.fr, .int .i64 a.tt, .slice a1 a.dr.length c1, .slice a2 a.ad.length c2, .slice a3 a.rv.length c3] 37)).alloc (.cells #[.int .i64 b.fr, .int .i64 b.tt, .slice b1 b.dr.length d1, .slice b2 b.ad.length d2, .slice b3 b.rv.length d3] 37)) := ((Below.refl _ w).alloc (Nat.le_refl _) _).alloc (by simp) _
  have F1 := (Five.new w (.int .i64 a.fr) (.int .i64 a.tt) (.slice a1 a.dr.length c1) (.slice a2 a.ad.length c2) (.slice a3 a.rv.length c3) 37).below ((Below.refl _ _).alloc (Nat.le_refl _) (.cells #[.int .i64 b.fr, .int .i64 b.tt, .slice b1 b.dr.length d1, .slice b2 b.ad.length d2, .slice b3 b.rv.length d3] 37))
  have F2 := Five.at (w.alloc (.cells #[.int .i64 a.fr, .int .i64 a.tt, .slice a1 a.dr.length c1, .slice a2 a.ad.length c2, .slice a3 a.rv.length c3] 37)) (.int .i64 b.fr) (.int .i64 b.tt) (.slice b1 b.dr.length d1) (.slice b2 b.ad.length d2) (.slice b3 b.rv.length d3) 37 (k := w.heap.size + 1) (by simp)
  obtain ⟨r0, r1, r2, r3, r4⟩ := F1.c
  obtain ⟨s0, s1, s2, s3, s4⟩ := F2.c
  go_enter Tryz.func36, Tryz.ntmps36
  go_upto_region 1 with fail
  generalize (w.alloc (.cells #[.int .i64 a.fr, .int .i64 a.tt, .slice a1 a.dr.length c1, .slice a2 a.ad.length c2, .slice a3 a.rv.length c3] 37)).alloc (.cells #[.int .i64 b.fr, .int .i64 b.tt, .slice b1 b.dr.length d1, .slice b2 b.ad.length d2, .slice b3 b.rv.length d3] 37) = W0 at *
  cases e1 : (a.fr != b.fr)
  case true =>
    have HR := hid (show sameD a b = false from by unfold sameD; rw [show (a.fr == b.fr) = false from bne_no e1]; simp)
    go_wp2_with fail
    go_ret
    exact ⟨ret_bool HR.out.symm, hBB⟩
  cases e2 : (a.tt != b.tt)
  case true =>
    have HR := hid (show sameD a b = false from by unfold sameD; rw [show (a.tt == b.tt) = false from bne_no e2]; simp)
    go_wp2_with fail
    go_ret
    exact ⟨ret_bool HR.out.symm, hBB⟩
  go_wp2_with fail
  refine (l5SameRules_any _ _ a.dr b.dr _ (by omega) (by omega) (h1.below hBB) (k1.below hBB)).mono ?_
  rintro e w1 ⟨rfl, hB1⟩
  replace F1 := F1.below hB1
  replace F2 := F2.below hB1
  replace hBB := below_one hBB hB1
  clear hB1 r0 r1 r2 r3 r4 s0 s1 s2 s3 s4
  obtain ⟨r0, r1, r2, r3, r4⟩ := F1.c
  obtain ⟨s0, s1, s2, s3, s4⟩ := F2.c
  cases e3 : sameS a.dr b.dr
  case false =>
    have HR := hid (show sameD a b = false from by unfold sameD; rw [e3]; simp)
    go_wp2_with fail
    go_ret
    exact ⟨ret_bool HR.out.symm, hBB⟩
  go_wp2_with fail
  refine (l5SameRules_any _ _ a.ad b.ad _ (by omega) (by omega) (h2.below hBB) (k2.below hBB)).mono ?_
  rintro e w2 ⟨rfl, hB2⟩
  replace F1 := F1.below hB2
  replace F2 := F2.below hB2
  replace hBB := below_one hBB hB2
  clear hB2 r0 r1 r2 r3 r4 s0 s1 s2 s3 s4
  obtain ⟨r0, r1, r2, r3, r4⟩ := F1.c
  obtain ⟨s0, s1, s2, s3, s4⟩ := F2.c
  cases e4 : sameS a.ad b.ad
  case false =>
    have HR := hid (show sameD a b = false from by unfold sameD; rw [e4]; simp)
    go_wp2_with fail
    go_ret
    exact ⟨ret_bool HR.out.symm, hBB⟩
  cases e5 : ((a.rv.length : Int) != (b.rv.length : Int))
  case true =>
    have HR := hid (show sameD a b = false from by unfold sameD; rw [eqN_len e5]; simp)
    go_wp2_with fail
    go_ret
    exact ⟨ret_bool HR.out.symm, hBB⟩
  have HL := hid (show a.rv.length = b.rv.length by rw [bne] at e5; cases hq : ((a.rv.length : Int) == (b.rv.length : Int)); · rw [hq] at e5; cases e5
                                                    · have := eq_of_beq hq; omega)
  have hle : a.rv.length ≤ b.rv.length := by have := HL.out; omega
  have HE := hid (show sameD a b = (a.rv == b.rv) by unfold sameD; rw [show (a.fr == b.fr) = true from bne_yes e1, show (a.tt == b.tt) = true from bne_yes e2, e3, e4]; simp)
  go_wp2_with fail
  clear r0 r1 r2 r3 r4 s0 s1 s2 s3 s4
  go_loopw [46] (fun i wr => ∃ k : Nat, k ≤ a.rv.length ∧ i = .int .i64 k ∧ eqNT a.rv b.rv k = true ∧ Below w2.heap.size w2 wr) (fun i _ => a.rv.length - (intOf i).toNat)
  case atStart => exact ⟨0, Nat.zero_le _, rfl, eqNT_zero _ _, Below.refl _ _⟩
  case round =>
    obtain ⟨k, hk, rfl, ht, hB⟩ := hrel
    have HT := hid ht
    clear ht
    have hBr := below_one hBB hB
    obtain ⟨r0, r1, r2, r3, r4⟩ := (F1.below hB).c
    obtain ⟨s0, s1, s2, s3, s4⟩ := (F2.below hB).c
    by_cases hlt : k < a.rv.length
    · have hlt' : k < b.rv.length := by omega
      obtain ⟨x, off, rfl, hx, hcx, q0⟩ := (h3.below hBr).num hlt
      obtain ⟨y, off', rfl, hy, hcy, q1⟩ := (k3.below hBr).num hlt'
      have HS := hid (eqNT_succ hlt hlt')
      have HN := hid (fun h => eqN_no hlt hlt' h)
      generalize a.rv[k] = za at *
      generalize b.rv[k] = zb at *
      cases hq : (za != zb)
      · have HR := hid (show eqNT a.rv b.rv (k + 1) = true by rw [HS.out, HT.out]; rw [bne] at hq; cases hz : (za == zb); · rw [hz] at hq; cases hq
                                                              · rfl)
        go_wp2_with fail
        go_quiet (fail)
        go_wp2
        go_roundw
        case rel => first | exact ⟨k + 1, by omega, by go_num, HR.out, below_drewn hB _⟩ | ((repeat apply Exists.intro); exact ⟨⟨k + 1, by omega, by go_num, HR.out, below_drewn hB _⟩, rfl⟩)
        case measure => simp [intOf]; omega
      · have HR := hid (show sameD a b = false by rw [HE.out]; exact HN.out hq)
        go_wp2_with fail
        go_quiet (fail)
        go_wp2
        go_ret
        exact ⟨ret_bool HR.out.symm, below_drewn hBr _⟩
    · obtain rfl : k = a.rv.length := by omega
      have HR := hid (show sameD a b = true by rw [HE.out]; exact eqNT_end HL.out HT.out)
      go_wp2
      go_ret
      exact ⟨ret_bool HR.out.symm, hBr⟩

set_option maxHeartbeats 16000000 in
set_option maxRecDepth 100000 in
theorem specApply_any (v u : Value) (s : Sn) (d : Df) (w : World) (hs : s.short) (hd : d.short) (ha : SnR w v s) (hb : DfR w u d) :
    Calls Tryz.prog 8 #[v, u] w fun e w' => ∃ v', e = .returned (.tuple #[v', .bool (apS s d)]) ∧ SnO w' w.heap.size w'.heap.size v' (apX s d) ∧ Below w.heap.size w w' := by
  have hs' := hs
  have hd' := hd
  have ha' := ha
  have hb' := hb
  obtain ⟨vp, vr, rfl, h1, h2⟩ := ha
  obtain ⟨vd, va, vz, rfl, k1, k2, k3⟩ := hb
  obtain ⟨l1, l2, lf⟩ := hs
  obtain ⟨m1, m2, m3, mf, mg⟩ := hd
  obtain ⟨ap, cp, rfl⟩ := h1.len
  obtain ⟨ar, cr, rfl⟩ := h2.len
  obtain ⟨bd, cd, rfl⟩ := k1.len
  obtain ⟨ba, ca, rfl⟩ := k2.len
  obtain ⟨bz, cz, rfl⟩ := k3.len
  obtain ⟨i0, hi, hz0, hz1, hz2⟩ := info_parts infoRule
  obtain ⟨ii, hii, hi0, hi1, hi2⟩ := info_parts infoInt
  have hBB : Below w.heap.size w (((w.alloc (.cells #[.int .i64 s.num, .slice ap s.pol.length cp, .slice ar s.rv.length cr] 32)).alloc (.cells #[.int .i64 d.fr, .int .i64 d.tt, .slice bd d.dr.length cd, .slice ba d.ad.length ca, .slice bz d.rv.length cz] 37)).alloc (.cells #[.int .i64 0, .slice none 0 0, .slice none 0 0] 32)) := (((Below.refl _ w).alloc (Nat.le_refl _) _).alloc (by simp) _).alloc (by simp; omega) _
  have F1 := ((Three.new w (.int .i64 s.num) (.slice ap s.pol.length cp) (.slice ar s.rv.length cr) 32).below ((Below.refl _ _).alloc (Nat.le_refl _) (.cells #[.int .i64 d.fr, .int .i64 d.tt, .slice bd d.dr.length cd, .slice ba d.ad.length ca, .slice bz d.rv.length cz] 37))).below ((Below.refl _ _).alloc (Nat.le_refl _) (.cells #[.int .i64 0, .slice none 0 0, .slice none 0 0] 32))
  have F2 := (Five.at (w.alloc (.cells #[.int .i64 s.num, .slice ap s.pol.length cp, .slice ar s.rv.length cr] 32)) (.int .i64 d.fr) (.int .i64 d.tt) (.slice bd d.dr.length cd) (.slice ba d.ad.length ca) (.slice bz d.rv.length cz) 37 (k := w.heap.size + 1) (by simp)).below ((Below.refl _ _).alloc (Nat.le_refl _) (.cells #[.int .i64 0, .slice none 0 0, .slice none 0 0] 32))
  have F3 := Three.at ((w.alloc (.cells #[.int .i64 s.num, .slice ap s.pol.length cp, .slice ar s.rv.length cr] 32)).alloc (.cells #[.int .i64 d.fr, .int .i64 d.tt, .slice bd d.dr.length cd, .slice ba d.ad.length ca, .slice bz d.rv.length cz] 37)) (.int .i64 0) (.slice none 0 0) (.slice none 0 0) 32 (k := w.heap.size + 1 + 1) (by simp)
  go_enter Tryz.func8, Tryz.ntmps8
  go_wp2_with fail
  generalize ((w.alloc (.cells #[.int .i64 s.num, .slice ap s.pol.length cp, .slice ar s.rv.length cr] 32)).alloc (.cells #[.int .i64 d.fr, .int .i64 d.tt, .slice bd d.dr.length cd, .slice ba d.ad.length ca, .slice bz d.rv.length cz] 37)).alloc (.cells #[.int .i64 0, .slice none 0 0, .slice none 0 0] 32) = W0 at *
  refine (specGoodSnapshot_any _ s _ hs' (ha'.below hBB).a).mono ?_
  rintro e w1 ⟨rfl, hB1⟩
  replace F1 := F1.below hB1
  replace F2 := F2.below hB1
  replace F3 := F3.below hB1
  replace hBB := below_one hBB hB1
  clear hB1
  obtain ⟨a0, a1, a2⟩ := F1.c
  obtain ⟨c0, c1, c2, c3, c4⟩ := F2.c
  cases hg : snB s
  · have HT := hid (ap_no1 (d := d) hg)
    have HX := hid (apX_no HT.out)
    obtain ⟨r0, r1, r2⟩ := F3.c
    have f0 := F3.f 0
    have f1 := F3.f 1
    have f2 := F3.f 2
    have G := ((F3.s0 (.int .i64 0)).s1 (.slice none 0 0)).s2 (.slice none 0 0)
    have pB := below_three hBB (k := w.heap.size + 1 + 1) (by omega) (.int .i64 0) (.slice none 0 0) (.slice none 0 0)
    go_wp2_with fail
    clear r0 r1 r2 f0 f1 f2
    generalize ((w1.setCell ⟨w.heap.size + 1 + 1, 0, none⟩ (.int .i64 0)).setCell ⟨w.heap.size + 1 + 1, 1, none⟩ (.slice none 0 0)).setCell ⟨w.heap.size + 1 + 1, 2, none⟩ (.slice none 0 0) = W9 at *
    obtain ⟨d0, d1, d2⟩ := G.c
    exact bodyPost_ret (v := .tuple #[.agg #[.int .i64 0, .slice none 0 0, .slice none 0 0], .bool false]) (by simp [results, Tryz.results8, go_sem, d0, d1, d2]) rfl ⟨_, by rw [HT.out], by rw [HX.out]; exact SnO.none _ _ _, pB⟩
  cases e2 : (s.num != d.fr)
  case true =>
    have HT := hid (ap_no2 (s := s) e2)
    have HX := hid (apX_no HT.out)
    obtain ⟨r0, r1, r2⟩ := F3.c
    have f0 := F3.f 0
    have f1 := F3.f 1
    have f2 := F3.f 2
    have G := ((F3.s0 (.int .i64 0)).s1 (.slice none 0 0)).s2 (.slice none 0 0)
    have pB := below_three hBB (k := w.heap.size + 1 + 1) (by omega) (.int .i64 0) (.slice none 0 0) (.slice none 0 0)
    go_wp2_with fail
    clear r0 r1 r2 f0 f1 f2
    generalize ((w1.setCell ⟨w.heap.size + 1 + 1, 0, none⟩ (.int .i64 0)).setCell ⟨w.heap.size + 1 + 1, 1, none⟩ (.slice none 0 0)).setCell ⟨w.heap.size + 1 + 1, 2, none⟩ (.slice none 0 0) = W9 at *
    obtain ⟨d0, d1, d2⟩ := G.c
    exact bodyPost_ret (v := .tuple #[.agg #[.int .i64 0, .slice none 0 0, .slice none 0 0], .bool false]) (by simp [results, Tryz.results8, go_sem, d0, d1, d2]) rfl ⟨_, by rw [HT.out], by rw [HX.out]; exact SnO.none _ _ _, pB⟩
  cases e3 : decide ((30 : Int) < (d.dr.length : Int))
  case true =>
    have HT := hid (ap_no3 (s := s) e3)
    have HX := hid (apX_no HT.out)
    obtain ⟨r0, r1, r2⟩ := F3.c
    have f0 := F3.f 0
    have f1 := F3.f 1
    have f2 := F3.f 2
    have G := ((F3.s0 (.int .i64 0)).s1 (.slice none 0 0)).s2 (.slice none 0 0)
    have pB := below_three hBB (k := w.heap.size + 1 + 1) (by omega) (.int .i64 0) (.slice none 0 0) (.slice none 0 0)
    go_wp2_with fail
    clear r0 r1 r2 f0 f1 f2
    generalize ((w1.setCell ⟨w.heap.size + 1 + 1, 0, none⟩ (.int .i64 0)).setCell ⟨w.heap.size + 1 + 1, 1, none⟩ (.slice none 0 0)).setCell ⟨w.heap.size + 1 + 1, 2, none⟩ (.slice none 0 0) = W9 at *
    obtain ⟨d0, d1, d2⟩ := G.c
    exact bodyPost_ret (v := .tuple #[.agg #[.int .i64 0, .slice none 0 0, .slice none 0 0], .bool false]) (by simp [results, Tryz.results8, go_sem, d0, d1, d2]) rfl ⟨_, by rw [HT.out], by rw [HX.out]; exact SnO.none _ _ _, pB⟩
  cases e4 : decide ((30 : Int) < (d.ad.length : Int))
  case true =>
    have HT := hid (ap_no4 (s := s) e4)
    have HX := hid (apX_no HT.out)
    obtain ⟨r0, r1, r2⟩ := F3.c
    have f0 := F3.f 0
    have f1 := F3.f 1
    have f2 := F3.f 2
    have G := ((F3.s0 (.int .i64 0)).s1 (.slice none 0 0)).s2 (.slice none 0 0)
    have pB := below_three hBB (k := w.heap.size + 1 + 1) (by omega) (.int .i64 0) (.slice none 0 0) (.slice none 0 0)
    go_wp2_with fail
    clear r0 r1 r2 f0 f1 f2
    generalize ((w1.setCell ⟨w.heap.size + 1 + 1, 0, none⟩ (.int .i64 0)).setCell ⟨w.heap.size + 1 + 1, 1, none⟩ (.slice none 0 0)).setCell ⟨w.heap.size + 1 + 1, 2, none⟩ (.slice none 0 0) = W9 at *
    obtain ⟨d0, d1, d2⟩ := G.c
    exact bodyPost_ret (v := .tuple #[.agg #[.int .i64 0, .slice none 0 0, .slice none 0 0], .bool false]) (by simp [results, Tryz.results8, go_sem, d0, d1, d2]) rfl ⟨_, by rw [HT.out], by rw [HX.out]; exact SnO.none _ _ _, pB⟩
  cases e5 : decide ((200 : Int) < (d.rv.length : Int))
  case true =>
    have HT := hid (ap_no5 (s := s) e5)
    have HX := hid (apX_no HT.out)
    obtain ⟨r0, r1, r2⟩ := F3.c
    have f0 := F3.f 0
    have f1 := F3.f 1
    have f2 := F3.f 2
    have G := ((F3.s0 (.int .i64 0)).s1 (.slice none 0 0)).s2 (.slice none 0 0)
    have pB := below_three hBB (k := w.heap.size + 1 + 1) (by omega) (.int .i64 0) (.slice none 0 0) (.slice none 0 0)
    go_wp2_with fail
    clear r0 r1 r2 f0 f1 f2
    generalize ((w1.setCell ⟨w.heap.size + 1 + 1, 0, none⟩ (.int .i64 0)).setCell ⟨w.heap.size + 1 + 1, 1, none⟩ (.slice none 0 0)).setCell ⟨w.heap.size + 1 + 1, 2, none⟩ (.slice none 0 0) = W9 at *
    obtain ⟨d0, d1, d2⟩ := G.c
    exact bodyPost_ret (v := .tuple #[.agg #[.int .i64 0, .slice none 0 0, .slice none 0 0], .bool false]) (by simp [results, Tryz.results8, go_sem, d0, d1, d2]) rfl ⟨_, by rw [HT.out], by rw [HX.out]; exact SnO.none _ _ _, pB⟩
  have HP1 := hid (ap_all hg e2 e3 e4 e5)
  have hq3 : d.dr.length ≤ 30 := by have := of_decide_eq_false e3; omega
  have hq4 : d.ad.length ≤ 30 := by have := of_decide_eq_false e4; omega
  have hq5 : d.rv.length ≤ 200 := by have := of_decide_eq_false e5; omega
  have hq1 := (pol_all (snB_parts hg).2.1).2
  have hq2 := fewB_len (snB_parts hg).2.2.2.1
  have hk3 : w.heap.size + 1 + 1 < w1.heap.size := F3.lt
  have hBx : Below w1.heap.size w1 (w1.alloc (.cells #[.int .i64 d.tt, .slice none 0 0, .slice none 0 0] 32)) := (Below.refl _ w1).alloc (Nat.le_refl _) _
  have FD0 := Three.new w1 (.int .i64 d.tt) (.slice none 0 0) (.slice none 0 0) 32
  have P1 := F1.below hBx
  have P2 := F2.below hBx
  have P3 := F3.below hBx
  have hBB5 := below_one hBB hBx
  have hzd := FD0.lt
  obtain ⟨t0, t1, t2⟩ := P1.c
  go_wp2_with fail
  clear hBx F1 F2 F3 hBB a0 a1 a2 c0 c1 c2 c3 c4 t0 t1 t2 hg e2 e3 e4 e5
  generalize w1.alloc (.cells #[.int .i64 d.tt, .slice none 0 0, .slice none 0 0] 32) = W2 at *
  generalize w1.heap.size = kx at *
  have hbd := hBB5.size
  go_loopw [46] (fun i wr => ∃ (k : Nat) (pv : Value), k ≤ s.pol.length ∧ i = .int .i64 k ∧ Three wr 32 kx (.int .i64 d.tt) pv (.slice none 0 0) ∧ wr.ownsRow W2.heap.size 63 4 pv (woRT s.pol d.dr k).length ((woRT s.pol d.dr k).flatMap Ru.cells) ∧ Mid kx (kx + 1) W2 wr) (fun i _ => s.pol.length - (intOf i).toNat)
  case atStart => exact ⟨0, .slice none 0 0, Nat.zero_le _, rfl, FD0, by rw [woRT_zero]; exact World.ownsRow_nil _ _ _ _, Mid.of_below (Below.refl _ _)⟩
  case round =>
    obtain ⟨k, pv, hk, rfl, FD, hrow, hM⟩ := hrel
    have hl1 := woRT_len s.pol d.dr k
    have hBB6 := hBB5.trans (hM.below (n := w.heap.size) (by omega) hBB5.size)
    have J1 := hM.three P1 (.inl (by omega))
    have J2 := hM.five P2 (.inl (by omega))
    have J3 := hM.three P3 (.inl (by omega))
    have hz6 := hM.size
    obtain ⟨c0, c1, c2, c3, c4⟩ := J2.c
    by_cases hl : k < s.pol.length
    · obtain ⟨b, off, rfl, hb, hcap, q0, q1, q2, q3⟩ := (h1.s.below hBB6).at hl
      have HY := hid (fun h => woRT_yes (b := d.dr) hl h)
      have HN := hid (fun h => woRT_no (b := d.dr) hl h)
      generalize s.pol[k] = r at *
      have hBw : Below wr.heap.size wr (wr.alloc (.cells #[.bool r.deny, .string r.who, .string r.method, .string r.path] 63)) := (Below.refl _ wr).alloc (Nat.le_refl _) _
      have F := Four.new wr (.bool r.deny) (.string r.who) (.string r.method) (.string r.path) 63
      replace FD := FD.below hBw
      replace hrow := ownsRow_below hrow hBw
      replace hM := hM.trans (Mid.of_below hBw)
      have hBB7 := below_one hBB6 hBw
      have hzw := hBw.size
      have hfl := J2.lt
      clear hBw
      cases hq : hasR d.dr r
      · have HR := hid (HN.out hq)
        clear HN HY
        generalize woRT s.pol d.dr k = l at *
        rcases row_form hrow with ⟨rfl, hl0⟩ | ⟨go, capo, rfl, hgo, hcapo⟩
        · obtain rfl : l = [] := List.eq_nil_of_length_eq_zero hl0
          go_wp2_with fail
          clear q0 q1 q2 q3 c0 c1 c2 c3 c4
          generalize wr.alloc (.cells #[.bool r.deny, .string r.who, .string r.method, .string r.path] 63) = Wr at *
          refine (l5HasRule_any (.slice bd d.dr.length cd) d.dr r _ (by omega) (k1.s.below hBB7)).mono ?_
          rintro e w6 ⟨rfl, hB6⟩
          rw [hq]
          replace F := F.below hB6
          replace FD := FD.below hB6
          replace hrow := ownsRow_below hrow hB6
          replace hM := hM.trans (Mid.of_below hB6)
          have hz6' := hB6.size
          clear hB6
          obtain ⟨c0, c1, c2, c3⟩ := F.c
          obtain ⟨r0, r1, r2⟩ := FD.c
          go_wp2_with (at_builtin; refine wpList_append_own _ rfl _ _ 30 rfl W2.heap.size 63 i0 _ 4 56 Tryz.underlying30 hi hz0 hz1 hz2 rfl (by decide) _ _ _ rfl (hrow.alloc _) ⟨w6.heap.size, 0, none⟩ 1 1 r.cells rfl rfl (cell_four_w w6 r) (by intro u hu; simp at hu; rcases hu with rfl | rfl | rfl | rfl <;> rfl) (by unfold maxLen; first | omega | (simp <;> omega)) (by first | omega | (simp <;> omega)) (by first | omega | (simp <;> omega)) ?_; intro u' w7 hown' hgrow _; have FD7 : Three w7 _ _ _ _ _ := kept_apart (FD.below ((Below.refl _ w6).alloc (Nat.le_refl _) _)) hgrow (fun k h1 h2 => by have := (hrow.lt k h2).1; simp [Value.ownBlock] at h1; omega); obtain ⟨e0, e1, e2⟩ := FD7.c; have g1 := FD7.f 1; obtain ⟨g', cap3, rfl⟩ := ownsRow_succ hown')
          go_roundw
          case rel =>
            refine ⟨k + 1, _, by omega, by go_num, FD7.s1 _, ?_, ((hM.trans (Mid.of_below ((Below.refl _ w6).alloc (Nat.le_refl _) _))).app hgrow (fun k hk => (hrow.lt k hk).1)).set (p := ⟨kx, 1, none⟩) (Nat.le_refl _) (Nat.lt_succ_self _) _⟩
            rw [HR.out, List.flatMap_append]
            exact ownsRow_setCell_below (by simpa using hown') (a := ⟨kx, 1, none⟩) hzd _
          case measure => simp [intOf]; omega
        · go_wp2_with fail
          clear q0 q1 q2 q3 c0 c1 c2 c3 c4
          generalize wr.alloc (.cells #[.bool r.deny, .string r.who, .string r.method, .string r.path] 63) = Wr at *
          refine (l5HasRule_any (.slice bd d.dr.length cd) d.dr r _ (by omega) (k1.s.below hBB7)).mono ?_
          rintro e w6 ⟨rfl, hB6⟩
          rw [hq]
          replace F := F.below hB6
          replace FD := FD.below hB6
          replace hrow := ownsRow_below hrow hB6
          replace hM := hM.trans (Mid.of_below hB6)
          have hz6' := hB6.size
          clear hB6
          obtain ⟨c0, c1, c2, c3⟩ := F.c
          obtain ⟨r0, r1, r2⟩ := FD.c
          go_wp2_with (at_builtin; refine wpList_append_own _ rfl _ _ 30 rfl W2.heap.size 63 i0 _ 4 56 Tryz.underlying30 hi hz0 hz1 hz2 rfl (by decide) _ _ _ rfl (hrow.alloc _) ⟨w6.heap.size, 0, none⟩ 1 1 r.cells rfl rfl (cell_four_w w6 r) (by intro u hu; simp at hu; rcases hu with rfl | rfl | rfl | rfl <;> rfl) (by unfold maxLen; first | omega | (simp <;> omega)) (by first | omega | (simp <;> omega)) (by first | omega | (simp <;> omega)) ?_; intro u' w7 hown' hgrow _; have FD7 : Three w7 _ _ _ _ _ := kept_apart (FD.below ((Below.refl _ w6).alloc (Nat.le_refl _) _)) hgrow (fun k h1 h2 => by have := (hrow.lt k h2).1; simp [Value.ownBlock] at h1; omega); obtain ⟨e0, e1, e2⟩ := FD7.c; have g1 := FD7.f 1; obtain ⟨g', cap3, rfl⟩ := ownsRow_succ hown')
          go_roundw
          case rel =>
            refine ⟨k + 1, _, by omega, by go_num, FD7.s1 _, ?_, ((hM.trans (Mid.of_below ((Below.refl _ w6).alloc (Nat.le_refl _) _))).app hgrow (fun k hk => (hrow.lt k hk).1)).set (p := ⟨kx, 1, none⟩) (Nat.le_refl _) (Nat.lt_succ_self _) _⟩
            rw [HR.out, List.flatMap_append]
            exact ownsRow_setCell_below (by simpa using hown') (a := ⟨kx, 1, none⟩) hzd _
          case measure => simp [intOf]; omega
      · have HR := hid (HY.out hq)
        clear HN HY
        go_wp2_with fail
        clear q0 q1 q2 q3 c0 c1 c2 c3 c4
        generalize wr.alloc (.cells #[.bool r.deny, .string r.who, .string r.method, .string r.path] 63) = Wr at *
        refine (l5HasRule_any (.slice bd d.dr.length cd) d.dr r _ (by omega) (k1.s.below hBB7)).mono ?_
        rintro e w6 ⟨rfl, hB6⟩
        rw [hq]
        replace F := F.below hB6
        replace FD := FD.below hB6
        replace hrow := ownsRow_below hrow hB6
        replace hM := hM.trans (Mid.of_below hB6)
        have hz6' := hB6.size
        clear hB6
        obtain ⟨c0, c1, c2, c3⟩ := F.c
        obtain ⟨r0, r1, r2⟩ := FD.c
        go_wp2_with fail
        go_roundw
        case rel => exact ⟨k + 1, pv, by omega, by go_num, FD, by rw [HR.out]; exact hrow, hM⟩
        case measure => simp [intOf]; omega
    · obtain rfl : k = s.pol.length := by omega
      rw [woRT_end] at hrow
      obtain ⟨xr, yr, zr, rfl⟩ := row_slice hrow
      obtain ⟨r0, r1, r2⟩ := FD.c
      have hwl := woR_len s.pol d.dr
      have hap : ∀ k, (Value.slice xr yr zr).ownBlock = some k → W2.heap.size ≤ k := fun k e => (hrow.lt k e).1
      go_wp2_with (at_builtin; refine wpList_append_read rfl _ _ 30 rfl W2.heap.size 63 i0 _ 4 56 Tryz.underlying30 hi hz0 hz1 hz2 rfl (by decide) _ _ _ d.ad.length _ (d.ad.flatMap Ru.cells) rfl hrow rfl (k2.below hBB6).src cells_one (by unfold maxLen; omega) (by omega) hz6 ?_)
      intro v7 w7 o7 g7
      have FDa : Three w7 _ _ _ _ _ := kept_apart FD g7 (fun k e1 e2 => by have := hap k e2; simp [Value.ownBlock] at e1; omega)
      have F1 : Three w7 _ _ _ _ _ := kept_apart J1 g7 (fun k e1 e2 => by have := hap k e2; simp [Value.ownBlock] at e1; omega)
      have F2 : Five w7 _ _ _ _ _ _ _ := kept_apart J2 g7 (fun k e1 e2 => by have := hap k e2; simp [Value.ownBlock] at e1; omega)
      have F3 : Three w7 _ _ _ _ _ := kept_apart J3 g7 (fun k e1 e2 => by have := hap k e2; simp [Value.ownBlock] at e1; omega)
      have hBB : Below w.heap.size w w7 := hBB6.grown g7 hBB6.size (fun k e => by have := hap k e; omega)
      have hrw : RuR w7 v7 (rwL s d) := RuR.own (base := W2.heap.size) (by unfold rwL; rw [List.length_append, List.flatMap_append]; exact o7)
      have hlr : (rwL s d).length ≤ 60 := by unfold rwL; rw [List.length_append]; omega
      have hfr : ∀ r ∈ rwL s d, r.size ≤ 1048576 := fun r hr => by
        unfold rwL at hr
        rcases List.mem_append.1 hr with h | h
        · exact lf r (woR_mem h)
        · exact mg r h
      have hz7 := g7.size
      obtain ⟨xq, yq, zq, rfl⟩ := row_slice o7
      clear FD J1 J2 J3 hBB6 hrow g7 o7 r0 r1 r2 c0 c1 c2 c3 c4 hM
      obtain ⟨r0, r1, r2⟩ := FDa.c
      go_wp2_with fail
      refine (l2PlainW_any _ (rwL s d) _ hlr hfr hrw.s).mono ?_
      rintro e w8 ⟨v8, rfl, o6, hB8⟩
      obtain ⟨x6, y6, z6, rfl⟩ := row_slice o6
      replace FDa := FDa.below hB8
      replace F1 := F1.below hB8
      replace F2 := F2.below hB8
      replace F3 := F3.below hB8
      replace hBB := below_one hBB hB8
      have hz8 := hB8.size
      clear hB8 hrw r0 r1 r2
      obtain ⟨r0, r1, r2⟩ := FDa.c
      have f1 := FDa.f 1
      have m1 : w.heap.size ≠ kx := by omega
      have m2 : w.heap.size + 1 ≠ kx := by omega
      have m3 : w.heap.size + 1 + 1 ≠ kx := by omega
      go_wp2_with fail
      clear r0 r1 r2 f1
      have FX := FDa.s1 (.slice x6 y6 z6)
      replace F1 := F1.other m1 1 (.slice x6 y6 z6)
      replace F2 := F2.other m2 1 (.slice x6 y6 z6)
      replace F3 := F3.other m3 1 (.slice x6 y6 z6)
      replace o6 := ownsRow_setCell_below o6 (a := ⟨kx, 1, none⟩) (by simp; omega) (.slice x6 y6 z6)
      replace hBB := hBB.setCell (p := ⟨kx, 1, none⟩) (by simp; omega) (.slice x6 y6 z6)
      have hsz : w8.heap.size ≤ (w8.setCell ⟨kx, 1, none⟩ (.slice x6 y6 z6)).heap.size := by simp
      clear FDa
      generalize w8.setCell ⟨kx, 1, none⟩ (.slice x6 y6 z6) = W9 at *
      have hBd : Below W9.heap.size W9 W9.drew := (Below.refl _ _).drew
      replace F1 := F1.below hBd
      replace F2 := F2.below hBd
      replace F3 := F3.below hBd
      replace FX := FX.below hBd
      replace o6 := ownsRow_below o6 hBd
      replace hBB := below_one hBB hBd
      have hsd9 := hBd.size
      clear hBd
      obtain ⟨a0, a1, a2⟩ := F1.c
      obtain ⟨c0, c1, c2, c3, c4⟩ := F2.c
      refine wp_region_held_drew (S := fun w' => w'.cell? ⟨w.heap.size, 2, none⟩ = some (.slice ar s.rv.length cr) ∧ w'.cell? ⟨w.heap.size + 1, 4, none⟩ = some (.slice bz d.rv.length cz)) (by kernel_rfl) ?_ (fun hHeld => ?_)
      · exact ⟨a2, c4⟩
      generalize W9.drew = Wd at *
      clear a0 a1 a2 c0 c1 c2 c3 c4
      have hl1' := F1.lt
      have hl2' := F2.lt
      have hlx := FX.lt
      refine takeW 1 (v := ?v1) rfl (by kernel_rfl) (by kernel_rfl) (by kernel_rfl) (fun _ _ _ h => h) (by rfl) (by assumption) ?hy1 ?rest1
      case hy1 => intro w' hSw; (try dsimp only at hSw); go_simp; try with_reducible rfl
      try simp only [Act.put, List.setIfInBounds_toArray, List.set_cons_zero, List.set_cons_succ]
      refine takeW 2 (v := ?v2) rfl (by kernel_rfl) (by kernel_rfl) (by kernel_rfl) (fun _ _ _ h => h) (by rfl) (by assumption) ?hy2 ?rest2
      case hy2 => intro w' hSw; (try dsimp only at hSw); go_simp; try with_reducible rfl
      try simp only [Act.put, List.setIfInBounds_toArray, List.set_cons_zero, List.set_cons_succ]
      refine takeW 4 (v := ?v3) rfl (by kernel_rfl) (by kernel_rfl) (by kernel_rfl) (fun _ _ _ h => h) (by rfl) (by assumption) ?hy3 ?rest3
      case hy3 => intro w' hSw; (try dsimp only at hSw); go_simp; try with_reducible rfl
      try simp only [Act.put, List.setIfInBounds_toArray, List.set_cons_zero, List.set_cons_succ]
      refine takeW 5 (v := ?v4) rfl (by kernel_rfl) (by kernel_rfl) (by kernel_rfl) (fun _ _ _ h => h) (by rfl) (by assumption) ?hy4 ?rest4
      case hy4 => intro w' hSw; (try dsimp only at hSw); go_simp; try with_reducible rfl
      try simp only [Act.put, List.setIfInBounds_toArray, List.set_cons_zero, List.set_cons_succ]
      have hBz : Below Wd.heap.size Wd (Wd.alloc (.cells #[] 3)) := (Below.refl _ Wd).alloc (Nat.le_refl _) _
      have r0 := row_void Wd 3 1 Wd.heap.size (base := Wd.heap.size) rfl (Nat.le_refl _)
      replace F1 := F1.below hBz
      replace F2 := F2.below hBz
      replace F3 := F3.below hBz
      replace FX := FX.below hBz
      replace o6 := ownsRow_below o6 hBz
      replace hBB := below_one hBB hBz
      have hzz := hBz.size
      clear hBz
      refine takeC 0 (by kernel_rfl) rfl (fun K hK => ?_)
      go_simp
      skip
      refine hK.out _ _ ?_ (fun hHeld => ?_)
      · exact ⟨F1.c.2.2, F2.c.2.2.2.2⟩
      clear hK K
      try simp only [Act.put, List.setIfInBounds_toArray, List.set_cons_zero, List.set_cons_succ]
      generalize Wd.alloc (.cells #[] 3) = We at *
      have hke := hzz
      have hl3' : w.heap.size + 1 + 1 < Wd.heap.size := by omega
      refine takeC 3 (by kernel_rfl) rfl (fun K hK => ?_)
      refine step_app_readS rfl _ _ 23 rfl Wd.heap.size 3 ii _ 1 8 Tryz.underlying23 hii hi0 hi1 hi2 rfl (by decide) (.slice (some ⟨Wd.heap.size, 0, none⟩) 0 0) _ 0 s.rv.length [] (nums s.rv) rfl r0 rfl ((h2.below hBB)).src ones_n (by unfold maxLen; omega) (by omega) hzz ?_; intro v10 w10 o10 g10; have q1 : Three w10 _ _ _ _ _ := kept_apart F1 g10 (fun k e1 e2 => by simp [Value.ownBlock] at e1 e2; omega); have q2 : Five w10 _ _ _ _ _ _ _ := kept_apart F2 g10 (fun k e1 e2 => by simp [Value.ownBlock] at e1 e2; omega); have q3 : Three w10 _ _ _ _ _ := kept_apart F3 g10 (fun k e1 e2 => by simp [Value.ownBlock] at e1 e2; omega); have qx : Three w10 _ _ _ _ _ := kept_apart FX g10 (fun k e1 e2 => by simp [Value.ownBlock] at e1 e2; omega); have q6 := kept_apart (v2 := .slice (some ⟨Wd.heap.size, 0, none⟩) 0 0) o6 g10 (row_apart o6 r0 (by decide)); have qB : Below w.heap.size w w10 := hBB.grown g10 hBB.size (fun k e => by simp [Value.ownBlock] at e; have := hbd; omega); have hz10 := g10.size
      refine hK.out _ _ ?_ (fun hHeld => ?_)
      · exact ⟨q1.c.2.2, q2.c.2.2.2.2⟩
      clear hK K
      try simp only [Act.put, List.setIfInBounds_toArray, List.set_cons_zero, List.set_cons_succ]
      refine takeC 6 (by kernel_rfl) rfl (fun K hK => ?_)
      refine step_app_readS rfl _ _ 23 rfl Wd.heap.size 3 ii _ 1 8 Tryz.underlying23 hii hi0 hi1 hi2 rfl (by decide) _ _ _ d.rv.length _ (nums d.rv) rfl o10 rfl ((k3.below qB)).src ones_n (by unfold maxLen; omega) (by omega) (Nat.le_trans hzz hz10) ?_; intro v11 w11 o11 g11; have hlo := fun k e => (o10.lt k e).1; have p1 : Three w11 _ _ _ _ _ := kept_apart q1 g11 (fun k e1 e2 => by have := hlo k e2; simp [Value.ownBlock] at e1; omega); have p2 : Five w11 _ _ _ _ _ _ _ := kept_apart q2 g11 (fun k e1 e2 => by have := hlo k e2; simp [Value.ownBlock] at e1; omega); have p3 : Three w11 _ _ _ _ _ := kept_apart q3 g11 (fun k e1 e2 => by have := hlo k e2; simp [Value.ownBlock] at e1; omega); have px : Three w11 _ _ _ _ _ := kept_apart qx g11 (fun k e1 e2 => by have := hlo k e2; simp [Value.ownBlock] at e1; omega); have p6 := kept_apart q6 g11 (row_apart q6 o10 (by decide)); have pB : Below w.heap.size w w11 := qB.grown g11 qB.size (fun k e => by have := hlo k e; have := hbd; omega); have hz11 := g11.size
      refine hK.out _ _ ?_ (fun hHeld => ?_)
      · exact ⟨p1.c.2.2, p2.c.2.2.2.2⟩
      clear hK K
      try simp only [Act.put, List.setIfInBounds_toArray, List.set_cons_zero, List.set_cons_succ]
      have hcat : VS w11 v11 (nums (s.rv ++ d.rv)) := (NuR.own (base := Wd.heap.size) (zs := s.rv ++ d.rv) (by rw [List.length_append]; have := o11; simpa [nums] using this)).s
      have hl500 : (s.rv ++ d.rv).length ≤ 1000 := by rw [List.length_append]; omega
      refine takeC 7 (by kernel_rfl) rfl (fun K hK => ?_)
      go_simp
      refine (l5Sorted_any _ (s.rv ++ d.rv) _ hl500 hcat).mono ?_; rintro e w12 ⟨v12, rfl, o8, hB12⟩; obtain ⟨x8, y8, z8, rfl⟩ := row_slice o8; have u1 := p1.below hB12; have u2 := p2.below hB12
      refine hK.out _ _ ?_ (fun hHeld => ?_)
      · exact ⟨u1.c.2.2, u2.c.2.2.2.2⟩
      clear hK K
      try simp only [Act.put, List.setIfInBounds_toArray, List.set_cons_zero, List.set_cons_succ]
      have u3 := p3.below hB12
      have ux := px.below hB12
      have u6 := ownsRow_below p6 hB12
      have uB := below_one pB hB12
      have hz12 := hB12.size
      obtain ⟨n0, n1, n2⟩ := ux.c
      have fx2 := ux.f 2
      have m1' : kx ≠ w.heap.size := by omega
      have m2' : kx ≠ w.heap.size + 1 := by omega
      have y1 := u1.other m1 2 (.slice x8 y8 z8)
      have y2 := u2.other m2 2 (.slice x8 y8 z8)
      refine takeW 8 (v := ?v5) rfl (by kernel_rfl) (by kernel_rfl) (by kernel_rfl) (fun _ _ _ h => h) (by rfl) (by assumption) ?hy5 ?rest5
      case hy5 => intro w' hSw; (try dsimp only at hSw); go_simp; try with_reducible rfl
      try simp only [Act.put, List.setIfInBounds_toArray, List.set_cons_zero, List.set_cons_succ]
      refine takeC 9 (by kernel_rfl) rfl (fun K hK => ?_)
      go_simp
      skip
      refine hK.out _ _ ?_ (fun hHeld => ?_)
      · exact ⟨y1.c.2.2, y2.c.2.2.2.2⟩
      clear hK K
      try simp only [Act.put, List.setIfInBounds_toArray, List.set_cons_zero, List.set_cons_succ]
      refine wpAnyH_done (by kernel_rfl) ?_ _
      clear hHeld n0 n1 n2 fx2
      clear F1 F2 F3 o6 hBB
      have F1 := y1
      have F2 := y2
      have F3 := u3.other m3 2 (.slice x8 y8 z8)
      have FN := ux.s2 (.slice x8 y8 z8)
      have hn6 : (Value.slice x6 y6 z6).ownBlock ≠ some kx := fun e => row_apart u6 ux (by decide) kx e rfl
      have o6 := ownsRow_setCell_other u6 (a := ⟨kx, 2, none⟩) hn6 (.slice x8 y8 z8)
      replace o8 := ownsRow_setCell_below o8 (a := ⟨kx, 2, none⟩) (by simp; omega) (.slice x8 y8 z8)
      have hBB := uB.setCell (p := ⟨kx, 2, none⟩) (by simp; omega) (.slice x8 y8 z8)
      replace o6 := Go.Joins.ownsRow_le o6 (show w.heap.size ≤ w7.heap.size by omega)
      replace o8 := Go.Joins.ownsRow_le o8 (show w.heap.size ≤ w11.heap.size by omega)
      clear y1 y2 u1 u2 u3 ux u6 uB p1 p2 p3 px p6 pB q1 q2 q3 qx q6 qB o10 o11 g10 g11 hB12 r0 FX hcat
      generalize w12.setCell ⟨kx, 2, none⟩ (.slice x8 y8 z8) = W13 at *
      have hsn := nd_shortS (s := s) (d := d) hlr lf mg (by omega)
      have hsx := df_shortS (a := s) (b := ndS s d) hs' hsn
      obtain ⟨X, HXX⟩ : ∃ X, Hid (X = dfX s (ndS s d)) := ⟨_, hid rfl⟩
      rw [← HXX.out] at hsx
      obtain ⟨t0, t1, t2⟩ := F1.c
      obtain ⟨n0, n1, n2⟩ := FN.c
      go_wp2_with fail
      refine (specDiffOf_any _ _ s (ndS s d) _ hs' hsn ⟨_, _, rfl, (h1.below hBB).s, (h2.below hBB).s⟩ ⟨_, _, rfl, (RuR.own o6).s, (NuR.own o8).s⟩).mono ?_
      rintro e w10 ⟨v10, rfl, OD, hB10⟩
      rw [← HXX.out] at OD
      obtain ⟨j1, j2, j3, j4, j5, j6, rfl⟩ := df_forms OD.a
      have hBe : Below w10.heap.size w10 (w10.alloc (.cells #[.int .i64 X.fr, .int .i64 X.tt, .slice j1 X.dr.length j2, .slice j3 X.ad.length j4, .slice j5 X.rv.length j6] 37)) := (Below.refl _ w10).alloc (Nat.le_refl _) _
      have FD := Five.new w10 (.int .i64 X.fr) (.int .i64 X.tt) (.slice j1 X.dr.length j2) (.slice j3 X.ad.length j4) (.slice j5 X.rv.length j6) 37
      replace F2 := (F2.below hB10).below hBe
      replace F3 := (F3.below hB10).below hBe
      replace FN := (FN.below hB10).below hBe
      replace o6 := ownsRow_below (ownsRow_below o6 hB10) hBe
      replace o8 := ownsRow_below (ownsRow_below o8 hB10) hBe
      replace OD := OD.below hBe
      replace hBB := below_one (below_one hBB hB10) hBe
      clear hB10 hBe F1 t0 t1 t2 n0 n1 n2
      cases hdf : dfB s (ndS s d)
      · have HT := hid (show apS s d = false by unfold apS; rw [hdf]; simp)
        have HX := hid (apX_no HT.out)
        obtain ⟨r0, r1, r2⟩ := F3.c
        have f0 := F3.f 0
        have f1 := F3.f 1
        have f2 := F3.f 2
        have G := ((F3.s0 (.int .i64 0)).s1 (.slice none 0 0)).s2 (.slice none 0 0)
        have pB := below_three hBB (k := w.heap.size + 1 + 1) (by omega) (.int .i64 0) (.slice none 0 0) (.slice none 0 0)
        go_wp2_with fail
        clear r0 r1 r2 f0 f1 f2
        generalize (((w10.alloc (.cells #[.int .i64 X.fr, .int .i64 X.tt, .slice j1 X.dr.length j2, .slice j3 X.ad.length j4, .slice j5 X.rv.length j6] 37)).setCell ⟨w.heap.size + 1 + 1, 0, none⟩ (.int .i64 0)).setCell ⟨w.heap.size + 1 + 1, 1, none⟩ (.slice none 0 0)).setCell ⟨w.heap.size + 1 + 1, 2, none⟩ (.slice none 0 0) = W9 at *
        obtain ⟨d0, d1, d2⟩ := G.c
        exact bodyPost_ret (v := .tuple #[.agg #[.int .i64 0, .slice none 0 0, .slice none 0 0], .bool false]) (by simp [results, Tryz.results8, go_sem, d0, d1, d2]) rfl ⟨_, by rw [HT.out], by rw [HX.out]; exact SnO.none _ _ _, pB⟩
      obtain ⟨e0, e1, e2, e3, e4⟩ := FD.c
      obtain ⟨t0, t1, t2, t3, t4⟩ := F2.c
      go_wp2_with fail
      clear e0 e1 e2 e3 e4 t0 t1 t2 t3 t4
      generalize w10.alloc (.cells #[.int .i64 X.fr, .int .i64 X.tt, .slice j1 X.dr.length j2, .slice j3 X.ad.length j4, .slice j5 X.rv.length j6] 37) = W11 at *
      refine (l5SameDiff_any _ _ d X _ hd' hsx (hb'.below hBB).a OD.a).mono ?_
      rintro e w12 ⟨rfl, hB12⟩
      replace F3 := F3.below hB12
      replace FN := FN.below hB12
      replace o6 := ownsRow_below o6 hB12
      replace o8 := ownsRow_below o8 hB12
      replace hBB := below_one hBB hB12
      clear hB12 FD F2 OD
      cases hsd : sameD d X
      · have HT := hid (show apS s d = false by unfold apS; rw [← HXX.out, hsd]; simp)
        have HX := hid (apX_no HT.out)
        obtain ⟨r0, r1, r2⟩ := F3.c
        have f0 := F3.f 0
        have f1 := F3.f 1
        have f2 := F3.f 2
        have G := ((F3.s0 (.int .i64 0)).s1 (.slice none 0 0)).s2 (.slice none 0 0)
        have pB := below_three hBB (k := w.heap.size + 1 + 1) (by omega) (.int .i64 0) (.slice none 0 0) (.slice none 0 0)
        go_wp2_with fail
        clear r0 r1 r2 f0 f1 f2
        generalize ((w12.setCell ⟨w.heap.size + 1 + 1, 0, none⟩ (.int .i64 0)).setCell ⟨w.heap.size + 1 + 1, 1, none⟩ (.slice none 0 0)).setCell ⟨w.heap.size + 1 + 1, 2, none⟩ (.slice none 0 0) = W9 at *
        obtain ⟨d0, d1, d2⟩ := G.c
        exact bodyPost_ret (v := .tuple #[.agg #[.int .i64 0, .slice none 0 0, .slice none 0 0], .bool false]) (by simp [results, Tryz.results8, go_sem, d0, d1, d2]) rfl ⟨_, by rw [HT.out], by rw [HX.out]; exact SnO.none _ _ _, pB⟩
      · have HT := hid (show apS s d = true by unfold apS; rw [HP1.out, hdf, ← HXX.out, hsd]; rfl)
        have HX := hid (apX_yes HT.out)
        obtain ⟨n0, n1, n2⟩ := FN.c
        obtain ⟨r0, r1, r2⟩ := F3.c
        have f0 := F3.f 0
        have f1 := F3.f 1
        have f2 := F3.f 2
        have hn6 : (Value.slice x6 y6 z6).ownBlock ≠ some (w.heap.size + 1 + 1) := fun e => row_apart o6 F3 (by decide) _ e rfl
        have hn8 : (Value.slice x8 y8 z8).ownBlock ≠ some (w.heap.size + 1 + 1) := fun e => row_apart o8 F3 (by decide) _ e rfl
        have G := ((F3.s0 (.int .i64 d.tt)).s1 (.slice x6 y6 z6)).s2 (.slice x8 y8 z8)
        have q6 := ownsRow_setCell_other (ownsRow_setCell_other (ownsRow_setCell_other o6 (a := ⟨w.heap.size + 1 + 1, 0, none⟩) hn6 (.int .i64 d.tt)) (a := ⟨w.heap.size + 1 + 1, 1, none⟩) hn6 (.slice x6 y6 z6)) (a := ⟨w.heap.size + 1 + 1, 2, none⟩) hn6 (.slice x8 y8 z8)
        have q8 := ownsRow_setCell_other (ownsRow_setCell_other (ownsRow_setCell_other o8 (a := ⟨w.heap.size + 1 + 1, 0, none⟩) hn8 (.int .i64 d.tt)) (a := ⟨w.heap.size + 1 + 1, 1, none⟩) hn8 (.slice x6 y6 z6)) (a := ⟨w.heap.size + 1 + 1, 2, none⟩) hn8 (.slice x8 y8 z8)
        have pB := below_three hBB (k := w.heap.size + 1 + 1) (by omega) (.int .i64 d.tt) (.slice x6 y6 z6) (.slice x8 y8 z8)
        go_wp2_with fail
        clear r0 r1 r2 f0 f1 f2 n0 n1 n2
        generalize ((w12.setCell ⟨w.heap.size + 1 + 1, 0, none⟩ (.int .i64 d.tt)).setCell ⟨w.heap.size + 1 + 1, 1, none⟩ (.slice x6 y6 z6)).setCell ⟨w.heap.size + 1 + 1, 2, none⟩ (.slice x8 y8 z8) = W13 at *
        obtain ⟨d0, d1, d2⟩ := G.c
        exact bodyPost_ret (v := .tuple #[.agg #[.int .i64 d.tt, .slice x6 y6 z6, .slice x8 y8 z8], .bool true]) (by simp [results, Tryz.results8, go_sem, d0, d1, d2]) rfl ⟨_, by rw [HT.out], by rw [HX.out]; exact SnO.of (s := ndS s d) q6 q8, pB⟩

end Go.Proofs.YthpckiobfjdckaaGreat

namespace Go.Proofs.YthpckiobfjdckaaGreat
open Go.RowKit Go.Shelf

theorem DfO.of {w : World} {base : Nat} {vd va vr : Value} {d : Df} (h1 : w.ownsRow base 63 4 vd d.dr.length (d.dr.flatMap Ru.cells)) (h2 : w.ownsRow base 63 4 va d.ad.length (d.ad.flatMap Ru.cells)) (h3 : w.ownsRow base 3 1 vr d.rv.length (nums d.rv)) (hap : ∀ k, vd.ownBlock = some k → va.ownBlock = some k → False) : DfO w base w.heap.size (.agg #[.int .i64 d.fr, .int .i64 d.tt, vd, va, vr]) d :=
  ⟨vd, va, vr, rfl, h1, h2, h3, fun k hk => (h1.lt k hk).2, fun k hk => (h2.lt k hk).2, fun k hk => (h3.lt k hk).2, hap⟩
set_option maxRecDepth 100000 in
theorem cellsDiff : Tryz.prog.cellsOf 27 = 5 := by kernel_rfl
set_option maxRecDepth 100000 in
open Go.Deep Go.ChangeShapes Go.WideShapes Go.ChangeAt Go.Joins in
/-- A difference that comes in. -/
theorem openDf {H : Type} {enc : TypeId × Value → H} {W : World} {base : Nat} {v : Value} {y : DataW H} {p : List MemPlace} (hv : Value.okWide Tryz.prog W .any base 27 v) (h : DataW.Trod enc Tryz.prog W 0 (fun _ => true) true 27 v y p) :
    ∃ d : Df, DfA W v d ∧ d.fits := by
  obtain ⟨cs, rfl, hsz⟩ := okWide_struct Tryz.underlying27 hv
  rw [cellsDiff] at hsz
  obtain ⟨l⟩ := cs
  obtain ⟨c0, c1, c2, c3, c4, rfl⟩ : ∃ c0 c1 c2 c3 c4, l = [c0, c1, c2, c3, c4] := by
    match l, hsz with
    | [c0, c1, c2, c3, c4], _ => exact ⟨c0, c1, c2, c3, c4, rfl⟩
  obtain ⟨fuel, hf⟩ := h
  obtain ⟨xs, n, _, _, _, hlen, hfs⟩ := DataW.trod_struct Tryz.underlying27 hf
  obtain ⟨y0, y1, y2, y3, y4, rfl⟩ : ∃ y0 y1 y2 y3 y4, xs = [y0, y1, y2, y3, y4] := by
    match xs, hlen with
    | [y0, y1, y2, y3, y4], _ => exact ⟨y0, y1, y2, y3, y4, rfl⟩
  have ci : Tryz.prog.cellsOf 3 = 1 := by kernel_rfl
  have cr : Tryz.prog.cellsOf 22 = 1 := by kernel_rfl
  have cn : Tryz.prog.cellsOf 23 = 1 := by kernel_rfl
  have h0 : DataW.trod enc Tryz.prog W 0 (fun _ => true) true n 3 [c0] = some y0 := by have := hfs 0 _ rfl; simpa [Value.cells, ci] using this
  have h1 : DataW.trod enc Tryz.prog W 0 (fun _ => true) true n 3 [c1] = some y1 := by have := hfs 1 _ rfl; simpa [Value.cells, ci] using this
  have h2 : DataW.trod enc Tryz.prog W 0 (fun _ => true) true n 22 [c2] = some y2 := by have := hfs 2 _ rfl; simpa [Value.cells, cr] using this
  have h3 : DataW.trod enc Tryz.prog W 0 (fun _ => true) true n 22 [c3] = some y3 := by have := hfs 3 _ rfl; simpa [Value.cells, cr] using this
  have h4 : DataW.trod enc Tryz.prog W 0 (fun _ => true) true n 23 [c4] = some y4 := by have := hfs 4 _ rfl; simpa [Value.cells, cn] using this
  obtain ⟨x0, e0, _, _⟩ := DataW.trod_int Tryz.underlying3 h0
  obtain ⟨x1, e1, _, _⟩ := DataW.trod_int Tryz.underlying3 h1
  obtain ⟨a2, n2, k2, dr, rfl, r2, rfl, l2, f2⟩ := openRuR h2
  obtain ⟨a3, n3, k3, ad, rfl, r3, rfl, l3, f3⟩ := openRuR h3
  obtain ⟨a4, n4, k4, rv, rfl, r4, rfl, l4⟩ := openInR h4
  simp only [List.cons.injEq, and_true] at e0 e1
  subst e0 e1
  exact ⟨⟨x0, x1, dr, ad, rv⟩, ⟨_, _, _, rfl, r2, r3, r4⟩, l2, f2, l3, f3, l4⟩

set_option maxHeartbeats 2000000 in
theorem szDiff_any (v : Value) (d : Df) (n : Int) (w : World) (h0 : 0 ≤ n) (hn : n ≤ 1048576) (hf : d.fits) (h : DfA w v d) :
    Calls Tryz.prog 7 #[v, .int .i64 n] w fun e w' => e = .returned (.int .i64 (leftD n d)) ∧ Below w.heap.size w w' := by
  obtain ⟨vd, va, vr, rfl, h1, h2, h3⟩ := h
  obtain ⟨l1, f1, l2, f2, l3⟩ := hf
  have hB0 : Below w.heap.size w (w.alloc (.cells #[.int .i64 d.fr, .int .i64 d.tt, vd, va, vr] 27)) := (Below.refl _ w).alloc (Nat.le_refl _) _
  have F1 := Five.new w (.int .i64 d.fr) (.int .i64 d.tt) vd va vr 27
  have HI := hid (show leftD n d = if (d.size : Int) ≤ n then n - (d.size : Int) else (-1 : Int) from rfl)
  have HZ := hid (show d.size = szAll d.dr + szAll d.ad + d.rv.length from rfl)
  go_enter Tryz.func7, Tryz.ntmps7
  go_wp2_with fail
  generalize w.alloc (.cells #[.int .i64 d.fr, .int .i64 d.tt, vd, va, vr] 27) = W0 at *
  refine (szRuleS_any vd d.dr n _ h0 hn l1 f1 (h1.below hB0)).mono ?_
  rintro e w1 ⟨rfl, hB1⟩
  replace F1 := F1.below hB1
  have hBB1 := below_one hB0 hB1
  clear hB1 hB0
  obtain ⟨a0, a1, a2, a3, a4⟩ := F1.c
  by_cases c1 : (szAll d.dr : Int) ≤ n
  · rw [show leftS n d.dr = n - szAll d.dr from if_pos c1]
    have d1 : decide (n - (szAll d.dr : Int) < 0) = false := by simp; omega
    go_wp2_with fail
    refine (szRuleS_any va d.ad _ _ (by omega) (by omega) l2 f2 (h2.below hBB1)).mono ?_
    rintro e w2 ⟨rfl, hB2⟩
    replace F1 := F1.below hB2
    have hBB2 := below_one hBB1 hB2
    clear hB2 a0 a1 a2 a3 a4
    obtain ⟨a0, a1, a2, a3, a4⟩ := F1.c
    by_cases c2 : (szAll d.ad : Int) ≤ n - szAll d.dr
    · rw [show leftS (n - szAll d.dr) d.ad = n - szAll d.dr - szAll d.ad from if_pos c2]
      have d2 : decide (n - (szAll d.dr : Int) - (szAll d.ad : Int) < 0) = false := by simp; omega
      go_wp2_with fail
      refine (szIntS_any vr d.rv _ _ (by omega) (by omega) l3 (h3.below hBB2)).mono ?_
      rintro e w3 ⟨rfl, hB3⟩
      have hBB3 := below_one hBB2 hB3
      clear hB3 a0 a1 a2 a3 a4
      by_cases c3 : (d.rv.length : Int) ≤ n - szAll d.dr - szAll d.ad
      · rw [show left1 (n - (szAll d.dr : Int) - (szAll d.ad : Int)) d.rv.length = n - szAll d.dr - szAll d.ad - d.rv.length from if_pos c3]
        have d3 : decide (n - (szAll d.dr : Int) - (szAll d.ad : Int) - (d.rv.length : Int) < 0) = false := by simp; omega
        have HR := hid (show leftD n d = n - szAll d.dr - szAll d.ad - d.rv.length by rw [HI.out, if_pos (by rw [HZ.out]; push_cast; omega), HZ.out]; push_cast; omega)
        go_wp2_with fail
        go_ret
        exact ⟨ret_int HR.out.symm, hBB3⟩
      · rw [show left1 (n - (szAll d.dr : Int) - (szAll d.ad : Int)) d.rv.length = -1 from if_neg c3]
        have HR := hid (show leftD n d = -1 by rw [HI.out, if_neg (by rw [HZ.out]; push_cast; omega)])
        go_wp2_with fail
        go_ret
        exact ⟨ret_int HR.out.symm, hBB3⟩
    · rw [show leftS (n - szAll d.dr) d.ad = -1 from if_neg c2]
      have HR := hid (show leftD n d = -1 by rw [HI.out, if_neg (by rw [HZ.out]; push_cast; omega)])
      go_wp2_with fail
      go_ret
      exact ⟨ret_int HR.out.symm, hBB2⟩
  · rw [show leftS n d.dr = -1 from if_neg c1]
    have HR := hid (show leftD n d = -1 by rw [HI.out, if_neg (by rw [HZ.out]; push_cast; omega)])
    go_wp2_with fail
    go_ret
    exact ⟨ret_int HR.out.symm, hBB1⟩

set_option maxHeartbeats 4000000 in
set_option maxRecDepth 100000 in
theorem toDiff_any (v : Value) (d : Df) (w : World) (hs : d.short) (h : DfA w v d) :
    Calls Tryz.prog 10 #[v] w fun e w' => ∃ v', e = .returned v' ∧ DfO w' w.heap.size w'.heap.size v' d ∧ Below w.heap.size w w' := by
  obtain ⟨vd, va, vr, rfl, h1, h2, h3⟩ := h
  obtain ⟨l1, l2, l3, _⟩ := hs
  have hB0 : Below w.heap.size w (((w.alloc (.cells #[.int .i64 d.fr, .int .i64 d.tt, vd, va, vr] 27)).alloc (.cells #[.int .i64 0, .int .i64 0, .slice none 0 0, .slice none 0 0, .slice none 0 0] 37)).alloc (.cells #[.int .i64 d.fr, .int .i64 d.tt, .slice none 0 0, .slice none 0 0, .slice none 0 0] 37)) := (((Below.refl _ w).alloc (Nat.le_refl _) _).alloc (by simp) _).alloc (by simp; omega) _
  have F1 := ((Five.new w (.int .i64 d.fr) (.int .i64 d.tt) vd va vr 27).below ((Below.refl _ _).alloc (Nat.le_refl _) (.cells #[.int .i64 0, .int .i64 0, .slice none 0 0, .slice none 0 0, .slice none 0 0] 37))).below ((Below.refl _ _).alloc (Nat.le_refl _) (.cells #[.int .i64 d.fr, .int .i64 d.tt, .slice none 0 0, .slice none 0 0, .slice none 0 0] 37))
  have F2 := (Five.at (w.alloc (.cells #[.int .i64 d.fr, .int .i64 d.tt, vd, va, vr] 27)) (.int .i64 0) (.int .i64 0) (.slice none 0 0) (.slice none 0 0) (.slice none 0 0) 37 (k := w.heap.size + 1) (by simp)).below ((Below.refl _ _).alloc (Nat.le_refl _) (.cells #[.int .i64 d.fr, .int .i64 d.tt, .slice none 0 0, .slice none 0 0, .slice none 0 0] 37))
  have F3 := Five.at ((w.alloc (.cells #[.int .i64 d.fr, .int .i64 d.tt, vd, va, vr] 27)).alloc (.cells #[.int .i64 0, .int .i64 0, .slice none 0 0, .slice none 0 0, .slice none 0 0] 37)) (.int .i64 d.fr) (.int .i64 d.tt) (.slice none 0 0) (.slice none 0 0) (.slice none 0 0) 37 (k := w.heap.size + 1 + 1) (by simp)
  have hz0 : (((w.alloc (.cells #[.int .i64 d.fr, .int .i64 d.tt, vd, va, vr] 27)).alloc (.cells #[.int .i64 0, .int .i64 0, .slice none 0 0, .slice none 0 0, .slice none 0 0] 37)).alloc (.cells #[.int .i64 d.fr, .int .i64 d.tt, .slice none 0 0, .slice none 0 0, .slice none 0 0] 37)).heap.size = w.heap.size + 1 + 1 + 1 := by simp
  have HZ := hid hz0
  clear hz0
  go_enter Tryz.func10, Tryz.ntmps10
  go_wp2_with fail
  generalize ((w.alloc (.cells #[.int .i64 d.fr, .int .i64 d.tt, vd, va, vr] 27)).alloc (.cells #[.int .i64 0, .int .i64 0, .slice none 0 0, .slice none 0 0, .slice none 0 0] 37)).alloc (.cells #[.int .i64 d.fr, .int .i64 d.tt, .slice none 0 0, .slice none 0 0, .slice none 0 0] 37) = W0 at *
  refine (toRuleS_any vd d.dr _ l1 (h1.below hB0)).mono ?_
  rintro e w1 ⟨v1, rfl, o1, hB1⟩
  obtain ⟨x1, y1, z1, rfl⟩ := row_slice o1
  replace F1 := F1.below hB1
  replace F2 := F2.below hB1
  replace F3 := F3.below hB1
  replace hB0 := below_one hB0 hB1
  have hs1 := hB1.size
  clear hB1
  obtain ⟨a0, a1, a2, a3, a4⟩ := F1.c
  obtain ⟨c0, c1, c2, c3, c4⟩ := F3.c
  have f2 := F3.f 2
  go_wp2_with fail
  clear a0 a1 a2 a3 a4 c0 c1 c2 c3 c4 f2
  replace F1 := F1.other (k' := w.heap.size + 1 + 1) (by omega) 2 (.slice x1 y1 z1)
  replace F2 := F2.other (k' := w.heap.size + 1 + 1) (by omega) 2 (.slice x1 y1 z1)
  replace F3 := F3.s2 (.slice x1 y1 z1)
  replace hB0 := hB0.setCell (p := ⟨w.heap.size + 1 + 1, 2, none⟩) (by simp; omega) (.slice x1 y1 z1)
  replace o1 := ownsRow_setCell_below o1 (a := ⟨w.heap.size + 1 + 1, 2, none⟩) (by rw [HZ.out]; simp) (.slice x1 y1 z1)
  have hs1b : (w1.setCell ⟨w.heap.size + 1 + 1, 2, none⟩ (.slice x1 y1 z1)).heap.size = w1.heap.size := by simp
  have HS1 := hid hs1b
  clear hs1b
  generalize w1.setCell ⟨w.heap.size + 1 + 1, 2, none⟩ (.slice x1 y1 z1) = W1 at *
  refine (toRuleS_any va d.ad _ l2 (h2.below hB0)).mono ?_
  rintro e w2 ⟨v2, rfl, o2, hB2⟩
  obtain ⟨x2, y2, z2, rfl⟩ := row_slice o2
  have hap : ∀ k, (Value.slice x1 y1 z1).ownBlock = some k → (Value.slice x2 y2 z2).ownBlock = some k → False := fun k e1 e2 => by have := (o1.lt k e1).2; have := (o2.lt k e2).1; omega
  replace F1 := F1.below hB2
  replace F2 := F2.below hB2
  replace F3 := F3.below hB2
  replace o1 := ownsRow_below o1 hB2
  replace hB0 := below_one hB0 hB2
  have hs2 := hB2.size
  clear hB2
  obtain ⟨a0, a1, a2, a3, a4⟩ := F1.c
  obtain ⟨c0, c1, c2, c3, c4⟩ := F3.c
  have f3 := F3.f 3
  go_wp2_with fail
  clear a0 a1 a2 a3 a4 c0 c1 c2 c3 c4 f3
  replace F1 := F1.other (k' := w.heap.size + 1 + 1) (by omega) 3 (.slice x2 y2 z2)
  replace F2 := F2.other (k' := w.heap.size + 1 + 1) (by omega) 3 (.slice x2 y2 z2)
  replace F3 := F3.s3 (.slice x2 y2 z2)
  replace hB0 := hB0.setCell (p := ⟨w.heap.size + 1 + 1, 3, none⟩) (by simp; omega) (.slice x2 y2 z2)
  replace o1 := ownsRow_setCell_below o1 (a := ⟨w.heap.size + 1 + 1, 3, none⟩) (by rw [HZ.out]; simp) (.slice x2 y2 z2)
  replace o2 := ownsRow_setCell_below o2 (a := ⟨w.heap.size + 1 + 1, 3, none⟩) (by have := HZ.out; have := HS1.out; simp; omega) (.slice x2 y2 z2)
  have hs2b : (w2.setCell ⟨w.heap.size + 1 + 1, 3, none⟩ (.slice x2 y2 z2)).heap.size = w2.heap.size := by simp
  have HS2 := hid hs2b
  clear hs2b
  generalize w2.setCell ⟨w.heap.size + 1 + 1, 3, none⟩ (.slice x2 y2 z2) = W2 at *
  refine (toIntS_any vr d.rv _ l3 (h3.below hB0)).mono ?_
  rintro e w3 ⟨v3, rfl, o3, hB3⟩
  obtain ⟨x3, y3, z3, rfl⟩ := row_slice o3
  replace F1 := F1.below hB3
  replace F2 := F2.below hB3
  replace F3 := F3.below hB3
  replace o1 := ownsRow_below o1 hB3
  replace o2 := ownsRow_below o2 hB3
  replace hB0 := below_one hB0 hB3
  clear hB3
  obtain ⟨a0, a1, a2, a3, a4⟩ := F1.c
  obtain ⟨c0, c1, c2, c3, c4⟩ := F3.c
  have f4 := F3.f 4
  have hz := HZ.out
  have hsz1 := HS1.out
  have hsz2 := HS2.out
  have G3 := F3.s4 (.slice x3 y3 z3)
  have G2 := F2.other (k' := w.heap.size + 1 + 1) (by omega) 4 (.slice x3 y3 z3)
  replace hB0 := hB0.setCell (p := ⟨w.heap.size + 1 + 1, 4, none⟩) (by simp; omega) (.slice x3 y3 z3)
  replace o1 := ownsRow_setCell_below o1 (a := ⟨w.heap.size + 1 + 1, 4, none⟩) (by simp; omega) (.slice x3 y3 z3)
  replace o2 := ownsRow_setCell_below o2 (a := ⟨w.heap.size + 1 + 1, 4, none⟩) (by simp; omega) (.slice x3 y3 z3)
  replace o3 := ownsRow_setCell_below o3 (a := ⟨w.heap.size + 1 + 1, 4, none⟩) (by simp; omega) (.slice x3 y3 z3)
  obtain ⟨m0, m1, m2, m3, m4⟩ := G3.c
  obtain ⟨r0, r1, r2, r3, r4⟩ := G2.c
  have g0 := G2.f 0
  have g1 := G2.f 1
  have g2 := G2.f 2
  have g3 := G2.f 3
  have g4 := G2.f 4
  have G := ((((G2.s0 (.int .i64 d.fr)).s1 (.int .i64 d.tt)).s2 (.slice x1 y1 z1)).s3 (.slice x2 y2 z2)).s4 (.slice x3 y3 z3)
  have p1 := row_five o1 (k := w.heap.size + 1) (by omega) (.int .i64 d.fr) (.int .i64 d.tt) (.slice x1 y1 z1) (.slice x2 y2 z2) (.slice x3 y3 z3)
  have p2 := row_five o2 (k := w.heap.size + 1) (by omega) (.int .i64 d.fr) (.int .i64 d.tt) (.slice x1 y1 z1) (.slice x2 y2 z2) (.slice x3 y3 z3)
  have p3 := row_five o3 (k := w.heap.size + 1) (by omega) (.int .i64 d.fr) (.int .i64 d.tt) (.slice x1 y1 z1) (.slice x2 y2 z2) (.slice x3 y3 z3)
  have pB := below_five hB0 (k := w.heap.size + 1) (by omega) (.int .i64 d.fr) (.int .i64 d.tt) (.slice x1 y1 z1) (.slice x2 y2 z2) (.slice x3 y3 z3)
  have hW0 : w.heap.size ≤ W0.heap.size := by omega
  have hW1 : w.heap.size ≤ W1.heap.size := by omega
  have hW2 : w.heap.size ≤ W2.heap.size := by omega
  clear hz hsz1 hsz2 hs1 hs2 F1 F2 F3 o1 o2 o3
  go_wp2_with fail
  clear a0 a1 a2 a3 a4 c0 c1 c2 c3 c4 f4 m0 m1 m2 m3 m4 r0 r1 r2 r3 r4 g0 g1 g2 g3 g4
  generalize (((((w3.setCell ⟨w.heap.size + 1 + 1, 4, none⟩ (.slice x3 y3 z3)).setCell ⟨w.heap.size + 1, 0, none⟩ (.int .i64 d.fr)).setCell ⟨w.heap.size + 1, 1, none⟩ (.int .i64 d.tt)).setCell ⟨w.heap.size + 1, 2, none⟩ (.slice x1 y1 z1)).setCell ⟨w.heap.size + 1, 3, none⟩ (.slice x2 y2 z2)).setCell ⟨w.heap.size + 1, 4, none⟩ (.slice x3 y3 z3) = W4 at *
  obtain ⟨d0, d1, d2, d3, d4⟩ := G.c
  exact bodyPost_ret (v := .agg #[.int .i64 d.fr, .int .i64 d.tt, .slice x1 y1 z1, .slice x2 y2 z2, .slice x3 y3 z3]) (by simp [results, Tryz.results10, go_sem, d0, d1, d2, d3, d4]) rfl ⟨_, rfl, DfO.of (Go.Joins.ownsRow_le p1 hW0) (Go.Joins.ownsRow_le p2 hW1) (Go.Joins.ownsRow_le p3 hW2) hap, pB⟩

end Go.Proofs.YthpckiobfjdckaaGreat
