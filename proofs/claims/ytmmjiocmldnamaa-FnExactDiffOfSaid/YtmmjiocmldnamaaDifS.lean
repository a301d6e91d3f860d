/-
  Chapter 5: DiffOf by the specification.
-/
import Derived.Test.YtmmjiocmldnamaaSnS
import Derived.Test.YtmmjiocmldnamaaDifI
namespace Go.Proofs.Ytmmjiocmldnamaa
open Go.RowKit Go.Shelf

theorem woN_nil {a b : List Int} (h : ∀ j (hj : j < a.length), isI b a[j] = true) : (woN a b).length = 0 := by
  have : woN a b = [] := by
    unfold woN
    rw [List.filter_eq_nil_iff]
    intro x hx
    obtain ⟨i, hi, rfl⟩ := List.getElem_of_mem hx
    rw [h i hi]
    simp
  rw [this]
  rfl
/-- Stores into another block leave a row as it is. -/
theorem row_away {w : World} {base : Nat} {e : TypeId} {size n : Nat} {v : Value} {xs : List Value} (h : w.ownsRow base e size v n xs) {k : Nat} (hk : ∀ j, v.ownBlock = some j → j ≠ k) (x0 x1 x2 x3 x4 : Value) : (((((w.setCell ⟨k, 0, none⟩ x0).setCell ⟨k, 1, none⟩ x1).setCell ⟨k, 2, none⟩ x2).setCell ⟨k, 3, none⟩ x3).setCell ⟨k, 4, none⟩ x4).ownsRow base e size v n xs := by
  have hb : v.ownBlock ≠ some k := fun e => hk k e rfl
  exact ownsRow_setCell_other (ownsRow_setCell_other (ownsRow_setCell_other (ownsRow_setCell_other (ownsRow_setCell_other h (a := ⟨k, 0, none⟩) hb x0) (a := ⟨k, 1, none⟩) hb x1) (a := ⟨k, 2, none⟩) hb x2) (a := ⟨k, 3, none⟩) hb x3) (a := ⟨k, 4, none⟩) hb x4
theorem woN_some {a b : List Int} {j : Nat} (hj : j < a.length) (h : isI b a[j] = false) : (woN a b).length ≠ 0 := by
  intro h0
  have hn := List.eq_nil_of_length_eq_zero h0
  unfold woN at hn
  rw [List.filter_eq_nil_iff] at hn
  have := hn a[j] (List.getElem_mem hj)
  rw [h] at this
  simp at this

set_option maxHeartbeats 8000000 in
set_option maxRecDepth 100000 in
theorem specDiffOf_any (va vb : Value) (a b : Sn) (w : World) (hsa : a.short) (hsb : b.short) (ha : SnA w va a) (hb : SnA w vb b) :
    Calls Try.prog 19 #[va, vb] w fun e w' => ∃ v', e = .returned (.tuple #[v', .bool (dfB a b)]) ∧ DfO w' w.heap.size w'.heap.size v' (dfX a b) ∧ Below w.heap.size w w' := by
  obtain ⟨vpa, vra, rfl, ha1, ha2⟩ := ha
  obtain ⟨vpb, vrb, rfl, hb1, hb2⟩ := hb
  obtain ⟨pa, ca, rfl⟩ := ha1.len
  obtain ⟨ra, da, rfl⟩ := ha2.numLen
  obtain ⟨pb, cb, rfl⟩ := hb1.len
  obtain ⟨rb, db, rfl⟩ := hb2.numLen
  obtain ⟨i0, hi, hz0, hz1, hz2⟩ := info_parts infoInt
  have la1 := hsa.1
  have la2 := hsa.2.1
  have lb1 := hsb.1
  have lb2 := hsb.2.1
  have hBB : Below w.heap.size w (((w.alloc (.cells #[.int .i64 a.num, .slice pa a.pol.length ca, .slice ra a.rv.length da] 30)).alloc (.cells #[.int .i64 b.num, .slice pb b.pol.length cb, .slice rb b.rv.length db] 30)).alloc (.cells #[.int .i64 0, .int .i64 0, .slice none 0 0, .slice none 0 0, .slice none 0 0] 45)) := (((Below.refl _ w).alloc (Nat.le_refl _) _).alloc (by simp) _).alloc (by simp; omega) _
  have F1 := ((Three.new w (.int .i64 a.num) (.slice pa a.pol.length ca) (.slice ra a.rv.length da) 30).below ((Below.refl _ _).alloc (Nat.le_refl _) (.cells #[.int .i64 b.num, .slice pb b.pol.length cb, .slice rb b.rv.length db] 30))).below ((Below.refl _ _).alloc (Nat.le_refl _) (.cells #[.int .i64 0, .int .i64 0, .slice none 0 0, .slice none 0 0, .slice none 0 0] 45))
  have F2 := (Three.at (w.alloc (.cells #[.int .i64 a.num, .slice pa a.pol.length ca, .slice ra a.rv.length da] 30)) (.int .i64 b.num) (.slice pb b.pol.length cb) (.slice rb b.rv.length db) 30 (k := w.heap.size + 1) (by simp)).below ((Below.refl _ _).alloc (Nat.le_refl _) (.cells #[.int .i64 0, .int .i64 0, .slice none 0 0, .slice none 0 0, .slice none 0 0] 45))
  have F3 := Five.at ((w.alloc (.cells #[.int .i64 a.num, .slice pa a.pol.length ca, .slice ra a.rv.length da] 30)).alloc (.cells #[.int .i64 b.num, .slice pb b.pol.length cb, .slice rb b.rv.length db] 30)) (.int .i64 0) (.int .i64 0) (.slice none 0 0) (.slice none 0 0) (.slice none 0 0) 45 (k := w.heap.size + 1 + 1) (by simp)
  go_enter Try.func19, Try.ntmps19
  go_wp2_with fail
  generalize ((w.alloc (.cells #[.int .i64 a.num, .slice pa a.pol.length ca, .slice ra a.rv.length da] 30)).alloc (.cells #[.int .i64 b.num, .slice pb b.pol.length cb, .slice rb b.rv.length db] 30)).alloc (.cells #[.int .i64 0, .int .i64 0, .slice none 0 0, .slice none 0 0, .slice none 0 0] 45) = W0 at *
  refine (specGoodSnapshot_any _ a _ hsa ⟨_, _, rfl, ha1.below hBB, ha2.below hBB⟩).mono ?_
  rintro e w1 ⟨rfl, hB1⟩
  replace F1 := F1.below hB1
  replace F2 := F2.below hB1
  replace F3 := F3.below hB1
  replace hBB := below_one hBB hB1
  clear hB1
  cases hA : snB a
  · have HR := hid (dfB_no1 (b := b) hA)
    have HX := hid (dfX_no HR.out)
    obtain ⟨r0, r1, r2, r3, r4⟩ := F3.c
    have f0 := F3.f 0
    have f1 := F3.f 1
    have f2 := F3.f 2
    have f3 := F3.f 3
    have f4 := F3.f 4
    have G := ((((F3.s0 (.int .i64 0)).s1 (.int .i64 0)).s2 (.slice none 0 0)).s3 (.slice none 0 0)).s4 (.slice none 0 0)
    have pB := below_five hBB (k := w.heap.size + 1 + 1) (by omega) (.int .i64 0) (.int .i64 0) (.slice none 0 0) (.slice none 0 0) (.slice none 0 0)
    go_wp2_with fail
    clear r0 r1 r2 r3 r4 f0 f1 f2 f3 f4
    generalize (((((w1.setCell ⟨w.heap.size + 1 + 1, 0, none⟩ (.int .i64 0)).setCell ⟨w.heap.size + 1 + 1, 1, none⟩ (.int .i64 0)).setCell ⟨w.heap.size + 1 + 1, 2, none⟩ (.slice none 0 0)).setCell ⟨w.heap.size + 1 + 1, 3, none⟩ (.slice none 0 0)).setCell ⟨w.heap.size + 1 + 1, 4, none⟩ (.slice none 0 0)) = W9 at *
    obtain ⟨d0, d1, d2, d3, d4⟩ := G.c
    exact bodyPost_ret (v := .tuple #[.agg #[.int .i64 0, .int .i64 0, .slice none 0 0, .slice none 0 0, .slice none 0 0], .bool false]) (by simp [results, Try.results19, go_sem, d0, d1, d2, d3, d4]) rfl ⟨_, by rw [HR.out], by rw [HX.out]; exact DfO.none _ _ _, pB⟩
  obtain ⟨b0, b1, b2⟩ := F2.c
  go_wp2_with fail
  refine (specGoodSnapshot_any _ b _ hsb ⟨_, _, rfl, hb1.below hBB, hb2.below hBB⟩).mono ?_
  rintro e w2 ⟨rfl, hB2⟩
  replace F1 := F1.below hB2
  replace F2 := F2.below hB2
  replace F3 := F3.below hB2
  replace hBB := below_one hBB hB2
  clear hB2 b0 b1 b2
  obtain ⟨a0, a1, a2⟩ := F1.c
  obtain ⟨b0, b1, b2⟩ := F2.c
  cases hB : snB b
  · have HR := hid (dfB_no2 (a := a) hB)
    have HX := hid (dfX_no HR.out)
    obtain ⟨r0, r1, r2, r3, r4⟩ := F3.c
    have f0 := F3.f 0
    have f1 := F3.f 1
    have f2 := F3.f 2
    have f3 := F3.f 3
    have f4 := F3.f 4
    have G := ((((F3.s0 (.int .i64 0)).s1 (.int .i64 0)).s2 (.slice none 0 0)).s3 (.slice none 0 0)).s4 (.slice none 0 0)
    have pB := below_five hBB (k := w.heap.size + 1 + 1) (by omega) (.int .i64 0) (.int .i64 0) (.slice none 0 0) (.slice none 0 0) (.slice none 0 0)
    go_wp2_with fail
    clear r0 r1 r2 r3 r4 f0 f1 f2 f3 f4
    generalize (((((w2.setCell ⟨w.heap.size + 1 + 1, 0, none⟩ (.int .i64 0)).setCell ⟨w.heap.size + 1 + 1, 1, none⟩ (.int .i64 0)).setCell ⟨w.heap.size + 1 + 1, 2, none⟩ (.slice none 0 0)).setCell ⟨w.heap.size + 1 + 1, 3, none⟩ (.slice none 0 0)).setCell ⟨w.heap.size + 1 + 1, 4, none⟩ (.slice none 0 0)) = W9 at *
    obtain ⟨d0, d1, d2, d3, d4⟩ := G.c
    exact bodyPost_ret (v := .tuple #[.agg #[.int .i64 0, .int .i64 0, .slice none 0 0, .slice none 0 0, .slice none 0 0], .bool false]) (by simp [results, Try.results19, go_sem, d0, d1, d2, d3, d4]) rfl ⟨_, by rw [HR.out], by rw [HX.out]; exact DfO.none _ _ _, pB⟩
  by_cases hlt : a.num < b.num
  case neg =>
    have HR := hid (dfB_no3 hlt)
    have HX := hid (dfX_no HR.out)
    have dge : decide (b.num ≤ a.num) = true := by simp; omega
    obtain ⟨r0, r1, r2, r3, r4⟩ := F3.c
    have f0 := F3.f 0
    have f1 := F3.f 1
    have f2 := F3.f 2
    have f3 := F3.f 3
    have f4 := F3.f 4
    have G := ((((F3.s0 (.int .i64 0)).s1 (.int .i64 0)).s2 (.slice none 0 0)).s3 (.slice none 0 0)).s4 (.slice none 0 0)
    have pB := below_five hBB (k := w.heap.size + 1 + 1) (by omega) (.int .i64 0) (.int .i64 0) (.slice none 0 0) (.slice none 0 0) (.slice none 0 0)
    go_wp2_with fail
    clear r0 r1 r2 r3 r4 f0 f1 f2 f3 f4
    generalize (((((w2.setCell ⟨w.heap.size + 1 + 1, 0, none⟩ (.int .i64 0)).setCell ⟨w.heap.size + 1 + 1, 1, none⟩ (.int .i64 0)).setCell ⟨w.heap.size + 1 + 1, 2, none⟩ (.slice none 0 0)).setCell ⟨w.heap.size + 1 + 1, 3, none⟩ (.slice none 0 0)).setCell ⟨w.heap.size + 1 + 1, 4, none⟩ (.slice none 0 0)) = W9 at *
    obtain ⟨d0, d1, d2, d3, d4⟩ := G.c
    exact bodyPost_ret (v := .tuple #[.agg #[.int .i64 0, .int .i64 0, .slice none 0 0, .slice none 0 0, .slice none 0 0], .bool false]) (by simp [results, Try.results19, go_sem, d0, d1, d2, d3, d4]) rfl ⟨_, by rw [HR.out], by rw [HX.out]; exact DfO.none _ _ _, pB⟩
  have dge : decide (b.num ≤ a.num) = false := by simp; omega
  have ha2' := ha2.below hBB
  have hb2' := hb2.below hBB
  go_wp2_with fail
  go_loop [30] (fun i => ∃ n : Nat, n ≤ a.rv.length ∧ i = .int .i64 n ∧ ∀ j (hj : j < a.rv.length), j < n → isI b.rv a.rv[j] = true) (fun i => a.rv.length - (intOf i).toNat)
  case atStart => exact ⟨0, Nat.zero_le _, rfl, fun _ _ h => absurd h (Nat.not_lt_zero _)⟩
  case round =>
    obtain ⟨n, hn, rfl, ht⟩ := hrel
    have HT := hid ht
    clear ht
    by_cases hl : n < a.rv.length
    · obtain ⟨bb, off, rfl, hbb, hcap, q0⟩ := ha2'.num hl
      have HS := hid (show isI b.rv a.rv[n] = true → ∀ j (hj : j < a.rv.length), j < n + 1 → isI b.rv a.rv[j] = true from fun h j hj hjn => by
        by_cases e : j = n
        · subst e; exact h
        · exact HT.out j hj (by omega))
      have HN := hid (fun h => woN_some (b := b.rv) hl h)
      generalize a.rv[n] = x at *
      cases hq : isI b.rv x
      · have HR := hid (dfB_no4 (a := a) (b := b) (HN.out hq))
        have HX := hid (dfX_no HR.out)
        go_wp2_with fail
        refine (l1Has_any _ b.rv x _ (by omega) hb2').mono ?_
        rintro e w3 ⟨rfl, rfl⟩
        rw [hq]
        obtain ⟨r0, r1, r2, r3, r4⟩ := F3.c
        have f0 := F3.f 0
        have f1 := F3.f 1
        have f2 := F3.f 2
        have f3 := F3.f 3
        have f4 := F3.f 4
        have G := ((((F3.s0 (.int .i64 0)).s1 (.int .i64 0)).s2 (.slice none 0 0)).s3 (.slice none 0 0)).s4 (.slice none 0 0)
        have pB := below_five hBB (k := w.heap.size + 1 + 1) (by omega) (.int .i64 0) (.int .i64 0) (.slice none 0 0) (.slice none 0 0) (.slice none 0 0)
        go_wp2_with fail
        clear r0 r1 r2 r3 r4 f0 f1 f2 f3 f4
        generalize (((((w3.setCell ⟨w.heap.size + 1 + 1, 0, none⟩ (.int .i64 0)).setCell ⟨w.heap.size + 1 + 1, 1, none⟩ (.int .i64 0)).setCell ⟨w.heap.size + 1 + 1, 2, none⟩ (.slice none 0 0)).setCell ⟨w.heap.size + 1 + 1, 3, none⟩ (.slice none 0 0)).setCell ⟨w.heap.size + 1 + 1, 4, none⟩ (.slice none 0 0)) = W9 at *
        obtain ⟨d0, d1, d2, d3, d4⟩ := G.c
        exact bodyPost_ret (v := .tuple #[.agg #[.int .i64 0, .int .i64 0, .slice none 0 0, .slice none 0 0, .slice none 0 0], .bool false]) (by simp [results, Try.results19, go_sem, d0, d1, d2, d3, d4]) rfl ⟨_, by rw [HR.out], by rw [HX.out]; exact DfO.none _ _ _, pB⟩
      · have HR := hid (HS.out hq)
        go_wp2_with fail
        refine (l1Has_any _ b.rv x _ (by omega) hb2').mono ?_
        rintro e w3 ⟨rfl, rfl⟩
        rw [hq]
        go_wp2_with fail
        exact ⟨⟨n + 1, by omega, by go_num, HR.out⟩, by simp [intOf]; omega⟩
    · obtain rfl : n = a.rv.length := by omega
      have HR := hid (dfB_yes hA hB hlt (woN_nil fun j hj => HT.out j hj hj))
      have HX := hid (dfX_yes HR.out)
      clear hlt HT dge
      have n02 : w.heap.size ≠ w.heap.size + 1 + 1 := by omega
      have n20 : w.heap.size + 1 + 1 ≠ w.heap.size := by omega
      have n12 : w.heap.size + 1 ≠ w.heap.size + 1 + 1 := by omega
      have n21 : w.heap.size + 1 + 1 ≠ w.heap.size + 1 := by omega
      go_wp2_with fail
      refine wp_region_held_drew (S := fun w' => w'.cell? ⟨w.heap.size, 0, none⟩ = some (.int .i64 a.num) ∧ w'.cell? ⟨w.heap.size, 1, none⟩ = some (.slice pa a.pol.length ca) ∧ w'.cell? ⟨w.heap.size, 2, none⟩ = some (.slice ra a.rv.length da) ∧ w'.cell? ⟨w.heap.size + 1, 0, none⟩ = some (.int .i64 b.num) ∧ w'.cell? ⟨w.heap.size + 1, 1, none⟩ = some (.slice pb b.pol.length cb) ∧ w'.cell? ⟨w.heap.size + 1, 2, none⟩ = some (.slice rb b.rv.length db)) (by kernel_rfl) ?_ (fun hHeld => ?_)
      · go_keep
      refine takeW 0 (v := ?v19) rfl (by kernel_rfl) (by kernel_rfl) (by kernel_rfl) (fun _ _ _ h => h) (by rfl) (by assumption) ?hy19 ?rest19
      case hy19 => intro w' hSw; (try dsimp only at hSw); go_simp; try with_reducible rfl
      try simp only [Act.put, List.setIfInBounds_toArray, List.set_cons_zero, List.set_cons_succ]
      refine takeW 1 (v := ?v20) rfl (by kernel_rfl) (by kernel_rfl) (by kernel_rfl) (fun _ _ _ h => h) (by rfl) (by assumption) ?hy20 ?rest20
      case hy20 => intro w' hSw; (try dsimp only at hSw); go_simp; try with_reducible rfl
      try simp only [Act.put, List.setIfInBounds_toArray, List.set_cons_zero, List.set_cons_succ]
      refine takeW 2 (v := ?v21) rfl (by kernel_rfl) (by kernel_rfl) (by kernel_rfl) (fun _ _ _ h => h) (by rfl) (by assumption) ?hy21 ?rest21
      case hy21 => intro w' hSw; (try dsimp only at hSw); go_simp; try with_reducible rfl
      try simp only [Act.put, List.setIfInBounds_toArray, List.set_cons_zero, List.set_cons_succ]
      refine takeW 3 (v := ?v22) rfl (by kernel_rfl) (by kernel_rfl) (by kernel_rfl) (fun _ _ _ h => h) (by rfl) (by assumption) ?hy22 ?rest22
      case hy22 => intro w' hSw; (try dsimp only at hSw); go_simp; try with_reducible rfl
      try simp only [Act.put, List.setIfInBounds_toArray, List.set_cons_zero, List.set_cons_succ]
      refine takeW 4 (v := ?v23) rfl (by kernel_rfl) (by kernel_rfl) (by kernel_rfl) (fun _ _ _ h => h) (by rfl) (by assumption) ?hy23 ?rest23
      case hy23 => intro w' hSw; (try dsimp only at hSw); go_simp; try with_reducible rfl
      try simp only [Act.put, List.setIfInBounds_toArray, List.set_cons_zero, List.set_cons_succ]
      refine takeW 5 (v := ?v24) rfl (by kernel_rfl) (by kernel_rfl) (by kernel_rfl) (fun _ _ _ h => h) (by rfl) (by assumption) ?hy24 ?rest24
      case hy24 => intro w' hSw; (try dsimp only at hSw); go_simp; try with_reducible rfl
      try simp only [Act.put, List.setIfInBounds_toArray, List.set_cons_zero, List.set_cons_succ]
      refine takeW 6 (v := ?v25) rfl (by kernel_rfl) (by kernel_rfl) (by kernel_rfl) (fun _ _ _ h => h) (by rfl) (by assumption) ?hy25 ?rest25
      case hy25 => intro w' hSw; (try dsimp only at hSw); go_simp; try with_reducible rfl
      try simp only [Act.put, List.setIfInBounds_toArray, List.set_cons_zero, List.set_cons_succ]
      refine takeW 7 (v := ?v26) rfl (by kernel_rfl) (by kernel_rfl) (by kernel_rfl) (fun _ _ _ h => h) (by rfl) (by assumption) ?hy26 ?rest26
      case hy26 => intro w' hSw; (try dsimp only at hSw); go_simp; try with_reducible rfl
      try simp only [Act.put, List.setIfInBounds_toArray, List.set_cons_zero, List.set_cons_succ]
      refine takeW 9 (v := ?v27) rfl (by kernel_rfl) (by kernel_rfl) (by kernel_rfl) (fun _ _ _ h => h) (by rfl) (by assumption) ?hy27 ?rest27
      case hy27 => intro w' hSw; (try dsimp only at hSw); go_simp; try with_reducible rfl
      try simp only [Act.put, List.setIfInBounds_toArray, List.set_cons_zero, List.set_cons_succ]
      refine takeW 10 (v := ?v28) rfl (by kernel_rfl) (by kernel_rfl) (by kernel_rfl) (fun _ _ _ h => h) (by rfl) (by assumption) ?hy28 ?rest28
      case hy28 => intro w' hSw; (try dsimp only at hSw); go_simp; try with_reducible rfl
      try simp only [Act.put, List.setIfInBounds_toArray, List.set_cons_zero, List.set_cons_succ]
      refine takeW 11 (v := ?v29) rfl (by kernel_rfl) (by kernel_rfl) (by kernel_rfl) (fun _ _ _ h => h) (by rfl) (by assumption) ?hy29 ?rest29
      case hy29 => intro w' hSw; (try dsimp only at hSw); go_simp; try with_reducible rfl
      try simp only [Act.put, List.setIfInBounds_toArray, List.set_cons_zero, List.set_cons_succ]
      refine takeW 12 (v := ?v30) rfl (by kernel_rfl) (by kernel_rfl) (by kernel_rfl) (fun _ _ _ h => h) (by rfl) (by assumption) ?hy30 ?rest30
      case hy30 => intro w' hSw; (try dsimp only at hSw); go_simp; try with_reducible rfl
      try simp only [Act.put, List.setIfInBounds_toArray, List.set_cons_zero, List.set_cons_succ]
      have m0 : w.heap.size ≠ w2.heap.size := (by have := F1.lt; omega)
      have m0' : w2.heap.size ≠ w.heap.size := (by have := F1.lt; omega)
      have m1 : w.heap.size + 1 ≠ w2.heap.size := (by have := F2.lt; omega)
      have m1' : w2.heap.size ≠ w.heap.size + 1 := (by have := F2.lt; omega)
      refine takeC2 8 15 (by kernel_rfl) rfl rfl (fun K hK => ?_) (fun K hK => ?_)
      · go_simp
        refine (l5Less_any _ _ a.pol b.pol _ (by omega) (by omega) (by exact ((ha1.below hBB).below (Below.refl _ _).drew)) (by exact ((hb1.below hBB).below (Below.refl _ _).drew))).mono ?_; rintro e w4 ⟨u4, rfl, o4, hB4⟩; obtain ⟨x4, y4, z4, rfl⟩ := row_slice o4; have hD4 : Below w2.heap.size w2 w4 := below_drew1 hB4; have hca4 := fun o => hB4.cell (p := ⟨w.heap.size, o, none⟩) (by exact F1.lt); have hcb4 := fun o => hB4.cell (p := ⟨w.heap.size + 1, o, none⟩) (by exact F2.lt); have G1 : Three w4 _ _ _ _ _ := F1.below hD4; have G2 : Three w4 _ _ _ _ _ := F2.below hD4; have G3 : Five w4 _ _ _ _ _ _ _ := F3.below hD4; have hBB4 := below_one hBB hD4
        refine hK.out _ _ ?_ (fun hHeld => ?_)
        · go_keep
        clear hK K
        try simp only [Act.put, List.setIfInBounds_toArray, List.set_cons_zero, List.set_cons_succ]
        clear m0 m0' m1 m1'
        have m0 : w.heap.size ≠ w4.heap.size := (by have := G1.lt; omega)
        have m0' : w4.heap.size ≠ w.heap.size := (by have := G1.lt; omega)
        have m1 : w.heap.size + 1 ≠ w4.heap.size := (by have := G2.lt; omega)
        have m1' : w4.heap.size ≠ w.heap.size + 1 := (by have := G2.lt; omega)
        refine takeC2 13 15 (by kernel_rfl) rfl rfl (fun K hK => ?_) (fun K hK => ?_)
        · go_simp
          refine (l5Less_any _ _ b.pol a.pol _ (by omega) (by omega) (by exact (hb1.below hBB4)) (by exact (ha1.below hBB4))).mono ?_; rintro e w5 ⟨u5, rfl, o5, hB5⟩; obtain ⟨x5, y5, z5, rfl⟩ := row_slice o5; have hD5 := hB5; have hca5 := fun o => hB5.cell (p := ⟨w.heap.size, o, none⟩) (by exact G1.lt); have hcb5 := fun o => hB5.cell (p := ⟨w.heap.size + 1, o, none⟩) (by exact G2.lt); have H1 : Three w5 _ _ _ _ _ := G1.below hD5; have H2 : Three w5 _ _ _ _ _ := G2.below hD5; have H3 : Five w5 _ _ _ _ _ _ _ := G3.below hD5; have hBB5 := below_one hBB4 hB5; have o4' := ownsRow_below o4 hB5
          refine hK.out _ _ ?_ (fun hHeld => ?_)
          · go_keep
          clear hK K
          try simp only [Act.put, List.setIfInBounds_toArray, List.set_cons_zero, List.set_cons_succ]
          clear m0 m0' m1 m1'
          have m0 : w.heap.size ≠ w5.heap.size := (by have := H1.lt; omega)
          have m0' : w5.heap.size ≠ w.heap.size := (by have := H1.lt; omega)
          have m1 : w.heap.size + 1 ≠ w5.heap.size := (by have := H2.lt; omega)
          have m1' : w5.heap.size ≠ w.heap.size + 1 := (by have := H2.lt; omega)
          refine takeW 14 (v := ?v31) rfl (by kernel_rfl) (by kernel_rfl) (by kernel_rfl) (fun _ _ _ h => h) (by rfl) (by assumption) ?hy31 ?rest31
          case hy31 => intro w' hSw; (try dsimp only at hSw); go_simp; try with_reducible rfl
          try simp only [Act.put, List.setIfInBounds_toArray, List.set_cons_zero, List.set_cons_succ]
          refine takeC 15 (by kernel_rfl) rfl (fun K hK => ?_)
          go_simp
          skip
          refine hK.out _ _ ?_ (fun hHeld => ?_)
          · go_keep
          clear hK K
          try simp only [Act.put, List.setIfInBounds_toArray, List.set_cons_zero, List.set_cons_succ]
          refine takeC 16 (by kernel_rfl) rfl (fun K hK => ?_)
          go_simp
          skip
          refine hK.out _ _ ?_ (fun hHeld => ?_)
          · go_keep
          clear hK K
          try simp only [Act.put, List.setIfInBounds_toArray, List.set_cons_zero, List.set_cons_succ]
          refine wpAnyH_done (by kernel_rfl) ?_ _
          have hBd : Below w5.heap.size w5 (w5.alloc (.cells #[.int .i64 a.num, .int .i64 b.num, .slice x4 y4 z4, .slice x5 y5 z5, .slice none 0 0] 45)) := (Below.refl _ w5).alloc (Nat.le_refl _) _
          have FD0 := Five.new w5 (.int .i64 a.num) (.int .i64 b.num) (.slice x4 y4 z4) (.slice x5 y5 z5) (.slice none 0 0) 45
          have P1 : Three (w5.alloc (.cells #[.int .i64 a.num, .int .i64 b.num, .slice x4 y4 z4, .slice x5 y5 z5, .slice none 0 0] 45)) _ _ _ _ _ := H1.below hBd
          have P2 : Three (w5.alloc (.cells #[.int .i64 a.num, .int .i64 b.num, .slice x4 y4 z4, .slice x5 y5 z5, .slice none 0 0] 45)) _ _ _ _ _ := H2.below hBd
          have P3 : Five (w5.alloc (.cells #[.int .i64 a.num, .int .i64 b.num, .slice x4 y4 z4, .slice x5 y5 z5, .slice none 0 0] 45)) _ _ _ _ _ _ _ := H3.below hBd
          have p4 := ownsRow_below o4' hBd
          have p5 := ownsRow_below o5 hBd
          have hap : ∀ k, (Value.slice x4 y4 z4).ownBlock = some k → (Value.slice x5 y5 z5).ownBlock = some k → False := fun k h1 h2 => by
            have := (o4.lt k h1).2
            have := (o5.lt k h2).1
            omega
          have hkb4 : w.heap.size + 1 + 1 < w2.heap.size := F3.lt
          have hzd := FD0.lt
          have hs24 := hD4.size
          have hs25 := hB5.size
          replace hBB5 := below_one hBB5 hBd
          clear hHeld a0 a1 a2 b0 b1 b2 n02 n20 n12 n21 hca4 hcb4 hca5 hcb5 m0 m0' m1 m1' hBd
          generalize w5.alloc (.cells #[.int .i64 a.num, .int .i64 b.num, .slice x4 y4 z4, .slice x5 y5 z5, .slice none 0 0] 45) = W6 at *
          generalize hkd : w5.heap.size = kd at *
          obtain ⟨b0, b1, b2⟩ := P2.c
          go_wp2_with fail
          go_loopw [59] (fun i wr => ∃ (k : Nat) (rvv : Value), k ≤ b.rv.length ∧ i = .int .i64 k ∧ Five wr 45 kd (.int .i64 a.num) (.int .i64 b.num) (.slice x4 y4 z4) (.slice x5 y5 z5) rvv ∧ wr.ownsRow W6.heap.size 3 1 rvv (woNT b.rv a.rv k).length (nums (woNT b.rv a.rv k)) ∧ Mid kd (kd + 1) W6 wr) (fun i _ => b.rv.length - (intOf i).toNat)
          case atStart => exact ⟨0, .slice none 0 0, Nat.zero_le _, rfl, FD0, by rw [woNT_zero]; exact World.ownsRow_nil _ _ _ _, Mid.of_below (Below.refl _ _)⟩
          case round =>
            obtain ⟨k, rvv, hk, rfl, FD, hrow, hM⟩ := hrel
            have hl1 := woNT_len b.rv a.rv k
            have hBB6 := hBB5.trans (hM.below (n := w.heap.size) (by omega) hBB5.size)
            have J1 := hM.three P1 (.inl (by omega))
            have J2 := hM.three P2 (.inl (by omega))
            have J3 := hM.five P3 (.inl (by omega))
            have hz6 := hM.size
            obtain ⟨a0, a1, a2⟩ := J1.c
            by_cases hl : k < b.rv.length
            · obtain ⟨bb, off, rfl, hbb, hcap, q0⟩ := (hb2.below hBB6).num hl
              have HY := hid (fun h => woNT_yes (b := a.rv) hl h)
              have HN := hid (fun h => woNT_no (b := a.rv) hl h)
              have hC := l1Has_any (.slice ra a.rv.length da) a.rv b.rv[k] _ (by omega) (ha2.below hBB6)
              generalize b.rv[k] = x at *
              obtain ⟨r0, r1, r2, r3, r4⟩ := FD.c
              cases hq : isI a.rv x
              · have HR2 := hid (HN.out hq)
                clear HN HY
                generalize woNT b.rv a.rv k = l at *
                rcases row_form hrow with ⟨rfl, hl0⟩ | ⟨go, capo, rfl, hgo, hcapo⟩
                · obtain rfl : l = [] := List.eq_nil_of_length_eq_zero hl0
                  go_wp2_with fail
                  refine hC.mono ?_
                  rintro e w6 ⟨rfl, rfl⟩
                  rw [hq]
                  clear hC
                  go_wp2_with (at_builtin; refine wpList_append_own _ rfl _ _ 23 rfl W6.heap.size 3 i0 (.int .i64 0) 1 8 Try.underlying23 hi hz0 hz1 hz2 rfl (by decide) _ _ _ rfl (hrow.alloc _) ⟨w6.heap.size, 0, none⟩ 1 1 [.int .i64 x] rfl rfl (cell_one_new _ _ _) (by intro u hu; simp at hu; subst hu; rfl) (by unfold maxLen; first | omega | (simp <;> omega)) (by first | omega | (simp <;> omega)) (by first | omega | (simp <;> omega)) ?_; intro u' w7 hown' hgrow _; have FD7 : Five w7 _ _ _ _ _ _ _ := kept_apart (FD.below ((Below.refl _ w6).alloc (Nat.le_refl _) _)) hgrow (fun k h1 h2 => by have := (hrow.lt k h2).1; simp [Value.ownBlock] at h1; omega); obtain ⟨e0, e1, e2, e3, e4⟩ := FD7.c; have g4 := FD7.f 4; obtain ⟨g', cap3, rfl⟩ := ownsRow_succ hown')
                  go_roundw
                  case rel =>
                    refine ⟨k + 1, _, by omega, by go_num, FD7.s4 _, ?_, ((hM.trans (Mid.of_below ((Below.refl _ w6).alloc (Nat.le_refl _) _))).app hgrow (fun k hk => (hrow.lt k hk).1)).set (p := ⟨kd, 4, none⟩) (Nat.le_refl _) (Nat.lt_succ_self _) _⟩
                    rw [HR2.out]
                    exact ownsRow_setCell_below (by simpa [nums] using hown') (a := ⟨kd, 4, none⟩) hzd _
                  case measure => simp [intOf]; omega
                · go_wp2_with fail
                  refine hC.mono ?_
                  rintro e w6 ⟨rfl, rfl⟩
                  rw [hq]
                  clear hC
                  go_wp2_with (at_builtin; refine wpList_append_own _ rfl _ _ 23 rfl W6.heap.size 3 i0 (.int .i64 0) 1 8 Try.underlying23 hi hz0 hz1 hz2 rfl (by decide) _ _ _ rfl (hrow.alloc _) ⟨w6.heap.size, 0, none⟩ 1 1 [.int .i64 x] rfl rfl (cell_one_new _ _ _) (by intro u hu; simp at hu; subst hu; rfl) (by unfold maxLen; first | omega | (simp <;> omega)) (by first | omega | (simp <;> omega)) (by first | omega | (simp <;> omega)) ?_; intro u' w7 hown' hgrow _; have FD7 : Five w7 _ _ _ _ _ _ _ := kept_apart (FD.below ((Below.refl _ w6).alloc (Nat.le_refl _) _)) hgrow (fun k h1 h2 => by have := (hrow.lt k h2).1; simp [Value.ownBlock] at h1; omega); obtain ⟨e0, e1, e2, e3, e4⟩ := FD7.c; have g4 := FD7.f 4; obtain ⟨g', cap3, rfl⟩ := ownsRow_succ hown')
                  go_roundw
                  case rel =>
                    refine ⟨k + 1, _, by omega, by go_num, FD7.s4 _, ?_, ((hM.trans (Mid.of_below ((Below.refl _ w6).alloc (Nat.le_refl _) _))).app hgrow (fun k hk => (hrow.lt k hk).1)).set (p := ⟨kd, 4, none⟩) (Nat.le_refl _) (Nat.lt_succ_self _) _⟩
                    rw [HR2.out]
                    exact ownsRow_setCell_below (by simpa [nums] using hown') (a := ⟨kd, 4, none⟩) hzd _
                  case measure => simp [intOf]; omega
              · have HR2 := hid (HY.out hq)
                go_wp2_with fail
                refine hC.mono ?_
                rintro e w6 ⟨rfl, rfl⟩
                rw [hq]
                clear hC
                go_wp2_with fail
                go_roundw
                case rel => exact ⟨k + 1, rvv, by omega, by go_num, FD, by rw [HR2.out]; exact hrow, hM⟩
                case measure => simp [intOf]; omega
            · obtain rfl : k = b.rv.length := by omega
              rw [woNT_end] at hrow
              obtain ⟨xr, yr, zr, rfl⟩ := row_slice hrow
              obtain ⟨r0, r1, r2, r3, r4⟩ := FD.c
              obtain ⟨t0, t1, t2, t3, t4⟩ := J3.c
              have f0 := J3.f 0
              have f1 := J3.f 1
              have f2 := J3.f 2
              have f3 := J3.f 3
              have f4 := J3.f 4
              have G := ((((J3.s0 (.int .i64 a.num)).s1 (.int .i64 b.num)).s2 (.slice x4 y4 z4)).s3 (.slice x5 y5 z5)).s4 (.slice xr yr zr)
              have q4 := row_five (hM.row p4 (fun k hk => by have := row_apart p4 FD0 (by decide) k hk; simp [Value.ownBlock] at this; omega)) (k := w.heap.size + 1 + 1) F3.lt (.int .i64 a.num) (.int .i64 b.num) (.slice x4 y4 z4) (.slice x5 y5 z5) (.slice xr yr zr)
              have q5 := row_five (hM.row p5 (fun k hk => by have := row_apart p5 FD0 (by decide) k hk; simp [Value.ownBlock] at this; omega)) (k := w.heap.size + 1 + 1) G3.lt (.int .i64 a.num) (.int .i64 b.num) (.slice x4 y4 z4) (.slice x5 y5 z5) (.slice xr yr zr)
              have q6 := row_five hrow (k := w.heap.size + 1 + 1) (by omega) (.int .i64 a.num) (.int .i64 b.num) (.slice x4 y4 z4) (.slice x5 y5 z5) (.slice xr yr zr)
              have pB := below_five hBB6 (k := w.heap.size + 1 + 1) (by omega) (.int .i64 a.num) (.int .i64 b.num) (.slice x4 y4 z4) (.slice x5 y5 z5) (.slice xr yr zr)
              go_wp2_with fail
              clear r0 r1 r2 r3 r4 f0 f1 f2 f3 f4 t0 t1 t2 t3 t4
              generalize (((((wr.setCell ⟨w.heap.size + 1 + 1, 0, none⟩ (.int .i64 a.num)).setCell ⟨w.heap.size + 1 + 1, 1, none⟩ (.int .i64 b.num)).setCell ⟨w.heap.size + 1 + 1, 2, none⟩ (.slice x4 y4 z4)).setCell ⟨w.heap.size + 1 + 1, 3, none⟩ (.slice x5 y5 z5)).setCell ⟨w.heap.size + 1 + 1, 4, none⟩ (.slice xr yr zr)) = W9 at *
              obtain ⟨d0, d1, d2, d3, d4⟩ := G.c
              exact bodyPost_ret (v := .tuple #[.agg #[.int .i64 a.num, .int .i64 b.num, .slice x4 y4 z4, .slice x5 y5 z5, .slice xr yr zr], .bool true]) (by simp [results, Try.results19, go_sem, d0, d1, d2, d3, d4]) rfl ⟨_, by rw [HR.out], by rw [HX.out]; exact ⟨_, _, _, rfl, Go.Joins.ownsRow_le q4 hBB.size, Go.Joins.ownsRow_le q5 hBB4.size, Go.Joins.ownsRow_le q6 (Nat.le_trans hBB5.size (Nat.le_refl _)), fun k hk => (q4.lt k hk).2, fun k hk => (q5.lt k hk).2, fun k hk => (q6.lt k hk).2, hap⟩, pB⟩
        · go_simp
          skip
          refine hK.out _ _ ?_ (fun hHeld => ?_)
          · go_keep
          clear hK K
          try simp only [Act.put, List.setIfInBounds_toArray, List.set_cons_zero, List.set_cons_succ]
          have m2 : w.heap.size + 1 + 1 ≠ w4.heap.size := (by have := G3.lt; omega)
          have hBd : Below w4.heap.size w4 (w4.alloc (.cells #[.int .i64 0, .int .i64 0, .slice none 0 0, .slice none 0 0, .slice none 0 0] 45)) := (Below.refl _ w4).alloc (Nat.le_refl _) _
          have FZ : Five (w4.alloc (.cells #[.int .i64 0, .int .i64 0, .slice none 0 0, .slice none 0 0, .slice none 0 0] 45)) _ _ _ _ _ _ _ := Five.new w4 (.int .i64 0) (.int .i64 0) (.slice none 0 0) (.slice none 0 0) (.slice none 0 0) 45
          have D1 : Three (w4.alloc (.cells #[.int .i64 0, .int .i64 0, .slice none 0 0, .slice none 0 0, .slice none 0 0] 45)) _ _ _ _ _ := G1.below hBd
          have D2 : Three (w4.alloc (.cells #[.int .i64 0, .int .i64 0, .slice none 0 0, .slice none 0 0, .slice none 0 0] 45)) _ _ _ _ _ := G2.below hBd
          have D3 : Five (w4.alloc (.cells #[.int .i64 0, .int .i64 0, .slice none 0 0, .slice none 0 0, .slice none 0 0] 45)) _ _ _ _ _ _ _ := G3.below hBd
          have hBBd := below_one hBB4 hBd
          have hsd := hBd.size
          have o4d := ownsRow_below o4 hBd
          generalize w4.alloc (.cells #[.int .i64 0, .int .i64 0, .slice none 0 0, .slice none 0 0, .slice none 0 0] 45) = Wd at *
          refine takeC 13 (by kernel_rfl) rfl (fun K hK => ?_)
          go_simp
          refine (l5Less_any _ _ b.pol a.pol _ (by omega) (by omega) (by exact (hb1.below hBBd)) (by exact (ha1.below hBBd))).mono ?_; rintro e w5 ⟨u5, rfl, o5, hB5⟩; obtain ⟨x5, y5, z5, rfl⟩ := row_slice o5; have hD5 := hB5; have hca5 := fun o => hB5.cell (p := ⟨w.heap.size, o, none⟩) (by exact D1.lt); have hcb5 := fun o => hB5.cell (p := ⟨w.heap.size + 1, o, none⟩) (by exact D2.lt); have H1 : Three w5 _ _ _ _ _ := D1.below hD5; have H2 : Three w5 _ _ _ _ _ := D2.below hD5; have H3 : Five w5 _ _ _ _ _ _ _ := D3.below hD5; have HZ : Five w5 _ _ _ _ _ _ _ := FZ.below hD5; have hBB5 := below_one hBBd hB5; have o4' := ownsRow_below o4d hB5
          refine hK.out _ _ ?_ (fun hHeld => ?_)
          · go_keep
          clear hK K
          try simp only [Act.put, List.setIfInBounds_toArray, List.set_cons_zero, List.set_cons_succ]
          obtain ⟨e0, e1, e2, e3, e4⟩ := HZ.c
          have g0 := HZ.f 0
          have g1 := HZ.f 1
          have g2 := HZ.f 2
          have g3 := HZ.f 3
          have g4 := HZ.f 4
          refine takeW 14 (v := ?v32) rfl (by kernel_rfl) (by kernel_rfl) (by kernel_rfl) (fun _ _ _ h => h) (by rfl) (by assumption) ?hy32 ?rest32
          case hy32 => intro w' hSw; (try dsimp only at hSw); go_simp; try with_reducible rfl
          try simp only [Act.put, List.setIfInBounds_toArray, List.set_cons_zero, List.set_cons_succ]
          refine takeC 16 (by kernel_rfl) rfl (fun K hK => ?_)
          go_simp
          skip
          refine hK.out _ _ ?_ (fun hHeld => ?_)
          · go_keep
          clear hK K
          try simp only [Act.put, List.setIfInBounds_toArray, List.set_cons_zero, List.set_cons_succ]
          refine wpAnyH_done (by kernel_rfl) ?_ _
          have FD0 := ((((HZ.s0 (.int .i64 a.num)).s1 (.int .i64 b.num)).s2 (.slice x4 y4 z4)).s3 (.slice x5 y5 z5)).s4 (.slice none 0 0)
          have P1 : Three ((((((w5.setCell ⟨w4.heap.size, 0, none⟩ (.int .i64 a.num)).setCell ⟨w4.heap.size, 1, none⟩ (.int .i64 b.num)).setCell ⟨w4.heap.size, 2, none⟩ (.slice x4 y4 z4)).setCell ⟨w4.heap.size, 3, none⟩ (.slice x5 y5 z5)).setCell ⟨w4.heap.size, 4, none⟩ (.slice none 0 0))) _ _ _ _ _ := ((((H1.other (k' := w4.heap.size) m0 0 (.int .i64 a.num)).other m0 1 (.int .i64 b.num)).other m0 2 (.slice x4 y4 z4)).other m0 3 (.slice x5 y5 z5)).other m0 4 (.slice none 0 0)
          have P2 : Three ((((((w5.setCell ⟨w4.heap.size, 0, none⟩ (.int .i64 a.num)).setCell ⟨w4.heap.size, 1, none⟩ (.int .i64 b.num)).setCell ⟨w4.heap.size, 2, none⟩ (.slice x4 y4 z4)).setCell ⟨w4.heap.size, 3, none⟩ (.slice x5 y5 z5)).setCell ⟨w4.heap.size, 4, none⟩ (.slice none 0 0))) _ _ _ _ _ := ((((H2.other (k' := w4.heap.size) m1 0 (.int .i64 a.num)).other m1 1 (.int .i64 b.num)).other m1 2 (.slice x4 y4 z4)).other m1 3 (.slice x5 y5 z5)).other m1 4 (.slice none 0 0)
          have P3 : Five ((((((w5.setCell ⟨w4.heap.size, 0, none⟩ (.int .i64 a.num)).setCell ⟨w4.heap.size, 1, none⟩ (.int .i64 b.num)).setCell ⟨w4.heap.size, 2, none⟩ (.slice x4 y4 z4)).setCell ⟨w4.heap.size, 3, none⟩ (.slice x5 y5 z5)).setCell ⟨w4.heap.size, 4, none⟩ (.slice none 0 0))) _ _ _ _ _ _ _ := ((((H3.other (k' := w4.heap.size) m2 0 (.int .i64 a.num)).other m2 1 (.int .i64 b.num)).other m2 2 (.slice x4 y4 z4)).other m2 3 (.slice x5 y5 z5)).other m2 4 (.slice none 0 0)
          have p4 := row_away o4' (fun k hk e => row_apart o4' HZ (by decide) k hk (by rw [e]; rfl)) (.int .i64 a.num) (.int .i64 b.num) (.slice x4 y4 z4) (.slice x5 y5 z5) (.slice none 0 0)
          have p5 := row_away o5 (fun k hk e => row_apart o5 HZ (by decide) k hk (by rw [e]; rfl)) (.int .i64 a.num) (.int .i64 b.num) (.slice x4 y4 z4) (.slice x5 y5 z5) (.slice none 0 0)
          have hap : ∀ k, (Value.slice x4 y4 z4).ownBlock = some k → (Value.slice x5 y5 z5).ownBlock = some k → False := fun k h1 h2 => by
            have := (o4.lt k h1).2
            have := (o5.lt k h2).1
            omega
          have hkb4 : w.heap.size + 1 + 1 < w2.heap.size := F3.lt
          have hzd := FD0.lt
          have hs24 := hD4.size
          have hs25 := Nat.le_trans hBd.size hB5.size
          replace hBB5 := below_five hBB5 (k := w4.heap.size) (by omega) (.int .i64 a.num) (.int .i64 b.num) (.slice x4 y4 z4) (.slice x5 y5 z5) (.slice none 0 0)
          clear hHeld a0 a1 a2 b0 b1 b2 n02 n20 n12 n21 hca4 hcb4 hca5 hcb5 m0 m0' m1 m1' e0 e1 e2 e3 e4 g0 g1 g2 g3 g4
          generalize (((((w5.setCell ⟨w4.heap.size, 0, none⟩ (.int .i64 a.num)).setCell ⟨w4.heap.size, 1, none⟩ (.int .i64 b.num)).setCell ⟨w4.heap.size, 2, none⟩ (.slice x4 y4 z4)).setCell ⟨w4.heap.size, 3, none⟩ (.slice x5 y5 z5)).setCell ⟨w4.heap.size, 4, none⟩ (.slice none 0 0)) = W6 at *
          generalize hkd : w4.heap.size = kd at *
          obtain ⟨b0, b1, b2⟩ := P2.c
          go_wp2_with fail
          go_loopw [59] (fun i wr => ∃ (k : Nat) (rvv : Value), k ≤ b.rv.length ∧ i = .int .i64 k ∧ Five wr 45 kd (.int .i64 a.num) (.int .i64 b.num) (.slice x4 y4 z4) (.slice x5 y5 z5) rvv ∧ wr.ownsRow W6.heap.size 3 1 rvv (woNT b.rv a.rv k).length (nums (woNT b.rv a.rv k)) ∧ Mid kd (kd + 1) W6 wr) (fun i _ => b.rv.length - (intOf i).toNat)
          case atStart => exact ⟨0, .slice none 0 0, Nat.zero_le _, rfl, FD0, by rw [woNT_zero]; exact World.ownsRow_nil _ _ _ _, Mid.of_below (Below.refl _ _)⟩
          case round =>
            obtain ⟨k, rvv, hk, rfl, FD, hrow, hM⟩ := hrel
            have hl1 := woNT_len b.rv a.rv k
            have hBB6 := hBB5.trans (hM.below (n := w.heap.size) (by omega) hBB5.size)
            have J1 := hM.three P1 (.inl (by omega))
            have J2 := hM.three P2 (.inl (by omega))
            have J3 := hM.five P3 (.inl (by omega))
            have hz6 := hM.size
            obtain ⟨a0, a1, a2⟩ := J1.c
            by_cases hl : k < b.rv.length
            · obtain ⟨bb, off, rfl, hbb, hcap, q0⟩ := (hb2.below hBB6).num hl
              have HY := hid (fun h => woNT_yes (b := a.rv) hl h)
              have HN := hid (fun h => woNT_no (b := a.rv) hl h)
              have hC := l1Has_any (.slice ra a.rv.length da) a.rv b.rv[k] _ (by omega) (ha2.below hBB6)
              generalize b.rv[k] = x at *
              obtain ⟨r0, r1, r2, r3, r4⟩ := FD.c
              cases hq : isI a.rv x
              · have HR2 := hid (HN.out hq)
                clear HN HY
                generalize woNT b.rv a.rv k = l at *
                rcases row_form hrow with ⟨rfl, hl0⟩ | ⟨go, capo, rfl, hgo, hcapo⟩
                · obtain rfl : l = [] := List.eq_nil_of_length_eq_zero hl0
                  go_wp2_with fail
                  refine hC.mono ?_
                  rintro e w6 ⟨rfl, rfl⟩
                  rw [hq]
                  clear hC
                  go_wp2_with (at_builtin; refine wpList_append_own _ rfl _ _ 23 rfl W6.heap.size 3 i0 (.int .i64 0) 1 8 Try.underlying23 hi hz0 hz1 hz2 rfl (by decide) _ _ _ rfl (hrow.alloc _) ⟨w6.heap.size, 0, none⟩ 1 1 [.int .i64 x] rfl rfl (cell_one_new _ _ _) (by intro u hu; simp at hu; subst hu; rfl) (by unfold maxLen; first | omega | (simp <;> omega)) (by first | omega | (simp <;> omega)) (by first | omega | (simp <;> omega)) ?_; intro u' w7 hown' hgrow _; have FD7 : Five w7 _ _ _ _ _ _ _ := kept_apart (FD.below ((Below.refl _ w6).alloc (Nat.le_refl _) _)) hgrow (fun k h1 h2 => by have := (hrow.lt k h2).1; simp [Value.ownBlock] at h1; omega); obtain ⟨e0, e1, e2, e3, e4⟩ := FD7.c; have g4 := FD7.f 4; obtain ⟨g', cap3, rfl⟩ := ownsRow_succ hown')
                  go_roundw
                  case rel =>
                    refine ⟨k + 1, _, by omega, by go_num, FD7.s4 _, ?_, ((hM.trans (Mid.of_below ((Below.refl _ w6).alloc (Nat.le_refl _) _))).app hgrow (fun k hk => (hrow.lt k hk).1)).set (p := ⟨kd, 4, none⟩) (Nat.le_refl _) (Nat.lt_succ_self _) _⟩
                    rw [HR2.out]
                    exact ownsRow_setCell_below (by simpa [nums] using hown') (a := ⟨kd, 4, none⟩) hzd _
                  case measure => simp [intOf]; omega
                · go_wp2_with fail
                  refine hC.mono ?_
                  rintro e w6 ⟨rfl, rfl⟩
                  rw [hq]
                  clear hC
                  go_wp2_with (at_builtin; refine wpList_append_own _ rfl _ _ 23 rfl W6.heap.size 3 i0 (.int .i64 0) 1 8 Try.underlying23 hi hz0 hz1 hz2 rfl (by decide) _ _ _ rfl (hrow.alloc _) ⟨w6.heap.size, 0, none⟩ 1 1 [.int .i64 x] rfl rfl (cell_one_new _ _ _) (by intro u hu; simp at hu; subst hu; rfl) (by unfold maxLen; first | omega | (simp <;> omega)) (by first | omega | (simp <;> omega)) (by first | omega | (simp <;> omega)) ?_; intro u' w7 hown' hgrow _; have FD7 : Five w7 _ _ _ _ _ _ _ := kept_apart (FD.below ((Below.refl _ w6).alloc (Nat.le_refl _) _)) hgrow (fun k h1 h2 => by have := (hrow.lt k h2).1; simp [Value.ownBlock] at h1; omega); obtain ⟨e0, e1, e2, e3, e4⟩ := FD7.c; have g4 := FD7.f 4; obtain ⟨g', cap3, rfl⟩ := ownsRow_succ hown')
                  go_roundw
                  case rel =>
                    refine ⟨k + 1, _, by omega, by go_num, FD7.s4 _, ?_, ((hM.trans (Mid.of_below ((Below.refl _ w6).alloc (Nat.le_refl _) _))).app hgrow (fun k hk => (hrow.lt k hk).1)).set (p := ⟨kd, 4, none⟩) (Nat.le_refl _) (Nat.lt_succ_self _) _⟩
                    rw [HR2.out]
                    exact ownsRow_setCell_below (by simpa [nums] using hown') (a := ⟨kd, 4, none⟩) hzd _
                  case measure => simp [intOf]; omega
              · have HR2 := hid (HY.out hq)
                go_wp2_with fail
                refine hC.mono ?_
                rintro e w6 ⟨rfl, rfl⟩
                rw [hq]
                clear hC
                go_wp2_with fail
                go_roundw
                case rel => exact ⟨k + 1, rvv, by omega, by go_num, FD, by rw [HR2.out]; exact hrow, hM⟩
                case measure => simp [intOf]; omega
            · obtain rfl : k = b.rv.length := by omega
              rw [woNT_end] at hrow
              obtain ⟨xr, yr, zr, rfl⟩ := row_slice hrow
              obtain ⟨r0, r1, r2, r3, r4⟩ := FD.c
              obtain ⟨t0, t1, t2, t3, t4⟩ := J3.c
              have f0 := J3.f 0
              have f1 := J3.f 1
              have f2 := J3.f 2
              have f3 := J3.f 3
              have f4 := J3.f 4
              have G := ((((J3.s0 (.int .i64 a.num)).s1 (.int .i64 b.num)).s2 (.slice x4 y4 z4)).s3 (.slice x5 y5 z5)).s4 (.slice xr yr zr)
              have q4 := row_five (hM.row p4 (fun k hk => by have := row_apart p4 FD0 (by decide) k hk; simp [Value.ownBlock] at this; omega)) (k := w.heap.size + 1 + 1) F3.lt (.int .i64 a.num) (.int .i64 b.num) (.slice x4 y4 z4) (.slice x5 y5 z5) (.slice xr yr zr)
              have q5 := row_five (hM.row p5 (fun k hk => by have := row_apart p5 FD0 (by decide) k hk; simp [Value.ownBlock] at this; omega)) (k := w.heap.size + 1 + 1) D3.lt (.int .i64 a.num) (.int .i64 b.num) (.slice x4 y4 z4) (.slice x5 y5 z5) (.slice xr yr zr)
              have q6 := row_five hrow (k := w.heap.size + 1 + 1) (by omega) (.int .i64 a.num) (.int .i64 b.num) (.slice x4 y4 z4) (.slice x5 y5 z5) (.slice xr yr zr)
              have pB := below_five hBB6 (k := w.heap.size + 1 + 1) (by omega) (.int .i64 a.num) (.int .i64 b.num) (.slice x4 y4 z4) (.slice x5 y5 z5) (.slice xr yr zr)
              go_wp2_with fail
              clear r0 r1 r2 r3 r4 f0 f1 f2 f3 f4 t0 t1 t2 t3 t4
              generalize (((((wr.setCell ⟨w.heap.size + 1 + 1, 0, none⟩ (.int .i64 a.num)).setCell ⟨w.heap.size + 1 + 1, 1, none⟩ (.int .i64 b.num)).setCell ⟨w.heap.size + 1 + 1, 2, none⟩ (.slice x4 y4 z4)).setCell ⟨w.heap.size + 1 + 1, 3, none⟩ (.slice x5 y5 z5)).setCell ⟨w.heap.size + 1 + 1, 4, none⟩ (.slice xr yr zr)) = W9 at *
              obtain ⟨d0, d1, d2, d3, d4⟩ := G.c
              exact bodyPost_ret (v := .tuple #[.agg #[.int .i64 a.num, .int .i64 b.num, .slice x4 y4 z4, .slice x5 y5 z5, .slice xr yr zr], .bool true]) (by simp [results, Try.results19, go_sem, d0, d1, d2, d3, d4]) rfl ⟨_, by rw [HR.out], by rw [HX.out]; exact ⟨_, _, _, rfl, Go.Joins.ownsRow_le q4 hBB.size, Go.Joins.ownsRow_le q5 hBBd.size, Go.Joins.ownsRow_le q6 (Nat.le_trans hBB5.size (Nat.le_refl _)), fun k hk => (q4.lt k hk).2, fun k hk => (q5.lt k hk).2, fun k hk => (q6.lt k hk).2, hap⟩, pB⟩
      · go_simp
        skip
        refine hK.out _ _ ?_ (fun hHeld => ?_)
        · go_keep
        clear hK K
        try simp only [Act.put, List.setIfInBounds_toArray, List.set_cons_zero, List.set_cons_succ]
        have m2 : w.heap.size + 1 + 1 ≠ w2.heap.size := (by have := F3.lt; omega)
        have hBd : Below w2.heap.size w2 ((w2.alloc (.cells #[.int .i64 0, .int .i64 0, .slice none 0 0, .slice none 0 0, .slice none 0 0] 45)).drew) := ((Below.refl _ w2).alloc (Nat.le_refl _) _).drew
        have FZ : Five ((w2.alloc (.cells #[.int .i64 0, .int .i64 0, .slice none 0 0, .slice none 0 0, .slice none 0 0] 45)).drew) _ _ _ _ _ _ _ := (Five.new w2 (.int .i64 0) (.int .i64 0) (.slice none 0 0) (.slice none 0 0) (.slice none 0 0) 45).below (Below.refl _ _).drew
        have D1 : Three ((w2.alloc (.cells #[.int .i64 0, .int .i64 0, .slice none 0 0, .slice none 0 0, .slice none 0 0] 45)).drew) _ _ _ _ _ := F1.below hBd
        have D2 : Three ((w2.alloc (.cells #[.int .i64 0, .int .i64 0, .slice none 0 0, .slice none 0 0, .slice none 0 0] 45)).drew) _ _ _ _ _ := F2.below hBd
        have D3 : Five ((w2.alloc (.cells #[.int .i64 0, .int .i64 0, .slice none 0 0, .slice none 0 0, .slice none 0 0] 45)).drew) _ _ _ _ _ _ _ := F3.below hBd
        have hBBd := below_one hBB hBd
        have hsd := hBd.size
        generalize (w2.alloc (.cells #[.int .i64 0, .int .i64 0, .slice none 0 0, .slice none 0 0, .slice none 0 0] 45)).drew = Wd at *
        refine takeC 8 (by kernel_rfl) rfl (fun K hK => ?_)
        go_simp
        refine (l5Less_any _ _ a.pol b.pol _ (by omega) (by omega) (by exact (ha1.below hBBd)) (by exact (hb1.below hBBd))).mono ?_; rintro e w4 ⟨u4, rfl, o4, hB4⟩; obtain ⟨x4, y4, z4, rfl⟩ := row_slice o4; have hD4 := hB4; have hca4 := fun o => hB4.cell (p := ⟨w.heap.size, o, none⟩) (by exact D1.lt); have hcb4 := fun o => hB4.cell (p := ⟨w.heap.size + 1, o, none⟩) (by exact D2.lt); have G1 : Three w4 _ _ _ _ _ := D1.below hD4; have G2 : Three w4 _ _ _ _ _ := D2.below hD4; have G3 : Five w4 _ _ _ _ _ _ _ := D3.below hD4; have GZ : Five w4 _ _ _ _ _ _ _ := FZ.below hD4; have hBB4 := below_one hBBd hB4
        refine hK.out _ _ ?_ (fun hHeld => ?_)
        · go_keep
        clear hK K
        try simp only [Act.put, List.setIfInBounds_toArray, List.set_cons_zero, List.set_cons_succ]
        refine takeC 13 (by kernel_rfl) rfl (fun K hK => ?_)
        go_simp
        refine (l5Less_any _ _ b.pol a.pol _ (by omega) (by omega) (by exact (hb1.below hBB4)) (by exact (ha1.below hBB4))).mono ?_; rintro e w5 ⟨u5, rfl, o5, hB5⟩; obtain ⟨x5, y5, z5, rfl⟩ := row_slice o5; have hD5 := hB5; have hca5 := fun o => hB5.cell (p := ⟨w.heap.size, o, none⟩) (by exact G1.lt); have hcb5 := fun o => hB5.cell (p := ⟨w.heap.size + 1, o, none⟩) (by exact G2.lt); have H1 : Three w5 _ _ _ _ _ := G1.below hD5; have H2 : Three w5 _ _ _ _ _ := G2.below hD5; have H3 : Five w5 _ _ _ _ _ _ _ := G3.below hD5; have HZ : Five w5 _ _ _ _ _ _ _ := GZ.below hD5; have hBB5 := below_one hBB4 hB5; have o4' := ownsRow_below o4 hB5
        refine hK.out _ _ ?_ (fun hHeld => ?_)
        · go_keep
        clear hK K
        try simp only [Act.put, List.setIfInBounds_toArray, List.set_cons_zero, List.set_cons_succ]
        obtain ⟨e0, e1, e2, e3, e4⟩ := HZ.c
        have g0 := HZ.f 0
        have g1 := HZ.f 1
        have g2 := HZ.f 2
        have g3 := HZ.f 3
        have g4 := HZ.f 4
        refine takeW 14 (v := ?v33) rfl (by kernel_rfl) (by kernel_rfl) (by kernel_rfl) (fun _ _ _ h => h) (by rfl) (by assumption) ?hy33 ?rest33
        case hy33 => intro w' hSw; (try dsimp only at hSw); go_simp; try with_reducible rfl
        try simp only [Act.put, List.setIfInBounds_toArray, List.set_cons_zero, List.set_cons_succ]
        refine takeC 16 (by kernel_rfl) rfl (fun K hK => ?_)
        go_simp
        skip
        refine hK.out _ _ ?_ (fun hHeld => ?_)
        · go_keep
        clear hK K
        try simp only [Act.put, List.setIfInBounds_toArray, List.set_cons_zero, List.set_cons_succ]
        refine wpAnyH_done (by kernel_rfl) ?_ _
        have FD0 := ((((HZ.s0 (.int .i64 a.num)).s1 (.int .i64 b.num)).s2 (.slice x4 y4 z4)).s3 (.slice x5 y5 z5)).s4 (.slice none 0 0)
        have P1 : Three ((((((w5.setCell ⟨w2.heap.size, 0, none⟩ (.int .i64 a.num)).setCell ⟨w2.heap.size, 1, none⟩ (.int .i64 b.num)).setCell ⟨w2.heap.size, 2, none⟩ (.slice x4 y4 z4)).setCell ⟨w2.heap.size, 3, none⟩ (.slice x5 y5 z5)).setCell ⟨w2.heap.size, 4, none⟩ (.slice none 0 0))) _ _ _ _ _ := ((((H1.other (k' := w2.heap.size) m0 0 (.int .i64 a.num)).other m0 1 (.int .i64 b.num)).other m0 2 (.slice x4 y4 z4)).other m0 3 (.slice x5 y5 z5)).other m0 4 (.slice none 0 0)
        have P2 : Three ((((((w5.setCell ⟨w2.heap.size, 0, none⟩ (.int .i64 a.num)).setCell ⟨w2.heap.size, 1, none⟩ (.int .i64 b.num)).setCell ⟨w2.heap.size, 2, none⟩ (.slice x4 y4 z4)).setCell ⟨w2.heap.size, 3, none⟩ (.slice x5 y5 z5)).setCell ⟨w2.heap.size, 4, none⟩ (.slice none 0 0))) _ _ _ _ _ := ((((H2.other (k' := w2.heap.size) m1 0 (.int .i64 a.num)).other m1 1 (.int .i64 b.num)).other m1 2 (.slice x4 y4 z4)).other m1 3 (.slice x5 y5 z5)).other m1 4 (.slice none 0 0)
        have P3 : Five ((((((w5.setCell ⟨w2.heap.size, 0, none⟩ (.int .i64 a.num)).setCell ⟨w2.heap.size, 1, none⟩ (.int .i64 b.num)).setCell ⟨w2.heap.size, 2, none⟩ (.slice x4 y4 z4)).setCell ⟨w2.heap.size, 3, none⟩ (.slice x5 y5 z5)).setCell ⟨w2.heap.size, 4, none⟩ (.slice none 0 0))) _ _ _ _ _ _ _ := ((((H3.other (k' := w2.heap.size) m2 0 (.int .i64 a.num)).other m2 1 (.int .i64 b.num)).other m2 2 (.slice x4 y4 z4)).other m2 3 (.slice x5 y5 z5)).other m2 4 (.slice none 0 0)
        have p4 := row_away o4' (fun k hk e => row_apart o4' HZ (by decide) k hk (by rw [e]; rfl)) (.int .i64 a.num) (.int .i64 b.num) (.slice x4 y4 z4) (.slice x5 y5 z5) (.slice none 0 0)
        have p5 := row_away o5 (fun k hk e => row_apart o5 HZ (by decide) k hk (by rw [e]; rfl)) (.int .i64 a.num) (.int .i64 b.num) (.slice x4 y4 z4) (.slice x5 y5 z5) (.slice none 0 0)
        have hap : ∀ k, (Value.slice x4 y4 z4).ownBlock = some k → (Value.slice x5 y5 z5).ownBlock = some k → False := fun k h1 h2 => by
          have := (o4.lt k h1).2
          have := (o5.lt k h2).1
          omega
        have hkb4 : w.heap.size + 1 + 1 < w2.heap.size := F3.lt
        have hzd := FD0.lt
        have hs24 := Nat.le_trans hBd.size hB4.size
        have hs25 := hB5.size
        replace hBB5 := below_five hBB5 (k := w2.heap.size) (by omega) (.int .i64 a.num) (.int .i64 b.num) (.slice x4 y4 z4) (.slice x5 y5 z5) (.slice none 0 0)
        clear hHeld a0 a1 a2 b0 b1 b2 n02 n20 n12 n21 hca4 hcb4 hca5 hcb5 m0 m0' m1 m1' e0 e1 e2 e3 e4 g0 g1 g2 g3 g4
        generalize (((((w5.setCell ⟨w2.heap.size, 0, none⟩ (.int .i64 a.num)).setCell ⟨w2.heap.size, 1, none⟩ (.int .i64 b.num)).setCell ⟨w2.heap.size, 2, none⟩ (.slice x4 y4 z4)).setCell ⟨w2.heap.size, 3, none⟩ (.slice x5 y5 z5)).setCell ⟨w2.heap.size, 4, none⟩ (.slice none 0 0)) = W6 at *
        generalize hkd : w2.heap.size = kd at *
        obtain ⟨b0, b1, b2⟩ := P2.c
        go_wp2_with fail
        go_loopw [59] (fun i wr => ∃ (k : Nat) (rvv : Value), k ≤ b.rv.length ∧ i = .int .i64 k ∧ Five wr 45 kd (.int .i64 a.num) (.int .i64 b.num) (.slice x4 y4 z4) (.slice x5 y5 z5) rvv ∧ wr.ownsRow W6.heap.size 3 1 rvv (woNT b.rv a.rv k).length (nums (woNT b.rv a.rv k)) ∧ Mid kd (kd + 1) W6 wr) (fun i _ => b.rv.length - (intOf i).toNat)
        case atStart => exact ⟨0, .slice none 0 0, Nat.zero_le _, rfl, FD0, by rw [woNT_zero]; exact World.ownsRow_nil _ _ _ _, Mid.of_below (Below.refl _ _)⟩
        case round =>
          obtain ⟨k, rvv, hk, rfl, FD, hrow, hM⟩ := hrel
          have hl1 := woNT_len b.rv a.rv k
          have hBB6 := hBB5.trans (hM.below (n := w.heap.size) (by omega) hBB5.size)
          have J1 := hM.three P1 (.inl (by omega))
          have J2 := hM.three P2 (.inl (by omega))
          have J3 := hM.five P3 (.inl (by omega))
          have hz6 := hM.size
          obtain ⟨a0, a1, a2⟩ := J1.c
          by_cases hl : k < b.rv.length
          · obtain ⟨bb, off, rfl, hbb, hcap, q0⟩ := (hb2.below hBB6).num hl
            have HY := hid (fun h => woNT_yes (b := a.rv) hl h)
            have HN := hid (fun h => woNT_no (b := a.rv) hl h)
            have hC := l1Has_any (.slice ra a.rv.length da) a.rv b.rv[k] _ (by omega) (ha2.below hBB6)
            generalize b.rv[k] = x at *
            obtain ⟨r0, r1, r2, r3, r4⟩ := FD.c
            cases hq : isI a.rv x
            · have HR2 := hid (HN.out hq)
              clear HN HY
              generalize woNT b.rv a.rv k = l at *
              rcases row_form hrow with ⟨rfl, hl0⟩ | ⟨go, capo, rfl, hgo, hcapo⟩
              · obtain rfl : l = [] := List.eq_nil_of_length_eq_zero hl0
                go_wp2_with fail
                refine hC.mono ?_
                rintro e w6 ⟨rfl, rfl⟩
                rw [hq]
                clear hC
                go_wp2_with (at_builtin; refine wpList_append_own _ rfl _ _ 23 rfl W6.heap.size 3 i0 (.int .i64 0) 1 8 Try.underlying23 hi hz0 hz1 hz2 rfl (by decide) _ _ _ rfl (hrow.alloc _) ⟨w6.heap.size, 0, none⟩ 1 1 [.int .i64 x] rfl rfl (cell_one_new _ _ _) (by intro u hu; simp at hu; subst hu; rfl) (by unfold maxLen; first | omega | (simp <;> omega)) (by first | omega | (simp <;> omega)) (by first | omega | (simp <;> omega)) ?_; intro u' w7 hown' hgrow _; have FD7 : Five w7 _ _ _ _ _ _ _ := kept_apart (FD.below ((Below.refl _ w6).alloc (Nat.le_refl _) _)) hgrow (fun k h1 h2 => by have := (hrow.lt k h2).1; simp [Value.ownBlock] at h1; omega); obtain ⟨e0, e1, e2, e3, e4⟩ := FD7.c; have g4 := FD7.f 4; obtain ⟨g', cap3, rfl⟩ := ownsRow_succ hown')
                go_roundw
                case rel =>
                  refine ⟨k + 1, _, by omega, by go_num, FD7.s4 _, ?_, ((hM.trans (Mid.of_below ((Below.refl _ w6).alloc (Nat.le_refl _) _))).app hgrow (fun k hk => (hrow.lt k hk).1)).set (p := ⟨kd, 4, none⟩) (Nat.le_refl _) (Nat.lt_succ_self _) _⟩
                  rw [HR2.out]
                  exact ownsRow_setCell_below (by simpa [nums] using hown') (a := ⟨kd, 4, none⟩) hzd _
                case measure => simp [intOf]; omega
              · go_wp2_with fail
                refine hC.mono ?_
                rintro e w6 ⟨rfl, rfl⟩
                rw [hq]
                clear hC
                go_wp2_with (at_builtin; refine wpList_append_own _ rfl _ _ 23 rfl W6.heap.size 3 i0 (.int .i64 0) 1 8 Try.underlying23 hi hz0 hz1 hz2 rfl (by decide) _ _ _ rfl (hrow.alloc _) ⟨w6.heap.size, 0, none⟩ 1 1 [.int .i64 x] rfl rfl (cell_one_new _ _ _) (by intro u hu; simp at hu; subst hu; rfl) (by unfold maxLen; first | omega | (simp <;> omega)) (by first | omega | (simp <;> omega)) (by first | omega | (simp <;> omega)) ?_; intro u' w7 hown' hgrow _; have FD7 : Five w7 _ _ _ _ _ _ _ := kept_apart (FD.below ((Below.refl _ w6).alloc (Nat.le_refl _) _)) hgrow (fun k h1 h2 => by have := (hrow.lt k h2).1; simp [Value.ownBlock] at h1; omega); obtain ⟨e0, e1, e2, e3, e4⟩ := FD7.c; have g4 := FD7.f 4; obtain ⟨g', cap3, rfl⟩ := ownsRow_succ hown')
                go_roundw
                case rel =>
                  refine ⟨k + 1, _, by omega, by go_num, FD7.s4 _, ?_, ((hM.trans (Mid.of_below ((Below.refl _ w6).alloc (Nat.le_refl _) _))).app hgrow (fun k hk => (hrow.lt k hk).1)).set (p := ⟨kd, 4, none⟩) (Nat.le_refl _) (Nat.lt_succ_self _) _⟩
                  rw [HR2.out]
                  exact ownsRow_setCell_below (by simpa [nums] using hown') (a := ⟨kd, 4, none⟩) hzd _
                case measure => simp [intOf]; omega
            · have HR2 := hid (HY.out hq)
              go_wp2_with fail
              refine hC.mono ?_
              rintro e w6 ⟨rfl, rfl⟩
              rw [hq]
              clear hC
              go_wp2_with fail
              go_roundw
              case rel => exact ⟨k + 1, rvv, by omega, by go_num, FD, by rw [HR2.out]; exact hrow, hM⟩
              case measure => simp [intOf]; omega
          · obtain rfl : k = b.rv.length := by omega
            rw [woNT_end] at hrow
            obtain ⟨xr, yr, zr, rfl⟩ := row_slice hrow
            obtain ⟨r0, r1, r2, r3, r4⟩ := FD.c
            obtain ⟨t0, t1, t2, t3, t4⟩ := J3.c
            have f0 := J3.f 0
            have f1 := J3.f 1
            have f2 := J3.f 2
            have f3 := J3.f 3
            have f4 := J3.f 4
            have G := ((((J3.s0 (.int .i64 a.num)).s1 (.int .i64 b.num)).s2 (.slice x4 y4 z4)).s3 (.slice x5 y5 z5)).s4 (.slice xr yr zr)
            have q4 := row_five (hM.row p4 (fun k hk => by have := row_apart p4 FD0 (by decide) k hk; simp [Value.ownBlock] at this; omega)) (k := w.heap.size + 1 + 1) D3.lt (.int .i64 a.num) (.int .i64 b.num) (.slice x4 y4 z4) (.slice x5 y5 z5) (.slice xr yr zr)
            have q5 := row_five (hM.row p5 (fun k hk => by have := row_apart p5 FD0 (by decide) k hk; simp [Value.ownBlock] at this; omega)) (k := w.heap.size + 1 + 1) G3.lt (.int .i64 a.num) (.int .i64 b.num) (.slice x4 y4 z4) (.slice x5 y5 z5) (.slice xr yr zr)
            have q6 := row_five hrow (k := w.heap.size + 1 + 1) (by omega) (.int .i64 a.num) (.int .i64 b.num) (.slice x4 y4 z4) (.slice x5 y5 z5) (.slice xr yr zr)
            have pB := below_five hBB6 (k := w.heap.size + 1 + 1) (by omega) (.int .i64 a.num) (.int .i64 b.num) (.slice x4 y4 z4) (.slice x5 y5 z5) (.slice xr yr zr)
            go_wp2_with fail
            clear r0 r1 r2 r3 r4 f0 f1 f2 f3 f4 t0 t1 t2 t3 t4
            generalize (((((wr.setCell ⟨w.heap.size + 1 + 1, 0, none⟩ (.int .i64 a.num)).setCell ⟨w.heap.size + 1 + 1, 1, none⟩ (.int .i64 b.num)).setCell ⟨w.heap.size + 1 + 1, 2, none⟩ (.slice x4 y4 z4)).setCell ⟨w.heap.size + 1 + 1, 3, none⟩ (.slice x5 y5 z5)).setCell ⟨w.heap.size + 1 + 1, 4, none⟩ (.slice xr yr zr)) = W9 at *
            obtain ⟨d0, d1, d2, d3, d4⟩ := G.c
            exact bodyPost_ret (v := .tuple #[.agg #[.int .i64 a.num, .int .i64 b.num, .slice x4 y4 z4, .slice x5 y5 z5, .slice xr yr zr], .bool true]) (by simp [results, Try.results19, go_sem, d0, d1, d2, d3, d4]) rfl ⟨_, by rw [HR.out], by rw [HX.out]; exact ⟨_, _, _, rfl, Go.Joins.ownsRow_le q4 hBBd.size, Go.Joins.ownsRow_le q5 hBB4.size, Go.Joins.ownsRow_le q6 (Nat.le_trans hBB5.size (Nat.le_refl _)), fun k hk => (q4.lt k hk).2, fun k hk => (q5.lt k hk).2, fun k hk => (q6.lt k hk).2, hap⟩, pB⟩

end Go.Proofs.Ytmmjiocmldnamaa
