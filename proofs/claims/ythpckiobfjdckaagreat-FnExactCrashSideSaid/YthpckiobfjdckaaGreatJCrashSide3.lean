/-
  Lists of versions marked by the laws, and held against the marks.
-/
import Derived.Deep.RegionHeld3
import Derived.Test.YthpckiobfjdckaaGreatJCrashSide2
import Derived.Shelf.Slices.Turned
import Derived.Test.YthpckiobfjdckaaGreatJCrashSide0
import Derived.Test.YthpckiobfjdckaaGreatJCrashSide1
import Derived.Shelf.SlicesQ.Equal
import Derived.Shelf.SlicesQ.Contains
import Derived.Shelf.SlicesE.Clone
import Derived.WalkLawsBesides
import Derived.Deep.DeepCutAuto
namespace Go.Proofs.YthpckiobfjdckaaGreat
open Go.RowKit Go.Shelf

set_option maxHeartbeats 2000000 in
theorem l5SameRules_any (v v' : Value) (rs ss : List Ru) (w : World) (_hm : rs.length ≤ 1048577) (hm' : ss.length ≤ 1048577) (hr : RuS w v rs) (hr' : RuS w v' ss) :
    Calls Tryz.prog 61 #[v, v'] w fun e w' => e = .returned (.bool (sameS rs ss)) ∧ Below w.heap.size w w' := by
  obtain ⟨a, cap, rfl⟩ := hr.len
  obtain ⟨a', cap', rfl⟩ := hr'.len
  by_cases hl : rs.length = ss.length
  · have e0 : ((rs.length : Int) != (ss.length : Int)) = false := by simp; omega
    have hl1 : rs.length ≤ ss.length := by omega
    have HL := hid hl
    clear hl
    go_enter Tryz.func61, Tryz.ntmps61
    go_wp2
    go_loopw [13] (fun i wr => ∃ k : Nat, k ≤ rs.length ∧ i = .int .i64 k ∧ sameTo rs ss k = true ∧ Below w.heap.size w wr) (fun i _ => rs.length - (intOf i).toNat)
    case atStart => exact ⟨0, Nat.zero_le _, rfl, sameTo_zero _ _, Below.refl _ _⟩
    case round =>
      obtain ⟨k, hk, rfl, hs, hB⟩ := hrel
      have HS := hid hs
      clear hs
      by_cases hlt : k < rs.length
      · have hlt' : k < ss.length := by omega
        obtain ⟨b, off, rfl, hb, hcap, q0, q1, q2, q3⟩ := (hr.below hB).at hlt
        obtain ⟨b', off', rfl, hb', hcap', p0, p1, p2, p3⟩ := (hr'.below hB).at hlt'
        have HT := hid (sameTo_succ hlt hlt')
        generalize rs[k] = r at *
        generalize ss[k] = s at *
        have hne := neq_ru r s
        cases hq : r.same s
        · have HR := hid (show sameS rs ss = false from same_bad (by rw [HT.out, hq, Bool.and_false]))
          go_wp2_with fail
          go_quiet (fail)
          go_wp2
          go_ret
          exact ⟨ret_bool HR.out.symm, below_drewn hB _⟩
        · have HR := hid (show sameTo rs ss (k + 1) = true by rw [HT.out, HS.out, hq]; rfl)
          go_wp2_with fail
          go_quiet (fail)
          go_wp2
          go_roundw
          case rel => exact ⟨k + 1, by omega, by go_num, HR.out, below_drewn hB _⟩
          case measure => simp [intOf]; omega
      · obtain rfl : k = rs.length := by omega
        have HR := hid (show sameS rs ss = true by rw [← same_end HL.out]; exact HS.out)
        go_wp2
        go_ret
        exact ⟨ret_bool HR.out.symm, hB⟩
  · have e0 : ((rs.length : Int) != (ss.length : Int)) = true := by simp; omega
    have HR := hid (show sameS rs ss = false by unfold sameS; rw [decide_eq_false hl]; rfl)
    clear hl
    go_enter Tryz.func61, Tryz.ntmps61
    go_wp2
    go_ret
    exact ⟨ret_bool HR.out.symm, Below.refl _ _⟩

/-- Numbers that rise, at most two hundred serials. -/
def riB (zs : List Int) : Bool := fewB zs && upN zs
theorem riB_no1 {zs : List Int} (h : okN 100001 zs = false) : riB zs = false := by unfold riB; rw [fewB_no2 h]; rfl
theorem riB_no2 {zs : List Int} (h : upN zs = false) : riB zs = false := by unfold riB; rw [h]; simp
theorem riB_len {zs : List Int} (h1 : okN 100001 zs = true) (h2 : upN zs = true) : riB zs = decide (zs.length ≤ 200) := by
  unfold riB fewB
  rw [h1, h2]
  simp

set_option maxHeartbeats 4000000 in
theorem l5Rising_any (v : Value) (zs : List Int) (w : World) (hm : zs.length ≤ 1048577) (hr : VS w v (nums zs)) :
    Calls Tryz.prog 62 #[v] w fun e w' => e = .returned (.bool (riB zs)) ∧ w' = w := by
  obtain ⟨a, cap, rfl⟩ := hr.numLen
  go_enter Tryz.func62, Tryz.ntmps62
  go_wp2
  go_loop [7] (fun i => ∃ n : Nat, n ≤ zs.length ∧ i = .int .i64 n ∧ ∀ j (hj : j < zs.length), j < n → (1 ≤ zs[j] ∧ zs[j] < 100001) ∧ upI zs j = true) (fun i => zs.length - (intOf i).toNat)
  case atStart => exact ⟨0, Nat.zero_le _, rfl, fun _ _ h => absurd h (Nat.not_lt_zero _)⟩
  case round =>
    obtain ⟨n, hn, rfl, ht⟩ := hrel
    have HT := hid ht
    clear ht
    by_cases hlt : n < zs.length
    · obtain ⟨b, off, rfl, hb, hcap, q0⟩ := hr.num hlt
      have HN := hid (fun h => riB_no1 (okN_no (nx := 100001) (zs := zs) hlt h))
      have HU := hid (fun h => riB_no2 (upN_no (zs := zs) hlt h))
      have HS := hid (show (1 ≤ zs[n] ∧ zs[n] < 100001) → upI zs n = true → ∀ j (hj : j < zs.length), j < n + 1 → (1 ≤ zs[j] ∧ zs[j] < 100001) ∧ upI zs j = true from fun h hu j hj hjn => by
        by_cases e : j = n
        · subst e; exact ⟨h, hu⟩
        · exact HT.out j hj (by omega))
      rcases Nat.eq_zero_or_pos n with rfl | hpos
      · have HZ := hid (show upI zs 0 = true from rfl)
        rw [Nat.add_zero] at q0
        generalize zs[0] = x at *
        by_cases hx : 1 ≤ x ∧ x < 100001
        · have hin : inB 1 100000 x = true := decide_eq_true (by omega)
          have HR := hid (HS.out hx HZ.out)
          clear hx
          go_wp2_with (go_at_call 59; refine (l1In_any x 1 100000 _).mono ?_; rintro e w1 ⟨rfl, rfl⟩; rw [hin])
          exact ⟨⟨1, by omega, by go_num, HR.out⟩, by simp [intOf]; omega⟩
        · have hin : inB 1 100000 x = false := decide_eq_false (by omega)
          have HR := hid (HN.out hx)
          clear hx
          go_wp2_with (go_at_call 59; refine (l1In_any x 1 100000 _).mono ?_; rintro e w1 ⟨rfl, rfl⟩; rw [hin])
          go_ret
          exact ⟨ret_bool HR.out.symm, rfl⟩
      · obtain ⟨m, hm1⟩ : ∃ m, n = m + 1 := ⟨n - 1, by omega⟩
        obtain ⟨b', off', hbo, _, _, p0⟩ := hr.num (i := m) (by omega)
        cases hbo
        have HI := hid (show upI zs n = decide ((zs[m]'(by omega)) < zs[n]) by subst hm1; exact upI_succ hlt)
        have hw1 : IntKind.i64.wrap ((n : Int) - 1) = (m : Int) := by rw [IntKind.wrap_i64]; omega
        have hl1 : (0 : Int) < (n : Int) := by omega
        have hl2 : (m : Int) < (zs.length : Int) := by omega
        generalize zs[n] = x at *
        generalize zs[m] = y at *
        clear hm1 hpos
        by_cases hx : 1 ≤ x ∧ x < 100001
        · have hin : inB 1 100000 x = true := decide_eq_true (by omega)
          by_cases hyx : y < x
          · have HR := hid (HS.out hx (by rw [HI.out]; exact decide_eq_true hyx))
            have hd : decide (x ≤ y) = false := decide_eq_false (by omega)
            clear hx
            go_wp2_with (go_at_call 59; refine (l1In_any x 1 100000 _).mono ?_; rintro e w1 ⟨rfl, rfl⟩; rw [hin])
            exact ⟨⟨n + 1, by omega, by go_num, HR.out⟩, by simp [intOf]; omega⟩
          · have HR := hid (HU.out (by rw [HI.out]; exact decide_eq_false hyx))
            have hd : decide (x ≤ y) = true := decide_eq_true (by omega)
            clear hx
            go_wp2_with (go_at_call 59; refine (l1In_any x 1 100000 _).mono ?_; rintro e w1 ⟨rfl, rfl⟩; rw [hin])
            go_ret
            exact ⟨ret_bool HR.out.symm, rfl⟩
        · have hin : inB 1 100000 x = false := decide_eq_false (by omega)
          have HR := hid (HN.out hx)
          clear hx
          go_wp2_with (go_at_call 59; refine (l1In_any x 1 100000 _).mono ?_; rintro e w1 ⟨rfl, rfl⟩; rw [hin])
          go_ret
          exact ⟨ret_bool HR.out.symm, rfl⟩
    · obtain rfl : n = zs.length := by omega
      have HR := hid (riB_len (okN_yes fun i hi => (HT.out i hi hi).1) (upN_yes fun i hi => (HT.out i hi hi).2))
      go_wp2
      go_ret
      exact ⟨ret_bool (by rw [HR.out]; exact decide_eq_decide.2 (by omega)), rfl⟩

set_option maxHeartbeats 8000000 in
theorem specGoodSnapshot_any (v : Value) (s : Sn) (w : World) (hs : s.short) (h : SnA w v s) :
    Calls Tryz.prog 31 #[v] w fun e w' => e = .returned (.bool (snB s)) ∧ Below w.heap.size w w' := by
  obtain ⟨vp, vr, rfl, h1, h2⟩ := h
  obtain ⟨l1, l2, hz⟩ := hs
  obtain ⟨ap, cp, rfl⟩ := h1.len
  obtain ⟨ar, cr, rfl⟩ := h2.numLen
  have hB0 : Below w.heap.size w (w.alloc (.cells #[.int .i64 s.num, .slice ap s.pol.length cp, .slice ar s.rv.length cr] 32)) := (Below.refl _ w).alloc (Nat.le_refl _) _
  have F := Three.new w (.int .i64 s.num) (.slice ap s.pol.length cp) (.slice ar s.rv.length cr) 32
  have hlt0 := F.lt
  have h1d := (h1.below hB0).below (Below.refl _ _).drew
  have h2d := (h2.below hB0).below (Below.refl _ _).drew
  obtain ⟨a0, a1, a2⟩ := F.c
  cases hin : inB 1 100000 s.num
  · have HR := hid (snB_no1 (s := s) hin)
    go_enter Tryz.func31, Tryz.ntmps31
    go_wp2_with fail
    generalize w.alloc (.cells #[.int .i64 s.num, .slice ap s.pol.length cp, .slice ar s.rv.length cr] 32) = W0 at *
    refine wp_region_held_drew (S := fun w' => w'.cell? ⟨w.heap.size, 0, none⟩ = some (.int .i64 s.num) ∧ w'.cell? ⟨w.heap.size, 1, none⟩ = some (.slice ap s.pol.length cp) ∧ w'.cell? ⟨w.heap.size, 2, none⟩ = some (.slice ar s.rv.length cr)) (by kernel_rfl) ?_ (fun hHeld => ?_)
    · go_keep
    refine takeW 0 (v := ?v1) rfl (by kernel_rfl) (by kernel_rfl) (by kernel_rfl) (fun _ _ _ h => h) (by rfl) (by assumption) ?hy1 ?rest1
    case hy1 => intro w' hSw; (try dsimp only at hSw); go_simp; try with_reducible rfl
    try simp only [Act.put, List.setIfInBounds_toArray, List.set_cons_zero, List.set_cons_succ]
    refine takeW 1 (v := ?v2) rfl (by kernel_rfl) (by kernel_rfl) (by kernel_rfl) (fun _ _ _ h => h) (by rfl) (by assumption) ?hy2 ?rest2
    case hy2 => intro w' hSw; (try dsimp only at hSw); go_simp; try with_reducible rfl
    try simp only [Act.put, List.setIfInBounds_toArray, List.set_cons_zero, List.set_cons_succ]
    refine takeC 2 (by kernel_rfl) rfl (fun K hK => ?_)
    go_simp
    refine (l1In_any s.num 1 100000 _).mono ?_; rintro e w1 ⟨he1, rfl⟩; rw [hin] at he1; subst he1
    refine hK.out _ _ ?_ (fun hHeld => ?_)
    · go_keep
    clear hK K
    try simp only [Act.put, List.setIfInBounds_toArray, List.set_cons_zero, List.set_cons_succ]
    refine takeW 3 (v := ?v3) rfl (by kernel_rfl) (by kernel_rfl) (by kernel_rfl) (fun _ _ _ h => h) (by rfl) (by assumption) ?hy3 ?rest3
    case hy3 => intro w' hSw; (try dsimp only at hSw); go_simp; try with_reducible rfl
    try simp only [Act.put, List.setIfInBounds_toArray, List.set_cons_zero, List.set_cons_succ]
    refine takeX 4 rfl (by kernel_rfl) (by kernel_rfl) (by kernel_rfl) (fun _ _ _ h => h) (by rfl) (by assumption) ?_
    try simp only [Act.put, List.setIfInBounds_toArray, List.set_cons_zero, List.set_cons_succ]
    refine takeX 5 rfl (by kernel_rfl) (by kernel_rfl) (by kernel_rfl) (fun _ _ _ h => h) (by rfl) (by assumption) ?_
    try simp only [Act.put, List.setIfInBounds_toArray, List.set_cons_zero, List.set_cons_succ]
    refine takeX 6 rfl (by kernel_rfl) (by kernel_rfl) (by kernel_rfl) (fun _ _ _ h => h) (by rfl) (by assumption) ?_
    try simp only [Act.put, List.setIfInBounds_toArray, List.set_cons_zero, List.set_cons_succ]
    refine takeW 7 (v := ?v4) rfl (by kernel_rfl) (by kernel_rfl) (by kernel_rfl) (fun _ _ _ h => h) (by rfl) (by assumption) ?hy4 ?rest4
    case hy4 => intro w' hSw; (try dsimp only at hSw); go_simp; try with_reducible rfl
    try simp only [Act.put, List.setIfInBounds_toArray, List.set_cons_zero, List.set_cons_succ]
    refine takeW 8 (v := ?v5) rfl (by kernel_rfl) (by kernel_rfl) (by kernel_rfl) (fun _ _ _ h => h) (by rfl) (by assumption) ?hy5 ?rest5
    case hy5 => intro w' hSw; (try dsimp only at hSw); go_simp; try with_reducible rfl
    try simp only [Act.put, List.setIfInBounds_toArray, List.set_cons_zero, List.set_cons_succ]
    refine takeX 9 rfl (by kernel_rfl) (by kernel_rfl) (by kernel_rfl) (fun _ _ _ h => h) (by rfl) (by assumption) ?_
    try simp only [Act.put, List.setIfInBounds_toArray, List.set_cons_zero, List.set_cons_succ]
    refine takeX 10 rfl (by kernel_rfl) (by kernel_rfl) (by kernel_rfl) (fun _ _ _ h => h) (by rfl) (by assumption) ?_
    try simp only [Act.put, List.setIfInBounds_toArray, List.set_cons_zero, List.set_cons_succ]
    refine takeX 11 rfl (by kernel_rfl) (by kernel_rfl) (by kernel_rfl) (fun _ _ _ h => h) (by rfl) (by assumption) ?_
    try simp only [Act.put, List.setIfInBounds_toArray, List.set_cons_zero, List.set_cons_succ]
    refine takeX 12 rfl (by kernel_rfl) (by kernel_rfl) (by kernel_rfl) (fun _ _ _ h => h) (by rfl) (by assumption) ?_
    try simp only [Act.put, List.setIfInBounds_toArray, List.set_cons_zero, List.set_cons_succ]
    refine takeX 13 rfl (by kernel_rfl) (by kernel_rfl) (by kernel_rfl) (fun _ _ _ h => h) (by rfl) (by assumption) ?_
    try simp only [Act.put, List.setIfInBounds_toArray, List.set_cons_zero, List.set_cons_succ]
    refine takeX 14 rfl (by kernel_rfl) (by kernel_rfl) (by kernel_rfl) (fun _ _ _ h => h) (by rfl) (by assumption) ?_
    try simp only [Act.put, List.setIfInBounds_toArray, List.set_cons_zero, List.set_cons_succ]
    refine takeW 15 (v := ?v6) rfl (by kernel_rfl) (by kernel_rfl) (by kernel_rfl) (fun _ _ _ h => h) (by rfl) (by assumption) ?hy6 ?rest6
    case hy6 => intro w' hSw; (try dsimp only at hSw); go_simp; try with_reducible rfl
    try simp only [Act.put, List.setIfInBounds_toArray, List.set_cons_zero, List.set_cons_succ]
    refine takeW 16 (v := ?v7) rfl (by kernel_rfl) (by kernel_rfl) (by kernel_rfl) (fun _ _ _ h => h) (by rfl) (by assumption) ?hy7 ?rest7
    case hy7 => intro w' hSw; (try dsimp only at hSw); go_simp; try with_reducible rfl
    try simp only [Act.put, List.setIfInBounds_toArray, List.set_cons_zero, List.set_cons_succ]
    refine takeX 17 rfl (by kernel_rfl) (by kernel_rfl) (by kernel_rfl) (fun _ _ _ h => h) (by rfl) (by assumption) ?_
    try simp only [Act.put, List.setIfInBounds_toArray, List.set_cons_zero, List.set_cons_succ]
    refine takeX 18 rfl (by kernel_rfl) (by kernel_rfl) (by kernel_rfl) (fun _ _ _ h => h) (by rfl) (by assumption) ?_
    try simp only [Act.put, List.setIfInBounds_toArray, List.set_cons_zero, List.set_cons_succ]
    refine takeX 19 rfl (by kernel_rfl) (by kernel_rfl) (by kernel_rfl) (fun _ _ _ h => h) (by rfl) (by assumption) ?_
    try simp only [Act.put, List.setIfInBounds_toArray, List.set_cons_zero, List.set_cons_succ]
    refine takeW 20 (v := ?v8) rfl (by kernel_rfl) (by kernel_rfl) (by kernel_rfl) (fun _ _ _ h => h) (by rfl) (by assumption) ?hy8 ?rest8
    case hy8 => intro w' hSw; (try dsimp only at hSw); go_simp; try with_reducible rfl
    try simp only [Act.put, List.setIfInBounds_toArray, List.set_cons_zero, List.set_cons_succ]
    refine takeW 21 (v := ?v9) rfl (by kernel_rfl) (by kernel_rfl) (by kernel_rfl) (fun _ _ _ h => h) (by rfl) (by assumption) ?hy9 ?rest9
    case hy9 => intro w' hSw; (try dsimp only at hSw); go_simp; try with_reducible rfl
    try simp only [Act.put, List.setIfInBounds_toArray, List.set_cons_zero, List.set_cons_succ]
    refine wpAnyH_done (by kernel_rfl) ?_ _
    go_wp2_with fail
    go_ret
    exact ⟨ret_bool HR.out.symm, below_one hB0 (Below.refl _ _).drew⟩
  have HN := hid (show numB s.num = true from hin)
  cases hpo : polB s.pol
  · have HR := hid (snB_no2 hpo)
    go_enter Tryz.func31, Tryz.ntmps31
    go_wp2_with fail
    generalize w.alloc (.cells #[.int .i64 s.num, .slice ap s.pol.length cp, .slice ar s.rv.length cr] 32) = W0 at *
    refine wp_region_held_drew (S := fun w' => w'.cell? ⟨w.heap.size, 0, none⟩ = some (.int .i64 s.num) ∧ w'.cell? ⟨w.heap.size, 1, none⟩ = some (.slice ap s.pol.length cp) ∧ w'.cell? ⟨w.heap.size, 2, none⟩ = some (.slice ar s.rv.length cr)) (by kernel_rfl) ?_ (fun hHeld => ?_)
    · go_keep
    refine takeW 0 (v := ?v10) rfl (by kernel_rfl) (by kernel_rfl) (by kernel_rfl) (fun _ _ _ h => h) (by rfl) (by assumption) ?hy10 ?rest10
    case hy10 => intro w' hSw; (try dsimp only at hSw); go_simp; try with_reducible rfl
    try simp only [Act.put, List.setIfInBounds_toArray, List.set_cons_zero, List.set_cons_succ]
    refine takeW 1 (v := ?v11) rfl (by kernel_rfl) (by kernel_rfl) (by kernel_rfl) (fun _ _ _ h => h) (by rfl) (by assumption) ?hy11 ?rest11
    case hy11 => intro w' hSw; (try dsimp only at hSw); go_simp; try with_reducible rfl
    try simp only [Act.put, List.setIfInBounds_toArray, List.set_cons_zero, List.set_cons_succ]
    refine takeC 2 (by kernel_rfl) rfl (fun K hK => ?_)
    go_simp
    refine (l1In_any s.num 1 100000 _).mono ?_; rintro e w1 ⟨he1, rfl⟩; rw [hin] at he1; subst he1
    refine hK.out _ _ ?_ (fun hHeld => ?_)
    · go_keep
    clear hK K
    try simp only [Act.put, List.setIfInBounds_toArray, List.set_cons_zero, List.set_cons_succ]
    refine takeW 3 (v := ?v12) rfl (by kernel_rfl) (by kernel_rfl) (by kernel_rfl) (fun _ _ _ h => h) (by rfl) (by assumption) ?hy12 ?rest12
    case hy12 => intro w' hSw; (try dsimp only at hSw); go_simp; try with_reducible rfl
    try simp only [Act.put, List.setIfInBounds_toArray, List.set_cons_zero, List.set_cons_succ]
    refine takeW 4 (v := ?v13) rfl (by kernel_rfl) (by kernel_rfl) (by kernel_rfl) (fun _ _ _ h => h) (by rfl) (by assumption) ?hy13 ?rest13
    case hy13 => intro w' hSw; (try dsimp only at hSw); go_simp; try with_reducible rfl
    try simp only [Act.put, List.setIfInBounds_toArray, List.set_cons_zero, List.set_cons_succ]
    refine takeW 5 (v := ?v14) rfl (by kernel_rfl) (by kernel_rfl) (by kernel_rfl) (fun _ _ _ h => h) (by rfl) (by assumption) ?hy14 ?rest14
    case hy14 => intro w' hSw; (try dsimp only at hSw); go_simp; try with_reducible rfl
    try simp only [Act.put, List.setIfInBounds_toArray, List.set_cons_zero, List.set_cons_succ]
    refine takeC 6 (by kernel_rfl) rfl (fun K hK => ?_)
    go_simp
    refine (l2Good_any _ s.pol _ (by omega) hz (by exact h1d)).mono ?_; rintro e w2 ⟨he2, hB2⟩; rw [hpo] at he2; subst he2; have hc2 := fun o => hB2.cell (p := ⟨w.heap.size, o, none⟩) (by exact hlt0); have hlt2 : w.heap.size < w2.heap.size := Nat.lt_of_lt_of_le hlt0 hB2.size
    refine hK.out _ _ ?_ (fun hHeld => ?_)
    · go_keep
    clear hK K
    try simp only [Act.put, List.setIfInBounds_toArray, List.set_cons_zero, List.set_cons_succ]
    refine takeW 7 (v := ?v15) rfl (by kernel_rfl) (by kernel_rfl) (by kernel_rfl) (fun _ _ _ h => h) (by rfl) (by assumption) ?hy15 ?rest15
    case hy15 => intro w' hSw; (try dsimp only at hSw); go_simp; try with_reducible rfl
    try simp only [Act.put, List.setIfInBounds_toArray, List.set_cons_zero, List.set_cons_succ]
    refine takeW 8 (v := ?v16) rfl (by kernel_rfl) (by kernel_rfl) (by kernel_rfl) (fun _ _ _ h => h) (by rfl) (by assumption) ?hy16 ?rest16
    case hy16 => intro w' hSw; (try dsimp only at hSw); go_simp; try with_reducible rfl
    try simp only [Act.put, List.setIfInBounds_toArray, List.set_cons_zero, List.set_cons_succ]
    refine takeX 9 rfl (by kernel_rfl) (by kernel_rfl) (by kernel_rfl) (fun _ _ _ h => h) (by rfl) (by assumption) ?_
    try simp only [Act.put, List.setIfInBounds_toArray, List.set_cons_zero, List.set_cons_succ]
    refine takeX 10 rfl (by kernel_rfl) (by kernel_rfl) (by kernel_rfl) (fun _ _ _ h => h) (by rfl) (by assumption) ?_
    try simp only [Act.put, List.setIfInBounds_toArray, List.set_cons_zero, List.set_cons_succ]
    refine takeX 11 rfl (by kernel_rfl) (by kernel_rfl) (by kernel_rfl) (fun _ _ _ h => h) (by rfl) (by assumption) ?_
    try simp only [Act.put, List.setIfInBounds_toArray, List.set_cons_zero, List.set_cons_succ]
    refine takeX 12 rfl (by kernel_rfl) (by kernel_rfl) (by kernel_rfl) (fun _ _ _ h => h) (by rfl) (by assumption) ?_
    try simp only [Act.put, List.setIfInBounds_toArray, List.set_cons_zero, List.set_cons_succ]
    refine takeX 13 rfl (by kernel_rfl) (by kernel_rfl) (by kernel_rfl) (fun _ _ _ h => h) (by rfl) (by assumption) ?_
    try simp only [Act.put, List.setIfInBounds_toArray, List.set_cons_zero, List.set_cons_succ]
    refine takeX 14 rfl (by kernel_rfl) (by kernel_rfl) (by kernel_rfl) (fun _ _ _ h => h) (by rfl) (by assumption) ?_
    try simp only [Act.put, List.setIfInBounds_toArray, List.set_cons_zero, List.set_cons_succ]
    refine takeW 15 (v := ?v17) rfl (by kernel_rfl) (by kernel_rfl) (by kernel_rfl) (fun _ _ _ h => h) (by rfl) (by assumption) ?hy17 ?rest17
    case hy17 => intro w' hSw; (try dsimp only at hSw); go_simp; try with_reducible rfl
    try simp only [Act.put, List.setIfInBounds_toArray, List.set_cons_zero, List.set_cons_succ]
    refine takeW 16 (v := ?v18) rfl (by kernel_rfl) (by kernel_rfl) (by kernel_rfl) (fun _ _ _ h => h) (by rfl) (by assumption) ?hy18 ?rest18
    case hy18 => intro w' hSw; (try dsimp only at hSw); go_simp; try with_reducible rfl
    try simp only [Act.put, List.setIfInBounds_toArray, List.set_cons_zero, List.set_cons_succ]
    refine takeX 17 rfl (by kernel_rfl) (by kernel_rfl) (by kernel_rfl) (fun _ _ _ h => h) (by rfl) (by assumption) ?_
    try simp only [Act.put, List.setIfInBounds_toArray, List.set_cons_zero, List.set_cons_succ]
    refine takeX 18 rfl (by kernel_rfl) (by kernel_rfl) (by kernel_rfl) (fun _ _ _ h => h) (by rfl) (by assumption) ?_
    try simp only [Act.put, List.setIfInBounds_toArray, List.set_cons_zero, List.set_cons_succ]
    refine takeX 19 rfl (by kernel_rfl) (by kernel_rfl) (by kernel_rfl) (fun _ _ _ h => h) (by rfl) (by assumption) ?_
    try simp only [Act.put, List.setIfInBounds_toArray, List.set_cons_zero, List.set_cons_succ]
    refine takeW 20 (v := ?v19) rfl (by kernel_rfl) (by kernel_rfl) (by kernel_rfl) (fun _ _ _ h => h) (by rfl) (by assumption) ?hy19 ?rest19
    case hy19 => intro w' hSw; (try dsimp only at hSw); go_simp; try with_reducible rfl
    try simp only [Act.put, List.setIfInBounds_toArray, List.set_cons_zero, List.set_cons_succ]
    refine takeW 21 (v := ?v20) rfl (by kernel_rfl) (by kernel_rfl) (by kernel_rfl) (fun _ _ _ h => h) (by rfl) (by assumption) ?hy20 ?rest20
    case hy20 => intro w' hSw; (try dsimp only at hSw); go_simp; try with_reducible rfl
    try simp only [Act.put, List.setIfInBounds_toArray, List.set_cons_zero, List.set_cons_succ]
    refine wpAnyH_done (by kernel_rfl) ?_ _
    go_wp2_with fail
    go_ret
    exact ⟨ret_bool HR.out.symm, below_one hB0 (below_drew1 hB2)⟩
  have h30 := (pol_all hpo).2
  have hpl : (plTo s.pol s.pol.length).length ≤ 1048577 := by have := plTo_len (rs := s.pol) _ (Nat.le_refl _); omega
  cases hsm : sameS (plTo s.pol s.pol.length) s.pol
  · have HR := hid (snB_no3 (s := s) (by rw [plX_yes hpo]; exact hsm))
    go_enter Tryz.func31, Tryz.ntmps31
    go_wp2_with fail
    generalize w.alloc (.cells #[.int .i64 s.num, .slice ap s.pol.length cp, .slice ar s.rv.length cr] 32) = W0 at *
    refine wp_region_held_drew (S := fun w' => w'.cell? ⟨w.heap.size, 0, none⟩ = some (.int .i64 s.num) ∧ w'.cell? ⟨w.heap.size, 1, none⟩ = some (.slice ap s.pol.length cp) ∧ w'.cell? ⟨w.heap.size, 2, none⟩ = some (.slice ar s.rv.length cr)) (by kernel_rfl) ?_ (fun hHeld => ?_)
    · go_keep
    refine takeW 0 (v := ?v21) rfl (by kernel_rfl) (by kernel_rfl) (by kernel_rfl) (fun _ _ _ h => h) (by rfl) (by assumption) ?hy21 ?rest21
    case hy21 => intro w' hSw; (try dsimp only at hSw); go_simp; try with_reducible rfl
    try simp only [Act.put, List.setIfInBounds_toArray, List.set_cons_zero, List.set_cons_succ]
    refine takeW 1 (v := ?v22) rfl (by kernel_rfl) (by kernel_rfl) (by kernel_rfl) (fun _ _ _ h => h) (by rfl) (by assumption) ?hy22 ?rest22
    case hy22 => intro w' hSw; (try dsimp only at hSw); go_simp; try with_reducible rfl
    try simp only [Act.put, List.setIfInBounds_toArray, List.set_cons_zero, List.set_cons_succ]
    refine takeC 2 (by kernel_rfl) rfl (fun K hK => ?_)
    go_simp
    refine (l1In_any s.num 1 100000 _).mono ?_; rintro e w1 ⟨he1, rfl⟩; rw [hin] at he1; subst he1
    refine hK.out _ _ ?_ (fun hHeld => ?_)
    · go_keep
    clear hK K
    try simp only [Act.put, List.setIfInBounds_toArray, List.set_cons_zero, List.set_cons_succ]
    refine takeW 3 (v := ?v23) rfl (by kernel_rfl) (by kernel_rfl) (by kernel_rfl) (fun _ _ _ h => h) (by rfl) (by assumption) ?hy23 ?rest23
    case hy23 => intro w' hSw; (try dsimp only at hSw); go_simp; try with_reducible rfl
    try simp only [Act.put, List.setIfInBounds_toArray, List.set_cons_zero, List.set_cons_succ]
    refine takeW 4 (v := ?v24) rfl (by kernel_rfl) (by kernel_rfl) (by kernel_rfl) (fun _ _ _ h => h) (by rfl) (by assumption) ?hy24 ?rest24
    case hy24 => intro w' hSw; (try dsimp only at hSw); go_simp; try with_reducible rfl
    try simp only [Act.put, List.setIfInBounds_toArray, List.set_cons_zero, List.set_cons_succ]
    refine takeW 5 (v := ?v25) rfl (by kernel_rfl) (by kernel_rfl) (by kernel_rfl) (fun _ _ _ h => h) (by rfl) (by assumption) ?hy25 ?rest25
    case hy25 => intro w' hSw; (try dsimp only at hSw); go_simp; try with_reducible rfl
    try simp only [Act.put, List.setIfInBounds_toArray, List.set_cons_zero, List.set_cons_succ]
    refine takeC 6 (by kernel_rfl) rfl (fun K hK => ?_)
    go_simp
    refine (l2Good_any _ s.pol _ (by omega) hz (by exact h1d)).mono ?_; rintro e w2 ⟨he2, hB2⟩; rw [hpo] at he2; subst he2; have hc2 := fun o => hB2.cell (p := ⟨w.heap.size, o, none⟩) (by exact hlt0); have hlt2 : w.heap.size < w2.heap.size := Nat.lt_of_lt_of_le hlt0 hB2.size
    refine hK.out _ _ ?_ (fun hHeld => ?_)
    · go_keep
    clear hK K
    try simp only [Act.put, List.setIfInBounds_toArray, List.set_cons_zero, List.set_cons_succ]
    refine takeW 7 (v := ?v26) rfl (by kernel_rfl) (by kernel_rfl) (by kernel_rfl) (fun _ _ _ h => h) (by rfl) (by assumption) ?hy26 ?rest26
    case hy26 => intro w' hSw; (try dsimp only at hSw); go_simp; try with_reducible rfl
    try simp only [Act.put, List.setIfInBounds_toArray, List.set_cons_zero, List.set_cons_succ]
    refine takeW 8 (v := ?v27) rfl (by kernel_rfl) (by kernel_rfl) (by kernel_rfl) (fun _ _ _ h => h) (by rfl) (by assumption) ?hy27 ?rest27
    case hy27 => intro w' hSw; (try dsimp only at hSw); go_simp; try with_reducible rfl
    try simp only [Act.put, List.setIfInBounds_toArray, List.set_cons_zero, List.set_cons_succ]
    refine takeW 9 (v := ?v28) rfl (by kernel_rfl) (by kernel_rfl) (by kernel_rfl) (fun _ _ _ h => h) (by rfl) (by assumption) ?hy28 ?rest28
    case hy28 => intro w' hSw; (try dsimp only at hSw); go_simp; try with_reducible rfl
    try simp only [Act.put, List.setIfInBounds_toArray, List.set_cons_zero, List.set_cons_succ]
    refine takeW 10 (v := ?v29) rfl (by kernel_rfl) (by kernel_rfl) (by kernel_rfl) (fun _ _ _ h => h) (by rfl) (by assumption) ?hy29 ?rest29
    case hy29 => intro w' hSw; (try dsimp only at hSw); go_simp; try with_reducible rfl
    try simp only [Act.put, List.setIfInBounds_toArray, List.set_cons_zero, List.set_cons_succ]
    refine takeW 12 (v := ?v30) rfl (by kernel_rfl) (by kernel_rfl) (by kernel_rfl) (fun _ _ _ h => h) (by rfl) (by assumption) ?hy30 ?rest30
    case hy30 => intro w' hSw; (try dsimp only at hSw); go_simp; try with_reducible rfl
    try simp only [Act.put, List.setIfInBounds_toArray, List.set_cons_zero, List.set_cons_succ]
    refine takeW 13 (v := ?v31) rfl (by kernel_rfl) (by kernel_rfl) (by kernel_rfl) (fun _ _ _ h => h) (by rfl) (by assumption) ?hy31 ?rest31
    case hy31 => intro w' hSw; (try dsimp only at hSw); go_simp; try with_reducible rfl
    try simp only [Act.put, List.setIfInBounds_toArray, List.set_cons_zero, List.set_cons_succ]
    refine takeC 11 (by kernel_rfl) rfl (fun K hK => ?_)
    go_simp
    refine (l2Plain_any _ s.pol _ h30 hz (by exact h1d.below hB2)).mono ?_; rintro e w3 ⟨v3, rfl, o3, hB3⟩; obtain ⟨a3, k3, rfl⟩ := ownsRow_len o3; have hc3 := fun o => hB3.cell (p := ⟨w.heap.size, o, none⟩) (by exact hlt2); have hlt3 : w.heap.size < w3.heap.size := Nat.lt_of_lt_of_le hlt2 hB3.size
    refine hK.out _ _ ?_ (fun hHeld => ?_)
    · go_keep
    clear hK K
    try simp only [Act.put, List.setIfInBounds_toArray, List.set_cons_zero, List.set_cons_succ]
    refine takeC 14 (by kernel_rfl) rfl (fun K hK => ?_)
    go_simp
    refine (l5SameRules_any _ _ _ s.pol _ hpl (by omega) (RuS.own o3) (by exact (h1d.below hB2).below hB3)).mono ?_; rintro e w4 ⟨he4, hB4⟩; rw [hsm] at he4; subst he4; have hc4 := fun o => hB4.cell (p := ⟨w.heap.size, o, none⟩) (by exact hlt3); have hlt4 : w.heap.size < w4.heap.size := Nat.lt_of_lt_of_le hlt3 hB4.size
    refine hK.out _ _ ?_ (fun hHeld => ?_)
    · go_keep
    clear hK K
    try simp only [Act.put, List.setIfInBounds_toArray, List.set_cons_zero, List.set_cons_succ]
    refine takeW 15 (v := ?v32) rfl (by kernel_rfl) (by kernel_rfl) (by kernel_rfl) (fun _ _ _ h => h) (by rfl) (by assumption) ?hy32 ?rest32
    case hy32 => intro w' hSw; (try dsimp only at hSw); go_simp; try with_reducible rfl
    try simp only [Act.put, List.setIfInBounds_toArray, List.set_cons_zero, List.set_cons_succ]
    refine takeW 16 (v := ?v33) rfl (by kernel_rfl) (by kernel_rfl) (by kernel_rfl) (fun _ _ _ h => h) (by rfl) (by assumption) ?hy33 ?rest33
    case hy33 => intro w' hSw; (try dsimp only at hSw); go_simp; try with_reducible rfl
    try simp only [Act.put, List.setIfInBounds_toArray, List.set_cons_zero, List.set_cons_succ]
    refine takeX 17 rfl (by kernel_rfl) (by kernel_rfl) (by kernel_rfl) (fun _ _ _ h => h) (by rfl) (by assumption) ?_
    try simp only [Act.put, List.setIfInBounds_toArray, List.set_cons_zero, List.set_cons_succ]
    refine takeX 18 rfl (by kernel_rfl) (by kernel_rfl) (by kernel_rfl) (fun _ _ _ h => h) (by rfl) (by assumption) ?_
    try simp only [Act.put, List.setIfInBounds_toArray, List.set_cons_zero, List.set_cons_succ]
    refine takeX 19 rfl (by kernel_rfl) (by kernel_rfl) (by kernel_rfl) (fun _ _ _ h => h) (by rfl) (by assumption) ?_
    try simp only [Act.put, List.setIfInBounds_toArray, List.set_cons_zero, List.set_cons_succ]
    refine takeW 20 (v := ?v34) rfl (by kernel_rfl) (by kernel_rfl) (by kernel_rfl) (fun _ _ _ h => h) (by rfl) (by assumption) ?hy34 ?rest34
    case hy34 => intro w' hSw; (try dsimp only at hSw); go_simp; try with_reducible rfl
    try simp only [Act.put, List.setIfInBounds_toArray, List.set_cons_zero, List.set_cons_succ]
    refine takeW 21 (v := ?v35) rfl (by kernel_rfl) (by kernel_rfl) (by kernel_rfl) (fun _ _ _ h => h) (by rfl) (by assumption) ?hy35 ?rest35
    case hy35 => intro w' hSw; (try dsimp only at hSw); go_simp; try with_reducible rfl
    try simp only [Act.put, List.setIfInBounds_toArray, List.set_cons_zero, List.set_cons_succ]
    refine wpAnyH_done (by kernel_rfl) ?_ _
    go_wp2_with fail
    go_ret
    exact ⟨ret_bool HR.out.symm, below_one hB0 (below_drew1 (below_one (below_one hB2 hB3) hB4))⟩
  cases hri : riB s.rv
  · have HR := hid (show snB s = false by unfold riB at hri; rw [Bool.and_eq_false_iff] at hri; rcases hri with h | h; exact snB_no4 h; exact snB_no5 h)
    go_enter Tryz.func31, Tryz.ntmps31
    go_wp2_with fail
    generalize w.alloc (.cells #[.int .i64 s.num, .slice ap s.pol.length cp, .slice ar s.rv.length cr] 32) = W0 at *
    refine wp_region_held_drew (S := fun w' => w'.cell? ⟨w.heap.size, 0, none⟩ = some (.int .i64 s.num) ∧ w'.cell? ⟨w.heap.size, 1, none⟩ = some (.slice ap s.pol.length cp) ∧ w'.cell? ⟨w.heap.size, 2, none⟩ = some (.slice ar s.rv.length cr)) (by kernel_rfl) ?_ (fun hHeld => ?_)
    · go_keep
    refine takeW 0 (v := ?v36) rfl (by kernel_rfl) (by kernel_rfl) (by kernel_rfl) (fun _ _ _ h => h) (by rfl) (by assumption) ?hy36 ?rest36
    case hy36 => intro w' hSw; (try dsimp only at hSw); go_simp; try with_reducible rfl
    try simp only [Act.put, List.setIfInBounds_toArray, List.set_cons_zero, List.set_cons_succ]
    refine takeW 1 (v := ?v37) rfl (by kernel_rfl) (by kernel_rfl) (by kernel_rfl) (fun _ _ _ h => h) (by rfl) (by assumption) ?hy37 ?rest37
    case hy37 => intro w' hSw; (try dsimp only at hSw); go_simp; try with_reducible rfl
    try simp only [Act.put, List.setIfInBounds_toArray, List.set_cons_zero, List.set_cons_succ]
    refine takeC 2 (by kernel_rfl) rfl (fun K hK => ?_)
    go_simp
    refine (l1In_any s.num 1 100000 _).mono ?_; rintro e w1 ⟨he1, rfl⟩; rw [hin] at he1; subst he1
    refine hK.out _ _ ?_ (fun hHeld => ?_)
    · go_keep
    clear hK K
    try simp only [Act.put, List.setIfInBounds_toArray, List.set_cons_zero, List.set_cons_succ]
    refine takeW 3 (v := ?v38) rfl (by kernel_rfl) (by kernel_rfl) (by kernel_rfl) (fun _ _ _ h => h) (by rfl) (by assumption) ?hy38 ?rest38
    case hy38 => intro w' hSw; (try dsimp only at hSw); go_simp; try with_reducible rfl
    try simp only [Act.put, List.setIfInBounds_toArray, List.set_cons_zero, List.set_cons_succ]
    refine takeW 4 (v := ?v39) rfl (by kernel_rfl) (by kernel_rfl) (by kernel_rfl) (fun _ _ _ h => h) (by rfl) (by assumption) ?hy39 ?rest39
    case hy39 => intro w' hSw; (try dsimp only at hSw); go_simp; try with_reducible rfl
    try simp only [Act.put, List.setIfInBounds_toArray, List.set_cons_zero, List.set_cons_succ]
    refine takeW 5 (v := ?v40) rfl (by kernel_rfl) (by kernel_rfl) (by kernel_rfl) (fun _ _ _ h => h) (by rfl) (by assumption) ?hy40 ?rest40
    case hy40 => intro w' hSw; (try dsimp only at hSw); go_simp; try with_reducible rfl
    try simp only [Act.put, List.setIfInBounds_toArray, List.set_cons_zero, List.set_cons_succ]
    refine takeC 6 (by kernel_rfl) rfl (fun K hK => ?_)
    go_simp
    refine (l2Good_any _ s.pol _ (by omega) hz (by exact h1d)).mono ?_; rintro e w2 ⟨he2, hB2⟩; rw [hpo] at he2; subst he2; have hc2 := fun o => hB2.cell (p := ⟨w.heap.size, o, none⟩) (by exact hlt0); have hlt2 : w.heap.size < w2.heap.size := Nat.lt_of_lt_of_le hlt0 hB2.size
    refine hK.out _ _ ?_ (fun hHeld => ?_)
    · go_keep
    clear hK K
    try simp only [Act.put, List.setIfInBounds_toArray, List.set_cons_zero, List.set_cons_succ]
    refine takeW 7 (v := ?v41) rfl (by kernel_rfl) (by kernel_rfl) (by kernel_rfl) (fun _ _ _ h => h) (by rfl) (by assumption) ?hy41 ?rest41
    case hy41 => intro w' hSw; (try dsimp only at hSw); go_simp; try with_reducible rfl
    try simp only [Act.put, List.setIfInBounds_toArray, List.set_cons_zero, List.set_cons_succ]
    refine takeW 8 (v := ?v42) rfl (by kernel_rfl) (by kernel_rfl) (by kernel_rfl) (fun _ _ _ h => h) (by rfl) (by assumption) ?hy42 ?rest42
    case hy42 => intro w' hSw; (try dsimp only at hSw); go_simp; try with_reducible rfl
    try simp only [Act.put, List.setIfInBounds_toArray, List.set_cons_zero, List.set_cons_succ]
    refine takeW 9 (v := ?v43) rfl (by kernel_rfl) (by kernel_rfl) (by kernel_rfl) (fun _ _ _ h => h) (by rfl) (by assumption) ?hy43 ?rest43
    case hy43 => intro w' hSw; (try dsimp only at hSw); go_simp; try with_reducible rfl
    try simp only [Act.put, List.setIfInBounds_toArray, List.set_cons_zero, List.set_cons_succ]
    refine takeW 10 (v := ?v44) rfl (by kernel_rfl) (by kernel_rfl) (by kernel_rfl) (fun _ _ _ h => h) (by rfl) (by assumption) ?hy44 ?rest44
    case hy44 => intro w' hSw; (try dsimp only at hSw); go_simp; try with_reducible rfl
    try simp only [Act.put, List.setIfInBounds_toArray, List.set_cons_zero, List.set_cons_succ]
    refine takeW 12 (v := ?v45) rfl (by kernel_rfl) (by kernel_rfl) (by kernel_rfl) (fun _ _ _ h => h) (by rfl) (by assumption) ?hy45 ?rest45
    case hy45 => intro w' hSw; (try dsimp only at hSw); go_simp; try with_reducible rfl
    try simp only [Act.put, List.setIfInBounds_toArray, List.set_cons_zero, List.set_cons_succ]
    refine takeW 13 (v := ?v46) rfl (by kernel_rfl) (by kernel_rfl) (by kernel_rfl) (fun _ _ _ h => h) (by rfl) (by assumption) ?hy46 ?rest46
    case hy46 => intro w' hSw; (try dsimp only at hSw); go_simp; try with_reducible rfl
    try simp only [Act.put, List.setIfInBounds_toArray, List.set_cons_zero, List.set_cons_succ]
    refine takeC 11 (by kernel_rfl) rfl (fun K hK => ?_)
    go_simp
    refine (l2Plain_any _ s.pol _ h30 hz (by exact h1d.below hB2)).mono ?_; rintro e w3 ⟨v3, rfl, o3, hB3⟩; obtain ⟨a3, k3, rfl⟩ := ownsRow_len o3; have hc3 := fun o => hB3.cell (p := ⟨w.heap.size, o, none⟩) (by exact hlt2); have hlt3 : w.heap.size < w3.heap.size := Nat.lt_of_lt_of_le hlt2 hB3.size
    refine hK.out _ _ ?_ (fun hHeld => ?_)
    · go_keep
    clear hK K
    try simp only [Act.put, List.setIfInBounds_toArray, List.set_cons_zero, List.set_cons_succ]
    refine takeC 14 (by kernel_rfl) rfl (fun K hK => ?_)
    go_simp
    refine (l5SameRules_any _ _ _ s.pol _ hpl (by omega) (RuS.own o3) (by exact (h1d.below hB2).below hB3)).mono ?_; rintro e w4 ⟨he4, hB4⟩; rw [hsm] at he4; subst he4; have hc4 := fun o => hB4.cell (p := ⟨w.heap.size, o, none⟩) (by exact hlt3); have hlt4 : w.heap.size < w4.heap.size := Nat.lt_of_lt_of_le hlt3 hB4.size
    refine hK.out _ _ ?_ (fun hHeld => ?_)
    · go_keep
    clear hK K
    try simp only [Act.put, List.setIfInBounds_toArray, List.set_cons_zero, List.set_cons_succ]
    refine takeW 15 (v := ?v47) rfl (by kernel_rfl) (by kernel_rfl) (by kernel_rfl) (fun _ _ _ h => h) (by rfl) (by assumption) ?hy47 ?rest47
    case hy47 => intro w' hSw; (try dsimp only at hSw); go_simp; try with_reducible rfl
    try simp only [Act.put, List.setIfInBounds_toArray, List.set_cons_zero, List.set_cons_succ]
    refine takeW 16 (v := ?v48) rfl (by kernel_rfl) (by kernel_rfl) (by kernel_rfl) (fun _ _ _ h => h) (by rfl) (by assumption) ?hy48 ?rest48
    case hy48 => intro w' hSw; (try dsimp only at hSw); go_simp; try with_reducible rfl
    try simp only [Act.put, List.setIfInBounds_toArray, List.set_cons_zero, List.set_cons_succ]
    refine takeW 17 (v := ?v49) rfl (by kernel_rfl) (by kernel_rfl) (by kernel_rfl) (fun _ _ _ h => h) (by rfl) (by assumption) ?hy49 ?rest49
    case hy49 => intro w' hSw; (try dsimp only at hSw); go_simp; try with_reducible rfl
    try simp only [Act.put, List.setIfInBounds_toArray, List.set_cons_zero, List.set_cons_succ]
    refine takeW 18 (v := ?v50) rfl (by kernel_rfl) (by kernel_rfl) (by kernel_rfl) (fun _ _ _ h => h) (by rfl) (by assumption) ?hy50 ?rest50
    case hy50 => intro w' hSw; (try dsimp only at hSw); go_simp; try with_reducible rfl
    try simp only [Act.put, List.setIfInBounds_toArray, List.set_cons_zero, List.set_cons_succ]
    refine takeC 19 (by kernel_rfl) rfl (fun K hK => ?_)
    go_simp
    refine (l5Rising_any _ s.rv _ (by omega) (by exact ((h2d.below hB2).below hB3).below hB4)).mono ?_; rintro e w5 ⟨he5, rfl⟩; rw [hri] at he5; subst he5
    refine hK.out _ _ ?_ (fun hHeld => ?_)
    · go_keep
    clear hK K
    try simp only [Act.put, List.setIfInBounds_toArray, List.set_cons_zero, List.set_cons_succ]
    refine takeW 20 (v := ?v51) rfl (by kernel_rfl) (by kernel_rfl) (by kernel_rfl) (fun _ _ _ h => h) (by rfl) (by assumption) ?hy51 ?rest51
    case hy51 => intro w' hSw; (try dsimp only at hSw); go_simp; try with_reducible rfl
    try simp only [Act.put, List.setIfInBounds_toArray, List.set_cons_zero, List.set_cons_succ]
    refine takeW 21 (v := ?v52) rfl (by kernel_rfl) (by kernel_rfl) (by kernel_rfl) (fun _ _ _ h => h) (by rfl) (by assumption) ?hy52 ?rest52
    case hy52 => intro w' hSw; (try dsimp only at hSw); go_simp; try with_reducible rfl
    try simp only [Act.put, List.setIfInBounds_toArray, List.set_cons_zero, List.set_cons_succ]
    refine wpAnyH_done (by kernel_rfl) ?_ _
    go_wp2_with fail
    go_ret
    exact ⟨ret_bool HR.out.symm, below_one hB0 (below_drew1 (below_one (below_one hB2 hB3) hB4))⟩
  have HR := hid (show snB s = true by unfold riB at hri; rw [Bool.and_eq_true] at hri; exact snB_yes HN.out hpo (by rw [plX_yes hpo]; exact hsm) hri.1 hri.2)
  go_enter Tryz.func31, Tryz.ntmps31
  go_wp2_with fail
  generalize w.alloc (.cells #[.int .i64 s.num, .slice ap s.pol.length cp, .slice ar s.rv.length cr] 32) = W0 at *
  refine wp_region_held_drew (S := fun w' => w'.cell? ⟨w.heap.size, 0, none⟩ = some (.int .i64 s.num) ∧ w'.cell? ⟨w.heap.size, 1, none⟩ = some (.slice ap s.pol.length cp) ∧ w'.cell? ⟨w.heap.size, 2, none⟩ = some (.slice ar s.rv.length cr)) (by kernel_rfl) ?_ (fun hHeld => ?_)
  · go_keep
  refine takeW 0 (v := ?v53) rfl (by kernel_rfl) (by kernel_rfl) (by kernel_rfl) (fun _ _ _ h => h) (by rfl) (by assumption) ?hy53 ?rest53
  case hy53 => intro w' hSw; (try dsimp only at hSw); go_simp; try with_reducible rfl
  try simp only [Act.put, List.setIfInBounds_toArray, List.set_cons_zero, List.set_cons_succ]
  refine takeW 1 (v := ?v54) rfl (by kernel_rfl) (by kernel_rfl) (by kernel_rfl) (fun _ _ _ h => h) (by rfl) (by assumption) ?hy54 ?rest54
  case hy54 => intro w' hSw; (try dsimp only at hSw); go_simp; try with_reducible rfl
  try simp only [Act.put, List.setIfInBounds_toArray, List.set_cons_zero, List.set_cons_succ]
  refine takeC 2 (by kernel_rfl) rfl (fun K hK => ?_)
  go_simp
  refine (l1In_any s.num 1 100000 _).mono ?_; rintro e w1 ⟨he1, rfl⟩; rw [hin] at he1; subst he1
  refine hK.out _ _ ?_ (fun hHeld => ?_)
  · go_keep
  clear hK K
  try simp only [Act.put, List.setIfInBounds_toArray, List.set_cons_zero, List.set_cons_succ]
  refine takeW 3 (v := ?v55) rfl (by kernel_rfl) (by kernel_rfl) (by kernel_rfl) (fun _ _ _ h => h) (by rfl) (by assumption) ?hy55 ?rest55
  case hy55 => intro w' hSw; (try dsimp only at hSw); go_simp; try with_reducible rfl
  try simp only [Act.put, List.setIfInBounds_toArray, List.set_cons_zero, List.set_cons_succ]
  refine takeW 4 (v := ?v56) rfl (by kernel_rfl) (by kernel_rfl) (by kernel_rfl) (fun _ _ _ h => h) (by rfl) (by assumption) ?hy56 ?rest56
  case hy56 => intro w' hSw; (try dsimp only at hSw); go_simp; try with_reducible rfl
  try simp only [Act.put, List.setIfInBounds_toArray, List.set_cons_zero, List.set_cons_succ]
  refine takeW 5 (v := ?v57) rfl (by kernel_rfl) (by kernel_rfl) (by kernel_rfl) (fun _ _ _ h => h) (by rfl) (by assumption) ?hy57 ?rest57
  case hy57 => intro w' hSw; (try dsimp only at hSw); go_simp; try with_reducible rfl
  try simp only [Act.put, List.setIfInBounds_toArray, List.set_cons_zero, List.set_cons_succ]
  refine takeC 6 (by kernel_rfl) rfl (fun K hK => ?_)
  go_simp
  refine (l2Good_any _ s.pol _ (by omega) hz (by exact h1d)).mono ?_; rintro e w2 ⟨he2, hB2⟩; rw [hpo] at he2; subst he2; have hc2 := fun o => hB2.cell (p := ⟨w.heap.size, o, none⟩) (by exact hlt0); have hlt2 : w.heap.size < w2.heap.size := Nat.lt_of_lt_of_le hlt0 hB2.size
  refine hK.out _ _ ?_ (fun hHeld => ?_)
  · go_keep
  clear hK K
  try simp only [Act.put, List.setIfInBounds_toArray, List.set_cons_zero, List.set_cons_succ]
  refine takeW 7 (v := ?v58) rfl (by kernel_rfl) (by kernel_rfl) (by kernel_rfl) (fun _ _ _ h => h) (by rfl) (by assumption) ?hy58 ?rest58
  case hy58 => intro w' hSw; (try dsimp only at hSw); go_simp; try with_reducible rfl
  try simp only [Act.put, List.setIfInBounds_toArray, List.set_cons_zero, List.set_cons_succ]
  refine takeW 8 (v := ?v59) rfl (by kernel_rfl) (by kernel_rfl) (by kernel_rfl) (fun _ _ _ h => h) (by rfl) (by assumption) ?hy59 ?rest59
  case hy59 => intro w' hSw; (try dsimp only at hSw); go_simp; try with_reducible rfl
  try simp only [Act.put, List.setIfInBounds_toArray, List.set_cons_zero, List.set_cons_succ]
  refine takeW 9 (v := ?v60) rfl (by kernel_rfl) (by kernel_rfl) (by kernel_rfl) (fun _ _ _ h => h) (by rfl) (by assumption) ?hy60 ?rest60
  case hy60 => intro w' hSw; (try dsimp only at hSw); go_simp; try with_reducible rfl
  try simp only [Act.put, List.setIfInBounds_toArray, List.set_cons_zero, List.set_cons_succ]
  refine takeW 10 (v := ?v61) rfl (by kernel_rfl) (by kernel_rfl) (by kernel_rfl) (fun _ _ _ h => h) (by rfl) (by assumption) ?hy61 ?rest61
  case hy61 => intro w' hSw; (try dsimp only at hSw); go_simp; try with_reducible rfl
  try simp only [Act.put, List.setIfInBounds_toArray, List.set_cons_zero, List.set_cons_succ]
  refine takeW 12 (v := ?v62) rfl (by kernel_rfl) (by kernel_rfl) (by kernel_rfl) (fun _ _ _ h => h) (by rfl) (by assumption) ?hy62 ?rest62
  case hy62 => intro w' hSw; (try dsimp only at hSw); go_simp; try with_reducible rfl
  try simp only [Act.put, List.setIfInBounds_toArray, List.set_cons_zero, List.set_cons_succ]
  refine takeW 13 (v := ?v63) rfl (by kernel_rfl) (by kernel_rfl) (by kernel_rfl) (fun _ _ _ h => h) (by rfl) (by assumption) ?hy63 ?rest63
  case hy63 => intro w' hSw; (try dsimp only at hSw); go_simp; try with_reducible rfl
  try simp only [Act.put, List.setIfInBounds_toArray, List.set_cons_zero, List.set_cons_succ]
  refine takeC 11 (by kernel_rfl) rfl (fun K hK => ?_)
  go_simp
  refine (l2Plain_any _ s.pol _ h30 hz (by exact h1d.below hB2)).mono ?_; rintro e w3 ⟨v3, rfl, o3, hB3⟩; obtain ⟨a3, k3, rfl⟩ := ownsRow_len o3; have hc3 := fun o => hB3.cell (p := ⟨w.heap.size, o, none⟩) (by exact hlt2); have hlt3 : w.heap.size < w3.heap.size := Nat.lt_of_lt_of_le hlt2 hB3.size
  refine hK.out _ _ ?_ (fun hHeld => ?_)
  · go_keep
  clear hK K
  try simp only [Act.put, List.setIfInBounds_toArray, List.set_cons_zero, List.set_cons_succ]
  refine takeC 14 (by kernel_rfl) rfl (fun K hK => ?_)
  go_simp
  refine (l5SameRules_any _ _ _ s.pol _ hpl (by omega) (RuS.own o3) (by exact (h1d.below hB2).below hB3)).mono ?_; rintro e w4 ⟨he4, hB4⟩; rw [hsm] at he4; subst he4; have hc4 := fun o => hB4.cell (p := ⟨w.heap.size, o, none⟩) (by exact hlt3); have hlt4 : w.heap.size < w4.heap.size := Nat.lt_of_lt_of_le hlt3 hB4.size
  refine hK.out _ _ ?_ (fun hHeld => ?_)
  · go_keep
  clear hK K
  try simp only [Act.put, List.setIfInBounds_toArray, List.set_cons_zero, List.set_cons_succ]
  refine takeW 15 (v := ?v64) rfl (by kernel_rfl) (by kernel_rfl) (by kernel_rfl) (fun _ _ _ h => h) (by rfl) (by assumption) ?hy64 ?rest64
  case hy64 => intro w' hSw; (try dsimp only at hSw); go_simp; try with_reducible rfl
  try simp only [Act.put, List.setIfInBounds_toArray, List.set_cons_zero, List.set_cons_succ]
  refine takeW 16 (v := ?v65) rfl (by kernel_rfl) (by kernel_rfl) (by kernel_rfl) (fun _ _ _ h => h) (by rfl) (by assumption) ?hy65 ?rest65
  case hy65 => intro w' hSw; (try dsimp only at hSw); go_simp; try with_reducible rfl
  try simp only [Act.put, List.setIfInBounds_toArray, List.set_cons_zero, List.set_cons_succ]
  refine takeW 17 (v := ?v66) rfl (by kernel_rfl) (by kernel_rfl) (by kernel_rfl) (fun _ _ _ h => h) (by rfl) (by assumption) ?hy66 ?rest66
  case hy66 => intro w' hSw; (try dsimp only at hSw); go_simp; try with_reducible rfl
  try simp only [Act.put, List.setIfInBounds_toArray, List.set_cons_zero, List.set_cons_succ]
  refine takeW 18 (v := ?v67) rfl (by kernel_rfl) (by kernel_rfl) (by kernel_rfl) (fun _ _ _ h => h) (by rfl) (by assumption) ?hy67 ?rest67
  case hy67 => intro w' hSw; (try dsimp only at hSw); go_simp; try with_reducible rfl
  try simp only [Act.put, List.setIfInBounds_toArray, List.set_cons_zero, List.set_cons_succ]
  refine takeC 19 (by kernel_rfl) rfl (fun K hK => ?_)
  go_simp
  refine (l5Rising_any _ s.rv _ (by omega) (by exact ((h2d.below hB2).below hB3).below hB4)).mono ?_; rintro e w5 ⟨he5, rfl⟩; rw [hri] at he5; subst he5
  refine hK.out _ _ ?_ (fun hHeld => ?_)
  · go_keep
  clear hK K
  try simp only [Act.put, List.setIfInBounds_toArray, List.set_cons_zero, List.set_cons_succ]
  refine takeW 20 (v := ?v68) rfl (by kernel_rfl) (by kernel_rfl) (by kernel_rfl) (fun _ _ _ h => h) (by rfl) (by assumption) ?hy68 ?rest68
  case hy68 => intro w' hSw; (try dsimp only at hSw); go_simp; try with_reducible rfl
  try simp only [Act.put, List.setIfInBounds_toArray, List.set_cons_zero, List.set_cons_succ]
  refine takeW 21 (v := ?v69) rfl (by kernel_rfl) (by kernel_rfl) (by kernel_rfl) (fun _ _ _ h => h) (by rfl) (by assumption) ?hy69 ?rest69
  case hy69 => intro w' hSw; (try dsimp only at hSw); go_simp; try with_reducible rfl
  try simp only [Act.put, List.setIfInBounds_toArray, List.set_cons_zero, List.set_cons_succ]
  refine wpAnyH_done (by kernel_rfl) ?_ _
  go_wp2_with fail
  go_ret
  exact ⟨ret_bool HR.out.symm, below_one hB0 (below_drew1 (below_one (below_one hB2 hB3) hB4))⟩

end Go.Proofs.YthpckiobfjdckaaGreat

namespace Go.Proofs.YthpckiobfjdckaaGreat
open Go.RowKit Go.Shelf

set_option maxHeartbeats 1000000 in
theorem l1Has_any (v : Value) (zs : List Int) (z : Int) (w : World) (hm : zs.length ≤ 1048577) (hr : VS w v (nums zs)) :
    Calls Tryz.prog 64 #[v, .int .i64 z] w fun e w' => e = .returned (.bool (isI zs z)) ∧ w' = w := by
  obtain ⟨a, cap, rfl⟩ := hr.numLen
  go_enter Tryz.func64, Tryz.ntmps64
  go_wp2
  go_loop [9] (fun i => ∃ n : Nat, n ≤ zs.length ∧ i = .int .i64 n ∧ isTo zs z n = false) (fun i => zs.length - (intOf i).toNat)
  case atStart => exact ⟨0, Nat.zero_le _, rfl, isTo_zero _ _⟩
  case round =>
    obtain ⟨n, hn, rfl, ht⟩ := hrel
    have HT := hid ht
    clear ht
    by_cases hlt : n < zs.length
    · obtain ⟨b, off, rfl, hb, hcap, q0⟩ := hr.num hlt
      have HS := hid (isTo_succ (z := z) hlt)
      have HY := hid (fun h => isI_yes (z := z) hlt h)
      generalize zs[n] = x at *
      cases he : (x == z)
      · have HR := hid (show isTo zs z (n + 1) = false by rw [HS.out, HT.out, he]; rfl)
        go_wp2
        exact ⟨⟨n + 1, by omega, by go_num, HR.out⟩, by simp [intOf]; omega⟩
      · have HR := hid (HY.out he)
        go_wp2
        go_ret
        exact ⟨ret_bool HR.out.symm, rfl⟩
    · obtain rfl : n = zs.length := by omega
      have HR := hid (show isI zs z = false by rw [← isI_end, HT.out])
      go_wp2
      go_ret
      exact ⟨ret_bool HR.out.symm, rfl⟩

theorem contains_isI (zs : List Int) (z : Int) : zs.contains z = isI zs z := by
  rw [Bool.eq_iff_iff]
  unfold isI
  rw [List.any_eq_true, List.contains_iff_mem]
  constructor
  · intro h
    exact ⟨z, h, by simp⟩
  · rintro ⟨x, hx, he⟩
    have : x = z := by simpa using he
    rw [← this]
    exact hx

theorem contI_any (v : Value) (zs : List Int) (z : Int) (w : World) (hm : zs.length ≤ 1048577) (hr : VS w v (nums zs)) :
    Calls Tryz.prog 102 #[v, .int .i64 z] w fun e w' => e = .returned (.bool (isI zs z)) ∧ w' = w := by
  rcases hr with ⟨a, cap, rfl, h0⟩ | ⟨b, off, cap, rfl, hb, hl, hc⟩
  · have : zs = [] := by simpa [nums] using h0
    subst this
    exact Any.slices_Contains_int_empty Tryz.lays107 a cap z w
  · have h := Any.slices_Contains_int Tryz.lays107 b off zs.length cap zs z w (Nat.le_refl _) (by omega) (fun j hj => by
      have := hc j (by rw [nums_len]; exact hj)
      rw [this]
      simp [nums, hj])
    rw [List.take_length, contains_isI] at h
    rw [nums_len]
    exact h

end Go.Proofs.YthpckiobfjdckaaGreat

namespace Go.Proofs.YthpckiobfjdckaaGreat
open Go.RowKit Go.Shelf

instance : Inhabited Ru := ⟨⟨false, ByteArray.empty, ByteArray.empty, ByteArray.empty⟩⟩
theorem eqAt_ru : EqlAt Tryz.prog 63 (fun r : Ru => .agg r.cells.toArray) Ru.same := ⟨fun x y w => eql_ru x y w, GuardAt.agg _ (by kernel_rfl)⟩
theorem neAt_ru : NeqAt Tryz.prog 63 (fun r : Ru => .agg r.cells.toArray) Ru.same := ⟨fun x y w => neq_ru x y w, GuardAt.agg _ (by kernel_rfl)⟩
theorem allEq_same : ∀ rs ss : List Ru, Lib.allEq Ru.same rs ss = sameS rs ss
  | [], [] => rfl
  | [], s :: ss => by simp [Lib.allEq, sameS]
  | r :: rs, [] => by simp [Lib.allEq, sameS]
  | r :: rs, s :: ss => by
    rw [Lib.allEq, allEq_same rs ss]
    unfold sameS
    simp only [List.length_cons, List.zip_cons_cons, List.all_cons]
    by_cases h : rs.length = ss.length
    · rw [decide_eq_true h, decide_eq_true (by omega)]
      simp
    · rw [decide_eq_false h, decide_eq_false (by omega)]
      simp
theorem cells_at {w : World} {b off : Nat} {rs : List Ru} (hc : ∀ k (h : k < rs.length), RuAt w b (off + k * 4) rs[k]) : ∀ j, j < rs.length → ∀ i v, (Ru.cells rs[j]!)[i]? = some v → w.cell? ⟨b, off + j * 4 + i, none⟩ = some v := by
  intro j hj i v hv
  have e : rs[j]! = rs[j] := by simp [getElem!_def, List.getElem?_eq_getElem hj]
  rw [e] at hv
  obtain ⟨h0, h1, h2, h3⟩ := hc j hj
  have hi : i < 4 := by
    have := (List.getElem?_eq_some_iff.1 hv).1
    simpa using this
  obtain rfl | rfl | rfl | rfl : i = 0 ∨ i = 1 ∨ i = 2 ∨ i = 3 := by omega
  · simp at hv; rw [← hv]; exact h0
  · simp at hv; rw [← hv]; exact h1
  · simp at hv; rw [← hv]; exact h2
  · simp at hv; rw [← hv]; exact h3
theorem same_len {rs ss : List Ru} (h : rs.length ≠ ss.length) : sameS rs ss = false := by
  unfold sameS
  rw [decide_eq_false h]
  rfl

set_option maxHeartbeats 1000000 in
/-- No rules, held against some: by their number alone. -/
theorem equalRu_nil (a a' : Option Addr) (n c c' : Nat) (w : World) (hn : n ≤ 1048577) :
    Calls Tryz.prog 67 #[.slice a 0 c, .slice a' n c'] w fun e w' => e = .returned (.bool (decide (n = 0))) ∧ w' = w := by
  by_cases h : n = 0
  · subst h
    go_enter Tryz.func67, Tryz.ntmps67
    go_wp2
    refine wp_loop_rounds 1 ?_
    rw [rounds_succ]
    go_wp2
    go_ret
    exact ⟨rfl, rfl⟩
  · have e0 : ((0 : Int) != (n : Int)) = true := by simp; omega
    go_enter Tryz.func67, Tryz.ntmps67
    go_wp2
    go_ret
    exact ⟨by simp [h], rfl⟩

set_option maxHeartbeats 1000000 in
theorem equalRu_other (a a' : Option Addr) (n m c c' : Nat) (w : World) (_hn : n ≤ 1048577) (_hm : m ≤ 1048577) (hne : n ≠ m) :
    Calls Tryz.prog 67 #[.slice a n c, .slice a' m c'] w fun e w' => e = .returned (.bool false) ∧ w' = w := by
  have e0 : ((n : Int) != (m : Int)) = true := by simp; omega
  go_enter Tryz.func67, Tryz.ntmps67
  go_wp2
  go_ret
  exact ⟨rfl, rfl⟩

theorem equalRu_any (v v' : Value) (rs ss : List Ru) (w : World) (hm : rs.length ≤ 1048577) (hm' : ss.length ≤ 1048577) (hr : RuR w v rs) (hr' : RuR w v' ss) :
    Calls Tryz.prog 67 #[v, v'] w fun e w' => e = .returned (.bool (sameS rs ss)) ∧ Below w.heap.size w w' := by
  by_cases hl : rs.length = ss.length
  · rcases hr with ⟨rfl, rfl⟩ | ⟨b, off, cap, rfl, hb, hle, hc⟩
    · have h0 : ss = [] := List.eq_nil_of_length_eq_zero hl.symm
      subst h0
      obtain ⟨a', c', rfl⟩ := hr'.len
      refine (equalRu_nil none a' 0 0 c' w (by omega)).mono ?_
      rintro e w1 ⟨rfl, rfl⟩
      exact ⟨rfl, Below.refl _ _⟩
    · rcases hr' with ⟨rfl, rfl⟩ | ⟨b', off', cap', rfl, hb', hle', hc'⟩
      · have h0 : rs = [] := List.eq_nil_of_length_eq_zero hl
        subst h0
        refine (equalRu_nil _ none 0 cap 0 w (by omega)).mono ?_
        rintro e w1 ⟨rfl, rfl⟩
        exact ⟨rfl, Below.refl _ _⟩
      · have h := AnyQ.slices_Equal Tryz.equalRu 4 Tryz.isAgg63 Tryz.sizeOf63 Ru.cells (fun _ => rfl) Ru.same neAt_ru b off rs.length cap b' off' ss.length cap' rs ss w (Nat.le_refl _) (Nat.le_refl _) (by omega) (by omega) (cells_at hc) (cells_at hc')
        refine h.mono ?_
        rintro e w1 ⟨rfl, q, rfl⟩
        rw [List.take_length, List.take_length, allEq_same]
        exact ⟨rfl, below_drewn (Below.refl _ _) q⟩
  · obtain ⟨a, c, rfl⟩ := hr.len
    obtain ⟨a', c', rfl⟩ := hr'.len
    refine (equalRu_other a a' _ _ c c' w hm hm' hl).mono ?_
    rintro e w1 ⟨rfl, rfl⟩
    rw [same_len hl]
    exact ⟨rfl, Below.refl _ _⟩

set_option maxHeartbeats 1000000 in
theorem indexRu_nil (a : Option Addr) (c : Nat) (r : Ru) (w : World) :
    Calls Tryz.prog 99 #[.slice a 0 c, r.val] w fun e w' => e = .returned (.int .i64 (-1)) ∧ Below w.heap.size w w' := by
  go_enter Tryz.func99, Tryz.ntmps99
  go_wp2
  refine wp_loop_rounds 1 ?_
  rw [rounds_succ]
  go_wp2
  go_ret
  exact ⟨rfl, (Below.refl _ w).alloc (Nat.le_refl _) _⟩

set_option maxHeartbeats 1000000 in
theorem contRu_nil (a : Option Addr) (c : Nat) (r : Ru) (w : World) :
    Calls Tryz.prog 78 #[.slice a 0 c, r.val] w fun e w' => e = .returned (.bool false) ∧ Below w.heap.size w w' := by
  have hB0 : Below w.heap.size w (w.alloc (.cells #[.bool r.deny, .string r.who, .string r.method, .string r.path] 63)) := (Below.refl _ w).alloc (Nat.le_refl _) _
  go_enter Tryz.func78, Tryz.ntmps78
  go_wp2_with fail
  refine (indexRu_nil a c r _).mono ?_
  rintro e w1 ⟨rfl, hB1⟩
  go_wp2_with fail
  go_ret
  exact ⟨rfl, below_one hB0 hB1⟩

theorem contRu_any (v : Value) (rs : List Ru) (r : Ru) (w : World) (hm : rs.length ≤ 1048577) (hr : RuR w v rs) :
    Calls Tryz.prog 78 #[v, r.val] w fun e w' => e = .returned (.bool (hasR rs r)) ∧ Below w.heap.size w w' := by
  rcases hr with ⟨rfl, rfl⟩ | ⟨b, off, cap, rfl, hb, hle, hc⟩
  · exact contRu_nil none 0 r w
  · have h := AnyQ.slices_Contains Tryz.contRu 4 Tryz.isAgg63 Tryz.sizeOf63 Ru.cells (fun _ => rfl) Ru.same eqAt_ru b off rs.length cap rs r w (Nat.le_refl _) (by omega) (cells_at hc)
    rw [List.take_length] at h
    exact h

theorem cloneRu_any (v : Value) (rs : List Ru) (w : World) (hm : rs.length ≤ 1048577) (hr : RuR w v rs) :
    Calls Tryz.prog 72 #[v] w fun e w' => ∃ v', e = .returned v' ∧ w'.ownsRow w.heap.size 63 4 v' rs.length (rs.flatMap Ru.cells) ∧ (v = .slice none 0 0 ∨ v' ≠ .slice none 0 0) ∧ Below w.heap.size w w' := by
  rcases hr with ⟨rfl, rfl⟩ | ⟨b, off, cap, rfl, hb, hle, hc⟩
  · refine (cloneRules_nil 0 0 w).mono ?_
    rintro e w1 ⟨rfl, rfl⟩
    exact ⟨_, rfl, World.ownsRow_nil _ _ _ _, .inl rfl, Below.refl _ _⟩
  · obtain ⟨i0, hi, hz0, hz1, hz2⟩ := info_parts infoRule
    refine (AnyE.slices_Clone Tryz.cloneRu i0 _ 4 56 hi hz0 hz1 hz2 rfl (by decide) Tryz.sizeOf63 b off rs.length cap (rs.flatMap Ru.cells) w (flat_len rs) (by unfold maxLen; omega) (by omega) (RuR.flat hc) cells_one).mono ?_
    rintro e w1 ⟨v', rfl, h1, h2, h3⟩
    exact ⟨v', rfl, h1, .inr h2, h3⟩

theorem cloneNu_any (v : Value) (zs : List Int) (w : World) (hm : zs.length ≤ 1048577) (hr : NuR w v zs) :
    Calls Tryz.prog 92 #[v] w fun e w' => ∃ v', e = .returned v' ∧ w'.ownsRow w.heap.size 3 1 v' zs.length (nums zs) ∧ Below w.heap.size w w' := by
  rcases hr with ⟨rfl, rfl⟩ | ⟨b, off, cap, rfl, hb, hle, hc⟩
  · refine (AnyE.slices_Clone_nil Tryz.cloneIn 0 0 w).mono ?_
    rintro e w1 ⟨rfl, rfl⟩
    exact ⟨_, rfl, World.ownsRow_nil _ _ _ _, Below.refl _ _⟩
  · obtain ⟨i0, hi, hz0, hz1, hz2⟩ := info_parts infoInt
    refine (AnyE.slices_Clone Tryz.cloneIn i0 _ 1 8 hi hz0 hz1 hz2 rfl (by decide) Tryz.sizeOf3 b off zs.length cap (nums zs) w (by rw [nums_len]; omega) (by unfold maxLen; omega) (by omega) (fun j u hu => by
        have hj : j < zs.length := by rw [← nums_len]; exact (List.getElem?_eq_some_iff.1 hu).1
        rw [hc j hj]
        simpa [nums, hj] using hu) (fun u hu => by
        obtain ⟨z, _, rfl⟩ := List.mem_map.1 hu
        rfl)).mono ?_
    rintro e w1 ⟨v', rfl, h1, _, h3⟩
    exact ⟨v', rfl, h1, h3⟩

end Go.Proofs.YthpckiobfjdckaaGreat

namespace Go.Proofs.YthpckiobfjdckaaGreat
open Go.RowKit Go.Shelf

theorem itself_any (n : Int) (w : World) :
    Calls Tryz.prog 70 #[.int .i64 n] w fun e w' => e = .returned (.int .i64 n) ∧ w' = w := by
  go_enter Tryz.func70, Tryz.ntmps70
  go_wp2
  go_ret
  exact ⟨rfl, rfl⟩

set_option maxHeartbeats 2000000 in
set_option maxRecDepth 100000 in
theorem risingN_any (v : Value) (zs : List Int) (w : World) (hm : zs.length ≤ 1048577) (hr : VS w v (nums zs)) :
    Calls Tryz.prog 69 #[v, .func (.func 70) #[] #[]] w fun e w' => e = .returned (.bool (upN zs)) ∧ Below w.heap.size w w' := by
  obtain ⟨a, cap, rfl⟩ := hr.numLen
  go_enter Tryz.func69, Tryz.ntmps69
  go_wp2
  go_loopw [5] (fun i wr => ∃ m : Nat, (m ≤ zs.length ∨ m = 1) ∧ 1 ≤ m ∧ i = .int .i64 m ∧ (∀ j, j < m → upI zs j = true) ∧ Below w.heap.size w wr) (fun i _ => zs.length - (intOf i).toNat)
  case atStart => exact ⟨1, .inr rfl, Nat.le_refl _, rfl, fun j hj => (by obtain rfl : j = 0 := Nat.lt_one_iff.1 hj; rfl), Below.refl _ _⟩
  case round =>
    obtain ⟨m, hm2, hm1, rfl, hu, hB⟩ := hrel
    have HU := hid hu
    clear hu
    obtain ⟨n, hn⟩ : ∃ n, m = n + 1 := ⟨m - 1, by omega⟩
    by_cases hlt : m < zs.length
    · obtain ⟨b, off, rfl, hb, hcap, q0⟩ := (hr.below hB).num hlt
      obtain ⟨b', off', hbo, _, _, p0⟩ := (hr.below hB).num (i := n) (by omega)
      cases hbo
      have HS := hid (show upI zs m = decide ((zs[n]'(by omega)) < zs[m]) by subst hn; exact upI_succ hlt)
      have HN := hid (fun h => upN_no (zs := zs) (i := m) hlt h)
      have hw1 : IntKind.i64.wrap ((m : Int) - 1) = (n : Int) := by rw [IntKind.wrap_i64]; omega
      have hl1 : (m : Int) < (zs.length : Int) := by omega
      have hl2 : (n : Int) < (zs.length : Int) := by omega
      generalize zs[m] = k at *
      generalize zs[n] = p at *
      clear hn
      by_cases hc : k ≤ p
      · have HR := hid (HN.out (by rw [HS.out]; exact decide_eq_false (by omega)))
        have dc : decide (k ≤ p) = true := decide_eq_true hc
        go_wp2_with fail
        refine wp_region_held_drew (S := fun w' => w'.cell? ⟨b, off + m, none⟩ = some (.int .i64 k) ∧ w'.cell? ⟨b, off + n, none⟩ = some (.int .i64 p)) (by kernel_rfl) ?_ (fun hHeld => ?_)
        · go_keep
        refine takeW 0 (v := ?v25) rfl (by kernel_rfl) (by kernel_rfl) (by kernel_rfl) (fun _ _ _ h => h) (by rfl) (by assumption) ?hy25 ?rest25
        case hy25 => intro w' hSw; (try dsimp only at hSw); go_simp; try with_reducible rfl
        try simp only [Act.put, List.setIfInBounds_toArray, List.set_cons_zero, List.set_cons_succ]
        refine takeW 1 (v := ?v26) rfl (by kernel_rfl) (by kernel_rfl) (by kernel_rfl) (fun _ _ _ h => h) (by rfl) (by assumption) ?hy26 ?rest26
        case hy26 => intro w' hSw; (try dsimp only at hSw); go_simp; try with_reducible rfl
        try simp only [Act.put, List.setIfInBounds_toArray, List.set_cons_zero, List.set_cons_succ]
        refine takeW 2 (v := ?v27) rfl (by kernel_rfl) (by kernel_rfl) (by kernel_rfl) (fun _ _ _ h => h) (by rfl) (by assumption) ?hy27 ?rest27
        case hy27 => intro w' hSw; (try dsimp only at hSw); go_simp; try with_reducible rfl
        try simp only [Act.put, List.setIfInBounds_toArray, List.set_cons_zero, List.set_cons_succ]
        refine takeW 3 (v := ?v28) rfl (by kernel_rfl) (by kernel_rfl) (by kernel_rfl) (fun _ _ _ h => h) (by rfl) (by assumption) ?hy28 ?rest28
        case hy28 => intro w' hSw; (try dsimp only at hSw); go_simp; try with_reducible rfl
        try simp only [Act.put, List.setIfInBounds_toArray, List.set_cons_zero, List.set_cons_succ]
        refine takeW 4 (v := ?v29) rfl (by kernel_rfl) (by kernel_rfl) (by kernel_rfl) (fun _ _ _ h => h) (by rfl) (by assumption) ?hy29 ?rest29
        case hy29 => intro w' hSw; (try dsimp only at hSw); go_simp; try with_reducible rfl
        try simp only [Act.put, List.setIfInBounds_toArray, List.set_cons_zero, List.set_cons_succ]
        refine takeW 6 (v := ?v30) rfl (by kernel_rfl) (by kernel_rfl) (by kernel_rfl) (fun _ _ _ h => h) (by rfl) (by assumption) ?hy30 ?rest30
        case hy30 => intro w' hSw; (try dsimp only at hSw); go_simp; try with_reducible rfl
        try simp only [Act.put, List.setIfInBounds_toArray, List.set_cons_zero, List.set_cons_succ]
        refine takeW 7 (v := ?v31) rfl (by kernel_rfl) (by kernel_rfl) (by kernel_rfl) (fun _ _ _ h => h) (by rfl) (by assumption) ?hy31 ?rest31
        case hy31 => intro w' hSw; (try dsimp only at hSw); go_simp; try with_reducible rfl
        try simp only [Act.put, List.setIfInBounds_toArray, List.set_cons_zero, List.set_cons_succ]
        refine takeW 8 (v := ?v32) rfl (by kernel_rfl) (by kernel_rfl) (by kernel_rfl) (fun _ _ _ h => h) (by rfl) (by assumption) ?hy32 ?rest32
        case hy32 => intro w' hSw; (try dsimp only at hSw); go_simp; try with_reducible rfl
        try simp only [Act.put, List.setIfInBounds_toArray, List.set_cons_zero, List.set_cons_succ]
        refine takeW 9 (v := ?v33) rfl (by kernel_rfl) (by kernel_rfl) (by kernel_rfl) (fun _ _ _ h => h) (by rfl) (by assumption) ?hy33 ?rest33
        case hy33 => intro w' hSw; (try dsimp only at hSw); go_simp; try with_reducible rfl
        try simp only [Act.put, List.setIfInBounds_toArray, List.set_cons_zero, List.set_cons_succ]
        refine takeW 10 (v := ?v34) rfl (by kernel_rfl) (by kernel_rfl) (by kernel_rfl) (fun _ _ _ h => h) (by rfl) (by assumption) ?hy34 ?rest34
        case hy34 => intro w' hSw; (try dsimp only at hSw); go_simp; try with_reducible rfl
        try simp only [Act.put, List.setIfInBounds_toArray, List.set_cons_zero, List.set_cons_succ]
        refine takeW 11 (v := ?v35) rfl (by kernel_rfl) (by kernel_rfl) (by kernel_rfl) (fun _ _ _ h => h) (by rfl) (by assumption) ?hy35 ?rest35
        case hy35 => intro w' hSw; (try dsimp only at hSw); go_simp; try with_reducible rfl
        try simp only [Act.put, List.setIfInBounds_toArray, List.set_cons_zero, List.set_cons_succ]
        refine takeC 5 (by kernel_rfl) rfl (fun K hK => ?_)
        go_simp
        refine (itself_any k _).mono ?_; rintro e w1 ⟨rfl, rfl⟩
        refine hK.out _ _ ?_ (fun hHeld => ?_)
        · go_keep
        clear hK K
        try simp only [Act.put, List.setIfInBounds_toArray, List.set_cons_zero, List.set_cons_succ]
        refine takeC 12 (by kernel_rfl) rfl (fun K hK => ?_)
        go_simp
        refine (itself_any p _).mono ?_; rintro e w2 ⟨rfl, rfl⟩
        refine hK.out _ _ ?_ (fun hHeld => ?_)
        · go_keep
        clear hK K
        try simp only [Act.put, List.setIfInBounds_toArray, List.set_cons_zero, List.set_cons_succ]
        refine takeW 13 (v := ?v36) rfl (by kernel_rfl) (by kernel_rfl) (by kernel_rfl) (fun _ _ _ h => h) (by rfl) (by assumption) ?hy36 ?rest36
        case hy36 => intro w' hSw; (try dsimp only at hSw); go_simp; try with_reducible rfl
        try simp only [Act.put, List.setIfInBounds_toArray, List.set_cons_zero, List.set_cons_succ]
        refine wpAnyH_done (by kernel_rfl) ?_ _
        all_goals go_wp2
        all_goals go_ret
        all_goals exact ⟨ret_bool HR.out.symm, below_one hB (Below.refl _ wr).drew⟩
      · have HR := hid (show ∀ j, j < m + 1 → upI zs j = true from fun j hj => (by
          by_cases e : j = m
          · subst e
            rw [HS.out]
            exact decide_eq_true (by omega)
          · exact HU.out j (by omega)))
        have dc : decide (k ≤ p) = false := decide_eq_false hc
        go_wp2_with fail
        refine wp_region_held_drew (S := fun w' => w'.cell? ⟨b, off + m, none⟩ = some (.int .i64 k) ∧ w'.cell? ⟨b, off + n, none⟩ = some (.int .i64 p)) (by kernel_rfl) ?_ (fun hHeld => ?_)
        · go_keep
        refine takeW 0 (v := ?v37) rfl (by kernel_rfl) (by kernel_rfl) (by kernel_rfl) (fun _ _ _ h => h) (by rfl) (by assumption) ?hy37 ?rest37
        case hy37 => intro w' hSw; (try dsimp only at hSw); go_simp; try with_reducible rfl
        try simp only [Act.put, List.setIfInBounds_toArray, List.set_cons_zero, List.set_cons_succ]
        refine takeW 1 (v := ?v38) rfl (by kernel_rfl) (by kernel_rfl) (by kernel_rfl) (fun _ _ _ h => h) (by rfl) (by assumption) ?hy38 ?rest38
        case hy38 => intro w' hSw; (try dsimp only at hSw); go_simp; try with_reducible rfl
        try simp only [Act.put, List.setIfInBounds_toArray, List.set_cons_zero, List.set_cons_succ]
        refine takeW 2 (v := ?v39) rfl (by kernel_rfl) (by kernel_rfl) (by kernel_rfl) (fun _ _ _ h => h) (by rfl) (by assumption) ?hy39 ?rest39
        case hy39 => intro w' hSw; (try dsimp only at hSw); go_simp; try with_reducible rfl
        try simp only [Act.put, List.setIfInBounds_toArray, List.set_cons_zero, List.set_cons_succ]
        refine takeW 3 (v := ?v40) rfl (by kernel_rfl) (by kernel_rfl) (by kernel_rfl) (fun _ _ _ h => h) (by rfl) (by assumption) ?hy40 ?rest40
        case hy40 => intro w' hSw; (try dsimp only at hSw); go_simp; try with_reducible rfl
        try simp only [Act.put, List.setIfInBounds_toArray, List.set_cons_zero, List.set_cons_succ]
        refine takeW 4 (v := ?v41) rfl (by kernel_rfl) (by kernel_rfl) (by kernel_rfl) (fun _ _ _ h => h) (by rfl) (by assumption) ?hy41 ?rest41
        case hy41 => intro w' hSw; (try dsimp only at hSw); go_simp; try with_reducible rfl
        try simp only [Act.put, List.setIfInBounds_toArray, List.set_cons_zero, List.set_cons_succ]
        refine takeW 6 (v := ?v42) rfl (by kernel_rfl) (by kernel_rfl) (by kernel_rfl) (fun _ _ _ h => h) (by rfl) (by assumption) ?hy42 ?rest42
        case hy42 => intro w' hSw; (try dsimp only at hSw); go_simp; try with_reducible rfl
        try simp only [Act.put, List.setIfInBounds_toArray, List.set_cons_zero, List.set_cons_succ]
        refine takeW 7 (v := ?v43) rfl (by kernel_rfl) (by kernel_rfl) (by kernel_rfl) (fun _ _ _ h => h) (by rfl) (by assumption) ?hy43 ?rest43
        case hy43 => intro w' hSw; (try dsimp only at hSw); go_simp; try with_reducible rfl
        try simp only [Act.put, List.setIfInBounds_toArray, List.set_cons_zero, List.set_cons_succ]
        refine takeW 8 (v := ?v44) rfl (by kernel_rfl) (by kernel_rfl) (by kernel_rfl) (fun _ _ _ h => h) (by rfl) (by assumption) ?hy44 ?rest44
        case hy44 => intro w' hSw; (try dsimp only at hSw); go_simp; try with_reducible rfl
        try simp only [Act.put, List.setIfInBounds_toArray, List.set_cons_zero, List.set_cons_succ]
        refine takeW 9 (v := ?v45) rfl (by kernel_rfl) (by kernel_rfl) (by kernel_rfl) (fun _ _ _ h => h) (by rfl) (by assumption) ?hy45 ?rest45
        case hy45 => intro w' hSw; (try dsimp only at hSw); go_simp; try with_reducible rfl
        try simp only [Act.put, List.setIfInBounds_toArray, List.set_cons_zero, List.set_cons_succ]
        refine takeW 10 (v := ?v46) rfl (by kernel_rfl) (by kernel_rfl) (by kernel_rfl) (fun _ _ _ h => h) (by rfl) (by assumption) ?hy46 ?rest46
        case hy46 => intro w' hSw; (try dsimp only at hSw); go_simp; try with_reducible rfl
        try simp only [Act.put, List.setIfInBounds_toArray, List.set_cons_zero, List.set_cons_succ]
        refine takeW 11 (v := ?v47) rfl (by kernel_rfl) (by kernel_rfl) (by kernel_rfl) (fun _ _ _ h => h) (by rfl) (by assumption) ?hy47 ?rest47
        case hy47 => intro w' hSw; (try dsimp only at hSw); go_simp; try with_reducible rfl
        try simp only [Act.put, List.setIfInBounds_toArray, List.set_cons_zero, List.set_cons_succ]
        refine takeC 5 (by kernel_rfl) rfl (fun K hK => ?_)
        go_simp
        refine (itself_any k _).mono ?_; rintro e w1 ⟨rfl, rfl⟩
        refine hK.out _ _ ?_ (fun hHeld => ?_)
        · go_keep
        clear hK K
        try simp only [Act.put, List.setIfInBounds_toArray, List.set_cons_zero, List.set_cons_succ]
        refine takeC 12 (by kernel_rfl) rfl (fun K hK => ?_)
        go_simp
        refine (itself_any p _).mono ?_; rintro e w2 ⟨rfl, rfl⟩
        refine hK.out _ _ ?_ (fun hHeld => ?_)
        · go_keep
        clear hK K
        try simp only [Act.put, List.setIfInBounds_toArray, List.set_cons_zero, List.set_cons_succ]
        refine takeW 13 (v := ?v48) rfl (by kernel_rfl) (by kernel_rfl) (by kernel_rfl) (fun _ _ _ h => h) (by rfl) (by assumption) ?hy48 ?rest48
        case hy48 => intro w' hSw; (try dsimp only at hSw); go_simp; try with_reducible rfl
        try simp only [Act.put, List.setIfInBounds_toArray, List.set_cons_zero, List.set_cons_succ]
        refine wpAnyH_done (by kernel_rfl) ?_ _
        all_goals go_wp2
        all_goals go_roundw
        all_goals first
          | exact ⟨m + 1, .inl hlt, by omega, by go_num, HR.out, below_one hB (Below.refl _ wr).drew⟩
          | ((repeat apply Exists.intro); exact ⟨⟨m + 1, .inl hlt, by omega, by go_num, HR.out, below_one hB (Below.refl _ wr).drew⟩, rfl⟩)
          | (simp [intOf]; omega)
    · have HR := hid (show upN zs = true from upN_yes fun i hi => HU.out i (by omega))
      have hl1 : ¬ (m : Int) < (zs.length : Int) := by omega
      go_wp2
      go_ret
      exact ⟨ret_bool HR.out.symm, hB⟩

end Go.Proofs.YthpckiobfjdckaaGreat

namespace Go.Proofs.YthpckiobfjdckaaGreat
open Go.RowKit Go.Shelf Go.Sort

set_option maxHeartbeats 2000000 in
theorem implPlain_any (v : Value) (rs : List Ru) (w : World) (hm : rs.length ≤ 1048577) (hf : ∀ r ∈ rs, r.size ≤ 1048576) (hr : RuR w v rs) :
    Calls Tryz.prog 40 #[v] w fun e w' => ∃ v', e = .returned (.tuple #[v', .bool (polB rs)]) ∧ w'.ownsRow w.heap.size 63 4 v' (plX rs).length ((plX rs).flatMap Ru.cells) ∧ Below w.heap.size w w' := by
  rcases hr with ⟨rfl, rfl⟩ | ⟨b, off, cap, rfl, hb, hle, hc⟩
  · exact implPlainPolicy_any _ [] w.heap.size w hm hf (World.ownsRow_nil _ _ _ _)
  have hr : RuR w (.slice (some ⟨b, off, none⟩) rs.length cap) rs := .inr ⟨b, off, cap, rfl, hb, hle, hc⟩
  clear hc
  cases hp : polB rs
  · have HX := hid (plX_no hp)
    go_enter Tryz.func40, Tryz.ntmps40
    go_wp2_with fail
    refine (goodPolicy_any _ rs _ hm hf hr.s).mono ?_
    rintro e w1 ⟨rfl, hB1⟩
    rw [hp]
    go_wp2_with fail
    go_ret2
    exact ⟨_, rfl, by rw [HX.out]; exact World.ownsRow_nil _ _ _ _, hB1⟩
  · have HX := hid (plX_yes hp)
    have HG := hid (pol_all hp)
    go_enter Tryz.func40, Tryz.ntmps40
    go_wp2_with fail
    refine (goodPolicy_any _ rs _ hm hf hr.s).mono ?_
    rintro e w1 ⟨rfl, hB1⟩
    rw [hp]
    go_wp2_with fail
    refine (cloneRu_any _ rs _ hm (hr.below hB1)).mono ?_
    rintro e w2 ⟨v2, rfl, hrow2, hnn, hB2⟩
    have hBB2 := below_one hB1 hB2
    rcases row_form hrow2 with ⟨h', _⟩ | ⟨g2, cap2, rfl, hg2, hcap2⟩
    · rcases hnn with hnn | hnn
      · cases hnn
      · exact absurd h' hnn
    · clear hnn
      obtain ⟨l, hl⟩ : ∃ l : List SmR, l.map Subtype.val = rs := ⟨rs.pmap Subtype.mk hf, by simp [List.map_pmap]⟩
      have hll : l.length = rs.length := by rw [← hl, List.length_map]
      have hrow2' : w2.ownsRow w1.heap.size 63 4 (.slice (some ⟨g2, 0, none⟩) l.length cap2) l.length ((l.map Subtype.val).flatMap Ru.cells) := by rw [hl, hll]; exact hrow2
      have hz12 := hB1.size
      clear hr
      go_wp2_with fail
      rw [← hll]
      refine (sortRules_any w1.heap.size g2 cap2 l _ (by omega) hrow2').mono ?_
      rintro e w3 ⟨rfl, ds, hperm, hsort, hrow3, hg3⟩
      have hBB3 : Below w.heap.size w w3 := hBB2.grown hg3 hBB2.size (fun k hk => by cases hk; omega)
      have hdl : (ds.map Subtype.val).length = rs.length := by rw [List.length_map, ← hll]; exact hperm.length_eq
      rw [hll] at hrow3
      have HP := hid (show cpTo (ds.map Subtype.val) rs.length = plTo rs rs.length by
        have := plain_eq (rs := rs) (ds := ds.map Subtype.val) HG.out.1 (by rw [← hl]; exact hperm.map _) (fun i j hi hj => by
          rw [List.getElem_map, List.getElem_map]
          exact hsort i j hi (by rw [List.length_map] at hj; exact hj))
        rw [hdl] at this
        exact this)
      clear hrow2 hrow2' hB1 hB2 hsort hperm
      go_wp2_with fail
      refine (compact_any w1.heap.size g2 cap2 rs.length (ds.map Subtype.val) _ hdl (by omega) hrow3).mono ?_
      rintro e w4 ⟨rfl, hrow4, hg4⟩
      rw [HP.out] at hrow4 ⊢
      have hBB4 : Below w.heap.size w w4 := hBB3.grown hg4 hBB3.size (fun k hk => by cases hk; omega)
      go_wp2_with fail
      go_ret2
      exact ⟨_, rfl, by rw [HX.out]; exact Go.Joins.ownsRow_le hrow4 hz12, hBB4⟩

/-- A number is a serial. -/
def okS (n : Int) : Bool := decide (1 ≤ n ∧ n < 100001)
theorem okSerial_any (n : Int) (w : World) :
    Calls Tryz.prog 93 #[.int .i64 n] w fun e w' => e = .returned (.bool (okS n)) ∧ w' = w := by
  by_cases c1 : 1 ≤ n
  · by_cases c2 : n ≤ 100000
    · have HR := hid (show okS n = true from decide_eq_true (by omega))
      go_enter Tryz.func93, Tryz.ntmps93
      go_wp2
      go_ret
      exact ⟨ret_bool HR.out.symm, rfl⟩
    · have HR := hid (show okS n = false from decide_eq_false (by omega))
      go_enter Tryz.func93, Tryz.ntmps93
      go_wp2
      go_ret
      exact ⟨ret_bool HR.out.symm, rfl⟩
  · have HR := hid (show okS n = false from decide_eq_false (by omega))
    go_enter Tryz.func93, Tryz.ntmps93
    go_wp2
    go_ret
    exact ⟨ret_bool HR.out.symm, rfl⟩

set_option maxHeartbeats 1000000 in
theorem fewSerials_any (v : Value) (zs : List Int) (w : World) (hm : zs.length ≤ 1048577) (hr : VS w v (nums zs)) :
    Calls Tryz.prog 68 #[v] w fun e w' => e = .returned (.bool (fewB zs)) ∧ w' = w := by
  obtain ⟨a, cap, rfl⟩ := hr.numLen
  by_cases h2 : zs.length ≤ 200
  · have HY := hid (fun h => fewB_yes (zs := zs) h2 h)
    have HL := hid h2
    have d0 : ¬ (200 : Int) < (zs.length : Int) := by omega
    go_enter Tryz.func68, Tryz.ntmps68
    go_wp2
    go_loop [10] (fun i => ∃ n : Nat, n ≤ zs.length ∧ i = .int .i64 n ∧ ∀ j (hj : j < zs.length), j < n → 1 ≤ zs[j] ∧ zs[j] < 100001) (fun i => zs.length - (intOf i).toNat)
    case atStart => exact ⟨0, Nat.zero_le _, rfl, fun _ _ h => absurd h (Nat.not_lt_zero _)⟩
    case round =>
      obtain ⟨n, hn, rfl, ht⟩ := hrel
      have HT := hid ht
      clear ht
      by_cases hlt : n < zs.length
      · obtain ⟨b, off, rfl, hb, hcap, q0⟩ := hr.num hlt
        have HN := hid (fun h => fewB_no2 (okN_no (nx := 100001) (zs := zs) hlt h))
        have HS := hid (show (1 ≤ zs[n] ∧ zs[n] < 100001) → ∀ j (hj : j < zs.length), j < n + 1 → 1 ≤ zs[j] ∧ zs[j] < 100001 from fun h j hj hjn => by
          by_cases e : j = n
          · subst e; exact h
          · exact HT.out j hj (by omega))
        generalize zs[n] = x at *
        by_cases hx : 1 ≤ x ∧ x < 100001
        · have hd : okS x = true := decide_eq_true hx
          have HR := hid (HS.out hx)
          clear hx
          go_wp2_with (go_at_call 93; refine (okSerial_any x _).mono ?_; rintro e w1 ⟨rfl, rfl⟩; rw [hd])
          exact ⟨⟨n + 1, by omega, by go_num, HR.out⟩, by simp [intOf]; omega⟩
        · have hd : okS x = false := decide_eq_false hx
          have HR := hid (HN.out hx)
          clear hx
          go_wp2_with (go_at_call 93; refine (okSerial_any x _).mono ?_; rintro e w1 ⟨rfl, rfl⟩; rw [hd])
          go_ret
          exact ⟨ret_bool HR.out.symm, rfl⟩
      · obtain rfl : n = zs.length := by omega
        have HR := hid (HY.out (okN_yes fun i hi => HT.out i hi hi))
        go_wp2
        go_ret
        exact ⟨ret_bool HR.out.symm, rfl⟩
  · have HR := hid (fewB_no1 (zs := zs) h2)
    have d0 : (200 : Int) < (zs.length : Int) := by omega
    go_enter Tryz.func68, Tryz.ntmps68
    go_wp2
    go_ret
    exact ⟨ret_bool HR.out.symm, rfl⟩

set_option maxHeartbeats 4000000 in
theorem implGoodSnapshot_any (v : Value) (s : Sn) (w : World) (hs : s.short) (h : SnR w v s) :
    Calls Tryz.prog 39 #[v] w fun e w' => e = .returned (.bool (snB s)) ∧ Below w.heap.size w w' := by
  obtain ⟨vp, vr, rfl, h1, h2⟩ := h
  obtain ⟨l1, l2, hz⟩ := hs
  obtain ⟨ap, cp, rfl⟩ := h1.len
  obtain ⟨ar, cr, rfl⟩ := h2.len
  have hB0 : Below w.heap.size w (w.alloc (.cells #[.int .i64 s.num, .slice ap s.pol.length cp, .slice ar s.rv.length cr] 32)) := (Below.refl _ w).alloc (Nat.le_refl _) _
  have F := Three.new w (.int .i64 s.num) (.slice ap s.pol.length cp) (.slice ar s.rv.length cr) 32
  by_cases c1 : s.num < 1
  · have HR := hid (snB_no1 (s := s) (decide_eq_false (by omega)))
    go_enter Tryz.func39, Tryz.ntmps39
    go_wp2
    go_ret
    exact ⟨ret_bool HR.out.symm, hB0⟩
  by_cases c2 : 100000 < s.num
  · have HR := hid (snB_no1 (s := s) (decide_eq_false (by omega)))
    go_enter Tryz.func39, Tryz.ntmps39
    go_wp2
    go_ret
    exact ⟨ret_bool HR.out.symm, hB0⟩
  have HN := hid (show numB s.num = true from decide_eq_true (by omega))
  go_enter Tryz.func39, Tryz.ntmps39
  go_wp2_with fail
  generalize w.alloc (.cells #[.int .i64 s.num, .slice ap s.pol.length cp, .slice ar s.rv.length cr] 32) = W0 at *
  refine (implPlain_any _ s.pol _ (by omega) hz (h1.below hB0)).mono ?_
  rintro e w1 ⟨v1, rfl, o1, hB1⟩
  have hpl := plX_len (rs := s.pol) (by omega)
  obtain ⟨a1, k1, rfl⟩ := ownsRow_len o1
  replace F := F.below hB1
  have hBB1 := below_one hB0 hB1
  clear hB0 hB1
  obtain ⟨a0, a1', a2⟩ := F.c
  cases hp : polB s.pol
  · have HR := hid (snB_no2 hp)
    go_wp2
    go_ret
    exact ⟨ret_bool HR.out.symm, hBB1⟩
  go_wp2_with fail
  refine (equalRu_any _ _ (plX s.pol) s.pol _ hpl (by omega) (RuR.own o1) (h1.below hBB1)).mono ?_
  rintro e w2 ⟨rfl, hB2⟩
  replace F := F.below hB2
  have hBB2 := below_one hBB1 hB2
  clear hBB1 hB2 a0 a1' a2
  obtain ⟨a0, a1', a2⟩ := F.c
  cases hsm : sameS (plX s.pol) s.pol
  · have HR := hid (snB_no3 hsm)
    go_wp2
    go_ret
    exact ⟨ret_bool HR.out.symm, hBB2⟩
  go_wp2_with fail
  refine (fewSerials_any _ s.rv _ (by omega) (h2.below hBB2).s).mono ?_
  rintro e w3 ⟨rfl, rfl⟩
  cases hfw : fewB s.rv
  · have HR := hid (snB_no4 hfw)
    go_wp2
    go_ret
    exact ⟨ret_bool HR.out.symm, hBB2⟩
  go_wp2_with fail
  refine (risingN_any _ s.rv _ (by omega) (h2.below hBB2).s).mono ?_
  rintro e w4 ⟨rfl, hB4⟩
  have hBB4 := below_one hBB2 hB4
  cases hup : upN s.rv
  · have HR := hid (snB_no5 hup)
    go_wp2
    go_ret
    exact ⟨ret_bool HR.out.symm, hBB4⟩
  have HR := hid (snB_yes HN.out hp hsm hfw hup)
  go_wp2
  go_ret
  exact ⟨ret_bool HR.out.symm, hBB4⟩

end Go.Proofs.YthpckiobfjdckaaGreat

namespace Go.Proofs.YthpckiobfjdckaaGreat
open Go.RowKit Go.Shelf

def zrU : Ru := ⟨false, ByteArray.empty, ByteArray.empty, ByteArray.empty⟩
/-- Nothing is in force. -/
def zeB (s : Sn) : Bool := (s.num == 0) && (((s.pol.length : Int) == 0) && ((s.rv.length : Int) == 0))
def foB (s : Sn) : Bool := zeB s || snB s
/-- A place is as said. -/
def plB (h : Bool) (r : Ru) (z : Int) : Bool := if h = true then (if (z == 0) = true then r.good else r.same zrU && numB z) else r.same zrU && (z == 0)
def plA (s : Sd) (i : Nat) : Bool := plB ((s.ha[i]?).getD false) ((s.ru[i]?).getD zrU) ((s.se[i]?).getD 0)
def plT (s : Sd) (k : Nat) : Bool := (List.range k).all (plA s)
def lnB (s : Sd) : Bool := ((s.ru.length : Int) == (s.ha.length : Int)) && (((s.se.length : Int) == (s.ha.length : Int)) && decide ((s.ha.length : Int) ≤ 230))
def coB (s : Sd) : Bool := if (s.co == 0) = true then (s.ha.length : Int) == 0 else decide (s.fo.num < s.co) && decide (s.co ≤ 100000)
/-- A side is good. -/
def sdB (s : Sd) : Bool := foB s.fo && (lnB s && (coB s && plT s s.ha.length))
theorem sd_no1 {s : Sd} (h : foB s.fo = false) : sdB s = false := by unfold sdB; rw [h]; rfl
theorem sd_no2 {s : Sd} (h : lnB s = false) : sdB s = false := by unfold sdB; rw [h]; simp
theorem sd_no3 {s : Sd} (h : coB s = false) : sdB s = false := by unfold sdB; rw [h]; simp
theorem plT_zero (s : Sd) : plT s 0 = true := by simp [plT]
theorem plT_succ (s : Sd) (k : Nat) : plT s (k + 1) = (plT s k && plA s k) := by
  unfold plT
  rw [List.range_succ, List.all_append]
  simp
theorem sd_no4 {s : Sd} {k : Nat} (hk : k < s.ha.length) (h : plA s k = false) : sdB s = false := by
  have : plT s s.ha.length = false := List.all_eq_false.2 ⟨k, List.mem_range.2 hk, by rw [h]; simp⟩
  unfold sdB
  rw [this]
  simp
theorem sd_yes {s : Sd} (h1 : foB s.fo = true) (h2 : lnB s = true) (h3 : coB s = true) (h4 : plT s s.ha.length = true) : sdB s = true := by
  unfold sdB
  rw [h1, h2, h3, h4]
  rfl
theorem sd_parts {s : Sd} (h : sdB s = true) : foB s.fo = true ∧ lnB s = true ∧ coB s = true ∧ plT s s.ha.length = true := by
  unfold sdB at h
  simpa [Bool.and_eq_true] using h
theorem lnB_parts {s : Sd} (h : lnB s = true) : s.ru.length = s.ha.length ∧ s.se.length = s.ha.length ∧ s.ha.length ≤ 230 := by
  unfold lnB at h
  simp at h
  omega
theorem plA_at {s : Sd} {k : Nat} (h : k < s.ha.length) (hr : k < s.ru.length) (hz : k < s.se.length) : plA s k = plB s.ha[k] s.ru[k] s.se[k] := by
  unfold plA
  rw [List.getElem?_eq_getElem h, List.getElem?_eq_getElem hr, List.getElem?_eq_getElem hz]
  rfl
theorem foB_num {s : Sn} (h : foB s = true) : 0 ≤ s.num ∧ s.num ≤ 100000 := by
  unfold foB at h
  rw [Bool.or_eq_true] at h
  rcases h with h | h
  · unfold zeB at h
    simp at h
    omega
  · have := snB_num h
    omega
theorem ne_of_bne {a b : Int} (h : (a != b) = true) : (a == b) = false := by
  rw [bne] at h
  cases hq : (a == b)
  · rfl
  · rw [hq] at h; cases h
theorem eq_of_bne {a b : Int} (h : (a != b) = false) : a = b := by
  rw [bne] at h
  cases hq : (a == b)
  · rw [hq] at h; cases h
  · exact eq_of_beq hq
theorem ln_no1 {s : Sd} (h : ((s.ru.length : Int) != (s.ha.length : Int)) = true) : lnB s = false := by unfold lnB; rw [ne_of_bne h]; rfl
theorem ln_no2 {s : Sd} (h : ((s.se.length : Int) != (s.ha.length : Int)) = true) : lnB s = false := by
  unfold lnB
  rw [ne_of_bne h]
  cases ((s.ru.length : Int) == (s.ha.length : Int)) <;> rfl
theorem ln_no3 {s : Sd} (h : decide ((230 : Int) < (s.ha.length : Int)) = true) : lnB s = false := by
  unfold lnB
  rw [decide_eq_false (p := (s.ha.length : Int) ≤ 230) (by have := of_decide_eq_true h; omega)]
  cases ((s.ru.length : Int) == (s.ha.length : Int)) <;> cases ((s.se.length : Int) == (s.ha.length : Int)) <;> rfl
theorem ln_yes {s : Sd} (h1 : ((s.ru.length : Int) != (s.ha.length : Int)) = false) (h2 : ((s.se.length : Int) != (s.ha.length : Int)) = false) (h3 : decide ((230 : Int) < (s.ha.length : Int)) = false) : lnB s = true := by
  unfold lnB
  rw [eq_of_bne h1, eq_of_bne h2, decide_eq_true (p := (s.ha.length : Int) ≤ 230) (by have := of_decide_eq_false h3; omega)]
  simp
theorem co_no1 {s : Sd} (h : (s.co == 0) = true) (h2 : ((s.ha.length : Int) == 0) = false) : coB s = false := by unfold coB; rw [if_pos h, h2]
theorem co_yes1 {s : Sd} (h : (s.co == 0) = true) (h2 : ((s.ha.length : Int) == 0) = true) : coB s = true := by unfold coB; rw [if_pos h, h2]
theorem co_no2 {s : Sd} (h : (s.co == 0) = false) (h2 : ¬ (s.fo.num < s.co ∧ s.co ≤ 100000)) : coB s = false := by
  unfold coB
  rw [if_neg (by rw [h]; exact Bool.false_ne_true), ← Bool.decide_and]
  exact decide_eq_false h2
theorem co_yes2 {s : Sd} (h : (s.co == 0) = false) (h1 : s.fo.num < s.co) (h2 : s.co ≤ 100000) : coB s = true := by
  unfold coB
  rw [if_neg (by rw [h]; exact Bool.false_ne_true), decide_eq_true h1, decide_eq_true h2]
  rfl
theorem zrU_bad : zrU.good = false := by decide +kernel
theorem zero_rule {r : Ru} (h : r.same zrU = true) : r.good = false := by rw [same_eq h]; exact zrU_bad
theorem neq_zr (r : Ru) (w : World) : (binOp .neq 63 r.val (.agg #[.bool false, .string ⟨#[]⟩, .string ⟨#[]⟩, .string ⟨#[]⟩])).run Tryz.prog w = .ok (.bool (!(r.same zrU))) w := neq_ru r zrU w
theorem eql_zr (r : Ru) (w : World) : (binOp .eql 63 r.val (.agg #[.bool false, .string ⟨#[]⟩, .string ⟨#[]⟩, .string ⟨#[]⟩])).run Tryz.prog w = .ok (.bool (r.same zrU)) w := eql_ru r zrU w

set_option maxHeartbeats 1000000 in
theorem l3Num_any (n : Int) (w : World) :
    Calls Tryz.prog 88 #[.int .i64 n] w fun e w' => e = .returned (.bool (numB n)) ∧ w' = w := by
  go_enter Tryz.func88, Tryz.ntmps88
  go_wp2_with (go_at_call 59; refine (l1In_any n 1 100000 _).mono ?_; rintro e w1 ⟨rfl, rfl⟩)
  go_ret
  exact ⟨rfl, rfl⟩

set_option maxHeartbeats 1000000 in
theorem l6Zero_any (v : Value) (s : Sn) (w : World) (hs : s.short) (h : SnA w v s) :
    Calls Tryz.prog 86 #[v] w fun e w' => e = .returned (.bool (zeB s)) ∧ Below w.heap.size w w' := by
  obtain ⟨vp, vr, rfl, h1, h2⟩ := h
  obtain ⟨l1, l2, _⟩ := hs
  obtain ⟨ap, cp, rfl⟩ := h1.len
  obtain ⟨ar, cr, rfl⟩ := h2.numLen
  cases e0 : (s.num == 0)
  · have HR := hid (show zeB s = false by unfold zeB; rw [e0]; rfl)
    go_enter Tryz.func86, Tryz.ntmps86
    go_wp2
    go_ret
    exact ⟨ret_bool HR.out.symm, (Below.refl _ w).alloc (Nat.le_refl _) _⟩
  · cases e1 : ((s.pol.length : Int) == 0)
    · have HR := hid (show zeB s = false by unfold zeB; rw [e0, e1]; rfl)
      go_enter Tryz.func86, Tryz.ntmps86
      go_wp2
      go_ret
      exact ⟨ret_bool HR.out.symm, (Below.refl _ w).alloc (Nat.le_refl _) _⟩
    · have HR := hid (show zeB s = ((s.rv.length : Int) == 0) by unfold zeB; rw [e0, e1]; rfl)
      go_enter Tryz.func86, Tryz.ntmps86
      go_wp2
      go_ret
      exact ⟨ret_bool HR.out.symm, (Below.refl _ w).alloc (Nat.le_refl _) _⟩

set_option maxHeartbeats 2000000 in
theorem goodForce_any (v : Value) (s : Sn) (w : World) (hs : s.short) (h : SnR w v s) :
    Calls Tryz.prog 89 #[v] w fun e w' => e = .returned (.bool (foB s)) ∧ Below w.heap.size w w' := by
  have h' := h
  have hs' := hs
  obtain ⟨vp, vr, rfl, h1, h2⟩ := h
  obtain ⟨l1, l2, _⟩ := hs
  obtain ⟨ap, cp, rfl⟩ := h1.len
  obtain ⟨ar, cr, rfl⟩ := h2.len
  have hB0 : Below w.heap.size w (w.alloc (.cells #[.int .i64 s.num, .slice ap s.pol.length cp, .slice ar s.rv.length cr] 32)) := (Below.refl _ w).alloc (Nat.le_refl _) _
  have F := Three.new w (.int .i64 s.num) (.slice ap s.pol.length cp) (.slice ar s.rv.length cr) 32
  have HF := hid (show foB s = (zeB s || snB s) from rfl)
  cases e0 : (s.num == 0)
  · have HZ := hid (show zeB s = false by unfold zeB; rw [e0]; rfl)
    go_enter Tryz.func89, Tryz.ntmps89
    go_wp2_with fail
    generalize w.alloc (.cells #[.int .i64 s.num, .slice ap s.pol.length cp, .slice ar s.rv.length cr] 32) = W0 at *
    refine (implGoodSnapshot_any _ s _ hs' (h'.below hB0)).mono ?_
    rintro e w1 ⟨rfl, hB1⟩
    go_wp2_with fail
    go_ret
    exact ⟨ret_bool (by rw [HF.out, HZ.out]; rfl), below_one hB0 hB1⟩
  · cases e1 : ((s.pol.length : Int) == 0)
    · have HZ := hid (show zeB s = false by unfold zeB; rw [e0, e1]; rfl)
      go_enter Tryz.func89, Tryz.ntmps89
      go_wp2_with fail
      generalize w.alloc (.cells #[.int .i64 s.num, .slice ap s.pol.length cp, .slice ar s.rv.length cr] 32) = W0 at *
      refine (implGoodSnapshot_any _ s _ hs' (h'.below hB0)).mono ?_
      rintro e w1 ⟨rfl, hB1⟩
      go_wp2_with fail
      go_ret
      exact ⟨ret_bool (by rw [HF.out, HZ.out]; rfl), below_one hB0 hB1⟩
    · cases e2 : ((s.rv.length : Int) == 0)
      · have HZ := hid (show zeB s = false by unfold zeB; rw [e0, e1, e2]; rfl)
        go_enter Tryz.func89, Tryz.ntmps89
        go_wp2_with fail
        generalize w.alloc (.cells #[.int .i64 s.num, .slice ap s.pol.length cp, .slice ar s.rv.length cr] 32) = W0 at *
        refine (implGoodSnapshot_any _ s _ hs' (h'.below hB0)).mono ?_
        rintro e w1 ⟨rfl, hB1⟩
        go_wp2_with fail
        go_ret
        exact ⟨ret_bool (by rw [HF.out, HZ.out]; rfl), below_one hB0 hB1⟩
      · have HZ := hid (show zeB s = true by unfold zeB; rw [e0, e1, e2]; rfl)
        go_enter Tryz.func89, Tryz.ntmps89
        go_wp2_with fail
        go_ret
        exact ⟨ret_bool (by rw [HF.out, HZ.out]; rfl), hB0⟩

def b4B (s : Sd) : Bool := !(lnB s) || ((s.co == 0) && decide ((0 : Int) < (s.ha.length : Int)))
def b6B (s : Sd) : Bool := (s.co != 0) && !(inB (s.fo.num + 1) 100000 s.co)
theorem b4_bad {s : Sd} (h : b4B s = true) : sdB s = false := by
  unfold b4B at h
  rw [Bool.or_eq_true] at h
  rcases h with h | h
  · exact sd_no2 (by simpa using h)
  · rw [Bool.and_eq_true] at h
    exact sd_no3 (co_no1 h.1 (beq_eq_false_iff_ne.2 (by have := of_decide_eq_true h.2; omega)))
theorem b6_bad {s : Sd} (h : b6B s = true) : sdB s = false := by
  unfold b6B at h
  rw [Bool.and_eq_true] at h
  have h2 : inB (s.fo.num + 1) 100000 s.co = false := by have := h.2; simpa using this
  exact sd_no3 (co_no2 (ne_of_bne h.1) (fun hh => by have := of_decide_eq_false h2; omega))
theorem b46_good {s : Sd} (h : b4B s = false) (h6 : b6B s = false) : lnB s = true ∧ coB s = true := by
  unfold b4B at h
  rw [Bool.or_eq_false_iff] at h
  have hl : lnB s = true := by simpa using h.1
  refine ⟨hl, ?_⟩
  cases h0 : (s.co == 0)
  · have hb : (s.co != 0) = true := by rw [bne, h0]; rfl
    have h2 : inB (s.fo.num + 1) 100000 s.co = true := by unfold b6B at h6; rw [hb] at h6; simpa using h6
    have := of_decide_eq_true h2
    exact co_yes2 h0 (by omega) (by omega)
  · have := h.2
    rw [h0, Bool.true_and] at this
    exact co_yes1 h0 (beq_iff_eq.2 (by have := of_decide_eq_false this; omega))

set_option maxHeartbeats 8000000 in
set_option maxRecDepth 100000 in
theorem specGoodSide_any (v : Value) (s : Sd) (w : World) (hs : s.short) (h : SdA w v s) :
    Calls Tryz.prog 49 #[v] w fun e w' => e = .returned (.bool (sdB s)) ∧ Below w.heap.size w w' := by
  obtain ⟨vp, vr, vu, vh, vs, rfl, h1, h2, h3, h4, h5⟩ := h
  obtain ⟨hf, l3, l4, l5, lr⟩ := hs
  have hS : SnA w (.agg #[.int .i64 s.fo.num, vp, vr]) s.fo := ⟨_, _, rfl, h1, h2⟩
  obtain ⟨ap, cp, rfl⟩ := h1.len
  obtain ⟨ar, cr, rfl⟩ := h2.numLen
  obtain ⟨au, cu, rfl⟩ := h3.len
  obtain ⟨ah, ch, rfl⟩ := h4.bolLen
  obtain ⟨ai, ci, rfl⟩ := h5.numLen
  have hB0 : Below w.heap.size w (w.alloc (.cells #[.int .i64 s.fo.num, .slice ap s.fo.pol.length cp, .slice ar s.fo.rv.length cr, .int .i64 s.co, .slice au s.ru.length cu, .slice ah s.ha.length ch, .slice ai s.se.length ci] 51)) := (Below.refl _ w).alloc (Nat.le_refl _) _
  have F := Seven.new w (.int .i64 s.fo.num) (.slice ap s.fo.pol.length cp) (.slice ar s.fo.rv.length cr) (.int .i64 s.co) (.slice au s.ru.length cu) (.slice ah s.ha.length ch) (.slice ai s.se.length ci) 51
  have HF := hid (show foB s.fo = (zeB s.fo || snB s.fo) from rfl)
  obtain ⟨a0, a1, a2, a3, a4, a5, a6⟩ := F.c
  go_enter Tryz.func49, Tryz.ntmps49
  go_upto_region 1 with fail
  generalize w.alloc (.cells #[.int .i64 s.fo.num, .slice ap s.fo.pol.length cp, .slice ar s.fo.rv.length cr, .int .i64 s.co, .slice au s.ru.length cu, .slice ah s.ha.length ch, .slice ai s.se.length ci] 51) = W0 at *
  have hBw := hB0
  have F0 := F
  go_cut [17] (fun s0 wx => s0 = .bool (!(foB s.fo)) ∧ Below W0.heap.size W0 wx)
  case first =>
    cases hz : zeB s.fo
    · go_wp2_with fail
      refine (l6Zero_any _ s.fo _ hf (hS.below hB0)).mono ?_
      rintro e w1 ⟨rfl, hB1⟩
      rw [hz]
      replace F := F.below hB1
      replace hB0 := below_one hB0 hB1
      clear a0 a1 a2 a3 a4 a5 a6
      obtain ⟨a0, a1, a2, a3, a4, a5, a6⟩ := F.c
      go_wp2_with fail
      refine (specGoodSnapshot_any _ s.fo _ hf (hS.below hB0)).mono ?_
      rintro e w2 ⟨rfl, hB2⟩
      go_wp2_with fail
      go_meet
      exact ⟨by rw [HF.out, hz]; rfl, below_one hB1 hB2⟩
    · go_wp2_with fail
      refine (l6Zero_any _ s.fo _ hf (hS.below hB0)).mono ?_
      rintro e w1 ⟨rfl, hB1⟩
      rw [hz]
      go_wp2_with fail
      go_meet
      exact ⟨by rw [HF.out, hz]; rfl, hB1⟩
  case rest =>
    obtain ⟨rfl, hBW⟩ := hcut
    clear HF a0 a1 a2 a3 a4 a5 a6
    replace F := F0.below hBW
    replace hB0 := below_one hBw hBW
    obtain ⟨a0, a1, a2, a3, a4, a5, a6⟩ := F.c
    cases hfo : foB s.fo
    case false =>
      have HR := hid (show sdB s = false from sd_no1 hfo)
      go_wp2_with fail
      go_ret
      exact ⟨ret_bool HR.out.symm, hB0⟩
    have HFO := hid hfo
    have hnum := foB_num HFO.out
    clear hfo
    go_upto_region 4 with fail
    go_cut [45] (fun s0 wx => s0 = .bool (b4B s) ∧ Below W0.heap.size W0 wx)
    case first =>
      cases m1 : ((s.ru.length : Int) != (s.ha.length : Int))
      case true =>
        have HR := hid (show b4B s = true by unfold b4B; rw [ln_no1 m1]; rfl)
        go_wp2_with fail
        go_meet
        exact ⟨by rw [HR.out], hBW⟩
      cases m2 : ((s.se.length : Int) != (s.ha.length : Int))
      case true =>
        have HR := hid (show b4B s = true by unfold b4B; rw [ln_no2 m2]; rfl)
        go_wp2_with fail
        go_meet
        exact ⟨by rw [HR.out], hBW⟩
      cases m3 : decide ((230 : Int) < (s.ha.length : Int))
      case true =>
        have HR := hid (show b4B s = true by unfold b4B; rw [ln_no3 m3]; rfl)
        go_wp2_with fail
        go_meet
        exact ⟨by rw [HR.out], hBW⟩
      have HL := hid (ln_yes m1 m2 m3)
      cases m4 : (s.co == 0)
      · have HR := hid (show b4B s = false by unfold b4B; rw [HL.out, m4]; rfl)
        go_wp2_with fail
        go_meet
        exact ⟨by rw [HR.out], hBW⟩
      · have HR := hid (show b4B s = decide ((0 : Int) < (s.ha.length : Int)) by unfold b4B; rw [HL.out, m4]; rfl)
        go_wp2_with fail
        go_meet
        exact ⟨by rw [HR.out]; simp, hBW⟩
    case rest =>
      clear hBW hB0 F a0 a1 a2 a3 a4 a5 a6
      obtain ⟨rfl, hBW⟩ := hcut
      have F := F0.below hBW
      have hB0 := below_one hBw hBW
      obtain ⟨a0, a1, a2, a3, a4, a5, a6⟩ := F.c
      cases hb4 : b4B s
      case true =>
        have HR := hid (b4_bad hb4)
        go_wp2_with fail
        go_ret
        exact ⟨ret_bool HR.out.symm, hB0⟩
      have HB4 := hid hb4
      clear hb4
      go_upto_region 6 with fail
      go_cut [58] (fun s0 wx => s0 = .bool (b6B s) ∧ Below W0.heap.size W0 wx)
      case first =>
        cases m6 : (s.co != 0)
        · have HR := hid (show b6B s = false by unfold b6B; rw [m6]; rfl)
          go_wp2_with fail
          go_meet
          exact ⟨by rw [HR.out], hBW⟩
        · have HR := hid (show b6B s = !(inB (s.fo.num + 1) 100000 s.co) by unfold b6B; rw [m6]; rfl)
          go_wp2_with fail
          refine (l1In_any s.co (s.fo.num + 1) 100000 _).mono ?_
          rintro e w3 ⟨rfl, rfl⟩
          go_wp2_with fail
          go_meet
          exact ⟨by rw [HR.out], hBW⟩
      case rest =>
        clear hBW hB0 F a0 a1 a2 a3 a4 a5 a6
        obtain ⟨rfl, hBW⟩ := hcut
        have F := F0.below hBW
        have hB0 := below_one hBw hBW
        obtain ⟨a0, a1, a2, a3, a4, a5, a6⟩ := F.c
        cases hb6 : b6B s
        case true =>
          have HR := hid (b6_bad hb6)
          go_wp2_with fail
          go_ret
          exact ⟨ret_bool HR.out.symm, hB0⟩
        have HL := hid (b46_good HB4.out hb6).1
        have HCO := hid (b46_good HB4.out hb6).2
        obtain ⟨hl1, hl2, hl3⟩ := lnB_parts HL.out
        have hq1 : s.ha.length ≤ s.ru.length := by omega
        have hq2 : s.ha.length ≤ s.se.length := by omega
        clear hl1 hl2 HB4 hb6
        go_wp2_with fail
        clear F hB0 a0 a1 a2 a3 a4 a5 a6
        go_loopw [62] (fun i wr => ∃ k : Nat, k ≤ s.ha.length ∧ i = .int .i64 k ∧ plT s k = true ∧ Below W0.heap.size W0 wr) (fun i _ => s.ha.length - (intOf i).toNat)
        case atStart => exact ⟨0, Nat.zero_le _, rfl, plT_zero _, hBW⟩
        case round =>
          obtain ⟨k, hk, rfl, ht, hB⟩ := hrel
          have HT := hid ht
          clear ht
          have hBr := hB
          have F := F0.below hB
          have hB0 := below_one hBw hB
          clear hB hBW
          obtain ⟨a0, a1, a2, a3, a4, a5, a6⟩ := F.c
          by_cases hlt : k < s.ha.length
          · have hlr : k < s.ru.length := by omega
            have hlz : k < s.se.length := by omega
            obtain ⟨bu, ou, rfl, hbu, hcu, q0, q1, q2, q3⟩ := (h3.below hB0).at hlr
            obtain ⟨bh, oh, rfl, hbh, hch, q4⟩ := (h4.below hB0).bol hlt
            obtain ⟨bi, oi, rfl, hbi, hci, q5⟩ := (h5.below hB0).num hlz
            have HA := hid (plA_at hlt hlr hlz)
            have hrs := lr _ (List.getElem_mem hlr)
            generalize s.ru[k] = r at *
            generalize s.ha[k] = hh at *
            generalize s.se[k] = z at *
            have hru : r.who.size ≤ 1048576 := by unfold Ru.size at hrs; omega
            have hrp : r.path.size ≤ 1048576 := by unfold Ru.size at hrs; omega
            have hne := neq_zr r
            have HN := hid (plT_succ s k)
            have HB := hid (fun h => sd_no4 (s := s) hlt h)
            cases hh
            · cases e1 : r.same zrU
              · have HR := hid (show sdB s = false from HB.out (by rw [HA.out]; unfold plB; rw [if_neg (by simp), e1]; rfl))
                go_wp2_with fail
                go_ret
                exact ⟨ret_bool HR.out.symm, hB0⟩
              · cases e2 : (z == 0)
                · have e3 : (z != 0) = true := by rw [bne, e2]; rfl
                  have HR := hid (show sdB s = false from HB.out (by rw [HA.out]; unfold plB; rw [if_neg (by simp), e1, e2]; rfl))
                  go_wp2_with fail
                  go_ret
                  exact ⟨ret_bool HR.out.symm, hB0⟩
                · have e3 : (z != 0) = false := by rw [bne, e2]; rfl
                  have HR := hid (show plT s (k + 1) = true by rw [HN.out, HT.out, HA.out]; unfold plB; rw [if_neg (by simp), e1, e2]; rfl)
                  go_wp2_with fail
                  go_roundw
                  case rel => exact ⟨k + 1, by omega, by go_num, HR.out, hBr⟩
                  case measure => simp [intOf]; omega
            · cases e1 : r.same zrU
              · cases e2 : (z == 0)
                · have e3 : (z != 0) = true := by rw [bne, e2]; rfl
                  have HR := hid (show sdB s = false from HB.out (by rw [HA.out]; unfold plB; rw [if_pos rfl, if_neg (by rw [e2]; exact Bool.false_ne_true), e1]; rfl))
                  go_wp2_with fail
                  go_ret
                  exact ⟨ret_bool HR.out.symm, hB0⟩
                · have e3 : (z != 0) = false := by rw [bne, e2]; rfl
                  cases e4 : r.good
                  · have HR := hid (show sdB s = false from HB.out (by rw [HA.out]; unfold plB; rw [if_pos rfl, if_pos e2, e4]))
                    go_wp2_with fail
                    refine (specGoodRule_any r _ hru hrp).mono ?_
                    rintro e w5 ⟨rfl, hB5⟩
                    rw [e4]
                    go_wp2_with fail
                    go_ret
                    exact ⟨ret_bool HR.out.symm, below_one hB0 hB5⟩
                  · have HR := hid (show plT s (k + 1) = true by rw [HN.out, HT.out, HA.out]; unfold plB; rw [if_pos rfl, if_pos e2, e4]; rfl)
                    go_wp2_with fail
                    refine (specGoodRule_any r _ hru hrp).mono ?_
                    rintro e w5 ⟨rfl, hB5⟩
                    rw [e4]
                    go_wp2_with fail
                    go_roundw
                    case rel => exact ⟨k + 1, by omega, by go_num, HR.out, below_one hBr hB5⟩
                    case measure => simp [intOf]; omega
              · cases e2 : (z == 0)
                · have e3 : (z != 0) = true := by rw [bne, e2]; rfl
                  cases e4 : numB z
                  · have HR := hid (show sdB s = false from HB.out (by rw [HA.out]; unfold plB; rw [if_pos rfl, if_neg (by rw [e2]; exact Bool.false_ne_true), e1, e4]; rfl))
                    go_wp2_with fail
                    refine (l3Num_any z _).mono ?_
                    rintro e w5 ⟨rfl, rfl⟩
                    rw [e4]
                    go_wp2_with fail
                    go_ret
                    exact ⟨ret_bool HR.out.symm, hB0⟩
                  · have HR := hid (show plT s (k + 1) = true by rw [HN.out, HT.out, HA.out]; unfold plB; rw [if_pos rfl, if_neg (by rw [e2]; exact Bool.false_ne_true), e1, e4]; rfl)
                    go_wp2_with fail
                    refine (l3Num_any z _).mono ?_
                    rintro e w5 ⟨rfl, rfl⟩
                    rw [e4]
                    go_wp2_with fail
                    go_roundw
                    case rel => exact ⟨k + 1, by omega, by go_num, HR.out, hBr⟩
                    case measure => simp [intOf]; omega
                · have e3 : (z != 0) = false := by rw [bne, e2]; rfl
                  have HR := hid (show sdB s = false from HB.out (by rw [HA.out]; unfold plB; rw [if_pos rfl, if_pos e2]; exact zero_rule e1))
                  go_wp2_with fail
                  go_ret
                  exact ⟨ret_bool HR.out.symm, hB0⟩
          · obtain rfl : k = s.ha.length := by omega
            have HR := hid (show sdB s = true from sd_yes HFO.out HL.out HCO.out HT.out)
            go_wp2_with fail
            go_ret
            exact ⟨ret_bool HR.out.symm, hB0⟩

end Go.Proofs.YthpckiobfjdckaaGreat

namespace Go.Proofs.YthpckiobfjdckaaGreat
open Go.RowKit Go.Shelf

set_option maxHeartbeats 8000000 in
set_option maxRecDepth 100000 in
theorem spotAt_any (v : Value) (s : Sd) (k : Nat) (w : World) (hs : s.short) (h : SdR w v s) (hk : k < s.ha.length) (hkr : k < s.ru.length) (hkz : k < s.se.length) :
    Calls Tryz.prog 90 #[v, .int .i64 k] w fun e w' => e = .returned (.agg #[.bool s.ha[k], .bool (s.ru[k]).deny, .string (s.ru[k]).who, .string (s.ru[k]).method, .string (s.ru[k]).path, .int .i64 s.se[k]]) ∧ Below w.heap.size w w' := by
  obtain ⟨vp, vr, vu, vh, vs, rfl, h1, h2, h3, h4, h5⟩ := h
  obtain ⟨hf, l3, l4, l5, lr⟩ := hs
  have hS : SnR w (.agg #[.int .i64 s.fo.num, vp, vr]) s.fo := ⟨_, _, rfl, h1, h2⟩
  obtain ⟨ap, cp, rfl⟩ := h1.len
  obtain ⟨ar, cr, rfl⟩ := h2.len
  obtain ⟨au, cu, rfl⟩ := h3.len
  obtain ⟨ah, ch, rfl⟩ := h4.s.bolLen
  obtain ⟨ai, ci, rfl⟩ := h5.len
  have hB0 : Below w.heap.size w ((w.alloc (.cells #[.int .i64 s.fo.num, .slice ap s.fo.pol.length cp, .slice ar s.fo.rv.length cr, .int .i64 s.co, .slice au s.ru.length cu, .slice ah s.ha.length ch, .slice ai s.se.length ci] 51)).alloc (.cells #[.bool false, .bool false, .string ⟨#[]⟩, .string ⟨#[]⟩, .string ⟨#[]⟩, .int .i64 0] 103)) := ((Below.refl _ w).alloc (Nat.le_refl _) _).alloc (by simp) _
  have F1 := (Seven.new w (.int .i64 s.fo.num) (.slice ap s.fo.pol.length cp) (.slice ar s.fo.rv.length cr) (.int .i64 s.co) (.slice au s.ru.length cu) (.slice ah s.ha.length ch) (.slice ai s.se.length ci) 51).below ((Below.refl _ _).alloc (Nat.le_refl _) (.cells #[.bool false, .bool false, .string ⟨#[]⟩, .string ⟨#[]⟩, .string ⟨#[]⟩, .int .i64 0] 103))
  have F2 := Six.at (w.alloc (.cells #[.int .i64 s.fo.num, .slice ap s.fo.pol.length cp, .slice ar s.fo.rv.length cr, .int .i64 s.co, .slice au s.ru.length cu, .slice ah s.ha.length ch, .slice ai s.se.length ci] 51)) (.bool false) (.bool false) (.string ⟨#[]⟩) (.string ⟨#[]⟩) (.string ⟨#[]⟩) (.int .i64 0) 103 (k := w.heap.size + 1) (by simp)
  obtain ⟨bu, ou, rfl, hbu, _⟩ := h3.s.at hkr
  obtain ⟨bh, oh, rfl, hbh, _⟩ := h4.s.bol hk
  obtain ⟨bi, oi, rfl, hbi, _⟩ := h5.s.num hkz
  obtain ⟨_, _, ee, _, hcu, q0, q1, q2, q3⟩ := (h3.s.below hB0).at hkr
  cases ee
  obtain ⟨_, _, ee, _, hch, q4⟩ := (h4.s.below hB0).bol hk
  cases ee
  obtain ⟨_, _, ee, _, hci, q5⟩ := (h5.s.below hB0).num hkz
  cases ee
  have m1 : bu ≠ w.heap.size + 1 := by omega
  have m1' : w.heap.size + 1 ≠ bu := by omega
  have m2 : bh ≠ w.heap.size + 1 := by omega
  have m2' : w.heap.size + 1 ≠ bh := by omega
  have m3 : bi ≠ w.heap.size + 1 := by omega
  have m3' : w.heap.size + 1 ≠ bi := by omega
  have m4 : w.heap.size ≠ w.heap.size + 1 := by omega
  have m4' : w.heap.size + 1 ≠ w.heap.size := by omega
  generalize s.ru[k] = r at *
  generalize s.ha[k] = h at *
  generalize s.se[k] = z at *
  go_enter Tryz.func90, Tryz.ntmps90
  go_wp2_with fail
  generalize (w.alloc (.cells #[.int .i64 s.fo.num, .slice ap s.fo.pol.length cp, .slice ar s.fo.rv.length cr, .int .i64 s.co, .slice (some ⟨bu, ou, none⟩) s.ru.length cu, .slice (some ⟨bh, oh, none⟩) s.ha.length ch, .slice (some ⟨bi, oi, none⟩) s.se.length ci] 51)).alloc (.cells #[.bool false, .bool false, .string ⟨#[]⟩, .string ⟨#[]⟩, .string ⟨#[]⟩, .int .i64 0] 103) = W0 at *
  obtain ⟨a0, a1, a2, a3, a4, a5, a6⟩ := F1.c
  have hBd : Below W0.heap.size W0 W0.drew := (Below.refl _ _).drew
  replace F2 := F2.below hBd
  replace hB0 := below_one hB0 hBd
  clear hBd F1
  refine wp_region_held_drew (S := fun w' => w'.cell? ⟨w.heap.size, 4, none⟩ = some (.slice (some ⟨bu, ou, none⟩) s.ru.length cu) ∧ w'.cell? ⟨w.heap.size, 5, none⟩ = some (.slice (some ⟨bh, oh, none⟩) s.ha.length ch) ∧ w'.cell? ⟨w.heap.size, 6, none⟩ = some (.slice (some ⟨bi, oi, none⟩) s.se.length ci) ∧ w'.cell? ⟨bh, oh + k, none⟩ = some (.bool h) ∧ w'.cell? ⟨bu, ou + k * 4, none⟩ = some (.bool r.deny) ∧ w'.cell? ⟨bu, ou + k * 4 + 1, none⟩ = some (.string r.who) ∧ w'.cell? ⟨bu, ou + k * 4 + 2, none⟩ = some (.string r.method) ∧ w'.cell? ⟨bu, ou + k * 4 + 3, none⟩ = some (.string r.path) ∧ w'.cell? ⟨bi, oi + k, none⟩ = some (.int .i64 z)) (by kernel_rfl) ?_ (fun hHeld => ?_)
  · go_keep
  generalize W0.drew = Wd at *
  clear q0 q1 q2 q3 q4 q5 a0 a1 a2 a3 a4 a5 a6
  obtain ⟨c0, c1, c2, c3, c4, c5⟩ := F2.c
  have f0 := F2.f 0
  have f1 := F2.f 1
  have f2 := F2.f 2
  have f3 := F2.f 3
  have f4 := F2.f 4
  have f5 := F2.f 5
  refine takeW 0 (v := ?v1) rfl (by kernel_rfl) (by kernel_rfl) (by kernel_rfl) (fun _ _ _ h => h) (by rfl) (by assumption) ?hy1 ?rest1
  case hy1 => intro w' hSw; (try dsimp only at hSw); go_simp; try with_reducible rfl
  try simp only [Act.put, List.setIfInBounds_toArray, List.set_cons_zero, List.set_cons_succ]
  refine takeW 1 (v := ?v2) rfl (by kernel_rfl) (by kernel_rfl) (by kernel_rfl) (fun _ _ _ h => h) (by rfl) (by assumption) ?hy2 ?rest2
  case hy2 => intro w' hSw; (try dsimp only at hSw); go_simp; try with_reducible rfl
  try simp only [Act.put, List.setIfInBounds_toArray, List.set_cons_zero, List.set_cons_succ]
  refine takeW 2 (v := ?v3) rfl (by kernel_rfl) (by kernel_rfl) (by kernel_rfl) (fun _ _ _ h => h) (by rfl) (by assumption) ?hy3 ?rest3
  case hy3 => intro w' hSw; (try dsimp only at hSw); go_simp; try with_reducible rfl
  try simp only [Act.put, List.setIfInBounds_toArray, List.set_cons_zero, List.set_cons_succ]
  refine takeW 3 (v := ?v4) rfl (by kernel_rfl) (by kernel_rfl) (by kernel_rfl) (fun _ _ _ h => h) (by rfl) (by assumption) ?hy4 ?rest4
  case hy4 => intro w' hSw; (try dsimp only at hSw); go_simp; try with_reducible rfl
  try simp only [Act.put, List.setIfInBounds_toArray, List.set_cons_zero, List.set_cons_succ]
  refine takeW 4 (v := ?v5) rfl (by kernel_rfl) (by kernel_rfl) (by kernel_rfl) (fun _ _ _ h => h) (by rfl) (by assumption) ?hy5 ?rest5
  case hy5 => intro w' hSw; (try dsimp only at hSw); go_simp; try with_reducible rfl
  try simp only [Act.put, List.setIfInBounds_toArray, List.set_cons_zero, List.set_cons_succ]
  refine takeW 5 (v := ?v6) rfl (by kernel_rfl) (by kernel_rfl) (by kernel_rfl) (fun _ _ _ h => h) (by rfl) (by assumption) ?hy6 ?rest6
  case hy6 => intro w' hSw; (try dsimp only at hSw); go_simp; try with_reducible rfl
  try simp only [Act.put, List.setIfInBounds_toArray, List.set_cons_zero, List.set_cons_succ]
  refine takeW 6 (v := ?v7) rfl (by kernel_rfl) (by kernel_rfl) (by kernel_rfl) (fun _ _ _ h => h) (by rfl) (by assumption) ?hy7 ?rest7
  case hy7 => intro w' hSw; (try dsimp only at hSw); go_simp; try with_reducible rfl
  try simp only [Act.put, List.setIfInBounds_toArray, List.set_cons_zero, List.set_cons_succ]
  refine takeW 7 (v := ?v8) rfl (by kernel_rfl) (by kernel_rfl) (by kernel_rfl) (fun _ _ _ h => h) (by rfl) (by assumption) ?hy8 ?rest8
  case hy8 => intro w' hSw; (try dsimp only at hSw); go_simp; try with_reducible rfl
  try simp only [Act.put, List.setIfInBounds_toArray, List.set_cons_zero, List.set_cons_succ]
  refine takeW 8 (v := ?v9) rfl (by kernel_rfl) (by kernel_rfl) (by kernel_rfl) (fun _ _ _ h => h) (by rfl) (by assumption) ?hy9 ?rest9
  case hy9 => intro w' hSw; (try dsimp only at hSw); go_simp; try with_reducible rfl
  try simp only [Act.put, List.setIfInBounds_toArray, List.set_cons_zero, List.set_cons_succ]
  refine takeW 9 (v := ?v10) rfl (by kernel_rfl) (by kernel_rfl) (by kernel_rfl) (fun _ _ _ h => h) (by rfl) (by assumption) ?hy10 ?rest10
  case hy10 => intro w' hSw; (try dsimp only at hSw); go_simp; try with_reducible rfl
  try simp only [Act.put, List.setIfInBounds_toArray, List.set_cons_zero, List.set_cons_succ]
  refine takeW 10 (v := ?v11) rfl (by kernel_rfl) (by kernel_rfl) (by kernel_rfl) (fun _ _ _ h => h) (by rfl) (by assumption) ?hy11 ?rest11
  case hy11 => intro w' hSw; (try dsimp only at hSw); go_simp; try with_reducible rfl
  try simp only [Act.put, List.setIfInBounds_toArray, List.set_cons_zero, List.set_cons_succ]
  refine takeW 11 (v := ?v12) rfl (by kernel_rfl) (by kernel_rfl) (by kernel_rfl) (fun _ _ _ h => h) (by rfl) (by assumption) ?hy12 ?rest12
  case hy12 => intro w' hSw; (try dsimp only at hSw); go_simp; try with_reducible rfl
  try simp only [Act.put, List.setIfInBounds_toArray, List.set_cons_zero, List.set_cons_succ]
  refine takeW 12 (v := ?v13) rfl (by kernel_rfl) (by kernel_rfl) (by kernel_rfl) (fun _ _ _ h => h) (by rfl) (by assumption) ?hy13 ?rest13
  case hy13 => intro w' hSw; (try dsimp only at hSw); go_simp; try with_reducible rfl
  try simp only [Act.put, List.setIfInBounds_toArray, List.set_cons_zero, List.set_cons_succ]
  refine takeW 13 (v := ?v14) rfl (by kernel_rfl) (by kernel_rfl) (by kernel_rfl) (fun _ _ _ h => h) (by rfl) (by assumption) ?hy14 ?rest14
  case hy14 => intro w' hSw; (try dsimp only at hSw); go_simp; try with_reducible rfl
  try simp only [Act.put, List.setIfInBounds_toArray, List.set_cons_zero, List.set_cons_succ]
  refine takeW 14 (v := ?v15) rfl (by kernel_rfl) (by kernel_rfl) (by kernel_rfl) (fun _ _ _ h => h) (by rfl) (by assumption) ?hy15 ?rest15
  case hy15 => intro w' hSw; (try dsimp only at hSw); go_simp; try with_reducible rfl
  try simp only [Act.put, List.setIfInBounds_toArray, List.set_cons_zero, List.set_cons_succ]
  refine takeW 15 (v := ?v16) rfl (by kernel_rfl) (by kernel_rfl) (by kernel_rfl) (fun _ _ _ h => h) (by rfl) (by assumption) ?hy16 ?rest16
  case hy16 => intro w' hSw; (try dsimp only at hSw); go_simp; try with_reducible rfl
  try simp only [Act.put, List.setIfInBounds_toArray, List.set_cons_zero, List.set_cons_succ]
  refine takeC 16 (by kernel_rfl) rfl (fun K hK => ?_)
  go_simp
  skip
  refine hK.out _ _ ?_ (fun hHeld => ?_)
  · go_keep
  clear hK K
  try simp only [Act.put, List.setIfInBounds_toArray, List.set_cons_zero, List.set_cons_succ]
  refine wpAnyH_done (by kernel_rfl) ?_ _
  clear hHeld
  have G := (((((F2.s0 (.bool h)).s1 (.bool r.deny)).s2 (.string r.who)).s3 (.string r.method)).s4 (.string r.path)).s5 (.int .i64 z)
  have pB := below_six hB0 (k := w.heap.size + 1) (by omega) (.bool h) (.bool r.deny) (.string r.who) (.string r.method) (.string r.path) (.int .i64 z)
  go_wp2_with fail
  obtain ⟨d0, d1, d2, d3, d4, d5⟩ := G.c
  exact bodyPost_ret (v := .agg #[.bool h, .bool r.deny, .string r.who, .string r.method, .string r.path, .int .i64 z]) (by simp [results, Tryz.results90, go_sem, d0, d1, d2, d3, d4, d5]) rfl ⟨rfl, pB⟩

end Go.Proofs.YthpckiobfjdckaaGreat

namespace Go.Proofs.YthpckiobfjdckaaGreat
open Go.RowKit Go.Shelf

theorem eql_sp (h : Bool) (r : Ru) (z : Int) (w : World) : (binOp .eql 103 (.agg #[.bool h, .bool r.deny, .string r.who, .string r.method, .string r.path, .int .i64 z]) (.agg #[.bool false, .bool false, .string ⟨#[]⟩, .string ⟨#[]⟩, .string ⟨#[]⟩, .int .i64 0])).run Tryz.prog w = .ok (.bool ((h == false) && (r.same zrU && (z == 0)))) w := by
  rw [run_eql_struct]
  simp [go_sem, Tryz.underlying103, Tryz.underlying63]
  unfold Ru.same eqB zrU
  repeat' split
  all_goals simp_all

set_option maxHeartbeats 2000000 in
theorem spotGood_any (h : Bool) (r : Ru) (z : Int) (w : World) (hr : r.size ≤ 1048576) :
    Calls Tryz.prog 91 #[.agg #[.bool h, .bool r.deny, .string r.who, .string r.method, .string r.path, .int .i64 z]] w fun e w' => e = .returned (.bool (plB h r z)) ∧ Below w.heap.size w w' := by
  have hB0 : Below w.heap.size w (w.alloc (.cells #[.bool h, .bool r.deny, .string r.who, .string r.method, .string r.path, .int .i64 z] 103)) := (Below.refl _ w).alloc (Nat.le_refl _) _
  have F := Six.new w (.bool h) (.bool r.deny) (.string r.who) (.string r.method) (.string r.path) (.int .i64 z) 103
  cases h
  · have HR := hid (show plB false r z = ((false == false) && (r.same zrU && (z == 0))) from rfl)
    have hse := eql_sp false r z
    go_enter Tryz.func91, Tryz.ntmps91
    go_wp2
    go_ret
    exact ⟨ret_bool HR.out.symm, hB0⟩
  · cases e0 : (z == 0)
    · cases e1 : r.same zrU
      · have HR := hid (show plB true r z = false by unfold plB; rw [if_pos rfl, if_neg (by rw [e0]; exact Bool.false_ne_true), e1]; rfl)
        have hse := eql_zr r
        go_enter Tryz.func91, Tryz.ntmps91
        go_wp2
        go_ret
        exact ⟨ret_bool HR.out.symm, hB0⟩
      · have HR := hid (show plB true r z = numB z by unfold plB; rw [if_pos rfl, if_neg (by rw [e0]; exact Bool.false_ne_true), e1]; rfl)
        have hse := eql_zr r
        go_enter Tryz.func91, Tryz.ntmps91
        go_wp2_with (go_at_call 93; refine (okSerial_any z _).mono ?_; rintro e w1 ⟨rfl, rfl⟩)
        go_ret
        exact ⟨ret_bool ((show okS z = plB true r z by rw [HR.out]; unfold okS numB; exact decide_eq_decide.2 (by omega))), hB0⟩
    · have HR := hid (show plB true r z = r.good by unfold plB; rw [if_pos rfl, if_pos e0])
      go_enter Tryz.func91, Tryz.ntmps91
      go_wp2_with fail
      generalize w.alloc (.cells #[.bool true, .bool r.deny, .string r.who, .string r.method, .string r.path, .int .i64 z] 103) = W0 at *
      refine (implGoodRule_any r _ hr).mono ?_
      rintro e w1 ⟨rfl, hB1⟩
      go_wp2_with fail
      go_ret
      exact ⟨ret_bool HR.out.symm, below_one hB0 hB1⟩

set_option maxHeartbeats 8000000 in
set_option maxRecDepth 100000 in
theorem implGoodSide_any (v : Value) (s : Sd) (w : World) (hs : s.short) (h : SdR w v s) :
    Calls Tryz.prog 52 #[v] w fun e w' => e = .returned (.bool (sdB s)) ∧ Below w.heap.size w w' := by
  have hSd := h
  have hs' := hs
  obtain ⟨vp, vr, vu, vh, vs, rfl, h1, h2, h3, h4, h5⟩ := h
  obtain ⟨hf, l3, l4, l5, lr⟩ := hs
  have hS : SnR w (.agg #[.int .i64 s.fo.num, vp, vr]) s.fo := ⟨_, _, rfl, h1, h2⟩
  obtain ⟨ap, cp, rfl⟩ := h1.len
  obtain ⟨ar, cr, rfl⟩ := h2.len
  obtain ⟨au, cu, rfl⟩ := h3.len
  obtain ⟨ah, ch, rfl⟩ := h4.s.bolLen
  obtain ⟨ai, ci, rfl⟩ := h5.len
  have hB0 : Below w.heap.size w (w.alloc (.cells #[.int .i64 s.fo.num, .slice ap s.fo.pol.length cp, .slice ar s.fo.rv.length cr, .int .i64 s.co, .slice au s.ru.length cu, .slice ah s.ha.length ch, .slice ai s.se.length ci] 51)) := (Below.refl _ w).alloc (Nat.le_refl _) _
  have F := Seven.new w (.int .i64 s.fo.num) (.slice ap s.fo.pol.length cp) (.slice ar s.fo.rv.length cr) (.int .i64 s.co) (.slice au s.ru.length cu) (.slice ah s.ha.length ch) (.slice ai s.se.length ci) 51
  go_enter Tryz.func52, Tryz.ntmps52
  go_wp2_with fail
  generalize w.alloc (.cells #[.int .i64 s.fo.num, .slice ap s.fo.pol.length cp, .slice ar s.fo.rv.length cr, .int .i64 s.co, .slice au s.ru.length cu, .slice ah s.ha.length ch, .slice ai s.se.length ci] 51) = W0 at *
  have hBw := hB0
  have F0 := F
  have hBW := Below.refl W0.heap.size W0
  refine (goodForce_any _ s.fo _ hf (hS.below hB0)).mono ?_
  rintro e w1 ⟨rfl, hB1⟩
  replace F := F.below hB1
  replace hB0 := below_one hB0 hB1
  replace hBW := below_one hBW hB1
  clear hB1
  obtain ⟨a0, a1, a2, a3, a4, a5, a6⟩ := F.c
  cases hfo : foB s.fo
  case false =>
    have HR := hid (show sdB s = false from sd_no1 hfo)
    go_wp2_with fail
    go_ret
    exact ⟨ret_bool HR.out.symm, hB0⟩
  have HFO := hid hfo
  have hnum := foB_num HFO.out
  cases m1 : ((s.ru.length : Int) != (s.ha.length : Int))
  case true =>
    have HR := hid (show sdB s = false from sd_no2 (ln_no1 m1))
    go_wp2_with fail
    go_ret
    exact ⟨ret_bool HR.out.symm, hB0⟩
  cases m2 : ((s.se.length : Int) != (s.ha.length : Int))
  case true =>
    have HR := hid (show sdB s = false from sd_no2 (ln_no2 m2))
    go_wp2_with fail
    go_ret
    exact ⟨ret_bool HR.out.symm, hB0⟩
  cases m3 : decide ((230 : Int) < (s.ha.length : Int))
  case true =>
    have HR := hid (show sdB s = false from sd_no2 (ln_no3 m3))
    go_wp2_with fail
    go_ret
    exact ⟨ret_bool HR.out.symm, hB0⟩
  have HL := hid (ln_yes m1 m2 m3)
  have hln := lnB_parts HL.out
  obtain ⟨hl1, hl2, hl3⟩ := hln
  have hq1 : s.ha.length ≤ s.ru.length := by omega
  have hq2 : s.ha.length ≤ s.se.length := by omega
  clear hl1 hl2
  cases m4 : (s.co == 0)
  case true =>
    have HR := hid (show sdB s = ((s.ha.length : Int) == 0) by
      cases m5 : ((s.ha.length : Int) == 0)
      · exact sd_no3 (co_no1 m4 m5)
      · refine sd_yes HFO.out HL.out (co_yes1 m4 m5) ?_
        have h0 : s.ha.length = 0 := by have := eq_of_beq m5; omega
        rw [h0]
        exact plT_zero s)
    go_wp2_with fail
    go_ret
    exact ⟨ret_bool HR.out.symm, hB0⟩
  cases m5 : decide (s.co ≤ s.fo.num)
  case true =>
    have HR := hid (show sdB s = false from sd_no3 (co_no2 m4 (fun hh => by have := of_decide_eq_true m5; omega)))
    go_wp2_with fail
    go_ret
    exact ⟨ret_bool HR.out.symm, hB0⟩
  cases m6 : decide ((100000 : Int) < s.co)
  case true =>
    have HR := hid (show sdB s = false from sd_no3 (co_no2 m4 (fun hh => by have := of_decide_eq_true m6; omega)))
    go_wp2_with fail
    go_ret
    exact ⟨ret_bool HR.out.symm, hB0⟩
  have HCO := hid (co_yes2 m4 (by have := of_decide_eq_false m5; omega) (by have := of_decide_eq_false m6; omega))
  go_wp2_with fail
  clear a0 a1 a2 a3 a4 a5 a6
  go_loopw [47] (fun i wr => ∃ k : Nat, k ≤ s.ha.length ∧ i = .int .i64 k ∧ plT s k = true ∧ Below W0.heap.size W0 wr) (fun i _ => s.ha.length - (intOf i).toNat)
  case atStart => exact ⟨0, Nat.zero_le _, rfl, plT_zero _, hBW⟩
  case round =>
    obtain ⟨k, hk, rfl, ht, hB⟩ := hrel
    have HT := hid ht
    have hBr := hB
    clear ht
    replace F := F0.below hB
    replace hB0 := below_one hBw hB
    clear hB
    obtain ⟨a0, a1, a2, a3, a4, a5, a6⟩ := F.c
    by_cases hlt : k < s.ha.length
    · have hlr : k < s.ru.length := by omega
      have hlz : k < s.se.length := by omega
      have HA := hid (plA_at hlt hlr hlz)
      have hrs := lr _ (List.getElem_mem hlr)
      have hSp := spotAt_any _ s k wr hs' (hSd.below hB0) hlt hlr hlz
      generalize s.ru[k] = r at *
      generalize s.ha[k] = hh at *
      generalize s.se[k] = z at *
      have HN := hid (plT_succ s k)
      have HB := hid (fun h => sd_no4 (s := s) hlt h)
      cases hp : plB hh r z
      · have HR := hid (show sdB s = false from HB.out (by rw [HA.out, hp]))
        go_wp2_with fail
        refine hSp.mono ?_
        rintro e w5 ⟨rfl, hB5⟩
        go_wp2_with fail
        refine (spotGood_any hh r z _ hrs).mono ?_
        rintro e w6 ⟨rfl, hB6⟩
        rw [hp]
        clear hSp
        go_wp2_with fail
        go_ret
        exact ⟨ret_bool HR.out.symm, below_two hB0 hB5 hB6⟩
      · have HR := hid (show plT s (k + 1) = true by rw [HN.out, HT.out, HA.out, hp]; rfl)
        go_wp2_with fail
        refine hSp.mono ?_
        rintro e w5 ⟨rfl, hB5⟩
        go_wp2_with fail
        refine (spotGood_any hh r z _ hrs).mono ?_
        rintro e w6 ⟨rfl, hB6⟩
        rw [hp]
        clear hSp
        go_wp2_with fail
        go_roundw
        case rel => exact ⟨k + 1, by omega, by go_num, HR.out, below_two hBr hB5 hB6⟩
        case measure => simp [intOf]; omega
    · obtain rfl : k = s.ha.length := by omega
      have HR := hid (show sdB s = true from sd_yes HFO.out HL.out HCO.out HT.out)
      go_wp2_with fail
      go_ret
      exact ⟨ret_bool HR.out.symm, hB0⟩

end Go.Proofs.YthpckiobfjdckaaGreat

namespace Go.Proofs.YthpckiobfjdckaaGreat
open Go.RowKit Go.Shelf

/-- A slice reads as this list of versions. -/
def SsA (w : World) (v : Value) (ss : List Sn) : Prop :=
  (∃ a cap, v = .slice a 0 cap ∧ ss = []) ∨
  ∃ b off cap, v = .slice (some ⟨b, off, none⟩) ss.length cap ∧ b < w.heap.size ∧ ss.length ≤ cap ∧ ∀ i (h : i < ss.length), ∃ vp vr, w.cell? ⟨b, off + i * 3, none⟩ = some (.int .i64 ss[i].num) ∧ w.cell? ⟨b, off + i * 3 + 1, none⟩ = some vp ∧ w.cell? ⟨b, off + i * 3 + 2, none⟩ = some vr ∧ RuS w vp ss[i].pol ∧ VS w vr (nums ss[i].rv)
def SsR (w : World) (v : Value) (ss : List Sn) : Prop :=
  (v = .slice none 0 0 ∧ ss = []) ∨
  ∃ b off cap, v = .slice (some ⟨b, off, none⟩) ss.length cap ∧ b < w.heap.size ∧ ss.length ≤ cap ∧ ∀ i (h : i < ss.length), ∃ vp vr, w.cell? ⟨b, off + i * 3, none⟩ = some (.int .i64 ss[i].num) ∧ w.cell? ⟨b, off + i * 3 + 1, none⟩ = some vp ∧ w.cell? ⟨b, off + i * 3 + 2, none⟩ = some vr ∧ RuR w vp ss[i].pol ∧ NuR w vr ss[i].rv
theorem SsA.below {w w' : World} {v : Value} {ss : List Sn} (h : SsA w v ss) (hB : Below w.heap.size w w') : SsA w' v ss := by
  rcases h with h | ⟨b, off, cap, hv, hb, hl, hc⟩
  · exact .inl h
  · refine .inr ⟨b, off, cap, hv, Nat.lt_of_lt_of_le hb hB.size, hl, fun i hi => ?_⟩
    obtain ⟨vp, vr, c0, c1, c2, h1, h2⟩ := hc i hi
    exact ⟨vp, vr, (hB.cell (p := ⟨b, _, none⟩) hb).trans c0, (hB.cell (p := ⟨b, _, none⟩) hb).trans c1, (hB.cell (p := ⟨b, _, none⟩) hb).trans c2, h1.below hB, h2.below hB⟩
theorem SsR.below {w w' : World} {v : Value} {ss : List Sn} (h : SsR w v ss) (hB : Below w.heap.size w w') : SsR w' v ss := by
  rcases h with h | ⟨b, off, cap, hv, hb, hl, hc⟩
  · exact .inl h
  · refine .inr ⟨b, off, cap, hv, Nat.lt_of_lt_of_le hb hB.size, hl, fun i hi => ?_⟩
    obtain ⟨vp, vr, c0, c1, c2, h1, h2⟩ := hc i hi
    exact ⟨vp, vr, (hB.cell (p := ⟨b, _, none⟩) hb).trans c0, (hB.cell (p := ⟨b, _, none⟩) hb).trans c1, (hB.cell (p := ⟨b, _, none⟩) hb).trans c2, h1.below hB, h2.below hB⟩
theorem SsR.a {w : World} {v : Value} {ss : List Sn} (h : SsR w v ss) : SsA w v ss := by
  rcases h with ⟨rfl, rfl⟩ | ⟨b, off, cap, hv, hb, hl, hc⟩
  · exact .inl ⟨_, _, rfl, rfl⟩
  · refine .inr ⟨b, off, cap, hv, hb, hl, fun i hi => ?_⟩
    obtain ⟨vp, vr, c0, c1, c2, h1, h2⟩ := hc i hi
    exact ⟨vp, vr, c0, c1, c2, h1.s, h2.s⟩
theorem SsA.len {w : World} {v : Value} {ss : List Sn} (h : SsA w v ss) : ∃ a cap, v = .slice a ss.length cap := by
  rcases h with ⟨a, cap, hv, rfl⟩ | ⟨b, off, cap, hv, _⟩
  · exact ⟨a, cap, hv⟩
  · exact ⟨_, cap, hv⟩
theorem SsR.len {w : World} {v : Value} {ss : List Sn} (h : SsR w v ss) : ∃ a cap, v = .slice a ss.length cap := h.a.len
theorem SsA.at {w : World} {a : Option Addr} {n cap : Nat} {ss : List Sn} (h : SsA w (.slice a n cap) ss) {i : Nat} (hi : i < ss.length) :
    ∃ b off xp cp xr cr, a = some ⟨b, off, none⟩ ∧ b < w.heap.size ∧ n ≤ cap ∧ w.cell? ⟨b, off + i * 3, none⟩ = some (.int .i64 ss[i].num) ∧ w.cell? ⟨b, off + i * 3 + 1, none⟩ = some (.slice xp ss[i].pol.length cp) ∧ w.cell? ⟨b, off + i * 3 + 2, none⟩ = some (.slice xr ss[i].rv.length cr) ∧ RuS w (.slice xp ss[i].pol.length cp) ss[i].pol ∧ VS w (.slice xr ss[i].rv.length cr) (nums ss[i].rv) := by
  rcases h with ⟨_, _, _, rfl⟩ | ⟨b, off, cap, hv, hb, hl, hc⟩
  · simp at hi
  · cases hv
    obtain ⟨vp, vr, c0, c1, c2, h1, h2⟩ := hc i hi
    obtain ⟨xp, cp, rfl⟩ := h1.len
    obtain ⟨xr, cr, rfl⟩ := h2.numLen
    exact ⟨b, off, xp, cp, xr, cr, rfl, hb, hl, c0, c1, c2, h1, h2⟩
theorem SsR.at {w : World} {a : Option Addr} {n cap : Nat} {ss : List Sn} (h : SsR w (.slice a n cap) ss) {i : Nat} (hi : i < ss.length) :
    ∃ b off xp cp xr cr, a = some ⟨b, off, none⟩ ∧ b < w.heap.size ∧ n ≤ cap ∧ w.cell? ⟨b, off + i * 3, none⟩ = some (.int .i64 ss[i].num) ∧ w.cell? ⟨b, off + i * 3 + 1, none⟩ = some (.slice xp ss[i].pol.length cp) ∧ w.cell? ⟨b, off + i * 3 + 2, none⟩ = some (.slice xr ss[i].rv.length cr) ∧ RuR w (.slice xp ss[i].pol.length cp) ss[i].pol ∧ NuR w (.slice xr ss[i].rv.length cr) ss[i].rv := by
  rcases h with ⟨_, rfl⟩ | ⟨b, off, cap, hv, hb, hl, hc⟩
  · simp at hi
  · cases hv
    obtain ⟨vp, vr, c0, c1, c2, h1, h2⟩ := hc i hi
    obtain ⟨xp, cp, rfl⟩ := h1.len
    obtain ⟨xr, cr, rfl⟩ := h2.len
    exact ⟨b, off, xp, cp, xr, cr, rfl, hb, hl, c0, c1, c2, h1, h2⟩

def vzTo (ss : List Sn) (n : Nat) : Nat := ((ss.take n).map Sn.size).sum
def vzAll (ss : List Sn) : Nat := ss.length + vzTo ss ss.length
theorem vzTo_zero (ss : List Sn) : vzTo ss 0 = 0 := by simp [vzTo]
theorem vzTo_succ {ss : List Sn} {n : Nat} (h : n < ss.length) : vzTo ss (n + 1) = vzTo ss n + ss[n].size := by
  unfold vzTo
  rw [List.take_succ_eq_append_getElem h, List.map_append, List.sum_append]
  simp
theorem vzTo_le (ss : List Sn) (n : Nat) : vzTo ss n ≤ vzTo ss ss.length := by
  unfold vzTo
  rw [List.take_length]
  conv => rhs; rw [← List.take_append_drop n ss, List.map_append, List.sum_append]
  omega
theorem vz_mem {ss : List Sn} {s : Sn} (h : s ∈ ss) : s.size ≤ vzTo ss ss.length := by
  unfold vzTo
  rw [List.take_length]
  exact sum_mem (List.mem_map.2 ⟨s, h, rfl⟩)
def leftVS (n : Int) (ss : List Sn) : Int := if (vzAll ss : Int) ≤ n then n - vzAll ss else -1

/-- No list is longer than the laws take. -/
def shortS (ss : List Sn) : Prop := ss.length ≤ 1048576 ∧ ∀ s ∈ ss, s.short
theorem shortS_of {ss : List Sn} (h : vzAll ss ≤ 1048576) : shortS ss := by
  unfold vzAll at h
  exact ⟨by omega, fun s hs => Sn.short_of (by have := vz_mem hs; omega)⟩

end Go.Proofs.YthpckiobfjdckaaGreat

namespace Go.Proofs.YthpckiobfjdckaaGreat
open Go.RowKit Go.Shelf

/-- A row of n places, of which the first k hold these versions, whose lists lie in blocks of their own from base on, below top. -/
structure SsK (w : World) (base top : Nat) (v : Value) (n : Nat) (ss : List Sn) (k : Nat) (xs : List Value) (vp vr : Nat → Value) : Prop where
  row : w.ownsRow base 32 3 v n xs
  rlt : ∀ j, v.ownBlock = some j → j < top
  cs : ∀ i (h : i < ss.length), i < k → xs[i * 3]? = some (.int .i64 ss[i].num) ∧ xs[i * 3 + 1]? = some (vp i) ∧ xs[i * 3 + 2]? = some (vr i)
  pol : ∀ i (h : i < ss.length), i < k → w.ownsRow base 63 4 (vp i) ss[i].pol.length (ss[i].pol.flatMap Ru.cells)
  num : ∀ i (h : i < ss.length), i < k → w.ownsRow base 3 1 (vr i) ss[i].rv.length (nums ss[i].rv)
  plt : ∀ i, i < ss.length → i < k → ∀ j, (vp i).ownBlock = some j → j < top
  nlt : ∀ i, i < ss.length → i < k → ∀ j, (vr i).ownBlock = some j → j < top
  pap : ∀ i j, i < ss.length → j < ss.length → i < k → j < k → i ≠ j → ∀ b, (vp i).ownBlock = some b → (vp j).ownBlock = some b → False
  nap : ∀ i j, i < ss.length → j < ss.length → i < k → j < k → i ≠ j → ∀ b, (vr i).ownBlock = some b → (vr j).ownBlock = some b → False
/-- A list of versions of one's own. -/
def SsO (w : World) (base top : Nat) (v : Value) (ss : List Sn) : Prop := ∃ xs vp vr, SsK w base top v ss.length ss ss.length xs vp vr
theorem SsK.below {w w' : World} {base top : Nat} {v : Value} {n : Nat} {ss : List Sn} {k : Nat} {xs : List Value} {vp vr : Nat → Value} (h : SsK w base top v n ss k xs vp vr) (hB : Below w.heap.size w w') : SsK w' base top v n ss k xs vp vr :=
  ⟨ownsRow_below h.row hB, h.rlt, h.cs, fun i hi hk => ownsRow_below (h.pol i hi hk) hB, fun i hi hk => ownsRow_below (h.num i hi hk) hB, h.plt, h.nlt, h.pap, h.nap⟩
theorem SsO.below {w w' : World} {base top : Nat} {v : Value} {ss : List Sn} (h : SsO w base top v ss) (hB : Below w.heap.size w w') : SsO w' base top v ss := by
  obtain ⟨xs, vp, vr, h⟩ := h
  exact ⟨xs, vp, vr, h.below hB⟩
theorem Mid.sso {lo hi : Nat} {w w1 : World} (hM : Mid lo hi w w1) {base top : Nat} {v : Value} {ss : List Sn} (h : SsO w base top v ss) (ho : hi ≤ base ∨ top ≤ lo) : SsO w1 base top v ss := by
  obtain ⟨xs, vp, vr, h⟩ := h
  exact ⟨xs, vp, vr, hM.row h.row (fun j hj => by have := h.row.lt j hj; have := h.rlt j hj; omega), h.rlt, h.cs,
    fun i hi hk => hM.row (h.pol i hi hk) (fun j hj => by have := (h.pol i hi hk).lt j hj; have := h.plt i hi hk j hj; omega),
    fun i hi hk => hM.row (h.num i hi hk) (fun j hj => by have := (h.num i hi hk).lt j hj; have := h.nlt i hi hk j hj; omega), h.plt, h.nlt, h.pap, h.nap⟩
theorem SsO.r {w : World} {base top : Nat} {v : Value} {ss : List Sn} (h : SsO w base top v ss) : SsR w v ss := by
  obtain ⟨xs, vp, vr, h⟩ := h
  rcases row_form h.row with ⟨rfl, h0⟩ | ⟨g, cap, rfl, hg, hcap⟩
  · exact .inl ⟨rfl, List.eq_nil_of_length_eq_zero h0⟩
  · refine .inr ⟨g, 0, cap, rfl, (h.row.lt g rfl).2, hcap, fun i hi => ?_⟩
    obtain ⟨c0, c1, c2⟩ := h.cs i hi hi
    refine ⟨vp i, vr i, ?_, ?_, ?_, RuR.own (h.pol i hi hi), NuR.own (h.num i hi hi)⟩
    · rw [Nat.zero_add, h.row.cellAt (i * 3) (by omega)]; exact c0
    · rw [Nat.zero_add, h.row.cellAt (i * 3 + 1) (by omega)]; exact c1
    · rw [Nat.zero_add, h.row.cellAt (i * 3 + 2) (by omega)]; exact c2
theorem SsO.a {w : World} {base top : Nat} {v : Value} {ss : List Sn} (h : SsO w base top v ss) : SsA w v ss := h.r.a
theorem SsO.mono {w : World} {base base' top top' : Nat} {v : Value} {ss : List Sn} (h : SsO w base top v ss) (hb : base' ≤ base) (ht : top ≤ top') : SsO w base' top' v ss := by
  obtain ⟨xs, vp, vr, h⟩ := h
  exact ⟨xs, vp, vr, Go.Joins.ownsRow_le h.row hb, fun j hj => Nat.lt_of_lt_of_le (h.rlt j hj) ht, h.cs, fun i hi hk => Go.Joins.ownsRow_le (h.pol i hi hk) hb, fun i hi hk => Go.Joins.ownsRow_le (h.num i hi hk) hb,
    fun i hi hk j hj => Nat.lt_of_lt_of_le (h.plt i hi hk j hj) ht, fun i hi hk j hj => Nat.lt_of_lt_of_le (h.nlt i hi hk j hj) ht, h.pap, h.nap⟩
theorem SsO.none (w : World) (base top : Nat) : SsO w base top (.slice none 0 0) [] :=
  ⟨[], fun _ => .nilIface, fun _ => .nilIface, World.ownsRow_nil _ _ _ _, fun _ h => by simp [Value.ownBlock] at h, fun _ h => by simp at h, fun _ h => by simp at h, fun _ h => by simp at h, fun _ h => by simp at h, fun _ h => by simp at h, fun _ _ h => by simp at h, fun _ _ h => by simp at h⟩
theorem tyR : (63 : TypeId) ≠ 32 := by decide
theorem tyN : (3 : TypeId) ≠ 32 := by decide
theorem tyRN : (63 : TypeId) ≠ 3 := by decide
/-- Three cells stored into a row's block leave rows of another kind as they are. -/
theorem row_kept3 {w : World} {b1 b2 : Nat} {e1 : TypeId} {s1 n1 g n cap : Nat} {v1 : Value} {x1 xs : List Value} (h : w.ownsRow b1 e1 s1 v1 n1 x1) (hr : w.ownsRow b2 32 3 (.slice (some ⟨g, 0, none⟩) n cap) n xs) (hne : e1 ≠ 32) (o0 o1 o2 : Nat) (y0 y1 y2 : Value) :
    (((w.setCell ⟨g, o0, none⟩ y0).setCell ⟨g, o1, none⟩ y1).setCell ⟨g, o2, none⟩ y2).ownsRow b1 e1 s1 v1 n1 x1 := by
  have hb : v1.ownBlock ≠ some g := fun e => row_apart h hr hne g e rfl
  exact ownsRow_setCell_other (ownsRow_setCell_other (ownsRow_setCell_other h (a := ⟨g, o0, none⟩) hb y0) (a := ⟨g, o1, none⟩) hb y1) (a := ⟨g, o2, none⟩) hb y2
/-- One more version is laid into the row. -/
theorem SsK.add {w w2 : World} {base g n cap : Nat} {ss : List Sn} {k : Nat} {xs : List Value} {vp vr : Nat → Value} {p r : Value} (h : SsK w base w.heap.size (.slice (some ⟨g, 0, none⟩) n cap) n ss k xs vp vr) (hB : Below w.heap.size w w2) (hk : k < ss.length) (hkn : k < n) (hb : base ≤ w.heap.size)
    (hp : w2.ownsRow w.heap.size 63 4 p ss[k].pol.length (ss[k].pol.flatMap Ru.cells)) (hr : w2.ownsRow w.heap.size 3 1 r ss[k].rv.length (nums ss[k].rv)) :
    SsK (((w2.setCell ⟨g, k * 3, none⟩ (.int .i64 ss[k].num)).setCell ⟨g, k * 3 + 1, none⟩ p).setCell ⟨g, k * 3 + 2, none⟩ r) base (((w2.setCell ⟨g, k * 3, none⟩ (.int .i64 ss[k].num)).setCell ⟨g, k * 3 + 1, none⟩ p).setCell ⟨g, k * 3 + 2, none⟩ r).heap.size (.slice (some ⟨g, 0, none⟩) n cap) n ss (k + 1) (((xs.set (k * 3) (.int .i64 ss[k].num)).set (k * 3 + 1) p).set (k * 3 + 2) r) (fun i => if i = k then p else vp i) (fun i => if i = k then r else vr i) := by
  have h2 := h.below hB
  have hlen : xs.length = n * 3 := h.row.1
  have hsz : (((w2.setCell ⟨g, k * 3, none⟩ (.int .i64 ss[k].num)).setCell ⟨g, k * 3 + 1, none⟩ p).setCell ⟨g, k * 3 + 2, none⟩ r).heap.size = w2.heap.size := by rw [World.size_setCell, World.size_setCell, World.size_setCell]
  have hs := hB.size
  refine ⟨((h2.row.stored (k * 3) _).1.stored (k * 3 + 1) _).1.stored (k * 3 + 2) _ |>.1, ?_, ?_, ?_, ?_, ?_, ?_, ?_, ?_⟩
  · intro j hj
    rw [hsz]
    exact Nat.lt_of_lt_of_le (h.rlt j hj) hs
  · intro i hi hik
    by_cases e : i = k
    · subst e
      rw [if_pos rfl, if_pos rfl]
      refine ⟨?_, ?_, ?_⟩
      · rw [List.getElem?_set_ne (by omega), List.getElem?_set_ne (by omega), List.getElem?_set_self (by omega)]
      · rw [List.getElem?_set_ne (by omega), List.getElem?_set_self (by simp; omega)]
      · rw [List.getElem?_set_self (by simp; omega)]
    · rw [if_neg e, if_neg e]
      obtain ⟨c0, c1, c2⟩ := h.cs i hi (by omega)
      refine ⟨?_, ?_, ?_⟩
      · rw [List.getElem?_set_ne (by omega), List.getElem?_set_ne (by omega), List.getElem?_set_ne (by omega)]; exact c0
      · rw [List.getElem?_set_ne (by omega), List.getElem?_set_ne (by omega), List.getElem?_set_ne (by omega)]; exact c1
      · rw [List.getElem?_set_ne (by omega), List.getElem?_set_ne (by omega), List.getElem?_set_ne (by omega)]; exact c2
  · intro i hi hik
    by_cases e : i = k
    · subst e
      rw [if_pos rfl]
      exact row_kept3 (Go.Joins.ownsRow_le hp hb) h2.row tyR _ _ _ _ _ _
    · rw [if_neg e]
      exact row_kept3 (h2.pol i hi (by omega)) h2.row tyR _ _ _ _ _ _
  · intro i hi hik
    by_cases e : i = k
    · subst e
      rw [if_pos rfl]
      exact row_kept3 (Go.Joins.ownsRow_le hr hb) h2.row tyN _ _ _ _ _ _
    · rw [if_neg e]
      exact row_kept3 (h2.num i hi (by omega)) h2.row tyN _ _ _ _ _ _
  · intro i hi hik j hj
    rw [hsz]
    by_cases e : i = k
    · rw [if_pos e] at hj
      exact (hp.lt j hj).2
    · rw [if_neg e] at hj
      exact Nat.lt_of_lt_of_le (h.plt i hi (by omega) j hj) hs
  · intro i hi hik j hj
    rw [hsz]
    by_cases e : i = k
    · rw [if_pos e] at hj
      exact (hr.lt j hj).2
    · rw [if_neg e] at hj
      exact Nat.lt_of_lt_of_le (h.nlt i hi (by omega) j hj) hs
  · intro i j hi hj hik hjk hij b h1 h2'
    by_cases e : i = k
    · rw [if_pos e] at h1
      rw [if_neg (by omega)] at h2'
      have := (hp.lt b h1).1
      have := h.plt j hj (by omega) b h2'
      omega
    · rw [if_neg e] at h1
      have := h.plt i hi (by omega) b h1
      by_cases e2 : j = k
      · rw [if_pos e2] at h2'
        have := (hp.lt b h2').1
        omega
      · rw [if_neg e2] at h2'
        exact h.pap i j hi hj (by omega) (by omega) hij b h1 h2'
  · intro i j hi hj hik hjk hij b h1 h2'
    by_cases e : i = k
    · rw [if_pos e] at h1
      rw [if_neg (by omega)] at h2'
      have := (hr.lt b h1).1
      have := h.nlt j hj (by omega) b h2'
      omega
    · rw [if_neg e] at h1
      have := h.nlt i hi (by omega) b h1
      by_cases e2 : j = k
      · rw [if_pos e2] at h2'
        have := (hr.lt b h2').1
        omega
      · rw [if_neg e2] at h2'
        exact h.nap i j hi hj (by omega) (by omega) hij b h1 h2'
theorem infoSnapshot : (Tryz.prog.info? 32).map (fun i => (i.zero, i.size, i.bytes)) = some (some (.agg #[.int .i64 0, .slice none 0 0, .slice none 0 0]), 3, 56) := by kernel_rfl

end Go.Proofs.YthpckiobfjdckaaGreat

namespace Go.Proofs.YthpckiobfjdckaaGreat
open Go.RowKit Go.Shelf

/-- The version that is laid from the number c on. -/
def mkV (c : Nat) (s : Sn) : Sn := ⟨(c : Int), mkL (c + 1) s.pol.length, mkN (c + 1 + 4 * s.pol.length) s.rv.length⟩
def mvTo (ss : List Sn) (j : Nat) : Nat := ((ss.take j).map (fun s => 1 + s.many)).sum
theorem mvTo_zero (ss : List Sn) : mvTo ss 0 = 0 := by simp [mvTo]
theorem mvTo_succ {ss : List Sn} {j : Nat} (h : j < ss.length) : mvTo ss (j + 1) = mvTo ss j + (1 + ss[j].many) := by
  unfold mvTo
  rw [List.take_succ_eq_append_getElem h, List.map_append, List.sum_append]
  simp
theorem mvTo_le (ss : List Sn) (j : Nat) : mvTo ss j ≤ mvTo ss ss.length := by
  unfold mvTo
  rw [List.take_length]
  conv => rhs; rw [← List.take_append_drop j ss, List.map_append, List.sum_append]
  omega
theorem mvTo_size (ss : List Sn) : mvTo ss ss.length ≤ 4 * vzAll ss := by
  have h : ∀ l : List Sn, (l.map (fun s => 1 + s.many)).sum ≤ l.length + 4 * (l.map Sn.size).sum := by
    intro l
    induction l with
    | nil => simp
    | cons s l ih =>
      simp only [List.map_cons, List.sum_cons, List.length_cons]
      have : s.many ≤ 4 * s.size := by unfold Sn.many Sn.size szAll; omega
      omega
  have := h ss
  unfold mvTo vzAll vzTo
  rw [List.take_length]
  omega
/-- The versions of a marked list. -/
def mkVs (c : Nat) (ss : List Sn) : List Sn := (List.range ss.length).map (fun i => match ss[i]? with
  | some s => mkV (c + mvTo ss i) s
  | Option.none => Sn.none)
theorem mkVs_len (c : Nat) (ss : List Sn) : (mkVs c ss).length = ss.length := by simp [mkVs]
theorem mkVs_at {c : Nat} {ss : List Sn} {i : Nat} (h : i < (mkVs c ss).length) : (mkVs c ss)[i] = mkV (c + mvTo ss i) (ss[i]'(by rw [← mkVs_len c ss]; exact h)) := by
  have hi : i < ss.length := by rw [← mkVs_len c ss]; exact h
  simp [mkVs, List.getElem?_eq_getElem hi]
theorem set_next {α : Type} {M L : List α} {j : Nat} (hM : M.length = L.length) (hj : j < L.length) : (M.take j ++ L.drop j).set j (M[j]'(by omega)) = M.take (j + 1) ++ L.drop (j + 1) := by
  rw [List.set_append_right _ _ (by rw [List.length_take]; omega), List.length_take, show j - min j M.length = 0 by omega, List.take_succ_eq_append_getElem (by omega), List.append_assoc]
  congr 1
  rw [List.drop_eq_getElem_cons hj]
  rfl
theorem get_next {α : Type} {M L : List α} {j : Nat} (hM : M.length = L.length) (hj : j < L.length) (h : j < (M.take j ++ L.drop j).length) : (M.take j ++ L.drop j)[j] = L[j] := by
  rw [List.getElem_append_right (by rw [List.length_take]; omega)]
  simp only [List.length_take]
  rw [List.getElem_drop]
  congr 1
  omega
theorem SsK.setNum {w : World} {base top g cap n : Nat} {ss : List Sn} {xs : List Value} {vp vr : Nat → Value} (h : SsK w base top (.slice (some ⟨g, 0, none⟩) n cap) n ss n xs vp vr) (hl : ss.length = n) {j : Nat} (hj : j < ss.length) (z : Int) :
    SsK (w.setCell ⟨g, j * 3, none⟩ (.int .i64 z)) base top (.slice (some ⟨g, 0, none⟩) n cap) n (ss.set j ⟨z, ss[j].pol, ss[j].rv⟩) n (xs.set (j * 3) (.int .i64 z)) vp vr := by
  have hlen : xs.length = n * 3 := h.row.1
  have hnb : ∀ {e : TypeId} {s m : Nat} {v : Value} {x : List Value}, w.ownsRow base e s v m x → e ≠ 32 → v.ownBlock ≠ some g := fun hr hne e => row_apart hr h.row hne g e rfl
  refine ⟨(h.row.stored (j * 3) _).1, h.rlt, ?_, ?_, ?_, fun i hi => h.plt i (by simpa using hi), fun i hi => h.nlt i (by simpa using hi), fun i k hi hk => h.pap i k (by simpa using hi) (by simpa using hk), fun i k hi hk => h.nap i k (by simpa using hi) (by simpa using hk)⟩
  · intro i hi hik
    have hi' : i < ss.length := by simpa using hi
    obtain ⟨c0, c1, c2⟩ := h.cs i hi' hik
    by_cases e : j = i
    · subst e
      rw [List.getElem_set_self]
      exact ⟨by rw [List.getElem?_set_self (by omega)], by rw [List.getElem?_set_ne (by omega)]; exact c1, by rw [List.getElem?_set_ne (by omega)]; exact c2⟩
    · rw [List.getElem_set_ne e]
      exact ⟨by rw [List.getElem?_set_ne (by omega)]; exact c0, by rw [List.getElem?_set_ne (by omega)]; exact c1, by rw [List.getElem?_set_ne (by omega)]; exact c2⟩
  · intro i hi hik
    have hi' : i < ss.length := by simpa using hi
    have := ownsRow_setCell_other (h.pol i hi' hik) (a := ⟨g, j * 3, none⟩) (hnb (h.pol i hi' hik) tyR) (.int .i64 z)
    by_cases e : j = i
    · subst e
      rw [List.getElem_set_self]
      exact this
    · rw [List.getElem_set_ne e]
      exact this
  · intro i hi hik
    have hi' : i < ss.length := by simpa using hi
    have := ownsRow_setCell_other (h.num i hi' hik) (a := ⟨g, j * 3, none⟩) (hnb (h.num i hi' hik) tyN) (.int .i64 z)
    by_cases e : j = i
    · subst e
      rw [List.getElem_set_self]
      exact this
    · rw [List.getElem_set_ne e]
      exact this
theorem SsK.setPol {w w1 : World} {base top n : Nat} {v : Value} {ss : List Sn} {xs : List Value} {vp vr : Nat → Value} (h : SsK w base top v n ss n xs vp vr) (hl : ss.length = n) {j : Nat} (hj : j < ss.length) {rs : List Ru} (hg : w.grownBy w1 (vp j).ownBlock) (hp : w1.ownsRow base 63 4 (vp j) rs.length (rs.flatMap Ru.cells)) :
    SsK w1 base top v n (ss.set j ⟨ss[j].num, rs, ss[j].rv⟩) n xs vp vr := by
  have hpj := h.pol j hj (by omega)
  refine ⟨kept_apart h.row hg (fun k h1 h2 => row_apart hpj h.row tyR k h2 h1), h.rlt, ?_, ?_, ?_, fun i hi => h.plt i (by simpa using hi), fun i hi => h.nlt i (by simpa using hi), fun i k hi hk => h.pap i k (by simpa using hi) (by simpa using hk), fun i k hi hk => h.nap i k (by simpa using hi) (by simpa using hk)⟩
  · intro i hi hik
    have hi' : i < ss.length := by simpa using hi
    by_cases e : j = i
    · subst e
      rw [List.getElem_set_self]
      exact h.cs j hi' hik
    · rw [List.getElem_set_ne e]
      exact h.cs i hi' hik
  · intro i hi hik
    have hi' : i < ss.length := by simpa using hi
    by_cases e : j = i
    · subst e
      rw [List.getElem_set_self]
      exact hp
    · rw [List.getElem_set_ne e]
      exact kept_apart (h.pol i hi' hik) hg (fun k h1 h2 => h.pap i j hi' hj hik (by omega) (by omega) k h1 h2)
  · intro i hi hik
    have hi' : i < ss.length := by simpa using hi
    have := kept_apart (h.num i hi' hik) hg (fun k h1 h2 => row_apart hpj (h.num i hi' hik) tyRN k h2 h1)
    by_cases e : j = i
    · subst e
      rw [List.getElem_set_self]
      exact this
    · rw [List.getElem_set_ne e]
      exact this
theorem SsK.setRv {w w1 : World} {base top n : Nat} {v : Value} {ss : List Sn} {xs : List Value} {vp vr : Nat → Value} (h : SsK w base top v n ss n xs vp vr) (hl : ss.length = n) {j : Nat} (hj : j < ss.length) {zs : List Int} (hg : w.grownBy w1 (vr j).ownBlock) (hp : w1.ownsRow base 3 1 (vr j) zs.length (nums zs)) :
    SsK w1 base top v n (ss.set j ⟨ss[j].num, ss[j].pol, zs⟩) n xs vp vr := by
  have hpj := h.num j hj (by omega)
  refine ⟨kept_apart h.row hg (fun k h1 h2 => row_apart hpj h.row tyN k h2 h1), h.rlt, ?_, ?_, ?_, fun i hi => h.plt i (by simpa using hi), fun i hi => h.nlt i (by simpa using hi), fun i k hi hk => h.pap i k (by simpa using hi) (by simpa using hk), fun i k hi hk => h.nap i k (by simpa using hi) (by simpa using hk)⟩
  · intro i hi hik
    have hi' : i < ss.length := by simpa using hi
    by_cases e : j = i
    · subst e
      rw [List.getElem_set_self]
      exact h.cs j hi' hik
    · rw [List.getElem_set_ne e]
      exact h.cs i hi' hik
  · intro i hi hik
    have hi' : i < ss.length := by simpa using hi
    have := kept_apart (h.pol i hi' hik) hg (fun k h1 h2 => row_apart (h.pol i hi' hik) hpj tyRN k h1 h2)
    by_cases e : j = i
    · subst e
      rw [List.getElem_set_self]
      exact this
    · rw [List.getElem_set_ne e]
      exact this
  · intro i hi hik
    have hi' : i < ss.length := by simpa using hi
    by_cases e : j = i
    · subst e
      rw [List.getElem_set_self]
      exact hp
    · rw [List.getElem_set_ne e]
      exact kept_apart (h.num i hi' hik) hg (fun k h1 h2 => h.nap i j hi' hj hik (by omega) (by omega) k h1 h2)

end Go.Proofs.YthpckiobfjdckaaGreat
