/-
  Chapter 2's index of rules and deciding, by the specification.
-/
import Derived.Deep.RegionHeld3
import Derived.Test.YtnbojbcljfiamaaGreatDoorJDecideAsk3
import Derived.Shelf.Slices.Turned
import Derived.Test.YtnbojbcljfiamaaGreatDoorJDecideAsk0
import Derived.Test.YtnbojbcljfiamaaGreatDoorJDecideAsk2
import Derived.Test.YtnbojbcljfiamaaGreatDoorJDecideAsk1
import Derived.Shelf.SlicesQ.Equal
import Derived.Shelf.SlicesQ.Contains
import Derived.Shelf.SlicesE.Clone
import Derived.WalkLawsBesides
import Derived.Deep.DeepCutAuto
import Derived.Deep.QuietTactic
import Derived.BigQuiet
import Derived.WalkSmall
import Derived.ScopeJumps
import Derived.WalkMore
namespace Go.Proofs.YtnbojbcljfiamaaGreatDoor
open Go.RowKit Go.Shelf

set_option maxHeartbeats 2000000 in
theorem l5SameRules_any (v v' : Value) (rs ss : List Ru) (w : World) (_hm : rs.length ≤ 1048577) (hm' : ss.length ≤ 1048577) (hr : RuS w v rs) (hr' : RuS w v' ss) :
    Calls Tryz.prog 95 #[v, v'] w fun e w' => e = .returned (.bool (sameS rs ss)) ∧ Below w.heap.size w w' := by
  obtain ⟨a, cap, rfl⟩ := hr.len
  obtain ⟨a', cap', rfl⟩ := hr'.len
  by_cases hl : rs.length = ss.length
  · have e0 : ((rs.length : Int) != (ss.length : Int)) = false := by simp; omega
    have hl1 : rs.length ≤ ss.length := by omega
    have HL := hid hl
    clear hl
    go_enter Tryz.func95, Tryz.ntmps95
    go_wp2
    go_loopw [13] (fun i wr => ∃ k : Nat, k ≤ rs.length ∧ i = .int .i64 k ∧ sameTo rs ss k = true ∧ Below w.heap.size w wr) (fun i _ => rs.length - (intOf i).toNat)
    case atStart => exact ⟨0, Nat.zero_le _, rfl, sameTo_zero _ _, Below.refl _ _⟩
    case round =>
      obtain ⟨k, hk, rfl, hs, hB⟩ := hrel
      have HS := hid hs
      clear hs
      by_cases hlt : k < rs.length
      · have hlt' : k < ss.length := by omega
        obtain ⟨b, off, rfl, hb, hcap, q0, q1, q2, q3⟩ := (hr.below hB).at hlt
        obtain ⟨b', off', rfl, hb', hcap', p0, p1, p2, p3⟩ := (hr'.below hB).at hlt'
        have HT := hid (sameTo_succ hlt hlt')
        generalize rs[k] = r at *
        generalize ss[k] = s at *
        have hne := neq_ru r s
        cases hq : r.same s
        · have HR := hid (show sameS rs ss = false from same_bad (by rw [HT.out, hq, Bool.and_false]))
          go_wp2_with fail
          go_quiet (fail)
          go_wp2
          go_ret
          exact ⟨ret_bool HR.out.symm, below_drewn hB _⟩
        · have HR := hid (show sameTo rs ss (k + 1) = true by rw [HT.out, HS.out, hq]; rfl)
          go_wp2_with fail
          go_quiet (fail)
          go_wp2
          go_roundw
          case rel => exact ⟨k + 1, by omega, by go_num, HR.out, below_drewn hB _⟩
          case measure => simp [intOf]; omega
      · obtain rfl : k = rs.length := by omega
        have HR := hid (show sameS rs ss = true by rw [← same_end HL.out]; exact HS.out)
        go_wp2
        go_ret
        exact ⟨ret_bool HR.out.symm, hB⟩
  · have e0 : ((rs.length : Int) != (ss.length : Int)) = true := by simp; omega
    have HR := hid (show sameS rs ss = false by unfold sameS; rw [decide_eq_false hl]; rfl)
    clear hl
    go_enter Tryz.func95, Tryz.ntmps95
    go_wp2
    go_ret
    exact ⟨ret_bool HR.out.symm, Below.refl _ _⟩

/-- Numbers that rise, at most two hundred serials. -/
def riB (zs : List Int) : Bool := fewB zs && upN zs
theorem riB_no1 {zs : List Int} (h : okN 100001 zs = false) : riB zs = false := by unfold riB; rw [fewB_no2 h]; rfl
theorem riB_no2 {zs : List Int} (h : upN zs = false) : riB zs = false := by unfold riB; rw [h]; simp
theorem riB_len {zs : List Int} (h1 : okN 100001 zs = true) (h2 : upN zs = true) : riB zs = decide (zs.length ≤ 200) := by
  unfold riB fewB
  rw [h1, h2]
  simp

set_option maxHeartbeats 4000000 in
theorem l5Rising_any (v : Value) (zs : List Int) (w : World) (hm : zs.length ≤ 1048577) (hr : VS w v (nums zs)) :
    Calls Tryz.prog 97 #[v] w fun e w' => e = .returned (.bool (riB zs)) ∧ w' = w := by
  obtain ⟨a, cap, rfl⟩ := hr.numLen
  go_enter Tryz.func97, Tryz.ntmps97
  go_wp2
  go_loop [7] (fun i => ∃ n : Nat, n ≤ zs.length ∧ i = .int .i64 n ∧ ∀ j (hj : j < zs.length), j < n → (1 ≤ zs[j] ∧ zs[j] < 100001) ∧ upI zs j = true) (fun i => zs.length - (intOf i).toNat)
  case atStart => exact ⟨0, Nat.zero_le _, rfl, fun _ _ h => absurd h (Nat.not_lt_zero _)⟩
  case round =>
    obtain ⟨n, hn, rfl, ht⟩ := hrel
    have HT := hid ht
    clear ht
    by_cases hlt : n < zs.length
    · obtain ⟨b, off, rfl, hb, hcap, q0⟩ := hr.num hlt
      have HN := hid (fun h => riB_no1 (okN_no (nx := 100001) (zs := zs) hlt h))
      have HU := hid (fun h => riB_no2 (upN_no (zs := zs) hlt h))
      have HS := hid (show (1 ≤ zs[n] ∧ zs[n] < 100001) → upI zs n = true → ∀ j (hj : j < zs.length), j < n + 1 → (1 ≤ zs[j] ∧ zs[j] < 100001) ∧ upI zs j = true from fun h hu j hj hjn => by
        by_cases e : j = n
        · subst e; exact ⟨h, hu⟩
        · exact HT.out j hj (by omega))
      rcases Nat.eq_zero_or_pos n with rfl | hpos
      · have HZ := hid (show upI zs 0 = true from rfl)
        rw [Nat.add_zero] at q0
        generalize zs[0] = x at *
        by_cases hx : 1 ≤ x ∧ x < 100001
        · have hin : inB 1 100000 x = true := decide_eq_true (by omega)
          have HR := hid (HS.out hx HZ.out)
          clear hx
          go_wp2_with (go_at_call 64; refine (l1In_any x 1 100000 _).mono ?_; rintro e w1 ⟨rfl, rfl⟩; rw [hin])
          exact ⟨⟨1, by omega, by go_num, HR.out⟩, by simp [intOf]; omega⟩
        · have hin : inB 1 100000 x = false := decide_eq_false (by omega)
          have HR := hid (HN.out hx)
          clear hx
          go_wp2_with (go_at_call 64; refine (l1In_any x 1 100000 _).mono ?_; rintro e w1 ⟨rfl, rfl⟩; rw [hin])
          go_ret
          exact ⟨ret_bool HR.out.symm, rfl⟩
      · obtain ⟨m, hm1⟩ : ∃ m, n = m + 1 := ⟨n - 1, by omega⟩
        obtain ⟨b', off', hbo, _, _, p0⟩ := hr.num (i := m) (by omega)
        cases hbo
        have HI := hid (show upI zs n = decide ((zs[m]'(by omega)) < zs[n]) by subst hm1; exact upI_succ hlt)
        have hw1 : IntKind.i64.wrap ((n : Int) - 1) = (m : Int) := by rw [IntKind.wrap_i64]; omega
        have hl1 : (0 : Int) < (n : Int) := by omega
        have hl2 : (m : Int) < (zs.length : Int) := by omega
        generalize zs[n] = x at *
        generalize zs[m] = y at *
        clear hm1 hpos
        by_cases hx : 1 ≤ x ∧ x < 100001
        · have hin : inB 1 100000 x = true := decide_eq_true (by omega)
          by_cases hyx : y < x
          · have HR := hid (HS.out hx (by rw [HI.out]; exact decide_eq_true hyx))
            have hd : decide (x ≤ y) = false := decide_eq_false (by omega)
            clear hx
            go_wp2_with (go_at_call 64; refine (l1In_any x 1 100000 _).mono ?_; rintro e w1 ⟨rfl, rfl⟩; rw [hin])
            exact ⟨⟨n + 1, by omega, by go_num, HR.out⟩, by simp [intOf]; omega⟩
          · have HR := hid (HU.out (by rw [HI.out]; exact decide_eq_false hyx))
            have hd : decide (x ≤ y) = true := decide_eq_true (by omega)
            clear hx
            go_wp2_with (go_at_call 64; refine (l1In_any x 1 100000 _).mono ?_; rintro e w1 ⟨rfl, rfl⟩; rw [hin])
            go_ret
            exact ⟨ret_bool HR.out.symm, rfl⟩
        · have hin : inB 1 100000 x = false := decide_eq_false (by omega)
          have HR := hid (HN.out hx)
          clear hx
          go_wp2_with (go_at_call 64; refine (l1In_any x 1 100000 _).mono ?_; rintro e w1 ⟨rfl, rfl⟩; rw [hin])
          go_ret
          exact ⟨ret_bool HR.out.symm, rfl⟩
    · obtain rfl : n = zs.length := by omega
      have HR := hid (riB_len (okN_yes fun i hi => (HT.out i hi hi).1) (upN_yes fun i hi => (HT.out i hi hi).2))
      go_wp2
      go_ret
      exact ⟨ret_bool (by rw [HR.out]; exact decide_eq_decide.2 (by omega)), rfl⟩

set_option maxHeartbeats 8000000 in
theorem specGoodSnapshot_any (v : Value) (s : Sn) (w : World) (hs : s.short) (h : SnA w v s) :
    Calls Tryz.prog 63 #[v] w fun e w' => e = .returned (.bool (snB s)) ∧ Below w.heap.size w w' := by
  obtain ⟨vp, vr, rfl, h1, h2⟩ := h
  obtain ⟨l1, l2, hz⟩ := hs
  obtain ⟨ap, cp, rfl⟩ := h1.len
  obtain ⟨ar, cr, rfl⟩ := h2.numLen
  have hB0 : Below w.heap.size w (w.alloc (.cells #[.int .i64 s.num, .slice ap s.pol.length cp, .slice ar s.rv.length cr] 40)) := (Below.refl _ w).alloc (Nat.le_refl _) _
  have F := Three.new w (.int .i64 s.num) (.slice ap s.pol.length cp) (.slice ar s.rv.length cr) 40
  have hlt0 := F.lt
  have h1d := (h1.below hB0).below (Below.refl _ _).drew
  have h2d := (h2.below hB0).below (Below.refl _ _).drew
  obtain ⟨a0, a1, a2⟩ := F.c
  cases hin : inB 1 100000 s.num
  · have HR := hid (snB_no1 (s := s) hin)
    go_enter Tryz.func63, Tryz.ntmps63
    go_wp2_with fail
    generalize w.alloc (.cells #[.int .i64 s.num, .slice ap s.pol.length cp, .slice ar s.rv.length cr] 40) = W0 at *
    refine wp_region_held_drew (S := fun w' => w'.cell? ⟨w.heap.size, 0, none⟩ = some (.int .i64 s.num) ∧ w'.cell? ⟨w.heap.size, 1, none⟩ = some (.slice ap s.pol.length cp) ∧ w'.cell? ⟨w.heap.size, 2, none⟩ = some (.slice ar s.rv.length cr)) (by kernel_rfl) ?_ (fun hHeld => ?_)
    · go_keep
    refine takeW 0 (v := ?v1) rfl (by kernel_rfl) (by kernel_rfl) (by kernel_rfl) (fun _ _ _ h => h) (by rfl) (by assumption) ?hy1 ?rest1
    case hy1 => intro w' hSw; (try dsimp only at hSw); go_simp; try with_reducible rfl
    try simp only [Act.put, List.setIfInBounds_toArray, List.set_cons_zero, List.set_cons_succ]
    refine takeW 1 (v := ?v2) rfl (by kernel_rfl) (by kernel_rfl) (by kernel_rfl) (fun _ _ _ h => h) (by rfl) (by assumption) ?hy2 ?rest2
    case hy2 => intro w' hSw; (try dsimp only at hSw); go_simp; try with_reducible rfl
    try simp only [Act.put, List.setIfInBounds_toArray, List.set_cons_zero, List.set_cons_succ]
    refine takeC 2 (by kernel_rfl) rfl (fun K hK => ?_)
    go_simp
    refine (l1In_any s.num 1 100000 _).mono ?_; rintro e w1 ⟨he1, rfl⟩; rw [hin] at he1; subst he1
    refine hK.out _ _ ?_ (fun hHeld => ?_)
    · go_keep
    clear hK K
    try simp only [Act.put, List.setIfInBounds_toArray, List.set_cons_zero, List.set_cons_succ]
    refine takeW 3 (v := ?v3) rfl (by kernel_rfl) (by kernel_rfl) (by kernel_rfl) (fun _ _ _ h => h) (by rfl) (by assumption) ?hy3 ?rest3
    case hy3 => intro w' hSw; (try dsimp only at hSw); go_simp; try with_reducible rfl
    try simp only [Act.put, List.setIfInBounds_toArray, List.set_cons_zero, List.set_cons_succ]
    refine takeX 4 rfl (by kernel_rfl) (by kernel_rfl) (by kernel_rfl) (fun _ _ _ h => h) (by rfl) (by assumption) ?_
    try simp only [Act.put, List.setIfInBounds_toArray, List.set_cons_zero, List.set_cons_succ]
    refine takeX 5 rfl (by kernel_rfl) (by kernel_rfl) (by kernel_rfl) (fun _ _ _ h => h) (by rfl) (by assumption) ?_
    try simp only [Act.put, List.setIfInBounds_toArray, List.set_cons_zero, List.set_cons_succ]
    refine takeX 6 rfl (by kernel_rfl) (by kernel_rfl) (by kernel_rfl) (fun _ _ _ h => h) (by rfl) (by assumption) ?_
    try simp only [Act.put, List.setIfInBounds_toArray, List.set_cons_zero, List.set_cons_succ]
    refine takeW 7 (v := ?v4) rfl (by kernel_rfl) (by kernel_rfl) (by kernel_rfl) (fun _ _ _ h => h) (by rfl) (by assumption) ?hy4 ?rest4
    case hy4 => intro w' hSw; (try dsimp only at hSw); go_simp; try with_reducible rfl
    try simp only [Act.put, List.setIfInBounds_toArray, List.set_cons_zero, List.set_cons_succ]
    refine takeW 8 (v := ?v5) rfl (by kernel_rfl) (by kernel_rfl) (by kernel_rfl) (fun _ _ _ h => h) (by rfl) (by assumption) ?hy5 ?rest5
    case hy5 => intro w' hSw; (try dsimp only at hSw); go_simp; try with_reducible rfl
    try simp only [Act.put, List.setIfInBounds_toArray, List.set_cons_zero, List.set_cons_succ]
    refine takeX 9 rfl (by kernel_rfl) (by kernel_rfl) (by kernel_rfl) (fun _ _ _ h => h) (by rfl) (by assumption) ?_
    try simp only [Act.put, List.setIfInBounds_toArray, List.set_cons_zero, List.set_cons_succ]
    refine takeX 10 rfl (by kernel_rfl) (by kernel_rfl) (by kernel_rfl) (fun _ _ _ h => h) (by rfl) (by assumption) ?_
    try simp only [Act.put, List.setIfInBounds_toArray, List.set_cons_zero, List.set_cons_succ]
    refine takeX 11 rfl (by kernel_rfl) (by kernel_rfl) (by kernel_rfl) (fun _ _ _ h => h) (by rfl) (by assumption) ?_
    try simp only [Act.put, List.setIfInBounds_toArray, List.set_cons_zero, List.set_cons_succ]
    refine takeX 12 rfl (by kernel_rfl) (by kernel_rfl) (by kernel_rfl) (fun _ _ _ h => h) (by rfl) (by assumption) ?_
    try simp only [Act.put, List.setIfInBounds_toArray, List.set_cons_zero, List.set_cons_succ]
    refine takeX 13 rfl (by kernel_rfl) (by kernel_rfl) (by kernel_rfl) (fun _ _ _ h => h) (by rfl) (by assumption) ?_
    try simp only [Act.put, List.setIfInBounds_toArray, List.set_cons_zero, List.set_cons_succ]
    refine takeX 14 rfl (by kernel_rfl) (by kernel_rfl) (by kernel_rfl) (fun _ _ _ h => h) (by rfl) (by assumption) ?_
    try simp only [Act.put, List.setIfInBounds_toArray, List.set_cons_zero, List.set_cons_succ]
    refine takeW 15 (v := ?v6) rfl (by kernel_rfl) (by kernel_rfl) (by kernel_rfl) (fun _ _ _ h => h) (by rfl) (by assumption) ?hy6 ?rest6
    case hy6 => intro w' hSw; (try dsimp only at hSw); go_simp; try with_reducible rfl
    try simp only [Act.put, List.setIfInBounds_toArray, List.set_cons_zero, List.set_cons_succ]
    refine takeW 16 (v := ?v7) rfl (by kernel_rfl) (by kernel_rfl) (by kernel_rfl) (fun _ _ _ h => h) (by rfl) (by assumption) ?hy7 ?rest7
    case hy7 => intro w' hSw; (try dsimp only at hSw); go_simp; try with_reducible rfl
    try simp only [Act.put, List.setIfInBounds_toArray, List.set_cons_zero, List.set_cons_succ]
    refine takeX 17 rfl (by kernel_rfl) (by kernel_rfl) (by kernel_rfl) (fun _ _ _ h => h) (by rfl) (by assumption) ?_
    try simp only [Act.put, List.setIfInBounds_toArray, List.set_cons_zero, List.set_cons_succ]
    refine takeX 18 rfl (by kernel_rfl) (by kernel_rfl) (by kernel_rfl) (fun _ _ _ h => h) (by rfl) (by assumption) ?_
    try simp only [Act.put, List.setIfInBounds_toArray, List.set_cons_zero, List.set_cons_succ]
    refine takeX 19 rfl (by kernel_rfl) (by kernel_rfl) (by kernel_rfl) (fun _ _ _ h => h) (by rfl) (by assumption) ?_
    try simp only [Act.put, List.setIfInBounds_toArray, List.set_cons_zero, List.set_cons_succ]
    refine takeW 20 (v := ?v8) rfl (by kernel_rfl) (by kernel_rfl) (by kernel_rfl) (fun _ _ _ h => h) (by rfl) (by assumption) ?hy8 ?rest8
    case hy8 => intro w' hSw; (try dsimp only at hSw); go_simp; try with_reducible rfl
    try simp only [Act.put, List.setIfInBounds_toArray, List.set_cons_zero, List.set_cons_succ]
    refine takeW 21 (v := ?v9) rfl (by kernel_rfl) (by kernel_rfl) (by kernel_rfl) (fun _ _ _ h => h) (by rfl) (by assumption) ?hy9 ?rest9
    case hy9 => intro w' hSw; (try dsimp only at hSw); go_simp; try with_reducible rfl
    try simp only [Act.put, List.setIfInBounds_toArray, List.set_cons_zero, List.set_cons_succ]
    refine wpAnyH_done (by kernel_rfl) ?_ _
    go_wp2_with fail
    go_ret
    exact ⟨ret_bool HR.out.symm, below_one hB0 (Below.refl _ _).drew⟩
  have HN := hid (show numB s.num = true from hin)
  cases hpo : polB s.pol
  · have HR := hid (snB_no2 hpo)
    go_enter Tryz.func63, Tryz.ntmps63
    go_wp2_with fail
    generalize w.alloc (.cells #[.int .i64 s.num, .slice ap s.pol.length cp, .slice ar s.rv.length cr] 40) = W0 at *
    refine wp_region_held_drew (S := fun w' => w'.cell? ⟨w.heap.size, 0, none⟩ = some (.int .i64 s.num) ∧ w'.cell? ⟨w.heap.size, 1, none⟩ = some (.slice ap s.pol.length cp) ∧ w'.cell? ⟨w.heap.size, 2, none⟩ = some (.slice ar s.rv.length cr)) (by kernel_rfl) ?_ (fun hHeld => ?_)
    · go_keep
    refine takeW 0 (v := ?v10) rfl (by kernel_rfl) (by kernel_rfl) (by kernel_rfl) (fun _ _ _ h => h) (by rfl) (by assumption) ?hy10 ?rest10
    case hy10 => intro w' hSw; (try dsimp only at hSw); go_simp; try with_reducible rfl
    try simp only [Act.put, List.setIfInBounds_toArray, List.set_cons_zero, List.set_cons_succ]
    refine takeW 1 (v := ?v11) rfl (by kernel_rfl) (by kernel_rfl) (by kernel_rfl) (fun _ _ _ h => h) (by rfl) (by assumption) ?hy11 ?rest11
    case hy11 => intro w' hSw; (try dsimp only at hSw); go_simp; try with_reducible rfl
    try simp only [Act.put, List.setIfInBounds_toArray, List.set_cons_zero, List.set_cons_succ]
    refine takeC 2 (by kernel_rfl) rfl (fun K hK => ?_)
    go_simp
    refine (l1In_any s.num 1 100000 _).mono ?_; rintro e w1 ⟨he1, rfl⟩; rw [hin] at he1; subst he1
    refine hK.out _ _ ?_ (fun hHeld => ?_)
    · go_keep
    clear hK K
    try simp only [Act.put, List.setIfInBounds_toArray, List.set_cons_zero, List.set_cons_succ]
    refine takeW 3 (v := ?v12) rfl (by kernel_rfl) (by kernel_rfl) (by kernel_rfl) (fun _ _ _ h => h) (by rfl) (by assumption) ?hy12 ?rest12
    case hy12 => intro w' hSw; (try dsimp only at hSw); go_simp; try with_reducible rfl
    try simp only [Act.put, List.setIfInBounds_toArray, List.set_cons_zero, List.set_cons_succ]
    refine takeW 4 (v := ?v13) rfl (by kernel_rfl) (by kernel_rfl) (by kernel_rfl) (fun _ _ _ h => h) (by rfl) (by assumption) ?hy13 ?rest13
    case hy13 => intro w' hSw; (try dsimp only at hSw); go_simp; try with_reducible rfl
    try simp only [Act.put, List.setIfInBounds_toArray, List.set_cons_zero, List.set_cons_succ]
    refine takeW 5 (v := ?v14) rfl (by kernel_rfl) (by kernel_rfl) (by kernel_rfl) (fun _ _ _ h => h) (by rfl) (by assumption) ?hy14 ?rest14
    case hy14 => intro w' hSw; (try dsimp only at hSw); go_simp; try with_reducible rfl
    try simp only [Act.put, List.setIfInBounds_toArray, List.set_cons_zero, List.set_cons_succ]
    refine takeC 6 (by kernel_rfl) rfl (fun K hK => ?_)
    go_simp
    refine (l2Good_any _ s.pol _ (by omega) hz (by exact h1d)).mono ?_; rintro e w2 ⟨he2, hB2⟩; rw [hpo] at he2; subst he2; have hc2 := fun o => hB2.cell (p := ⟨w.heap.size, o, none⟩) (by exact hlt0); have hlt2 : w.heap.size < w2.heap.size := Nat.lt_of_lt_of_le hlt0 hB2.size
    refine hK.out _ _ ?_ (fun hHeld => ?_)
    · go_keep
    clear hK K
    try simp only [Act.put, List.setIfInBounds_toArray, List.set_cons_zero, List.set_cons_succ]
    refine takeW 7 (v := ?v15) rfl (by kernel_rfl) (by kernel_rfl) (by kernel_rfl) (fun _ _ _ h => h) (by rfl) (by assumption) ?hy15 ?rest15
    case hy15 => intro w' hSw; (try dsimp only at hSw); go_simp; try with_reducible rfl
    try simp only [Act.put, List.setIfInBounds_toArray, List.set_cons_zero, List.set_cons_succ]
    refine takeW 8 (v := ?v16) rfl (by kernel_rfl) (by kernel_rfl) (by kernel_rfl) (fun _ _ _ h => h) (by rfl) (by assumption) ?hy16 ?rest16
    case hy16 => intro w' hSw; (try dsimp only at hSw); go_simp; try with_reducible rfl
    try simp only [Act.put, List.setIfInBounds_toArray, List.set_cons_zero, List.set_cons_succ]
    refine takeX 9 rfl (by kernel_rfl) (by kernel_rfl) (by kernel_rfl) (fun _ _ _ h => h) (by rfl) (by assumption) ?_
    try simp only [Act.put, List.setIfInBounds_toArray, List.set_cons_zero, List.set_cons_succ]
    refine takeX 10 rfl (by kernel_rfl) (by kernel_rfl) (by kernel_rfl) (fun _ _ _ h => h) (by rfl) (by assumption) ?_
    try simp only [Act.put, List.setIfInBounds_toArray, List.set_cons_zero, List.set_cons_succ]
    refine takeX 11 rfl (by kernel_rfl) (by kernel_rfl) (by kernel_rfl) (fun _ _ _ h => h) (by rfl) (by assumption) ?_
    try simp only [Act.put, List.setIfInBounds_toArray, List.set_cons_zero, List.set_cons_succ]
    refine takeX 12 rfl (by kernel_rfl) (by kernel_rfl) (by kernel_rfl) (fun _ _ _ h => h) (by rfl) (by assumption) ?_
    try simp only [Act.put, List.setIfInBounds_toArray, List.set_cons_zero, List.set_cons_succ]
    refine takeX 13 rfl (by kernel_rfl) (by kernel_rfl) (by kernel_rfl) (fun _ _ _ h => h) (by rfl) (by assumption) ?_
    try simp only [Act.put, List.setIfInBounds_toArray, List.set_cons_zero, List.set_cons_succ]
    refine takeX 14 rfl (by kernel_rfl) (by kernel_rfl) (by kernel_rfl) (fun _ _ _ h => h) (by rfl) (by assumption) ?_
    try simp only [Act.put, List.setIfInBounds_toArray, List.set_cons_zero, List.set_cons_succ]
    refine takeW 15 (v := ?v17) rfl (by kernel_rfl) (by kernel_rfl) (by kernel_rfl) (fun _ _ _ h => h) (by rfl) (by assumption) ?hy17 ?rest17
    case hy17 => intro w' hSw; (try dsimp only at hSw); go_simp; try with_reducible rfl
    try simp only [Act.put, List.setIfInBounds_toArray, List.set_cons_zero, List.set_cons_succ]
    refine takeW 16 (v := ?v18) rfl (by kernel_rfl) (by kernel_rfl) (by kernel_rfl) (fun _ _ _ h => h) (by rfl) (by assumption) ?hy18 ?rest18
    case hy18 => intro w' hSw; (try dsimp only at hSw); go_simp; try with_reducible rfl
    try simp only [Act.put, List.setIfInBounds_toArray, List.set_cons_zero, List.set_cons_succ]
    refine takeX 17 rfl (by kernel_rfl) (by kernel_rfl) (by kernel_rfl) (fun _ _ _ h => h) (by rfl) (by assumption) ?_
    try simp only [Act.put, List.setIfInBounds_toArray, List.set_cons_zero, List.set_cons_succ]
    refine takeX 18 rfl (by kernel_rfl) (by kernel_rfl) (by kernel_rfl) (fun _ _ _ h => h) (by rfl) (by assumption) ?_
    try simp only [Act.put, List.setIfInBounds_toArray, List.set_cons_zero, List.set_cons_succ]
    refine takeX 19 rfl (by kernel_rfl) (by kernel_rfl) (by kernel_rfl) (fun _ _ _ h => h) (by rfl) (by assumption) ?_
    try simp only [Act.put, List.setIfInBounds_toArray, List.set_cons_zero, List.set_cons_succ]
    refine takeW 20 (v := ?v19) rfl (by kernel_rfl) (by kernel_rfl) (by kernel_rfl) (fun _ _ _ h => h) (by rfl) (by assumption) ?hy19 ?rest19
    case hy19 => intro w' hSw; (try dsimp only at hSw); go_simp; try with_reducible rfl
    try simp only [Act.put, List.setIfInBounds_toArray, List.set_cons_zero, List.set_cons_succ]
    refine takeW 21 (v := ?v20) rfl (by kernel_rfl) (by kernel_rfl) (by kernel_rfl) (fun _ _ _ h => h) (by rfl) (by assumption) ?hy20 ?rest20
    case hy20 => intro w' hSw; (try dsimp only at hSw); go_simp; try with_reducible rfl
    try simp only [Act.put, List.setIfInBounds_toArray, List.set_cons_zero, List.set_cons_succ]
    refine wpAnyH_done (by kernel_rfl) ?_ _
    go_wp2_with fail
    go_ret
    exact ⟨ret_bool HR.out.symm, below_one hB0 (below_drew1 hB2)⟩
  have h30 := (pol_all hpo).2
  have hpl : (plTo s.pol s.pol.length).length ≤ 1048577 := by have := plTo_len (rs := s.pol) _ (Nat.le_refl _); omega
  cases hsm : sameS (plTo s.pol s.pol.length) s.pol
  · have HR := hid (snB_no3 (s := s) (by rw [plX_yes hpo]; exact hsm))
    go_enter Tryz.func63, Tryz.ntmps63
    go_wp2_with fail
    generalize w.alloc (.cells #[.int .i64 s.num, .slice ap s.pol.length cp, .slice ar s.rv.length cr] 40) = W0 at *
    refine wp_region_held_drew (S := fun w' => w'.cell? ⟨w.heap.size, 0, none⟩ = some (.int .i64 s.num) ∧ w'.cell? ⟨w.heap.size, 1, none⟩ = some (.slice ap s.pol.length cp) ∧ w'.cell? ⟨w.heap.size, 2, none⟩ = some (.slice ar s.rv.length cr)) (by kernel_rfl) ?_ (fun hHeld => ?_)
    · go_keep
    refine takeW 0 (v := ?v21) rfl (by kernel_rfl) (by kernel_rfl) (by kernel_rfl) (fun _ _ _ h => h) (by rfl) (by assumption) ?hy21 ?rest21
    case hy21 => intro w' hSw; (try dsimp only at hSw); go_simp; try with_reducible rfl
    try simp only [Act.put, List.setIfInBounds_toArray, List.set_cons_zero, List.set_cons_succ]
    refine takeW 1 (v := ?v22) rfl (by kernel_rfl) (by kernel_rfl) (by kernel_rfl) (fun _ _ _ h => h) (by rfl) (by assumption) ?hy22 ?rest22
    case hy22 => intro w' hSw; (try dsimp only at hSw); go_simp; try with_reducible rfl
    try simp only [Act.put, List.setIfInBounds_toArray, List.set_cons_zero, List.set_cons_succ]
    refine takeC 2 (by kernel_rfl) rfl (fun K hK => ?_)
    go_simp
    refine (l1In_any s.num 1 100000 _).mono ?_; rintro e w1 ⟨he1, rfl⟩; rw [hin] at he1; subst he1
    refine hK.out _ _ ?_ (fun hHeld => ?_)
    · go_keep
    clear hK K
    try simp only [Act.put, List.setIfInBounds_toArray, List.set_cons_zero, List.set_cons_succ]
    refine takeW 3 (v := ?v23) rfl (by kernel_rfl) (by kernel_rfl) (by kernel_rfl) (fun _ _ _ h => h) (by rfl) (by assumption) ?hy23 ?rest23
    case hy23 => intro w' hSw; (try dsimp only at hSw); go_simp; try with_reducible rfl
    try simp only [Act.put, List.setIfInBounds_toArray, List.set_cons_zero, List.set_cons_succ]
    refine takeW 4 (v := ?v24) rfl (by kernel_rfl) (by kernel_rfl) (by kernel_rfl) (fun _ _ _ h => h) (by rfl) (by assumption) ?hy24 ?rest24
    case hy24 => intro w' hSw; (try dsimp only at hSw); go_simp; try with_reducible rfl
    try simp only [Act.put, List.setIfInBounds_toArray, List.set_cons_zero, List.set_cons_succ]
    refine takeW 5 (v := ?v25) rfl (by kernel_rfl) (by kernel_rfl) (by kernel_rfl) (fun _ _ _ h => h) (by rfl) (by assumption) ?hy25 ?rest25
    case hy25 => intro w' hSw; (try dsimp only at hSw); go_simp; try with_reducible rfl
    try simp only [Act.put, List.setIfInBounds_toArray, List.set_cons_zero, List.set_cons_succ]
    refine takeC 6 (by kernel_rfl) rfl (fun K hK => ?_)
    go_simp
    refine (l2Good_any _ s.pol _ (by omega) hz (by exact h1d)).mono ?_; rintro e w2 ⟨he2, hB2⟩; rw [hpo] at he2; subst he2; have hc2 := fun o => hB2.cell (p := ⟨w.heap.size, o, none⟩) (by exact hlt0); have hlt2 : w.heap.size < w2.heap.size := Nat.lt_of_lt_of_le hlt0 hB2.size
    refine hK.out _ _ ?_ (fun hHeld => ?_)
    · go_keep
    clear hK K
    try simp only [Act.put, List.setIfInBounds_toArray, List.set_cons_zero, List.set_cons_succ]
    refine takeW 7 (v := ?v26) rfl (by kernel_rfl) (by kernel_rfl) (by kernel_rfl) (fun _ _ _ h => h) (by rfl) (by assumption) ?hy26 ?rest26
    case hy26 => intro w' hSw; (try dsimp only at hSw); go_simp; try with_reducible rfl
    try simp only [Act.put, List.setIfInBounds_toArray, List.set_cons_zero, List.set_cons_succ]
    refine takeW 8 (v := ?v27) rfl (by kernel_rfl) (by kernel_rfl) (by kernel_rfl) (fun _ _ _ h => h) (by rfl) (by assumption) ?hy27 ?rest27
    case hy27 => intro w' hSw; (try dsimp only at hSw); go_simp; try with_reducible rfl
    try simp only [Act.put, List.setIfInBounds_toArray, List.set_cons_zero, List.set_cons_succ]
    refine takeW 9 (v := ?v28) rfl (by kernel_rfl) (by kernel_rfl) (by kernel_rfl) (fun _ _ _ h => h) (by rfl) (by assumption) ?hy28 ?rest28
    case hy28 => intro w' hSw; (try dsimp only at hSw); go_simp; try with_reducible rfl
    try simp only [Act.put, List.setIfInBounds_toArray, List.set_cons_zero, List.set_cons_succ]
    refine takeW 10 (v := ?v29) rfl (by kernel_rfl) (by kernel_rfl) (by kernel_rfl) (fun _ _ _ h => h) (by rfl) (by assumption) ?hy29 ?rest29
    case hy29 => intro w' hSw; (try dsimp only at hSw); go_simp; try with_reducible rfl
    try simp only [Act.put, List.setIfInBounds_toArray, List.set_cons_zero, List.set_cons_succ]
    refine takeW 12 (v := ?v30) rfl (by kernel_rfl) (by kernel_rfl) (by kernel_rfl) (fun _ _ _ h => h) (by rfl) (by assumption) ?hy30 ?rest30
    case hy30 => intro w' hSw; (try dsimp only at hSw); go_simp; try with_reducible rfl
    try simp only [Act.put, List.setIfInBounds_toArray, List.set_cons_zero, List.set_cons_succ]
    refine takeW 13 (v := ?v31) rfl (by kernel_rfl) (by kernel_rfl) (by kernel_rfl) (fun _ _ _ h => h) (by rfl) (by assumption) ?hy31 ?rest31
    case hy31 => intro w' hSw; (try dsimp only at hSw); go_simp; try with_reducible rfl
    try simp only [Act.put, List.setIfInBounds_toArray, List.set_cons_zero, List.set_cons_succ]
    refine takeC 11 (by kernel_rfl) rfl (fun K hK => ?_)
    go_simp
    refine (l2Plain_any _ s.pol _ h30 hz (by exact h1d.below hB2)).mono ?_; rintro e w3 ⟨v3, rfl, o3, hB3⟩; obtain ⟨a3, k3, rfl⟩ := ownsRow_len o3; have hc3 := fun o => hB3.cell (p := ⟨w.heap.size, o, none⟩) (by exact hlt2); have hlt3 : w.heap.size < w3.heap.size := Nat.lt_of_lt_of_le hlt2 hB3.size
    refine hK.out _ _ ?_ (fun hHeld => ?_)
    · go_keep
    clear hK K
    try simp only [Act.put, List.setIfInBounds_toArray, List.set_cons_zero, List.set_cons_succ]
    refine takeC 14 (by kernel_rfl) rfl (fun K hK => ?_)
    go_simp
    refine (l5SameRules_any _ _ _ s.pol _ hpl (by omega) (RuS.own o3) (by exact (h1d.below hB2).below hB3)).mono ?_; rintro e w4 ⟨he4, hB4⟩; rw [hsm] at he4; subst he4; have hc4 := fun o => hB4.cell (p := ⟨w.heap.size, o, none⟩) (by exact hlt3); have hlt4 : w.heap.size < w4.heap.size := Nat.lt_of_lt_of_le hlt3 hB4.size
    refine hK.out _ _ ?_ (fun hHeld => ?_)
    · go_keep
    clear hK K
    try simp only [Act.put, List.setIfInBounds_toArray, List.set_cons_zero, List.set_cons_succ]
    refine takeW 15 (v := ?v32) rfl (by kernel_rfl) (by kernel_rfl) (by kernel_rfl) (fun _ _ _ h => h) (by rfl) (by assumption) ?hy32 ?rest32
    case hy32 => intro w' hSw; (try dsimp only at hSw); go_simp; try with_reducible rfl
    try simp only [Act.put, List.setIfInBounds_toArray, List.set_cons_zero, List.set_cons_succ]
    refine takeW 16 (v := ?v33) rfl (by kernel_rfl) (by kernel_rfl) (by kernel_rfl) (fun _ _ _ h => h) (by rfl) (by assumption) ?hy33 ?rest33
    case hy33 => intro w' hSw; (try dsimp only at hSw); go_simp; try with_reducible rfl
    try simp only [Act.put, List.setIfInBounds_toArray, List.set_cons_zero, List.set_cons_succ]
    refine takeX 17 rfl (by kernel_rfl) (by kernel_rfl) (by kernel_rfl) (fun _ _ _ h => h) (by rfl) (by assumption) ?_
    try simp only [Act.put, List.setIfInBounds_toArray, List.set_cons_zero, List.set_cons_succ]
    refine takeX 18 rfl (by kernel_rfl) (by kernel_rfl) (by kernel_rfl) (fun _ _ _ h => h) (by rfl) (by assumption) ?_
    try simp only [Act.put, List.setIfInBounds_toArray, List.set_cons_zero, List.set_cons_succ]
    refine takeX 19 rfl (by kernel_rfl) (by kernel_rfl) (by kernel_rfl) (fun _ _ _ h => h) (by rfl) (by assumption) ?_
    try simp only [Act.put, List.setIfInBounds_toArray, List.set_cons_zero, List.set_cons_succ]
    refine takeW 20 (v := ?v34) rfl (by kernel_rfl) (by kernel_rfl) (by kernel_rfl) (fun _ _ _ h => h) (by rfl) (by assumption) ?hy34 ?rest34
    case hy34 => intro w' hSw; (try dsimp only at hSw); go_simp; try with_reducible rfl
    try simp only [Act.put, List.setIfInBounds_toArray, List.set_cons_zero, List.set_cons_succ]
    refine takeW 21 (v := ?v35) rfl (by kernel_rfl) (by kernel_rfl) (by kernel_rfl) (fun _ _ _ h => h) (by rfl) (by assumption) ?hy35 ?rest35
    case hy35 => intro w' hSw; (try dsimp only at hSw); go_simp; try with_reducible rfl
    try simp only [Act.put, List.setIfInBounds_toArray, List.set_cons_zero, List.set_cons_succ]
    refine wpAnyH_done (by kernel_rfl) ?_ _
    go_wp2_with fail
    go_ret
    exact ⟨ret_bool HR.out.symm, below_one hB0 (below_drew1 (below_one (below_one hB2 hB3) hB4))⟩
  cases hri : riB s.rv
  · have HR := hid (show snB s = false by unfold riB at hri; rw [Bool.and_eq_false_iff] at hri; rcases hri with h | h; exact snB_no4 h; exact snB_no5 h)
    go_enter Tryz.func63, Tryz.ntmps63
    go_wp2_with fail
    generalize w.alloc (.cells #[.int .i64 s.num, .slice ap s.pol.length cp, .slice ar s.rv.length cr] 40) = W0 at *
    refine wp_region_held_drew (S := fun w' => w'.cell? ⟨w.heap.size, 0, none⟩ = some (.int .i64 s.num) ∧ w'.cell? ⟨w.heap.size, 1, none⟩ = some (.slice ap s.pol.length cp) ∧ w'.cell? ⟨w.heap.size, 2, none⟩ = some (.slice ar s.rv.length cr)) (by kernel_rfl) ?_ (fun hHeld => ?_)
    · go_keep
    refine takeW 0 (v := ?v36) rfl (by kernel_rfl) (by kernel_rfl) (by kernel_rfl) (fun _ _ _ h => h) (by rfl) (by assumption) ?hy36 ?rest36
    case hy36 => intro w' hSw; (try dsimp only at hSw); go_simp; try with_reducible rfl
    try simp only [Act.put, List.setIfInBounds_toArray, List.set_cons_zero, List.set_cons_succ]
    refine takeW 1 (v := ?v37) rfl (by kernel_rfl) (by kernel_rfl) (by kernel_rfl) (fun _ _ _ h => h) (by rfl) (by assumption) ?hy37 ?rest37
    case hy37 => intro w' hSw; (try dsimp only at hSw); go_simp; try with_reducible rfl
    try simp only [Act.put, List.setIfInBounds_toArray, List.set_cons_zero, List.set_cons_succ]
    refine takeC 2 (by kernel_rfl) rfl (fun K hK => ?_)
    go_simp
    refine (l1In_any s.num 1 100000 _).mono ?_; rintro e w1 ⟨he1, rfl⟩; rw [hin] at he1; subst he1
    refine hK.out _ _ ?_ (fun hHeld => ?_)
    · go_keep
    clear hK K
    try simp only [Act.put, List.setIfInBounds_toArray, List.set_cons_zero, List.set_cons_succ]
    refine takeW 3 (v := ?v38) rfl (by kernel_rfl) (by kernel_rfl) (by kernel_rfl) (fun _ _ _ h => h) (by rfl) (by assumption) ?hy38 ?rest38
    case hy38 => intro w' hSw; (try dsimp only at hSw); go_simp; try with_reducible rfl
    try simp only [Act.put, List.setIfInBounds_toArray, List.set_cons_zero, List.set_cons_succ]
    refine takeW 4 (v := ?v39) rfl (by kernel_rfl) (by kernel_rfl) (by kernel_rfl) (fun _ _ _ h => h) (by rfl) (by assumption) ?hy39 ?rest39
    case hy39 => intro w' hSw; (try dsimp only at hSw); go_simp; try with_reducible rfl
    try simp only [Act.put, List.setIfInBounds_toArray, List.set_cons_zero, List.set_cons_succ]
    refine takeW 5 (v := ?v40) rfl (by kernel_rfl) (by kernel_rfl) (by kernel_rfl) (fun _ _ _ h => h) (by rfl) (by assumption) ?hy40 ?rest40
    case hy40 => intro w' hSw; (try dsimp only at hSw); go_simp; try with_reducible rfl
    try simp only [Act.put, List.setIfInBounds_toArray, List.set_cons_zero, List.set_cons_succ]
    refine takeC 6 (by kernel_rfl) rfl (fun K hK => ?_)
    go_simp
    refine (l2Good_any _ s.pol _ (by omega) hz (by exact h1d)).mono ?_; rintro e w2 ⟨he2, hB2⟩; rw [hpo] at he2; subst he2; have hc2 := fun o => hB2.cell (p := ⟨w.heap.size, o, none⟩) (by exact hlt0); have hlt2 : w.heap.size < w2.heap.size := Nat.lt_of_lt_of_le hlt0 hB2.size
    refine hK.out _ _ ?_ (fun hHeld => ?_)
    · go_keep
    clear hK K
    try simp only [Act.put, List.setIfInBounds_toArray, List.set_cons_zero, List.set_cons_succ]
    refine takeW 7 (v := ?v41) rfl (by kernel_rfl) (by kernel_rfl) (by kernel_rfl) (fun _ _ _ h => h) (by rfl) (by assumption) ?hy41 ?rest41
    case hy41 => intro w' hSw; (try dsimp only at hSw); go_simp; try with_reducible rfl
    try simp only [Act.put, List.setIfInBounds_toArray, List.set_cons_zero, List.set_cons_succ]
    refine takeW 8 (v := ?v42) rfl (by kernel_rfl) (by kernel_rfl) (by kernel_rfl) (fun _ _ _ h => h) (by rfl) (by assumption) ?hy42 ?rest42
    case hy42 => intro w' hSw; (try dsimp only at hSw); go_simp; try with_reducible rfl
    try simp only [Act.put, List.setIfInBounds_toArray, List.set_cons_zero, List.set_cons_succ]
    refine takeW 9 (v := ?v43) rfl (by kernel_rfl) (by kernel_rfl) (by kernel_rfl) (fun _ _ _ h => h) (by rfl) (by assumption) ?hy43 ?rest43
    case hy43 => intro w' hSw; (try dsimp only at hSw); go_simp; try with_reducible rfl
    try simp only [Act.put, List.setIfInBounds_toArray, List.set_cons_zero, List.set_cons_succ]
    refine takeW 10 (v := ?v44) rfl (by kernel_rfl) (by kernel_rfl) (by kernel_rfl) (fun _ _ _ h => h) (by rfl) (by assumption) ?hy44 ?rest44
    case hy44 => intro w' hSw; (try dsimp only at hSw); go_simp; try with_reducible rfl
    try simp only [Act.put, List.setIfInBounds_toArray, List.set_cons_zero, List.set_cons_succ]
    refine takeW 12 (v := ?v45) rfl (by kernel_rfl) (by kernel_rfl) (by kernel_rfl) (fun _ _ _ h => h) (by rfl) (by assumption) ?hy45 ?rest45
    case hy45 => intro w' hSw; (try dsimp only at hSw); go_simp; try with_reducible rfl
    try simp only [Act.put, List.setIfInBounds_toArray, List.set_cons_zero, List.set_cons_succ]
    refine takeW 13 (v := ?v46) rfl (by kernel_rfl) (by kernel_rfl) (by kernel_rfl) (fun _ _ _ h => h) (by rfl) (by assumption) ?hy46 ?rest46
    case hy46 => intro w' hSw; (try dsimp only at hSw); go_simp; try with_reducible rfl
    try simp only [Act.put, List.setIfInBounds_toArray, List.set_cons_zero, List.set_cons_succ]
    refine takeC 11 (by kernel_rfl) rfl (fun K hK => ?_)
    go_simp
    refine (l2Plain_any _ s.pol _ h30 hz (by exact h1d.below hB2)).mono ?_; rintro e w3 ⟨v3, rfl, o3, hB3⟩; obtain ⟨a3, k3, rfl⟩ := ownsRow_len o3; have hc3 := fun o => hB3.cell (p := ⟨w.heap.size, o, none⟩) (by exact hlt2); have hlt3 : w.heap.size < w3.heap.size := Nat.lt_of_lt_of_le hlt2 hB3.size
    refine hK.out _ _ ?_ (fun hHeld => ?_)
    · go_keep
    clear hK K
    try simp only [Act.put, List.setIfInBounds_toArray, List.set_cons_zero, List.set_cons_succ]
    refine takeC 14 (by kernel_rfl) rfl (fun K hK => ?_)
    go_simp
    refine (l5SameRules_any _ _ _ s.pol _ hpl (by omega) (RuS.own o3) (by exact (h1d.below hB2).below hB3)).mono ?_; rintro e w4 ⟨he4, hB4⟩; rw [hsm] at he4; subst he4; have hc4 := fun o => hB4.cell (p := ⟨w.heap.size, o, none⟩) (by exact hlt3); have hlt4 : w.heap.size < w4.heap.size := Nat.lt_of_lt_of_le hlt3 hB4.size
    refine hK.out _ _ ?_ (fun hHeld => ?_)
    · go_keep
    clear hK K
    try simp only [Act.put, List.setIfInBounds_toArray, List.set_cons_zero, List.set_cons_succ]
    refine takeW 15 (v := ?v47) rfl (by kernel_rfl) (by kernel_rfl) (by kernel_rfl) (fun _ _ _ h => h) (by rfl) (by assumption) ?hy47 ?rest47
    case hy47 => intro w' hSw; (try dsimp only at hSw); go_simp; try with_reducible rfl
    try simp only [Act.put, List.setIfInBounds_toArray, List.set_cons_zero, List.set_cons_succ]
    refine takeW 16 (v := ?v48) rfl (by kernel_rfl) (by kernel_rfl) (by kernel_rfl) (fun _ _ _ h => h) (by rfl) (by assumption) ?hy48 ?rest48
    case hy48 => intro w' hSw; (try dsimp only at hSw); go_simp; try with_reducible rfl
    try simp only [Act.put, List.setIfInBounds_toArray, List.set_cons_zero, List.set_cons_succ]
    refine takeW 17 (v := ?v49) rfl (by kernel_rfl) (by kernel_rfl) (by kernel_rfl) (fun _ _ _ h => h) (by rfl) (by assumption) ?hy49 ?rest49
    case hy49 => intro w' hSw; (try dsimp only at hSw); go_simp; try with_reducible rfl
    try simp only [Act.put, List.setIfInBounds_toArray, List.set_cons_zero, List.set_cons_succ]
    refine takeW 18 (v := ?v50) rfl (by kernel_rfl) (by kernel_rfl) (by kernel_rfl) (fun _ _ _ h => h) (by rfl) (by assumption) ?hy50 ?rest50
    case hy50 => intro w' hSw; (try dsimp only at hSw); go_simp; try with_reducible rfl
    try simp only [Act.put, List.setIfInBounds_toArray, List.set_cons_zero, List.set_cons_succ]
    refine takeC 19 (by kernel_rfl) rfl (fun K hK => ?_)
    go_simp
    refine (l5Rising_any _ s.rv _ (by omega) (by exact ((h2d.below hB2).below hB3).below hB4)).mono ?_; rintro e w5 ⟨he5, rfl⟩; rw [hri] at he5; subst he5
    refine hK.out _ _ ?_ (fun hHeld => ?_)
    · go_keep
    clear hK K
    try simp only [Act.put, List.setIfInBounds_toArray, List.set_cons_zero, List.set_cons_succ]
    refine takeW 20 (v := ?v51) rfl (by kernel_rfl) (by kernel_rfl) (by kernel_rfl) (fun _ _ _ h => h) (by rfl) (by assumption) ?hy51 ?rest51
    case hy51 => intro w' hSw; (try dsimp only at hSw); go_simp; try with_reducible rfl
    try simp only [Act.put, List.setIfInBounds_toArray, List.set_cons_zero, List.set_cons_succ]
    refine takeW 21 (v := ?v52) rfl (by kernel_rfl) (by kernel_rfl) (by kernel_rfl) (fun _ _ _ h => h) (by rfl) (by assumption) ?hy52 ?rest52
    case hy52 => intro w' hSw; (try dsimp only at hSw); go_simp; try with_reducible rfl
    try simp only [Act.put, List.setIfInBounds_toArray, List.set_cons_zero, List.set_cons_succ]
    refine wpAnyH_done (by kernel_rfl) ?_ _
    go_wp2_with fail
    go_ret
    exact ⟨ret_bool HR.out.symm, below_one hB0 (below_drew1 (below_one (below_one hB2 hB3) hB4))⟩
  have HR := hid (show snB s = true by unfold riB at hri; rw [Bool.and_eq_true] at hri; exact snB_yes HN.out hpo (by rw [plX_yes hpo]; exact hsm) hri.1 hri.2)
  go_enter Tryz.func63, Tryz.ntmps63
  go_wp2_with fail
  generalize w.alloc (.cells #[.int .i64 s.num, .slice ap s.pol.length cp, .slice ar s.rv.length cr] 40) = W0 at *
  refine wp_region_held_drew (S := fun w' => w'.cell? ⟨w.heap.size, 0, none⟩ = some (.int .i64 s.num) ∧ w'.cell? ⟨w.heap.size, 1, none⟩ = some (.slice ap s.pol.length cp) ∧ w'.cell? ⟨w.heap.size, 2, none⟩ = some (.slice ar s.rv.length cr)) (by kernel_rfl) ?_ (fun hHeld => ?_)
  · go_keep
  refine takeW 0 (v := ?v53) rfl (by kernel_rfl) (by kernel_rfl) (by kernel_rfl) (fun _ _ _ h => h) (by rfl) (by assumption) ?hy53 ?rest53
  case hy53 => intro w' hSw; (try dsimp only at hSw); go_simp; try with_reducible rfl
  try simp only [Act.put, List.setIfInBounds_toArray, List.set_cons_zero, List.set_cons_succ]
  refine takeW 1 (v := ?v54) rfl (by kernel_rfl) (by kernel_rfl) (by kernel_rfl) (fun _ _ _ h => h) (by rfl) (by assumption) ?hy54 ?rest54
  case hy54 => intro w' hSw; (try dsimp only at hSw); go_simp; try with_reducible rfl
  try simp only [Act.put, List.setIfInBounds_toArray, List.set_cons_zero, List.set_cons_succ]
  refine takeC 2 (by kernel_rfl) rfl (fun K hK => ?_)
  go_simp
  refine (l1In_any s.num 1 100000 _).mono ?_; rintro e w1 ⟨he1, rfl⟩; rw [hin] at he1; subst he1
  refine hK.out _ _ ?_ (fun hHeld => ?_)
  · go_keep
  clear hK K
  try simp only [Act.put, List.setIfInBounds_toArray, List.set_cons_zero, List.set_cons_succ]
  refine takeW 3 (v := ?v55) rfl (by kernel_rfl) (by kernel_rfl) (by kernel_rfl) (fun _ _ _ h => h) (by rfl) (by assumption) ?hy55 ?rest55
  case hy55 => intro w' hSw; (try dsimp only at hSw); go_simp; try with_reducible rfl
  try simp only [Act.put, List.setIfInBounds_toArray, List.set_cons_zero, List.set_cons_succ]
  refine takeW 4 (v := ?v56) rfl (by kernel_rfl) (by kernel_rfl) (by kernel_rfl) (fun _ _ _ h => h) (by rfl) (by assumption) ?hy56 ?rest56
  case hy56 => intro w' hSw; (try dsimp only at hSw); go_simp; try with_reducible rfl
  try simp only [Act.put, List.setIfInBounds_toArray, List.set_cons_zero, List.set_cons_succ]
  refine takeW 5 (v := ?v57) rfl (by kernel_rfl) (by kernel_rfl) (by kernel_rfl) (fun _ _ _ h => h) (by rfl) (by assumption) ?hy57 ?rest57
  case hy57 => intro w' hSw; (try dsimp only at hSw); go_simp; try with_reducible rfl
  try simp only [Act.put, List.setIfInBounds_toArray, List.set_cons_zero, List.set_cons_succ]
  refine takeC 6 (by kernel_rfl) rfl (fun K hK => ?_)
  go_simp
  refine (l2Good_any _ s.pol _ (by omega) hz (by exact h1d)).mono ?_; rintro e w2 ⟨he2, hB2⟩; rw [hpo] at he2; subst he2; have hc2 := fun o => hB2.cell (p := ⟨w.heap.size, o, none⟩) (by exact hlt0); have hlt2 : w.heap.size < w2.heap.size := Nat.lt_of_lt_of_le hlt0 hB2.size
  refine hK.out _ _ ?_ (fun hHeld => ?_)
  · go_keep
  clear hK K
  try simp only [Act.put, List.setIfInBounds_toArray, List.set_cons_zero, List.set_cons_succ]
  refine takeW 7 (v := ?v58) rfl (by kernel_rfl) (by kernel_rfl) (by kernel_rfl) (fun _ _ _ h => h) (by rfl) (by assumption) ?hy58 ?rest58
  case hy58 => intro w' hSw; (try dsimp only at hSw); go_simp; try with_reducible rfl
  try simp only [Act.put, List.setIfInBounds_toArray, List.set_cons_zero, List.set_cons_succ]
  refine takeW 8 (v := ?v59) rfl (by kernel_rfl) (by kernel_rfl) (by kernel_rfl) (fun _ _ _ h => h) (by rfl) (by assumption) ?hy59 ?rest59
  case hy59 => intro w' hSw; (try dsimp only at hSw); go_simp; try with_reducible rfl
  try simp only [Act.put, List.setIfInBounds_toArray, List.set_cons_zero, List.set_cons_succ]
  refine takeW 9 (v := ?v60) rfl (by kernel_rfl) (by kernel_rfl) (by kernel_rfl) (fun _ _ _ h => h) (by rfl) (by assumption) ?hy60 ?rest60
  case hy60 => intro w' hSw; (try dsimp only at hSw); go_simp; try with_reducible rfl
  try simp only [Act.put, List.setIfInBounds_toArray, List.set_cons_zero, List.set_cons_succ]
  refine takeW 10 (v := ?v61) rfl (by kernel_rfl) (by kernel_rfl) (by kernel_rfl) (fun _ _ _ h => h) (by rfl) (by assumption) ?hy61 ?rest61
  case hy61 => intro w' hSw; (try dsimp only at hSw); go_simp; try with_reducible rfl
  try simp only [Act.put, List.setIfInBounds_toArray, List.set_cons_zero, List.set_cons_succ]
  refine takeW 12 (v := ?v62) rfl (by kernel_rfl) (by kernel_rfl) (by kernel_rfl) (fun _ _ _ h => h) (by rfl) (by assumption) ?hy62 ?rest62
  case hy62 => intro w' hSw; (try dsimp only at hSw); go_simp; try with_reducible rfl
  try simp only [Act.put, List.setIfInBounds_toArray, List.set_cons_zero, List.set_cons_succ]
  refine takeW 13 (v := ?v63) rfl (by kernel_rfl) (by kernel_rfl) (by kernel_rfl) (fun _ _ _ h => h) (by rfl) (by assumption) ?hy63 ?rest63
  case hy63 => intro w' hSw; (try dsimp only at hSw); go_simp; try with_reducible rfl
  try simp only [Act.put, List.setIfInBounds_toArray, List.set_cons_zero, List.set_cons_succ]
  refine takeC 11 (by kernel_rfl) rfl (fun K hK => ?_)
  go_simp
  refine (l2Plain_any _ s.pol _ h30 hz (by exact h1d.below hB2)).mono ?_; rintro e w3 ⟨v3, rfl, o3, hB3⟩; obtain ⟨a3, k3, rfl⟩ := ownsRow_len o3; have hc3 := fun o => hB3.cell (p := ⟨w.heap.size, o, none⟩) (by exact hlt2); have hlt3 : w.heap.size < w3.heap.size := Nat.lt_of_lt_of_le hlt2 hB3.size
  refine hK.out _ _ ?_ (fun hHeld => ?_)
  · go_keep
  clear hK K
  try simp only [Act.put, List.setIfInBounds_toArray, List.set_cons_zero, List.set_cons_succ]
  refine takeC 14 (by kernel_rfl) rfl (fun K hK => ?_)
  go_simp
  refine (l5SameRules_any _ _ _ s.pol _ hpl (by omega) (RuS.own o3) (by exact (h1d.below hB2).below hB3)).mono ?_; rintro e w4 ⟨he4, hB4⟩; rw [hsm] at he4; subst he4; have hc4 := fun o => hB4.cell (p := ⟨w.heap.size, o, none⟩) (by exact hlt3); have hlt4 : w.heap.size < w4.heap.size := Nat.lt_of_lt_of_le hlt3 hB4.size
  refine hK.out _ _ ?_ (fun hHeld => ?_)
  · go_keep
  clear hK K
  try simp only [Act.put, List.setIfInBounds_toArray, List.set_cons_zero, List.set_cons_succ]
  refine takeW 15 (v := ?v64) rfl (by kernel_rfl) (by kernel_rfl) (by kernel_rfl) (fun _ _ _ h => h) (by rfl) (by assumption) ?hy64 ?rest64
  case hy64 => intro w' hSw; (try dsimp only at hSw); go_simp; try with_reducible rfl
  try simp only [Act.put, List.setIfInBounds_toArray, List.set_cons_zero, List.set_cons_succ]
  refine takeW 16 (v := ?v65) rfl (by kernel_rfl) (by kernel_rfl) (by kernel_rfl) (fun _ _ _ h => h) (by rfl) (by assumption) ?hy65 ?rest65
  case hy65 => intro w' hSw; (try dsimp only at hSw); go_simp; try with_reducible rfl
  try simp only [Act.put, List.setIfInBounds_toArray, List.set_cons_zero, List.set_cons_succ]
  refine takeW 17 (v := ?v66) rfl (by kernel_rfl) (by kernel_rfl) (by kernel_rfl) (fun _ _ _ h => h) (by rfl) (by assumption) ?hy66 ?rest66
  case hy66 => intro w' hSw; (try dsimp only at hSw); go_simp; try with_reducible rfl
  try simp only [Act.put, List.setIfInBounds_toArray, List.set_cons_zero, List.set_cons_succ]
  refine takeW 18 (v := ?v67) rfl (by kernel_rfl) (by kernel_rfl) (by kernel_rfl) (fun _ _ _ h => h) (by rfl) (by assumption) ?hy67 ?rest67
  case hy67 => intro w' hSw; (try dsimp only at hSw); go_simp; try with_reducible rfl
  try simp only [Act.put, List.setIfInBounds_toArray, List.set_cons_zero, List.set_cons_succ]
  refine takeC 19 (by kernel_rfl) rfl (fun K hK => ?_)
  go_simp
  refine (l5Rising_any _ s.rv _ (by omega) (by exact ((h2d.below hB2).below hB3).below hB4)).mono ?_; rintro e w5 ⟨he5, rfl⟩; rw [hri] at he5; subst he5
  refine hK.out _ _ ?_ (fun hHeld => ?_)
  · go_keep
  clear hK K
  try simp only [Act.put, List.setIfInBounds_toArray, List.set_cons_zero, List.set_cons_succ]
  refine takeW 20 (v := ?v68) rfl (by kernel_rfl) (by kernel_rfl) (by kernel_rfl) (fun _ _ _ h => h) (by rfl) (by assumption) ?hy68 ?rest68
  case hy68 => intro w' hSw; (try dsimp only at hSw); go_simp; try with_reducible rfl
  try simp only [Act.put, List.setIfInBounds_toArray, List.set_cons_zero, List.set_cons_succ]
  refine takeW 21 (v := ?v69) rfl (by kernel_rfl) (by kernel_rfl) (by kernel_rfl) (fun _ _ _ h => h) (by rfl) (by assumption) ?hy69 ?rest69
  case hy69 => intro w' hSw; (try dsimp only at hSw); go_simp; try with_reducible rfl
  try simp only [Act.put, List.setIfInBounds_toArray, List.set_cons_zero, List.set_cons_succ]
  refine wpAnyH_done (by kernel_rfl) ?_ _
  go_wp2_with fail
  go_ret
  exact ⟨ret_bool HR.out.symm, below_one hB0 (below_drew1 (below_one (below_one hB2 hB3) hB4))⟩

end Go.Proofs.YtnbojbcljfiamaaGreatDoor

namespace Go.Proofs.YtnbojbcljfiamaaGreatDoor
open Go.RowKit Go.Shelf

set_option maxHeartbeats 1000000 in
theorem l1Has_any (v : Value) (zs : List Int) (z : Int) (w : World) (hm : zs.length ≤ 1048577) (hr : VS w v (nums zs)) :
    Calls Tryz.prog 135 #[v, .int .i64 z] w fun e w' => e = .returned (.bool (isI zs z)) ∧ w' = w := by
  obtain ⟨a, cap, rfl⟩ := hr.numLen
  go_enter Tryz.func135, Tryz.ntmps135
  go_wp2
  go_loop [9] (fun i => ∃ n : Nat, n ≤ zs.length ∧ i = .int .i64 n ∧ isTo zs z n = false) (fun i => zs.length - (intOf i).toNat)
  case atStart => exact ⟨0, Nat.zero_le _, rfl, isTo_zero _ _⟩
  case round =>
    obtain ⟨n, hn, rfl, ht⟩ := hrel
    have HT := hid ht
    clear ht
    by_cases hlt : n < zs.length
    · obtain ⟨b, off, rfl, hb, hcap, q0⟩ := hr.num hlt
      have HS := hid (isTo_succ (z := z) hlt)
      have HY := hid (fun h => isI_yes (z := z) hlt h)
      generalize zs[n] = x at *
      cases he : (x == z)
      · have HR := hid (show isTo zs z (n + 1) = false by rw [HS.out, HT.out, he]; rfl)
        go_wp2
        exact ⟨⟨n + 1, by omega, by go_num, HR.out⟩, by simp [intOf]; omega⟩
      · have HR := hid (HY.out he)
        go_wp2
        go_ret
        exact ⟨ret_bool HR.out.symm, rfl⟩
    · obtain rfl : n = zs.length := by omega
      have HR := hid (show isI zs z = false by rw [← isI_end, HT.out])
      go_wp2
      go_ret
      exact ⟨ret_bool HR.out.symm, rfl⟩

theorem contains_isI (zs : List Int) (z : Int) : zs.contains z = isI zs z := by
  rw [Bool.eq_iff_iff]
  unfold isI
  rw [List.any_eq_true, List.contains_iff_mem]
  constructor
  · intro h
    exact ⟨z, h, by simp⟩
  · rintro ⟨x, hx, he⟩
    have : x = z := by simpa using he
    rw [← this]
    exact hx

theorem contI_any (v : Value) (zs : List Int) (z : Int) (w : World) (hm : zs.length ≤ 1048577) (hr : VS w v (nums zs)) :
    Calls Tryz.prog 117 #[v, .int .i64 z] w fun e w' => e = .returned (.bool (isI zs z)) ∧ w' = w := by
  rcases hr with ⟨a, cap, rfl, h0⟩ | ⟨b, off, cap, rfl, hb, hl, hc⟩
  · have : zs = [] := by simpa [nums] using h0
    subst this
    exact Any.slices_Contains_int_empty Tryz.lays107 a cap z w
  · have h := Any.slices_Contains_int Tryz.lays107 b off zs.length cap zs z w (Nat.le_refl _) (by omega) (fun j hj => by
      have := hc j (by rw [nums_len]; exact hj)
      rw [this]
      simp [nums, hj])
    rw [List.take_length, contains_isI] at h
    rw [nums_len]
    exact h

end Go.Proofs.YtnbojbcljfiamaaGreatDoor

namespace Go.Proofs.YtnbojbcljfiamaaGreatDoor
open Go.RowKit Go.Shelf

instance : Inhabited Ru := ⟨⟨false, ByteArray.empty, ByteArray.empty, ByteArray.empty⟩⟩
theorem eqAt_ru : EqlAt Tryz.prog 122 (fun r : Ru => .agg r.cells.toArray) Ru.same := ⟨fun x y w => eql_ru x y w, GuardAt.agg _ (by kernel_rfl)⟩
theorem neAt_ru : NeqAt Tryz.prog 122 (fun r : Ru => .agg r.cells.toArray) Ru.same := ⟨fun x y w => neq_ru x y w, GuardAt.agg _ (by kernel_rfl)⟩
theorem allEq_same : ∀ rs ss : List Ru, Lib.allEq Ru.same rs ss = sameS rs ss
  | [], [] => rfl
  | [], s :: ss => by simp [Lib.allEq, sameS]
  | r :: rs, [] => by simp [Lib.allEq, sameS]
  | r :: rs, s :: ss => by
    rw [Lib.allEq, allEq_same rs ss]
    unfold sameS
    simp only [List.length_cons, List.zip_cons_cons, List.all_cons]
    by_cases h : rs.length = ss.length
    · rw [decide_eq_true h, decide_eq_true (by omega)]
      simp
    · rw [decide_eq_false h, decide_eq_false (by omega)]
      simp
theorem cells_at {w : World} {b off : Nat} {rs : List Ru} (hc : ∀ k (h : k < rs.length), RuAt w b (off + k * 4) rs[k]) : ∀ j, j < rs.length → ∀ i v, (Ru.cells rs[j]!)[i]? = some v → w.cell? ⟨b, off + j * 4 + i, none⟩ = some v := by
  intro j hj i v hv
  have e : rs[j]! = rs[j] := by simp [getElem!_def, List.getElem?_eq_getElem hj]
  rw [e] at hv
  obtain ⟨h0, h1, h2, h3⟩ := hc j hj
  have hi : i < 4 := by
    have := (List.getElem?_eq_some_iff.1 hv).1
    simpa using this
  obtain rfl | rfl | rfl | rfl : i = 0 ∨ i = 1 ∨ i = 2 ∨ i = 3 := by omega
  · simp at hv; rw [← hv]; exact h0
  · simp at hv; rw [← hv]; exact h1
  · simp at hv; rw [← hv]; exact h2
  · simp at hv; rw [← hv]; exact h3
theorem same_len {rs ss : List Ru} (h : rs.length ≠ ss.length) : sameS rs ss = false := by
  unfold sameS
  rw [decide_eq_false h]
  rfl

set_option maxHeartbeats 1000000 in
/-- No rules, held against some: by their number alone. -/
theorem equalRu_nil (a a' : Option Addr) (n c c' : Nat) (w : World) (hn : n ≤ 1048577) :
    Calls Tryz.prog 138 #[.slice a 0 c, .slice a' n c'] w fun e w' => e = .returned (.bool (decide (n = 0))) ∧ w' = w := by
  by_cases h : n = 0
  · subst h
    go_enter Tryz.func138, Tryz.ntmps138
    go_wp2
    refine wp_loop_rounds 1 ?_
    rw [rounds_succ]
    go_wp2
    go_ret
    exact ⟨rfl, rfl⟩
  · have e0 : ((0 : Int) != (n : Int)) = true := by simp; omega
    go_enter Tryz.func138, Tryz.ntmps138
    go_wp2
    go_ret
    exact ⟨by simp [h], rfl⟩

set_option maxHeartbeats 1000000 in
theorem equalRu_other (a a' : Option Addr) (n m c c' : Nat) (w : World) (_hn : n ≤ 1048577) (_hm : m ≤ 1048577) (hne : n ≠ m) :
    Calls Tryz.prog 138 #[.slice a n c, .slice a' m c'] w fun e w' => e = .returned (.bool false) ∧ w' = w := by
  have e0 : ((n : Int) != (m : Int)) = true := by simp; omega
  go_enter Tryz.func138, Tryz.ntmps138
  go_wp2
  go_ret
  exact ⟨rfl, rfl⟩

theorem equalRu_any (v v' : Value) (rs ss : List Ru) (w : World) (hm : rs.length ≤ 1048577) (hm' : ss.length ≤ 1048577) (hr : RuR w v rs) (hr' : RuR w v' ss) :
    Calls Tryz.prog 138 #[v, v'] w fun e w' => e = .returned (.bool (sameS rs ss)) ∧ Below w.heap.size w w' := by
  by_cases hl : rs.length = ss.length
  · rcases hr with ⟨rfl, rfl⟩ | ⟨b, off, cap, rfl, hb, hle, hc⟩
    · have h0 : ss = [] := List.eq_nil_of_length_eq_zero hl.symm
      subst h0
      obtain ⟨a', c', rfl⟩ := hr'.len
      refine (equalRu_nil none a' 0 0 c' w (by omega)).mono ?_
      rintro e w1 ⟨rfl, rfl⟩
      exact ⟨rfl, Below.refl _ _⟩
    · rcases hr' with ⟨rfl, rfl⟩ | ⟨b', off', cap', rfl, hb', hle', hc'⟩
      · have h0 : rs = [] := List.eq_nil_of_length_eq_zero hl
        subst h0
        refine (equalRu_nil _ none 0 cap 0 w (by omega)).mono ?_
        rintro e w1 ⟨rfl, rfl⟩
        exact ⟨rfl, Below.refl _ _⟩
      · have h := AnyQ.slices_Equal Tryz.equalRu 4 Tryz.isAgg122 Tryz.sizeOf122 Ru.cells (fun _ => rfl) Ru.same neAt_ru b off rs.length cap b' off' ss.length cap' rs ss w (Nat.le_refl _) (Nat.le_refl _) (by omega) (by omega) (cells_at hc) (cells_at hc')
        refine h.mono ?_
        rintro e w1 ⟨rfl, q, rfl⟩
        rw [List.take_length, List.take_length, allEq_same]
        exact ⟨rfl, below_drewn (Below.refl _ _) q⟩
  · obtain ⟨a, c, rfl⟩ := hr.len
    obtain ⟨a', c', rfl⟩ := hr'.len
    refine (equalRu_other a a' _ _ c c' w hm hm' hl).mono ?_
    rintro e w1 ⟨rfl, rfl⟩
    rw [same_len hl]
    exact ⟨rfl, Below.refl _ _⟩

theorem cloneRu_any (v : Value) (rs : List Ru) (w : World) (hm : rs.length ≤ 1048577) (hr : RuR w v rs) :
    Calls Tryz.prog 164 #[v] w fun e w' => ∃ v', e = .returned v' ∧ w'.ownsRow w.heap.size 122 4 v' rs.length (rs.flatMap Ru.cells) ∧ (v = .slice none 0 0 ∨ v' ≠ .slice none 0 0) ∧ Below w.heap.size w w' := by
  rcases hr with ⟨rfl, rfl⟩ | ⟨b, off, cap, rfl, hb, hle, hc⟩
  · refine (cloneRules_nil 0 0 w).mono ?_
    rintro e w1 ⟨rfl, rfl⟩
    exact ⟨_, rfl, World.ownsRow_nil _ _ _ _, .inl rfl, Below.refl _ _⟩
  · obtain ⟨i0, hi, hz0, hz1, hz2⟩ := info_parts infoRule
    refine (AnyE.slices_Clone Tryz.cloneRu i0 _ 4 56 hi hz0 hz1 hz2 rfl (by decide) Tryz.sizeOf122 b off rs.length cap (rs.flatMap Ru.cells) w (flat_len rs) (by unfold maxLen; omega) (by omega) (RuR.flat hc) cells_one).mono ?_
    rintro e w1 ⟨v', rfl, h1, h2, h3⟩
    exact ⟨v', rfl, h1, .inr h2, h3⟩

end Go.Proofs.YtnbojbcljfiamaaGreatDoor

namespace Go.Proofs.YtnbojbcljfiamaaGreatDoor
open Go.RowKit Go.Shelf

theorem itself_any (n : Int) (w : World) :
    Calls Tryz.prog 141 #[.int .i64 n] w fun e w' => e = .returned (.int .i64 n) ∧ w' = w := by
  go_enter Tryz.func141, Tryz.ntmps141
  go_wp2
  go_ret
  exact ⟨rfl, rfl⟩

set_option maxHeartbeats 2000000 in
set_option maxRecDepth 100000 in
theorem risingN_any (v : Value) (zs : List Int) (w : World) (hm : zs.length ≤ 1048577) (hr : VS w v (nums zs)) :
    Calls Tryz.prog 140 #[v, .func (.func 141) #[] #[]] w fun e w' => e = .returned (.bool (upN zs)) ∧ Below w.heap.size w w' := by
  obtain ⟨a, cap, rfl⟩ := hr.numLen
  go_enter Tryz.func140, Tryz.ntmps140
  go_wp2
  go_loopw [5] (fun i wr => ∃ m : Nat, (m ≤ zs.length ∨ m = 1) ∧ 1 ≤ m ∧ i = .int .i64 m ∧ (∀ j, j < m → upI zs j = true) ∧ Below w.heap.size w wr) (fun i _ => zs.length - (intOf i).toNat)
  case atStart => exact ⟨1, .inr rfl, Nat.le_refl _, rfl, fun j hj => (by obtain rfl : j = 0 := Nat.lt_one_iff.1 hj; rfl), Below.refl _ _⟩
  case round =>
    obtain ⟨m, hm2, hm1, rfl, hu, hB⟩ := hrel
    have HU := hid hu
    clear hu
    obtain ⟨n, hn⟩ : ∃ n, m = n + 1 := ⟨m - 1, by omega⟩
    by_cases hlt : m < zs.length
    · obtain ⟨b, off, rfl, hb, hcap, q0⟩ := (hr.below hB).num hlt
      obtain ⟨b', off', hbo, _, _, p0⟩ := (hr.below hB).num (i := n) (by omega)
      cases hbo
      have HS := hid (show upI zs m = decide ((zs[n]'(by omega)) < zs[m]) by subst hn; exact upI_succ hlt)
      have HN := hid (fun h => upN_no (zs := zs) (i := m) hlt h)
      have hw1 : IntKind.i64.wrap ((m : Int) - 1) = (n : Int) := by rw [IntKind.wrap_i64]; omega
      have hl1 : (m : Int) < (zs.length : Int) := by omega
      have hl2 : (n : Int) < (zs.length : Int) := by omega
      generalize zs[m] = k at *
      generalize zs[n] = p at *
      clear hn
      by_cases hc : k ≤ p
      · have HR := hid (HN.out (by rw [HS.out]; exact decide_eq_false (by omega)))
        have dc : decide (k ≤ p) = true := decide_eq_true hc
        go_wp2_with fail
        refine wp_region_held_drew (S := fun w' => w'.cell? ⟨b, off + m, none⟩ = some (.int .i64 k) ∧ w'.cell? ⟨b, off + n, none⟩ = some (.int .i64 p)) (by kernel_rfl) ?_ (fun hHeld => ?_)
        · go_keep
        refine takeW 0 (v := ?v25) rfl (by kernel_rfl) (by kernel_rfl) (by kernel_rfl) (fun _ _ _ h => h) (by rfl) (by assumption) ?hy25 ?rest25
        case hy25 => intro w' hSw; (try dsimp only at hSw); go_simp; try with_reducible rfl
        try simp only [Act.put, List.setIfInBounds_toArray, List.set_cons_zero, List.set_cons_succ]
        refine takeW 1 (v := ?v26) rfl (by kernel_rfl) (by kernel_rfl) (by kernel_rfl) (fun _ _ _ h => h) (by rfl) (by assumption) ?hy26 ?rest26
        case hy26 => intro w' hSw; (try dsimp only at hSw); go_simp; try with_reducible rfl
        try simp only [Act.put, List.setIfInBounds_toArray, List.set_cons_zero, List.set_cons_succ]
        refine takeW 2 (v := ?v27) rfl (by kernel_rfl) (by kernel_rfl) (by kernel_rfl) (fun _ _ _ h => h) (by rfl) (by assumption) ?hy27 ?rest27
        case hy27 => intro w' hSw; (try dsimp only at hSw); go_simp; try with_reducible rfl
        try simp only [Act.put, List.setIfInBounds_toArray, List.set_cons_zero, List.set_cons_succ]
        refine takeW 3 (v := ?v28) rfl (by kernel_rfl) (by kernel_rfl) (by kernel_rfl) (fun _ _ _ h => h) (by rfl) (by assumption) ?hy28 ?rest28
        case hy28 => intro w' hSw; (try dsimp only at hSw); go_simp; try with_reducible rfl
        try simp only [Act.put, List.setIfInBounds_toArray, List.set_cons_zero, List.set_cons_succ]
        refine takeW 4 (v := ?v29) rfl (by kernel_rfl) (by kernel_rfl) (by kernel_rfl) (fun _ _ _ h => h) (by rfl) (by assumption) ?hy29 ?rest29
        case hy29 => intro w' hSw; (try dsimp only at hSw); go_simp; try with_reducible rfl
        try simp only [Act.put, List.setIfInBounds_toArray, List.set_cons_zero, List.set_cons_succ]
        refine takeW 6 (v := ?v30) rfl (by kernel_rfl) (by kernel_rfl) (by kernel_rfl) (fun _ _ _ h => h) (by rfl) (by assumption) ?hy30 ?rest30
        case hy30 => intro w' hSw; (try dsimp only at hSw); go_simp; try with_reducible rfl
        try simp only [Act.put, List.setIfInBounds_toArray, List.set_cons_zero, List.set_cons_succ]
        refine takeW 7 (v := ?v31) rfl (by kernel_rfl) (by kernel_rfl) (by kernel_rfl) (fun _ _ _ h => h) (by rfl) (by assumption) ?hy31 ?rest31
        case hy31 => intro w' hSw; (try dsimp only at hSw); go_simp; try with_reducible rfl
        try simp only [Act.put, List.setIfInBounds_toArray, List.set_cons_zero, List.set_cons_succ]
        refine takeW 8 (v := ?v32) rfl (by kernel_rfl) (by kernel_rfl) (by kernel_rfl) (fun _ _ _ h => h) (by rfl) (by assumption) ?hy32 ?rest32
        case hy32 => intro w' hSw; (try dsimp only at hSw); go_simp; try with_reducible rfl
        try simp only [Act.put, List.setIfInBounds_toArray, List.set_cons_zero, List.set_cons_succ]
        refine takeW 9 (v := ?v33) rfl (by kernel_rfl) (by kernel_rfl) (by kernel_rfl) (fun _ _ _ h => h) (by rfl) (by assumption) ?hy33 ?rest33
        case hy33 => intro w' hSw; (try dsimp only at hSw); go_simp; try with_reducible rfl
        try simp only [Act.put, List.setIfInBounds_toArray, List.set_cons_zero, List.set_cons_succ]
        refine takeW 10 (v := ?v34) rfl (by kernel_rfl) (by kernel_rfl) (by kernel_rfl) (fun _ _ _ h => h) (by rfl) (by assumption) ?hy34 ?rest34
        case hy34 => intro w' hSw; (try dsimp only at hSw); go_simp; try with_reducible rfl
        try simp only [Act.put, List.setIfInBounds_toArray, List.set_cons_zero, List.set_cons_succ]
        refine takeW 11 (v := ?v35) rfl (by kernel_rfl) (by kernel_rfl) (by kernel_rfl) (fun _ _ _ h => h) (by rfl) (by assumption) ?hy35 ?rest35
        case hy35 => intro w' hSw; (try dsimp only at hSw); go_simp; try with_reducible rfl
        try simp only [Act.put, List.setIfInBounds_toArray, List.set_cons_zero, List.set_cons_succ]
        refine takeC 5 (by kernel_rfl) rfl (fun K hK => ?_)
        go_simp
        refine (itself_any k _).mono ?_; rintro e w1 ⟨rfl, rfl⟩
        refine hK.out _ _ ?_ (fun hHeld => ?_)
        · go_keep
        clear hK K
        try simp only [Act.put, List.setIfInBounds_toArray, List.set_cons_zero, List.set_cons_succ]
        refine takeC 12 (by kernel_rfl) rfl (fun K hK => ?_)
        go_simp
        refine (itself_any p _).mono ?_; rintro e w2 ⟨rfl, rfl⟩
        refine hK.out _ _ ?_ (fun hHeld => ?_)
        · go_keep
        clear hK K
        try simp only [Act.put, List.setIfInBounds_toArray, List.set_cons_zero, List.set_cons_succ]
        refine takeW 13 (v := ?v36) rfl (by kernel_rfl) (by kernel_rfl) (by kernel_rfl) (fun _ _ _ h => h) (by rfl) (by assumption) ?hy36 ?rest36
        case hy36 => intro w' hSw; (try dsimp only at hSw); go_simp; try with_reducible rfl
        try simp only [Act.put, List.setIfInBounds_toArray, List.set_cons_zero, List.set_cons_succ]
        refine wpAnyH_done (by kernel_rfl) ?_ _
        all_goals go_wp2
        all_goals go_ret
        all_goals exact ⟨ret_bool HR.out.symm, below_one hB (Below.refl _ wr).drew⟩
      · have HR := hid (show ∀ j, j < m + 1 → upI zs j = true from fun j hj => (by
          by_cases e : j = m
          · subst e
            rw [HS.out]
            exact decide_eq_true (by omega)
          · exact HU.out j (by omega)))
        have dc : decide (k ≤ p) = false := decide_eq_false hc
        go_wp2_with fail
        refine wp_region_held_drew (S := fun w' => w'.cell? ⟨b, off + m, none⟩ = some (.int .i64 k) ∧ w'.cell? ⟨b, off + n, none⟩ = some (.int .i64 p)) (by kernel_rfl) ?_ (fun hHeld => ?_)
        · go_keep
        refine takeW 0 (v := ?v37) rfl (by kernel_rfl) (by kernel_rfl) (by kernel_rfl) (fun _ _ _ h => h) (by rfl) (by assumption) ?hy37 ?rest37
        case hy37 => intro w' hSw; (try dsimp only at hSw); go_simp; try with_reducible rfl
        try simp only [Act.put, List.setIfInBounds_toArray, List.set_cons_zero, List.set_cons_succ]
        refine takeW 1 (v := ?v38) rfl (by kernel_rfl) (by kernel_rfl) (by kernel_rfl) (fun _ _ _ h => h) (by rfl) (by assumption) ?hy38 ?rest38
        case hy38 => intro w' hSw; (try dsimp only at hSw); go_simp; try with_reducible rfl
        try simp only [Act.put, List.setIfInBounds_toArray, List.set_cons_zero, List.set_cons_succ]
        refine takeW 2 (v := ?v39) rfl (by kernel_rfl) (by kernel_rfl) (by kernel_rfl) (fun _ _ _ h => h) (by rfl) (by assumption) ?hy39 ?rest39
        case hy39 => intro w' hSw; (try dsimp only at hSw); go_simp; try with_reducible rfl
        try simp only [Act.put, List.setIfInBounds_toArray, List.set_cons_zero, List.set_cons_succ]
        refine takeW 3 (v := ?v40) rfl (by kernel_rfl) (by kernel_rfl) (by kernel_rfl) (fun _ _ _ h => h) (by rfl) (by assumption) ?hy40 ?rest40
        case hy40 => intro w' hSw; (try dsimp only at hSw); go_simp; try with_reducible rfl
        try simp only [Act.put, List.setIfInBounds_toArray, List.set_cons_zero, List.set_cons_succ]
        refine takeW 4 (v := ?v41) rfl (by kernel_rfl) (by kernel_rfl) (by kernel_rfl) (fun _ _ _ h => h) (by rfl) (by assumption) ?hy41 ?rest41
        case hy41 => intro w' hSw; (try dsimp only at hSw); go_simp; try with_reducible rfl
        try simp only [Act.put, List.setIfInBounds_toArray, List.set_cons_zero, List.set_cons_succ]
        refine takeW 6 (v := ?v42) rfl (by kernel_rfl) (by kernel_rfl) (by kernel_rfl) (fun _ _ _ h => h) (by rfl) (by assumption) ?hy42 ?rest42
        case hy42 => intro w' hSw; (try dsimp only at hSw); go_simp; try with_reducible rfl
        try simp only [Act.put, List.setIfInBounds_toArray, List.set_cons_zero, List.set_cons_succ]
        refine takeW 7 (v := ?v43) rfl (by kernel_rfl) (by kernel_rfl) (by kernel_rfl) (fun _ _ _ h => h) (by rfl) (by assumption) ?hy43 ?rest43
        case hy43 => intro w' hSw; (try dsimp only at hSw); go_simp; try with_reducible rfl
        try simp only [Act.put, List.setIfInBounds_toArray, List.set_cons_zero, List.set_cons_succ]
        refine takeW 8 (v := ?v44) rfl (by kernel_rfl) (by kernel_rfl) (by kernel_rfl) (fun _ _ _ h => h) (by rfl) (by assumption) ?hy44 ?rest44
        case hy44 => intro w' hSw; (try dsimp only at hSw); go_simp; try with_reducible rfl
        try simp only [Act.put, List.setIfInBounds_toArray, List.set_cons_zero, List.set_cons_succ]
        refine takeW 9 (v := ?v45) rfl (by kernel_rfl) (by kernel_rfl) (by kernel_rfl) (fun _ _ _ h => h) (by rfl) (by assumption) ?hy45 ?rest45
        case hy45 => intro w' hSw; (try dsimp only at hSw); go_simp; try with_reducible rfl
        try simp only [Act.put, List.setIfInBounds_toArray, List.set_cons_zero, List.set_cons_succ]
        refine takeW 10 (v := ?v46) rfl (by kernel_rfl) (by kernel_rfl) (by kernel_rfl) (fun _ _ _ h => h) (by rfl) (by assumption) ?hy46 ?rest46
        case hy46 => intro w' hSw; (try dsimp only at hSw); go_simp; try with_reducible rfl
        try simp only [Act.put, List.setIfInBounds_toArray, List.set_cons_zero, List.set_cons_succ]
        refine takeW 11 (v := ?v47) rfl (by kernel_rfl) (by kernel_rfl) (by kernel_rfl) (fun _ _ _ h => h) (by rfl) (by assumption) ?hy47 ?rest47
        case hy47 => intro w' hSw; (try dsimp only at hSw); go_simp; try with_reducible rfl
        try simp only [Act.put, List.setIfInBounds_toArray, List.set_cons_zero, List.set_cons_succ]
        refine takeC 5 (by kernel_rfl) rfl (fun K hK => ?_)
        go_simp
        refine (itself_any k _).mono ?_; rintro e w1 ⟨rfl, rfl⟩
        refine hK.out _ _ ?_ (fun hHeld => ?_)
        · go_keep
        clear hK K
        try simp only [Act.put, List.setIfInBounds_toArray, List.set_cons_zero, List.set_cons_succ]
        refine takeC 12 (by kernel_rfl) rfl (fun K hK => ?_)
        go_simp
        refine (itself_any p _).mono ?_; rintro e w2 ⟨rfl, rfl⟩
        refine hK.out _ _ ?_ (fun hHeld => ?_)
        · go_keep
        clear hK K
        try simp only [Act.put, List.setIfInBounds_toArray, List.set_cons_zero, List.set_cons_succ]
        refine takeW 13 (v := ?v48) rfl (by kernel_rfl) (by kernel_rfl) (by kernel_rfl) (fun _ _ _ h => h) (by rfl) (by assumption) ?hy48 ?rest48
        case hy48 => intro w' hSw; (try dsimp only at hSw); go_simp; try with_reducible rfl
        try simp only [Act.put, List.setIfInBounds_toArray, List.set_cons_zero, List.set_cons_succ]
        refine wpAnyH_done (by kernel_rfl) ?_ _
        all_goals go_wp2
        all_goals go_roundw
        all_goals first
          | exact ⟨m + 1, .inl hlt, by omega, by go_num, HR.out, below_one hB (Below.refl _ wr).drew⟩
          | ((repeat apply Exists.intro); exact ⟨⟨m + 1, .inl hlt, by omega, by go_num, HR.out, below_one hB (Below.refl _ wr).drew⟩, rfl⟩)
          | (simp [intOf]; omega)
    · have HR := hid (show upN zs = true from upN_yes fun i hi => HU.out i (by omega))
      have hl1 : ¬ (m : Int) < (zs.length : Int) := by omega
      go_wp2
      go_ret
      exact ⟨ret_bool HR.out.symm, hB⟩

end Go.Proofs.YtnbojbcljfiamaaGreatDoor

namespace Go.Proofs.YtnbojbcljfiamaaGreatDoor
open Go.RowKit Go.Shelf Go.Sort

set_option maxHeartbeats 2000000 in
theorem implPlain_any (v : Value) (rs : List Ru) (w : World) (hm : rs.length ≤ 1048577) (hf : ∀ r ∈ rs, r.size ≤ 1048576) (hr : RuR w v rs) :
    Calls Tryz.prog 137 #[v] w fun e w' => ∃ v', e = .returned (.tuple #[v', .bool (polB rs)]) ∧ w'.ownsRow w.heap.size 122 4 v' (plX rs).length ((plX rs).flatMap Ru.cells) ∧ Below w.heap.size w w' := by
  rcases hr with ⟨rfl, rfl⟩ | ⟨b, off, cap, rfl, hb, hle, hc⟩
  · exact implPlainPolicy_any _ [] w.heap.size w hm hf (World.ownsRow_nil _ _ _ _)
  have hr : RuR w (.slice (some ⟨b, off, none⟩) rs.length cap) rs := .inr ⟨b, off, cap, rfl, hb, hle, hc⟩
  clear hc
  cases hp : polB rs
  · have HX := hid (plX_no hp)
    go_enter Tryz.func137, Tryz.ntmps137
    go_wp2_with fail
    refine (goodPolicy_any _ rs _ hm hf hr.s).mono ?_
    rintro e w1 ⟨rfl, hB1⟩
    rw [hp]
    go_wp2_with fail
    go_ret2
    exact ⟨_, rfl, by rw [HX.out]; exact World.ownsRow_nil _ _ _ _, hB1⟩
  · have HX := hid (plX_yes hp)
    have HG := hid (pol_all hp)
    go_enter Tryz.func137, Tryz.ntmps137
    go_wp2_with fail
    refine (goodPolicy_any _ rs _ hm hf hr.s).mono ?_
    rintro e w1 ⟨rfl, hB1⟩
    rw [hp]
    go_wp2_with fail
    refine (cloneRu_any _ rs _ hm (hr.below hB1)).mono ?_
    rintro e w2 ⟨v2, rfl, hrow2, hnn, hB2⟩
    have hBB2 := below_one hB1 hB2
    rcases row_form hrow2 with ⟨h', _⟩ | ⟨g2, cap2, rfl, hg2, hcap2⟩
    · rcases hnn with hnn | hnn
      · cases hnn
      · exact absurd h' hnn
    · clear hnn
      obtain ⟨l, hl⟩ : ∃ l : List SmR, l.map Subtype.val = rs := ⟨rs.pmap Subtype.mk hf, by simp [List.map_pmap]⟩
      have hll : l.length = rs.length := by rw [← hl, List.length_map]
      have hrow2' : w2.ownsRow w1.heap.size 122 4 (.slice (some ⟨g2, 0, none⟩) l.length cap2) l.length ((l.map Subtype.val).flatMap Ru.cells) := by rw [hl, hll]; exact hrow2
      have hz12 := hB1.size
      clear hr
      go_wp2_with fail
      rw [← hll]
      refine (sortRules_any w1.heap.size g2 cap2 l _ (by omega) hrow2').mono ?_
      rintro e w3 ⟨rfl, ds, hperm, hsort, hrow3, hg3⟩
      have hBB3 : Below w.heap.size w w3 := hBB2.grown hg3 hBB2.size (fun k hk => by cases hk; omega)
      have hdl : (ds.map Subtype.val).length = rs.length := by rw [List.length_map, ← hll]; exact hperm.length_eq
      rw [hll] at hrow3
      have HP := hid (show cpTo (ds.map Subtype.val) rs.length = plTo rs rs.length by
        have := plain_eq (rs := rs) (ds := ds.map Subtype.val) HG.out.1 (by rw [← hl]; exact hperm.map _) (fun i j hi hj => by
          rw [List.getElem_map, List.getElem_map]
          exact hsort i j hi (by rw [List.length_map] at hj; exact hj))
        rw [hdl] at this
        exact this)
      clear hrow2 hrow2' hB1 hB2 hsort hperm
      go_wp2_with fail
      refine (compact_any w1.heap.size g2 cap2 rs.length (ds.map Subtype.val) _ hdl (by omega) hrow3).mono ?_
      rintro e w4 ⟨rfl, hrow4, hg4⟩
      rw [HP.out] at hrow4 ⊢
      have hBB4 : Below w.heap.size w w4 := hBB3.grown hg4 hBB3.size (fun k hk => by cases hk; omega)
      go_wp2_with fail
      go_ret2
      exact ⟨_, rfl, by rw [HX.out]; exact Go.Joins.ownsRow_le hrow4 hz12, hBB4⟩

/-- A number is a serial. -/
def okS (n : Int) : Bool := decide (1 ≤ n ∧ n < 100001)
theorem okSerial_any (n : Int) (w : World) :
    Calls Tryz.prog 110 #[.int .i64 n] w fun e w' => e = .returned (.bool (okS n)) ∧ w' = w := by
  by_cases c1 : 1 ≤ n
  · by_cases c2 : n ≤ 100000
    · have HR := hid (show okS n = true from decide_eq_true (by omega))
      go_enter Tryz.func110, Tryz.ntmps110
      go_wp2
      go_ret
      exact ⟨ret_bool HR.out.symm, rfl⟩
    · have HR := hid (show okS n = false from decide_eq_false (by omega))
      go_enter Tryz.func110, Tryz.ntmps110
      go_wp2
      go_ret
      exact ⟨ret_bool HR.out.symm, rfl⟩
  · have HR := hid (show okS n = false from decide_eq_false (by omega))
    go_enter Tryz.func110, Tryz.ntmps110
    go_wp2
    go_ret
    exact ⟨ret_bool HR.out.symm, rfl⟩

set_option maxHeartbeats 1000000 in
theorem fewSerials_any (v : Value) (zs : List Int) (w : World) (hm : zs.length ≤ 1048577) (hr : VS w v (nums zs)) :
    Calls Tryz.prog 139 #[v] w fun e w' => e = .returned (.bool (fewB zs)) ∧ w' = w := by
  obtain ⟨a, cap, rfl⟩ := hr.numLen
  by_cases h2 : zs.length ≤ 200
  · have HY := hid (fun h => fewB_yes (zs := zs) h2 h)
    have HL := hid h2
    have d0 : ¬ (200 : Int) < (zs.length : Int) := by omega
    go_enter Tryz.func139, Tryz.ntmps139
    go_wp2
    go_loop [10] (fun i => ∃ n : Nat, n ≤ zs.length ∧ i = .int .i64 n ∧ ∀ j (hj : j < zs.length), j < n → 1 ≤ zs[j] ∧ zs[j] < 100001) (fun i => zs.length - (intOf i).toNat)
    case atStart => exact ⟨0, Nat.zero_le _, rfl, fun _ _ h => absurd h (Nat.not_lt_zero _)⟩
    case round =>
      obtain ⟨n, hn, rfl, ht⟩ := hrel
      have HT := hid ht
      clear ht
      by_cases hlt : n < zs.length
      · obtain ⟨b, off, rfl, hb, hcap, q0⟩ := hr.num hlt
        have HN := hid (fun h => fewB_no2 (okN_no (nx := 100001) (zs := zs) hlt h))
        have HS := hid (show (1 ≤ zs[n] ∧ zs[n] < 100001) → ∀ j (hj : j < zs.length), j < n + 1 → 1 ≤ zs[j] ∧ zs[j] < 100001 from fun h j hj hjn => by
          by_cases e : j = n
          · subst e; exact h
          · exact HT.out j hj (by omega))
        generalize zs[n] = x at *
        by_cases hx : 1 ≤ x ∧ x < 100001
        · have hd : okS x = true := decide_eq_true hx
          have HR := hid (HS.out hx)
          clear hx
          go_wp2_with (go_at_call 110; refine (okSerial_any x _).mono ?_; rintro e w1 ⟨rfl, rfl⟩; rw [hd])
          exact ⟨⟨n + 1, by omega, by go_num, HR.out⟩, by simp [intOf]; omega⟩
        · have hd : okS x = false := decide_eq_false hx
          have HR := hid (HN.out hx)
          clear hx
          go_wp2_with (go_at_call 110; refine (okSerial_any x _).mono ?_; rintro e w1 ⟨rfl, rfl⟩; rw [hd])
          go_ret
          exact ⟨ret_bool HR.out.symm, rfl⟩
      · obtain rfl : n = zs.length := by omega
        have HR := hid (HY.out (okN_yes fun i hi => HT.out i hi hi))
        go_wp2
        go_ret
        exact ⟨ret_bool HR.out.symm, rfl⟩
  · have HR := hid (fewB_no1 (zs := zs) h2)
    have d0 : (200 : Int) < (zs.length : Int) := by omega
    go_enter Tryz.func139, Tryz.ntmps139
    go_wp2
    go_ret
    exact ⟨ret_bool HR.out.symm, rfl⟩

set_option maxHeartbeats 4000000 in
theorem implGoodSnapshot_any (v : Value) (s : Sn) (w : World) (hs : s.short) (h : SnR w v s) :
    Calls Tryz.prog 108 #[v] w fun e w' => e = .returned (.bool (snB s)) ∧ Below w.heap.size w w' := by
  obtain ⟨vp, vr, rfl, h1, h2⟩ := h
  obtain ⟨l1, l2, hz⟩ := hs
  obtain ⟨ap, cp, rfl⟩ := h1.len
  obtain ⟨ar, cr, rfl⟩ := h2.len
  have hB0 : Below w.heap.size w (w.alloc (.cells #[.int .i64 s.num, .slice ap s.pol.length cp, .slice ar s.rv.length cr] 40)) := (Below.refl _ w).alloc (Nat.le_refl _) _
  have F := Three.new w (.int .i64 s.num) (.slice ap s.pol.length cp) (.slice ar s.rv.length cr) 40
  by_cases c1 : s.num < 1
  · have HR := hid (snB_no1 (s := s) (decide_eq_false (by omega)))
    go_enter Tryz.func108, Tryz.ntmps108
    go_wp2
    go_ret
    exact ⟨ret_bool HR.out.symm, hB0⟩
  by_cases c2 : 100000 < s.num
  · have HR := hid (snB_no1 (s := s) (decide_eq_false (by omega)))
    go_enter Tryz.func108, Tryz.ntmps108
    go_wp2
    go_ret
    exact ⟨ret_bool HR.out.symm, hB0⟩
  have HN := hid (show numB s.num = true from decide_eq_true (by omega))
  go_enter Tryz.func108, Tryz.ntmps108
  go_wp2_with fail
  generalize w.alloc (.cells #[.int .i64 s.num, .slice ap s.pol.length cp, .slice ar s.rv.length cr] 40) = W0 at *
  refine (implPlain_any _ s.pol _ (by omega) hz (h1.below hB0)).mono ?_
  rintro e w1 ⟨v1, rfl, o1, hB1⟩
  have hpl := plX_len (rs := s.pol) (by omega)
  obtain ⟨a1, k1, rfl⟩ := ownsRow_len o1
  replace F := F.below hB1
  have hBB1 := below_one hB0 hB1
  clear hB0 hB1
  obtain ⟨a0, a1', a2⟩ := F.c
  cases hp : polB s.pol
  · have HR := hid (snB_no2 hp)
    go_wp2
    go_ret
    exact ⟨ret_bool HR.out.symm, hBB1⟩
  go_wp2_with fail
  refine (equalRu_any _ _ (plX s.pol) s.pol _ hpl (by omega) (RuR.own o1) (h1.below hBB1)).mono ?_
  rintro e w2 ⟨rfl, hB2⟩
  replace F := F.below hB2
  have hBB2 := below_one hBB1 hB2
  clear hBB1 hB2 a0 a1' a2
  obtain ⟨a0, a1', a2⟩ := F.c
  cases hsm : sameS (plX s.pol) s.pol
  · have HR := hid (snB_no3 hsm)
    go_wp2
    go_ret
    exact ⟨ret_bool HR.out.symm, hBB2⟩
  go_wp2_with fail
  refine (fewSerials_any _ s.rv _ (by omega) (h2.below hBB2).s).mono ?_
  rintro e w3 ⟨rfl, rfl⟩
  cases hfw : fewB s.rv
  · have HR := hid (snB_no4 hfw)
    go_wp2
    go_ret
    exact ⟨ret_bool HR.out.symm, hBB2⟩
  go_wp2_with fail
  refine (risingN_any _ s.rv _ (by omega) (h2.below hBB2).s).mono ?_
  rintro e w4 ⟨rfl, hB4⟩
  have hBB4 := below_one hBB2 hB4
  cases hup : upN s.rv
  · have HR := hid (snB_no5 hup)
    go_wp2
    go_ret
    exact ⟨ret_bool HR.out.symm, hBB4⟩
  have HR := hid (snB_yes HN.out hp hsm hfw hup)
  go_wp2
  go_ret
  exact ⟨ret_bool HR.out.symm, hBB4⟩

end Go.Proofs.YtnbojbcljfiamaaGreatDoor

namespace Go.Proofs.YtnbojbcljfiamaaGreatDoor
open Go.RowKit Go.Shelf

def zrU : Ru := ⟨false, ByteArray.empty, ByteArray.empty, ByteArray.empty⟩
/-- Nothing is in force. -/
def zeB (s : Sn) : Bool := (s.num == 0) && (((s.pol.length : Int) == 0) && ((s.rv.length : Int) == 0))
def foB (s : Sn) : Bool := zeB s || snB s
/-- A place is as said. -/
def spotB (h : Bool) (r : Ru) (z : Int) : Bool := if h = true then (if (z == 0) = true then r.good else r.same zrU && numB z) else r.same zrU && (z == 0)
def plA (s : Sd) (i : Nat) : Bool := spotB ((s.ha[i]?).getD false) ((s.ru[i]?).getD zrU) ((s.se[i]?).getD 0)
def plT (s : Sd) (k : Nat) : Bool := (List.range k).all (plA s)
def lnB (s : Sd) : Bool := ((s.ru.length : Int) == (s.ha.length : Int)) && (((s.se.length : Int) == (s.ha.length : Int)) && decide ((s.ha.length : Int) ≤ 230))
def coB (s : Sd) : Bool := if (s.co == 0) = true then (s.ha.length : Int) == 0 else decide (s.fo.num < s.co) && decide (s.co ≤ 100000)
/-- A side is good. -/
def sdB (s : Sd) : Bool := foB s.fo && (lnB s && (coB s && plT s s.ha.length))
theorem sd_no1 {s : Sd} (h : foB s.fo = false) : sdB s = false := by unfold sdB; rw [h]; rfl
theorem sd_no2 {s : Sd} (h : lnB s = false) : sdB s = false := by unfold sdB; rw [h]; simp
theorem sd_no3 {s : Sd} (h : coB s = false) : sdB s = false := by unfold sdB; rw [h]; simp
theorem plT_zero (s : Sd) : plT s 0 = true := by simp [plT]
theorem plT_succ (s : Sd) (k : Nat) : plT s (k + 1) = (plT s k && plA s k) := by
  unfold plT
  rw [List.range_succ, List.all_append]
  simp
theorem sd_no4 {s : Sd} {k : Nat} (hk : k < s.ha.length) (h : plA s k = false) : sdB s = false := by
  have : plT s s.ha.length = false := List.all_eq_false.2 ⟨k, List.mem_range.2 hk, by rw [h]; simp⟩
  unfold sdB
  rw [this]
  simp
theorem sd_yes {s : Sd} (h1 : foB s.fo = true) (h2 : lnB s = true) (h3 : coB s = true) (h4 : plT s s.ha.length = true) : sdB s = true := by
  unfold sdB
  rw [h1, h2, h3, h4]
  rfl
theorem sd_parts {s : Sd} (h : sdB s = true) : foB s.fo = true ∧ lnB s = true ∧ coB s = true ∧ plT s s.ha.length = true := by
  unfold sdB at h
  simpa [Bool.and_eq_true] using h
theorem lnB_parts {s : Sd} (h : lnB s = true) : s.ru.length = s.ha.length ∧ s.se.length = s.ha.length ∧ s.ha.length ≤ 230 := by
  unfold lnB at h
  simp at h
  omega
theorem plA_at {s : Sd} {k : Nat} (h : k < s.ha.length) (hr : k < s.ru.length) (hz : k < s.se.length) : plA s k = spotB s.ha[k] s.ru[k] s.se[k] := by
  unfold plA
  rw [List.getElem?_eq_getElem h, List.getElem?_eq_getElem hr, List.getElem?_eq_getElem hz]
  rfl
theorem foB_num {s : Sn} (h : foB s = true) : 0 ≤ s.num ∧ s.num ≤ 100000 := by
  unfold foB at h
  rw [Bool.or_eq_true] at h
  rcases h with h | h
  · unfold zeB at h
    simp at h
    omega
  · have := snB_num h
    omega
theorem ne_of_bne {a b : Int} (h : (a != b) = true) : (a == b) = false := by
  rw [bne] at h
  cases hq : (a == b)
  · rfl
  · rw [hq] at h; cases h
theorem eq_of_bne {a b : Int} (h : (a != b) = false) : a = b := by
  rw [bne] at h
  cases hq : (a == b)
  · rw [hq] at h; cases h
  · exact eq_of_beq hq
theorem ln_no1 {s : Sd} (h : ((s.ru.length : Int) != (s.ha.length : Int)) = true) : lnB s = false := by unfold lnB; rw [ne_of_bne h]; rfl
theorem ln_no2 {s : Sd} (h : ((s.se.length : Int) != (s.ha.length : Int)) = true) : lnB s = false := by
  unfold lnB
  rw [ne_of_bne h]
  cases ((s.ru.length : Int) == (s.ha.length : Int)) <;> rfl
theorem ln_no3 {s : Sd} (h : decide ((230 : Int) < (s.ha.length : Int)) = true) : lnB s = false := by
  unfold lnB
  rw [decide_eq_false (p := (s.ha.length : Int) ≤ 230) (by have := of_decide_eq_true h; omega)]
  cases ((s.ru.length : Int) == (s.ha.length : Int)) <;> cases ((s.se.length : Int) == (s.ha.length : Int)) <;> rfl
theorem ln_yes {s : Sd} (h1 : ((s.ru.length : Int) != (s.ha.length : Int)) = false) (h2 : ((s.se.length : Int) != (s.ha.length : Int)) = false) (h3 : decide ((230 : Int) < (s.ha.length : Int)) = false) : lnB s = true := by
  unfold lnB
  rw [eq_of_bne h1, eq_of_bne h2, decide_eq_true (p := (s.ha.length : Int) ≤ 230) (by have := of_decide_eq_false h3; omega)]
  simp
theorem co_no1 {s : Sd} (h : (s.co == 0) = true) (h2 : ((s.ha.length : Int) == 0) = false) : coB s = false := by unfold coB; rw [if_pos h, h2]
theorem co_yes1 {s : Sd} (h : (s.co == 0) = true) (h2 : ((s.ha.length : Int) == 0) = true) : coB s = true := by unfold coB; rw [if_pos h, h2]
theorem co_no2 {s : Sd} (h : (s.co == 0) = false) (h2 : ¬ (s.fo.num < s.co ∧ s.co ≤ 100000)) : coB s = false := by
  unfold coB
  rw [if_neg (by rw [h]; exact Bool.false_ne_true), ← Bool.decide_and]
  exact decide_eq_false h2
theorem co_yes2 {s : Sd} (h : (s.co == 0) = false) (h1 : s.fo.num < s.co) (h2 : s.co ≤ 100000) : coB s = true := by
  unfold coB
  rw [if_neg (by rw [h]; exact Bool.false_ne_true), decide_eq_true h1, decide_eq_true h2]
  rfl
theorem zrU_bad : zrU.good = false := by decide +kernel
theorem zero_rule {r : Ru} (h : r.same zrU = true) : r.good = false := by rw [same_eq h]; exact zrU_bad
theorem neq_zr (r : Ru) (w : World) : (binOp .neq 122 r.val (.agg #[.bool false, .string ⟨#[]⟩, .string ⟨#[]⟩, .string ⟨#[]⟩])).run Tryz.prog w = .ok (.bool (!(r.same zrU))) w := neq_ru r zrU w
theorem eql_zr (r : Ru) (w : World) : (binOp .eql 122 r.val (.agg #[.bool false, .string ⟨#[]⟩, .string ⟨#[]⟩, .string ⟨#[]⟩])).run Tryz.prog w = .ok (.bool (r.same zrU)) w := eql_ru r zrU w

set_option maxHeartbeats 1000000 in
theorem l3Num_any (n : Int) (w : World) :
    Calls Tryz.prog 66 #[.int .i64 n] w fun e w' => e = .returned (.bool (numB n)) ∧ w' = w := by
  go_enter Tryz.func66, Tryz.ntmps66
  go_wp2_with (go_at_call 64; refine (l1In_any n 1 100000 _).mono ?_; rintro e w1 ⟨rfl, rfl⟩)
  go_ret
  exact ⟨rfl, rfl⟩

set_option maxHeartbeats 1000000 in
theorem l6Zero_any (v : Value) (s : Sn) (w : World) (hs : s.short) (h : SnA w v s) :
    Calls Tryz.prog 62 #[v] w fun e w' => e = .returned (.bool (zeB s)) ∧ Below w.heap.size w w' := by
  obtain ⟨vp, vr, rfl, h1, h2⟩ := h
  obtain ⟨l1, l2, _⟩ := hs
  obtain ⟨ap, cp, rfl⟩ := h1.len
  obtain ⟨ar, cr, rfl⟩ := h2.numLen
  cases e0 : (s.num == 0)
  · have HR := hid (show zeB s = false by unfold zeB; rw [e0]; rfl)
    go_enter Tryz.func62, Tryz.ntmps62
    go_wp2
    go_ret
    exact ⟨ret_bool HR.out.symm, (Below.refl _ w).alloc (Nat.le_refl _) _⟩
  · cases e1 : ((s.pol.length : Int) == 0)
    · have HR := hid (show zeB s = false by unfold zeB; rw [e0, e1]; rfl)
      go_enter Tryz.func62, Tryz.ntmps62
      go_wp2
      go_ret
      exact ⟨ret_bool HR.out.symm, (Below.refl _ w).alloc (Nat.le_refl _) _⟩
    · have HR := hid (show zeB s = ((s.rv.length : Int) == 0) by unfold zeB; rw [e0, e1]; rfl)
      go_enter Tryz.func62, Tryz.ntmps62
      go_wp2
      go_ret
      exact ⟨ret_bool HR.out.symm, (Below.refl _ w).alloc (Nat.le_refl _) _⟩

set_option maxHeartbeats 2000000 in
theorem goodForce_any (v : Value) (s : Sn) (w : World) (hs : s.short) (h : SnR w v s) :
    Calls Tryz.prog 73 #[v] w fun e w' => e = .returned (.bool (foB s)) ∧ Below w.heap.size w w' := by
  have h' := h
  have hs' := hs
  obtain ⟨vp, vr, rfl, h1, h2⟩ := h
  obtain ⟨l1, l2, _⟩ := hs
  obtain ⟨ap, cp, rfl⟩ := h1.len
  obtain ⟨ar, cr, rfl⟩ := h2.len
  have hB0 : Below w.heap.size w (w.alloc (.cells #[.int .i64 s.num, .slice ap s.pol.length cp, .slice ar s.rv.length cr] 40)) := (Below.refl _ w).alloc (Nat.le_refl _) _
  have F := Three.new w (.int .i64 s.num) (.slice ap s.pol.length cp) (.slice ar s.rv.length cr) 40
  have HF := hid (show foB s = (zeB s || snB s) from rfl)
  cases e0 : (s.num == 0)
  · have HZ := hid (show zeB s = false by unfold zeB; rw [e0]; rfl)
    go_enter Tryz.func73, Tryz.ntmps73
    go_wp2_with fail
    generalize w.alloc (.cells #[.int .i64 s.num, .slice ap s.pol.length cp, .slice ar s.rv.length cr] 40) = W0 at *
    refine (implGoodSnapshot_any _ s _ hs' (h'.below hB0)).mono ?_
    rintro e w1 ⟨rfl, hB1⟩
    go_wp2_with fail
    go_ret
    exact ⟨ret_bool (by rw [HF.out, HZ.out]; rfl), below_one hB0 hB1⟩
  · cases e1 : ((s.pol.length : Int) == 0)
    · have HZ := hid (show zeB s = false by unfold zeB; rw [e0, e1]; rfl)
      go_enter Tryz.func73, Tryz.ntmps73
      go_wp2_with fail
      generalize w.alloc (.cells #[.int .i64 s.num, .slice ap s.pol.length cp, .slice ar s.rv.length cr] 40) = W0 at *
      refine (implGoodSnapshot_any _ s _ hs' (h'.below hB0)).mono ?_
      rintro e w1 ⟨rfl, hB1⟩
      go_wp2_with fail
      go_ret
      exact ⟨ret_bool (by rw [HF.out, HZ.out]; rfl), below_one hB0 hB1⟩
    · cases e2 : ((s.rv.length : Int) == 0)
      · have HZ := hid (show zeB s = false by unfold zeB; rw [e0, e1, e2]; rfl)
        go_enter Tryz.func73, Tryz.ntmps73
        go_wp2_with fail
        generalize w.alloc (.cells #[.int .i64 s.num, .slice ap s.pol.length cp, .slice ar s.rv.length cr] 40) = W0 at *
        refine (implGoodSnapshot_any _ s _ hs' (h'.below hB0)).mono ?_
        rintro e w1 ⟨rfl, hB1⟩
        go_wp2_with fail
        go_ret
        exact ⟨ret_bool (by rw [HF.out, HZ.out]; rfl), below_one hB0 hB1⟩
      · have HZ := hid (show zeB s = true by unfold zeB; rw [e0, e1, e2]; rfl)
        go_enter Tryz.func73, Tryz.ntmps73
        go_wp2_with fail
        go_ret
        exact ⟨ret_bool (by rw [HF.out, HZ.out]; rfl), hB0⟩

def b4B (s : Sd) : Bool := !(lnB s) || ((s.co == 0) && decide ((0 : Int) < (s.ha.length : Int)))
def b6B (s : Sd) : Bool := (s.co != 0) && !(inB (s.fo.num + 1) 100000 s.co)
theorem b4_bad {s : Sd} (h : b4B s = true) : sdB s = false := by
  unfold b4B at h
  rw [Bool.or_eq_true] at h
  rcases h with h | h
  · exact sd_no2 (by simpa using h)
  · rw [Bool.and_eq_true] at h
    exact sd_no3 (co_no1 h.1 (beq_eq_false_iff_ne.2 (by have := of_decide_eq_true h.2; omega)))
theorem b6_bad {s : Sd} (h : b6B s = true) : sdB s = false := by
  unfold b6B at h
  rw [Bool.and_eq_true] at h
  have h2 : inB (s.fo.num + 1) 100000 s.co = false := by have := h.2; simpa using this
  exact sd_no3 (co_no2 (ne_of_bne h.1) (fun hh => by have := of_decide_eq_false h2; omega))
theorem b46_good {s : Sd} (h : b4B s = false) (h6 : b6B s = false) : lnB s = true ∧ coB s = true := by
  unfold b4B at h
  rw [Bool.or_eq_false_iff] at h
  have hl : lnB s = true := by simpa using h.1
  refine ⟨hl, ?_⟩
  cases h0 : (s.co == 0)
  · have hb : (s.co != 0) = true := by rw [bne, h0]; rfl
    have h2 : inB (s.fo.num + 1) 100000 s.co = true := by unfold b6B at h6; rw [hb] at h6; simpa using h6
    have := of_decide_eq_true h2
    exact co_yes2 h0 (by omega) (by omega)
  · have := h.2
    rw [h0, Bool.true_and] at this
    exact co_yes1 h0 (beq_iff_eq.2 (by have := of_decide_eq_false this; omega))

set_option maxHeartbeats 8000000 in
set_option maxRecDepth 100000 in
theorem specGoodSide_any (v : Value) (s : Sd) (w : World) (hs : s.short) (h : SdA w v s) :
    Calls Tryz.prog 29 #[v] w fun e w' => e = .returned (.bool (sdB s)) ∧ Below w.heap.size w w' := by
  obtain ⟨vp, vr, vu, vh, vs, rfl, h1, h2, h3, h4, h5⟩ := h
  obtain ⟨hf, l3, l4, l5, lr⟩ := hs
  have hS : SnA w (.agg #[.int .i64 s.fo.num, vp, vr]) s.fo := ⟨_, _, rfl, h1, h2⟩
  obtain ⟨ap, cp, rfl⟩ := h1.len
  obtain ⟨ar, cr, rfl⟩ := h2.numLen
  obtain ⟨au, cu, rfl⟩ := h3.len
  obtain ⟨ah, ch, rfl⟩ := h4.bolLen
  obtain ⟨ai, ci, rfl⟩ := h5.numLen
  have hB0 : Below w.heap.size w (w.alloc (.cells #[.int .i64 s.fo.num, .slice ap s.fo.pol.length cp, .slice ar s.fo.rv.length cr, .int .i64 s.co, .slice au s.ru.length cu, .slice ah s.ha.length ch, .slice ai s.se.length ci] 42)) := (Below.refl _ w).alloc (Nat.le_refl _) _
  have F := Seven.new w (.int .i64 s.fo.num) (.slice ap s.fo.pol.length cp) (.slice ar s.fo.rv.length cr) (.int .i64 s.co) (.slice au s.ru.length cu) (.slice ah s.ha.length ch) (.slice ai s.se.length ci) 42
  have HF := hid (show foB s.fo = (zeB s.fo || snB s.fo) from rfl)
  obtain ⟨a0, a1, a2, a3, a4, a5, a6⟩ := F.c
  go_enter Tryz.func29, Tryz.ntmps29
  go_upto_region 1 with fail
  generalize w.alloc (.cells #[.int .i64 s.fo.num, .slice ap s.fo.pol.length cp, .slice ar s.fo.rv.length cr, .int .i64 s.co, .slice au s.ru.length cu, .slice ah s.ha.length ch, .slice ai s.se.length ci] 42) = W0 at *
  have hBw := hB0
  have F0 := F
  go_cut [17] (fun s0 wx => s0 = .bool (!(foB s.fo)) ∧ Below W0.heap.size W0 wx)
  case first =>
    cases hz : zeB s.fo
    · go_wp2_with fail
      refine (l6Zero_any _ s.fo _ hf (hS.below hB0)).mono ?_
      rintro e w1 ⟨rfl, hB1⟩
      rw [hz]
      replace F := F.below hB1
      replace hB0 := below_one hB0 hB1
      clear a0 a1 a2 a3 a4 a5 a6
      obtain ⟨a0, a1, a2, a3, a4, a5, a6⟩ := F.c
      go_wp2_with fail
      refine (specGoodSnapshot_any _ s.fo _ hf (hS.below hB0)).mono ?_
      rintro e w2 ⟨rfl, hB2⟩
      go_wp2_with fail
      go_meet
      exact ⟨by rw [HF.out, hz]; rfl, below_one hB1 hB2⟩
    · go_wp2_with fail
      refine (l6Zero_any _ s.fo _ hf (hS.below hB0)).mono ?_
      rintro e w1 ⟨rfl, hB1⟩
      rw [hz]
      go_wp2_with fail
      go_meet
      exact ⟨by rw [HF.out, hz]; rfl, hB1⟩
  case rest =>
    obtain ⟨rfl, hBW⟩ := hcut
    clear HF a0 a1 a2 a3 a4 a5 a6
    replace F := F0.below hBW
    replace hB0 := below_one hBw hBW
    obtain ⟨a0, a1, a2, a3, a4, a5, a6⟩ := F.c
    cases hfo : foB s.fo
    case false =>
      have HR := hid (show sdB s = false from sd_no1 hfo)
      go_wp2_with fail
      go_ret
      exact ⟨ret_bool HR.out.symm, hB0⟩
    have HFO := hid hfo
    have hnum := foB_num HFO.out
    clear hfo
    go_upto_region 4 with fail
    go_cut [45] (fun s0 wx => s0 = .bool (b4B s) ∧ Below W0.heap.size W0 wx)
    case first =>
      cases m1 : ((s.ru.length : Int) != (s.ha.length : Int))
      case true =>
        have HR := hid (show b4B s = true by unfold b4B; rw [ln_no1 m1]; rfl)
        go_wp2_with fail
        go_meet
        exact ⟨by rw [HR.out], hBW⟩
      cases m2 : ((s.se.length : Int) != (s.ha.length : Int))
      case true =>
        have HR := hid (show b4B s = true by unfold b4B; rw [ln_no2 m2]; rfl)
        go_wp2_with fail
        go_meet
        exact ⟨by rw [HR.out], hBW⟩
      cases m3 : decide ((230 : Int) < (s.ha.length : Int))
      case true =>
        have HR := hid (show b4B s = true by unfold b4B; rw [ln_no3 m3]; rfl)
        go_wp2_with fail
        go_meet
        exact ⟨by rw [HR.out], hBW⟩
      have HL := hid (ln_yes m1 m2 m3)
      cases m4 : (s.co == 0)
      · have HR := hid (show b4B s = false by unfold b4B; rw [HL.out, m4]; rfl)
        go_wp2_with fail
        go_meet
        exact ⟨by rw [HR.out], hBW⟩
      · have HR := hid (show b4B s = decide ((0 : Int) < (s.ha.length : Int)) by unfold b4B; rw [HL.out, m4]; rfl)
        go_wp2_with fail
        go_meet
        exact ⟨by rw [HR.out]; simp, hBW⟩
    case rest =>
      clear hBW hB0 F a0 a1 a2 a3 a4 a5 a6
      obtain ⟨rfl, hBW⟩ := hcut
      have F := F0.below hBW
      have hB0 := below_one hBw hBW
      obtain ⟨a0, a1, a2, a3, a4, a5, a6⟩ := F.c
      cases hb4 : b4B s
      case true =>
        have HR := hid (b4_bad hb4)
        go_wp2_with fail
        go_ret
        exact ⟨ret_bool HR.out.symm, hB0⟩
      have HB4 := hid hb4
      clear hb4
      go_upto_region 6 with fail
      go_cut [58] (fun s0 wx => s0 = .bool (b6B s) ∧ Below W0.heap.size W0 wx)
      case first =>
        cases m6 : (s.co != 0)
        · have HR := hid (show b6B s = false by unfold b6B; rw [m6]; rfl)
          go_wp2_with fail
          go_meet
          exact ⟨by rw [HR.out], hBW⟩
        · have HR := hid (show b6B s = !(inB (s.fo.num + 1) 100000 s.co) by unfold b6B; rw [m6]; rfl)
          go_wp2_with fail
          refine (l1In_any s.co (s.fo.num + 1) 100000 _).mono ?_
          rintro e w3 ⟨rfl, rfl⟩
          go_wp2_with fail
          go_meet
          exact ⟨by rw [HR.out], hBW⟩
      case rest =>
        clear hBW hB0 F a0 a1 a2 a3 a4 a5 a6
        obtain ⟨rfl, hBW⟩ := hcut
        have F := F0.below hBW
        have hB0 := below_one hBw hBW
        obtain ⟨a0, a1, a2, a3, a4, a5, a6⟩ := F.c
        cases hb6 : b6B s
        case true =>
          have HR := hid (b6_bad hb6)
          go_wp2_with fail
          go_ret
          exact ⟨ret_bool HR.out.symm, hB0⟩
        have HL := hid (b46_good HB4.out hb6).1
        have HCO := hid (b46_good HB4.out hb6).2
        obtain ⟨hl1, hl2, hl3⟩ := lnB_parts HL.out
        have hq1 : s.ha.length ≤ s.ru.length := by omega
        have hq2 : s.ha.length ≤ s.se.length := by omega
        clear hl1 hl2 HB4 hb6
        go_wp2_with fail
        clear F hB0 a0 a1 a2 a3 a4 a5 a6
        go_loopw [62] (fun i wr => ∃ k : Nat, k ≤ s.ha.length ∧ i = .int .i64 k ∧ plT s k = true ∧ Below W0.heap.size W0 wr) (fun i _ => s.ha.length - (intOf i).toNat)
        case atStart => exact ⟨0, Nat.zero_le _, rfl, plT_zero _, hBW⟩
        case round =>
          obtain ⟨k, hk, rfl, ht, hB⟩ := hrel
          have HT := hid ht
          clear ht
          have hBr := hB
          have F := F0.below hB
          have hB0 := below_one hBw hB
          clear hB hBW
          obtain ⟨a0, a1, a2, a3, a4, a5, a6⟩ := F.c
          by_cases hlt : k < s.ha.length
          · have hlr : k < s.ru.length := by omega
            have hlz : k < s.se.length := by omega
            obtain ⟨bu, ou, rfl, hbu, hcu, q0, q1, q2, q3⟩ := (h3.below hB0).at hlr
            obtain ⟨bh, oh, rfl, hbh, hch, q4⟩ := (h4.below hB0).bol hlt
            obtain ⟨bi, oi, rfl, hbi, hci, q5⟩ := (h5.below hB0).num hlz
            have HA := hid (plA_at hlt hlr hlz)
            have hrs := lr _ (List.getElem_mem hlr)
            generalize s.ru[k] = r at *
            generalize s.ha[k] = hh at *
            generalize s.se[k] = z at *
            have hru : r.who.size ≤ 1048576 := by unfold Ru.size at hrs; omega
            have hrp : r.path.size ≤ 1048576 := by unfold Ru.size at hrs; omega
            have hne := neq_zr r
            have HN := hid (plT_succ s k)
            have HB := hid (fun h => sd_no4 (s := s) hlt h)
            cases hh
            · cases e1 : r.same zrU
              · have HR := hid (show sdB s = false from HB.out (by rw [HA.out]; unfold spotB; rw [if_neg (by simp), e1]; rfl))
                go_wp2_with fail
                go_ret
                exact ⟨ret_bool HR.out.symm, hB0⟩
              · cases e2 : (z == 0)
                · have e3 : (z != 0) = true := by rw [bne, e2]; rfl
                  have HR := hid (show sdB s = false from HB.out (by rw [HA.out]; unfold spotB; rw [if_neg (by simp), e1, e2]; rfl))
                  go_wp2_with fail
                  go_ret
                  exact ⟨ret_bool HR.out.symm, hB0⟩
                · have e3 : (z != 0) = false := by rw [bne, e2]; rfl
                  have HR := hid (show plT s (k + 1) = true by rw [HN.out, HT.out, HA.out]; unfold spotB; rw [if_neg (by simp), e1, e2]; rfl)
                  go_wp2_with fail
                  go_roundw
                  case rel => exact ⟨k + 1, by omega, by go_num, HR.out, hBr⟩
                  case measure => simp [intOf]; omega
            · cases e1 : r.same zrU
              · cases e2 : (z == 0)
                · have e3 : (z != 0) = true := by rw [bne, e2]; rfl
                  have HR := hid (show sdB s = false from HB.out (by rw [HA.out]; unfold spotB; rw [if_pos rfl, if_neg (by rw [e2]; exact Bool.false_ne_true), e1]; rfl))
                  go_wp2_with fail
                  go_ret
                  exact ⟨ret_bool HR.out.symm, hB0⟩
                · have e3 : (z != 0) = false := by rw [bne, e2]; rfl
                  cases e4 : r.good
                  · have HR := hid (show sdB s = false from HB.out (by rw [HA.out]; unfold spotB; rw [if_pos rfl, if_pos e2, e4]))
                    go_wp2_with fail
                    refine (specGoodRule_any r _ hru hrp).mono ?_
                    rintro e w5 ⟨rfl, hB5⟩
                    rw [e4]
                    go_wp2_with fail
                    go_ret
                    exact ⟨ret_bool HR.out.symm, below_one hB0 hB5⟩
                  · have HR := hid (show plT s (k + 1) = true by rw [HN.out, HT.out, HA.out]; unfold spotB; rw [if_pos rfl, if_pos e2, e4]; rfl)
                    go_wp2_with fail
                    refine (specGoodRule_any r _ hru hrp).mono ?_
                    rintro e w5 ⟨rfl, hB5⟩
                    rw [e4]
                    go_wp2_with fail
                    go_roundw
                    case rel => exact ⟨k + 1, by omega, by go_num, HR.out, below_one hBr hB5⟩
                    case measure => simp [intOf]; omega
              · cases e2 : (z == 0)
                · have e3 : (z != 0) = true := by rw [bne, e2]; rfl
                  cases e4 : numB z
                  · have HR := hid (show sdB s = false from HB.out (by rw [HA.out]; unfold spotB; rw [if_pos rfl, if_neg (by rw [e2]; exact Bool.false_ne_true), e1, e4]; rfl))
                    go_wp2_with fail
                    refine (l3Num_any z _).mono ?_
                    rintro e w5 ⟨rfl, rfl⟩
                    rw [e4]
                    go_wp2_with fail
                    go_ret
                    exact ⟨ret_bool HR.out.symm, hB0⟩
                  · have HR := hid (show plT s (k + 1) = true by rw [HN.out, HT.out, HA.out]; unfold spotB; rw [if_pos rfl, if_neg (by rw [e2]; exact Bool.false_ne_true), e1, e4]; rfl)
                    go_wp2_with fail
                    refine (l3Num_any z _).mono ?_
                    rintro e w5 ⟨rfl, rfl⟩
                    rw [e4]
                    go_wp2_with fail
                    go_roundw
                    case rel => exact ⟨k + 1, by omega, by go_num, HR.out, hBr⟩
                    case measure => simp [intOf]; omega
                · have e3 : (z != 0) = false := by rw [bne, e2]; rfl
                  have HR := hid (show sdB s = false from HB.out (by rw [HA.out]; unfold spotB; rw [if_pos rfl, if_pos e2]; exact zero_rule e1))
                  go_wp2_with fail
                  go_ret
                  exact ⟨ret_bool HR.out.symm, hB0⟩
          · obtain rfl : k = s.ha.length := by omega
            have HR := hid (show sdB s = true from sd_yes HFO.out HL.out HCO.out HT.out)
            go_wp2_with fail
            go_ret
            exact ⟨ret_bool HR.out.symm, hB0⟩

end Go.Proofs.YtnbojbcljfiamaaGreatDoor

namespace Go.Proofs.YtnbojbcljfiamaaGreatDoor
open Go.RowKit Go.Shelf

theorem int_beq (m n : Nat) : ((m : Int) == (n : Int)) = decide (m = n) := by
  rw [Bool.eq_iff_iff, beq_iff_eq, decide_eq_true_eq]
  omega

/-- Two stars stand at k. -/
def restB (xs : List ByteArray) (k : Nat) : Bool := match xs[k]? with
  | some x => star2B x
  | none => false
theorem restB_lt {xs : List ByteArray} {k : Nat} (h : k < xs.length) : restB xs k = star2B xs[k] := by
  unfold restB
  rw [List.getElem?_eq_getElem h]
theorem restB_ge {xs : List ByteArray} {k : Nat} (h : ¬ k < xs.length) : restB xs k = false := by
  unfold restB
  rw [List.getElem?_eq_none (by omega)]
/-- One word covers another. -/
def cwB (x y : ByteArray) : Bool := eqB x y || (starB x && !star2B y)
/-- A list of words covers another. -/
def cvB : List ByteArray → List ByteArray → Bool
  | [], [] => true
  | [], _ :: _ => false
  | x :: _, [] => star2B x
  | x :: xs, y :: ys => star2B x || (cwB x y && cvB xs ys)
theorem cvB_rest {xs ys : List ByteArray} {k : Nat} (h : restB xs k = true) : cvB (xs.drop k) (ys.drop k) = true := by
  by_cases hk : k < xs.length
  · rw [restB_lt hk] at h
    rw [List.drop_eq_getElem_cons hk]
    cases ys.drop k with
    | nil => exact h
    | cons y r => simp [cvB, h]
  · rw [restB_ge hk] at h
    cases h
theorem cvB_end {xs ys : List ByteArray} {k : Nat} (hx : k ≤ xs.length) (hy : k ≤ ys.length) (h : restB xs k = false) (he : k = xs.length ∨ k = ys.length) : cvB (xs.drop k) (ys.drop k) = decide (xs.length = ys.length) := by
  by_cases hk : k < xs.length
  · obtain rfl : k = ys.length := by omega
    rw [restB_lt hk] at h
    rw [List.drop_eq_getElem_cons hk, List.drop_length, cvB, h]
    exact (decide_eq_false (by omega)).symm
  · obtain rfl : k = xs.length := by omega
    rw [List.drop_length]
    by_cases hl : xs.length < ys.length
    · rw [List.drop_eq_getElem_cons hl, cvB]
      exact (decide_eq_false (by omega)).symm
    · rw [List.drop_of_length_le (by omega), cvB]
      exact (decide_eq_true (by omega)).symm
theorem cvB_step {xs ys : List ByteArray} {k : Nat} (hx : k < xs.length) (hy : k < ys.length) (h : restB xs k = false) : cvB (xs.drop k) (ys.drop k) = (cwB xs[k] ys[k] && cvB (xs.drop (k + 1)) (ys.drop (k + 1))) := by
  rw [restB_lt hx] at h
  rw [List.drop_eq_getElem_cons hx, List.drop_eq_getElem_cons hy, cvB, h]
  rfl

set_option maxHeartbeats 400000 in
theorem coversWord_any (x y : ByteArray) (w : World) :
    Calls Tryz.prog 240 #[.string x, .string y] w fun e w' => e = .returned (.bool (cwB x y)) ∧ w' = w := by
  cases b1 : eqB x y
  · have e1 : (x.toList == y.toList) = false := b1
    cases b2 : starB x
    · have e2 : (x.toList == [42]) = false := b2
      have HR := hid (show cwB x y = false by unfold cwB; rw [b1, b2]; rfl)
      clear b1 b2
      go_enter Tryz.func240, Tryz.ntmps240
      go_wp2
      go_ret
      exact ⟨ret_bool HR.out.symm, rfl⟩
    · have e2 : (x.toList == [42]) = true := b2
      have HR := hid (show cwB x y = !star2B y by unfold cwB; rw [b1, b2]; rfl)
      clear b1 b2
      go_enter Tryz.func240, Tryz.ntmps240
      go_wp2
      go_ret
      exact ⟨ret_bool HR.out.symm, rfl⟩
  · have e1 : (x.toList == y.toList) = true := b1
    have HR := hid (show cwB x y = true by unfold cwB; rw [b1]; rfl)
    clear b1
    go_enter Tryz.func240, Tryz.ntmps240
    go_wp2
    go_ret
    exact ⟨ret_bool HR.out.symm, rfl⟩

set_option maxHeartbeats 400000 in
theorem restAt_any (v : Value) (xs : List ByteArray) (base k : Nat) (w : World) (_hl : xs.length ≤ 1048577) (hrow : w.ownsRow base 9 1 v xs.length (xs.map Value.string)) :
    Calls Tryz.prog 239 #[v, .int .i64 (k : Int)] w fun e w' => e = .returned (.bool (restB xs k)) ∧ w' = w := by
  obtain ⟨a, cap, rfl⟩ := ownsRow_len hrow
  by_cases hlt : k < xs.length
  · obtain ⟨g, rfl⟩ : ∃ g, a = some ⟨g, 0, none⟩ := by
      rcases hrow.2 with ⟨_, h0⟩ | ⟨g, _, _, hv, _⟩
      · omega
      · cases hv; exact ⟨g, rfl⟩
    have hc := row_cell hrow k hlt
    have HR := hid (restB_lt hlt)
    go_enter Tryz.func239, Tryz.ntmps239
    go_wp2
    go_ret
    exact ⟨ret_bool HR.out.symm, rfl⟩
  · have HR := hid (restB_ge hlt)
    go_enter Tryz.func239, Tryz.ntmps239
    go_wp2
    go_ret
    exact ⟨ret_bool HR.out.symm, rfl⟩

/-- A label at which a goto comes again and again: the passes first, the way to it behind them. -/
theorem wp_scope_loop {P : Program} {a : Act} {w : World} {Q : Exit → Act → World → Prop} {c rest : Code} (l : Nat) (J : Act → World → Prop) (μ : Act → World → Nat) (hf : findLabel c l = some (Code.skip.seq rest))
    (pass : ∀ a w, J a w → rest.wp P (Exit.jump l (fun a' w' => J a' w' ∧ μ a' w' < μ a w) Q) a w)
    (first : Hid (∀ a w, J a w → rest.wp P (Exit.jump l J Q) a w) → c.wp P (Exit.jump l J Q) a w) : (Code.scope c).wp P Q a w :=
  wp_scope_jumps l J μ hf (first (fun a w hJ => Code.wp_mono (fun e a w q => by cases e <;> first | exact q | exact ⟨q.1, q.2.1⟩) (pass a w hJ))) fun a w hJ => wp_seq (wp_skip (pass a w hJ))

set_option maxRecDepth 1000000 in
set_option maxHeartbeats 2000000 in
theorem coversWords_any (va vb : Value) (xs ys : List ByteArray) (base base' : Nat) (w : World) (hl : xs.length ≤ 1048577) (_hl' : ys.length ≤ 1048577)
    (hrow : w.ownsRow base 9 1 va xs.length (xs.map Value.string)) (hrow' : w.ownsRow base' 9 1 vb ys.length (ys.map Value.string)) :
    Calls Tryz.prog 238 #[va, vb] w fun e w' => e = .returned (.bool (cvB xs ys)) ∧ Below w.heap.size w w' := by
  obtain ⟨a, cap, rfl⟩ := ownsRow_len hrow
  obtain ⟨a', cap', rfl⟩ := ownsRow_len hrow'
  go_enter Tryz.func238, Tryz.ntmps238
  go_wp2
  refine wp_scope_loop 0 (fun a1 w' => ∃ (k : Nat) (u6 u7 u8 u9 u10 u11 u12 u13 u14 u15 u16 u17 u18 u19 u20 u21 u22 u23 u24 u25 u26 u27 u28 u29 u30 u31 u32 u33 u34 u35 : Value), a1 = { tmps := #[.slice a xs.length cap, .slice a' ys.length cap', undef, undef, .bool false, .int .i64 (k : Int), u6, u7, u8, u9, u10, u11, u12, u13, u14, u15, u16, u17, u18, u19, u20, u21, u22, u23, u24, u25, u26, u27, u28, u29, u30, u31, u32, u33, u34, u35], defers := [] } ∧ (w'.ownsRow base 9 1 (.slice a xs.length cap) xs.length (xs.map Value.string) ∧ w'.ownsRow base' 9 1 (.slice a' ys.length cap') ys.length (ys.map Value.string) ∧ Below w.heap.size w w') ∧ k ≤ xs.length ∧ k ≤ ys.length ∧ cvB (xs.drop k) (ys.drop k) = cvB xs ys) (fun a1 _ => xs.length - (intOf (a1.tmps.getD 5 undef)).toNat) rfl ?_ ?_
  · rintro a1 w0 ⟨k, u6, u7, u8, u9, u10, u11, u12, u13, u14, u15, u16, u17, u18, u19, u20, u21, u22, u23, u24, u25, u26, u27, u28, u29, u30, u31, u32, u33, u34, u35, rfl, ⟨hrow, hrow', hB⟩, hk, hk', hcv⟩
    have HCV := hid hcv
    clear hcv
    cases hr : restB xs k
    · by_cases hx : k < xs.length
      · have e1 : ((k : Int) == (xs.length : Int)) = false := by simp; omega
        by_cases hy : k < ys.length
        · have e2 : ((k : Int) == (ys.length : Int)) = false := by simp; omega
          obtain ⟨g, rfl⟩ : ∃ g, a = some ⟨g, 0, none⟩ := by
            rcases hrow.2 with ⟨_, h0⟩ | ⟨g, _, _, hv, _⟩
            · omega
            · cases hv; exact ⟨g, rfl⟩
          obtain ⟨g', rfl⟩ : ∃ g, a' = some ⟨g, 0, none⟩ := by
            rcases hrow'.2 with ⟨_, h0⟩ | ⟨g, _, _, hv, _⟩
            · omega
            · cases hv; exact ⟨g, rfl⟩
          have hc := row_cell hrow k hx
          have hc' := row_cell hrow' k hy
          have HS := hid (cvB_step hx hy hr)
          cases hw : cwB xs[k] ys[k]
          · have HR := hid (show cvB xs ys = false by rw [← HCV.out, HS.out, hw]; rfl)
            go_wp2_with (go_at_call 239; refine (restAt_any _ xs base k _ hl hrow).mono ?_; rintro e w' ⟨rfl, rfl⟩)
            go_quiet ((go_at_call 240; exact Calls.quiet_of_same (coversWord_any _ _ _)))
            go_wp2
            simp only [Exit.jump]
            go_ret
            exact ⟨ret_bool HR.out.symm, below_drewN hB _⟩
          · have HR := hid (show cvB (xs.drop (k + 1)) (ys.drop (k + 1)) = cvB xs ys by rw [← HCV.out, HS.out, hw]; rfl)
            go_wp2_with (go_at_call 239; refine (restAt_any _ xs base k _ hl hrow).mono ?_; rintro e w' ⟨rfl, rfl⟩)
            go_quiet ((go_at_call 240; exact Calls.quiet_of_same (coversWord_any _ _ _)))
            go_wp2
            go_step3
            refine ⟨rfl, ⟨k + 1, _, _, _, _, _, _, _, _, _, _, _, _, _, _, _, _, _, _, _, _, _, _, _, _, _, _, _, _, _, _, rfl, ⟨hrow, hrow', below_drewN hB _⟩, by omega, by omega, HR.out⟩, ?_⟩
            simp [intOf]
            omega
        · have e2 : ((k : Int) == (ys.length : Int)) = true := by simp; omega
          have HR := hid (show cvB xs ys = decide (xs.length = ys.length) by rw [← HCV.out]; exact cvB_end hk hk' hr (by omega))
          go_wp2_with (go_at_call 239; refine (restAt_any _ xs base k _ hl hrow).mono ?_; rintro e w' ⟨rfl, rfl⟩)
          simp only [Exit.jump]
          go_ret
          exact ⟨ret_bool (by rw [HR.out]; exact int_beq _ _), hB⟩
      · have e1 : ((k : Int) == (xs.length : Int)) = true := by simp; omega
        have HR := hid (show cvB xs ys = decide (xs.length = ys.length) by rw [← HCV.out]; exact cvB_end hk hk' hr (by omega))
        go_wp2_with (go_at_call 239; refine (restAt_any _ xs base k _ hl hrow).mono ?_; rintro e w' ⟨rfl, rfl⟩)
        simp only [Exit.jump]
        go_ret
        exact ⟨ret_bool (by rw [HR.out]; exact int_beq _ _), hB⟩
    · have HR := hid (show cvB xs ys = true by rw [← HCV.out]; exact cvB_rest hr)
      go_wp2_with (go_at_call 239; refine (restAt_any _ xs base k _ hl hrow).mono ?_; rintro e w' ⟨rfl, rfl⟩)
      simp only [Exit.jump]
      go_ret
      exact ⟨ret_bool HR.out.symm, hB⟩
  · intro hp
    go_wp2
    go_step3
    rename_i hK
    exact hK _ _ (hp.out _ _ ⟨0, _, _, _, _, _, _, _, _, _, _, _, _, _, _, _, _, _, _, _, _, _, _, _, _, _, _, _, _, _, _, rfl, ⟨hrow, hrow', Below.refl _ _⟩, Nat.zero_le _, Nat.zero_le _, rfl⟩)

theorem nmL_len (s : ByteArray) : (nmL (split s 47)).length ≤ s.size + 1 := by
  unfold nmL
  split
  · exact split_len s 47
  · simp
/-- A name pattern covers another. -/
def cnB (s t : ByteArray) : Bool := (nmB (split s 47) && nmB (split t 47)) && cvB (split s 47) (split t 47)
def cnOk (s t : ByteArray) : Bool := nmB (split s 47) && nmB (split t 47)
theorem ret_bools {a b c d : Bool} (h : a = b) (h' : c = d) : Ending.returned (.tuple #[.bool a, .bool c]) = .returned (.tuple #[.bool b, .bool d]) := by rw [h, h']

set_option maxHeartbeats 1000000 in
theorem implCoversName_any (s t : ByteArray) (w : World) (hs : s.size ≤ 1048576) (ht : t.size ≤ 1048576) :
    Calls Tryz.prog 236 #[.string s, .string t] w fun e w' => e = .returned (.tuple #[.bool (cnB s t), .bool (cnOk s t)]) ∧ Below w.heap.size w w' := by
  have hl : (nmL (split s 47)).length ≤ 1048577 := Nat.le_trans (nmL_len s) (by omega)
  have hl' : (nmL (split t 47)).length ≤ 1048577 := Nat.le_trans (nmL_len t) (by omega)
  cases h1 : nmB (split s 47)
  · have HR := hid (show cnB s t = false by unfold cnB; rw [h1]; rfl)
    have HO := hid (show cnOk s t = false by unfold cnOk; rw [h1]; rfl)
    go_enter Tryz.func236, Tryz.ntmps236
    go_wp2_with fail
    refine (wordsOfName_any s _ hs).mono ?_
    rintro e w1 ⟨v1, rfl, hrow1, hB1⟩
    go_wp2_with fail
    refine (wordsOfName_any t _ ht).mono ?_
    rintro e w2 ⟨v2, rfl, hrow2, hB2⟩
    go_wp2_with fail
    go_ret2
    exact ⟨ret_bools HR.out.symm HO.out.symm, hB1.trans (hB2.mono hB1.size)⟩
  · cases h2 : nmB (split t 47)
    · have HR := hid (show cnB s t = false by unfold cnB; rw [h1, h2]; rfl)
      have HO := hid (show cnOk s t = false by unfold cnOk; rw [h1, h2]; rfl)
      go_enter Tryz.func236, Tryz.ntmps236
      go_wp2_with fail
      refine (wordsOfName_any s _ hs).mono ?_
      rintro e w1 ⟨v1, rfl, hrow1, hB1⟩
      go_wp2_with fail
      refine (wordsOfName_any t _ ht).mono ?_
      rintro e w2 ⟨v2, rfl, hrow2, hB2⟩
      go_wp2_with fail
      go_ret2
      exact ⟨ret_bools HR.out.symm HO.out.symm, hB1.trans (hB2.mono hB1.size)⟩
    · have HR := hid (show cnB s t = cvB (nmL (split s 47)) (nmL (split t 47)) by rw [nmL_yes h1, nmL_yes h2]; unfold cnB; rw [h1, h2]; rfl)
      have HO := hid (show cnOk s t = true by unfold cnOk; rw [h1, h2]; rfl)
      go_enter Tryz.func236, Tryz.ntmps236
      go_wp2_with fail
      refine (wordsOfName_any s _ hs).mono ?_
      rintro e w1 ⟨v1, rfl, hrow1, hB1⟩
      go_wp2_with fail
      refine (wordsOfName_any t _ ht).mono ?_
      rintro e w2 ⟨v2, rfl, hrow2, hB2⟩
      go_wp2_with fail
      refine (coversWords_any _ _ _ _ _ _ _ hl hl' (ownsRow_below hrow1 hB2) hrow2).mono ?_
      rintro e w3 ⟨rfl, hB3⟩
      go_wp2_with fail
      go_ret2
      exact ⟨ret_bools HR.out.symm HO.out.symm, (hB1.trans (hB2.mono hB1.size)).trans (hB3.mono (Nat.le_trans hB1.size hB2.size))⟩

end Go.Proofs.YtnbojbcljfiamaaGreatDoor

namespace Go.Proofs.YtnbojbcljfiamaaGreatDoor
open Go.RowKit Go.Shelf

theorem ws_not2 {x : ByteArray} (h : wsB x = true) : star2B x = false := by
  cases h2 : star2B x with
  | false => rfl
  | true => rw [star2_not_ws x h2] at h; cases h
theorem cw_st {x u : ByteArray} (h : wsB u = true) : cwB x u = stB x u := by
  unfold cwB stB
  rw [ws_not2 h, Bool.not_false, Bool.and_true, Bool.or_comm]
theorem cv_names {x y u v : ByteArray} (h : nmB [x, y] = true) (h' : nmB [u, v] = true) : cvB [x, y] [u, v] = (stB x u && stB y v) := by
  rw [nmB_two, Bool.and_eq_true] at h h'
  simp only [cvB, ws_not2 h.1, ws_not2 h.2, cw_st h'.1, cw_st h'.2, Bool.false_or, Bool.and_true]
theorem nm_two {s : ByteArray} (h : nmB (split s 47) = true) : ∃ x y, split s 47 = [x, y] := by
  rw [nmB_eq, Bool.and_eq_true] at h
  exact two_of (of_decide_eq_true h.1)
theorem gn_nm {l : List ByteArray} (h : gnB l = true) : nmB l = true := by
  cases hn : nmB l with
  | true => rfl
  | false => rw [gnB_not l hn] at h; cases h
/-- A name pattern matches a name. -/
def mtnB (s t : ByteArray) : Bool := (cnOk s t && cnB s t) && gnB (split t 47)

set_option maxHeartbeats 1000000 in
theorem implMatchName_any (s t : ByteArray) (w : World) (hs : s.size ≤ 1048576) (ht : t.size ≤ 1048576) :
    Calls Tryz.prog 234 #[.string s, .string t] w fun e w' => e = .returned (.bool (mtnB s t)) ∧ Below w.heap.size w w' := by
  cases h1 : cnOk s t
  · have HR := hid (show mtnB s t = false by unfold mtnB; rw [h1]; rfl)
    go_enter Tryz.func234, Tryz.ntmps234
    go_wp2_with (go_at_call 236; refine (implCoversName_any s t _ hs ht).mono ?_; rintro e w1 ⟨rfl, hB1⟩)
    go_ret
    exact ⟨ret_bool HR.out.symm, hB1⟩
  · cases h2 : cnB s t
    · have HR := hid (show mtnB s t = false by unfold mtnB; rw [h1, h2]; rfl)
      go_enter Tryz.func234, Tryz.ntmps234
      go_wp2_with (go_at_call 236; refine (implCoversName_any s t _ hs ht).mono ?_; rintro e w1 ⟨rfl, hB1⟩)
      go_ret
      exact ⟨ret_bool HR.out.symm, hB1⟩
    · have HR := hid (show mtnB s t = gnB (split t 47) by unfold mtnB; rw [h1, h2]; rfl)
      go_enter Tryz.func234, Tryz.ntmps234
      go_wp2_with (first | (go_at_call 236; refine (implCoversName_any s t _ hs ht).mono ?_; rintro e w1 ⟨rfl, hB1⟩) | (go_at_call 80; refine (implGoodName_any t _ ht).mono ?_; rintro e w2 ⟨rfl, hB2⟩))
      go_ret
      exact ⟨ret_bool HR.out.symm, hB1.trans (hB2.mono hB1.size)⟩

end Go.Proofs.YtnbojbcljfiamaaGreatDoor

namespace Go.Proofs.YtnbojbcljfiamaaGreatDoor
open Go.RowKit Go.Shelf

def cpOk (s t : ByteArray) : Bool := ptBs s && ptBs t
/-- A path pattern covers another. -/
def cpB (s t : ByteArray) : Bool := cpOk s t && cvB (ptLs s) (ptLs t)
/-- A path pattern matches a path. -/
def mtpB (s t : ByteArray) : Bool := (cpOk s t && cpB s t) && gpB t

set_option maxHeartbeats 1000000 in
theorem implCoversPath_any (s t : ByteArray) (w : World) (hs : s.size ≤ 1048576) (ht : t.size ≤ 1048576) :
    Calls Tryz.prog 237 #[.string s, .string t] w fun e w' => e = .returned (.tuple #[.bool (cpB s t), .bool (cpOk s t)]) ∧ Below w.heap.size w w' := by
  have hl : (ptLs s).length ≤ 1048577 := Nat.le_trans (ptLs_len s) (by omega)
  have hl' : (ptLs t).length ≤ 1048577 := Nat.le_trans (ptLs_len t) (by omega)
  cases h1 : ptBs s
  · have HR := hid (show cpB s t = false by unfold cpB cpOk; rw [h1]; rfl)
    have HO := hid (show cpOk s t = false by unfold cpOk; rw [h1]; rfl)
    go_enter Tryz.func237, Tryz.ntmps237
    go_wp2_with fail
    refine (wordsOfPath_any s _ hs).mono ?_
    rintro e w1 ⟨v1, rfl, hrow1, hB1⟩
    go_wp2_with fail
    refine (wordsOfPath_any t _ ht).mono ?_
    rintro e w2 ⟨v2, rfl, hrow2, hB2⟩
    go_wp2_with fail
    go_ret2
    exact ⟨ret_bools HR.out.symm HO.out.symm, hB1.trans (hB2.mono hB1.size)⟩
  · cases h2 : ptBs t
    · have HR := hid (show cpB s t = false by unfold cpB cpOk; rw [h1, h2]; rfl)
      have HO := hid (show cpOk s t = false by unfold cpOk; rw [h1, h2]; rfl)
      go_enter Tryz.func237, Tryz.ntmps237
      go_wp2_with fail
      refine (wordsOfPath_any s _ hs).mono ?_
      rintro e w1 ⟨v1, rfl, hrow1, hB1⟩
      go_wp2_with fail
      refine (wordsOfPath_any t _ ht).mono ?_
      rintro e w2 ⟨v2, rfl, hrow2, hB2⟩
      go_wp2_with fail
      go_ret2
      exact ⟨ret_bools HR.out.symm HO.out.symm, hB1.trans (hB2.mono hB1.size)⟩
    · have HR := hid (show cpB s t = cvB (ptLs s) (ptLs t) by unfold cpB cpOk; rw [h1, h2]; rfl)
      have HO := hid (show cpOk s t = true by unfold cpOk; rw [h1, h2]; rfl)
      go_enter Tryz.func237, Tryz.ntmps237
      go_wp2_with fail
      refine (wordsOfPath_any s _ hs).mono ?_
      rintro e w1 ⟨v1, rfl, hrow1, hB1⟩
      go_wp2_with fail
      refine (wordsOfPath_any t _ ht).mono ?_
      rintro e w2 ⟨v2, rfl, hrow2, hB2⟩
      go_wp2_with fail
      refine (coversWords_any _ _ _ _ _ _ _ hl hl' (ownsRow_below hrow1 hB2) hrow2).mono ?_
      rintro e w3 ⟨rfl, hB3⟩
      go_wp2_with fail
      go_ret2
      exact ⟨ret_bools HR.out.symm HO.out.symm, (hB1.trans (hB2.mono hB1.size)).trans (hB3.mono (Nat.le_trans hB1.size hB2.size))⟩

set_option maxHeartbeats 1000000 in
theorem implMatchPath_any (s t : ByteArray) (w : World) (hs : s.size ≤ 1048576) (ht : t.size ≤ 1048576) :
    Calls Tryz.prog 235 #[.string s, .string t] w fun e w' => e = .returned (.bool (mtpB s t)) ∧ Below w.heap.size w w' := by
  cases h1 : cpOk s t
  · have HR := hid (show mtpB s t = false by unfold mtpB; rw [h1]; rfl)
    go_enter Tryz.func235, Tryz.ntmps235
    go_wp2_with (go_at_call 237; refine (implCoversPath_any s t _ hs ht).mono ?_; rintro e w1 ⟨rfl, hB1⟩)
    go_ret
    exact ⟨ret_bool HR.out.symm, hB1⟩
  · cases h2 : cpB s t
    · have HR := hid (show mtpB s t = false by unfold mtpB; rw [h1, h2]; rfl)
      go_enter Tryz.func235, Tryz.ntmps235
      go_wp2_with (go_at_call 237; refine (implCoversPath_any s t _ hs ht).mono ?_; rintro e w1 ⟨rfl, hB1⟩)
      go_ret
      exact ⟨ret_bool HR.out.symm, hB1⟩
    · have HR := hid (show mtpB s t = gpB t by unfold mtpB; rw [h1, h2]; rfl)
      go_enter Tryz.func235, Tryz.ntmps235
      go_wp2_with (first | (go_at_call 237; refine (implCoversPath_any s t _ hs ht).mono ?_; rintro e w1 ⟨rfl, hB1⟩) | (go_at_call 77; refine (implGoodPath_any t _ ht).mono ?_; rintro e w2 ⟨rfl, hB2⟩))
      go_ret
      exact ⟨ret_bool HR.out.symm, hB1.trans (hB2.mono hB1.size)⟩

theorem ret_slice {a : Option Addr} {n m cap : Nat} {b c : Bool} (h : n = m) (h' : b = c) : Ending.returned (.tuple #[.slice a n cap, .bool b]) = .returned (.tuple #[.slice a m cap, .bool c]) := by rw [h, h']

/-- The end of two stars, and what stands ahead of it. -/
def opB (xs : List ByteArray) : Bool := match xs.getLast? with
  | some x => star2B x
  | none => false
def oL (xs : List ByteArray) : List ByteArray := if opB xs = true then xs.dropLast else xs
theorem opB_last {xs : List ByteArray} (h : 0 < xs.length) : opB xs = star2B (xs[xs.length - 1]'(by omega)) := by
  unfold opB
  rw [List.getLast?_eq_getElem?, List.getElem?_eq_getElem (by omega)]
theorem oL_no {xs : List ByteArray} (h : opB xs = false) : oL xs = xs := if_neg (by rw [h]; exact Bool.false_ne_true)
theorem oL_yes {xs : List ByteArray} (h : opB xs = true) : oL xs = xs.dropLast := if_pos h
theorem oL_len (xs : List ByteArray) : (oL xs).length ≤ xs.length := by
  unfold oL
  split
  · simp
  · exact Nat.le_refl _
theorem oL_at {xs : List ByteArray} {k : Nat} (h : k < (oL xs).length) : (oL xs)[k] = xs[k]'(Nat.lt_of_lt_of_le h (oL_len xs)) := by
  cases ho : opB xs
  · simp [oL_no ho]
  · simp [oL_yes ho]

set_option maxHeartbeats 1000000 in
theorem l1Open_any (a : Option Addr) (cap : Nat) (xs : List ByteArray) (base : Nat) (w : World) (hl : xs.length ≤ 1048577) (hrow : w.ownsRow base 9 1 (.slice a xs.length cap) xs.length (xs.map Value.string)) :
    Calls Tryz.prog 177 #[.slice a xs.length cap] w fun e w' => e = .returned (.tuple #[.slice a (oL xs).length cap, .bool (opB xs)]) ∧ w' = w := by
  by_cases h0 : 0 < xs.length
  · obtain ⟨g, rfl⟩ : ∃ g, a = some ⟨g, 0, none⟩ := by
      rcases hrow.2 with ⟨_, h0⟩ | ⟨g, _, _, hv, _⟩
      · omega
      · cases hv; exact ⟨g, rfl⟩
    have hc := row_cell hrow (xs.length - 1) (by omega)
    have hcap : xs.length ≤ cap := by
      rcases hrow.2 with ⟨_, h0⟩ | ⟨g, _, _, hv, _, _, hle, _⟩
      · omega
      · cases hv; exact hle
    have hb := opB_last h0
    cases ho : opB xs
    · rw [ho] at hb
      have e1 : (xs[xs.length - 1].toList == [42, 42]) = false := hb.symm
      have HL := hid (oL_no ho)
      clear hb
      go_enter Tryz.func177, Tryz.ntmps177
      go_wp2
      go_ret2
      exact ⟨ret_slice (by rw [HL.out]) rfl, rfl⟩
    · rw [ho] at hb
      have e1 : (xs[xs.length - 1].toList == [42, 42]) = true := hb.symm
      have HL := hid (oL_yes ho)
      clear hb
      go_enter Tryz.func177, Tryz.ntmps177
      go_wp2
      go_ret2
      exact ⟨ret_slice (by rw [HL.out]; simp) rfl, rfl⟩
  · have hn : xs = [] := List.eq_nil_of_length_eq_zero (by omega)
    subst hn
    go_enter Tryz.func177, Tryz.ntmps177
    go_wp2
    go_ret2
    exact ⟨rfl, rfl⟩

end Go.Proofs.YtnbojbcljfiamaaGreatDoor

namespace Go.Proofs.YtnbojbcljfiamaaGreatDoor
open Go.RowKit Go.Shelf

/-- The pieces ahead of the end stand for those at their place, k of them. -/
def stTo (p ws : List ByteArray) (k : Nat) : Bool := ((p.zip ws).take k).all (fun q => stB q.1 q.2)
theorem stTo_zero (p ws : List ByteArray) : stTo p ws 0 = true := by simp [stTo]
theorem stTo_succ {p ws : List ByteArray} {k : Nat} (h : k < p.length) (h' : k < ws.length) : stTo p ws (k + 1) = (stTo p ws k && stB p[k] ws[k]) := by
  unfold stTo
  rw [List.take_succ_eq_append_getElem (by rw [List.length_zip]; omega), List.all_append]
  simp
theorem st_all (p ws : List ByteArray) (k : Nat) (h : (p.zip ws).all (fun q => stB q.1 q.2) = true) : stTo p ws k = true := by
  unfold stTo
  rw [List.all_eq_true] at *
  exact fun x hx => h x (List.mem_of_mem_take hx)
theorem st_bad {p ws : List ByteArray} {k : Nat} (_h : k < p.length) (_h' : k < ws.length) (hb : stTo p ws (k + 1) = false) : (p.zip ws).all (fun q => stB q.1 q.2) = false := by
  cases h : (p.zip ws).all (fun q => stB q.1 q.2) with
  | false => rfl
  | true => rw [st_all p ws (k + 1) h] at hb; cases hb
theorem st_end {p ws : List ByteArray} (h : p.length ≤ ws.length) : stTo p ws p.length = (p.zip ws).all (fun q => stB q.1 q.2) := by
  unfold stTo
  rw [List.take_of_length_le (by rw [List.length_zip]; omega)]
def lmB (ps ws : List ByteArray) : Bool := if ws.length < (oL ps).length ∨ ((oL ps).length < ws.length ∧ opB ps = false) then false else ((oL ps).zip ws).all (fun q => stB q.1 q.2)

theorem row_some {w : World} {base cap n k : Nat} {a : Option Addr} {e : TypeId} {xs : List Value} (hrow : w.ownsRow base e 1 (.slice a n cap) n xs) (h : k < n) : ∃ g, a = some ⟨g, 0, none⟩ := by
  rcases hrow.2 with ⟨_, h0⟩ | ⟨g, _, _, hv, _⟩
  · omega
  · cases hv; exact ⟨g, rfl⟩
theorem row_cap {w : World} {base cap n k : Nat} {a : Option Addr} {e : TypeId} {xs : List Value} (hrow : w.ownsRow base e 1 (.slice a n cap) n xs) (h : k < n) : n ≤ cap := by
  rcases hrow.2 with ⟨_, h0⟩ | ⟨g, _, _, hv, _, _, hle, _⟩
  · omega
  · cases hv; exact hle

set_option maxHeartbeats 4000000 in
theorem l1Match_any (s t : ByteArray) (w : World) (hs : s.size ≤ 1048576) (ht : t.size ≤ 1048576) :
    Calls Tryz.prog 163 #[.string s, .string t] w fun e w' => e = .returned (.bool (lmB (wL s) (wL t))) ∧ Below w.heap.size w w' := by
  have hl : (wL s).length ≤ 1048577 := Nat.le_trans (wL_len s) (by omega)
  have hl' : (wL t).length ≤ 1048577 := Nat.le_trans (wL_len t) (by omega)
  have hol := oL_len (wL s)
  by_cases hA : (oL (wL s)).length ≤ (wL t).length
  · have d1 : decide (((wL t).length : Int) < ((oL (wL s)).length : Int)) = false := by simp; omega
    by_cases hC : (oL (wL s)).length < (wL t).length
    · have d2 : decide (((oL (wL s)).length : Int) < ((wL t).length : Int)) = true := by simp; omega
      cases ho : opB (wL s)
      · have HR := hid (show lmB (wL s) (wL t) = false from if_pos (.inr ⟨hC, ho⟩))
        go_enter Tryz.func163, Tryz.ntmps163
        go_wp2_with fail
        refine (l1Words_any s _ hs).mono ?_
        rintro e w1 ⟨v1, rfl, hrow1, hB1⟩
        obtain ⟨a1, cap1, rfl⟩ := ownsRow_len hrow1
        go_wp2_with fail
        refine (l1Words_any t _ ht).mono ?_
        rintro e w2 ⟨v2, rfl, hrow2, hB2⟩
        obtain ⟨a2, cap2, rfl⟩ := ownsRow_len hrow2
        replace hrow1 := ownsRow_below hrow1 hB2
        go_wp2_with fail
        refine (l1Open_any _ _ (wL s) _ _ hl hrow1).mono ?_
        rintro e w3 ⟨rfl, rfl⟩
        go_wp2_with fail
        go_ret
        exact ⟨ret_bool HR.out.symm, hB1.trans (hB2.mono hB1.size)⟩
      · have HL := hid (show lmB (wL s) (wL t) = ((oL (wL s)).zip (wL t)).all (fun q => stB q.1 q.2) from if_neg (by simp [ho]; omega))
        go_enter Tryz.func163, Tryz.ntmps163
        go_wp2_with fail
        refine (l1Words_any s _ hs).mono ?_
        rintro e w1 ⟨v1, rfl, hrow1, hB1⟩
        obtain ⟨a1, cap1, rfl⟩ := ownsRow_len hrow1
        go_wp2_with fail
        refine (l1Words_any t _ ht).mono ?_
        rintro e w2 ⟨v2, rfl, hrow2, hB2⟩
        obtain ⟨a2, cap2, rfl⟩ := ownsRow_len hrow2
        replace hrow1 := ownsRow_below hrow1 hB2
        go_wp2_with fail
        refine (l1Open_any _ _ (wL s) _ _ hl hrow1).mono ?_
        rintro e w3 ⟨rfl, rfl⟩
        go_wp2_with fail
        go_loop [45] (fun i => ∃ k : Nat, k ≤ (oL (wL s)).length ∧ i = .int .i64 k ∧ stTo (oL (wL s)) (wL t) k = true) (fun i => (oL (wL s)).length - (intOf i).toNat)
        case atStart => exact ⟨0, Nat.zero_le _, rfl, stTo_zero _ _⟩
        case round =>
          obtain ⟨k, hk, rfl, hw⟩ := hrel
          have HW := hid hw
          clear hw
          by_cases hlt : k < (oL (wL s)).length
          · have hlt2 : k < (wL t).length := by omega
            have hlt1 : k < (wL s).length := Nat.lt_of_lt_of_le hlt (oL_len _)
            obtain ⟨g, rfl⟩ : ∃ g, a1 = some ⟨g, 0, none⟩ := row_some hrow1 hlt1
            obtain ⟨g2, rfl⟩ : ∃ g, a2 = some ⟨g, 0, none⟩ := row_some hrow2 hlt2
            have hc := row_cell hrow1 k hlt1
            have hc2 := row_cell hrow2 k hlt2
            have hcap := row_cap hrow1 hlt1
            have HS := hid (stTo_succ hlt hlt2)
            rw [oL_at hlt] at HS
            generalize hx : (wL s)[k] = x at *
            generalize hy : (wL t)[k] = y at *
            clear hx hy
            cases b1 : starB x
            · have e1 : (x.toList == [42]) = false := b1
              cases b2 : eqB x y
              · have e2 : (x.toList == y.toList) = false := b2
                have HR := hid (show lmB (wL s) (wL t) = false by rw [HL.out]; exact st_bad hlt hlt2 (by rw [HS.out]; unfold stB; rw [b1, b2]; simp))
                clear b1 b2
                go_wp2
                go_ret
                exact ⟨ret_bool HR.out.symm, hB1.trans (hB2.mono hB1.size)⟩
              · have e2 : (x.toList == y.toList) = true := b2
                have HR := hid (show stTo (oL (wL s)) (wL t) (k + 1) = true by rw [HS.out, HW.out]; unfold stB; rw [b1, b2]; rfl)
                clear b1 b2
                go_wp2
                exact ⟨⟨k + 1, by omega, by go_num, HR.out⟩, by simp [intOf]; omega⟩
            · have e1 : (x.toList == [42]) = true := b1
              have HR := hid (show stTo (oL (wL s)) (wL t) (k + 1) = true by rw [HS.out, HW.out]; unfold stB; rw [b1]; rfl)
              clear b1
              go_wp2
              exact ⟨⟨k + 1, by omega, by go_num, HR.out⟩, by simp [intOf]; omega⟩
          · obtain rfl : k = (oL (wL s)).length := by omega
            have HR := hid (show lmB (wL s) (wL t) = true by rw [HL.out, ← HW.out]; exact (st_end hA).symm)
            go_wp2
            go_ret
            exact ⟨ret_bool HR.out.symm, hB1.trans (hB2.mono hB1.size)⟩
    · have d2 : decide (((oL (wL s)).length : Int) < ((wL t).length : Int)) = false := by simp; omega
      have HL := hid (show lmB (wL s) (wL t) = ((oL (wL s)).zip (wL t)).all (fun q => stB q.1 q.2) from if_neg (by omega))
      go_enter Tryz.func163, Tryz.ntmps163
      go_wp2_with fail
      refine (l1Words_any s _ hs).mono ?_
      rintro e w1 ⟨v1, rfl, hrow1, hB1⟩
      obtain ⟨a1, cap1, rfl⟩ := ownsRow_len hrow1
      go_wp2_with fail
      refine (l1Words_any t _ ht).mono ?_
      rintro e w2 ⟨v2, rfl, hrow2, hB2⟩
      obtain ⟨a2, cap2, rfl⟩ := ownsRow_len hrow2
      replace hrow1 := ownsRow_below hrow1 hB2
      go_wp2_with fail
      refine (l1Open_any _ _ (wL s) _ _ hl hrow1).mono ?_
      rintro e w3 ⟨rfl, rfl⟩
      go_wp2_with fail
      go_loop [45] (fun i => ∃ k : Nat, k ≤ (oL (wL s)).length ∧ i = .int .i64 k ∧ stTo (oL (wL s)) (wL t) k = true) (fun i => (oL (wL s)).length - (intOf i).toNat)
      case atStart => exact ⟨0, Nat.zero_le _, rfl, stTo_zero _ _⟩
      case round =>
        obtain ⟨k, hk, rfl, hw⟩ := hrel
        have HW := hid hw
        clear hw
        by_cases hlt : k < (oL (wL s)).length
        · have hlt2 : k < (wL t).length := by omega
          have hlt1 : k < (wL s).length := Nat.lt_of_lt_of_le hlt (oL_len _)
          obtain ⟨g, rfl⟩ : ∃ g, a1 = some ⟨g, 0, none⟩ := row_some hrow1 hlt1
          obtain ⟨g2, rfl⟩ : ∃ g, a2 = some ⟨g, 0, none⟩ := row_some hrow2 hlt2
          have hc := row_cell hrow1 k hlt1
          have hc2 := row_cell hrow2 k hlt2
          have hcap := row_cap hrow1 hlt1
          have HS := hid (stTo_succ hlt hlt2)
          rw [oL_at hlt] at HS
          generalize hx : (wL s)[k] = x at *
          generalize hy : (wL t)[k] = y at *
          clear hx hy
          cases b1 : starB x
          · have e1 : (x.toList == [42]) = false := b1
            cases b2 : eqB x y
            · have e2 : (x.toList == y.toList) = false := b2
              have HR := hid (show lmB (wL s) (wL t) = false by rw [HL.out]; exact st_bad hlt hlt2 (by rw [HS.out]; unfold stB; rw [b1, b2]; simp))
              clear b1 b2
              go_wp2
              go_ret
              exact ⟨ret_bool HR.out.symm, hB1.trans (hB2.mono hB1.size)⟩
            · have e2 : (x.toList == y.toList) = true := b2
              have HR := hid (show stTo (oL (wL s)) (wL t) (k + 1) = true by rw [HS.out, HW.out]; unfold stB; rw [b1, b2]; rfl)
              clear b1 b2
              go_wp2
              exact ⟨⟨k + 1, by omega, by go_num, HR.out⟩, by simp [intOf]; omega⟩
          · have e1 : (x.toList == [42]) = true := b1
            have HR := hid (show stTo (oL (wL s)) (wL t) (k + 1) = true by rw [HS.out, HW.out]; unfold stB; rw [b1]; rfl)
            clear b1
            go_wp2
            exact ⟨⟨k + 1, by omega, by go_num, HR.out⟩, by simp [intOf]; omega⟩
        · obtain rfl : k = (oL (wL s)).length := by omega
          have HR := hid (show lmB (wL s) (wL t) = true by rw [HL.out, ← HW.out]; exact (st_end hA).symm)
          go_wp2
          go_ret
          exact ⟨ret_bool HR.out.symm, hB1.trans (hB2.mono hB1.size)⟩
  · have d1 : decide (((wL t).length : Int) < ((oL (wL s)).length : Int)) = true := by simp; omega
    have HR := hid (show lmB (wL s) (wL t) = false from if_pos (.inl (by omega)))
    go_enter Tryz.func163, Tryz.ntmps163
    go_wp2_with fail
    refine (l1Words_any s _ hs).mono ?_
    rintro e w1 ⟨v1, rfl, hrow1, hB1⟩
    obtain ⟨a1, cap1, rfl⟩ := ownsRow_len hrow1
    go_wp2_with fail
    refine (l1Words_any t _ ht).mono ?_
    rintro e w2 ⟨v2, rfl, hrow2, hB2⟩
    obtain ⟨a2, cap2, rfl⟩ := ownsRow_len hrow2
    replace hrow1 := ownsRow_below hrow1 hB2
    go_wp2_with fail
    refine (l1Open_any _ _ (wL s) _ _ hl hrow1).mono ?_
    rintro e w3 ⟨rfl, rfl⟩
    go_wp2_with fail
    go_ret
    exact ⟨ret_bool HR.out.symm, hB1.trans (hB2.mono hB1.size)⟩

theorem opB_cons (x y : ByteArray) (r : List ByteArray) : opB (x :: y :: r) = opB (y :: r) := by
  unfold opB
  rw [List.getLast?_cons_cons]
theorem oL_cons (x y : ByteArray) (r : List ByteArray) : oL (x :: y :: r) = x :: oL (y :: r) := by
  unfold oL
  rw [opB_cons]
  split <;> simp
theorem word_ws {x : ByteArray} (h : wordB x = true) : wsB x = true := by simp [wsB, h]
theorem lm_cv (xs : List ByteArray) : ∀ ys : List ByteArray, ptOk xs = true → ys.all wordB = true → lmB xs ys = cvB xs ys := by
  induction xs with
  | nil =>
    intro ys _ _
    cases ys with
    | nil => rfl
    | cons y ys => exact if_pos (.inr ⟨by simp [oL, opB], rfl⟩)
  | cons x r ih =>
    intro ys hx hy
    cases r with
    | nil =>
      cases h2 : star2B x with
      | true =>
        have ho : opB [x] = true := h2
        have hp : oL [x] = [] := oL_yes ho
        have hl : lmB [x] ys = true := by
          unfold lmB
          rw [hp, ho, if_neg (by simp)]
          rfl
        rw [hl]
        cases ys with
        | nil => exact h2.symm
        | cons y ys => simp [cvB, h2]
      | false =>
        have ho : opB [x] = false := h2
        have hp : oL [x] = [x] := oL_no ho
        unfold lmB
        rw [hp, ho]
        cases ys with
        | nil => rw [if_pos (.inl (by simp))]; exact h2.symm
        | cons y ys =>
          simp only [List.all_cons, Bool.and_eq_true] at hy
          cases ys with
          | nil => rw [if_neg (by simp)]; simp [cvB, h2, cw_st (word_ws hy.1)]
          | cons z ys => rw [if_pos (.inr ⟨by simp, rfl⟩)]; simp [cvB, h2]
    | cons z r =>
      have h2 : star2B x = false := by
        cases h : star2B x with
        | false => rfl
        | true => simp [ptOk, h] at hx
      have hx' : ptOk (z :: r) = true := by
        rw [ptOk, if_neg (by rw [h2]; exact Bool.false_ne_true), Bool.and_eq_true] at hx
        exact hx.2
      cases ys with
      | nil =>
        unfold lmB
        rw [oL_cons, if_pos (.inl (by simp))]
        exact h2.symm
      | cons y ys =>
        simp only [List.all_cons, Bool.and_eq_true] at hy
        have := ih ys hx' hy.2
        have hs : lmB (x :: z :: r) (y :: ys) = (stB x y && lmB (z :: r) ys) := by
          unfold lmB
          rw [oL_cons, opB_cons]
          by_cases hc : ys.length < (oL (z :: r)).length ∨ ((oL (z :: r)).length < ys.length ∧ opB (z :: r) = false)
          · rw [if_pos hc, if_pos (by simpa using hc), Bool.and_false]
          · rw [if_neg hc, if_neg (by simpa using hc)]
            rfl
        rw [hs, this, cvB, h2, Bool.false_or, cw_st (word_ws hy.1)]
theorem mt_lm {s t : ByteArray} (h1 : ptBs s = true) (h2 : gpB t = true) : mtpB s t = lmB (wL s) (wL t) := by
  have h3 : ptBs t = true := by unfold gpB at h2; rw [Bool.and_eq_true] at h2; exact h2.1
  have h4 : (ptLs t).all wordB = true := by unfold gpB at h2; rw [Bool.and_eq_true] at h2; exact h2.2
  have e1 : ptLs s = wL s := by unfold ptLs; rw [if_pos h1]; rfl
  have e2 : ptLs t = wL t := by unfold ptLs; rw [if_pos h3]; rfl
  have h5 : ptOk (wL s) = true := by
    cases hp : pathPs s with
    | none => rw [ptBs_none hp] at h1; cases h1
    | some l =>
      rw [ptBs_some hp, ptB_eq, Bool.and_eq_true] at h1
      rw [wL_some hp]
      exact h1.1
  rw [lm_cv (wL s) (wL t) h5 (by rw [← e2]; exact h4)]
  unfold mtpB cpB cpOk
  rw [h1, h2, h3, e1, e2]
  simp

end Go.Proofs.YtnbojbcljfiamaaGreatDoor

namespace Go.Proofs.YtnbojbcljfiamaaGreatDoor
open Go.RowKit Go.Shelf

theorem infoIntP : (Tryz.prog.info? 3).map (fun i => (i.zero, i.size, i.bytes)) = some (some (.int .i64 0), 1, 8) := by kernel_rfl
/-- Numbers of rules in memory. -/
abbrev ints (l : List Nat) : List Value := l.map (fun k : Nat => Value.int .i64 (k : Int))

set_option maxHeartbeats 1000000 in
theorem l2All_any (v : Value) (rs : List Ru) (w : World) (hm : rs.length ≤ 1048577) (hr : RuS w v rs) :
    Calls Tryz.prog 107 #[v] w fun e w' => ∃ v', e = .returned v' ∧ w'.ownsRow w.heap.size 3 1 v' (List.range rs.length).length (ints (List.range rs.length)) ∧ Below w.heap.size w w' := by
  obtain ⟨a, cap, rfl⟩ := hr.len
  obtain ⟨i0, hi, hz0, hz1, hz2⟩ := info_parts infoIntP
  go_enter Tryz.func107, Tryz.ntmps107
  go_wp2
  go_loopw [3, 7] (fun out i wr => ∃ k : Nat, k ≤ rs.length ∧ i = .int .i64 k ∧ wr.ownsRow w.heap.size 3 1 out (List.range k).length (ints (List.range k)) ∧ Below w.heap.size w wr) (fun _ i _ => rs.length - (intOf i).toNat)
  case atStart => exact ⟨0, Nat.zero_le _, rfl, World.ownsRow_nil _ _ _ _, Below.refl _ _⟩
  case round =>
    obtain ⟨k, hk, rfl, hrow, hB⟩ := hrel
    have hz := hB.size
    have hl : (List.range k).length = k := List.length_range
    have hl1 : (List.range k).length ≤ k := by omega
    have HL := hid hl
    clear hl
    by_cases hlt : k < rs.length
    · go_wp2_with (at_builtin; refine wpList_append_own _ rfl _ _ 23 rfl w.heap.size 3 i0 (.int .i64 0) 1 8 Tryz.underlying23 hi hz0 hz1 hz2 rfl (by decide) _ _ _ rfl (hrow.alloc _) ⟨wr.heap.size, 0, none⟩ 1 1 [.int .i64 (k : Int)] rfl rfl (cell_one_new _ _ _) (by simp [Value.oneCell']) (by simp [maxLen]; omega) (by omega) (by simp; omega) ?_; intro v' w1 hown' hgrow _; obtain ⟨g', cap', rfl⟩ := ownsRow_succ hown')
      go_roundw
      case rel =>
        refine ⟨k + 1, by omega, by go_num, ?_, hB.trans (below_appended hz hrow hgrow)⟩
        rw [List.range_succ]
        simpa [ints] using hown'
      case measure => simp [intOf]; omega
    · obtain rfl : k = rs.length := by omega
      go_wp2
      go_ret
      exact ⟨_, rfl, hrow, hB⟩

/-- The first word of a path or a pattern. -/
def fstB (s : ByteArray) : ByteArray := match wL s with
  | [] => ⟨#[]⟩
  | x :: _ => x
theorem fstB_at {s : ByteArray} (h : 0 < (wL s).length) : fstB s = (wL s)[0] := by
  unfold fstB
  split
  · rename_i h'; rw [h'] at h; simp at h
  · rename_i x r h'; simp [h']
theorem fstB_nil {s : ByteArray} (h : (wL s).length = 0) : fstB s = ⟨#[]⟩ := by
  unfold fstB
  rw [List.eq_nil_of_length_eq_zero h]

end Go.Proofs.YtnbojbcljfiamaaGreatDoor

namespace Go.Proofs.YtnbojbcljfiamaaGreatDoor
open Go.RowKit Go.Shelf

/-- A rule stands in the index of a word. -/
def idxF (f wd : ByteArray) : Bool := (eqB f wd || star2B f) || (starB f && !wd.toList.isEmpty)
def idxAt (rs : List Ru) (wd : ByteArray) (k : Nat) : Bool := match rs[k]? with
  | some r => idxF (fstB r.path) wd
  | none => false
def idxTo (rs : List Ru) (wd : ByteArray) (k : Nat) : List Nat := (List.range k).filter (idxAt rs wd)
theorem idxAt_lt {rs : List Ru} {wd : ByteArray} {k : Nat} (h : k < rs.length) : idxAt rs wd k = idxF (fstB rs[k].path) wd := by
  unfold idxAt
  rw [List.getElem?_eq_getElem h]
theorem idx_yes {rs : List Ru} {wd : ByteArray} {k : Nat} (_h : k < rs.length) (h : idxAt rs wd k = true) : idxTo rs wd (k + 1) = idxTo rs wd k ++ [k] := by
  unfold idxTo
  rw [List.range_succ, List.filter_append]
  simp [h]
theorem idx_no {rs : List Ru} {wd : ByteArray} {k : Nat} (_h : k < rs.length) (h : idxAt rs wd k = false) : idxTo rs wd (k + 1) = idxTo rs wd k := by
  unfold idxTo
  rw [List.range_succ, List.filter_append]
  simp [h]
theorem idx_len (rs : List Ru) (wd : ByteArray) (k : Nat) : (idxTo rs wd k).length ≤ k := by
  unfold idxTo
  exact Nat.le_trans (List.length_filter_le _ _) (by simp)
theorem fst_size {s : ByteArray} : (fstB s).size ≤ s.size := by
  unfold fstB
  split
  · exact Nat.zero_le _
  · rename_i x r h
    exact wL_mem (by rw [h]; simp)

/-- A rule speaks of a call. -/
def spkB (r : Ru) (c : Ca) : Bool := (mnB (split r.who 47) (split c.who 47) && lmB (wL r.path) (wL c.path)) && (starB r.method || eqB r.method c.method)

set_option maxHeartbeats 2000000 in
theorem l2Speaks_any (r : Ru) (c : Ca) (w : World) (hr : r.size ≤ 1048576) (hc : c.size ≤ 1048576) (h1 : nmB (split r.who 47) = true) (h2 : nmB (split c.who 47) = true) :
    Calls Tryz.prog 136 #[r.val, c.val] w fun e w' => e = .returned (.bool (spkB r c)) ∧ Below w.heap.size w w' := by
  obtain ⟨x, y, he⟩ := nm_two h1
  obtain ⟨u, v, hf⟩ := nm_two h2
  have hw1 : r.who.size ≤ 1048576 := by unfold Ru.size at hr; omega
  have hw2 : c.who.size ≤ 1048576 := by unfold Ca.size at hc; omega
  have hp1 : r.path.size ≤ 1048576 := by unfold Ru.size at hr; omega
  have hp2 : c.path.size ≤ 1048576 := by unfold Ca.size at hc; omega
  have HM := hid (show mnB (split r.who 47) (split c.who 47) = (stB x u && stB y v) by rw [he, hf]; rfl)
  have HE := hid he
  have HF := hid hf
  clear he hf h1 h2
  cases m1 : (stB x u && stB y v)
  · have HR := hid (show spkB r c = false by unfold spkB; rw [HM.out, m1]; rfl)
    go_enter Tryz.func136, Tryz.ntmps136
    go_wp2_with (go_at_call 162; refine (l1MatchName_any r.who c.who _ hw1 hw2 x y u v HE.out HF.out).mono ?_; rintro e w1 ⟨rfl, hB1⟩; rw [m1])
    go_ret
    exact ⟨ret_bool HR.out.symm, below_one (((Below.refl _ w).alloc (Nat.le_refl _) _).alloc (by simp) _) hB1⟩
  · cases m2 : lmB (wL r.path) (wL c.path)
    · have HR := hid (show spkB r c = false by unfold spkB; rw [HM.out, m1, m2]; rfl)
      go_enter Tryz.func136, Tryz.ntmps136
      go_wp2_with (first | (go_at_call 162; refine (l1MatchName_any r.who c.who _ hw1 hw2 x y u v HE.out HF.out).mono ?_; rintro e w1 ⟨rfl, hB1⟩; rw [m1]; obtain ⟨hc1, hf1⟩ := bcell hB1; have hz : w.heap.size + 1 < w1.heap.size := (by have := hB1.size; simp at this; omega); have hz0 : w.heap.size < w1.heap.size := (by omega)) | (go_at_call 163; refine (l1Match_any r.path c.path _ hp1 hp2).mono ?_; rintro e w2 ⟨rfl, hB2⟩; rw [m2]))
      go_ret
      exact ⟨ret_bool HR.out.symm, below_two (((Below.refl _ w).alloc (Nat.le_refl _) _).alloc (by simp) _) hB1 hB2⟩
    · cases m3 : starB r.method
      · have e3 : (r.method.toList == [42]) = false := m3
        have HR := hid (show spkB r c = eqB r.method c.method by unfold spkB; rw [HM.out, m1, m2, m3]; rfl)
        clear m3
        go_enter Tryz.func136, Tryz.ntmps136
        go_wp2_with (first | (go_at_call 162; refine (l1MatchName_any r.who c.who _ hw1 hw2 x y u v HE.out HF.out).mono ?_; rintro e w1 ⟨rfl, hB1⟩; rw [m1]; obtain ⟨hc1, hf1⟩ := bcell hB1; have hz : w.heap.size + 1 < w1.heap.size := (by have := hB1.size; simp at this; omega); have hz0 : w.heap.size < w1.heap.size := (by omega)) | (go_at_call 163; refine (l1Match_any r.path c.path _ hp1 hp2).mono ?_; rintro e w2 ⟨rfl, hB2⟩; rw [m2]; obtain ⟨hc2, hf2⟩ := bcell hB2))
        go_ret
        exact ⟨ret_bool HR.out.symm, below_two (((Below.refl _ w).alloc (Nat.le_refl _) _).alloc (by simp) _) hB1 hB2⟩
      · have e3 : (r.method.toList == [42]) = true := m3
        have HR := hid (show spkB r c = true by unfold spkB; rw [HM.out, m1, m2, m3]; rfl)
        clear m3
        go_enter Tryz.func136, Tryz.ntmps136
        go_wp2_with (first | (go_at_call 162; refine (l1MatchName_any r.who c.who _ hw1 hw2 x y u v HE.out HF.out).mono ?_; rintro e w1 ⟨rfl, hB1⟩; rw [m1]; obtain ⟨hc1, hf1⟩ := bcell hB1; have hz : w.heap.size + 1 < w1.heap.size := (by have := hB1.size; simp at this; omega); have hz0 : w.heap.size < w1.heap.size := (by omega)) | (go_at_call 163; refine (l1Match_any r.path c.path _ hp1 hp2).mono ?_; rintro e w2 ⟨rfl, hB2⟩; rw [m2]; obtain ⟨hc2, hf2⟩ := bcell hB2))
        go_ret
        exact ⟨ret_bool HR.out.symm, below_two (((Below.refl _ w).alloc (Nat.le_refl _) _).alloc (by simp) _) hB1 hB2⟩

end Go.Proofs.YtnbojbcljfiamaaGreatDoor
