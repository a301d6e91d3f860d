/-
  The law FnTokens, walked.
-/
import Derived.Test.YtecgonopefeplaaGreatDoorTkwM
import Derived.Test.YtecgonopefeplaaGreatDoorChkT
import Derived.Test.YtecgonopefeplaaGreatDoorRdT
import Derived.Test.YtecgonopefeplaaGreatDoorSameL
namespace Go.Proofs.YtecgonopefeplaaGreatDoor
open Go.RowKit Go.Shelf

theorem VS.nils (w : World) : VS w (.slice none 0 0) (nums []) := .inl ⟨none, 0, rfl, rfl⟩
theorem VS.oneN (w : World) (z : Int) : VS (w.alloc (.cells #[.int .i64 z] 3)) (.slice (some ⟨w.heap.size, 0, none⟩) 1 1) (nums [z]) :=
  .inr ⟨w.heap.size, 0, 1, rfl, by simp, Nat.le_refl _, fun i hi => by
    obtain rfl : i = 0 := by simpa using hi
    simp⟩
theorem VS.tailS {w : World} {g n c : Nat} {ss : List ByteArray} (h : VS w (.slice (some ⟨g, 0, none⟩) n c) (strs ss)) : VS w (.slice (if c = 1 then some ⟨g, 0, none⟩ else some ⟨g, 1, none⟩) (n - 1) (c - 1)) (strs (ss.drop 1)) := by
  rcases h with ⟨_, _, hv, hn⟩ | ⟨b, off, cap, hv, hb, hl, hc⟩
  · cases hv
    have : ss = [] := List.map_eq_nil_iff.1 hn
    subst this
    exact .inl ⟨_, _, rfl, rfl⟩
  · cases hv
    have hle : (strs (ss.drop 1)).length = (strs ss).length - 1 := by rw [strs_len, List.length_drop, strs_len]
    by_cases h1 : c = 1
    · subst h1
      refine .inl ⟨_, _, by rw [show (strs ss).length - 1 = 0 by omega], List.eq_nil_of_length_eq_zero (by omega)⟩
    · refine .inr ⟨g, 1, c - 1, by rw [if_neg h1, hle], hb, by omega, fun i hi => ?_⟩
      rw [strs_len, List.length_drop] at hi
      have := hc (1 + i) (by rw [strs_len]; omega)
      rw [Nat.zero_add] at this
      rw [this]
      simp [strs, Nat.add_comm]

set_option maxHeartbeats 8000000 in
set_option maxRecDepth 100000 in
theorem tokensWalk (a a' : Option Addr) (n c n' c' : Nat) (w : World) (m0 : Int) (hle : n ≤ c) (hle' : n' ≤ c') (hs : n + n' ≤ 1048576) (hB : ByS w a n) (hB' : ByS w a' n') (hap : ∀ p, a = some p → p.block < w.heap.size) (hmx : w.cell? ⟨0, 0, none⟩ = some (.int .i64 m0)) (hE : Errs w) (ht : Tab w) :
    Calls Tryz.prog 3 #[.slice a n c, .slice a' n' c'] w fun e w' => e = .returned (.bool true) ∧ Below w.heap.size w w' := by
  have h0 := ml_lt3 hmx
  have HTB := hid ht
  have HEB := hid hE
  have HM := hid hmx
  have HB' := hid hB'
  clear ht hE hmx hB'
  have d1 : decide ((n : Int) + (n' : Int) > 1048576) = false := by simp; omega
  go_enter Tryz.func3, Tryz.ntmps3
  go_wp2_with fail
  refine (drawTT_any a n c w hle hB hap).mono ?_
  rintro e w1 ⟨v, ks, rfl, hlen, hsm, hr1, hB1⟩
  clear hB hap
  obtain ⟨av, cv, rfl⟩ := hr1.len
  have hf : ∀ k ∈ ks, k.size ≤ 1048576 := fun k hk => (hsm k hk).fits
  have hm : ks.length ≤ 1048577 := by omega
  cases hg : tkB ks
  · have HX := hid (ttX_no hg)
    go_wp2_with fail
    refine (implTokenText_any _ ks _ hm hf hr1 (HTB.out.on hB1)).mono ?_
    rintro e w2 ⟨rfl, hB2⟩
    rw [hg, HX.out]
    have hr2 := hr1.below hB2
    have hBB2 := below_one hB1 hB2
    go_wp2_with fail
    refine (specTokenText_any _ ks _ hm hf hr2).mono ?_
    rintro e w3 ⟨rfl, hB3⟩
    rw [hg, HX.out]
    have hBB3 := below_one hBB2 hB3
    go_wp2_with fail
    go_ret
    exact ⟨rfl, hBB3⟩
  · have HX := hid (ttX_yes hg)
    have HSm := hid hsm
    have HG := hid hg
    have hlk := tkB_len hg
    have hss := tt_short hg hsm
    have HRd := hid (rdIm_back hg)
    have HSL := hid (sig_len hg)
    have HSY := hid (sigL_yes hg)
    have HCL := hid (cal_len hg)
    go_wp2_with fail
    refine (implTokenText_any _ ks _ hm hf hr1 (HTB.out.on hB1)).mono ?_
    rintro e w2 ⟨rfl, hB2⟩
    rw [hg, HX.out]
    generalize tkT ks = s at *
    have hr2 := hr1.below hB2
    have hBB2 := below_one hB1 hB2
    clear hr1 hB1 hB2
    go_wp2_with fail
    refine (specTokenText_any _ ks _ hm hf hr2).mono ?_
    rintro e w3 ⟨rfl, hB3⟩
    rw [hg, HX.out]
    have hr3 := hr2.below hB3
    have hBB3 := below_one hBB2 hB3
    clear hr2 hB3 hBB2
    go_wp2_with fail
    refine (implReadToken_any s m0 _ hss ((hBB3.cell (p := ⟨0, 0, none⟩) h0).trans HM.out) (HEB.out.on hBB3) (HTB.out.on hBB3)).mono ?_
    rintro e w4 ⟨v4, rfl, hrd, hB4⟩
    rw [HRd.out] at hrd ⊢
    simp only at hrd
    have hr4 := hr3.below hB4
    have hBB4 := below_one hBB3 hB4
    have hq4 := LkS.own hrd
    obtain ⟨ard, crd, rfl⟩ := ownsRow_len hrd
    clear hr3 hBB3 hB4 hrd
    go_wp2_with fail
    refine (implSignedOf_any _ ks _ hm hf hr4 (HTB.out.on hBB4)).mono ?_
    rintro e w5 ⟨v5, rfl, hsg, hB5⟩
    have hvs := VS.ownS hsg
    rw [HSL.out] at hsg
    rw [HSY.out] at hvs
    rw [hg]
    have hr5 := hr4.below hB5
    have hq5 := hq4.below hB5
    have hBB5 := below_one hBB4 hB5
    rcases row_form hsg with ⟨_, hl0⟩ | ⟨g, cg, rfl, _, hcg⟩
    · omega
    clear hr4 hq4 hBB4 hB5 hsg
    go_wp2_with fail
    refine (implCallersOf_any _ ks _ hm hf hr5).mono ?_
    rintro e w6 ⟨v6, rfl, hca, hB6⟩
    rw [HCL.out] at hca
    rw [hg]
    have hr6 := hr5.below hB6
    have hq6 := hq5.below hB6
    have hvs6 := hvs.below hB6
    have hBB6 := below_one hBB5 hB6
    obtain ⟨aca, cca, rfl⟩ := ownsRow_len hca
    clear hr5 hq5 hvs hBB5 hB6 hca
    go_wp2_with fail
    refine (sameLinks_any _ _ ks _ hm hr6 hq6).mono ?_
    rintro e w7 ⟨rfl, hB7⟩
    have hr7 := hr6.below hB7
    have hvs7 := hvs6.below hB7
    have hBB7 := below_one hBB6 hB7
    clear hr6 hq6 hvs6 hBB6 hB7
    go_wp2_with fail
    refine (numberOf_any a' n' c' _ hle' (HB'.out.below hBB7)).mono ?_
    rintro e w8 ⟨x, hx, rfl, hB8⟩
    have hr8 := hr7.below hB8
    have hvs8 := hvs7.below hB8
    have hBB8 := below_one hBB7 hB8
    clear hr7 hvs7 hBB7 hB8
    obtain ⟨y, hy, he⟩ : ∃ y : Nat, y ≤ 99 ∧ (x : Int) % 100 = (y : Int) := ⟨x % 100, by omega, by omega⟩
    obtain ⟨m, hmm⟩ : ∃ m, m = ks.length - 1 := ⟨_, rfl⟩
    have hml : m < ks.length := by omega
    have hw1 : IntKind.i64.wrap ((ks.length : Int) - 1) = (m : Int) := by rw [IntKind.wrap_i64]; omega
    have hw2 : (m : Int) < (ks.length : Int) := by omega
    have HC1 := hid (chk_whole hg hy hml hmm)
    have HC2 := hid (chk_tail hg hy hml)
    have HC3 := hid (chk_rev hg hy hml)
    have HC4 := hid (chk_else hg HSm.out hy hml hmm)
    have HAS := hid (last_name hg hml)
    have hqs := (HSm.out _ (List.getElem_mem hml)).2.1
    obtain ⟨sg, hsge⟩ : ∃ sg, sg = sgTo ks ks.length := ⟨_, rfl⟩
    have HSG := hid (show sg.length = ks.length by rw [hsge, sgTo_len])
    have HSE := hid hsge
    rw [← hsge] at hvs8
    have HCK : Hid (∀ (W : World) (v1 v3 : Value) (ss : List ByteArray) (zs : List Int) (at_ : ByteArray), ss.length ≤ 1048577 → zs.length ≤ 1048577 → at_.size ≤ 1048576 → LkS W (.slice av ks.length cv) ks → VS W v1 (strs ss) → VS W v3 (nums zs) → Tab W → Calls Tryz.prog 12 #[.slice av ks.length cv, v1, .int .i64 (y : Int), v3, .string at_] W fun e w' => e = .returned (.int .i64 (chkX ks sg ss y zs at_)) ∧ Below W.heap.size W w') :=
      hid (fun W v1 v3 ss zs at_ h1 h2 h3 h4 h5 h6 h7 => by rw [hsge]; exact implCheckToken_any _ v1 v3 ks ss y zs at_ W hm h1 h2 h3 hf h4 h5 h6 h7)
    rw [← hsge] at HC1 HC2 HC3 HC4
    clear hsge hmm hx
    obtain ⟨b, off, rfl, hb, hcap, q0, q1, q2, q3, q4⟩ := hr8.at hml
    generalize ks[m] = q at *
    go_upto_region 18 with fail
    have hBa : Below w8.heap.size w8 (w8.alloc (.cells #[.string q.who, .string q.to, .int .i64 q.se, .int .i64 q.fr, .int .i64 q.un] 35)) := (Below.refl _ w8).alloc (Nat.le_refl _) _
    have hr9 := hr8.below hBa
    have hvs9 := hvs8.below hBa
    have hBB9 := below_one hBB8 hBa
    have x1 : (w8.alloc (.cells #[.string q.who, .string q.to, .int .i64 q.se, .int .i64 q.fr, .int .i64 q.un] 35)).cell? ⟨w8.heap.size, 1, none⟩ = some (.string q.to) := by simp
    have x2 : (w8.alloc (.cells #[.string q.who, .string q.to, .int .i64 q.se, .int .i64 q.fr, .int .i64 q.un] 35)).cell? ⟨w8.heap.size, 2, none⟩ = some (.int .i64 q.se) := by simp
    have hNl : w8.heap.size < (w8.alloc (.cells #[.string q.who, .string q.to, .int .i64 q.se, .int .i64 q.fr, .int .i64 q.un] 35)).heap.size := by simp
    clear hr8 hvs8 hBB8 hBa q0 q1 q2 q3 q4
    generalize w8.alloc (.cells #[.string q.who, .string q.to, .int .i64 q.se, .int .i64 q.fr, .int .i64 q.un] 35) = w9 at *
    generalize w8.heap.size = N at *
    go_wp2_with fail
    go_loopw [18, 107] (fun sv i wr => ∃ j : Nat, j ≤ ks.length ∧ i = .int .i64 j ∧ sv = .int .i64 (shTo ks y j) ∧ Below w9.heap.size w9 wr) (fun _ i _ => ks.length - (intOf i).toNat)
    case atStart => exact ⟨0, Nat.zero_le _, rfl, by rw [shTo_zero], Below.refl _ _⟩
    case round =>
      obtain ⟨j, hj, rfl, rfl, hBl⟩ := hrel
      by_cases hlt : j < ks.length
      · obtain ⟨b', off', he', _, _, p0, p1, p2, p3, p4⟩ := (hr9.below hBl).at hlt
        cases he'
        cases ht : tmIn ks[j] y
        · have HS := hid (shTo_out hlt ht)
          generalize ks[j] = k at *
          have hA : Below wr.heap.size wr (wr.alloc (.cells #[.string k.who, .string k.to, .int .i64 k.se, .int .i64 k.fr, .int .i64 k.un] 35)) := (Below.refl _ wr).alloc (Nat.le_refl _) _
          have hBn := below_one hBl hA
          clear hA
          unfold tmIn at ht
          by_cases c1 : (y : Int) < k.fr
          · have e1 : decide ((y : Int) < k.fr) = true := decide_eq_true c1
            clear ht
            go_wp2
            go_roundw
            case rel => exact ⟨j + 1, by omega, by go_num, by rw [HS.out], hBn⟩
            case measure => simp [intOf]; omega
          · have e1 : decide ((y : Int) < k.fr) = false := decide_eq_false c1
            have e2 : decide ((y : Int) > k.un) = true := decide_eq_true (by have := of_decide_eq_false ht; omega)
            clear ht
            go_wp2
            go_roundw
            case rel => exact ⟨j + 1, by omega, by go_num, by rw [HS.out], hBn⟩
            case measure => simp [intOf]; omega
        · have HS := hid (shTo_in hlt ht)
          generalize ks[j] = k at *
          have hA : Below wr.heap.size wr (wr.alloc (.cells #[.string k.who, .string k.to, .int .i64 k.se, .int .i64 k.fr, .int .i64 k.un] 35)) := (Below.refl _ wr).alloc (Nat.le_refl _) _
          have hBn := below_one hBl hA
          clear hA
          unfold tmIn at ht
          have ht' := of_decide_eq_true ht
          have e1 : decide ((y : Int) < k.fr) = false := decide_eq_false (by omega)
          have e2 : decide ((y : Int) > k.un) = false := decide_eq_false (by omega)
          clear ht ht'
          go_wp2
          go_roundw
          case rel => exact ⟨j + 1, by omega, by go_num, by rw [HS.out], hBn⟩
          case measure => simp [intOf]; omega
      · obtain rfl : j = ks.length := by omega
        have hBd : Below w9.heap.size w9 wr.drew := hBl.drew
        have hL0 := hr9.below hBd
        have hV0 := hvs9.below hBd
        have hBW := below_one hBB9 hBd
        have hT0 := HTB.out.on hBW
        have z1 := (hBd.cell (p := ⟨N, 1, none⟩) hNl).trans x1
        have z2 := (hBd.cell (p := ⟨N, 2, none⟩) hNl).trans x2
        have hNr : N < wr.drew.heap.size := Nat.lt_of_lt_of_le hNl hBd.size
        have hK0 : (fun w' => LkS w' (.slice (some ⟨b, off, none⟩) ks.length cv) ks ∧ VS w' (.slice (some ⟨g, 0, none⟩) ks.length cg) (strs sg) ∧ Tab w' ∧ w'.cell? ⟨N, 1, none⟩ = some (.string q.to) ∧ w'.cell? ⟨N, 2, none⟩ = some (.int .i64 q.se) ∧ Below w.heap.size w w') wr.drew := ⟨hL0, hV0, hT0, z1, z2, hBW⟩
        have hls : (1 : Int) ≤ (ks.length : Int) := by omega
        have hsl : sg.length ≤ 1048577 := by have := HSG.out; omega
        clear hL0 hV0 hT0 z1 z2 hBW hBd hr9 hvs9 hBB9 x1 x2
        generalize shTo ks y ks.length = sh at *
        go_wp2_with fail
        refine wp_region_held_drew (S := fun w' => LkS w' (.slice (some ⟨b, off, none⟩) ks.length cv) ks ∧ VS w' (.slice (some ⟨g, 0, none⟩) ks.length cg) (strs sg) ∧ Tab w' ∧ w'.cell? ⟨N, 1, none⟩ = some (.string q.to) ∧ w'.cell? ⟨N, 2, none⟩ = some (.int .i64 q.se) ∧ Below w.heap.size w w') (by kernel_rfl) ?_ (fun hHeld => ?_)
        · first | exact hK2 | exact hK1 | exact hK0
        refine takeW 0 (v := ?v1) rfl (by kernel_rfl) (by kernel_rfl) (by kernel_rfl) (fun _ _ _ h => h) (by rfl) (by assumption) ?hy1 ?rest1
        case hy1 => intro w' hSw; (try dsimp only at hSw); go_simp; try with_reducible rfl
        try simp only [Act.put, List.setIfInBounds_toArray, List.set_cons_zero, List.set_cons_succ]
        refine takeW 1 (v := ?v2) rfl (by kernel_rfl) (by kernel_rfl) (by kernel_rfl) (fun _ _ _ h => h) (by rfl) (by assumption) ?hy2 ?rest2
        case hy2 => intro w' hSw; (try dsimp only at hSw); go_simp; try with_reducible rfl
        try simp only [Act.put, List.setIfInBounds_toArray, List.set_cons_zero, List.set_cons_succ]
        refine takeW 2 (v := ?v3) rfl (by kernel_rfl) (by kernel_rfl) (by kernel_rfl) (fun _ _ _ h => h) (by rfl) (by assumption) ?hy3 ?rest3
        case hy3 => intro w' hSw; (try dsimp only at hSw); go_simp; try with_reducible rfl
        try simp only [Act.put, List.setIfInBounds_toArray, List.set_cons_zero, List.set_cons_succ]
        refine takeW 3 (v := ?v4) rfl (by kernel_rfl) (by kernel_rfl) (by kernel_rfl) (fun _ _ _ h => h) (by rfl) (by assumption) ?hy4 ?rest4
        case hy4 => intro w' hSw; (try dsimp only at hSw); go_simp; try with_reducible rfl
        try simp only [Act.put, List.setIfInBounds_toArray, List.set_cons_zero, List.set_cons_succ]
        refine takeW 4 (v := ?v5) rfl (by kernel_rfl) (by kernel_rfl) (by kernel_rfl) (fun _ _ _ h => h) (by rfl) (by assumption) ?hy5 ?rest5
        case hy5 => intro w' hSw; (try dsimp only at hSw); go_simp; try with_reducible rfl
        try simp only [Act.put, List.setIfInBounds_toArray, List.set_cons_zero, List.set_cons_succ]
        refine takeW 6 (v := ?v6) rfl (by kernel_rfl) (by kernel_rfl) (by kernel_rfl) (fun _ _ _ h => h) (by rfl) (by assumption) ?hy6 ?rest6
        case hy6 => intro w' hSw; (try dsimp only at hSw); go_simp; try with_reducible rfl
        try simp only [Act.put, List.setIfInBounds_toArray, List.set_cons_zero, List.set_cons_succ]
        refine takeC 5 (by kernel_rfl) rfl (fun K hK => ?_)
        go_simp
        obtain ⟨hL, hV, hT, y1, y2, hBw⟩ := hHeld; refine (HCK.out _ _ _ sg [] q.to hsl (by simp) (by omega) hL hV (VS.nils _) hT).mono ?_; rintro e u1 ⟨he1, hU⟩; rw [HC1.out] at he1; subst he1; have hNr1 : N < u1.heap.size := Nat.lt_of_lt_of_le hNr hU.size; have hK1 : (fun w' => LkS w' (.slice (some ⟨b, off, none⟩) ks.length cv) ks ∧ VS w' (.slice (some ⟨g, 0, none⟩) ks.length cg) (strs sg) ∧ Tab w' ∧ w'.cell? ⟨N, 1, none⟩ = some (.string q.to) ∧ w'.cell? ⟨N, 2, none⟩ = some (.int .i64 q.se) ∧ Below w.heap.size w w') u1 := ⟨hL.below hU, hV.below hU, hT.on hU, (hU.cell (p := ⟨N, 1, none⟩) hNr).trans y1, (hU.cell (p := ⟨N, 2, none⟩) hNr).trans y2, below_one hBw hU⟩
        refine hK.out _ _ ?_ (fun hHeld => ?_)
        · first | exact hK2 | exact hK1 | exact hK0
        clear hK K
        try simp only [Act.put, List.setIfInBounds_toArray, List.set_cons_zero, List.set_cons_succ]
        refine takeW 7 (v := ?v7) rfl (by kernel_rfl) (by kernel_rfl) (by kernel_rfl) (fun _ _ _ h => h) (by rfl) (by assumption) ?hy7 ?rest7
        case hy7 => intro w' hSw; (try dsimp only at hSw); go_simp; try with_reducible rfl
        try simp only [Act.put, List.setIfInBounds_toArray, List.set_cons_zero, List.set_cons_succ]
        refine takeW 8 (v := ?v8) rfl (by kernel_rfl) (by kernel_rfl) (by kernel_rfl) (fun _ _ _ h => h) (by rfl) (by assumption) ?hy8 ?rest8
        case hy8 => intro w' hSw; (try dsimp only at hSw); go_simp; try with_reducible rfl
        try simp only [Act.put, List.setIfInBounds_toArray, List.set_cons_zero, List.set_cons_succ]
        refine takeW 9 (v := ?v9) rfl (by kernel_rfl) (by kernel_rfl) (by kernel_rfl) (fun _ _ _ h => h) (by rfl) (by assumption) ?hy9 ?rest9
        case hy9 => intro w' hSw; (try dsimp only at hSw); go_simp; try with_reducible rfl
        try simp only [Act.put, List.setIfInBounds_toArray, List.set_cons_zero, List.set_cons_succ]
        refine takeW 10 (v := ?v10) rfl (by kernel_rfl) (by kernel_rfl) (by kernel_rfl) (fun _ _ _ h => h) (by rfl) (by assumption) ?hy10 ?rest10
        case hy10 => intro w' hSw; (try dsimp only at hSw); go_simp; try with_reducible rfl
        try simp only [Act.put, List.setIfInBounds_toArray, List.set_cons_zero, List.set_cons_succ]
        refine takeW 11 (v := ?v11) rfl (by kernel_rfl) (by kernel_rfl) (by kernel_rfl) (fun _ _ _ h => h) (by rfl) (by assumption) ?hy11 ?rest11
        case hy11 => intro w' hSw; (try dsimp only at hSw); go_simp; try with_reducible rfl
        try simp only [Act.put, List.setIfInBounds_toArray, List.set_cons_zero, List.set_cons_succ]
        refine takeW 12 (v := ?v12) rfl (by kernel_rfl) (by kernel_rfl) (by kernel_rfl) (fun _ _ _ h => h) (by rfl) (by assumption) ?hy12 ?rest12
        case hy12 => intro w' hSw; (try dsimp only at hSw); go_simp; try with_reducible rfl
        try simp only [Act.put, List.setIfInBounds_toArray, List.set_cons_zero, List.set_cons_succ]
        refine takeW 13 (v := ?v13) rfl (by kernel_rfl) (by kernel_rfl) (by kernel_rfl) (fun _ _ _ h => h) (by rfl) (by assumption) ?hy13 ?rest13
        case hy13 => intro w' hSw; (try dsimp only at hSw); go_simp; try with_reducible rfl
        try simp only [Act.put, List.setIfInBounds_toArray, List.set_cons_zero, List.set_cons_succ]
        refine takeW 14 (v := ?v14) rfl (by kernel_rfl) (by kernel_rfl) (by kernel_rfl) (fun _ _ _ h => h) (by rfl) (by assumption) ?hy14 ?rest14
        case hy14 => intro w' hSw; (try dsimp only at hSw); go_simp; try with_reducible rfl
        try simp only [Act.put, List.setIfInBounds_toArray, List.set_cons_zero, List.set_cons_succ]
        refine takeC 15 (by kernel_rfl) rfl (fun K hK => ?_)
        go_simp
        obtain ⟨hL, hV, hT, y1, y2, hBw⟩ := hHeld; refine (HCK.out _ _ _ (sg.drop 1) [] q.to (by rw [List.length_drop]; omega) (by simp) (by omega) hL hV.tailS (VS.nils _) hT).mono ?_; rintro e u2 ⟨he1, hU⟩; rw [HC2.out] at he1; subst he1; have hNr2 : N < u2.heap.size := Nat.lt_of_lt_of_le hNr1 hU.size; have hK2 : (fun w' => LkS w' (.slice (some ⟨b, off, none⟩) ks.length cv) ks ∧ VS w' (.slice (some ⟨g, 0, none⟩) ks.length cg) (strs sg) ∧ Tab w' ∧ w'.cell? ⟨N, 1, none⟩ = some (.string q.to) ∧ w'.cell? ⟨N, 2, none⟩ = some (.int .i64 q.se) ∧ Below w.heap.size w w') u2 := ⟨hL.below hU, hV.below hU, hT.on hU, (hU.cell (p := ⟨N, 1, none⟩) hNr1).trans y1, (hU.cell (p := ⟨N, 2, none⟩) hNr1).trans y2, below_one hBw hU⟩
        refine hK.out _ _ ?_ (fun hHeld => ?_)
        · first | exact hK2 | exact hK1 | exact hK0
        clear hK K
        try simp only [Act.put, List.setIfInBounds_toArray, List.set_cons_zero, List.set_cons_succ]
        refine takeW 16 (v := ?v15) rfl (by kernel_rfl) (by kernel_rfl) (by kernel_rfl) (fun _ _ _ h => h) (by rfl) (by assumption) ?hy15 ?rest15
        case hy15 => intro w' hSw; (try dsimp only at hSw); go_simp; try with_reducible rfl
        try simp only [Act.put, List.setIfInBounds_toArray, List.set_cons_zero, List.set_cons_succ]
        refine takeW 17 (v := ?v16) rfl (by kernel_rfl) (by kernel_rfl) (by kernel_rfl) (fun _ _ _ h => h) (by rfl) (by assumption) ?hy16 ?rest16
        case hy16 => intro w' hSw; (try dsimp only at hSw); go_simp; try with_reducible rfl
        try simp only [Act.put, List.setIfInBounds_toArray, List.set_cons_zero, List.set_cons_succ]
        refine wpAnyH_done (by kernel_rfl) ?_ _
        obtain ⟨hL, hV, hT, y1, y2, hBw⟩ := hHeld
        clear hK0 hK1 hK2
        generalize (if cg = 1 then some (⟨g, 0, none⟩ : Addr) else some ⟨g, 1, none⟩) = at1
        by_cases hz : sh = 0
        · subst hz
          have HR := hid (HC3.out rfl)
          have HE := hid (HC4.out rfl)
          clear HC1 HC2 HC3 HC4
          have hA : Below u2.heap.size u2 (u2.alloc (.cells #[.int .i64 q.se] 3)) := (Below.refl _ u2).alloc (Nat.le_refl _) _
          have hL3 := hL.below hA
          have hV3 := hV.below hA
          have hT3 := hT.on hA
          go_wp2_with fail
          refine (HCK.out _ _ _ sg [q.se] q.to hsl (by simp) (by omega) hL3 hV3 (VS.oneN u2 q.se) hT3).mono ?_
          rintro e u3 ⟨he3, hU3⟩
          rw [HR.out] at he3
          subst he3
          go_wp2_with fail
          refine (HCK.out _ _ _ sg [] nnA hsl (by simp) (by decide) (hL3.below hU3) (hV3.below hU3) (VS.nils _) (hT3.on hU3)).mono ?_
          rintro e u4 ⟨he4, hU4⟩
          rw [HE.out] at he4
          subst he4
          have hEnd := below_one (below_one (below_one hBw hA) hU3) hU4
          go_wp2_with fail
          go_ret
          exact ⟨rfl, hEnd⟩
        · have hne : (sh != 0) = true := by simp [hz]
          go_wp2_with fail
          go_ret
          exact ⟨rfl, hBw⟩

end Go.Proofs.YtecgonopefeplaaGreatDoor
