/-
  Chapter 3: CheckToken, by the specification.
-/
import Derived.Test.YtecgonopefeplafDoorChkI
namespace Go.Proofs.YtecgonopefeplafDoor
open Go.RowKit Go.Shelf

/-- What is told of a token, good or not. -/
def chk0 (ks : List Lk) (ss : List ByteArray) (nw : Int) (zs : List Int) (at_ : ByteArray) : Int := if tkB ks = true then chk1 ks (sgTo ks ks.length) ss nw zs at_ else 1
theorem chk0_no {ks : List Lk} (ss : List ByteArray) (nw : Int) (zs : List Int) (at_ : ByteArray) (h : tkB ks = false) : chk0 ks ss nw zs at_ = 1 := if_neg (by rw [h]; exact Bool.false_ne_true)
theorem chk0_2 {ks : List Lk} {ss : List ByteArray} (nw : Int) (zs : List Int) (at_ : ByteArray) (h : tkB ks = true) (h2 : allT ss (sgTo ks ks.length) = false) : chk0 ks ss nw zs at_ = 2 := by
  unfold chk0 chk1
  rw [if_pos h, if_pos h2]
theorem chk0_3 {ks : List Lk} {ss : List ByteArray} {nw : Int} (zs : List Int) (at_ : ByteArray) (h : tkB ks = true) (h2 : allT ss (sgTo ks ks.length) = true) (h3 : inT ks nw = false) : chk0 ks ss nw zs at_ = 3 := by
  unfold chk0 chk1
  rw [if_pos h, if_neg (by rw [h2]; decide), if_pos h3]
theorem chk0_4 {ks : List Lk} {ss : List ByteArray} {nw : Int} {zs : List Int} (at_ : ByteArray) (h : tkB ks = true) (h2 : allT ss (sgTo ks ks.length) = true) (h3 : inT ks nw = true) (h4 : rvB ks zs = true) : chk0 ks ss nw zs at_ = 4 := by
  unfold chk0 chk1
  rw [if_pos h, if_neg (by rw [h2]; decide), if_neg (by rw [h3]; decide), if_pos h4]
theorem chk0_5 {ks : List Lk} {ss : List ByteArray} {nw : Int} {zs : List Int} {at_ : ByteArray} (h : tkB ks = true) (h2 : allT ss (sgTo ks ks.length) = true) (h3 : inT ks nw = true) (h4 : rvB ks zs = false) (h5 : toOk ks at_ = false) : chk0 ks ss nw zs at_ = 5 := by
  unfold chk0 chk1
  rw [if_pos h, if_neg (by rw [h2]; decide), if_neg (by rw [h3]; decide), if_neg (by rw [h4]; decide), if_pos h5]
theorem chk0_0 {ks : List Lk} {ss : List ByteArray} {nw : Int} {zs : List Int} {at_ : ByteArray} (h : tkB ks = true) (h2 : allT ss (sgTo ks ks.length) = true) (h3 : inT ks nw = true) (h4 : rvB ks zs = false) (h5 : toOk ks at_ = true) : chk0 ks ss nw zs at_ = 0 := by
  unfold chk0 chk1
  rw [if_pos h, if_neg (by rw [h2]; decide), if_neg (by rw [h3]; decide), if_neg (by rw [h4]; decide), if_neg (by rw [h5]; decide)]

set_option maxHeartbeats 4000000 in
theorem l3Check_any (v v1 v3 : Value) (ks : List Lk) (ss : List ByteArray) (nw : Int) (zs : List Int) (at_ : ByteArray) (w : World) (hm : ks.length ≤ 1048577) (hms : ss.length ≤ 1048577) (hmz : zs.length ≤ 1048577) (hf : ∀ k ∈ ks, k.size ≤ 1048576) (hr : LkS w v ks) (hrs : VS w v1 (strs ss)) (hrz : VS w v3 (nums zs)) :
    Calls Tryd.prog 35 #[v, v1, .int .i64 nw, v3, .string at_] w fun e w' => e = .returned (.int .i64 (chk0 ks ss nw zs at_)) ∧ Below w.heap.size w w' := by
  obtain ⟨a, cap, rfl⟩ := hr.len
  cases hg : tkB ks
  · have HR := hid (chk0_no ss nw zs at_ hg)
    go_enter Tryd.func35, Tryd.ntmps35
    go_wp2_with fail
    refine (specGoodToken_any _ ks _ hm hf hr).mono ?_
    rintro e w1 ⟨rfl, hB1⟩
    rw [hg]
    go_wp2_with fail
    go_ret
    exact ⟨ret_int HR.out.symm, hB1⟩
  · have hgd := tkB_good hg
    have hl := tkB_len hg
    have HG := hid hg
    have hsl : (sgTo ks ks.length).length ≤ 1048577 := by rw [sgTo_len]; exact hm
    go_enter Tryd.func35, Tryd.ntmps35
    go_wp2_with fail
    refine (specGoodToken_any _ ks _ hm hf hr).mono ?_
    rintro e w1 ⟨rfl, hB1⟩
    rw [hg]
    go_wp2_with fail
    refine (l3Signed_any _ ks _ hm hgd hf (hr.below hB1)).mono ?_
    rintro e w2 ⟨v2, rfl, hrow, hB2⟩
    have hBB2 := below_one hB1 hB2
    have hr2 := hr.below hBB2
    have hrs2 := hrs.below hBB2
    have hrz2 := hrz.below hBB2
    have hrg2 := VS.ownS hrow
    obtain ⟨a2, cap2, rfl⟩ := ownsRow_len hrow
    clear hr hrs hrz hrow hB1 hB2 hg
    have H2 := hid (fun h => chk0_2 (ks := ks) (ss := ss) nw zs at_ HG.out h)
    have H3 := hid (fun h h' => chk0_3 (ks := ks) (ss := ss) (nw := nw) zs at_ HG.out h h')
    have H4 := hid (fun h h' h4 => chk0_4 (ks := ks) (ss := ss) (nw := nw) (zs := zs) at_ HG.out h h' h4)
    have H5 := hid (fun h h' h4 h5 => chk0_5 (ks := ks) (ss := ss) (nw := nw) (zs := zs) (at_ := at_) HG.out h h' h4 h5)
    have H0 := hid (fun h h' h4 h5 => chk0_0 (ks := ks) (ss := ss) (nw := nw) (zs := zs) (at_ := at_) HG.out h h' h4 h5)
    generalize sgTo ks ks.length = sg at *
    go_wp2_with fail
    go_loopw [23] (fun i wr => ∃ n : Nat, n ≤ sg.length ∧ i = .int .i64 n ∧ allTo3 ss sg n = true ∧ Below w2.heap.size w2 wr) (fun i _ => sg.length - (intOf i).toNat)
    case atStart => exact ⟨0, Nat.zero_le _, rfl, allTo3_zero _ _, Below.refl _ _⟩
    case round =>
      obtain ⟨n, hn, rfl, ht, hB⟩ := hrel
      have HT := hid ht
      clear ht
      by_cases hlt : n < sg.length
      · obtain ⟨b, off, rfl, hb, hcap, q0⟩ := (hrg2.below hB).str hlt
        have HS := hid (allTo3_succ (ss := ss) hlt)
        have HY := hid (fun h => allT_no (ss := ss) hlt h)
        generalize sg[n] = x at *
        have hC := l3HasText_any v1 ss x wr hms (hrs2.below hB)
        cases he : hasT ss x
        · have HR := hid (H2.out (HY.out he))
          rw [he] at hC
          go_wp2_with (go_at_call 60; refine hC.mono ?_; rintro e w3 ⟨rfl, rfl⟩)
          go_ret
          exact ⟨ret_int HR.out.symm, below_one hBB2 hB⟩
        · have HR := hid (show allTo3 ss sg (n + 1) = true by rw [HS.out, HT.out, he]; rfl)
          rw [he] at hC
          go_wp2_with (go_at_call 60; refine hC.mono ?_; rintro e w3 ⟨rfl, rfl⟩)
          go_roundw
          case rel => exact ⟨n + 1, by omega, by go_num, HR.out, hB⟩
          case measure => simp [intOf]; omega
      · obtain rfl : n = sg.length := by omega
        have HA := hid (show allT ss sg = true by rw [← allT_end, HT.out])
        clear HT
        go_wp2_with fail
        go_loopw [34] (fun i wr => ∃ n : Nat, n ≤ ks.length ∧ i = .int .i64 n ∧ inTo ks nw n = true ∧ Below w2.heap.size w2 wr) (fun i _ => ks.length - (intOf i).toNat)
        case atStart => exact ⟨0, Nat.zero_le _, rfl, inTo_zero _ _, hB⟩
        case round =>
          obtain ⟨n, hn, rfl, ht, hB⟩ := hrel
          have HT := hid ht
          clear ht
          by_cases hlt : n < ks.length
          · obtain ⟨b, off, rfl, hb, hcap, q0, q1, q2, q3, q4⟩ := (hr2.below hB).at hlt
            have HS := hid (inTo_succ (nw := nw) hlt)
            have HY := hid (fun h => inT_no (nw := nw) hlt h)
            generalize ks[n] = k at *
            have hBa : Below w2.heap.size w2 (wr.alloc (.cells #[.string k.who, .string k.to, .int .i64 k.se, .int .i64 k.fr, .int .i64 k.un] 48)) := hB.alloc hB.size _
            have hC := fun W => l1In_any nw k.fr k.un W
            have hI : inB k.fr k.un nw = tmIn k nw := rfl
            rw [hI] at hC
            clear hI
            cases he : tmIn k nw
            · have HR := hid (H3.out HA.out (HY.out he))
              rw [he] at hC
              go_wp2_with (go_at_call 44; refine (hC _).mono ?_; rintro e w3 ⟨rfl, rfl⟩)
              go_ret
              exact ⟨ret_int HR.out.symm, below_one hBB2 hBa⟩
            · have HR := hid (show inTo ks nw (n + 1) = true by rw [HS.out, HT.out, he]; rfl)
              rw [he] at hC
              go_wp2_with (go_at_call 44; refine (hC _).mono ?_; rintro e w3 ⟨rfl, rfl⟩)
              go_roundw
              case rel => first | exact ⟨n + 1, by omega, by go_num, HR.out, hBa⟩ | ((repeat apply Exists.intro); exact ⟨⟨n + 1, by omega, by go_num, HR.out, hBa⟩, rfl⟩)
              case measure => simp [intOf]; omega
          · obtain rfl : n = ks.length := by omega
            have HI := hid (show inT ks nw = true by rw [← inT_end, HT.out])
            clear HT
            go_wp2_with fail
            go_loopw [48] (fun i wr => ∃ n : Nat, n ≤ ks.length ∧ i = .int .i64 n ∧ rvTo ks zs n = false ∧ Below w2.heap.size w2 wr) (fun i _ => ks.length - (intOf i).toNat)
            case atStart => exact ⟨0, Nat.zero_le _, rfl, rvTo_zero _ _, hB⟩
            case round =>
              obtain ⟨n, hn, rfl, ht, hB⟩ := hrel
              have HT := hid ht
              clear ht
              by_cases hlt : n < ks.length
              · obtain ⟨b, off, rfl, hb, hcap, q0, q1, q2, q3, q4⟩ := (hr2.below hB).at hlt
                have HS := hid (rvTo_succ (zs := zs) hlt)
                have HY := hid (fun h => rvB_yes (zs := zs) hlt h)
                generalize ks[n] = k at *
                have hBw : Below wr.heap.size wr (wr.alloc (.cells #[.string k.who, .string k.to, .int .i64 k.se, .int .i64 k.fr, .int .i64 k.un] 48)) := (Below.refl _ wr).alloc (Nat.le_refl _) _
                have hBa := below_one hB hBw
                have hC := l1Has_any v3 zs k.se _ hmz (hrz2.below hBa)
                cases he : isI zs k.se
                · have HR := hid (show rvTo ks zs (n + 1) = false by rw [HS.out, HT.out, he]; rfl)
                  rw [he] at hC
                  go_wp2_with (go_at_call 61; refine hC.mono ?_; rintro e w3 ⟨rfl, rfl⟩)
                  go_roundw
                  case rel => first | exact ⟨n + 1, by omega, by go_num, HR.out, hBa⟩ | ((repeat apply Exists.intro); exact ⟨⟨n + 1, by omega, by go_num, HR.out, hBa⟩, rfl⟩)
                  case measure => simp [intOf]; omega
                · have HR := hid (H4.out HA.out HI.out (HY.out he))
                  rw [he] at hC
                  go_wp2_with (go_at_call 61; refine hC.mono ?_; rintro e w3 ⟨rfl, rfl⟩)
                  go_ret
                  exact ⟨ret_int HR.out.symm, below_one hBB2 hBa⟩
              · obtain rfl : n = ks.length := by omega
                have HV := hid (show rvB ks zs = false by rw [← rvB_end, HT.out])
                clear HT
                obtain ⟨m, hmm⟩ : ∃ m, m = ks.length - 1 := ⟨_, rfl⟩
                have hlm : m < ks.length := by omega
                obtain ⟨b, off, rfl, hb, hcap, _, q1, _, _, _⟩ := (hr2.below hB).at hlm
                have HO := hid (toOk_at (at_ := at_) hlm hmm)
                have hw1 : IntKind.i64.wrap ((ks.length : Int) - 1) = (m : Int) := by rw [IntKind.wrap_i64]; omega
                have hw2 : (m : Int) < (ks.length : Int) := by omega
                generalize ks[m] = k at *
                clear hmm
                cases he : (k.to.toList == at_.toList)
                · have HR := hid (H5.out HA.out HI.out HV.out (by rw [HO.out, he]))
                  go_wp2
                  go_ret
                  exact ⟨ret_int HR.out.symm, below_one hBB2 hB⟩
                · have HR := hid (H0.out HA.out HI.out HV.out (by rw [HO.out, he]))
                  go_wp2
                  go_ret
                  exact ⟨ret_int HR.out.symm, below_one hBB2 hB⟩

theorem chkX_0 (ks : List Lk) (ss : List ByteArray) {nw : Int} {zs : List Int} {at_ : ByteArray} (h : argB nw at_ ss zs = true) : chkX ks (sgTo ks ks.length) ss nw zs at_ = chk0 ks ss nw zs at_ := by
  unfold chkX chk0
  rw [h, Bool.and_true]

set_option maxHeartbeats 2000000 in
theorem specCheckToken_any (v v1 v3 : Value) (ks : List Lk) (ss : List ByteArray) (nw : Int) (zs : List Int) (at_ : ByteArray) (w : World) (hm : ks.length ≤ 1048577) (hms : ss.length ≤ 1048577) (hmz : zs.length ≤ 1048577) (hat : at_.size ≤ 1048576) (hf : ∀ k ∈ ks, k.size ≤ 1048576) (hr : LkS w v ks) (hrs : VS w v1 (strs ss)) (hrz : VS w v3 (nums zs)) :
    Calls Tryd.prog 16 #[v, v1, .int .i64 nw, v3, .string at_] w fun e w' => e = .returned (.int .i64 (chkX ks (sgTo ks ks.length) ss nw zs at_)) ∧ Below w.heap.size w w' := by
  obtain ⟨a1, cap1, rfl⟩ := hrs.strLen
  obtain ⟨a3, cap3, rfl⟩ := hrz.numLen
  cases h1 : tmB nw
  · have HR := hid (show chkX ks (sgTo ks ks.length) ss nw zs at_ = 1 from chkX_no2 ks _ (by unfold argB; rw [h1]; rfl))
    go_enter Tryd.func16, Tryd.ntmps16
    go_wp2_with (first | (go_at_call 33; refine (l3Time_any _ _).mono ?_; rintro e w1 ⟨rfl, rfl⟩) | (go_at_call 34; refine (specGoodName_any at_ _ hat).mono ?_; rintro e w2 ⟨rfl, hB2⟩))
    go_ret
    exact ⟨ret_int HR.out.symm, Below.refl _ _⟩
  · cases h2 : gnB (split at_ 47)
    · have HR := hid (show chkX ks (sgTo ks ks.length) ss nw zs at_ = 1 from chkX_no2 ks _ (by unfold argB; rw [h1, h2]; rfl))
      go_enter Tryd.func16, Tryd.ntmps16
      go_wp2_with (first | (go_at_call 33; refine (l3Time_any _ _).mono ?_; rintro e w1 ⟨rfl, rfl⟩) | (go_at_call 34; refine (specGoodName_any at_ _ hat).mono ?_; rintro e w2 ⟨rfl, hB2⟩))
      go_ret
      exact ⟨ret_int HR.out.symm, hB2⟩
    · cases h3 : decide (ss.length ≤ 200)
      · have HR := hid (show chkX ks (sgTo ks ks.length) ss nw zs at_ = 1 from chkX_no2 ks _ (by unfold argB; rw [h1, h2, h3]; rfl))
        have d3 : decide ((200 : Int) < (ss.length : Int)) = true := by have := of_decide_eq_false h3; simp; omega
        clear h3
        go_enter Tryd.func16, Tryd.ntmps16
        go_wp2_with (first | (go_at_call 33; refine (l3Time_any _ _).mono ?_; rintro e w1 ⟨rfl, rfl⟩) | (go_at_call 34; refine (specGoodName_any at_ _ hat).mono ?_; rintro e w2 ⟨rfl, hB2⟩))
        go_ret
        exact ⟨ret_int HR.out.symm, hB2⟩
      · cases h4 : decide (zs.length ≤ 200)
        · have HR := hid (show chkX ks (sgTo ks ks.length) ss nw zs at_ = 1 from chkX_no2 ks _ (by unfold argB; rw [h1, h2, h3, h4]; rfl))
          have d3 : decide ((200 : Int) < (ss.length : Int)) = false := by have := of_decide_eq_true h3; simp; omega
          have d4 : decide ((200 : Int) < (zs.length : Int)) = true := by have := of_decide_eq_false h4; simp; omega
          clear h3 h4
          go_enter Tryd.func16, Tryd.ntmps16
          go_wp2_with (first | (go_at_call 33; refine (l3Time_any _ _).mono ?_; rintro e w1 ⟨rfl, rfl⟩) | (go_at_call 34; refine (specGoodName_any at_ _ hat).mono ?_; rintro e w2 ⟨rfl, hB2⟩))
          go_ret
          exact ⟨ret_int HR.out.symm, hB2⟩
        · have HR := hid (show chkX ks (sgTo ks ks.length) ss nw zs at_ = chk0 ks ss nw zs at_ from chkX_0 ks ss (by unfold argB; rw [h1, h2, h3, h4]; rfl))
          have d3 : decide ((200 : Int) < (ss.length : Int)) = false := by have := of_decide_eq_true h3; simp; omega
          have d4 : decide ((200 : Int) < (zs.length : Int)) = false := by have := of_decide_eq_true h4; simp; omega
          clear h3 h4
          go_enter Tryd.func16, Tryd.ntmps16
          go_wp2_with (first | (go_at_call 33; refine (l3Time_any _ _).mono ?_; rintro e w1 ⟨rfl, rfl⟩) | (go_at_call 34; refine (specGoodName_any at_ _ hat).mono ?_; rintro e w2 ⟨rfl, hB2⟩) | (go_at_call 35; refine (l3Check_any _ _ _ ks ss nw zs at_ _ hm hms hmz hf (hr.below hB2) (hrs.below hB2) (hrz.below hB2)).mono ?_; rintro e w3 ⟨rfl, hB3⟩))
          go_ret
          exact ⟨ret_int HR.out.symm, below_one hB2 hB3⟩

end Go.Proofs.YtecgonopefeplafDoor
