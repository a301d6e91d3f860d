/-
  Chapter 3: CheckToken, by the program.
-/
import Derived.Test.YtecgonopefeplaaGreatDoorChkS
import Derived.Test.YtecgonopefeplaaGreatDoorChkW
namespace Go.Proofs.YtecgonopefeplaaGreatDoor
open Go.RowKit Go.Shelf

set_option maxHeartbeats 4000000 in
theorem implCheckToken_any (v v1 v3 : Value) (ks : List Lk) (ss : List ByteArray) (nw : Int) (zs : List Int) (at_ : ByteArray) (w : World) (hm : ks.length ≤ 1048577) (hms : ss.length ≤ 1048577) (hmz : zs.length ≤ 1048577) (hat : at_.size ≤ 1048576) (hf : ∀ k ∈ ks, k.size ≤ 1048576) (hr : LkS w v ks) (hrs : VS w v1 (strs ss)) (hrz : VS w v3 (nums zs)) (ht : Tab w) :
    Calls Tryz.prog 12 #[v, v1, .int .i64 nw, v3, .string at_] w fun e w' => e = .returned (.int .i64 (chkX ks (sgTo ks ks.length) ss nw zs at_)) ∧ Below w.heap.size w w' := by
  obtain ⟨a, cap, rfl⟩ := hr.len
  obtain ⟨a1, cap1, rfl⟩ := hrs.strLen
  obtain ⟨a3, cap3, rfl⟩ := hrz.numLen
  cases hg : tkB ks
  · have HR := hid (chkX_no1 (sgTo ks ks.length) ss nw zs at_ hg)
    go_enter Tryz.func12, Tryz.ntmps12
    go_wp2_with fail
    refine (implSignedOf_any _ ks _ hm hf hr ht).mono ?_
    rintro e w1 ⟨v1', rfl, hrow, hB1⟩
    obtain ⟨a', cap', rfl⟩ := ownsRow_len hrow
    rw [hg]
    go_wp2_with fail
    go_ret
    exact ⟨ret_int HR.out.symm, hB1⟩
  · have HG := hid hg
    have HSG := hid (sigL_yes hg)
    have hgd := tkB_good hg
    have hl := tkB_len hg
    cases h1 : tmB nw
    · have HR := hid (show chkX ks (sgTo ks ks.length) ss nw zs at_ = 1 from chkX_no2 ks _ (by unfold argB; rw [h1]; rfl))
      go_enter Tryz.func12, Tryz.ntmps12
      go_wp2_with fail
      refine (implSignedOf_any _ ks _ hm hf hr ht).mono ?_
      rintro e w1 ⟨v1', rfl, hrow, hB1⟩
      rw [HSG.out] at hrow
      obtain ⟨a', cap', rfl⟩ := ownsRow_len hrow
      rw [hg]
      go_wp2_with (first | (go_at_call 20; refine (goodTime_any _ _).mono ?_; rintro e wx ⟨rfl, rfl⟩) | (go_at_call 21; refine (implGoodName_any at_ _ hat).mono ?_; rintro e w2 ⟨rfl, hB2⟩))
      go_ret
      exact ⟨ret_int HR.out.symm, hB1⟩
    · cases h2 : gnB (split at_ 47)
      · have HR := hid (show chkX ks (sgTo ks ks.length) ss nw zs at_ = 1 from chkX_no2 ks _ (by unfold argB; rw [h1, h2]; rfl))
        go_enter Tryz.func12, Tryz.ntmps12
        go_wp2_with fail
        refine (implSignedOf_any _ ks _ hm hf hr ht).mono ?_
        rintro e w1 ⟨v1', rfl, hrow, hB1⟩
        rw [HSG.out] at hrow
        obtain ⟨a', cap', rfl⟩ := ownsRow_len hrow
        rw [hg]
        go_wp2_with (first | (go_at_call 20; refine (goodTime_any _ _).mono ?_; rintro e wx ⟨rfl, rfl⟩) | (go_at_call 21; refine (implGoodName_any at_ _ hat).mono ?_; rintro e w2 ⟨rfl, hB2⟩))
        go_ret
        exact ⟨ret_int HR.out.symm, below_one hB1 hB2⟩
      · cases h3 : decide (ss.length ≤ 200)
        · have HR := hid (show chkX ks (sgTo ks ks.length) ss nw zs at_ = 1 from chkX_no2 ks _ (by unfold argB; rw [h1, h2, h3]; rfl))
          have d3 : decide ((200 : Int) < (ss.length : Int)) = true := by have := of_decide_eq_false h3; simp; omega
          clear h3
          go_enter Tryz.func12, Tryz.ntmps12
          go_wp2_with fail
          refine (implSignedOf_any _ ks _ hm hf hr ht).mono ?_
          rintro e w1 ⟨v1', rfl, hrow, hB1⟩
          rw [HSG.out] at hrow
          obtain ⟨a', cap', rfl⟩ := ownsRow_len hrow
          rw [hg]
          go_wp2_with (first | (go_at_call 20; refine (goodTime_any _ _).mono ?_; rintro e wx ⟨rfl, rfl⟩) | (go_at_call 21; refine (implGoodName_any at_ _ hat).mono ?_; rintro e w2 ⟨rfl, hB2⟩))
          go_ret
          exact ⟨ret_int HR.out.symm, below_one hB1 hB2⟩
        · cases h4 : decide (zs.length ≤ 200)
          · have HR := hid (show chkX ks (sgTo ks ks.length) ss nw zs at_ = 1 from chkX_no2 ks _ (by unfold argB; rw [h1, h2, h3, h4]; rfl))
            have d3 : decide ((200 : Int) < (ss.length : Int)) = false := by have := of_decide_eq_true h3; simp; omega
            have d4 : decide ((200 : Int) < (zs.length : Int)) = true := by have := of_decide_eq_false h4; simp; omega
            clear h3 h4
            go_enter Tryz.func12, Tryz.ntmps12
            go_wp2_with fail
            refine (implSignedOf_any _ ks _ hm hf hr ht).mono ?_
            rintro e w1 ⟨v1', rfl, hrow, hB1⟩
            rw [HSG.out] at hrow
            obtain ⟨a', cap', rfl⟩ := ownsRow_len hrow
            rw [hg]
            go_wp2_with (first | (go_at_call 20; refine (goodTime_any _ _).mono ?_; rintro e wx ⟨rfl, rfl⟩) | (go_at_call 21; refine (implGoodName_any at_ _ hat).mono ?_; rintro e w2 ⟨rfl, hB2⟩))
            go_ret
            exact ⟨ret_int HR.out.symm, below_one hB1 hB2⟩
          · have HX := hid (show chkX ks (sgTo ks ks.length) ss nw zs at_ = chk0 ks ss nw zs at_ from chkX_0 ks ss (by unfold argB; rw [h1, h2, h3, h4]; rfl))
            have d3 : decide ((200 : Int) < (ss.length : Int)) = false := by have := of_decide_eq_true h3; simp; omega
            have d4 : decide ((200 : Int) < (zs.length : Int)) = false := by have := of_decide_eq_true h4; simp; omega
            have hnn := of_decide_eq_true h1
            obtain ⟨nn, hnn'⟩ := Int.eq_ofNat_of_zero_le hnn.1
            have hn1 : nn ≤ 100000 := by omega
            have HWI := hid (show inT ks nw = decide (mxF ks ks.length ≤ nn ∧ nn ≤ mnU ks ks.length) by rw [← inT_end, hnn']; exact win_in hgd hn1 ks.length (Nat.le_refl _))
            have HN := hid hnn'
            have hwl := win_le hgd ks.length (Nat.le_refl _)
            clear h3 h4 hnn hnn'
            have H2 := hid (fun h => chk0_2 (ks := ks) (ss := ss) nw zs at_ HG.out h)
            have H3 := hid (fun h h' => chk0_3 (ks := ks) (ss := ss) (nw := nw) zs at_ HG.out h h')
            have H4 := hid (fun h h' h4 => chk0_4 (ks := ks) (ss := ss) (nw := nw) (zs := zs) at_ HG.out h h' h4)
            have H5 := hid (fun h h' h4 h5 => chk0_5 (ks := ks) (ss := ss) (nw := nw) (zs := zs) (at_ := at_) HG.out h h' h4 h5)
            have H0 := hid (fun h h' h4 h5 => chk0_0 (ks := ks) (ss := ss) (nw := nw) (zs := zs) (at_ := at_) HG.out h h' h4 h5)
            have hsl : (sgTo ks ks.length).length ≤ 1048577 := by rw [sgTo_len]; exact hm
            obtain ⟨m, hmm⟩ : ∃ m, m = ks.length - 1 := ⟨_, rfl⟩
            have hlm : m < ks.length := by omega
            have HO := hid (toOk_at (at_ := at_) hlm hmm)
            have hw1 : IntKind.i64.wrap ((ks.length : Int) - 1) = (m : Int) := by rw [IntKind.wrap_i64]; omega
            have hw2 : (m : Int) < (ks.length : Int) := by omega
            clear hmm
            cases hA : allT ss (sgTo ks ks.length)
            · have HR := hid (HX.out.trans (H2.out hA))
              go_enter Tryz.func12, Tryz.ntmps12
              go_wp2_with fail
              refine (implSignedOf_any _ ks _ hm hf hr ht).mono ?_
              rintro e w1 ⟨v1', rfl, hrow, hB1⟩
              rw [HSG.out] at hrow
              obtain ⟨a', cap', rfl⟩ := ownsRow_len hrow
              rw [hg]
              go_wp2_with (first | (go_at_call 20; refine (goodTime_any _ _).mono ?_; rintro e wx ⟨rfl, rfl⟩) | (go_at_call 21; refine (implGoodName_any at_ _ hat).mono ?_; rintro e w2 ⟨rfl, hB2⟩))
              have hB12 := below_one hB1 hB2
              refine (hasAll_any _ _ ss (sgTo ks ks.length) _ hms hsl (hrs.below hB12) (VS.ownS (ownsRow_below hrow hB2))).mono ?_
              rintro e w3 ⟨rfl, rfl⟩
              rw [hA]
              go_wp2_with fail
              go_ret
              exact ⟨ret_int HR.out.symm, hB12⟩
            · cases hI : inT ks nw
              · have HR := hid (HX.out.trans (H3.out hA hI))
                have hI' : decide (mxF ks ks.length ≤ nn ∧ nn ≤ mnU ks ks.length) = false := by rw [← HWI.out, hI]
                go_enter Tryz.func12, Tryz.ntmps12
                go_wp2_with fail
                refine (implSignedOf_any _ ks _ hm hf hr ht).mono ?_
                rintro e w1 ⟨v1', rfl, hrow, hB1⟩
                rw [HSG.out] at hrow
                obtain ⟨a', cap', rfl⟩ := ownsRow_len hrow
                rw [hg]
                go_wp2_with (first | (go_at_call 20; refine (goodTime_any _ _).mono ?_; rintro e wx ⟨rfl, rfl⟩) | (go_at_call 21; refine (implGoodName_any at_ _ hat).mono ?_; rintro e w2 ⟨rfl, hB2⟩))
                have hB12 := below_one hB1 hB2
                refine (hasAll_any _ _ ss (sgTo ks ks.length) _ hms hsl (hrs.below hB12) (VS.ownS (ownsRow_below hrow hB2))).mono ?_
                rintro e w3 ⟨rfl, rfl⟩
                rw [hA]
                go_wp2_with fail
                refine (windowOf_any _ ks _ hm hgd (hr.below hB12)).mono ?_
                rintro e w4 ⟨rfl, hB4⟩
                have hB14 := below_one hB12 hB4
                go_wp2_with fail
                have hnx : (Value.int .i64 nw) = .int .i64 (nn : Int) := by rw [HN.out]
                rw [hnx]
                refine (within_any _ _ nn _ hwl.1 hwl.2 hn1).mono ?_
                rintro e w5 ⟨rfl, rfl⟩
                rw [hI']
                go_wp2_with fail
                go_ret
                exact ⟨ret_int HR.out.symm, hB14⟩
              · cases hV : rvB ks zs
                · obtain ⟨k, hk⟩ : ∃ k, k = ks[m] := ⟨_, rfl⟩
                  cases he : (ks[m].to.toList == at_.toList)
                  · have HR := hid (HX.out.trans (H5.out hA hI hV (by rw [HO.out, he])))
                    have hI' : decide (mxF ks ks.length ≤ nn ∧ nn ≤ mnU ks ks.length) = true := by rw [← HWI.out, hI]
                    go_enter Tryz.func12, Tryz.ntmps12
                    go_wp2_with fail
                    refine (implSignedOf_any _ ks _ hm hf hr ht).mono ?_
                    rintro e w1 ⟨v1', rfl, hrow, hB1⟩
                    rw [HSG.out] at hrow
                    obtain ⟨a', cap', rfl⟩ := ownsRow_len hrow
                    rw [hg]
                    go_wp2_with (first | (go_at_call 20; refine (goodTime_any _ _).mono ?_; rintro e wx ⟨rfl, rfl⟩) | (go_at_call 21; refine (implGoodName_any at_ _ hat).mono ?_; rintro e w2 ⟨rfl, hB2⟩))
                    have hB12 := below_one hB1 hB2
                    refine (hasAll_any _ _ ss (sgTo ks ks.length) _ hms hsl (hrs.below hB12) (VS.ownS (ownsRow_below hrow hB2))).mono ?_
                    rintro e w3 ⟨rfl, rfl⟩
                    rw [hA]
                    go_wp2_with fail
                    refine (windowOf_any _ ks _ hm hgd (hr.below hB12)).mono ?_
                    rintro e w4 ⟨rfl, hB4⟩
                    have hB14 := below_one hB12 hB4
                    go_wp2_with fail
                    have hnx : (Value.int .i64 nw) = .int .i64 (nn : Int) := by rw [HN.out]
                    rw [hnx]
                    refine (within_any _ _ nn _ hwl.1 hwl.2 hn1).mono ?_
                    rintro e w5 ⟨rfl, rfl⟩
                    rw [hI']
                    go_wp2_with fail
                    refine (anyRevoked_any _ _ ks zs _ hm hmz (hr.below hB14) (hrz.below hB14)).mono ?_
                    rintro e w6 ⟨rfl, hB6⟩
                    have hB16 := below_one hB14 hB6
                    rw [hV]
                    obtain ⟨b, off, rfl, hb, hcap, _, q1, _, _, _⟩ := (hr.below hB16).at hlm
                    rw [← hk] at q1 he
                    clear hk
                    go_wp2_with fail
                    go_ret
                    exact ⟨ret_int HR.out.symm, hB16⟩
                  · have HR := hid (HX.out.trans (H0.out hA hI hV (by rw [HO.out, he])))
                    have hI' : decide (mxF ks ks.length ≤ nn ∧ nn ≤ mnU ks ks.length) = true := by rw [← HWI.out, hI]
                    go_enter Tryz.func12, Tryz.ntmps12
                    go_wp2_with fail
                    refine (implSignedOf_any _ ks _ hm hf hr ht).mono ?_
                    rintro e w1 ⟨v1', rfl, hrow, hB1⟩
                    rw [HSG.out] at hrow
                    obtain ⟨a', cap', rfl⟩ := ownsRow_len hrow
                    rw [hg]
                    go_wp2_with (first | (go_at_call 20; refine (goodTime_any _ _).mono ?_; rintro e wx ⟨rfl, rfl⟩) | (go_at_call 21; refine (implGoodName_any at_ _ hat).mono ?_; rintro e w2 ⟨rfl, hB2⟩))
                    have hB12 := below_one hB1 hB2
                    refine (hasAll_any _ _ ss (sgTo ks ks.length) _ hms hsl (hrs.below hB12) (VS.ownS (ownsRow_below hrow hB2))).mono ?_
                    rintro e w3 ⟨rfl, rfl⟩
                    rw [hA]
                    go_wp2_with fail
                    refine (windowOf_any _ ks _ hm hgd (hr.below hB12)).mono ?_
                    rintro e w4 ⟨rfl, hB4⟩
                    have hB14 := below_one hB12 hB4
                    go_wp2_with fail
                    have hnx : (Value.int .i64 nw) = .int .i64 (nn : Int) := by rw [HN.out]
                    rw [hnx]
                    refine (within_any _ _ nn _ hwl.1 hwl.2 hn1).mono ?_
                    rintro e w5 ⟨rfl, rfl⟩
                    rw [hI']
                    go_wp2_with fail
                    refine (anyRevoked_any _ _ ks zs _ hm hmz (hr.below hB14) (hrz.below hB14)).mono ?_
                    rintro e w6 ⟨rfl, hB6⟩
                    have hB16 := below_one hB14 hB6
                    rw [hV]
                    obtain ⟨b, off, rfl, hb, hcap, _, q1, _, _, _⟩ := (hr.below hB16).at hlm
                    rw [← hk] at q1 he
                    clear hk
                    go_wp2_with fail
                    go_ret
                    exact ⟨ret_int HR.out.symm, hB16⟩
                · have HR := hid (HX.out.trans (H4.out hA hI hV))
                  have hI' : decide (mxF ks ks.length ≤ nn ∧ nn ≤ mnU ks ks.length) = true := by rw [← HWI.out, hI]
                  go_enter Tryz.func12, Tryz.ntmps12
                  go_wp2_with fail
                  refine (implSignedOf_any _ ks _ hm hf hr ht).mono ?_
                  rintro e w1 ⟨v1', rfl, hrow, hB1⟩
                  rw [HSG.out] at hrow
                  obtain ⟨a', cap', rfl⟩ := ownsRow_len hrow
                  rw [hg]
                  go_wp2_with (first | (go_at_call 20; refine (goodTime_any _ _).mono ?_; rintro e wx ⟨rfl, rfl⟩) | (go_at_call 21; refine (implGoodName_any at_ _ hat).mono ?_; rintro e w2 ⟨rfl, hB2⟩))
                  have hB12 := below_one hB1 hB2
                  refine (hasAll_any _ _ ss (sgTo ks ks.length) _ hms hsl (hrs.below hB12) (VS.ownS (ownsRow_below hrow hB2))).mono ?_
                  rintro e w3 ⟨rfl, rfl⟩
                  rw [hA]
                  go_wp2_with fail
                  refine (windowOf_any _ ks _ hm hgd (hr.below hB12)).mono ?_
                  rintro e w4 ⟨rfl, hB4⟩
                  have hB14 := below_one hB12 hB4
                  go_wp2_with fail
                  have hnx : (Value.int .i64 nw) = .int .i64 (nn : Int) := by rw [HN.out]
                  rw [hnx]
                  refine (within_any _ _ nn _ hwl.1 hwl.2 hn1).mono ?_
                  rintro e w5 ⟨rfl, rfl⟩
                  rw [hI']
                  go_wp2_with fail
                  refine (anyRevoked_any _ _ ks zs _ hm hmz (hr.below hB14) (hrz.below hB14)).mono ?_
                  rintro e w6 ⟨rfl, hB6⟩
                  have hB16 := below_one hB14 hB6
                  rw [hV]
                  go_wp2_with fail
                  go_ret
                  exact ⟨ret_int HR.out.symm, hB16⟩

end Go.Proofs.YtecgonopefeplaaGreatDoor
