/-
  Proved: at every argument PermittedBy answers as the specification and changes nothing, where the listed tables of the library read as the program's own text lays them.
-/
import Derived.Laws.FloatArith
import Derived.WalkLawsBesides
import Derived.Shelf.Slices.Turned
import Derived.Test.YtnbojbcljfiamaaGreatDoorJPermittedBy4
import Derived.Test.YtnbojbcljfiamaaGreatDoorJPermittedBy7
import Derived.Test.YtnbojbcljfiamaaGreatDoorJPermittedBy0
import Derived.Test.YtnbojbcljfiamaaGreatDoorJPermittedBy5
import Derived.Test.YtnbojbcljfiamaaGreatDoorJPermittedBy2
import Derived.Test.YtnbojbcljfiamaaGreatDoorJPermittedBy6
import Derived.Test.YtnbojbcljfiamaaGreatDoorCards
import Derived.Test.YtnbojbcljfiamaaGreatDoorTie
import Derived.WalkKit
import Derived.ProofKit
import Derived.OpenShut
import Derived.ShutString
import Derived.ChangeOld
import Derived.Below
import Derived.Lib.SmallJoins
import Derived.Deep.Slices
import Derived.Deep.DeepHandedRow
import Derived.Shelf.Vars
import Derived.Lay
import Derived.MakeChecks
import Derived.Stop.LaidErr
namespace Go.Proofs.YtnbojbcljfiamaaGreatDoor
open Go.RowKit Go.Shelf

set_option maxHeartbeats 1000000 in
theorem l3HasText_any (v : Value) (ss : List ByteArray) (s : ByteArray) (w : World) (hm : ss.length ≤ 1048577) (hr : VS w v (strs ss)) :
    Calls Tryz.prog 134 #[v, .string s] w fun e w' => e = .returned (.bool (hasT ss s)) ∧ w' = w := by
  obtain ⟨a, cap, rfl⟩ := hr.strLen
  go_enter Tryz.func134, Tryz.ntmps134
  go_wp2
  go_loop [9] (fun i => ∃ n : Nat, n ≤ ss.length ∧ i = .int .i64 n ∧ hasTo ss s n = false) (fun i => ss.length - (intOf i).toNat)
  case atStart => exact ⟨0, Nat.zero_le _, rfl, hasTo_zero _ _⟩
  case round =>
    obtain ⟨n, hn, rfl, ht⟩ := hrel
    have HT := hid ht
    clear ht
    by_cases hlt : n < ss.length
    · obtain ⟨b, off, rfl, hb, hcap, q0⟩ := hr.str hlt
      have HS := hid (hasTo_succ (s := s) hlt)
      have HY := hid (fun h => hasT_yes (s := s) hlt h)
      generalize ss[n] = x at *
      cases he : (x.toList == s.toList)
      · have HR := hid (show hasTo ss s (n + 1) = false by rw [HS.out, HT.out, he]; rfl)
        go_wp2
        exact ⟨⟨n + 1, by omega, by go_num, HR.out⟩, by simp [intOf]; omega⟩
      · have HR := hid (HY.out he)
        go_wp2
        go_ret
        exact ⟨ret_bool HR.out.symm, rfl⟩
    · obtain rfl : n = ss.length := by omega
      have HR := hid (show hasT ss s = false by rw [← hasT_end, HT.out])
      go_wp2
      go_ret
      exact ⟨ret_bool HR.out.symm, rfl⟩

theorem containsS_hasT (ss : List ByteArray) (s : ByteArray) : Lib.containsS ss s = hasT ss s := by
  rw [Bool.eq_iff_iff, Lib.containsS_iff]
  unfold hasT
  rw [List.any_eq_true]
  constructor
  · intro h
    exact ⟨s, h, by simp⟩
  · rintro ⟨x, hx, he⟩
    have : x = s := bytes_same (by simpa [toList_data] using he)
    rw [← this]
    exact hx

theorem contS_any (v : Value) (ss : List ByteArray) (s : ByteArray) (w : World) (hm : ss.length ≤ 1048577) (hr : VS w v (strs ss)) :
    Calls Tryz.prog 116 #[v, .string s] w fun e w' => e = .returned (.bool (hasT ss s)) ∧ w' = w := by
  rcases hr with ⟨a, cap, rfl, h0⟩ | ⟨b, off, cap, rfl, hb, hl, hc⟩
  · have : ss = [] := by simpa [strs] using h0
    subst this
    exact Any.slices_Contains_string_empty Tryz.lays110 a cap s w
  · have h := Any.slices_Contains_string Tryz.lays110 b off ss.length cap ss s w (Nat.le_refl _) (by omega) (fun j hj => by
      have := hc j (by rw [strs_len]; exact hj)
      rw [this]
      simp [strs, hj])
    rw [List.take_length, containsS_hasT] at h
    rw [strs_len]
    exact h

set_option maxHeartbeats 1000000 in
theorem hasAll_any (v v' : Value) (ss ts : List ByteArray) (w : World) (hm : ss.length ≤ 1048577) (hm' : ts.length ≤ 1048577) (hr : VS w v (strs ss)) (hr' : VS w v' (strs ts)) :
    Calls Tryz.prog 81 #[v, v'] w fun e w' => e = .returned (.bool (allT ss ts)) ∧ w' = w := by
  obtain ⟨a, cap, rfl⟩ := hr'.strLen
  go_enter Tryz.func81, Tryz.ntmps81
  go_wp2
  go_loop [9] (fun i => ∃ n : Nat, n ≤ ts.length ∧ i = .int .i64 n ∧ allTo3 ss ts n = true) (fun i => ts.length - (intOf i).toNat)
  case atStart => exact ⟨0, Nat.zero_le _, rfl, allTo3_zero _ _⟩
  case round =>
    obtain ⟨n, hn, rfl, ht⟩ := hrel
    have HT := hid ht
    clear ht
    by_cases hlt : n < ts.length
    · obtain ⟨b, off, rfl, hb, hcap, q0⟩ := hr'.str hlt
      have HS := hid (allTo3_succ (ss := ss) hlt)
      have HY := hid (fun h => allT_no (ss := ss) hlt h)
      generalize ts[n] = x at *
      have hC := contS_any v ss x w hm hr
      cases he : hasT ss x
      · have HR := hid (HY.out he)
        rw [he] at hC
        go_wp2_with (go_at_call 116; refine hC.mono ?_; rintro e w1 ⟨rfl, rfl⟩)
        go_ret
        exact ⟨ret_bool HR.out.symm, rfl⟩
      · have HR := hid (show allTo3 ss ts (n + 1) = true by rw [HS.out, HT.out, he]; rfl)
        rw [he] at hC
        go_wp2_with (go_at_call 116; refine hC.mono ?_; rintro e w1 ⟨rfl, rfl⟩)
        exact ⟨⟨n + 1, by omega, by go_num, HR.out⟩, by simp [intOf]; omega⟩
    · obtain rfl : n = ts.length := by omega
      have HR := hid (show allT ss ts = true by rw [← allT_end, HT.out])
      go_wp2
      go_ret
      exact ⟨ret_bool HR.out.symm, rfl⟩

set_option maxHeartbeats 1000000 in
theorem anyRevoked_any (v v' : Value) (ks : List Lk) (zs : List Int) (w : World) (hm : ks.length ≤ 1048577) (hm' : zs.length ≤ 1048577) (hr : LkS w v ks) (hr' : VS w v' (nums zs)) :
    Calls Tryz.prog 84 #[v, v'] w fun e w' => e = .returned (.bool (rvB ks zs)) ∧ Below w.heap.size w w' := by
  obtain ⟨a, cap, rfl⟩ := hr.len
  go_enter Tryz.func84, Tryz.ntmps84
  go_wp2
  go_loopw [9] (fun i wr => ∃ n : Nat, n ≤ ks.length ∧ i = .int .i64 n ∧ rvTo ks zs n = false ∧ Below w.heap.size w wr) (fun i _ => ks.length - (intOf i).toNat)
  case atStart => exact ⟨0, Nat.zero_le _, rfl, rvTo_zero _ _, Below.refl _ _⟩
  case round =>
    obtain ⟨n, hn, rfl, ht, hB⟩ := hrel
    have HT := hid ht
    clear ht
    by_cases hlt : n < ks.length
    · obtain ⟨b, off, rfl, hb, hcap, q0, q1, q2, q3, q4⟩ := (hr.below hB).at hlt
      have HS := hid (rvTo_succ (zs := zs) hlt)
      have HY := hid (fun h => rvB_yes (zs := zs) hlt h)
      generalize ks[n] = k at *
      have hBw : Below wr.heap.size wr (wr.alloc (.cells #[.string k.who, .string k.to, .int .i64 k.se, .int .i64 k.fr, .int .i64 k.un] 126)) := (Below.refl _ wr).alloc (Nat.le_refl _) _
      have hBa := below_one hB hBw
      have hC := contI_any v' zs k.se _ hm' (hr'.below hBa)
      cases he : isI zs k.se
      · have HR := hid (show rvTo ks zs (n + 1) = false by rw [HS.out, HT.out, he]; rfl)
        rw [he] at hC
        go_wp2_with (go_at_call 117; refine hC.mono ?_; rintro e w1 ⟨rfl, rfl⟩)
        go_roundw
        case rel => exact ⟨n + 1, by omega, by go_num, HR.out, hBa⟩
        case measure => simp [intOf]; omega
      · have HR := hid (HY.out he)
        rw [he] at hC
        go_wp2_with (go_at_call 117; refine hC.mono ?_; rintro e w1 ⟨rfl, rfl⟩)
        go_ret
        exact ⟨ret_bool HR.out.symm, hBa⟩
    · obtain rfl : n = ks.length := by omega
      have HR := hid (show rvB ks zs = false by rw [← rvB_end, HT.out])
      go_wp2
      go_ret
      exact ⟨ret_bool HR.out.symm, hB⟩

end Go.Proofs.YtnbojbcljfiamaaGreatDoor

namespace Go.Proofs.YtnbojbcljfiamaaGreatDoor
open Go.RowKit Go.Shelf

/-- What is told of a token, good or not. -/
def chk0 (ks : List Lk) (ss : List ByteArray) (nw : Int) (zs : List Int) (at_ : ByteArray) : Int := if tkB ks = true then chk1 ks (sgTo ks ks.length) ss nw zs at_ else 1
theorem chk0_no {ks : List Lk} (ss : List ByteArray) (nw : Int) (zs : List Int) (at_ : ByteArray) (h : tkB ks = false) : chk0 ks ss nw zs at_ = 1 := if_neg (by rw [h]; exact Bool.false_ne_true)
theorem chk0_2 {ks : List Lk} {ss : List ByteArray} (nw : Int) (zs : List Int) (at_ : ByteArray) (h : tkB ks = true) (h2 : allT ss (sgTo ks ks.length) = false) : chk0 ks ss nw zs at_ = 2 := by
  unfold chk0 chk1
  rw [if_pos h, if_pos h2]
theorem chk0_3 {ks : List Lk} {ss : List ByteArray} {nw : Int} (zs : List Int) (at_ : ByteArray) (h : tkB ks = true) (h2 : allT ss (sgTo ks ks.length) = true) (h3 : inT ks nw = false) : chk0 ks ss nw zs at_ = 3 := by
  unfold chk0 chk1
  rw [if_pos h, if_neg (by rw [h2]; decide), if_pos h3]
theorem chk0_4 {ks : List Lk} {ss : List ByteArray} {nw : Int} {zs : List Int} (at_ : ByteArray) (h : tkB ks = true) (h2 : allT ss (sgTo ks ks.length) = true) (h3 : inT ks nw = true) (h4 : rvB ks zs = true) : chk0 ks ss nw zs at_ = 4 := by
  unfold chk0 chk1
  rw [if_pos h, if_neg (by rw [h2]; decide), if_neg (by rw [h3]; decide), if_pos h4]
theorem chk0_5 {ks : List Lk} {ss : List ByteArray} {nw : Int} {zs : List Int} {at_ : ByteArray} (h : tkB ks = true) (h2 : allT ss (sgTo ks ks.length) = true) (h3 : inT ks nw = true) (h4 : rvB ks zs = false) (h5 : toOk ks at_ = false) : chk0 ks ss nw zs at_ = 5 := by
  unfold chk0 chk1
  rw [if_pos h, if_neg (by rw [h2]; decide), if_neg (by rw [h3]; decide), if_neg (by rw [h4]; decide), if_pos h5]
theorem chk0_0 {ks : List Lk} {ss : List ByteArray} {nw : Int} {zs : List Int} {at_ : ByteArray} (h : tkB ks = true) (h2 : allT ss (sgTo ks ks.length) = true) (h3 : inT ks nw = true) (h4 : rvB ks zs = false) (h5 : toOk ks at_ = true) : chk0 ks ss nw zs at_ = 0 := by
  unfold chk0 chk1
  rw [if_pos h, if_neg (by rw [h2]; decide), if_neg (by rw [h3]; decide), if_neg (by rw [h4]; decide), if_neg (by rw [h5]; decide)]

set_option maxHeartbeats 4000000 in
theorem l3Check_any (v v1 v3 : Value) (ks : List Lk) (ss : List ByteArray) (nw : Int) (zs : List Int) (at_ : ByteArray) (w : World) (hm : ks.length ≤ 1048577) (hms : ss.length ≤ 1048577) (hmz : zs.length ≤ 1048577) (hf : ∀ k ∈ ks, k.size ≤ 1048576) (hr : LkS w v ks) (hrs : VS w v1 (strs ss)) (hrz : VS w v3 (nums zs)) :
    Calls Tryz.prog 104 #[v, v1, .int .i64 nw, v3, .string at_] w fun e w' => e = .returned (.int .i64 (chk0 ks ss nw zs at_)) ∧ Below w.heap.size w w' := by
  obtain ⟨a, cap, rfl⟩ := hr.len
  cases hg : tkB ks
  · have HR := hid (chk0_no ss nw zs at_ hg)
    go_enter Tryz.func104, Tryz.ntmps104
    go_wp2_with fail
    refine (specGoodToken_any _ ks _ hm hf hr).mono ?_
    rintro e w1 ⟨rfl, hB1⟩
    rw [hg]
    go_wp2_with fail
    go_ret
    exact ⟨ret_int HR.out.symm, hB1⟩
  · have hgd := tkB_good hg
    have hl := tkB_len hg
    have HG := hid hg
    have hsl : (sgTo ks ks.length).length ≤ 1048577 := by rw [sgTo_len]; exact hm
    go_enter Tryz.func104, Tryz.ntmps104
    go_wp2_with fail
    refine (specGoodToken_any _ ks _ hm hf hr).mono ?_
    rintro e w1 ⟨rfl, hB1⟩
    rw [hg]
    go_wp2_with fail
    refine (l3Signed_any _ ks _ hm hgd hf (hr.below hB1)).mono ?_
    rintro e w2 ⟨v2, rfl, hrow, hB2⟩
    have hBB2 := below_one hB1 hB2
    have hr2 := hr.below hBB2
    have hrs2 := hrs.below hBB2
    have hrz2 := hrz.below hBB2
    have hrg2 := VS.ownS hrow
    obtain ⟨a2, cap2, rfl⟩ := ownsRow_len hrow
    clear hr hrs hrz hrow hB1 hB2 hg
    have H2 := hid (fun h => chk0_2 (ks := ks) (ss := ss) nw zs at_ HG.out h)
    have H3 := hid (fun h h' => chk0_3 (ks := ks) (ss := ss) (nw := nw) zs at_ HG.out h h')
    have H4 := hid (fun h h' h4 => chk0_4 (ks := ks) (ss := ss) (nw := nw) (zs := zs) at_ HG.out h h' h4)
    have H5 := hid (fun h h' h4 h5 => chk0_5 (ks := ks) (ss := ss) (nw := nw) (zs := zs) (at_ := at_) HG.out h h' h4 h5)
    have H0 := hid (fun h h' h4 h5 => chk0_0 (ks := ks) (ss := ss) (nw := nw) (zs := zs) (at_ := at_) HG.out h h' h4 h5)
    generalize sgTo ks ks.length = sg at *
    go_wp2_with fail
    go_loopw [23] (fun i wr => ∃ n : Nat, n ≤ sg.length ∧ i = .int .i64 n ∧ allTo3 ss sg n = true ∧ Below w2.heap.size w2 wr) (fun i _ => sg.length - (intOf i).toNat)
    case atStart => exact ⟨0, Nat.zero_le _, rfl, allTo3_zero _ _, Below.refl _ _⟩
    case round =>
      obtain ⟨n, hn, rfl, ht, hB⟩ := hrel
      have HT := hid ht
      clear ht
      by_cases hlt : n < sg.length
      · obtain ⟨b, off, rfl, hb, hcap, q0⟩ := (hrg2.below hB).str hlt
        have HS := hid (allTo3_succ (ss := ss) hlt)
        have HY := hid (fun h => allT_no (ss := ss) hlt h)
        generalize sg[n] = x at *
        have hC := l3HasText_any v1 ss x wr hms (hrs2.below hB)
        cases he : hasT ss x
        · have HR := hid (H2.out (HY.out he))
          rw [he] at hC
          go_wp2_with (go_at_call 134; refine hC.mono ?_; rintro e w3 ⟨rfl, rfl⟩)
          go_ret
          exact ⟨ret_int HR.out.symm, below_one hBB2 hB⟩
        · have HR := hid (show allTo3 ss sg (n + 1) = true by rw [HS.out, HT.out, he]; rfl)
          rw [he] at hC
          go_wp2_with (go_at_call 134; refine hC.mono ?_; rintro e w3 ⟨rfl, rfl⟩)
          go_roundw
          case rel => exact ⟨n + 1, by omega, by go_num, HR.out, hB⟩
          case measure => simp [intOf]; omega
      · obtain rfl : n = sg.length := by omega
        have HA := hid (show allT ss sg = true by rw [← allT_end, HT.out])
        clear HT
        go_wp2_with fail
        go_loopw [34] (fun i wr => ∃ n : Nat, n ≤ ks.length ∧ i = .int .i64 n ∧ inTo ks nw n = true ∧ Below w2.heap.size w2 wr) (fun i _ => ks.length - (intOf i).toNat)
        case atStart => exact ⟨0, Nat.zero_le _, rfl, inTo_zero _ _, hB⟩
        case round =>
          obtain ⟨n, hn, rfl, ht, hB⟩ := hrel
          have HT := hid ht
          clear ht
          by_cases hlt : n < ks.length
          · obtain ⟨b, off, rfl, hb, hcap, q0, q1, q2, q3, q4⟩ := (hr2.below hB).at hlt
            have HS := hid (inTo_succ (nw := nw) hlt)
            have HY := hid (fun h => inT_no (nw := nw) hlt h)
            generalize ks[n] = k at *
            have hBa : Below w2.heap.size w2 (wr.alloc (.cells #[.string k.who, .string k.to, .int .i64 k.se, .int .i64 k.fr, .int .i64 k.un] 126)) := hB.alloc hB.size _
            have hC := fun W => l1In_any nw k.fr k.un W
            have hI : inB k.fr k.un nw = tmIn k nw := rfl
            rw [hI] at hC
            clear hI
            cases he : tmIn k nw
            · have HR := hid (H3.out HA.out (HY.out he))
              rw [he] at hC
              go_wp2_with (go_at_call 64; refine (hC _).mono ?_; rintro e w3 ⟨rfl, rfl⟩)
              go_ret
              exact ⟨ret_int HR.out.symm, below_one hBB2 hBa⟩
            · have HR := hid (show inTo ks nw (n + 1) = true by rw [HS.out, HT.out, he]; rfl)
              rw [he] at hC
              go_wp2_with (go_at_call 64; refine (hC _).mono ?_; rintro e w3 ⟨rfl, rfl⟩)
              go_roundw
              case rel => first | exact ⟨n + 1, by omega, by go_num, HR.out, hBa⟩ | ((repeat apply Exists.intro); exact ⟨⟨n + 1, by omega, by go_num, HR.out, hBa⟩, rfl⟩)
              case measure => simp [intOf]; omega
          · obtain rfl : n = ks.length := by omega
            have HI := hid (show inT ks nw = true by rw [← inT_end, HT.out])
            clear HT
            go_wp2_with fail
            go_loopw [48] (fun i wr => ∃ n : Nat, n ≤ ks.length ∧ i = .int .i64 n ∧ rvTo ks zs n = false ∧ Below w2.heap.size w2 wr) (fun i _ => ks.length - (intOf i).toNat)
            case atStart => exact ⟨0, Nat.zero_le _, rfl, rvTo_zero _ _, hB⟩
            case round =>
              obtain ⟨n, hn, rfl, ht, hB⟩ := hrel
              have HT := hid ht
              clear ht
              by_cases hlt : n < ks.length
              · obtain ⟨b, off, rfl, hb, hcap, q0, q1, q2, q3, q4⟩ := (hr2.below hB).at hlt
                have HS := hid (rvTo_succ (zs := zs) hlt)
                have HY := hid (fun h => rvB_yes (zs := zs) hlt h)
                generalize ks[n] = k at *
                have hBw : Below wr.heap.size wr (wr.alloc (.cells #[.string k.who, .string k.to, .int .i64 k.se, .int .i64 k.fr, .int .i64 k.un] 126)) := (Below.refl _ wr).alloc (Nat.le_refl _) _
                have hBa := below_one hB hBw
                have hC := l1Has_any v3 zs k.se _ hmz (hrz2.below hBa)
                cases he : isI zs k.se
                · have HR := hid (show rvTo ks zs (n + 1) = false by rw [HS.out, HT.out, he]; rfl)
                  rw [he] at hC
                  go_wp2_with (go_at_call 135; refine hC.mono ?_; rintro e w3 ⟨rfl, rfl⟩)
                  go_roundw
                  case rel => first | exact ⟨n + 1, by omega, by go_num, HR.out, hBa⟩ | ((repeat apply Exists.intro); exact ⟨⟨n + 1, by omega, by go_num, HR.out, hBa⟩, rfl⟩)
                  case measure => simp [intOf]; omega
                · have HR := hid (H4.out HA.out HI.out (HY.out he))
                  rw [he] at hC
                  go_wp2_with (go_at_call 135; refine hC.mono ?_; rintro e w3 ⟨rfl, rfl⟩)
                  go_ret
                  exact ⟨ret_int HR.out.symm, below_one hBB2 hBa⟩
              · obtain rfl : n = ks.length := by omega
                have HV := hid (show rvB ks zs = false by rw [← rvB_end, HT.out])
                clear HT
                obtain ⟨m, hmm⟩ : ∃ m, m = ks.length - 1 := ⟨_, rfl⟩
                have hlm : m < ks.length := by omega
                obtain ⟨b, off, rfl, hb, hcap, _, q1, _, _, _⟩ := (hr2.below hB).at hlm
                have HO := hid (toOk_at (at_ := at_) hlm hmm)
                have hw1 : IntKind.i64.wrap ((ks.length : Int) - 1) = (m : Int) := by rw [IntKind.wrap_i64]; omega
                have hw2 : (m : Int) < (ks.length : Int) := by omega
                generalize ks[m] = k at *
                clear hmm
                cases he : (k.to.toList == at_.toList)
                · have HR := hid (H5.out HA.out HI.out HV.out (by rw [HO.out, he]))
                  go_wp2
                  go_ret
                  exact ⟨ret_int HR.out.symm, below_one hBB2 hB⟩
                · have HR := hid (H0.out HA.out HI.out HV.out (by rw [HO.out, he]))
                  go_wp2
                  go_ret
                  exact ⟨ret_int HR.out.symm, below_one hBB2 hB⟩

theorem chkX_0 (ks : List Lk) (ss : List ByteArray) {nw : Int} {zs : List Int} {at_ : ByteArray} (h : argB nw at_ ss zs = true) : chkX ks (sgTo ks ks.length) ss nw zs at_ = chk0 ks ss nw zs at_ := by
  unfold chkX chk0
  rw [h, Bool.and_true]

set_option maxHeartbeats 2000000 in
theorem specCheckToken_any (v v1 v3 : Value) (ks : List Lk) (ss : List ByteArray) (nw : Int) (zs : List Int) (at_ : ByteArray) (w : World) (hm : ks.length ≤ 1048577) (hms : ss.length ≤ 1048577) (hmz : zs.length ≤ 1048577) (hat : at_.size ≤ 1048576) (hf : ∀ k ∈ ks, k.size ≤ 1048576) (hr : LkS w v ks) (hrs : VS w v1 (strs ss)) (hrz : VS w v3 (nums zs)) :
    Calls Tryz.prog 69 #[v, v1, .int .i64 nw, v3, .string at_] w fun e w' => e = .returned (.int .i64 (chkX ks (sgTo ks ks.length) ss nw zs at_)) ∧ Below w.heap.size w w' := by
  obtain ⟨a1, cap1, rfl⟩ := hrs.strLen
  obtain ⟨a3, cap3, rfl⟩ := hrz.numLen
  cases h1 : tmB nw
  · have HR := hid (show chkX ks (sgTo ks ks.length) ss nw zs at_ = 1 from chkX_no2 ks _ (by unfold argB; rw [h1]; rfl))
    go_enter Tryz.func69, Tryz.ntmps69
    go_wp2_with (first | (go_at_call 102; refine (l3Time_any _ _).mono ?_; rintro e w1 ⟨rfl, rfl⟩) | (go_at_call 103; refine (specGoodName_any at_ _ hat).mono ?_; rintro e w2 ⟨rfl, hB2⟩))
    go_ret
    exact ⟨ret_int HR.out.symm, Below.refl _ _⟩
  · cases h2 : gnB (split at_ 47)
    · have HR := hid (show chkX ks (sgTo ks ks.length) ss nw zs at_ = 1 from chkX_no2 ks _ (by unfold argB; rw [h1, h2]; rfl))
      go_enter Tryz.func69, Tryz.ntmps69
      go_wp2_with (first | (go_at_call 102; refine (l3Time_any _ _).mono ?_; rintro e w1 ⟨rfl, rfl⟩) | (go_at_call 103; refine (specGoodName_any at_ _ hat).mono ?_; rintro e w2 ⟨rfl, hB2⟩))
      go_ret
      exact ⟨ret_int HR.out.symm, hB2⟩
    · cases h3 : decide (ss.length ≤ 200)
      · have HR := hid (show chkX ks (sgTo ks ks.length) ss nw zs at_ = 1 from chkX_no2 ks _ (by unfold argB; rw [h1, h2, h3]; rfl))
        have d3 : decide ((200 : Int) < (ss.length : Int)) = true := by have := of_decide_eq_false h3; simp; omega
        clear h3
        go_enter Tryz.func69, Tryz.ntmps69
        go_wp2_with (first | (go_at_call 102; refine (l3Time_any _ _).mono ?_; rintro e w1 ⟨rfl, rfl⟩) | (go_at_call 103; refine (specGoodName_any at_ _ hat).mono ?_; rintro e w2 ⟨rfl, hB2⟩))
        go_ret
        exact ⟨ret_int HR.out.symm, hB2⟩
      · cases h4 : decide (zs.length ≤ 200)
        · have HR := hid (show chkX ks (sgTo ks ks.length) ss nw zs at_ = 1 from chkX_no2 ks _ (by unfold argB; rw [h1, h2, h3, h4]; rfl))
          have d3 : decide ((200 : Int) < (ss.length : Int)) = false := by have := of_decide_eq_true h3; simp; omega
          have d4 : decide ((200 : Int) < (zs.length : Int)) = true := by have := of_decide_eq_false h4; simp; omega
          clear h3 h4
          go_enter Tryz.func69, Tryz.ntmps69
          go_wp2_with (first | (go_at_call 102; refine (l3Time_any _ _).mono ?_; rintro e w1 ⟨rfl, rfl⟩) | (go_at_call 103; refine (specGoodName_any at_ _ hat).mono ?_; rintro e w2 ⟨rfl, hB2⟩))
          go_ret
          exact ⟨ret_int HR.out.symm, hB2⟩
        · have HR := hid (show chkX ks (sgTo ks ks.length) ss nw zs at_ = chk0 ks ss nw zs at_ from chkX_0 ks ss (by unfold argB; rw [h1, h2, h3, h4]; rfl))
          have d3 : decide ((200 : Int) < (ss.length : Int)) = false := by have := of_decide_eq_true h3; simp; omega
          have d4 : decide ((200 : Int) < (zs.length : Int)) = false := by have := of_decide_eq_true h4; simp; omega
          clear h3 h4
          go_enter Tryz.func69, Tryz.ntmps69
          go_wp2_with (first | (go_at_call 102; refine (l3Time_any _ _).mono ?_; rintro e w1 ⟨rfl, rfl⟩) | (go_at_call 103; refine (specGoodName_any at_ _ hat).mono ?_; rintro e w2 ⟨rfl, hB2⟩) | (go_at_call 104; refine (l3Check_any _ _ _ ks ss nw zs at_ _ hm hms hmz hf (hr.below hB2) (hrs.below hB2) (hrz.below hB2)).mono ?_; rintro e w3 ⟨rfl, hB3⟩))
          go_ret
          exact ⟨ret_int HR.out.symm, below_one hB2 hB3⟩

end Go.Proofs.YtnbojbcljfiamaaGreatDoor

namespace Go.Proofs.YtnbojbcljfiamaaGreatDoor
open Go.RowKit Go.Shelf

theorem fN_zero : (0 : Nat) = fN 0 := by decide
theorem fN_most : (4681608360884174848 : Nat) = fN 100000 := by
  have h : Nat.log2 100000 = 16 := by decide
  rw [(fN_pos (n := 100000) (by omega) (by omega)).1, h]
theorem max_run (ts : Array TypeId) (t : TypeId) {a b : Nat} (ha : a ≤ 100000) (hb : b ≤ 100000) (W : World) : (Builtin.max_ ts t #[.float .f64 (fN a), .float .f64 (fN b)]).run Tryz.prog W = .ok (.float .f64 (fN (max a b))) W := by
  have ho := order_fN a b (by omega) (by omega)
  have hn := neg_fN a (by omega)
  rcases Nat.lt_trichotomy a b with h | h | h
  · rw [Nat.compare_eq_lt.2 h] at ho
    rw [Nat.max_eq_right (by omega)]
    simp [Builtin.max_, Builtin.max2, ho]
  · subst h
    rw [Nat.compare_eq_eq.2 rfl] at ho
    rw [Nat.max_self]
    simp [Builtin.max_, Builtin.max2, ho]
  · rw [Nat.compare_eq_gt.2 h] at ho
    rw [Nat.max_eq_left (by omega)]
    simp [Builtin.max_, Builtin.max2, ho]
theorem min_run (ts : Array TypeId) (t : TypeId) {a b : Nat} (ha : a ≤ 100000) (hb : b ≤ 100000) (W : World) : (Builtin.min_ ts t #[.float .f64 (fN a), .float .f64 (fN b)]).run Tryz.prog W = .ok (.float .f64 (fN (min a b))) W := by
  have ho := order_fN a b (by omega) (by omega)
  have hn := neg_fN a (by omega)
  rcases Nat.lt_trichotomy a b with h | h | h
  · rw [Nat.compare_eq_lt.2 h] at ho
    rw [Nat.min_eq_left (by omega)]
    simp [Builtin.min_, Builtin.min2, ho]
  · subst h
    rw [Nat.compare_eq_eq.2 rfl] at ho
    rw [Nat.min_self]
    simp [Builtin.min_, Builtin.min2, ho]
  · rw [Nat.compare_eq_gt.2 h] at ho
    rw [Nat.min_eq_right (by omega)]
    simp [Builtin.min_, Builtin.min2, ho]

set_option maxHeartbeats 1000000 in
theorem windowOf_any (v : Value) (ks : List Lk) (w : World) (hm : ks.length ≤ 1048577) (hg : ∀ k ∈ ks, k.good = true) (hr : LkS w v ks) :
    Calls Tryz.prog 83 #[v] w fun e w' => e = .returned (.complex .f64 (fN (mxF ks ks.length)) (fN (mnU ks ks.length))) ∧ Below w.heap.size w w' := by
  obtain ⟨a, cap, rfl⟩ := hr.len
  have HW := hid (fun n hn => win_le hg n hn)
  go_enter Tryz.func83, Tryz.ntmps83
  go_wp2
  go_loopw [3, 10] (fun c i wr => ∃ n : Nat, n ≤ ks.length ∧ i = .int .i64 n ∧ c = .complex .f64 (fN (mxF ks n)) (fN (mnU ks n)) ∧ Below w.heap.size w wr) (fun _ i _ => ks.length - (intOf i).toNat)
  case atStart => exact ⟨0, Nat.zero_le _, rfl, by rw [mxF_zero, mnU_zero, ← fN_zero, ← fN_most], Below.refl _ _⟩
  case round =>
    obtain ⟨n, hn, rfl, rfl, hB⟩ := hrel
    by_cases hlt : n < ks.length
    · obtain ⟨b, off, rfl, hb, hcap, q0, q1, q2, q3, q4⟩ := (hr.below hB).at hlt
      obtain ⟨_, _, _, b4, b5, _⟩ := (Lk.good_iff ks[n]).1 (hg ks[n] (List.getElem_mem hlt))
      obtain ⟨hx, hy⟩ := HW.out n hn
      have HX := hid (mxF_succ hlt)
      have HY := hid (mnU_succ hlt)
      generalize ks[n] = k at *
      generalize mxF ks n = x at *
      generalize mnU ks n = y at *
      obtain ⟨wh, tq, se, fr, un⟩ := k
      dsimp only at *
      obtain ⟨f, rfl⟩ := Int.eq_ofNat_of_zero_le b4.1
      obtain ⟨u, rfl⟩ := Int.eq_ofNat_of_zero_le b5.1
      rw [Int.toNat_natCast] at HX HY
      have hBa : Below w.heap.size w (wr.alloc (.cells #[.string wh, .string tq, .int .i64 se, .int .i64 (f : Int), .int .i64 (u : Int)] 126)) := hB.alloc hB.size _
      have c1 : floatOfInt FloatKind.f64 (f : Int) = fN f := rfl
      have c2 : floatOfInt FloatKind.f64 (u : Int) = fN u := rfl
      have m1 := fun ts t W => max_run ts t (a := x) (b := f) hx (by omega) W
      have m2 := fun ts t W => min_run ts t (a := y) (b := u) hy (by omega) W
      generalize max x f = x' at *
      generalize min y u = y' at *
      go_wp2
      go_roundw
      case rel => exact ⟨n + 1, by omega, by go_num, by rw [HX.out, HY.out], hBa⟩
      case measure => simp [intOf]; omega
    · obtain rfl : n = ks.length := by omega
      go_wp2
      go_ret
      exact ⟨rfl, hB⟩

set_option maxHeartbeats 1000000 in
theorem within_any (x y nw : Nat) (w : World) (hx : x ≤ 100000) (hy : y ≤ 100000) (hn : nw ≤ 100000) :
    Calls Tryz.prog 82 #[.complex .f64 (fN x) (fN y), .int .i64 (nw : Int)] w fun e w' => e = .returned (.bool (decide (x ≤ nw ∧ nw ≤ y))) ∧ w' = w := by
  have c1 : floatOfInt FloatKind.f64 (nw : Int) = fN nw := rfl
  have o1 := order_fN nw x (by omega) (by omega)
  have o2 := order_fN nw y (by omega) (by omega)
  have HR := hid (show decide (x ≤ nw ∧ nw ≤ y) = (decide (x ≤ nw) && decide (nw ≤ y)) from Bool.decide_and _ _)
  generalize decide (x ≤ nw ∧ nw ≤ y) = res at *
  rcases Nat.lt_trichotomy nw x with h | h | h
  · rw [Nat.compare_eq_lt.2 h] at o1
    have HQ := hid (show res = false by rw [HR.out, decide_eq_false (by omega)]; rfl)
    go_enter Tryz.func82, Tryz.ntmps82
    go_wp2
    go_ret
    exact ⟨ret_bool HQ.out.symm, rfl⟩
  · rw [Nat.compare_eq_eq.2 h] at o1
    rcases Nat.lt_trichotomy nw y with h2 | h2 | h2
    · rw [Nat.compare_eq_lt.2 h2] at o2
      have HQ := hid (show res = true by rw [HR.out, decide_eq_true (by omega), decide_eq_true (by omega)]; rfl)
      clear h h2
      go_enter Tryz.func82, Tryz.ntmps82
      go_wp2
      go_ret
      exact ⟨ret_bool HQ.out.symm, rfl⟩
    · rw [Nat.compare_eq_eq.2 h2] at o2
      have HQ := hid (show res = true by rw [HR.out, decide_eq_true (by omega), decide_eq_true (by omega)]; rfl)
      clear h h2
      go_enter Tryz.func82, Tryz.ntmps82
      go_wp2
      go_ret
      exact ⟨ret_bool HQ.out.symm, rfl⟩
    · rw [Nat.compare_eq_gt.2 h2] at o2
      have HQ := hid (show res = false by rw [HR.out, decide_eq_true (by omega), decide_eq_false (by omega)]; rfl)
      clear h h2
      go_enter Tryz.func82, Tryz.ntmps82
      go_wp2
      go_ret
      exact ⟨ret_bool HQ.out.symm, rfl⟩
  · rw [Nat.compare_eq_gt.2 h] at o1
    rcases Nat.lt_trichotomy nw y with h2 | h2 | h2
    · rw [Nat.compare_eq_lt.2 h2] at o2
      have HQ := hid (show res = true by rw [HR.out, decide_eq_true (by omega), decide_eq_true (by omega)]; rfl)
      clear h h2
      go_enter Tryz.func82, Tryz.ntmps82
      go_wp2
      go_ret
      exact ⟨ret_bool HQ.out.symm, rfl⟩
    · rw [Nat.compare_eq_eq.2 h2] at o2
      have HQ := hid (show res = true by rw [HR.out, decide_eq_true (by omega), decide_eq_true (by omega)]; rfl)
      clear h h2
      go_enter Tryz.func82, Tryz.ntmps82
      go_wp2
      go_ret
      exact ⟨ret_bool HQ.out.symm, rfl⟩
    · rw [Nat.compare_eq_gt.2 h2] at o2
      have HQ := hid (show res = false by rw [HR.out, decide_eq_true (by omega), decide_eq_false (by omega)]; rfl)
      clear h h2
      go_enter Tryz.func82, Tryz.ntmps82
      go_wp2
      go_ret
      exact ⟨ret_bool HQ.out.symm, rfl⟩

end Go.Proofs.YtnbojbcljfiamaaGreatDoor

namespace Go.Proofs.YtnbojbcljfiamaaGreatDoor
open Go.RowKit Go.Shelf

set_option maxHeartbeats 4000000 in
theorem implCheckToken_any (v v1 v3 : Value) (ks : List Lk) (ss : List ByteArray) (nw : Int) (zs : List Int) (at_ : ByteArray) (w : World) (hm : ks.length ≤ 1048577) (hms : ss.length ≤ 1048577) (hmz : zs.length ≤ 1048577) (hat : at_.size ≤ 1048576) (hf : ∀ k ∈ ks, k.size ≤ 1048576) (hr : LkS w v ks) (hrs : VS w v1 (strs ss)) (hrz : VS w v3 (nums zs)) (ht : Tab w) :
    Calls Tryz.prog 39 #[v, v1, .int .i64 nw, v3, .string at_] w fun e w' => e = .returned (.int .i64 (chkX ks (sgTo ks ks.length) ss nw zs at_)) ∧ Below w.heap.size w w' := by
  obtain ⟨a, cap, rfl⟩ := hr.len
  obtain ⟨a1, cap1, rfl⟩ := hrs.strLen
  obtain ⟨a3, cap3, rfl⟩ := hrz.numLen
  cases hg : tkB ks
  · have HR := hid (chkX_no1 (sgTo ks ks.length) ss nw zs at_ hg)
    go_enter Tryz.func39, Tryz.ntmps39
    go_wp2_with fail
    refine (implSignedOf_any _ ks _ hm hf hr ht).mono ?_
    rintro e w1 ⟨v1', rfl, hrow, hB1⟩
    obtain ⟨a', cap', rfl⟩ := ownsRow_len hrow
    rw [hg]
    go_wp2_with fail
    go_ret
    exact ⟨ret_int HR.out.symm, hB1⟩
  · have HG := hid hg
    have HSG := hid (sigL_yes hg)
    have hgd := tkB_good hg
    have hl := tkB_len hg
    cases h1 : tmB nw
    · have HR := hid (show chkX ks (sgTo ks ks.length) ss nw zs at_ = 1 from chkX_no2 ks _ (by unfold argB; rw [h1]; rfl))
      go_enter Tryz.func39, Tryz.ntmps39
      go_wp2_with fail
      refine (implSignedOf_any _ ks _ hm hf hr ht).mono ?_
      rintro e w1 ⟨v1', rfl, hrow, hB1⟩
      rw [HSG.out] at hrow
      obtain ⟨a', cap', rfl⟩ := ownsRow_len hrow
      rw [hg]
      go_wp2_with (first | (go_at_call 79; refine (goodTime_any _ _).mono ?_; rintro e wx ⟨rfl, rfl⟩) | (go_at_call 80; refine (implGoodName_any at_ _ hat).mono ?_; rintro e w2 ⟨rfl, hB2⟩))
      go_ret
      exact ⟨ret_int HR.out.symm, hB1⟩
    · cases h2 : gnB (split at_ 47)
      · have HR := hid (show chkX ks (sgTo ks ks.length) ss nw zs at_ = 1 from chkX_no2 ks _ (by unfold argB; rw [h1, h2]; rfl))
        go_enter Tryz.func39, Tryz.ntmps39
        go_wp2_with fail
        refine (implSignedOf_any _ ks _ hm hf hr ht).mono ?_
        rintro e w1 ⟨v1', rfl, hrow, hB1⟩
        rw [HSG.out] at hrow
        obtain ⟨a', cap', rfl⟩ := ownsRow_len hrow
        rw [hg]
        go_wp2_with (first | (go_at_call 79; refine (goodTime_any _ _).mono ?_; rintro e wx ⟨rfl, rfl⟩) | (go_at_call 80; refine (implGoodName_any at_ _ hat).mono ?_; rintro e w2 ⟨rfl, hB2⟩))
        go_ret
        exact ⟨ret_int HR.out.symm, below_one hB1 hB2⟩
      · cases h3 : decide (ss.length ≤ 200)
        · have HR := hid (show chkX ks (sgTo ks ks.length) ss nw zs at_ = 1 from chkX_no2 ks _ (by unfold argB; rw [h1, h2, h3]; rfl))
          have d3 : decide ((200 : Int) < (ss.length : Int)) = true := by have := of_decide_eq_false h3; simp; omega
          clear h3
          go_enter Tryz.func39, Tryz.ntmps39
          go_wp2_with fail
          refine (implSignedOf_any _ ks _ hm hf hr ht).mono ?_
          rintro e w1 ⟨v1', rfl, hrow, hB1⟩
          rw [HSG.out] at hrow
          obtain ⟨a', cap', rfl⟩ := ownsRow_len hrow
          rw [hg]
          go_wp2_with (first | (go_at_call 79; refine (goodTime_any _ _).mono ?_; rintro e wx ⟨rfl, rfl⟩) | (go_at_call 80; refine (implGoodName_any at_ _ hat).mono ?_; rintro e w2 ⟨rfl, hB2⟩))
          go_ret
          exact ⟨ret_int HR.out.symm, below_one hB1 hB2⟩
        · cases h4 : decide (zs.length ≤ 200)
          · have HR := hid (show chkX ks (sgTo ks ks.length) ss nw zs at_ = 1 from chkX_no2 ks _ (by unfold argB; rw [h1, h2, h3, h4]; rfl))
            have d3 : decide ((200 : Int) < (ss.length : Int)) = false := by have := of_decide_eq_true h3; simp; omega
            have d4 : decide ((200 : Int) < (zs.length : Int)) = true := by have := of_decide_eq_false h4; simp; omega
            clear h3 h4
            go_enter Tryz.func39, Tryz.ntmps39
            go_wp2_with fail
            refine (implSignedOf_any _ ks _ hm hf hr ht).mono ?_
            rintro e w1 ⟨v1', rfl, hrow, hB1⟩
            rw [HSG.out] at hrow
            obtain ⟨a', cap', rfl⟩ := ownsRow_len hrow
            rw [hg]
            go_wp2_with (first | (go_at_call 79; refine (goodTime_any _ _).mono ?_; rintro e wx ⟨rfl, rfl⟩) | (go_at_call 80; refine (implGoodName_any at_ _ hat).mono ?_; rintro e w2 ⟨rfl, hB2⟩))
            go_ret
            exact ⟨ret_int HR.out.symm, below_one hB1 hB2⟩
          · have HX := hid (show chkX ks (sgTo ks ks.length) ss nw zs at_ = chk0 ks ss nw zs at_ from chkX_0 ks ss (by unfold argB; rw [h1, h2, h3, h4]; rfl))
            have d3 : decide ((200 : Int) < (ss.length : Int)) = false := by have := of_decide_eq_true h3; simp; omega
            have d4 : decide ((200 : Int) < (zs.length : Int)) = false := by have := of_decide_eq_true h4; simp; omega
            have hnn := of_decide_eq_true h1
            obtain ⟨nn, hnn'⟩ := Int.eq_ofNat_of_zero_le hnn.1
            have hn1 : nn ≤ 100000 := by omega
            have HWI := hid (show inT ks nw = decide (mxF ks ks.length ≤ nn ∧ nn ≤ mnU ks ks.length) by rw [← inT_end, hnn']; exact win_in hgd hn1 ks.length (Nat.le_refl _))
            have HN := hid hnn'
            have hwl := win_le hgd ks.length (Nat.le_refl _)
            clear h3 h4 hnn hnn'
            have H2 := hid (fun h => chk0_2 (ks := ks) (ss := ss) nw zs at_ HG.out h)
            have H3 := hid (fun h h' => chk0_3 (ks := ks) (ss := ss) (nw := nw) zs at_ HG.out h h')
            have H4 := hid (fun h h' h4 => chk0_4 (ks := ks) (ss := ss) (nw := nw) (zs := zs) at_ HG.out h h' h4)
            have H5 := hid (fun h h' h4 h5 => chk0_5 (ks := ks) (ss := ss) (nw := nw) (zs := zs) (at_ := at_) HG.out h h' h4 h5)
            have H0 := hid (fun h h' h4 h5 => chk0_0 (ks := ks) (ss := ss) (nw := nw) (zs := zs) (at_ := at_) HG.out h h' h4 h5)
            have hsl : (sgTo ks ks.length).length ≤ 1048577 := by rw [sgTo_len]; exact hm
            obtain ⟨m, hmm⟩ : ∃ m, m = ks.length - 1 := ⟨_, rfl⟩
            have hlm : m < ks.length := by omega
            have HO := hid (toOk_at (at_ := at_) hlm hmm)
            have hw1 : IntKind.i64.wrap ((ks.length : Int) - 1) = (m : Int) := by rw [IntKind.wrap_i64]; omega
            have hw2 : (m : Int) < (ks.length : Int) := by omega
            clear hmm
            cases hA : allT ss (sgTo ks ks.length)
            · have HR := hid (HX.out.trans (H2.out hA))
              go_enter Tryz.func39, Tryz.ntmps39
              go_wp2_with fail
              refine (implSignedOf_any _ ks _ hm hf hr ht).mono ?_
              rintro e w1 ⟨v1', rfl, hrow, hB1⟩
              rw [HSG.out] at hrow
              obtain ⟨a', cap', rfl⟩ := ownsRow_len hrow
              rw [hg]
              go_wp2_with (first | (go_at_call 79; refine (goodTime_any _ _).mono ?_; rintro e wx ⟨rfl, rfl⟩) | (go_at_call 80; refine (implGoodName_any at_ _ hat).mono ?_; rintro e w2 ⟨rfl, hB2⟩))
              have hB12 := below_one hB1 hB2
              refine (hasAll_any _ _ ss (sgTo ks ks.length) _ hms hsl (hrs.below hB12) (VS.ownS (ownsRow_below hrow hB2))).mono ?_
              rintro e w3 ⟨rfl, rfl⟩
              rw [hA]
              go_wp2_with fail
              go_ret
              exact ⟨ret_int HR.out.symm, hB12⟩
            · cases hI : inT ks nw
              · have HR := hid (HX.out.trans (H3.out hA hI))
                have hI' : decide (mxF ks ks.length ≤ nn ∧ nn ≤ mnU ks ks.length) = false := by rw [← HWI.out, hI]
                go_enter Tryz.func39, Tryz.ntmps39
                go_wp2_with fail
                refine (implSignedOf_any _ ks _ hm hf hr ht).mono ?_
                rintro e w1 ⟨v1', rfl, hrow, hB1⟩
                rw [HSG.out] at hrow
                obtain ⟨a', cap', rfl⟩ := ownsRow_len hrow
                rw [hg]
                go_wp2_with (first | (go_at_call 79; refine (goodTime_any _ _).mono ?_; rintro e wx ⟨rfl, rfl⟩) | (go_at_call 80; refine (implGoodName_any at_ _ hat).mono ?_; rintro e w2 ⟨rfl, hB2⟩))
                have hB12 := below_one hB1 hB2
                refine (hasAll_any _ _ ss (sgTo ks ks.length) _ hms hsl (hrs.below hB12) (VS.ownS (ownsRow_below hrow hB2))).mono ?_
                rintro e w3 ⟨rfl, rfl⟩
                rw [hA]
                go_wp2_with fail
                refine (windowOf_any _ ks _ hm hgd (hr.below hB12)).mono ?_
                rintro e w4 ⟨rfl, hB4⟩
                have hB14 := below_one hB12 hB4
                go_wp2_with fail
                have hnx : (Value.int .i64 nw) = .int .i64 (nn : Int) := by rw [HN.out]
                rw [hnx]
                refine (within_any _ _ nn _ hwl.1 hwl.2 hn1).mono ?_
                rintro e w5 ⟨rfl, rfl⟩
                rw [hI']
                go_wp2_with fail
                go_ret
                exact ⟨ret_int HR.out.symm, hB14⟩
              · cases hV : rvB ks zs
                · obtain ⟨k, hk⟩ : ∃ k, k = ks[m] := ⟨_, rfl⟩
                  cases he : (ks[m].to.toList == at_.toList)
                  · have HR := hid (HX.out.trans (H5.out hA hI hV (by rw [HO.out, he])))
                    have hI' : decide (mxF ks ks.length ≤ nn ∧ nn ≤ mnU ks ks.length) = true := by rw [← HWI.out, hI]
                    go_enter Tryz.func39, Tryz.ntmps39
                    go_wp2_with fail
                    refine (implSignedOf_any _ ks _ hm hf hr ht).mono ?_
                    rintro e w1 ⟨v1', rfl, hrow, hB1⟩
                    rw [HSG.out] at hrow
                    obtain ⟨a', cap', rfl⟩ := ownsRow_len hrow
                    rw [hg]
                    go_wp2_with (first | (go_at_call 79; refine (goodTime_any _ _).mono ?_; rintro e wx ⟨rfl, rfl⟩) | (go_at_call 80; refine (implGoodName_any at_ _ hat).mono ?_; rintro e w2 ⟨rfl, hB2⟩))
                    have hB12 := below_one hB1 hB2
                    refine (hasAll_any _ _ ss (sgTo ks ks.length) _ hms hsl (hrs.below hB12) (VS.ownS (ownsRow_below hrow hB2))).mono ?_
                    rintro e w3 ⟨rfl, rfl⟩
                    rw [hA]
                    go_wp2_with fail
                    refine (windowOf_any _ ks _ hm hgd (hr.below hB12)).mono ?_
                    rintro e w4 ⟨rfl, hB4⟩
                    have hB14 := below_one hB12 hB4
                    go_wp2_with fail
                    have hnx : (Value.int .i64 nw) = .int .i64 (nn : Int) := by rw [HN.out]
                    rw [hnx]
                    refine (within_any _ _ nn _ hwl.1 hwl.2 hn1).mono ?_
                    rintro e w5 ⟨rfl, rfl⟩
                    rw [hI']
                    go_wp2_with fail
                    refine (anyRevoked_any _ _ ks zs _ hm hmz (hr.below hB14) (hrz.below hB14)).mono ?_
                    rintro e w6 ⟨rfl, hB6⟩
                    have hB16 := below_one hB14 hB6
                    rw [hV]
                    obtain ⟨b, off, rfl, hb, hcap, _, q1, _, _, _⟩ := (hr.below hB16).at hlm
                    rw [← hk] at q1 he
                    clear hk
                    go_wp2_with fail
                    go_ret
                    exact ⟨ret_int HR.out.symm, hB16⟩
                  · have HR := hid (HX.out.trans (H0.out hA hI hV (by rw [HO.out, he])))
                    have hI' : decide (mxF ks ks.length ≤ nn ∧ nn ≤ mnU ks ks.length) = true := by rw [← HWI.out, hI]
                    go_enter Tryz.func39, Tryz.ntmps39
                    go_wp2_with fail
                    refine (implSignedOf_any _ ks _ hm hf hr ht).mono ?_
                    rintro e w1 ⟨v1', rfl, hrow, hB1⟩
                    rw [HSG.out] at hrow
                    obtain ⟨a', cap', rfl⟩ := ownsRow_len hrow
                    rw [hg]
                    go_wp2_with (first | (go_at_call 79; refine (goodTime_any _ _).mono ?_; rintro e wx ⟨rfl, rfl⟩) | (go_at_call 80; refine (implGoodName_any at_ _ hat).mono ?_; rintro e w2 ⟨rfl, hB2⟩))
                    have hB12 := below_one hB1 hB2
                    refine (hasAll_any _ _ ss (sgTo ks ks.length) _ hms hsl (hrs.below hB12) (VS.ownS (ownsRow_below hrow hB2))).mono ?_
                    rintro e w3 ⟨rfl, rfl⟩
                    rw [hA]
                    go_wp2_with fail
                    refine (windowOf_any _ ks _ hm hgd (hr.below hB12)).mono ?_
                    rintro e w4 ⟨rfl, hB4⟩
                    have hB14 := below_one hB12 hB4
                    go_wp2_with fail
                    have hnx : (Value.int .i64 nw) = .int .i64 (nn : Int) := by rw [HN.out]
                    rw [hnx]
                    refine (within_any _ _ nn _ hwl.1 hwl.2 hn1).mono ?_
                    rintro e w5 ⟨rfl, rfl⟩
                    rw [hI']
                    go_wp2_with fail
                    refine (anyRevoked_any _ _ ks zs _ hm hmz (hr.below hB14) (hrz.below hB14)).mono ?_
                    rintro e w6 ⟨rfl, hB6⟩
                    have hB16 := below_one hB14 hB6
                    rw [hV]
                    obtain ⟨b, off, rfl, hb, hcap, _, q1, _, _, _⟩ := (hr.below hB16).at hlm
                    rw [← hk] at q1 he
                    clear hk
                    go_wp2_with fail
                    go_ret
                    exact ⟨ret_int HR.out.symm, hB16⟩
                · have HR := hid (HX.out.trans (H4.out hA hI hV))
                  have hI' : decide (mxF ks ks.length ≤ nn ∧ nn ≤ mnU ks ks.length) = true := by rw [← HWI.out, hI]
                  go_enter Tryz.func39, Tryz.ntmps39
                  go_wp2_with fail
                  refine (implSignedOf_any _ ks _ hm hf hr ht).mono ?_
                  rintro e w1 ⟨v1', rfl, hrow, hB1⟩
                  rw [HSG.out] at hrow
                  obtain ⟨a', cap', rfl⟩ := ownsRow_len hrow
                  rw [hg]
                  go_wp2_with (first | (go_at_call 79; refine (goodTime_any _ _).mono ?_; rintro e wx ⟨rfl, rfl⟩) | (go_at_call 80; refine (implGoodName_any at_ _ hat).mono ?_; rintro e w2 ⟨rfl, hB2⟩))
                  have hB12 := below_one hB1 hB2
                  refine (hasAll_any _ _ ss (sgTo ks ks.length) _ hms hsl (hrs.below hB12) (VS.ownS (ownsRow_below hrow hB2))).mono ?_
                  rintro e w3 ⟨rfl, rfl⟩
                  rw [hA]
                  go_wp2_with fail
                  refine (windowOf_any _ ks _ hm hgd (hr.below hB12)).mono ?_
                  rintro e w4 ⟨rfl, hB4⟩
                  have hB14 := below_one hB12 hB4
                  go_wp2_with fail
                  have hnx : (Value.int .i64 nw) = .int .i64 (nn : Int) := by rw [HN.out]
                  rw [hnx]
                  refine (within_any _ _ nn _ hwl.1 hwl.2 hn1).mono ?_
                  rintro e w5 ⟨rfl, rfl⟩
                  rw [hI']
                  go_wp2_with fail
                  refine (anyRevoked_any _ _ ks zs _ hm hmz (hr.below hB14) (hrz.below hB14)).mono ?_
                  rintro e w6 ⟨rfl, hB6⟩
                  have hB16 := below_one hB14 hB6
                  rw [hV]
                  go_wp2_with fail
                  go_ret
                  exact ⟨ret_int HR.out.symm, hB16⟩

end Go.Proofs.YtnbojbcljfiamaaGreatDoor

namespace Go.Proofs.YtnbojbcljfiamaaGreatDoor
open Go.RowKit Go.Shelf

set_option maxHeartbeats 8000000 in
set_option maxRecDepth 100000 in
theorem spotAt_any (v : Value) (s : Sd) (k : Nat) (w : World) (hs : s.short) (h : SdR w v s) (hk : k < s.ha.length) (hkr : k < s.ru.length) (hkz : k < s.se.length) :
    Calls Tryz.prog 74 #[v, .int .i64 k] w fun e w' => e = .returned (.agg #[.bool s.ha[k], .bool (s.ru[k]).deny, .string (s.ru[k]).who, .string (s.ru[k]).method, .string (s.ru[k]).path, .int .i64 s.se[k]]) ∧ Below w.heap.size w w' := by
  obtain ⟨vp, vr, vu, vh, vs, rfl, h1, h2, h3, h4, h5⟩ := h
  obtain ⟨hf, l3, l4, l5, lr⟩ := hs
  have hS : SnR w (.agg #[.int .i64 s.fo.num, vp, vr]) s.fo := ⟨_, _, rfl, h1, h2⟩
  obtain ⟨ap, cp, rfl⟩ := h1.len
  obtain ⟨ar, cr, rfl⟩ := h2.len
  obtain ⟨au, cu, rfl⟩ := h3.len
  obtain ⟨ah, ch, rfl⟩ := h4.s.bolLen
  obtain ⟨ai, ci, rfl⟩ := h5.len
  have hB0 : Below w.heap.size w ((w.alloc (.cells #[.int .i64 s.fo.num, .slice ap s.fo.pol.length cp, .slice ar s.fo.rv.length cr, .int .i64 s.co, .slice au s.ru.length cu, .slice ah s.ha.length ch, .slice ai s.se.length ci] 42)).alloc (.cells #[.bool false, .bool false, .string ⟨#[]⟩, .string ⟨#[]⟩, .string ⟨#[]⟩, .int .i64 0] 134)) := ((Below.refl _ w).alloc (Nat.le_refl _) _).alloc (by simp) _
  have F1 := (Seven.new w (.int .i64 s.fo.num) (.slice ap s.fo.pol.length cp) (.slice ar s.fo.rv.length cr) (.int .i64 s.co) (.slice au s.ru.length cu) (.slice ah s.ha.length ch) (.slice ai s.se.length ci) 42).below ((Below.refl _ _).alloc (Nat.le_refl _) (.cells #[.bool false, .bool false, .string ⟨#[]⟩, .string ⟨#[]⟩, .string ⟨#[]⟩, .int .i64 0] 134))
  have F2 := Six.at (w.alloc (.cells #[.int .i64 s.fo.num, .slice ap s.fo.pol.length cp, .slice ar s.fo.rv.length cr, .int .i64 s.co, .slice au s.ru.length cu, .slice ah s.ha.length ch, .slice ai s.se.length ci] 42)) (.bool false) (.bool false) (.string ⟨#[]⟩) (.string ⟨#[]⟩) (.string ⟨#[]⟩) (.int .i64 0) 134 (k := w.heap.size + 1) (by simp)
  obtain ⟨bu, ou, rfl, hbu, _⟩ := h3.s.at hkr
  obtain ⟨bh, oh, rfl, hbh, _⟩ := h4.s.bol hk
  obtain ⟨bi, oi, rfl, hbi, _⟩ := h5.s.num hkz
  obtain ⟨_, _, ee, _, hcu, q0, q1, q2, q3⟩ := (h3.s.below hB0).at hkr
  cases ee
  obtain ⟨_, _, ee, _, hch, q4⟩ := (h4.s.below hB0).bol hk
  cases ee
  obtain ⟨_, _, ee, _, hci, q5⟩ := (h5.s.below hB0).num hkz
  cases ee
  have m1 : bu ≠ w.heap.size + 1 := by omega
  have m1' : w.heap.size + 1 ≠ bu := by omega
  have m2 : bh ≠ w.heap.size + 1 := by omega
  have m2' : w.heap.size + 1 ≠ bh := by omega
  have m3 : bi ≠ w.heap.size + 1 := by omega
  have m3' : w.heap.size + 1 ≠ bi := by omega
  have m4 : w.heap.size ≠ w.heap.size + 1 := by omega
  have m4' : w.heap.size + 1 ≠ w.heap.size := by omega
  generalize s.ru[k] = r at *
  generalize s.ha[k] = h at *
  generalize s.se[k] = z at *
  go_enter Tryz.func74, Tryz.ntmps74
  go_wp2_with fail
  generalize (w.alloc (.cells #[.int .i64 s.fo.num, .slice ap s.fo.pol.length cp, .slice ar s.fo.rv.length cr, .int .i64 s.co, .slice (some ⟨bu, ou, none⟩) s.ru.length cu, .slice (some ⟨bh, oh, none⟩) s.ha.length ch, .slice (some ⟨bi, oi, none⟩) s.se.length ci] 42)).alloc (.cells #[.bool false, .bool false, .string ⟨#[]⟩, .string ⟨#[]⟩, .string ⟨#[]⟩, .int .i64 0] 134) = W0 at *
  obtain ⟨a0, a1, a2, a3, a4, a5, a6⟩ := F1.c
  have hBd : Below W0.heap.size W0 W0.drew := (Below.refl _ _).drew
  replace F2 := F2.below hBd
  replace hB0 := below_one hB0 hBd
  clear hBd F1
  refine wp_region_held_drew (S := fun w' => w'.cell? ⟨w.heap.size, 4, none⟩ = some (.slice (some ⟨bu, ou, none⟩) s.ru.length cu) ∧ w'.cell? ⟨w.heap.size, 5, none⟩ = some (.slice (some ⟨bh, oh, none⟩) s.ha.length ch) ∧ w'.cell? ⟨w.heap.size, 6, none⟩ = some (.slice (some ⟨bi, oi, none⟩) s.se.length ci) ∧ w'.cell? ⟨bh, oh + k, none⟩ = some (.bool h) ∧ w'.cell? ⟨bu, ou + k * 4, none⟩ = some (.bool r.deny) ∧ w'.cell? ⟨bu, ou + k * 4 + 1, none⟩ = some (.string r.who) ∧ w'.cell? ⟨bu, ou + k * 4 + 2, none⟩ = some (.string r.method) ∧ w'.cell? ⟨bu, ou + k * 4 + 3, none⟩ = some (.string r.path) ∧ w'.cell? ⟨bi, oi + k, none⟩ = some (.int .i64 z)) (by kernel_rfl) ?_ (fun hHeld => ?_)
  · go_keep
  generalize W0.drew = Wd at *
  clear q0 q1 q2 q3 q4 q5 a0 a1 a2 a3 a4 a5 a6
  obtain ⟨c0, c1, c2, c3, c4, c5⟩ := F2.c
  have f0 := F2.f 0
  have f1 := F2.f 1
  have f2 := F2.f 2
  have f3 := F2.f 3
  have f4 := F2.f 4
  have f5 := F2.f 5
  refine takeW 0 (v := ?v1) rfl (by kernel_rfl) (by kernel_rfl) (by kernel_rfl) (fun _ _ _ h => h) (by rfl) (by assumption) ?hy1 ?rest1
  case hy1 => intro w' hSw; (try dsimp only at hSw); go_simp; try with_reducible rfl
  try simp only [Act.put, List.setIfInBounds_toArray, List.set_cons_zero, List.set_cons_succ]
  refine takeW 1 (v := ?v2) rfl (by kernel_rfl) (by kernel_rfl) (by kernel_rfl) (fun _ _ _ h => h) (by rfl) (by assumption) ?hy2 ?rest2
  case hy2 => intro w' hSw; (try dsimp only at hSw); go_simp; try with_reducible rfl
  try simp only [Act.put, List.setIfInBounds_toArray, List.set_cons_zero, List.set_cons_succ]
  refine takeW 2 (v := ?v3) rfl (by kernel_rfl) (by kernel_rfl) (by kernel_rfl) (fun _ _ _ h => h) (by rfl) (by assumption) ?hy3 ?rest3
  case hy3 => intro w' hSw; (try dsimp only at hSw); go_simp; try with_reducible rfl
  try simp only [Act.put, List.setIfInBounds_toArray, List.set_cons_zero, List.set_cons_succ]
  refine takeW 3 (v := ?v4) rfl (by kernel_rfl) (by kernel_rfl) (by kernel_rfl) (fun _ _ _ h => h) (by rfl) (by assumption) ?hy4 ?rest4
  case hy4 => intro w' hSw; (try dsimp only at hSw); go_simp; try with_reducible rfl
  try simp only [Act.put, List.setIfInBounds_toArray, List.set_cons_zero, List.set_cons_succ]
  refine takeW 4 (v := ?v5) rfl (by kernel_rfl) (by kernel_rfl) (by kernel_rfl) (fun _ _ _ h => h) (by rfl) (by assumption) ?hy5 ?rest5
  case hy5 => intro w' hSw; (try dsimp only at hSw); go_simp; try with_reducible rfl
  try simp only [Act.put, List.setIfInBounds_toArray, List.set_cons_zero, List.set_cons_succ]
  refine takeW 5 (v := ?v6) rfl (by kernel_rfl) (by kernel_rfl) (by kernel_rfl) (fun _ _ _ h => h) (by rfl) (by assumption) ?hy6 ?rest6
  case hy6 => intro w' hSw; (try dsimp only at hSw); go_simp; try with_reducible rfl
  try simp only [Act.put, List.setIfInBounds_toArray, List.set_cons_zero, List.set_cons_succ]
  refine takeW 6 (v := ?v7) rfl (by kernel_rfl) (by kernel_rfl) (by kernel_rfl) (fun _ _ _ h => h) (by rfl) (by assumption) ?hy7 ?rest7
  case hy7 => intro w' hSw; (try dsimp only at hSw); go_simp; try with_reducible rfl
  try simp only [Act.put, List.setIfInBounds_toArray, List.set_cons_zero, List.set_cons_succ]
  refine takeW 7 (v := ?v8) rfl (by kernel_rfl) (by kernel_rfl) (by kernel_rfl) (fun _ _ _ h => h) (by rfl) (by assumption) ?hy8 ?rest8
  case hy8 => intro w' hSw; (try dsimp only at hSw); go_simp; try with_reducible rfl
  try simp only [Act.put, List.setIfInBounds_toArray, List.set_cons_zero, List.set_cons_succ]
  refine takeW 8 (v := ?v9) rfl (by kernel_rfl) (by kernel_rfl) (by kernel_rfl) (fun _ _ _ h => h) (by rfl) (by assumption) ?hy9 ?rest9
  case hy9 => intro w' hSw; (try dsimp only at hSw); go_simp; try with_reducible rfl
  try simp only [Act.put, List.setIfInBounds_toArray, List.set_cons_zero, List.set_cons_succ]
  refine takeW 9 (v := ?v10) rfl (by kernel_rfl) (by kernel_rfl) (by kernel_rfl) (fun _ _ _ h => h) (by rfl) (by assumption) ?hy10 ?rest10
  case hy10 => intro w' hSw; (try dsimp only at hSw); go_simp; try with_reducible rfl
  try simp only [Act.put, List.setIfInBounds_toArray, List.set_cons_zero, List.set_cons_succ]
  refine takeW 10 (v := ?v11) rfl (by kernel_rfl) (by kernel_rfl) (by kernel_rfl) (fun _ _ _ h => h) (by rfl) (by assumption) ?hy11 ?rest11
  case hy11 => intro w' hSw; (try dsimp only at hSw); go_simp; try with_reducible rfl
  try simp only [Act.put, List.setIfInBounds_toArray, List.set_cons_zero, List.set_cons_succ]
  refine takeW 11 (v := ?v12) rfl (by kernel_rfl) (by kernel_rfl) (by kernel_rfl) (fun _ _ _ h => h) (by rfl) (by assumption) ?hy12 ?rest12
  case hy12 => intro w' hSw; (try dsimp only at hSw); go_simp; try with_reducible rfl
  try simp only [Act.put, List.setIfInBounds_toArray, List.set_cons_zero, List.set_cons_succ]
  refine takeW 12 (v := ?v13) rfl (by kernel_rfl) (by kernel_rfl) (by kernel_rfl) (fun _ _ _ h => h) (by rfl) (by assumption) ?hy13 ?rest13
  case hy13 => intro w' hSw; (try dsimp only at hSw); go_simp; try with_reducible rfl
  try simp only [Act.put, List.setIfInBounds_toArray, List.set_cons_zero, List.set_cons_succ]
  refine takeW 13 (v := ?v14) rfl (by kernel_rfl) (by kernel_rfl) (by kernel_rfl) (fun _ _ _ h => h) (by rfl) (by assumption) ?hy14 ?rest14
  case hy14 => intro w' hSw; (try dsimp only at hSw); go_simp; try with_reducible rfl
  try simp only [Act.put, List.setIfInBounds_toArray, List.set_cons_zero, List.set_cons_succ]
  refine takeW 14 (v := ?v15) rfl (by kernel_rfl) (by kernel_rfl) (by kernel_rfl) (fun _ _ _ h => h) (by rfl) (by assumption) ?hy15 ?rest15
  case hy15 => intro w' hSw; (try dsimp only at hSw); go_simp; try with_reducible rfl
  try simp only [Act.put, List.setIfInBounds_toArray, List.set_cons_zero, List.set_cons_succ]
  refine takeW 15 (v := ?v16) rfl (by kernel_rfl) (by kernel_rfl) (by kernel_rfl) (fun _ _ _ h => h) (by rfl) (by assumption) ?hy16 ?rest16
  case hy16 => intro w' hSw; (try dsimp only at hSw); go_simp; try with_reducible rfl
  try simp only [Act.put, List.setIfInBounds_toArray, List.set_cons_zero, List.set_cons_succ]
  refine takeC 16 (by kernel_rfl) rfl (fun K hK => ?_)
  go_simp
  skip
  refine hK.out _ _ ?_ (fun hHeld => ?_)
  · go_keep
  clear hK K
  try simp only [Act.put, List.setIfInBounds_toArray, List.set_cons_zero, List.set_cons_succ]
  refine wpAnyH_done (by kernel_rfl) ?_ _
  clear hHeld
  have G := (((((F2.s0 (.bool h)).s1 (.bool r.deny)).s2 (.string r.who)).s3 (.string r.method)).s4 (.string r.path)).s5 (.int .i64 z)
  have pB := below_six hB0 (k := w.heap.size + 1) (by omega) (.bool h) (.bool r.deny) (.string r.who) (.string r.method) (.string r.path) (.int .i64 z)
  go_wp2_with fail
  obtain ⟨d0, d1, d2, d3, d4, d5⟩ := G.c
  exact bodyPost_ret (v := .agg #[.bool h, .bool r.deny, .string r.who, .string r.method, .string r.path, .int .i64 z]) (by simp [results, Tryz.results74, go_sem, d0, d1, d2, d3, d4, d5]) rfl ⟨rfl, pB⟩

end Go.Proofs.YtnbojbcljfiamaaGreatDoor

namespace Go.Proofs.YtnbojbcljfiamaaGreatDoor
open Go.RowKit Go.Shelf

theorem eql_sp (h : Bool) (r : Ru) (z : Int) (w : World) : (binOp .eql 134 (.agg #[.bool h, .bool r.deny, .string r.who, .string r.method, .string r.path, .int .i64 z]) (.agg #[.bool false, .bool false, .string ⟨#[]⟩, .string ⟨#[]⟩, .string ⟨#[]⟩, .int .i64 0])).run Tryz.prog w = .ok (.bool ((h == false) && (r.same zrU && (z == 0)))) w := by
  rw [run_eql_struct]
  simp [go_sem, Tryz.underlying134, Tryz.underlying122]
  unfold Ru.same eqB zrU
  repeat' split
  all_goals simp_all

set_option maxHeartbeats 2000000 in
theorem spotGood_any (h : Bool) (r : Ru) (z : Int) (w : World) (hr : r.size ≤ 1048576) :
    Calls Tryz.prog 75 #[.agg #[.bool h, .bool r.deny, .string r.who, .string r.method, .string r.path, .int .i64 z]] w fun e w' => e = .returned (.bool (spotB h r z)) ∧ Below w.heap.size w w' := by
  have hB0 : Below w.heap.size w (w.alloc (.cells #[.bool h, .bool r.deny, .string r.who, .string r.method, .string r.path, .int .i64 z] 134)) := (Below.refl _ w).alloc (Nat.le_refl _) _
  have F := Six.new w (.bool h) (.bool r.deny) (.string r.who) (.string r.method) (.string r.path) (.int .i64 z) 134
  cases h
  · have HR := hid (show spotB false r z = ((false == false) && (r.same zrU && (z == 0))) from rfl)
    have hse := eql_sp false r z
    go_enter Tryz.func75, Tryz.ntmps75
    go_wp2
    go_ret
    exact ⟨ret_bool HR.out.symm, hB0⟩
  · cases e0 : (z == 0)
    · cases e1 : r.same zrU
      · have HR := hid (show spotB true r z = false by unfold spotB; rw [if_pos rfl, if_neg (by rw [e0]; exact Bool.false_ne_true), e1]; rfl)
        have hse := eql_zr r
        go_enter Tryz.func75, Tryz.ntmps75
        go_wp2
        go_ret
        exact ⟨ret_bool HR.out.symm, hB0⟩
      · have HR := hid (show spotB true r z = numB z by unfold spotB; rw [if_pos rfl, if_neg (by rw [e0]; exact Bool.false_ne_true), e1]; rfl)
        have hse := eql_zr r
        go_enter Tryz.func75, Tryz.ntmps75
        go_wp2_with (go_at_call 110; refine (okSerial_any z _).mono ?_; rintro e w1 ⟨rfl, rfl⟩)
        go_ret
        exact ⟨ret_bool ((show okS z = spotB true r z by rw [HR.out]; unfold okS numB; exact decide_eq_decide.2 (by omega))), hB0⟩
    · have HR := hid (show spotB true r z = r.good by unfold spotB; rw [if_pos rfl, if_pos e0])
      go_enter Tryz.func75, Tryz.ntmps75
      go_wp2_with fail
      generalize w.alloc (.cells #[.bool true, .bool r.deny, .string r.who, .string r.method, .string r.path, .int .i64 z] 134) = W0 at *
      refine (implGoodRule_any r _ hr).mono ?_
      rintro e w1 ⟨rfl, hB1⟩
      go_wp2_with fail
      go_ret
      exact ⟨ret_bool HR.out.symm, below_one hB0 hB1⟩

set_option maxHeartbeats 8000000 in
set_option maxRecDepth 100000 in
theorem implGoodSide_any (v : Value) (s : Sd) (w : World) (hs : s.short) (h : SdR w v s) :
    Calls Tryz.prog 37 #[v] w fun e w' => e = .returned (.bool (sdB s)) ∧ Below w.heap.size w w' := by
  have hSd := h
  have hs' := hs
  obtain ⟨vp, vr, vu, vh, vs, rfl, h1, h2, h3, h4, h5⟩ := h
  obtain ⟨hf, l3, l4, l5, lr⟩ := hs
  have hS : SnR w (.agg #[.int .i64 s.fo.num, vp, vr]) s.fo := ⟨_, _, rfl, h1, h2⟩
  obtain ⟨ap, cp, rfl⟩ := h1.len
  obtain ⟨ar, cr, rfl⟩ := h2.len
  obtain ⟨au, cu, rfl⟩ := h3.len
  obtain ⟨ah, ch, rfl⟩ := h4.s.bolLen
  obtain ⟨ai, ci, rfl⟩ := h5.len
  have hB0 : Below w.heap.size w (w.alloc (.cells #[.int .i64 s.fo.num, .slice ap s.fo.pol.length cp, .slice ar s.fo.rv.length cr, .int .i64 s.co, .slice au s.ru.length cu, .slice ah s.ha.length ch, .slice ai s.se.length ci] 42)) := (Below.refl _ w).alloc (Nat.le_refl _) _
  have F := Seven.new w (.int .i64 s.fo.num) (.slice ap s.fo.pol.length cp) (.slice ar s.fo.rv.length cr) (.int .i64 s.co) (.slice au s.ru.length cu) (.slice ah s.ha.length ch) (.slice ai s.se.length ci) 42
  go_enter Tryz.func37, Tryz.ntmps37
  go_wp2_with fail
  generalize w.alloc (.cells #[.int .i64 s.fo.num, .slice ap s.fo.pol.length cp, .slice ar s.fo.rv.length cr, .int .i64 s.co, .slice au s.ru.length cu, .slice ah s.ha.length ch, .slice ai s.se.length ci] 42) = W0 at *
  have hBw := hB0
  have F0 := F
  have hBW := Below.refl W0.heap.size W0
  refine (goodForce_any _ s.fo _ hf (hS.below hB0)).mono ?_
  rintro e w1 ⟨rfl, hB1⟩
  replace F := F.below hB1
  replace hB0 := below_one hB0 hB1
  replace hBW := below_one hBW hB1
  clear hB1
  obtain ⟨a0, a1, a2, a3, a4, a5, a6⟩ := F.c
  cases hfo : foB s.fo
  case false =>
    have HR := hid (show sdB s = false from sd_no1 hfo)
    go_wp2_with fail
    go_ret
    exact ⟨ret_bool HR.out.symm, hB0⟩
  have HFO := hid hfo
  have hnum := foB_num HFO.out
  cases m1 : ((s.ru.length : Int) != (s.ha.length : Int))
  case true =>
    have HR := hid (show sdB s = false from sd_no2 (ln_no1 m1))
    go_wp2_with fail
    go_ret
    exact ⟨ret_bool HR.out.symm, hB0⟩
  cases m2 : ((s.se.length : Int) != (s.ha.length : Int))
  case true =>
    have HR := hid (show sdB s = false from sd_no2 (ln_no2 m2))
    go_wp2_with fail
    go_ret
    exact ⟨ret_bool HR.out.symm, hB0⟩
  cases m3 : decide ((230 : Int) < (s.ha.length : Int))
  case true =>
    have HR := hid (show sdB s = false from sd_no2 (ln_no3 m3))
    go_wp2_with fail
    go_ret
    exact ⟨ret_bool HR.out.symm, hB0⟩
  have HL := hid (ln_yes m1 m2 m3)
  have hln := lnB_parts HL.out
  obtain ⟨hl1, hl2, hl3⟩ := hln
  have hq1 : s.ha.length ≤ s.ru.length := by omega
  have hq2 : s.ha.length ≤ s.se.length := by omega
  clear hl1 hl2
  cases m4 : (s.co == 0)
  case true =>
    have HR := hid (show sdB s = ((s.ha.length : Int) == 0) by
      cases m5 : ((s.ha.length : Int) == 0)
      · exact sd_no3 (co_no1 m4 m5)
      · refine sd_yes HFO.out HL.out (co_yes1 m4 m5) ?_
        have h0 : s.ha.length = 0 := by have := eq_of_beq m5; omega
        rw [h0]
        exact plT_zero s)
    go_wp2_with fail
    go_ret
    exact ⟨ret_bool HR.out.symm, hB0⟩
  cases m5 : decide (s.co ≤ s.fo.num)
  case true =>
    have HR := hid (show sdB s = false from sd_no3 (co_no2 m4 (fun hh => by have := of_decide_eq_true m5; omega)))
    go_wp2_with fail
    go_ret
    exact ⟨ret_bool HR.out.symm, hB0⟩
  cases m6 : decide ((100000 : Int) < s.co)
  case true =>
    have HR := hid (show sdB s = false from sd_no3 (co_no2 m4 (fun hh => by have := of_decide_eq_true m6; omega)))
    go_wp2_with fail
    go_ret
    exact ⟨ret_bool HR.out.symm, hB0⟩
  have HCO := hid (co_yes2 m4 (by have := of_decide_eq_false m5; omega) (by have := of_decide_eq_false m6; omega))
  go_wp2_with fail
  clear a0 a1 a2 a3 a4 a5 a6
  go_loopw [47] (fun i wr => ∃ k : Nat, k ≤ s.ha.length ∧ i = .int .i64 k ∧ plT s k = true ∧ Below W0.heap.size W0 wr) (fun i _ => s.ha.length - (intOf i).toNat)
  case atStart => exact ⟨0, Nat.zero_le _, rfl, plT_zero _, hBW⟩
  case round =>
    obtain ⟨k, hk, rfl, ht, hB⟩ := hrel
    have HT := hid ht
    have hBr := hB
    clear ht
    replace F := F0.below hB
    replace hB0 := below_one hBw hB
    clear hB
    obtain ⟨a0, a1, a2, a3, a4, a5, a6⟩ := F.c
    by_cases hlt : k < s.ha.length
    · have hlr : k < s.ru.length := by omega
      have hlz : k < s.se.length := by omega
      have HA := hid (plA_at hlt hlr hlz)
      have hrs := lr _ (List.getElem_mem hlr)
      have hSp := spotAt_any _ s k wr hs' (hSd.below hB0) hlt hlr hlz
      generalize s.ru[k] = r at *
      generalize s.ha[k] = hh at *
      generalize s.se[k] = z at *
      have HN := hid (plT_succ s k)
      have HB := hid (fun h => sd_no4 (s := s) hlt h)
      cases hp : spotB hh r z
      · have HR := hid (show sdB s = false from HB.out (by rw [HA.out, hp]))
        go_wp2_with fail
        refine hSp.mono ?_
        rintro e w5 ⟨rfl, hB5⟩
        go_wp2_with fail
        refine (spotGood_any hh r z _ hrs).mono ?_
        rintro e w6 ⟨rfl, hB6⟩
        rw [hp]
        clear hSp
        go_wp2_with fail
        go_ret
        exact ⟨ret_bool HR.out.symm, below_two hB0 hB5 hB6⟩
      · have HR := hid (show plT s (k + 1) = true by rw [HN.out, HT.out, HA.out, hp]; rfl)
        go_wp2_with fail
        refine hSp.mono ?_
        rintro e w5 ⟨rfl, hB5⟩
        go_wp2_with fail
        refine (spotGood_any hh r z _ hrs).mono ?_
        rintro e w6 ⟨rfl, hB6⟩
        rw [hp]
        clear hSp
        go_wp2_with fail
        go_roundw
        case rel => exact ⟨k + 1, by omega, by go_num, HR.out, below_two hBr hB5 hB6⟩
        case measure => simp [intOf]; omega
    · obtain rfl : k = s.ha.length := by omega
      have HR := hid (show sdB s = true from sd_yes HFO.out HL.out HCO.out HT.out)
      go_wp2_with fail
      go_ret
      exact ⟨ret_bool HR.out.symm, hB0⟩

end Go.Proofs.YtnbojbcljfiamaaGreatDoor

namespace Go.Proofs.YtnbojbcljfiamaaGreatDoor
open Go.RowKit Go.Shelf

theorem Ak.call {a : Ak} (h : a.size ≤ 1048576) {k : Lk} (hk : k ∈ a.tk) : (⟨k.who, a.me, a.pa⟩ : Ca).size ≤ 1048576 := by
  have := lz_mem hk
  unfold Ak.size lzAll at h
  unfold Lk.size at this
  unfold Ca.size
  show k.who.size + a.me.size + a.pa.size ≤ 1048576
  omega
theorem rq_no1 {a : Ak} (h : mthB a.me = false) : rqB a = false := by unfold rqB; rw [h]; rfl
theorem rq_2 {a : Ak} (h : mthB a.me = true) : rqB a = gpB a.pa := by unfold rqB; rw [h]; rfl

set_option maxHeartbeats 2000000 in
theorem l8Asks_any (cs : List Value) (a : Ak) (w : World) (hs : a.short) (h : AkC w cs a) :
    Calls Tryz.prog 30 #[.agg cs.toArray] w fun e w' => e = .returned (.bool (rqB a)) ∧ Below w.heap.size w w' := by
  obtain ⟨px, pz, rfl, h0⟩ := h
  have hBB : Below w.heap.size w (w.alloc (.cells #[.slice px a.tk.length pz, .string a.me, .string a.pa] 46)) := (Below.refl _ w).alloc (Nat.le_refl _) _
  have F := Three.new w (.slice px a.tk.length pz) (.string a.me) (.string a.pa) 46
  have hp := hs.2.2
  cases hm : mthB a.me
  · have HR := hid (rq_no1 hm)
    go_enter Tryz.func30, Tryz.ntmps30
    go_wp2_with (go_at_call 67; refine (l2Method_any _ _).mono ?_; rintro e w1 ⟨rfl, rfl⟩; rw [hm])
    go_ret
    exact ⟨ret_bool HR.out.symm, hBB⟩
  · have HR := hid (rq_2 hm)
    go_enter Tryz.func30, Tryz.ntmps30
    go_wp2_with (first | (go_at_call 67; refine (l2Method_any _ _).mono ?_; rintro e w1 ⟨rfl, rfl⟩; rw [hm]) | (go_at_call 68; refine (specGoodPath_any _ _ hp).mono ?_; rintro e w2 ⟨rfl, hB2⟩))
    go_ret
    exact ⟨ret_bool HR.out.symm, below_one hBB hB2⟩

set_option maxHeartbeats 2000000 in
theorem goodRequest_any (a : Ak) (w : World) (hs : a.short) :
    Calls Tryz.prog 38 #[.string a.me, .string a.pa] w fun e w' => e = .returned (.bool (rqB a)) ∧ Below w.heap.size w w' := by
  have hp := hs.2.2
  cases hm : mthB a.me
  · have HR := hid (rq_no1 hm)
    go_enter Tryz.func38, Tryz.ntmps38
    go_wp2_with (go_at_call 76; refine (goodMethod_any _ _).mono ?_; rintro e w1 ⟨rfl, rfl⟩; rw [hm])
    go_ret
    exact ⟨ret_bool HR.out.symm, Below.refl _ _⟩
  · have HR := hid (rq_2 hm)
    go_enter Tryz.func38, Tryz.ntmps38
    go_wp2_with (first | (go_at_call 76; refine (goodMethod_any _ _).mono ?_; rintro e w1 ⟨rfl, rfl⟩; rw [hm]) | (go_at_call 77; refine (implGoodPath_any _ _ hp).mono ?_; rintro e w2 ⟨rfl, hB2⟩))
    go_ret
    exact ⟨ret_bool HR.out.symm, hB2⟩

set_option maxHeartbeats 4000000 in
theorem decideCallers_any (v : Value) (rs : List Ru) (cs : List Value) (a : Ak) (w : World) (hm : rs.length ≤ 1048577) (hfz : ∀ r ∈ rs, r.size ≤ 1048576) (hsz : a.size ≤ 1048576) (hr : RuS w v rs) (h : AkC w cs a) :
    Calls Tryz.prog 40 #[v, .agg cs.toArray] w fun e w' => e = .returned (.int .i64 (dcX rs a)) ∧ Below w.heap.size w w' := by
  obtain ⟨px, pz, rfl, h0⟩ := h
  obtain ⟨ra, rc, rfl⟩ := hr.len
  have hBB : Below w.heap.size w (w.alloc (.cells #[.slice px a.tk.length pz, .string a.me, .string a.pa] 46)) := (Below.refl _ w).alloc (Nat.le_refl _) _
  have F := Three.new w (.slice px a.tk.length pz) (.string a.me) (.string a.pa) 46
  have hl := (Ak.short_of hsz).1.1
  have HZ := hid hsz
  clear hsz
  go_enter Tryz.func40, Tryz.ntmps40
  go_wp2_with fail
  generalize w.alloc (.cells #[.slice px a.tk.length pz, .string a.me, .string a.pa] 46) = W0 at *
  go_loopw [5, 11] (fun d i wr => ∃ n : Nat, n ≤ a.tk.length ∧ i = .int .i64 n ∧ d = .int .i64 (lsC rs a n) ∧ ndTo rs a n = true ∧ Below w.heap.size w wr ∧ Three wr 46 w.heap.size (.slice px a.tk.length pz) (.string a.me) (.string a.pa)) (fun _ i _ => a.tk.length - (intOf i).toNat)
  case atStart => exact ⟨0, Nat.zero_le _, rfl, rfl, ndTo_zero _ _, hBB, F⟩
  case round =>
    obtain ⟨n, hn, rfl, rfl, hl0, hB, FR⟩ := hrel
    have HL := hid hl0
    clear hl0
    by_cases hlt : n < a.tk.length
    · obtain ⟨b, off, rfl, hb, hcap, q0, q1, q2, q3, q4⟩ := (h0.below hB).at hlt
      have hcz := Ak.call HZ.out (List.getElem_mem hlt)
      have HS := hid (ndTo_succ (rs := rs) hlt)
      have HN := hid (fun hb => nd_no (rs := rs) (a := a) (n := n) hlt hb)
      have HK := hid (lsC_succ (rs := rs) hlt)
      have HC := hid (show clC rs a a.tk[n] = dC rs ⟨a.tk[n].who, a.me, a.pa⟩ (List.range rs.length) from rfl)
      generalize a.tk[n] = k at *
      have hBa : Below wr.heap.size wr (wr.alloc (.cells #[.string k.who, .string k.to, .int .i64 k.se, .int .i64 k.fr, .int .i64 k.un] 126)) := (Below.refl _ wr).alloc (Nat.le_refl _) _
      have hBr := below_one hB hBa
      replace FR := FR.below hBa
      obtain ⟨b0, b1, b2⟩ := FR.c
      generalize lsC rs a n = D0 at *
      go_wp2_with fail
      generalize wr.alloc (.cells #[.string k.who, .string k.to, .int .i64 k.se, .int .i64 k.fr, .int .i64 k.un] 126) = Wr at *
      refine (implDecideCall_any _ rs ⟨k.who, a.me, a.pa⟩ _ hm hfz hcz (hr.below hBr)).mono ?_
      rintro e w3 ⟨rfl, hB3⟩
      rw [← HC.out]
      generalize dK rs ⟨k.who, a.me, a.pa⟩ (List.range rs.length) = DK at *
      generalize dOk rs ⟨k.who, a.me, a.pa⟩ = DO at *
      replace hBr := below_one hBr hB3
      replace FR := FR.below hB3
      clear HC hB3 hBa q0 q1 q2 q3 q4 b0 b1 b2
      cases hd : (clC rs a k == 2)
      · have hl1 : ndTo rs a (n + 1) = true := by rw [HS.out, HL.out, hd]; rfl
        have HL1 := hid hl1
        have HK1 := hid HK.out.symm
        clear hl1 HL HS HN HK
        generalize clC rs a k = D at *
        go_wp2_with fail
        go_roundw
        case rel => exact ⟨n + 1, by omega, by go_num, by rw [← HK1.out], HL1.out, hBr, FR⟩
        case measure => simp [intOf]; omega
      · have HR := hid (HN.out hd)
        have HD := hid (show clC rs a k = 2 from eq_of_beq hd)
        clear HL HS HN HK
        rw [HD.out]
        clear hd
        go_wp2_with fail
        go_ret
        exact ⟨ret_int HR.out.symm, hBr⟩
    · obtain rfl : n = a.tk.length := by omega
      have HR := hid (nd_end HL.out)
      go_wp2_with fail
      go_ret
      exact ⟨ret_int HR.out.symm, hB⟩

set_option maxHeartbeats 8000000 in
set_option maxRecDepth 100000 in
theorem l8Decide_any (v v2 : Value) (s : Sd) (cs : List Value) (a : Ak) (ss : List ByteArray) (nw : Int) (q : ByteArray) (w : World) (hs : s.short) (hsz : a.size ≤ 1048576) (hms : ss.length ≤ 1048577) (hq : q.size ≤ 1048576) (hS : SdA w v s) (h : AkC w cs a) (hrs : VS w v2 (strs ss)) :
    Calls Tryz.prog 31 #[v, .agg cs.toArray, v2, .int .i64 nw, .string q] w fun e w' => e = .returned (.tuple #[.int .i64 (dkY s a ss nw q).1, .int .i64 (dkY s a ss nw q).2]) ∧ Below w.heap.size w w' := by
  obtain ⟨k0, k1, k2, k3, k4, k5, k6, k7, k8, k9, rfl⟩ := sd_forms hS
  obtain ⟨px, pz, rfl, h0⟩ := h
  obtain ⟨sa, sc, rfl⟩ := hrs.strLen
  obtain ⟨vp, vr, vu, vh, vs, hse, hP, hV, _⟩ := hS
  cases hse
  have hBB : Below w.heap.size w ((w.alloc (.cells #[.int .i64 s.fo.num, .slice k0 s.fo.pol.length k1, .slice k2 s.fo.rv.length k3, .int .i64 s.co, .slice k4 s.ru.length k5, .slice k6 s.ha.length k7, .slice k8 s.se.length k9] 42)).alloc (.cells #[.slice px a.tk.length pz, .string a.me, .string a.pa] 46)) := ((Below.refl _ w).alloc (Nat.le_refl _) _).alloc (by simp) _
  have F := (Seven.new w (.int .i64 s.fo.num) (.slice k0 s.fo.pol.length k1) (.slice k2 s.fo.rv.length k3) (.int .i64 s.co) (.slice k4 s.ru.length k5) (.slice k6 s.ha.length k7) (.slice k8 s.se.length k9) 42).below ((Below.refl _ _).alloc (Nat.le_refl _) (.cells #[.slice px a.tk.length pz, .string a.me, .string a.pa] 46))
  have G := Three.at (w.alloc (.cells #[.int .i64 s.fo.num, .slice k0 s.fo.pol.length k1, .slice k2 s.fo.rv.length k3, .int .i64 s.co, .slice k4 s.ru.length k5, .slice k6 s.ha.length k7, .slice k8 s.se.length k9] 42)) (.slice px a.tk.length pz) (.string a.me) (.string a.pa) 46 (k := w.heap.size + 1) (by simp)
  have hl := (Ak.short_of hsz).1
  have hf := hs.1
  cases e1 : (s.fo.num == 0)
  case true =>
    have HR := hid (dkY_4 a ss nw q e1)
    go_enter Tryz.func31, Tryz.ntmps31
    go_wp2_with fail
    go_ret2
    exact ⟨ret2 HR.out, hBB⟩
  cases e2 : (s.co == 0)
  · have HR := hid (dkY_5 a ss nw q e1 e2)
    have e2' : (s.co != 0) = true := by rw [bne, e2]; rfl
    clear e2
    go_enter Tryz.func31, Tryz.ntmps31
    go_wp2_with fail
    go_ret2
    exact ⟨ret2 HR.out, hBB⟩
  have e2' : (s.co != 0) = false := by rw [bne, e2]; rfl
  have HE2 := hid e2
  have HE1 := hid e1
  clear e2
  go_enter Tryz.func31, Tryz.ntmps31
  go_wp2_with fail
  clear e1 e2'
  generalize (w.alloc (.cells #[.int .i64 s.fo.num, .slice k0 s.fo.pol.length k1, .slice k2 s.fo.rv.length k3, .int .i64 s.co, .slice k4 s.ru.length k5, .slice k6 s.ha.length k7, .slice k8 s.se.length k9] 42)).alloc (.cells #[.slice px a.tk.length pz, .string a.me, .string a.pa] 46) = W0 at *
  refine (specCheckToken_any _ _ _ a.tk ss nw s.fo.rv q _ (Nat.le_succ_of_le hl.1) hms (Nat.le_succ_of_le hf.2.1) hq hl.2 (h0.below hBB) (hrs.below hBB) (hV.below hBB)).mono ?_
  rintro e w1 ⟨rfl, hB1⟩
  replace F := F.below hB1
  replace G := G.below hB1
  replace hBB := below_one hBB hB1
  clear hB1
  obtain ⟨cc, HCC⟩ : ∃ cc, Hid (chkX a.tk (sgTo a.tk a.tk.length) ss nw s.fo.rv q = cc) := ⟨_, hid rfl⟩
  rw [HCC.out]
  obtain ⟨a0, a1, a2, a3, a4, a5, a6⟩ := F.c
  obtain ⟨b0, b1, b2⟩ := G.c
  cases e3 : (cc == 0)
  · have HR := hid (show dkY s a ss nw q = (6, cc) by rw [dkY_6 HE1.out HE2.out (by rw [HCC.out]; exact e3), HCC.out])
    have e3' : (cc != 0) = true := by rw [bne, e3]; rfl
    clear e3
    go_wp2_with fail
    go_ret2
    exact ⟨ret2 HR.out, hBB⟩
  have e3' : (cc != 0) = false := by rw [bne, e3]; rfl
  have HE3 := hid (show (chkX a.tk (sgTo a.tk a.tk.length) ss nw s.fo.rv q == 0) = true by rw [HCC.out]; exact e3)
  have hlen := (tkB_len (chk_tk HE3.out)).1
  clear e3 HCC
  go_wp2_with fail
  clear a0 a1 a2 a3 a4 a5 a6 b0 b1 b2 e3'
  have hf1 := hf.1
  have hf3 := hf.2.2
  have hll := hl.1
  have HZ := hid hsz
  clear hsz
  go_loopw [42] (fun i wr => ∃ n : Nat, n ≤ a.tk.length ∧ i = .int .i64 n ∧ ndTo s.fo.pol a n = true ∧ (n = a.tk.length → (lsC s.fo.pol a n == 1) = true) ∧ Below w.heap.size w wr ∧ Seven wr 42 w.heap.size (.int .i64 s.fo.num) (.slice k0 s.fo.pol.length k1) (.slice k2 s.fo.rv.length k3) (.int .i64 s.co) (.slice k4 s.ru.length k5) (.slice k6 s.ha.length k7) (.slice k8 s.se.length k9) ∧ Three wr 46 (w.heap.size + 1) (.slice px a.tk.length pz) (.string a.me) (.string a.pa)) (fun i _ => a.tk.length - (intOf i).toNat)
  case atStart => exact ⟨0, Nat.zero_le _, rfl, ndTo_zero _ _, fun h => by omega, hBB, F, G⟩
  case round =>
    obtain ⟨n, hn, rfl, hl0, hlast, hB, FR, GR⟩ := hrel
    have HL := hid hl0
    have HLT := hid hlast
    clear hl0 hlast
    by_cases hlt : n < a.tk.length
    · obtain ⟨b, off, rfl, hb, hcap, q0, q1, q2, q3, q4⟩ := (h0.below hB).at hlt
      have hcz := Ak.call HZ.out (List.getElem_mem hlt)
      have HS := hid (ndTo_succ (rs := s.fo.pol) hlt)
      have HN := hid (fun hb => nd_no (rs := s.fo.pol) (a := a) (n := n) hlt hb)
      have HK := hid (lsC_succ (rs := s.fo.pol) hlt)
      have HC := hid (show clC s.fo.pol a a.tk[n] = dC s.fo.pol ⟨a.tk[n].who, a.me, a.pa⟩ (List.range s.fo.pol.length) from rfl)
      generalize a.tk[n] = k at *
      have hBa : Below wr.heap.size wr (wr.alloc (.cells #[.string k.who, .string k.to, .int .i64 k.se, .int .i64 k.fr, .int .i64 k.un] 126)) := (Below.refl _ wr).alloc (Nat.le_refl _) _
      have hBr := below_one hB hBa
      replace FR := FR.below hBa
      replace GR := GR.below hBa
      obtain ⟨a0, a1, a2, a3, a4, a5, a6⟩ := FR.c
      obtain ⟨b0, b1, b2⟩ := GR.c
      go_wp2_with fail
      generalize wr.alloc (.cells #[.string k.who, .string k.to, .int .i64 k.se, .int .i64 k.fr, .int .i64 k.un] 126) = Wr at *
      refine (specDecideCall_any _ s.fo.pol ⟨k.who, a.me, a.pa⟩ _ (Nat.le_succ_of_le hf1) hf3 hcz (hP.below hBr)).mono ?_
      rintro e w3 ⟨rfl, hB3⟩
      rw [← HC.out]
      generalize dK s.fo.pol ⟨k.who, a.me, a.pa⟩ (List.range s.fo.pol.length) = DK at *
      generalize dOk s.fo.pol ⟨k.who, a.me, a.pa⟩ = DO at *
      replace hBr := below_one hBr hB3
      replace FR := FR.below hB3
      replace GR := GR.below hB3
      clear HC hB3 hBa q0 q1 q2 q3 q4 a0 a1 a2 a3 a4 a5 a6 b0 b1 b2
      obtain ⟨b0, b1, b2⟩ := GR.c
      cases hd : (clC s.fo.pol a k == 2)
      · have HL1 := hid (show ndTo s.fo.pol a (n + 1) = true by rw [HS.out, HL.out, hd]; rfl)
        clear HL HS HN
        by_cases hend : n + 1 = a.tk.length
        · have e4 : ((n : Int) == (a.tk.length : Int) - 1) = true := by simp; omega
          have HX := hid (show dcX s.fo.pol a = clC s.fo.pol a k by rw [nd_end (by rw [← hend]; exact HL1.out), ← hend]; exact HK.out)
          cases e5 : (clC s.fo.pol a k == 1)
          · have HR := hid (show dkY s a ss nw q = (7, clC s.fo.pol a k) by rw [dkY_7 HE1.out HE2.out HE3.out (by rw [HX.out]; exact e5), HX.out])
            have e5' : (clC s.fo.pol a k != 1) = true := by rw [bne, e5]; rfl
            clear e5 HX HK HL1 HLT
            generalize clC s.fo.pol a k = D at *
            go_wp2_with fail
            go_ret2
            exact ⟨ret2 HR.out, hBr⟩
          · have e5' : (clC s.fo.pol a k != 1) = false := by rw [bne, e5]; rfl
            have HE5 := hid (show (lsC s.fo.pol a (n + 1) == 1) = true by rw [HK.out]; exact e5)
            clear e5 HX HK HLT
            generalize clC s.fo.pol a k = D at *
            go_wp2_with fail
            go_roundw
            case rel => exact ⟨n + 1, by omega, by go_num, HL1.out, fun _ => HE5.out, hBr, FR, GR⟩
            case measure => simp [intOf]; omega
        · have e4 : ((n : Int) == (a.tk.length : Int) - 1) = false := by simp; omega
          clear HK HLT
          generalize clC s.fo.pol a k = D at *
          go_wp2_with fail
          go_roundw
          case rel => exact ⟨n + 1, by omega, by go_num, HL1.out, fun h => absurd h hend, hBr, FR, GR⟩
          case measure => simp [intOf]; omega
      · have HX := hid (HN.out hd)
        have HD := hid (show clC s.fo.pol a k = 2 from eq_of_beq hd)
        have HR := hid (show dkY s a ss nw q = (7, 2) by rw [dkY_7 HE1.out HE2.out HE3.out (by rw [HX.out]; rfl), HX.out])
        clear HL HS HN HK HX HLT
        rw [HD.out]
        clear hd
        go_wp2_with fail
        go_ret2
        exact ⟨ret2 HR.out, hBr⟩
    · obtain rfl : n = a.tk.length := by omega
      have HR := hid (dkY_0 HE1.out HE2.out HE3.out (by rw [nd_end HL.out]; exact HLT.out rfl))
      go_wp2_with fail
      go_ret2
      exact ⟨ret2 HR.out, hB⟩

set_option maxHeartbeats 8000000 in
set_option maxRecDepth 100000 in
theorem specDecideAsk_any (v v2 : Value) (s : Sd) (cs : List Value) (a : Ak) (ss : List ByteArray) (nw : Int) (q : ByteArray) (w : World) (hs : s.short) (hsz : a.size ≤ 1048576) (hms : ss.length ≤ 1048577) (hq : q.size ≤ 1048576) (hS : SdA w v s) (h : AkC w cs a) (hrs : VS w v2 (strs ss)) :
    Calls Tryz.prog 8 #[v, .agg cs.toArray, v2, .int .i64 nw, .string q] w fun e w' => e = .returned (.tuple #[.int .i64 (dkX s a ss nw q).1, .int .i64 (dkX s a ss nw q).2]) ∧ Below w.heap.size w w' := by
  obtain ⟨k0, k1, k2, k3, k4, k5, k6, k7, k8, k9, rfl⟩ := sd_forms hS
  have hA := h
  obtain ⟨px, pz, rfl, h0⟩ := h
  obtain ⟨sa, sc, rfl⟩ := hrs.strLen
  have hBB : Below w.heap.size w ((w.alloc (.cells #[.int .i64 s.fo.num, .slice k0 s.fo.pol.length k1, .slice k2 s.fo.rv.length k3, .int .i64 s.co, .slice k4 s.ru.length k5, .slice k6 s.ha.length k7, .slice k8 s.se.length k9] 42)).alloc (.cells #[.slice px a.tk.length pz, .string a.me, .string a.pa] 46)) := ((Below.refl _ w).alloc (Nat.le_refl _) _).alloc (by simp) _
  have F := (Seven.new w (.int .i64 s.fo.num) (.slice k0 s.fo.pol.length k1) (.slice k2 s.fo.rv.length k3) (.int .i64 s.co) (.slice k4 s.ru.length k5) (.slice k6 s.ha.length k7) (.slice k8 s.se.length k9) 42).below ((Below.refl _ _).alloc (Nat.le_refl _) (.cells #[.slice px a.tk.length pz, .string a.me, .string a.pa] 46))
  have G := Three.at (w.alloc (.cells #[.int .i64 s.fo.num, .slice k0 s.fo.pol.length k1, .slice k2 s.fo.rv.length k3, .int .i64 s.co, .slice k4 s.ru.length k5, .slice k6 s.ha.length k7, .slice k8 s.se.length k9] 42)) (.slice px a.tk.length pz) (.string a.me) (.string a.pa) 46 (k := w.heap.size + 1) (by simp)
  have hsh := Ak.short_of hsz
  cases e1 : sdB s
  · have HR := hid (dkX_no (s := s) (a := a) ss nw q (by rw [e1]; rfl))
    have HE1 := hid e1
    clear e1
    go_enter Tryz.func8, Tryz.ntmps8
    go_wp2_with fail
    generalize (w.alloc (.cells #[.int .i64 s.fo.num, .slice k0 s.fo.pol.length k1, .slice k2 s.fo.rv.length k3, .int .i64 s.co, .slice k4 s.ru.length k5, .slice k6 s.ha.length k7, .slice k8 s.se.length k9] 42)).alloc (.cells #[.slice px a.tk.length pz, .string a.me, .string a.pa] 46) = W0 at *
    refine (specGoodSide_any _ s _ hs (hS.below hBB)).mono ?_
    rintro e w1 ⟨rfl, hB1⟩
    rw [HE1.out]
    go_wp2_with fail
    go_ret2
    exact ⟨ret2 HR.out, below_one hBB hB1⟩
  have HE1 := hid e1
  clear e1
  cases e2 : rqB a
  all_goals
    have HE2 := hid e2
    clear e2
    go_enter Tryz.func8, Tryz.ntmps8
    go_wp2_with fail
    generalize (w.alloc (.cells #[.int .i64 s.fo.num, .slice k0 s.fo.pol.length k1, .slice k2 s.fo.rv.length k3, .int .i64 s.co, .slice k4 s.ru.length k5, .slice k6 s.ha.length k7, .slice k8 s.se.length k9] 42)).alloc (.cells #[.slice px a.tk.length pz, .string a.me, .string a.pa] 46) = W0 at *
    refine (specGoodSide_any _ s _ hs (hS.below hBB)).mono ?_
    rintro e w1 ⟨rfl, hB1⟩
    rw [HE1.out]
    replace F := F.below hB1
    replace G := G.below hB1
    replace hBB := below_one hBB hB1
    clear hB1
    obtain ⟨b0, b1, b2⟩ := G.c
    go_wp2_with fail
    refine (l8Asks_any _ a _ hsh (hA.below hBB)).mono ?_
    rintro e w2 ⟨rfl, hB2⟩
    rw [HE2.out]
    replace F := F.below hB2
    replace G := G.below hB2
    replace hBB := below_one hBB hB2
    clear hB2 b0 b1 b2
    obtain ⟨a0, a1, a2, a3, a4, a5, a6⟩ := F.c
    obtain ⟨b0, b1, b2⟩ := G.c
    go_wp2_with fail
  · go_ret2
    exact ⟨ret2 (dkX_no (s := s) (a := a) ss nw q (by rw [HE2.out]; simp)), hBB⟩
  · have HR := hid (dkX_yes (s := s) (a := a) ss nw q HE1.out HE2.out)
    refine (l8Decide_any _ _ s _ a ss nw q _ hs hsz hms hq (hS.below hBB) (hA.below hBB) (hrs.below hBB)).mono ?_
    rintro e w3 ⟨rfl, hB3⟩
    rw [← HR.out]
    go_wp2_with fail
    go_ret2
    exact ⟨rfl, below_one hBB hB3⟩

set_option maxHeartbeats 8000000 in
set_option maxRecDepth 100000 in
theorem implDecideAsk_any (v v2 : Value) (s : Sd) (cs : List Value) (a : Ak) (ss : List ByteArray) (nw : Int) (q : ByteArray) (w : World) (ht : Tab w) (hs : s.short) (hsz : a.size ≤ 1048576) (hms : ss.length ≤ 1048577) (hq : q.size ≤ 1048576) (hR : SdR w v s) (h : AkC w cs a) (hrs : VS w v2 (strs ss)) :
    Calls Tryz.prog 12 #[v, .agg cs.toArray, v2, .int .i64 nw, .string q] w fun e w' => e = .returned (.tuple #[.int .i64 (dkX s a ss nw q).1, .int .i64 (dkX s a ss nw q).2]) ∧ Below w.heap.size w w' := by
  have hS := hR.a
  obtain ⟨k0, k1, k2, k3, k4, k5, k6, k7, k8, k9, rfl⟩ := sd_forms hS
  have hA := h
  obtain ⟨px, pz, rfl, h0⟩ := h
  obtain ⟨sa, sc, rfl⟩ := hrs.strLen
  obtain ⟨vp, vr, vu, vh, vs, hse, hP, hV, _⟩ := hS
  cases hse
  have HTB := hid ht
  clear ht
  have hBB : Below w.heap.size w ((w.alloc (.cells #[.int .i64 s.fo.num, .slice k0 s.fo.pol.length k1, .slice k2 s.fo.rv.length k3, .int .i64 s.co, .slice k4 s.ru.length k5, .slice k6 s.ha.length k7, .slice k8 s.se.length k9] 42)).alloc (.cells #[.slice px a.tk.length pz, .string a.me, .string a.pa] 46)) := ((Below.refl _ w).alloc (Nat.le_refl _) _).alloc (by simp) _
  have F := (Seven.new w (.int .i64 s.fo.num) (.slice k0 s.fo.pol.length k1) (.slice k2 s.fo.rv.length k3) (.int .i64 s.co) (.slice k4 s.ru.length k5) (.slice k6 s.ha.length k7) (.slice k8 s.se.length k9) 42).below ((Below.refl _ _).alloc (Nat.le_refl _) (.cells #[.slice px a.tk.length pz, .string a.me, .string a.pa] 46))
  have G := Three.at (w.alloc (.cells #[.int .i64 s.fo.num, .slice k0 s.fo.pol.length k1, .slice k2 s.fo.rv.length k3, .int .i64 s.co, .slice k4 s.ru.length k5, .slice k6 s.ha.length k7, .slice k8 s.se.length k9] 42)) (.slice px a.tk.length pz) (.string a.me) (.string a.pa) 46 (k := w.heap.size + 1) (by simp)
  have hsh := Ak.short_of hsz
  have hl := hsh.1
  have hf := hs.1
  cases e1 : sdB s
  · have HR := hid (dkX_no (s := s) (a := a) ss nw q (by rw [e1]; rfl))
    have HE1 := hid e1
    clear e1
    go_enter Tryz.func12, Tryz.ntmps12
    go_wp2_with fail
    generalize (w.alloc (.cells #[.int .i64 s.fo.num, .slice k0 s.fo.pol.length k1, .slice k2 s.fo.rv.length k3, .int .i64 s.co, .slice k4 s.ru.length k5, .slice k6 s.ha.length k7, .slice k8 s.se.length k9] 42)).alloc (.cells #[.slice px a.tk.length pz, .string a.me, .string a.pa] 46) = W0 at *
    refine (implGoodSide_any _ s _ hs (hR.below hBB)).mono ?_
    rintro e w1 ⟨rfl, hB1⟩
    rw [HE1.out]
    go_wp2_with fail
    go_ret2
    exact ⟨ret2 HR.out, below_one hBB hB1⟩
  have HE1 := hid e1
  clear e1
  obtain ⟨ok2, HE2⟩ : ∃ ok, Hid (rqB a = ok) := ⟨_, hid rfl⟩
  go_enter Tryz.func12, Tryz.ntmps12
  go_wp2_with fail
  generalize (w.alloc (.cells #[.int .i64 s.fo.num, .slice k0 s.fo.pol.length k1, .slice k2 s.fo.rv.length k3, .int .i64 s.co, .slice k4 s.ru.length k5, .slice k6 s.ha.length k7, .slice k8 s.se.length k9] 42)).alloc (.cells #[.slice px a.tk.length pz, .string a.me, .string a.pa] 46) = W0 at *
  refine (implGoodSide_any _ s _ hs (hR.below hBB)).mono ?_
  rintro e w1 ⟨rfl, hB1⟩
  rw [HE1.out]
  replace F := F.below hB1
  replace G := G.below hB1
  replace hBB := below_one hBB hB1
  clear hB1
  obtain ⟨b0, b1, b2⟩ := G.c
  go_wp2_with fail
  refine (goodRequest_any a _ hsh).mono ?_
  rintro e w2 ⟨rfl, hB2⟩
  rw [HE2.out]
  replace F := F.below hB2
  replace G := G.below hB2
  replace hBB := below_one hBB hB2
  clear hB2 b0 b1 b2
  obtain ⟨a0, a1, a2, a3, a4, a5, a6⟩ := F.c
  obtain ⟨b0, b1, b2⟩ := G.c
  cases ok2
  · have HR := hid (dkX_no (s := s) (a := a) ss nw q (by rw [HE2.out]; simp))
    go_wp2_with fail
    go_ret2
    exact ⟨ret2 HR.out, hBB⟩
  have HY := hid (dkX_yes (s := s) (a := a) ss nw q HE1.out HE2.out)
  clear HE1 HE2
  cases e3 : (s.fo.num == 0)
  case true =>
    have HR := hid (show dkX s a ss nw q = (4, 0) by rw [HY.out, dkY_4 a ss nw q e3])
    go_wp2_with fail
    go_ret2
    exact ⟨ret2 HR.out, hBB⟩
  have HE3 := hid e3
  cases e4 : (s.co == 0)
  · have HR := hid (show dkX s a ss nw q = (5, 0) by rw [HY.out, dkY_5 a ss nw q e3 e4])
    have e4' : (s.co != 0) = true := by rw [bne, e4]; rfl
    clear e4
    go_wp2_with fail
    go_ret2
    exact ⟨ret2 HR.out, hBB⟩
  have HE4 := hid e4
  have e4' : (s.co != 0) = false := by rw [bne, e4]; rfl
  clear e4
  go_wp2_with fail
  refine (implCheckToken_any _ _ _ a.tk ss nw s.fo.rv q _ (Nat.le_succ_of_le hl.1) hms (Nat.le_succ_of_le hf.2.1) hq hl.2 (h0.below hBB) (hrs.below hBB) (hV.below hBB) (HTB.out.on hBB)).mono ?_
  rintro e w3 ⟨rfl, hB3⟩
  clear a0 a1 a2 a3 a4 a5 a6 b0 b1 b2 e3 e4'
  replace F := F.below hB3
  replace G := G.below hB3
  replace hBB := below_one hBB hB3
  clear hB3
  obtain ⟨cc, HCC⟩ : ∃ cc, Hid (chkX a.tk (sgTo a.tk a.tk.length) ss nw s.fo.rv q = cc) := ⟨_, hid rfl⟩
  rw [HCC.out]
  obtain ⟨a0, a1, a2, a3, a4, a5, a6⟩ := F.c
  obtain ⟨b0, b1, b2⟩ := G.c
  cases e5 : (cc == 0)
  · have HR := hid (show dkX s a ss nw q = (6, cc) by rw [HY.out, dkY_6 HE3.out HE4.out (by rw [HCC.out]; exact e5), HCC.out])
    have e5' : (cc != 0) = true := by rw [bne, e5]; rfl
    clear e5
    go_wp2_with fail
    go_ret2
    exact ⟨ret2 HR.out, hBB⟩
  have e5' : (cc != 0) = false := by rw [bne, e5]; rfl
  have HE5 := hid (show (chkX a.tk (sgTo a.tk a.tk.length) ss nw s.fo.rv q == 0) = true by rw [HCC.out]; exact e5)
  clear e5 HCC
  go_wp2_with fail
  clear a0 a1 a2 a3 a4 a5 a6 b0 b1 b2 e5'
  refine (decideCallers_any _ s.fo.pol _ a _ (Nat.le_succ_of_le hf.1) hf.2.2 hsz (hP.below hBB) (hA.below hBB)).mono ?_
  rintro e w4 ⟨rfl, hB4⟩
  replace hBB := below_one hBB hB4
  obtain ⟨dd, HDD⟩ : ∃ dd, Hid (dcX s.fo.pol a = dd) := ⟨_, hid rfl⟩
  rw [HDD.out]
  cases e6 : (dd == 1)
  · have HR := hid (show dkX s a ss nw q = (7, dd) by rw [HY.out, dkY_7 HE3.out HE4.out HE5.out (by rw [HDD.out]; exact e6), HDD.out])
    have e6' : (dd != 1) = true := by rw [bne, e6]; rfl
    clear e6
    go_wp2_with fail
    go_ret2
    exact ⟨ret2 HR.out, hBB⟩
  · have HR := hid (show dkX s a ss nw q = (0, 0) by rw [HY.out, dkY_0 HE3.out HE4.out HE5.out (by rw [HDD.out]; exact e6)])
    have e6' : (dd != 1) = false := by rw [bne, e6]; rfl
    clear e6
    go_wp2_with fail
    go_ret2
    exact ⟨ret2 HR.out, hBB⟩

end Go.Proofs.YtnbojbcljfiamaaGreatDoor

namespace Go.Proofs.YtnbojbcljfiamaaGreatDoor
open Go.RowKit Go.Shelf

/-- A side where a version is in force and nothing comes. -/
def sdOf (s : Sn) : Sd := ⟨s, 0, [], [], []⟩
theorem sdOf_short {s : Sn} (h : s.short) : (sdOf s).short := ⟨h, by simp [sdOf], by simp [sdOf], by simp [sdOf], fun r hr => by simp [sdOf] at hr⟩
def pmL (sg : List ByteArray) (d : Dv) : List Sn → Bool
  | [] => false
  | s :: r => if (s.num == d.ver) = true then ((dkX (sdOf s) d.ak sg d.tim d.at_).1 == 0) else pmL sg d r
def pmX (m : Ms) (d : Dv) : Bool := msB m && pmL m.iss.sg d m.vs
theorem pm_no {m : Ms} (d : Dv) (h : msB m = false) : pmX m d = false := by unfold pmX; rw [h]; rfl
theorem pm_at {sg : List ByteArray} {d : Dv} {ss : List Sn} {n : Nat} (h : n < ss.length) : pmL sg d (ss.drop n) = if (ss[n].num == d.ver) = true then ((dkX (sdOf ss[n]) d.ak sg d.tim d.at_).1 == 0) else pmL sg d (ss.drop (n + 1)) := by
  rw [List.drop_eq_getElem_cons h]
  rfl
theorem pm_end {sg : List ByteArray} {d : Dv} {ss : List Sn} : pmL sg d (ss.drop ss.length) = false := by rw [List.drop_length]; rfl

set_option maxHeartbeats 16000000 in
set_option maxRecDepth 100000 in
theorem specPermitted_any (cs cd : List Value) (m : Ms) (d : Dv) (w : World) (hs : m.short) (hsz : d.size ≤ 1048576) (h : MsC w cs m) (hd : DvC w cd d) :
    Calls Tryz.prog 18 #[.agg cs.toArray, .agg cd.toArray] w fun e w' => e = .returned (.bool (pmX m d)) ∧ Below w.heap.size w w' := by
  have hM := h
  obtain ⟨p1a, p1b, p1c, p1d, p1e, p1f, p2x, p2z, p3x, p3z, p4x, p4z, rfl, h1, h2, h3, h4⟩ := h
  obtain ⟨d1x, d1z, rfl, hD2⟩ := hd
  have hV : VS w (.slice p1e m.iss.sg.length p1f) (strs m.iss.sg) := by
    obtain ⟨_, _, _, he, _, _, h9⟩ := h1.parts
    cases he
    exact h9
  have hsg : m.iss.sg.length ≤ 1048577 := (Is.short_of hs.1).2.2
  have hak : d.ak.size ≤ 1048576 := by unfold Dv.size at hsz; omega
  have hat : d.at_.size ≤ 1048576 := by unfold Dv.size at hsz; omega
  have hvl := hs.2.1.1
  have hvs := hs.2.1.2
  have hBB : Below w.heap.size w ((w.alloc (.cells #[.int .i64 m.now, .slice p1a m.iss.ws.length p1b, .int .i64 m.iss.nx, .slice p1c m.iss.rv.length p1d, .slice p1e m.iss.sg.length p1f, .slice p2x m.vs.length p2z, .slice p3x m.sc.length p3z, .slice p4x m.dl.length p4z] 73)).alloc (.cells #[.string d.at_, .slice d1x d.ak.tk.length d1z, .string d.ak.me, .string d.ak.pa, .int .i64 d.ver, .int .i64 d.tim] 76)) := ((Below.refl _ w).alloc (Nat.le_refl _) _).alloc (by simp) _
  have F := (Eight.new w (.int .i64 m.now) (.slice p1a m.iss.ws.length p1b) (.int .i64 m.iss.nx) (.slice p1c m.iss.rv.length p1d) (.slice p1e m.iss.sg.length p1f) (.slice p2x m.vs.length p2z) (.slice p3x m.sc.length p3z) (.slice p4x m.dl.length p4z) 73).below ((Below.refl _ _).alloc (Nat.le_refl _) (.cells #[.string d.at_, .slice d1x d.ak.tk.length d1z, .string d.ak.me, .string d.ak.pa, .int .i64 d.ver, .int .i64 d.tim] 76))
  have G := Six.at (w.alloc (.cells #[.int .i64 m.now, .slice p1a m.iss.ws.length p1b, .int .i64 m.iss.nx, .slice p1c m.iss.rv.length p1d, .slice p1e m.iss.sg.length p1f, .slice p2x m.vs.length p2z, .slice p3x m.sc.length p3z, .slice p4x m.dl.length p4z] 73)) (.string d.at_) (.slice d1x d.ak.tk.length d1z) (.string d.ak.me) (.string d.ak.pa) (.int .i64 d.ver) (.int .i64 d.tim) 76 (k := w.heap.size + 1) (by simp)
  obtain ⟨ok, HO⟩ : ∃ ok, Hid (msB m = ok) := ⟨_, hid rfl⟩
  cases ok
  · have HR := hid (pm_no d HO.out)
    go_enter Tryz.func18, Tryz.ntmps18
    go_wp2_with fail
    generalize (w.alloc (.cells #[.int .i64 m.now, .slice p1a m.iss.ws.length p1b, .int .i64 m.iss.nx, .slice p1c m.iss.rv.length p1d, .slice p1e m.iss.sg.length p1f, .slice p2x m.vs.length p2z, .slice p3x m.sc.length p3z, .slice p4x m.dl.length p4z] 73)).alloc (.cells #[.string d.at_, .slice d1x d.ak.tk.length d1z, .string d.ak.me, .string d.ak.pa, .int .i64 d.ver, .int .i64 d.tim] 76) = W0 at *
    refine (l8Said_any _ m _ (hM.below hBB)).mono ?_
    rintro e w1 ⟨rfl, hB1⟩
    rw [HO.out]
    go_wp2_with fail
    go_ret
    exact ⟨ret_bool HR.out.symm, below_one hBB hB1⟩
  have HP := hid (show pmX m d = pmL m.iss.sg d m.vs by unfold pmX; rw [HO.out]; rfl)
  go_enter Tryz.func18, Tryz.ntmps18
  go_wp2_with fail
  generalize (w.alloc (.cells #[.int .i64 m.now, .slice p1a m.iss.ws.length p1b, .int .i64 m.iss.nx, .slice p1c m.iss.rv.length p1d, .slice p1e m.iss.sg.length p1f, .slice p2x m.vs.length p2z, .slice p3x m.sc.length p3z, .slice p4x m.dl.length p4z] 73)).alloc (.cells #[.string d.at_, .slice d1x d.ak.tk.length d1z, .string d.ak.me, .string d.ak.pa, .int .i64 d.ver, .int .i64 d.tim] 76) = W0 at *
  refine (l8Said_any _ m _ (hM.below hBB)).mono ?_
  rintro e w1 ⟨rfl, hB1⟩
  rw [HO.out]
  replace F := F.below hB1
  replace G := G.below hB1
  replace hBB := below_one hBB hB1
  clear hB1
  obtain ⟨a0, a1, a2, a3, a4, a5, a6, a7⟩ := F.c
  go_wp2_with fail
  clear a0 a1 a2 a3 a4 a5 a6 a7
  go_loopw [15] (fun i wr => ∃ n : Nat, n ≤ m.vs.length ∧ i = .int .i64 n ∧ pmX m d = pmL m.iss.sg d (m.vs.drop n) ∧ Below w.heap.size w wr ∧ Eight wr 73 w.heap.size (.int .i64 m.now) (.slice p1a m.iss.ws.length p1b) (.int .i64 m.iss.nx) (.slice p1c m.iss.rv.length p1d) (.slice p1e m.iss.sg.length p1f) (.slice p2x m.vs.length p2z) (.slice p3x m.sc.length p3z) (.slice p4x m.dl.length p4z) ∧ Six wr 76 (w.heap.size + 1) (.string d.at_) (.slice d1x d.ak.tk.length d1z) (.string d.ak.me) (.string d.ak.pa) (.int .i64 d.ver) (.int .i64 d.tim)) (fun i _ => m.vs.length - (intOf i).toNat)
  case atStart => exact ⟨0, Nat.zero_le _, rfl, by rw [List.drop_zero]; exact HP.out, hBB, F, G⟩
  case round =>
    obtain ⟨n, hn, rfl, hl, hB, FR, GR⟩ := hrel
    have HL := hid hl
    clear hl
    by_cases hlt : n < m.vs.length
    · obtain ⟨b, off, xp, cp, xr, cr, hbe, hb, hcap, q0, q1, q2, y1, y2⟩ := ((h2.below hB)).at hlt
      subst hbe
      have hsr := sdOf_short (hvs m.vs[n] (List.getElem_mem hlt))
      have HA := hid (pm_at (sg := m.iss.sg) (d := d) hlt)
      generalize m.vs[n] = r at *
      have hBa : Below wr.heap.size wr (wr.alloc (.cells #[.int .i64 r.num, .slice xp r.pol.length cp, .slice xr r.rv.length cr] 40)) := (Below.refl _ wr).alloc (Nat.le_refl _) _
      have hBr := below_one hB hBa
      have HS := hid (show SdA (wr.alloc (.cells #[.int .i64 r.num, .slice xp r.pol.length cp, .slice xr r.rv.length cr] 40)) (.agg #[.int .i64 r.num, .slice xp r.pol.length cp, .slice xr r.rv.length cr, .int .i64 0, .slice none 0 0, .slice none 0 0, .slice none 0 0]) (sdOf r) from ⟨_, _, _, _, _, rfl, y1.below hBa, y2.below hBa, .inl ⟨_, _, rfl, rfl⟩, .inl ⟨_, _, rfl, rfl⟩, .inl ⟨_, _, rfl, rfl⟩⟩)
      replace FR := FR.below hBa
      replace GR := GR.below hBa
      obtain ⟨a0, a1, a2, a3, a4, a5, a6, a7⟩ := FR.c
      obtain ⟨b0, b1, b2, b3, b4, b5⟩ := GR.c
      cases e1 : (r.num == d.ver)
      · have HL1 := hid (show pmX m d = pmL m.iss.sg d (m.vs.drop (n + 1)) by rw [HL.out, HA.out, e1]; rfl)
        clear HL HA HS
        go_wp2_with fail
        generalize wr.alloc (.cells #[.int .i64 r.num, .slice xp r.pol.length cp, .slice xr r.rv.length cr] 40) = Wr at *
        go_roundw
        case rel => exact ⟨n + 1, by omega, by go_num, HL1.out, hBr, FR, GR⟩
        case measure => simp [intOf]; omega
      · have HR := hid (show pmX m d = ((dkX (sdOf r) d.ak m.iss.sg d.tim d.at_).1 == 0) by rw [HL.out, HA.out, e1]; rfl)
        clear HL HA
        go_wp2_with fail
        generalize wr.alloc (.cells #[.int .i64 r.num, .slice xp r.pol.length cp, .slice xr r.rv.length cr] 40) = Wr at *
        refine (specDecideAsk_any _ _ (sdOf r) _ d.ak m.iss.sg d.tim d.at_ _ hsr hak hsg hat (HS.out) (hD2.below hBr) (hV.below hBr)).mono ?_
        rintro e w3 ⟨rfl, hB3⟩
        replace hBr := below_one hBr hB3
        generalize dkX (sdOf r) d.ak m.iss.sg d.tim d.at_ = R at *
        cases e2 : (R.1 == 0)
        all_goals
          rw [e2] at HR
          clear a0 a1 a2 a3 a4 a5 a6 a7 b0 b1 b2 b3 b4 b5
          go_wp2_with fail
          go_ret
          exact ⟨ret_bool HR.out.symm, hBr⟩
    · obtain rfl : n = m.vs.length := by omega
      have HR := hid (show pmX m d = false by rw [HL.out]; exact pm_end)
      go_wp2_with fail
      go_ret
      exact ⟨ret_bool HR.out.symm, hB⟩

set_option maxHeartbeats 16000000 in
set_option maxRecDepth 100000 in
theorem implPermitted_any (cs cd : List Value) (m : Ms) (d : Dv) (w : World) (ht : Tab w) (hs : m.short) (hsz : d.size ≤ 1048576) {base top : Nat} (h : MsO w base top cs m) (hd : DvC w cd d) :
    Calls Tryz.prog 21 #[.agg cs.toArray, .agg cd.toArray] w fun e w' => e = .returned (.bool (pmX m d)) ∧ Below w.heap.size w w' := by
  have hM := h.a
  obtain ⟨p1a, p1b, p1c, p1d, p1e, p1f, p2x, p2z, p3x, p3z, p4x, p4z, m1, m2, m3, rfl, _, _, _, _, h1, h2, h3, h4⟩ := h
  have hSR := h2.r
  replace h1 := h1.a
  obtain ⟨d1x, d1z, rfl, hD2⟩ := hd
  have hV : VS w (.slice p1e m.iss.sg.length p1f) (strs m.iss.sg) := by
    obtain ⟨_, _, _, he, _, _, h9⟩ := h1.parts
    cases he
    exact h9
  have hsg : m.iss.sg.length ≤ 1048577 := (Is.short_of hs.1).2.2
  have hak : d.ak.size ≤ 1048576 := by unfold Dv.size at hsz; omega
  have hat : d.at_.size ≤ 1048576 := by unfold Dv.size at hsz; omega
  have hvl := hs.2.1.1
  have hvs := hs.2.1.2
  have hBB : Below w.heap.size w ((w.alloc (.cells #[.int .i64 m.now, .slice p1a m.iss.ws.length p1b, .int .i64 m.iss.nx, .slice p1c m.iss.rv.length p1d, .slice p1e m.iss.sg.length p1f, .slice p2x m.vs.length p2z, .slice p3x m.sc.length p3z, .slice p4x m.dl.length p4z] 73)).alloc (.cells #[.string d.at_, .slice d1x d.ak.tk.length d1z, .string d.ak.me, .string d.ak.pa, .int .i64 d.ver, .int .i64 d.tim] 76)) := ((Below.refl _ w).alloc (Nat.le_refl _) _).alloc (by simp) _
  have F := (Eight.new w (.int .i64 m.now) (.slice p1a m.iss.ws.length p1b) (.int .i64 m.iss.nx) (.slice p1c m.iss.rv.length p1d) (.slice p1e m.iss.sg.length p1f) (.slice p2x m.vs.length p2z) (.slice p3x m.sc.length p3z) (.slice p4x m.dl.length p4z) 73).below ((Below.refl _ _).alloc (Nat.le_refl _) (.cells #[.string d.at_, .slice d1x d.ak.tk.length d1z, .string d.ak.me, .string d.ak.pa, .int .i64 d.ver, .int .i64 d.tim] 76))
  have G := Six.at (w.alloc (.cells #[.int .i64 m.now, .slice p1a m.iss.ws.length p1b, .int .i64 m.iss.nx, .slice p1c m.iss.rv.length p1d, .slice p1e m.iss.sg.length p1f, .slice p2x m.vs.length p2z, .slice p3x m.sc.length p3z, .slice p4x m.dl.length p4z] 73)) (.string d.at_) (.slice d1x d.ak.tk.length d1z) (.string d.ak.me) (.string d.ak.pa) (.int .i64 d.ver) (.int .i64 d.tim) 76 (k := w.heap.size + 1) (by simp)
  have HTB := hid ht
  clear ht
  obtain ⟨ok, HO⟩ : ∃ ok, Hid (msB m = ok) := ⟨_, hid rfl⟩
  cases ok
  · have HR := hid (pm_no d HO.out)
    go_enter Tryz.func21, Tryz.ntmps21
    go_wp2_with fail
    generalize (w.alloc (.cells #[.int .i64 m.now, .slice p1a m.iss.ws.length p1b, .int .i64 m.iss.nx, .slice p1c m.iss.rv.length p1d, .slice p1e m.iss.sg.length p1f, .slice p2x m.vs.length p2z, .slice p3x m.sc.length p3z, .slice p4x m.dl.length p4z] 73)).alloc (.cells #[.string d.at_, .slice d1x d.ak.tk.length d1z, .string d.ak.me, .string d.ak.pa, .int .i64 d.ver, .int .i64 d.tim] 76) = W0 at *
    refine (fitsMesh_any _ m _ (hM.below hBB)).mono ?_
    rintro e w1 ⟨rfl, hB1⟩
    rw [HO.out]
    go_wp2_with fail
    go_ret
    exact ⟨ret_bool HR.out.symm, below_one hBB hB1⟩
  have HP := hid (show pmX m d = pmL m.iss.sg d m.vs by unfold pmX; rw [HO.out]; rfl)
  go_enter Tryz.func21, Tryz.ntmps21
  go_wp2_with fail
  generalize (w.alloc (.cells #[.int .i64 m.now, .slice p1a m.iss.ws.length p1b, .int .i64 m.iss.nx, .slice p1c m.iss.rv.length p1d, .slice p1e m.iss.sg.length p1f, .slice p2x m.vs.length p2z, .slice p3x m.sc.length p3z, .slice p4x m.dl.length p4z] 73)).alloc (.cells #[.string d.at_, .slice d1x d.ak.tk.length d1z, .string d.ak.me, .string d.ak.pa, .int .i64 d.ver, .int .i64 d.tim] 76) = W0 at *
  refine (fitsMesh_any _ m _ (hM.below hBB)).mono ?_
  rintro e w1 ⟨rfl, hB1⟩
  rw [HO.out]
  replace F := F.below hB1
  replace G := G.below hB1
  replace hBB := below_one hBB hB1
  clear hB1
  obtain ⟨a0, a1, a2, a3, a4, a5, a6, a7⟩ := F.c
  go_wp2_with fail
  clear a0 a1 a2 a3 a4 a5 a6 a7
  go_loopw [15] (fun i wr => ∃ n : Nat, n ≤ m.vs.length ∧ i = .int .i64 n ∧ pmX m d = pmL m.iss.sg d (m.vs.drop n) ∧ Below w.heap.size w wr ∧ Eight wr 73 w.heap.size (.int .i64 m.now) (.slice p1a m.iss.ws.length p1b) (.int .i64 m.iss.nx) (.slice p1c m.iss.rv.length p1d) (.slice p1e m.iss.sg.length p1f) (.slice p2x m.vs.length p2z) (.slice p3x m.sc.length p3z) (.slice p4x m.dl.length p4z) ∧ Six wr 76 (w.heap.size + 1) (.string d.at_) (.slice d1x d.ak.tk.length d1z) (.string d.ak.me) (.string d.ak.pa) (.int .i64 d.ver) (.int .i64 d.tim)) (fun i _ => m.vs.length - (intOf i).toNat)
  case atStart => exact ⟨0, Nat.zero_le _, rfl, by rw [List.drop_zero]; exact HP.out, hBB, F, G⟩
  case round =>
    obtain ⟨n, hn, rfl, hl, hB, FR, GR⟩ := hrel
    have HL := hid hl
    clear hl
    by_cases hlt : n < m.vs.length
    · obtain ⟨b, off, xp, cp, xr, cr, hbe, hb, hcap, q0, q1, q2, y1, y2⟩ := ((hSR.below hB)).at hlt
      subst hbe
      have hsr := sdOf_short (hvs m.vs[n] (List.getElem_mem hlt))
      have HA := hid (pm_at (sg := m.iss.sg) (d := d) hlt)
      generalize m.vs[n] = r at *
      have hBa : Below wr.heap.size wr (wr.alloc (.cells #[.int .i64 r.num, .slice xp r.pol.length cp, .slice xr r.rv.length cr] 40)) := (Below.refl _ wr).alloc (Nat.le_refl _) _
      have hBr := below_one hB hBa
      have HS := hid (show SdR (wr.alloc (.cells #[.int .i64 r.num, .slice xp r.pol.length cp, .slice xr r.rv.length cr] 40)) (.agg #[.int .i64 r.num, .slice xp r.pol.length cp, .slice xr r.rv.length cr, .int .i64 0, .slice none 0 0, .slice none 0 0, .slice none 0 0]) (sdOf r) from ⟨_, _, _, _, _, rfl, y1.below hBa, y2.below hBa, .inl ⟨rfl, rfl⟩, .inl ⟨rfl, rfl⟩, .inl ⟨rfl, rfl⟩⟩)
      replace FR := FR.below hBa
      replace GR := GR.below hBa
      obtain ⟨a0, a1, a2, a3, a4, a5, a6, a7⟩ := FR.c
      obtain ⟨b0, b1, b2, b3, b4, b5⟩ := GR.c
      cases e1 : (r.num == d.ver)
      · have HL1 := hid (show pmX m d = pmL m.iss.sg d (m.vs.drop (n + 1)) by rw [HL.out, HA.out, e1]; rfl)
        clear HL HA HS
        go_wp2_with fail
        generalize wr.alloc (.cells #[.int .i64 r.num, .slice xp r.pol.length cp, .slice xr r.rv.length cr] 40) = Wr at *
        go_roundw
        case rel => exact ⟨n + 1, by omega, by go_num, HL1.out, hBr, FR, GR⟩
        case measure => simp [intOf]; omega
      · have HR := hid (show pmX m d = ((dkX (sdOf r) d.ak m.iss.sg d.tim d.at_).1 == 0) by rw [HL.out, HA.out, e1]; rfl)
        clear HL HA
        go_wp2_with fail
        generalize wr.alloc (.cells #[.int .i64 r.num, .slice xp r.pol.length cp, .slice xr r.rv.length cr] 40) = Wr at *
        refine (implDecideAsk_any _ _ (sdOf r) _ d.ak m.iss.sg d.tim d.at_ _ (HTB.out.on hBr) hsr hak hsg hat (HS.out) (hD2.below hBr) (hV.below hBr)).mono ?_
        rintro e w3 ⟨rfl, hB3⟩
        replace hBr := below_one hBr hB3
        generalize dkX (sdOf r) d.ak m.iss.sg d.tim d.at_ = R at *
        cases e2 : (R.1 == 0)
        all_goals
          rw [e2] at HR
          clear a0 a1 a2 a3 a4 a5 a6 a7 b0 b1 b2 b3 b4 b5
          go_wp2_with fail
          go_ret
          exact ⟨ret_bool HR.out.symm, hBr⟩
    · obtain rfl : n = m.vs.length := by omega
      have HR := hid (show pmX m d = false by rw [HL.out]; exact pm_end)
      go_wp2_with fail
      go_ret
      exact ⟨ret_bool HR.out.symm, hB⟩

end Go.Proofs.YtnbojbcljfiamaaGreatDoor

namespace Go.Proofs.YtnbojbcljfiamaaGreatDoor.fnExactPermittedBy
open Go.ChangeShapes Go.WideShapes Go.ChangeAt Go.RowKit Go.Joins Go.Deep Go.Proofs.YtnbojbcljfiamaaGreatDoor
open Go.ChangeMaps (open_string shut_string)

theorem own : ownKnob Tryz.prog.godebug = none := by kernel_rfl
theorem laidOut : laidOutB Tryz.prog = true := by kernel_rfl

theorem tab_same : (Rows.laid_internal_strconv_uint64pow10 : DataW Unit) = Lib.tabData .u64 Lib.pow10Tab := by kernel_rfl
/-- The table of powers of ten, as the row lists it. -/
theorem tab_of {W : World} {rest : List (String × DataW Unit)} (h : laidMet Tryz.prog (("internal/strconv.uint64pow10", Rows.laid_internal_strconv_uint64pow10) :: rest) W) : Tab W :=
  Lib.tabIs_of_head (g := 1) (t := 265) (e := 252) (n := 20) (by kernel_rfl) (by kernel_rfl) Tryz.underlying265 Tryz.underlying252 (by kernel_rfl) (by kernel_rfl) (tab_same ▸ h)

set_option maxHeartbeats 32000000 in
set_option maxRecDepth 100000 in
theorem walk (cs : List Value) (m : Ms) (cd : List Value) (d : Dv) (w : World) (hA0 : MsC w cs m) (f0 : m.fits) (hA1 : DvC w cd d) (f1 : d.fits) (ht : Tab w) :
    Calls Tryz.prog 4 #[.agg cs.toArray, .agg cd.toArray] w fun e w' => e = .returned (.bool true) ∧ Below w.heap.size w w' := by
  have HTB := hid ht
  clear ht
  obtain ⟨p01a, p01b, p01c, p01d, p01e, p01f, p02x, p02z, p03x, p03z, p04x, p04z, hc0, _⟩ := id hA0
  subst hc0
  obtain ⟨p11x, p11z, hc1, _⟩ := id hA1
  subst hc1
  have hBB : Below w.heap.size w ((w.alloc (.cells #[.int .i64 m.now, .slice p01a m.iss.ws.length p01b, .int .i64 m.iss.nx, .slice p01c m.iss.rv.length p01d, .slice p01e m.iss.sg.length p01f, .slice p02x m.vs.length p02z, .slice p03x m.sc.length p03z, .slice p04x m.dl.length p04z] 60)).alloc (.cells #[.string d.at_, .slice p11x d.ak.tk.length p11z, .string d.ak.me, .string d.ak.pa, .int .i64 d.ver, .int .i64 d.tim] 62)) := (((Below.refl _ w).alloc (Nat.le_refl _) _).alloc (by simp) _)
  have F0 := (Eight.new w (.int .i64 m.now) (.slice p01a m.iss.ws.length p01b) (.int .i64 m.iss.nx) (.slice p01c m.iss.rv.length p01d) (.slice p01e m.iss.sg.length p01f) (.slice p02x m.vs.length p02z) (.slice p03x m.sc.length p03z) (.slice p04x m.dl.length p04z) 60).below ((Below.refl _ _).alloc (Nat.le_refl _) (.cells #[.string d.at_, .slice p11x d.ak.tk.length p11z, .string d.ak.me, .string d.ak.pa, .int .i64 d.ver, .int .i64 d.tim] 62))
  have F1 := Six.at (w.alloc (.cells #[.int .i64 m.now, .slice p01a m.iss.ws.length p01b, .int .i64 m.iss.nx, .slice p01c m.iss.rv.length p01d, .slice p01e m.iss.sg.length p01f, .slice p02x m.vs.length p02z, .slice p03x m.sc.length p03z, .slice p04x m.dl.length p04z] 60)) (.string d.at_) (.slice p11x d.ak.tk.length p11z) (.string d.ak.me) (.string d.ak.pa) (.int .i64 d.ver) (.int .i64 d.tim) 62 (k := w.heap.size + 1) (by simp)
  by_cases c0 : (m.size : Int) ≤ (1048576 : Int)
  case neg =>
    go_enter Tryz.func4, Tryz.ntmps4
    go_wp2_with fail
    generalize (w.alloc (.cells #[.int .i64 m.now, .slice p01a m.iss.ws.length p01b, .int .i64 m.iss.nx, .slice p01c m.iss.rv.length p01d, .slice p01e m.iss.sg.length p01f, .slice p02x m.vs.length p02z, .slice p03x m.sc.length p03z, .slice p04x m.dl.length p04z] 60)).alloc (.cells #[.string d.at_, .slice p11x d.ak.tk.length p11z, .string d.ak.me, .string d.ak.pa, .int .i64 d.ver, .int .i64 d.tim] 62) = W0 at *
    refine (szMesh_any _ m _ f0 (hA0.below hBB)).mono ?_
    rintro e w1 ⟨rfl, hB1⟩
    rw [show leftK (1048576) m.size = -1 from if_neg (by have := c0; omega)]
    replace F0 := F0.below hB1
    replace F1 := F1.below hB1
    replace hBB := below_one hBB hB1
    clear hB1
    obtain ⟨a00, a01, a02, a03, a04, a05, a06, a07⟩ := F0.c
    obtain ⟨a10, a11, a12, a13, a14, a15⟩ := F1.c
    go_wp2_with fail
    go_ret
    exact ⟨rfl, hBB⟩
  have d0 : decide ((1048576 : Int) - (m.size : Int) < 0) = false := by simp; omega
  by_cases c1 : (d.size : Int) ≤ (1048576 : Int) - (m.size : Int)
  case neg =>
    go_enter Tryz.func4, Tryz.ntmps4
    go_wp2_with fail
    generalize (w.alloc (.cells #[.int .i64 m.now, .slice p01a m.iss.ws.length p01b, .int .i64 m.iss.nx, .slice p01c m.iss.rv.length p01d, .slice p01e m.iss.sg.length p01f, .slice p02x m.vs.length p02z, .slice p03x m.sc.length p03z, .slice p04x m.dl.length p04z] 60)).alloc (.cells #[.string d.at_, .slice p11x d.ak.tk.length p11z, .string d.ak.me, .string d.ak.pa, .int .i64 d.ver, .int .i64 d.tim] 62) = W0 at *
    refine (szMesh_any _ m _ f0 (hA0.below hBB)).mono ?_
    rintro e w1 ⟨rfl, hB1⟩
    rw [show leftK (1048576) m.size = 1048576 - (m.size : Int) from if_pos c0]
    replace F0 := F0.below hB1
    replace F1 := F1.below hB1
    replace hBB := below_one hBB hB1
    clear hB1
    obtain ⟨a00, a01, a02, a03, a04, a05, a06, a07⟩ := F0.c
    obtain ⟨a10, a11, a12, a13, a14, a15⟩ := F1.c
    go_wp2_with fail
    refine (szDelivery_any _ d (1048576 - (m.size : Int)) _ (by omega) (by omega) f1 (hA1.below hBB)).mono ?_
    rintro e w2 ⟨rfl, hB2⟩
    rw [show leftK (1048576 - (m.size : Int)) d.size = -1 from if_neg (by have := c1; omega)]
    replace F0 := F0.below hB2
    replace F1 := F1.below hB2
    replace hBB := below_one hBB hB2
    clear hB2
    clear a00 a01 a02 a03 a04 a05 a06 a07
    clear a10 a11 a12 a13 a14 a15
    obtain ⟨a00, a01, a02, a03, a04, a05, a06, a07⟩ := F0.c
    obtain ⟨a10, a11, a12, a13, a14, a15⟩ := F1.c
    go_wp2_with fail
    go_ret
    exact ⟨rfl, hBB⟩
  have d1 : decide ((1048576 : Int) - (m.size : Int) - (d.size : Int) < 0) = false := by simp; omega
  have h0s := Ms.short_of (m := m) (by omega)
  have h1z : d.size ≤ 1048576 := by have := c0; omega
  have h1s := Dv.short_of h1z
  obtain ⟨R, HR⟩ : ∃ x, Hid (x = pmX m d) := ⟨_, hid rfl⟩
  go_enter Tryz.func4, Tryz.ntmps4
  go_wp2_with fail
  generalize (w.alloc (.cells #[.int .i64 m.now, .slice p01a m.iss.ws.length p01b, .int .i64 m.iss.nx, .slice p01c m.iss.rv.length p01d, .slice p01e m.iss.sg.length p01f, .slice p02x m.vs.length p02z, .slice p03x m.sc.length p03z, .slice p04x m.dl.length p04z] 60)).alloc (.cells #[.string d.at_, .slice p11x d.ak.tk.length p11z, .string d.ak.me, .string d.ak.pa, .int .i64 d.ver, .int .i64 d.tim] 62) = W0 at *
  refine (szMesh_any _ m _ f0 (hA0.below hBB)).mono ?_
  rintro e w1 ⟨rfl, hB1⟩
  rw [show leftK (1048576) m.size = 1048576 - (m.size : Int) from if_pos c0]
  replace F0 := F0.below hB1
  replace F1 := F1.below hB1
  replace hBB := below_one hBB hB1
  clear hB1
  obtain ⟨a00, a01, a02, a03, a04, a05, a06, a07⟩ := F0.c
  obtain ⟨a10, a11, a12, a13, a14, a15⟩ := F1.c
  go_wp2_with fail
  refine (szDelivery_any _ d (1048576 - (m.size : Int)) _ (by omega) (by omega) f1 (hA1.below hBB)).mono ?_
  rintro e w2 ⟨rfl, hB2⟩
  rw [show leftK (1048576 - (m.size : Int)) d.size = 1048576 - (m.size : Int) - (d.size : Int) from if_pos c1]
  replace F0 := F0.below hB2
  replace F1 := F1.below hB2
  replace hBB := below_one hBB hB2
  clear hB2
  clear a00 a01 a02 a03 a04 a05 a06 a07
  clear a10 a11 a12 a13 a14 a15
  obtain ⟨a00, a01, a02, a03, a04, a05, a06, a07⟩ := F0.c
  obtain ⟨a10, a11, a12, a13, a14, a15⟩ := F1.c
  go_wp2_with fail
  refine wp_region_held_drew (S := fun w' => w'.cell? ⟨w.heap.size, 0, none⟩ = some (.int .i64 m.now) ∧ w'.cell? ⟨w.heap.size, 1, none⟩ = some (.slice p01a m.iss.ws.length p01b) ∧ w'.cell? ⟨w.heap.size, 2, none⟩ = some (.int .i64 m.iss.nx) ∧ w'.cell? ⟨w.heap.size, 3, none⟩ = some (.slice p01c m.iss.rv.length p01d) ∧ w'.cell? ⟨w.heap.size, 4, none⟩ = some (.slice p01e m.iss.sg.length p01f) ∧ w'.cell? ⟨w.heap.size, 5, none⟩ = some (.slice p02x m.vs.length p02z) ∧ w'.cell? ⟨w.heap.size, 6, none⟩ = some (.slice p03x m.sc.length p03z) ∧ w'.cell? ⟨w.heap.size, 7, none⟩ = some (.slice p04x m.dl.length p04z) ∧ w'.cell? ⟨w.heap.size + 1, 0, none⟩ = some (.string d.at_) ∧ w'.cell? ⟨w.heap.size + 1, 1, none⟩ = some (.slice p11x d.ak.tk.length p11z) ∧ w'.cell? ⟨w.heap.size + 1, 2, none⟩ = some (.string d.ak.me) ∧ w'.cell? ⟨w.heap.size + 1, 3, none⟩ = some (.string d.ak.pa) ∧ w'.cell? ⟨w.heap.size + 1, 4, none⟩ = some (.int .i64 d.ver) ∧ w'.cell? ⟨w.heap.size + 1, 5, none⟩ = some (.int .i64 d.tim)) (by kernel_rfl) ?_ (fun hHeld => ?_)
  · go_keep
  refine takeW 0 (v := ?v1) rfl (by kernel_rfl) (by kernel_rfl) (by kernel_rfl) (fun _ _ _ h => h) (by rfl) (by assumption) ?hy1 ?rest1
  case hy1 => intro w' hSw; (try dsimp only at hSw); go_simp; try with_reducible rfl
  try simp only [Act.put, List.setIfInBounds_toArray, List.set_cons_zero, List.set_cons_succ]
  refine takeW 2 (v := ?v2) rfl (by kernel_rfl) (by kernel_rfl) (by kernel_rfl) (fun _ _ _ h => h) (by rfl) (by assumption) ?hy2 ?rest2
  case hy2 => intro w' hSw; (try dsimp only at hSw); go_simp; try with_reducible rfl
  try simp only [Act.put, List.setIfInBounds_toArray, List.set_cons_zero, List.set_cons_succ]
  refine takeC 1 (by kernel_rfl) rfl (fun K hK => ?_)
  go_simp
  refine (toMesh_any _ m _ h0s (by exact (hA0.below hBB).below (Below.refl _ _).drew)).mono ?_; rintro e y1 ⟨cs0, rfl, P0, hC1⟩; obtain ⟨s01a, s01b, s01c, s01d, s01e, s01f, s02x, s02z, s03x, s03z, s04x, s04z, hcs0, _⟩ := P0.a; subst hcs0; have k1_0 := fun o => hC1.cell (p := ⟨w.heap.size, o, none⟩) (by exact F0.lt); have k1_1 := fun o => hC1.cell (p := ⟨w.heap.size + 1, o, none⟩) (by exact F1.lt); have hD1 : Below w2.heap.size w2 y1 := below_drew1 hC1
  refine hK.out _ _ ?_ (fun hHeld => ?_)
  · go_keep
  clear hK K
  try simp only [Act.put, List.setIfInBounds_toArray, List.set_cons_zero, List.set_cons_succ]
  refine takeC 3 (by kernel_rfl) rfl (fun K hK => ?_)
  go_simp
  refine (toDelivery_any _ d _ h1s (by exact (hA1.below hBB).below hD1)).mono ?_; rintro e y2 ⟨cs1, rfl, P1, hC2⟩; obtain ⟨s11x, s11z, hcs1, _⟩ := P1.a; subst hcs1; replace P1 := P1.a; replace P0 := P0.below hC2; have k2_0 := fun o => hC2.cell (p := ⟨w.heap.size, o, none⟩) (by exact Nat.lt_of_lt_of_le F0.lt hD1.size); have k2_1 := fun o => hC2.cell (p := ⟨w.heap.size + 1, o, none⟩) (by exact Nat.lt_of_lt_of_le F1.lt hD1.size); have hD2 : Below w2.heap.size w2 y2 := below_one hD1 hC2
  refine hK.out _ _ ?_ (fun hHeld => ?_)
  · go_keep
  clear hK K
  try simp only [Act.put, List.setIfInBounds_toArray, List.set_cons_zero, List.set_cons_succ]
  refine takeC 4 (by kernel_rfl) rfl (fun K hK => ?_)
  go_simp
  refine (specPermitted_any _ _ m d _ h0s h1z P0.a P1).mono ?_; rintro e y3 ⟨rfl, hC3⟩; have k3_0 := fun o => hC3.cell (p := ⟨w.heap.size, o, none⟩) (by exact Nat.lt_of_lt_of_le F0.lt hD2.size); have k3_1 := fun o => hC3.cell (p := ⟨w.heap.size + 1, o, none⟩) (by exact Nat.lt_of_lt_of_le F1.lt hD2.size)
  refine hK.out _ _ ?_ (fun hHeld => ?_)
  · go_keep
  clear hK K
  try simp only [Act.put, List.setIfInBounds_toArray, List.set_cons_zero, List.set_cons_succ]
  refine takeW 5 (v := ?v3) rfl (by kernel_rfl) (by kernel_rfl) (by kernel_rfl) (fun _ _ _ h => h) (by rfl) (by assumption) ?hy3 ?rest3
  case hy3 => intro w' hSw; (try dsimp only at hSw); go_simp; try with_reducible rfl
  try simp only [Act.put, List.setIfInBounds_toArray, List.set_cons_zero, List.set_cons_succ]
  refine wpAnyH_done (by kernel_rfl) ?_ _
  have hBd : Below w2.heap.size w2 y3 := below_one hD2 hC3
  clear hC1 hC2 hC3 hD1 hD2 k1_0 k1_1 k2_0 k2_1 k3_0 k3_1 hHeld P0 P1 a00 a01 a02 a03 a04 a05 a06 a07 a10 a11 a12 a13 a14 a15
  rw [← HR.out]
  replace F0 := F0.below hBd
  replace F1 := F1.below hBd
  replace hBB := below_one hBB hBd
  clear hBd
  obtain ⟨a00, a01, a02, a03, a04, a05, a06, a07⟩ := F0.c
  obtain ⟨a10, a11, a12, a13, a14, a15⟩ := F1.c
  go_wp2_with fail
  refine (toMesh_any _ m _ h0s (hA0.below hBB)).mono ?_
  rintro e z0 ⟨cx0, rfl, X0, hZ⟩
  obtain ⟨x01a, x01b, x01c, x01d, x01e, x01f, x02x, x02z, x03x, x03z, x04x, x04z, hcx0, _⟩ := X0.a
  subst hcx0
  replace F0 := F0.below hZ
  replace F1 := F1.below hZ
  replace hBB := below_one hBB hZ
  clear hZ
  clear a00 a01 a02 a03 a04 a05 a06 a07 a10 a11 a12 a13 a14 a15
  have hBv : Below z0.heap.size z0 (z0.alloc (.cells #[.int .i64 m.now, .slice x01a m.iss.ws.length x01b, .int .i64 m.iss.nx, .slice x01c m.iss.rv.length x01d, .slice x01e m.iss.sg.length x01f, .slice x02x m.vs.length x02z, .slice x03x m.sc.length x03z, .slice x04x m.dl.length x04z] 73)) := (Below.refl _ z0).alloc (Nat.le_refl _) _
  have G0 := Eight.new z0 (.int .i64 m.now) (.slice x01a m.iss.ws.length x01b) (.int .i64 m.iss.nx) (.slice x01c m.iss.rv.length x01d) (.slice x01e m.iss.sg.length x01f) (.slice x02x m.vs.length x02z) (.slice x03x m.sc.length x03z) (.slice x04x m.dl.length x04z) 73
  replace F0 := F0.below hBv
  replace F1 := F1.below hBv
  replace X0 := X0.below hBv
  replace hBB := below_one hBB hBv
  clear hBv
  obtain ⟨a00, a01, a02, a03, a04, a05, a06, a07⟩ := F0.c
  obtain ⟨a10, a11, a12, a13, a14, a15⟩ := F1.c
  obtain ⟨b00, b01, b02, b03, b04, b05, b06, b07⟩ := G0.c
  go_wp2_with fail
  generalize z0.alloc (.cells #[.int .i64 m.now, .slice x01a m.iss.ws.length x01b, .int .i64 m.iss.nx, .slice x01c m.iss.rv.length x01d, .slice x01e m.iss.sg.length x01f, .slice x02x m.vs.length x02z, .slice x03x m.sc.length x03z, .slice x04x m.dl.length x04z] 73) = Z0 at *
  generalize z0.heap.size = kx0 at *
  clear a00 a01 a02 a03 a04 a05 a06 a07 a10 a11 a12 a13 a14 a15 b00 b01 b02 b03 b04 b05 b06 b07
  obtain ⟨a00, a01, a02, a03, a04, a05, a06, a07⟩ := F0.c
  obtain ⟨a10, a11, a12, a13, a14, a15⟩ := F1.c
  go_wp2_with fail
  refine (toDelivery_any _ d _ h1s (hA1.below hBB)).mono ?_
  rintro e z1 ⟨cx1, rfl, X1, hZ⟩
  obtain ⟨x11x, x11z, hcx1, _⟩ := X1.a
  subst hcx1
  replace X1 := X1.a
  replace F0 := F0.below hZ
  replace F1 := F1.below hZ
  replace X0 := X0.below hZ
  replace G0 := G0.below hZ
  replace hBB := below_one hBB hZ
  clear hZ
  clear a00 a01 a02 a03 a04 a05 a06 a07 a10 a11 a12 a13 a14 a15
  have hBv : Below z1.heap.size z1 (z1.alloc (.cells #[.string d.at_, .slice x11x d.ak.tk.length x11z, .string d.ak.me, .string d.ak.pa, .int .i64 d.ver, .int .i64 d.tim] 76)) := (Below.refl _ z1).alloc (Nat.le_refl _) _
  have G1 := Six.new z1 (.string d.at_) (.slice x11x d.ak.tk.length x11z) (.string d.ak.me) (.string d.ak.pa) (.int .i64 d.ver) (.int .i64 d.tim) 76
  replace F0 := F0.below hBv
  replace F1 := F1.below hBv
  replace X0 := X0.below hBv
  replace G0 := G0.below hBv
  replace X1 := X1.below hBv
  replace hBB := below_one hBB hBv
  clear hBv
  obtain ⟨a00, a01, a02, a03, a04, a05, a06, a07⟩ := F0.c
  obtain ⟨a10, a11, a12, a13, a14, a15⟩ := F1.c
  obtain ⟨b10, b11, b12, b13, b14, b15⟩ := G1.c
  obtain ⟨b00, b01, b02, b03, b04, b05, b06, b07⟩ := G0.c
  go_wp2_with fail
  generalize z1.alloc (.cells #[.string d.at_, .slice x11x d.ak.tk.length x11z, .string d.ak.me, .string d.ak.pa, .int .i64 d.ver, .int .i64 d.tim] 76) = Z1 at *
  generalize z1.heap.size = kx1 at *
  clear a00 a01 a02 a03 a04 a05 a06 a07 a10 a11 a12 a13 a14 a15 b00 b01 b02 b03 b04 b05 b06 b07 b10 b11 b12 b13 b14 b15
  obtain ⟨b00, b01, b02, b03, b04, b05, b06, b07⟩ := G0.c
  obtain ⟨b10, b11, b12, b13, b14, b15⟩ := G1.c
  go_wp2_with fail
  refine (implPermitted_any _ _ m d _ (HTB.out.on hBB) h0s h1z X0 X1).mono ?_
  rintro e u1 ⟨rfl, hU⟩
  rw [← HR.out]
  replace F0 := F0.below hU
  replace F1 := F1.below hU
  replace X0 := X0.below hU
  replace G0 := G0.below hU
  replace X1 := X1.below hU
  replace G1 := G1.below hU
  replace hBB := below_one hBB hU
  clear hU b00 b01 b02 b03 b04 b05 b06 b07 b10 b11 b12 b13 b14 b15
  have e1 : (R != R) = false := by simp
  obtain ⟨a0, a1, a2, a3, a4, a5, a6, a7⟩ := F0.c
  obtain ⟨b0, b1, b2, b3, b4, b5, b6, b7⟩ := G0.c
  go_wp2_with fail
  refine wp_region_held_drew (S := fun w' => w'.cell? ⟨kx0, 0, none⟩ = some (.int .i64 m.now) ∧ w'.cell? ⟨kx0, 1, none⟩ = some (.slice x01a m.iss.ws.length x01b) ∧ w'.cell? ⟨kx0, 2, none⟩ = some (.int .i64 m.iss.nx) ∧ w'.cell? ⟨kx0, 3, none⟩ = some (.slice x01c m.iss.rv.length x01d) ∧ w'.cell? ⟨kx0, 4, none⟩ = some (.slice x01e m.iss.sg.length x01f) ∧ w'.cell? ⟨kx0, 5, none⟩ = some (.slice x02x m.vs.length x02z) ∧ w'.cell? ⟨kx0, 6, none⟩ = some (.slice x03x m.sc.length x03z) ∧ w'.cell? ⟨kx0, 7, none⟩ = some (.slice x04x m.dl.length x04z) ∧ w'.cell? ⟨w.heap.size, 0, none⟩ = some (.int .i64 m.now) ∧ w'.cell? ⟨w.heap.size, 1, none⟩ = some (.slice p01a m.iss.ws.length p01b) ∧ w'.cell? ⟨w.heap.size, 2, none⟩ = some (.int .i64 m.iss.nx) ∧ w'.cell? ⟨w.heap.size, 3, none⟩ = some (.slice p01c m.iss.rv.length p01d) ∧ w'.cell? ⟨w.heap.size, 4, none⟩ = some (.slice p01e m.iss.sg.length p01f) ∧ w'.cell? ⟨w.heap.size, 5, none⟩ = some (.slice p02x m.vs.length p02z) ∧ w'.cell? ⟨w.heap.size, 6, none⟩ = some (.slice p03x m.sc.length p03z) ∧ w'.cell? ⟨w.heap.size, 7, none⟩ = some (.slice p04x m.dl.length p04z)) (by kernel_rfl) ?_ (fun hHeld => ?_)
  · go_keep
  refine takeW 0 (v := ?v4) rfl (by kernel_rfl) (by kernel_rfl) (by kernel_rfl) (fun _ _ _ h => h) (by rfl) (by assumption) ?hy4 ?rest4
  case hy4 => intro w' hSw; (try dsimp only at hSw); go_simp; try with_reducible rfl
  try simp only [Act.put, List.setIfInBounds_toArray, List.set_cons_zero, List.set_cons_succ]
  refine takeW 1 (v := ?v5) rfl (by kernel_rfl) (by kernel_rfl) (by kernel_rfl) (fun _ _ _ h => h) (by rfl) (by assumption) ?hy5 ?rest5
  case hy5 => intro w' hSw; (try dsimp only at hSw); go_simp; try with_reducible rfl
  try simp only [Act.put, List.setIfInBounds_toArray, List.set_cons_zero, List.set_cons_succ]
  refine takeC 2 (by kernel_rfl) rfl (fun K hK => ?_)
  go_simp
  refine (toMesh_any _ m _ h0s (by exact (hA0.below hBB).below (Below.refl _ _).drew)).mono ?_; rintro e t0 ⟨cr0, rfl, O9, hB9⟩; obtain ⟨r01a, r01b, r01c, r01d, r01e, r01f, r02x, r02z, r03x, r03z, r04x, r04z, hcr0, _⟩ := O9.a; subst hcr0; have hcx := fun o => hB9.cell (p := ⟨kx0, o, none⟩) (by exact G0.lt); have hca := fun o => hB9.cell (p := ⟨w.heap.size, o, none⟩) (by exact F0.lt)
  refine hK.out _ _ ?_ (fun hHeld => ?_)
  · go_keep
  clear hK K
  try simp only [Act.put, List.setIfInBounds_toArray, List.set_cons_zero, List.set_cons_succ]
  refine takeC 3 (by kernel_rfl) rfl (fun K hK => ?_)
  go_simp
  refine (eqMesh_same _ _ m _ h0s (by exact (X0.below (below_drew1 hB9)).a) O9.a).mono ?_; rintro e v0 ⟨rfl, hB10⟩; have hcx2 := fun o => hB10.cell (p := ⟨kx0, o, none⟩) (by exact Nat.lt_of_lt_of_le G0.lt (below_drew1 hB9).size); have hca2 := fun o => hB10.cell (p := ⟨w.heap.size, o, none⟩) (by exact Nat.lt_of_lt_of_le F0.lt (below_drew1 hB9).size)
  refine hK.out _ _ ?_ (fun hHeld => ?_)
  · go_keep
  clear hK K
  try simp only [Act.put, List.setIfInBounds_toArray, List.set_cons_zero, List.set_cons_succ]
  refine takeW 4 (v := ?v6) rfl (by kernel_rfl) (by kernel_rfl) (by kernel_rfl) (fun _ _ _ h => h) (by rfl) (by assumption) ?hy6 ?rest6
  case hy6 => intro w' hSw; (try dsimp only at hSw); go_simp; try with_reducible rfl
  try simp only [Act.put, List.setIfInBounds_toArray, List.set_cons_zero, List.set_cons_succ]
  refine wpAnyH_done (by kernel_rfl) ?_ _
  have hBd : Below u1.heap.size u1 v0 := below_one (below_drew1 hB9) hB10
  clear hcx hca hcx2 hca2 hB9 hB10 hHeld O9 a0 a1 a2 a3 a4 a5 a6 a7 b0 b1 b2 b3 b4 b5 b6 b7
  replace F0 := F0.below hBd
  replace F1 := F1.below hBd
  replace X0 := X0.below hBd
  replace G0 := G0.below hBd
  replace X1 := X1.below hBd
  replace G1 := G1.below hBd
  replace hBB := below_one hBB hBd
  clear hBd
  obtain ⟨a0, a1, a2, a3, a4, a5⟩ := F1.c
  obtain ⟨b0, b1, b2, b3, b4, b5⟩ := G1.c
  go_wp2_with fail
  refine wp_region_held_drew (S := fun w' => w'.cell? ⟨kx1, 0, none⟩ = some (.string d.at_) ∧ w'.cell? ⟨kx1, 1, none⟩ = some (.slice x11x d.ak.tk.length x11z) ∧ w'.cell? ⟨kx1, 2, none⟩ = some (.string d.ak.me) ∧ w'.cell? ⟨kx1, 3, none⟩ = some (.string d.ak.pa) ∧ w'.cell? ⟨kx1, 4, none⟩ = some (.int .i64 d.ver) ∧ w'.cell? ⟨kx1, 5, none⟩ = some (.int .i64 d.tim) ∧ w'.cell? ⟨w.heap.size + 1, 0, none⟩ = some (.string d.at_) ∧ w'.cell? ⟨w.heap.size + 1, 1, none⟩ = some (.slice p11x d.ak.tk.length p11z) ∧ w'.cell? ⟨w.heap.size + 1, 2, none⟩ = some (.string d.ak.me) ∧ w'.cell? ⟨w.heap.size + 1, 3, none⟩ = some (.string d.ak.pa) ∧ w'.cell? ⟨w.heap.size + 1, 4, none⟩ = some (.int .i64 d.ver) ∧ w'.cell? ⟨w.heap.size + 1, 5, none⟩ = some (.int .i64 d.tim)) (by kernel_rfl) ?_ (fun hHeld => ?_)
  · go_keep
  refine takeW 0 (v := ?v7) rfl (by kernel_rfl) (by kernel_rfl) (by kernel_rfl) (fun _ _ _ h => h) (by rfl) (by assumption) ?hy7 ?rest7
  case hy7 => intro w' hSw; (try dsimp only at hSw); go_simp; try with_reducible rfl
  try simp only [Act.put, List.setIfInBounds_toArray, List.set_cons_zero, List.set_cons_succ]
  refine takeW 1 (v := ?v8) rfl (by kernel_rfl) (by kernel_rfl) (by kernel_rfl) (fun _ _ _ h => h) (by rfl) (by assumption) ?hy8 ?rest8
  case hy8 => intro w' hSw; (try dsimp only at hSw); go_simp; try with_reducible rfl
  try simp only [Act.put, List.setIfInBounds_toArray, List.set_cons_zero, List.set_cons_succ]
  refine takeC 2 (by kernel_rfl) rfl (fun K hK => ?_)
  go_simp
  refine (toDelivery_any _ d _ h1s (by exact (hA1.below hBB).below (Below.refl _ _).drew)).mono ?_; rintro e t1 ⟨cr1, rfl, O9, hB9⟩; obtain ⟨r11x, r11z, hcr1, _⟩ := O9.a; subst hcr1; replace O9 := O9.a; have hcx := fun o => hB9.cell (p := ⟨kx1, o, none⟩) (by exact G1.lt); have hca := fun o => hB9.cell (p := ⟨w.heap.size + 1, o, none⟩) (by exact F1.lt)
  refine hK.out _ _ ?_ (fun hHeld => ?_)
  · go_keep
  clear hK K
  try simp only [Act.put, List.setIfInBounds_toArray, List.set_cons_zero, List.set_cons_succ]
  refine takeC 3 (by kernel_rfl) rfl (fun K hK => ?_)
  go_simp
  refine (eqDelivery_same _ _ d _ h1s (by exact X1.below (below_drew1 hB9)) O9).mono ?_; rintro e v1 ⟨rfl, hB10⟩; have hcx2 := fun o => hB10.cell (p := ⟨kx1, o, none⟩) (by exact Nat.lt_of_lt_of_le G1.lt (below_drew1 hB9).size); have hca2 := fun o => hB10.cell (p := ⟨w.heap.size + 1, o, none⟩) (by exact Nat.lt_of_lt_of_le F1.lt (below_drew1 hB9).size)
  refine hK.out _ _ ?_ (fun hHeld => ?_)
  · go_keep
  clear hK K
  try simp only [Act.put, List.setIfInBounds_toArray, List.set_cons_zero, List.set_cons_succ]
  refine takeW 4 (v := ?v9) rfl (by kernel_rfl) (by kernel_rfl) (by kernel_rfl) (fun _ _ _ h => h) (by rfl) (by assumption) ?hy9 ?rest9
  case hy9 => intro w' hSw; (try dsimp only at hSw); go_simp; try with_reducible rfl
  try simp only [Act.put, List.setIfInBounds_toArray, List.set_cons_zero, List.set_cons_succ]
  refine wpAnyH_done (by kernel_rfl) ?_ _
  have hBd : Below v0.heap.size v0 v1 := below_one (below_drew1 hB9) hB10
  clear hcx hca hcx2 hca2 hB9 hB10 hHeld O9 a0 a1 a2 a3 a4 a5 b0 b1 b2 b3 b4 b5
  replace F0 := F0.below hBd
  replace F1 := F1.below hBd
  replace X0 := X0.below hBd
  replace G0 := G0.below hBd
  replace X1 := X1.below hBd
  replace G1 := G1.below hBd
  replace hBB := below_one hBB hBd
  clear hBd
  go_wp2_with fail
  go_ret
  exact ⟨rfl, hBB⟩

set_option maxRecDepth 100000 in
theorem contract (H : Type) (enc : TypeId × Value → H) (W : World) (base : Nat) (args : Array Value) (ds gs : List (DataW H)) (before : List MemPlace)
    (hval : ∀ (j : Nat) t v, Tryz.f4.params[j]? = some t → args[j]? = some v → Value.okWide Tryz.prog W .any base t v)
    (hW : DataW.Whole enc Tryz.prog Tryz.f4.params.toList Rows.fnExactPermittedBySpec.vars false W args.toList ds gs before) (hL : laidMet Tryz.prog Rows.fnExactPermittedByRow.laid W) :
    Calls Tryz.prog 4 args W fun e W' => ∃ v, e = .returned v ∧ Rows.fnExactPermittedBySpec.post enc Tryz.prog Tryz.f4 false true false false W args v W' := by
  have hW' := hW
  obtain ⟨p, q, hA0, hV, rfl, _, _⟩ := hW
  have hA : DataW.TrodAll enc Tryz.prog W 0 (fun _ => true) true Tryz.f4.params.toList args.toList ds p := hA0
  rw [Tryz.params4] at hA hval
  obtain ⟨v0, vs0, d0, ds0, p0, q0, hargs, rfl, rfl, h0, r0⟩ := trodAll_cons hA
  obtain ⟨v1, vs1, d1, ds1, p1, q1, rfl, rfl, rfl, h1, r1⟩ := trodAll_cons r0
  obtain ⟨rfl, rfl, rfl⟩ := trodAll_nil r1
  obtain rfl : args = #[v0, v1] := by cases args; simp_all
  obtain ⟨rfl, rfl⟩ := trodVars_none hV
  have k0 := h0
  have lt0 : ∀ x ∈ p0, x.block < W.heap.size := by obtain ⟨m, hm⟩ := k0; exact DataW.trod_lt m _ _ _ hm
  obtain ⟨cs0, a0, rfl, w0, f0⟩ := openMs (hval 0 60 v0 rfl rfl) h0
  have k1 := h1
  have lt1 : ∀ x ∈ p1, x.block < W.heap.size := by obtain ⟨m, hm⟩ := k1; exact DataW.trod_lt m _ _ _ hm
  obtain ⟨cs1, a1, rfl, w1, f1⟩ := openDv (hval 1 62 v1 rfl rfl) h1
  clear hA0
  refine (walk cs0 a0 cs1 a1 W w0 f0 w1 f1 (tab_of hL.tail.tail)).mono fun e W' ⟨he, bel⟩ => ?_
  subst he
  exact ⟨_, rfl, _, _, _, [], _, [], hW', trodAll_mk1 (shut_bool Tryz.underlying4 _), (trodAll_cons_mk (Below.trod laidOut (by kernel_rfl) (of_decide_eq_true (by kernel_rfl)) k0 bel lt0) (trodAll_cons_mk (Below.trod laidOut (by kernel_rfl) (of_decide_eq_true (by kernel_rfl)) k1 bel lt1) trodAll_mk0)), rfl, bel.frame _, fun h => by cases h⟩

/-- A world for the witness: the settled one, the listed tables laid. -/
theorem laid_met (os : Os) : laidMet Tryz.prog Rows.fnExactPermittedByRow.laid ((World.laidAll Tryz.prog os Rows.fnExactPermittedByRow.laid).forCall (fun _ _ => 0) ⟨#[], #[.agg #[.int .i64 0, .slice none 0 0, .int .i64 0, .slice none 0 0, .slice none 0 0, .slice none 0 0, .slice none 0 0, .slice none 0 0], .agg #[.string ByteArray.empty, .slice none 0 0, .string ByteArray.empty, .string ByteArray.empty, .int .i64 0, .int .i64 0]], []⟩).memory :=
  laidMet_laidAll _ (by kernel_rfl) (by kernel_rfl)
theorem reads (os : Os) {H : Type} (enc : TypeId × Value → H) : ∃ places, DataW.whole enc Tryz.prog ((World.laidAll Tryz.prog os Rows.fnExactPermittedByRow.laid).forCall (fun _ _ => 0) ⟨#[], #[.agg #[.int .i64 0, .slice none 0 0, .int .i64 0, .slice none 0 0, .slice none 0 0, .slice none 0 0, .slice none 0 0, .slice none 0 0], .agg #[.string ByteArray.empty, .slice none 0 0, .string ByteArray.empty, .string ByteArray.empty, .int .i64 0, .int .i64 0]], []⟩).memory Tryz.f4.params.toList Rows.fnExactPermittedBySpec.vars false #[Value.agg #[.int .i64 0, .slice none 0 0, .int .i64 0, .slice none 0 0, .slice none 0 0, .slice none 0 0, .slice none 0 0, .slice none 0 0], .agg #[.string ByteArray.empty, .slice none 0 0, .string ByteArray.empty, .string ByteArray.empty, .int .i64 0, .int .i64 0]].toList 8 = some ([.agg [.lit (.int .i64 0), .agg [.nil, .lit (.int .i64 0), .nil, .nil], .nil, .nil, .nil], .agg [.lit (.string []), .agg [.nil, .lit (.string []), .lit (.string [])], .lit (.int .i64 0), .lit (.int .i64 0)]], [], places) :=
  ⟨[], by kernel_rfl⟩

set_option maxRecDepth 100000 in
theorem lifted (os : Os) (started : os.Started) (H : Type) (enc : TypeId × Value → H) (F : Stop.Interp) :
    ReturnsInHanded {} Tryz.checked os 4 .any ((OpenSpec.ofChange Rows.fnExactPermittedBySpec).preRow enc Tryz.prog Tryz.f4 Rows.fnExactPermittedByRow.domain false Rows.fnExactPermittedByRow.laid) (((OpenSpec.ofChange Rows.fnExactPermittedBySpec).at F).post enc Tryz.prog Tryz.f4 false true false false) := by
  obtain ⟨places, hx⟩ := reads os enc
  refine returnsInHanded_of_row (C := Tryz.checked) (s := OpenSpec.ofChange Rows.fnExactPermittedBySpec) own started (by kernel_rfl) Tryz.func4
    (witness_row_at (enc := enc) (C := Tryz.checked) false (World.laidAll Tryz.prog os Rows.fnExactPermittedByRow.laid) #[.agg #[.int .i64 0, .slice none 0 0, .int .i64 0, .slice none 0 0, .slice none 0 0, .slice none 0 0, .slice none 0 0, .slice none 0 0], .agg #[.string ByteArray.empty, .slice none 0 0, .string ByteArray.empty, .string ByteArray.empty, .int .i64 0, .int .i64 0]] (World.laidAll_os _ _ _) (by kernel_rfl) (by kernel_rfl) (by kernel_rfl)
      (OpenSpec.preRow_of_cond 8 hx (by kernel_rfl) (fun k hk => by cases hk) (by kernel_rfl) (laid_met os))) ?_
  intro W base args ds gs before hval hW _ _ _ hL hsh _
  have hL' : laidMet Tryz.prog Rows.fnExactPermittedByRow.laid W := by
    rw [← Go.MakeChecks.laidMetH_plain _ _ _ (by kernel_rfl)]
    exact hL
  exact contract H enc W base args ds gs before hval hW hL'

theorem said : Rows.FnExactPermittedBySaid :=
  OpenClaim.holds_of_cond 4 Tryz.f4 rfl rfl rfl rfl rfl rfl rfl ⟨rfl, rfl, rfl, rfl, rfl⟩ rfl rfl rfl rfl rfl (by kernel_rfl) Tryz.func4 (by kernel_rfl)
    (of_decide_eq_true (by kernel_rfl)) (by unfold Func.isWrapper; first | (rw [if_pos (by decide +kernel)]; kernel_rfl) | (rw [if_neg (by decide +kernel)]; exact ⟨rfl, rfl⟩))
    (fun os started H enc _ F => by rw [OpenClaim.pre_eq_preRow]; exact lifted os started H enc F)

theorem plain (f : FuncId) (fn : Func) (hf : Tryz.pinned.checked.prog.funcNamed "loop.example/g00167/laws.FnExactPermittedBy" = some f) (hfn : Tryz.pinned.checked.prog.funcs[f]? = some fn) :
    Rows.fnExactPermittedByCard.stood.looks = Tryz.pinned.checked.prog.looks [] ∧ ∀ (j : Nat) t, fn.params[j]? = some t → Tryz.pinned.checked.prog.wantsStandIn t = false := by
  obtain rfl : f = 4 := Option.some.inj ((show Tryz.prog.funcNamed "loop.example/g00167/laws.FnExactPermittedBy" = some 4 by kernel_rfl).symm.trans hf) |>.symm
  obtain rfl : fn = Tryz.f4 := (Option.some.inj (Tryz.func4.symm.trans hfn)).symm
  refine ⟨by kernel_rfl, fun j t ht => ?_⟩
  rw [Tryz.params4] at ht
  have hm := Array.mem_of_getElem? ht
  have hall : ∀ t, t ∈ #[60, 62] → Tryz.prog.wantsStandIn t = false := by
    have h : (#[60, 62] : Array TypeId).all (fun t => Tryz.prog.wantsStandIn t == false) = true := by kernel_rfl
    intro t ht
    have := (Array.all_eq_true_iff_forall_mem).1 h t ht
    simpa using this
  exact hall t hm

theorem card : Rows.FnExactPermittedByCardSaid :=
  Claim7.holds_tied_plain_at .later [] _ _ _ _ said (fun _ h => by cases h) (by kernel_rfl) (fun _ h => by cases h) fnExactPermittedBy_row_tie rfl ⟨rfl, rfl⟩ (by kernel_rfl) rfl plain (by kernel_rfl)

end Go.Proofs.YtnbojbcljfiamaaGreatDoor.fnExactPermittedBy
namespace Go.Proofs.YtnbojbcljfiamaaGreatDoor
theorem fnExactPermittedBy_holds : Rows.FnExactPermittedByCardSaid := fnExactPermittedBy.card
#print axioms fnExactPermittedBy_holds
end Go.Proofs.YtnbojbcljfiamaaGreatDoor
