/-
  Proved: at every argument DecideAsk answers as the specification and changes nothing, where the listed tables of the library read as the program's own text lays them.
-/
import Derived.Test.YtnbojbcljfiamaaGreatDoorJDecideAsk6
import Derived.Test.YtnbojbcljfiamaaGreatDoorCards
import Derived.Test.YtnbojbcljfiamaaGreatDoorTie
import Derived.Test.YtnbojbcljfiamaaGreatDoorJDecideAsk3
import Derived.WalkKit
import Derived.ProofKit
import Derived.OpenShut
import Derived.ShutString
import Derived.ChangeOld
import Derived.Below
import Derived.Lib.SmallJoins
import Derived.Deep.Slices
import Derived.Deep.DeepHandedRow
import Derived.Shelf.Vars
import Derived.Lay
import Derived.MakeChecks
import Derived.Stop.LaidErr
namespace Go.Proofs.YtnbojbcljfiamaaGreatDoor
open Go.RowKit Go.Shelf

theorem Ak.call {a : Ak} (h : a.size ≤ 1048576) {k : Lk} (hk : k ∈ a.tk) : (⟨k.who, a.me, a.pa⟩ : Ca).size ≤ 1048576 := by
  have := lz_mem hk
  unfold Ak.size lzAll at h
  unfold Lk.size at this
  unfold Ca.size
  show k.who.size + a.me.size + a.pa.size ≤ 1048576
  omega
theorem rq_no1 {a : Ak} (h : mthB a.me = false) : rqB a = false := by unfold rqB; rw [h]; rfl
theorem rq_2 {a : Ak} (h : mthB a.me = true) : rqB a = gpB a.pa := by unfold rqB; rw [h]; rfl

set_option maxHeartbeats 2000000 in
theorem l8Asks_any (cs : List Value) (a : Ak) (w : World) (hs : a.short) (h : AkC w cs a) :
    Calls Tryz.prog 30 #[.agg cs.toArray] w fun e w' => e = .returned (.bool (rqB a)) ∧ Below w.heap.size w w' := by
  obtain ⟨px, pz, rfl, h0⟩ := h
  have hBB : Below w.heap.size w (w.alloc (.cells #[.slice px a.tk.length pz, .string a.me, .string a.pa] 46)) := (Below.refl _ w).alloc (Nat.le_refl _) _
  have F := Three.new w (.slice px a.tk.length pz) (.string a.me) (.string a.pa) 46
  have hp := hs.2.2
  cases hm : mthB a.me
  · have HR := hid (rq_no1 hm)
    go_enter Tryz.func30, Tryz.ntmps30
    go_wp2_with (go_at_call 67; refine (l2Method_any _ _).mono ?_; rintro e w1 ⟨rfl, rfl⟩; rw [hm])
    go_ret
    exact ⟨ret_bool HR.out.symm, hBB⟩
  · have HR := hid (rq_2 hm)
    go_enter Tryz.func30, Tryz.ntmps30
    go_wp2_with (first | (go_at_call 67; refine (l2Method_any _ _).mono ?_; rintro e w1 ⟨rfl, rfl⟩; rw [hm]) | (go_at_call 68; refine (specGoodPath_any _ _ hp).mono ?_; rintro e w2 ⟨rfl, hB2⟩))
    go_ret
    exact ⟨ret_bool HR.out.symm, below_one hBB hB2⟩

set_option maxHeartbeats 2000000 in
theorem goodRequest_any (a : Ak) (w : World) (hs : a.short) :
    Calls Tryz.prog 38 #[.string a.me, .string a.pa] w fun e w' => e = .returned (.bool (rqB a)) ∧ Below w.heap.size w w' := by
  have hp := hs.2.2
  cases hm : mthB a.me
  · have HR := hid (rq_no1 hm)
    go_enter Tryz.func38, Tryz.ntmps38
    go_wp2_with (go_at_call 76; refine (goodMethod_any _ _).mono ?_; rintro e w1 ⟨rfl, rfl⟩; rw [hm])
    go_ret
    exact ⟨ret_bool HR.out.symm, Below.refl _ _⟩
  · have HR := hid (rq_2 hm)
    go_enter Tryz.func38, Tryz.ntmps38
    go_wp2_with (first | (go_at_call 76; refine (goodMethod_any _ _).mono ?_; rintro e w1 ⟨rfl, rfl⟩; rw [hm]) | (go_at_call 77; refine (implGoodPath_any _ _ hp).mono ?_; rintro e w2 ⟨rfl, hB2⟩))
    go_ret
    exact ⟨ret_bool HR.out.symm, hB2⟩

set_option maxHeartbeats 4000000 in
theorem decideCallers_any (v : Value) (rs : List Ru) (cs : List Value) (a : Ak) (w : World) (hm : rs.length ≤ 1048577) (hfz : ∀ r ∈ rs, r.size ≤ 1048576) (hsz : a.size ≤ 1048576) (hr : RuS w v rs) (h : AkC w cs a) :
    Calls Tryz.prog 40 #[v, .agg cs.toArray] w fun e w' => e = .returned (.int .i64 (dcX rs a)) ∧ Below w.heap.size w w' := by
  obtain ⟨px, pz, rfl, h0⟩ := h
  obtain ⟨ra, rc, rfl⟩ := hr.len
  have hBB : Below w.heap.size w (w.alloc (.cells #[.slice px a.tk.length pz, .string a.me, .string a.pa] 46)) := (Below.refl _ w).alloc (Nat.le_refl _) _
  have F := Three.new w (.slice px a.tk.length pz) (.string a.me) (.string a.pa) 46
  have hl := (Ak.short_of hsz).1.1
  have HZ := hid hsz
  clear hsz
  go_enter Tryz.func40, Tryz.ntmps40
  go_wp2_with fail
  generalize w.alloc (.cells #[.slice px a.tk.length pz, .string a.me, .string a.pa] 46) = W0 at *
  go_loopw [5, 11] (fun d i wr => ∃ n : Nat, n ≤ a.tk.length ∧ i = .int .i64 n ∧ d = .int .i64 (lsC rs a n) ∧ ndTo rs a n = true ∧ Below w.heap.size w wr ∧ Three wr 46 w.heap.size (.slice px a.tk.length pz) (.string a.me) (.string a.pa)) (fun _ i _ => a.tk.length - (intOf i).toNat)
  case atStart => exact ⟨0, Nat.zero_le _, rfl, rfl, ndTo_zero _ _, hBB, F⟩
  case round =>
    obtain ⟨n, hn, rfl, rfl, hl0, hB, FR⟩ := hrel
    have HL := hid hl0
    clear hl0
    by_cases hlt : n < a.tk.length
    · obtain ⟨b, off, rfl, hb, hcap, q0, q1, q2, q3, q4⟩ := (h0.below hB).at hlt
      have hcz := Ak.call HZ.out (List.getElem_mem hlt)
      have HS := hid (ndTo_succ (rs := rs) hlt)
      have HN := hid (fun hb => nd_no (rs := rs) (a := a) (n := n) hlt hb)
      have HK := hid (lsC_succ (rs := rs) hlt)
      have HC := hid (show clC rs a a.tk[n] = dC rs ⟨a.tk[n].who, a.me, a.pa⟩ (List.range rs.length) from rfl)
      generalize a.tk[n] = k at *
      have hBa : Below wr.heap.size wr (wr.alloc (.cells #[.string k.who, .string k.to, .int .i64 k.se, .int .i64 k.fr, .int .i64 k.un] 126)) := (Below.refl _ wr).alloc (Nat.le_refl _) _
      have hBr := below_one hB hBa
      replace FR := FR.below hBa
      obtain ⟨b0, b1, b2⟩ := FR.c
      generalize lsC rs a n = D0 at *
      go_wp2_with fail
      generalize wr.alloc (.cells #[.string k.who, .string k.to, .int .i64 k.se, .int .i64 k.fr, .int .i64 k.un] 126) = Wr at *
      refine (implDecideCall_any _ rs ⟨k.who, a.me, a.pa⟩ _ hm hfz hcz (hr.below hBr)).mono ?_
      rintro e w3 ⟨rfl, hB3⟩
      rw [← HC.out]
      generalize dK rs ⟨k.who, a.me, a.pa⟩ (List.range rs.length) = DK at *
      generalize dOk rs ⟨k.who, a.me, a.pa⟩ = DO at *
      replace hBr := below_one hBr hB3
      replace FR := FR.below hB3
      clear HC hB3 hBa q0 q1 q2 q3 q4 b0 b1 b2
      cases hd : (clC rs a k == 2)
      · have hl1 : ndTo rs a (n + 1) = true := by rw [HS.out, HL.out, hd]; rfl
        have HL1 := hid hl1
        have HK1 := hid HK.out.symm
        clear hl1 HL HS HN HK
        generalize clC rs a k = D at *
        go_wp2_with fail
        go_roundw
        case rel => exact ⟨n + 1, by omega, by go_num, by rw [← HK1.out], HL1.out, hBr, FR⟩
        case measure => simp [intOf]; omega
      · have HR := hid (HN.out hd)
        have HD := hid (show clC rs a k = 2 from eq_of_beq hd)
        clear HL HS HN HK
        rw [HD.out]
        clear hd
        go_wp2_with fail
        go_ret
        exact ⟨ret_int HR.out.symm, hBr⟩
    · obtain rfl : n = a.tk.length := by omega
      have HR := hid (nd_end HL.out)
      go_wp2_with fail
      go_ret
      exact ⟨ret_int HR.out.symm, hB⟩

set_option maxHeartbeats 8000000 in
set_option maxRecDepth 100000 in
theorem l8Decide_any (v v2 : Value) (s : Sd) (cs : List Value) (a : Ak) (ss : List ByteArray) (nw : Int) (q : ByteArray) (w : World) (hs : s.short) (hsz : a.size ≤ 1048576) (hms : ss.length ≤ 1048577) (hq : q.size ≤ 1048576) (hS : SdA w v s) (h : AkC w cs a) (hrs : VS w v2 (strs ss)) :
    Calls Tryz.prog 31 #[v, .agg cs.toArray, v2, .int .i64 nw, .string q] w fun e w' => e = .returned (.tuple #[.int .i64 (dkY s a ss nw q).1, .int .i64 (dkY s a ss nw q).2]) ∧ Below w.heap.size w w' := by
  obtain ⟨k0, k1, k2, k3, k4, k5, k6, k7, k8, k9, rfl⟩ := sd_forms hS
  obtain ⟨px, pz, rfl, h0⟩ := h
  obtain ⟨sa, sc, rfl⟩ := hrs.strLen
  obtain ⟨vp, vr, vu, vh, vs, hse, hP, hV, _⟩ := hS
  cases hse
  have hBB : Below w.heap.size w ((w.alloc (.cells #[.int .i64 s.fo.num, .slice k0 s.fo.pol.length k1, .slice k2 s.fo.rv.length k3, .int .i64 s.co, .slice k4 s.ru.length k5, .slice k6 s.ha.length k7, .slice k8 s.se.length k9] 42)).alloc (.cells #[.slice px a.tk.length pz, .string a.me, .string a.pa] 46)) := ((Below.refl _ w).alloc (Nat.le_refl _) _).alloc (by simp) _
  have F := (Seven.new w (.int .i64 s.fo.num) (.slice k0 s.fo.pol.length k1) (.slice k2 s.fo.rv.length k3) (.int .i64 s.co) (.slice k4 s.ru.length k5) (.slice k6 s.ha.length k7) (.slice k8 s.se.length k9) 42).below ((Below.refl _ _).alloc (Nat.le_refl _) (.cells #[.slice px a.tk.length pz, .string a.me, .string a.pa] 46))
  have G := Three.at (w.alloc (.cells #[.int .i64 s.fo.num, .slice k0 s.fo.pol.length k1, .slice k2 s.fo.rv.length k3, .int .i64 s.co, .slice k4 s.ru.length k5, .slice k6 s.ha.length k7, .slice k8 s.se.length k9] 42)) (.slice px a.tk.length pz) (.string a.me) (.string a.pa) 46 (k := w.heap.size + 1) (by simp)
  have hl := (Ak.short_of hsz).1
  have hf := hs.1
  cases e1 : (s.fo.num == 0)
  case true =>
    have HR := hid (dkY_4 a ss nw q e1)
    go_enter Tryz.func31, Tryz.ntmps31
    go_wp2_with fail
    go_ret2
    exact ⟨ret2 HR.out, hBB⟩
  cases e2 : (s.co == 0)
  · have HR := hid (dkY_5 a ss nw q e1 e2)
    have e2' : (s.co != 0) = true := by rw [bne, e2]; rfl
    clear e2
    go_enter Tryz.func31, Tryz.ntmps31
    go_wp2_with fail
    go_ret2
    exact ⟨ret2 HR.out, hBB⟩
  have e2' : (s.co != 0) = false := by rw [bne, e2]; rfl
  have HE2 := hid e2
  have HE1 := hid e1
  clear e2
  go_enter Tryz.func31, Tryz.ntmps31
  go_wp2_with fail
  clear e1 e2'
  generalize (w.alloc (.cells #[.int .i64 s.fo.num, .slice k0 s.fo.pol.length k1, .slice k2 s.fo.rv.length k3, .int .i64 s.co, .slice k4 s.ru.length k5, .slice k6 s.ha.length k7, .slice k8 s.se.length k9] 42)).alloc (.cells #[.slice px a.tk.length pz, .string a.me, .string a.pa] 46) = W0 at *
  refine (specCheckToken_any _ _ _ a.tk ss nw s.fo.rv q _ (Nat.le_succ_of_le hl.1) hms (Nat.le_succ_of_le hf.2.1) hq hl.2 (h0.below hBB) (hrs.below hBB) (hV.below hBB)).mono ?_
  rintro e w1 ⟨rfl, hB1⟩
  replace F := F.below hB1
  replace G := G.below hB1
  replace hBB := below_one hBB hB1
  clear hB1
  obtain ⟨cc, HCC⟩ : ∃ cc, Hid (chkX a.tk (sgTo a.tk a.tk.length) ss nw s.fo.rv q = cc) := ⟨_, hid rfl⟩
  rw [HCC.out]
  obtain ⟨a0, a1, a2, a3, a4, a5, a6⟩ := F.c
  obtain ⟨b0, b1, b2⟩ := G.c
  cases e3 : (cc == 0)
  · have HR := hid (show dkY s a ss nw q = (6, cc) by rw [dkY_6 HE1.out HE2.out (by rw [HCC.out]; exact e3), HCC.out])
    have e3' : (cc != 0) = true := by rw [bne, e3]; rfl
    clear e3
    go_wp2_with fail
    go_ret2
    exact ⟨ret2 HR.out, hBB⟩
  have e3' : (cc != 0) = false := by rw [bne, e3]; rfl
  have HE3 := hid (show (chkX a.tk (sgTo a.tk a.tk.length) ss nw s.fo.rv q == 0) = true by rw [HCC.out]; exact e3)
  have hlen := (tkB_len (chk_tk HE3.out)).1
  clear e3 HCC
  go_wp2_with fail
  clear a0 a1 a2 a3 a4 a5 a6 b0 b1 b2 e3'
  have hf1 := hf.1
  have hf3 := hf.2.2
  have hll := hl.1
  have HZ := hid hsz
  clear hsz
  go_loopw [42] (fun i wr => ∃ n : Nat, n ≤ a.tk.length ∧ i = .int .i64 n ∧ ndTo s.fo.pol a n = true ∧ (n = a.tk.length → (lsC s.fo.pol a n == 1) = true) ∧ Below w.heap.size w wr ∧ Seven wr 42 w.heap.size (.int .i64 s.fo.num) (.slice k0 s.fo.pol.length k1) (.slice k2 s.fo.rv.length k3) (.int .i64 s.co) (.slice k4 s.ru.length k5) (.slice k6 s.ha.length k7) (.slice k8 s.se.length k9) ∧ Three wr 46 (w.heap.size + 1) (.slice px a.tk.length pz) (.string a.me) (.string a.pa)) (fun i _ => a.tk.length - (intOf i).toNat)
  case atStart => exact ⟨0, Nat.zero_le _, rfl, ndTo_zero _ _, fun h => by omega, hBB, F, G⟩
  case round =>
    obtain ⟨n, hn, rfl, hl0, hlast, hB, FR, GR⟩ := hrel
    have HL := hid hl0
    have HLT := hid hlast
    clear hl0 hlast
    by_cases hlt : n < a.tk.length
    · obtain ⟨b, off, rfl, hb, hcap, q0, q1, q2, q3, q4⟩ := (h0.below hB).at hlt
      have hcz := Ak.call HZ.out (List.getElem_mem hlt)
      have HS := hid (ndTo_succ (rs := s.fo.pol) hlt)
      have HN := hid (fun hb => nd_no (rs := s.fo.pol) (a := a) (n := n) hlt hb)
      have HK := hid (lsC_succ (rs := s.fo.pol) hlt)
      have HC := hid (show clC s.fo.pol a a.tk[n] = dC s.fo.pol ⟨a.tk[n].who, a.me, a.pa⟩ (List.range s.fo.pol.length) from rfl)
      generalize a.tk[n] = k at *
      have hBa : Below wr.heap.size wr (wr.alloc (.cells #[.string k.who, .string k.to, .int .i64 k.se, .int .i64 k.fr, .int .i64 k.un] 126)) := (Below.refl _ wr).alloc (Nat.le_refl _) _
      have hBr := below_one hB hBa
      replace FR := FR.below hBa
      replace GR := GR.below hBa
      obtain ⟨a0, a1, a2, a3, a4, a5, a6⟩ := FR.c
      obtain ⟨b0, b1, b2⟩ := GR.c
      go_wp2_with fail
      generalize wr.alloc (.cells #[.string k.who, .string k.to, .int .i64 k.se, .int .i64 k.fr, .int .i64 k.un] 126) = Wr at *
      refine (specDecideCall_any _ s.fo.pol ⟨k.who, a.me, a.pa⟩ _ (Nat.le_succ_of_le hf1) hf3 hcz (hP.below hBr)).mono ?_
      rintro e w3 ⟨rfl, hB3⟩
      rw [← HC.out]
      generalize dK s.fo.pol ⟨k.who, a.me, a.pa⟩ (List.range s.fo.pol.length) = DK at *
      generalize dOk s.fo.pol ⟨k.who, a.me, a.pa⟩ = DO at *
      replace hBr := below_one hBr hB3
      replace FR := FR.below hB3
      replace GR := GR.below hB3
      clear HC hB3 hBa q0 q1 q2 q3 q4 a0 a1 a2 a3 a4 a5 a6 b0 b1 b2
      obtain ⟨b0, b1, b2⟩ := GR.c
      cases hd : (clC s.fo.pol a k == 2)
      · have HL1 := hid (show ndTo s.fo.pol a (n + 1) = true by rw [HS.out, HL.out, hd]; rfl)
        clear HL HS HN
        by_cases hend : n + 1 = a.tk.length
        · have e4 : ((n : Int) == (a.tk.length : Int) - 1) = true := by simp; omega
          have HX := hid (show dcX s.fo.pol a = clC s.fo.pol a k by rw [nd_end (by rw [← hend]; exact HL1.out), ← hend]; exact HK.out)
          cases e5 : (clC s.fo.pol a k == 1)
          · have HR := hid (show dkY s a ss nw q = (7, clC s.fo.pol a k) by rw [dkY_7 HE1.out HE2.out HE3.out (by rw [HX.out]; exact e5), HX.out])
            have e5' : (clC s.fo.pol a k != 1) = true := by rw [bne, e5]; rfl
            clear e5 HX HK HL1 HLT
            generalize clC s.fo.pol a k = D at *
            go_wp2_with fail
            go_ret2
            exact ⟨ret2 HR.out, hBr⟩
          · have e5' : (clC s.fo.pol a k != 1) = false := by rw [bne, e5]; rfl
            have HE5 := hid (show (lsC s.fo.pol a (n + 1) == 1) = true by rw [HK.out]; exact e5)
            clear e5 HX HK HLT
            generalize clC s.fo.pol a k = D at *
            go_wp2_with fail
            go_roundw
            case rel => exact ⟨n + 1, by omega, by go_num, HL1.out, fun _ => HE5.out, hBr, FR, GR⟩
            case measure => simp [intOf]; omega
        · have e4 : ((n : Int) == (a.tk.length : Int) - 1) = false := by simp; omega
          clear HK HLT
          generalize clC s.fo.pol a k = D at *
          go_wp2_with fail
          go_roundw
          case rel => exact ⟨n + 1, by omega, by go_num, HL1.out, fun h => absurd h hend, hBr, FR, GR⟩
          case measure => simp [intOf]; omega
      · have HX := hid (HN.out hd)
        have HD := hid (show clC s.fo.pol a k = 2 from eq_of_beq hd)
        have HR := hid (show dkY s a ss nw q = (7, 2) by rw [dkY_7 HE1.out HE2.out HE3.out (by rw [HX.out]; rfl), HX.out])
        clear HL HS HN HK HX HLT
        rw [HD.out]
        clear hd
        go_wp2_with fail
        go_ret2
        exact ⟨ret2 HR.out, hBr⟩
    · obtain rfl : n = a.tk.length := by omega
      have HR := hid (dkY_0 HE1.out HE2.out HE3.out (by rw [nd_end HL.out]; exact HLT.out rfl))
      go_wp2_with fail
      go_ret2
      exact ⟨ret2 HR.out, hB⟩

set_option maxHeartbeats 8000000 in
set_option maxRecDepth 100000 in
theorem specDecideAsk_any (v v2 : Value) (s : Sd) (cs : List Value) (a : Ak) (ss : List ByteArray) (nw : Int) (q : ByteArray) (w : World) (hs : s.short) (hsz : a.size ≤ 1048576) (hms : ss.length ≤ 1048577) (hq : q.size ≤ 1048576) (hS : SdA w v s) (h : AkC w cs a) (hrs : VS w v2 (strs ss)) :
    Calls Tryz.prog 8 #[v, .agg cs.toArray, v2, .int .i64 nw, .string q] w fun e w' => e = .returned (.tuple #[.int .i64 (dkX s a ss nw q).1, .int .i64 (dkX s a ss nw q).2]) ∧ Below w.heap.size w w' := by
  obtain ⟨k0, k1, k2, k3, k4, k5, k6, k7, k8, k9, rfl⟩ := sd_forms hS
  have hA := h
  obtain ⟨px, pz, rfl, h0⟩ := h
  obtain ⟨sa, sc, rfl⟩ := hrs.strLen
  have hBB : Below w.heap.size w ((w.alloc (.cells #[.int .i64 s.fo.num, .slice k0 s.fo.pol.length k1, .slice k2 s.fo.rv.length k3, .int .i64 s.co, .slice k4 s.ru.length k5, .slice k6 s.ha.length k7, .slice k8 s.se.length k9] 42)).alloc (.cells #[.slice px a.tk.length pz, .string a.me, .string a.pa] 46)) := ((Below.refl _ w).alloc (Nat.le_refl _) _).alloc (by simp) _
  have F := (Seven.new w (.int .i64 s.fo.num) (.slice k0 s.fo.pol.length k1) (.slice k2 s.fo.rv.length k3) (.int .i64 s.co) (.slice k4 s.ru.length k5) (.slice k6 s.ha.length k7) (.slice k8 s.se.length k9) 42).below ((Below.refl _ _).alloc (Nat.le_refl _) (.cells #[.slice px a.tk.length pz, .string a.me, .string a.pa] 46))
  have G := Three.at (w.alloc (.cells #[.int .i64 s.fo.num, .slice k0 s.fo.pol.length k1, .slice k2 s.fo.rv.length k3, .int .i64 s.co, .slice k4 s.ru.length k5, .slice k6 s.ha.length k7, .slice k8 s.se.length k9] 42)) (.slice px a.tk.length pz) (.string a.me) (.string a.pa) 46 (k := w.heap.size + 1) (by simp)
  have hsh := Ak.short_of hsz
  cases e1 : sdB s
  · have HR := hid (dkX_no (s := s) (a := a) ss nw q (by rw [e1]; rfl))
    have HE1 := hid e1
    clear e1
    go_enter Tryz.func8, Tryz.ntmps8
    go_wp2_with fail
    generalize (w.alloc (.cells #[.int .i64 s.fo.num, .slice k0 s.fo.pol.length k1, .slice k2 s.fo.rv.length k3, .int .i64 s.co, .slice k4 s.ru.length k5, .slice k6 s.ha.length k7, .slice k8 s.se.length k9] 42)).alloc (.cells #[.slice px a.tk.length pz, .string a.me, .string a.pa] 46) = W0 at *
    refine (specGoodSide_any _ s _ hs (hS.below hBB)).mono ?_
    rintro e w1 ⟨rfl, hB1⟩
    rw [HE1.out]
    go_wp2_with fail
    go_ret2
    exact ⟨ret2 HR.out, below_one hBB hB1⟩
  have HE1 := hid e1
  clear e1
  cases e2 : rqB a
  all_goals
    have HE2 := hid e2
    clear e2
    go_enter Tryz.func8, Tryz.ntmps8
    go_wp2_with fail
    generalize (w.alloc (.cells #[.int .i64 s.fo.num, .slice k0 s.fo.pol.length k1, .slice k2 s.fo.rv.length k3, .int .i64 s.co, .slice k4 s.ru.length k5, .slice k6 s.ha.length k7, .slice k8 s.se.length k9] 42)).alloc (.cells #[.slice px a.tk.length pz, .string a.me, .string a.pa] 46) = W0 at *
    refine (specGoodSide_any _ s _ hs (hS.below hBB)).mono ?_
    rintro e w1 ⟨rfl, hB1⟩
    rw [HE1.out]
    replace F := F.below hB1
    replace G := G.below hB1
    replace hBB := below_one hBB hB1
    clear hB1
    obtain ⟨b0, b1, b2⟩ := G.c
    go_wp2_with fail
    refine (l8Asks_any _ a _ hsh (hA.below hBB)).mono ?_
    rintro e w2 ⟨rfl, hB2⟩
    rw [HE2.out]
    replace F := F.below hB2
    replace G := G.below hB2
    replace hBB := below_one hBB hB2
    clear hB2 b0 b1 b2
    obtain ⟨a0, a1, a2, a3, a4, a5, a6⟩ := F.c
    obtain ⟨b0, b1, b2⟩ := G.c
    go_wp2_with fail
  · go_ret2
    exact ⟨ret2 (dkX_no (s := s) (a := a) ss nw q (by rw [HE2.out]; simp)), hBB⟩
  · have HR := hid (dkX_yes (s := s) (a := a) ss nw q HE1.out HE2.out)
    refine (l8Decide_any _ _ s _ a ss nw q _ hs hsz hms hq (hS.below hBB) (hA.below hBB) (hrs.below hBB)).mono ?_
    rintro e w3 ⟨rfl, hB3⟩
    rw [← HR.out]
    go_wp2_with fail
    go_ret2
    exact ⟨rfl, below_one hBB hB3⟩

set_option maxHeartbeats 8000000 in
set_option maxRecDepth 100000 in
theorem implDecideAsk_any (v v2 : Value) (s : Sd) (cs : List Value) (a : Ak) (ss : List ByteArray) (nw : Int) (q : ByteArray) (w : World) (ht : Tab w) (hs : s.short) (hsz : a.size ≤ 1048576) (hms : ss.length ≤ 1048577) (hq : q.size ≤ 1048576) (hR : SdR w v s) (h : AkC w cs a) (hrs : VS w v2 (strs ss)) :
    Calls Tryz.prog 12 #[v, .agg cs.toArray, v2, .int .i64 nw, .string q] w fun e w' => e = .returned (.tuple #[.int .i64 (dkX s a ss nw q).1, .int .i64 (dkX s a ss nw q).2]) ∧ Below w.heap.size w w' := by
  have hS := hR.a
  obtain ⟨k0, k1, k2, k3, k4, k5, k6, k7, k8, k9, rfl⟩ := sd_forms hS
  have hA := h
  obtain ⟨px, pz, rfl, h0⟩ := h
  obtain ⟨sa, sc, rfl⟩ := hrs.strLen
  obtain ⟨vp, vr, vu, vh, vs, hse, hP, hV, _⟩ := hS
  cases hse
  have HTB := hid ht
  clear ht
  have hBB : Below w.heap.size w ((w.alloc (.cells #[.int .i64 s.fo.num, .slice k0 s.fo.pol.length k1, .slice k2 s.fo.rv.length k3, .int .i64 s.co, .slice k4 s.ru.length k5, .slice k6 s.ha.length k7, .slice k8 s.se.length k9] 42)).alloc (.cells #[.slice px a.tk.length pz, .string a.me, .string a.pa] 46)) := ((Below.refl _ w).alloc (Nat.le_refl _) _).alloc (by simp) _
  have F := (Seven.new w (.int .i64 s.fo.num) (.slice k0 s.fo.pol.length k1) (.slice k2 s.fo.rv.length k3) (.int .i64 s.co) (.slice k4 s.ru.length k5) (.slice k6 s.ha.length k7) (.slice k8 s.se.length k9) 42).below ((Below.refl _ _).alloc (Nat.le_refl _) (.cells #[.slice px a.tk.length pz, .string a.me, .string a.pa] 46))
  have G := Three.at (w.alloc (.cells #[.int .i64 s.fo.num, .slice k0 s.fo.pol.length k1, .slice k2 s.fo.rv.length k3, .int .i64 s.co, .slice k4 s.ru.length k5, .slice k6 s.ha.length k7, .slice k8 s.se.length k9] 42)) (.slice px a.tk.length pz) (.string a.me) (.string a.pa) 46 (k := w.heap.size + 1) (by simp)
  have hsh := Ak.short_of hsz
  have hl := hsh.1
  have hf := hs.1
  cases e1 : sdB s
  · have HR := hid (dkX_no (s := s) (a := a) ss nw q (by rw [e1]; rfl))
    have HE1 := hid e1
    clear e1
    go_enter Tryz.func12, Tryz.ntmps12
    go_wp2_with fail
    generalize (w.alloc (.cells #[.int .i64 s.fo.num, .slice k0 s.fo.pol.length k1, .slice k2 s.fo.rv.length k3, .int .i64 s.co, .slice k4 s.ru.length k5, .slice k6 s.ha.length k7, .slice k8 s.se.length k9] 42)).alloc (.cells #[.slice px a.tk.length pz, .string a.me, .string a.pa] 46) = W0 at *
    refine (implGoodSide_any _ s _ hs (hR.below hBB)).mono ?_
    rintro e w1 ⟨rfl, hB1⟩
    rw [HE1.out]
    go_wp2_with fail
    go_ret2
    exact ⟨ret2 HR.out, below_one hBB hB1⟩
  have HE1 := hid e1
  clear e1
  obtain ⟨ok2, HE2⟩ : ∃ ok, Hid (rqB a = ok) := ⟨_, hid rfl⟩
  go_enter Tryz.func12, Tryz.ntmps12
  go_wp2_with fail
  generalize (w.alloc (.cells #[.int .i64 s.fo.num, .slice k0 s.fo.pol.length k1, .slice k2 s.fo.rv.length k3, .int .i64 s.co, .slice k4 s.ru.length k5, .slice k6 s.ha.length k7, .slice k8 s.se.length k9] 42)).alloc (.cells #[.slice px a.tk.length pz, .string a.me, .string a.pa] 46) = W0 at *
  refine (implGoodSide_any _ s _ hs (hR.below hBB)).mono ?_
  rintro e w1 ⟨rfl, hB1⟩
  rw [HE1.out]
  replace F := F.below hB1
  replace G := G.below hB1
  replace hBB := below_one hBB hB1
  clear hB1
  obtain ⟨b0, b1, b2⟩ := G.c
  go_wp2_with fail
  refine (goodRequest_any a _ hsh).mono ?_
  rintro e w2 ⟨rfl, hB2⟩
  rw [HE2.out]
  replace F := F.below hB2
  replace G := G.below hB2
  replace hBB := below_one hBB hB2
  clear hB2 b0 b1 b2
  obtain ⟨a0, a1, a2, a3, a4, a5, a6⟩ := F.c
  obtain ⟨b0, b1, b2⟩ := G.c
  cases ok2
  · have HR := hid (dkX_no (s := s) (a := a) ss nw q (by rw [HE2.out]; simp))
    go_wp2_with fail
    go_ret2
    exact ⟨ret2 HR.out, hBB⟩
  have HY := hid (dkX_yes (s := s) (a := a) ss nw q HE1.out HE2.out)
  clear HE1 HE2
  cases e3 : (s.fo.num == 0)
  case true =>
    have HR := hid (show dkX s a ss nw q = (4, 0) by rw [HY.out, dkY_4 a ss nw q e3])
    go_wp2_with fail
    go_ret2
    exact ⟨ret2 HR.out, hBB⟩
  have HE3 := hid e3
  cases e4 : (s.co == 0)
  · have HR := hid (show dkX s a ss nw q = (5, 0) by rw [HY.out, dkY_5 a ss nw q e3 e4])
    have e4' : (s.co != 0) = true := by rw [bne, e4]; rfl
    clear e4
    go_wp2_with fail
    go_ret2
    exact ⟨ret2 HR.out, hBB⟩
  have HE4 := hid e4
  have e4' : (s.co != 0) = false := by rw [bne, e4]; rfl
  clear e4
  go_wp2_with fail
  refine (implCheckToken_any _ _ _ a.tk ss nw s.fo.rv q _ (Nat.le_succ_of_le hl.1) hms (Nat.le_succ_of_le hf.2.1) hq hl.2 (h0.below hBB) (hrs.below hBB) (hV.below hBB) (HTB.out.on hBB)).mono ?_
  rintro e w3 ⟨rfl, hB3⟩
  clear a0 a1 a2 a3 a4 a5 a6 b0 b1 b2 e3 e4'
  replace F := F.below hB3
  replace G := G.below hB3
  replace hBB := below_one hBB hB3
  clear hB3
  obtain ⟨cc, HCC⟩ : ∃ cc, Hid (chkX a.tk (sgTo a.tk a.tk.length) ss nw s.fo.rv q = cc) := ⟨_, hid rfl⟩
  rw [HCC.out]
  obtain ⟨a0, a1, a2, a3, a4, a5, a6⟩ := F.c
  obtain ⟨b0, b1, b2⟩ := G.c
  cases e5 : (cc == 0)
  · have HR := hid (show dkX s a ss nw q = (6, cc) by rw [HY.out, dkY_6 HE3.out HE4.out (by rw [HCC.out]; exact e5), HCC.out])
    have e5' : (cc != 0) = true := by rw [bne, e5]; rfl
    clear e5
    go_wp2_with fail
    go_ret2
    exact ⟨ret2 HR.out, hBB⟩
  have e5' : (cc != 0) = false := by rw [bne, e5]; rfl
  have HE5 := hid (show (chkX a.tk (sgTo a.tk a.tk.length) ss nw s.fo.rv q == 0) = true by rw [HCC.out]; exact e5)
  clear e5 HCC
  go_wp2_with fail
  clear a0 a1 a2 a3 a4 a5 a6 b0 b1 b2 e5'
  refine (decideCallers_any _ s.fo.pol _ a _ (Nat.le_succ_of_le hf.1) hf.2.2 hsz (hP.below hBB) (hA.below hBB)).mono ?_
  rintro e w4 ⟨rfl, hB4⟩
  replace hBB := below_one hBB hB4
  obtain ⟨dd, HDD⟩ : ∃ dd, Hid (dcX s.fo.pol a = dd) := ⟨_, hid rfl⟩
  rw [HDD.out]
  cases e6 : (dd == 1)
  · have HR := hid (show dkX s a ss nw q = (7, dd) by rw [HY.out, dkY_7 HE3.out HE4.out HE5.out (by rw [HDD.out]; exact e6), HDD.out])
    have e6' : (dd != 1) = true := by rw [bne, e6]; rfl
    clear e6
    go_wp2_with fail
    go_ret2
    exact ⟨ret2 HR.out, hBB⟩
  · have HR := hid (show dkX s a ss nw q = (0, 0) by rw [HY.out, dkY_0 HE3.out HE4.out HE5.out (by rw [HDD.out]; exact e6)])
    have e6' : (dd != 1) = false := by rw [bne, e6]; rfl
    clear e6
    go_wp2_with fail
    go_ret2
    exact ⟨ret2 HR.out, hBB⟩

end Go.Proofs.YtnbojbcljfiamaaGreatDoor

namespace Go.Proofs.YtnbojbcljfiamaaGreatDoor.fnExactDecideAsk
open Go.ChangeShapes Go.WideShapes Go.ChangeAt Go.RowKit Go.Joins Go.Deep Go.Proofs.YtnbojbcljfiamaaGreatDoor
open Go.ChangeMaps (open_string shut_string)

theorem own : ownKnob Tryz.prog.godebug = none := by kernel_rfl
theorem laidOut : laidOutB Tryz.prog = true := by kernel_rfl

theorem tab_same : (Rows.laid_internal_strconv_uint64pow10 : DataW Unit) = Lib.tabData .u64 Lib.pow10Tab := by kernel_rfl
/-- The table of powers of ten, as the row lists it. -/
theorem tab_of {W : World} {rest : List (String × DataW Unit)} (h : laidMet Tryz.prog (("internal/strconv.uint64pow10", Rows.laid_internal_strconv_uint64pow10) :: rest) W) : Tab W :=
  Lib.tabIs_of_head (g := 1) (t := 265) (e := 252) (n := 20) (by kernel_rfl) (by kernel_rfl) Tryz.underlying265 Tryz.underlying252 (by kernel_rfl) (by kernel_rfl) (tab_same ▸ h)

set_option maxHeartbeats 32000000 in
set_option maxRecDepth 100000 in
theorem walk (v : Value) (s : Sd) (cs : List Value) (a : Ak) (sa : Option Addr) (sn sc : Nat) (ss : List ByteArray) (nw : Int) (q : ByteArray) (w : World) (hA0 : SdA w v s) (f0 : s.fits) (hA1 : AkC w cs a) (f1 : a.fits) (hA2 : VS w (.slice sa sn sc) (strs ss) ∧ ss.length = sn ∧ sn ≤ maxLen ∧ ∀ r ∈ ss, r.size ≤ maxLen) (_w3 : (Lit.int .i64 nw).wf = true) (_w4 : q.size ≤ maxLen) (ht : Tab w) :
    Calls Tryz.prog 3 #[v, .agg cs.toArray, .slice sa sn sc, .int .i64 nw, .string q] w fun e w' => e = .returned (.bool true) ∧ Below w.heap.size w w' := by
  have HTB := hid ht
  clear ht
  obtain ⟨p0a, p0b, p0c, p0d, p0e, p0f, p0g, p0h, p0i, p0j, rfl⟩ := sd_forms hA0
  obtain ⟨p10x, p10z, hc1, _⟩ := id hA1
  subst hc1
  obtain ⟨hA2, rfl, m2, f2⟩ := hA2
  have hBB : Below w.heap.size w ((w.alloc (.cells #[.int .i64 s.fo.num, .slice p0a s.fo.pol.length p0b, .slice p0c s.fo.rv.length p0d, .int .i64 s.co, .slice p0e s.ru.length p0f, .slice p0g s.ha.length p0h, .slice p0i s.se.length p0j] 28)).alloc (.cells #[.slice p10x a.tk.length p10z, .string a.me, .string a.pa] 31)) := (((Below.refl _ w).alloc (Nat.le_refl _) _).alloc (by simp) _)
  have F0 := (Seven.new w (.int .i64 s.fo.num) (.slice p0a s.fo.pol.length p0b) (.slice p0c s.fo.rv.length p0d) (.int .i64 s.co) (.slice p0e s.ru.length p0f) (.slice p0g s.ha.length p0h) (.slice p0i s.se.length p0j) 28).below ((Below.refl _ _).alloc (Nat.le_refl _) (.cells #[.slice p10x a.tk.length p10z, .string a.me, .string a.pa] 31))
  have F1 := Three.at (w.alloc (.cells #[.int .i64 s.fo.num, .slice p0a s.fo.pol.length p0b, .slice p0c s.fo.rv.length p0d, .int .i64 s.co, .slice p0e s.ru.length p0f, .slice p0g s.ha.length p0h, .slice p0i s.se.length p0j] 28)) (.slice p10x a.tk.length p10z) (.string a.me) (.string a.pa) 31 (k := w.heap.size + 1) (by simp)
  by_cases q4 : q.size ≤ 1048576
  case neg =>
    have dq : decide ((1048576 : Int) < (q.size : Int)) = true := by simp; omega
    go_enter Tryz.func3, Tryz.ntmps3
    go_wp2_with fail
    go_ret
    exact ⟨rfl, hBB⟩
  have dq4 : decide ((1048576 : Int) < (q.size : Int)) = false := by simp; omega
  by_cases c0 : (s.size : Int) ≤ (1048576 : Int)
  case neg =>
    go_enter Tryz.func3, Tryz.ntmps3
    go_wp2_with fail
    generalize (w.alloc (.cells #[.int .i64 s.fo.num, .slice p0a s.fo.pol.length p0b, .slice p0c s.fo.rv.length p0d, .int .i64 s.co, .slice p0e s.ru.length p0f, .slice p0g s.ha.length p0h, .slice p0i s.se.length p0j] 28)).alloc (.cells #[.slice p10x a.tk.length p10z, .string a.me, .string a.pa] 31) = W0 at *
    refine (szSide_any _ s (1048576) _ (by omega) (by omega) f0 (hA0.below hBB)).mono ?_
    rintro e w1 ⟨rfl, hB1⟩
    rw [show leftSd (1048576) s = -1 from if_neg (by have := c0; omega)]
    replace F0 := F0.below hB1
    replace F1 := F1.below hB1
    replace hBB := below_one hBB hB1
    clear hB1
    obtain ⟨a00, a01, a02, a03, a04, a05, a06⟩ := F0.c
    obtain ⟨a10, a11, a12⟩ := F1.c
    go_wp2_with fail
    go_ret
    exact ⟨rfl, hBB⟩
  have d0 : decide ((1048576 : Int) - (s.size : Int) < 0) = false := by simp; omega
  by_cases c1 : (a.size : Int) ≤ (1048576 : Int) - (s.size : Int)
  case neg =>
    go_enter Tryz.func3, Tryz.ntmps3
    go_wp2_with fail
    generalize (w.alloc (.cells #[.int .i64 s.fo.num, .slice p0a s.fo.pol.length p0b, .slice p0c s.fo.rv.length p0d, .int .i64 s.co, .slice p0e s.ru.length p0f, .slice p0g s.ha.length p0h, .slice p0i s.se.length p0j] 28)).alloc (.cells #[.slice p10x a.tk.length p10z, .string a.me, .string a.pa] 31) = W0 at *
    refine (szSide_any _ s (1048576) _ (by omega) (by omega) f0 (hA0.below hBB)).mono ?_
    rintro e w1 ⟨rfl, hB1⟩
    rw [show leftSd (1048576) s = 1048576 - (s.size : Int) from if_pos c0]
    replace F0 := F0.below hB1
    replace F1 := F1.below hB1
    replace hBB := below_one hBB hB1
    clear hB1
    obtain ⟨a00, a01, a02, a03, a04, a05, a06⟩ := F0.c
    obtain ⟨a10, a11, a12⟩ := F1.c
    go_wp2_with fail
    refine (szAsk_any _ a (1048576 - (s.size : Int)) _ (by omega) (by omega) f1 (hA1.below hBB)).mono ?_
    rintro e w2 ⟨rfl, hB2⟩
    rw [show leftK (1048576 - (s.size : Int)) a.size = -1 from if_neg (by have := c1; omega)]
    replace F0 := F0.below hB2
    replace F1 := F1.below hB2
    replace hBB := below_one hBB hB2
    clear hB2
    clear a00 a01 a02 a03 a04 a05 a06
    clear a10 a11 a12
    obtain ⟨a00, a01, a02, a03, a04, a05, a06⟩ := F0.c
    obtain ⟨a10, a11, a12⟩ := F1.c
    go_wp2_with fail
    go_ret
    exact ⟨rfl, hBB⟩
  have d1 : decide ((1048576 : Int) - (s.size : Int) - (a.size : Int) < 0) = false := by simp; omega
  by_cases c2 : (tzAll ss : Int) ≤ (1048576 : Int) - (s.size : Int) - (a.size : Int)
  case neg =>
    go_enter Tryz.func3, Tryz.ntmps3
    go_wp2_with fail
    generalize (w.alloc (.cells #[.int .i64 s.fo.num, .slice p0a s.fo.pol.length p0b, .slice p0c s.fo.rv.length p0d, .int .i64 s.co, .slice p0e s.ru.length p0f, .slice p0g s.ha.length p0h, .slice p0i s.se.length p0j] 28)).alloc (.cells #[.slice p10x a.tk.length p10z, .string a.me, .string a.pa] 31) = W0 at *
    refine (szSide_any _ s (1048576) _ (by omega) (by omega) f0 (hA0.below hBB)).mono ?_
    rintro e w1 ⟨rfl, hB1⟩
    rw [show leftSd (1048576) s = 1048576 - (s.size : Int) from if_pos c0]
    replace F0 := F0.below hB1
    replace F1 := F1.below hB1
    replace hBB := below_one hBB hB1
    clear hB1
    obtain ⟨a00, a01, a02, a03, a04, a05, a06⟩ := F0.c
    obtain ⟨a10, a11, a12⟩ := F1.c
    go_wp2_with fail
    refine (szAsk_any _ a (1048576 - (s.size : Int)) _ (by omega) (by omega) f1 (hA1.below hBB)).mono ?_
    rintro e w2 ⟨rfl, hB2⟩
    rw [show leftK (1048576 - (s.size : Int)) a.size = 1048576 - (s.size : Int) - (a.size : Int) from if_pos c1]
    replace F0 := F0.below hB2
    replace F1 := F1.below hB2
    replace hBB := below_one hBB hB2
    clear hB2
    clear a00 a01 a02 a03 a04 a05 a06
    clear a10 a11 a12
    obtain ⟨a00, a01, a02, a03, a04, a05, a06⟩ := F0.c
    obtain ⟨a10, a11, a12⟩ := F1.c
    go_wp2_with fail
    refine (szStringS_any _ ss (1048576 - (s.size : Int) - (a.size : Int)) _ (by omega) (by omega) m2 f2 (hA2.below hBB)).mono ?_
    rintro e w3 ⟨rfl, hB3⟩
    rw [show leftT (1048576 - (s.size : Int) - (a.size : Int)) ss = -1 from if_neg (by have := c2; omega)]
    replace F0 := F0.below hB3
    replace F1 := F1.below hB3
    replace hBB := below_one hBB hB3
    clear hB3
    clear a00 a01 a02 a03 a04 a05 a06
    clear a10 a11 a12
    obtain ⟨a00, a01, a02, a03, a04, a05, a06⟩ := F0.c
    obtain ⟨a10, a11, a12⟩ := F1.c
    go_wp2_with fail
    go_ret
    exact ⟨rfl, hBB⟩
  have d2 : decide ((1048576 : Int) - (s.size : Int) - (a.size : Int) - (tzAll ss : Int) < 0) = false := by simp; omega
  have h0s := Sd.short_of (s := s) (by omega)
  have h1z : a.size ≤ 1048576 := by have := c0; omega
  have h1s := Ak.short_of h1z
  have h2s : ss.length ≤ 1048576 := by unfold tzAll at c2; omega
  obtain ⟨R, HR⟩ : ∃ x, Hid (x = dkX s a ss nw q) := ⟨_, hid rfl⟩
  go_enter Tryz.func3, Tryz.ntmps3
  go_wp2_with fail
  generalize (w.alloc (.cells #[.int .i64 s.fo.num, .slice p0a s.fo.pol.length p0b, .slice p0c s.fo.rv.length p0d, .int .i64 s.co, .slice p0e s.ru.length p0f, .slice p0g s.ha.length p0h, .slice p0i s.se.length p0j] 28)).alloc (.cells #[.slice p10x a.tk.length p10z, .string a.me, .string a.pa] 31) = W0 at *
  refine (szSide_any _ s (1048576) _ (by omega) (by omega) f0 (hA0.below hBB)).mono ?_
  rintro e w1 ⟨rfl, hB1⟩
  rw [show leftSd (1048576) s = 1048576 - (s.size : Int) from if_pos c0]
  replace F0 := F0.below hB1
  replace F1 := F1.below hB1
  replace hBB := below_one hBB hB1
  clear hB1
  obtain ⟨a00, a01, a02, a03, a04, a05, a06⟩ := F0.c
  obtain ⟨a10, a11, a12⟩ := F1.c
  go_wp2_with fail
  refine (szAsk_any _ a (1048576 - (s.size : Int)) _ (by omega) (by omega) f1 (hA1.below hBB)).mono ?_
  rintro e w2 ⟨rfl, hB2⟩
  rw [show leftK (1048576 - (s.size : Int)) a.size = 1048576 - (s.size : Int) - (a.size : Int) from if_pos c1]
  replace F0 := F0.below hB2
  replace F1 := F1.below hB2
  replace hBB := below_one hBB hB2
  clear hB2
  clear a00 a01 a02 a03 a04 a05 a06
  clear a10 a11 a12
  obtain ⟨a00, a01, a02, a03, a04, a05, a06⟩ := F0.c
  obtain ⟨a10, a11, a12⟩ := F1.c
  go_wp2_with fail
  refine (szStringS_any _ ss (1048576 - (s.size : Int) - (a.size : Int)) _ (by omega) (by omega) m2 f2 (hA2.below hBB)).mono ?_
  rintro e w3 ⟨rfl, hB3⟩
  rw [show leftT (1048576 - (s.size : Int) - (a.size : Int)) ss = 1048576 - (s.size : Int) - (a.size : Int) - (tzAll ss : Int) from if_pos c2]
  replace F0 := F0.below hB3
  replace F1 := F1.below hB3
  replace hBB := below_one hBB hB3
  clear hB3
  clear a00 a01 a02 a03 a04 a05 a06
  clear a10 a11 a12
  obtain ⟨a00, a01, a02, a03, a04, a05, a06⟩ := F0.c
  obtain ⟨a10, a11, a12⟩ := F1.c
  go_wp2_with fail
  refine wp_region_held_drew (S := fun w' => w'.cell? ⟨w.heap.size, 0, none⟩ = some (.int .i64 s.fo.num) ∧ w'.cell? ⟨w.heap.size, 1, none⟩ = some (.slice p0a s.fo.pol.length p0b) ∧ w'.cell? ⟨w.heap.size, 2, none⟩ = some (.slice p0c s.fo.rv.length p0d) ∧ w'.cell? ⟨w.heap.size, 3, none⟩ = some (.int .i64 s.co) ∧ w'.cell? ⟨w.heap.size, 4, none⟩ = some (.slice p0e s.ru.length p0f) ∧ w'.cell? ⟨w.heap.size, 5, none⟩ = some (.slice p0g s.ha.length p0h) ∧ w'.cell? ⟨w.heap.size, 6, none⟩ = some (.slice p0i s.se.length p0j) ∧ w'.cell? ⟨w.heap.size + 1, 0, none⟩ = some (.slice p10x a.tk.length p10z) ∧ w'.cell? ⟨w.heap.size + 1, 1, none⟩ = some (.string a.me) ∧ w'.cell? ⟨w.heap.size + 1, 2, none⟩ = some (.string a.pa)) (by kernel_rfl) ?_ (fun hHeld => ?_)
  · go_keep
  refine takeW 0 (v := ?v1) rfl (by kernel_rfl) (by kernel_rfl) (by kernel_rfl) (fun _ _ _ h => h) (by rfl) (by assumption) ?hy1 ?rest1
  case hy1 => intro w' hSw; (try dsimp only at hSw); go_simp; try with_reducible rfl
  try simp only [Act.put, List.setIfInBounds_toArray, List.set_cons_zero, List.set_cons_succ]
  refine takeW 2 (v := ?v2) rfl (by kernel_rfl) (by kernel_rfl) (by kernel_rfl) (fun _ _ _ h => h) (by rfl) (by assumption) ?hy2 ?rest2
  case hy2 => intro w' hSw; (try dsimp only at hSw); go_simp; try with_reducible rfl
  try simp only [Act.put, List.setIfInBounds_toArray, List.set_cons_zero, List.set_cons_succ]
  refine takeW 4 (v := ?v3) rfl (by kernel_rfl) (by kernel_rfl) (by kernel_rfl) (fun _ _ _ h => h) (by rfl) (by assumption) ?hy3 ?rest3
  case hy3 => intro w' hSw; (try dsimp only at hSw); go_simp; try with_reducible rfl
  try simp only [Act.put, List.setIfInBounds_toArray, List.set_cons_zero, List.set_cons_succ]
  refine takeW 6 (v := ?v4) rfl (by kernel_rfl) (by kernel_rfl) (by kernel_rfl) (fun _ _ _ h => h) (by rfl) (by assumption) ?hy4 ?rest4
  case hy4 => intro w' hSw; (try dsimp only at hSw); go_simp; try with_reducible rfl
  try simp only [Act.put, List.setIfInBounds_toArray, List.set_cons_zero, List.set_cons_succ]
  refine takeW 7 (v := ?v5) rfl (by kernel_rfl) (by kernel_rfl) (by kernel_rfl) (fun _ _ _ h => h) (by rfl) (by assumption) ?hy5 ?rest5
  case hy5 => intro w' hSw; (try dsimp only at hSw); go_simp; try with_reducible rfl
  try simp only [Act.put, List.setIfInBounds_toArray, List.set_cons_zero, List.set_cons_succ]
  refine takeC 1 (by kernel_rfl) rfl (fun K hK => ?_)
  go_simp
  refine (toSide_any _ s _ h0s (by exact (hA0.below hBB).below (Below.refl _ _).drew)).mono ?_; rintro e y1 ⟨vs0, rfl, P0, hC1⟩; obtain ⟨s0a, s0b, s0c, s0d, s0e, s0f, s0g, s0h, s0i, s0j, rfl⟩ := sd_forms P0.a; replace P0 := P0.r; have k1_0 := fun o => hC1.cell (p := ⟨w.heap.size, o, none⟩) (by exact F0.lt); have k1_1 := fun o => hC1.cell (p := ⟨w.heap.size + 1, o, none⟩) (by exact F1.lt); have hD1 : Below w3.heap.size w3 y1 := below_drew1 hC1
  refine hK.out _ _ ?_ (fun hHeld => ?_)
  · go_keep
  clear hK K
  try simp only [Act.put, List.setIfInBounds_toArray, List.set_cons_zero, List.set_cons_succ]
  refine takeC 3 (by kernel_rfl) rfl (fun K hK => ?_)
  go_simp
  refine (toAsk_any _ a _ h1s (by exact (hA1.below hBB).below hD1)).mono ?_; rintro e y2 ⟨cs1, rfl, P1, hC2⟩; obtain ⟨s10x, s10z, hcs1, _⟩ := P1.a; subst hcs1; replace P1 := P1.a; replace P0 := P0.below hC2; have k2_0 := fun o => hC2.cell (p := ⟨w.heap.size, o, none⟩) (by exact Nat.lt_of_lt_of_le F0.lt hD1.size); have k2_1 := fun o => hC2.cell (p := ⟨w.heap.size + 1, o, none⟩) (by exact Nat.lt_of_lt_of_le F1.lt hD1.size); have hD2 : Below w3.heap.size w3 y2 := below_one hD1 hC2
  refine hK.out _ _ ?_ (fun hHeld => ?_)
  · go_keep
  clear hK K
  try simp only [Act.put, List.setIfInBounds_toArray, List.set_cons_zero, List.set_cons_succ]
  refine takeC 5 (by kernel_rfl) rfl (fun K hK => ?_)
  go_simp
  refine (toStringS_any _ ss _ h2s (by exact (hA2.below hBB).below hD2)).mono ?_; rintro e y3 ⟨vs2, rfl, P2, hC3⟩; obtain ⟨s2x, s2z, rfl⟩ := ownsRow_len P2; replace P2 := VS.ownS P2; replace P0 := P0.below hC3; replace P1 := P1.below hC3; have k3_0 := fun o => hC3.cell (p := ⟨w.heap.size, o, none⟩) (by exact Nat.lt_of_lt_of_le F0.lt hD2.size); have k3_1 := fun o => hC3.cell (p := ⟨w.heap.size + 1, o, none⟩) (by exact Nat.lt_of_lt_of_le F1.lt hD2.size); have hD3 : Below w3.heap.size w3 y3 := below_one hD2 hC3
  refine hK.out _ _ ?_ (fun hHeld => ?_)
  · go_keep
  clear hK K
  try simp only [Act.put, List.setIfInBounds_toArray, List.set_cons_zero, List.set_cons_succ]
  refine takeC 8 (by kernel_rfl) rfl (fun K hK => ?_)
  go_simp
  refine (specDecideAsk_any _ _ s _ a ss nw q _ h0s h1z (Nat.le_succ_of_le h2s) q4 P0.a P1 P2).mono ?_; rintro e y4 ⟨rfl, hC4⟩; have k4_0 := fun o => hC4.cell (p := ⟨w.heap.size, o, none⟩) (by exact Nat.lt_of_lt_of_le F0.lt hD3.size); have k4_1 := fun o => hC4.cell (p := ⟨w.heap.size + 1, o, none⟩) (by exact Nat.lt_of_lt_of_le F1.lt hD3.size)
  refine hK.out _ _ ?_ (fun hHeld => ?_)
  · go_keep
  clear hK K
  try simp only [Act.put, List.setIfInBounds_toArray, List.set_cons_zero, List.set_cons_succ]
  refine takeW 9 (v := ?v6) rfl (by kernel_rfl) (by kernel_rfl) (by kernel_rfl) (fun _ _ _ h => h) (by rfl) (by assumption) ?hy6 ?rest6
  case hy6 => intro w' hSw; (try dsimp only at hSw); go_simp; try with_reducible rfl
  try simp only [Act.put, List.setIfInBounds_toArray, List.set_cons_zero, List.set_cons_succ]
  refine takeW 10 (v := ?v7) rfl (by kernel_rfl) (by kernel_rfl) (by kernel_rfl) (fun _ _ _ h => h) (by rfl) (by assumption) ?hy7 ?rest7
  case hy7 => intro w' hSw; (try dsimp only at hSw); go_simp; try with_reducible rfl
  try simp only [Act.put, List.setIfInBounds_toArray, List.set_cons_zero, List.set_cons_succ]
  refine takeW 11 (v := ?v8) rfl (by kernel_rfl) (by kernel_rfl) (by kernel_rfl) (fun _ _ _ h => h) (by rfl) (by assumption) ?hy8 ?rest8
  case hy8 => intro w' hSw; (try dsimp only at hSw); go_simp; try with_reducible rfl
  try simp only [Act.put, List.setIfInBounds_toArray, List.set_cons_zero, List.set_cons_succ]
  refine takeW 12 (v := ?v9) rfl (by kernel_rfl) (by kernel_rfl) (by kernel_rfl) (fun _ _ _ h => h) (by rfl) (by assumption) ?hy9 ?rest9
  case hy9 => intro w' hSw; (try dsimp only at hSw); go_simp; try with_reducible rfl
  try simp only [Act.put, List.setIfInBounds_toArray, List.set_cons_zero, List.set_cons_succ]
  refine takeW 13 (v := ?v10) rfl (by kernel_rfl) (by kernel_rfl) (by kernel_rfl) (fun _ _ _ h => h) (by rfl) (by assumption) ?hy10 ?rest10
  case hy10 => intro w' hSw; (try dsimp only at hSw); go_simp; try with_reducible rfl
  try simp only [Act.put, List.setIfInBounds_toArray, List.set_cons_zero, List.set_cons_succ]
  refine wpAnyH_done (by kernel_rfl) ?_ _
  have hBd : Below w3.heap.size w3 y4 := below_one hD3 hC4
  clear hC1 hC2 hC3 hC4 hD1 hD2 hD3 k1_0 k1_1 k2_0 k2_1 k3_0 k3_1 k4_0 k4_1 hHeld P0 P1 P2 a00 a01 a02 a03 a04 a05 a06 a10 a11 a12
  rw [← HR.out]
  replace F0 := F0.below hBd
  replace F1 := F1.below hBd
  replace hBB := below_one hBB hBd
  clear hBd
  obtain ⟨a00, a01, a02, a03, a04, a05, a06⟩ := F0.c
  obtain ⟨a10, a11, a12⟩ := F1.c
  go_wp2_with fail
  refine (toSide_any _ s _ h0s (hA0.below hBB)).mono ?_
  rintro e z0 ⟨vx0, rfl, X0, hZ⟩
  obtain ⟨x0a, x0b, x0c, x0d, x0e, x0f, x0g, x0h, x0i, x0j, rfl⟩ := sd_forms X0.a
  replace X0 := X0.r
  replace F0 := F0.below hZ
  replace F1 := F1.below hZ
  replace hBB := below_one hBB hZ
  clear hZ
  clear a00 a01 a02 a03 a04 a05 a06 a10 a11 a12
  have hBv : Below z0.heap.size z0 (z0.alloc (.cells #[.int .i64 s.fo.num, .slice x0a s.fo.pol.length x0b, .slice x0c s.fo.rv.length x0d, .int .i64 s.co, .slice x0e s.ru.length x0f, .slice x0g s.ha.length x0h, .slice x0i s.se.length x0j] 42)) := (Below.refl _ z0).alloc (Nat.le_refl _) _
  have G0 := Seven.new z0 (.int .i64 s.fo.num) (.slice x0a s.fo.pol.length x0b) (.slice x0c s.fo.rv.length x0d) (.int .i64 s.co) (.slice x0e s.ru.length x0f) (.slice x0g s.ha.length x0h) (.slice x0i s.se.length x0j) 42
  replace F0 := F0.below hBv
  replace F1 := F1.below hBv
  replace X0 := X0.below hBv
  replace hBB := below_one hBB hBv
  clear hBv
  obtain ⟨a00, a01, a02, a03, a04, a05, a06⟩ := F0.c
  obtain ⟨a10, a11, a12⟩ := F1.c
  obtain ⟨b00, b01, b02, b03, b04, b05, b06⟩ := G0.c
  go_wp2_with fail
  generalize z0.alloc (.cells #[.int .i64 s.fo.num, .slice x0a s.fo.pol.length x0b, .slice x0c s.fo.rv.length x0d, .int .i64 s.co, .slice x0e s.ru.length x0f, .slice x0g s.ha.length x0h, .slice x0i s.se.length x0j] 42) = Z0 at *
  generalize z0.heap.size = kx0 at *
  clear a00 a01 a02 a03 a04 a05 a06 a10 a11 a12 b00 b01 b02 b03 b04 b05 b06
  obtain ⟨a00, a01, a02, a03, a04, a05, a06⟩ := F0.c
  obtain ⟨a10, a11, a12⟩ := F1.c
  go_wp2_with fail
  refine (toAsk_any _ a _ h1s (hA1.below hBB)).mono ?_
  rintro e z1 ⟨cx1, rfl, X1, hZ⟩
  obtain ⟨x10x, x10z, hcx1, _⟩ := X1.a
  subst hcx1
  replace X1 := X1.a
  replace F0 := F0.below hZ
  replace F1 := F1.below hZ
  replace X0 := X0.below hZ
  replace G0 := G0.below hZ
  replace hBB := below_one hBB hZ
  clear hZ
  clear a00 a01 a02 a03 a04 a05 a06 a10 a11 a12
  have hBv : Below z1.heap.size z1 (z1.alloc (.cells #[.slice x10x a.tk.length x10z, .string a.me, .string a.pa] 46)) := (Below.refl _ z1).alloc (Nat.le_refl _) _
  have G1 := Three.new z1 (.slice x10x a.tk.length x10z) (.string a.me) (.string a.pa) 46
  replace F0 := F0.below hBv
  replace F1 := F1.below hBv
  replace X0 := X0.below hBv
  replace G0 := G0.below hBv
  replace X1 := X1.below hBv
  replace hBB := below_one hBB hBv
  clear hBv
  obtain ⟨a00, a01, a02, a03, a04, a05, a06⟩ := F0.c
  obtain ⟨a10, a11, a12⟩ := F1.c
  obtain ⟨b10, b11, b12⟩ := G1.c
  obtain ⟨b00, b01, b02, b03, b04, b05, b06⟩ := G0.c
  go_wp2_with fail
  generalize z1.alloc (.cells #[.slice x10x a.tk.length x10z, .string a.me, .string a.pa] 46) = Z1 at *
  generalize z1.heap.size = kx1 at *
  clear a00 a01 a02 a03 a04 a05 a06 a10 a11 a12 b00 b01 b02 b03 b04 b05 b06 b10 b11 b12
  go_wp2_with fail
  refine (toStringS_any _ ss _ h2s (hA2.below hBB)).mono ?_
  rintro e z2 ⟨vx2, rfl, X2, hZ⟩
  obtain ⟨x2x, x2z, rfl⟩ := ownsRow_len X2
  replace X2 := VS.ownS X2
  replace F0 := F0.below hZ
  replace F1 := F1.below hZ
  replace X0 := X0.below hZ
  replace G0 := G0.below hZ
  replace X1 := X1.below hZ
  replace G1 := G1.below hZ
  replace hBB := below_one hBB hZ
  clear hZ
  obtain ⟨b00, b01, b02, b03, b04, b05, b06⟩ := G0.c
  obtain ⟨b10, b11, b12⟩ := G1.c
  go_wp2_with fail
  refine (implDecideAsk_any _ _ s _ a ss nw q _ (HTB.out.on hBB) h0s h1z (Nat.le_succ_of_le h2s) q4 X0 X1 X2).mono ?_
  rintro e u1 ⟨rfl, hU⟩
  rw [← HR.out]
  replace F0 := F0.below hU
  replace F1 := F1.below hU
  replace X0 := X0.below hU
  replace G0 := G0.below hU
  replace X1 := X1.below hU
  replace G1 := G1.below hU
  replace X2 := X2.below hU
  replace hBB := below_one hBB hU
  clear hU b00 b01 b02 b03 b04 b05 b06 b10 b11 b12
  have e1 : (R.1 != R.1) = false := by simp
  have e2 : (R.2 != R.2) = false := by simp
  obtain ⟨a0, a1, a2, a3, a4, a5, a6⟩ := F0.c
  obtain ⟨b0, b1, b2, b3, b4, b5, b6⟩ := G0.c
  go_wp2_with fail
  refine wp_region_held_drew (S := fun w' => w'.cell? ⟨kx0, 0, none⟩ = some (.int .i64 s.fo.num) ∧ w'.cell? ⟨kx0, 1, none⟩ = some (.slice x0a s.fo.pol.length x0b) ∧ w'.cell? ⟨kx0, 2, none⟩ = some (.slice x0c s.fo.rv.length x0d) ∧ w'.cell? ⟨kx0, 3, none⟩ = some (.int .i64 s.co) ∧ w'.cell? ⟨kx0, 4, none⟩ = some (.slice x0e s.ru.length x0f) ∧ w'.cell? ⟨kx0, 5, none⟩ = some (.slice x0g s.ha.length x0h) ∧ w'.cell? ⟨kx0, 6, none⟩ = some (.slice x0i s.se.length x0j) ∧ w'.cell? ⟨w.heap.size, 0, none⟩ = some (.int .i64 s.fo.num) ∧ w'.cell? ⟨w.heap.size, 1, none⟩ = some (.slice p0a s.fo.pol.length p0b) ∧ w'.cell? ⟨w.heap.size, 2, none⟩ = some (.slice p0c s.fo.rv.length p0d) ∧ w'.cell? ⟨w.heap.size, 3, none⟩ = some (.int .i64 s.co) ∧ w'.cell? ⟨w.heap.size, 4, none⟩ = some (.slice p0e s.ru.length p0f) ∧ w'.cell? ⟨w.heap.size, 5, none⟩ = some (.slice p0g s.ha.length p0h) ∧ w'.cell? ⟨w.heap.size, 6, none⟩ = some (.slice p0i s.se.length p0j)) (by kernel_rfl) ?_ (fun hHeld => ?_)
  · go_keep
  refine takeW 0 (v := ?v11) rfl (by kernel_rfl) (by kernel_rfl) (by kernel_rfl) (fun _ _ _ h => h) (by rfl) (by assumption) ?hy11 ?rest11
  case hy11 => intro w' hSw; (try dsimp only at hSw); go_simp; try with_reducible rfl
  try simp only [Act.put, List.setIfInBounds_toArray, List.set_cons_zero, List.set_cons_succ]
  refine takeW 1 (v := ?v12) rfl (by kernel_rfl) (by kernel_rfl) (by kernel_rfl) (fun _ _ _ h => h) (by rfl) (by assumption) ?hy12 ?rest12
  case hy12 => intro w' hSw; (try dsimp only at hSw); go_simp; try with_reducible rfl
  try simp only [Act.put, List.setIfInBounds_toArray, List.set_cons_zero, List.set_cons_succ]
  refine takeC 2 (by kernel_rfl) rfl (fun K hK => ?_)
  go_simp
  refine (toSide_any _ s _ h0s (by exact (hA0.below hBB).below (Below.refl _ _).drew)).mono ?_; rintro e t0 ⟨vr0, rfl, O9, hB9⟩; obtain ⟨r0a, r0b, r0c, r0d, r0e, r0f, r0g, r0h, r0i, r0j, rfl⟩ := sd_forms O9.a; replace O9 := O9.r; have hcx := fun o => hB9.cell (p := ⟨kx0, o, none⟩) (by exact G0.lt); have hca := fun o => hB9.cell (p := ⟨w.heap.size, o, none⟩) (by exact F0.lt)
  refine hK.out _ _ ?_ (fun hHeld => ?_)
  · go_keep
  clear hK K
  try simp only [Act.put, List.setIfInBounds_toArray, List.set_cons_zero, List.set_cons_succ]
  refine takeC 3 (by kernel_rfl) rfl (fun K hK => ?_)
  go_simp
  refine (eqSide_same _ _ s _ h0s (by exact (X0.below (below_drew1 hB9)).a) O9.a).mono ?_; rintro e v0 ⟨rfl, hB10⟩; have hcx2 := fun o => hB10.cell (p := ⟨kx0, o, none⟩) (by exact Nat.lt_of_lt_of_le G0.lt (below_drew1 hB9).size); have hca2 := fun o => hB10.cell (p := ⟨w.heap.size, o, none⟩) (by exact Nat.lt_of_lt_of_le F0.lt (below_drew1 hB9).size)
  refine hK.out _ _ ?_ (fun hHeld => ?_)
  · go_keep
  clear hK K
  try simp only [Act.put, List.setIfInBounds_toArray, List.set_cons_zero, List.set_cons_succ]
  refine takeW 4 (v := ?v13) rfl (by kernel_rfl) (by kernel_rfl) (by kernel_rfl) (fun _ _ _ h => h) (by rfl) (by assumption) ?hy13 ?rest13
  case hy13 => intro w' hSw; (try dsimp only at hSw); go_simp; try with_reducible rfl
  try simp only [Act.put, List.setIfInBounds_toArray, List.set_cons_zero, List.set_cons_succ]
  refine wpAnyH_done (by kernel_rfl) ?_ _
  have hBd : Below u1.heap.size u1 v0 := below_one (below_drew1 hB9) hB10
  clear hcx hca hcx2 hca2 hB9 hB10 hHeld O9 a0 a1 a2 a3 a4 a5 a6 b0 b1 b2 b3 b4 b5 b6
  replace F0 := F0.below hBd
  replace F1 := F1.below hBd
  replace X0 := X0.below hBd
  replace G0 := G0.below hBd
  replace X1 := X1.below hBd
  replace G1 := G1.below hBd
  replace X2 := X2.below hBd
  replace hBB := below_one hBB hBd
  clear hBd
  obtain ⟨a0, a1, a2⟩ := F1.c
  obtain ⟨b0, b1, b2⟩ := G1.c
  go_wp2_with fail
  refine wp_region_held_drew (S := fun w' => w'.cell? ⟨kx1, 0, none⟩ = some (.slice x10x a.tk.length x10z) ∧ w'.cell? ⟨kx1, 1, none⟩ = some (.string a.me) ∧ w'.cell? ⟨kx1, 2, none⟩ = some (.string a.pa) ∧ w'.cell? ⟨w.heap.size + 1, 0, none⟩ = some (.slice p10x a.tk.length p10z) ∧ w'.cell? ⟨w.heap.size + 1, 1, none⟩ = some (.string a.me) ∧ w'.cell? ⟨w.heap.size + 1, 2, none⟩ = some (.string a.pa)) (by kernel_rfl) ?_ (fun hHeld => ?_)
  · go_keep
  refine takeW 0 (v := ?v14) rfl (by kernel_rfl) (by kernel_rfl) (by kernel_rfl) (fun _ _ _ h => h) (by rfl) (by assumption) ?hy14 ?rest14
  case hy14 => intro w' hSw; (try dsimp only at hSw); go_simp; try with_reducible rfl
  try simp only [Act.put, List.setIfInBounds_toArray, List.set_cons_zero, List.set_cons_succ]
  refine takeW 1 (v := ?v15) rfl (by kernel_rfl) (by kernel_rfl) (by kernel_rfl) (fun _ _ _ h => h) (by rfl) (by assumption) ?hy15 ?rest15
  case hy15 => intro w' hSw; (try dsimp only at hSw); go_simp; try with_reducible rfl
  try simp only [Act.put, List.setIfInBounds_toArray, List.set_cons_zero, List.set_cons_succ]
  refine takeC 2 (by kernel_rfl) rfl (fun K hK => ?_)
  go_simp
  refine (toAsk_any _ a _ h1s (by exact (hA1.below hBB).below (Below.refl _ _).drew)).mono ?_; rintro e t1 ⟨cr1, rfl, O9, hB9⟩; obtain ⟨r10x, r10z, hcr1, _⟩ := O9.a; subst hcr1; replace O9 := O9.a; have hcx := fun o => hB9.cell (p := ⟨kx1, o, none⟩) (by exact G1.lt); have hca := fun o => hB9.cell (p := ⟨w.heap.size + 1, o, none⟩) (by exact F1.lt)
  refine hK.out _ _ ?_ (fun hHeld => ?_)
  · go_keep
  clear hK K
  try simp only [Act.put, List.setIfInBounds_toArray, List.set_cons_zero, List.set_cons_succ]
  refine takeC 3 (by kernel_rfl) rfl (fun K hK => ?_)
  go_simp
  refine (eqAsk_same _ _ a _ h1s (by exact X1.below (below_drew1 hB9)) O9).mono ?_; rintro e v1 ⟨rfl, hB10⟩; have hcx2 := fun o => hB10.cell (p := ⟨kx1, o, none⟩) (by exact Nat.lt_of_lt_of_le G1.lt (below_drew1 hB9).size); have hca2 := fun o => hB10.cell (p := ⟨w.heap.size + 1, o, none⟩) (by exact Nat.lt_of_lt_of_le F1.lt (below_drew1 hB9).size)
  refine hK.out _ _ ?_ (fun hHeld => ?_)
  · go_keep
  clear hK K
  try simp only [Act.put, List.setIfInBounds_toArray, List.set_cons_zero, List.set_cons_succ]
  refine takeW 4 (v := ?v16) rfl (by kernel_rfl) (by kernel_rfl) (by kernel_rfl) (fun _ _ _ h => h) (by rfl) (by assumption) ?hy16 ?rest16
  case hy16 => intro w' hSw; (try dsimp only at hSw); go_simp; try with_reducible rfl
  try simp only [Act.put, List.setIfInBounds_toArray, List.set_cons_zero, List.set_cons_succ]
  refine wpAnyH_done (by kernel_rfl) ?_ _
  have hBd : Below v0.heap.size v0 v1 := below_one (below_drew1 hB9) hB10
  clear hcx hca hcx2 hca2 hB9 hB10 hHeld O9 a0 a1 a2 b0 b1 b2
  replace F0 := F0.below hBd
  replace F1 := F1.below hBd
  replace X0 := X0.below hBd
  replace G0 := G0.below hBd
  replace X1 := X1.below hBd
  replace G1 := G1.below hBd
  replace X2 := X2.below hBd
  replace hBB := below_one hBB hBd
  clear hBd
  go_wp2_with fail
  refine (toStringS_any _ ss _ h2s (hA2.below hBB)).mono ?_
  rintro e t2 ⟨vr2, rfl, O9, hB9⟩
  obtain ⟨r2x, r2z, rfl⟩ := ownsRow_len O9
  replace O9 := VS.ownS O9
  replace F0 := F0.below hB9
  replace F1 := F1.below hB9
  replace X0 := X0.below hB9
  replace G0 := G0.below hB9
  replace X1 := X1.below hB9
  replace G1 := G1.below hB9
  replace X2 := X2.below hB9
  replace hBB := below_one hBB hB9
  go_wp2_with fail
  refine (eqStringS_any _ _ ss _ (Nat.le_succ_of_le h2s) X2 O9).mono ?_
  rintro e v2 ⟨rfl, hB10⟩
  replace F0 := F0.below hB10
  replace F1 := F1.below hB10
  replace X0 := X0.below hB10
  replace G0 := G0.below hB10
  replace X1 := X1.below hB10
  replace G1 := G1.below hB10
  replace X2 := X2.below hB10
  replace hBB := below_one hBB hB10
  clear hB9 hB10 O9
  go_wp2_with fail
  go_ret
  exact ⟨rfl, hBB⟩

set_option maxRecDepth 100000 in
theorem contract (H : Type) (enc : TypeId × Value → H) (W : World) (base : Nat) (args : Array Value) (ds gs : List (DataW H)) (before : List MemPlace)
    (hval : ∀ (j : Nat) t v, Tryz.f3.params[j]? = some t → args[j]? = some v → Value.okWide Tryz.prog W .any base t v)
    (hW : DataW.Whole enc Tryz.prog Tryz.f3.params.toList Rows.fnExactDecideAskSpec.vars false W args.toList ds gs before) (hL : laidMet Tryz.prog Rows.fnExactDecideAskRow.laid W) :
    Calls Tryz.prog 3 args W fun e W' => ∃ v, e = .returned v ∧ Rows.fnExactDecideAskSpec.post enc Tryz.prog Tryz.f3 false true false false W args v W' := by
  have hW' := hW
  obtain ⟨p, q, hA0, hV, rfl, _, _⟩ := hW
  have hA : DataW.TrodAll enc Tryz.prog W 0 (fun _ => true) true Tryz.f3.params.toList args.toList ds p := hA0
  rw [Tryz.params3] at hA hval
  obtain ⟨v0, vs0, d0, ds0, p0, q0, hargs, rfl, rfl, h0, r0⟩ := trodAll_cons hA
  obtain ⟨v1, vs1, d1, ds1, p1, q1, rfl, rfl, rfl, h1, r1⟩ := trodAll_cons r0
  obtain ⟨v2, vs2, d2, ds2, p2, q2, rfl, rfl, rfl, h2, r2⟩ := trodAll_cons r1
  obtain ⟨v3, vs3, d3, ds3, p3, q3, rfl, rfl, rfl, h3, r3⟩ := trodAll_cons r2
  obtain ⟨v4, vs4, d4, ds4, p4, q4, rfl, rfl, rfl, h4, r4⟩ := trodAll_cons r3
  obtain ⟨rfl, rfl, rfl⟩ := trodAll_nil r4
  obtain rfl : args = #[v0, v1, v2, v3, v4] := by cases args; simp_all
  obtain ⟨rfl, rfl⟩ := trodVars_none hV
  have k0 := h0
  have lt0 : ∀ x ∈ p0, x.block < W.heap.size := by obtain ⟨m, hm⟩ := k0; exact DataW.trod_lt m _ _ _ hm
  obtain ⟨a0, w0, f0⟩ := openSd (hval 0 28 v0 rfl rfl) h0
  have k1 := h1
  have lt1 : ∀ x ∈ p1, x.block < W.heap.size := by obtain ⟨m, hm⟩ := k1; exact DataW.trod_lt m _ _ _ hm
  obtain ⟨cs1, a1, rfl, w1, f1⟩ := openAk (hval 1 31 v1 rfl rfl) h1
  have k2 := h2
  have lt2 : ∀ x ∈ p2, x.block < W.heap.size := by obtain ⟨m, hm⟩ := k2; exact DataW.trod_lt m _ _ _ hm
  obtain ⟨a2, n2, c2, rfl⟩ := okWide_slice Tryz.underlying32 (hval 2 32 v2 rfl rfl)
  obtain ⟨l2, w2⟩ := openStS h2
  have k3 := h3
  have lt3 : ∀ x ∈ p3, x.block < W.heap.size := by obtain ⟨m, hm⟩ := k3; exact DataW.trod_lt m _ _ _ hm
  obtain ⟨a3, rfl, _, _, w3⟩ := open_int Tryz.underlying3 (hval 3 3 v3 rfl rfl) h3
  have k4 := h4
  have lt4 : ∀ x ∈ p4, x.block < W.heap.size := by obtain ⟨m, hm⟩ := k4; exact DataW.trod_lt m _ _ _ hm
  obtain ⟨a4, rfl, _, _, w4⟩ := open_string Tryz.underlying9 (hval 4 9 v4 rfl rfl) h4
  clear hA0
  refine (walk v0 a0 cs1 a1 a2 n2 c2 l2 a3 a4 W w0 f0 w1 f1 w2 w3 w4 (tab_of hL.tail.tail)).mono fun e W' ⟨he, bel⟩ => ?_
  subst he
  exact ⟨_, rfl, _, _, _, [], _, [], hW', trodAll_mk1 (shut_bool Tryz.underlying4 _), (trodAll_cons_mk (Below.trod laidOut (by kernel_rfl) (of_decide_eq_true (by kernel_rfl)) k0 bel lt0) (trodAll_cons_mk (Below.trod laidOut (by kernel_rfl) (of_decide_eq_true (by kernel_rfl)) k1 bel lt1) (trodAll_cons_mk (Below.trod laidOut (by kernel_rfl) (of_decide_eq_true (by kernel_rfl)) k2 bel lt2) (trodAll_cons_mk (Below.trod laidOut (by kernel_rfl) (of_decide_eq_true (by kernel_rfl)) k3 bel lt3) (trodAll_cons_mk (Below.trod laidOut (by kernel_rfl) (of_decide_eq_true (by kernel_rfl)) k4 bel lt4) trodAll_mk0))))), rfl, bel.frame _, fun h => by cases h⟩

/-- A world for the witness: the settled one, the listed tables laid. -/
theorem laid_met (os : Os) : laidMet Tryz.prog Rows.fnExactDecideAskRow.laid ((World.laidAll Tryz.prog os Rows.fnExactDecideAskRow.laid).forCall (fun _ _ => 0) ⟨#[], #[.agg #[.int .i64 0, .slice none 0 0, .slice none 0 0, .int .i64 0, .slice none 0 0, .slice none 0 0, .slice none 0 0], .agg #[.slice none 0 0, .string ByteArray.empty, .string ByteArray.empty], .slice none 0 0, .int .i64 0, .string ByteArray.empty], []⟩).memory :=
  laidMet_laidAll _ (by kernel_rfl) (by kernel_rfl)
theorem reads (os : Os) {H : Type} (enc : TypeId × Value → H) : ∃ places, DataW.whole enc Tryz.prog ((World.laidAll Tryz.prog os Rows.fnExactDecideAskRow.laid).forCall (fun _ _ => 0) ⟨#[], #[.agg #[.int .i64 0, .slice none 0 0, .slice none 0 0, .int .i64 0, .slice none 0 0, .slice none 0 0, .slice none 0 0], .agg #[.slice none 0 0, .string ByteArray.empty, .string ByteArray.empty], .slice none 0 0, .int .i64 0, .string ByteArray.empty], []⟩).memory Tryz.f3.params.toList Rows.fnExactDecideAskSpec.vars false #[Value.agg #[.int .i64 0, .slice none 0 0, .slice none 0 0, .int .i64 0, .slice none 0 0, .slice none 0 0, .slice none 0 0], .agg #[.slice none 0 0, .string ByteArray.empty, .string ByteArray.empty], .slice none 0 0, .int .i64 0, .string ByteArray.empty].toList 8 = some ([.agg [.agg [.lit (.int .i64 0), .nil, .nil], .lit (.int .i64 0), .nil, .nil, .nil], .agg [.nil, .lit (.string []), .lit (.string [])], .nil, .lit (.int .i64 0), .lit (.string [])], [], places) :=
  ⟨[], by kernel_rfl⟩

set_option maxRecDepth 100000 in
theorem lifted (os : Os) (started : os.Started) (H : Type) (enc : TypeId × Value → H) (F : Stop.Interp) :
    ReturnsInHanded {} Tryz.checked os 3 .any ((OpenSpec.ofChange Rows.fnExactDecideAskSpec).preRow enc Tryz.prog Tryz.f3 Rows.fnExactDecideAskRow.domain false Rows.fnExactDecideAskRow.laid) (((OpenSpec.ofChange Rows.fnExactDecideAskSpec).at F).post enc Tryz.prog Tryz.f3 false true false false) := by
  obtain ⟨places, hx⟩ := reads os enc
  refine returnsInHanded_of_row (C := Tryz.checked) (s := OpenSpec.ofChange Rows.fnExactDecideAskSpec) own started (by kernel_rfl) Tryz.func3
    (witness_row_at (enc := enc) (C := Tryz.checked) false (World.laidAll Tryz.prog os Rows.fnExactDecideAskRow.laid) #[.agg #[.int .i64 0, .slice none 0 0, .slice none 0 0, .int .i64 0, .slice none 0 0, .slice none 0 0, .slice none 0 0], .agg #[.slice none 0 0, .string ByteArray.empty, .string ByteArray.empty], .slice none 0 0, .int .i64 0, .string ByteArray.empty] (World.laidAll_os _ _ _) (by kernel_rfl) (by kernel_rfl) (by kernel_rfl)
      (OpenSpec.preRow_of_cond 8 hx (by kernel_rfl) (fun k hk => by cases hk) (by kernel_rfl) (laid_met os))) ?_
  intro W base args ds gs before hval hW _ _ _ hL hsh _
  have hL' : laidMet Tryz.prog Rows.fnExactDecideAskRow.laid W := by
    rw [← Go.MakeChecks.laidMetH_plain _ _ _ (by kernel_rfl)]
    exact hL
  exact contract H enc W base args ds gs before hval hW hL'

theorem said : Rows.FnExactDecideAskSaid :=
  OpenClaim.holds_of_cond 3 Tryz.f3 rfl rfl rfl rfl rfl rfl rfl ⟨rfl, rfl, rfl, rfl, rfl⟩ rfl rfl rfl rfl rfl (by kernel_rfl) Tryz.func3 (by kernel_rfl)
    (of_decide_eq_true (by kernel_rfl)) (by unfold Func.isWrapper; first | (rw [if_pos (by decide +kernel)]; kernel_rfl) | (rw [if_neg (by decide +kernel)]; exact ⟨rfl, rfl⟩))
    (fun os started H enc _ F => by rw [OpenClaim.pre_eq_preRow]; exact lifted os started H enc F)

theorem plain (f : FuncId) (fn : Func) (hf : Tryz.pinned.checked.prog.funcNamed "loop.example/g00167/laws.FnExactDecideAsk" = some f) (hfn : Tryz.pinned.checked.prog.funcs[f]? = some fn) :
    Rows.fnExactDecideAskCard.stood.looks = Tryz.pinned.checked.prog.looks [] ∧ ∀ (j : Nat) t, fn.params[j]? = some t → Tryz.pinned.checked.prog.wantsStandIn t = false := by
  obtain rfl : f = 3 := Option.some.inj ((show Tryz.prog.funcNamed "loop.example/g00167/laws.FnExactDecideAsk" = some 3 by kernel_rfl).symm.trans hf) |>.symm
  obtain rfl : fn = Tryz.f3 := (Option.some.inj (Tryz.func3.symm.trans hfn)).symm
  refine ⟨by kernel_rfl, fun j t ht => ?_⟩
  rw [Tryz.params3] at ht
  have hm := Array.mem_of_getElem? ht
  have hall : ∀ t, t ∈ #[28, 31, 32, 3, 9] → Tryz.prog.wantsStandIn t = false := by
    have h : (#[28, 31, 32, 3, 9] : Array TypeId).all (fun t => Tryz.prog.wantsStandIn t == false) = true := by kernel_rfl
    intro t ht
    have := (Array.all_eq_true_iff_forall_mem).1 h t ht
    simpa using this
  exact hall t hm

theorem card : Rows.FnExactDecideAskCardSaid :=
  Claim7.holds_tied_plain_at .later [] _ _ _ _ said (fun _ h => by cases h) (by kernel_rfl) (fun _ h => by cases h) fnExactDecideAsk_row_tie rfl ⟨rfl, rfl⟩ (by kernel_rfl) rfl plain (by kernel_rfl)

end Go.Proofs.YtnbojbcljfiamaaGreatDoor.fnExactDecideAsk
namespace Go.Proofs.YtnbojbcljfiamaaGreatDoor
theorem fnExactDecideAsk_holds : Rows.FnExactDecideAskCardSaid := fnExactDecideAsk.card
#print axioms fnExactDecideAsk_holds
end Go.Proofs.YtnbojbcljfiamaaGreatDoor
