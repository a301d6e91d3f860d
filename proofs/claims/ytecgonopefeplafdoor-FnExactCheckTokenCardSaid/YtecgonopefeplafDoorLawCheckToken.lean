/-
  Proved: at every argument the law FnExactCheckToken returns true (CheckToken answers as the specification's and changes nothing), and the arguments read as they did; the card.
-/
import Derived.Test.YtecgonopefeplafDoorCards
import Derived.Test.YtecgonopefeplafDoorTie
import Derived.Test.YtecgonopefeplafDoorLinkE
import Derived.Test.YtecgonopefeplafDoorChkT
import Derived.WalkKit
import Derived.ProofKit
import Derived.OpenShut
import Derived.ShutString
import Derived.ChangeOld
import Derived.Below
import Derived.Lib.SmallJoins
import Derived.Deep.Slices
import Derived.Deep.DeepHandedRow
import Derived.Shelf.Vars
import Derived.Lay
import Derived.MakeChecks
import Derived.Stop.LaidErr
namespace Go.Proofs.YtecgonopefeplafDoor.fnExactCheckToken
open Go.ChangeShapes Go.WideShapes Go.ChangeAt Go.RowKit Go.Joins Go.Deep Go.Proofs.YtecgonopefeplafDoor
open Go.ChangeMaps (open_string shut_string)

theorem own : ownKnob Tryd.prog.godebug = none := by kernel_rfl
theorem laidOut : laidOutB Tryd.prog = true := by kernel_rfl

theorem tab_same : (Rows.laid_internal_strconv_uint64pow10 : DataW Unit) = Lib.tabData .u64 Lib.pow10Tab := by kernel_rfl
/-- The table of powers of ten, as the row lists it. -/
theorem tab_of {W : World} {rest : List (String × DataW Unit)} (h : laidMet Tryd.prog (("internal/strconv.uint64pow10", Rows.laid_internal_strconv_uint64pow10) :: rest) W) : Tab W :=
  Lib.tabIs_of_head (g := 1) (t := 131) (e := 113) (n := 20) (by kernel_rfl) (by kernel_rfl) Tryd.underlying131 Tryd.underlying113 (by kernel_rfl) (by kernel_rfl) (tab_same ▸ h)

set_option maxHeartbeats 4000000 in
theorem walk (a0 : Option Addr) (n0 c0 : Nat) (ks : List Lk) (a1 : Option Addr) (n1 c1 : Nat) (ss : List ByteArray) (nw : Int) (a3 : Option Addr) (n3 c3 : Nat) (zs : List Int) (at_ : ByteArray) (w : World)
    (f0 : LkS w (.slice a0 n0 c0) ks ∧ ks.length = n0 ∧ n0 ≤ maxLen ∧ ∀ r ∈ ks, r.fits) (f1 : VS w (.slice a1 n1 c1) (strs ss) ∧ ss.length = n1 ∧ n1 ≤ maxLen ∧ ∀ s ∈ ss, s.size ≤ maxLen) (_f2 : (Lit.int .i64 nw).wf = true) (f3 : VS w (.slice a3 n3 c3) (nums zs) ∧ zs.length = n3 ∧ n3 ≤ maxLen) (f4 : at_.size ≤ maxLen) (ht : Tab w) :
    Calls Tryd.prog 5 #[.slice a0 n0 c0, .slice a1 n1 c1, .int .i64 nw, .slice a3 n3 c3, .string at_] w fun e w' => e = .returned (.bool true) ∧ Below w.heap.size w w' := by
  obtain ⟨hr, rfl, hml, hfit⟩ := f0
  obtain ⟨hs, rfl, hmls, hfits⟩ := f1
  obtain ⟨hz, rfl, hmlz⟩ := f3
  have HTB := hid ht
  clear ht
  unfold maxLen at hmlz f4
  by_cases c1 : 1048576 < zs.length
  · have dz : decide ((1048576 : Int) < (zs.length : Int)) = true := by simp; omega
    go_enter Tryd.func5, Tryd.ntmps5
    go_wp2
    go_ret
    exact ⟨rfl, Below.refl _ _⟩
  have dz : decide ((1048576 : Int) < (zs.length : Int)) = false := by simp; omega
  by_cases c2 : 1048576 < at_.size
  · have da : decide ((1048576 : Int) < (at_.size : Int)) = true := by simp; omega
    go_enter Tryd.func5, Tryd.ntmps5
    go_wp2
    go_ret
    exact ⟨rfl, Below.refl _ _⟩
  have da : decide ((1048576 : Int) < (at_.size : Int)) = false := by simp; omega
  have hmz : zs.length ≤ 1048576 := by omega
  have hmz' : zs.length ≤ 1048577 := by omega
  have hat : at_.size ≤ 1048576 := by omega
  by_cases hA : (lzAll ks : Int) ≤ 1048576
  · have HV := hid (show leftL 1048576 ks = 1048576 - lzAll ks from if_pos hA)
    have hsz : (lzAll ks : Int) = ks.length + lzTo ks ks.length := by unfold lzAll; omega
    have hm : ks.length ≤ 1048576 := by omega
    have hm' : ks.length ≤ 1048577 := by omega
    have hfz : ∀ r ∈ ks, r.size ≤ 1048576 := fun r hr => by have := lz_mem hr; omega
    have d1 : decide ((1048576 : Int) - lzAll ks < 0) = false := by simp; omega
    have hx0 : (0 : Int) ≤ 1048576 - lzAll ks := by omega
    have hx1 : (1048576 : Int) - lzAll ks ≤ 1048576 := by omega
    clear hsz
    by_cases hA2 : (tzAll ss : Int) ≤ 1048576 - lzAll ks
    · have HV2 := hid (show leftT (1048576 - lzAll ks) ss = 1048576 - lzAll ks - tzAll ss from if_pos hA2)
      have hms : ss.length ≤ 1048576 := by unfold tzAll at hA2; omega
      have hms' : ss.length ≤ 1048577 := by omega
      have d2 : decide ((1048576 : Int) - lzAll ks - tzAll ss < 0) = false := by simp; omega
      go_enter Tryd.func5, Tryd.ntmps5
      go_wp2_with fail
      refine (szLinkS_any _ ks _ _ (by omega) (by omega) hml hfit hr).mono ?_
      rintro e w1 ⟨rfl, hB1⟩
      rw [HV.out]
      go_wp2_with fail
      refine (szStringS_any _ ss _ _ hx0 hx1 hmls hfits (hs.below hB1)).mono ?_
      rintro e w2 ⟨rfl, hB2⟩
      rw [HV2.out]
      have hC2 := below_one hB1 hB2
      clear hB1 hB2
      go_wp2_with fail
      refine (toLinkS_any _ ks _ hm (hr.below hC2)).mono ?_
      rintro e w3 ⟨v3, rfl, hK3, hB3⟩
      obtain ⟨ak, ck, rfl⟩ := ownsRow_len hK3
      have hC3 := below_one hC2 hB3
      clear hC2 hB3
      go_wp2_with fail
      refine (toStringS_any _ ss _ hms (hs.below hC3)).mono ?_
      rintro e w4 ⟨v4, rfl, hS4, hB4⟩
      obtain ⟨asx, csx, rfl⟩ := ownsRow_len hS4
      have hC4 := below_one hC3 hB4
      have hK4 := ownsRow_below hK3 hB4
      clear hC3 hB4 hK3
      go_wp2_with fail
      refine (toIntS_any _ zs _ hmz (hz.below hC4)).mono ?_
      rintro e w5 ⟨v5, rfl, hI5, hB5⟩
      obtain ⟨ai, ci, rfl⟩ := ownsRow_len hI5
      have hC5 := below_one hC4 hB5
      have hK5 := ownsRow_below hK4 hB5
      have hS5 := ownsRow_below hS4 hB5
      clear hC4 hB5 hK4 hS4
      go_wp2_with fail
      refine (specCheckToken_any _ _ _ ks ss nw zs at_ _ hm' hms' hmz' hat hfz (LkS.own hK5) (VS.ownS hS5) (VS.ownN hI5)).mono ?_
      rintro e w6 ⟨rfl, hB6⟩
      have hC6 := below_one hC5 hB6
      clear hC5 hB6 hK5 hS5 hI5
      go_wp2_with fail
      refine (toLinkS_any _ ks _ hm (hr.below hC6)).mono ?_
      rintro e w7 ⟨v7, rfl, hK7, hB7⟩
      obtain ⟨ak, ck, rfl⟩ := ownsRow_len hK7
      have hC7 := below_one hC6 hB7
      clear hC6 hB7
      go_wp2_with fail
      refine (toStringS_any _ ss _ hms (hs.below hC7)).mono ?_
      rintro e w8 ⟨v8, rfl, hS8, hB8⟩
      obtain ⟨asx, csx, rfl⟩ := ownsRow_len hS8
      have hC8 := below_one hC7 hB8
      have hK8 := ownsRow_below hK7 hB8
      clear hC7 hB8 hK7
      go_wp2_with fail
      refine (toIntS_any _ zs _ hmz (hz.below hC8)).mono ?_
      rintro e w9 ⟨v9, rfl, hI9, hB9⟩
      obtain ⟨ai, ci, rfl⟩ := ownsRow_len hI9
      have hC9 := below_one hC8 hB9
      have hK9 := ownsRow_below hK8 hB9
      have hS9 := ownsRow_below hS8 hB9
      clear hC8 hB9 hK8 hS8
      go_wp2_with fail
      refine (implCheckToken_any _ _ _ ks ss nw zs at_ _ hm' hms' hmz' hat hfz (LkS.own hK9) (VS.ownS hS9) (VS.ownN hI9) (HTB.out.on hC9)).mono ?_
      rintro e w10 ⟨rfl, hB10⟩
      have hC10 := below_one hC9 hB10
      have hK10 := ownsRow_below hK9 hB10
      have hS10 := ownsRow_below hS9 hB10
      have hI10 := ownsRow_below hI9 hB10
      clear hC9 hB10 hK9 hS9 hI9
      go_wp2_with fail
      refine (toLinkS_any _ ks _ hm (hr.below hC10)).mono ?_
      rintro e w11 ⟨v11, rfl, hT, hB11⟩
      obtain ⟨at11, ct11, rfl⟩ := ownsRow_len hT
      have hC11 := below_one hC10 hB11
      have hK11 := ownsRow_below hK10 hB11
      have hS11 := ownsRow_below hS10 hB11
      have hI11 := ownsRow_below hI10 hB11
      clear hC10 hB11 hK10 hS10 hI10
      go_wp2_with fail
      refine (eqLinkS_any _ _ ks ks _ hm' hm' (LkS.own hK11) (LkS.own hT)).mono ?_
      rintro e w12 ⟨rfl, hB12⟩
      rw [lsS_refl]
      have hC12 := below_one hC11 hB12
      have hS12 := ownsRow_below hS11 hB12
      have hI12 := ownsRow_below hI11 hB12
      clear hC11 hB12 hK11 hS11 hI11 hT
      go_wp2_with fail
      refine (toStringS_any _ ss _ hms (hs.below hC12)).mono ?_
      rintro e w13 ⟨v13, rfl, hT, hB13⟩
      obtain ⟨at13, ct13, rfl⟩ := ownsRow_len hT
      have hC13 := below_one hC12 hB13
      have hS13 := ownsRow_below hS12 hB13
      have hI13 := ownsRow_below hI12 hB13
      clear hC12 hB13 hS12 hI12
      go_wp2_with fail
      refine (eqStringS_any _ _ ss _ hms' (VS.ownS hS13) (VS.ownS hT)).mono ?_
      rintro e w14 ⟨rfl, hB14⟩
      have hC14 := below_one hC13 hB14
      have hI14 := ownsRow_below hI13 hB14
      clear hC13 hB14 hS13 hI13 hT
      go_wp2_with fail
      refine (toIntS_any _ zs _ hmz (hz.below hC14)).mono ?_
      rintro e w15 ⟨v15, rfl, hT, hB15⟩
      obtain ⟨at15, ct15, rfl⟩ := ownsRow_len hT
      have hC15 := below_one hC14 hB15
      have hI15 := ownsRow_below hI14 hB15
      clear hC14 hB15 hI14
      go_wp2_with fail
      refine (eqIntS_same _ _ zs _ hmz' (VS.ownN hI15) (VS.ownN hT)).mono ?_
      rintro e w16 ⟨rfl, hB16⟩
      have hC16 := below_one hC15 hB16
      go_wp2_with fail
      go_ret
      exact ⟨rfl, hC16⟩
    · have HV2 := hid (show leftT (1048576 - lzAll ks) ss = -1 from if_neg hA2)
      go_enter Tryd.func5, Tryd.ntmps5
      go_wp2_with fail
      refine (szLinkS_any _ ks _ _ (by omega) (by omega) hml hfit hr).mono ?_
      rintro e w1 ⟨rfl, hB1⟩
      rw [HV.out]
      go_wp2_with fail
      refine (szStringS_any _ ss _ _ hx0 hx1 hmls hfits (hs.below hB1)).mono ?_
      rintro e w2 ⟨rfl, hB2⟩
      rw [HV2.out]
      go_wp2_with fail
      go_ret
      exact ⟨rfl, below_one hB1 hB2⟩
  · have HV := hid (show leftL 1048576 ks = -1 from if_neg hA)
    go_enter Tryd.func5, Tryd.ntmps5
    go_wp2_with fail
    refine (szLinkS_any _ ks _ _ (by omega) (by omega) hml hfit hr).mono ?_
    rintro e w1 ⟨rfl, hB1⟩
    rw [HV.out]
    go_wp2_with fail
    go_ret
    exact ⟨rfl, hB1⟩

set_option maxRecDepth 100000 in
theorem contract (H : Type) (enc : TypeId × Value → H) (W : World) (base : Nat) (args : Array Value) (ds gs : List (DataW H)) (before : List MemPlace)
    (hval : ∀ (j : Nat) t v, Tryd.f5.params[j]? = some t → args[j]? = some v → Value.okWide Tryd.prog W .any base t v)
    (hW : DataW.Whole enc Tryd.prog Tryd.f5.params.toList Rows.fnExactCheckTokenSpec.vars false W args.toList ds gs before) (hL : laidMet Tryd.prog Rows.fnExactCheckTokenRow.laid W) :
    Calls Tryd.prog 5 args W fun e W' => ∃ v, e = .returned v ∧ Rows.fnExactCheckTokenSpec.post enc Tryd.prog Tryd.f5 false true false false W args v W' := by
  have hW' := hW
  obtain ⟨p, q, hA0, hV, rfl, _, _⟩ := hW
  have hA : DataW.TrodAll enc Tryd.prog W 0 (fun _ => true) true Tryd.f5.params.toList args.toList ds p := hA0
  rw [Tryd.params5] at hA hval
  obtain ⟨v0, vs0, d0, ds0, p0, q0, hargs, rfl, rfl, h0, r0⟩ := trodAll_cons hA
  obtain ⟨v1, vs1, d1, ds1, p1, q1, rfl, rfl, rfl, h1, r1⟩ := trodAll_cons r0
  obtain ⟨v2, vs2, d2, ds2, p2, q2, rfl, rfl, rfl, h2, r2⟩ := trodAll_cons r1
  obtain ⟨v3, vs3, d3, ds3, p3, q3, rfl, rfl, rfl, h3, r3⟩ := trodAll_cons r2
  obtain ⟨v4, vs4, d4, ds4, p4, q4, rfl, rfl, rfl, h4, r4⟩ := trodAll_cons r3
  obtain ⟨rfl, rfl, rfl⟩ := trodAll_nil r4
  obtain rfl : args = #[v0, v1, v2, v3, v4] := by cases args; simp_all
  obtain ⟨rfl, rfl⟩ := trodVars_none hV
  have k0 := h0
  have lt0 : ∀ x ∈ p0, x.block < W.heap.size := by obtain ⟨m, hm⟩ := k0; exact DataW.trod_lt m _ _ _ hm
  obtain ⟨a0, n0, c0, rfl⟩ := okWide_slice Tryd.underlying22 (hval 0 22 v0 rfl rfl)
  obtain ⟨l0, w0⟩ := openLkS h0
  have k1 := h1
  have lt1 : ∀ x ∈ p1, x.block < W.heap.size := by obtain ⟨m, hm⟩ := k1; exact DataW.trod_lt m _ _ _ hm
  obtain ⟨a1, n1, c1, rfl⟩ := okWide_slice Tryd.underlying34 (hval 1 34 v1 rfl rfl)
  obtain ⟨l1, w1⟩ := openStS h1
  have k2 := h2
  have lt2 : ∀ x ∈ p2, x.block < W.heap.size := by obtain ⟨m, hm⟩ := k2; exact DataW.trod_lt m _ _ _ hm
  obtain ⟨a2, rfl, _, _, w2⟩ := open_int Tryd.underlying3 (hval 2 3 v2 rfl rfl) h2
  have k3 := h3
  have lt3 : ∀ x ∈ p3, x.block < W.heap.size := by obtain ⟨m, hm⟩ := k3; exact DataW.trod_lt m _ _ _ hm
  obtain ⟨a3, n3, c3, rfl⟩ := okWide_slice Tryd.underlying35 (hval 3 35 v3 rfl rfl)
  obtain ⟨l3, w3⟩ := openInS h3
  have k4 := h4
  have lt4 : ∀ x ∈ p4, x.block < W.heap.size := by obtain ⟨m, hm⟩ := k4; exact DataW.trod_lt m _ _ _ hm
  obtain ⟨a4, rfl, _, _, w4⟩ := open_string Tryd.underlying9 (hval 4 9 v4 rfl rfl) h4
  clear hA0
  refine (walk a0 n0 c0 l0 a1 n1 c1 l1 a2 a3 n3 c3 l3 a4 W w0 w1 w2 w3 w4 (tab_of hL.tail.tail)).mono fun e W' ⟨he, bel⟩ => ?_
  subst he
  exact ⟨_, rfl, _, _, _, [], _, [], hW', trodAll_mk1 (shut_bool Tryd.underlying4 _), (trodAll_cons_mk (Below.trod laidOut (by kernel_rfl) (of_decide_eq_true (by kernel_rfl)) k0 bel lt0) (trodAll_cons_mk (Below.trod laidOut (by kernel_rfl) (of_decide_eq_true (by kernel_rfl)) k1 bel lt1) (trodAll_cons_mk (Below.trod laidOut (by kernel_rfl) (of_decide_eq_true (by kernel_rfl)) k2 bel lt2) (trodAll_cons_mk (Below.trod laidOut (by kernel_rfl) (of_decide_eq_true (by kernel_rfl)) k3 bel lt3) (trodAll_cons_mk (Below.trod laidOut (by kernel_rfl) (of_decide_eq_true (by kernel_rfl)) k4 bel lt4) trodAll_mk0))))), rfl, bel.frame _, fun h => by cases h⟩

/-- A world for the witness: the settled one, the listed tables laid. -/
theorem laid_met (os : Os) : laidMet Tryd.prog Rows.fnExactCheckTokenRow.laid ((World.laidAll Tryd.prog os Rows.fnExactCheckTokenRow.laid).forCall (fun _ _ => 0) ⟨#[], #[.slice none 0 0, .slice none 0 0, .int .i64 0, .slice none 0 0, .string ByteArray.empty], []⟩).memory :=
  laidMet_laidAll _ (by kernel_rfl) (by kernel_rfl)
theorem reads (os : Os) {H : Type} (enc : TypeId × Value → H) : ∃ places, DataW.whole enc Tryd.prog ((World.laidAll Tryd.prog os Rows.fnExactCheckTokenRow.laid).forCall (fun _ _ => 0) ⟨#[], #[.slice none 0 0, .slice none 0 0, .int .i64 0, .slice none 0 0, .string ByteArray.empty], []⟩).memory Tryd.f5.params.toList Rows.fnExactCheckTokenSpec.vars false #[Value.slice none 0 0, .slice none 0 0, .int .i64 0, .slice none 0 0, .string ByteArray.empty].toList 8 = some ([.nil, .nil, .lit (.int .i64 0), .nil, .lit (.string [])], [], places) :=
  ⟨[], by kernel_rfl⟩

set_option maxRecDepth 100000 in
theorem lifted (os : Os) (started : os.Started) (H : Type) (enc : TypeId × Value → H) (F : Stop.Interp) :
    ReturnsInHanded {} Tryd.checked os 5 .any ((OpenSpec.ofChange Rows.fnExactCheckTokenSpec).preRow enc Tryd.prog Tryd.f5 Rows.fnExactCheckTokenRow.domain false Rows.fnExactCheckTokenRow.laid) (((OpenSpec.ofChange Rows.fnExactCheckTokenSpec).at F).post enc Tryd.prog Tryd.f5 false true false false) := by
  obtain ⟨places, hx⟩ := reads os enc
  refine returnsInHanded_of_row (C := Tryd.checked) (s := OpenSpec.ofChange Rows.fnExactCheckTokenSpec) own started (by kernel_rfl) Tryd.func5
    (witness_row_at (enc := enc) (C := Tryd.checked) false (World.laidAll Tryd.prog os Rows.fnExactCheckTokenRow.laid) #[.slice none 0 0, .slice none 0 0, .int .i64 0, .slice none 0 0, .string ByteArray.empty] (World.laidAll_os _ _ _) (by kernel_rfl) (by kernel_rfl) (by kernel_rfl)
      (OpenSpec.preRow_of_cond 8 hx (by kernel_rfl) (fun k hk => by cases hk) (by kernel_rfl) (laid_met os))) ?_
  intro W base args ds gs before hval hW _ _ _ hL hsh _
  have hL' : laidMet Tryd.prog Rows.fnExactCheckTokenRow.laid W := by
    rw [← Go.MakeChecks.laidMetH_plain _ _ _ (by kernel_rfl)]
    exact hL
  exact contract H enc W base args ds gs before hval hW hL'

theorem said : Rows.FnExactCheckTokenSaid :=
  OpenClaim.holds_of_cond 5 Tryd.f5 rfl rfl rfl rfl rfl rfl rfl ⟨rfl, rfl, rfl, rfl, rfl⟩ rfl rfl rfl rfl rfl (by kernel_rfl) Tryd.func5 (by kernel_rfl)
    (of_decide_eq_true (by kernel_rfl)) (by unfold Func.isWrapper; first | (rw [if_pos (by decide +kernel)]; kernel_rfl) | (rw [if_neg (by decide +kernel)]; exact ⟨rfl, rfl⟩))
    (fun os started H enc _ F => by rw [OpenClaim.pre_eq_preRow]; exact lifted os started H enc F)

theorem plain (f : FuncId) (fn : Func) (hf : Tryd.pinned.checked.prog.funcNamed "loop.example/g00167/laws.FnExactCheckToken" = some f) (hfn : Tryd.pinned.checked.prog.funcs[f]? = some fn) :
    Rows.fnExactCheckTokenCard.stood.looks = Tryd.pinned.checked.prog.looks [] ∧ ∀ (j : Nat) t, fn.params[j]? = some t → Tryd.pinned.checked.prog.wantsStandIn t = false := by
  obtain rfl : f = 5 := Option.some.inj ((show Tryd.prog.funcNamed "loop.example/g00167/laws.FnExactCheckToken" = some 5 by kernel_rfl).symm.trans hf) |>.symm
  obtain rfl : fn = Tryd.f5 := (Option.some.inj (Tryd.func5.symm.trans hfn)).symm
  refine ⟨by kernel_rfl, fun j t ht => ?_⟩
  rw [Tryd.params5] at ht
  have hm := Array.mem_of_getElem? ht
  have hall : ∀ t, t ∈ #[22, 34, 3, 35, 9] → Tryd.prog.wantsStandIn t = false := by
    have h : (#[22, 34, 3, 35, 9] : Array TypeId).all (fun t => Tryd.prog.wantsStandIn t == false) = true := by kernel_rfl
    intro t ht
    have := (Array.all_eq_true_iff_forall_mem).1 h t ht
    simpa using this
  exact hall t hm

theorem card : Rows.FnExactCheckTokenCardSaid :=
  Claim7.holds_tied_plain_at .later [] _ _ _ _ said (fun _ h => by cases h) (by kernel_rfl) (fun _ h => by cases h) fnExactCheckToken_row_tie rfl ⟨rfl, rfl⟩ (by kernel_rfl) rfl plain (by kernel_rfl)

end Go.Proofs.YtecgonopefeplafDoor.fnExactCheckToken
namespace Go.Proofs.YtecgonopefeplafDoor
theorem fnExactCheckToken_holds : Rows.FnExactCheckTokenCardSaid := fnExactCheckToken.card
#print axioms fnExactCheckToken_holds
end Go.Proofs.YtecgonopefeplafDoor
