/-
  Proved: for every list of records and every note the law FnExactAppendNote returns true (AppendNote answers as the specification's; it writes into no argument and its answer owns its memory), where the listed tables of the library read as the program's own text lays them; no other condition.
-/
import Derived.Test.YtepoamekeackkaaDoorCards
import Derived.Test.YtepoamekeackkaaDoorTie
import Derived.Test.YtepoamekeackkaaDoorRecE
import Derived.Test.YtepoamekeackkaaDoorMarkR
import Derived.Test.YtepoamekeackkaaDoorPutR
import Derived.WalkKit
import Derived.ProofKit
import Derived.OpenShut
import Derived.ShutString
import Derived.ChangeOld
import Derived.Below
import Derived.Lib.SmallJoins
import Derived.Deep.Slices
import Derived.Deep.DeepHandedRow
import Derived.Shelf.Vars
import Derived.Lay
import Derived.MakeChecks
import Derived.Stop.LaidErr
namespace Go.Proofs.YtepoamekeackkaaDoor.fnExactAppendNote
open Go.ChangeShapes Go.WideShapes Go.ChangeAt Go.RowKit Go.Joins Go.Deep Go.Proofs.YtepoamekeackkaaDoor
open Go.ChangeMaps (open_string shut_string)

theorem own : ownKnob Tryd.prog.godebug = none := by kernel_rfl
theorem laidOut : laidOutB Tryd.prog = true := by kernel_rfl

theorem tab_same : (Rows.laid_internal_strconv_uint64pow10 : DataW Unit) = Lib.tabData .u64 Lib.pow10Tab := by kernel_rfl
/-- The table of powers of ten, as the row lists it. -/
theorem tab_of {W : World} {rest : List (String × DataW Unit)} (h : laidMet Tryd.prog (("internal/strconv.uint64pow10", Rows.laid_internal_strconv_uint64pow10) :: rest) W) : Tab W :=
  Lib.tabIs_of_head (g := 1) (t := 113) (e := 47) (n := 20) (by kernel_rfl) (by kernel_rfl) Tryd.underlying113 Tryd.underlying47 (by kernel_rfl) (by kernel_rfl) (tab_same ▸ h)

theorem apR_le (l : List Rc) (note : ByteArray) : (apR l note).length ≤ l.length + 1 := by
  unfold apR
  split
  · rw [puR_len]
    omega
  · simp
theorem heldRecordS_one (v : Value) (n base K : Nat) (w : World) (hn : n ≤ 1048577) (hK : K = 1 + 3 * n) (hrow : w.ownsRow base 34 3 v n ((mkRcs 1 n).flatMap Rc.cells)) :
    Calls Tryd.prog 21 #[v, .int .i64 1] w fun e w' => e = .returned (.int .i64 (K : Int)) ∧ Below w.heap.size w w' := by
  subst hK
  exact heldRecordS_to v n 1 w hn (by omega) (RcS.own (by rw [mkRcs_len]; exact hrow))
theorem markRecordS_one (v : Value) (n base K : Nat) (xs : List Value) (w : World) (hn : n ≤ 1048577) (hK : K = 1 + 3 * n) (hrow : w.ownsRow base 34 3 v n xs) :
    Calls Tryd.prog 20 #[v, .int .i64 1] w fun e w' => e = .returned (.int .i64 (K : Int)) ∧ w'.ownsRow base 34 3 v n ((mkRcs 1 n).flatMap Rc.cells) ∧ w.grownBy w' v.ownBlock := by
  subst hK
  exact markRecordS_to v n 1 base xs w hn (by omega) hrow

set_option maxHeartbeats 4000000 in
theorem walk (a : Option Addr) (n c : Nat) (ks : List Rc) (tq : ByteArray) (w : World) (w0 : RcS w (.slice a n c) ks ∧ ks.length = n ∧ n ≤ maxLen ∧ ∀ r ∈ ks, r.fits) (hw1 : tq.size ≤ maxLen) (htab : Tab w) :
    Calls Tryd.prog 5 #[.slice a n c, .string tq] w fun e w' => e = .returned (.bool true) ∧ Below w.heap.size w w' := by
  obtain ⟨hr, rfl, hml, hfit⟩ := w0
  have HTAB := hid htab
  clear htab
  have hu : ∀ r ∈ ks, r.su < 4294967296 := fun r hr => (hfit r hr).2
  unfold maxLen at hw1
  by_cases hT0 : 1048576 < tq.size
  · have dT : decide ((1048576 : Int) < (tq.size : Int)) = true := by simp; omega
    go_enter Tryd.func5, Tryd.ntmps5
    go_wp2
    go_ret
    exact ⟨rfl, Below.refl _ _⟩
  have hto : tq.size ≤ 1048576 := by omega
  have dT : decide ((1048576 : Int) < (tq.size : Int)) = false := by simp; omega
  by_cases hA : (rczAll ks : Int) ≤ 1048576
  · have HV := hid (show leftRc 1048576 ks = 1048576 - rczAll ks from if_pos hA)
    have hsz : (rczAll ks : Int) = ks.length + rczTo ks ks.length := by unfold rczAll; omega
    have hm : ks.length ≤ 1048576 := by omega
    have hm' : ks.length ≤ 1048577 := by omega
    have hfz : ∀ r ∈ ks, r.note.size ≤ 1048576 := fun r hr => by have := rcz_mem hr; omega
    have d1 : decide ((1048576 : Int) - rczAll ks < 0) = false := by simp; omega
    have hlx : (apR ks tq).length ≤ 1048577 := by have := apR_le ks tq; omega
    obtain ⟨K, hK⟩ : ∃ K : Nat, K = 1 + 3 * ks.length := ⟨_, rfl⟩
    obtain ⟨M, hM⟩ : ∃ M : Nat, M = 1 + 3 * (apR ks tq).length := ⟨_, rfl⟩
    have dK : decide ((K : Int) < 0) = false := by simp
    have dM : decide ((M : Int) < 0) = false := by simp
    clear hsz
    go_enter Tryd.func5, Tryd.ntmps5
    go_wp2_with fail
    refine (szRecordS_any _ ks _ _ (by omega) (by omega) hml hfit hr).mono ?_
    rintro e w1 ⟨rfl, hBB1⟩
    rw [HV.out]
    go_wp2_with fail
    refine (toRecordS_any _ ks _ hm (hr.below hBB1)).mono ?_
    rintro e w2 ⟨v2, rfl, hrow2, hB2⟩
    obtain ⟨a2, cap2, rfl⟩ := ownsRow_len hrow2
    have hBB2 := below_one hBB1 hB2
    clear hBB1 hB2
    go_wp2_with fail
    refine (specAppendNote_any _ ks tq _ hm' hto hfz hu (RcR.own hrow2)).mono ?_
    rintro e w3 ⟨v3, rfl, hR, hB3⟩
    have hBB3 := below_one hBB2 hB3
    have hR3 := hR.lt
    clear hBB2 hB3 hrow2
    obtain ⟨aR, capR, rfl⟩ := ownsRow_len hR
    go_wp2_with fail
    refine (toRecordS_any _ ks _ hm (hr.below hBB3)).mono ?_
    rintro e w4 ⟨v4, rfl, hX, hB4⟩
    have hR4 := ownsRow_below hR hB4
    have hBB4 := below_one hBB3 hB4
    have hzz34 := hB4.size
    have hX4 := hX.lt
    clear hR hB4
    obtain ⟨aX, capX, rfl⟩ := ownsRow_len hX
    go_wp2_with fail
    refine (implAppendNote_any _ ks tq _ (HTAB.out.on hBB4) hm' hto hfz hu (RcR.own hX)).mono ?_
    rintro e w5 ⟨v5, rfl, hG, hB5⟩
    have hR5 := ownsRow_below hR4 hB5
    have hX5 := ownsRow_below hX hB5
    have hBB5 := below_one hBB4 hB5
    have hG5 := hG.lt
    have hzz4 : w.heap.size ≤ w4.heap.size := hBB4.size
    have hzz3 : w.heap.size ≤ w3.heap.size := hBB3.size
    clear hR4 hX hBB4 hB5
    obtain ⟨aG, capG, rfl⟩ := ownsRow_len hG
    go_wp2_with fail
    refine (eqRecordS_same _ _ (apR ks tq) _ hlx (RcS.own hG) (RcS.own hR5)).mono ?_
    rintro e w6 ⟨rfl, hB6⟩
    have hR6 := ownsRow_below hR5 hB6
    have hX6 := ownsRow_below hX5 hB6
    have hG6 := ownsRow_below hG hB6
    have hBB6 := below_one hBB5 hB6
    clear hR5 hX5 hG hBB5 hB6
    go_wp2_with fail
    refine (toRecordS_any _ ks _ hm (hr.below hBB6)).mono ?_
    rintro e w7 ⟨v7, rfl, hT, hB7⟩
    have hR7 := ownsRow_below hR6 hB7
    have hX7 := ownsRow_below hX6 hB7
    have hG7 := ownsRow_below hG6 hB7
    have hBB7 := below_one hBB6 hB7
    clear hR6 hX6 hG6 hBB6 hB7
    obtain ⟨aT, capT, rfl⟩ := ownsRow_len hT
    go_wp2_with fail
    refine (eqRecordS_same _ _ ks _ hm' (RcS.own hX7) (RcS.own hT)).mono ?_
    rintro e w8 ⟨rfl, hB8⟩
    have hR8 := ownsRow_below hR7 hB8
    have hX8 := ownsRow_below hX7 hB8
    have hG8 := ownsRow_below hG7 hB8
    have hBB8 := below_one hBB7 hB8
    clear hR7 hX7 hG7 hBB7 hB8 hT
    go_wp2_with fail
    refine (markRecordS_one _ ks.length _ K _ _ hm' hK hX8).mono ?_
    rintro e w9 ⟨rfl, _, hg9⟩
    have hR9 := kept_apart hR8 hg9 (fun k h1 h2 => by have := (hR3 k h1).2; have := (hX4 k h2).1; omega)
    have hG9 := kept_apart hG8 hg9 (fun k h1 h2 => by have := (hG5 k h1).1; have := (hX4 k h2).2; omega)
    have hBB9 : Below w.heap.size w w9 := hBB8.grown hg9 hBB8.size (fun k hk => Nat.le_trans hzz3 (hX4 k hk).1)
    clear hR8 hX8 hG8 hBB8 hg9
    go_wp2_with fail
    refine (eqRecordS_same _ _ (apR ks tq) _ hlx (RcS.own hG9) (RcS.own hR9)).mono ?_
    rintro e w10 ⟨rfl, hB10⟩
    have hR10 := ownsRow_below hR9 hB10
    have hG10 := ownsRow_below hG9 hB10
    have hBB10 := below_one hBB9 hB10
    clear hR9 hG9 hBB9 hB10
    go_wp2_with fail
    refine (markRecordS_one _ (apR ks tq).length _ M _ _ hlx hM hG10).mono ?_
    rintro e w11 ⟨rfl, hG11, hg11⟩
    have hR11 := kept_apart hR10 hg11 (fun k h1 h2 => by have := (hR3 k h1).2; have := (hG5 k h2).1; omega)
    have hBB11 : Below w.heap.size w w11 := hBB10.grown hg11 hBB10.size (fun k hk => Nat.le_trans hzz4 (hG5 k hk).1)
    clear hR10 hG10 hBB10 hg11
    go_wp2_with fail
    refine (heldRecordS_one _ (apR ks tq).length _ M _ hlx hM hG11).mono ?_
    rintro e w12 ⟨rfl, hB12⟩
    have hR12 := ownsRow_below hR11 hB12
    have hG12 := ownsRow_below hG11 hB12
    have hBB12 := below_one hBB11 hB12
    clear hR11 hG11 hBB11 hB12
    go_wp2_with fail
    refine (toRecordS_any _ ks _ hm (hr.below hBB12)).mono ?_
    rintro e w13 ⟨v13, rfl, hT, hB13⟩
    have hR13 := ownsRow_below hR12 hB13
    have hG13 := ownsRow_below hG12 hB13
    have hBB13 := below_one hBB12 hB13
    clear hR12 hG12 hBB12 hB13
    obtain ⟨aT, capT, rfl⟩ := ownsRow_len hT
    go_wp2_with fail
    refine (implAppendNote_any _ ks tq _ (HTAB.out.on hBB13) hm' hto hfz hu (RcR.own hT)).mono ?_
    rintro e w14 ⟨v14, rfl, hH, hB14⟩
    have hR14 := ownsRow_below hR13 hB14
    have hG14 := ownsRow_below hG13 hB14
    have hBB14 := below_one hBB13 hB14
    clear hR13 hG13 hBB13 hB14 hT
    obtain ⟨aH, capH, rfl⟩ := ownsRow_len hH
    go_wp2_with fail
    refine (eqRecordS_same _ _ (apR ks tq) _ hlx (RcS.own hH) (RcS.own hR14)).mono ?_
    rintro e w15 ⟨rfl, hB15⟩
    have hG15 := ownsRow_below hG14 hB15
    have hBB15 := below_one hBB14 hB15
    clear hR14 hG14 hBB14 hB15 hH
    go_wp2_with fail
    refine (heldRecordS_one _ (apR ks tq).length _ M _ hlx hM hG15).mono ?_
    rintro e w16 ⟨rfl, hB16⟩
    have hBB16 := below_one hBB15 hB16
    go_wp2_with fail
    go_ret
    exact ⟨rfl, hBB16⟩
  · have HV := hid (show leftRc 1048576 ks = -1 from if_neg hA)
    go_enter Tryd.func5, Tryd.ntmps5
    go_wp2_with fail
    refine (szRecordS_any _ ks _ _ (by omega) (by omega) hml hfit hr).mono ?_
    rintro e w1 ⟨rfl, hB1⟩
    rw [HV.out]
    go_wp2_with fail
    go_ret
    exact ⟨rfl, hB1⟩

set_option maxRecDepth 100000 in
theorem contract (H : Type) (enc : TypeId × Value → H) (W : World) (base : Nat) (args : Array Value) (ds gs : List (DataW H)) (before : List MemPlace)
    (hval : ∀ (j : Nat) t v, Tryd.f5.params[j]? = some t → args[j]? = some v → Value.okWide Tryd.prog W .any base t v)
    (hW : DataW.Whole enc Tryd.prog Tryd.f5.params.toList Rows.fnExactAppendNoteSpec.vars false W args.toList ds gs before) (hL : laidMet Tryd.prog Rows.fnExactAppendNoteRow.laid W) :
    Calls Tryd.prog 5 args W fun e W' => ∃ v, e = .returned v ∧ Rows.fnExactAppendNoteSpec.post enc Tryd.prog Tryd.f5 false true false false W args v W' := by
  have hW' := hW
  obtain ⟨p, q, hA0, hV, rfl, _, _⟩ := hW
  have hA : DataW.TrodAll enc Tryd.prog W 0 (fun _ => true) true Tryd.f5.params.toList args.toList ds p := hA0
  rw [Tryd.params5] at hA hval
  obtain ⟨v0, vs0, d0, ds0, p0, q0, hargs, rfl, rfl, h0, r0⟩ := trodAll_cons hA
  obtain ⟨v1, vs1, d1, ds1, p1, q1, rfl, rfl, rfl, h1, r1⟩ := trodAll_cons r0
  obtain ⟨rfl, rfl, rfl⟩ := trodAll_nil r1
  obtain rfl : args = #[v0, v1] := by cases args; simp_all
  obtain ⟨rfl, rfl⟩ := trodVars_none hV
  have k0 := h0
  have lt0 : ∀ x ∈ p0, x.block < W.heap.size := by obtain ⟨m, hm⟩ := k0; exact DataW.trod_lt m _ _ _ hm
  obtain ⟨a0, n0, c0, rfl⟩ := okWide_slice Tryd.underlying39 (hval 0 39 v0 rfl rfl)
  obtain ⟨l0, w0⟩ := openRcS h0
  have k1 := h1
  have lt1 : ∀ x ∈ p1, x.block < W.heap.size := by obtain ⟨m, hm⟩ := k1; exact DataW.trod_lt m _ _ _ hm
  obtain ⟨a1, rfl, _, _, w1⟩ := open_string Tryd.underlying9 (hval 1 9 v1 rfl rfl) h1
  clear hA0
  refine (walk a0 n0 c0 l0 a1 W w0 w1 (tab_of hL.tail.tail)).mono fun e W' ⟨he, bel⟩ => ?_
  subst he
  exact ⟨_, rfl, _, _, _, [], _, [], hW', trodAll_mk1 (shut_bool Tryd.underlying4 _), (trodAll_cons_mk (Below.trod laidOut (by kernel_rfl) (of_decide_eq_true (by kernel_rfl)) k0 bel lt0) (trodAll_cons_mk (Below.trod laidOut (by kernel_rfl) (of_decide_eq_true (by kernel_rfl)) k1 bel lt1) trodAll_mk0)), rfl, bel.frame _, fun h => by cases h⟩

/-- A world for the witness: the settled one, the listed tables laid. -/
theorem laid_met (os : Os) : laidMet Tryd.prog Rows.fnExactAppendNoteRow.laid ((World.laidAll Tryd.prog os Rows.fnExactAppendNoteRow.laid).forCall (fun _ _ => 0) ⟨#[], #[.slice none 0 0, .string ByteArray.empty], []⟩).memory :=
  laidMet_laidAll _ (by kernel_rfl) (by kernel_rfl)
theorem reads (os : Os) {H : Type} (enc : TypeId × Value → H) : ∃ places, DataW.whole enc Tryd.prog ((World.laidAll Tryd.prog os Rows.fnExactAppendNoteRow.laid).forCall (fun _ _ => 0) ⟨#[], #[.slice none 0 0, .string ByteArray.empty], []⟩).memory Tryd.f5.params.toList Rows.fnExactAppendNoteSpec.vars false #[Value.slice none 0 0, .string ByteArray.empty].toList 8 = some ([.nil, .lit (.string [])], [], places) :=
  ⟨[], by kernel_rfl⟩

set_option maxRecDepth 100000 in
theorem lifted (os : Os) (started : os.Started) (H : Type) (enc : TypeId × Value → H) (F : Stop.Interp) :
    ReturnsInHanded {} Tryd.checked os 5 .any ((OpenSpec.ofChange Rows.fnExactAppendNoteSpec).preRow enc Tryd.prog Tryd.f5 Rows.fnExactAppendNoteRow.domain false Rows.fnExactAppendNoteRow.laid) (((OpenSpec.ofChange Rows.fnExactAppendNoteSpec).at F).post enc Tryd.prog Tryd.f5 false true false false) := by
  obtain ⟨places, hx⟩ := reads os enc
  refine returnsInHanded_of_row (C := Tryd.checked) (s := OpenSpec.ofChange Rows.fnExactAppendNoteSpec) own started (by kernel_rfl) Tryd.func5
    (witness_row_at (enc := enc) (C := Tryd.checked) false (World.laidAll Tryd.prog os Rows.fnExactAppendNoteRow.laid) #[.slice none 0 0, .string ByteArray.empty] (World.laidAll_os _ _ _) (by kernel_rfl) (by kernel_rfl) (by kernel_rfl)
      (OpenSpec.preRow_of_cond 8 hx (by kernel_rfl) (fun k hk => by cases hk) (by kernel_rfl) (laid_met os))) ?_
  intro W base args ds gs before hval hW _ _ _ hL hsh _
  have hL' : laidMet Tryd.prog Rows.fnExactAppendNoteRow.laid W := by
    rw [← Go.MakeChecks.laidMetH_plain _ _ _ (by kernel_rfl)]
    exact hL
  exact contract H enc W base args ds gs before hval hW hL'

theorem said : Rows.FnExactAppendNoteSaid :=
  OpenClaim.holds_of_cond 5 Tryd.f5 rfl rfl rfl rfl rfl rfl rfl ⟨rfl, rfl, rfl, rfl, rfl⟩ rfl rfl rfl rfl rfl (by kernel_rfl) Tryd.func5 (by kernel_rfl)
    (of_decide_eq_true (by kernel_rfl)) (by unfold Func.isWrapper; first | (rw [if_pos (by decide +kernel)]; kernel_rfl) | (rw [if_neg (by decide +kernel)]; exact ⟨rfl, rfl⟩))
    (fun os started H enc _ F => by rw [OpenClaim.pre_eq_preRow]; exact lifted os started H enc F)

theorem plain (f : FuncId) (fn : Func) (hf : Tryd.pinned.checked.prog.funcNamed "loop.example/g00167/laws.FnExactAppendNote" = some f) (hfn : Tryd.pinned.checked.prog.funcs[f]? = some fn) :
    Rows.fnExactAppendNoteCard.stood.looks = Tryd.pinned.checked.prog.looks [] ∧ ∀ (j : Nat) t, fn.params[j]? = some t → Tryd.pinned.checked.prog.wantsStandIn t = false := by
  obtain rfl : f = 5 := Option.some.inj ((show Tryd.prog.funcNamed "loop.example/g00167/laws.FnExactAppendNote" = some 5 by kernel_rfl).symm.trans hf) |>.symm
  obtain rfl : fn = Tryd.f5 := (Option.some.inj (Tryd.func5.symm.trans hfn)).symm
  refine ⟨by kernel_rfl, fun j t ht => ?_⟩
  rw [Tryd.params5] at ht
  have hm := Array.mem_of_getElem? ht
  have hall : ∀ t, t ∈ #[39, 9] → Tryd.prog.wantsStandIn t = false := by
    have h : (#[39, 9] : Array TypeId).all (fun t => Tryd.prog.wantsStandIn t == false) = true := by kernel_rfl
    intro t ht
    have := (Array.all_eq_true_iff_forall_mem).1 h t ht
    simpa using this
  exact hall t hm

theorem card : Rows.FnExactAppendNoteCardSaid :=
  Claim7.holds_tied_plain_at .later [] _ _ _ _ said (fun _ h => by cases h) (by kernel_rfl) (fun _ h => by cases h) fnExactAppendNote_row_tie rfl ⟨rfl, rfl⟩ (by kernel_rfl) rfl plain (by kernel_rfl)

end Go.Proofs.YtepoamekeackkaaDoor.fnExactAppendNote
namespace Go.Proofs.YtepoamekeackkaaDoor
theorem fnExactAppendNote_holds : Rows.FnExactAppendNoteCardSaid := fnExactAppendNote.card
#print axioms fnExactAppendNote_holds
end Go.Proofs.YtepoamekeackkaaDoor
