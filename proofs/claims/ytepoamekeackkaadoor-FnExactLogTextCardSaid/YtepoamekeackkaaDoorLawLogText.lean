/-
  Proved: for every list of records the law FnExactLogText returns true (LogText answers as the specification's; it writes into no argument), where the listed tables of the library read as the program's own text lays them; no other condition.
-/
import Derived.Test.YtepoamekeackkaaDoorCards
import Derived.Test.YtepoamekeackkaaDoorTie
import Derived.Test.YtepoamekeackkaaDoorRecE
import Derived.Test.YtepoamekeackkaaDoorLogU
import Derived.WalkKit
import Derived.ProofKit
import Derived.OpenShut
import Derived.ShutString
import Derived.ChangeOld
import Derived.Below
import Derived.Lib.SmallJoins
import Derived.Deep.Slices
import Derived.Deep.DeepHandedRow
import Derived.Shelf.Vars
import Derived.Lay
import Derived.MakeChecks
import Derived.Stop.LaidErr
namespace Go.Proofs.YtepoamekeackkaaDoor.fnExactLogText
open Go.ChangeShapes Go.WideShapes Go.ChangeAt Go.RowKit Go.Joins Go.Deep Go.Proofs.YtepoamekeackkaaDoor
open Go.ChangeMaps (open_string shut_string)

theorem own : ownKnob Tryd.prog.godebug = none := by kernel_rfl
theorem laidOut : laidOutB Tryd.prog = true := by kernel_rfl

theorem tab_same : (Rows.laid_internal_strconv_uint64pow10 : DataW Unit) = Lib.tabData .u64 Lib.pow10Tab := by kernel_rfl
/-- The table of powers of ten, as the row lists it. -/
theorem tab_of {W : World} {rest : List (String × DataW Unit)} (h : laidMet Tryd.prog (("internal/strconv.uint64pow10", Rows.laid_internal_strconv_uint64pow10) :: rest) W) : Tab W :=
  Lib.tabIs_of_head (g := 1) (t := 113) (e := 47) (n := 20) (by kernel_rfl) (by kernel_rfl) Tryd.underlying113 Tryd.underlying47 (by kernel_rfl) (by kernel_rfl) (tab_same ▸ h)

def debTab : List Int := [0, 1, 56, 2, 57, 49, 28, 3, 61, 58, 42, 50, 38, 29, 17, 4, 62, 47, 59, 36, 45, 43, 51, 22, 53, 39, 33, 30, 24, 18, 12, 5, 63, 55, 48, 27, 60, 41, 37, 16, 46, 35, 44, 21, 52, 32, 23, 11, 54, 26, 40, 15, 34, 20, 31, 10, 25, 14, 19, 9, 13, 8, 7, 6]
theorem tab2_same : (Rows.laid_math_bits_deBruijn64tab : DataW Unit) = Lib.tabData .u8 debTab := by kernel_rfl
/-- The table of places of bits, as the row lists it. -/
theorem tab2_of {W : World} {rest : List (String × DataW Unit)} (h : laidMet Tryd.prog (("math/bits.deBruijn64tab", Rows.laid_math_bits_deBruijn64tab) :: rest) W) : Tab2 W :=
  have h2 : Lib.TabIs Tryd.prog W "math/bits.deBruijn64tab" .u8 debTab := Lib.tabIs_of_head (g := 3) (t := 123) (e := 5) (n := 64) (by kernel_rfl) (by kernel_rfl) Tryd.underlying123 Tryd.underlying5 (by kernel_rfl) (by kernel_rfl) (tab2_same ▸ h)
  h2.cell (g := 3) (by kernel_rfl) 15 (by decide)

set_option maxHeartbeats 2000000 in
theorem walk (a : Option Addr) (n c : Nat) (l : List Rc) (w : World) (w0 : RcS w (.slice a n c) l ∧ l.length = n ∧ n ≤ maxLen ∧ ∀ r ∈ l, r.fits) (ht : Tab w ∧ Tab2 w) :
    Calls Tryd.prog 7 #[.slice a n c] w fun e w' => e = .returned (.bool true) ∧ Below w.heap.size w w' := by
  obtain ⟨hr, rfl, hml, hfit⟩ := w0
  have HTB := hid ht
  clear ht
  have hu : ∀ r ∈ l, r.su < 4294967296 := fun r hr => (hfit r hr).2
  by_cases hA : (rczAll l : Int) ≤ 1048576
  · have HV := hid (show leftRc 1048576 l = 1048576 - rczAll l from if_pos hA)
    have hsz : (rczAll l : Int) = l.length + rczTo l l.length := by unfold rczAll; omega
    have hm : l.length ≤ 1048576 := by omega
    have hm' : l.length ≤ 1048577 := by omega
    have hfz : ∀ r ∈ l, r.note.size ≤ 1048576 := fun r hr => by have := rcz_mem hr; omega
    have d1 : decide ((1048576 : Int) - rczAll l < 0) = false := by simp; omega
    clear hsz
    go_enter Tryd.func7, Tryd.ntmps7
    go_wp2_with fail
    refine (szRecordS_any _ l _ _ (by omega) (by omega) hml hfit hr).mono ?_
    rintro e w1 ⟨rfl, hB1⟩
    rw [HV.out]
    have hr1 := hr.below hB1
    clear hr
    go_wp2_with fail
    refine (toRecordS_any _ l _ hm hr1).mono ?_
    rintro e w2 ⟨v2, rfl, hrow2, hB2⟩
    obtain ⟨a2, cap2, rfl⟩ := ownsRow_len hrow2
    have hr2 := hr1.below hB2
    have hBB2 := below_one hB1 hB2
    clear hr1 hB1 hB2
    go_wp2_with fail
    refine (specLogText_any _ l _ hm' hfz hu (RcS.own hrow2)).mono ?_
    rintro e w3 ⟨rfl, hB3⟩
    have hr3 := hr2.below hB3
    have hBB3 := below_one hBB2 hB3
    clear hr2 hBB2 hB3 hrow2
    go_wp2_with fail
    refine (toRecordS_any _ l _ hm hr3).mono ?_
    rintro e w4 ⟨v4, rfl, hrow4, hB4⟩
    obtain ⟨a4, cap4, rfl⟩ := ownsRow_len hrow4
    have hr4 := hr3.below hB4
    have hBB4 := below_one hBB3 hB4
    clear hr3 hBB3 hB4
    go_wp2_with fail
    refine (implLogText_any _ l _ ⟨HTB.out.1.on hBB4, HTB.out.2.on hBB4⟩ hm' hfz hu (RcS.own hrow4)).mono ?_
    rintro e w5 ⟨rfl, hB5⟩
    have hr5 := hr4.below hB5
    have hrow5 := ownsRow_below hrow4 hB5
    have hBB5 := below_one hBB4 hB5
    clear hr4 hBB4 hB5 hrow4
    have e1 : ((lxT l).toList == (lxT l).toList) = true := by simp
    have e2 : (glB l != glB l) = false := by simp
    generalize lxT l = X at *
    generalize glB l = G at *
    go_wp2_with fail
    refine (toRecordS_any _ l _ hm hr5).mono ?_
    rintro e w6 ⟨v6, rfl, hrow6, hB6⟩
    obtain ⟨a6, cap6, rfl⟩ := ownsRow_len hrow6
    have hr6 := hr5.below hB6
    have hrow56 := ownsRow_below hrow5 hB6
    have hBB6 := below_one hBB5 hB6
    clear hr5 hrow5 hBB5 hB6
    go_wp2_with fail
    refine (eqRecordS_same _ _ l _ hm' (RcS.own hrow56) (RcS.own hrow6)).mono ?_
    rintro e w7 ⟨rfl, hB7⟩
    have hBB7 := below_one hBB6 hB7
    go_wp2_with fail
    go_ret
    exact ⟨rfl, hBB7⟩
  · have HV := hid (show leftRc 1048576 l = -1 from if_neg hA)
    go_enter Tryd.func7, Tryd.ntmps7
    go_wp2_with fail
    refine (szRecordS_any _ l _ _ (by omega) (by omega) hml hfit hr).mono ?_
    rintro e w1 ⟨rfl, hB1⟩
    rw [HV.out]
    go_wp2_with fail
    go_ret
    exact ⟨rfl, hB1⟩

set_option maxRecDepth 100000 in
theorem contract (H : Type) (enc : TypeId × Value → H) (W : World) (base : Nat) (args : Array Value) (ds gs : List (DataW H)) (before : List MemPlace)
    (hval : ∀ (j : Nat) t v, Tryd.f7.params[j]? = some t → args[j]? = some v → Value.okWide Tryd.prog W .any base t v)
    (hW : DataW.Whole enc Tryd.prog Tryd.f7.params.toList Rows.fnExactLogTextSpec.vars false W args.toList ds gs before) (hL : laidMet Tryd.prog Rows.fnExactLogTextRow.laid W) :
    Calls Tryd.prog 7 args W fun e W' => ∃ v, e = .returned v ∧ Rows.fnExactLogTextSpec.post enc Tryd.prog Tryd.f7 false true false false W args v W' := by
  have hW' := hW
  obtain ⟨p, q, hA0, hV, rfl, _, _⟩ := hW
  have hA : DataW.TrodAll enc Tryd.prog W 0 (fun _ => true) true Tryd.f7.params.toList args.toList ds p := hA0
  rw [Tryd.params7] at hA hval
  obtain ⟨v0, vs0, d0, ds0, p0, q0, hargs, rfl, rfl, h0, r0⟩ := trodAll_cons hA
  obtain ⟨rfl, rfl, rfl⟩ := trodAll_nil r0
  obtain rfl : args = #[v0] := by cases args; simp_all
  obtain ⟨rfl, rfl⟩ := trodVars_none hV
  have k0 := h0
  have lt0 : ∀ x ∈ p0, x.block < W.heap.size := by obtain ⟨m, hm⟩ := k0; exact DataW.trod_lt m _ _ _ hm
  obtain ⟨a0, n0, c0, rfl⟩ := okWide_slice Tryd.underlying39 (hval 0 39 v0 rfl rfl)
  obtain ⟨l0, w0⟩ := openRcS h0
  clear hA0
  refine (walk a0 n0 c0 l0 W w0 ⟨tab_of hL.tail.tail, tab2_of hL.tail⟩).mono fun e W' ⟨he, bel⟩ => ?_
  subst he
  exact ⟨_, rfl, _, _, _, [], _, [], hW', trodAll_mk1 (shut_bool Tryd.underlying4 _), (trodAll_cons_mk (Below.trod laidOut (by kernel_rfl) (of_decide_eq_true (by kernel_rfl)) k0 bel lt0) trodAll_mk0), rfl, bel.frame _, fun h => by cases h⟩

/-- A world for the witness: the settled one, the listed tables laid. -/
theorem laid_met (os : Os) : laidMet Tryd.prog Rows.fnExactLogTextRow.laid ((World.laidAll Tryd.prog os Rows.fnExactLogTextRow.laid).forCall (fun _ _ => 0) ⟨#[], #[.slice none 0 0], []⟩).memory :=
  laidMet_laidAll _ (by kernel_rfl) (by kernel_rfl)
theorem reads (os : Os) {H : Type} (enc : TypeId × Value → H) : ∃ places, DataW.whole enc Tryd.prog ((World.laidAll Tryd.prog os Rows.fnExactLogTextRow.laid).forCall (fun _ _ => 0) ⟨#[], #[.slice none 0 0], []⟩).memory Tryd.f7.params.toList Rows.fnExactLogTextSpec.vars false #[Value.slice none 0 0].toList 8 = some ([.nil], [], places) :=
  ⟨[], by kernel_rfl⟩

set_option maxRecDepth 100000 in
theorem lifted (os : Os) (started : os.Started) (H : Type) (enc : TypeId × Value → H) (F : Stop.Interp) :
    ReturnsInHanded {} Tryd.checked os 7 .any ((OpenSpec.ofChange Rows.fnExactLogTextSpec).preRow enc Tryd.prog Tryd.f7 Rows.fnExactLogTextRow.domain false Rows.fnExactLogTextRow.laid) (((OpenSpec.ofChange Rows.fnExactLogTextSpec).at F).post enc Tryd.prog Tryd.f7 false true false false) := by
  obtain ⟨places, hx⟩ := reads os enc
  refine returnsInHanded_of_row (C := Tryd.checked) (s := OpenSpec.ofChange Rows.fnExactLogTextSpec) own started (by kernel_rfl) Tryd.func7
    (witness_row_at (enc := enc) (C := Tryd.checked) false (World.laidAll Tryd.prog os Rows.fnExactLogTextRow.laid) #[.slice none 0 0] (World.laidAll_os _ _ _) (by kernel_rfl) (by kernel_rfl) (by kernel_rfl)
      (OpenSpec.preRow_of_cond 8 hx (by kernel_rfl) (fun k hk => by cases hk) (by kernel_rfl) (laid_met os))) ?_
  intro W base args ds gs before hval hW _ _ _ hL hsh _
  have hL' : laidMet Tryd.prog Rows.fnExactLogTextRow.laid W := by
    rw [← Go.MakeChecks.laidMetH_plain _ _ _ (by kernel_rfl)]
    exact hL
  exact contract H enc W base args ds gs before hval hW hL'

theorem said : Rows.FnExactLogTextSaid :=
  OpenClaim.holds_of_cond 7 Tryd.f7 rfl rfl rfl rfl rfl rfl rfl ⟨rfl, rfl, rfl, rfl, rfl⟩ rfl rfl rfl rfl rfl (by kernel_rfl) Tryd.func7 (by kernel_rfl)
    (of_decide_eq_true (by kernel_rfl)) (by unfold Func.isWrapper; first | (rw [if_pos (by decide +kernel)]; kernel_rfl) | (rw [if_neg (by decide +kernel)]; exact ⟨rfl, rfl⟩))
    (fun os started H enc _ F => by rw [OpenClaim.pre_eq_preRow]; exact lifted os started H enc F)

theorem plain (f : FuncId) (fn : Func) (hf : Tryd.pinned.checked.prog.funcNamed "loop.example/g00167/laws.FnExactLogText" = some f) (hfn : Tryd.pinned.checked.prog.funcs[f]? = some fn) :
    Rows.fnExactLogTextCard.stood.looks = Tryd.pinned.checked.prog.looks [] ∧ ∀ (j : Nat) t, fn.params[j]? = some t → Tryd.pinned.checked.prog.wantsStandIn t = false := by
  obtain rfl : f = 7 := Option.some.inj ((show Tryd.prog.funcNamed "loop.example/g00167/laws.FnExactLogText" = some 7 by kernel_rfl).symm.trans hf) |>.symm
  obtain rfl : fn = Tryd.f7 := (Option.some.inj (Tryd.func7.symm.trans hfn)).symm
  refine ⟨by kernel_rfl, fun j t ht => ?_⟩
  rw [Tryd.params7] at ht
  have hm := Array.mem_of_getElem? ht
  have hall : ∀ t, t ∈ #[39] → Tryd.prog.wantsStandIn t = false := by
    have h : (#[39] : Array TypeId).all (fun t => Tryd.prog.wantsStandIn t == false) = true := by kernel_rfl
    intro t ht
    have := (Array.all_eq_true_iff_forall_mem).1 h t ht
    simpa using this
  exact hall t hm

theorem card : Rows.FnExactLogTextCardSaid :=
  Claim7.holds_tied_plain_at .later [] _ _ _ _ said (fun _ h => by cases h) (by kernel_rfl) (fun _ h => by cases h) fnExactLogText_row_tie rfl ⟨rfl, rfl⟩ (by kernel_rfl) rfl plain (by kernel_rfl)

end Go.Proofs.YtepoamekeackkaaDoor.fnExactLogText
namespace Go.Proofs.YtepoamekeackkaaDoor
theorem fnExactLogText_holds : Rows.FnExactLogTextCardSaid := fnExactLogText.card
#print axioms fnExactLogText_holds
end Go.Proofs.YtepoamekeackkaaDoor
