/-
  Proved: for every text the law FnExactReadLog returns true (ReadLog answers as the specification's; its answer owns its memory), where the listed tables of the library read as the program's own text lays them; no other condition.
-/
import Derived.Test.YtepoamekeackkabDoorCards
import Derived.Test.YtepoamekeackkabDoorTie
import Derived.Test.YtepoamekeackkabDoorRecE
import Derived.Test.YtepoamekeackkabDoorMarkR
import Derived.Test.YtepoamekeackkabDoorRdlJ
import Derived.Test.YtepoamekeackkabDoorRdlS
import Derived.WalkKit
import Derived.ProofKit
import Derived.OpenShut
import Derived.ShutString
import Derived.ChangeOld
import Derived.Below
import Derived.Lib.SmallJoins
import Derived.Deep.Slices
import Derived.Deep.DeepHandedRow
import Derived.Shelf.Vars
import Derived.Lay
import Derived.MakeChecks
import Derived.Stop.LaidErr
namespace Go.Proofs.YtepoamekeackkabDoor.fnExactReadLog
open Go.ChangeShapes Go.WideShapes Go.ChangeAt Go.RowKit Go.Joins Go.Deep Go.Proofs.YtepoamekeackkabDoor
open Go.ChangeMaps (open_string shut_string)

theorem own : ownKnob Tryd.prog.godebug = none := by kernel_rfl
theorem laidOut : laidOutB Tryd.prog = true := by kernel_rfl

/-- A length of the library's own, which is named and not listed: some number. -/
theorem maxLen_cell {W : World} (h : W.ShapedOpen Tryd.prog) : ∃ m, W.cell? ⟨0, 0, none⟩ = some (.int .i64 m) :=
  cell_of_shapedOpen_int (zero := #[.int .i64 0]) (t := 3) h (of_decide_eq_true (by kernel_rfl)) (by kernel_rfl) rfl (by kernel_rfl) (by kernel_rfl) Tryd.underlying3

theorem tab_same : (Rows.laid_internal_strconv_uint64pow10 : DataW Unit) = Lib.tabData .u64 Lib.pow10Tab := by kernel_rfl
/-- The table of powers of ten, as the row lists it. -/
theorem tab_of {W : World} {rest : List (String × DataW Unit)} (h : laidMet Tryd.prog (("internal/strconv.uint64pow10", Rows.laid_internal_strconv_uint64pow10) :: rest) W) : Tab W :=
  Lib.tabIs_of_head (g := 1) (t := 94) (e := 49) (n := 20) (by kernel_rfl) (by kernel_rfl) Tryd.underlying94 Tryd.underlying49 (by kernel_rfl) (by kernel_rfl) (tab_same ▸ h)

def debTab : List Int := [0, 1, 56, 2, 57, 49, 28, 3, 61, 58, 42, 50, 38, 29, 17, 4, 62, 47, 59, 36, 45, 43, 51, 22, 53, 39, 33, 30, 24, 18, 12, 5, 63, 55, 48, 27, 60, 41, 37, 16, 46, 35, 44, 21, 52, 32, 23, 11, 54, 26, 40, 15, 34, 20, 31, 10, 25, 14, 19, 9, 13, 8, 7, 6]
theorem tab2_same : (Rows.laid_math_bits_deBruijn64tab : DataW Unit) = Lib.tabData .u8 debTab := by kernel_rfl
/-- The table of places of bits, as the row lists it. -/
theorem tab2_of {W : World} {rest : List (String × DataW Unit)} (h : laidMet Tryd.prog (("math/bits.deBruijn64tab", Rows.laid_math_bits_deBruijn64tab) :: rest) W) : Tab2 W :=
  have h2 : Lib.TabIs Tryd.prog W "math/bits.deBruijn64tab" .u8 debTab := Lib.tabIs_of_head (g := 5) (t := 107) (e := 5) (n := 64) (by kernel_rfl) (by kernel_rfl) Tryd.underlying107 Tryd.underlying5 (by kernel_rfl) (by kernel_rfl) (tab2_same ▸ h)
  h2.cell (g := 5) (by kernel_rfl) 15 (by decide)

theorem heldRecordS_one (v : Value) (n base K : Nat) (w : World) (hn : n ≤ 1048577) (hK : K = 1 + 3 * n) (hrow : w.ownsRow base 39 3 v n ((mkRcs 1 n).flatMap Rc.cells)) :
    Calls Tryd.prog 8 #[v, .int .i64 1] w fun e w' => e = .returned (.int .i64 (K : Int)) ∧ Below w.heap.size w w' := by
  subst hK
  exact heldRecordS_to v n 1 w hn (by omega) (RcS.own (by rw [mkRcs_len]; exact hrow))
theorem markRecordS_one (v : Value) (n base K : Nat) (xs : List Value) (w : World) (hn : n ≤ 1048577) (hK : K = 1 + 3 * n) (hrow : w.ownsRow base 39 3 v n xs) :
    Calls Tryd.prog 7 #[v, .int .i64 1] w fun e w' => e = .returned (.int .i64 (K : Int)) ∧ w'.ownsRow base 39 3 v n ((mkRcs 1 n).flatMap Rc.cells) ∧ w.grownBy w' v.ownBlock := by
  subst hK
  exact markRecordS_to v n 1 base xs w hn (by omega) hrow
theorem rdX_len (s : ByteArray) : ((rdX s).getD []).length ≤ 60 := by
  cases h : rdX s with
  | none => simp
  | some l => exact (gl_log (rdX_sound h).1).1

set_option maxHeartbeats 4000000 in
theorem walk (s : ByteArray) (w : World) (w0 : s.size ≤ maxLen) (ht : Tab w ∧ Tab2 w) (m : Int) (hm : w.cell? ⟨0, 0, none⟩ = some (.int .i64 m)) :
    Calls Tryd.prog 3 #[.string s] w fun e w' => e = .returned (.bool true) ∧ Below w.heap.size w w' := by
  unfold maxLen at w0
  by_cases hs : s.size ≤ 1048576
  · have hlt0 : 0 < w.heap.size := by
      by_cases hb : 0 < w.heap.size
      · exact hb
      · simp only [World.cell?] at hm
        rw [Array.getElem?_eq_none (by omega)] at hm
        cases hm
    have HI := hid (fun W (hW : Below w.heap.size w W) => implReadLog_any s m W ⟨ht.1.on hW, ht.2.on hW⟩ ((hW.cell (p := ⟨0, 0, none⟩) hlt0).trans hm) hs)
    have HSP := hid (fun W => specReadLog_any s W hs)
    rw [← rdl_alike] at HSP
    have hlx := rdX_len s
    clear ht hm hlt0 w0
    generalize (rdX s).getD [] = X at *
    generalize (rdX s).isSome = ok at *
    have hlx' : X.length ≤ 1048577 := by omega
    obtain ⟨M, hM⟩ : ∃ M : Nat, M = 1 + 3 * X.length := ⟨_, rfl⟩
    have dM : decide ((M : Int) < 0) = false := by simp
    have e2 : (ok != ok) = false := by simp
    have e3 : ((M : Int) != (M : Int)) = false := by simp
    go_enter Tryd.func3, Tryd.ntmps3
    go_wp2_with fail
    refine (HSP.out _).mono ?_
    rintro e w1 ⟨v1, rfl, hR, hBB1⟩
    have hR1 := hR.lt
    obtain ⟨aR, capR, rfl⟩ := ownsRow_len hR
    go_wp2_with fail
    refine (HI.out _ hBB1).mono ?_
    rintro e w2 ⟨v2, rfl, hG, hB2⟩
    have hR2 := ownsRow_below hR hB2
    have hBB2 := below_one hBB1 hB2
    have hG2 := hG.lt
    have hz1 := hBB1.size
    clear hR hB2 hBB1
    obtain ⟨aG, capG, rfl⟩ := ownsRow_len hG
    go_wp2_with fail
    refine (eqRecordS_same _ _ X _ hlx' (RcS.own hG) (RcS.own hR2)).mono ?_
    rintro e w3 ⟨rfl, hB3⟩
    have hR3 := ownsRow_below hR2 hB3
    have hG3 := ownsRow_below hG hB3
    have hBB3 := below_one hBB2 hB3
    clear hR2 hG hBB2 hB3
    go_wp2_with fail
    refine (markRecordS_one _ X.length _ M _ _ hlx' hM hG3).mono ?_
    rintro e w4 ⟨rfl, hG4, hg4⟩
    have hR4 := kept_apart hR3 hg4 (fun k h1 h2 => by have := (hR1 k h1).2; have := (hG2 k h2).1; omega)
    have hBB4 : Below w.heap.size w w4 := hBB3.grown hg4 hBB3.size (fun k hk => Nat.le_trans hz1 (hG2 k hk).1)
    clear hR3 hG3 hBB3 hg4
    go_wp2_with fail
    refine (heldRecordS_one _ X.length _ M _ hlx' hM hG4).mono ?_
    rintro e w5 ⟨rfl, hB5⟩
    have hR5 := ownsRow_below hR4 hB5
    have hG5 := ownsRow_below hG4 hB5
    have hBB5 := below_one hBB4 hB5
    clear hR4 hG4 hBB4 hB5
    go_wp2_with fail
    refine (HI.out _ hBB5).mono ?_
    rintro e w6 ⟨v6, rfl, hH, hB6⟩
    have hR6 := ownsRow_below hR5 hB6
    have hG6 := ownsRow_below hG5 hB6
    have hBB6 := below_one hBB5 hB6
    clear hR5 hG5 hBB5 hB6
    obtain ⟨aH, capH, rfl⟩ := ownsRow_len hH
    go_wp2_with fail
    refine (eqRecordS_same _ _ X _ hlx' (RcS.own hH) (RcS.own hR6)).mono ?_
    rintro e w7 ⟨rfl, hB7⟩
    have hG7 := ownsRow_below hG6 hB7
    have hBB7 := below_one hBB6 hB7
    clear hR6 hG6 hBB6 hB7 hH
    go_wp2_with fail
    refine (heldRecordS_one _ X.length _ M _ hlx' hM hG7).mono ?_
    rintro e w8 ⟨rfl, hB8⟩
    have hBB8 := below_one hBB7 hB8
    go_wp2_with fail
    go_ret
    exact ⟨rfl, hBB8⟩
  · have hs' : 1048576 < s.size := by omega
    clear hs
    go_enter Tryd.func3, Tryd.ntmps3
    go_wp2
    go_ret
    exact ⟨rfl, Below.refl _ _⟩

set_option maxRecDepth 100000 in
theorem contract (H : Type) (enc : TypeId × Value → H) (W : World) (base : Nat) (args : Array Value) (ds gs : List (DataW H)) (before : List MemPlace)
    (hval : ∀ (j : Nat) t v, Tryd.f3.params[j]? = some t → args[j]? = some v → Value.okWide Tryd.prog W .any base t v)
    (hW : DataW.Whole enc Tryd.prog Tryd.f3.params.toList Rows.fnExactReadLogSpec.vars false W args.toList ds gs before) (hL : laidMet Tryd.prog Rows.fnExactReadLogRow.laid W) (hsh : W.ShapedOpen Tryd.prog) :
    Calls Tryd.prog 3 args W fun e W' => ∃ v, e = .returned v ∧ Rows.fnExactReadLogSpec.post enc Tryd.prog Tryd.f3 false true false false W args v W' := by
  have hW' := hW
  obtain ⟨p, q, hA0, hV, rfl, _, _⟩ := hW
  have hA : DataW.TrodAll enc Tryd.prog W 0 (fun _ => true) true Tryd.f3.params.toList args.toList ds p := hA0
  rw [Tryd.params3] at hA hval
  obtain ⟨v0, vs0, d0, ds0, p0, q0, hargs, rfl, rfl, h0, r0⟩ := trodAll_cons hA
  obtain ⟨rfl, rfl, rfl⟩ := trodAll_nil r0
  obtain rfl : args = #[v0] := by cases args; simp_all
  obtain ⟨rfl, rfl⟩ := trodVars_none hV
  have k0 := h0
  have lt0 : ∀ x ∈ p0, x.block < W.heap.size := by obtain ⟨m, hm⟩ := k0; exact DataW.trod_lt m _ _ _ hm
  obtain ⟨a0, rfl, _, _, w0⟩ := open_string Tryd.underlying9 (hval 0 9 v0 rfl rfl) h0
  obtain ⟨m, hm⟩ := maxLen_cell hsh
  clear hA0
  refine (walk a0 W w0 ⟨tab_of hL.tail.tail, tab2_of hL.tail⟩ m hm).mono fun e W' ⟨he, bel⟩ => ?_
  subst he
  exact ⟨_, rfl, _, _, _, [], _, [], hW', trodAll_mk1 (shut_bool Tryd.underlying4 _), (trodAll_cons_mk (Below.trod laidOut (by kernel_rfl) (of_decide_eq_true (by kernel_rfl)) k0 bel lt0) trodAll_mk0), rfl, bel.frame _, fun h => by cases h⟩

/-- A world for the witness: the settled one, the listed tables laid. -/
theorem laid_met (os : Os) : laidMet Tryd.prog Rows.fnExactReadLogRow.laid ((World.laidAll Tryd.prog os Rows.fnExactReadLogRow.laid).forCall (fun _ _ => 0) ⟨#[], #[.string ByteArray.empty], []⟩).memory :=
  laidMet_laidAll _ (by kernel_rfl) (by kernel_rfl)
theorem reads (os : Os) {H : Type} (enc : TypeId × Value → H) : ∃ places, DataW.whole enc Tryd.prog ((World.laidAll Tryd.prog os Rows.fnExactReadLogRow.laid).forCall (fun _ _ => 0) ⟨#[], #[.string ByteArray.empty], []⟩).memory Tryd.f3.params.toList Rows.fnExactReadLogSpec.vars false #[Value.string ByteArray.empty].toList 8 = some ([.lit (.string [])], [], places) :=
  ⟨[], by kernel_rfl⟩

set_option maxRecDepth 100000 in
theorem lifted (os : Os) (started : os.Started) (H : Type) (enc : TypeId × Value → H) (F : Stop.Interp) :
    ReturnsInHanded {} Tryd.checked os 3 .any ((OpenSpec.ofChange Rows.fnExactReadLogSpec).preRow enc Tryd.prog Tryd.f3 Rows.fnExactReadLogRow.domain false Rows.fnExactReadLogRow.laid) (((OpenSpec.ofChange Rows.fnExactReadLogSpec).at F).post enc Tryd.prog Tryd.f3 false true false false) := by
  obtain ⟨places, hx⟩ := reads os enc
  refine returnsInHanded_of_row (C := Tryd.checked) (s := OpenSpec.ofChange Rows.fnExactReadLogSpec) own started (by kernel_rfl) Tryd.func3
    (witness_row_at (enc := enc) (C := Tryd.checked) false (World.laidAll Tryd.prog os Rows.fnExactReadLogRow.laid) #[.string ByteArray.empty] (World.laidAll_os _ _ _) (by kernel_rfl) (by kernel_rfl) (by kernel_rfl)
      (OpenSpec.preRow_of_cond 8 hx (by kernel_rfl) (fun k hk => by cases hk) (by kernel_rfl) (laid_met os))) ?_
  intro W base args ds gs before hval hW _ _ _ hL hsh _
  have hL' : laidMet Tryd.prog Rows.fnExactReadLogRow.laid W := by
    rw [← Go.MakeChecks.laidMetH_plain _ _ _ (by kernel_rfl)]
    exact hL
  exact contract H enc W base args ds gs before hval hW hL' hsh

theorem said : Rows.FnExactReadLogSaid :=
  OpenClaim.holds_of_cond 3 Tryd.f3 rfl rfl rfl rfl rfl rfl rfl ⟨rfl, rfl, rfl, rfl, rfl⟩ rfl rfl rfl rfl rfl (by kernel_rfl) Tryd.func3 (by kernel_rfl)
    (of_decide_eq_true (by kernel_rfl)) (by unfold Func.isWrapper; first | (rw [if_pos (by decide +kernel)]; kernel_rfl) | (rw [if_neg (by decide +kernel)]; exact ⟨rfl, rfl⟩))
    (fun os started H enc _ F => by rw [OpenClaim.pre_eq_preRow]; exact lifted os started H enc F)

theorem plain (f : FuncId) (fn : Func) (hf : Tryd.pinned.checked.prog.funcNamed "loop.example/g00167/laws.FnExactReadLog" = some f) (hfn : Tryd.pinned.checked.prog.funcs[f]? = some fn) :
    Rows.fnExactReadLogCard.stood.looks = Tryd.pinned.checked.prog.looks [] ∧ ∀ (j : Nat) t, fn.params[j]? = some t → Tryd.pinned.checked.prog.wantsStandIn t = false := by
  obtain rfl : f = 3 := Option.some.inj ((show Tryd.prog.funcNamed "loop.example/g00167/laws.FnExactReadLog" = some 3 by kernel_rfl).symm.trans hf) |>.symm
  obtain rfl : fn = Tryd.f3 := (Option.some.inj (Tryd.func3.symm.trans hfn)).symm
  refine ⟨by kernel_rfl, fun j t ht => ?_⟩
  rw [Tryd.params3] at ht
  have hm := Array.mem_of_getElem? ht
  have hall : ∀ t, t ∈ #[9] → Tryd.prog.wantsStandIn t = false := by
    have h : (#[9] : Array TypeId).all (fun t => Tryd.prog.wantsStandIn t == false) = true := by kernel_rfl
    intro t ht
    have := (Array.all_eq_true_iff_forall_mem).1 h t ht
    simpa using this
  exact hall t hm

theorem card : Rows.FnExactReadLogCardSaid :=
  Claim7.holds_tied_plain_at .later [] _ _ _ _ said (fun _ h => by cases h) (by kernel_rfl) (fun _ h => by cases h) fnExactReadLog_row_tie rfl ⟨rfl, rfl⟩ (by kernel_rfl) rfl plain (by kernel_rfl)

end Go.Proofs.YtepoamekeackkabDoor.fnExactReadLog
namespace Go.Proofs.YtepoamekeackkabDoor
theorem fnExactReadLog_holds : Rows.FnExactReadLogCardSaid := fnExactReadLog.card
#print axioms fnExactReadLog_holds
end Go.Proofs.YtepoamekeackkabDoor
