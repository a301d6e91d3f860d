/-
  Proved: for every text the law FnExactReadToken returns true (ReadToken answers as the specification's, twice, and its answer owns its memory), and the text reads as it did; the card.
-/
import Derived.Test.YtecgonopefeplafDoorCards
import Derived.Test.YtecgonopefeplafDoorTie
import Derived.Test.YtecgonopefeplafDoorLinkE
import Derived.Test.YtecgonopefeplafDoorMarkK
import Derived.Test.YtecgonopefeplafDoorRdT
import Derived.Test.YtecgonopefeplafDoorRdS
import Derived.WalkKit
import Derived.ProofKit
import Derived.OpenShut
import Derived.ShutString
import Derived.ChangeOld
import Derived.Below
import Derived.Lib.SmallJoins
import Derived.Deep.Slices
import Derived.Deep.DeepHandedRow
import Derived.Shelf.Vars
import Derived.Lay
import Derived.MakeChecks
import Derived.Stop.LaidErr
namespace Go.Proofs.YtecgonopefeplafDoor.fnExactReadToken
open Go.ChangeShapes Go.WideShapes Go.ChangeAt Go.RowKit Go.Joins Go.Deep Go.Proofs.YtecgonopefeplafDoor
open Go.ChangeMaps (open_string shut_string)

theorem own : ownKnob Tryd.prog.godebug = none := by kernel_rfl
theorem laidOut : laidOutB Tryd.prog = true := by kernel_rfl

/-- A length of the library's own, which is named and not listed: some number. -/
theorem maxLen_cell {W : World} (h : W.ShapedOpen Tryd.prog) : ∃ m, W.cell? ⟨0, 0, none⟩ = some (.int .i64 m) :=
  cell_of_shapedOpen_int (zero := #[.int .i64 0]) (t := 3) h (of_decide_eq_true (by kernel_rfl)) (by kernel_rfl) rfl (by kernel_rfl) (by kernel_rfl) Tryd.underlying3

theorem tab_same : (Rows.laid_internal_strconv_uint64pow10 : DataW Unit) = Lib.tabData .u64 Lib.pow10Tab := by kernel_rfl
/-- The table of powers of ten, as the row lists it. -/
theorem tab_of {W : World} {rest : List (String × DataW Unit)} (h : laidMet Tryd.prog (("internal/strconv.uint64pow10", Rows.laid_internal_strconv_uint64pow10) :: rest) W) : Tab W :=
  Lib.tabIs_of_head (g := 1) (t := 131) (e := 113) (n := 20) (by kernel_rfl) (by kernel_rfl) Tryd.underlying131 Tryd.underlying113 (by kernel_rfl) (by kernel_rfl) (tab_same ▸ h)

theorem heldLinkS_one (v : Value) (n base K : Nat) (w : World) (hn : n ≤ 1048577) (hK : K = 1 + 5 * n) (hrow : w.ownsRow base 48 5 v n ((mkKs 1 n).flatMap Lk.cells)) :
    Calls Tryd.prog 14 #[v, .int .i64 1] w fun e w' => e = .returned (.int .i64 (K : Int)) ∧ Below w.heap.size w w' := by
  subst hK
  exact heldLinkS_any v n 1 w hn (Nat.le_refl _) (LkS.own (by rw [mkKs_len]; exact hrow))
theorem markLinkS_one (v : Value) (n base K : Nat) (xs : List Value) (w : World) (hn : n ≤ 1048577) (hK : K = 1 + 5 * n) (hrow : w.ownsRow base 48 5 v n xs) :
    Calls Tryd.prog 13 #[v, .int .i64 1] w fun e w' => e = .returned (.int .i64 (K : Int)) ∧ w'.ownsRow base 48 5 v n ((mkKs 1 n).flatMap Lk.cells) ∧ w.grownBy w' v.ownBlock := by
  subst hK
  exact markLinkS_any v n 1 base xs w hn (Nat.le_refl _) hrow
theorem rdSp_len (s : ByteArray) : (rdSp s).1.length ≤ 6 := by
  cases h : (rdSp s).2 with
  | true => exact (tkB_len (rdSp_sound h).1).2
  | false => rw [rdSp_no h]; exact Nat.zero_le _

theorem star : "*" ++ "errors.errorString" = "*errors.errorString" := by decide
/-- The library's two faults, as the row lists them. -/
theorem errs_of {W : World} {rest : List (String × DataW Unit)} (h : laidMet Tryd.prog (("strconv.ErrRange", Rows.laid_strconv_ErrRange) :: ("strconv.ErrSyntax", Rows.laid_strconv_ErrSyntax) :: rest) W) : Errs W := by
  have hrow : ∀ u, Tryd.prog.typeName? 3 u = some "*errors.errorString" → u = 146 := fun u hu =>
    typeName_ptr_named (nm := "errors.errorString") (by rw [star]; kernel_rfl) (by kernel_rfl) (by decide) u (by rw [star]; exact hu)
  obtain ⟨a0, s0, hv0, -, -, -⟩ := laid_sentinel h (g := 3) (by kernel_rfl) (by kernel_rfl) Tryd.underlying78 hrow Tryd.underlying146 Tryd.underlying148 rfl rfl Tryd.underlying9 (by kernel_rfl) (by kernel_rfl)
  obtain ⟨a1, s1, hv1, -, -, -⟩ := laid_sentinel h.tail (g := 2) (by kernel_rfl) (by kernel_rfl) Tryd.underlying78 hrow Tryd.underlying146 Tryd.underlying148 rfl rfl Tryd.underlying9 (by kernel_rfl) (by kernel_rfl)
  exact ⟨⟨_, _, hv1⟩, _, _, hv0⟩

set_option maxHeartbeats 4000000 in
theorem walk (s : ByteArray) (w : World) (w0 : s.size ≤ maxLen) (ht : Tab w) (m : Int) (hmx : w.cell? ⟨0, 0, none⟩ = some (.int .i64 m)) (hE : Errs w) :
    Calls Tryd.prog 4 #[.string s] w fun e w' => e = .returned (.bool true) ∧ Below w.heap.size w w' := by
  have h0 := ml_lt3 hmx
  unfold maxLen at w0
  by_cases hs0 : 1048576 < s.size
  · have d0 : decide ((1048576 : Int) < (s.size : Int)) = true := by simp; omega
    go_enter Tryd.func4, Tryd.ntmps4
    go_wp2
    go_ret
    exact ⟨rfl, Below.refl _ _⟩
  have hs : s.size ≤ 1048576 := by omega
  have d0 : decide ((1048576 : Int) < (s.size : Int)) = false := by simp; omega
  have HTB := hid ht
  have HEB := hid hE
  have HM := hid hmx
  have hl6 := rdSp_len s
  have hSp := fun W => specReadToken_any s W hs
  have hIm : ∀ W, Below w.heap.size w W → Calls Tryd.prog 12 #[.string s] W fun e w' => ∃ v', e = .returned (.tuple #[v', .bool (rdSp s).2]) ∧ w'.ownsRow W.heap.size 48 5 v' (rdSp s).1.length ((rdSp s).1.flatMap Lk.cells) ∧ Below W.heap.size W w' := fun W hB => by
    have h := implReadToken_any s m W hs ((hB.cell (p := ⟨0, 0, none⟩) h0).trans HM.out) (HEB.out.on hB) (HTB.out.on hB)
    rw [rd_alike] at h
    exact h
  clear ht hE hmx
  generalize (rdSp s).1 = X at *
  generalize (rdSp s).2 = ok at *
  have hlx : X.length ≤ 1048577 := by omega
  obtain ⟨M, hM⟩ : ∃ M : Nat, M = 1 + 5 * X.length := ⟨_, rfl⟩
  have dM : decide ((M : Int) < 0) = false := by simp
  go_enter Tryd.func4, Tryd.ntmps4
  go_wp2_with fail
  refine (hSp _).mono ?_
  rintro e w3 ⟨v3, rfl, hR, hBB3⟩
  have hR3 := hR.lt
  obtain ⟨aR, capR, rfl⟩ := ownsRow_len hR
  go_wp2_with fail
  refine (hIm _ hBB3).mono ?_
  rintro e w5 ⟨v5, rfl, hG, hB5⟩
  have hR5 := ownsRow_below hR hB5
  have hBB5 := below_one hBB3 hB5
  have hG5 := hG.lt
  have hzz3 : w.heap.size ≤ w3.heap.size := hBB3.size
  clear hR hBB3 hB5
  obtain ⟨aG, capG, rfl⟩ := ownsRow_len hG
  go_wp2_with fail
  refine (eqLinkS_any _ _ X X _ hlx hlx (LkS.own hG) (LkS.own hR5)).mono ?_
  rintro e w6 ⟨rfl, hB6⟩
  rw [lsS_refl]
  have hR6 := ownsRow_below hR5 hB6
  have hG6 := ownsRow_below hG hB6
  have hBB6 := below_one hBB5 hB6
  clear hR5 hG hBB5 hB6
  go_wp2_with fail
  refine (markLinkS_one _ X.length _ M _ _ hlx hM hG6).mono ?_
  rintro e w11 ⟨rfl, hG11, hg11⟩
  have hR11 := kept_apart hR6 hg11 (fun k h1 h2 => by have := (hR3 k h1).2; have := (hG5 k h2).1; omega)
  have hBB11 : Below w.heap.size w w11 := hBB6.grown hg11 hBB6.size (fun k hk => Nat.le_trans hzz3 (hG5 k hk).1)
  clear hR6 hG6 hBB6 hg11
  go_wp2_with fail
  refine (heldLinkS_one _ X.length _ M _ hlx hM hG11).mono ?_
  rintro e w12 ⟨rfl, hB12⟩
  have hR12 := ownsRow_below hR11 hB12
  have hG12 := ownsRow_below hG11 hB12
  have hBB12 := below_one hBB11 hB12
  clear hR11 hG11 hBB11 hB12
  go_wp2_with fail
  refine (hIm _ hBB12).mono ?_
  rintro e w14 ⟨v14, rfl, hH, hB14⟩
  have hR14 := ownsRow_below hR12 hB14
  have hG14 := ownsRow_below hG12 hB14
  have hBB14 := below_one hBB12 hB14
  clear hR12 hG12 hBB12 hB14
  obtain ⟨aH, capH, rfl⟩ := ownsRow_len hH
  go_wp2_with fail
  refine (eqLinkS_any _ _ X X _ hlx hlx (LkS.own hH) (LkS.own hR14)).mono ?_
  rintro e w15 ⟨rfl, hB15⟩
  rw [lsS_refl]
  have hG15 := ownsRow_below hG14 hB15
  have hBB15 := below_one hBB14 hB15
  clear hR14 hG14 hBB14 hB15 hH
  go_wp2_with fail
  refine (heldLinkS_one _ X.length _ M _ hlx hM hG15).mono ?_
  rintro e w16 ⟨rfl, hB16⟩
  have hBB16 := below_one hBB15 hB16
  go_wp2_with fail
  go_ret
  exact ⟨rfl, hBB16⟩

set_option maxRecDepth 100000 in
theorem contract (H : Type) (enc : TypeId × Value → H) (W : World) (base : Nat) (args : Array Value) (ds gs : List (DataW H)) (before : List MemPlace)
    (hval : ∀ (j : Nat) t v, Tryd.f4.params[j]? = some t → args[j]? = some v → Value.okWide Tryd.prog W .any base t v)
    (hW : DataW.Whole enc Tryd.prog Tryd.f4.params.toList Rows.fnExactReadTokenSpec.vars false W args.toList ds gs before) (hL : laidMet Tryd.prog Rows.fnExactReadTokenRow.laid W) (hsh : W.ShapedOpen Tryd.prog) :
    Calls Tryd.prog 4 args W fun e W' => ∃ v, e = .returned v ∧ Rows.fnExactReadTokenSpec.post enc Tryd.prog Tryd.f4 false true false false W args v W' := by
  have hW' := hW
  obtain ⟨p, q, hA0, hV, rfl, _, _⟩ := hW
  have hA : DataW.TrodAll enc Tryd.prog W 0 (fun _ => true) true Tryd.f4.params.toList args.toList ds p := hA0
  rw [Tryd.params4] at hA hval
  obtain ⟨v0, vs0, d0, ds0, p0, q0, hargs, rfl, rfl, h0, r0⟩ := trodAll_cons hA
  obtain ⟨rfl, rfl, rfl⟩ := trodAll_nil r0
  obtain rfl : args = #[v0] := by cases args; simp_all
  obtain ⟨rfl, rfl⟩ := trodVars_none hV
  have k0 := h0
  have lt0 : ∀ x ∈ p0, x.block < W.heap.size := by obtain ⟨m, hm⟩ := k0; exact DataW.trod_lt m _ _ _ hm
  obtain ⟨a0, rfl, _, _, w0⟩ := open_string Tryd.underlying9 (hval 0 9 v0 rfl rfl) h0
  obtain ⟨m, hm⟩ := maxLen_cell hsh
  clear hA0
  refine (walk a0 W w0 (tab_of hL.tail.tail) m hm (errs_of hL.tail.tail.tail.tail)).mono fun e W' ⟨he, bel⟩ => ?_
  subst he
  exact ⟨_, rfl, _, _, _, [], _, [], hW', trodAll_mk1 (shut_bool Tryd.underlying4 _), (trodAll_cons_mk (Below.trod laidOut (by kernel_rfl) (of_decide_eq_true (by kernel_rfl)) k0 bel lt0) trodAll_mk0), rfl, bel.frame _, fun h => by cases h⟩

/-- A world for the witness: the settled one, the listed tables laid. -/
theorem laid_met (os : Os) : laidMet Tryd.prog Rows.fnExactReadTokenRow.laid ((World.laidAll Tryd.prog os Rows.fnExactReadTokenRow.laid).forCall (fun _ _ => 0) ⟨#[], #[.string ByteArray.empty], []⟩).memory :=
  laidMet_laidAll _ (by kernel_rfl) (by kernel_rfl)
theorem reads (os : Os) {H : Type} (enc : TypeId × Value → H) : ∃ places, DataW.whole enc Tryd.prog ((World.laidAll Tryd.prog os Rows.fnExactReadTokenRow.laid).forCall (fun _ _ => 0) ⟨#[], #[.string ByteArray.empty], []⟩).memory Tryd.f4.params.toList Rows.fnExactReadTokenSpec.vars false #[Value.string ByteArray.empty].toList 8 = some ([.lit (.string [])], [], places) :=
  ⟨[], by kernel_rfl⟩

set_option maxRecDepth 100000 in
theorem lifted (os : Os) (started : os.Started) (H : Type) (enc : TypeId × Value → H) (F : Stop.Interp) :
    ReturnsInHanded {} Tryd.checked os 4 .any ((OpenSpec.ofChange Rows.fnExactReadTokenSpec).preRow enc Tryd.prog Tryd.f4 Rows.fnExactReadTokenRow.domain false Rows.fnExactReadTokenRow.laid) (((OpenSpec.ofChange Rows.fnExactReadTokenSpec).at F).post enc Tryd.prog Tryd.f4 false true false false) := by
  obtain ⟨places, hx⟩ := reads os enc
  refine returnsInHanded_of_row (C := Tryd.checked) (s := OpenSpec.ofChange Rows.fnExactReadTokenSpec) own started (by kernel_rfl) Tryd.func4
    (witness_row_at (enc := enc) (C := Tryd.checked) false (World.laidAll Tryd.prog os Rows.fnExactReadTokenRow.laid) #[.string ByteArray.empty] (World.laidAll_os _ _ _) (by kernel_rfl) (by kernel_rfl) (by kernel_rfl)
      (OpenSpec.preRow_of_cond 8 hx (by kernel_rfl) (fun k hk => by cases hk) (by kernel_rfl) (laid_met os))) ?_
  intro W base args ds gs before hval hW _ _ _ hL hsh _
  have hL' : laidMet Tryd.prog Rows.fnExactReadTokenRow.laid W := by
    rw [← Go.MakeChecks.laidMetH_plain _ _ _ (by kernel_rfl)]
    exact hL
  exact contract H enc W base args ds gs before hval hW hL' hsh

theorem said : Rows.FnExactReadTokenSaid :=
  OpenClaim.holds_of_cond 4 Tryd.f4 rfl rfl rfl rfl rfl rfl rfl ⟨rfl, rfl, rfl, rfl, rfl⟩ rfl rfl rfl rfl rfl (by kernel_rfl) Tryd.func4 (by kernel_rfl)
    (of_decide_eq_true (by kernel_rfl)) (by unfold Func.isWrapper; first | (rw [if_pos (by decide +kernel)]; kernel_rfl) | (rw [if_neg (by decide +kernel)]; exact ⟨rfl, rfl⟩))
    (fun os started H enc _ F => by rw [OpenClaim.pre_eq_preRow]; exact lifted os started H enc F)

theorem plain (f : FuncId) (fn : Func) (hf : Tryd.pinned.checked.prog.funcNamed "loop.example/g00167/laws.FnExactReadToken" = some f) (hfn : Tryd.pinned.checked.prog.funcs[f]? = some fn) :
    Rows.fnExactReadTokenCard.stood.looks = Tryd.pinned.checked.prog.looks [] ∧ ∀ (j : Nat) t, fn.params[j]? = some t → Tryd.pinned.checked.prog.wantsStandIn t = false := by
  obtain rfl : f = 4 := Option.some.inj ((show Tryd.prog.funcNamed "loop.example/g00167/laws.FnExactReadToken" = some 4 by kernel_rfl).symm.trans hf) |>.symm
  obtain rfl : fn = Tryd.f4 := (Option.some.inj (Tryd.func4.symm.trans hfn)).symm
  refine ⟨by kernel_rfl, fun j t ht => ?_⟩
  rw [Tryd.params4] at ht
  have hm := Array.mem_of_getElem? ht
  have hall : ∀ t, t ∈ #[9] → Tryd.prog.wantsStandIn t = false := by
    have h : (#[9] : Array TypeId).all (fun t => Tryd.prog.wantsStandIn t == false) = true := by kernel_rfl
    intro t ht
    have := (Array.all_eq_true_iff_forall_mem).1 h t ht
    simpa using this
  exact hall t hm

theorem card : Rows.FnExactReadTokenCardSaid :=
  Claim7.holds_tied_plain_at .later [] _ _ _ _ said (fun _ h => by cases h) (by kernel_rfl) (fun _ h => by cases h) fnExactReadToken_row_tie rfl ⟨rfl, rfl⟩ (by kernel_rfl) rfl plain (by kernel_rfl)

end Go.Proofs.YtecgonopefeplafDoor.fnExactReadToken
namespace Go.Proofs.YtecgonopefeplafDoor
theorem fnExactReadToken_holds : Rows.FnExactReadTokenCardSaid := fnExactReadToken.card
#print axioms fnExactReadToken_holds
end Go.Proofs.YtecgonopefeplafDoor
