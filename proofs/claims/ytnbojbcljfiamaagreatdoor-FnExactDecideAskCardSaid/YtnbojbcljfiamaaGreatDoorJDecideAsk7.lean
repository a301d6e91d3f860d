/-
  Proved: at every argument DecideAsk answers as the specification and changes nothing, where the listed tables of the library read as the program's own text lays them.
-/
import Derived.Test.YtnbojbcljfiamaaGreatDoorCards
import Derived.Test.YtnbojbcljfiamaaGreatDoorTie
import Derived.Test.YtnbojbcljfiamaaGreatDoorJDecideAsk6
import Derived.Test.YtnbojbcljfiamaaGreatDoorJDecideAsk3
import Derived.WalkKit
import Derived.ProofKit
import Derived.OpenShut
import Derived.ShutString
import Derived.ChangeOld
import Derived.Below
import Derived.Lib.SmallJoins
import Derived.Deep.Slices
import Derived.Deep.DeepHandedRow
import Derived.Shelf.Vars
import Derived.Lay
import Derived.MakeChecks
import Derived.Stop.LaidErr
namespace Go.Proofs.YtnbojbcljfiamaaGreatDoor.fnExactDecideAsk
open Go.ChangeShapes Go.WideShapes Go.ChangeAt Go.RowKit Go.Joins Go.Deep Go.Proofs.YtnbojbcljfiamaaGreatDoor
open Go.ChangeMaps (open_string shut_string)

theorem own : ownKnob Tryz.prog.godebug = none := by kernel_rfl
theorem laidOut : laidOutB Tryz.prog = true := by kernel_rfl

theorem tab_same : (Rows.laid_internal_strconv_uint64pow10 : DataW Unit) = Lib.tabData .u64 Lib.pow10Tab := by kernel_rfl
/-- The table of powers of ten, as the row lists it. -/
theorem tab_of {W : World} {rest : List (String × DataW Unit)} (h : laidMet Tryz.prog (("internal/strconv.uint64pow10", Rows.laid_internal_strconv_uint64pow10) :: rest) W) : Tab W :=
  Lib.tabIs_of_head (g := 1) (t := 265) (e := 252) (n := 20) (by kernel_rfl) (by kernel_rfl) Tryz.underlying265 Tryz.underlying252 (by kernel_rfl) (by kernel_rfl) (tab_same ▸ h)

set_option maxHeartbeats 32000000 in
set_option maxRecDepth 100000 in
theorem walk (v : Value) (s : Sd) (cs : List Value) (a : Ak) (sa : Option Addr) (sn sc : Nat) (ss : List ByteArray) (nw : Int) (q : ByteArray) (w : World) (hA0 : SdA w v s) (f0 : s.fits) (hA1 : AkC w cs a) (f1 : a.fits) (hA2 : VS w (.slice sa sn sc) (strs ss) ∧ ss.length = sn ∧ sn ≤ maxLen ∧ ∀ r ∈ ss, r.size ≤ maxLen) (_w3 : (Lit.int .i64 nw).wf = true) (_w4 : q.size ≤ maxLen) (ht : Tab w) :
    Calls Tryz.prog 3 #[v, .agg cs.toArray, .slice sa sn sc, .int .i64 nw, .string q] w fun e w' => e = .returned (.bool true) ∧ Below w.heap.size w w' := by
  have HTB := hid ht
  clear ht
  obtain ⟨p0a, p0b, p0c, p0d, p0e, p0f, p0g, p0h, p0i, p0j, rfl⟩ := sd_forms hA0
  obtain ⟨p10x, p10z, hc1, _⟩ := id hA1
  subst hc1
  obtain ⟨hA2, rfl, m2, f2⟩ := hA2
  have hBB : Below w.heap.size w ((w.alloc (.cells #[.int .i64 s.fo.num, .slice p0a s.fo.pol.length p0b, .slice p0c s.fo.rv.length p0d, .int .i64 s.co, .slice p0e s.ru.length p0f, .slice p0g s.ha.length p0h, .slice p0i s.se.length p0j] 28)).alloc (.cells #[.slice p10x a.tk.length p10z, .string a.me, .string a.pa] 31)) := (((Below.refl _ w).alloc (Nat.le_refl _) _).alloc (by simp) _)
  have F0 := (Seven.new w (.int .i64 s.fo.num) (.slice p0a s.fo.pol.length p0b) (.slice p0c s.fo.rv.length p0d) (.int .i64 s.co) (.slice p0e s.ru.length p0f) (.slice p0g s.ha.length p0h) (.slice p0i s.se.length p0j) 28).below ((Below.refl _ _).alloc (Nat.le_refl _) (.cells #[.slice p10x a.tk.length p10z, .string a.me, .string a.pa] 31))
  have F1 := Three.at (w.alloc (.cells #[.int .i64 s.fo.num, .slice p0a s.fo.pol.length p0b, .slice p0c s.fo.rv.length p0d, .int .i64 s.co, .slice p0e s.ru.length p0f, .slice p0g s.ha.length p0h, .slice p0i s.se.length p0j] 28)) (.slice p10x a.tk.length p10z) (.string a.me) (.string a.pa) 31 (k := w.heap.size + 1) (by simp)
  by_cases q4 : q.size ≤ 1048576
  case neg =>
    have dq : decide ((1048576 : Int) < (q.size : Int)) = true := by simp; omega
    go_enter Tryz.func3, Tryz.ntmps3
    go_wp2_with fail
    go_ret
    exact ⟨rfl, hBB⟩
  have dq4 : decide ((1048576 : Int) < (q.size : Int)) = false := by simp; omega
  by_cases c0 : (s.size : Int) ≤ (1048576 : Int)
  case neg =>
    go_enter Tryz.func3, Tryz.ntmps3
    go_wp2_with fail
    generalize (w.alloc (.cells #[.int .i64 s.fo.num, .slice p0a s.fo.pol.length p0b, .slice p0c s.fo.rv.length p0d, .int .i64 s.co, .slice p0e s.ru.length p0f, .slice p0g s.ha.length p0h, .slice p0i s.se.length p0j] 28)).alloc (.cells #[.slice p10x a.tk.length p10z, .string a.me, .string a.pa] 31) = W0 at *
    refine (szSide_any _ s (1048576) _ (by omega) (by omega) f0 (hA0.below hBB)).mono ?_
    rintro e w1 ⟨rfl, hB1⟩
    rw [show leftSd (1048576) s = -1 from if_neg (by have := c0; omega)]
    replace F0 := F0.below hB1
    replace F1 := F1.below hB1
    replace hBB := below_one hBB hB1
    clear hB1
    obtain ⟨a00, a01, a02, a03, a04, a05, a06⟩ := F0.c
    obtain ⟨a10, a11, a12⟩ := F1.c
    go_wp2_with fail
    go_ret
    exact ⟨rfl, hBB⟩
  have d0 : decide ((1048576 : Int) - (s.size : Int) < 0) = false := by simp; omega
  by_cases c1 : (a.size : Int) ≤ (1048576 : Int) - (s.size : Int)
  case neg =>
    go_enter Tryz.func3, Tryz.ntmps3
    go_wp2_with fail
    generalize (w.alloc (.cells #[.int .i64 s.fo.num, .slice p0a s.fo.pol.length p0b, .slice p0c s.fo.rv.length p0d, .int .i64 s.co, .slice p0e s.ru.length p0f, .slice p0g s.ha.length p0h, .slice p0i s.se.length p0j] 28)).alloc (.cells #[.slice p10x a.tk.length p10z, .string a.me, .string a.pa] 31) = W0 at *
    refine (szSide_any _ s (1048576) _ (by omega) (by omega) f0 (hA0.below hBB)).mono ?_
    rintro e w1 ⟨rfl, hB1⟩
    rw [show leftSd (1048576) s = 1048576 - (s.size : Int) from if_pos c0]
    replace F0 := F0.below hB1
    replace F1 := F1.below hB1
    replace hBB := below_one hBB hB1
    clear hB1
    obtain ⟨a00, a01, a02, a03, a04, a05, a06⟩ := F0.c
    obtain ⟨a10, a11, a12⟩ := F1.c
    go_wp2_with fail
    refine (szAsk_any _ a (1048576 - (s.size : Int)) _ (by omega) (by omega) f1 (hA1.below hBB)).mono ?_
    rintro e w2 ⟨rfl, hB2⟩
    rw [show leftK (1048576 - (s.size : Int)) a.size = -1 from if_neg (by have := c1; omega)]
    replace F0 := F0.below hB2
    replace F1 := F1.below hB2
    replace hBB := below_one hBB hB2
    clear hB2
    clear a00 a01 a02 a03 a04 a05 a06
    clear a10 a11 a12
    obtain ⟨a00, a01, a02, a03, a04, a05, a06⟩ := F0.c
    obtain ⟨a10, a11, a12⟩ := F1.c
    go_wp2_with fail
    go_ret
    exact ⟨rfl, hBB⟩
  have d1 : decide ((1048576 : Int) - (s.size : Int) - (a.size : Int) < 0) = false := by simp; omega
  by_cases c2 : (tzAll ss : Int) ≤ (1048576 : Int) - (s.size : Int) - (a.size : Int)
  case neg =>
    go_enter Tryz.func3, Tryz.ntmps3
    go_wp2_with fail
    generalize (w.alloc (.cells #[.int .i64 s.fo.num, .slice p0a s.fo.pol.length p0b, .slice p0c s.fo.rv.length p0d, .int .i64 s.co, .slice p0e s.ru.length p0f, .slice p0g s.ha.length p0h, .slice p0i s.se.length p0j] 28)).alloc (.cells #[.slice p10x a.tk.length p10z, .string a.me, .string a.pa] 31) = W0 at *
    refine (szSide_any _ s (1048576) _ (by omega) (by omega) f0 (hA0.below hBB)).mono ?_
    rintro e w1 ⟨rfl, hB1⟩
    rw [show leftSd (1048576) s = 1048576 - (s.size : Int) from if_pos c0]
    replace F0 := F0.below hB1
    replace F1 := F1.below hB1
    replace hBB := below_one hBB hB1
    clear hB1
    obtain ⟨a00, a01, a02, a03, a04, a05, a06⟩ := F0.c
    obtain ⟨a10, a11, a12⟩ := F1.c
    go_wp2_with fail
    refine (szAsk_any _ a (1048576 - (s.size : Int)) _ (by omega) (by omega) f1 (hA1.below hBB)).mono ?_
    rintro e w2 ⟨rfl, hB2⟩
    rw [show leftK (1048576 - (s.size : Int)) a.size = 1048576 - (s.size : Int) - (a.size : Int) from if_pos c1]
    replace F0 := F0.below hB2
    replace F1 := F1.below hB2
    replace hBB := below_one hBB hB2
    clear hB2
    clear a00 a01 a02 a03 a04 a05 a06
    clear a10 a11 a12
    obtain ⟨a00, a01, a02, a03, a04, a05, a06⟩ := F0.c
    obtain ⟨a10, a11, a12⟩ := F1.c
    go_wp2_with fail
    refine (szStringS_any _ ss (1048576 - (s.size : Int) - (a.size : Int)) _ (by omega) (by omega) m2 f2 (hA2.below hBB)).mono ?_
    rintro e w3 ⟨rfl, hB3⟩
    rw [show leftT (1048576 - (s.size : Int) - (a.size : Int)) ss = -1 from if_neg (by have := c2; omega)]
    replace F0 := F0.below hB3
    replace F1 := F1.below hB3
    replace hBB := below_one hBB hB3
    clear hB3
    clear a00 a01 a02 a03 a04 a05 a06
    clear a10 a11 a12
    obtain ⟨a00, a01, a02, a03, a04, a05, a06⟩ := F0.c
    obtain ⟨a10, a11, a12⟩ := F1.c
    go_wp2_with fail
    go_ret
    exact ⟨rfl, hBB⟩
  have d2 : decide ((1048576 : Int) - (s.size : Int) - (a.size : Int) - (tzAll ss : Int) < 0) = false := by simp; omega
  have h0s := Sd.short_of (s := s) (by omega)
  have h1z : a.size ≤ 1048576 := by have := c0; omega
  have h1s := Ak.short_of h1z
  have h2s : ss.length ≤ 1048576 := by unfold tzAll at c2; omega
  obtain ⟨R, HR⟩ : ∃ x, Hid (x = dkX s a ss nw q) := ⟨_, hid rfl⟩
  go_enter Tryz.func3, Tryz.ntmps3
  go_wp2_with fail
  generalize (w.alloc (.cells #[.int .i64 s.fo.num, .slice p0a s.fo.pol.length p0b, .slice p0c s.fo.rv.length p0d, .int .i64 s.co, .slice p0e s.ru.length p0f, .slice p0g s.ha.length p0h, .slice p0i s.se.length p0j] 28)).alloc (.cells #[.slice p10x a.tk.length p10z, .string a.me, .string a.pa] 31) = W0 at *
  refine (szSide_any _ s (1048576) _ (by omega) (by omega) f0 (hA0.below hBB)).mono ?_
  rintro e w1 ⟨rfl, hB1⟩
  rw [show leftSd (1048576) s = 1048576 - (s.size : Int) from if_pos c0]
  replace F0 := F0.below hB1
  replace F1 := F1.below hB1
  replace hBB := below_one hBB hB1
  clear hB1
  obtain ⟨a00, a01, a02, a03, a04, a05, a06⟩ := F0.c
  obtain ⟨a10, a11, a12⟩ := F1.c
  go_wp2_with fail
  refine (szAsk_any _ a (1048576 - (s.size : Int)) _ (by omega) (by omega) f1 (hA1.below hBB)).mono ?_
  rintro e w2 ⟨rfl, hB2⟩
  rw [show leftK (1048576 - (s.size : Int)) a.size = 1048576 - (s.size : Int) - (a.size : Int) from if_pos c1]
  replace F0 := F0.below hB2
  replace F1 := F1.below hB2
  replace hBB := below_one hBB hB2
  clear hB2
  clear a00 a01 a02 a03 a04 a05 a06
  clear a10 a11 a12
  obtain ⟨a00, a01, a02, a03, a04, a05, a06⟩ := F0.c
  obtain ⟨a10, a11, a12⟩ := F1.c
  go_wp2_with fail
  refine (szStringS_any _ ss (1048576 - (s.size : Int) - (a.size : Int)) _ (by omega) (by omega) m2 f2 (hA2.below hBB)).mono ?_
  rintro e w3 ⟨rfl, hB3⟩
  rw [show leftT (1048576 - (s.size : Int) - (a.size : Int)) ss = 1048576 - (s.size : Int) - (a.size : Int) - (tzAll ss : Int) from if_pos c2]
  replace F0 := F0.below hB3
  replace F1 := F1.below hB3
  replace hBB := below_one hBB hB3
  clear hB3
  clear a00 a01 a02 a03 a04 a05 a06
  clear a10 a11 a12
  obtain ⟨a00, a01, a02, a03, a04, a05, a06⟩ := F0.c
  obtain ⟨a10, a11, a12⟩ := F1.c
  go_wp2_with fail
  refine wp_region_held_drew (S := fun w' => w'.cell? ⟨w.heap.size, 0, none⟩ = some (.int .i64 s.fo.num) ∧ w'.cell? ⟨w.heap.size, 1, none⟩ = some (.slice p0a s.fo.pol.length p0b) ∧ w'.cell? ⟨w.heap.size, 2, none⟩ = some (.slice p0c s.fo.rv.length p0d) ∧ w'.cell? ⟨w.heap.size, 3, none⟩ = some (.int .i64 s.co) ∧ w'.cell? ⟨w.heap.size, 4, none⟩ = some (.slice p0e s.ru.length p0f) ∧ w'.cell? ⟨w.heap.size, 5, none⟩ = some (.slice p0g s.ha.length p0h) ∧ w'.cell? ⟨w.heap.size, 6, none⟩ = some (.slice p0i s.se.length p0j) ∧ w'.cell? ⟨w.heap.size + 1, 0, none⟩ = some (.slice p10x a.tk.length p10z) ∧ w'.cell? ⟨w.heap.size + 1, 1, none⟩ = some (.string a.me) ∧ w'.cell? ⟨w.heap.size + 1, 2, none⟩ = some (.string a.pa)) (by kernel_rfl) ?_ (fun hHeld => ?_)
  · go_keep
  refine takeW 0 (v := ?v1) rfl (by kernel_rfl) (by kernel_rfl) (by kernel_rfl) (fun _ _ _ h => h) (by rfl) (by assumption) ?hy1 ?rest1
  case hy1 => intro w' hSw; (try dsimp only at hSw); go_simp; try with_reducible rfl
  try simp only [Act.put, List.setIfInBounds_toArray, List.set_cons_zero, List.set_cons_succ]
  refine takeW 2 (v := ?v2) rfl (by kernel_rfl) (by kernel_rfl) (by kernel_rfl) (fun _ _ _ h => h) (by rfl) (by assumption) ?hy2 ?rest2
  case hy2 => intro w' hSw; (try dsimp only at hSw); go_simp; try with_reducible rfl
  try simp only [Act.put, List.setIfInBounds_toArray, List.set_cons_zero, List.set_cons_succ]
  refine takeW 4 (v := ?v3) rfl (by kernel_rfl) (by kernel_rfl) (by kernel_rfl) (fun _ _ _ h => h) (by rfl) (by assumption) ?hy3 ?rest3
  case hy3 => intro w' hSw; (try dsimp only at hSw); go_simp; try with_reducible rfl
  try simp only [Act.put, List.setIfInBounds_toArray, List.set_cons_zero, List.set_cons_succ]
  refine takeW 6 (v := ?v4) rfl (by kernel_rfl) (by kernel_rfl) (by kernel_rfl) (fun _ _ _ h => h) (by rfl) (by assumption) ?hy4 ?rest4
  case hy4 => intro w' hSw; (try dsimp only at hSw); go_simp; try with_reducible rfl
  try simp only [Act.put, List.setIfInBounds_toArray, List.set_cons_zero, List.set_cons_succ]
  refine takeW 7 (v := ?v5) rfl (by kernel_rfl) (by kernel_rfl) (by kernel_rfl) (fun _ _ _ h => h) (by rfl) (by assumption) ?hy5 ?rest5
  case hy5 => intro w' hSw; (try dsimp only at hSw); go_simp; try with_reducible rfl
  try simp only [Act.put, List.setIfInBounds_toArray, List.set_cons_zero, List.set_cons_succ]
  refine takeC 1 (by kernel_rfl) rfl (fun K hK => ?_)
  go_simp
  refine (toSide_any _ s _ h0s (by exact (hA0.below hBB).below (Below.refl _ _).drew)).mono ?_; rintro e y1 ⟨vs0, rfl, P0, hC1⟩; obtain ⟨s0a, s0b, s0c, s0d, s0e, s0f, s0g, s0h, s0i, s0j, rfl⟩ := sd_forms P0.a; replace P0 := P0.r; have k1_0 := fun o => hC1.cell (p := ⟨w.heap.size, o, none⟩) (by exact F0.lt); have k1_1 := fun o => hC1.cell (p := ⟨w.heap.size + 1, o, none⟩) (by exact F1.lt); have hD1 : Below w3.heap.size w3 y1 := below_drew1 hC1
  refine hK.out _ _ ?_ (fun hHeld => ?_)
  · go_keep
  clear hK K
  try simp only [Act.put, List.setIfInBounds_toArray, List.set_cons_zero, List.set_cons_succ]
  refine takeC 3 (by kernel_rfl) rfl (fun K hK => ?_)
  go_simp
  refine (toAsk_any _ a _ h1s (by exact (hA1.below hBB).below hD1)).mono ?_; rintro e y2 ⟨cs1, rfl, P1, hC2⟩; obtain ⟨s10x, s10z, hcs1, _⟩ := P1.a; subst hcs1; replace P1 := P1.a; replace P0 := P0.below hC2; have k2_0 := fun o => hC2.cell (p := ⟨w.heap.size, o, none⟩) (by exact Nat.lt_of_lt_of_le F0.lt hD1.size); have k2_1 := fun o => hC2.cell (p := ⟨w.heap.size + 1, o, none⟩) (by exact Nat.lt_of_lt_of_le F1.lt hD1.size); have hD2 : Below w3.heap.size w3 y2 := below_one hD1 hC2
  refine hK.out _ _ ?_ (fun hHeld => ?_)
  · go_keep
  clear hK K
  try simp only [Act.put, List.setIfInBounds_toArray, List.set_cons_zero, List.set_cons_succ]
  refine takeC 5 (by kernel_rfl) rfl (fun K hK => ?_)
  go_simp
  refine (toStringS_any _ ss _ h2s (by exact (hA2.below hBB).below hD2)).mono ?_; rintro e y3 ⟨vs2, rfl, P2, hC3⟩; obtain ⟨s2x, s2z, rfl⟩ := ownsRow_len P2; replace P2 := VS.ownS P2; replace P0 := P0.below hC3; replace P1 := P1.below hC3; have k3_0 := fun o => hC3.cell (p := ⟨w.heap.size, o, none⟩) (by exact Nat.lt_of_lt_of_le F0.lt hD2.size); have k3_1 := fun o => hC3.cell (p := ⟨w.heap.size + 1, o, none⟩) (by exact Nat.lt_of_lt_of_le F1.lt hD2.size); have hD3 : Below w3.heap.size w3 y3 := below_one hD2 hC3
  refine hK.out _ _ ?_ (fun hHeld => ?_)
  · go_keep
  clear hK K
  try simp only [Act.put, List.setIfInBounds_toArray, List.set_cons_zero, List.set_cons_succ]
  refine takeC 8 (by kernel_rfl) rfl (fun K hK => ?_)
  go_simp
  refine (specDecideAsk_any _ _ s _ a ss nw q _ h0s h1z (Nat.le_succ_of_le h2s) q4 P0.a P1 P2).mono ?_; rintro e y4 ⟨rfl, hC4⟩; have k4_0 := fun o => hC4.cell (p := ⟨w.heap.size, o, none⟩) (by exact Nat.lt_of_lt_of_le F0.lt hD3.size); have k4_1 := fun o => hC4.cell (p := ⟨w.heap.size + 1, o, none⟩) (by exact Nat.lt_of_lt_of_le F1.lt hD3.size)
  refine hK.out _ _ ?_ (fun hHeld => ?_)
  · go_keep
  clear hK K
  try simp only [Act.put, List.setIfInBounds_toArray, List.set_cons_zero, List.set_cons_succ]
  refine takeW 9 (v := ?v6) rfl (by kernel_rfl) (by kernel_rfl) (by kernel_rfl) (fun _ _ _ h => h) (by rfl) (by assumption) ?hy6 ?rest6
  case hy6 => intro w' hSw; (try dsimp only at hSw); go_simp; try with_reducible rfl
  try simp only [Act.put, List.setIfInBounds_toArray, List.set_cons_zero, List.set_cons_succ]
  refine takeW 10 (v := ?v7) rfl (by kernel_rfl) (by kernel_rfl) (by kernel_rfl) (fun _ _ _ h => h) (by rfl) (by assumption) ?hy7 ?rest7
  case hy7 => intro w' hSw; (try dsimp only at hSw); go_simp; try with_reducible rfl
  try simp only [Act.put, List.setIfInBounds_toArray, List.set_cons_zero, List.set_cons_succ]
  refine takeW 11 (v := ?v8) rfl (by kernel_rfl) (by kernel_rfl) (by kernel_rfl) (fun _ _ _ h => h) (by rfl) (by assumption) ?hy8 ?rest8
  case hy8 => intro w' hSw; (try dsimp only at hSw); go_simp; try with_reducible rfl
  try simp only [Act.put, List.setIfInBounds_toArray, List.set_cons_zero, List.set_cons_succ]
  refine takeW 12 (v := ?v9) rfl (by kernel_rfl) (by kernel_rfl) (by kernel_rfl) (fun _ _ _ h => h) (by rfl) (by assumption) ?hy9 ?rest9
  case hy9 => intro w' hSw; (try dsimp only at hSw); go_simp; try with_reducible rfl
  try simp only [Act.put, List.setIfInBounds_toArray, List.set_cons_zero, List.set_cons_succ]
  refine takeW 13 (v := ?v10) rfl (by kernel_rfl) (by kernel_rfl) (by kernel_rfl) (fun _ _ _ h => h) (by rfl) (by assumption) ?hy10 ?rest10
  case hy10 => intro w' hSw; (try dsimp only at hSw); go_simp; try with_reducible rfl
  try simp only [Act.put, List.setIfInBounds_toArray, List.set_cons_zero, List.set_cons_succ]
  refine wpAnyH_done (by kernel_rfl) ?_ _
  have hBd : Below w3.heap.size w3 y4 := below_one hD3 hC4
  clear hC1 hC2 hC3 hC4 hD1 hD2 hD3 k1_0 k1_1 k2_0 k2_1 k3_0 k3_1 k4_0 k4_1 hHeld P0 P1 P2 a00 a01 a02 a03 a04 a05 a06 a10 a11 a12
  rw [← HR.out]
  replace F0 := F0.below hBd
  replace F1 := F1.below hBd
  replace hBB := below_one hBB hBd
  clear hBd
  obtain ⟨a00, a01, a02, a03, a04, a05, a06⟩ := F0.c
  obtain ⟨a10, a11, a12⟩ := F1.c
  go_wp2_with fail
  refine (toSide_any _ s _ h0s (hA0.below hBB)).mono ?_
  rintro e z0 ⟨vx0, rfl, X0, hZ⟩
  obtain ⟨x0a, x0b, x0c, x0d, x0e, x0f, x0g, x0h, x0i, x0j, rfl⟩ := sd_forms X0.a
  replace X0 := X0.r
  replace F0 := F0.below hZ
  replace F1 := F1.below hZ
  replace hBB := below_one hBB hZ
  clear hZ
  clear a00 a01 a02 a03 a04 a05 a06 a10 a11 a12
  have hBv : Below z0.heap.size z0 (z0.alloc (.cells #[.int .i64 s.fo.num, .slice x0a s.fo.pol.length x0b, .slice x0c s.fo.rv.length x0d, .int .i64 s.co, .slice x0e s.ru.length x0f, .slice x0g s.ha.length x0h, .slice x0i s.se.length x0j] 42)) := (Below.refl _ z0).alloc (Nat.le_refl _) _
  have G0 := Seven.new z0 (.int .i64 s.fo.num) (.slice x0a s.fo.pol.length x0b) (.slice x0c s.fo.rv.length x0d) (.int .i64 s.co) (.slice x0e s.ru.length x0f) (.slice x0g s.ha.length x0h) (.slice x0i s.se.length x0j) 42
  replace F0 := F0.below hBv
  replace F1 := F1.below hBv
  replace X0 := X0.below hBv
  replace hBB := below_one hBB hBv
  clear hBv
  obtain ⟨a00, a01, a02, a03, a04, a05, a06⟩ := F0.c
  obtain ⟨a10, a11, a12⟩ := F1.c
  obtain ⟨b00, b01, b02, b03, b04, b05, b06⟩ := G0.c
  go_wp2_with fail
  generalize z0.alloc (.cells #[.int .i64 s.fo.num, .slice x0a s.fo.pol.length x0b, .slice x0c s.fo.rv.length x0d, .int .i64 s.co, .slice x0e s.ru.length x0f, .slice x0g s.ha.length x0h, .slice x0i s.se.length x0j] 42) = Z0 at *
  generalize z0.heap.size = kx0 at *
  clear a00 a01 a02 a03 a04 a05 a06 a10 a11 a12 b00 b01 b02 b03 b04 b05 b06
  obtain ⟨a00, a01, a02, a03, a04, a05, a06⟩ := F0.c
  obtain ⟨a10, a11, a12⟩ := F1.c
  go_wp2_with fail
  refine (toAsk_any _ a _ h1s (hA1.below hBB)).mono ?_
  rintro e z1 ⟨cx1, rfl, X1, hZ⟩
  obtain ⟨x10x, x10z, hcx1, _⟩ := X1.a
  subst hcx1
  replace X1 := X1.a
  replace F0 := F0.below hZ
  replace F1 := F1.below hZ
  replace X0 := X0.below hZ
  replace G0 := G0.below hZ
  replace hBB := below_one hBB hZ
  clear hZ
  clear a00 a01 a02 a03 a04 a05 a06 a10 a11 a12
  have hBv : Below z1.heap.size z1 (z1.alloc (.cells #[.slice x10x a.tk.length x10z, .string a.me, .string a.pa] 46)) := (Below.refl _ z1).alloc (Nat.le_refl _) _
  have G1 := Three.new z1 (.slice x10x a.tk.length x10z) (.string a.me) (.string a.pa) 46
  replace F0 := F0.below hBv
  replace F1 := F1.below hBv
  replace X0 := X0.below hBv
  replace G0 := G0.below hBv
  replace X1 := X1.below hBv
  replace hBB := below_one hBB hBv
  clear hBv
  obtain ⟨a00, a01, a02, a03, a04, a05, a06⟩ := F0.c
  obtain ⟨a10, a11, a12⟩ := F1.c
  obtain ⟨b10, b11, b12⟩ := G1.c
  obtain ⟨b00, b01, b02, b03, b04, b05, b06⟩ := G0.c
  go_wp2_with fail
  generalize z1.alloc (.cells #[.slice x10x a.tk.length x10z, .string a.me, .string a.pa] 46) = Z1 at *
  generalize z1.heap.size = kx1 at *
  clear a00 a01 a02 a03 a04 a05 a06 a10 a11 a12 b00 b01 b02 b03 b04 b05 b06 b10 b11 b12
  go_wp2_with fail
  refine (toStringS_any _ ss _ h2s (hA2.below hBB)).mono ?_
  rintro e z2 ⟨vx2, rfl, X2, hZ⟩
  obtain ⟨x2x, x2z, rfl⟩ := ownsRow_len X2
  replace X2 := VS.ownS X2
  replace F0 := F0.below hZ
  replace F1 := F1.below hZ
  replace X0 := X0.below hZ
  replace G0 := G0.below hZ
  replace X1 := X1.below hZ
  replace G1 := G1.below hZ
  replace hBB := below_one hBB hZ
  clear hZ
  obtain ⟨b00, b01, b02, b03, b04, b05, b06⟩ := G0.c
  obtain ⟨b10, b11, b12⟩ := G1.c
  go_wp2_with fail
  refine (implDecideAsk_any _ _ s _ a ss nw q _ (HTB.out.on hBB) h0s h1z (Nat.le_succ_of_le h2s) q4 X0 X1 X2).mono ?_
  rintro e u1 ⟨rfl, hU⟩
  rw [← HR.out]
  replace F0 := F0.below hU
  replace F1 := F1.below hU
  replace X0 := X0.below hU
  replace G0 := G0.below hU
  replace X1 := X1.below hU
  replace G1 := G1.below hU
  replace X2 := X2.below hU
  replace hBB := below_one hBB hU
  clear hU b00 b01 b02 b03 b04 b05 b06 b10 b11 b12
  have e1 : (R.1 != R.1) = false := by simp
  have e2 : (R.2 != R.2) = false := by simp
  obtain ⟨a0, a1, a2, a3, a4, a5, a6⟩ := F0.c
  obtain ⟨b0, b1, b2, b3, b4, b5, b6⟩ := G0.c
  go_wp2_with fail
  refine wp_region_held_drew (S := fun w' => w'.cell? ⟨kx0, 0, none⟩ = some (.int .i64 s.fo.num) ∧ w'.cell? ⟨kx0, 1, none⟩ = some (.slice x0a s.fo.pol.length x0b) ∧ w'.cell? ⟨kx0, 2, none⟩ = some (.slice x0c s.fo.rv.length x0d) ∧ w'.cell? ⟨kx0, 3, none⟩ = some (.int .i64 s.co) ∧ w'.cell? ⟨kx0, 4, none⟩ = some (.slice x0e s.ru.length x0f) ∧ w'.cell? ⟨kx0, 5, none⟩ = some (.slice x0g s.ha.length x0h) ∧ w'.cell? ⟨kx0, 6, none⟩ = some (.slice x0i s.se.length x0j) ∧ w'.cell? ⟨w.heap.size, 0, none⟩ = some (.int .i64 s.fo.num) ∧ w'.cell? ⟨w.heap.size, 1, none⟩ = some (.slice p0a s.fo.pol.length p0b) ∧ w'.cell? ⟨w.heap.size, 2, none⟩ = some (.slice p0c s.fo.rv.length p0d) ∧ w'.cell? ⟨w.heap.size, 3, none⟩ = some (.int .i64 s.co) ∧ w'.cell? ⟨w.heap.size, 4, none⟩ = some (.slice p0e s.ru.length p0f) ∧ w'.cell? ⟨w.heap.size, 5, none⟩ = some (.slice p0g s.ha.length p0h) ∧ w'.cell? ⟨w.heap.size, 6, none⟩ = some (.slice p0i s.se.length p0j)) (by kernel_rfl) ?_ (fun hHeld => ?_)
  · go_keep
  refine takeW 0 (v := ?v11) rfl (by kernel_rfl) (by kernel_rfl) (by kernel_rfl) (fun _ _ _ h => h) (by rfl) (by assumption) ?hy11 ?rest11
  case hy11 => intro w' hSw; (try dsimp only at hSw); go_simp; try with_reducible rfl
  try simp only [Act.put, List.setIfInBounds_toArray, List.set_cons_zero, List.set_cons_succ]
  refine takeW 1 (v := ?v12) rfl (by kernel_rfl) (by kernel_rfl) (by kernel_rfl) (fun _ _ _ h => h) (by rfl) (by assumption) ?hy12 ?rest12
  case hy12 => intro w' hSw; (try dsimp only at hSw); go_simp; try with_reducible rfl
  try simp only [Act.put, List.setIfInBounds_toArray, List.set_cons_zero, List.set_cons_succ]
  refine takeC 2 (by kernel_rfl) rfl (fun K hK => ?_)
  go_simp
  refine (toSide_any _ s _ h0s (by exact (hA0.below hBB).below (Below.refl _ _).drew)).mono ?_; rintro e t0 ⟨vr0, rfl, O9, hB9⟩; obtain ⟨r0a, r0b, r0c, r0d, r0e, r0f, r0g, r0h, r0i, r0j, rfl⟩ := sd_forms O9.a; replace O9 := O9.r; have hcx := fun o => hB9.cell (p := ⟨kx0, o, none⟩) (by exact G0.lt); have hca := fun o => hB9.cell (p := ⟨w.heap.size, o, none⟩) (by exact F0.lt)
  refine hK.out _ _ ?_ (fun hHeld => ?_)
  · go_keep
  clear hK K
  try simp only [Act.put, List.setIfInBounds_toArray, List.set_cons_zero, List.set_cons_succ]
  refine takeC 3 (by kernel_rfl) rfl (fun K hK => ?_)
  go_simp
  refine (eqSide_same _ _ s _ h0s (by exact (X0.below (below_drew1 hB9)).a) O9.a).mono ?_; rintro e v0 ⟨rfl, hB10⟩; have hcx2 := fun o => hB10.cell (p := ⟨kx0, o, none⟩) (by exact Nat.lt_of_lt_of_le G0.lt (below_drew1 hB9).size); have hca2 := fun o => hB10.cell (p := ⟨w.heap.size, o, none⟩) (by exact Nat.lt_of_lt_of_le F0.lt (below_drew1 hB9).size)
  refine hK.out _ _ ?_ (fun hHeld => ?_)
  · go_keep
  clear hK K
  try simp only [Act.put, List.setIfInBounds_toArray, List.set_cons_zero, List.set_cons_succ]
  refine takeW 4 (v := ?v13) rfl (by kernel_rfl) (by kernel_rfl) (by kernel_rfl) (fun _ _ _ h => h) (by rfl) (by assumption) ?hy13 ?rest13
  case hy13 => intro w' hSw; (try dsimp only at hSw); go_simp; try with_reducible rfl
  try simp only [Act.put, List.setIfInBounds_toArray, List.set_cons_zero, List.set_cons_succ]
  refine wpAnyH_done (by kernel_rfl) ?_ _
  have hBd : Below u1.heap.size u1 v0 := below_one (below_drew1 hB9) hB10
  clear hcx hca hcx2 hca2 hB9 hB10 hHeld O9 a0 a1 a2 a3 a4 a5 a6 b0 b1 b2 b3 b4 b5 b6
  replace F0 := F0.below hBd
  replace F1 := F1.below hBd
  replace X0 := X0.below hBd
  replace G0 := G0.below hBd
  replace X1 := X1.below hBd
  replace G1 := G1.below hBd
  replace X2 := X2.below hBd
  replace hBB := below_one hBB hBd
  clear hBd
  obtain ⟨a0, a1, a2⟩ := F1.c
  obtain ⟨b0, b1, b2⟩ := G1.c
  go_wp2_with fail
  refine wp_region_held_drew (S := fun w' => w'.cell? ⟨kx1, 0, none⟩ = some (.slice x10x a.tk.length x10z) ∧ w'.cell? ⟨kx1, 1, none⟩ = some (.string a.me) ∧ w'.cell? ⟨kx1, 2, none⟩ = some (.string a.pa) ∧ w'.cell? ⟨w.heap.size + 1, 0, none⟩ = some (.slice p10x a.tk.length p10z) ∧ w'.cell? ⟨w.heap.size + 1, 1, none⟩ = some (.string a.me) ∧ w'.cell? ⟨w.heap.size + 1, 2, none⟩ = some (.string a.pa)) (by kernel_rfl) ?_ (fun hHeld => ?_)
  · go_keep
  refine takeW 0 (v := ?v14) rfl (by kernel_rfl) (by kernel_rfl) (by kernel_rfl) (fun _ _ _ h => h) (by rfl) (by assumption) ?hy14 ?rest14
  case hy14 => intro w' hSw; (try dsimp only at hSw); go_simp; try with_reducible rfl
  try simp only [Act.put, List.setIfInBounds_toArray, List.set_cons_zero, List.set_cons_succ]
  refine takeW 1 (v := ?v15) rfl (by kernel_rfl) (by kernel_rfl) (by kernel_rfl) (fun _ _ _ h => h) (by rfl) (by assumption) ?hy15 ?rest15
  case hy15 => intro w' hSw; (try dsimp only at hSw); go_simp; try with_reducible rfl
  try simp only [Act.put, List.setIfInBounds_toArray, List.set_cons_zero, List.set_cons_succ]
  refine takeC 2 (by kernel_rfl) rfl (fun K hK => ?_)
  go_simp
  refine (toAsk_any _ a _ h1s (by exact (hA1.below hBB).below (Below.refl _ _).drew)).mono ?_; rintro e t1 ⟨cr1, rfl, O9, hB9⟩; obtain ⟨r10x, r10z, hcr1, _⟩ := O9.a; subst hcr1; replace O9 := O9.a; have hcx := fun o => hB9.cell (p := ⟨kx1, o, none⟩) (by exact G1.lt); have hca := fun o => hB9.cell (p := ⟨w.heap.size + 1, o, none⟩) (by exact F1.lt)
  refine hK.out _ _ ?_ (fun hHeld => ?_)
  · go_keep
  clear hK K
  try simp only [Act.put, List.setIfInBounds_toArray, List.set_cons_zero, List.set_cons_succ]
  refine takeC 3 (by kernel_rfl) rfl (fun K hK => ?_)
  go_simp
  refine (eqAsk_same _ _ a _ h1s (by exact X1.below (below_drew1 hB9)) O9).mono ?_; rintro e v1 ⟨rfl, hB10⟩; have hcx2 := fun o => hB10.cell (p := ⟨kx1, o, none⟩) (by exact Nat.lt_of_lt_of_le G1.lt (below_drew1 hB9).size); have hca2 := fun o => hB10.cell (p := ⟨w.heap.size + 1, o, none⟩) (by exact Nat.lt_of_lt_of_le F1.lt (below_drew1 hB9).size)
  refine hK.out _ _ ?_ (fun hHeld => ?_)
  · go_keep
  clear hK K
  try simp only [Act.put, List.setIfInBounds_toArray, List.set_cons_zero, List.set_cons_succ]
  refine takeW 4 (v := ?v16) rfl (by kernel_rfl) (by kernel_rfl) (by kernel_rfl) (fun _ _ _ h => h) (by rfl) (by assumption) ?hy16 ?rest16
  case hy16 => intro w' hSw; (try dsimp only at hSw); go_simp; try with_reducible rfl
  try simp only [Act.put, List.setIfInBounds_toArray, List.set_cons_zero, List.set_cons_succ]
  refine wpAnyH_done (by kernel_rfl) ?_ _
  have hBd : Below v0.heap.size v0 v1 := below_one (below_drew1 hB9) hB10
  clear hcx hca hcx2 hca2 hB9 hB10 hHeld O9 a0 a1 a2 b0 b1 b2
  replace F0 := F0.below hBd
  replace F1 := F1.below hBd
  replace X0 := X0.below hBd
  replace G0 := G0.below hBd
  replace X1 := X1.below hBd
  replace G1 := G1.below hBd
  replace X2 := X2.below hBd
  replace hBB := below_one hBB hBd
  clear hBd
  go_wp2_with fail
  refine (toStringS_any _ ss _ h2s (hA2.below hBB)).mono ?_
  rintro e t2 ⟨vr2, rfl, O9, hB9⟩
  obtain ⟨r2x, r2z, rfl⟩ := ownsRow_len O9
  replace O9 := VS.ownS O9
  replace F0 := F0.below hB9
  replace F1 := F1.below hB9
  replace X0 := X0.below hB9
  replace G0 := G0.below hB9
  replace X1 := X1.below hB9
  replace G1 := G1.below hB9
  replace X2 := X2.below hB9
  replace hBB := below_one hBB hB9
  go_wp2_with fail
  refine (eqStringS_any _ _ ss _ (Nat.le_succ_of_le h2s) X2 O9).mono ?_
  rintro e v2 ⟨rfl, hB10⟩
  replace F0 := F0.below hB10
  replace F1 := F1.below hB10
  replace X0 := X0.below hB10
  replace G0 := G0.below hB10
  replace X1 := X1.below hB10
  replace G1 := G1.below hB10
  replace X2 := X2.below hB10
  replace hBB := below_one hBB hB10
  clear hB9 hB10 O9
  go_wp2_with fail
  go_ret
  exact ⟨rfl, hBB⟩

set_option maxRecDepth 100000 in
theorem contract (H : Type) (enc : TypeId × Value → H) (W : World) (base : Nat) (args : Array Value) (ds gs : List (DataW H)) (before : List MemPlace)
    (hval : ∀ (j : Nat) t v, Tryz.f3.params[j]? = some t → args[j]? = some v → Value.okWide Tryz.prog W .any base t v)
    (hW : DataW.Whole enc Tryz.prog Tryz.f3.params.toList Rows.fnExactDecideAskSpec.vars false W args.toList ds gs before) (hL : laidMet Tryz.prog Rows.fnExactDecideAskRow.laid W) :
    Calls Tryz.prog 3 args W fun e W' => ∃ v, e = .returned v ∧ Rows.fnExactDecideAskSpec.post enc Tryz.prog Tryz.f3 false true false false W args v W' := by
  have hW' := hW
  obtain ⟨p, q, hA0, hV, rfl, _, _⟩ := hW
  have hA : DataW.TrodAll enc Tryz.prog W 0 (fun _ => true) true Tryz.f3.params.toList args.toList ds p := hA0
  rw [Tryz.params3] at hA hval
  obtain ⟨v0, vs0, d0, ds0, p0, q0, hargs, rfl, rfl, h0, r0⟩ := trodAll_cons hA
  obtain ⟨v1, vs1, d1, ds1, p1, q1, rfl, rfl, rfl, h1, r1⟩ := trodAll_cons r0
  obtain ⟨v2, vs2, d2, ds2, p2, q2, rfl, rfl, rfl, h2, r2⟩ := trodAll_cons r1
  obtain ⟨v3, vs3, d3, ds3, p3, q3, rfl, rfl, rfl, h3, r3⟩ := trodAll_cons r2
  obtain ⟨v4, vs4, d4, ds4, p4, q4, rfl, rfl, rfl, h4, r4⟩ := trodAll_cons r3
  obtain ⟨rfl, rfl, rfl⟩ := trodAll_nil r4
  obtain rfl : args = #[v0, v1, v2, v3, v4] := by cases args; simp_all
  obtain ⟨rfl, rfl⟩ := trodVars_none hV
  have k0 := h0
  have lt0 : ∀ x ∈ p0, x.block < W.heap.size := by obtain ⟨m, hm⟩ := k0; exact DataW.trod_lt m _ _ _ hm
  obtain ⟨a0, w0, f0⟩ := openSd (hval 0 28 v0 rfl rfl) h0
  have k1 := h1
  have lt1 : ∀ x ∈ p1, x.block < W.heap.size := by obtain ⟨m, hm⟩ := k1; exact DataW.trod_lt m _ _ _ hm
  obtain ⟨cs1, a1, rfl, w1, f1⟩ := openAk (hval 1 31 v1 rfl rfl) h1
  have k2 := h2
  have lt2 : ∀ x ∈ p2, x.block < W.heap.size := by obtain ⟨m, hm⟩ := k2; exact DataW.trod_lt m _ _ _ hm
  obtain ⟨a2, n2, c2, rfl⟩ := okWide_slice Tryz.underlying32 (hval 2 32 v2 rfl rfl)
  obtain ⟨l2, w2⟩ := openStS h2
  have k3 := h3
  have lt3 : ∀ x ∈ p3, x.block < W.heap.size := by obtain ⟨m, hm⟩ := k3; exact DataW.trod_lt m _ _ _ hm
  obtain ⟨a3, rfl, _, _, w3⟩ := open_int Tryz.underlying3 (hval 3 3 v3 rfl rfl) h3
  have k4 := h4
  have lt4 : ∀ x ∈ p4, x.block < W.heap.size := by obtain ⟨m, hm⟩ := k4; exact DataW.trod_lt m _ _ _ hm
  obtain ⟨a4, rfl, _, _, w4⟩ := open_string Tryz.underlying9 (hval 4 9 v4 rfl rfl) h4
  clear hA0
  refine (walk v0 a0 cs1 a1 a2 n2 c2 l2 a3 a4 W w0 f0 w1 f1 w2 w3 w4 (tab_of hL.tail.tail)).mono fun e W' ⟨he, bel⟩ => ?_
  subst he
  exact ⟨_, rfl, _, _, _, [], _, [], hW', trodAll_mk1 (shut_bool Tryz.underlying4 _), (trodAll_cons_mk (Below.trod laidOut (by kernel_rfl) (of_decide_eq_true (by kernel_rfl)) k0 bel lt0) (trodAll_cons_mk (Below.trod laidOut (by kernel_rfl) (of_decide_eq_true (by kernel_rfl)) k1 bel lt1) (trodAll_cons_mk (Below.trod laidOut (by kernel_rfl) (of_decide_eq_true (by kernel_rfl)) k2 bel lt2) (trodAll_cons_mk (Below.trod laidOut (by kernel_rfl) (of_decide_eq_true (by kernel_rfl)) k3 bel lt3) (trodAll_cons_mk (Below.trod laidOut (by kernel_rfl) (of_decide_eq_true (by kernel_rfl)) k4 bel lt4) trodAll_mk0))))), rfl, bel.frame _, fun h => by cases h⟩

/-- A world for the witness: the settled one, the listed tables laid. -/
theorem laid_met (os : Os) : laidMet Tryz.prog Rows.fnExactDecideAskRow.laid ((World.laidAll Tryz.prog os Rows.fnExactDecideAskRow.laid).forCall (fun _ _ => 0) ⟨#[], #[.agg #[.int .i64 0, .slice none 0 0, .slice none 0 0, .int .i64 0, .slice none 0 0, .slice none 0 0, .slice none 0 0], .agg #[.slice none 0 0, .string ByteArray.empty, .string ByteArray.empty], .slice none 0 0, .int .i64 0, .string ByteArray.empty], []⟩).memory :=
  laidMet_laidAll _ (by kernel_rfl) (by kernel_rfl)
theorem reads (os : Os) {H : Type} (enc : TypeId × Value → H) : ∃ places, DataW.whole enc Tryz.prog ((World.laidAll Tryz.prog os Rows.fnExactDecideAskRow.laid).forCall (fun _ _ => 0) ⟨#[], #[.agg #[.int .i64 0, .slice none 0 0, .slice none 0 0, .int .i64 0, .slice none 0 0, .slice none 0 0, .slice none 0 0], .agg #[.slice none 0 0, .string ByteArray.empty, .string ByteArray.empty], .slice none 0 0, .int .i64 0, .string ByteArray.empty], []⟩).memory Tryz.f3.params.toList Rows.fnExactDecideAskSpec.vars false #[Value.agg #[.int .i64 0, .slice none 0 0, .slice none 0 0, .int .i64 0, .slice none 0 0, .slice none 0 0, .slice none 0 0], .agg #[.slice none 0 0, .string ByteArray.empty, .string ByteArray.empty], .slice none 0 0, .int .i64 0, .string ByteArray.empty].toList 8 = some ([.agg [.agg [.lit (.int .i64 0), .nil, .nil], .lit (.int .i64 0), .nil, .nil, .nil], .agg [.nil, .lit (.string []), .lit (.string [])], .nil, .lit (.int .i64 0), .lit (.string [])], [], places) :=
  ⟨[], by kernel_rfl⟩

set_option maxRecDepth 100000 in
theorem lifted (os : Os) (started : os.Started) (H : Type) (enc : TypeId × Value → H) (F : Stop.Interp) :
    ReturnsInHanded {} Tryz.checked os 3 .any ((OpenSpec.ofChange Rows.fnExactDecideAskSpec).preRow enc Tryz.prog Tryz.f3 Rows.fnExactDecideAskRow.domain false Rows.fnExactDecideAskRow.laid) (((OpenSpec.ofChange Rows.fnExactDecideAskSpec).at F).post enc Tryz.prog Tryz.f3 false true false false) := by
  obtain ⟨places, hx⟩ := reads os enc
  refine returnsInHanded_of_row (C := Tryz.checked) (s := OpenSpec.ofChange Rows.fnExactDecideAskSpec) own started (by kernel_rfl) Tryz.func3
    (witness_row_at (enc := enc) (C := Tryz.checked) false (World.laidAll Tryz.prog os Rows.fnExactDecideAskRow.laid) #[.agg #[.int .i64 0, .slice none 0 0, .slice none 0 0, .int .i64 0, .slice none 0 0, .slice none 0 0, .slice none 0 0], .agg #[.slice none 0 0, .string ByteArray.empty, .string ByteArray.empty], .slice none 0 0, .int .i64 0, .string ByteArray.empty] (World.laidAll_os _ _ _) (by kernel_rfl) (by kernel_rfl) (by kernel_rfl)
      (OpenSpec.preRow_of_cond 8 hx (by kernel_rfl) (fun k hk => by cases hk) (by kernel_rfl) (laid_met os))) ?_
  intro W base args ds gs before hval hW _ _ _ hL hsh _
  have hL' : laidMet Tryz.prog Rows.fnExactDecideAskRow.laid W := by
    rw [← Go.MakeChecks.laidMetH_plain _ _ _ (by kernel_rfl)]
    exact hL
  exact contract H enc W base args ds gs before hval hW hL'

theorem said : Rows.FnExactDecideAskSaid :=
  OpenClaim.holds_of_cond 3 Tryz.f3 rfl rfl rfl rfl rfl rfl rfl ⟨rfl, rfl, rfl, rfl, rfl⟩ rfl rfl rfl rfl rfl (by kernel_rfl) Tryz.func3 (by kernel_rfl)
    (of_decide_eq_true (by kernel_rfl)) (by unfold Func.isWrapper; first | (rw [if_pos (by decide +kernel)]; kernel_rfl) | (rw [if_neg (by decide +kernel)]; exact ⟨rfl, rfl⟩))
    (fun os started H enc _ F => by rw [OpenClaim.pre_eq_preRow]; exact lifted os started H enc F)

theorem plain (f : FuncId) (fn : Func) (hf : Tryz.pinned.checked.prog.funcNamed "loop.example/g00167/laws.FnExactDecideAsk" = some f) (hfn : Tryz.pinned.checked.prog.funcs[f]? = some fn) :
    Rows.fnExactDecideAskCard.stood.looks = Tryz.pinned.checked.prog.looks [] ∧ ∀ (j : Nat) t, fn.params[j]? = some t → Tryz.pinned.checked.prog.wantsStandIn t = false := by
  obtain rfl : f = 3 := Option.some.inj ((show Tryz.prog.funcNamed "loop.example/g00167/laws.FnExactDecideAsk" = some 3 by kernel_rfl).symm.trans hf) |>.symm
  obtain rfl : fn = Tryz.f3 := (Option.some.inj (Tryz.func3.symm.trans hfn)).symm
  refine ⟨by kernel_rfl, fun j t ht => ?_⟩
  rw [Tryz.params3] at ht
  have hm := Array.mem_of_getElem? ht
  have hall : ∀ t, t ∈ #[28, 31, 32, 3, 9] → Tryz.prog.wantsStandIn t = false := by
    have h : (#[28, 31, 32, 3, 9] : Array TypeId).all (fun t => Tryz.prog.wantsStandIn t == false) = true := by kernel_rfl
    intro t ht
    have := (Array.all_eq_true_iff_forall_mem).1 h t ht
    simpa using this
  exact hall t hm

theorem card : Rows.FnExactDecideAskCardSaid :=
  Claim7.holds_tied_plain_at .later [] _ _ _ _ said (fun _ h => by cases h) (by kernel_rfl) (fun _ h => by cases h) fnExactDecideAsk_row_tie rfl ⟨rfl, rfl⟩ (by kernel_rfl) rfl plain (by kernel_rfl)

end Go.Proofs.YtnbojbcljfiamaaGreatDoor.fnExactDecideAsk
namespace Go.Proofs.YtnbojbcljfiamaaGreatDoor
theorem fnExactDecideAsk_holds : Rows.FnExactDecideAskCardSaid := fnExactDecideAsk.card
#print axioms fnExactDecideAsk_holds
end Go.Proofs.YtnbojbcljfiamaaGreatDoor
