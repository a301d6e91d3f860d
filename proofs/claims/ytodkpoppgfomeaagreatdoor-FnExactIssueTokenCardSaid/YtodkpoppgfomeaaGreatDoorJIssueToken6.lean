/-
  Proved: for every issuer, two texts and two numbers the law FnExactIssueToken returns true, and nothing that was there is changed; the card.
-/
import Derived.Test.YtodkpoppgfomeaaGreatDoorJIssueToken0
import Derived.Test.YtodkpoppgfomeaaGreatDoorJIssueToken2
import Derived.Deep.RegionHeld3
import Derived.Test.YtodkpoppgfomeaaGreatDoorJIssueToken5
import Derived.Test.YtodkpoppgfomeaaGreatDoorJIssueToken1
import Derived.Test.YtodkpoppgfomeaaGreatDoorCards
import Derived.Test.YtodkpoppgfomeaaGreatDoorTie
import Derived.Test.YtodkpoppgfomeaaGreatDoorJIssueToken3
import Derived.WalkKit
import Derived.ProofKit
import Derived.OpenShut
import Derived.ShutString
import Derived.ChangeOld
import Derived.Below
import Derived.Lib.SmallJoins
import Derived.Deep.Slices
import Derived.Deep.DeepHandedRow
import Derived.Shelf.Vars
import Derived.Lay
import Derived.OpenVars
import Derived.Stop.LaidErr
namespace Go.Proofs.YtodkpoppgfomeaaGreatDoor
open Go.RowKit Go.Shelf

/-- The link that is laid at i, from the number k on. -/
def mkK (k i : Nat) : Lk := ⟨mkT (k + 5 * i), mkT (k + 5 * i + 1), ((k + 5 * i : Nat) : Int) + 2, ((k + 5 * i : Nat) : Int) + 3, ((k + 5 * i : Nat) : Int) + 4⟩
def mkKs (k n : Nat) : List Lk := (List.range n).map (mkK k)
theorem mkKs_len (k n : Nat) : (mkKs k n).length = n := by simp [mkKs]
theorem mkKs_succ (k n : Nat) : mkKs k (n + 1) = mkKs k n ++ [mkK k n] := by
  unfold mkKs
  rw [List.range_succ, List.map_append]
  rfl
theorem mkKs_at {k n i : Nat} (h : i < (mkKs k n).length) : (mkKs k n)[i] = mkK k i := by simp [mkKs]

set_option maxHeartbeats 2000000 in
set_option maxRecDepth 100000 in
theorem markLinkS_to (v : Value) (n k base : Nat) (xs : List Value) (w : World) (hn : n ≤ 1048577) (hk : k + 5 * n ≤ 8000000) (hrow : w.ownsRow base 52 5 v n xs) :
    Calls Tryz.prog 13 #[v, .int .i64 k] w fun e w' => e = .returned (.int .i64 ((k + 5 * n : Nat) : Int)) ∧ w'.ownsRow base 52 5 v n ((mkKs k n).flatMap Lk.cells) ∧ w.grownBy w' v.ownBlock := by
  rcases row_form hrow with ⟨rfl, rfl⟩ | ⟨g, cap, rfl, hg, hcap⟩
  · go_enter Tryz.func13, Tryz.ntmps13
    go_wp2
    refine wp_loop_rounds 1 ?_
    rw [rounds_succ]
    go_wp2
    go_ret
    exact ⟨rfl, World.ownsRow_nil _ _ _ _, ⟨rfl, rfl, rfl, Nat.le_refl _, fun _ _ _ => rfl⟩⟩
  · go_enter Tryz.func13, Tryz.ntmps13
    go_wp2
    go_loopw [1, 5] (fun kv i wr => ∃ (j c : Nat), j ≤ n ∧ c = k + 5 * j ∧ kv = .int .i64 c ∧ i = .int .i64 j ∧ ∃ ys, wr.ownsRow base 52 5 (.slice (some ⟨g, 0, none⟩) n cap) n ys ∧ ys.take (j * 5) = (mkKs k j).flatMap Lk.cells ∧ w.grownBy wr (some g)) (fun _ i _ => n - (intOf i).toNat)
    case atStart => exact ⟨0, k, Nat.zero_le _, by omega, rfl, rfl, xs, hrow, by simp [mkKs], grown_self _ _⟩
    case round =>
      obtain ⟨j, c, hj, hc, rfl, rfl, ys, row0, hx, hg0⟩ := hrel
      have HX := hid hx
      have HC := hid hc
      clear hx hc hrow
      have hc9 : c ≤ 8000000 := by have := HC.out; omega
      by_cases hlt : j < n
      · have hlen : ys.length = n * 5 := row0.1
        go_wp2_with fail
        refine (markText_at c _ _ rfl (by omega)).mono ?_
        rintro e v1 ⟨rfl, hB1⟩
        have row1 := ownsRow_below row0 hB1
        have hg1 := grown_below hg0 hB1
        clear row0 hg0 hB1
        have s0 := row1.cellAt (j * 5) (by have := row1.1; omega)
        rw [List.getElem?_eq_getElem (by have := row1.1; omega)] at s0
        have t0 := row1.frozenAt (j * 5)
        go_wp2_with fail
        have P1 := row1.stored (j * 5) (.string (mkT c))
        have hg1' := grown_two hg1 P1.2
        have row1' := P1.1
        clear P1 s0 t0 row1 hg1
        generalize v1.setCell ⟨g, j * 5, none⟩ (.string (mkT c)) = W1 at *
        refine (markText_at (c + 1) _ _ (by push_cast; omega) (by omega)).mono ?_
        rintro e v2 ⟨rfl, hB2⟩
        have row2 := ownsRow_below row1' hB2
        have hg2 := grown_below hg1' hB2
        clear row1' hg1' hB2
        have hl2 := row2.1
        have s1 := row2.cellAt (j * 5 + 1) (by omega)
        have s2 := row2.cellAt (j * 5 + 2) (by omega)
        have s3 := row2.cellAt (j * 5 + 3) (by omega)
        have s4 := row2.cellAt (j * 5 + 4) (by omega)
        rw [List.getElem?_eq_getElem (by omega)] at s1 s2 s3 s4
        have t1 := row2.frozenAt (j * 5 + 1)
        have t2 := row2.frozenAt (j * 5 + 2)
        have t3 := row2.frozenAt (j * 5 + 3)
        have t4 := row2.frozenAt (j * 5 + 4)
        have P1 := row2.stored (j * 5 + 1) (.string (mkT (c + 1)))
        have P2 := P1.1.stored (j * 5 + 2) (.int .i64 ((c : Int) + 2))
        have P3 := P2.1.stored (j * 5 + 3) (.int .i64 ((c : Int) + 3))
        have P4 := P3.1.stored (j * 5 + 4) (.int .i64 ((c : Int) + 4))
        have HP1 := hid P1.2
        have HP2 := hid P2.2
        have HP3 := hid P3.2
        have HP4 := hid P4.2
        have HO := hid P4.1
        clear P1 P2 P3 P4
        go_wp2_with fail
        have HM := hid (show mkKs k (j + 1) = mkKs k j ++ [⟨mkT c, mkT (c + 1), (c : Int) + 2, (c : Int) + 3, (c : Int) + 4⟩] by rw [mkKs_succ]; unfold mkK; rw [← HC.out])
        go_roundw
        case rel =>
          refine ⟨j + 1, c + 5, by omega, by have := HC.out; omega, by go_num, by go_num, _, HO.out, ?_, grown_two (grown_two (grown_two (grown_two hg2 HP1.out) HP2.out) HP3.out) HP4.out⟩
          rw [take_set5 _ _ _ _ _ _ _ (by omega), HX.out, HM.out, List.flatMap_append]
          simp
        case measure => simp [intOf]; omega
      · obtain rfl : j = n := by omega
        have HF := hid (show ys = (mkKs k j).flatMap Lk.cells by have := HX.out; rw [List.take_of_length_le (by have := row0.1; omega)] at this; exact this)
        go_wp2
        go_ret
        exact ⟨ret_int (by rw [HC.out]), by rw [← HF.out]; exact row0, hg0⟩

theorem markLinkS_any (v : Value) (n k base : Nat) (xs : List Value) (w : World) (hn : n ≤ 1048577) (hk : k ≤ 1) (hrow : w.ownsRow base 52 5 v n xs) :
    Calls Tryz.prog 13 #[v, .int .i64 k] w fun e w' => e = .returned (.int .i64 ((k + 5 * n : Nat) : Int)) ∧ w'.ownsRow base 52 5 v n ((mkKs k n).flatMap Lk.cells) ∧ w.grownBy w' v.ownBlock :=
  markLinkS_to v n k base xs w hn (by omega) hrow

end Go.Proofs.YtodkpoppgfomeaaGreatDoor

namespace Go.Proofs.YtodkpoppgfomeaaGreatDoor
open Go.RowKit Go.Shelf

set_option maxHeartbeats 2000000 in
set_option maxRecDepth 100000 in
theorem heldLinkS_to (v : Value) (n k : Nat) (w : World) (hn : n ≤ 1048577) (hk : k + 5 * n ≤ 8000000) (hr : LkS w v (mkKs k n)) :
    Calls Tryz.prog 15 #[v, .int .i64 k] w fun e w' => e = .returned (.int .i64 ((k + 5 * n : Nat) : Int)) ∧ Below w.heap.size w w' := by
  obtain ⟨a, cap, rfl⟩ := hr.len
  have hln := mkKs_len k n
  rw [hln] at hr ⊢
  clear hln
  go_enter Tryz.func15, Tryz.ntmps15
  go_wp2
  go_loopw [1, 5] (fun kv i wr => ∃ (j c : Nat), j ≤ n ∧ c = k + 5 * j ∧ kv = .int .i64 c ∧ i = .int .i64 j ∧ Below w.heap.size w wr) (fun _ i _ => n - (intOf i).toNat)
  case atStart => exact ⟨0, k, Nat.zero_le _, by omega, rfl, rfl, Below.refl _ _⟩
  case round =>
    obtain ⟨j, c, hj, hc, rfl, rfl, hB⟩ := hrel
    have HC := hid hc
    clear hc
    have hc9 : c ≤ 8000000 := by have := HC.out; omega
    by_cases hlt : j < n
    · obtain ⟨b, off, rfl, hb, hcap, q0, q1, q2, q3, q4⟩ := (hr.below hB).at (i := j) (by rw [mkKs_len]; exact hlt)
      rw [mkKs_at] at q0 q1 q2 q3 q4
      unfold mkK at q0 q1 q2 q3 q4
      dsimp only at q0 q1 q2 q3 q4
      rw [← HC.out] at q0 q1 q2 q3 q4
      clear hr
      go_wp2_with fail
      go_region_held3 (fun w' => w'.cell? ⟨b, off + j * 5, none⟩ = some (.string (mkT c))) (go_keep) (first | (go_at_call 48; refine (markText_at c _ _ rfl (by omega)).mono ?_; rintro e v1 ⟨rfl, hB1⟩; have r0 := (hB1.cell (p := ⟨b, off + j * 5, none⟩) (by exact hb)).trans (by exact q0); have r1 := (hB1.cell (p := ⟨b, off + j * 5 + 1, none⟩) (by exact hb)).trans (by exact q1); have r2 := (hB1.cell (p := ⟨b, off + j * 5 + 2, none⟩) (by exact hb)).trans (by exact q2); have r3 := (hB1.cell (p := ⟨b, off + j * 5 + 3, none⟩) (by exact hb)).trans (by exact q3); have r4 := (hB1.cell (p := ⟨b, off + j * 5 + 4, none⟩) (by exact hb)).trans (by exact q4); have hb1 := Nat.lt_of_lt_of_le hb hB1.size))
      have hBB1 := below_one hB (below_drew1 hB1)
      clear hB1
      go_wp2_with fail
      go_region_held3 (fun w' => w'.cell? ⟨b, off + j * 5 + 1, none⟩ = some (.string (mkT (c + 1)))) (go_keep) (first | (go_at_call 48; refine (markText_at (c + 1) _ _ (by push_cast; omega) (by omega)).mono ?_; rintro e v2 ⟨rfl, hB2⟩; have t1 := (hB2.cell (p := ⟨b, off + j * 5 + 1, none⟩) (by exact hb1)).trans (by exact r1); have t2 := (hB2.cell (p := ⟨b, off + j * 5 + 2, none⟩) (by exact hb1)).trans (by exact r2); have t3 := (hB2.cell (p := ⟨b, off + j * 5 + 3, none⟩) (by exact hb1)).trans (by exact r3); have t4 := (hB2.cell (p := ⟨b, off + j * 5 + 4, none⟩) (by exact hb1)).trans (by exact r4)))
      have hBB2 := below_one hBB1 (below_drew1 hB2)
      clear hB2
      go_wp2
      go_roundw
      case rel => first | exact ⟨j + 1, c + 5, by omega, by have := HC.out; omega, by go_num, by go_num, hBB2⟩ | ((repeat apply Exists.intro); exact ⟨⟨j + 1, c + 5, by omega, by have := HC.out; omega, by go_num, by go_num, hBB2⟩, rfl⟩)
      case measure => simp [intOf]; omega
    · obtain rfl : j = n := by omega
      go_wp2
      go_ret
      exact ⟨ret_int (by rw [HC.out]), hB⟩

theorem heldLinkS_any (v : Value) (n k : Nat) (w : World) (hn : n ≤ 1048577) (hk : k ≤ 1) (hr : LkS w v (mkKs k n)) :
    Calls Tryz.prog 15 #[v, .int .i64 k] w fun e w' => e = .returned (.int .i64 ((k + 5 * n : Nat) : Int)) ∧ Below w.heap.size w w' :=
  heldLinkS_to v n k w hn (by omega) hr

end Go.Proofs.YtodkpoppgfomeaaGreatDoor

namespace Go.Proofs.YtodkpoppgfomeaaGreatDoor
open Go.RowKit Go.Shelf

theorem eqLinkS_same (v v' : Value) (ks : List Lk) (w : World) (hm : ks.length ≤ 1048577) (h : LkS w v ks) (h' : LkS w v' ks) :
    Calls Tryz.prog 11 #[v, v'] w fun e w' => e = .returned (.bool true) ∧ Below w.heap.size w w' := by
  have q := eqLinkS_any v v' ks ks w hm hm h h'
  rw [lsS_refl] at q
  exact q
theorem itL_len (s : Is) (name tq : ByteArray) (nw li : Int) : (itL s name tq nw li).length ≤ 1 := by
  unfold itL
  split <;> simp
theorem seSet_len (ws : List Wk) (a : Nat) (z : Int) : (seSet ws a z).length = ws.length := by
  unfold seSet
  split <;> simp
theorem short_sg {s : Is} {ks : List Lk} {who : ByteArray} {x : Er} (hC : s.size ≤ 1048576) : (hdX x s ks who).short := by
  have hs : s.ws.length ≤ 1048576 ∧ s.rv.length ≤ 1048576 ∧ s.sg.length ≤ 1048576 := by
    unfold Is.size wzAll tzAll at hC
    exact ⟨by omega, by omega, by omega⟩
  obtain ⟨h1, h2, h3⟩ := hs
  cases x
  case bad => exact ⟨by simp [hdX, Is.none], by simp [hdX, Is.none], by simp [hdX, Is.none]⟩
  case nil =>
    refine ⟨?_, Nat.le_succ_of_le h2, ?_⟩
    · show (seSet s.ws (atW s.ws who) s.nx).length ≤ _
      rw [seSet_len]
      omega
    · show (s.sg ++ [tkT ks]).length ≤ _
      simp
      omega
  all_goals exact ⟨Nat.le_succ_of_le h1, Nat.le_succ_of_le h2, Nat.le_succ_of_le h3⟩
theorem many_sh {s : Is} (h : s.short) : 1 + s.many + 500 ≤ 8000000 := by
  obtain ⟨h1, h2, h3⟩ := h
  unfold Is.many
  omega

set_option maxHeartbeats 8000000 in
set_option maxRecDepth 100000 in
theorem issueLaw (v : Value) (s : Is) (name tq : ByteArray) (nw li : Int) (p0 p1 p2 p3 : Addr) (w : World) (hA : IsA w v s) (hf : s.fits) (hnm : name.size ≤ maxLen) (hnt : tq.size ≤ maxLen) (hE : ErA w p0 p1 p2 p3) (ht : Tab w) :
    Calls Tryz.prog 3 #[v, .string name, .string tq, .int .i64 nw, .int .i64 li] w fun e w' => e = .returned (.bool true) ∧ Below w.heap.size w w' := by
  obtain ⟨aw, cw, ar, cr, ag, cg, rfl⟩ := is_forms hA
  have hB0 : Below w.heap.size w (w.alloc (.cells #[.slice aw s.ws.length cw, .int .i64 s.nx, .slice ar s.rv.length cr, .slice ag s.sg.length cg] 26)) := (Below.refl _ w).alloc (Nat.le_refl _) _
  have F := Four.new w (.slice aw s.ws.length cw) (.int .i64 s.nx) (.slice ar s.rv.length cr) (.slice ag s.sg.length cg) 26
  unfold maxLen at hnm hnt
  by_cases hL0 : 1048576 < name.size
  · have dl0 : decide ((1048576 : Int) < (name.size : Int)) = true := by simp; omega
    go_enter Tryz.func3, Tryz.ntmps3
    go_wp2_with fail
    go_ret
    exact ⟨rfl, hB0⟩
  have dl0 : decide ((1048576 : Int) < (name.size : Int)) = false := by simp; omega
  by_cases hL1 : 1048576 < tq.size
  · have dl1 : decide ((1048576 : Int) < (tq.size : Int)) = true := by simp; omega
    go_enter Tryz.func3, Tryz.ntmps3
    go_wp2_with fail
    go_ret
    exact ⟨rfl, hB0⟩
  have dl1 : decide ((1048576 : Int) < (tq.size : Int)) = false := by simp; omega
  by_cases hC : s.size ≤ 1048576
  · have HU := hid (show leftI 1048576 s = 1048576 - s.size from if_pos (by omega))
    have d1 : decide ((1048576 : Int) - (s.size : Int) < 0) = false := by simp; omega
    have hS := is_short hC
    have hN := is_named hC
    go_enter Tryz.func3, Tryz.ntmps3
    go_wp2_with fail
    generalize w.alloc (.cells #[.slice aw s.ws.length cw, .int .i64 s.nx, .slice ar s.rv.length cr, .slice ag s.sg.length cg] 26) = W0 at *
    refine (szIssuer_any _ s _ hf (hA.below hB0)).mono ?_
    rintro e w1 ⟨rfl, hB1⟩
    rw [HU.out]
    replace F := F.below hB1
    have hBB := below_one hB0 hB1
    clear hB1 hB0
    obtain ⟨a0, a1, a2, a3⟩ := F.c
    go_wp2_with fail
    refine (toIssuer_any _ s _ hC (hA.below hBB)).mono ?_
    rintro e w2 ⟨v2, rfl, O2, hB2⟩
    obtain ⟨i0, i1, i2, i3, i4, i5, rfl⟩ := is_forms O2.a
    replace F := F.below hB2
    replace hBB := below_one hBB hB2
    clear hB2 a0 a1 a2 a3
    go_wp2_with fail
    obtain ⟨t, HT⟩ : ∃ t, Hid (t = hdX (itE s name tq nw li) s [itK s name tq nw li] name) := ⟨_, hid rfl⟩
    obtain ⟨cd, HD⟩ : ∃ cd, Hid (cd = (itE s name tq nw li).code) := ⟨_, hid rfl⟩
    obtain ⟨ks, HK⟩ : ∃ ks, Hid (ks = itL s name tq nw li) := ⟨_, hid rfl⟩
    refine (specIssue_any _ s name tq nw li _ _ _ hS hN (by omega) (by omega) O2).mono ?_
    rintro e w3 ⟨v3, vlw, he, OW, RW, hB3⟩
    rw [← HT.out] at OW
    rw [← HD.out] at he
    rw [← HK.out] at RW
    subst he
    have hSE := short_sg hC (x := itE s name tq nw li) (ks := [itK s name tq nw li]) (who := name)
    rw [← HT.out] at hSE
    have hme := many_sh hSE
    have hms := many_sh hS
    have hkl : ks.length ≤ 1 := by rw [HK.out]; exact itL_len _ _ _ _ _
    have rwlt : ∀ k, vlw.ownBlock = some k → k < w3.heap.size := fun k hk => (RW.lt k hk).2
    obtain ⟨j0, j1, j2, j3, j4, j5, rfl⟩ := is_forms OW.a
    replace F := F.below hB3
    replace hBB := below_one hBB hB3
    clear hB3 O2
    have hBv : Below w3.heap.size w3 (w3.alloc (.cells #[.slice j0 t.ws.length j1, .int .i64 t.nx, .slice j2 t.rv.length j3, .slice j4 t.sg.length j5] 30)) := (Below.refl _ w3).alloc (Nat.le_refl _) _
    have FW := Four.new w3 (.slice j0 t.ws.length j1) (.int .i64 t.nx) (.slice j2 t.rv.length j3) (.slice j4 t.sg.length j5) 30
    replace F := F.below hBv
    replace OW := OW.below hBv
    replace RW := ownsRow_below RW hBv
    replace hBB := below_one hBB hBv
    clear hBv
    obtain ⟨a0, a1, a2, a3⟩ := F.c
    go_wp2_with fail
    generalize w3.alloc (.cells #[.slice j0 t.ws.length j1, .int .i64 t.nx, .slice j2 t.rv.length j3, .slice j4 t.sg.length j5] 30) = W3' at *
    generalize w3.heap.size = kw at *
    have hkw : kw < W3'.heap.size := FW.lt
    have hT0 : w.heap.size < W3'.heap.size := F.lt
    refine (toIssuer_any _ s _ hC (hA.below hBB)).mono ?_
    rintro e w4 ⟨v4, rfl, OX, hB4⟩
    obtain ⟨x0, x1, x2, x3, x4, x5, rfl⟩ := is_forms OX.a
    have hs4 := hB4.size
    replace F := F.below hB4
    replace FW := FW.below hB4
    replace OW := OW.below hB4
    replace RW := ownsRow_below RW hB4
    replace hBB := below_one hBB hB4
    clear hB4 a0 a1 a2 a3
    have hBv : Below w4.heap.size w4 (w4.alloc (.cells #[.slice x0 s.ws.length x1, .int .i64 s.nx, .slice x2 s.rv.length x3, .slice x4 s.sg.length x5] 30)) := (Below.refl _ w4).alloc (Nat.le_refl _) _
    have FX := Four.new w4 (.slice x0 s.ws.length x1) (.int .i64 s.nx) (.slice x2 s.rv.length x3) (.slice x4 s.sg.length x5) 30
    replace F := F.below hBv
    replace FW := FW.below hBv
    replace OW := OW.below hBv
    replace OX := OX.below hBv
    replace RW := ownsRow_below RW hBv
    replace hBB := below_one hBB hBv
    clear hBv
    go_wp2_with fail
    generalize w4.alloc (.cells #[.slice x0 s.ws.length x1, .int .i64 s.nx, .slice x2 s.rv.length x3, .slice x4 s.sg.length x5] 30) = W4' at *
    generalize w4.heap.size = kx at *
    have hkx : kx < W4'.heap.size := FX.lt
    refine (implIssue_any _ s name tq nw li p0 p1 p2 p3 _ _ _ hS hN (by omega) (by omega) (hE.below hBB) OX (ht.on hBB)).mono ?_
    rintro e w5 ⟨v5, vlg, m5, he, hm5, OG5, RG, hgm5, hB5⟩
    rw [← HT.out] at OG5
    rw [← HD.out] at he
    rw [← HK.out] at RG
    subst he
    have rglt : ∀ k, vlg.ownBlock = some k → W4'.heap.size ≤ k ∧ k < w5.heap.size := fun k hk => RG.lt k hk
    have hs5 := hB5.size
    obtain ⟨m, hm1, hm2, OG, hgm⟩ : ∃ m, W4'.heap.size ≤ m ∧ m ≤ w5.heap.size ∧ IsO w5 m w5.heap.size v5 t ∧ ∀ k, vlg.ownBlock = some k → k < m :=
      ⟨min m5 w5.heap.size, by omega, by omega, OG5.mono (by omega) (Nat.le_refl _), fun k hk => by have h1 := hgm5 k hk; have h2 := (rglt k hk).2; omega⟩
    clear OG5 hgm5 hm5
    obtain ⟨g0, g1, g2, g3, g4, g5, rfl⟩ := is_forms OG.a
    replace F := F.below hB5
    replace FW := FW.below hB5
    replace FX := FX.below hB5
    replace OW := OW.below hB5
    replace OX := OX.below hB5
    replace RW := ownsRow_below RW hB5
    replace hBB := below_one hBB hB5
    clear hB5
    have hBv : Below w5.heap.size w5 (w5.alloc (.cells #[.slice g0 t.ws.length g1, .int .i64 t.nx, .slice g2 t.rv.length g3, .slice g4 t.sg.length g5] 30)) := (Below.refl _ w5).alloc (Nat.le_refl _) _
    have FG := Four.new w5 (.slice g0 t.ws.length g1) (.int .i64 t.nx) (.slice g2 t.rv.length g3) (.slice g4 t.sg.length g5) 30
    replace F := F.below hBv
    replace FW := FW.below hBv
    replace FX := FX.below hBv
    replace OW := OW.below hBv
    replace OX := OX.below hBv
    replace OG := OG.below hBv
    replace RW := ownsRow_below RW hBv
    replace RG := ownsRow_below RG hBv
    replace hBB := below_one hBB hBv
    clear hBv
    obtain ⟨b0, b1, b2, b3⟩ := FW.c
    have ec : (cd != cd) = false := by simp
    go_wp2_with fail
    generalize w5.alloc (.cells #[.slice g0 t.ws.length g1, .int .i64 t.nx, .slice g2 t.rv.length g3, .slice g4 t.sg.length g5] 30) = W5' at *
    generalize w5.heap.size = kg at *
    have hkg : kg < W5'.heap.size := FG.lt
    refine (eqIssuer_same _ _ t _ hSE OG.a OW.a).mono ?_
    rintro e w6a ⟨rfl, hB6⟩
    replace F := F.below hB6
    replace FW := FW.below hB6
    replace FX := FX.below hB6
    replace FG := FG.below hB6
    replace OW := OW.below hB6
    replace OX := OX.below hB6
    replace OG := OG.below hB6
    replace RW := ownsRow_below RW hB6
    replace RG := ownsRow_below RG hB6
    replace hBB := below_one hBB hB6
    clear hB6 b0 b1 b2 b3
    go_wp2_with fail
    refine (eqLinkS_same _ _ ks _ (by omega) (LkS.own RG) (LkS.own RW)).mono ?_
    rintro e w6 ⟨rfl, hB6⟩
    replace F := F.below hB6
    replace FW := FW.below hB6
    replace FX := FX.below hB6
    replace FG := FG.below hB6
    replace OW := OW.below hB6
    replace OX := OX.below hB6
    replace OG := OG.below hB6
    replace RW := ownsRow_below RW hB6
    replace RG := ownsRow_below RG hB6
    replace hBB := below_one hBB hB6
    clear hB6
    obtain ⟨a0, a1, a2, a3⟩ := F.c
    obtain ⟨b0, b1, b2, b3⟩ := FX.c
    go_wp2_with fail
    refine wp_region_held_drew (S := fun w' => w'.cell? ⟨kx, 0, none⟩ = some (.slice x0 s.ws.length x1) ∧ w'.cell? ⟨kx, 1, none⟩ = some (.int .i64 s.nx) ∧ w'.cell? ⟨kx, 2, none⟩ = some (.slice x2 s.rv.length x3) ∧ w'.cell? ⟨kx, 3, none⟩ = some (.slice x4 s.sg.length x5) ∧ w'.cell? ⟨w.heap.size, 0, none⟩ = some (.slice aw s.ws.length cw) ∧ w'.cell? ⟨w.heap.size, 1, none⟩ = some (.int .i64 s.nx) ∧ w'.cell? ⟨w.heap.size, 2, none⟩ = some (.slice ar s.rv.length cr) ∧ w'.cell? ⟨w.heap.size, 3, none⟩ = some (.slice ag s.sg.length cg)) (by kernel_rfl) ?_ (fun hHeld => ?_)
    · go_keep
    refine takeW 0 (v := ?v4) rfl (by kernel_rfl) (by kernel_rfl) (by kernel_rfl) (fun _ _ _ h => h) (by rfl) (by assumption) ?hy4 ?rest4
    case hy4 => intro w' hSw; (try dsimp only at hSw); go_simp; try with_reducible rfl
    try simp only [Act.put, List.setIfInBounds_toArray, List.set_cons_zero, List.set_cons_succ]
    refine takeW 1 (v := ?v5) rfl (by kernel_rfl) (by kernel_rfl) (by kernel_rfl) (fun _ _ _ h => h) (by rfl) (by assumption) ?hy5 ?rest5
    case hy5 => intro w' hSw; (try dsimp only at hSw); go_simp; try with_reducible rfl
    try simp only [Act.put, List.setIfInBounds_toArray, List.set_cons_zero, List.set_cons_succ]
    refine takeC 2 (by kernel_rfl) rfl (fun K hK => ?_)
    go_simp
    refine (toIssuer_any _ s _ hC (by exact (hA.below hBB).below (Below.refl _ _).drew)).mono ?_; rintro e w9 ⟨v9, rfl, O9, hB9⟩; have hcx := fun o => hB9.cell (p := ⟨kx, o, none⟩) (by exact FX.lt); have hca := fun o => hB9.cell (p := ⟨w.heap.size, o, none⟩) (by exact F.lt)
    refine hK.out _ _ ?_ (fun hHeld => ?_)
    · go_keep
    clear hK K
    try simp only [Act.put, List.setIfInBounds_toArray, List.set_cons_zero, List.set_cons_succ]
    refine takeC 3 (by kernel_rfl) rfl (fun K hK => ?_)
    go_simp
    refine (eqIssuer_same _ _ s _ hS (by exact (OX.below (below_drew1 hB9)).a) O9.a).mono ?_; rintro e w10 ⟨rfl, hB10⟩; have hcx2 := fun o => hB10.cell (p := ⟨kx, o, none⟩) (by exact Nat.lt_of_lt_of_le FX.lt (below_drew1 hB9).size); have hca2 := fun o => hB10.cell (p := ⟨w.heap.size, o, none⟩) (by exact Nat.lt_of_lt_of_le F.lt (below_drew1 hB9).size)
    refine hK.out _ _ ?_ (fun hHeld => ?_)
    · go_keep
    clear hK K
    try simp only [Act.put, List.setIfInBounds_toArray, List.set_cons_zero, List.set_cons_succ]
    refine takeW 4 (v := ?v6) rfl (by kernel_rfl) (by kernel_rfl) (by kernel_rfl) (fun _ _ _ h => h) (by rfl) (by assumption) ?hy6 ?rest6
    case hy6 => intro w' hSw; (try dsimp only at hSw); go_simp; try with_reducible rfl
    try simp only [Act.put, List.setIfInBounds_toArray, List.set_cons_zero, List.set_cons_succ]
    refine wpAnyH_done (by kernel_rfl) ?_ _
    have hBd : Below w6.heap.size w6 w10 := below_one (below_drew1 hB9) hB10
    clear hcx hca hcx2 hca2 hB9 hB10 hHeld O9 a0 a1 a2 a3 b0 b1 b2 b3
    replace F := F.below hBd
    replace FW := FW.below hBd
    replace FX := FX.below hBd
    replace FG := FG.below hBd
    replace OW := OW.below hBd
    replace OX := OX.below hBd
    replace OG := OG.below hBd
    replace RW := ownsRow_below RW hBd
    replace RG := ownsRow_below RG hBd
    replace hBB := below_one hBB hBd
    have hsd := hBd.size
    clear hBd
    obtain ⟨b0, b1, b2, b3⟩ := FX.c
    go_wp2_with fail
    obtain ⟨c1, HC1⟩ : ∃ c, Hid (c = 1 + s.many) := ⟨_, hid rfl⟩
    obtain ⟨c2, HC2⟩ : ∃ c, Hid (c = 1 + t.many) := ⟨_, hid rfl⟩
    obtain ⟨c3, HC3⟩ : ∃ c, Hid (c = c2 + 5 * ks.length) := ⟨_, hid rfl⟩
    have hc3 : c2 + 5 * ks.length ≤ 8000000 := by have := HC2.out; omega
    have hlx := FX.lt
    have hlg := FG.lt
    refine (markIssuer_any _ s 1 _ _ _ hS (by omega) (by omega) OX).mono ?_
    rintro e w11 ⟨rfl, _, M1⟩
    rw [← HC1.out]
    replace F := M1.four F (.inl hT0)
    replace FW := M1.four FW (.inl hkw)
    replace FX := M1.four FX (.inr (Nat.le_refl _))
    replace FG := M1.four FG (.inr (by omega))
    replace OW := M1.iso OW (.inr (by omega))
    replace OG := M1.iso OG (.inl (by omega))
    replace RW := M1.row RW (fun k hk => .inl (by have := rwlt k hk; omega))
    replace RG := M1.row RG (fun k hk => .inr (by have := (rglt k hk).1; omega))
    replace hBB := hBB.trans (M1.below (n := w.heap.size) (by omega) hBB.size)
    clear M1 b0 b1 b2 b3 OX
    have dk : decide ((c1 : Int) < 0) = false := by simp
    obtain ⟨b0, b1, b2, b3⟩ := FW.c
    obtain ⟨n0, n1, n2, n3⟩ := FG.c
    go_wp2_with fail
    refine (eqIssuer_same _ _ t _ hSE OG.a OW.a).mono ?_
    rintro e w12a ⟨rfl, hB12⟩
    replace F := F.below hB12
    replace FW := FW.below hB12
    replace FX := FX.below hB12
    replace FG := FG.below hB12
    replace OW := OW.below hB12
    replace OG := OG.below hB12
    replace RW := ownsRow_below RW hB12
    replace RG := ownsRow_below RG hB12
    replace hBB := below_one hBB hB12
    clear hB12 b0 b1 b2 b3 n0 n1 n2 n3
    go_wp2_with fail
    refine (eqLinkS_same _ _ ks _ (by omega) (LkS.own RG) (LkS.own RW)).mono ?_
    rintro e w12 ⟨rfl, hB12⟩
    replace F := F.below hB12
    replace FW := FW.below hB12
    replace FX := FX.below hB12
    replace FG := FG.below hB12
    replace OW := OW.below hB12
    replace OG := OG.below hB12
    replace RW := ownsRow_below RW hB12
    replace RG := ownsRow_below RG hB12
    replace hBB := below_one hBB hB12
    clear hB12
    obtain ⟨n0, n1, n2, n3⟩ := FG.c
    have hlg2 := FG.lt
    go_wp2_with fail
    refine (markIssuer_any _ t 1 _ _ _ hSE (by omega) (by omega) OG).mono ?_
    rintro e w13 ⟨rfl, OG', M2⟩
    rw [← HC2.out]
    replace F := M2.four F (.inl (by omega))
    replace FW := M2.four FW (.inl (by omega))
    replace FG := M2.four FG (.inr (Nat.le_refl _))
    replace OW := M2.iso OW (.inr (by omega))
    replace RW := M2.row RW (fun k hk => .inl (by have := rwlt k hk; omega))
    replace RG := M2.row RG (fun k hk => .inl (hgm k hk))
    replace hBB := hBB.trans (M2.below (n := w.heap.size) (by omega) hBB.size)
    clear M2 n0 n1 n2 n3 OG FX
    go_wp2_with fail
    refine (markLinkS_to _ ks.length c2 _ _ _ (by omega) hc3 RG).mono ?_
    rintro e w13b ⟨rfl, RG', hg13⟩
    rw [← HC3.out]
    have M3 : Mid W4'.heap.size m _ w13b := Mid.of_grown hg13 (fun k hk => ⟨(rglt k hk).1, hgm k hk⟩)
    replace F := M3.four F (.inl (by omega))
    replace FW := M3.four FW (.inl (by omega))
    replace FG := M3.four FG (.inr (by omega))
    replace OW := M3.iso OW (.inr (by omega))
    replace OG' := M3.iso OG' (.inl (Nat.le_refl _))
    replace RW := M3.row RW (fun k hk => .inl (by have := rwlt k hk; omega))
    replace hBB := hBB.trans (M3.below (n := w.heap.size) (by omega) hBB.size)
    clear M3 hg13 RG
    obtain ⟨n0, n1, n2, n3⟩ := FG.c
    go_wp2_with fail
    refine (heldIssuer_any _ t 1 _ hSE (by omega) OG'.a).mono ?_
    rintro e w14a ⟨rfl, hB14⟩
    rw [← HC2.out]
    replace F := F.below hB14
    replace FW := FW.below hB14
    replace FG := FG.below hB14
    replace OW := OW.below hB14
    replace OG' := OG'.below hB14
    replace RW := ownsRow_below RW hB14
    replace RG' := ownsRow_below RG' hB14
    replace hBB := below_one hBB hB14
    clear hB14 n0 n1 n2 n3
    have dq : decide ((c2 : Int) < 0) = false := by simp
    go_wp2_with fail
    refine (heldLinkS_to _ ks.length c2 _ (by omega) hc3 (LkS.own (rs := mkKs c2 ks.length) (by rw [mkKs_len]; exact RG'))).mono ?_
    rintro e w14 ⟨rfl, hB14⟩
    rw [← HC3.out]
    replace F := F.below hB14
    replace FW := FW.below hB14
    replace FG := FG.below hB14
    replace OW := OW.below hB14
    replace OG' := OG'.below hB14
    replace RW := ownsRow_below RW hB14
    replace RG' := ownsRow_below RG' hB14
    replace hBB := below_one hBB hB14
    clear hB14
    have dq3 : decide ((c3 : Int) < 0) = false := by simp
    have eq3 : ((c3 : Int) != (c3 : Int)) = false := by simp
    obtain ⟨a0, a1, a2, a3⟩ := F.c
    go_wp2_with fail
    refine (toIssuer_any _ s _ hC (hA.below hBB)).mono ?_
    rintro e w15 ⟨v15, rfl, OY, hB15⟩
    obtain ⟨y0, y1, y2, y3, y4, y5, rfl⟩ := is_forms OY.a
    clear a0 a1 a2 a3 F
    replace FW := FW.below hB15
    replace FG := FG.below hB15
    replace OW := OW.below hB15
    replace OG' := OG'.below hB15
    replace RW := ownsRow_below RW hB15
    replace RG' := ownsRow_below RG' hB15
    replace hBB := below_one hBB hB15
    clear hB15
    go_wp2_with fail
    refine (implIssue_any _ s name tq nw li p0 p1 p2 p3 _ _ _ hS hN (by omega) (by omega) (hE.below hBB) OY (ht.on hBB)).mono ?_
    rintro e w16 ⟨v16, vlh, mh, he, _, OH, RH, _, hB16⟩
    rw [← HT.out] at OH
    rw [← HD.out] at he
    rw [← HK.out] at RH
    subst he
    obtain ⟨q0, q1, q2, q3, q4, q5, rfl⟩ := is_forms OH.a
    replace FW := FW.below hB16
    replace FG := FG.below hB16
    replace OW := OW.below hB16
    replace OG' := OG'.below hB16
    replace RW := ownsRow_below RW hB16
    replace RG' := ownsRow_below RG' hB16
    replace hBB := below_one hBB hB16
    clear hB16
    have hBv : Below w16.heap.size w16 (w16.alloc (.cells #[.slice q0 t.ws.length q1, .int .i64 t.nx, .slice q2 t.rv.length q3, .slice q4 t.sg.length q5] 30)) := (Below.refl _ w16).alloc (Nat.le_refl _) _
    have FH := Four.new w16 (.slice q0 t.ws.length q1) (.int .i64 t.nx) (.slice q2 t.rv.length q3) (.slice q4 t.sg.length q5) 30
    replace FW := FW.below hBv
    replace FG := FG.below hBv
    replace OW := OW.below hBv
    replace OG' := OG'.below hBv
    replace OH := OH.below hBv
    replace RW := ownsRow_below RW hBv
    replace RH := ownsRow_below RH hBv
    replace RG' := ownsRow_below RG' hBv
    replace hBB := below_one hBB hBv
    clear hBv
    obtain ⟨b0, b1, b2, b3⟩ := FW.c
    go_wp2_with fail
    generalize w16.alloc (.cells #[.slice q0 t.ws.length q1, .int .i64 t.nx, .slice q2 t.rv.length q3, .slice q4 t.sg.length q5] 30) = W16' at *
    generalize w16.heap.size = kh at *
    refine (eqIssuer_same _ _ t _ hSE OH.a OW.a).mono ?_
    rintro e w17a ⟨rfl, hB17⟩
    replace FW := FW.below hB17
    replace FG := FG.below hB17
    replace OW := OW.below hB17
    replace OG' := OG'.below hB17
    replace RW := ownsRow_below RW hB17
    replace RH := ownsRow_below RH hB17
    replace RG' := ownsRow_below RG' hB17
    replace hBB := below_one hBB hB17
    clear hB17 b0 b1 b2 b3
    go_wp2_with fail
    refine (eqLinkS_same _ _ ks _ (by omega) (LkS.own RH) (LkS.own RW)).mono ?_
    rintro e w17 ⟨rfl, hB17⟩
    replace FG := FG.below hB17
    replace OG' := OG'.below hB17
    replace RG' := ownsRow_below RG' hB17
    replace hBB := below_one hBB hB17
    clear hB17
    obtain ⟨n0, n1, n2, n3⟩ := FG.c
    go_wp2_with fail
    refine (heldIssuer_any _ t 1 _ hSE (by omega) OG'.a).mono ?_
    rintro e w18a ⟨rfl, hB18⟩
    rw [← HC2.out]
    replace RG' := ownsRow_below RG' hB18
    replace hBB := below_one hBB hB18
    clear hB18 n0 n1 n2 n3
    go_wp2_with fail
    refine (heldLinkS_to _ ks.length c2 _ (by omega) hc3 (LkS.own (rs := mkKs c2 ks.length) (by rw [mkKs_len]; exact RG'))).mono ?_
    rintro e w18 ⟨rfl, hB18⟩
    rw [← HC3.out]
    replace hBB := below_one hBB hB18
    clear hB18
    go_wp2_with fail
    go_ret
    exact ⟨rfl, hBB⟩
  · have HU := hid (show leftI 1048576 s = -1 from if_neg (by omega))
    go_enter Tryz.func3, Tryz.ntmps3
    go_wp2_with fail
    generalize w.alloc (.cells #[.slice aw s.ws.length cw, .int .i64 s.nx, .slice ar s.rv.length cr, .slice ag s.sg.length cg] 26) = W0 at *
    refine (szIssuer_any _ s _ hf (hA.below hB0)).mono ?_
    rintro e w1 ⟨rfl, hB1⟩
    rw [HU.out]
    have hBB1 := below_one hB0 hB1
    clear hB1 hB0
    go_wp2_with fail
    go_ret
    exact ⟨rfl, hBB1⟩

end Go.Proofs.YtodkpoppgfomeaaGreatDoor

namespace Go.Proofs.YtodkpoppgfomeaaGreatDoor.fnExactIssueToken
open Go.ChangeShapes Go.WideShapes Go.ChangeAt Go.RowKit Go.Joins Go.Deep Go.Proofs.YtodkpoppgfomeaaGreatDoor
open Go.ChangeMaps (open_string shut_string)

theorem laidOut : laidOutB Tryz.prog = true := by kernel_rfl

set_option maxRecDepth 100000 in
theorem contract (H : Type) (enc : TypeId × Value → H) (W : World) (base : Nat) (args : Array Value) (ds gs : List (DataW H)) (before : List MemPlace)
    (hval : ∀ (j : Nat) t v, Tryz.f3.params[j]? = some t → args[j]? = some v → Value.okWide Tryz.prog W .any base t v)
    (hW : DataW.Whole enc Tryz.prog Tryz.f3.params.toList Rows.fnExactIssueTokenSpec.vars false W args.toList ds gs before) (hL : laidMetH Tryz.prog Rows.fnExactIssueTokenRow.laid W) :
    Calls Tryz.prog 3 args W fun e W' => ∃ v, e = .returned v ∧ Rows.fnExactIssueTokenSpec.post enc Tryz.prog Tryz.f3 false true false false W args v W' := by
  have hW' := hW
  obtain ⟨p, q, hA0, hV, rfl, _, _⟩ := hW
  have hA : DataW.TrodAll enc Tryz.prog W 0 (fun _ => true) true Tryz.f3.params.toList args.toList ds p := hA0
  rw [Tryz.params3] at hA hval
  obtain ⟨v0, vs0, d0, ds0, p0, q0, hargs, rfl, rfl, h0, r0⟩ := trodAll_cons hA
  obtain ⟨v1, vs1, d1, ds1, p1, q1, rfl, rfl, rfl, h1, r1⟩ := trodAll_cons r0
  obtain ⟨v2, vs2, d2, ds2, p2, q2, rfl, rfl, rfl, h2, r2⟩ := trodAll_cons r1
  obtain ⟨v3, vs3, d3, ds3, p3, q3, rfl, rfl, rfl, h3, r3⟩ := trodAll_cons r2
  obtain ⟨v4, vs4, d4, ds4, p4, q4, rfl, rfl, rfl, h4, r4⟩ := trodAll_cons r3
  obtain ⟨rfl, rfl, rfl⟩ := trodAll_nil r4
  obtain rfl : args = #[v0, v1, v2, v3, v4] := by cases args; simp_all
  have hVN : DataW.TrodVars enc Tryz.prog W (fun _ => true) Rows.fnExactIssueTokenSpec.vars gs q := hV
  obtain ⟨b0, b1, b2, b3, rfl⟩ : ∃ b0 b1 b2 b3, gs = [b0, b1, b2, b3] := by
    clear hVN hW'
    match gs, hV with
    | [b0, b1, b2, b3], _ => exact ⟨b0, b1, b2, b3, rfl⟩
    | [], h => exact absurd h (by rintro h; exact h)
    | [b0], h => exact absurd h (by rintro ⟨_, _, _, _, _, _, _, _, _, _, h, _⟩; exact h)
    | [b0, b1], h => exact absurd h (by rintro ⟨_, _, _, _, _, _, _, _, _, _, ⟨_, _, _, _, _, _, _, _, _, _, h, _⟩, _⟩; exact h)
    | [b0, b1, b2], h => exact absurd h (by rintro ⟨_, _, _, _, _, _, _, _, _, _, ⟨_, _, _, _, _, _, _, _, _, _, ⟨_, _, _, _, _, _, _, _, _, _, h, _⟩, _⟩, _⟩; exact h)
    | b0 :: b1 :: b2 :: b3 :: _ :: _, h => exact absurd h (by rintro ⟨_, _, _, _, _, _, _, _, _, _, ⟨_, _, _, _, _, _, _, _, _, _, ⟨_, _, _, _, _, _, _, _, _, _, ⟨_, _, _, _, _, _, _, _, _, _, h, _⟩, _⟩, _⟩, _⟩; exact h)
  clear hV
  have k0 := h0
  have lt0 : ∀ x ∈ p0, x.block < W.heap.size := by obtain ⟨m, hm⟩ := k0; exact DataW.trod_lt m _ _ _ hm
  obtain ⟨a0, w0, f0⟩ := openIs (hval 0 26 v0 rfl rfl) h0
  have k1 := h1
  have lt1 : ∀ x ∈ p1, x.block < W.heap.size := by obtain ⟨m, hm⟩ := k1; exact DataW.trod_lt m _ _ _ hm
  obtain ⟨a1, rfl, _, _, w1⟩ := open_string Tryz.underlying9 (hval 1 9 v1 rfl rfl) h1
  have k2 := h2
  have lt2 : ∀ x ∈ p2, x.block < W.heap.size := by obtain ⟨m, hm⟩ := k2; exact DataW.trod_lt m _ _ _ hm
  obtain ⟨a2, rfl, _, _, w2⟩ := open_string Tryz.underlying9 (hval 2 9 v2 rfl rfl) h2
  have k3 := h3
  have lt3 : ∀ x ∈ p3, x.block < W.heap.size := by obtain ⟨m, hm⟩ := k3; exact DataW.trod_lt m _ _ _ hm
  obtain ⟨a3, rfl, _, _, w3⟩ := open_int Tryz.underlying3 (hval 3 3 v3 rfl rfl) h3
  have k4 := h4
  have lt4 : ∀ x ∈ p4, x.block < W.heap.size := by obtain ⟨m, hm⟩ := k4; exact DataW.trod_lt m _ _ _ hm
  obtain ⟨a4, rfl, _, _, w4⟩ := open_int Tryz.underlying3 (hval 4 3 v4 rfl rfl) h4
  obtain ⟨⟨e0, e1, e2, e3, hE⟩, hT⟩ := fltT_of hL
  clear hA0
  refine (issueLaw v0 a0 a1 a2 a3 a4 e0 e1 e2 e3 W w0 f0 w1 w2 hE hT).mono fun e W' ⟨he, bel⟩ => ?_
  subst he
  exact ⟨_, rfl, _, _, _, [], _, _, hW', trodAll_mk1 (shut_bool Tryz.underlying4 _), (trodAll_cons_mk (Below.trod laidOut (by kernel_rfl) (of_decide_eq_true (by kernel_rfl)) k0 bel lt0) (trodAll_cons_mk (Below.trod laidOut (by kernel_rfl) (of_decide_eq_true (by kernel_rfl)) k1 bel lt1) (trodAll_cons_mk (Below.trod laidOut (by kernel_rfl) (of_decide_eq_true (by kernel_rfl)) k2 bel lt2) (trodAll_cons_mk (Below.trod laidOut (by kernel_rfl) (of_decide_eq_true (by kernel_rfl)) k3 bel lt3) (trodAll_cons_mk (Below.trod laidOut (by kernel_rfl) (of_decide_eq_true (by kernel_rfl)) k4 bel lt4) trodAll_mk0))))), Below.trodVars laidOut bel (by kernel_rfl) hVN, bel.frame _, fun h => by cases h⟩

set_option maxRecDepth 100000 in
theorem lifted (os : Os) (started : os.Started) (H : Type) (enc : TypeId × Value → H) (F : Stop.Interp) :
    ReturnsInHanded {} Tryz.checked os 3 .any ((OpenSpec.ofChange Rows.fnExactIssueTokenSpec).preRow enc Tryz.prog Tryz.f3 Rows.fnExactIssueTokenRow.domain false Rows.fnExactIssueTokenRow.laid) (((OpenSpec.ofChange Rows.fnExactIssueTokenSpec).at F).post enc Tryz.prog Tryz.f3 false true false false) := by
  refine returnsInHanded_of_row (C := Tryz.checked) (s := OpenSpec.ofChange Rows.fnExactIssueTokenSpec) flt_own started (by kernel_rfl) Tryz.func3
    (witness_row_at (enc := enc) (C := Tryz.checked) false (fltTWorld os) #[.agg #[.slice none 0 0, .int .i64 0, .slice none 0 0, .slice none 0 0], .string ByteArray.empty, .string ByteArray.empty, .int .i64 0, .int .i64 0] (World.layVars_os _ _ _) (by kernel_rfl) (by kernel_rfl) (by kernel_rfl)
      (OpenSpec.preRow_of_B rfl 8 (by kernel_rfl) (by kernel_rfl) (fltT_met os _))) ?_
  intro W base args ds gs before hval hW _ _ _ hL _ _
  exact contract H enc W base args ds gs before hval hW hL

theorem said : Rows.FnExactIssueTokenSaid :=
  OpenClaim.holds_of_cond 3 Tryz.f3 rfl rfl rfl rfl rfl rfl rfl ⟨rfl, rfl, rfl, rfl, rfl⟩ rfl rfl rfl rfl rfl (by kernel_rfl) Tryz.func3 (by kernel_rfl)
    (of_decide_eq_true (by kernel_rfl)) (by unfold Func.isWrapper; first | (rw [if_pos (by decide +kernel)]; kernel_rfl) | (rw [if_neg (by decide +kernel)]; exact ⟨rfl, rfl⟩))
    (fun os started H enc _ F => by rw [OpenClaim.pre_eq_preRow]; exact lifted os started H enc F)

theorem plain (f : FuncId) (fn : Func) (hf : Tryz.pinned.checked.prog.funcNamed "loop.example/g00167/laws.FnExactIssueToken" = some f) (hfn : Tryz.pinned.checked.prog.funcs[f]? = some fn) :
    Rows.fnExactIssueTokenCard.stood.looks = Tryz.pinned.checked.prog.looks [] ∧ ∀ (j : Nat) t, fn.params[j]? = some t → Tryz.pinned.checked.prog.wantsStandIn t = false := by
  obtain rfl : f = 3 := Option.some.inj ((show Tryz.prog.funcNamed "loop.example/g00167/laws.FnExactIssueToken" = some 3 by kernel_rfl).symm.trans hf) |>.symm
  obtain rfl : fn = Tryz.f3 := (Option.some.inj (Tryz.func3.symm.trans hfn)).symm
  refine ⟨by kernel_rfl, fun j t ht => ?_⟩
  rw [Tryz.params3] at ht
  have hm := Array.mem_of_getElem? ht
  have hall : ∀ t, t ∈ #[26, 9, 9, 3, 3] → Tryz.prog.wantsStandIn t = false := by
    have h : (#[26, 9, 9, 3, 3] : Array TypeId).all (fun t => Tryz.prog.wantsStandIn t == false) = true := by kernel_rfl
    intro t ht
    have := (Array.all_eq_true_iff_forall_mem).1 h t ht
    simpa using this
  exact hall t hm

theorem card : Rows.FnExactIssueTokenCardSaid :=
  Claim7.holds_tied_plain_at .later [] _ _ _ _ said (fun _ h => by cases h) (by kernel_rfl) (fun _ h => by cases h) fnExactIssueToken_row_tie rfl ⟨rfl, rfl⟩ (by kernel_rfl) rfl plain (by kernel_rfl)

end Go.Proofs.YtodkpoppgfomeaaGreatDoor.fnExactIssueToken
namespace Go.Proofs.YtodkpoppgfomeaaGreatDoor
theorem fnExactIssueToken_holds : Rows.FnExactIssueTokenCardSaid := fnExactIssueToken.card
#print axioms fnExactIssueToken_holds
end Go.Proofs.YtodkpoppgfomeaaGreatDoor
