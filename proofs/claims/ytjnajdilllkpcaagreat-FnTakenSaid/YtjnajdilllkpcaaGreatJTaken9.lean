/-
  Proved: for every slice of bytes the law FnTaken returns true, and nothing that was there is changed; no condition.
-/
import Derived.Deep.DeepCutAuto
import Derived.Test.YtjnajdilllkpcaaGreatJTaken8
import Derived.Test.YtjnajdilllkpcaaGreatJTaken6
import Derived.Test.YtjnajdilllkpcaaGreatJTaken2
import Derived.Test.YtjnajdilllkpcaaGreatJTaken3
import Derived.Deep.RegionHeld3
import Derived.Test.YtjnajdilllkpcaaGreatJTaken1
import Derived.WalkKit
import Derived.ProofKit
import Derived.OpenShut
import Derived.ChangeSlices
import Derived.SizedLaws
import Derived.Test.YtjnajdilllkpcaaGreatRows
import Derived.ChangeOld
import Derived.Below
import Derived.Lib.SmallJoins
import Derived.Deep.Slices
namespace Go.Proofs.YtjnajdilllkpcaaGreat
open Go.RowKit Go.Shelf

theorem cm_good_r {s : Sd} (h : sdB s = true) (hn : (miT s s.ha.length).isEmpty = true) : ∀ r ∈ cmR s s.ha.length, r.good = true := by
  intro r hr
  obtain ⟨g1, g2, g3, g4⟩ := sd_parts h
  unfold cmR at hr
  obtain ⟨i, hi, rfl⟩ := List.mem_map.1 hr
  rw [List.mem_filter, List.mem_range] at hi
  have hp := pl_at g4 hi.1
  unfold plA at hp
  rw [miT_none hn i hi.1] at hp
  unfold spotB at hp
  rw [if_pos rfl, if_pos hi.2] at hp
  exact hp
theorem cm_pol {s : Sd} (h : sdB s = true) (hl : loB s) (hn : (miT s s.ha.length).isEmpty = true) : polB (cmR s s.ha.length) = true := by
  have h1 := loB_few hl hn
  have h2 := cm_good_r h hn
  unfold polB
  rw [Bool.and_eq_true, decide_eq_true_eq, List.all_eq_true]
  exact ⟨h2, h1⟩
theorem mi_missing {s : Sd} {j : Nat} (hj : j < s.ha.length) (h : s.ha[j] = false) : (miT s s.ha.length).isEmpty = false := by
  cases he : (miT s s.ha.length).isEmpty
  · rfl
  · have := miT_none he j hj
    rw [List.getElem?_eq_getElem hj, Option.getD_some, h] at this
    cases this
theorem mi_whole {s : Sd} (h : ∀ i (hi : i < s.ha.length), s.ha[i] = true) : (miT s s.ha.length).isEmpty = true := by
  rw [List.isEmpty_iff]
  unfold miT
  rw [List.map_eq_nil_iff, List.filter_eq_nil_iff]
  intro i hi
  have hi' := List.mem_range.1 hi
  rw [List.getElem?_eq_getElem hi', Option.getD_some, h i hi']
  decide
theorem Mid.setRow {lo : Nat} {w w1 : World} (h : Mid lo (lo + 1) w w1) (cs : Array Value) : Mid lo (lo + 1) w (w1.setRow lo cs) :=
  h.trans ⟨rfl, rfl, rfl, by simp, fun k _ ho => setRow_other w1 lo k cs (by omega)⟩
theorem wpList_build_at {P : Program} {w : World} {ops : Array Oper} {rest : List Oper} {o : Oper} {a : Act} {Q : Exit → Act → World → Prop} (hgd : o.guard = none) (t : TypeId) (parts : Array (Nat × Operand)) (ho : o.op = .build t parts) (cells : Array Value) (hc : P.built t (parts.toList.map fun p => (p.1, a.eval p.2)) = some cells)
    (h : wpList P ops Q rest (a.put o.dst (.agg cells)) w) : wpList P ops Q (o :: rest) a w := by
  have hc : P.built t (parts.map fun (i, x) => (i, a.eval x)).toList = some cells := by rw [Array.toList_map]; exact hc
  refine wpList_build hgd t parts ho (by rw [hc]; rfl) ?_
  rw [hc]
  exact h
/-- What a commit leads to. -/
def brX6 (s : Sd) : Sd := if ((miT s s.ha.length).isEmpty && snB (nxS s)) = true then ⟨nxS s, 0, [], [], []⟩ else s
theorem arP_none (x : Sn) (c : Int) : arP ⟨x, c, [], [], []⟩ = plZs := by
  unfold arP plZs
  apply List.ext_getElem?
  intro i
  rw [List.getElem?_map, List.getElem?_replicate]
  by_cases h : i < 230
  · rw [List.getElem?_range h, if_pos h]
    rfl
  · rw [List.getElem?_eq_none (by rw [List.length_range]; omega), if_neg h]
    rfl

set_option maxHeartbeats 8000000 in
set_option maxRecDepth 100000 in
theorem bring_any (k : Nat) (a1 : Option Addr) (n1 c1 : Nat) (a2 : Option Addr) (n2 c2 : Nat) (s : Sd) (w : World) (hs : s.short) (hg : sdB s = true) (hl : loB s) (h : ArB w k s.fo.num (.slice a1 n1 c1) (.slice a2 n2 c2) s.co (s.ha.length : Int) (arP s)) :
    Calls Tryz.prog 35 #[.pointer (some ⟨k, 0, none⟩)] w fun e w' => e = .returned (.tuple #[]) ∧ Mid k (k + 1) w w' ∧ ((brX6 s = s ∧ ArB w' k s.fo.num (.slice a1 n1 c1) (.slice a2 n2 c2) s.co (s.ha.length : Int) (arP s)) ∨ ∃ x1 y1 z1 x2 y2 z2, ArB w' k (brX6 s).fo.num (.slice x1 y1 z1) (.slice x2 y2 z2) (brX6 s).co ((brX6 s).ha.length : Int) (arP (brX6 s)) ∧ SnO w' w.heap.size w'.heap.size (.agg #[.int .i64 (brX6 s).fo.num, .slice x1 y1 z1, .slice x2 y2 z2]) (brX6 s).fo) := by
  obtain ⟨e1, e2, e3⟩ := lnB_parts (sd_parts hg).2.1
  have HN := hid (nx_short hs e3)
  obtain ⟨hf, l3, l4, l5, lr⟩ := hs
  obtain ⟨iw, hiw, hw0, hw1, hw2⟩ := info_parts infoRule
  obtain ⟨ii, hii, hi0, hi1, hi2⟩ := info_parts infoInt
  have E1 := hid e1
  have E2 := hid e2
  clear e1 e2
  have hk := h.lt
  have hnn : (s.ha.length : Int) ≤ 230 := by omega
  have hps := h.1
  obtain ⟨b0, b1, b2, b3, b4⟩ := h.c
  go_enter Tryz.func35, Tryz.ntmps35
  go_upto_region 2 with fail
  go_quiet (fail)
  have hBq := below_draws1 w nq
  have A := h.below hBq
  have hkq : k < (w.drewN nq).heap.size := Nat.lt_of_lt_of_le hk hBq.size
  have hwq := hBq.size
  clear b0 b1 b2 b3 b4
  generalize w.drewN nq = W2 at *
  go_wp2_with fail
  go_loopw [2, 3, 18] (fun vr vn i wr => ∃ (j : Nat) (vR vN : Value), vR = vr ∧ vN = vn ∧ j ≤ s.ha.length ∧ i = .int .i64 j ∧ wr.ownsRow W2.heap.size 31 4 vR (cmR s j).length ((cmR s j).flatMap Ru.cells) ∧ wr.ownsRow W2.heap.size 3 1 vN (cmN s j).length (nums (cmN s j)) ∧ Below W2.heap.size W2 wr ∧ ∀ i (hi : i < s.ha.length), i < j → s.ha[i] = true) (fun _ _ i _ => s.ha.length - (intOf i).toNat)
  case atStart => exact ⟨0, _, _, rfl, rfl, Nat.zero_le _, rfl, World.ownsRow_nil _ _ _ _, World.ownsRow_nil _ _ _ _, Below.refl _ _, fun _ _ h => absurd h (by omega)⟩
  case round =>
    obtain ⟨j, vR, vN, rfl, rfl, hj, rfl, oR, oN, hB, hall⟩ := hrel
    have HA := hid hall
    clear hall
    have A' := A.below hB
    have hWs := hB.size
    have hlR := cmR_len s j
    have hlN := cmN_len s j
    by_cases hlt : j < s.ha.length
    · have hj9 : j < 230 := by omega
      have hlr : j < s.ru.length := by rw [E1.out]; exact hlt
      have hlz : j < s.se.length := by rw [E2.out]; exact hlt
      obtain ⟨d0, d1, d2, d3, d4, d5⟩ := A'.at (i := j) hj9 (by rw [hps]; exact hj9)
      have e9 : (arP s)[j]'(by rw [hps]; exact hj9) = ⟨s.ha[j], s.ru[j], s.se[j]⟩ := by rw [← plS_at hlt hlr hlz]; simp [arP]
      rw [e9] at d0 d1 d2 d3 d4 d5
      clear e9
      dsimp only at d0 d1 d2 d3 d4 d5
      have HRy := hid (fun h => cmR_yes (s := s) hlz hlr h)
      have HRn := hid (fun h => cmR_no (s := s) hlz h)
      have HNy := hid (fun h => cmN_yes (s := s) hlz h)
      have HNn := hid (fun h => cmN_no (s := s) hlz h)
      have HM := hid (fun h => mi_missing (s := s) hlt h)
      have HH := hid (show ∀ x, s.ha[j] = x → s.ha[j] = x from fun _ h => h)
      generalize hx : s.ha[j] = x at *
      generalize s.ru[j] = r at *
      generalize s.se[j] = z at *
      have HX := hid hx
      clear hx HH
      have FS := Six.new wr (.bool x) (.bool r.deny) (.string r.who) (.string r.method) (.string r.path) (.int .i64 z) 52
      have hBw : Below wr.heap.size wr (wr.alloc (.cells #[.bool x, .bool r.deny, .string r.who, .string r.method, .string r.path, .int .i64 z] 52)) := (Below.refl _ wr).alloc (Nat.le_refl _) _
      have oR2 := ownsRow_below oR hBw
      have oN2 := ownsRow_below oN hBw
      have hB2 := below_one hB hBw
      have hbw := hBw.size
      have A2 := A'.below hBw
      obtain ⟨xR, yR, zR, rfl⟩ := row_slice oR
      obtain ⟨xN, yN, zN, rfl⟩ := row_slice oN
      go_upto_region 6 with fail
      clear d0 d1 d2 d3 d4 d5 A' oR oN hB hBw
      generalize wr.alloc (.cells #[.bool x, .bool r.deny, .string r.who, .string r.method, .string r.path, .int .i64 z] 52) = Wr at *
      obtain ⟨t0, t1, t2, t3, t4, t5⟩ := FS.c
      cases x
      · have hmm := HM.out rfl
        have HR := hid (show brX6 s = s from if_neg (by rw [hmm]; simp))
        clear HRy HRn HNy HNn
        go_wp2_with fail
        exact bodyPost_ret (v := .tuple #[]) (by simp [results, Tryz.results35, go_sem]) rfl ⟨rfl, Mid.of_below (below_one hBq hB2), .inl ⟨HR.out, A2⟩⟩
      have hall2 : ∀ i (hi : i < s.ha.length), i < j + 1 → s.ha[i] = true := by
        intro i hi hij
        by_cases hq : i < j
        · exact HA.out i hi hq
        · obtain rfl : i = j := by omega
          exact HX.out
      have HA2 := hid hall2
      clear hall2 HA HM HX
      cases hcz : (z != 0)
      · have hz0 : z = 0 := by simpa using hcz
        have HR := hid (HRy.out hz0)
        have HS := hid (HNn.out hz0)
        clear HRy HRn HNy HNn hz0
        generalize cmR s j = lR at *
        generalize cmN s j = lN at *
        rcases row_form oR2 with ⟨e0, hl0⟩ | ⟨go, capo, e0, hgo, hcapo⟩
        · cases e0
          obtain rfl : lR = [] := List.eq_nil_of_length_eq_zero hl0
          go_wp2_with (at_builtin; refine wpList_append_own _ rfl _ _ 23 rfl W2.heap.size 31 iw _ 4 56 Tryz.underlying23 hiw hw0 hw1 hw2 rfl (by decide) _ _ _ rfl (oR2.alloc _) ⟨Wr.heap.size, 0, none⟩ 1 1 (r.cells) rfl rfl (cell_four_new _ _) (Ru.ones r) (by unfold maxLen; first | omega | (simp <;> omega)) (by first | omega | (simp <;> omega)) (by first | omega | (simp <;> omega)) ?_)
          intro u' w3 o3 q3 _
          obtain ⟨g', cap3, rfl⟩ := ownsRow_succ o3
          have n3 := kept_apart (oN2.alloc (.cells #[.bool r.deny, .string r.who, .string r.method, .string r.path] 31)) q3 (row_apart oN2 oR2 (by decide))
          have hB3 : Below W2.heap.size W2 w3 := (hB2.alloc (by omega) (.cells #[.bool r.deny, .string r.who, .string r.method, .string r.path] 31)).grown q3 (by simp; omega) (fun j e => (oR2.lt j e).1)
          go_wp2_with fail
          go_roundw
          case rel => exact ⟨j + 1, _, _, rfl, rfl, by omega, by go_num, by rw [HR.out]; simpa using o3, by rw [HS.out]; exact n3, hB3, HA2.out⟩
          case measure => simp [intOf]; omega
        · cases e0
          go_wp2_with (at_builtin; refine wpList_append_own _ rfl _ _ 23 rfl W2.heap.size 31 iw _ 4 56 Tryz.underlying23 hiw hw0 hw1 hw2 rfl (by decide) _ _ _ rfl (oR2.alloc _) ⟨Wr.heap.size, 0, none⟩ 1 1 (r.cells) rfl rfl (cell_four_new _ _) (Ru.ones r) (by unfold maxLen; first | omega | (simp <;> omega)) (by first | omega | (simp <;> omega)) (by first | omega | (simp <;> omega)) ?_)
          intro u' w3 o3 q3 _
          obtain ⟨g', cap3, rfl⟩ := ownsRow_succ o3
          have n3 := kept_apart (oN2.alloc (.cells #[.bool r.deny, .string r.who, .string r.method, .string r.path] 31)) q3 (row_apart oN2 oR2 (by decide))
          have hB3 : Below W2.heap.size W2 w3 := (hB2.alloc (by omega) (.cells #[.bool r.deny, .string r.who, .string r.method, .string r.path] 31)).grown q3 (by simp; omega) (fun j e => (oR2.lt j e).1)
          go_wp2_with fail
          go_roundw
          case rel => exact ⟨j + 1, _, _, rfl, rfl, by omega, by go_num, by rw [HR.out]; simpa using o3, by rw [HS.out]; exact n3, hB3, HA2.out⟩
          case measure => simp [intOf]; omega
      · have hz0 : z ≠ 0 := by simpa using hcz
        have HR := hid (HRn.out hz0)
        have HS := hid (HNy.out hz0)
        clear HRy HRn HNy HNn hz0
        generalize cmR s j = lR at *
        generalize cmN s j = lN at *
        rcases row_form oN2 with ⟨e0, hl0⟩ | ⟨go, capo, e0, hgo, hcapo⟩
        · cases e0
          obtain rfl : lN = [] := List.eq_nil_of_length_eq_zero hl0
          go_wp2_with (at_builtin; refine wpList_append_own _ rfl _ _ 24 rfl W2.heap.size 3 ii _ 1 8 Tryz.underlying24 hii hi0 hi1 hi2 rfl (by decide) _ _ _ rfl (oN2.alloc _) ⟨Wr.heap.size, 0, none⟩ 1 1 ([.int .i64 z]) rfl rfl (cell_one_new _ _ _) (by intro u hu; simp at hu; subst hu; rfl) (by unfold maxLen; first | omega | (simp <;> omega)) (by first | omega | (simp <;> omega)) (by first | omega | (simp <;> omega)) ?_)
          intro u' w3 o3 q3 _
          obtain ⟨g', cap3, rfl⟩ := ownsRow_succ o3
          have n3 := kept_apart (oR2.alloc (.cells #[.int .i64 z] 3)) q3 (row_apart oR2 oN2 (by decide))
          have hB3 : Below W2.heap.size W2 w3 := (hB2.alloc (by omega) (.cells #[.int .i64 z] 3)).grown q3 (by simp; omega) (fun j e => (oN2.lt j e).1)
          go_wp2_with fail
          go_roundw
          case rel => exact ⟨j + 1, _, _, rfl, rfl, by omega, by go_num, by rw [HR.out]; exact n3, by rw [HS.out]; simpa [nums] using o3, hB3, HA2.out⟩
          case measure => simp [intOf]; omega
        · cases e0
          go_wp2_with (at_builtin; refine wpList_append_own _ rfl _ _ 24 rfl W2.heap.size 3 ii _ 1 8 Tryz.underlying24 hii hi0 hi1 hi2 rfl (by decide) _ _ _ rfl (oN2.alloc _) ⟨Wr.heap.size, 0, none⟩ 1 1 ([.int .i64 z]) rfl rfl (cell_one_new _ _ _) (by intro u hu; simp at hu; subst hu; rfl) (by unfold maxLen; first | omega | (simp <;> omega)) (by first | omega | (simp <;> omega)) (by first | omega | (simp <;> omega)) ?_)
          intro u' w3 o3 q3 _
          obtain ⟨g', cap3, rfl⟩ := ownsRow_succ o3
          have n3 := kept_apart (oR2.alloc (.cells #[.int .i64 z] 3)) q3 (row_apart oR2 oN2 (by decide))
          have hB3 : Below W2.heap.size W2 w3 := (hB2.alloc (by omega) (.cells #[.int .i64 z] 3)).grown q3 (by simp; omega) (fun j e => (oN2.lt j e).1)
          go_wp2_with fail
          go_roundw
          case rel => exact ⟨j + 1, _, _, rfl, rfl, by omega, by go_num, by rw [HR.out]; exact n3, by rw [HS.out]; simpa [nums] using o3, hB3, HA2.out⟩
          case measure => simp [intOf]; omega
    · obtain rfl : j = s.ha.length := by omega
      have hem := mi_whole (fun i hi => HA.out i hi hi)
      have hpol := cm_pol hg hl hem
      have hfR := cmR_size (s := s) (k := s.ha.length) lr
      have HQ := hid (show nxS s = ⟨s.co, plTo (cmR s s.ha.length) (cmR s s.ha.length).length, srN (cmN s s.ha.length)⟩ from rfl)
      have HB := hid (show snB (nxS s) = false → brX6 s = s from fun h => if_neg (by rw [h]; simp))
      have HC := hid (show snB (nxS s) = true → brX6 s = ⟨nxS s, 0, [], [], []⟩ from fun h => if_pos (by rw [h, hem]; rfl))
      have HPX := hid (plX_yes hpol)
      have HPB := hid hpol
      clear hem hpol HA
      generalize cmR s s.ha.length = lR at *
      generalize cmN s s.ha.length = lN at *
      obtain ⟨xR, yR, zR, rfl⟩ := row_slice oR
      obtain ⟨xN, yN, zN, rfl⟩ := row_slice oN
      go_wp2_with fail
      refine (implPlainPolicy_any _ lR W2.heap.size _ (by omega) hfR oR).mono ?_
      rintro e w4 ⟨v4, rfl, o4, hB4⟩
      obtain ⟨x4, y4, z4, rfl⟩ := row_slice o4
      rw [HPB.out]
      rw [HPX.out] at o4
      have A4 := A'.below hB4
      have n4 := ownsRow_below oN hB4
      have hB4' : Below W2.heap.size W2 w4 := hB.trans (hB4.mono hWs)
      have hs4 := hB4.size
      clear A' oN oR hB hB4
      go_upto_region 11 with fail
      go_cut [8] (fun s8 wx => ∃ (k8 : Nat) (x6 : Option Addr) (y6 z6 : Nat), s8 = .pointer (some ⟨k8, 0, none⟩) ∧ W2.heap.size ≤ k8 ∧ Three wx 26 k8 (.int .i64 s.co) (.slice x4 y4 z4) (.slice x6 y6 z6) ∧ SnO wx W2.heap.size wx.heap.size (.agg #[.int .i64 (nxS s).num, .slice x4 y4 z4, .slice x6 y6 z6]) (nxS s) ∧ ArB wx k s.fo.num (.slice a1 n1 c1) (.slice a2 n2 c2) s.co (s.ha.length : Int) (arP s) ∧ Below W2.heap.size W2 wx)
      case first =>
        have gA : ArB w4.drew k s.fo.num (.slice a1 n1 c1) (.slice a2 n2 c2) s.co (s.ha.length : Int) (arP s) := ⟨A4.1, World.ownsRow.drew A4.2⟩
        have gn := World.ownsRow.drew n4
        have go := World.ownsRow.drew o4
        have gB : Below W2.heap.size W2 w4.drew := ⟨hB4'.os, hB4'.tape, hB4'.output, hB4'.size, hB4'.block⟩
        have gs : wr.heap.size ≤ w4.drew.heap.size := hs4
        have hcat : catT [(Value.slice xN yN zN, lN)] [(Value.slice xN yN zN, lN)].length = lN := by simp [catT]
        have hsm : (catT [(Value.slice xN yN zN, lN)] [(Value.slice xN yN zN, lN)].length).length ≤ 1100000 := by rw [hcat]; omega
        have HCAT := hid hcat
        clear hcat A4 n4 o4 hB4' hs4
        refine wp_region_held_drew (S := fun W => W.cell? ⟨k, 3, none⟩ = some (.int .i64 s.co)) (by kernel_rfl) (by exact gA.c.2.2.2.1) (fun hHeld => ?_)
        generalize w4.drew = We at *
        refine takeW 0 (v := ?v1) rfl (by kernel_rfl) (by kernel_rfl) (by kernel_rfl) (fun _ _ _ h => h) (by rfl) (by assumption) ?hy1 ?rest1
        case hy1 => intro w' hSw; (try dsimp only at hSw); go_simp; try with_reducible rfl
        try simp only [Act.put, List.setIfInBounds_toArray, List.set_cons_zero, List.set_cons_succ]
        refine takeW 1 (v := ?v2) rfl (by kernel_rfl) (by kernel_rfl) (by kernel_rfl) (fun _ _ _ h => h) (by rfl) (by assumption) ?hy2 ?rest2
        case hy2 => intro w' hSw; (try dsimp only at hSw); go_simp; try with_reducible rfl
        try simp only [Act.put, List.setIfInBounds_toArray, List.set_cons_zero, List.set_cons_succ]
        refine takeW 2 (v := ?v3) rfl (by kernel_rfl) (by kernel_rfl) (by kernel_rfl) (fun _ _ _ h => h) (by rfl) (by assumption) ?hy3 ?rest3
        case hy3 => intro w' hSw; (try dsimp only at hSw); go_simp; try with_reducible rfl
        try simp only [Act.put, List.setIfInBounds_toArray, List.set_cons_zero, List.set_cons_succ]
        refine takeW 3 (v := ?v4) rfl (by kernel_rfl) (by kernel_rfl) (by kernel_rfl) (fun _ _ _ h => h) (by rfl) (by assumption) ?hy4 ?rest4
        case hy4 => intro w' hSw; (try dsimp only at hSw); go_simp; try with_reducible rfl
        try simp only [Act.put, List.setIfInBounds_toArray, List.set_cons_zero, List.set_cons_succ]
        refine takeW 4 (v := ?v5) rfl (by kernel_rfl) (by kernel_rfl) (by kernel_rfl) (fun _ _ _ h => h) (by rfl) (by assumption) ?hy5 ?rest5
        case hy5 => intro w' hSw; (try dsimp only at hSw); go_simp; try with_reducible rfl
        try simp only [Act.put, List.setIfInBounds_toArray, List.set_cons_zero, List.set_cons_succ]
        refine takeW 5 (v := ?v6) rfl (by kernel_rfl) (by kernel_rfl) (by kernel_rfl) (fun _ _ _ h => h) (by rfl) (by assumption) ?hy6 ?rest6
        case hy6 => intro w' hSw; (try dsimp only at hSw); go_simp; try with_reducible rfl
        try simp only [Act.put, List.setIfInBounds_toArray, List.set_cons_zero, List.set_cons_succ]
        have bgo : ∀ i, (Value.slice x4 y4 z4).ownBlock = some i → i < We.heap.size := fun i e => (go.lt i e).2
        refine takeC2 6 9 (by kernel_rfl) rfl rfl (fun K hK => ?_) (fun K hK => ?_)
        · go_simp; replace gA := gA.below ((Below.refl _ We).alloc (Nat.le_refl _) (.cells #[.slice xN yN zN] 24)); replace gn := ownsRow_below gn ((Below.refl _ We).alloc (Nat.le_refl _) (.cells #[.slice xN yN zN] 24)); replace go := ownsRow_below go ((Below.refl _ We).alloc (Nat.le_refl _) (.cells #[.slice xN yN zN] 24)); replace gB := gB.alloc gB.size (.cells #[.slice xN yN zN] 24); replace gs := Nat.le_trans gs ((Below.refl _ We).alloc (Nat.le_refl _) (.cells #[.slice xN yN zN] 24)).size; have gK : (We.alloc (.cells #[.slice xN yN zN] 24)).cell? ⟨We.heap.size, 0, none⟩ = some (.slice xN yN zN) := cell_one_at _ _ _ _ rfl 0 _ rfl; have hkt : We.heap.size < (We.alloc (.cells #[.slice xN yN zN] 24)).heap.size := by simp
          refine hK.out _ _ ?_ (fun hHeld => ?_)
          · exact gA.c.2.2.2.1
          clear hK K
          try simp only [Act.put, List.setIfInBounds_toArray, List.set_cons_zero, List.set_cons_succ]
          generalize We.alloc (.cells #[.slice xN yN zN] 24) = Wa at *
          generalize We.heap.size = kt at *
          refine takeC2 7 9 (by kernel_rfl) rfl rfl (fun K hK => ?_) (fun K hK => ?_)
          · go_simp
            have h78 : W2.heap.size ≤ Wa.heap.size := gB.size
            refine (eachOnce_any kt [(Value.slice xN yN zN, lN)] _ hsm (by simp) (fun j hj => by have hj0 : j = 0 := (by simpa using hj); subst hj0; exact gK) hkt (fun j hj => by have hj0 : j = 0 := (by simpa using hj); subst hj0; exact NuR.own gn)).mono ?_; rintro e w8 ⟨v8, rfl, o8, hB8⟩; rw [HCAT.out] at o8; obtain ⟨x6, y6, z6, rfl⟩ := row_slice o8; replace gA := gA.below hB8; replace go := ownsRow_below go hB8; replace gs := Nat.le_trans gs hB8.size; have g8 := hB8.size; replace gB := gB.trans (hB8.mono gB.size)
            refine hK.out _ _ ?_ (fun hHeld => ?_)
            · exact gA.c.2.2.2.1
            clear hK K
            try simp only [Act.put, List.setIfInBounds_toArray, List.set_cons_zero, List.set_cons_succ]
            refine takeW 8 (v := ?v7) rfl (by kernel_rfl) (by kernel_rfl) (by kernel_rfl) (fun _ _ _ h => h) (by rfl) (by assumption) ?hy7 ?rest7
            case hy7 => intro w' hSw; (try dsimp only at hSw); go_simp; try with_reducible rfl
            try simp only [Act.put, List.setIfInBounds_toArray, List.set_cons_zero, List.set_cons_succ]
            refine takeC 9 (by kernel_rfl) rfl (fun K hK => ?_)
            have b8 : ∀ i, (Value.slice x6 y6 z6).ownBlock = some i → i < w8.heap.size := fun i e => (o8.lt i e).2
            have b9 : kt < w8.heap.size := by omega
            have hk8 : W2.heap.size ≤ w8.heap.size := gB.size; go_simp; replace gA := gA.below ((Below.refl _ w8).alloc (Nat.le_refl _) (.cells #[.int .i64 0, .slice none 0 0, .slice none 0 0] 26)); replace o8 := ownsRow_below o8 ((Below.refl _ w8).alloc (Nat.le_refl _) (.cells #[.int .i64 0, .slice none 0 0, .slice none 0 0] 26)); replace go := ownsRow_below go ((Below.refl _ w8).alloc (Nat.le_refl _) (.cells #[.int .i64 0, .slice none 0 0, .slice none 0 0] 26)); replace gB := gB.alloc gB.size (.cells #[.int .i64 0, .slice none 0 0, .slice none 0 0] 26); replace gs := Nat.le_trans gs ((Below.refl _ w8).alloc (Nat.le_refl _) (.cells #[.int .i64 0, .slice none 0 0, .slice none 0 0] 26)).size; have F8 := Three.new w8 (.int .i64 0) (.slice none 0 0) (.slice none 0 0) 26
            refine hK.out _ _ ?_ (fun hHeld => ?_)
            · exact gA.c.2.2.2.1
            clear hK K
            try simp only [Act.put, List.setIfInBounds_toArray, List.set_cons_zero, List.set_cons_succ]
            generalize w8.alloc (.cells #[.int .i64 0, .slice none 0 0, .slice none 0 0] 26) = Wz at *
            generalize w8.heap.size = k8 at *
            have f0 := F8.f 0
            have f1 := F8.f 1
            have f2 := F8.f 2
            obtain ⟨r0, r1, r2⟩ := F8.c
            have hk9 := F8.lt
            have hk7 := gA.lt
            have F9 := ((F8.s0 (.int .i64 s.co)).s1 (.slice x4 y4 z4)).s2 (.slice x6 y6 z6)
            replace gA := ((gA.other (k' := k8) (by omega) 0 (.int .i64 s.co)).other (k' := k8) (by omega) 1 (.slice x4 y4 z4)).other (k' := k8) (by omega) 2 (.slice x6 y6 z6)
            have q1 := row_set_apart (row_set_apart (row_set_apart go (g := k8) (j := 0) (fun i e => by have := bgo i e; omega) (.int .i64 s.co)) (g := k8) (j := 1) (fun i e => by have := bgo i e; omega) (.slice x4 y4 z4)) (g := k8) (j := 2) (fun i e => by have := bgo i e; omega) (.slice x6 y6 z6)
            have q2 := row_set_apart (row_set_apart (row_set_apart o8 (g := k8) (j := 0) (fun i e => by have := b8 i e; omega) (.int .i64 s.co)) (g := k8) (j := 1) (fun i e => by have := b8 i e; omega) (.slice x4 y4 z4)) (g := k8) (j := 2) (fun i e => by have := b8 i e; omega) (.slice x6 y6 z6)
            replace gB := below_three gB (k := k8) hk8 (.int .i64 s.co) (.slice x4 y4 z4) (.slice x6 y6 z6)
            refine takeC 10 (by kernel_rfl) rfl (fun K hK => ?_)
            go_simp
            skip
            refine hK.out _ _ ?_ (fun hHeld => ?_)
            · exact gA.c.2.2.2.1
            clear hK K
            try simp only [Act.put, List.setIfInBounds_toArray, List.set_cons_zero, List.set_cons_succ]
            refine wpAnyH_done (by kernel_rfl) ?_ _
            go_wp2_with fail
            go_meet
            exact ⟨k8, x6, y6, z6, rfl, hk8, F9, by rw [HQ.out]; exact ⟨_, _, rfl, Go.Joins.ownsRow_le q1 (by omega), Go.Joins.ownsRow_le q2 (by omega), fun i e => (q1.lt i e).2, fun i e => (q2.lt i e).2⟩, gA, gB⟩
          · have hk8 : W2.heap.size ≤ Wa.heap.size := gB.size; have hk78 := hkt; go_simp; replace gA := gA.below ((Below.refl _ Wa).alloc (Nat.le_refl _) (.cells #[.int .i64 0, .slice none 0 0, .slice none 0 0] 26)); replace gn := ownsRow_below gn ((Below.refl _ Wa).alloc (Nat.le_refl _) (.cells #[.int .i64 0, .slice none 0 0, .slice none 0 0] 26)); replace go := ownsRow_below go ((Below.refl _ Wa).alloc (Nat.le_refl _) (.cells #[.int .i64 0, .slice none 0 0, .slice none 0 0] 26)); replace gB := gB.alloc gB.size (.cells #[.int .i64 0, .slice none 0 0, .slice none 0 0] 26); replace gs := Nat.le_trans gs ((Below.refl _ Wa).alloc (Nat.le_refl _) (.cells #[.int .i64 0, .slice none 0 0, .slice none 0 0] 26)).size; have F8 := Three.new Wa (.int .i64 0) (.slice none 0 0) (.slice none 0 0) 26; have gK2 := (((Below.refl _ Wa).alloc (Nat.le_refl _) (.cells #[.int .i64 0, .slice none 0 0, .slice none 0 0] 26)).cell (p := ⟨kt, 0, none⟩) hkt).trans gK; clear gK; have gK := gK2; clear gK2; replace hkt := Nat.lt_of_lt_of_le hkt ((Below.refl _ Wa).alloc (Nat.le_refl _) (.cells #[.int .i64 0, .slice none 0 0, .slice none 0 0] 26)).size
            refine hK.out _ _ ?_ (fun hHeld => ?_)
            · exact gA.c.2.2.2.1
            clear hK K
            try simp only [Act.put, List.setIfInBounds_toArray, List.set_cons_zero, List.set_cons_succ]
            generalize Wa.alloc (.cells #[.int .i64 0, .slice none 0 0, .slice none 0 0] 26) = Wb at *
            generalize Wa.heap.size = k8 at *
            refine takeC 7 (by kernel_rfl) rfl (fun K hK => ?_)
            go_simp
            have h78 : W2.heap.size ≤ Wb.heap.size := gB.size
            have h88 := F8.lt
            refine (eachOnce_any kt [(Value.slice xN yN zN, lN)] _ hsm (by simp) (fun j hj => by have hj0 : j = 0 := (by simpa using hj); subst hj0; exact gK) hkt (fun j hj => by have hj0 : j = 0 := (by simpa using hj); subst hj0; exact NuR.own gn)).mono ?_; rintro e w8 ⟨v8, rfl, o8, hB8⟩; rw [HCAT.out] at o8; obtain ⟨x6, y6, z6, rfl⟩ := row_slice o8; replace gA := gA.below hB8; replace go := ownsRow_below go hB8; replace gs := Nat.le_trans gs hB8.size; have g8 := hB8.size; replace gB := gB.trans (hB8.mono gB.size); replace F8 := F8.below hB8
            refine hK.out _ _ ?_ (fun hHeld => ?_)
            · exact gA.c.2.2.2.1
            clear hK K
            try simp only [Act.put, List.setIfInBounds_toArray, List.set_cons_zero, List.set_cons_succ]
            refine takeW 8 (v := ?v8) rfl (by kernel_rfl) (by kernel_rfl) (by kernel_rfl) (fun _ _ _ h => h) (by rfl) (by assumption) ?hy8 ?rest8
            case hy8 => intro w' hSw; (try dsimp only at hSw); go_simp; try with_reducible rfl
            try simp only [Act.put, List.setIfInBounds_toArray, List.set_cons_zero, List.set_cons_succ]
            have f0 := F8.f 0
            have f1 := F8.f 1
            have f2 := F8.f 2
            obtain ⟨r0, r1, r2⟩ := F8.c
            have hk9 := F8.lt
            have hk7 := gA.lt
            have F9 := ((F8.s0 (.int .i64 s.co)).s1 (.slice x4 y4 z4)).s2 (.slice x6 y6 z6)
            replace gA := ((gA.other (k' := k8) (by omega) 0 (.int .i64 s.co)).other (k' := k8) (by omega) 1 (.slice x4 y4 z4)).other (k' := k8) (by omega) 2 (.slice x6 y6 z6)
            have q1 := row_set_apart (row_set_apart (row_set_apart go (g := k8) (j := 0) (fun i e => by have := bgo i e; omega) (.int .i64 s.co)) (g := k8) (j := 1) (fun i e => by have := bgo i e; omega) (.slice x4 y4 z4)) (g := k8) (j := 2) (fun i e => by have := bgo i e; omega) (.slice x6 y6 z6)
            have q2 := row_set_apart (row_set_apart (row_set_apart o8 (g := k8) (j := 0) (fun i e => by have := (o8.lt i e).1; omega) (.int .i64 s.co)) (g := k8) (j := 1) (fun i e => by have := (o8.lt i e).1; omega) (.slice x4 y4 z4)) (g := k8) (j := 2) (fun i e => by have := (o8.lt i e).1; omega) (.slice x6 y6 z6)
            replace gB := below_three gB (k := k8) hk8 (.int .i64 s.co) (.slice x4 y4 z4) (.slice x6 y6 z6)
            refine takeC 10 (by kernel_rfl) rfl (fun K hK => ?_)
            go_simp
            skip
            refine hK.out _ _ ?_ (fun hHeld => ?_)
            · exact gA.c.2.2.2.1
            clear hK K
            try simp only [Act.put, List.setIfInBounds_toArray, List.set_cons_zero, List.set_cons_succ]
            refine wpAnyH_done (by kernel_rfl) ?_ _
            go_wp2_with fail
            go_meet
            exact ⟨k8, x6, y6, z6, rfl, hk8, F9, by rw [HQ.out]; exact ⟨_, _, rfl, Go.Joins.ownsRow_le q1 (by omega), Go.Joins.ownsRow_le q2 (by omega), fun i e => (q1.lt i e).2, fun i e => (q2.lt i e).2⟩, gA, gB⟩
        · have hk8 : W2.heap.size ≤ We.heap.size := gB.size; go_simp; replace gA := gA.below ((Below.refl _ We).alloc (Nat.le_refl _) (.cells #[.int .i64 0, .slice none 0 0, .slice none 0 0] 26)); replace gn := ownsRow_below gn ((Below.refl _ We).alloc (Nat.le_refl _) (.cells #[.int .i64 0, .slice none 0 0, .slice none 0 0] 26)); replace go := ownsRow_below go ((Below.refl _ We).alloc (Nat.le_refl _) (.cells #[.int .i64 0, .slice none 0 0, .slice none 0 0] 26)); replace gB := gB.alloc gB.size (.cells #[.int .i64 0, .slice none 0 0, .slice none 0 0] 26); replace gs := Nat.le_trans gs ((Below.refl _ We).alloc (Nat.le_refl _) (.cells #[.int .i64 0, .slice none 0 0, .slice none 0 0] 26)).size; have F8 := Three.new We (.int .i64 0) (.slice none 0 0) (.slice none 0 0) 26
          refine hK.out _ _ ?_ (fun hHeld => ?_)
          · exact gA.c.2.2.2.1
          clear hK K
          try simp only [Act.put, List.setIfInBounds_toArray, List.set_cons_zero, List.set_cons_succ]
          generalize We.alloc (.cells #[.int .i64 0, .slice none 0 0, .slice none 0 0] 26) = Wa at *
          generalize We.heap.size = k8 at *
          refine takeC 6 (by kernel_rfl) rfl (fun K hK => ?_)
          go_simp; replace gA := gA.below ((Below.refl _ Wa).alloc (Nat.le_refl _) (.cells #[.slice xN yN zN] 24)); replace gn := ownsRow_below gn ((Below.refl _ Wa).alloc (Nat.le_refl _) (.cells #[.slice xN yN zN] 24)); replace go := ownsRow_below go ((Below.refl _ Wa).alloc (Nat.le_refl _) (.cells #[.slice xN yN zN] 24)); replace gB := gB.alloc gB.size (.cells #[.slice xN yN zN] 24); replace gs := Nat.le_trans gs ((Below.refl _ Wa).alloc (Nat.le_refl _) (.cells #[.slice xN yN zN] 24)).size; replace F8 := F8.below ((Below.refl _ Wa).alloc (Nat.le_refl _) (.cells #[.slice xN yN zN] 24)); have gK : (Wa.alloc (.cells #[.slice xN yN zN] 24)).cell? ⟨Wa.heap.size, 0, none⟩ = some (.slice xN yN zN) := cell_one_at _ _ _ _ rfl 0 _ rfl; have hkt : Wa.heap.size < (Wa.alloc (.cells #[.slice xN yN zN] 24)).heap.size := by simp
          refine hK.out _ _ ?_ (fun hHeld => ?_)
          · exact gA.c.2.2.2.1
          clear hK K
          try simp only [Act.put, List.setIfInBounds_toArray, List.set_cons_zero, List.set_cons_succ]
          generalize Wa.alloc (.cells #[.slice xN yN zN] 24) = Wb at *
          generalize Wa.heap.size = kt at *
          refine takeC 7 (by kernel_rfl) rfl (fun K hK => ?_)
          go_simp
          have h78 : W2.heap.size ≤ Wb.heap.size := gB.size
          have h88 := F8.lt
          refine (eachOnce_any kt [(Value.slice xN yN zN, lN)] _ hsm (by simp) (fun j hj => by have hj0 : j = 0 := (by simpa using hj); subst hj0; exact gK) hkt (fun j hj => by have hj0 : j = 0 := (by simpa using hj); subst hj0; exact NuR.own gn)).mono ?_; rintro e w8 ⟨v8, rfl, o8, hB8⟩; rw [HCAT.out] at o8; obtain ⟨x6, y6, z6, rfl⟩ := row_slice o8; replace gA := gA.below hB8; replace go := ownsRow_below go hB8; replace gs := Nat.le_trans gs hB8.size; have g8 := hB8.size; replace gB := gB.trans (hB8.mono gB.size); replace F8 := F8.below hB8
          refine hK.out _ _ ?_ (fun hHeld => ?_)
          · exact gA.c.2.2.2.1
          clear hK K
          try simp only [Act.put, List.setIfInBounds_toArray, List.set_cons_zero, List.set_cons_succ]
          refine takeW 8 (v := ?v9) rfl (by kernel_rfl) (by kernel_rfl) (by kernel_rfl) (fun _ _ _ h => h) (by rfl) (by assumption) ?hy9 ?rest9
          case hy9 => intro w' hSw; (try dsimp only at hSw); go_simp; try with_reducible rfl
          try simp only [Act.put, List.setIfInBounds_toArray, List.set_cons_zero, List.set_cons_succ]
          have f0 := F8.f 0
          have f1 := F8.f 1
          have f2 := F8.f 2
          obtain ⟨r0, r1, r2⟩ := F8.c
          have hk9 := F8.lt
          have hk7 := gA.lt
          have F9 := ((F8.s0 (.int .i64 s.co)).s1 (.slice x4 y4 z4)).s2 (.slice x6 y6 z6)
          replace gA := ((gA.other (k' := k8) (by omega) 0 (.int .i64 s.co)).other (k' := k8) (by omega) 1 (.slice x4 y4 z4)).other (k' := k8) (by omega) 2 (.slice x6 y6 z6)
          have q1 := row_set_apart (row_set_apart (row_set_apart go (g := k8) (j := 0) (fun i e => by have := bgo i e; omega) (.int .i64 s.co)) (g := k8) (j := 1) (fun i e => by have := bgo i e; omega) (.slice x4 y4 z4)) (g := k8) (j := 2) (fun i e => by have := bgo i e; omega) (.slice x6 y6 z6)
          have q2 := row_set_apart (row_set_apart (row_set_apart o8 (g := k8) (j := 0) (fun i e => by have := (o8.lt i e).1; omega) (.int .i64 s.co)) (g := k8) (j := 1) (fun i e => by have := (o8.lt i e).1; omega) (.slice x4 y4 z4)) (g := k8) (j := 2) (fun i e => by have := (o8.lt i e).1; omega) (.slice x6 y6 z6)
          replace gB := below_three gB (k := k8) hk8 (.int .i64 s.co) (.slice x4 y4 z4) (.slice x6 y6 z6)
          refine takeC 10 (by kernel_rfl) rfl (fun K hK => ?_)
          go_simp
          skip
          refine hK.out _ _ ?_ (fun hHeld => ?_)
          · exact gA.c.2.2.2.1
          clear hK K
          try simp only [Act.put, List.setIfInBounds_toArray, List.set_cons_zero, List.set_cons_succ]
          refine wpAnyH_done (by kernel_rfl) ?_ _
          go_wp2_with fail
          go_meet
          exact ⟨k8, x6, y6, z6, rfl, hk8, F9, by rw [HQ.out]; exact ⟨_, _, rfl, Go.Joins.ownsRow_le q1 (by omega), Go.Joins.ownsRow_le q2 (by omega), fun i e => (q1.lt i e).2, fun i e => (q2.lt i e).2⟩, gA, gB⟩
      case rest =>
        obtain ⟨k8, x6, y6, z6, rfl, hk8, F8, O8, A8, hB8⟩ := hcut
        obtain ⟨g0, g1, g2⟩ := F8.c
        have HQ2 := hid (show (nxS s).num = s.co by rw [HQ.out])
        go_wp2_with fail
        refine (implGoodSnapshot_any _ (nxS s) _ HN.out (by have := O8.r; rwa [HQ2.out] at this)).mono ?_
        rintro e w9 ⟨rfl, hB9⟩
        have F9 := F8.below hB9
        have A9 := A8.below hB9
        have O9 := O8.below hB9
        have hs9 := hB9.size
        have hB9' : Below W2.heap.size W2 w9 := hB8.trans (hB9.mono hB8.size)
        clear g0 g1 g2
        obtain ⟨g0, g1, g2⟩ := F9.c
        obtain ⟨b0, b1, b2, b3, b4⟩ := A9.c
        cases hc9 : snB (nxS s)
        · go_wp2_with fail
          exact bodyPost_end (v := .tuple #[]) (by simp [results, Tryz.results35, go_sem]) rfl ⟨rfl, Mid.of_below (below_one hBq hB9'), .inl ⟨HB.out hc9, A9⟩⟩
        · have HX := hid (HC.out hc9)
          have A10 := A9.row (num' := s.co) (vp' := .slice x4 y4 z4) (vr' := .slice x6 y6 z6) (co' := 0) (pl' := 0) plZs_len
          obtain ⟨_, _, ee, j1, j2, u1, u2⟩ := O9
          have q1 := row_setRow j1 (g := k) (fun i e => by have := (j1.lt i e).1; omega) (arC s.co (.slice x4 y4 z4) (.slice x6 y6 z6) 0 0 plZs).toArray
          have q2 := row_setRow j2 (g := k) (fun i e => by have := (j2.lt i e).1; omega) (arC s.co (.slice x4 y4 z4) (.slice x6 y6 z6) 0 0 plZs).toArray
          cases ee
          have hM : Mid k (k + 1) w (w9.setRow k (arC s.co (.slice x4 y4 z4) (.slice x6 y6 z6) 0 0 plZs).toArray) := (Mid.of_below (below_one hBq hB9')).setRow _
          go_wp2_with (first | (refine wpList_build_at rfl 55 _ rfl _ (builtAr1 s.co (.slice x4 y4 z4) (.slice x6 y6 z6)) ?_) | (refine wpList_store_row rfl 55 (.tmp 63) (.tmp 62) rfl k _ rfl rfl 55 _ A9.heap (ar_size plZs_len) (ar_same (arP_len s) plZs_len) (ar_all rfl rfl) ?_))
          exact bodyPost_end (v := .tuple #[]) (by simp [results, Tryz.results35, go_sem]) rfl ⟨rfl, hM, .inr ⟨x4, y4, z4, x6, y6, z6, by rw [HX.out, arP_none]; show ArB _ k (nxS s).num _ _ 0 0 plZs; rw [HQ2.out]; exact A10, by rw [HX.out]; exact ⟨_, _, rfl, Go.Joins.ownsRow_le q1 hwq, Go.Joins.ownsRow_le q2 hwq, fun i e => (q1.lt i e).2, fun i e => (q2.lt i e).2⟩⟩⟩

end Go.Proofs.YtjnajdilllkpcaaGreat

namespace Go.Proofs.YtjnajdilllkpcaaGreat
open Go.RowKit Go.Shelf

def crX (s : Sd) : Sd := if sdB s = true then ⟨s.fo, 0, [], [], []⟩ else Sd.none
theorem crX_no {s : Sd} (h : sdB s = false) : crX s = Sd.none := if_neg (by rw [h]; exact Bool.false_ne_true)
theorem crX_yes {s : Sd} (h : sdB s = true) : crX s = ⟨s.fo, 0, [], [], []⟩ := if_pos h
theorem crX_short {s : Sd} (h : s.short) : (crX s).short := by
  unfold crX
  split
  · exact ⟨h.1, Nat.zero_le _, Nat.zero_le _, Nat.zero_le _, fun r hr => by cases hr⟩
  · exact ⟨⟨Nat.zero_le _, Nat.zero_le _, fun r hr => by cases hr⟩, Nat.zero_le _, Nat.zero_le _, Nat.zero_le _, fun r hr => by cases hr⟩
theorem crX_many (s : Sd) : (crX s).many ≤ s.many := by
  unfold crX
  split
  · simp [Sd.many]; omega
  · simp [Sd.many, Sd.none, Sn.many, Sn.none]

set_option maxHeartbeats 4000000 in
set_option maxRecDepth 100000 in
theorem implCrash_any (v : Value) (s : Sd) (w : World) (hs : s.short) (h : SdR w v s) :
    Calls Tryz.prog 9 #[v] w fun e w' => ∃ v', e = .returned (.tuple #[v', .bool (sdB s)]) ∧ SdO w' w.heap.size w'.heap.size v' (crX s) ∧ Below w.heap.size w w' := by
  have h' := h
  obtain ⟨vp, vr, vu, vh, vs, rfl, h1, h2, h3, h4, h5⟩ := h
  have hs' := hs
  obtain ⟨hf, l3, l4, l5, lr⟩ := hs
  obtain ⟨ap, cp, rfl⟩ := h1.len
  obtain ⟨ar, cr, rfl⟩ := h2.len
  obtain ⟨au, cu, rfl⟩ := h3.len
  obtain ⟨ah, ch, rfl⟩ := h4.s.bolLen
  obtain ⟨ai, ci, rfl⟩ := h5.len
  have hB0 : Below w.heap.size w ((w.alloc (.cells #[.int .i64 s.fo.num, .slice ap s.fo.pol.length cp, .slice ar s.fo.rv.length cr, .int .i64 s.co, .slice au s.ru.length cu, .slice ah s.ha.length ch, .slice ai s.se.length ci] 29)).alloc (.cells #[.int .i64 0, .slice none 0 0, .slice none 0 0, .int .i64 0, .slice none 0 0, .slice none 0 0, .slice none 0 0] 29)) := ((Below.refl _ w).alloc (Nat.le_refl _) _).alloc (by simp) _
  have F := (Seven.new w (.int .i64 s.fo.num) (.slice ap s.fo.pol.length cp) (.slice ar s.fo.rv.length cr) (.int .i64 s.co) (.slice au s.ru.length cu) (.slice ah s.ha.length ch) (.slice ai s.se.length ci) 29).below ((Below.refl _ _).alloc (Nat.le_refl _) (.cells #[.int .i64 0, .slice none 0 0, .slice none 0 0, .int .i64 0, .slice none 0 0, .slice none 0 0, .slice none 0 0] 29))
  have F2 := Seven.at (w.alloc (.cells #[.int .i64 s.fo.num, .slice ap s.fo.pol.length cp, .slice ar s.fo.rv.length cr, .int .i64 s.co, .slice au s.ru.length cu, .slice ah s.ha.length ch, .slice ai s.se.length ci] 29)) (.int .i64 0) (.slice none 0 0) (.slice none 0 0) (.int .i64 0) (.slice none 0 0) (.slice none 0 0) (.slice none 0 0) 29 (k := w.heap.size + 1) (by simp)
  go_enter Tryz.func9, Tryz.ntmps9
  go_wp2_with fail
  generalize (w.alloc (.cells #[.int .i64 s.fo.num, .slice ap s.fo.pol.length cp, .slice ar s.fo.rv.length cr, .int .i64 s.co, .slice au s.ru.length cu, .slice ah s.ha.length ch, .slice ai s.se.length ci] 29)).alloc (.cells #[.int .i64 0, .slice none 0 0, .slice none 0 0, .int .i64 0, .slice none 0 0, .slice none 0 0, .slice none 0 0] 29) = W0 at *
  refine (implGoodSide_any _ s _ hs' (h'.below hB0)).mono ?_
  rintro e w1 ⟨rfl, hB1⟩
  replace F := F.below hB1
  replace F2 := F2.below hB1
  replace hB0 := below_one hB0 hB1
  clear hB1
  have hb := hB0.size
  have hk0 := F2.lt
  cases hg : sdB s
  case false =>
    have HR := hid (crX_no hg)
    have HG := hid hg
    obtain ⟨r0, r1, r2, r3, r4, r5, r6⟩ := F2.c
    have f0 := F2.f 0
    have f1 := F2.f 1
    have f2 := F2.f 2
    have f3 := F2.f 3
    have f4 := F2.f 4
    have f5 := F2.f 5
    have f6 := F2.f 6
    have G := (((((((F2.s0 (.int .i64 0)).s1 (.slice none 0 0)).s2 (.slice none 0 0)).s3 (.int .i64 0)).s4 (.slice none 0 0)).s5 (.slice none 0 0)).s6 (.slice none 0 0))
    have pB := below_seven hB0 (k := w.heap.size + 1) (by omega) (.int .i64 0) (.slice none 0 0) (.slice none 0 0) (.int .i64 0) (.slice none 0 0) (.slice none 0 0) (.slice none 0 0)
    go_wp2_with fail
    clear r0 r1 r2 r3 r4 r5 r6 f0 f1 f2 f3 f4 f5 f6
    generalize ((((((w1.setCell ⟨w.heap.size + 1, 0, none⟩ (.int .i64 0)).setCell ⟨w.heap.size + 1, 1, none⟩ (.slice none 0 0)).setCell ⟨w.heap.size + 1, 2, none⟩ (.slice none 0 0)).setCell ⟨w.heap.size + 1, 3, none⟩ (.int .i64 0)).setCell ⟨w.heap.size + 1, 4, none⟩ (.slice none 0 0)).setCell ⟨w.heap.size + 1, 5, none⟩ (.slice none 0 0)).setCell ⟨w.heap.size + 1, 6, none⟩ (.slice none 0 0) = W9 at *
    obtain ⟨d0, d1, d2, d3, d4, d5, d6⟩ := G.c
    exact bodyPost_ret (v := .tuple #[.agg #[.int .i64 0, .slice none 0 0, .slice none 0 0, .int .i64 0, .slice none 0 0, .slice none 0 0, .slice none 0 0], .bool false]) (by simp [results, Tryz.results9, go_sem, d0, d1, d2, d3, d4, d5, d6]) rfl ⟨_, by rw [HG.out], by rw [HR.out]; exact SdO.none _ _ _ (by have := pB.size; omega), pB⟩
  have HR := hid (crX_yes hg)
  have HG := hid hg
  clear hg
  obtain ⟨a0, a1, a2, a3, a4, a5, a6⟩ := F.c
  go_wp2_with fail
  refine (copySnapshot_any _ s.fo _ hf ((h'.below hB0).fo)).mono ?_
  rintro e w2 ⟨v2, rfl, O2, hB2⟩
  obtain ⟨x1, z1, x2, z2, rfl⟩ := sn_forms O2.a
  replace F2 := F2.below hB2
  replace hB0 := below_one hB0 hB2
  have hb2 := hB2.size
  have hk2 : w.heap.size + 1 < w1.heap.size := hk0
  clear a0 a1 a2 a3 a4 a5 a6
  obtain ⟨r0, r1, r2, r3, r4, r5, r6⟩ := F2.c
  have f0 := F2.f 0
  have f1 := F2.f 1
  have f2 := F2.f 2
  have f3 := F2.f 3
  have f4 := F2.f 4
  have f5 := F2.f 5
  have f6 := F2.f 6
  have G := (((((((F2.s0 (.int .i64 s.fo.num)).s1 (.slice x1 s.fo.pol.length z1)).s2 (.slice x2 s.fo.rv.length z2)).s3 (.int .i64 0)).s4 (.slice none 0 0)).s5 (.slice none 0 0)).s6 (.slice none 0 0))
  have pB := below_seven hB0 (k := w.heap.size + 1) (by omega) (.int .i64 s.fo.num) (.slice x1 s.fo.pol.length z1) (.slice x2 s.fo.rv.length z2) (.int .i64 0) (.slice none 0 0) (.slice none 0 0) (.slice none 0 0)
  obtain ⟨_, _, ee, o1, o2, t1, t2⟩ := O2
  cases ee
  have q1 := row_seven o1 (k := w.heap.size + 1) hk2 (.int .i64 s.fo.num) (.slice x1 s.fo.pol.length z1) (.slice x2 s.fo.rv.length z2) (.int .i64 0) (.slice none 0 0) (.slice none 0 0) (.slice none 0 0)
  have q2 := row_seven o2 (k := w.heap.size + 1) hk2 (.int .i64 s.fo.num) (.slice x1 s.fo.pol.length z1) (.slice x2 s.fo.rv.length z2) (.int .i64 0) (.slice none 0 0) (.slice none 0 0) (.slice none 0 0)
  have hse : w2.heap.size ≤ (((((((w2.setCell ⟨w.heap.size + 1, 0, none⟩ (.int .i64 s.fo.num)).setCell ⟨w.heap.size + 1, 1, none⟩ (.slice x1 s.fo.pol.length z1)).setCell ⟨w.heap.size + 1, 2, none⟩ (.slice x2 s.fo.rv.length z2)).setCell ⟨w.heap.size + 1, 3, none⟩ (.int .i64 0)).setCell ⟨w.heap.size + 1, 4, none⟩ (.slice none 0 0)).setCell ⟨w.heap.size + 1, 5, none⟩ (.slice none 0 0)).setCell ⟨w.heap.size + 1, 6, none⟩ (.slice none 0 0)).heap.size := by simp
  go_wp2_with fail
  clear r0 r1 r2 r3 r4 r5 r6 f0 f1 f2 f3 f4 f5 f6
  generalize ((((((w2.setCell ⟨w.heap.size + 1, 0, none⟩ (.int .i64 s.fo.num)).setCell ⟨w.heap.size + 1, 1, none⟩ (.slice x1 s.fo.pol.length z1)).setCell ⟨w.heap.size + 1, 2, none⟩ (.slice x2 s.fo.rv.length z2)).setCell ⟨w.heap.size + 1, 3, none⟩ (.int .i64 0)).setCell ⟨w.heap.size + 1, 4, none⟩ (.slice none 0 0)).setCell ⟨w.heap.size + 1, 5, none⟩ (.slice none 0 0)).setCell ⟨w.heap.size + 1, 6, none⟩ (.slice none 0 0) = W9 at *
  obtain ⟨d0, d1, d2, d3, d4, d5, d6⟩ := G.c
  exact bodyPost_ret (v := .tuple #[.agg #[.int .i64 s.fo.num, .slice x1 s.fo.pol.length z1, .slice x2 s.fo.rv.length z2, .int .i64 0, .slice none 0 0, .slice none 0 0, .slice none 0 0], .bool true]) (by simp [results, Tryz.results9, go_sem, d0, d1, d2, d3, d4, d5, d6]) rfl ⟨_, by rw [HG.out], by rw [HR.out]; exact ⟨w2.heap.size, _, _, _, _, _, rfl, by omega, hse, ⟨_, _, rfl, Go.Joins.ownsRow_le q1 hb, Go.Joins.ownsRow_le q2 hb, t1, t2⟩, World.ownsRow_nil _ _ _ _, World.ownsRow_nil _ _ _ _, World.ownsRow_nil _ _ _ _, fun _ h => by simp [Value.ownBlock] at h, fun _ h => by simp [Value.ownBlock] at h, fun _ h => by simp [Value.ownBlock] at h⟩, pB⟩

end Go.Proofs.YtjnajdilllkpcaaGreat

namespace Go.Proofs.YtjnajdilllkpcaaGreat
open Go.RowKit Go.Shelf

theorem okS_num (n : Int) : okS n = numB n := by
  unfold okS numB
  exact decide_eq_decide.2 (by omega)
/-- What a mail tells. -/
def nwV (kd ver no : Int) (ru : Ru) (se : Int) : Value :=
  if ((kd == 1) && (decide (0 ≤ no) && (decide (no ≤ 230) && decide (ver ≤ 100000)))) = true then .iface 79 (.agg #[.int .i64 no])
  else if ((kd == 2) && ru.good) = true then .iface 81 (.agg #[.int .i64 no, .bool ru.deny, .string ru.who, .string ru.method, .string ru.path])
  else if ((kd == 3) && numB se) = true then .iface 83 (.agg #[.int .i64 no, .int .i64 se])
  else if (kd == 4) = true then .iface 84 (.agg #[.int .i64 no]) else .nilIface
section
variable {s : Sd} {kd ver no se : Int} {ru : Ru}
theorem nw_op (h1 : decide (0 ≤ no) = true) (h2 : decide (no ≤ 230) = true) (h3 : decide (ver ≤ 100000) = true) : nwV 1 ver no ru se = .iface 79 (.agg #[.int .i64 no]) := by
  unfold nwV
  rw [h1, h2, h3]
  rfl
theorem nw_op0 (h : (decide (0 ≤ no) && (decide (no ≤ 230) && decide (ver ≤ 100000))) = false) : nwV 1 ver no ru se = .nilIface := by
  unfold nwV
  rw [h]
  rfl
theorem nw_ru (h : ru.good = true) : nwV 2 ver no ru se = .iface 81 (.agg #[.int .i64 no, .bool ru.deny, .string ru.who, .string ru.method, .string ru.path]) := by
  unfold nwV
  rw [h]
  rfl
theorem nw_ru0 (h : ru.good = false) : nwV 2 ver no ru se = .nilIface := by
  unfold nwV
  rw [h]
  rfl
theorem nw_se (h : numB se = true) : nwV 3 ver no ru se = .iface 83 (.agg #[.int .i64 no, .int .i64 se]) := by
  unfold nwV
  rw [h]
  rfl
theorem nw_se0 (h : numB se = false) : nwV 3 ver no ru se = .nilIface := by
  unfold nwV
  rw [h]
  rfl
theorem nw_cl : nwV 4 ver no ru se = .iface 84 (.agg #[.int .i64 no]) := by
  unfold nwV
  rfl
theorem nw_no (k1 : (kd == 1) = false) (k2 : (kd == 2) = false) (k3 : (kd == 3) = false) (k4 : (kd == 4) = false) : nwV kd ver no ru se = .nilIface := by
  unfold nwV
  rw [k1, k2, k3, k4]
  rfl
theorem tk1_bad (h1 : decide (ver ≤ s.fo.num) = false) (h2 : decide (ver < s.co) = false) (h : (decide (0 ≤ no) && (decide (no ≤ 230) && decide (ver ≤ 100000))) = false) : tkX s ⟨1, ver, no, ru, se⟩ = s := by
  rw [tk_op h1 h2]
  refine if_neg (fun hc => ?_)
  simp only [Bool.and_eq_true, decide_eq_true_eq] at hc
  have hN : 0 ≤ no ∧ no ≤ 230 := of_decide_eq_true hc.2.2
  rw [decide_eq_true hN.1, decide_eq_true hN.2, decide_eq_true hc.2.1] at h
  cases h
theorem tk1_com (h1 : decide (ver ≤ s.fo.num) = false) (h2 : decide (ver < s.co) = false) (h : (ver == s.co) = true) : tkX s ⟨1, ver, no, ru, se⟩ = s := by
  rw [tk_op h1 h2]
  refine if_neg (fun hc => ?_)
  simp only [Bool.and_eq_true, decide_eq_true_eq] at hc
  have : ver = s.co := by simpa using h
  omega
theorem tk1_yes (h1 : decide (ver ≤ s.fo.num) = false) (h2 : decide (ver < s.co) = false) (h : (ver == s.co) = false) (g1 : decide (0 ≤ no) = true) (g2 : decide (no ≤ 230) = true) (g3 : decide (ver ≤ 100000) = true) : tkX s ⟨1, ver, no, ru, se⟩ = opX s ver no.toNat := by
  rw [tk_op h1 h2]
  refine if_pos ?_
  have e1 : ver ≠ s.co := by simpa using h
  have e2 := of_decide_eq_false h2
  have e3 := of_decide_eq_true g1
  have e4 := of_decide_eq_true g2
  rw [g3, decide_eq_true (show s.co < ver by omega), show inB 0 230 no = true from decide_eq_true ⟨e3, e4⟩]
  rfl
theorem bne_of_beq {a b : Int} (h : (a == b) = false) : (a != b) = true := by simpa using h
theorem bne_of_beq' {a b : Int} (h : (a == b) = true) : (a != b) = false := by simpa using h
theorem tk2_not (h1 : decide (ver ≤ s.fo.num) = false) (h2 : decide (ver < s.co) = false) (h : ((ver == s.co) && lkB s no) = false) : tkX s ⟨2, ver, no, ru, se⟩ = s := by
  cases hv : (ver == s.co)
  · exact tk_ver h1 h2 (by decide) (bne_of_beq hv)
  · rw [hv, Bool.true_and] at h
    exact tk_lk h1 h2 (by decide) (by decide) (bne_of_beq' hv) h
theorem tk2_bad (h1 : decide (ver ≤ s.fo.num) = false) (h2 : decide (ver < s.co) = false) (h : ru.good = false) : tkX s ⟨2, ver, no, ru, se⟩ = s := by
  cases hv : ((ver == s.co) && lkB s no)
  · exact tk2_not h1 h2 hv
  · rw [Bool.and_eq_true] at hv
    exact tk_ru0 h1 h2 (bne_of_beq' hv.1) hv.2 h
theorem tk3_not (h1 : decide (ver ≤ s.fo.num) = false) (h2 : decide (ver < s.co) = false) (h : ((ver == s.co) && lkB s no) = false) : tkX s ⟨3, ver, no, ru, se⟩ = s := by
  cases hv : (ver == s.co)
  · exact tk_ver h1 h2 (by decide) (bne_of_beq hv)
  · rw [hv, Bool.true_and] at h
    exact tk_lk h1 h2 (by decide) (by decide) (bne_of_beq' hv) h
theorem tk3_bad (h1 : decide (ver ≤ s.fo.num) = false) (h2 : decide (ver < s.co) = false) (h : numB se = false) : tkX s ⟨3, ver, no, ru, se⟩ = s := by
  cases hv : ((ver == s.co) && lkB s no)
  · exact tk3_not h1 h2 hv
  · rw [Bool.and_eq_true] at hv
    exact tk_se0 h1 h2 (bne_of_beq' hv.1) hv.2 h
theorem tk4_ver (h1 : decide (ver ≤ s.fo.num) = false) (h2 : decide (ver < s.co) = false) (h : (ver == s.co) = false) : tkX s ⟨4, ver, no, ru, se⟩ = s := tk_ver h1 h2 (by decide) (bne_of_beq h)
theorem tk4_no (h1 : decide (ver ≤ s.fo.num) = false) (h2 : decide (ver < s.co) = false) (h : (ver == s.co) = true) (hn : (no == (s.ha.length : Int)) = false) : tkX s ⟨4, ver, no, ru, se⟩ = s := by
  rw [tk_com h1 h2 (bne_of_beq' h)]
  exact if_neg (by show ¬ ((no == (s.ha.length : Int)) && _) = true; rw [hn]; simp)
theorem tk4_yes (h1 : decide (ver ≤ s.fo.num) = false) (h2 : decide (ver < s.co) = false) (h : (ver == s.co) = true) (hn : (no == (s.ha.length : Int)) = true) : tkX s ⟨4, ver, no, ru, se⟩ = brX6 s := by
  rw [tk_com h1 h2 (bne_of_beq' h)]
  unfold cmX brX6
  rw [hn, Bool.true_and]
theorem tk_else (h1 : decide (ver ≤ s.fo.num) = false) (h2 : decide (ver < s.co) = false) (k1 : (kd == 1) = false) (k2 : (kd == 2) = false) (k3 : (kd == 3) = false) (k4 : (kd == 4) = false) : tkX s ⟨kd, ver, no, ru, se⟩ = s := by
  cases hv : (ver == s.co)
  · exact tk_ver h1 h2 k1 (bne_of_beq hv)
  · exact tk_no h1 h2 k1 k4 k2 k3 (bne_of_beq' hv)
end
theorem arP_op (s : Sd) (v : Int) (n : Nat) : arP (opX s v n) = plZs := by
  unfold arP plZs
  apply List.ext_getElem?
  intro i
  rw [List.getElem?_map, List.getElem?_replicate]
  by_cases h : i < 230
  · rw [List.getElem?_range h, if_pos h]
    simp only [Option.map_some, plS, opX, List.getElem?_replicate]
    split <;> rfl
  · rw [List.getElem?_eq_none (by rw [List.length_range]; omega), if_neg h]
    rfl
theorem arP_at (s : Sd) {i : Nat} (h : i < 230) : (arP s)[i]? = some (plS s i) := by
  unfold arP
  rw [List.getElem?_map, List.getElem?_range h]
  rfl
theorem arP_put {s s' : Sd} {n : Nat} (hn : n < 230) (h : ∀ i, i ≠ n → plS s' i = plS s i) : arP s' = (arP s).set n (plS s' n) := by
  apply List.ext_getElem?
  intro i
  by_cases hi : i < 230
  · by_cases c : n = i
    · subst c
      rw [List.getElem?_set_self (by rw [arP_len]; exact hn), arP_at s' hi]
    · rw [List.getElem?_set_ne c, arP_at s' hi, arP_at s hi, h i (fun e => c e.symm)]
  · rw [List.getElem?_eq_none (by rw [arP_len]; omega), List.getElem?_eq_none (by rw [List.length_set, arP_len]; omega)]
theorem arP_ru {s : Sd} (hg : sdB s = true) {ver : Int} {n : Nat} {ru : Ru} {se : Int} (hl : lkB s (n : Int) = true) : n < 230 ∧ arP (ruX s ⟨2, ver, (n : Int), ru, se⟩) = (arP s).set n ⟨true, ru, 0⟩ := by
  obtain ⟨g1, g2, g3, g4⟩ := sd_parts hg
  obtain ⟨e1, e2, e3⟩ := lnB_parts g2
  obtain ⟨l1, l2, l3⟩ := lk_at hl
  rw [Int.toNat_natCast] at l2 l3
  have hp := pl_at g4 l2
  unfold plA at hp
  rw [l3] at hp
  have hz := (spot_off hp).2
  refine ⟨by omega, ?_⟩
  rw [arP_put (s := s) (n := n) (by omega) (fun i hi => ?_)]
  · congr 1
    unfold plS ruX
    simp only [Int.toNat_natCast]
    rw [List.getElem?_set_self l2, List.getElem?_set_self (by omega), hz]
    rfl
  · unfold plS ruX
    simp only [Int.toNat_natCast]
    rw [List.getElem?_set_ne (fun e => hi e.symm), List.getElem?_set_ne (fun e => hi e.symm)]
theorem arP_se {s : Sd} (hg : sdB s = true) {ver : Int} {n : Nat} {ru : Ru} {se : Int} (hl : lkB s (n : Int) = true) : n < 230 ∧ arP (seX6 s ⟨3, ver, (n : Int), ru, se⟩) = (arP s).set n ⟨true, zrU, se⟩ := by
  obtain ⟨g1, g2, g3, g4⟩ := sd_parts hg
  obtain ⟨e1, e2, e3⟩ := lnB_parts g2
  obtain ⟨l1, l2, l3⟩ := lk_at hl
  rw [Int.toNat_natCast] at l2 l3
  have hp := pl_at g4 l2
  unfold plA at hp
  rw [l3] at hp
  have hz := (spot_off hp).1
  refine ⟨by omega, ?_⟩
  rw [arP_put (s := s) (n := n) (by omega) (fun i hi => ?_)]
  · congr 1
    unfold plS seX6
    simp only [Int.toNat_natCast]
    rw [List.getElem?_set_self l2, List.getElem?_set_self (by omega), hz]
    rfl
  · unfold plS seX6
    simp only [Int.toNat_natCast]
    rw [List.getElem?_set_ne (fun e => hi e.symm), List.getElem?_set_ne (fun e => hi e.symm)]
theorem Mid.cell {lo hi : Nat} {w w1 : World} (h : Mid lo hi w w1) {b j : Nat} (hb : b < w.heap.size) (ho : b < lo ∨ hi ≤ b) {v : Value} (hc : w.cell? ⟨b, j, none⟩ = some v) : w1.cell? ⟨b, j, none⟩ = some v :=
  (World.cell?_of_block (a := ⟨b, j, none⟩) (h.block b hb ho)).trans hc
theorem mid_six (w : World) (k o : Nat) (x0 x1 x2 x3 x4 x5 : Value) : Mid k (k + 1) w ((((((w.setCell ⟨k, o, none⟩ x0).setCell ⟨k, o + 1, none⟩ x1).setCell ⟨k, o + 2, none⟩ x2).setCell ⟨k, o + 3, none⟩ x3).setCell ⟨k, o + 4, none⟩ x4).setCell ⟨k, o + 5, none⟩ x5) := by
  have h0 : Mid k (k + 1) w w := Mid.of_below (Below.refl _ _)
  exact (((((h0.set (by simp) (by simp) _).set (by simp) (by simp) _).set (by simp) (by simp) _).set (by simp) (by simp) _).set (by simp) (by simp) _).set (by simp) (by simp) _
/-- A side to which mails come, whose version in force is its own. -/
def ArO (w : World) (b0 k : Nat) (s : Sd) : Prop := ∃ x1 y1 z1 x2 y2 z2 base top, ArB w k s.fo.num (.slice x1 y1 z1) (.slice x2 y2 z2) s.co (s.ha.length : Int) (arP s) ∧ b0 ≤ base ∧ top ≤ w.heap.size ∧ (k + 1 ≤ base ∨ top ≤ k) ∧ SnO w base top (.agg #[.int .i64 s.fo.num, .slice x1 y1 z1, .slice x2 y2 z2]) s.fo
theorem ArO.below {w w' : World} {b0 k : Nat} {s : Sd} (h : ArO w b0 k s) (hB : Below w.heap.size w w') : ArO w' b0 k s := by
  obtain ⟨x1, y1, z1, x2, y2, z2, base, top, h1, h2, h3, h4, h5⟩ := h
  exact ⟨x1, y1, z1, x2, y2, z2, base, top, h1.below hB, h2, Nat.le_trans h3 hB.size, h4, h5.below hB⟩

set_option maxHeartbeats 4000000 in
theorem newsOf_any (kd ver no : Int) (ru : Ru) (se : Int) (w : World) (hr : ru.size ≤ 1048576) :
    Calls Tryz.prog 33 #[(Ml.mk kd ver no ru se).val] w fun e w' => e = .returned (nwV kd ver no ru se) ∧ Below w.heap.size w w' := by
  have hB0 : Below w.heap.size w (w.alloc (.cells #[.int .i64 kd, .int .i64 ver, .int .i64 no, .bool ru.deny, .string ru.who, .string ru.method, .string ru.path, .int .i64 se] 33)) := (Below.refl _ w).alloc (Nat.le_refl _) _
  have F := Eight.new w (.int .i64 kd) (.int .i64 ver) (.int .i64 no) (.bool ru.deny) (.string ru.who) (.string ru.method) (.string ru.path) (.int .i64 se) 33
  obtain ⟨m0, m1, m2, m3, m4, m5, m6, m7⟩ := F.c
  by_cases k1 : kd = 1
  · subst k1
    cases hA : decide (0 ≤ no)
    · have HR := hid (nw_op0 (ver := ver) (no := no) (ru := ru) (se := se) (by rw [hA]; rfl))
      go_enter Tryz.func33, Tryz.ntmps33
      go_wp2
      go_ret
      exact ⟨by rw [HR.out]; rfl, hB0⟩
    cases hC : decide (no ≤ 230)
    · have HR := hid (nw_op0 (ver := ver) (no := no) (ru := ru) (se := se) (by rw [hC]; simp))
      go_enter Tryz.func33, Tryz.ntmps33
      go_wp2
      go_ret
      exact ⟨by rw [HR.out]; rfl, hB0⟩
    cases hD : decide (ver ≤ 100000)
    · have HR := hid (nw_op0 (ver := ver) (no := no) (ru := ru) (se := se) (by rw [hD]; simp))
      go_enter Tryz.func33, Tryz.ntmps33
      go_wp2
      go_ret
      exact ⟨by rw [HR.out]; rfl, hB0⟩
    have HR := hid (nw_op (ver := ver) (no := no) (ru := ru) (se := se) hA hC hD)
    go_enter Tryz.func33, Tryz.ntmps33
    go_wp2
    go_ret
    exact ⟨by rw [HR.out]; rfl, hB0⟩
  have k1' : (kd == 1) = false := by simpa using k1
  by_cases k2 : kd = 2
  · subst k2
    go_enter Tryz.func33, Tryz.ntmps33
    go_upto_region 1 with fail
    generalize w.alloc (.cells #[.int .i64 2, .int .i64 ver, .int .i64 no, .bool ru.deny, .string ru.who, .string ru.method, .string ru.path, .int .i64 se] 33) = W0 at *
    go_wp2_with fail
    refine (implGoodRule_any ru _ hr).mono ?_
    rintro e w1 ⟨rfl, hB1⟩
    replace F := F.below hB1
    replace hB0 := below_one hB0 hB1
    clear m0 m1 m2 m3 m4 m5 m6 m7
    obtain ⟨m0, m1, m2, m3, m4, m5, m6, m7⟩ := F.c
    cases hG : ru.good
    · have HR := hid (nw_ru0 (ver := ver) (no := no) (ru := ru) (se := se) hG)
      go_wp2
      go_ret
      exact ⟨by rw [HR.out]; rfl, hB0⟩
    · have HR := hid (nw_ru (ver := ver) (no := no) (ru := ru) (se := se) hG)
      go_wp2
      go_ret
      exact ⟨by rw [HR.out]; rfl, hB0⟩
  have k2' : (kd == 2) = false := by simpa using k2
  by_cases k3 : kd = 3
  · subst k3
    go_enter Tryz.func33, Tryz.ntmps33
    go_upto_region 1 with fail
    generalize w.alloc (.cells #[.int .i64 3, .int .i64 ver, .int .i64 no, .bool ru.deny, .string ru.who, .string ru.method, .string ru.path, .int .i64 se] 33) = W0 at *
    go_wp2_with fail
    refine (okSerial_any se _).mono ?_
    rintro e w1 ⟨rfl, rfl⟩
    rw [okS_num]
    cases hG : numB se
    · have HR := hid (nw_se0 (ver := ver) (no := no) (ru := ru) (se := se) hG)
      go_wp2
      go_ret
      exact ⟨by rw [HR.out]; rfl, hB0⟩
    · have HR := hid (nw_se (ver := ver) (no := no) (ru := ru) (se := se) hG)
      go_wp2
      go_ret
      exact ⟨by rw [HR.out]; rfl, hB0⟩
  have k3' : (kd == 3) = false := by simpa using k3
  by_cases k4 : kd = 4
  · subst k4
    have HR := hid (nw_cl (ver := ver) (no := no) (ru := ru) (se := se))
    go_enter Tryz.func33, Tryz.ntmps33
    go_wp2
    go_ret
    exact ⟨by rw [HR.out]; rfl, hB0⟩
  have k4' : (kd == 4) = false := by simpa using k4
  have HR := hid (nw_no (ver := ver) (no := no) (ru := ru) (se := se) k1' k2' k3' k4')
  go_enter Tryz.func33, Tryz.ntmps33
  go_wp2
  go_ret
  exact ⟨by rw [HR.out]; rfl, hB0⟩

theorem ta_hit {P : Program} {t : TypeId} {d : Array Field} (hu : P.underlying t = some (.struct d)) (v : Value) (x : TypeId) (w : World) : (Instr.typeAssert (.iface t v) x t true).run P w = .ok (.tuple #[v, .bool true]) w := by
  simp [Instr.typeAssert, run_underlying hu]
theorem ta_miss {P : Program} {t u : TypeId} {d : Array Field} {z : Value} (hu : P.underlying t = some (.struct d)) (hz : (P.info? t).map (·.zero) = some (some z)) (hne : u ≠ t) (v : Value) (x : TypeId) (w : World) : (Instr.typeAssert (.iface u v) x t true).run P w = .ok (.tuple #[z, .bool false]) w := by
  cases hi : P.info? t with
  | none => rw [hi] at hz; simp at hz
  | some i =>
    rw [hi] at hz
    have hz' : i.zero = some z := by simpa using hz
    simp [Instr.typeAssert, run_underlying hu, hne, zeroValue, typeInfo, hi, hz']
theorem ta_nil {P : Program} {t : TypeId} {d : Array Field} {z : Value} (hu : P.underlying t = some (.struct d)) (hz : (P.info? t).map (·.zero) = some (some z)) (x : TypeId) (w : World) : (Instr.typeAssert .nilIface x t true).run P w = .ok (.tuple #[z, .bool false]) w := by
  cases hi : P.info? t with
  | none => rw [hi] at hz; simp at hz
  | some i =>
    rw [hi] at hz
    have hz' : i.zero = some z := by simpa using hz
    simp [Instr.typeAssert, run_underlying hu, zeroValue, typeInfo, hi, hz']

theorem zero_opening : (Tryz.prog.info? 79).map (·.zero) = some (some (.agg #[.int .i64 0])) := by kernel_rfl
theorem zero_ruleNews : (Tryz.prog.info? 81).map (·.zero) = some (some (.agg #[.int .i64 0, .bool false, .string ByteArray.empty, .string ByteArray.empty, .string ByteArray.empty])) := by kernel_rfl
theorem zero_serialNews : (Tryz.prog.info? 83).map (·.zero) = some (some (.agg #[.int .i64 0, .int .i64 0])) := by kernel_rfl
theorem zero_closing : (Tryz.prog.info? 84).map (·.zero) = some (some (.agg #[.int .i64 0])) := by kernel_rfl

set_option maxHeartbeats 16000000 in
set_option maxRecDepth 100000 in
theorem take_any (k b0 : Nat) (s : Sd) (kd ver no : Int) (ru : Ru) (se : Int) (w : World) (hs : s.short) (hg : sdB s = true) (hl : loB s) (hr : ru.size ≤ 1048576) (hb : b0 ≤ w.heap.size) (h : ArO w b0 k s) :
    Calls Tryz.prog 15 #[.pointer (some ⟨k, 0, none⟩), (Ml.mk kd ver no ru se).val] w fun e w' => e = .returned (.tuple #[]) ∧ ArO w' b0 k (tkX s ⟨kd, ver, no, ru, se⟩) ∧ Mid k (k + 1) w w' := by
  obtain ⟨e1, e2, e3⟩ := lnB_parts (sd_parts hg).2.1
  clear e1 e2
  have h0 := h
  obtain ⟨x1, y1, z1, x2, y2, z2, base, top, A, hbb, htt, hap, O⟩ := h0
  have hkw := A.lt
  have hB0 : Below w.heap.size w (w.alloc (.cells #[.int .i64 kd, .int .i64 ver, .int .i64 no, .bool ru.deny, .string ru.who, .string ru.method, .string ru.path, .int .i64 se] 33)) := (Below.refl _ w).alloc (Nat.le_refl _) _
  have F := Eight.new w (.int .i64 kd) (.int .i64 ver) (.int .i64 no) (.bool ru.deny) (.string ru.who) (.string ru.method) (.string ru.path) (.int .i64 se) 33
  have A0 := A.below hB0
  go_enter Tryz.func15, Tryz.ntmps15
  go_upto_region 1 with fail
  generalize w.alloc (.cells #[.int .i64 kd, .int .i64 ver, .int .i64 no, .bool ru.deny, .string ru.who, .string ru.method, .string ru.path, .int .i64 se] 33) = W0 at *
  obtain ⟨m0, m1, m2, m3, m4, m5, m6, m7⟩ := F.c
  obtain ⟨b0', b1, b2, b3, b4⟩ := A0.c
  cases hA : decide (ver ≤ s.fo.num)
  case true =>
    have HR := hid (tk1 (s := s) (kd := kd) (ver := ver) (no := no) (ru := ru) (se := se) (by rw [hA]; rfl))
    go_quiet (fail)
    have hB3 := below_one hB0 (below_draws1 W0 nq)
    generalize W0.drewN nq = W3 at *
    go_wp2_with fail
    exact bodyPost_ret (v := .tuple #[]) (by simp [results, Tryz.results15, go_sem]) rfl ⟨rfl, by rw [HR.out]; exact h.below hB3, Mid.of_below hB3⟩
  cases hC : decide (ver < s.co)
  case true =>
    have HR := hid (tk1 (s := s) (kd := kd) (ver := ver) (no := no) (ru := ru) (se := se) (by rw [hC]; simp))
    go_quiet (fail)
    have hB3 := below_one hB0 (below_draws1 W0 nq)
    generalize W0.drewN nq = W3 at *
    go_wp2_with fail
    exact bodyPost_ret (v := .tuple #[]) (by simp [results, Tryz.results15, go_sem]) rfl ⟨rfl, by rw [HR.out]; exact h.below hB3, Mid.of_below hB3⟩
  go_quiet (fail)
  have hBq := below_draws1 W0 nq
  replace F := F.below hBq
  replace A0 := A0.below hBq
  replace hB0 := below_one hB0 hBq
  clear hBq m0 m1 m2 m3 m4 m5 m6 m7 b0' b1 b2 b3 b4
  generalize W0.drewN nq = W1 at *
  obtain ⟨m0, m1, m2, m3, m4, m5, m6, m7⟩ := F.c
  obtain ⟨b0', b1, b2, b3, b4⟩ := A0.c
  go_upto_region 2 with fail
  go_quiet (fail)
  have hBq := below_draws1 W1 nq
  replace F := F.below hBq
  replace A0 := A0.below hBq
  replace hB0 := below_one hB0 hBq
  clear hBq m0 m1 m2 m3 m4 m5 m6 m7 b0' b1 b2 b3 b4
  generalize W1.drewN nq = W2 at *
  obtain ⟨m0, m1, m2, m3, m4, m5, m6, m7⟩ := F.c
  have hNw := fun W => newsOf_any kd ver no ru se W hr
  go_wp2_with fail
  refine (hNw _).mono ?_
  rintro e W3 ⟨rfl, hB3⟩
  replace F := F.below hB3
  replace A0 := A0.below hB3
  replace hB3 := below_one hB0 hB3
  have hs3 := hB3.size
  clear hB0 hNw m0 m1 m2 m3 m4 m5 m6 m7
  obtain ⟨m0, m1, m2, m3, m4, m5, m6, m7⟩ := F.c
  obtain ⟨b0', b1, b2, b3, b4⟩ := A0.c
  by_cases k1 : kd = 1
  · subst k1
    cases hQ : (decide (0 ≤ no) && (decide (no ≤ 230) && decide (ver ≤ 100000)))
    case false =>
      rw [nw_op0 hQ]
      have v0 := fun x W => ta_nil (P := Tryz.prog) Tryz.underlying79 zero_opening x W
      have v1 := fun x W => ta_nil (P := Tryz.prog) Tryz.underlying81 zero_ruleNews x W
      have v2 := fun x W => ta_nil (P := Tryz.prog) Tryz.underlying83 zero_serialNews x W
      have v3 := fun x W => ta_nil (P := Tryz.prog) Tryz.underlying84 zero_closing x W
      have HR := hid (tk1_bad (s := s) (ru := ru) (se := se) hA hC hQ)
      go_wp2_with fail
      exact bodyPost_end (v := .tuple #[]) (by simp [results, Tryz.results15, go_sem]) rfl ⟨rfl, by rw [HR.out]; exact h.below hB3, Mid.of_below hB3⟩
    simp only [Bool.and_eq_true] at hQ
    obtain ⟨q1, q2, q3⟩ := hQ
    rw [nw_op q1 q2 q3]
    cases hV : (ver == s.co)
    case true =>
      have v0 := fun x W => ta_hit (P := Tryz.prog) Tryz.underlying79 (.agg #[.int .i64 no]) x W
      have HR := hid (tk1_com (s := s) (no := no) (ru := ru) (se := se) hA hC hV)
      have hBe := hB3.alloc hB3.size (.cells #[.int .i64 no] 79)
      go_wp2_with fail
      exact bodyPost_end (v := .tuple #[]) (by simp [results, Tryz.results15, go_sem]) rfl ⟨rfl, by rw [HR.out]; exact h.below hBe, Mid.of_below hBe⟩
    have v0 := fun x W => ta_hit (P := Tryz.prog) Tryz.underlying79 (.agg #[.int .i64 no]) x W
    have HR := hid (tk1_yes (s := s) (no := no) (ru := ru) (se := se) hA hC hV q1 q2 q3)
    have hno := of_decide_eq_true q1
    obtain ⟨n, rfl⟩ := Int.eq_ofNat_of_zero_le hno
    rw [Int.toNat_natCast] at HR
    have hBn : Below W3.heap.size W3 (W3.alloc (.cells #[.int .i64 (n : Int)] 79)) := (Below.refl _ _).alloc (Nat.le_refl _) _
    have g0 : (W3.alloc (.cells #[.int .i64 (n : Int)] 79)).cell? ⟨W3.heap.size, 0, none⟩ = some (.int .i64 (n : Int)) := cell_of_row _ _ 0 _ _ (0, 0) (heap_alloc_new W3 _)
    have hkn : W3.heap.size < (W3.alloc (.cells #[.int .i64 (n : Int)] 79)).heap.size := by simp
    have A4 := A0.below hBn
    have F4 := F.below hBn
    have hB4 := below_one hB3 hBn
    go_upto_region 7 with fail
    clear hBn m0 m1 m2 m3 m4 m5 m6 m7 b0' b1 b2 b3 b4
    generalize W3.alloc (.cells #[.int .i64 (n : Int)] 79) = W4 at *
    generalize hkb : W3.heap.size = kb at *
    have hkb2 : w.heap.size ≤ kb := hs3
    have hkA := A4.lt
    have gA : ArB W4.drew k s.fo.num (.slice x1 y1 z1) (.slice x2 y2 z2) s.co (s.ha.length : Int) (arP s) := ⟨A4.1, World.ownsRow.drew A4.2⟩
    have gF : Eight W4.drew _ _ _ _ _ _ _ _ _ _ := World.ownsRow.drew F4
    have gc : W4.drew.cell? ⟨kb, 0, none⟩ = some (.int .i64 (n : Int)) := g0
    have gB : Below w.heap.size w W4.drew := ⟨hB4.os, hB4.tape, hB4.output, hB4.size, hB4.block⟩
    clear A4 F4 g0 hB4 hkn hkA
    refine wp_region_held_drew (S := fun W => W.cell? ⟨k, 0, none⟩ = some (.int .i64 s.fo.num) ∧ W.cell? ⟨k, 1, none⟩ = some (.slice x1 y1 z1) ∧ W.cell? ⟨k, 2, none⟩ = some (.slice x2 y2 z2) ∧ W.cell? ⟨w.heap.size, 1, none⟩ = some (.int .i64 ver) ∧ W.cell? ⟨kb, 0, none⟩ = some (.int .i64 (n : Int))) (by kernel_rfl) (by exact ⟨gA.c.1, gA.c.2.1, gA.c.2.2.1, gF.c.2.1, gc⟩) (fun hHeld => ?_)
    generalize W4.drew = We at *
    refine takeW 0 (v := ?v1) rfl (by kernel_rfl) (by kernel_rfl) (by kernel_rfl) (fun _ _ _ h => h) (by rfl) (by assumption) ?hy1 ?rest1
    case hy1 => intro w' hSw; (try dsimp only at hSw); go_simp; try with_reducible rfl
    try simp only [Act.put, List.setIfInBounds_toArray, List.set_cons_zero, List.set_cons_succ]
    refine takeW 1 (v := ?v2) rfl (by kernel_rfl) (by kernel_rfl) (by kernel_rfl) (fun _ _ _ h => h) (by rfl) (by assumption) ?hy2 ?rest2
    case hy2 => intro w' hSw; (try dsimp only at hSw); go_simp; try with_reducible rfl
    try simp only [Act.put, List.setIfInBounds_toArray, List.set_cons_zero, List.set_cons_succ]
    refine takeW 2 (v := ?v3) rfl (by kernel_rfl) (by kernel_rfl) (by kernel_rfl) (fun _ _ _ h => h) (by rfl) (by assumption) ?hy3 ?rest3
    case hy3 => intro w' hSw; (try dsimp only at hSw); go_simp; try with_reducible rfl
    try simp only [Act.put, List.setIfInBounds_toArray, List.set_cons_zero, List.set_cons_succ]
    refine takeW 3 (v := ?v4) rfl (by kernel_rfl) (by kernel_rfl) (by kernel_rfl) (fun _ _ _ h => h) (by rfl) (by assumption) ?hy4 ?rest4
    case hy4 => intro w' hSw; (try dsimp only at hSw); go_simp; try with_reducible rfl
    try simp only [Act.put, List.setIfInBounds_toArray, List.set_cons_zero, List.set_cons_succ]
    refine takeW 4 (v := ?v5) rfl (by kernel_rfl) (by kernel_rfl) (by kernel_rfl) (fun _ _ _ h => h) (by rfl) (by assumption) ?hy5 ?rest5
    case hy5 => intro w' hSw; (try dsimp only at hSw); go_simp; try with_reducible rfl
    try simp only [Act.put, List.setIfInBounds_toArray, List.set_cons_zero, List.set_cons_succ]
    refine takeW 5 (v := ?v6) rfl (by kernel_rfl) (by kernel_rfl) (by kernel_rfl) (fun _ _ _ h => h) (by rfl) (by assumption) ?hy6 ?rest6
    case hy6 => intro w' hSw; (try dsimp only at hSw); go_simp; try with_reducible rfl
    try simp only [Act.put, List.setIfInBounds_toArray, List.set_cons_zero, List.set_cons_succ]
    refine takeW 6 (v := ?v7) rfl (by kernel_rfl) (by kernel_rfl) (by kernel_rfl) (fun _ _ _ h => h) (by rfl) (by assumption) ?hy7 ?rest7
    case hy7 => intro w' hSw; (try dsimp only at hSw); go_simp; try with_reducible rfl
    try simp only [Act.put, List.setIfInBounds_toArray, List.set_cons_zero, List.set_cons_succ]
    refine takeW 7 (v := ?v8) rfl (by kernel_rfl) (by kernel_rfl) (by kernel_rfl) (fun _ _ _ h => h) (by rfl) (by assumption) ?hy8 ?rest8
    case hy8 => intro w' hSw; (try dsimp only at hSw); go_simp; try with_reducible rfl
    try simp only [Act.put, List.setIfInBounds_toArray, List.set_cons_zero, List.set_cons_succ]
    refine takeW 8 (v := ?v9) rfl (by kernel_rfl) (by kernel_rfl) (by kernel_rfl) (fun _ _ _ h => h) (by rfl) (by assumption) ?hy9 ?rest9
    case hy9 => intro w' hSw; (try dsimp only at hSw); go_simp; try with_reducible rfl
    try simp only [Act.put, List.setIfInBounds_toArray, List.set_cons_zero, List.set_cons_succ]
    refine takeW 9 (v := .agg (arC s.fo.num (.slice x1 y1 z1) (.slice x2 y2 z2) ver (n : Int) plZs).toArray) rfl (by kernel_rfl) (by kernel_rfl) (by kernel_rfl) (fun _ _ _ h => h) (by rfl) (by assumption) (fun w' _ => exec_build 55 _ rfl _ (builtAr3 s.fo.num (.slice x1 y1 z1) (.slice x2 y2 z2) ver (n : Int)) w') ?_
    try simp only [Act.put, List.setIfInBounds_toArray, List.set_cons_zero, List.set_cons_succ]
    refine takeW 10 (v := ?v10) rfl (by kernel_rfl) (by kernel_rfl) (by kernel_rfl) (fun _ _ _ h => h) (by rfl) (by assumption) ?hy10 ?rest10
    case hy10 => intro w' hSw; (try dsimp only at hSw); go_simp; try with_reducible rfl
    try simp only [Act.put, List.setIfInBounds_toArray, List.set_cons_zero, List.set_cons_succ]
    have gA2 := gA
    have hM : Mid k (k + 1) w (We.setRow k (arC s.fo.num (.slice x1 y1 z1) (.slice x2 y2 z2) ver (n : Int) plZs).toArray) := (Mid.of_below gB).setRow _
    replace gA := gA.row (num' := s.fo.num) (vp' := .slice x1 y1 z1) (vr' := .slice x2 y2 z2) (co' := ver) (pl' := (n : Int)) plZs_len
    replace gF : Eight (We.setRow k (arC s.fo.num (.slice x1 y1 z1) (.slice x2 y2 z2) ver (n : Int) plZs).toArray) _ _ _ _ _ _ _ _ _ _ := row_setRow gF (fun j e => by simp [Value.ownBlock] at e; omega) _
    replace gc := (cell_setRow_other We k (arC s.fo.num (.slice x1 y1 z1) (.slice x2 y2 z2) ver (n : Int) plZs).toArray ⟨kb, 0, none⟩ (by show kb ≠ k; omega)).trans gc
    refine takeC 11 (by kernel_rfl) rfl (fun K hK => ?_)
    refine step_store rfl 55 (.tmp 50) (.tmp 49) rfl k _ rfl rfl 55 _ gA2.heap (ar_size plZs_len) (ar_same (arP_len s) plZs_len) (ar_all rfl rfl) ?_
    refine hK.out _ _ ?_ (fun hHeld => ?_)
    · exact ⟨gA.c.1, gA.c.2.1, gA.c.2.2.1, gF.c.2.1, gc⟩
    clear hK K
    try simp only [Act.put]
    refine wpAnyH_done (by kernel_rfl) ?_ _
    go_wp2_with fail
    exact bodyPost_end (v := .tuple #[]) (by simp [results, Tryz.results15, go_sem]) rfl ⟨rfl, by rw [HR.out]; exact ⟨x1, y1, z1, x2, y2, z2, base, top, by rw [arP_op]; show ArB _ k s.fo.num _ _ ver ((List.replicate n false).length : Int) plZs; rw [List.length_replicate]; exact gA, hbb, Nat.le_trans htt hM.size, hap, hM.sno O hap⟩, hM⟩
  have k1' : (kd == 1) = false := by simpa using k1
  by_cases k2 : kd = 2
  · subst k2
    cases hG : ru.good
    case false =>
      rw [nw_ru0 hG]
      have v0 := fun x W => ta_nil (P := Tryz.prog) Tryz.underlying79 zero_opening x W
      have v1 := fun x W => ta_nil (P := Tryz.prog) Tryz.underlying81 zero_ruleNews x W
      have v2 := fun x W => ta_nil (P := Tryz.prog) Tryz.underlying83 zero_serialNews x W
      have v3 := fun x W => ta_nil (P := Tryz.prog) Tryz.underlying84 zero_closing x W
      have HR := hid (tk2_bad (s := s) (no := no) (se := se) hA hC hG)
      go_wp2_with fail
      exact bodyPost_end (v := .tuple #[]) (by simp [results, Tryz.results15, go_sem]) rfl ⟨rfl, by rw [HR.out]; exact h.below hB3, Mid.of_below hB3⟩
    rw [nw_ru hG]
    have v0 := fun x W => ta_miss (P := Tryz.prog) (u := 81) Tryz.underlying79 zero_opening (by decide) (.agg #[.int .i64 no, .bool ru.deny, .string ru.who, .string ru.method, .string ru.path]) x W
    have v1 := fun x W => ta_hit (P := Tryz.prog) Tryz.underlying81 (.agg #[.int .i64 no, .bool ru.deny, .string ru.who, .string ru.method, .string ru.path]) x W
    cases hV : (ver == s.co)
    case false =>
      have HR := hid (tk2_not (s := s) (no := no) (ru := ru) (se := se) hA hC (by rw [hV]; rfl))
      have hBe := hB3.alloc hB3.size (.cells #[.int .i64 no, .bool ru.deny, .string ru.who, .string ru.method, .string ru.path] 81)
      go_wp2_with fail
      exact bodyPost_end (v := .tuple #[]) (by simp [results, Tryz.results15, go_sem]) rfl ⟨rfl, by rw [HR.out]; exact h.below hBe, Mid.of_below hBe⟩
    have hBn : Below W3.heap.size W3 (W3.alloc (.cells #[.int .i64 no, .bool ru.deny, .string ru.who, .string ru.method, .string ru.path] 81)) := (Below.refl _ _).alloc (Nat.le_refl _) _
    have g0 : (W3.alloc (.cells #[.int .i64 no, .bool ru.deny, .string ru.who, .string ru.method, .string ru.path] 81)).cell? ⟨W3.heap.size, 0, none⟩ = some (.int .i64 no) := cell_of_row _ _ 0 _ _ (0, 0) (heap_alloc_new W3 _)
    have g1 : (W3.alloc (.cells #[.int .i64 no, .bool ru.deny, .string ru.who, .string ru.method, .string ru.path] 81)).cell? ⟨W3.heap.size, 1, none⟩ = some (.bool ru.deny) := cell_of_row _ _ 1 _ _ (0, 0) (heap_alloc_new W3 _)
    have g2 : (W3.alloc (.cells #[.int .i64 no, .bool ru.deny, .string ru.who, .string ru.method, .string ru.path] 81)).cell? ⟨W3.heap.size, 2, none⟩ = some (.string ru.who) := cell_of_row _ _ 2 _ _ (0, 0) (heap_alloc_new W3 _)
    have g3 : (W3.alloc (.cells #[.int .i64 no, .bool ru.deny, .string ru.who, .string ru.method, .string ru.path] 81)).cell? ⟨W3.heap.size, 3, none⟩ = some (.string ru.method) := cell_of_row _ _ 3 _ _ (0, 0) (heap_alloc_new W3 _)
    have g4 : (W3.alloc (.cells #[.int .i64 no, .bool ru.deny, .string ru.who, .string ru.method, .string ru.path] 81)).cell? ⟨W3.heap.size, 4, none⟩ = some (.string ru.path) := cell_of_row _ _ 4 _ _ (0, 0) (heap_alloc_new W3 _)
    have hkn : W3.heap.size < (W3.alloc (.cells #[.int .i64 no, .bool ru.deny, .string ru.who, .string ru.method, .string ru.path] 81)).heap.size := by simp
    have A4 := A0.below hBn
    have F4 := F.below hBn
    have hB4 := below_one hB3 hBn
    go_upto_region 10 with fail
    clear hBn m0 m1 m2 m3 m4 m5 m6 m7 b0' b1 b2 b3 b4
    generalize W3.alloc (.cells #[.int .i64 no, .bool ru.deny, .string ru.who, .string ru.method, .string ru.path] 81) = W4 at *
    generalize hkb : W3.heap.size = kb at *
    have hkb2 : w.heap.size ≤ kb := hs3
    have hkA := A4.lt
    have hLk := lacks_any k s.fo.num (.slice x1 y1 z1) (.slice x2 y2 z2) s no W4 e3 A4
    go_wp2_with fail
    refine hLk.mono ?_
    rintro e W5 ⟨rfl, rfl⟩
    cases hL : lkB s no
    case false =>
      have HR := hid (tk2_not (s := s) (no := no) (ru := ru) (se := se) hA hC (by rw [hL]; simp))
      go_wp2_with fail
      exact bodyPost_end (v := .tuple #[]) (by simp [results, Tryz.results15, go_sem]) rfl ⟨rfl, by rw [HR.out]; exact h.below hB4, Mid.of_below hB4⟩
    have hno := (lk_at hL).1
    obtain ⟨n, rfl⟩ := Int.eq_ofNat_of_zero_le hno
    have HR := hid ((tk_ru (s := s) (se := se) hA hC (bne_of_beq' hV) hL hG))
    obtain ⟨hn9, hAP⟩ := arP_ru (ver := ver) (ru := ru) (se := se) hg hL
    have HAP := hid hAP
    clear hAP hLk
    go_upto_region 11 with fail
    have gA : ArB W5.drew k s.fo.num (.slice x1 y1 z1) (.slice x2 y2 z2) s.co (s.ha.length : Int) (arP s) := ⟨A4.1, World.ownsRow.drew A4.2⟩
    have gB : Below w.heap.size w W5.drew := ⟨hB4.os, hB4.tape, hB4.output, hB4.size, hB4.block⟩
    have d0 : W5.drew.cell? ⟨kb, 0, none⟩ = some (.int .i64 (n : Int)) := g0
    have d1 : W5.drew.cell? ⟨kb, 1, none⟩ = some (.bool ru.deny) := g1
    have d2 : W5.drew.cell? ⟨kb, 2, none⟩ = some (.string ru.who) := g2
    have d3 : W5.drew.cell? ⟨kb, 3, none⟩ = some (.string ru.method) := g3
    have d4 : W5.drew.cell? ⟨kb, 4, none⟩ = some (.string ru.path) := g4
    have hke : kb < W5.drew.heap.size := hkn
    have hn8 : ((n : Nat) : Int) < 230 := by omega
    clear A4 F4 hB4 hkn hkA g0 g1 g2 g3 g4
    refine wp_region_held_drew (S := fun W => W.cell? ⟨kb, 0, none⟩ = some (.int .i64 (n : Int)) ∧ W.cell? ⟨kb, 1, none⟩ = some (.bool ru.deny) ∧ W.cell? ⟨kb, 2, none⟩ = some (.string ru.who) ∧ W.cell? ⟨kb, 3, none⟩ = some (.string ru.method) ∧ W.cell? ⟨kb, 4, none⟩ = some (.string ru.path)) (by kernel_rfl) (by exact ⟨d0, d1, d2, d3, d4⟩) (fun hHeld => ?_)
    generalize W5.drew = We at *
    refine takeW 0 (v := ?v11) rfl (by kernel_rfl) (by kernel_rfl) (by kernel_rfl) (fun _ _ _ h => h) (by rfl) (by assumption) ?hy11 ?rest11
    case hy11 => intro w' hSw; (try dsimp only at hSw); go_simp; try with_reducible rfl
    try simp only [Act.put, List.setIfInBounds_toArray, List.set_cons_zero, List.set_cons_succ]
    refine takeW 1 (v := ?v12) rfl (by kernel_rfl) (by kernel_rfl) (by kernel_rfl) (fun _ _ _ h => h) (by rfl) (by assumption) ?hy12 ?rest12
    case hy12 => intro w' hSw; (try dsimp only at hSw); go_simp; try with_reducible rfl
    try simp only [Act.put, List.setIfInBounds_toArray, List.set_cons_zero, List.set_cons_succ]
    refine takeW 2 (v := ?v13) rfl (by kernel_rfl) (by kernel_rfl) (by kernel_rfl) (fun _ _ _ h => h) (by rfl) (by assumption) ?hy13 ?rest13
    case hy13 => intro w' hSw; (try dsimp only at hSw); go_simp; try with_reducible rfl
    try simp only [Act.put, List.setIfInBounds_toArray, List.set_cons_zero, List.set_cons_succ]
    refine takeW 3 (v := ?v14) rfl (by kernel_rfl) (by kernel_rfl) (by kernel_rfl) (fun _ _ _ h => h) (by rfl) (by assumption) ?hy14 ?rest14
    case hy14 => intro w' hSw; (try dsimp only at hSw); go_simp; try with_reducible rfl
    try simp only [Act.put, List.setIfInBounds_toArray, List.set_cons_zero, List.set_cons_succ]
    refine takeW 4 (v := ?v15) rfl (by kernel_rfl) (by kernel_rfl) (by kernel_rfl) (fun _ _ _ h => h) (by rfl) (by assumption) ?hy15 ?rest15
    case hy15 => intro w' hSw; (try dsimp only at hSw); go_simp; try with_reducible rfl
    try simp only [Act.put, List.setIfInBounds_toArray, List.set_cons_zero, List.set_cons_succ]
    refine takeW 5 (v := ?v16) rfl (by kernel_rfl) (by kernel_rfl) (by kernel_rfl) (fun _ _ _ h => h) (by rfl) (by assumption) ?hy16 ?rest16
    case hy16 => intro w' hSw; (try dsimp only at hSw); go_simp; try with_reducible rfl
    try simp only [Act.put, List.setIfInBounds_toArray, List.set_cons_zero, List.set_cons_succ]
    refine takeW 6 (v := ?v17) rfl (by kernel_rfl) (by kernel_rfl) (by kernel_rfl) (fun _ _ _ h => h) (by rfl) (by assumption) ?hy17 ?rest17
    case hy17 => intro w' hSw; (try dsimp only at hSw); go_simp; try with_reducible rfl
    try simp only [Act.put, List.setIfInBounds_toArray, List.set_cons_zero, List.set_cons_succ]
    refine takeW 7 (v := ?v18) rfl (by kernel_rfl) (by kernel_rfl) (by kernel_rfl) (fun _ _ _ h => h) (by rfl) (by assumption) ?hy18 ?rest18
    case hy18 => intro w' hSw; (try dsimp only at hSw); go_simp; try with_reducible rfl
    try simp only [Act.put, List.setIfInBounds_toArray, List.set_cons_zero, List.set_cons_succ]
    refine takeW 8 (v := ?v19) rfl (by kernel_rfl) (by kernel_rfl) (by kernel_rfl) (fun _ _ _ h => h) (by rfl) (by assumption) ?hy19 ?rest19
    case hy19 => intro w' hSw; (try dsimp only at hSw); go_simp; try with_reducible rfl
    try simp only [Act.put, List.setIfInBounds_toArray, List.set_cons_zero, List.set_cons_succ]
    obtain ⟨p0, p1, p2, p3, p4, p5⟩ := gA.at (i := n) hn9 (by rw [gA.1]; exact hn9)
    have f0 := gA.f (5 + n * 6)
    have f1 := gA.f (5 + n * 6 + 1)
    have f2 := gA.f (5 + n * 6 + 2)
    have f3 := gA.f (5 + n * 6 + 3)
    have f4 := gA.f (5 + n * 6 + 4)
    have f5 := gA.f (5 + n * 6 + 5)
    have gA2 := gA.put (i := n) hn9 ⟨true, ru, 0⟩
    have hM9 := mid_six We k (5 + n * 6) (.bool true) (.bool ru.deny) (.string ru.who) (.string ru.method) (.string ru.path) (.int .i64 0)
    have hM := (Mid.of_below (lo := k) (hi := k + 1) gB).trans hM9
    replace d0 := hM9.cell hke (by omega) d0
    replace d1 := hM9.cell hke (by omega) d1
    replace d2 := hM9.cell hke (by omega) d2
    replace d3 := hM9.cell hke (by omega) d3
    replace d4 := hM9.cell hke (by omega) d4
    have HM9 := hid hM9
    have HM := hid hM
    have HA2 := hid gA2
    clear hM9 hM gA2
    refine takeC 9 (by kernel_rfl) rfl (fun K hK => ?_)
    go_simp
    skip
    refine hK.out _ _ ?_ (fun hHeld => ?_)
    · exact ⟨d0, d1, d2, d3, d4⟩
    clear hK K
    try simp only [Act.put, List.setIfInBounds_toArray, List.set_cons_zero, List.set_cons_succ]
    refine wpAnyH_done (by kernel_rfl) ?_ _
    go_wp2_with fail
    exact bodyPost_end (v := .tuple #[]) (by simp [results, Tryz.results15, go_sem]) rfl ⟨rfl, by rw [HR.out]; exact ⟨x1, y1, z1, x2, y2, z2, base, top, by rw [HAP.out]; show ArB _ k s.fo.num _ _ s.co ((s.ha.set n true).length : Int) _; rw [List.length_set]; exact HA2.out, hbb, Nat.le_trans htt HM.out.size, hap, HM.out.sno O hap⟩, HM.out⟩
  have k2' : (kd == 2) = false := by simpa using k2
  by_cases k3 : kd = 3
  · subst k3
    cases hG : numB se
    case false =>
      rw [nw_se0 hG]
      have v0 := fun x W => ta_nil (P := Tryz.prog) Tryz.underlying79 zero_opening x W
      have v1 := fun x W => ta_nil (P := Tryz.prog) Tryz.underlying81 zero_ruleNews x W
      have v2 := fun x W => ta_nil (P := Tryz.prog) Tryz.underlying83 zero_serialNews x W
      have v3 := fun x W => ta_nil (P := Tryz.prog) Tryz.underlying84 zero_closing x W
      have HR := hid (tk3_bad (s := s) (no := no) (ru := ru) hA hC hG)
      go_wp2_with fail
      exact bodyPost_end (v := .tuple #[]) (by simp [results, Tryz.results15, go_sem]) rfl ⟨rfl, by rw [HR.out]; exact h.below hB3, Mid.of_below hB3⟩
    rw [nw_se hG]
    have v0 := fun x W => ta_miss (P := Tryz.prog) (u := 83) Tryz.underlying79 zero_opening (by decide) (.agg #[.int .i64 no, .int .i64 se]) x W
    have v1 := fun x W => ta_miss (P := Tryz.prog) (u := 83) Tryz.underlying81 zero_ruleNews (by decide) (.agg #[.int .i64 no, .int .i64 se]) x W
    have v2 := fun x W => ta_hit (P := Tryz.prog) Tryz.underlying83 (.agg #[.int .i64 no, .int .i64 se]) x W
    cases hV : (ver == s.co)
    case false =>
      have HR := hid (tk3_not (s := s) (no := no) (ru := ru) (se := se) hA hC (by rw [hV]; rfl))
      have hBe := hB3.alloc hB3.size (.cells #[.int .i64 no, .int .i64 se] 83)
      go_wp2_with fail
      exact bodyPost_end (v := .tuple #[]) (by simp [results, Tryz.results15, go_sem]) rfl ⟨rfl, by rw [HR.out]; exact h.below hBe, Mid.of_below hBe⟩
    have hBn : Below W3.heap.size W3 (W3.alloc (.cells #[.int .i64 no, .int .i64 se] 83)) := (Below.refl _ _).alloc (Nat.le_refl _) _
    have g0 : (W3.alloc (.cells #[.int .i64 no, .int .i64 se] 83)).cell? ⟨W3.heap.size, 0, none⟩ = some (.int .i64 no) := cell_of_row _ _ 0 _ _ (0, 0) (heap_alloc_new W3 _)
    have g1 : (W3.alloc (.cells #[.int .i64 no, .int .i64 se] 83)).cell? ⟨W3.heap.size, 1, none⟩ = some (.int .i64 se) := cell_of_row _ _ 1 _ _ (0, 0) (heap_alloc_new W3 _)
    have hkn : W3.heap.size < (W3.alloc (.cells #[.int .i64 no, .int .i64 se] 83)).heap.size := by simp
    have A4 := A0.below hBn
    have F4 := F.below hBn
    have hB4 := below_one hB3 hBn
    go_upto_region 14 with fail
    clear hBn m0 m1 m2 m3 m4 m5 m6 m7 b0' b1 b2 b3 b4
    generalize W3.alloc (.cells #[.int .i64 no, .int .i64 se] 83) = W4 at *
    generalize hkb : W3.heap.size = kb at *
    have hkb2 : w.heap.size ≤ kb := hs3
    have hkA := A4.lt
    have hLk := lacks_any k s.fo.num (.slice x1 y1 z1) (.slice x2 y2 z2) s no W4 e3 A4
    go_wp2_with fail
    refine hLk.mono ?_
    rintro e W5 ⟨rfl, rfl⟩
    cases hL : lkB s no
    case false =>
      have HR := hid (tk3_not (s := s) (no := no) (ru := ru) (se := se) hA hC (by rw [hL]; simp))
      go_wp2_with fail
      exact bodyPost_end (v := .tuple #[]) (by simp [results, Tryz.results15, go_sem]) rfl ⟨rfl, by rw [HR.out]; exact h.below hB4, Mid.of_below hB4⟩
    have hno := (lk_at hL).1
    obtain ⟨n, rfl⟩ := Int.eq_ofNat_of_zero_le hno
    have HR := hid ((tk_se (s := s) (ru := ru) hA hC (bne_of_beq' hV) hL hG))
    obtain ⟨hn9, hAP⟩ := arP_se (ver := ver) (ru := ru) (se := se) hg hL
    have HAP := hid hAP
    clear hAP hLk
    go_upto_region 15 with fail
    have gA : ArB W5.drew k s.fo.num (.slice x1 y1 z1) (.slice x2 y2 z2) s.co (s.ha.length : Int) (arP s) := ⟨A4.1, World.ownsRow.drew A4.2⟩
    have gB : Below w.heap.size w W5.drew := ⟨hB4.os, hB4.tape, hB4.output, hB4.size, hB4.block⟩
    have d0 : W5.drew.cell? ⟨kb, 0, none⟩ = some (.int .i64 (n : Int)) := g0
    have d1 : W5.drew.cell? ⟨kb, 1, none⟩ = some (.int .i64 se) := g1
    have hke : kb < W5.drew.heap.size := hkn
    have hn8 : ((n : Nat) : Int) < 230 := by omega
    clear A4 F4 hB4 hkn hkA g0 g1
    refine wp_region_held_drew (S := fun W => W.cell? ⟨kb, 0, none⟩ = some (.int .i64 (n : Int)) ∧ W.cell? ⟨kb, 1, none⟩ = some (.int .i64 se)) (by kernel_rfl) (by exact ⟨d0, d1⟩) (fun hHeld => ?_)
    generalize W5.drew = We at *
    refine takeW 0 (v := ?v20) rfl (by kernel_rfl) (by kernel_rfl) (by kernel_rfl) (fun _ _ _ h => h) (by rfl) (by assumption) ?hy20 ?rest20
    case hy20 => intro w' hSw; (try dsimp only at hSw); go_simp; try with_reducible rfl
    try simp only [Act.put, List.setIfInBounds_toArray, List.set_cons_zero, List.set_cons_succ]
    refine takeW 1 (v := ?v21) rfl (by kernel_rfl) (by kernel_rfl) (by kernel_rfl) (fun _ _ _ h => h) (by rfl) (by assumption) ?hy21 ?rest21
    case hy21 => intro w' hSw; (try dsimp only at hSw); go_simp; try with_reducible rfl
    try simp only [Act.put, List.setIfInBounds_toArray, List.set_cons_zero, List.set_cons_succ]
    refine takeW 2 (v := ?v22) rfl (by kernel_rfl) (by kernel_rfl) (by kernel_rfl) (fun _ _ _ h => h) (by rfl) (by assumption) ?hy22 ?rest22
    case hy22 => intro w' hSw; (try dsimp only at hSw); go_simp; try with_reducible rfl
    try simp only [Act.put, List.setIfInBounds_toArray, List.set_cons_zero, List.set_cons_succ]
    refine takeW 3 (v := ?v23) rfl (by kernel_rfl) (by kernel_rfl) (by kernel_rfl) (fun _ _ _ h => h) (by rfl) (by assumption) ?hy23 ?rest23
    case hy23 => intro w' hSw; (try dsimp only at hSw); go_simp; try with_reducible rfl
    try simp only [Act.put, List.setIfInBounds_toArray, List.set_cons_zero, List.set_cons_succ]
    refine takeW 4 (v := ?v24) rfl (by kernel_rfl) (by kernel_rfl) (by kernel_rfl) (fun _ _ _ h => h) (by rfl) (by assumption) ?hy24 ?rest24
    case hy24 => intro w' hSw; (try dsimp only at hSw); go_simp; try with_reducible rfl
    try simp only [Act.put, List.setIfInBounds_toArray, List.set_cons_zero, List.set_cons_succ]
    refine takeW 5 (v := ?v25) rfl (by kernel_rfl) (by kernel_rfl) (by kernel_rfl) (fun _ _ _ h => h) (by rfl) (by assumption) ?hy25 ?rest25
    case hy25 => intro w' hSw; (try dsimp only at hSw); go_simp; try with_reducible rfl
    try simp only [Act.put, List.setIfInBounds_toArray, List.set_cons_zero, List.set_cons_succ]
    refine takeW 6 (v := ?v26) rfl (by kernel_rfl) (by kernel_rfl) (by kernel_rfl) (fun _ _ _ h => h) (by rfl) (by assumption) ?hy26 ?rest26
    case hy26 => intro w' hSw; (try dsimp only at hSw); go_simp; try with_reducible rfl
    try simp only [Act.put, List.setIfInBounds_toArray, List.set_cons_zero, List.set_cons_succ]
    refine takeW 7 (v := ?v27) rfl (by kernel_rfl) (by kernel_rfl) (by kernel_rfl) (fun _ _ _ h => h) (by rfl) (by assumption) ?hy27 ?rest27
    case hy27 => intro w' hSw; (try dsimp only at hSw); go_simp; try with_reducible rfl
    try simp only [Act.put, List.setIfInBounds_toArray, List.set_cons_zero, List.set_cons_succ]
    refine takeW 8 (v := ?v28) rfl (by kernel_rfl) (by kernel_rfl) (by kernel_rfl) (fun _ _ _ h => h) (by rfl) (by assumption) ?hy28 ?rest28
    case hy28 => intro w' hSw; (try dsimp only at hSw); go_simp; try with_reducible rfl
    try simp only [Act.put, List.setIfInBounds_toArray, List.set_cons_zero, List.set_cons_succ]
    obtain ⟨p0, p1, p2, p3, p4, p5⟩ := gA.at (i := n) hn9 (by rw [gA.1]; exact hn9)
    have f0 := gA.f (5 + n * 6)
    have f1 := gA.f (5 + n * 6 + 1)
    have f2 := gA.f (5 + n * 6 + 2)
    have f3 := gA.f (5 + n * 6 + 3)
    have f4 := gA.f (5 + n * 6 + 4)
    have f5 := gA.f (5 + n * 6 + 5)
    have gA2 := gA.put (i := n) hn9 ⟨true, zrU, se⟩
    have hM9 := mid_six We k (5 + n * 6) (.bool true) (.bool false) (.string ⟨#[]⟩) (.string ⟨#[]⟩) (.string ⟨#[]⟩) (.int .i64 se)
    have hM := (Mid.of_below (lo := k) (hi := k + 1) gB).trans hM9
    replace d0 := hM9.cell hke (by omega) d0
    replace d1 := hM9.cell hke (by omega) d1
    have HM9 := hid hM9
    have HM := hid hM
    have HA2 := hid gA2
    clear hM9 hM gA2
    refine takeC 9 (by kernel_rfl) rfl (fun K hK => ?_)
    go_simp
    skip
    refine hK.out _ _ ?_ (fun hHeld => ?_)
    · exact ⟨d0, d1⟩
    clear hK K
    try simp only [Act.put, List.setIfInBounds_toArray, List.set_cons_zero, List.set_cons_succ]
    refine wpAnyH_done (by kernel_rfl) ?_ _
    go_wp2_with fail
    exact bodyPost_end (v := .tuple #[]) (by simp [results, Tryz.results15, go_sem]) rfl ⟨rfl, by rw [HR.out]; exact ⟨x1, y1, z1, x2, y2, z2, base, top, by rw [HAP.out]; show ArB _ k s.fo.num _ _ s.co ((s.ha.set n true).length : Int) _; rw [List.length_set]; exact HA2.out, hbb, Nat.le_trans htt HM.out.size, hap, HM.out.sno O hap⟩, HM.out⟩
  have k3' : (kd == 3) = false := by simpa using k3
  by_cases k4 : kd = 4
  · subst k4
    rw [nw_cl]
    have v0 := fun x W => ta_miss (P := Tryz.prog) (u := 84) Tryz.underlying79 zero_opening (by decide) (.agg #[.int .i64 no]) x W
    have v1 := fun x W => ta_miss (P := Tryz.prog) (u := 84) Tryz.underlying81 zero_ruleNews (by decide) (.agg #[.int .i64 no]) x W
    have v2 := fun x W => ta_miss (P := Tryz.prog) (u := 84) Tryz.underlying83 zero_serialNews (by decide) (.agg #[.int .i64 no]) x W
    have v3 := fun x W => ta_hit (P := Tryz.prog) Tryz.underlying84 (.agg #[.int .i64 no]) x W
    have hBn : Below W3.heap.size W3 (W3.alloc (.cells #[.int .i64 no] 84)) := (Below.refl _ _).alloc (Nat.le_refl _) _
    have g0 : (W3.alloc (.cells #[.int .i64 no] 84)).cell? ⟨W3.heap.size, 0, none⟩ = some (.int .i64 no) := cell_of_row _ _ 0 _ _ (0, 0) (heap_alloc_new W3 _)
    have hkn : W3.heap.size < (W3.alloc (.cells #[.int .i64 no] 84)).heap.size := by simp
    have A4 := A0.below hBn
    have F4 := F.below hBn
    have hB4 := below_one hB3 hBn
    go_upto_region 18 with fail
    clear hBn m0 m1 m2 m3 m4 m5 m6 m7 b0' b1 b2 b3 b4
    generalize W3.alloc (.cells #[.int .i64 no] 84) = W4 at *
    generalize hkb : W3.heap.size = kb at *
    have hkb2 : w.heap.size ≤ kb := hs3
    have hkA := A4.lt
    obtain ⟨b0', b1, b2, b3, b4⟩ := A4.c
    cases hV : (ver == s.co)
    case false =>
      have HR := hid (tk4_ver (s := s) (no := no) (ru := ru) (se := se) hA hC hV)
      go_quiet (fail)
      have hB6 := below_one hB4 (below_draws1 W4 nq)
      generalize W4.drewN nq = W6 at *
      go_wp2_with fail
      exact bodyPost_end (v := .tuple #[]) (by simp [results, Tryz.results15, go_sem]) rfl ⟨rfl, by rw [HR.out]; exact h.below hB6, Mid.of_below hB6⟩
    cases hN : (no == (s.ha.length : Int))
    case false =>
      have HR := hid (tk4_no (s := s) (no := no) (ru := ru) (se := se) hA hC hV hN)
      go_quiet (fail)
      have hB6 := below_one hB4 (below_draws1 W4 nq)
      generalize W4.drewN nq = W6 at *
      go_wp2_with fail
      exact bodyPost_end (v := .tuple #[]) (by simp [results, Tryz.results15, go_sem]) rfl ⟨rfl, by rw [HR.out]; exact h.below hB6, Mid.of_below hB6⟩
    have HR := hid (tk4_yes (s := s) (no := no) (ru := ru) (se := se) hA hC hV hN)
    go_quiet (fail)
    have hB6 := below_one hB4 (below_draws1 W4 nq)
    have A6 := A4.below (below_draws1 W4 nq)
    clear b0' b1 b2 b3 b4 A4 F4 g0
    generalize W4.drewN nq = W6 at *
    have hBr := bring_any k x1 y1 z1 x2 y2 z2 s W6 hs hg hl A6
    go_wp2_with fail
    refine hBr.mono ?_
    rintro e W7 ⟨rfl, hM7, hA7⟩
    have hM := (Mid.of_below (lo := k) (hi := k + 1) hB6).trans hM7
    have hs6 := hB6.size
    have hk6 := A6.lt
    go_wp2_with fail
    refine bodyPost_end (v := .tuple #[]) (by simp [results, Tryz.results15, go_sem]) rfl ⟨rfl, ?_, hM⟩
    rw [HR.out]
    rcases hA7 with ⟨e7, A7⟩ | ⟨u1, v1, t1, u2, v2, t2, A7, O7⟩
    · rw [e7]
      exact ⟨x1, y1, z1, x2, y2, z2, base, top, A7, hbb, Nat.le_trans htt hM.size, hap, hM.sno O hap⟩
    · exact ⟨u1, v1, t1, u2, v2, t2, W6.heap.size, W7.heap.size, A7, by omega, Nat.le_refl _, .inl (by omega), O7⟩
  have k4' : (kd == 4) = false := by simpa using k4
  rw [nw_no k1' k2' k3' k4']
  have v0 := fun x W => ta_nil (P := Tryz.prog) Tryz.underlying79 zero_opening x W
  have v1 := fun x W => ta_nil (P := Tryz.prog) Tryz.underlying81 zero_ruleNews x W
  have v2 := fun x W => ta_nil (P := Tryz.prog) Tryz.underlying83 zero_serialNews x W
  have v3 := fun x W => ta_nil (P := Tryz.prog) Tryz.underlying84 zero_closing x W
  have HR := hid (tk_else (s := s) (no := no) (ru := ru) (se := se) hA hC k1' k2' k3' k4')
  go_wp2_with fail
  exact bodyPost_end (v := .tuple #[]) (by simp [results, Tryz.results15, go_sem]) rfl ⟨rfl, by rw [HR.out]; exact h.below hB3, Mid.of_below hB3⟩

end Go.Proofs.YtjnajdilllkpcaaGreat

namespace Go.Proofs.YtjnajdilllkpcaaGreat
open Go.RowKit Go.Shelf

theorem arP_take {s : Sd} (h : s.ha.length ≤ 230) (h1 : s.ru.length = s.ha.length) (h2 : s.se.length = s.ha.length) : ((arP s).take s.ha.length).map (·.r) = s.ru ∧ ((arP s).take s.ha.length).map (·.h) = s.ha ∧ ((arP s).take s.ha.length).map (·.z) = s.se := by
  have key : ∀ i, ((arP s).take s.ha.length)[i]? = if i < s.ha.length then some (plS s i) else none := by
    intro i
    rw [List.getElem?_take]
    split
    · rw [arP_at s (by omega)]
    · rfl
  refine ⟨List.ext_getElem? (fun i => ?_), List.ext_getElem? (fun i => ?_), List.ext_getElem? (fun i => ?_)⟩
  all_goals rw [List.getElem?_map, key i]
  all_goals split
  · rename_i hi
    rw [List.getElem?_eq_getElem (by omega : i < s.ru.length)]
    simp [plS, List.getElem?_eq_getElem (by omega : i < s.ru.length)]
  · rw [List.getElem?_eq_none (by omega)]; rfl
  · rename_i hi
    rw [List.getElem?_eq_getElem hi]
    simp [plS, List.getElem?_eq_getElem hi]
  · rw [List.getElem?_eq_none (by omega)]; rfl
  · rename_i hi
    rw [List.getElem?_eq_getElem (by omega : i < s.se.length)]
    simp [plS, List.getElem?_eq_getElem (by omega : i < s.se.length)]
  · rw [List.getElem?_eq_none (by omega)]; rfl

set_option maxHeartbeats 8000000 in
set_option maxRecDepth 100000 in
theorem implTake_any (v : Value) (s : Sd) (m : Ml) (w : World) (hs : s.short) (hl : sdB s = true → loB s) (hr : m.ru.size ≤ 1048576) (h : SdR w v s) :
    Calls Tryz.prog 5 #[v, m.val] w fun e w' => ∃ v', e = .returned (.tuple #[v', .bool (sdB s)]) ∧ SdO w' w.heap.size w'.heap.size v' (tmX s m) ∧ Below w.heap.size w w' := by
  have h' := h
  obtain ⟨kd, ver, no, ru, se⟩ := m
  obtain ⟨vp, vr, vu, vh, vs, rfl, h1, h2, h3, h4, h5⟩ := h
  have hs' := hs
  obtain ⟨hf, l3, l4, l5, lr⟩ := hs
  obtain ⟨ap, cp, rfl⟩ := h1.len
  obtain ⟨ar, cr, rfl⟩ := h2.len
  obtain ⟨au, cu, rfl⟩ := h3.len
  obtain ⟨ah, ch, rfl⟩ := h4.s.bolLen
  obtain ⟨ai, ci, rfl⟩ := h5.len
  obtain ⟨iA, hiA, hzA⟩ := ar_zero
  have hB0 : Below w.heap.size w (((w.alloc (.cells #[.int .i64 s.fo.num, .slice ap s.fo.pol.length cp, .slice ar s.fo.rv.length cr, .int .i64 s.co, .slice au s.ru.length cu, .slice ah s.ha.length ch, .slice ai s.se.length ci] 29)).alloc (.cells #[.int .i64 kd, .int .i64 ver, .int .i64 no, .bool ru.deny, .string ru.who, .string ru.method, .string ru.path, .int .i64 se] 33)).alloc (.cells #[.int .i64 0, .slice none 0 0, .slice none 0 0, .int .i64 0, .slice none 0 0, .slice none 0 0, .slice none 0 0] 29)) := (((Below.refl _ w).alloc (Nat.le_refl _) _).alloc (by simp) _).alloc (by simp; omega) _
  have F := ((Seven.new w (.int .i64 s.fo.num) (.slice ap s.fo.pol.length cp) (.slice ar s.fo.rv.length cr) (.int .i64 s.co) (.slice au s.ru.length cu) (.slice ah s.ha.length ch) (.slice ai s.se.length ci) 29).below ((Below.refl _ _).alloc (Nat.le_refl _) (.cells #[.int .i64 kd, .int .i64 ver, .int .i64 no, .bool ru.deny, .string ru.who, .string ru.method, .string ru.path, .int .i64 se] 33))).below ((Below.refl _ _).alloc (Nat.le_refl _) (.cells #[.int .i64 0, .slice none 0 0, .slice none 0 0, .int .i64 0, .slice none 0 0, .slice none 0 0, .slice none 0 0] 29))
  have FM := (Eight.at (w.alloc (.cells #[.int .i64 s.fo.num, .slice ap s.fo.pol.length cp, .slice ar s.fo.rv.length cr, .int .i64 s.co, .slice au s.ru.length cu, .slice ah s.ha.length ch, .slice ai s.se.length ci] 29)) (.int .i64 kd) (.int .i64 ver) (.int .i64 no) (.bool ru.deny) (.string ru.who) (.string ru.method) (.string ru.path) (.int .i64 se) 33 (k := w.heap.size + 1) (by simp)).below ((Below.refl _ _).alloc (Nat.le_refl _) (.cells #[.int .i64 0, .slice none 0 0, .slice none 0 0, .int .i64 0, .slice none 0 0, .slice none 0 0, .slice none 0 0] 29))
  have F2 := Seven.at ((w.alloc (.cells #[.int .i64 s.fo.num, .slice ap s.fo.pol.length cp, .slice ar s.fo.rv.length cr, .int .i64 s.co, .slice au s.ru.length cu, .slice ah s.ha.length ch, .slice ai s.se.length ci] 29)).alloc (.cells #[.int .i64 kd, .int .i64 ver, .int .i64 no, .bool ru.deny, .string ru.who, .string ru.method, .string ru.path, .int .i64 se] 33)) (.int .i64 0) (.slice none 0 0) (.slice none 0 0) (.int .i64 0) (.slice none 0 0) (.slice none 0 0) (.slice none 0 0) 29 (k := w.heap.size + 1 + 1) (by simp)
  have hk2 := F2.lt
  go_enter Tryz.func5, Tryz.ntmps5
  go_upto_region 1 with fail
  generalize ((w.alloc (.cells #[.int .i64 s.fo.num, .slice ap s.fo.pol.length cp, .slice ar s.fo.rv.length cr, .int .i64 s.co, .slice au s.ru.length cu, .slice ah s.ha.length ch, .slice ai s.se.length ci] 29)).alloc (.cells #[.int .i64 kd, .int .i64 ver, .int .i64 no, .bool ru.deny, .string ru.who, .string ru.method, .string ru.path, .int .i64 se] 33)).alloc (.cells #[.int .i64 0, .slice none 0 0, .slice none 0 0, .int .i64 0, .slice none 0 0, .slice none 0 0, .slice none 0 0] 29) = W0 at *
  obtain ⟨a0, a1, a2, a3, a4, a5, a6⟩ := F.c
  go_wp2_with fail
  refine (implGoodSide_any _ s _ hs' (h'.below hB0)).mono ?_
  rintro e w1 ⟨rfl, hB1⟩
  replace F := F.below hB1
  replace FM := FM.below hB1
  replace F2 := F2.below hB1
  replace hB0 := below_one hB0 hB1
  have hs1 := hB1.size
  clear hB1 a0 a1 a2 a3 a4 a5 a6
  obtain ⟨a0, a1, a2, a3, a4, a5, a6⟩ := F.c
  cases hg : sdB s
  case false =>
    have HR := hid (tmX_no (m := ⟨kd, ver, no, ru, se⟩) hg)
    have HG := hid hg
    obtain ⟨r0, r1, r2, r3, r4, r5, r6⟩ := F2.c
    have f0 := F2.f 0
    have f1 := F2.f 1
    have f2 := F2.f 2
    have f3 := F2.f 3
    have f4 := F2.f 4
    have f5 := F2.f 5
    have f6 := F2.f 6
    have G3 := (((((((F2.s0 (.int .i64 0)).s1 (.slice none 0 0)).s2 (.slice none 0 0)).s3 (.int .i64 0)).s4 (.slice none 0 0)).s5 (.slice none 0 0)).s6 (.slice none 0 0))
    have pB := below_seven hB0 (k := w.heap.size + 1 + 1) (by omega) (.int .i64 0) (.slice none 0 0) (.slice none 0 0) (.int .i64 0) (.slice none 0 0) (.slice none 0 0) (.slice none 0 0)
    have hse : w1.heap.size ≤ (((((((w1.setCell ⟨w.heap.size + 1 + 1, 0, none⟩ (.int .i64 0)).setCell ⟨w.heap.size + 1 + 1, 1, none⟩ (.slice none 0 0)).setCell ⟨w.heap.size + 1 + 1, 2, none⟩ (.slice none 0 0)).setCell ⟨w.heap.size + 1 + 1, 3, none⟩ (.int .i64 0)).setCell ⟨w.heap.size + 1 + 1, 4, none⟩ (.slice none 0 0)).setCell ⟨w.heap.size + 1 + 1, 5, none⟩ (.slice none 0 0)).setCell ⟨w.heap.size + 1 + 1, 6, none⟩ (.slice none 0 0)).heap.size := by simp
    go_wp2_with fail
    clear r0 r1 r2 r3 r4 r5 r6 f0 f1 f2 f3 f4 f5 f6
    generalize ((((((w1.setCell ⟨w.heap.size + 1 + 1, 0, none⟩ (.int .i64 0)).setCell ⟨w.heap.size + 1 + 1, 1, none⟩ (.slice none 0 0)).setCell ⟨w.heap.size + 1 + 1, 2, none⟩ (.slice none 0 0)).setCell ⟨w.heap.size + 1 + 1, 3, none⟩ (.int .i64 0)).setCell ⟨w.heap.size + 1 + 1, 4, none⟩ (.slice none 0 0)).setCell ⟨w.heap.size + 1 + 1, 5, none⟩ (.slice none 0 0)).setCell ⟨w.heap.size + 1 + 1, 6, none⟩ (.slice none 0 0) = W9 at *
    obtain ⟨d0, d1, d2, d3, d4, d5, d6⟩ := G3.c
    exact bodyPost_ret (v := .tuple #[.agg #[.int .i64 0, .slice none 0 0, .slice none 0 0, .int .i64 0, .slice none 0 0, .slice none 0 0, .slice none 0 0], .bool false]) (by simp [results, Tryz.results5, go_sem, d0, d1, d2, d3, d4, d5, d6]) rfl ⟨_, by rw [HG.out], by rw [HR.out]; exact SdO.none _ _ _ (by omega), pB⟩
  have HR := hid (tmX_yes (m := ⟨kd, ver, no, ru, se⟩) hg)
  have HG := hid hg
  have HX := hid (tk_good (m := ⟨kd, ver, no, ru, se⟩) hg)
  have hA := fun W hW => arrivalAt_any (.agg #[.int .i64 s.fo.num, .slice ap s.fo.pol.length cp, .slice ar s.fo.rv.length cr, .int .i64 s.co, .slice au s.ru.length cu, .slice ah s.ha.length ch, .slice ai s.se.length ci]) s W hs' hg hW
  go_wp2_with fail
  refine (hA _ (h'.below hB0)).mono ?_
  rintro e w2 ⟨vp, vr, rfl, O2, hB2⟩
  obtain ⟨x1, z1, x2, z2, ee⟩ := sn_forms O2.a
  cases ee
  replace F := F.below hB2
  replace FM := FM.below hB2
  replace F2 := F2.below hB2
  replace hB0 := below_one hB0 hB2
  have hs2 := hB2.size
  clear hB2 hA a0 a1 a2 a3 a4 a5 a6
  have hBz : Below w2.heap.size w2 (w2.alloc (.cells arZ 55)) := (Below.refl _ _).alloc (Nat.le_refl _) _
  have Az : ArB (w2.alloc (.cells arZ 55)) w2.heap.size 0 (.slice none 0 0) (.slice none 0 0) 0 0 plZs := ArB.new w2 rfl
  have A4 := Az.row (num' := s.fo.num) (vp' := .slice x1 s.fo.pol.length z1) (vr' := .slice x2 s.fo.rv.length z2) (co' := s.co) (pl' := (s.ha.length : Int)) (arP_len s)
  have hM4 : Mid w2.heap.size (w2.heap.size + 1) w2 ((w2.alloc (.cells arZ 55)).setRow w2.heap.size (arC s.fo.num (.slice x1 s.fo.pol.length z1) (.slice x2 s.fo.rv.length z2) s.co (s.ha.length : Int) (arP s)).toArray) := (Mid.of_below hBz).setRow _
  have hkz : w2.heap.size < ((w2.alloc (.cells arZ 55)).setRow w2.heap.size (arC s.fo.num (.slice x1 s.fo.pol.length z1) (.slice x2 s.fo.rv.length z2) s.co (s.ha.length : Int) (arP s)).toArray).heap.size := by simp
  have FM4 := hM4.eight FM (.inl FM.lt)
  have F24 := hM4.seven F2 (.inl F2.lt)
  have O4 := hM4.sno O2 (.inr (Nat.le_refl _))
  have hB4 : Below w.heap.size w ((w2.alloc (.cells arZ 55)).setRow w2.heap.size (arC s.fo.num (.slice x1 s.fo.pol.length z1) (.slice x2 s.fo.rv.length z2) s.co (s.ha.length : Int) (arP s)).toArray) := hB0.trans (hM4.below (by omega) (by omega))
  go_upto_region 4 with (first | (refine wpList_alloc_great rfl 55 rfl iA arZ hiA hzA (k := w2.heap.size) rfl ?_) | (refine wpList_store_row rfl 55 (.tmp 6) (.tmp 12) rfl w2.heap.size _ rfl rfl 55 _ Az.heap (ar_size (arP_len s)) (ar_same plZs_len (arP_len s)) (ar_all rfl rfl) ?_; try simp only [Act.put, List.setIfInBounds_toArray, List.set_cons_zero, List.set_cons_succ]))
  clear hBz Az hM4 F FM F2 O2 hB0
  generalize (w2.alloc (.cells arZ 55)).setRow w2.heap.size (arC s.fo.num (.slice x1 s.fo.pol.length z1) (.slice x2 s.fo.rv.length z2) s.co (s.ha.length : Int) (arP s)).toArray = W4 at *
  generalize hk6 : w2.heap.size = k6 at *
  have hAO : ArO W4 w1.heap.size k6 s := ⟨x1, _, z1, x2, _, z2, w1.heap.size, k6, A4, Nat.le_refl _, by omega, .inr (Nat.le_refl _), O4⟩
  obtain ⟨m0, m1, m2, m3, m4, m5, m6, m7⟩ := FM4.c
  have hT := take_any k6 w1.heap.size s kd ver no ru se W4 hs' hg (hl hg) hr (by omega) hAO
  go_wp2_with fail
  refine hT.mono ?_
  rintro e W5 ⟨rfl, hAO5, hM5⟩
  replace F24 := hM5.seven F24 (.inl (by omega))
  have hB5 : Below w.heap.size w W5 := hB4.trans (hM5.below (by omega) hB4.size)
  have hs5 := hM5.size
  clear hT m0 m1 m2 m3 m4 m5 m6 m7 FM4 A4 O4 hAO
  obtain ⟨e1, e2, e3⟩ := lnB_parts (sd_parts HX.out).2.1
  generalize tkX s ⟨kd, ver, no, ru, se⟩ = X at *
  obtain ⟨u1, v1, t1, u2, v2, t2, base, top, A5, hbb, htt, hap, O5⟩ := hAO5
  have hS := side_any k6 X.fo.num u1 v1 t1 u2 v2 t2 X.co X.ha.length (arP X) W5 e3 A5
  obtain ⟨j1, j2, j3⟩ := arP_take e3 e1 e2
  rw [j1, j2, j3] at hS
  clear j1 j2 j3
  go_wp2_with fail
  refine hS.mono ?_
  rintro e w6 ⟨vu, vh, vs, rfl, o6, p6, q6, hB6⟩
  obtain ⟨xu, yu, zu, rfl⟩ := row_slice o6
  obtain ⟨xh, yh, zh, rfl⟩ := row_slice p6
  obtain ⟨xs, ys, zs, rfl⟩ := row_slice q6
  have F2 := F24.below hB6
  have O6 := O5.below hB6
  have hB0 := below_one hB5 hB6
  have hs6 := hB6.size
  clear hS
  obtain ⟨r0, r1, r2, r3, r4, r5, r6⟩ := F2.c
  have f0 := F2.f 0
  have f1 := F2.f 1
  have f2 := F2.f 2
  have f3 := F2.f 3
  have f4 := F2.f 4
  have f5 := F2.f 5
  have f6 := F2.f 6
  have G3 := (((((((F2.s0 (.int .i64 X.fo.num)).s1 (.slice u1 v1 t1)).s2 (.slice u2 v2 t2)).s3 (.int .i64 X.co)).s4 (.slice xu yu zu)).s5 (.slice xh yh zh)).s6 (.slice xs ys zs))
  have pB := below_seven hB0 (k := w.heap.size + 1 + 1) (by omega) (.int .i64 X.fo.num) (.slice u1 v1 t1) (.slice u2 v2 t2) (.int .i64 X.co) (.slice xu yu zu) (.slice xh yh zh) (.slice xs ys zs)
  have K7 : SdO w6 w1.heap.size w6.heap.size (.agg #[.int .i64 X.fo.num, .slice u1 v1 t1, .slice u2 v2 t2, .int .i64 X.co, .slice xu yu zu, .slice xh yh zh, .slice xs ys zs]) X := ⟨W5.heap.size, _, _, _, _, _, rfl, by omega, by omega, O6.mono hbb htt, o6, p6, q6, fun k e => (o6.lt k e).2, fun k e => (p6.lt k e).2, fun k e => (q6.lt k e).2⟩
  have O9 := (sdo_set (sdo_set (sdo_set (sdo_set (sdo_set (sdo_set (sdo_set K7 (p := ⟨w.heap.size + 1 + 1, 0, none⟩) (by simp; omega) (.int .i64 X.fo.num)) (p := ⟨w.heap.size + 1 + 1, 1, none⟩) (by simp; omega) (.slice u1 v1 t1)) (p := ⟨w.heap.size + 1 + 1, 2, none⟩) (by simp; omega) (.slice u2 v2 t2)) (p := ⟨w.heap.size + 1 + 1, 3, none⟩) (by simp; omega) (.int .i64 X.co)) (p := ⟨w.heap.size + 1 + 1, 4, none⟩) (by simp; omega) (.slice xu yu zu)) (p := ⟨w.heap.size + 1 + 1, 5, none⟩) (by simp; omega) (.slice xh yh zh)) (p := ⟨w.heap.size + 1 + 1, 6, none⟩) (by simp; omega) (.slice xs ys zs))
  have hse : w6.heap.size ≤ (((((((w6.setCell ⟨w.heap.size + 1 + 1, 0, none⟩ (.int .i64 X.fo.num)).setCell ⟨w.heap.size + 1 + 1, 1, none⟩ (.slice u1 v1 t1)).setCell ⟨w.heap.size + 1 + 1, 2, none⟩ (.slice u2 v2 t2)).setCell ⟨w.heap.size + 1 + 1, 3, none⟩ (.int .i64 X.co)).setCell ⟨w.heap.size + 1 + 1, 4, none⟩ (.slice xu yu zu)).setCell ⟨w.heap.size + 1 + 1, 5, none⟩ (.slice xh yh zh)).setCell ⟨w.heap.size + 1 + 1, 6, none⟩ (.slice xs ys zs)).heap.size := by simp
  go_wp2_with fail
  clear r0 r1 r2 r3 r4 r5 r6 f0 f1 f2 f3 f4 f5 f6
  generalize ((((((w6.setCell ⟨w.heap.size + 1 + 1, 0, none⟩ (.int .i64 X.fo.num)).setCell ⟨w.heap.size + 1 + 1, 1, none⟩ (.slice u1 v1 t1)).setCell ⟨w.heap.size + 1 + 1, 2, none⟩ (.slice u2 v2 t2)).setCell ⟨w.heap.size + 1 + 1, 3, none⟩ (.int .i64 X.co)).setCell ⟨w.heap.size + 1 + 1, 4, none⟩ (.slice xu yu zu)).setCell ⟨w.heap.size + 1 + 1, 5, none⟩ (.slice xh yh zh)).setCell ⟨w.heap.size + 1 + 1, 6, none⟩ (.slice xs ys zs) = W9 at *
  obtain ⟨d0, d1, d2, d3, d4, d5, d6⟩ := G3.c
  exact bodyPost_ret (v := .tuple #[.agg #[.int .i64 X.fo.num, .slice u1 v1 t1, .slice u2 v2 t2, .int .i64 X.co, .slice xu yu zu, .slice xh yh zh, .slice xs ys zs], .bool true]) (by simp [results, Tryz.results5, go_sem, d0, d1, d2, d3, d4, d5, d6]) rfl ⟨_, by rw [HG.out], by rw [HR.out]; exact O9.mono (by omega) (by omega), pB⟩

end Go.Proofs.YtjnajdilllkpcaaGreat

namespace Go.Proofs.YtjnajdilllkpcaaGreat
open Go.RowKit Go.Shelf

theorem neq_rule (r : Ru) (w : World) : (binOp .neq 31 r.val r.val).run Tryz.prog w = .ok (.bool false) w := by
  first | rw [run_neq_struct] | skip
  simp [go_sem, Tryz.underlying31]

set_option maxHeartbeats 2000000 in
theorem sameRules_any (v v' : Value) (rs : List Ru) (w : World) (_hm : rs.length ≤ 1048577) (hr : RuS w v rs) (hr' : RuS w v' rs) :
    Calls Tryz.prog 19 #[v, v'] w fun e w' => e = .returned (.bool true) ∧ Below w.heap.size w w' := by
  obtain ⟨a, cap, rfl⟩ := hr.len
  obtain ⟨a', cap', rfl⟩ := hr'.len
  have e0 : ((rs.length : Int) != (rs.length : Int)) = false := by simp
  go_enter Tryz.func19, Tryz.ntmps19
  go_wp2
  go_loopw [13] (fun i wr => ∃ k : Nat, k ≤ rs.length ∧ i = .int .i64 k ∧ Below w.heap.size w wr) (fun i _ => rs.length - (intOf i).toNat)
  case atStart => exact ⟨0, Nat.zero_le _, rfl, Below.refl _ _⟩
  case round =>
    obtain ⟨k, hk, rfl, hB⟩ := hrel
    by_cases hlt : k < rs.length
    · obtain ⟨b, off, rfl, hb, hcap, q0, q1, q2, q3⟩ := (hr.below hB).at hlt
      obtain ⟨b', off', rfl, hb', hcap', p0, p1, p2, p3⟩ := (hr'.below hB).at hlt
      generalize rs[k] = r at *
      obtain ⟨rd, rwh, rme, rpa⟩ := r
      have hse := neq_rule ⟨rd, rwh, rme, rpa⟩
      simp only at q0 q1 q2 q3 p0 p1 p2 p3
      go_wp2_with fail
      go_region
      go_wp2
      go_roundw
      case rel => exact ⟨k + 1, by omega, by go_num, hB.drew⟩
      case measure => simp [intOf]; omega
    · obtain rfl : k = rs.length := by omega
      go_wp2
      go_ret
      exact ⟨rfl, hB⟩

end Go.Proofs.YtjnajdilllkpcaaGreat

namespace Go.Proofs.YtjnajdilllkpcaaGreat
open Go.RowKit Go.Shelf

set_option maxHeartbeats 1000000 in
theorem sameInts_any (v v' : Value) (zs : List Int) (w : World) (hn : zs.length ≤ 1048577) (hr : VS w v (nums zs)) (hr' : VS w v' (nums zs)) :
    Calls Tryz.prog 20 #[v, v'] w fun e w' => e = .returned (.bool true) ∧ Below w.heap.size w w' := by
  obtain ⟨a, cap, rfl⟩ := hr.numLen
  obtain ⟨a', cap', rfl⟩ := hr'.numLen
  have e0 : ((zs.length : Int) != (zs.length : Int)) = false := by simp
  go_enter Tryz.func20, Tryz.ntmps20
  go_wp2
  go_loopw [13] (fun i wr => ∃ j : Nat, j ≤ zs.length ∧ i = .int .i64 j ∧ Below w.heap.size w wr) (fun i _ => zs.length - (intOf i).toNat)
  case atStart => exact ⟨0, Nat.zero_le _, rfl, Below.refl _ _⟩
  case round =>
    obtain ⟨j, hj, rfl, hB⟩ := hrel
    by_cases hlt : j < zs.length
    · obtain ⟨b, off, rfl, hb, hcap, q0⟩ := (hr.below hB).num hlt
      obtain ⟨b', off', rfl, hb', hcap', q1⟩ := (hr'.below hB).num hlt
      generalize zs[j] = x at q0 q1
      go_wp2_with fail
      go_quiet (fail)
      go_wp2
      go_roundw
      case rel => first | exact ⟨j + 1, by omega, by go_num, below_drewn hB _⟩ | ((repeat apply Exists.intro); exact ⟨⟨j + 1, by omega, by go_num, below_drewn hB _⟩, rfl⟩)
      case measure => simp [intOf]; omega
    · obtain rfl : j = zs.length := by omega
      go_wp2
      go_ret
      exact ⟨rfl, hB⟩

set_option maxHeartbeats 2000000 in
theorem sameSnapshots_any (v v' : Value) (s : Sn) (w : World) (hs : s.short) (h : SnA w v s) (h' : SnA w v' s) :
    Calls Tryz.prog 7 #[v, v'] w fun e w' => e = .returned (.bool true) ∧ Below w.heap.size w w' := by
  obtain ⟨vp, vr, rfl, h1, h2⟩ := h
  obtain ⟨vp', vr', rfl, h1', h2'⟩ := h'
  obtain ⟨l1, l2, _⟩ := hs
  have hB0 : Below w.heap.size w ((w.alloc (.cells #[.int .i64 s.num, vp, vr] 26)).alloc (.cells #[.int .i64 s.num, vp', vr'] 26)) := ((Below.refl _ w).alloc (Nat.le_refl _) _).alloc (by simp) _
  have F1 := (Three.new w (.int .i64 s.num) vp vr 26).below ((Below.refl _ _).alloc (Nat.le_refl _) (.cells #[.int .i64 s.num, vp', vr'] 26))
  have F2 := Three.at (w.alloc (.cells #[.int .i64 s.num, vp, vr] 26)) (.int .i64 s.num) vp' vr' 26 (k := w.heap.size + 1) (by simp)
  have e1 : (s.num == s.num) = true := by simp
  obtain ⟨p0, p1, p2⟩ := F1.c
  obtain ⟨r0, r1, r2⟩ := F2.c
  go_enter Tryz.func7, Tryz.ntmps7
  go_wp2_with fail
  generalize (w.alloc (.cells #[.int .i64 s.num, vp, vr] 26)).alloc (.cells #[.int .i64 s.num, vp', vr'] 26) = W0 at *
  refine (sameRules_any vp vp' s.pol _ (by omega) (h1.below hB0) (h1'.below hB0)).mono ?_
  rintro e w1 ⟨rfl, hB1⟩
  clear p0 p1 p2 r0 r1 r2
  replace F1 := F1.below hB1
  replace F2 := F2.below hB1
  have hBB1 := below_one hB0 hB1
  clear hB1 hB0
  obtain ⟨a0, a1, a2⟩ := F1.c
  obtain ⟨c0, c1, c2⟩ := F2.c
  go_wp2_with fail
  refine (sameInts_any vr vr' s.rv _ (by omega) (h2.below hBB1) (h2'.below hBB1)).mono ?_
  rintro e w2 ⟨rfl, hB2⟩
  have hBB2 := below_one hBB1 hB2
  clear a0 a1 a2 c0 c1 c2 hB2
  go_wp2_with fail
  go_ret
  exact ⟨rfl, hBB2⟩

end Go.Proofs.YtjnajdilllkpcaaGreat

namespace Go.Proofs.YtjnajdilllkpcaaGreat
open Go.RowKit Go.Shelf

theorem sd_fo {w : World} {v : Value} {s : Sd} (h : SdA w v s) : ∃ vp vr vu vh vs, v = .agg #[.int .i64 s.fo.num, vp, vr, .int .i64 s.co, vu, vh, vs] ∧ SnA w (.agg #[.int .i64 s.fo.num, vp, vr]) s.fo := by
  obtain ⟨vp, vr, vu, vh, vs, rfl, h1, h2, _⟩ := h
  exact ⟨vp, vr, vu, vh, vs, rfl, _, _, rfl, h1, h2⟩
theorem sda_fo {w : World} {s : Sd} {n1 n2 : Int} {vp vr vu vh vs : Value} (h : SdA w (.agg #[.int .i64 n1, vp, vr, .int .i64 n2, vu, vh, vs]) s) : SnA w (.agg #[.int .i64 s.fo.num, vp, vr]) s.fo := by
  obtain ⟨_, _, _, _, _, e, h1, h2, _⟩ := h
  cases e
  exact ⟨_, _, rfl, h1, h2⟩

set_option maxHeartbeats 8000000 in
set_option maxRecDepth 100000 in
theorem takenWalk (a : Option Addr) (n c : Nat) (w : World) (hle : n ≤ c) (hs : n ≤ 1048576) (hB : ByS w a n) (hap : ∀ p, a = some p → p.block < w.heap.size) :
    Calls Tryz.prog 3 #[.slice a n c] w fun e w' => e = .returned (.bool true) ∧ Below w.heap.size w w' := by
  have d1 : decide ((n : Int) > 1048576) = false := by simp; omega
  go_enter Tryz.func3, Tryz.ntmps3
  go_wp2_with fail
  refine (drawTM_any a n c w hle hB hap).mono ?_
  rintro e w1 ⟨v, s, m, rfl, hsh, hlo, hru, hR, hB1⟩
  obtain ⟨kd, ver, no, ru, se⟩ := m
  obtain ⟨p1, c1, p2, c2, p3, c3, p4, c4, p5, c5, rfl⟩ := sd_forms hR.a
  clear hB hap d1
  have hBa : Below w1.heap.size w1 ((w1.alloc (.cells #[.int .i64 s.fo.num, .slice p1 s.fo.pol.length c1, .slice p2 s.fo.rv.length c2, .int .i64 s.co, .slice p3 s.ru.length c3, .slice p4 s.ha.length c4, .slice p5 s.se.length c5] 29)).alloc (.cells #[.int .i64 kd, .int .i64 ver, .int .i64 no, .bool ru.deny, .string ru.who, .string ru.method, .string ru.path, .int .i64 se] 33)) := ((Below.refl _ w1).alloc (Nat.le_refl _) _).alloc (by simp) _
  have F3 := (Seven.new w1 (.int .i64 s.fo.num) (.slice p1 s.fo.pol.length c1) (.slice p2 s.fo.rv.length c2) (.int .i64 s.co) (.slice p3 s.ru.length c3) (.slice p4 s.ha.length c4) (.slice p5 s.se.length c5) 29).below ((Below.refl _ _).alloc (Nat.le_refl _) (.cells #[.int .i64 kd, .int .i64 ver, .int .i64 no, .bool ru.deny, .string ru.who, .string ru.method, .string ru.path, .int .i64 se] 33))
  have F4 := Eight.at (w1.alloc (.cells #[.int .i64 s.fo.num, .slice p1 s.fo.pol.length c1, .slice p2 s.fo.rv.length c2, .int .i64 s.co, .slice p3 s.ru.length c3, .slice p4 s.ha.length c4, .slice p5 s.se.length c5] 29)) (.int .i64 kd) (.int .i64 ver) (.int .i64 no) (.bool ru.deny) (.string ru.who) (.string ru.method) (.string ru.path) (.int .i64 se) 33 (k := w1.heap.size + 1) (by simp)
  replace hR := hR.below hBa
  have hBB := below_one hB1 hBa
  clear hBa hB1
  go_upto_region 4 with fail
  generalize (w1.alloc (.cells #[.int .i64 s.fo.num, .slice p1 s.fo.pol.length c1, .slice p2 s.fo.rv.length c2, .int .i64 s.co, .slice p3 s.ru.length c3, .slice p4 s.ha.length c4, .slice p5 s.se.length c5] 29)).alloc (.cells #[.int .i64 kd, .int .i64 ver, .int .i64 no, .bool ru.deny, .string ru.who, .string ru.method, .string ru.path, .int .i64 se] 33) = W2 at *
  generalize w1.heap.size = k1 at *
  obtain ⟨a0, a1, a2, a3, a4, a5, a6⟩ := F3.c
  obtain ⟨m0, m1, m2, m3, m4, m5, m6, m7⟩ := F4.c
  have hI := implTake_any (.agg #[.int .i64 s.fo.num, .slice p1 s.fo.pol.length c1, .slice p2 s.fo.rv.length c2, .int .i64 s.co, .slice p3 s.ru.length c3, .slice p4 s.ha.length c4, .slice p5 s.se.length c5]) s ⟨kd, ver, no, ru, se⟩ W2 hsh hlo hru hR
  have HI : Hid (sdB s = true → sdB (tmX s ⟨kd, ver, no, ru, se⟩) = true ∧ (tmX s ⟨kd, ver, no, ru, se⟩).short ∧ ((kd == 4) = false → (tmX s ⟨kd, ver, no, ru, se⟩).fo = s.fo)) := hid (fun hg => by rw [tmX_yes hg]; exact ⟨tk_good hg, tk_short hg hsh hru, fun h => tk_force h⟩)
  have HS : Hid ((tmX s ⟨kd, ver, no, ru, se⟩).short) := hid (by cases hg : sdB s; (rw [tmX_no hg]; exact sd_none_short); (exact (HI.out hg).2.1))
  have hJ := fun W hW => specTake_any (.agg #[.int .i64 s.fo.num, .slice p1 s.fo.pol.length c1, .slice p2 s.fo.rv.length c2, .int .i64 s.co, .slice p3 s.ru.length c3, .slice p4 s.ha.length c4, .slice p5 s.se.length c5]) s ⟨kd, ver, no, ru, se⟩ W hsh hlo hru hW
  generalize tmX s ⟨kd, ver, no, ru, se⟩ = X at *
  go_wp2_with fail
  refine hI.mono ?_
  rintro e w3 ⟨v3, rfl, O3, hB3⟩
  obtain ⟨y1, x1, y2, x2, y3, x3, y4, x4, y5, x5, rfl⟩ := sd_forms O3.a
  have hBb : Below w3.heap.size w3 (w3.alloc (.cells #[.int .i64 X.fo.num, .slice y1 X.fo.pol.length x1, .slice y2 X.fo.rv.length x2, .int .i64 X.co, .slice y3 X.ru.length x3, .slice y4 X.ha.length x4, .slice y5 X.se.length x5] 29)) := (Below.refl _ w3).alloc (Nat.le_refl _) _
  have F5 := Seven.new w3 (.int .i64 X.fo.num) (.slice y1 X.fo.pol.length x1) (.slice y2 X.fo.rv.length x2) (.int .i64 X.co) (.slice y3 X.ru.length x3) (.slice y4 X.ha.length x4) (.slice y5 X.se.length x5) 29
  replace F3 := (F3.below hB3).below hBb
  replace F4 := (F4.below hB3).below hBb
  replace hR := (hR.below hB3).below hBb
  have R5 := O3.r.below hBb
  replace hBB := below_one (below_one hBB hB3) hBb
  clear hB3 hBb O3 hI a0 a1 a2 a3 a4 a5 a6 m0 m1 m2 m3 m4 m5 m6 m7
  go_upto_region 5 with fail
  generalize w3.alloc (.cells #[.int .i64 X.fo.num, .slice y1 X.fo.pol.length x1, .slice y2 X.fo.rv.length x2, .int .i64 X.co, .slice y3 X.ru.length x3, .slice y4 X.ha.length x4, .slice y5 X.se.length x5] 29) = W4 at *
  generalize w3.heap.size = k5 at *
  obtain ⟨a0, a1, a2, a3, a4, a5, a6⟩ := F3.c
  obtain ⟨m0, m1, m2, m3, m4, m5, m6, m7⟩ := F4.c
  go_wp2_with fail
  refine (hJ _ hR).mono ?_
  rintro e w5 ⟨v5, rfl, O5, hB5⟩
  obtain ⟨z1, u1, z2, u2, z3, u3, z4, u4, z5, u5, rfl⟩ := sd_forms O5.a
  have hBb : Below w5.heap.size w5 (w5.alloc (.cells #[.int .i64 X.fo.num, .slice z1 X.fo.pol.length u1, .slice z2 X.fo.rv.length u2, .int .i64 X.co, .slice z3 X.ru.length u3, .slice z4 X.ha.length u4, .slice z5 X.se.length u5] 29)) := (Below.refl _ w5).alloc (Nat.le_refl _) _
  have F7 := Seven.new w5 (.int .i64 X.fo.num) (.slice z1 X.fo.pol.length u1) (.slice z2 X.fo.rv.length u2) (.int .i64 X.co) (.slice z3 X.ru.length u3) (.slice z4 X.ha.length u4) (.slice z5 X.se.length u5) 29
  replace F3 := (F3.below hB5).below hBb
  replace F4 := (F4.below hB5).below hBb
  replace F5 := (F5.below hB5).below hBb
  replace hR := (hR.below hB5).below hBb
  replace R5 := (R5.below hB5).below hBb
  have R7 := O5.r.below hBb
  replace hBB := below_one (below_one hBB hB5) hBb
  clear hB5 hBb O5 hJ a0 a1 a2 a3 a4 a5 a6 m0 m1 m2 m3 m4 m5 m6 m7
  go_upto_region 6 with fail
  generalize w5.alloc (.cells #[.int .i64 X.fo.num, .slice z1 X.fo.pol.length u1, .slice z2 X.fo.rv.length u2, .int .i64 X.co, .slice z3 X.ru.length u3, .slice z4 X.ha.length u4, .slice z5 X.se.length u5] 29) = W6 at *
  generalize w5.heap.size = k7 at *
  obtain ⟨b0, b1, b2, b3, b4, b5, b6⟩ := F5.c
  obtain ⟨q0, q1, q2, q3, q4, q5, q6⟩ := F7.c
  have hbb : (sdB s != sdB s) = false := by simp
  have hSm := sameSnapshots_any _ _ X.fo W6 HS.out.1 (sda_fo R5.a) (sda_fo R7.a)
  go_wp2_with fail
  refine hSm.mono ?_
  rintro e w7 ⟨rfl, hB7⟩
  replace F3 := F3.below hB7
  replace F4 := F4.below hB7
  replace F5 := F5.below hB7
  replace F7 := F7.below hB7
  replace hR := hR.below hB7
  replace R5 := R5.below hB7
  replace hBB := below_one hBB hB7
  clear hSm hB7 b0 b1 b2 b3 b4 b5 b6 q0 q1 q2 q3 q4 q5 q6 R7
  obtain ⟨b0, b1, b2, b3, b4, b5, b6⟩ := F5.c
  obtain ⟨q0, q1, q2, q3, q4, q5, q6⟩ := F7.c
  have hcc : (X.co != X.co) = false := by simp
  cases hg : sdB s
  case false =>
    go_wp2_with fail
    go_ret
    exact ⟨rfl, hBB⟩
  obtain ⟨hX1, hX2, hX3⟩ := HI.out hg
  clear HI HS hlo hbb
  go_wp2_with fail
  refine (implMissing_any _ X _ hX2 R5).mono ?_
  rintro e w8 ⟨u8, rfl, o8, hB8⟩
  obtain ⟨a8, c8, rfl⟩ := VS.numLen (NuR.own o8).s
  replace F3 := F3.below hB8
  replace F4 := F4.below hB8
  replace F5 := F5.below hB8
  replace hR := hR.below hB8
  replace R5 := R5.below hB8
  replace hBB := below_one hBB hB8
  clear hB8 b0 b1 b2 b3 b4 b5 b6 q0 q1 q2 q3 q4 q5 q6 F7
  obtain ⟨b0, b1, b2, b3, b4, b5, b6⟩ := F5.c
  rw [hX1]
  go_wp2_with fail
  refine (implCrash_any _ X _ hX2 R5).mono ?_
  rintro e w9 ⟨v9, rfl, O9, hB9⟩
  rw [hX1]
  have HC := hid (crX_yes hX1)
  have hCs : (crX X).short := crX_short hX2
  have hC1 : (crX X).fo = X.fo := by rw [HC.out]
  have hC2 : (crX X).co = 0 := by rw [HC.out]
  generalize crX X = C at *
  obtain ⟨e1, f1, e2, f2, e3, f3, e4, f4, e5, f5, rfl⟩ := sd_forms O9.a
  have hBb : Below w9.heap.size w9 (w9.alloc (.cells #[.int .i64 C.fo.num, .slice e1 C.fo.pol.length f1, .slice e2 C.fo.rv.length f2, .int .i64 C.co, .slice e3 C.ru.length f3, .slice e4 C.ha.length f4, .slice e5 C.se.length f5] 29)) := (Below.refl _ w9).alloc (Nat.le_refl _) _
  have F11 := Seven.new w9 (.int .i64 C.fo.num) (.slice e1 C.fo.pol.length f1) (.slice e2 C.fo.rv.length f2) (.int .i64 C.co) (.slice e3 C.ru.length f3) (.slice e4 C.ha.length f4) (.slice e5 C.se.length f5) 29
  replace F3 := (F3.below hB9).below hBb
  replace F4 := (F4.below hB9).below hBb
  replace F5 := (F5.below hB9).below hBb
  replace hR := (hR.below hB9).below hBb
  replace R5 := (R5.below hB9).below hBb
  have R11 := O9.r.below hBb
  replace hBB := below_one (below_one hBB hB9) hBb
  have HC1 := hid hC1
  have HC2 := hid hC2
  clear hB9 hBb O9 b0 b1 b2 b3 b4 b5 b6 hC1 hC2 HC
  go_upto_region 12 with fail
  generalize w9.alloc (.cells #[.int .i64 C.fo.num, .slice e1 C.fo.pol.length f1, .slice e2 C.fo.rv.length f2, .int .i64 C.co, .slice e3 C.ru.length f3, .slice e4 C.ha.length f4, .slice e5 C.se.length f5] 29) = W10 at *
  generalize w9.heap.size = k11 at *
  obtain ⟨b0, b1, b2, b3, b4, b5, b6⟩ := F5.c
  go_wp2_with fail
  refine (implGoodSide_any _ X _ hX2 R5).mono ?_
  rintro e w10 ⟨rfl, hB10⟩
  rw [hX1]
  replace F3 := F3.below hB10
  replace F4 := F4.below hB10
  replace F5 := F5.below hB10
  replace F11 := F11.below hB10
  replace hR := hR.below hB10
  replace R5 := R5.below hB10
  replace R11 := R11.below hB10
  replace hBB := below_one hBB hB10
  clear hB10 b0 b1 b2 b3 b4 b5 b6
  obtain ⟨b0, b1, b2, b3, b4, b5, b6⟩ := F5.c
  obtain ⟨q0, q1, q2, q3, q4, q5, q6⟩ := F11.c
  have hmi : (miX X).length ≤ X.ha.length := by rw [miX_yes hX1]; exact miT_len _ _
  have hgt : decide (X.ha.length < (miX X).length) = false := by simp; omega
  have hSA : SnA w10 (.agg #[.int .i64 C.fo.num, .slice e1 C.fo.pol.length f1, .slice e2 C.fo.rv.length f2]) X.fo := by
    rw [← HC1.out]
    exact sda_fo R11.a
  have hSm := sameSnapshots_any _ _ X.fo w10 hX2.1 hSA (sda_fo R5.a)
  clear hmi
  go_wp2_with fail
  refine hSm.mono ?_
  rintro e w11 ⟨rfl, hB11⟩
  replace F3 := F3.below hB11
  replace F4 := F4.below hB11
  replace F5 := F5.below hB11
  replace F11 := F11.below hB11
  replace hR := hR.below hB11
  replace R5 := R5.below hB11
  replace hBB := below_one hBB hB11
  clear hB11 hSm hSA R11 b0 b1 b2 b3 b4 b5 b6 q0 q1 q2 q3 q4 q5 q6
  obtain ⟨b0, b1, b2, b3, b4, b5, b6⟩ := F5.c
  obtain ⟨a0, a1, a2, a3, a4, a5, a6⟩ := F3.c
  obtain ⟨q0, q1, q2, q3, q4, q5, q6⟩ := F11.c
  obtain ⟨m0, m1, m2, m3, m4, m5, m6, m7⟩ := F4.c
  have hC0 : (C.co != 0) = false := by rw [HC2.out]; rfl
  cases hK : (kd == 4)
  case true =>
    go_wp2_with fail
    go_ret
    exact ⟨rfl, hBB⟩
  have hSB : SnA w11 (.agg #[.int .i64 s.fo.num, .slice p1 s.fo.pol.length c1, .slice p2 s.fo.rv.length c2]) X.fo := by
    rw [hX3 hK]
    exact sda_fo hR.a
  have hSm := sameSnapshots_any _ _ X.fo w11 hX2.1 (sda_fo R5.a) hSB
  clear hX3
  go_wp2_with fail
  refine hSm.mono ?_
  rintro e w12 ⟨rfl, hB12⟩
  replace hBB := below_one hBB hB12
  go_wp2_with fail
  go_ret
  exact ⟨rfl, hBB⟩

end Go.Proofs.YtjnajdilllkpcaaGreat

namespace Go.Proofs.YtjnajdilllkpcaaGreat
open Go.ChangeShapes Go.WideShapes Go.ChangeAt Go.RowKit

theorem u8_wf {x : Int} (h : (Lit.int .u8 x).wf = true) : ∃ k : Nat, k < 256 ∧ x = k := by
  have e1 : IntKind.u8.min = 0 := by decide
  have e2 : IntKind.u8.max = 255 := by decide
  simp [Lit.wf, e1, e2] at h
  exact ⟨x.toNat, by omega, by omega⟩

set_option maxRecDepth 100000 in
theorem openBy {H : Type} {enc : TypeId × Value → H} {W : World} {base : Nat} {v : Value} {d : DataW H} {p : List MemPlace} (hv : Value.okWide Tryz.prog W .any base 22 v) (h : DataW.Trod enc Tryz.prog W 0 (fun _ => true) true 22 v d p) :
    ∃ a n c, v = .slice a n c ∧ n ≤ c ∧ n ≤ maxLen ∧ (n ≤ 1048576 → ByS W a n) ∧ (∀ q, a = some q → q.block < W.heap.size) ∧ ((d = .nil ∧ n = 0) ∨ ∃ el sp, d = .slice el sp ∧ el.length + sp.length = c) := by
  obtain ⟨a, n, c, rfl⟩ := okWide_slice Tryz.underlying22 hv
  obtain ⟨fuel, hf⟩ := h
  rcases open_ints Tryz.underlying22 Tryz.underlying5 (by kernel_rfl) hf with ⟨hcs, hd⟩ | ⟨x, len, cap, zs, hcs, _, hl, hm, hz, hd, hcell, hwf⟩
  · simp [Value.cells] at hcs
    obtain ⟨rfl, rfl, rfl⟩ := hcs
    exact ⟨none, 0, 0, rfl, Nat.le_refl _, Nat.zero_le _, fun _ => ⟨by omega, fun i hi => by omega⟩, fun q hq => (by cases hq), .inl ⟨by simpa using (Prod.mk.inj hd).1, rfl⟩⟩
  · simp [Value.cells] at hcs
    obtain ⟨rfl, rfl, rfl⟩ := hcs
    have hzs : zs.length = c := hz
    have hhas : W.has Tryz.prog .any base x 5 c := by
      simp only [Value.okWide, Tryz.underlying22, Cell.okWide, Cell.ok] at hv
      exact hv.2.2
    obtain ⟨_, hs, row, cells, hsh, _⟩ := hhas
    obtain ⟨blk, off, spot⟩ := x
    obtain rfl : spot = none := hs
    refine ⟨_, n, c, rfl, hl, by omega, fun hn => ⟨hn, fun i hi => ?_⟩, fun q hq => ?_, .inr ⟨_, _, (Prod.mk.inj hd).1, by simp [lits]; omega⟩⟩
    · have h1 := hcell i (by omega)
      rw [Addr.add_lit] at h1
      obtain ⟨k, hk, hx⟩ := u8_wf (hwf (zs.getD i 0) (by rw [List.getD_eq_getElem?_getD, List.getElem?_eq_getElem (by omega)]; exact List.getElem_mem _))
      rw [hx] at h1
      exact ⟨blk, off, k, rfl, hk, h1⟩
    · cases hq
      by_cases hb : blk < W.heap.size
      · exact hb
      · simp only [World.shape?] at hsh
        rw [Array.getElem?_eq_none (by omega)] at hsh
        cases hsh

set_option maxRecDepth 100000 in
/-- No slice of bytes is longer than the machine's memory. -/
theorem reachBy {H : Type} {ts : List TypeId} {ds : List (DataW H)} {j n c : Nat} {d : DataW H} (h : (DataW.weightsEach Tryz.prog ts ds).all (· ≤ reachBytes) = true) (ht : ts[j]? = some 22) (hd : ds[j]? = some d) (hle : n ≤ c) (hs : (d = .nil ∧ n = 0) ∨ ∃ el sp, d = .slice el sp ∧ el.length + sp.length = c) : n ≤ 140737488351232 := by
  rcases hs with ⟨_, rfl⟩ | ⟨el, sp, rfl, hc⟩
  · omega
  · have h1 := sized_slice h ht hd Tryz.underlying22
    have h2 : Tryz.prog.bytesOf 5 = 1 := by kernel_rfl
    rw [h2] at h1
    unfold reachBytes at h1
    omega

end Go.Proofs.YtjnajdilllkpcaaGreat

namespace Go.Proofs.YtjnajdilllkpcaaGreat.fnTaken
open Go.ChangeShapes Go.WideShapes Go.ChangeAt Go.RowKit Go.Joins Go.Deep Go.Proofs.YtjnajdilllkpcaaGreat

theorem own : ownKnob Tryz.prog.godebug = none := by kernel_rfl
theorem laidOut : laidOutB Tryz.prog = true := by kernel_rfl

set_option maxHeartbeats 2000000 in
theorem walk (a : Option Addr) (n c : Nat) (w : World) (hle : n ≤ c) (hn : n ≤ maxLen) (hB : n ≤ 1048576 → ByS w a n) (hap : ∀ p, a = some p → p.block < w.heap.size) :
    Calls Tryz.prog 3 #[.slice a n c] w fun e w' => e = .returned (.bool true) ∧ Below w.heap.size w w' := by
  by_cases hs : n ≤ 1048576
  · exact takenWalk a n c w hle hs (hB hs) hap
  · unfold maxLen at hn
    have d1 : decide ((n : Int) > 1048576) = true := by simp; omega
    clear hB hap
    go_enter Tryz.func3, Tryz.ntmps3
    go_wp2
    go_ret
    exact ⟨rfl, Below.refl _ _⟩

set_option maxRecDepth 100000 in
theorem lifted (os : Os) (started : os.Started) (H : Type) (enc : TypeId × Value → H) :
    ReturnsInHanded {} Tryz.checked os 3 .any (Rows.fnTakenSpec.pre6 enc Tryz.prog Tryz.f3 Rows.fnTakenRow.domain false) (Rows.fnTakenSpec.post enc Tryz.prog Tryz.f3 false true false false) := by
  refine returnsInHanded_of_change (C := Tryz.checked) own started (by kernel_rfl) Tryz.func3
    (ChangeSpec.witness6 (enc := enc) (C := Tryz.checked) false ⟨#[], #[.slice none 0 0], []⟩ 8 (by kernel_rfl) (by kernel_rfl) (by kernel_rfl) (by kernel_rfl)) ?_
  intro W base args ds gs before hval0 hW hcnd _
  have hval : ∀ (j : Nat) t v, Tryz.f3.params[j]? = some t → args[j]? = some v → Value.okWide Tryz.prog W .any base t v := hval0
  have hW' := hW
  obtain ⟨p, q, hA0, hV, rfl, _, _⟩ := hW
  have hA : DataW.TrodAll enc Tryz.prog W 0 (fun _ => true) true Tryz.f3.params.toList args.toList ds p := hA0
  rw [Tryz.params3] at hA hval
  obtain ⟨v0, vs0, d0, ds0, p0, q0, hargs, rfl, rfl, h0, r0⟩ := trodAll_cons hA
  obtain ⟨rfl, rfl, rfl⟩ := trodAll_nil r0
  obtain rfl : args = #[v0] := by cases args; simp_all
  obtain ⟨rfl, rfl⟩ := trodVars_none hV
  have k0 := h0
  have lt0 : ∀ x ∈ p0, x.block < W.heap.size := by obtain ⟨m, hm⟩ := k0; exact DataW.trod_lt m _ _ _ hm
  obtain ⟨a0, n0, c0, rfl, hle0, hm0, hB0, hap0, _⟩ := openBy (hval 0 22 v0 rfl rfl) h0
  clear hA0 hval0
  refine (walk a0 n0 c0 W hle0 hm0 hB0 hap0).mono fun e W' ⟨he, bel⟩ => ?_
  subst he
  exact ⟨_, rfl, _, _, _, [], _, [], hW', trodAll_mk1 (shut_bool Tryz.underlying4 _), (trodAll_cons_mk (Below.trod laidOut (by kernel_rfl) (of_decide_eq_true (by kernel_rfl)) k0 bel lt0) trodAll_mk0), rfl, bel.frame _, fun h => by cases h⟩

theorem over : Rows.fnTakenRow.holds Tryz.pinned (OpenSpec.ofChange Rows.fnTakenSpec) :=
  OpenClaim.holds_of_wide 3 Tryz.f3 rfl rfl rfl rfl rfl rfl rfl ⟨rfl, rfl, rfl, rfl, rfl⟩ rfl rfl rfl rfl rfl (by kernel_rfl) Tryz.func3 (by kernel_rfl)
    (of_decide_eq_true (by kernel_rfl)) (by unfold Func.isWrapper; first | (rw [if_pos (by decide +kernel)]; kernel_rfl) | (rw [if_neg (by decide +kernel)]; exact ⟨rfl, rfl⟩))
    (fun os started H enc _ => lifted os started H enc)

end Go.Proofs.YtjnajdilllkpcaaGreat.fnTaken
namespace Go.Proofs.YtjnajdilllkpcaaGreat
theorem fnTaken_holds : Rows.FnTakenSaid := fnTaken.over
#print axioms fnTaken_holds
end Go.Proofs.YtjnajdilllkpcaaGreat
