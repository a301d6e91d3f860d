/-
  Policies that the wide laws draw: short lists of rules whose texts are short.
-/
import Derived.Deep.DeepCutAuto
import Derived.Test.YtnblnhlfifhkkaaGreatCurR
import Derived.Test.YtnblnhlfifhkkaaGreatRuleS
import Derived.Test.YtnblnhlfifhkkaaGreatRuleE
import Derived.Test.YtnblnhlfifhkkaaGreatMarkS
namespace Go.Proofs.YtnblnhlfifhkkaaGreat
open Go.RowKit Go.Shelf

theorem cell_four_q (w : World) (r : Ru) : ∀ j u, r.cells[j]? = some u → (w.alloc (.cells #[.bool r.deny, .string r.who, .string r.method, .string r.path] 52)).cell? ((⟨w.heap.size, 0, none⟩ : Addr).add j) = some u := by
  intro j u hu
  have hj : j < 4 := by have := (List.getElem?_eq_some_iff.1 hu).1; simpa using this
  obtain h | h | h | h : j = 0 ∨ j = 1 ∨ j = 2 ∨ j = 3 := by omega
  all_goals subst h
  all_goals simp at hu
  all_goals subst hu
  all_goals simp [Addr.add]
theorem CurB.belowN {w w' : World} {b N : Nat} {a : Option Addr} {n c k : Nat} (h : CurB w b a n c k) (hB : Below N w w') (hb : b < N) : CurB w' b a n c k := by
  obtain ⟨sd, h2⟩ := h.c2
  exact ⟨h.le, (hB.cell (p := ⟨b, 0, none⟩) hb).trans h.c0, (hB.cell (p := ⟨b, 1, none⟩) hb).trans h.c1, ⟨sd, (hB.cell (p := ⟨b, 2, none⟩) hb).trans h2⟩, (hB.frozen (p := ⟨b, 1, none⟩) hb).trans h.f1, (hB.frozen (p := ⟨b, 2, none⟩) hb).trans h.f2, h.apart⟩
theorem ByS.belowN {w w' : World} {N : Nat} {a : Option Addr} {n : Nat} (h : ByS w a n) (hB : Below N w w') (ha : ∀ p, a = some p → p.block < N) : ByS w' a n :=
  ⟨h.len, fun i hi => by
    obtain ⟨blk, off, x, e, hx, hc⟩ := h.at_ i hi
    exact ⟨blk, off, x, e, hx, (hB.cell (p := ⟨blk, off + i, none⟩) (by have := ha _ e; exact this)).trans hc⟩⟩
theorem gBN {w W w2 : World} {r : Option Nat} (h : w.grownBy W r) (hB : Below w.heap.size W w2) : w.grownBy w2 r :=
  ⟨hB.os.trans h.os, hB.tape.trans h.tape, hB.output.trans h.output, Nat.le_trans h.size hB.size, fun k hk hne => (hB.block k hk).trans (h.block k hk hne)⟩
/-- A list of rules is being drawn, from the world w on. -/
structure PS (w : World) (b : Nat) (a : Option Addr) (n c : Nat) (wr : World) (v : Value) (rs : List Ru) (q : Nat) : Prop where
  row : wr.ownsRow w.heap.size 52 4 v rs.length (rs.flatMap Ru.cells)
  small : ∀ r ∈ rs, r.size ≤ 300
  by_ : ByS wr a n
  cur : CurB wr b a n c q
  gr : w.grownBy wr (some b)
theorem PS.grown {w wr w' : World} {b : Nat} {a : Option Addr} {n c q q' : Nat} {v : Value} {rs : List Ru} (h : PS w b a n c wr v rs q) (hb : b < w.heap.size) (hg : wr.grownBy w' (some b)) (hB : ByS w' a n) (hC : CurB w' b a n c q') : PS w b a n c w' v rs q' :=
  ⟨h.row.kept hg (by
    rcases h.row.2 with ⟨rfl, _⟩ | ⟨g, cap, cur, rfl, hgb, _⟩
    · exact .inl rfl
    · right
      simp only [Value.ownBlock, ne_eq, Option.some.injEq]
      omega), h.small, hB, hC, g2 h.gr hg⟩
theorem PS.below {w wr w' : World} {b : Nat} {a : Option Addr} {n c q : Nat} {v : Value} {rs : List Ru} (h : PS w b a n c wr v rs q) (hB : Below wr.heap.size wr w') : PS w b a n c w' v rs q :=
  ⟨ownsRow_below h.row hB, h.small, h.by_.below hB, h.cur.below hB, gB h.gr hB⟩
theorem PS.appended {w wr w' : World} {b : Nat} {a : Option Addr} {n c q : Nat} {v v' : Value} {rs : List Ru} {r : Ru} {tmp : Obj} (h : PS w b a n c wr v rs q) (hb : b < w.heap.size) (hr : r.size ≤ 300) (hown : w'.ownsRow w.heap.size 52 4 v' (rs.length + 1) (rs.flatMap Ru.cells ++ r.cells)) (hgrow : (wr.alloc tmp).grownBy w' v.ownBlock) : PS w b a n c w' v' (rs ++ [r]) q := by
  have hB := below_appended h.gr.size h.row hgrow
  refine ⟨by simpa using hown, fun x hx => ?_, h.by_.belowN hB (fun p hp => Nat.lt_trans (h.cur.apart p hp) hb), h.cur.belowN hB hb, gBN h.gr hB⟩
  rw [List.mem_append, List.mem_singleton] at hx
  rcases hx with hx | rfl
  · exact h.small x hx
  · exact hr

set_option maxHeartbeats 1000000 in
theorem pick1_any (b : Nat) (a : Option Addr) (n c k m : Nat) (w : World) (hm : 1 ≤ m) (hm2 : m ≤ 200) (hB : ByS w a n) (hC : CurB w b a n c k) (hk : k ≤ 100000000) :
    Calls Tryz.prog 28 #[.pointer (some ⟨b, 0, none⟩), .int .i64 m] w fun e w' => ∃ x : Nat, x < m ∧ e = .returned (.int .i64 x) ∧ ByS w' a n ∧ (∃ k', k' ≤ k + 1 ∧ CurB w' b a n c k') ∧ w.grownBy w' (some b) := by
  by_cases h2 : 2 ≤ m
  · refine (pick_any b a n c k m w h2 hm2 hB hC hk).mono ?_
    rintro e w1 ⟨x, hx, rfl, hC1, hg1⟩
    exact ⟨x, hx, rfl, curB_grown hB hC.apart hC.lt hg1, ⟨_, Nat.le_refl _, hC1⟩, hg1⟩
  · obtain rfl : m = 1 := by omega
    have d1 : decide (((1 : Nat) : Int) ≤ 1) = true := by decide
    go_enter Tryz.func28, Tryz.ntmps28
    go_wp2
    go_ret
    exact ⟨0, by omega, rfl, hB, ⟨k, by omega, hC⟩, gS _ _⟩

set_option maxHeartbeats 4000000 in
set_option maxRecDepth 100000 in
theorem drawPolicy_any (b : Nat) (a : Option Addr) (n c k : Nat) (w : World) (hB : ByS w a n) (hC : CurB w b a n c k) (hk : k ≤ 100000) :
    Calls Tryz.prog 10 #[.pointer (some ⟨b, 0, none⟩)] w fun e w' => ∃ (v : Value) (rs : List Ru) (q : Nat), e = .returned v ∧ rs.length ≤ 64 ∧ q ≤ k + 3000 ∧ PS w b a n c w' v rs q := by
  obtain ⟨i0, hi, hz0, hz1, hz2⟩ := info_parts infoRule
  have hbl := hC.lt
  go_enter Tryz.func10, Tryz.ntmps10
  go_wp2_with fail
  refine (pick_any b a n c k 6 w (by omega) (by omega) hB hC (by omega)).mono ?_
  rintro e w1 ⟨m, hm, rfl, hC1, hg1⟩
  have hB1 := curB_grown hB hC.apart hC.lt hg1
  clear hB hC
  go_wp2_with fail
  refine (one_any b a n c (k + 1) 30 w1 (by omega) (by omega) hB1 hC1 (by omega)).mono ?_
  rintro e w2 ⟨z, rfl, hC2, hg2⟩
  have hB2 := curB_grown hB1 hC1.apart hC1.lt hg2
  have hG2 := g2 hg1 hg2
  clear hB1 hC1 hg1 hg2
  go_upto_if 9 with fail
  go_cut [4] (fun nv wx => ∃ j q : Nat, nv = .int .i64 j ∧ j ≤ 31 ∧ q ≤ k + 10 ∧ ByS wx a n ∧ CurB wx b a n c q ∧ w.grownBy wx (some b))
  case first =>
    cases z
    · go_wp2_with fail
      go_meet
      exact ⟨m, k + 1 + 1, rfl, by omega, by omega, hB2, hC2, hG2⟩
    · go_wp2_with fail
      refine (pick_any b a n c (k + 1 + 1) 2 w2 (by omega) (by omega) hB2 hC2 (by omega)).mono ?_
      rintro e w3 ⟨m', hm', rfl, hC3, hg3⟩
      have hB3 := curB_grown hB2 hC2.apart hC2.lt hg3
      go_wp2_with fail
      go_meet
      exact ⟨30 + m', k + 1 + 1 + 1, by go_num, by omega, by omega, hB3, hC3, g2 hG2 hg3⟩
  case rest =>
    obtain ⟨j0, q0, rfl, hj0, hq0, hBc, hCc, hGc⟩ := hcut
    clear hB2 hC2 hG2
    go_wp2_with fail
    go_loopw [3, 4] (fun sv nv wr => ∃ (v : Value) (rs : List Ru) (j q : Nat), v = sv ∧ nv = .int .i64 j ∧ j ≤ 31 ∧ rs.length + 2 * j ≤ 64 ∧ q + 60 * j ≤ k + 2500 ∧ PS w b a n c wr v rs q) (fun _ nv _ => (intOf nv).toNat)
    case atStart => exact ⟨_, [], j0, q0, rfl, rfl, by omega, by simp; omega, by omega, World.ownsRow_nil _ _ _ _, (fun r hr => by cases hr), hBc, hCc, hGc⟩
    case round =>
      obtain ⟨v, rs, j, q, rfl, rfl, hj, hlen, hq, hP⟩ := hrel
      clear hBc hCc hGc
      by_cases hjz : 0 < j
      · have d0 : decide ((j : Int) > 0) = true := by simp; omega
        go_wp2_with fail
        refine (drawRule_any b a n c q wr hP.by_ hP.cur (by omega)).mono ?_
        rintro e w2 ⟨r, hr, rfl, hB2, ⟨q2, hq2, hC2⟩, hg2⟩
        have hP2 := hP.grown hbl hg2 hB2 hC2
        clear hP hB2 hC2 hg2
        have hX := boxR_new w2 52 r.deny r.who r.method r.path
        have hP3 := hP2.below ((Below.refl _ w2).alloc (Nat.le_refl _) (.cells #[.bool r.deny, .string r.who, .string r.method, .string r.path] 52))
        have hbl2 := hP2.cur.lt
        clear hP2
        have hw : r.who.size ≤ 1048576 := by unfold Ru.size at hr; omega
        have hp : r.path.size ≤ 1048576 := by unfold Ru.size at hr; omega
        go_upto_region 8 with fail
        go_cut [24] (fun tv wx => ∃ (z : Bool) (q' : Nat), tv = .bool z ∧ q' ≤ q2 + 1 ∧ PS w b a n c wx v rs q' ∧ BoxR wx w2.heap.size r.deny r.who r.method r.path)
        case first =>
          cases hg : r.good
          · go_wp2_with (go_at_call 31; refine (specGoodRule_any r _ hw hp).mono ?_; rintro e w3 ⟨rfl, hB3⟩; rw [hg])
            have hP4 := hP3.below hB3
            have hX4 := hX.below hB3
            refine (one_any b a n c q2 20 w3 (by omega) (by omega) hP4.by_ hP4.cur (by omega)).mono ?_
            rintro e w4 ⟨z, rfl, hC4, hg4⟩
            go_wp2_with fail
            go_meet
            exact ⟨z, q2 + 1, rfl, by omega, hP4.grown hbl hg4 (curB_grown hP4.by_ hP4.cur.apart hP4.cur.lt hg4) hC4, hX4.keep hg4 (by omega)⟩
          · go_wp2_with (go_at_call 31; refine (specGoodRule_any r _ hw hp).mono ?_; rintro e w3 ⟨rfl, hB3⟩; rw [hg])
            go_meet
            exact ⟨true, q2, rfl, by omega, hP3.below hB3, hX.below hB3⟩
        case rest =>
          obtain ⟨z, q3, rfl, hq3, hP4, hX4⟩ := hcut
          clear hP3 hX
          go_upto_if 24 with fail
          go_cut [3] (fun tv wx => ∃ (v' : Value) (rs' : List Ru), v' = tv ∧ rs'.length ≤ rs.length + 1 ∧ PS w b a n c wx v' rs' q3)
          case first =>
            obtain ⟨_, x0, x1, x2, x3, _, _, _, _⟩ := hX4
            cases z
            · go_wp2_with fail
              go_meet
              exact ⟨v, rs, rfl, by omega, hP4⟩
            · have hown := hP4.row
              have hsz4 := hP4.gr.size
              rcases row_form hown with ⟨rfl, hl0⟩ | ⟨go, capo, rfl, hg, hcapo⟩
              · obtain rfl : rs = [] := List.eq_nil_of_length_eq_zero hl0
                go_wp2_with (at_builtin; refine wpList_append_own _ rfl _ _ 23 rfl w.heap.size 52 i0 _ 4 56 Tryz.underlying23 hi hz0 hz1 hz2 rfl (by decide) _ _ _ rfl (hown.alloc _) ⟨wc.heap.size, 0, none⟩ 1 1 r.cells rfl rfl (cell_four_q wc r) (by intro u hu; simp at hu; rcases hu with rfl | rfl | rfl | rfl <;> rfl) (by unfold maxLen; first | omega | (simp <;> omega)) (by first | omega | (simp <;> omega)) (by first | omega | (simp <;> omega)) ?_; intro v' w5 hown' hgrow _)
                go_meet
                exact ⟨v', [] ++ [r], rfl, by simp, hP4.appended hbl hr hown' hgrow⟩
              · go_wp2_with (at_builtin; refine wpList_append_own _ rfl _ _ 23 rfl w.heap.size 52 i0 _ 4 56 Tryz.underlying23 hi hz0 hz1 hz2 rfl (by decide) _ _ _ rfl (hown.alloc _) ⟨wc.heap.size, 0, none⟩ 1 1 r.cells rfl rfl (cell_four_q wc r) (by intro u hu; simp at hu; rcases hu with rfl | rfl | rfl | rfl <;> rfl) (by unfold maxLen; first | omega | (simp <;> omega)) (by first | omega | (simp <;> omega)) (by first | omega | (simp <;> omega)) ?_; intro v' w5 hown' hgrow _)
                go_meet
                exact ⟨v', rs ++ [r], rfl, by simp, hP4.appended hbl hr hown' hgrow⟩
          case rest =>
            obtain ⟨v', rs', rfl, hlen', hP5⟩ := hcut
            clear hP4 hX4
            go_upto_region 10 with fail
            go_cut [35] (fun tv wx => ∃ (z : Bool) (q' : Nat), tv = .bool z ∧ q' ≤ q3 + 1 ∧ (z = true → 0 < rs'.length) ∧ PS w b a n c wx v' rs' q')
            case first =>
              obtain ⟨ao, capo, rfl⟩ := ownsRow_len hP5.row
              by_cases h0 : 0 < rs'.length
              · have d1 : decide ((rs'.length : Int) > 0) = true := decide_eq_true (by omega)
                go_wp2_with fail
                refine (one_any b a n c q3 6 _ (by omega) (by omega) hP5.by_ hP5.cur (by omega)).mono ?_
                rintro e w6 ⟨z, rfl, hC6, hg6⟩
                go_wp2_with fail
                go_meet
                exact ⟨z, q3 + 1, rfl, by omega, fun _ => h0, hP5.grown hbl hg6 (curB_grown hP5.by_ hP5.cur.apart hP5.cur.lt hg6) hC6⟩
              · have d1 : decide ((rs'.length : Int) > 0) = false := decide_eq_false (by omega)
                go_wp2_with fail
                go_meet
                exact ⟨false, q3, rfl, by omega, fun h => (by cases h), hP5⟩
            case rest =>
              obtain ⟨z, q4, rfl, hq4, hz, hP6⟩ := hcut
              clear hP5
              cases z
              · go_wp2
                go_roundw
                case rel =>
                  exact ⟨v', rs', j - 1, q4, rfl, by go_num, by omega, by omega, by omega, hP6⟩
                case measure => simp [intOf]; omega
              · have hpos := hz rfl
                rcases row_form hP6.row with ⟨_, hl0⟩ | ⟨go, capo, rfl, hg, hcapo⟩
                · omega
                · go_wp2_with fail
                  refine (pick1_any b a n c q4 rs'.length _ (by omega) (by omega) hP6.by_ hP6.cur (by omega)).mono ?_
                  rintro e w5 ⟨x, hx, rfl, hB5, ⟨q5, hq5, hC5⟩, hg5⟩
                  have hP7 := hP6.grown hbl hg5 hB5 hC5
                  have hown := hP7.row
                  have hsz7 := hP7.gr.size
                  have hr2 := hP7.small _ (List.getElem_mem hx)
                  obtain ⟨b', off', he, _, _, y0, y1, y2, y3⟩ := (RuS.own hown).at hx
                  obtain ⟨rfl, rfl⟩ : go = b' ∧ 0 = off' := by simpa using he
                  simp only [Nat.zero_add] at y0 y1 y2 y3
                  clear hP6 hB5 hC5 hg5 he
                  generalize rs'[x] = r2 at *
                  go_wp2_with (at_builtin; refine wpList_append_own _ rfl _ _ 23 rfl w.heap.size 52 i0 _ 4 56 Tryz.underlying23 hi hz0 hz1 hz2 rfl (by decide) _ _ _ rfl (hown.alloc _) ⟨w5.heap.size, 0, none⟩ 1 1 r2.cells rfl rfl (cell_four_q w5 r2) (by intro u hu; simp at hu; rcases hu with rfl | rfl | rfl | rfl <;> rfl) (by unfold maxLen; first | omega | (simp <;> omega)) (by first | omega | (simp <;> omega)) (by first | omega | (simp <;> omega)) ?_; intro v2 w6 hown' hgrow _)
                  go_roundw
                  case rel =>
                    exact ⟨v2, rs' ++ [r2], j - 1, q5, rfl, by go_num, by omega, by simp; omega, by omega, hP7.appended hbl hr2 hown' hgrow⟩
                  case measure => simp [intOf]; omega
      · obtain rfl : j = 0 := by omega
        have d0 : decide (((0 : Nat) : Int) > 0) = false := by decide
        go_wp2
        go_ret
        exact ⟨_, rs, q, rfl, by omega, by omega, hP⟩

end Go.Proofs.YtnblnhlfifhkkaaGreat
