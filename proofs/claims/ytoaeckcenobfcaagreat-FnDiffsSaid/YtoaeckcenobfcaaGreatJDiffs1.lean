/-
  Chapter 2, the program's side: PlainPolicy.
-/
import Derived.Deep.DeepCutAuto
import Derived.Test.YtoaeckcenobfcaaGreatJDiffs0
import Derived.WalkKit
import Derived.ProofKit
import Derived.OpenShut
import Derived.Lib.SmallJoins
import Derived.Deep.Slices
import Derived.Shelf.Small.Strs
import Derived.Shelf.Slices.Turned
import Derived.Shelf.Slices.Equal
import Derived.Shelf.Sort.Plain
import Derived.Shelf.Slices.CompactI
import Derived.Ground.Names2Prog
import Derived.Shelf.SlGeneric
import Derived.Ground.SlgqProg
import Derived.Shelf.SlicesQ.Equal
import Derived.Shelf.SlicesQ.Contains
import Derived.Ground.SlsfProg
import Derived.Shelf.SlSortCmp.NoneTotal
import Derived.Ground.SlgnProg
import Derived.Shelf.SlicesE.Clone
import Derived.Test.YtoaeckcenobfcaaGreatProg
import Derived.Deep.RegionHeld3
import Derived.Maps.OwnOps
import Derived.Maps.Views
import Derived.Lib.Bytealg
import Derived.Deep.QuietTactic
import Derived.BigQuiet
import Derived.Lib.SliceRun
namespace Go.Proofs.YtoaeckcenobfcaaGreat
open Go.RowKit Go.Shelf

theorem cell_four_q (w : World) (r : Ru) : ∀ j u, r.cells[j]? = some u → (w.alloc (.cells #[.bool r.deny, .string r.who, .string r.method, .string r.path] 41)).cell? ((⟨w.heap.size, 0, none⟩ : Addr).add j) = some u := by
  intro j u hu
  have hj : j < 4 := by have := (List.getElem?_eq_some_iff.1 hu).1; simpa using this
  obtain h | h | h | h : j = 0 ∨ j = 1 ∨ j = 2 ∨ j = 3 := by omega
  all_goals subst h
  all_goals simp at hu
  all_goals subst hu
  all_goals simp [Addr.add]
theorem CurB.belowN {w w' : World} {b N : Nat} {a : Option Addr} {n c k : Nat} (h : CurB w b a n c k) (hB : Below N w w') (hb : b < N) : CurB w' b a n c k := by
  obtain ⟨sd, h2⟩ := h.c2
  exact ⟨h.le, (hB.cell (p := ⟨b, 0, none⟩) hb).trans h.c0, (hB.cell (p := ⟨b, 1, none⟩) hb).trans h.c1, ⟨sd, (hB.cell (p := ⟨b, 2, none⟩) hb).trans h2⟩, (hB.frozen (p := ⟨b, 1, none⟩) hb).trans h.f1, (hB.frozen (p := ⟨b, 2, none⟩) hb).trans h.f2, h.apart⟩
theorem ByS.belowN {w w' : World} {N : Nat} {a : Option Addr} {n : Nat} (h : ByS w a n) (hB : Below N w w') (ha : ∀ p, a = some p → p.block < N) : ByS w' a n :=
  ⟨h.len, fun i hi => by
    obtain ⟨blk, off, x, e, hx, hc⟩ := h.at_ i hi
    exact ⟨blk, off, x, e, hx, (hB.cell (p := ⟨blk, off + i, none⟩) (by have := ha _ e; exact this)).trans hc⟩⟩
theorem gBN {w W w2 : World} {r : Option Nat} (h : w.grownBy W r) (hB : Below w.heap.size W w2) : w.grownBy w2 r :=
  ⟨hB.os.trans h.os, hB.tape.trans h.tape, hB.output.trans h.output, Nat.le_trans h.size hB.size, fun k hk hne => (hB.block k hk).trans (h.block k hk hne)⟩
/-- A list of rules is being drawn, from the world w on. -/
structure PS (w : World) (b : Nat) (a : Option Addr) (n c : Nat) (wr : World) (v : Value) (rs : List Ru) (q : Nat) : Prop where
  row : wr.ownsRow w.heap.size 41 4 v rs.length (rs.flatMap Ru.cells)
  small : ∀ r ∈ rs, r.size ≤ 300
  by_ : ByS wr a n
  cur : CurB wr b a n c q
  gr : w.grownBy wr (some b)
theorem PS.grown {w wr w' : World} {b : Nat} {a : Option Addr} {n c q q' : Nat} {v : Value} {rs : List Ru} (h : PS w b a n c wr v rs q) (hb : b < w.heap.size) (hg : wr.grownBy w' (some b)) (hB : ByS w' a n) (hC : CurB w' b a n c q') : PS w b a n c w' v rs q' :=
  ⟨h.row.kept hg (by
    rcases h.row.2 with ⟨rfl, _⟩ | ⟨g, cap, cur, rfl, hgb, _⟩
    · exact .inl rfl
    · right
      simp only [Value.ownBlock, ne_eq, Option.some.injEq]
      omega), h.small, hB, hC, g2 h.gr hg⟩
theorem PS.below {w wr w' : World} {b : Nat} {a : Option Addr} {n c q : Nat} {v : Value} {rs : List Ru} (h : PS w b a n c wr v rs q) (hB : Below wr.heap.size wr w') : PS w b a n c w' v rs q :=
  ⟨ownsRow_below h.row hB, h.small, h.by_.below hB, h.cur.below hB, gB h.gr hB⟩
theorem PS.appended {w wr w' : World} {b : Nat} {a : Option Addr} {n c q : Nat} {v v' : Value} {rs : List Ru} {r : Ru} {tmp : Obj} (h : PS w b a n c wr v rs q) (hb : b < w.heap.size) (hr : r.size ≤ 300) (hown : w'.ownsRow w.heap.size 41 4 v' (rs.length + 1) (rs.flatMap Ru.cells ++ r.cells)) (hgrow : (wr.alloc tmp).grownBy w' v.ownBlock) : PS w b a n c w' v' (rs ++ [r]) q := by
  have hB := below_appended h.gr.size h.row hgrow
  refine ⟨by simpa using hown, fun x hx => ?_, h.by_.belowN hB (fun p hp => Nat.lt_trans (h.cur.apart p hp) hb), h.cur.belowN hB hb, gBN h.gr hB⟩
  rw [List.mem_append, List.mem_singleton] at hx
  rcases hx with hx | rfl
  · exact h.small x hx
  · exact hr

set_option maxHeartbeats 1000000 in
theorem pick1_any (b : Nat) (a : Option Addr) (n c k m : Nat) (w : World) (hm : 1 ≤ m) (hm2 : m ≤ 200) (hB : ByS w a n) (hC : CurB w b a n c k) (hk : k ≤ 100000000) :
    Calls Tryz.prog 23 #[.pointer (some ⟨b, 0, none⟩), .int .i64 m] w fun e w' => ∃ x : Nat, x < m ∧ e = .returned (.int .i64 x) ∧ ByS w' a n ∧ (∃ k', k' ≤ k + 1 ∧ CurB w' b a n c k') ∧ w.grownBy w' (some b) := by
  by_cases h2 : 2 ≤ m
  · refine (pick_any b a n c k m w h2 hm2 hB hC hk).mono ?_
    rintro e w1 ⟨x, hx, rfl, hC1, hg1⟩
    exact ⟨x, hx, rfl, curB_grown hB hC.apart hC.lt hg1, ⟨_, Nat.le_refl _, hC1⟩, hg1⟩
  · obtain rfl : m = 1 := by omega
    have d1 : decide (((1 : Nat) : Int) ≤ 1) = true := by decide
    go_enter Tryz.func23, Tryz.ntmps23
    go_wp2
    go_ret
    exact ⟨0, by omega, rfl, hB, ⟨k, by omega, hC⟩, gS _ _⟩

set_option maxHeartbeats 4000000 in
set_option maxRecDepth 100000 in
theorem drawPolicy_any (b : Nat) (a : Option Addr) (n c k : Nat) (w : World) (hB : ByS w a n) (hC : CurB w b a n c k) (hk : k ≤ 100000) :
    Calls Tryz.prog 20 #[.pointer (some ⟨b, 0, none⟩)] w fun e w' => ∃ (v : Value) (rs : List Ru) (q : Nat), e = .returned v ∧ rs.length ≤ 64 ∧ q ≤ k + 3000 ∧ PS w b a n c w' v rs q := by
  obtain ⟨i0, hi, hz0, hz1, hz2⟩ := info_parts infoRule
  have hbl := hC.lt
  go_enter Tryz.func20, Tryz.ntmps20
  go_wp2_with fail
  refine (pick_any b a n c k 6 w (by omega) (by omega) hB hC (by omega)).mono ?_
  rintro e w1 ⟨m, hm, rfl, hC1, hg1⟩
  have hB1 := curB_grown hB hC.apart hC.lt hg1
  clear hB hC
  go_wp2_with fail
  refine (one_any b a n c (k + 1) 30 w1 (by omega) (by omega) hB1 hC1 (by omega)).mono ?_
  rintro e w2 ⟨z, rfl, hC2, hg2⟩
  have hB2 := curB_grown hB1 hC1.apart hC1.lt hg2
  have hG2 := g2 hg1 hg2
  clear hB1 hC1 hg1 hg2
  go_upto_if 9 with fail
  go_cut [4] (fun nv wx => ∃ j q : Nat, nv = .int .i64 j ∧ j ≤ 31 ∧ q ≤ k + 10 ∧ ByS wx a n ∧ CurB wx b a n c q ∧ w.grownBy wx (some b))
  case first =>
    cases z
    · go_wp2_with fail
      go_meet
      exact ⟨m, k + 1 + 1, rfl, by omega, by omega, hB2, hC2, hG2⟩
    · go_wp2_with fail
      refine (pick_any b a n c (k + 1 + 1) 2 w2 (by omega) (by omega) hB2 hC2 (by omega)).mono ?_
      rintro e w3 ⟨m', hm', rfl, hC3, hg3⟩
      have hB3 := curB_grown hB2 hC2.apart hC2.lt hg3
      go_wp2_with fail
      go_meet
      exact ⟨30 + m', k + 1 + 1 + 1, by go_num, by omega, by omega, hB3, hC3, g2 hG2 hg3⟩
  case rest =>
    obtain ⟨j0, q0, rfl, hj0, hq0, hBc, hCc, hGc⟩ := hcut
    clear hB2 hC2 hG2
    go_wp2_with fail
    go_loopw [3, 4] (fun sv nv wr => ∃ (v : Value) (rs : List Ru) (j q : Nat), v = sv ∧ nv = .int .i64 j ∧ j ≤ 31 ∧ rs.length + 2 * j ≤ 64 ∧ q + 60 * j ≤ k + 2500 ∧ PS w b a n c wr v rs q) (fun _ nv _ => (intOf nv).toNat)
    case atStart => exact ⟨_, [], j0, q0, rfl, rfl, by omega, by simp; omega, by omega, World.ownsRow_nil _ _ _ _, (fun r hr => by cases hr), hBc, hCc, hGc⟩
    case round =>
      obtain ⟨v, rs, j, q, rfl, rfl, hj, hlen, hq, hP⟩ := hrel
      clear hBc hCc hGc
      by_cases hjz : 0 < j
      · have d0 : decide ((j : Int) > 0) = true := by simp; omega
        go_wp2_with fail
        refine (drawRule_any b a n c q wr hP.by_ hP.cur (by omega)).mono ?_
        rintro e w2 ⟨r, hr, rfl, hB2, ⟨q2, hq2, hC2⟩, hg2⟩
        have hP2 := hP.grown hbl hg2 hB2 hC2
        clear hP hB2 hC2 hg2
        have hX := boxR_new w2 41 r.deny r.who r.method r.path
        have hP3 := hP2.below ((Below.refl _ w2).alloc (Nat.le_refl _) (.cells #[.bool r.deny, .string r.who, .string r.method, .string r.path] 41))
        have hbl2 := hP2.cur.lt
        clear hP2
        have hw : r.who.size ≤ 1048576 := by unfold Ru.size at hr; omega
        have hp : r.path.size ≤ 1048576 := by unfold Ru.size at hr; omega
        go_upto_region 8 with fail
        go_cut [24] (fun tv wx => ∃ (z : Bool) (q' : Nat), tv = .bool z ∧ q' ≤ q2 + 1 ∧ PS w b a n c wx v rs q' ∧ BoxR wx w2.heap.size r.deny r.who r.method r.path)
        case first =>
          cases hg : r.good
          · go_wp2_with (go_at_call 49; refine (specGoodRule_any r _ hw hp).mono ?_; rintro e w3 ⟨rfl, hB3⟩; rw [hg])
            have hP4 := hP3.below hB3
            have hX4 := hX.below hB3
            refine (one_any b a n c q2 20 w3 (by omega) (by omega) hP4.by_ hP4.cur (by omega)).mono ?_
            rintro e w4 ⟨z, rfl, hC4, hg4⟩
            go_wp2_with fail
            go_meet
            exact ⟨z, q2 + 1, rfl, by omega, hP4.grown hbl hg4 (curB_grown hP4.by_ hP4.cur.apart hP4.cur.lt hg4) hC4, hX4.keep hg4 (by omega)⟩
          · go_wp2_with (go_at_call 49; refine (specGoodRule_any r _ hw hp).mono ?_; rintro e w3 ⟨rfl, hB3⟩; rw [hg])
            go_meet
            exact ⟨true, q2, rfl, by omega, hP3.below hB3, hX.below hB3⟩
        case rest =>
          obtain ⟨z, q3, rfl, hq3, hP4, hX4⟩ := hcut
          clear hP3 hX
          go_upto_if 24 with fail
          go_cut [3] (fun tv wx => ∃ (v' : Value) (rs' : List Ru), v' = tv ∧ rs'.length ≤ rs.length + 1 ∧ PS w b a n c wx v' rs' q3)
          case first =>
            obtain ⟨_, x0, x1, x2, x3, _, _, _, _⟩ := hX4
            cases z
            · go_wp2_with fail
              go_meet
              exact ⟨v, rs, rfl, by omega, hP4⟩
            · have hown := hP4.row
              have hsz4 := hP4.gr.size
              rcases row_form hown with ⟨rfl, hl0⟩ | ⟨go, capo, rfl, hg, hcapo⟩
              · obtain rfl : rs = [] := List.eq_nil_of_length_eq_zero hl0
                go_wp2_with (at_builtin; refine wpList_append_own _ rfl _ _ 23 rfl w.heap.size 41 i0 _ 4 56 Tryz.underlying23 hi hz0 hz1 hz2 rfl (by decide) _ _ _ rfl (hown.alloc _) ⟨wc.heap.size, 0, none⟩ 1 1 r.cells rfl rfl (cell_four_q wc r) (by intro u hu; simp at hu; rcases hu with rfl | rfl | rfl | rfl <;> rfl) (by unfold maxLen; first | omega | (simp <;> omega)) (by first | omega | (simp <;> omega)) (by first | omega | (simp <;> omega)) ?_; intro v' w5 hown' hgrow _)
                go_meet
                exact ⟨v', [] ++ [r], rfl, by simp, hP4.appended hbl hr hown' hgrow⟩
              · go_wp2_with (at_builtin; refine wpList_append_own _ rfl _ _ 23 rfl w.heap.size 41 i0 _ 4 56 Tryz.underlying23 hi hz0 hz1 hz2 rfl (by decide) _ _ _ rfl (hown.alloc _) ⟨wc.heap.size, 0, none⟩ 1 1 r.cells rfl rfl (cell_four_q wc r) (by intro u hu; simp at hu; rcases hu with rfl | rfl | rfl | rfl <;> rfl) (by unfold maxLen; first | omega | (simp <;> omega)) (by first | omega | (simp <;> omega)) (by first | omega | (simp <;> omega)) ?_; intro v' w5 hown' hgrow _)
                go_meet
                exact ⟨v', rs ++ [r], rfl, by simp, hP4.appended hbl hr hown' hgrow⟩
          case rest =>
            obtain ⟨v', rs', rfl, hlen', hP5⟩ := hcut
            clear hP4 hX4
            go_upto_region 10 with fail
            go_cut [35] (fun tv wx => ∃ (z : Bool) (q' : Nat), tv = .bool z ∧ q' ≤ q3 + 1 ∧ (z = true → 0 < rs'.length) ∧ PS w b a n c wx v' rs' q')
            case first =>
              obtain ⟨ao, capo, rfl⟩ := ownsRow_len hP5.row
              by_cases h0 : 0 < rs'.length
              · have d1 : decide ((rs'.length : Int) > 0) = true := decide_eq_true (by omega)
                go_wp2_with fail
                refine (one_any b a n c q3 6 _ (by omega) (by omega) hP5.by_ hP5.cur (by omega)).mono ?_
                rintro e w6 ⟨z, rfl, hC6, hg6⟩
                go_wp2_with fail
                go_meet
                exact ⟨z, q3 + 1, rfl, by omega, fun _ => h0, hP5.grown hbl hg6 (curB_grown hP5.by_ hP5.cur.apart hP5.cur.lt hg6) hC6⟩
              · have d1 : decide ((rs'.length : Int) > 0) = false := decide_eq_false (by omega)
                go_wp2_with fail
                go_meet
                exact ⟨false, q3, rfl, by omega, fun h => (by cases h), hP5⟩
            case rest =>
              obtain ⟨z, q4, rfl, hq4, hz, hP6⟩ := hcut
              clear hP5
              cases z
              · go_wp2
                go_roundw
                case rel =>
                  exact ⟨v', rs', j - 1, q4, rfl, by go_num, by omega, by omega, by omega, hP6⟩
                case measure => simp [intOf]; omega
              · have hpos := hz rfl
                rcases row_form hP6.row with ⟨_, hl0⟩ | ⟨go, capo, rfl, hg, hcapo⟩
                · omega
                · go_wp2_with fail
                  refine (pick1_any b a n c q4 rs'.length _ (by omega) (by omega) hP6.by_ hP6.cur (by omega)).mono ?_
                  rintro e w5 ⟨x, hx, rfl, hB5, ⟨q5, hq5, hC5⟩, hg5⟩
                  have hP7 := hP6.grown hbl hg5 hB5 hC5
                  have hown := hP7.row
                  have hsz7 := hP7.gr.size
                  have hr2 := hP7.small _ (List.getElem_mem hx)
                  obtain ⟨b', off', he, _, _, y0, y1, y2, y3⟩ := (RuS.own hown).at hx
                  obtain ⟨rfl, rfl⟩ : go = b' ∧ 0 = off' := by simpa using he
                  simp only [Nat.zero_add] at y0 y1 y2 y3
                  clear hP6 hB5 hC5 hg5 he
                  generalize rs'[x] = r2 at *
                  go_wp2_with (at_builtin; refine wpList_append_own _ rfl _ _ 23 rfl w.heap.size 41 i0 _ 4 56 Tryz.underlying23 hi hz0 hz1 hz2 rfl (by decide) _ _ _ rfl (hown.alloc _) ⟨w5.heap.size, 0, none⟩ 1 1 r2.cells rfl rfl (cell_four_q w5 r2) (by intro u hu; simp at hu; rcases hu with rfl | rfl | rfl | rfl <;> rfl) (by unfold maxLen; first | omega | (simp <;> omega)) (by first | omega | (simp <;> omega)) (by first | omega | (simp <;> omega)) ?_; intro v2 w6 hown' hgrow _)
                  go_roundw
                  case rel =>
                    exact ⟨v2, rs' ++ [r2], j - 1, q5, rfl, by go_num, by omega, by simp; omega, by omega, hP7.appended hbl hr2 hown' hgrow⟩
                  case measure => simp [intOf]; omega
      · obtain rfl : j = 0 := by omega
        have d0 : decide (((0 : Nat) : Int) > 0) = false := by decide
        go_wp2
        go_ret
        exact ⟨_, rs, q, rfl, by omega, by omega, hP⟩

end Go.Proofs.YtoaeckcenobfcaaGreat

namespace Go.Proofs.YtoaeckcenobfcaaGreat
open Go.RowKit Go.Shelf

/-- A slice whose elements have one cell each reads as these values. -/
def VS (w : World) (v : Value) (xs : List Value) : Prop :=
  (∃ a cap, v = .slice a 0 cap ∧ xs = []) ∨
  ∃ b off cap, v = .slice (some ⟨b, off, none⟩) xs.length cap ∧ b < w.heap.size ∧ xs.length ≤ cap ∧ ∀ i (h : i < xs.length), w.cell? ⟨b, off + i, none⟩ = some xs[i]
theorem VS.below {w w' : World} {v : Value} {xs : List Value} (h : VS w v xs) (hB : Below w.heap.size w w') : VS w' v xs := by
  rcases h with h | ⟨b, off, cap, hv, hb, hl, hc⟩
  · exact .inl h
  · exact .inr ⟨b, off, cap, hv, Nat.lt_of_lt_of_le hb hB.size, hl, fun k hk => (hB.cell (p := ⟨b, off + k, none⟩) hb).trans (hc k hk)⟩
theorem VS.len {w : World} {v : Value} {xs : List Value} (h : VS w v xs) : ∃ a cap, v = .slice a xs.length cap := by
  rcases h with ⟨a, cap, hv, rfl⟩ | ⟨b, off, cap, hv, _⟩
  · exact ⟨a, cap, hv⟩
  · exact ⟨_, cap, hv⟩
theorem VS.at {w : World} {a : Option Addr} {n cap : Nat} {xs : List Value} (h : VS w (.slice a n cap) xs) {i : Nat} (hi : i < xs.length) : ∃ b off, a = some ⟨b, off, none⟩ ∧ b < w.heap.size ∧ n ≤ cap ∧ w.cell? ⟨b, off + i, none⟩ = some xs[i] := by
  rcases h with ⟨_, _, _, rfl⟩ | ⟨b, off, cap, hv, hb, hl, hc⟩
  · simp at hi
  · cases hv
    exact ⟨b, off, rfl, hb, hl, hc i hi⟩
theorem VS.own {w : World} {base : Nat} {e : TypeId} {v : Value} {xs : List Value} (h : w.ownsRow base e 1 v xs.length xs) : VS w v xs := by
  rcases h.2 with ⟨rfl, h0⟩ | ⟨g, cap, cur, rfl, hg, hb, hle, _⟩
  · exact .inl ⟨none, 0, rfl, List.eq_nil_of_length_eq_zero h0⟩
  · refine .inr ⟨g, 0, cap, rfl, (Array.getElem?_eq_some_iff.1 hb).1, hle, fun k hk => ?_⟩
    have := h.cellAt k (by omega)
    rw [List.getElem?_eq_getElem hk] at this
    rw [Nat.zero_add]
    exact this

abbrev strs (ss : List ByteArray) : List Value := ss.map Value.string
theorem VS.ownS {w : World} {base : Nat} {e : TypeId} {v : Value} {ss : List ByteArray} (h : w.ownsRow base e 1 v ss.length (ss.map Value.string)) : VS w v (ss.map Value.string) :=
  VS.own (by rw [List.length_map]; exact h)
theorem VS.ownN {w : World} {base : Nat} {e : TypeId} {v : Value} {zs : List Int} (h : w.ownsRow base e 1 v zs.length (zs.map (Value.int .i64))) : VS w v (zs.map (Value.int .i64)) :=
  VS.own (by rw [List.length_map]; exact h)
abbrev nums (zs : List Int) : List Value := zs.map (Value.int .i64)
theorem strs_len (ss : List ByteArray) : (strs ss).length = ss.length := List.length_map _
theorem nums_len (zs : List Int) : (nums zs).length = zs.length := List.length_map _
theorem VS.str {w : World} {a : Option Addr} {n cap : Nat} {ss : List ByteArray} (h : VS w (.slice a n cap) (strs ss)) {i : Nat} (hi : i < ss.length) : ∃ b off, a = some ⟨b, off, none⟩ ∧ b < w.heap.size ∧ n ≤ cap ∧ w.cell? ⟨b, off + i, none⟩ = some (.string ss[i]) := by
  obtain ⟨b, off, h1, h2, h3, h4⟩ := h.at (i := i) (by rw [strs_len]; exact hi)
  exact ⟨b, off, h1, h2, h3, by rw [h4, List.getElem_map]⟩
theorem VS.num {w : World} {a : Option Addr} {n cap : Nat} {zs : List Int} (h : VS w (.slice a n cap) (nums zs)) {i : Nat} (hi : i < zs.length) : ∃ b off, a = some ⟨b, off, none⟩ ∧ b < w.heap.size ∧ n ≤ cap ∧ w.cell? ⟨b, off + i, none⟩ = some (.int .i64 zs[i]) := by
  obtain ⟨b, off, h1, h2, h3, h4⟩ := h.at (i := i) (by rw [nums_len]; exact hi)
  exact ⟨b, off, h1, h2, h3, by rw [h4, List.getElem_map]⟩
theorem VS.strLen {w : World} {v : Value} {ss : List ByteArray} (h : VS w v (strs ss)) : ∃ a cap, v = .slice a ss.length cap := by
  have := h.len
  rwa [strs_len] at this
theorem VS.numLen {w : World} {v : Value} {zs : List Int} (h : VS w v (nums zs)) : ∃ a cap, v = .slice a zs.length cap := by
  have := h.len
  rwa [nums_len] at this

set_option maxRecDepth 100000 in
open Go.Deep Go.ChangeShapes Go.WideShapes Go.Joins in
/-- A list of texts that comes in. -/
theorem openStS {H : Type} {enc : TypeId × Value → H} {W : World} {a : Option Addr} {n c : Nat} {d : DataW H} {p : List MemPlace} (h : DataW.Trod enc Tryz.prog W 0 (fun _ => true) true 109 (.slice a n c) d p) :
    ∃ ss : List ByteArray, VS W (.slice a n c) (strs ss) ∧ ss.length = n ∧ n ≤ maxLen ∧ ∀ s ∈ ss, s.size ≤ maxLen := by
  obtain ⟨fuel, hf⟩ := h
  have c2 : Tryz.prog.cellsOf 9 = 1 := by kernel_rfl
  rcases open_slice Tryz.underlying109 hf with ⟨hcs, _⟩ | ⟨x, len, cap, m, k, D, Pl, hcs, _, hl, hm, hmm, _, hx⟩
  · simp [Value.cells] at hcs
    obtain ⟨rfl, rfl, rfl⟩ := hcs
    exact ⟨[], .inl ⟨_, _, rfl, rfl⟩, rfl, Nat.zero_le _, fun r hr => by cases hr⟩
  · simp [Value.cells] at hcs
    obtain ⟨rfl, rfl, rfl⟩ := hcs
    have hlm : n ≤ m := by rw [hmm]; simpa using hl
    have each : ∀ i, i < n → ∃ r : ByteArray, W.cell? (x.add i) = some (.string r) ∧ r.size ≤ maxLen := by
      intro i hi
      obtain ⟨cs', h1, h2⟩ := hx i (by omega)
      rw [c2, Nat.mul_one] at h1
      obtain ⟨_, hlen, hcell⟩ := World.cells?_some h1
      obtain ⟨x0, f0, _, w0⟩ := DataW.trod_string Tryz.underlying9 h2
      subst f0
      have e0 := hcell 0 (by omega)
      rw [add_add] at e0
      exact ⟨x0, by simpa using e0, w0⟩
    have hin : Inhabited ByteArray := ⟨ByteArray.empty⟩
    obtain ⟨q, hq⟩ := choose_lt each
    by_cases h0 : n = 0
    · subst h0
      exact ⟨[], .inl ⟨_, _, rfl, rfl⟩, rfl, Nat.zero_le _, fun r hr => by cases hr⟩
    · obtain ⟨b, off, spot⟩ := x
      have hs : spot = none := by simpa [Addr.add] using World.cell?_spot (hq 0 (by omega)).1
      subst hs
      have hlt : b < W.heap.size := by
        have := (hq 0 (by omega)).1
        rw [Addr.add_lit] at this
        by_cases hb : b < W.heap.size
        · exact hb
        · simp only [World.cell?] at this
          rw [Array.getElem?_eq_none (by omega)] at this
          cases this
      refine ⟨(List.range n).map q, .inr ⟨b, off, c, by simp [strs], hlt, by simpa [strs] using hl, fun k hk => ?_⟩, by simp, by omega, ?_⟩
      · have hk' : k < n := by simpa [strs] using hk
        have := (hq k hk').1
        simp only [Addr.add_lit] at this
        simpa [strs] using this
      · intro r hr
        obtain ⟨i, hi, rfl⟩ := List.mem_map.1 hr
        exact (hq i (List.mem_range.1 hi)).2

set_option maxRecDepth 100000 in
open Go.Deep Go.ChangeShapes Go.WideShapes Go.Joins in
/-- A list of numbers that comes in. -/
theorem openInS {H : Type} {enc : TypeId × Value → H} {W : World} {a : Option Addr} {n c : Nat} {d : DataW H} {p : List MemPlace} (h : DataW.Trod enc Tryz.prog W 0 (fun _ => true) true 24 (.slice a n c) d p) :
    ∃ zs : List Int, VS W (.slice a n c) (nums zs) ∧ zs.length = n ∧ n ≤ maxLen := by
  obtain ⟨fuel, hf⟩ := h
  have c2 : Tryz.prog.cellsOf 3 = 1 := by kernel_rfl
  rcases open_slice Tryz.underlying24 hf with ⟨hcs, _⟩ | ⟨x, len, cap, m, k, D, Pl, hcs, _, hl, hm, hmm, _, hx⟩
  · simp [Value.cells] at hcs
    obtain ⟨rfl, rfl, rfl⟩ := hcs
    exact ⟨[], .inl ⟨_, _, rfl, rfl⟩, rfl, Nat.zero_le _⟩
  · simp [Value.cells] at hcs
    obtain ⟨rfl, rfl, rfl⟩ := hcs
    have hlm : n ≤ m := by rw [hmm]; simpa using hl
    have each : ∀ i, i < n → ∃ r : Int, W.cell? (x.add i) = some (.int .i64 r) := by
      intro i hi
      obtain ⟨cs', h1, h2⟩ := hx i (by omega)
      rw [c2, Nat.mul_one] at h1
      obtain ⟨_, hlen, hcell⟩ := World.cells?_some h1
      obtain ⟨x0, f0, _, _⟩ := DataW.trod_int Tryz.underlying3 h2
      subst f0
      have e0 := hcell 0 (by omega)
      rw [add_add] at e0
      exact ⟨x0, by simpa using e0⟩
    obtain ⟨q, hq⟩ := choose_lt each
    by_cases h0 : n = 0
    · subst h0
      exact ⟨[], .inl ⟨_, _, rfl, rfl⟩, rfl, Nat.zero_le _⟩
    · obtain ⟨b, off, spot⟩ := x
      have hs : spot = none := by simpa [Addr.add] using World.cell?_spot (hq 0 (by omega))
      subst hs
      have hlt : b < W.heap.size := by
        have := hq 0 (by omega)
        rw [Addr.add_lit] at this
        by_cases hb : b < W.heap.size
        · exact hb
        · simp only [World.cell?] at this
          rw [Array.getElem?_eq_none (by omega)] at this
          cases this
      refine ⟨(List.range n).map q, .inr ⟨b, off, c, by simp [nums], hlt, by simpa [nums] using hl, fun k hk => ?_⟩, by simp, by omega⟩
      have hk' : k < n := by simpa [nums] using hk
      have := hq k hk'
      simp only [Addr.add_lit] at this
      simpa [nums] using this

theorem take_one {α : Type} (xs : List α) (k : Nat) (a : α) (h : k < xs.length) : (xs.set k a).take (k + 1) = xs.take k ++ [a] := by
  rw [List.take_succ_eq_append_getElem (by simpa using h), List.take_set_of_le (Nat.le_refl _)]
  simp
theorem below_drewn {w W : World} (h : Below w.heap.size w W) (n : Nat) : Below w.heap.size w (W.drewN n) :=
  h.trans ⟨rfl, rfl, rfl, Nat.le_refl _, fun _ _ => rfl⟩
theorem infoString : (Tryz.prog.info? 9).map (fun i => (i.zero, i.size, i.bytes)) = some (some (.string ByteArray.empty), 1, 16) := by kernel_rfl
theorem infoInt : (Tryz.prog.info? 3).map (fun i => (i.zero, i.size, i.bytes)) = some (some (.int .i64 0), 1, 8) := by kernel_rfl

/-- Two lists of texts are alike. -/
def ssTo (xs ys : List ByteArray) (k : Nat) : Bool := ((xs.zip ys).take k).all (fun q => q.1.toList == q.2.toList)
def ssS (xs ys : List ByteArray) : Bool := decide (xs.length = ys.length) && (xs.zip ys).all (fun q => q.1.toList == q.2.toList)
theorem ssTo_zero (xs ys : List ByteArray) : ssTo xs ys 0 = true := by simp [ssTo]
theorem ssTo_succ {xs ys : List ByteArray} {k : Nat} (h : k < xs.length) (h' : k < ys.length) : ssTo xs ys (k + 1) = (ssTo xs ys k && (xs[k].toList == ys[k].toList)) := by
  unfold ssTo
  rw [List.take_succ_eq_append_getElem (by rw [List.length_zip]; omega), List.all_append]
  simp
theorem ss_end {xs ys : List ByteArray} (h : xs.length = ys.length) : ssTo xs ys xs.length = ssS xs ys := by
  unfold ssTo ssS
  rw [List.take_of_length_le (by rw [List.length_zip]; omega), decide_eq_true h, Bool.true_and]
theorem ssS_refl (xs : List ByteArray) : ssS xs xs = true := by
  unfold ssS
  rw [decide_eq_true rfl, Bool.true_and, List.all_eq_true]
  intro x hx
  obtain ⟨i, hi, he⟩ := List.getElem_of_mem hx
  rw [List.getElem_zip] at he
  rw [← he]
  simp

/-- What is left of a budget behind a list of texts. -/
def tzTo (ss : List ByteArray) (n : Nat) : Nat := ((ss.take n).map ByteArray.size).sum
def tzAll (ss : List ByteArray) : Nat := ss.length + tzTo ss ss.length
theorem tzTo_zero (ss : List ByteArray) : tzTo ss 0 = 0 := by simp [tzTo]
theorem tzTo_succ {ss : List ByteArray} {n : Nat} (h : n < ss.length) : tzTo ss (n + 1) = tzTo ss n + ss[n].size := by
  unfold tzTo
  rw [List.take_succ_eq_append_getElem h, List.map_append, List.sum_append]
  simp
theorem tzTo_le (ss : List ByteArray) (n : Nat) : tzTo ss n ≤ tzTo ss ss.length := by
  unfold tzTo
  rw [List.take_length]
  conv => rhs; rw [← List.take_append_drop n ss, List.map_append, List.sum_append]
  omega
theorem tz_mem {ss : List ByteArray} {s : ByteArray} (h : s ∈ ss) : s.size ≤ tzTo ss ss.length := by
  unfold tzTo
  rw [List.take_length]
  exact sum_mem (List.mem_map.2 ⟨s, h, rfl⟩)
def leftT (n : Int) (ss : List ByteArray) : Int := if (tzAll ss : Int) ≤ n then n - tzAll ss else -1

def mkS (k n : Nat) : List ByteArray := (List.range n).map (fun i => mkT (k + i))
theorem mkS_len (k n : Nat) : (mkS k n).length = n := by simp [mkS]
theorem mkS_succ (k n : Nat) : mkS k (n + 1) = mkS k n ++ [mkT (k + n)] := by
  unfold mkS
  rw [List.range_succ, List.map_append]
  rfl
theorem mkS_at {k n i : Nat} (h : i < (mkS k n).length) : (mkS k n)[i] = mkT (k + i) := by simp [mkS]

end Go.Proofs.YtoaeckcenobfcaaGreat

namespace Go.Proofs
open Go.Shelf
def Tryz.lays106_ren : Go.Shelf.Ren := ⟨fun | 106 => 66 | 213 => 96 | 265 => 119 | n => n, fun | 9 => 9 | 3 => 3 | n => n, fun | n => n⟩
theorem Tryz.lays106 : Go.Proofs.Lays.n106 Tryz.prog Tryz.lays106_ren := {
  mixed := by kernel_rfl
  f106 := Tryz.func66.trans (congrArg some (by kernel_rfl))
  f213 := Tryz.func96.trans (congrArg some (by kernel_rfl))
  f265 := Tryz.func119.trans (congrArg some (by kernel_rfl))
  t3 := Tryz.underlying3
  a3 := Tryz.isAgg3
  z3 := Tryz.sizeOf3
  v3 := Tryz.zeroValue3
  t9 := Tryz.underlying9
  a9 := Tryz.isAgg9
  z9 := Tryz.sizeOf9
  v9 := Tryz.zeroValue9 }
def Tryz.lays107_ren : Go.Shelf.Ren := ⟨fun | 107 => 55 | 108 => 92 | n => n, fun | 28 => 24 | 3 => 3 | 4 => 4 | 0 => 0 | n => n, fun | n => n⟩
theorem Tryz.lays107 : Go.Proofs.Lays.n107 Tryz.prog Tryz.lays107_ren := {
  mixed := by kernel_rfl
  f107 := Tryz.func55.trans (congrArg some (by kernel_rfl))
  f108 := Tryz.func92.trans (congrArg some (by kernel_rfl))
  t0 := Tryz.underlying0
  a0 := Tryz.isAgg0
  z0 := Tryz.sizeOf0
  v0 := Tryz.zeroValue0
  t3 := Tryz.underlying3
  a3 := Tryz.isAgg3
  z3 := Tryz.sizeOf3
  v3 := Tryz.zeroValue3
  t4 := Tryz.underlying4
  a4 := Tryz.isAgg4
  z4 := Tryz.sizeOf4
  v4 := Tryz.zeroValue4
  t28 := Tryz.underlying24
  a28 := Tryz.isAgg24
  z28 := Tryz.sizeOf24
  v28 := Tryz.zeroValue24 }
def Tryz.lays111_ren : Go.Shelf.Ren := ⟨fun | 111 => 72 | n => n, fun | 28 => 24 | 3 => 3 | 4 => 4 | 0 => 0 | n => n, fun | n => n⟩
theorem Tryz.lays111 : Go.Proofs.Lays.n111 Tryz.prog Tryz.lays111_ren := {
  mixed := by kernel_rfl
  f111 := Tryz.func72.trans (congrArg some (by kernel_rfl))
  t0 := Tryz.underlying0
  a0 := Tryz.isAgg0
  z0 := Tryz.sizeOf0
  v0 := Tryz.zeroValue0
  t3 := Tryz.underlying3
  a3 := Tryz.isAgg3
  z3 := Tryz.sizeOf3
  v3 := Tryz.zeroValue3
  t4 := Tryz.underlying4
  a4 := Tryz.isAgg4
  z4 := Tryz.sizeOf4
  v4 := Tryz.zeroValue4
  t28 := Tryz.underlying24
  a28 := Tryz.isAgg24
  z28 := Tryz.sizeOf24
  v28 := Tryz.zeroValue24 }
def Tryz.lays189_ren : Go.Shelf.Ren := ⟨fun | 189 => 70 | 125 => 95 | 257 => 99 | 128 => 117 | 129 => 118 | 294 => 120 | 295 => 121 | 296 => 122 | 297 => 123 | 298 => 124 | 299 => 125 | 216 => 126 | 300 => 127 | 301 => 128 | 328 => 136 | 329 => 132 | 330 => 133 | 331 => 137 | 332 => 138 | 215 => 139 | 343 => 143 | n => n, fun | 28 => 24 | 3 => 3 | 46 => 124 | 0 => 0 | 51 => 149 | 53 => 53 | 4 => 4 | 183 => 142 | 182 => 141 | 131 => 146 | 5 => 5 | 9 => 9 | 218 => 159 | 222 => 163 | 228 => 170 | 229 => 171 | n => n, fun | n => n⟩
theorem Tryz.lays189 : Go.Proofs.Lays.n189 Tryz.prog Tryz.lays189_ren := {
  mixed := by kernel_rfl
  f125 := Tryz.func95.trans (congrArg some (by kernel_rfl))
  f128 := Tryz.func117.trans (congrArg some (by kernel_rfl))
  f129 := Tryz.func118.trans (congrArg some (by kernel_rfl))
  f189 := Tryz.func70.trans (congrArg some (by kernel_rfl))
  f215 := Tryz.func139.trans (congrArg some (by kernel_rfl))
  f216 := Tryz.func126.trans (congrArg some (by kernel_rfl))
  f257 := Tryz.func99.trans (congrArg some (by kernel_rfl))
  f294 := Tryz.func120.trans (congrArg some (by kernel_rfl))
  f295 := Tryz.func121.trans (congrArg some (by kernel_rfl))
  f296 := Tryz.func122.trans (congrArg some (by kernel_rfl))
  f297 := Tryz.func123.trans (congrArg some (by kernel_rfl))
  f298 := Tryz.func124.trans (congrArg some (by kernel_rfl))
  f299 := Tryz.func125.trans (congrArg some (by kernel_rfl))
  f300 := Tryz.func127.trans (congrArg some (by kernel_rfl))
  f301 := Tryz.func128.trans (congrArg some (by kernel_rfl))
  f328 := Tryz.func136.trans (congrArg some (by kernel_rfl))
  f329 := Tryz.func132.trans (congrArg some (by kernel_rfl))
  f330 := Tryz.func133.trans (congrArg some (by kernel_rfl))
  f331 := Tryz.func137.trans (congrArg some (by kernel_rfl))
  f332 := Tryz.func138.trans (congrArg some (by kernel_rfl))
  f343 := Tryz.func143.trans (congrArg some (by kernel_rfl))
  t0 := Tryz.underlying0
  a0 := Tryz.isAgg0
  z0 := Tryz.sizeOf0
  v0 := Tryz.zeroValue0
  t3 := Tryz.underlying3
  a3 := Tryz.isAgg3
  z3 := Tryz.sizeOf3
  v3 := Tryz.zeroValue3
  t4 := Tryz.underlying4
  a4 := Tryz.isAgg4
  z4 := Tryz.sizeOf4
  v4 := Tryz.zeroValue4
  t5 := Tryz.underlying5
  a5 := Tryz.isAgg5
  z5 := Tryz.sizeOf5
  v5 := Tryz.zeroValue5
  t9 := Tryz.underlying9
  a9 := Tryz.isAgg9
  z9 := Tryz.sizeOf9
  v9 := Tryz.zeroValue9
  t28 := Tryz.underlying24
  a28 := Tryz.isAgg24
  z28 := Tryz.sizeOf24
  v28 := Tryz.zeroValue24
  t46 := Tryz.underlying124
  a46 := Tryz.isAgg124
  z46 := Tryz.sizeOf124
  v46 := Tryz.zeroValue124
  t51 := Tryz.underlying149
  a51 := Tryz.isAgg149
  z51 := Tryz.sizeOf149
  v51 := Tryz.zeroValue149
  t53 := Tryz.underlying53
  a53 := Tryz.isAgg53
  z53 := Tryz.sizeOf53
  v53 := Tryz.zeroValue53
  t131 := Tryz.underlying146
  a131 := Tryz.isAgg146
  z131 := Tryz.sizeOf146
  v131 := Tryz.zeroValue146
  t182 := Tryz.underlying141
  a182 := Tryz.isAgg141
  z182 := Tryz.sizeOf141
  v182 := Tryz.zeroValue141
  t183 := Tryz.underlying142
  a183 := Tryz.isAgg142
  z183 := Tryz.sizeOf142
  v183 := Tryz.zeroValue142
  t218 := Tryz.underlying159
  a218 := Tryz.isAgg159
  z218 := Tryz.sizeOf159
  v218 := Tryz.zeroValue159
  t222 := Tryz.underlying163
  a222 := Tryz.isAgg163
  z222 := Tryz.sizeOf163
  v222 := Tryz.zeroValue163
  t228 := Tryz.underlying170
  a228 := Tryz.isAgg170
  z228 := Tryz.sizeOf170
  v228 := Tryz.zeroValue170
  t229 := Tryz.underlying171
  a229 := Tryz.isAgg171
  z229 := Tryz.sizeOf171
  v229 := Tryz.zeroValue171 }
def Tryz.lays20_ren : Go.Shelf.Ren := ⟨fun | 20 => 71 | n => n, fun | 22 => 24 | 3 => 3 | 4 => 4 | 0 => 0 | n => n, fun | n => n⟩
theorem Tryz.lays20 : Go.Proofs.Lays2.n20 Tryz.prog Tryz.lays20_ren := {
  mixed := by kernel_rfl
  f20 := Tryz.func71.trans (congrArg some (by kernel_rfl))
  t0 := Tryz.underlying0
  a0 := Tryz.isAgg0
  z0 := Tryz.sizeOf0
  v0 := Tryz.zeroValue0
  t3 := Tryz.underlying3
  a3 := Tryz.isAgg3
  z3 := Tryz.sizeOf3
  v3 := Tryz.zeroValue3
  t4 := Tryz.underlying4
  a4 := Tryz.isAgg4
  z4 := Tryz.sizeOf4
  v4 := Tryz.zeroValue4
  t22 := Tryz.underlying24
  a22 := Tryz.isAgg24
  z22 := Tryz.sizeOf24
  v22 := Tryz.zeroValue24
  i3 := by kernel_rfl }
def Tryz.contRu_ren : Go.Shelf.Ren := ⟨fun | 7 => 56 | 6 => 93 | n => n, fun | 22 => 23 | 24 => 41 | 4 => 4 | 0 => 0 | 3 => 3 | n => n, fun | n => n⟩
theorem Tryz.contRu : Go.Proofs.SlLaysQ.n7 Tryz.prog Tryz.contRu_ren := {
  mixed := by kernel_rfl
  f6 := ⟨Tryz.f93.name, by decide, Tryz.func93.trans (congrArg some (by kernel_rfl))⟩
  f7 := ⟨Tryz.f56.name, by decide, Tryz.func56.trans (congrArg some (by kernel_rfl))⟩
  t0 := Tryz.underlying0
  a0 := Tryz.isAgg0
  z0 := Tryz.sizeOf0
  v0 := Tryz.zeroValue0
  t3 := Tryz.underlying3
  a3 := Tryz.isAgg3
  z3 := Tryz.sizeOf3
  v3 := Tryz.zeroValue3
  t4 := Tryz.underlying4
  a4 := Tryz.isAgg4
  z4 := Tryz.sizeOf4
  v4 := Tryz.zeroValue4
  t22 := Tryz.underlying23
  a22 := Tryz.isAgg23
  z22 := Tryz.sizeOf23
  v22 := Tryz.zeroValue23 }
def Tryz.equalRu_ren : Go.Shelf.Ren := ⟨fun | 8 => 51 | n => n, fun | 22 => 23 | 24 => 41 | 4 => 4 | 3 => 3 | 0 => 0 | n => n, fun | n => n⟩
theorem Tryz.equalRu : Go.Proofs.SlLaysQ.n8 Tryz.prog Tryz.equalRu_ren := {
  mixed := by kernel_rfl
  f8 := ⟨Tryz.f51.name, by decide, Tryz.func51.trans (congrArg some (by kernel_rfl))⟩
  t0 := Tryz.underlying0
  a0 := Tryz.isAgg0
  z0 := Tryz.sizeOf0
  v0 := Tryz.zeroValue0
  t3 := Tryz.underlying3
  a3 := Tryz.isAgg3
  z3 := Tryz.sizeOf3
  v3 := Tryz.zeroValue3
  t4 := Tryz.underlying4
  a4 := Tryz.isAgg4
  z4 := Tryz.sizeOf4
  v4 := Tryz.zeroValue4
  t22 := Tryz.underlying23
  a22 := Tryz.isAgg23
  z22 := Tryz.sizeOf23
  v22 := Tryz.zeroValue23 }
def Tryz.sortRu_ren : Go.Shelf.Ren := ⟨fun | 6 => 64 | 15 => 95 | 14 => 94 | 28 => 117 | 29 => 118 | 20 => 109 | 21 => 110 | 22 => 111 | 23 => 112 | 24 => 113 | 25 => 114 | 26 => 115 | 27 => 116 | 46 => 131 | 47 => 132 | 48 => 133 | 49 => 134 | 50 => 135 | 57 => 142 | n => n, fun | 22 => 23 | 24 => 41 | 25 => 101 | 3 => 3 | 39 => 124 | 0 => 0 | 53 => 149 | 55 => 53 | 4 => 4 | 46 => 142 | 45 => 141 | 50 => 146 | 5 => 5 | 9 => 9 | 66 => 159 | 70 => 163 | 76 => 170 | 77 => 171 | n => n, fun | n => n⟩
theorem Tryz.sortRu : Go.Proofs.SlLaysF0.n6 Tryz.prog Tryz.sortRu_ren := {
  mixed := by kernel_rfl
  f6 := ⟨Tryz.f64.name, by decide, Tryz.func64.trans (congrArg some (by kernel_rfl))⟩
  f14 := ⟨Tryz.f94.name, by decide, Tryz.func94.trans (congrArg some (by kernel_rfl))⟩
  f15 := Tryz.func95.trans (congrArg some (by kernel_rfl))
  f20 := ⟨Tryz.f109.name, by decide, Tryz.func109.trans (congrArg some (by kernel_rfl))⟩
  f21 := ⟨Tryz.f110.name, by decide, Tryz.func110.trans (congrArg some (by kernel_rfl))⟩
  f22 := ⟨Tryz.f111.name, by decide, Tryz.func111.trans (congrArg some (by kernel_rfl))⟩
  f23 := ⟨Tryz.f112.name, by decide, Tryz.func112.trans (congrArg some (by kernel_rfl))⟩
  f24 := ⟨Tryz.f113.name, by decide, Tryz.func113.trans (congrArg some (by kernel_rfl))⟩
  f25 := ⟨Tryz.f114.name, by decide, Tryz.func114.trans (congrArg some (by kernel_rfl))⟩
  f26 := ⟨Tryz.f115.name, by decide, Tryz.func115.trans (congrArg some (by kernel_rfl))⟩
  f27 := ⟨Tryz.f116.name, by decide, Tryz.func116.trans (congrArg some (by kernel_rfl))⟩
  f28 := Tryz.func117.trans (congrArg some (by kernel_rfl))
  f29 := Tryz.func118.trans (congrArg some (by kernel_rfl))
  f46 := ⟨Tryz.f131.name, by decide, Tryz.func131.trans (congrArg some (by kernel_rfl))⟩
  f47 := Tryz.func132.trans (congrArg some (by kernel_rfl))
  f48 := Tryz.func133.trans (congrArg some (by kernel_rfl))
  f49 := ⟨Tryz.f134.name, by decide, Tryz.func134.trans (congrArg some (by kernel_rfl))⟩
  f50 := ⟨Tryz.f135.name, by decide, Tryz.func135.trans (congrArg some (by kernel_rfl))⟩
  f57 := ⟨Tryz.f142.name, by decide, Tryz.func142.trans (congrArg some (by kernel_rfl))⟩
  t0 := Tryz.underlying0
  a0 := Tryz.isAgg0
  z0 := Tryz.sizeOf0
  v0 := Tryz.zeroValue0
  t3 := Tryz.underlying3
  a3 := Tryz.isAgg3
  z3 := Tryz.sizeOf3
  v3 := Tryz.zeroValue3
  t4 := Tryz.underlying4
  a4 := Tryz.isAgg4
  z4 := Tryz.sizeOf4
  v4 := Tryz.zeroValue4
  t5 := Tryz.underlying5
  a5 := Tryz.isAgg5
  z5 := Tryz.sizeOf5
  v5 := Tryz.zeroValue5
  t9 := Tryz.underlying9
  a9 := Tryz.isAgg9
  z9 := Tryz.sizeOf9
  v9 := Tryz.zeroValue9
  t22 := Tryz.underlying23
  a22 := Tryz.isAgg23
  z22 := Tryz.sizeOf23
  v22 := Tryz.zeroValue23
  t25 := Tryz.underlying101
  a25 := Tryz.isAgg101
  z25 := Tryz.sizeOf101
  v25 := Tryz.zeroValue101
  t39 := Tryz.underlying124
  a39 := Tryz.isAgg124
  z39 := Tryz.sizeOf124
  v39 := Tryz.zeroValue124
  t45 := Tryz.underlying141
  a45 := Tryz.isAgg141
  z45 := Tryz.sizeOf141
  v45 := Tryz.zeroValue141
  t46 := Tryz.underlying142
  a46 := Tryz.isAgg142
  z46 := Tryz.sizeOf142
  v46 := Tryz.zeroValue142
  t50 := Tryz.underlying146
  a50 := Tryz.isAgg146
  z50 := Tryz.sizeOf146
  v50 := Tryz.zeroValue146
  t53 := Tryz.underlying149
  a53 := Tryz.isAgg149
  z53 := Tryz.sizeOf149
  v53 := Tryz.zeroValue149
  t55 := Tryz.underlying53
  a55 := Tryz.isAgg53
  z55 := Tryz.sizeOf53
  v55 := Tryz.zeroValue53
  t66 := Tryz.underlying159
  a66 := Tryz.isAgg159
  z66 := Tryz.sizeOf159
  v66 := Tryz.zeroValue159
  t70 := Tryz.underlying163
  a70 := Tryz.isAgg163
  z70 := Tryz.sizeOf163
  v70 := Tryz.zeroValue163
  t76 := Tryz.underlying170
  a76 := Tryz.isAgg170
  z76 := Tryz.sizeOf170
  v76 := Tryz.zeroValue170
  t77 := Tryz.underlying171
  a77 := Tryz.isAgg171
  z77 := Tryz.sizeOf171
  v77 := Tryz.zeroValue171 }
def Tryz.cloneRu_ren : Go.Shelf.Ren := ⟨fun | 41 => 63 | n => n, fun | 22 => 23 | 23 => 41 | 4 => 4 | n => n, fun | n => n⟩
theorem Tryz.cloneRu : Go.Proofs.SlLaysE0.n41 Tryz.prog Tryz.cloneRu_ren := {
  mixed := by kernel_rfl
  f41 := ⟨Tryz.f63.name, by decide, Tryz.func63.trans (congrArg some (by kernel_rfl))⟩
  t4 := Tryz.underlying4
  a4 := Tryz.isAgg4
  z4 := Tryz.sizeOf4
  v4 := Tryz.zeroValue4
  t22 := Tryz.underlying23
  a22 := Tryz.isAgg23
  z22 := Tryz.sizeOf23
  v22 := Tryz.zeroValue23 }
def Tryz.cloneIn_ren : Go.Shelf.Ren := ⟨fun | 41 => 84 | n => n, fun | 22 => 24 | 23 => 3 | 4 => 4 | n => n, fun | n => n⟩
theorem Tryz.cloneIn : Go.Proofs.SlLaysE0.n41 Tryz.prog Tryz.cloneIn_ren := {
  mixed := by kernel_rfl
  f41 := ⟨Tryz.f84.name, by decide, Tryz.func84.trans (congrArg some (by kernel_rfl))⟩
  t4 := Tryz.underlying4
  a4 := Tryz.isAgg4
  z4 := Tryz.sizeOf4
  v4 := Tryz.zeroValue4
  t22 := Tryz.underlying24
  a22 := Tryz.isAgg24
  z22 := Tryz.sizeOf24
  v22 := Tryz.zeroValue24 }
end Go.Proofs

namespace Go.Proofs.YtoaeckcenobfcaaGreat
open Go.RowKit Go.Shelf

def left1 (n : Int) (a : Nat) : Int := if (a : Int) ≤ n then n - a else -1

open Go.Deep Go.ChangeShapes Go.WideShapes Go.Joins in
theorem openStR {H : Type} {enc : TypeId × Value → H} {W : World} {c0 : Value} {d : DataW H × List MemPlace} {fuel : Nat} (hf : DataW.trod enc Tryz.prog W 0 (fun _ => true) true fuel 109 [c0] = some d) :
    ∃ (a : Option Addr) (n c : Nat) (ss : List ByteArray), c0 = .slice a n c ∧ VS W (.slice a n c) (strs ss) ∧ ss.length = n ∧ n ≤ maxLen ∧ ∀ s ∈ ss, s.size ≤ maxLen := by
  have hs : ∃ a n c, c0 = .slice a n c := by
    rcases open_slice Tryz.underlying109 hf with ⟨hcs, _⟩ | ⟨x, n, c, m, k, D, Pl, hcs, _⟩
    · simp at hcs; exact ⟨_, _, _, hcs⟩
    · simp at hcs; exact ⟨_, _, _, hcs⟩
  obtain ⟨a, n, c, rfl⟩ := hs
  obtain ⟨ss, h⟩ := openStS (a := a) (n := n) (c := c) (d := d.1) (p := d.2) ⟨fuel, hf⟩
  exact ⟨a, n, c, ss, rfl, h⟩
open Go.Deep Go.ChangeShapes Go.WideShapes Go.Joins in
theorem openInR {H : Type} {enc : TypeId × Value → H} {W : World} {c0 : Value} {d : DataW H × List MemPlace} {fuel : Nat} (hf : DataW.trod enc Tryz.prog W 0 (fun _ => true) true fuel 24 [c0] = some d) :
    ∃ (a : Option Addr) (n c : Nat) (zs : List Int), c0 = .slice a n c ∧ VS W (.slice a n c) (nums zs) ∧ zs.length = n ∧ n ≤ maxLen := by
  have hs : ∃ a n c, c0 = .slice a n c := by
    rcases open_slice Tryz.underlying24 hf with ⟨hcs, _⟩ | ⟨x, n, c, m, k, D, Pl, hcs, _⟩
    · simp at hcs; exact ⟨_, _, _, hcs⟩
    · simp at hcs; exact ⟨_, _, _, hcs⟩
  obtain ⟨a, n, c, rfl⟩ := hs
  obtain ⟨zs, h⟩ := openInS (a := a) (n := n) (c := c) (d := d.1) (p := d.2) ⟨fuel, hf⟩
  exact ⟨a, n, c, zs, rfl, h⟩

theorem take_set3 {α : Type} (xs : List α) (k : Nat) (a b c : α) (h : k * 3 + 3 ≤ xs.length) : (((xs.set (k * 3) a).set (k * 3 + 1) b).set (k * 3 + 2) c).take ((k + 1) * 3) = xs.take (k * 3) ++ [a, b, c] := by
  apply List.ext_getElem?
  intro i
  rw [List.getElem?_take]
  by_cases h1 : i < k * 3
  · rw [if_pos (by omega), List.getElem?_append_left (by rw [List.length_take]; omega), List.getElem?_take, if_pos h1]
    rw [List.getElem?_set_ne (by omega), List.getElem?_set_ne (by omega), List.getElem?_set_ne (by omega)]
  · by_cases h2 : i < (k + 1) * 3
    · rw [if_pos h2, List.getElem?_append_right (by rw [List.length_take]; omega)]
      have hl : (xs.take (k * 3)).length = k * 3 := by rw [List.length_take]; omega
      rw [hl]
      obtain h | h | h : i = k * 3 ∨ i = k * 3 + 1 ∨ i = k * 3 + 2 := by omega
      all_goals subst h
      · rw [List.getElem?_set_ne (by omega), List.getElem?_set_ne (by omega), List.getElem?_set_self (by omega)]
        simp
      · rw [List.getElem?_set_ne (by omega), List.getElem?_set_self (by simp; omega)]
        simp
      · rw [List.getElem?_set_self (by simp; omega)]
        simp
    · rw [if_neg h2, List.getElem?_eq_none (by rw [List.length_append, List.length_take]; simp; omega)]

/-- Four cells that are a block of their own. -/
def Four (w : World) (t : TypeId) (k : Nat) (a b c d : Value) : Prop := w.ownsRow k t 4 (.slice (some ⟨k, 0, none⟩) 1 1) 1 [a, b, c, d]
theorem Four.at (w : World) (a b c d : Value) (t : TypeId) {k : Nat} (hk : k = w.heap.size) : Four (w.alloc (.cells #[a, b, c, d] t)) t k a b c d := by
  subst hk
  exact ⟨rfl, .inr ⟨w.heap.size, 1, #[a, b, c, d], rfl, Nat.le_refl _, by show (w.heap.push _)[w.heap.size]? = _; rw [Array.getElem?_push_size], Nat.le_refl _, by unfold maxLen; omega, rfl, rfl⟩⟩
theorem Four.new (w : World) (a b c d : Value) (t : TypeId) : Four (w.alloc (.cells #[a, b, c, d] t)) t w.heap.size a b c d := Four.at w a b c d t rfl
theorem Four.below {w w' : World} {t : TypeId} {k : Nat} {a b c d : Value} (h : Four w t k a b c d) (hB : Below w.heap.size w w') : Four w' t k a b c d := ownsRow_below h hB
theorem Four.c {w : World} {t : TypeId} {k : Nat} {a b c d : Value} (h : Four w t k a b c d) : w.cell? ⟨k, 0, none⟩ = some a ∧ w.cell? ⟨k, 1, none⟩ = some b ∧ w.cell? ⟨k, 2, none⟩ = some c ∧ w.cell? ⟨k, 3, none⟩ = some d :=
  ⟨World.ownsRow.cellAt h 0 (by omega), World.ownsRow.cellAt h 1 (by omega), World.ownsRow.cellAt h 2 (by omega), World.ownsRow.cellAt h 3 (by omega)⟩
theorem Four.f {w : World} {t : TypeId} {k : Nat} {a b c d : Value} (h : Four w t k a b c d) (j : Nat) : w.frozen? ⟨k, j, none⟩ = false := World.ownsRow.frozenAt h j
theorem Four.s0 {w : World} {t : TypeId} {k : Nat} {a b c d : Value} (h : Four w t k a b c d) (x : Value) : Four (w.setCell ⟨k, 0, none⟩ x) t k x b c d := (World.ownsRow.stored h 0 x).1
theorem Four.s1 {w : World} {t : TypeId} {k : Nat} {a b c d : Value} (h : Four w t k a b c d) (x : Value) : Four (w.setCell ⟨k, 1, none⟩ x) t k a x c d := (World.ownsRow.stored h 1 x).1
theorem Four.s2 {w : World} {t : TypeId} {k : Nat} {a b c d : Value} (h : Four w t k a b c d) (x : Value) : Four (w.setCell ⟨k, 2, none⟩ x) t k a b x d := (World.ownsRow.stored h 2 x).1
theorem Four.s3 {w : World} {t : TypeId} {k : Nat} {a b c d : Value} (h : Four w t k a b c d) (x : Value) : Four (w.setCell ⟨k, 3, none⟩ x) t k a b c x := (World.ownsRow.stored h 3 x).1
theorem Four.other {w : World} {t : TypeId} {k : Nat} {a b c d : Value} (h : Four w t k a b c d) {k' : Nat} (hk : k ≠ k') (j : Nat) (x : Value) : Four (w.setCell ⟨k', j, none⟩ x) t k a b c d := ownsRow_setCell_other h (by simpa [Value.ownBlock] using hk) x
theorem Four.lt {w : World} {t : TypeId} {k : Nat} {a b c d : Value} (h : Four w t k a b c d) : k < w.heap.size := (World.ownsRow.lt h k rfl).2

theorem row_slice {w : World} {base : Nat} {e : TypeId} {size n : Nat} {v : Value} {xs : List Value} (h : w.ownsRow base e size v n xs) : ∃ a m c, v = .slice a m c := by
  rcases h.2 with ⟨h, _⟩ | ⟨g, cap, cur, hv, _⟩
  · exact ⟨_, _, _, h⟩
  · exact ⟨_, _, _, hv⟩

theorem row_four {w : World} {base : Nat} {e : TypeId} {size n : Nat} {v : Value} {xs : List Value} (h : w.ownsRow base e size v n xs) {k : Nat} (hk : k < base) (x0 x1 x2 x3 : Value) : ((((w.setCell ⟨k, 0, none⟩ x0).setCell ⟨k, 1, none⟩ x1).setCell ⟨k, 2, none⟩ x2).setCell ⟨k, 3, none⟩ x3).ownsRow base e size v n xs :=
  ownsRow_setCell_below (ownsRow_setCell_below (ownsRow_setCell_below (ownsRow_setCell_below h (a := ⟨k, 0, none⟩) hk x0) (a := ⟨k, 1, none⟩) hk x1) (a := ⟨k, 2, none⟩) hk x2) (a := ⟨k, 3, none⟩) hk x3
theorem below_four {n k : Nat} {w W : World} (h : Below n w W) (hk : n ≤ k) (x0 x1 x2 x3 : Value) : Below n w ((((W.setCell ⟨k, 0, none⟩ x0).setCell ⟨k, 1, none⟩ x1).setCell ⟨k, 2, none⟩ x2).setCell ⟨k, 3, none⟩ x3) :=
  (((h.setCell (p := ⟨k, 0, none⟩) hk x0).setCell (p := ⟨k, 1, none⟩) hk x1).setCell (p := ⟨k, 2, none⟩) hk x2).setCell (p := ⟨k, 3, none⟩) hk x3

def mkN (k n : Nat) : List Int := (List.range n).map (fun i => ((k + i : Nat) : Int))
theorem mkN_len (k n : Nat) : (mkN k n).length = n := by simp [mkN]
theorem mkN_succ (k n : Nat) : mkN k (n + 1) = mkN k n ++ [((k + n : Nat) : Int)] := by
  unfold mkN
  rw [List.range_succ, List.map_append]
  rfl
theorem mkN_at {k n i : Nat} (h : i < (mkN k n).length) : (mkN k n)[i] = ((k + i : Nat) : Int) := by simp [mkN]

/-- Only blocks from lo on, below hi, and new ones have turned. -/
structure Mid (lo hi : Nat) (w w' : World) : Prop where
  os : w'.os = w.os
  tape : w'.tape = w.tape
  output : w'.output = w.output
  size : w.heap.size ≤ w'.heap.size
  block : ∀ k, k < w.heap.size → (k < lo ∨ hi ≤ k) → w'.heap[k]? = w.heap[k]?
theorem Mid.trans {lo hi : Nat} {w w1 w2 : World} (h : Mid lo hi w w1) (h2 : Mid lo hi w1 w2) : Mid lo hi w w2 :=
  ⟨h2.os.trans h.os, h2.tape.trans h.tape, h2.output.trans h.output, Nat.le_trans h.size h2.size, fun k hk hn => (h2.block k (Nat.lt_of_lt_of_le hk h.size) hn).trans (h.block k hk hn)⟩
theorem Mid.of_below {lo hi : Nat} {w w1 : World} (h : Below w.heap.size w w1) : Mid lo hi w w1 :=
  ⟨h.os, h.tape, h.output, h.size, fun k hk _ => h.block k hk⟩
theorem Mid.of_grown {lo hi : Nat} {w w1 : World} {r : Option Nat} (h : w.grownBy w1 r) (hr : ∀ k, r = some k → lo ≤ k ∧ k < hi) : Mid lo hi w w1 :=
  ⟨h.os, h.tape, h.output, h.size, fun k hk hn => h.block k hk (fun e => by have := hr k e.symm; omega)⟩
theorem Mid.below {lo hi n : Nat} {w w1 : World} (h : Mid lo hi w w1) (hn : n ≤ lo) (hs : n ≤ w.heap.size) : Below n w w1 :=
  ⟨h.os, h.tape, h.output, h.size, fun k hk => h.block k (by omega) (.inl (by omega))⟩
theorem Mid.row {lo hi : Nat} {w w1 : World} (h : Mid lo hi w w1) {base : Nat} {e : TypeId} {size n : Nat} {v : Value} {xs : List Value} (hr : w.ownsRow base e size v n xs) (ho : ∀ k, v.ownBlock = some k → k < lo ∨ hi ≤ k) : w1.ownsRow base e size v n xs := by
  refine ⟨hr.1, ?_⟩
  rcases hr.2 with hv | ⟨g, cap, cur, rfl, hg, hb, h4⟩
  · exact .inl hv
  · exact .inr ⟨g, cap, cur, rfl, hg, (h.block g (Array.getElem?_eq_some_iff.1 hb).1 (ho g rfl)).trans hb, h4⟩

theorem Mid.four {lo hi : Nat} {w w1 : World} (h : Mid lo hi w w1) {t : TypeId} {k : Nat} {a b c d : Value} (hr : Four w t k a b c d) (ho : k < lo ∨ hi ≤ k) : Four w1 t k a b c d :=
  h.row hr (fun j hj => by simp [Value.ownBlock] at hj; omega)

theorem Mid.app {lo hi : Nat} {w w1 w2 : World} {r : Option Nat} (h : Mid lo hi w w1) (hg : w1.grownBy w2 r) (hr : ∀ k, r = some k → w.heap.size ≤ k) : Mid lo hi w w2 :=
  ⟨hg.os.trans h.os, hg.tape.trans h.tape, hg.output.trans h.output, Nat.le_trans h.size hg.size, fun k hk hn => (hg.block k (Nat.lt_of_lt_of_le hk h.size) (fun e => by have := hr k e.symm; omega)).trans (h.block k hk hn)⟩
theorem Mid.set {lo hi : Nat} {w w1 : World} (h : Mid lo hi w w1) {p : Addr} (hp : lo ≤ p.block) (hp2 : p.block < hi) (u : Value) : Mid lo hi w (w1.setCell p u) :=
  ⟨h.os, h.tape, h.output, by rw [World.size_setCell]; exact h.size, fun k hk hn => (Below.heap_setCell w1 p u k (by omega)).trans (h.block k hk hn)⟩
theorem row_kind {w : World} {B : Nat} {e : TypeId} {size : Nat} {v : Value} {n : Nat} {xs : List Value} (h : w.ownsRow B e size v n xs) : ∀ g, v.ownBlock = some g → ∃ c, w.heap[g]? = some (.cells c e (0, 0)) := by
  intro g hg
  rcases h.2 with ⟨rfl, _⟩ | ⟨g', cap, cur, rfl, _, hgg, _⟩
  · simp [Value.ownBlock] at hg
  · simp [Value.ownBlock] at hg
    subst hg
    exact ⟨cur, hgg⟩
/-- Rows of different kinds lie apart. -/
theorem row_apart {w : World} {b1 b2 : Nat} {e1 e2 : TypeId} {s1 s2 n1 n2 : Nat} {v1 v2 : Value} {x1 x2 : List Value} (h1 : w.ownsRow b1 e1 s1 v1 n1 x1) (h2 : w.ownsRow b2 e2 s2 v2 n2 x2) (hne : e1 ≠ e2) : ∀ k, v1.ownBlock = some k → v2.ownBlock = some k → False := fun k hk1 hk2 => by
  obtain ⟨c1, g1⟩ := row_kind h1 k hk1
  obtain ⟨c2, g2⟩ := row_kind h2 k hk2
  rw [g1] at g2
  injection g2 with g2
  injection g2 with _ g2 _
  exact hne g2

end Go.Proofs.YtoaeckcenobfcaaGreat

namespace Go.Proofs.YtoaeckcenobfcaaGreat
open Go.RowKit Go.Shelf

/-- 3 cells that are a block of their own. -/
def Three (w : World) (t : TypeId) (k : Nat) (a b c : Value) : Prop := w.ownsRow k t 3 (.slice (some ⟨k, 0, none⟩) 1 1) 1 [a, b, c]
theorem Three.at (w : World) (a b c : Value) (t : TypeId) {k : Nat} (hk : k = w.heap.size) : Three (w.alloc (.cells #[a, b, c] t)) t k a b c := by
  subst hk
  exact ⟨rfl, .inr ⟨w.heap.size, 1, #[a, b, c], rfl, Nat.le_refl _, by show (w.heap.push _)[w.heap.size]? = _; rw [Array.getElem?_push_size], Nat.le_refl _, by unfold maxLen; omega, rfl, rfl⟩⟩
theorem Three.new (w : World) (a b c : Value) (t : TypeId) : Three (w.alloc (.cells #[a, b, c] t)) t w.heap.size a b c := Three.at w a b c t rfl
theorem Three.below {w' : World} {w : World} {t : TypeId} {k : Nat} {a b c : Value} (h : Three w t k a b c) (hB : Below w.heap.size w w') : Three w' t k a b c := ownsRow_below h hB
theorem Three.c {w : World} {t : TypeId} {k : Nat} {a b c : Value} (h : Three w t k a b c) : w.cell? ⟨k, 0, none⟩ = some a ∧ w.cell? ⟨k, 1, none⟩ = some b ∧ w.cell? ⟨k, 2, none⟩ = some c :=
  ⟨World.ownsRow.cellAt h 0 (by omega), World.ownsRow.cellAt h 1 (by omega), World.ownsRow.cellAt h 2 (by omega)⟩
theorem Three.f {w : World} {t : TypeId} {k : Nat} {a b c : Value} (h : Three w t k a b c) (j : Nat) : w.frozen? ⟨k, j, none⟩ = false := World.ownsRow.frozenAt h j
theorem Three.s0 {w : World} {t : TypeId} {k : Nat} {a b c : Value} (h : Three w t k a b c) (x : Value) : Three (w.setCell ⟨k, 0, none⟩ x) t k x b c := (World.ownsRow.stored h 0 x).1
theorem Three.s1 {w : World} {t : TypeId} {k : Nat} {a b c : Value} (h : Three w t k a b c) (x : Value) : Three (w.setCell ⟨k, 1, none⟩ x) t k a x c := (World.ownsRow.stored h 1 x).1
theorem Three.s2 {w : World} {t : TypeId} {k : Nat} {a b c : Value} (h : Three w t k a b c) (x : Value) : Three (w.setCell ⟨k, 2, none⟩ x) t k a b x := (World.ownsRow.stored h 2 x).1
theorem Three.other {w : World} {t : TypeId} {k : Nat} {a b c : Value} (h : Three w t k a b c) {k' : Nat} (hk : k ≠ k') (j : Nat) (x : Value) : Three (w.setCell ⟨k', j, none⟩ x) t k a b c := ownsRow_setCell_other h (by simpa [Value.ownBlock] using hk) x
theorem Three.lt {w : World} {t : TypeId} {k : Nat} {a b c : Value} (h : Three w t k a b c) : k < w.heap.size := (World.ownsRow.lt h k rfl).2
theorem Mid.three {lo hi : Nat} {w1 : World} {w : World} {t : TypeId} {k : Nat} {a b c : Value} (h : Mid lo hi w w1) (hr : Three w t k a b c) (ho : k < lo ∨ hi ≤ k) : Three w1 t k a b c :=
  h.row hr (fun j hj => by simp [Value.ownBlock] at hj; omega)
theorem row_three {w : World} {base : Nat} {e : TypeId} {size n : Nat} {v : Value} {xs : List Value} (h : w.ownsRow base e size v n xs) {k : Nat} (hk : k < base) (x0 x1 x2 : Value) : (((w.setCell ⟨k, 0, none⟩ x0).setCell ⟨k, 1, none⟩ x1).setCell ⟨k, 2, none⟩ x2).ownsRow base e size v n xs :=
  (ownsRow_setCell_below (ownsRow_setCell_below (ownsRow_setCell_below h (a := ⟨k, 0, none⟩) hk x0) (a := ⟨k, 1, none⟩) hk x1) (a := ⟨k, 2, none⟩) hk x2)
theorem below_three {n k : Nat} {w W : World} (h : Below n w W) (hk : n ≤ k) (x0 x1 x2 : Value) : Below n w (((W.setCell ⟨k, 0, none⟩ x0).setCell ⟨k, 1, none⟩ x1).setCell ⟨k, 2, none⟩ x2) :=
  (((h.setCell (p := ⟨k, 0, none⟩) hk x0).setCell (p := ⟨k, 1, none⟩) hk x1).setCell (p := ⟨k, 2, none⟩) hk x2)

/-- 5 cells that are a block of their own. -/
def Five (w : World) (t : TypeId) (k : Nat) (a b c d e : Value) : Prop := w.ownsRow k t 5 (.slice (some ⟨k, 0, none⟩) 1 1) 1 [a, b, c, d, e]
theorem Five.at (w : World) (a b c d e : Value) (t : TypeId) {k : Nat} (hk : k = w.heap.size) : Five (w.alloc (.cells #[a, b, c, d, e] t)) t k a b c d e := by
  subst hk
  exact ⟨rfl, .inr ⟨w.heap.size, 1, #[a, b, c, d, e], rfl, Nat.le_refl _, by show (w.heap.push _)[w.heap.size]? = _; rw [Array.getElem?_push_size], Nat.le_refl _, by unfold maxLen; omega, rfl, rfl⟩⟩
theorem Five.new (w : World) (a b c d e : Value) (t : TypeId) : Five (w.alloc (.cells #[a, b, c, d, e] t)) t w.heap.size a b c d e := Five.at w a b c d e t rfl
theorem Five.below {w' : World} {w : World} {t : TypeId} {k : Nat} {a b c d e : Value} (h : Five w t k a b c d e) (hB : Below w.heap.size w w') : Five w' t k a b c d e := ownsRow_below h hB
theorem Five.c {w : World} {t : TypeId} {k : Nat} {a b c d e : Value} (h : Five w t k a b c d e) : w.cell? ⟨k, 0, none⟩ = some a ∧ w.cell? ⟨k, 1, none⟩ = some b ∧ w.cell? ⟨k, 2, none⟩ = some c ∧ w.cell? ⟨k, 3, none⟩ = some d ∧ w.cell? ⟨k, 4, none⟩ = some e :=
  ⟨World.ownsRow.cellAt h 0 (by omega), World.ownsRow.cellAt h 1 (by omega), World.ownsRow.cellAt h 2 (by omega), World.ownsRow.cellAt h 3 (by omega), World.ownsRow.cellAt h 4 (by omega)⟩
theorem Five.f {w : World} {t : TypeId} {k : Nat} {a b c d e : Value} (h : Five w t k a b c d e) (j : Nat) : w.frozen? ⟨k, j, none⟩ = false := World.ownsRow.frozenAt h j
theorem Five.s0 {w : World} {t : TypeId} {k : Nat} {a b c d e : Value} (h : Five w t k a b c d e) (x : Value) : Five (w.setCell ⟨k, 0, none⟩ x) t k x b c d e := (World.ownsRow.stored h 0 x).1
theorem Five.s1 {w : World} {t : TypeId} {k : Nat} {a b c d e : Value} (h : Five w t k a b c d e) (x : Value) : Five (w.setCell ⟨k, 1, none⟩ x) t k a x c d e := (World.ownsRow.stored h 1 x).1
theorem Five.s2 {w : World} {t : TypeId} {k : Nat} {a b c d e : Value} (h : Five w t k a b c d e) (x : Value) : Five (w.setCell ⟨k, 2, none⟩ x) t k a b x d e := (World.ownsRow.stored h 2 x).1
theorem Five.s3 {w : World} {t : TypeId} {k : Nat} {a b c d e : Value} (h : Five w t k a b c d e) (x : Value) : Five (w.setCell ⟨k, 3, none⟩ x) t k a b c x e := (World.ownsRow.stored h 3 x).1
theorem Five.s4 {w : World} {t : TypeId} {k : Nat} {a b c d e : Value} (h : Five w t k a b c d e) (x : Value) : Five (w.setCell ⟨k, 4, none⟩ x) t k a b c d x := (World.ownsRow.stored h 4 x).1
theorem Five.other {w : World} {t : TypeId} {k : Nat} {a b c d e : Value} (h : Five w t k a b c d e) {k' : Nat} (hk : k ≠ k') (j : Nat) (x : Value) : Five (w.setCell ⟨k', j, none⟩ x) t k a b c d e := ownsRow_setCell_other h (by simpa [Value.ownBlock] using hk) x
theorem Five.lt {w : World} {t : TypeId} {k : Nat} {a b c d e : Value} (h : Five w t k a b c d e) : k < w.heap.size := (World.ownsRow.lt h k rfl).2
theorem Mid.five {lo hi : Nat} {w1 : World} {w : World} {t : TypeId} {k : Nat} {a b c d e : Value} (h : Mid lo hi w w1) (hr : Five w t k a b c d e) (ho : k < lo ∨ hi ≤ k) : Five w1 t k a b c d e :=
  h.row hr (fun j hj => by simp [Value.ownBlock] at hj; omega)
theorem row_five {w : World} {base : Nat} {e : TypeId} {size n : Nat} {v : Value} {xs : List Value} (h : w.ownsRow base e size v n xs) {k : Nat} (hk : k < base) (x0 x1 x2 x3 x4 : Value) : (((((w.setCell ⟨k, 0, none⟩ x0).setCell ⟨k, 1, none⟩ x1).setCell ⟨k, 2, none⟩ x2).setCell ⟨k, 3, none⟩ x3).setCell ⟨k, 4, none⟩ x4).ownsRow base e size v n xs :=
  (ownsRow_setCell_below (ownsRow_setCell_below (ownsRow_setCell_below (ownsRow_setCell_below (ownsRow_setCell_below h (a := ⟨k, 0, none⟩) hk x0) (a := ⟨k, 1, none⟩) hk x1) (a := ⟨k, 2, none⟩) hk x2) (a := ⟨k, 3, none⟩) hk x3) (a := ⟨k, 4, none⟩) hk x4)
theorem below_five {n k : Nat} {w W : World} (h : Below n w W) (hk : n ≤ k) (x0 x1 x2 x3 x4 : Value) : Below n w (((((W.setCell ⟨k, 0, none⟩ x0).setCell ⟨k, 1, none⟩ x1).setCell ⟨k, 2, none⟩ x2).setCell ⟨k, 3, none⟩ x3).setCell ⟨k, 4, none⟩ x4) :=
  (((((h.setCell (p := ⟨k, 0, none⟩) hk x0).setCell (p := ⟨k, 1, none⟩) hk x1).setCell (p := ⟨k, 2, none⟩) hk x2).setCell (p := ⟨k, 3, none⟩) hk x3).setCell (p := ⟨k, 4, none⟩) hk x4)

end Go.Proofs.YtoaeckcenobfcaaGreat

namespace Go.Proofs.YtoaeckcenobfcaaGreat
open Go.RowKit Go.Shelf Go.WideMaps Go.Maps

/-- The methods that a rule may have, as the program's map holds them. -/
abbrev one1 : DataW Unit := .lit (.int .i64 1)
def kD : DataW Unit := (((DataW.map []).put (.string [103, 101, 116]) one1).put (.string [112, 117, 116]) one1).put (.string [42]) one1
def rmB (s : ByteArray) : Bool := mthB s || starB s
theorem key_str (l : List UInt8) : WideAt.IsKeyLit (.string l) := by trivial
theorem ne_str {a b : List UInt8} (h : a ≠ b) : Lit.string a ≠ .string b := fun e => h (by injection e)
theorem kD_yes {s : ByteArray} (h : rmB s = true) : kD.atKey (.string s.data.toList) (.lit (.int .i64 0)) = .lit (.int .i64 1) := by
  unfold kD
  by_cases h3 : s.data.toList = [42]
  · rw [h3]; exact atKey_put_same ((isMap_empty.put _ _).put _ _) (key_str _) _ _
  · rw [atKey_put_other (ne_str h3)]
    by_cases h2 : s.data.toList = [112, 117, 116]
    · rw [h2]; exact atKey_put_same (isMap_empty.put _ _) (key_str _) _ _
    · rw [atKey_put_other (ne_str h2)]
      by_cases h1 : s.data.toList = [103, 101, 116]
      · rw [h1]; exact atKey_put_same isMap_empty (key_str _) _ _
      · simp [rmB, mthB, getB, putB, starB, toList_data, h1, h2, h3] at h
theorem kD_no {s : ByteArray} (h : rmB s = false) : kD.atKey (.string s.data.toList) (.lit (.int .i64 0)) = .lit (.int .i64 0) := by
  simp [rmB, mthB, getB, putB, starB, toList_data] at h
  obtain ⟨⟨h1, h2⟩, h3⟩ := h
  unfold kD
  rw [atKey_put_other (ne_str h3), atKey_put_other (ne_str h2), atKey_put_other (ne_str h1)]
  rfl

theorem lawStr : Keyed Tryz.prog 9 := string_keyed Tryz.underlying9
theorem zeroInt (w : World) : (zeroValue 3).run Tryz.prog w = .ok (.int .i64 0) w := by kernel_rfl
theorem good_eq (r : Ru) : r.good = ((rmB r.method && nmB (split r.who 47)) && ptBs r.path) := by
  unfold Ru.good rmB
  cases nmB (split r.who 47) <;> cases ptBs r.path <;> cases (mthB r.method || starB r.method) <;> rfl

def rmI (s : ByteArray) : Int := if rmB s = true then 1 else 0

set_option maxRecDepth 10000 in
/-- The map that GoodRule tells as a literal: laid entry by entry, and asked. -/
theorem known_map (W : World) : ∃ w1 w2 w3 : World,
    (Instr.mapUpdate 136 (.map (some W.heap.size)) (.string ⟨#[103, 101, 116]⟩) (.int .i64 1)).run Tryz.prog (W.alloc (.map #[] 0)) = .ok () w1 ∧
    (Instr.mapUpdate 136 (.map (some W.heap.size)) (.string ⟨#[112, 117, 116]⟩) (.int .i64 1)).run Tryz.prog w1 = .ok () w2 ∧
    (Instr.mapUpdate 136 (.map (some W.heap.size)) (.string ⟨#[42]⟩) (.int .i64 1)).run Tryz.prog w2 = .ok () w3 ∧
    (∀ s : ByteArray, s.size ≤ maxLen → (Instr.lookup 136 (.map (some W.heap.size)) (.string s) false).run Tryz.prog w3 = .ok (.int .i64 (rmI s)) w3) ∧
    Below W.heap.size W w3 := by
  have hk : ∀ s : ByteArray, s.size ≤ maxLen → keyOf Tryz.prog 9 (.string s) = some (.string s.data.toList) := fun s h => keyOf_string_mk Tryz.underlying9 h
  have hv : plainElem (H := Unit) Tryz.prog 3 (.int .i64 1) = some (one1, []) := plainElem_int Tryz.underlying3 (by decide)
  have h0 := World.ownsMap_made W Tryz.prog 9 (plainElem (H := Unit) Tryz.prog 3)
  obtain ⟨w1, e1, o1, g1⟩ := h0.update lawStr Tryz.underlying136 (by decide) (hk ⟨#[103, 101, 116]⟩ (by decide)) hv
  obtain ⟨w2, e2, o2, g2⟩ := o1.update lawStr Tryz.underlying136 (by decide) (hk ⟨#[112, 117, 116]⟩ (by decide)) hv
  obtain ⟨w3, e3, o3, g3⟩ := o2.update lawStr Tryz.underlying136 (by decide) (hk ⟨#[42]⟩ (by decide)) hv
  have b0 : Below W.heap.size W (W.alloc (.map #[] 0)) := (Below.refl _ W).alloc (Nat.le_refl _) _
  have b1 := b0.grown g1 b0.size (fun j hj => by cases hj; exact Nat.le_refl _)
  have b2 := b1.grown g2 b1.size (fun j hj => by cases hj; exact Nat.le_refl _)
  have b3 := b2.grown g3 b2.size (fun j hj => by cases hj; exact Nat.le_refl _)
  refine ⟨w1, w2, w3, e1, e2, e3, fun s hs => ?_, b3⟩
  obtain ⟨c, hrun, hat, _⟩ := o3.lookup_int lawStr Tryz.underlying136 Tryz.underlying3 (zeroInt _) (hk s hs)
  have hat' : kD.atKey (.string s.data.toList) (.lit (.int .i64 0)) = .lit (.int .i64 c) := hat
  rw [hrun]
  unfold rmI
  cases hb : rmB s
  · rw [kD_no hb] at hat'
    injection hat' with h1
    injection h1 with _ h2
    rw [← h2]
    rfl
  · rw [kD_yes hb] at hat'
    injection hat' with h1
    injection h1 with _ h2
    rw [← h2]
    rfl

set_option maxHeartbeats 1000000 in
theorem implGoodRule_any (r : Ru) (w : World) (hs : r.size ≤ 1048576) :
    Calls Tryz.prog 85 #[r.val] w fun e w' => e = .returned (.bool r.good) ∧ Below w.heap.size w w' := by
  have hmm := @run_makeMap Tryz.prog
  have hw : r.who.size ≤ 1048576 := by unfold Ru.size at hs; omega
  have hp : r.path.size ≤ 1048576 := by unfold Ru.size at hs; omega
  have hm : r.method.size ≤ maxLen := by unfold Ru.size at hs; unfold maxLen; omega
  obtain ⟨w1, w2, w3, e1, e2, e3, hlk, hB⟩ := known_map (w.alloc (.cells #[.bool r.deny, .string r.who, .string r.method, .string r.path] 41))
  have hz : (w.alloc (.cells #[.bool r.deny, .string r.who, .string r.method, .string r.path] 41)).heap.size = w.heap.size + 1 := by simp
  rw [hz] at e1 e2 e3 hlk hB
  replace hlk := hlk r.method hm
  have q1 : w3.cell? ⟨w.heap.size, 1, none⟩ = some (.string r.who) := (hB.cell (p := ⟨w.heap.size, 1, none⟩) (by simp)).trans (by simp)
  have q2 : w3.cell? ⟨w.heap.size, 2, none⟩ = some (.string r.method) := (hB.cell (p := ⟨w.heap.size, 2, none⟩) (by simp)).trans (by simp)
  have q3 : w3.cell? ⟨w.heap.size, 3, none⟩ = some (.string r.path) := (hB.cell (p := ⟨w.heap.size, 3, none⟩) (by simp)).trans (by simp)
  have hz3 : w.heap.size < w3.heap.size := by have := hB.size; omega
  have hB0 : Below w.heap.size w w3 := ((Below.refl _ w).alloc (Nat.le_refl _) _).trans (hB.mono (by omega))
  clear hB hz
  cases h1 : rmB r.method
  · have HR := hid (show r.good = false by rw [good_eq, h1]; rfl)
    rw [show rmI r.method = 0 by unfold rmI; rw [h1]; rfl] at hlk
    go_enter Tryz.func85, Tryz.ntmps85
    go_wp2
    go_ret
    exact ⟨ret_bool HR.out.symm, hB0⟩
  · rw [show rmI r.method = 1 by unfold rmI; rw [h1]; rfl] at hlk
    cases h2 : nmB (split r.who 47)
    · have HR := hid (show r.good = false by rw [good_eq, h1, h2]; rfl)
      go_enter Tryz.func85, Tryz.ntmps85
      go_wp2_with fail
      refine (implGoodNamePattern_any _ _ hw).mono ?_
      rintro e w4 ⟨rfl, hB4⟩
      rw [h2]
      have hBB := below_one hB0 hB4
      go_wp2_with fail
      go_ret
      exact ⟨ret_bool HR.out.symm, hBB⟩
    · have HR := hid (show r.good = ptBs r.path by rw [good_eq, h1, h2]; rfl)
      go_enter Tryz.func85, Tryz.ntmps85
      go_wp2_with fail
      refine (implGoodNamePattern_any _ _ hw).mono ?_
      rintro e w4 ⟨rfl, hB4⟩
      rw [h2]
      have hBB := below_one hB0 hB4
      have q4 := (hB4.cell (p := ⟨w.heap.size, 3, none⟩) hz3).trans q3
      clear hB4
      go_wp2_with fail
      refine (implGoodPathPattern_any _ _ hp).mono ?_
      rintro e w5 ⟨rfl, hB5⟩
      go_wp2_with fail
      go_ret
      exact ⟨ret_bool HR.out.symm, below_one hBB hB5⟩

end Go.Proofs.YtoaeckcenobfcaaGreat

namespace Go.Proofs.YtoaeckcenobfcaaGreat
open Go.RowKit Go.Shelf

theorem cgood_eq (c : Ca) : c.good = ((mthB c.method && gnB (split c.who 47)) && gpB c.path) := by
  unfold Ca.good
  cases gnB (split c.who 47) <;> cases gpB c.path <;> cases mthB c.method <;> rfl

abbrev Ru.obj (r : Ru) : Obj := .cells #[.bool r.deny, .string r.who, .string r.method, .string r.path] 41

set_option maxHeartbeats 400000 in
theorem voiceOfA_any (a b c : ByteArray) (w : World) :
    Calls Tryz.prog 97 #[.agg #[.bool false, .string a, .string b, .string c]] w fun e w' => e = .returned (.iface 152 (.agg #[.bool false, .string a, .string b, .string c])) ∧ w' = w.alloc (.cells #[.bool false, .string a, .string b, .string c] 41) := by
  go_enter Tryz.func97, Tryz.ntmps97
  go_wp2
  go_ret
  exact ⟨rfl, rfl⟩

set_option maxHeartbeats 400000 in
theorem voiceOfD_any (a b c : ByteArray) (w : World) :
    Calls Tryz.prog 97 #[.agg #[.bool true, .string a, .string b, .string c]] w fun e w' => e = .returned (.iface 151 (.agg #[.bool true, .string a, .string b, .string c])) ∧ w' = w.alloc (.cells #[.bool true, .string a, .string b, .string c] 41) := by
  go_enter Tryz.func97, Tryz.ntmps97
  go_wp2
  go_ret
  exact ⟨rfl, rfl⟩

theorem methVerbA (v : Value) (w : World) : (method 291 152 v "loop.example/g00167/impl.verb").run Tryz.prog w = .ok (169, v) w := by kernel_rfl

set_option maxHeartbeats 400000 in
/-- (Asked by function 67 alone.) -/
theorem verbA_any (a b c : ByteArray) (w : World) :
    Calls Tryz.prog 169 #[.agg #[.bool false, .string a, .string b, .string c]] w fun e w' => e = .returned (.string ⟨#[97, 108, 108, 111, 119]⟩) ∧ w' = w.alloc (.cells #[.bool false, .string a, .string b, .string c] 152) := by
  go_enter Tryz.func169, Tryz.ntmps169
  go_wp2
  go_ret
  exact ⟨rfl, rfl⟩

theorem methVerbD (v : Value) (w : World) : (method 291 151 v "loop.example/g00167/impl.verb").run Tryz.prog w = .ok (165, v) w := by kernel_rfl

set_option maxHeartbeats 400000 in
/-- (Asked by function 67 alone.) -/
theorem verbD_any (a b c : ByteArray) (w : World) :
    Calls Tryz.prog 165 #[.agg #[.bool true, .string a, .string b, .string c]] w fun e w' => e = .returned (.string ⟨#[100, 101, 110, 121]⟩) ∧ w' = w.alloc (.cells #[.bool true, .string a, .string b, .string c] 151) := by
  go_enter Tryz.func165, Tryz.ntmps165
  go_wp2
  go_ret
  exact ⟨rfl, rfl⟩

set_option maxHeartbeats 1000000 in
theorem textOfRuleA_any (a b c : ByteArray) (w : World) (hs : a.size + b.size + c.size ≤ 1048576) :
    Calls Tryz.prog 67 #[.agg #[.bool false, .string a, .string b, .string c]] w fun e w' => e = .returned (.string (Ru.text ⟨false, a, b, c⟩)) ∧ Below w.heap.size w w' ∧ w.drawn ≤ w'.drawn := by
  have q0 : (w.alloc (.cells #[.bool false, .string a, .string b, .string c] 41)).cell? ⟨w.heap.size, 0, none⟩ = some (.bool false) := by simp
  have q1 : (w.alloc (.cells #[.bool false, .string a, .string b, .string c] 41)).cell? ⟨w.heap.size, 1, none⟩ = some (.string a) := by simp
  have q2 : (w.alloc (.cells #[.bool false, .string a, .string b, .string c] 41)).cell? ⟨w.heap.size, 2, none⟩ = some (.string b) := by simp
  have q3 : (w.alloc (.cells #[.bool false, .string a, .string b, .string c] 41)).cell? ⟨w.heap.size, 3, none⟩ = some (.string c) := by simp
  have hB : Below w.heap.size w (w.alloc (.cells #[.bool false, .string a, .string b, .string c] 41)) := (Below.refl _ w).alloc (Nat.le_refl _) _
  have hD := hid (show (w.alloc (.cells #[.bool false, .string a, .string b, .string c] 41)).drawn = w.drawn from rfl)
  have HT := hid (show (⟨#[97, 108, 108, 111, 119]⟩ : ByteArray) ++ ⟨#[32]⟩ ++ a ++ ⟨#[32]⟩ ++ b ++ ⟨#[32]⟩ ++ c = Ru.text ⟨false, a, b, c⟩ by
    unfold Ru.text
    rw [show (⟨#[97, 108, 108, 111, 119]⟩ : ByteArray) ++ ⟨#[32]⟩ = ⟨#[97, 108, 108, 111, 119, 32]⟩ from rfl]
    rfl)
  have hm := methVerbA
  have g1 : ¬9223372036854775807 < 6 + a.size := by omega
  have g2 : ¬9223372036854775807 < 6 + a.size + 1 := by omega
  have g3 : ¬9223372036854775807 < 6 + a.size + 1 + b.size := by omega
  have g4 : ¬9223372036854775807 < 6 + a.size + 1 + b.size + 1 := by omega
  have g5 : ¬9223372036854775807 < 6 + a.size + 1 + b.size + 1 + c.size := by omega
  go_enter Tryz.func67, Tryz.ntmps67
  go_wp2_with fail
  generalize (w.alloc (.cells #[.bool false, .string a, .string b, .string c] 41)) = W at *
  go_region_held3 (fun w' => w'.cell? ⟨w.heap.size, 0, none⟩ = some (.bool false) ∧ w'.cell? ⟨w.heap.size, 1, none⟩ = some (.string a) ∧ w'.cell? ⟨w.heap.size, 2, none⟩ = some (.string b) ∧ w'.cell? ⟨w.heap.size, 3, none⟩ = some (.string c)) (go_keep) (first | (go_at_call 97; refine (voiceOfA_any a b c _).mono ?_; rintro e w1 ⟨rfl, rfl⟩) | (go_at_call 169; refine (verbA_any a b c _).mono ?_; rintro e w1 ⟨rfl, rfl⟩))
  all_goals go_wp2
  all_goals go_ret
  all_goals exact ⟨ret_str HT.out, ((hB.alloc hB.size _).alloc (by have := hB.size; simp; omega) _).drew, by have h := hD.out; show w.drawn ≤ W.drawn + 1; omega⟩

set_option maxHeartbeats 1000000 in
theorem textOfRuleD_any (a b c : ByteArray) (w : World) (hs : a.size + b.size + c.size ≤ 1048576) :
    Calls Tryz.prog 67 #[.agg #[.bool true, .string a, .string b, .string c]] w fun e w' => e = .returned (.string (Ru.text ⟨true, a, b, c⟩)) ∧ Below w.heap.size w w' ∧ w.drawn ≤ w'.drawn := by
  have q0 : (w.alloc (.cells #[.bool true, .string a, .string b, .string c] 41)).cell? ⟨w.heap.size, 0, none⟩ = some (.bool true) := by simp
  have q1 : (w.alloc (.cells #[.bool true, .string a, .string b, .string c] 41)).cell? ⟨w.heap.size, 1, none⟩ = some (.string a) := by simp
  have q2 : (w.alloc (.cells #[.bool true, .string a, .string b, .string c] 41)).cell? ⟨w.heap.size, 2, none⟩ = some (.string b) := by simp
  have q3 : (w.alloc (.cells #[.bool true, .string a, .string b, .string c] 41)).cell? ⟨w.heap.size, 3, none⟩ = some (.string c) := by simp
  have hB : Below w.heap.size w (w.alloc (.cells #[.bool true, .string a, .string b, .string c] 41)) := (Below.refl _ w).alloc (Nat.le_refl _) _
  have hD := hid (show (w.alloc (.cells #[.bool true, .string a, .string b, .string c] 41)).drawn = w.drawn from rfl)
  have HT := hid (show (⟨#[100, 101, 110, 121]⟩ : ByteArray) ++ ⟨#[32]⟩ ++ a ++ ⟨#[32]⟩ ++ b ++ ⟨#[32]⟩ ++ c = Ru.text ⟨true, a, b, c⟩ by
    unfold Ru.text
    rw [show (⟨#[100, 101, 110, 121]⟩ : ByteArray) ++ ⟨#[32]⟩ = ⟨#[100, 101, 110, 121, 32]⟩ from rfl]
    rfl)
  have hm := methVerbD
  have g1 : ¬9223372036854775807 < 5 + a.size := by omega
  have g2 : ¬9223372036854775807 < 5 + a.size + 1 := by omega
  have g3 : ¬9223372036854775807 < 5 + a.size + 1 + b.size := by omega
  have g4 : ¬9223372036854775807 < 5 + a.size + 1 + b.size + 1 := by omega
  have g5 : ¬9223372036854775807 < 5 + a.size + 1 + b.size + 1 + c.size := by omega
  go_enter Tryz.func67, Tryz.ntmps67
  go_wp2_with fail
  generalize (w.alloc (.cells #[.bool true, .string a, .string b, .string c] 41)) = W at *
  go_region_held3 (fun w' => w'.cell? ⟨w.heap.size, 0, none⟩ = some (.bool true) ∧ w'.cell? ⟨w.heap.size, 1, none⟩ = some (.string a) ∧ w'.cell? ⟨w.heap.size, 2, none⟩ = some (.string b) ∧ w'.cell? ⟨w.heap.size, 3, none⟩ = some (.string c)) (go_keep) (first | (go_at_call 97; refine (voiceOfD_any a b c _).mono ?_; rintro e w1 ⟨rfl, rfl⟩) | (go_at_call 165; refine (verbD_any a b c _).mono ?_; rintro e w1 ⟨rfl, rfl⟩))
  all_goals go_wp2
  all_goals go_ret
  all_goals exact ⟨ret_str HT.out, ((hB.alloc hB.size _).alloc (by have := hB.size; simp; omega) _).drew, by have h := hD.out; show w.drawn ≤ W.drawn + 1; omega⟩

theorem textOfRule_any (r : Ru) (w : World) (hs : r.size ≤ 1048576) :
    Calls Tryz.prog 67 #[r.val] w fun e w' => e = .returned (.string r.text) ∧ Below w.heap.size w w' ∧ w.drawn ≤ w'.drawn := by
  obtain ⟨d, a, b, c⟩ := r
  cases d
  · exact textOfRuleA_any a b c w hs
  · exact textOfRuleD_any a b c w hs

end Go.Proofs.YtoaeckcenobfcaaGreat

namespace Go.Proofs.YtoaeckcenobfcaaGreat

/-- Where the byte stands first. -/
def fI (s : ByteArray) (b : UInt8) : Option Nat := s.data.toList.findIdx? (fun x => x == b)
theorem fI_lt {s : ByteArray} {b : UInt8} {i : Nat} (h : fI s b = some i) : i < s.size := by
  unfold fI at h
  have := List.findIdx?_eq_some_iff_getElem.1 h
  obtain ⟨h1, _⟩ := this
  simpa using h1
theorem fI_at {s : ByteArray} {b : UInt8} {i : Nat} (h : fI s b = some i) : s[i]'(fI_lt h) = b := by
  have := List.findIdx?_eq_some_iff_getElem.1 h
  obtain ⟨h1, h2, _⟩ := this
  simp at h2
  exact h2
theorem fI_ahead {s : ByteArray} {b : UInt8} {i : Nat} (h : fI s b = some i) (j : Nat) (hj : j < i) (hs : j < s.size) : s[j] ≠ b := by
  have := List.findIdx?_eq_some_iff_getElem.1 h
  obtain ⟨h1, _, h3⟩ := this
  have := h3 j hj
  simp at this
  exact this
theorem fI_none {s : ByteArray} {b : UInt8} (h : fI s b = none) (j : Nat) (hs : j < s.size) : s[j] ≠ b := by
  unfold fI at h
  rw [List.findIdx?_eq_none_iff] at h
  intro e
  have := h s[j] (by
    have : s.data.toList[j]'(by simpa using hs) = s[j] := by simp; rfl
    rw [← this]
    exact List.getElem_mem _)
  rw [e] at this
  simp at this
theorem idx_fI : ∀ (l : List UInt8) (b : UInt8), Lib.indexByte l b = match l.findIdx? (fun x => x == b) with
    | some i => (i : Int)
    | none => -1
  | [], _ => rfl
  | x :: l, b => by
    have ih := idx_fI l b
    unfold Lib.indexByte
    rw [List.findIdx?_cons]
    by_cases hx : (x == b) = true
    · simp [hx]
    · rw [if_neg hx, if_neg hx]
      cases h : l.findIdx? (fun x => x == b) with
      | none => rw [h] at ih; rw [ih]; rfl
      | some i =>
        rw [h] at ih
        rw [ih]
        have : ((i : Int) == -1) = false := by
          rw [beq_eq_false_iff_ne]
          omega
        simp [this]
theorem index_some {s : ByteArray} {b : UInt8} {i : Nat} (h : fI s b = some i) : Lib.indexByte s.data.toList b = i := by
  unfold fI at h
  rw [idx_fI, h]
theorem index_none {s : ByteArray} {b : UInt8} (h : fI s b = none) : Lib.indexByte s.data.toList b = -1 := by
  unfold fI at h
  rw [idx_fI, h]
theorem sp_none (s : ByteArray) (b : UInt8) : ∀ i, i ≤ s.size → (∀ j (_ : j < i) (hs : j < s.size), s[j] ≠ b) → spP s b i = ([], 0)
  | 0, _, _ => rfl
  | i + 1, hi, h => by
    rw [sp_miss s b i (by omega) (h i (by omega) (by omega))]
    exact sp_none s b i (by omega) (fun j hj hs => h j (by omega) hs)
theorem split_none {s : ByteArray} {b : UInt8} (h : fI s b = none) : split s b = [s] := by
  have := sp_none s b s.size (Nat.le_refl _) (fun j _ hs => fI_none h j hs)
  rw [split_end]
  unfold spL spA
  rw [this]
  simp
theorem sp_shift {s : ByteArray} {b : UInt8} {i : Nat} (h : fI s b = some i) : ∀ k, k ≤ (s.extract (i + 1) s.size).size + 1 →
    spP s b (i + 1 + k) = (s.extract 0 i :: (spP (s.extract (i + 1) s.size) b k).1, i + 1 + (spP (s.extract (i + 1) s.size) b k).2)
  | 0, _ => by
    have h0 := sp_none s b i (Nat.le_of_lt (fI_lt h)) (fun j hj hs => fI_ahead h j hj hs)
    have hl := spL_hit s b i (fI_lt h) (fI_at h)
    have ha := spA_hit s b i (fI_lt h) (fI_at h)
    unfold spL spA at hl ha
    rw [h0] at hl
    refine Prod.ext ?_ ?_
    · rw [Nat.add_zero, hl]; rfl
    · rw [Nat.add_zero, ha]; rfl
  | k + 1, hk => by
    have ih := sp_shift h k (by omega)
    have hlt := fI_lt h
    have hsz : (s.extract (i + 1) s.size).size = s.size - (i + 1) := by rw [ByteArray.size_extract]; omega
    have hc : (i + 1 + k = s.size ∨ s.data.toList[i + 1 + k]? = some b) ↔ (k = (s.extract (i + 1) s.size).size ∨ (s.extract (i + 1) s.size).data.toList[k]? = some b) := by
      have e : (s.extract (i + 1) s.size).data.toList[k]? = s.data.toList[i + 1 + k]? := by
        rw [ByteArray.data_extract, Array.toList_extract, List.extract_eq_take_drop, List.getElem?_take]
        rw [hsz] at hk
        by_cases hks : k < s.size - (i + 1)
        · rw [if_pos hks, List.getElem?_drop]
        · rw [if_neg hks, List.getElem?_eq_none (by simp; omega)]
      rw [e, hsz]
      constructor
      · rintro (e | e)
        · exact .inl (by omega)
        · exact .inr e
      · rintro (e | e)
        · exact .inl (by omega)
        · exact .inr e
    rw [show i + 1 + (k + 1) = (i + 1 + k) + 1 from rfl, spP, spP]
    by_cases hh : k = (s.extract (i + 1) s.size).size ∨ (s.extract (i + 1) s.size).data.toList[k]? = some b
    · rw [if_pos hh, if_pos (hc.2 hh), ih]
      refine Prod.ext ?_ rfl
      have hx : s.extract (i + 1 + (spP (s.extract (i + 1) s.size) b k).2) (i + 1 + k) = (s.extract (i + 1) s.size).extract (spP (s.extract (i + 1) s.size) b k).2 k := by
        rw [ByteArray.extract_extract]
        congr 1
        omega
      simp only [hx, List.cons_append]
    · rw [if_neg hh, if_neg (fun h' => hh (hc.1 h')), ih]
theorem split_some {s : ByteArray} {b : UInt8} {i : Nat} (h : fI s b = some i) : split s b = s.extract 0 i :: split (s.extract (i + 1) s.size) b := by
  have hlt := fI_lt h
  have hsz : (s.extract (i + 1) s.size).size = s.size - (i + 1) := by rw [ByteArray.size_extract]; omega
  have := sp_shift h ((s.extract (i + 1) s.size).size + 1) (Nat.le_refl _)
  rw [show i + 1 + ((s.extract (i + 1) s.size).size + 1) = s.size + 1 by omega] at this
  unfold split spL
  rw [this]
/-- The part ahead, the part behind, and whether the byte is there. -/
def cutA (s : ByteArray) (b : UInt8) : ByteArray := match fI s b with
  | some i => s.extract 0 i
  | none => s
def cutB (s : ByteArray) (b : UInt8) : ByteArray := match fI s b with
  | some i => s.extract (i + 1) s.size
  | none => ⟨#[]⟩
def cutF (s : ByteArray) (b : UInt8) : Bool := (fI s b).isSome
theorem cut_some {s : ByteArray} {b : UInt8} {i : Nat} (h : fI s b = some i) : cutA s b = s.extract 0 i ∧ cutB s b = s.extract (i + 1) s.size ∧ cutF s b = true := by
  unfold cutA cutB cutF
  rw [h]
  exact ⟨rfl, rfl, rfl⟩
theorem cut_none {s : ByteArray} {b : UInt8} (h : fI s b = none) : cutA s b = s ∧ cutB s b = ⟨#[]⟩ ∧ cutF s b = false := by
  unfold cutA cutB cutF
  rw [h]
  exact ⟨rfl, rfl, rfl⟩
theorem split_head (s : ByteArray) (b : UInt8) : ∃ r, split s b = cutA s b :: r := by
  cases h : fI s b with
  | none => exact ⟨[], by rw [split_none h, (cut_none h).1]⟩
  | some i => exact ⟨_, by rw [split_some h, (cut_some h).1]⟩
theorem data_parts (s : ByteArray) (i : Nat) (h : i < s.size) : s.data.toList = (s.extract 0 i).data.toList ++ s[i] :: (s.extract (i + 1) s.size).data.toList := by
  have h0 : i < s.data.toList.length := by simpa using h
  have h1 : (s.extract 0 i).data.toList = s.data.toList.take i := by
    rw [ByteArray.data_extract, Array.toList_extract, List.extract_eq_take_drop]
    simp
  have h2 : (s.extract (i + 1) s.size).data.toList = s.data.toList.drop (i + 1) := by
    rw [ByteArray.data_extract, Array.toList_extract, List.extract_eq_take_drop]
    rw [List.take_of_length_le (by simp)]
  have h3 : s[i] = s.data.toList[i] := by simp; rfl
  rw [h1, h2, h3, ← List.drop_eq_getElem_cons h0, List.take_append_drop]

end Go.Proofs.YtoaeckcenobfcaaGreat

namespace Go.Proofs.YtoaeckcenobfcaaGreat

/-! The order of bytes. -/
theorem bl_cmp : ∀ a b : List UInt8, decide (Lib.compareBytes a b < 0) = Op.bytesLess a b
  | [], [] => rfl
  | [], _ :: _ => rfl
  | _ :: _, [] => rfl
  | x :: a, y :: b => by
    have ih := bl_cmp a b
    unfold Lib.compareBytes Op.bytesLess
    by_cases h1 : x < y
    · simp [h1]
    · by_cases h2 : y < x
      · have h3 : (x == y) = false := by
          rw [beq_eq_false_iff_ne]
          intro e
          subst e
          exact h1 h2
        simp [h1, h2, h3]
      · have h3 : x = y := UInt8.le_antisymm (UInt8.not_lt.1 h2) (UInt8.not_lt.1 h1)
        subst h3
        simp only [h1, if_false, ih]
        simp
theorem bl_irrefl : ∀ a : List UInt8, Op.bytesLess a a = false
  | [] => rfl
  | x :: a => by
    unfold Op.bytesLess
    simp [bl_irrefl a]
theorem bl_trans : ∀ a b c : List UInt8, Op.bytesLess a b = true → Op.bytesLess b c = true → Op.bytesLess a c = true
  | _, _, [], _, h2 => by simp [Op.bytesLess] at h2
  | _, [], _ :: _, h1, _ => by simp [Op.bytesLess] at h1
  | [], _ :: _, _ :: _, _, _ => rfl
  | x :: a, y :: b, z :: c, h1, h2 => by
    unfold Op.bytesLess at h1 h2 ⊢
    simp only [Bool.or_eq_true, decide_eq_true_eq, Bool.and_eq_true, beq_iff_eq] at h1 h2 ⊢
    rcases h1 with h1 | ⟨rfl, h1⟩
    · rcases h2 with h2 | ⟨rfl, h2⟩
      · exact .inl (UInt8.lt_trans h1 h2)
      · exact .inl h1
    · rcases h2 with h2 | ⟨rfl, h2⟩
      · exact .inl h2
      · exact .inr ⟨rfl, bl_trans a b c h1 h2⟩
theorem bl_total : ∀ a b : List UInt8, Op.bytesLess a b = false → Op.bytesLess b a = false → a = b
  | [], [], _, _ => rfl
  | [], _ :: _, h, _ => by simp [Op.bytesLess] at h
  | _ :: _, [], _, h => by simp [Op.bytesLess] at h
  | x :: a, y :: b, h1, h2 => by
    unfold Op.bytesLess at h1 h2
    simp only [Bool.or_eq_false_iff, decide_eq_false_iff_not, Bool.and_eq_false_iff, beq_eq_false_iff_ne] at h1 h2
    have e : x = y := UInt8.le_antisymm (UInt8.not_lt.1 h2.1) (UInt8.not_lt.1 h1.1)
    subst e
    have h3 : Op.bytesLess a b = false := by
      rcases h1.2 with h | h
      · exact absurd rfl h
      · exact h
    have h4 : Op.bytesLess b a = false := by
      rcases h2.2 with h | h
      · exact absurd rfl h
      · exact h
    rw [bl_total a b h3 h4]
theorem bl_asym {a b : List UInt8} (h : Op.bytesLess a b = true) : Op.bytesLess b a = false := by
  cases h2 : Op.bytesLess b a
  · rfl
  · have := bl_trans a b a h h2
    rw [bl_irrefl] at this
    cases this
theorem bl_ntrans {a b c : List UInt8} (h1 : Op.bytesLess a b = false) (h2 : Op.bytesLess b c = false) : Op.bytesLess a c = false := by
  cases h3 : Op.bytesLess a c
  · rfl
  · cases h4 : Op.bytesLess b a
    · have e := bl_total a b h1 h4
      subst e
      rw [h2] at h3
      cases h3
    · have := bl_trans b a c h4 h3
      rw [h2] at this
      cases this
/-- a ≤ b < c. -/
theorem bl_le_lt {a b c : List UInt8} (h1 : Op.bytesLess b a = false) (h2 : Op.bytesLess b c = true) : Op.bytesLess a c = true := by
  cases h3 : Op.bytesLess a c
  · have := bl_ntrans h1 h3
    rw [h2] at this
    cases this
  · rfl

/-! No blank in the parts of a good rule; texts tell good rules apart. -/
def nosp (s : ByteArray) : Prop := (32 : UInt8) ∉ s.data.toList
theorem nosp_ws {x : ByteArray} (h : wsB x = true) : nosp x := by
  unfold nosp
  unfold wsB at h
  rw [Bool.or_eq_true] at h
  rcases h with h | h
  · have h1 : x.data.toList = [42] := by simpa [starB, toList_data] using h
    rw [h1]
    decide
  · unfold wordB wordTo at h
    rw [Bool.and_eq_true] at h
    intro hm
    have h2 := h.1
    rw [List.take_of_length_le (by simp)] at h2
    have := List.all_eq_true.1 h2 32 hm
    revert this
    decide
theorem nosp_star2 {x : ByteArray} (h : star2B x = true) : nosp x := by
  have h1 : x.data.toList = [42, 42] := by simpa [star2B, toList_data] using h
  unfold nosp
  rw [h1]
  decide
theorem nosp_split : ∀ (n : Nat) (s : ByteArray), s.size ≤ n → (∀ x ∈ split s 47, nosp x) → nosp s := by
  intro n
  induction n with
  | zero =>
    intro s hs h
    have : s.data.toList = [] := List.eq_nil_of_length_eq_zero (by rw [show s.data.toList.length = s.size by simp]; omega)
    unfold nosp
    rw [this]
    exact List.not_mem_nil
  | succ n ih =>
    intro s hs h
    cases hf : fI s 47 with
    | none =>
      rw [split_none hf] at h
      exact h s (by simp)
    | some i =>
      rw [split_some hf] at h
      have hlt := fI_lt hf
      have h1 := h _ (List.mem_cons_self)
      have h2 := ih (s.extract (i + 1) s.size) (by rw [ByteArray.size_extract]; omega) (fun x hx => h x (List.mem_cons_of_mem _ hx))
      unfold nosp at *
      rw [data_parts s i hlt, fI_at hf, List.mem_append, List.mem_cons]
      rintro (h3 | h3 | h3)
      · exact h1 h3
      · revert h3
        decide
      · exact h2 h3
theorem nosp_pt : ∀ l : List ByteArray, ptOk l = true → ∀ x ∈ l, nosp x
  | [], _, x, hx => by cases hx
  | y :: r, h, x, hx => by
    unfold ptOk at h
    split at h
    · rename_i h2
      have hr : r = [] := by simpa using h
      subst hr
      rw [List.mem_singleton] at hx
      subst hx
      exact nosp_star2 h2
    · rw [Bool.and_eq_true] at h
      rw [List.mem_cons] at hx
      rcases hx with rfl | hx
      · exact nosp_ws h.1
      · exact nosp_pt r h.2 x hx
theorem nosp_path {s : ByteArray} (h : ptBs s = true) : nosp s := by
  cases h0 : slashB s
  · cases h1 : headB s
    · have hp : pathPs s = none := by
        unfold pathPs
        rw [h0, h1]
        rfl
      unfold ptBs at h
      rw [hp] at h
      cases h
    · unfold ptBs at h
      rw [pathPs_head h0 h1] at h
      simp only [ptB_eq, Bool.and_eq_true] at h
      have h2 := nosp_split _ (s.extract 1 s.size) (Nat.le_refl _) (nosp_pt _ h.1)
      have hs : 0 < s.size := by
        rcases Nat.eq_zero_or_pos s.size with hz | hz
        · have : s.data.toList = [] := List.eq_nil_of_length_eq_zero (by rw [show s.data.toList.length = s.size by simp]; omega)
          unfold headB at h1
          rw [this] at h1
          cases h1
        · exact hz
      have hd := data_parts s 0 hs
      have h4 : (s.extract 0 0).data.toList = [] := by
        rw [ByteArray.data_extract, Array.toList_extract, List.extract_eq_take_drop]
        simp
      rw [h4, List.nil_append] at hd
      unfold headB at h1
      rw [hd] at h1
      have h5 : s[0] = 47 := by simpa using h1
      unfold nosp at *
      rw [hd, h5, List.mem_cons]
      rintro (h6 | h6)
      · revert h6
        decide
      · exact h2 h6
  · have h1 : s.data.toList = [47] := by simpa [slashB, toList_data] using h0
    unfold nosp
    rw [h1]
    decide
theorem nosp_name {s : ByteArray} (h : nmB (split s 47) = true) : nosp s := by
  rw [nmB_eq, Bool.and_eq_true, List.all_eq_true] at h
  exact nosp_split _ s (Nat.le_refl _) (fun x hx => nosp_ws (h.2 x hx))
theorem nosp_method {s : ByteArray} (h : (mthB s || starB s) = true) : nosp s := by
  unfold mthB getB putB starB at h
  rw [toList_data] at h
  simp only [Bool.or_eq_true, beq_iff_eq] at h
  unfold nosp
  rcases h with (h | h) | h
  all_goals rw [h]; decide
theorem cut_blank : ∀ a a' b b' : List UInt8, (32 : UInt8) ∉ a → (32 : UInt8) ∉ a' → a ++ 32 :: b = a' ++ 32 :: b' → a = a' ∧ b = b'
  | [], [], b, b', _, _, h => by simpa using h
  | [], y :: a', b, b', _, h2, h => by
    simp only [List.nil_append, List.cons_append, List.cons.injEq] at h
    exact absurd (by rw [h.1]; exact List.mem_cons_self) h2
  | x :: a, [], b, b', h1, _, h => by
    simp only [List.nil_append, List.cons_append, List.cons.injEq] at h
    exact absurd (by rw [h.1]; exact List.mem_cons_self) h1
  | x :: a, y :: a', b, b', h1, h2, h => by
    simp only [List.cons_append, List.cons.injEq] at h
    obtain ⟨e1, e2⟩ := cut_blank a a' b b' (fun hm => h1 (List.mem_cons_of_mem _ hm)) (fun hm => h2 (List.mem_cons_of_mem _ hm)) h.2
    exact ⟨by rw [h.1, e1], e2⟩
theorem text_list (r : Ru) : r.text.data.toList = (if r.deny = true then [100, 101, 110, 121] else [97, 108, 108, 111, 119]) ++ 32 :: (r.who.data.toList ++ 32 :: (r.method.data.toList ++ 32 :: r.path.data.toList)) := by
  unfold Ru.text
  cases r.deny <;> simp [ByteArray.data_append]
theorem bytes_eq {a b : ByteArray} (h : a.data.toList = b.data.toList) : a = b := by
  apply ByteArray.ext
  exact Array.toList_inj.1 h
theorem text_inj {r s : Ru} (hr : r.good = true) (hs : s.good = true) (h : r.text.data.toList = s.text.data.toList) : r = s := by
  unfold Ru.good at hr hs
  simp only [Bool.and_eq_true] at hr hs
  rw [text_list, text_list] at h
  obtain ⟨h1, h2⟩ := cut_blank _ _ _ _ (by cases r.deny <;> decide) (by cases s.deny <;> decide) h
  obtain ⟨h3, h4⟩ := cut_blank _ _ _ _ (nosp_name hr.1.1) (nosp_name hs.1.1) h2
  obtain ⟨h5, h6⟩ := cut_blank _ _ _ _ (nosp_method hr.2) (nosp_method hs.2) h4
  have hd : r.deny = s.deny := by
    cases h7 : r.deny <;> cases h8 : s.deny <;> first | rfl | (rw [h7, h8] at h1; simp at h1)
  obtain ⟨d, a, b, c⟩ := r
  obtain ⟨d', a', b', c'⟩ := s
  simp only at h3 h5 h6 hd
  rw [bytes_eq h3, bytes_eq h5, bytes_eq h6, hd]


/-! Lists in the order of texts. -/
def ltR (x y : Ru) : Bool := Op.bytesLess x.text.data.toList y.text.data.toList
def SS (l : List Ru) : Prop := l.Pairwise (fun x y => ltR x y = true)
theorem same_eq {x y : Ru} (h : x.same y = true) : x = y := by
  unfold Ru.same eqB at h
  simp only [Bool.and_eq_true, beq_iff_eq, toList_data] at h
  obtain ⟨d, a, b, c⟩ := x
  obtain ⟨d', a', b', c'⟩ := y
  simp only at h
  rw [h.1.1.1, bytes_eq h.1.1.2, bytes_eq h.1.2, bytes_eq h.2]
theorem ss_unique : ∀ l l' : List Ru, SS l → SS l' → (∀ y, y ∈ l ↔ y ∈ l') → l = l'
  | [], [], _, _, _ => rfl
  | [], y :: _, _, _, h => by have := (h y).2 List.mem_cons_self; cases this
  | x :: _, [], _, _, h => by have := (h x).1 List.mem_cons_self; cases this
  | x :: xs, y :: ys, h1, h2, h => by
    unfold SS at h1 h2
    rw [List.pairwise_cons] at h1 h2
    have hxy : x = y := by
      have a1 := (h x).1 List.mem_cons_self
      have a2 := (h y).2 List.mem_cons_self
      rw [List.mem_cons] at a1 a2
      rcases a1 with a1 | a1
      · exact a1
      · rcases a2 with a2 | a2
        · exact a2.symm
        · have b1 := h2.1 x a1
          have b2 := h1.1 y a2
          unfold ltR at b1 b2
          rw [bl_asym b2] at b1
          cases b1
    subst hxy
    have ht : ∀ z, z ∈ xs ↔ z ∈ ys := fun z => by
      constructor
      · intro hz
        have := (h z).1 (List.mem_cons_of_mem _ hz)
        rw [List.mem_cons] at this
        rcases this with rfl | this
        · have := h1.1 z hz
          unfold ltR at this
          rw [bl_irrefl] at this
          cases this
        · exact this
      · intro hz
        have := (h z).2 (List.mem_cons_of_mem _ hz)
        rw [List.mem_cons] at this
        rcases this with rfl | this
        · have := h2.1 z hz
          unfold ltR at this
          rw [bl_irrefl] at this
          cases this
        · exact this
    rw [ss_unique xs ys h1.2 h2.2 ht]
/-- A rule laid in where it belongs, once. -/
def insU (r : Ru) : List Ru → List Ru
  | [] => [r]
  | x :: xs => if ltR x r = true then x :: insU r xs else if x.same r = true then x :: xs else r :: x :: xs
theorem insU_mem (r : Ru) : ∀ (l : List Ru) (y : Ru), y ∈ insU r l ↔ y = r ∨ y ∈ l
  | [], y => by simp [insU]
  | x :: xs, y => by
    unfold insU
    split
    · rw [List.mem_cons, insU_mem r xs y, List.mem_cons]
      constructor
      · rintro (h | h | h)
        · exact .inr (.inl h)
        · exact .inl h
        · exact .inr (.inr h)
      · rintro (h | h | h)
        · exact .inr (.inl h)
        · exact .inl h
        · exact .inr (.inr h)
    · split
      · rename_i h2
        have := same_eq h2
        subst this
        simp
      · simp
theorem insU_ss {r : Ru} (hr : r.good = true) : ∀ l : List Ru, (∀ x ∈ l, x.good = true) → SS l → SS (insU r l)
  | [], _, _ => by simp [insU, SS]
  | x :: xs, hg, h => by
    unfold SS at h
    rw [List.pairwise_cons] at h
    unfold insU
    split
    · rename_i h1
      unfold SS
      rw [List.pairwise_cons]
      refine ⟨fun y hy => ?_, insU_ss hr xs (fun z hz => hg z (List.mem_cons_of_mem _ hz)) h.2⟩
      rw [insU_mem] at hy
      rcases hy with rfl | hy
      · exact h1
      · exact h.1 y hy
    · rename_i h1
      split
      · unfold SS
        rw [List.pairwise_cons]
        exact h
      · rename_i h2
        have hrx : ltR r x = true := by
          cases h3 : ltR r x
          · unfold ltR at h1 h3
            have h4 : Op.bytesLess x.text.data.toList r.text.data.toList = false := by simpa using h1
            have := text_inj (hg x List.mem_cons_self) hr (bl_total _ _ h4 h3)
            subst this
            exact absurd (Ru.same_refl x) h2
          · rfl
        unfold SS
        rw [List.pairwise_cons, List.pairwise_cons]
        refine ⟨fun y hy => ?_, h⟩
        rw [List.mem_cons] at hy
        rcases hy with rfl | hy
        · exact hrx
        · exact bl_trans _ _ _ hrx (h.1 y hy)
def plTo (rs : List Ru) (k : Nat) : List Ru := (rs.take k).foldl (fun o r => insU r o) []
theorem plTo_succ {rs : List Ru} {k : Nat} (h : k < rs.length) : plTo rs (k + 1) = insU rs[k] (plTo rs k) := by
  unfold plTo
  rw [List.take_succ_eq_append_getElem h, List.foldl_append]
  rfl
theorem plTo_mem {rs : List Ru} : ∀ k, k ≤ rs.length → ∀ y, y ∈ plTo rs k ↔ y ∈ rs.take k
  | 0, _, y => by simp [plTo]
  | k + 1, hk, y => by
    rw [plTo_succ (by omega), insU_mem, plTo_mem k (by omega) y, List.take_succ_eq_append_getElem (by omega), List.mem_append, List.mem_singleton]
    exact Or.comm
theorem plTo_ss {rs : List Ru} (hg : ∀ r ∈ rs, r.good = true) : ∀ k, k ≤ rs.length → SS (plTo rs k)
  | 0, _ => by simp [plTo, SS]
  | k + 1, hk => by
    rw [plTo_succ (by omega)]
    exact insU_ss (hg _ (List.getElem_mem _)) _ (fun x hx => hg x (List.mem_of_mem_take ((plTo_mem k (by omega) x).1 hx))) (plTo_ss hg k (by omega))
/-- What stays of a list when of neighbours alike the first stays. -/
def kpB (rs : List Ru) (i : Nat) : Bool := match i, rs[i]?, rs[i - 1]? with
  | 0, _, _ => true
  | _ + 1, some x, some y => !(x.same y)
  | _ + 1, _, _ => true
def cpTo (rs : List Ru) : Nat → List Ru
  | 0 => []
  | m + 1 => if kpB rs m = true then cpTo rs m ++ rs[m]?.toList else cpTo rs m
theorem kpB_succ {rs : List Ru} {i : Nat} (h : i + 1 < rs.length) : kpB rs (i + 1) = !(rs[i + 1].same rs[i]) := by
  unfold kpB
  simp only [Nat.add_sub_cancel]
  rw [List.getElem?_eq_getElem h, List.getElem?_eq_getElem (by omega)]
theorem cpTo_yes {rs : List Ru} {m : Nat} (h : m < rs.length) (hk : kpB rs m = true) : cpTo rs (m + 1) = cpTo rs m ++ [rs[m]] := by
  rw [cpTo, if_pos hk, List.getElem?_eq_getElem h]
  rfl
theorem cpTo_no {rs : List Ru} {m : Nat} (hk : kpB rs m = false) : cpTo rs (m + 1) = cpTo rs m := by
  rw [cpTo, if_neg (by rw [hk]; exact Bool.false_ne_true)]
theorem cpTo_len (rs : List Ru) : ∀ m, (cpTo rs m).length ≤ m
  | 0 => Nat.le_refl _
  | m + 1 => by
    have ih := cpTo_len rs m
    rw [cpTo]
    split
    · rw [List.length_append]
      cases rs[m]? <;> simp <;> omega
    · omega
theorem cpTo_all {rs : List Ru} : ∀ m, m ≤ rs.length → (∀ i, i < m → kpB rs i = true) → cpTo rs m = rs.take m
  | 0, _, _ => by simp [cpTo]
  | m + 1, hm, h => by
    rw [cpTo_yes (by omega) (h m (by omega)), cpTo_all m (by omega) (fun i hi => h i (by omega)), List.take_succ_eq_append_getElem (by omega)]
theorem cpTo_ss {ds : List Ru} (hg : ∀ r ∈ ds, r.good = true) (hs : ∀ i j (hi : i < j) (hj : j < ds.length), ltR ds[j] ds[i] = false) : ∀ m, m ≤ ds.length → SS (cpTo ds m) ∧ ∀ y, y ∈ cpTo ds m ↔ y ∈ ds.take m
  | 0, _ => by simp [cpTo, SS]
  | m + 1, hm => by
    obtain ⟨h1, h2⟩ := cpTo_ss hg hs m (by omega)
    cases hk : kpB ds m
    · rw [cpTo_no hk]
      refine ⟨h1, fun y => ?_⟩
      rw [h2, List.take_succ_eq_append_getElem (by omega), List.mem_append, List.mem_singleton]
      constructor
      · exact .inl
      · rintro (h | rfl)
        · exact h
        · cases m with
          | zero => simp [kpB] at hk
          | succ i =>
            rw [kpB_succ (by omega)] at hk
            have := same_eq (by simpa using hk)
            rw [this, List.mem_take_iff_getElem]
            exact ⟨i, by omega, rfl⟩
    · rw [cpTo_yes (by omega) hk]
      refine ⟨?_, fun y => by rw [List.mem_append, h2, List.take_succ_eq_append_getElem (by omega), List.mem_append]⟩
      unfold SS at *
      rw [List.pairwise_append]
      refine ⟨h1, by simp, fun x hx y hy => ?_⟩
      rw [List.mem_singleton] at hy
      subst hy
      have hx' := (h2 x).1 hx
      rw [List.mem_take_iff_getElem] at hx'
      obtain ⟨i, hi, rfl⟩ := hx'
      cases m with
      | zero => omega
      | succ p =>
        rw [kpB_succ (by omega)] at hk
        have hlt : ltR ds[p] ds[p + 1] = true := by
          cases h3 : ltR ds[p] ds[p + 1]
          · have h4 := hs p (p + 1) (by omega) (by omega)
            unfold ltR at h3 h4
            have := text_inj (hg _ (List.getElem_mem _)) (hg _ (List.getElem_mem _)) (bl_total _ _ h3 h4)
            rw [this, Ru.same_refl] at hk
            cases hk
          · rfl
        by_cases hip : i = p
        · subst hip
          exact hlt
        · exact bl_le_lt (hs i p (by omega) (by omega)) hlt
/-- A sorted copy, neighbours alike taken away, is what the specification lays. -/
theorem plain_eq {rs ds : List Ru} (hg : ∀ r ∈ rs, r.good = true) (hp : ds.Perm rs) (hs : ∀ i j (hi : i < j) (hj : j < ds.length), ltR ds[j] ds[i] = false) : cpTo ds ds.length = plTo rs rs.length := by
  have h1 := cpTo_ss (fun r hr => hg r (hp.mem_iff.1 hr)) hs ds.length (Nat.le_refl _)
  refine ss_unique _ _ h1.1 (plTo_ss hg _ (Nat.le_refl _)) (fun y => ?_)
  rw [h1.2, plTo_mem _ (Nat.le_refl _), List.take_length, List.take_length, hp.mem_iff]

end Go.Proofs.YtoaeckcenobfcaaGreat

namespace Go.Proofs.YtoaeckcenobfcaaGreat
open Go.RowKit Go.Shelf Go.Sort

theorem stringsCompare_any (a b : ByteArray) (w : World) :
    Calls Tryz.prog 66 #[.string a, .string b] w fun e w' => e = .returned (.int .i64 (Lib.compareBytes a.data.toList b.data.toList)) ∧ w' = w := Any.strings_Compare Tryz.lays106 a b w

set_option maxHeartbeats 2000000 in
set_option maxRecDepth 100000 in
theorem plainCmp_any (x y : Ru) (w : World) (hx : x.size ≤ 1048576) (hy : y.size ≤ 1048576) :
    Calls Tryz.prog 65 #[x.val, y.val] w fun e w' => e = .returned (.int .i64 (Lib.compareBytes x.text.data.toList y.text.data.toList)) ∧ Below w.heap.size w w' ∧ w.drawn ≤ w'.drawn := by
  have x0 : ((w.alloc (.cells #[.bool x.deny, .string x.who, .string x.method, .string x.path] 41)).alloc (.cells #[.bool y.deny, .string y.who, .string y.method, .string y.path] 41)).cell? ⟨w.heap.size, 0, none⟩ = some (.bool x.deny) := by simp
  have x1 : ((w.alloc (.cells #[.bool x.deny, .string x.who, .string x.method, .string x.path] 41)).alloc (.cells #[.bool y.deny, .string y.who, .string y.method, .string y.path] 41)).cell? ⟨w.heap.size, 1, none⟩ = some (.string x.who) := by simp
  have x2 : ((w.alloc (.cells #[.bool x.deny, .string x.who, .string x.method, .string x.path] 41)).alloc (.cells #[.bool y.deny, .string y.who, .string y.method, .string y.path] 41)).cell? ⟨w.heap.size, 2, none⟩ = some (.string x.method) := by simp
  have x3 : ((w.alloc (.cells #[.bool x.deny, .string x.who, .string x.method, .string x.path] 41)).alloc (.cells #[.bool y.deny, .string y.who, .string y.method, .string y.path] 41)).cell? ⟨w.heap.size, 3, none⟩ = some (.string x.path) := by simp
  have y0 : ((w.alloc (.cells #[.bool x.deny, .string x.who, .string x.method, .string x.path] 41)).alloc (.cells #[.bool y.deny, .string y.who, .string y.method, .string y.path] 41)).cell? ⟨w.heap.size + 1, 0, none⟩ = some (.bool y.deny) := by simp
  have y1 : ((w.alloc (.cells #[.bool x.deny, .string x.who, .string x.method, .string x.path] 41)).alloc (.cells #[.bool y.deny, .string y.who, .string y.method, .string y.path] 41)).cell? ⟨w.heap.size + 1, 1, none⟩ = some (.string y.who) := by simp
  have y2 : ((w.alloc (.cells #[.bool x.deny, .string x.who, .string x.method, .string x.path] 41)).alloc (.cells #[.bool y.deny, .string y.who, .string y.method, .string y.path] 41)).cell? ⟨w.heap.size + 1, 2, none⟩ = some (.string y.method) := by simp
  have y3 : ((w.alloc (.cells #[.bool x.deny, .string x.who, .string x.method, .string x.path] 41)).alloc (.cells #[.bool y.deny, .string y.who, .string y.method, .string y.path] 41)).cell? ⟨w.heap.size + 1, 3, none⟩ = some (.string y.path) := by simp
  have hBa : Below w.heap.size w ((w.alloc (.cells #[.bool x.deny, .string x.who, .string x.method, .string x.path] 41)).alloc (.cells #[.bool y.deny, .string y.who, .string y.method, .string y.path] 41)) := ((Below.refl _ w).alloc (Nat.le_refl _) _).alloc (by simp) _
  have HD := hid (show ((w.alloc (.cells #[.bool x.deny, .string x.who, .string x.method, .string x.path] 41)).alloc (.cells #[.bool y.deny, .string y.who, .string y.method, .string y.path] 41)).drawn = w.drawn from rfl)
  have hzx : w.heap.size < ((w.alloc (.cells #[.bool x.deny, .string x.who, .string x.method, .string x.path] 41)).alloc (.cells #[.bool y.deny, .string y.who, .string y.method, .string y.path] 41)).heap.size := by simp; omega
  have hzy : w.heap.size + 1 < ((w.alloc (.cells #[.bool x.deny, .string x.who, .string x.method, .string x.path] 41)).alloc (.cells #[.bool y.deny, .string y.who, .string y.method, .string y.path] 41)).heap.size := by simp
  have hM1 : True := trivial
  go_enter Tryz.func65, Tryz.ntmps65
  go_wp2_with fail
  generalize ((w.alloc (.cells #[.bool x.deny, .string x.who, .string x.method, .string x.path] 41)).alloc (.cells #[.bool y.deny, .string y.who, .string y.method, .string y.path] 41)) = W at *
  go_region_held3 (fun w' => w'.cell? ⟨w.heap.size, 0, none⟩ = some (.bool x.deny) ∧ w'.cell? ⟨w.heap.size, 1, none⟩ = some (.string x.who) ∧ w'.cell? ⟨w.heap.size, 2, none⟩ = some (.string x.method) ∧ w'.cell? ⟨w.heap.size, 3, none⟩ = some (.string x.path) ∧ w'.cell? ⟨w.heap.size + 1, 0, none⟩ = some (.bool y.deny) ∧ w'.cell? ⟨w.heap.size + 1, 1, none⟩ = some (.string y.who) ∧ w'.cell? ⟨w.heap.size + 1, 2, none⟩ = some (.string y.method) ∧ w'.cell? ⟨w.heap.size + 1, 3, none⟩ = some (.string y.path)) (go_keep) (first | (go_at_call 67; clear hM1; refine (textOfRule_any x _ hx).mono ?_; rintro e w1 ⟨rfl, hB1, hd1⟩; have x0_1 := (hB1.cell (p := ⟨w.heap.size, 0, none⟩) (by exact hzx)).trans (by exact x0); have x1_1 := (hB1.cell (p := ⟨w.heap.size, 1, none⟩) (by exact hzx)).trans (by exact x1); have x2_1 := (hB1.cell (p := ⟨w.heap.size, 2, none⟩) (by exact hzx)).trans (by exact x2); have x3_1 := (hB1.cell (p := ⟨w.heap.size, 3, none⟩) (by exact hzx)).trans (by exact x3); have y0_1 := (hB1.cell (p := ⟨w.heap.size + 1, 0, none⟩) (by exact hzy)).trans (by exact y0); have y1_1 := (hB1.cell (p := ⟨w.heap.size + 1, 1, none⟩) (by exact hzy)).trans (by exact y1); have y2_1 := (hB1.cell (p := ⟨w.heap.size + 1, 2, none⟩) (by exact hzy)).trans (by exact y2); have y3_1 := (hB1.cell (p := ⟨w.heap.size + 1, 3, none⟩) (by exact hzy)).trans (by exact y3); have hzx1 := Nat.lt_of_lt_of_le hzx hB1.size; have hzy1 := Nat.lt_of_lt_of_le hzy hB1.size) | (go_at_call 67; refine (textOfRule_any y _ hy).mono ?_; rintro e w2 ⟨rfl, hB2, hd2⟩; have x0_2 := (hB2.cell (p := ⟨w.heap.size, 0, none⟩) (by exact hzx1)).trans (by exact x0_1); have x1_2 := (hB2.cell (p := ⟨w.heap.size, 1, none⟩) (by exact hzx1)).trans (by exact x1_1); have x2_2 := (hB2.cell (p := ⟨w.heap.size, 2, none⟩) (by exact hzx1)).trans (by exact x2_1); have x3_2 := (hB2.cell (p := ⟨w.heap.size, 3, none⟩) (by exact hzx1)).trans (by exact x3_1); have y0_2 := (hB2.cell (p := ⟨w.heap.size + 1, 0, none⟩) (by exact hzy1)).trans (by exact y0_1); have y1_2 := (hB2.cell (p := ⟨w.heap.size + 1, 1, none⟩) (by exact hzy1)).trans (by exact y1_1); have y2_2 := (hB2.cell (p := ⟨w.heap.size + 1, 2, none⟩) (by exact hzy1)).trans (by exact y2_1); have y3_2 := (hB2.cell (p := ⟨w.heap.size + 1, 3, none⟩) (by exact hzy1)).trans (by exact y3_1)) | (go_at_call 66; refine (stringsCompare_any x.text y.text _).mono ?_; rintro e w3 ⟨rfl, rfl⟩))
  all_goals go_wp2
  all_goals go_ret
  all_goals exact ⟨rfl, below_one (below_one hBa (below_drew1 hB1)) hB2, by have h0 := HD.out; have h1 : W.drawn + 1 ≤ w1.drawn := hd1; omega⟩

/-- Memory that was only made, and draws: in the sort's words. -/
theorem grow_of {W w' : World} (hB : Below W.heap.size W w') (hd : W.drawn ≤ w'.drawn) : ∃ q os', w' = grow (W.drewN q) os' := by
  refine ⟨w'.drawn - W.drawn, w'.heap.extract W.heap.size w'.heap.size, ?_⟩
  have hh : w'.heap = W.heap ++ w'.heap.extract W.heap.size w'.heap.size := by
    apply Array.ext_getElem?
    intro k
    by_cases hk : k < W.heap.size
    · rw [Array.getElem?_append_left hk, hB.block k hk]
    · rw [Array.getElem?_append_right (by omega), Array.getElem?_extract]
      by_cases h2 : k < w'.heap.size
      · rw [if_pos (by omega)]
        congr 1
        omega
      · rw [if_neg (by omega), Array.getElem?_eq_none (by omega)]
  have h1 := hB.os
  have h2 := hB.tape
  have h3 := hB.output
  obtain ⟨hp, tp, dr, os, out⟩ := w'
  obtain ⟨hp0, tp0, dr0, os0, out0⟩ := W
  simp only at h1 h2 h3 hd hh
  simp only [grow, World.drewN]
  rw [← hh, h1, h2, h3, Nat.add_sub_cancel' hd]

/-- A rule whose text can be laid. -/
abbrev SmR := {r : Ru // r.size ≤ 1048576}
instance : Inhabited SmR := ⟨⟨⟨false, ⟨#[]⟩, ⟨#[]⟩, ⟨#[]⟩⟩, by decide⟩⟩
def encR (x : SmR) : List Value := x.1.cells
def cmpR (x y : SmR) : Int := Lib.compareBytes x.1.text.data.toList y.1.text.data.toList
theorem ltOf_cmpR (x y : SmR) : ltOf cmpR x y = ltR x.1 y.1 := by
  unfold ltOf cmpR ltR
  exact bl_cmp _ _
theorem swoR : SWO (ltOf cmpR) where
  irrefl := fun x => by rw [ltOf_cmpR]; exact bl_irrefl _
  trans := fun x y z h1 h2 => by rw [ltOf_cmpR] at *; exact bl_trans _ _ _ h1 h2
  ntrans := fun x y z h1 h2 => by rw [ltOf_cmpR] at *; exact bl_ntrans h1 h2
theorem cmpLaysR (blk off size : Nat) (w : World) : CmpLays Tryz.prog 65 #[] encR 4 cmpR blk off size w := by
  intro m os dk _ x y
  refine (plainCmp_any x.1 y.1 _ x.2 y.2).mono ?_
  rintro e w' ⟨rfl, hB, hd⟩
  exact ⟨rfl, grow_of hB hd⟩
theorem flat_get (l : List SmR) (t : Nat) (h : t < l.length * 4) : some (flatK encR 4 l.toArray)[t]! = ((l.map Subtype.val).flatMap Ru.cells)[t]? := by
  have h1 : t / 4 < l.length := by omega
  rw [get_flatK encR 4 _ t (by simpa using h)]
  have h2 := flat_at (l.map Subtype.val) (t / 4) (t % 4) (by simpa using h1) (by omega)
  rw [show t / 4 * 4 + t % 4 = t by omega] at h2
  rw [h2]
  have h3 : l.toArray[t / 4]! = l[t / 4] := by rw [getElem!_pos _ _ (by simpa using h1)]; simp
  rw [h3]
  simp only [List.getElem_map, encR]
  have h4 : t % 4 < 4 := by omega
  rw [getElem!_pos _ _ (by simpa using h4), List.getElem?_eq_getElem (by simpa using h4)]

theorem eg1 : ∀ args w, (callFunc 65 args).run Tryz.prog w = .ok (.enter 65 args) w := enters_of Tryz.func65 (by kernel_rfl) rfl

set_option maxHeartbeats 1000000 in
theorem sortRules_any (base g cap : Nat) (l : List SmR) (w : World) (hn : l.length ≤ 1048577) (hrow : w.ownsRow base 41 4 (.slice (some ⟨g, 0, none⟩) l.length cap) l.length ((l.map Subtype.val).flatMap Ru.cells)) :
    Calls Tryz.prog 64 #[.slice (some ⟨g, 0, none⟩) l.length cap, .func (.func 65) #[] #[]] w fun e w' => e = .returned (.tuple #[]) ∧ ∃ ds : List SmR, ds.Perm l ∧ (∀ i j (_ : i < j) (hj : j < ds.length), ltR ds[j].1 ds[i].1 = false) ∧ w'.ownsRow base 41 4 (.slice (some ⟨g, 0, none⟩) l.length cap) l.length ((ds.map Subtype.val).flatMap Ru.cells) ∧ w.grownBy w' (some g) := by
  rcases hrow.2 with ⟨h, _⟩ | ⟨g', cap', cur, h, hbase, hb, h1, h2, h3, h4⟩
  · cases h
  · simp only [Value.slice.injEq, Option.some.injEq, Addr.mk.injEq, and_true, true_and] at h
    obtain ⟨rfl, rfl⟩ := h
    have hH : HoldsK encR 4 w g 0 l.toArray := by
      intro j hj
      have hj' : j < l.length * 4 := by simpa using hj
      refine ⟨?_, by simp [World.frozen?, hb]⟩
      have := hrow.cellAt j (by omega)
      rw [Nat.zero_add, this, ← flat_get l j hj']
      rfl
    have hlt : g < w.heap.size := (Array.getElem?_eq_some_iff.1 hb).1
    have hcon := AnyQ.slices_SortFunc Tryz.sortRu 4 Tryz.isAgg41 Tryz.sizeOf41 encR (fun _ => rfl) (fun x v hv => by simp [encR] at hv; rcases hv with rfl | rfl | rfl | rfl <;> rfl) cmpR swoR 65 #[] g 0 cap l.toArray w eg1 (cmpLaysR g 0 _ w) hH hlt (by simp; omega)
    refine Calls.mono hcon ?_
    rintro e w' ⟨rfl, d', n, os, hp, hs, rfl⟩
    have hsz : d'.size = l.length := by simpa using hp.1
    have hperm : d'.toList.Perm l := by
      have := hp.2.2
      rw [show (d'.extract 0 l.toArray.size) = d' by rw [show l.toArray.size = d'.size by simp [hsz]]; simp] at this
      simpa using this
    refine ⟨rfl, d'.toList, hperm, ?_, ?_, ?_⟩
    · intro i j hi hj
      have hj' : j < d'.size := by simpa using hj
      have := hs i j (Nat.zero_le _) hi (by simp; omega)
      rw [ltOf_cmpR, getElem!_pos d' j hj', getElem!_pos d' i (by omega)] at this
      simpa using this
    · have hl' : d'.toList.length = l.length := by simpa using hsz
      refine ⟨by rw [flat_len]; simp [hsz], .inr ⟨g, cap, putCells id 0 (flatK encR 4 d') cur, rfl, hbase, ?_, h1, h2, by simp [putCells, h3], ?_⟩⟩
      · show (grow (putRow id (Sort.ahead w n) g 0 (flatK encR 4 d')) os).heap[g]? = _
        rw [heap_grow_old _ _ (by simpa using hlt)]
        simp [putRow, mapBlock, Sort.ahead, Array.getElem?_modify, hb, onCells]
      · apply List.ext_getElem?
        intro j
        by_cases hj : j < l.length * 4
        · have hjc : j < cur.size := by omega
          rw [List.getElem?_take_of_lt hj, Array.getElem?_toList, ← flat_get d'.toList j (by omega)]
          simp [putCells, hjc, hsz, hj]
        · rw [List.getElem?_take_eq_none (by omega), List.getElem?_eq_none (by rw [flat_len]; simp [hsz]; omega)]
    · refine ⟨rfl, rfl, rfl, ?_, fun k hk hne => ?_⟩
      · show w.heap.size ≤ (grow (putRow id (Sort.ahead w n) g 0 (flatK encR 4 d')) os).heap.size
        simp [putRow, mapBlock, Sort.ahead]
      · show (grow (putRow id (Sort.ahead w n) g 0 (flatK encR 4 d')) os).heap[k]? = _
        rw [heap_grow_old _ _ (by simpa using hk)]
        have : g ≠ k := fun e => hne (by rw [e])
        simp [putRow, mapBlock, Sort.ahead, Array.getElem?_modify, this]

end Go.Proofs.YtoaeckcenobfcaaGreat

namespace Go.Proofs.YtoaeckcenobfcaaGreat
open Go.RowKit Go.Shelf

theorem eql_ru (o r : Ru) (w : World) : (binOp .eql 41 o.val r.val).run Tryz.prog w = .ok (.bool (o.same r)) w := by
  rw [run_eql_struct]
  simp [go_sem, Tryz.underlying41]
  unfold Ru.same eqB
  repeat' split
  all_goals simp_all
theorem neq_ru (o r : Ru) (w : World) : (binOp .neq 41 o.val r.val).run Tryz.prog w = .ok (.bool (!(o.same r))) w := by
  rw [run_neq_struct]
  simp [go_sem, Tryz.underlying41]
  unfold Ru.same eqB
  repeat' split
  all_goals simp_all
/-- The cells of the rule at k. -/
theorem row_ru {w : World} {base g cap n : Nat} {rs : List Ru} (hrow : w.ownsRow base 41 4 (.slice (some ⟨g, 0, none⟩) n cap) n (rs.flatMap Ru.cells)) {k : Nat} (h : k < n) (hn : rs.length = n) (r : Ru) (hr : rs[k]'(by omega) = r) :
    w.cell? ⟨g, k * 4, none⟩ = some (.bool r.deny) ∧ w.cell? ⟨g, k * 4 + 1, none⟩ = some (.string r.who) ∧ w.cell? ⟨g, k * 4 + 2, none⟩ = some (.string r.method) ∧ w.cell? ⟨g, k * 4 + 3, none⟩ = some (.string r.path) := by
  subst hr
  have hc : ∀ j, j < 4 → w.cell? ⟨g, k * 4 + j, none⟩ = (rs[k]'(by omega)).cells[j]? := fun j hj => by rw [hrow.cellAt (k * 4 + j) (by omega), flat_at rs k j (by omega) hj]
  have h0 := hc 0 (by omega)
  have h1 := hc 1 (by omega)
  have h2 := hc 2 (by omega)
  have h3 := hc 3 (by omega)
  simp only [Nat.add_zero, List.getElem?_cons_zero, List.getElem?_cons_succ] at h0 h1 h2 h3
  exact ⟨h0, h1, h2, h3⟩
theorem flat_set (ys : List Ru) (k : Nat) (r : Ru) (_h : k < ys.length) : ((((ys.flatMap Ru.cells).set (k * 4) (.bool r.deny)).set (k * 4 + 1) (.string r.who)).set (k * 4 + 2) (.string r.method)).set (k * 4 + 3) (.string r.path) = (ys.set k r).flatMap Ru.cells := by
  apply List.ext_getElem?
  intro i
  have hl := flat_len ys
  by_cases hi : i < ys.length * 4
  · have e : i = i / 4 * 4 + i % 4 := by omega
    have h1 : i / 4 < ys.length := by omega
    by_cases hk : i / 4 = k
    · have h2 := flat_at (ys.set k r) (i / 4) (i % 4) (by simpa using h1) (by omega)
      rw [← e] at h2
      rw [h2, List.getElem_set, if_pos hk.symm]
      obtain h | h | h | h : i % 4 = 0 ∨ i % 4 = 1 ∨ i % 4 = 2 ∨ i % 4 = 3 := by omega
      · have ei : i = k * 4 := by omega
        rw [h, ei, List.getElem?_set_ne (by omega), List.getElem?_set_ne (by omega), List.getElem?_set_ne (by omega), List.getElem?_set_self (by omega)]
        rfl
      · have ei : i = k * 4 + 1 := by omega
        rw [h, ei, List.getElem?_set_ne (by omega), List.getElem?_set_ne (by omega), List.getElem?_set_self (by simp only [List.length_set]; omega)]
        rfl
      · have ei : i = k * 4 + 2 := by omega
        rw [h, ei, List.getElem?_set_ne (by omega), List.getElem?_set_self (by simp only [List.length_set]; omega)]
        rfl
      · have ei : i = k * 4 + 3 := by omega
        rw [h, ei, List.getElem?_set_self (by simp only [List.length_set]; omega)]
        rfl
    · have h2 := flat_at (ys.set k r) (i / 4) (i % 4) (by simpa using h1) (by omega)
      have h3 := flat_at ys (i / 4) (i % 4) h1 (by omega)
      rw [← e] at h2 h3
      rw [h2, List.getElem_set, if_neg (fun h => hk h.symm), ← h3, List.getElem?_set_ne (by omega), List.getElem?_set_ne (by omega), List.getElem?_set_ne (by omega), List.getElem?_set_ne (by omega)]
  · rw [List.getElem?_eq_none (by simp only [List.length_set]; omega), List.getElem?_eq_none (by rw [flat_len, List.length_set]; omega)]
/-- A row's first elements. -/
theorem row_short {w : World} {base g cap n k : Nat} {e : TypeId} {size : Nat} {xs : List Value} (h : w.ownsRow base e size (.slice (some ⟨g, 0, none⟩) n cap) n xs) (hk : k ≤ n) : w.ownsRow base e size (.slice (some ⟨g, 0, none⟩) k cap) k (xs.take (k * size)) := by
  have hm : k * size ≤ n * size := Nat.mul_le_mul_right _ hk
  rcases h.2 with ⟨h', _⟩ | ⟨g', cap', cur, h', hb, hg, hn, hc, hs, ht⟩
  · cases h'
  · simp only [Value.slice.injEq, Option.some.injEq, Addr.mk.injEq, and_true, true_and] at h'
    obtain ⟨rfl, rfl⟩ := h'
    refine ⟨by rw [List.length_take, h.1]; omega, .inr ⟨g, cap, cur, rfl, hb, hg, by omega, hc, hs, ?_⟩⟩
    rw [← ht, List.take_take, Nat.min_eq_left hm]
/-- Cells laid behind the first ones. -/
theorem row_behind {base g cap n k : Nat} {e : TypeId} {size : Nat} : ∀ (vs : List Value) (o : Nat) (w : World) (xs : List Value), k * size ≤ o → w.ownsRow base e size (.slice (some ⟨g, 0, none⟩) n cap) n xs →
    ∃ xs', (w.setCells g o vs).ownsRow base e size (.slice (some ⟨g, 0, none⟩) n cap) n xs' ∧ xs'.take (k * size) = xs.take (k * size) ∧ w.grownBy (w.setCells g o vs) (some g)
  | [], o, w, xs, _, h => ⟨xs, h, rfl, grown_self _ _⟩
  | v :: vs, o, w, xs, ho, h => by
    obtain ⟨h1, h2⟩ := h.stored o v
    obtain ⟨xs', a1, a2, a3⟩ := row_behind vs (o + 1) _ _ (Nat.le_succ_of_le ho) h1
    refine ⟨xs', a1, ?_, grown_two h2 a3⟩
    rw [a2, List.take_set_of_le ho]


abbrev zeroRu : Value := .agg #[.bool false, .string ⟨#[]⟩, .string ⟨#[]⟩, .string ⟨#[]⟩]
theorem clear_ru {w : World} {base g cap n : Nat} {ys : List Value} (hrow : w.ownsRow base 41 4 (.slice (some ⟨g, 0, none⟩) n cap) n ys) (k c : Nat) (hk : k < n) :
    ∀ ty, (Builtin.clear_ #[23] ty #[.slice (some ⟨g, k * 4, none⟩) (n - k) c]).run Tryz.prog w = .ok (.tuple #[]) (w.setCells g (k * 4) (Builtin.zeroCells zeroRu.cells (n - k)).toList) := by
  intro ty
  have hl : (Builtin.zeroCells zeroRu.cells (n - k)).toList.length = (n - k) * 4 := by simp [Builtin.zeroCells, Value.cells]
  have hst := run_storeCells_cells (P := Tryz.prog) g (k * 4) (Builtin.zeroCells zeroRu.cells (n - k)).toList 0 w
    (fun j hj => by
      rw [hl] at hj
      rw [Nat.add_zero, hrow.cellAt (k * 4 + j) (by omega), List.getElem?_eq_getElem (by rw [hrow.1]; omega)]
      rfl)
    (fun j _ => by rw [Nat.add_zero]; exact hrow.frozenAt _)
    (fun v hv => by
      simp only [Builtin.zeroCells, Value.cells, Array.toList_map, List.mem_map] at hv
      obtain ⟨i, _, rfl⟩ := hv
      have h4 : i % 4 = 0 ∨ i % 4 = 1 ∨ i % 4 = 2 ∨ i % 4 = 3 := by omega
      show ((#[.bool false, .string ⟨#[]⟩, .string ⟨#[]⟩, .string ⟨#[]⟩] : Array Value)[i % 4]!).oneCell' = true
      rcases h4 with h | h | h | h <;> rw [h] <;> rfl)
  simp only [Nat.add_zero] at hst
  have hv : ∀ w, (zeroValue 41).run Tryz.prog w = .ok zeroRu w := fun w => by kernel_rfl
  obtain ⟨m, hm⟩ : ∃ m, n - k = m + 1 := ⟨n - k - 1, by omega⟩
  rw [hm] at hst ⊢
  simp [Builtin.clear_, run_underlying Tryz.underlying23, hv, hst]

end Go.Proofs.YtoaeckcenobfcaaGreat

namespace Go.Proofs.YtoaeckcenobfcaaGreat
open Go.RowKit Go.Shelf

theorem row_draws {w : World} {base : Nat} {e : TypeId} {size n : Nat} {v : Value} {xs : List Value} (h : w.ownsRow base e size v n xs) (q : Nat) : (w.drewN q).ownsRow base e size v n xs := h
theorem grown_draws {w W : World} {r : Option Nat} (h : w.grownBy W r) (q : Nat) : w.grownBy (W.drewN q) r := ⟨h.os, h.tape, h.output, h.size, h.block⟩
theorem ret_slc {a : Option Addr} {n m cap : Nat} (h : n = m) : Ending.returned (.slice a n cap) = .returned (.slice a m cap) := by rw [h]
theorem flat_take : ∀ (ys : List Ru) (k : Nat), (ys.flatMap Ru.cells).take (k * 4) = (ys.take k).flatMap Ru.cells
  | [], k => by simp
  | y :: ys, 0 => by simp
  | y :: ys, k + 1 => by
    rw [List.flatMap_cons, List.take_succ_cons, List.flatMap_cons, ← flat_take ys k, show (k + 1) * 4 = k * 4 + 4 by omega]
    rfl
theorem kp_one {rs : List Ru} {j : Nat} (h : j < 0 + 1) : kpB rs j = true := by
  obtain rfl : j = 0 := by omega
  rfl
theorem kp_false {rs : List Ru} {i : Nat} (h : i + 1 < rs.length) (hs : rs[i + 1].same rs[i] = true) : kpB rs (i + 1) = false := by rw [kpB_succ h, hs]; rfl
theorem kp_true {rs : List Ru} {i : Nat} (h : i + 1 < rs.length) (hs : rs[i + 1].same rs[i] = false) : kpB rs (i + 1) = true := by rw [kpB_succ h, hs]; rfl

set_option maxHeartbeats 4000000 in
set_option maxRecDepth 100000 in
theorem compact_any (base g cap n : Nat) (rs : List Ru) (w : World) (hl : rs.length = n) (hn : n ≤ 1048577) (hrow : w.ownsRow base 41 4 (.slice (some ⟨g, 0, none⟩) n cap) n (rs.flatMap Ru.cells)) :
    Calls Tryz.prog 68 #[.slice (some ⟨g, 0, none⟩) n cap] w fun e w' => e = .returned (.slice (some ⟨g, 0, none⟩) (cpTo rs n).length cap) ∧ w'.ownsRow base 41 4 (.slice (some ⟨g, 0, none⟩) (cpTo rs n).length cap) (cpTo rs n).length ((cpTo rs n).flatMap Ru.cells) ∧ w.grownBy w' (some g) := by
  by_cases h2 : n < 2
  · have hc : cpTo rs n = rs := by
      rw [cpTo_all n (by omega) (fun i hi => kp_one (by omega)), List.take_of_length_le (by omega)]
    rw [hc, hl]
    go_enter Tryz.func68, Tryz.ntmps68
    go_wp2
    go_ret
    exact ⟨rfl, hrow, grown_self _ _⟩
  · have d2 : decide ((n : Int) < 2) = false := by simp; omega
    have hcap : n ≤ cap := by
      rcases row_form hrow with ⟨h, _⟩ | ⟨_, _, h, _, h'⟩
      · cases h
      · cases h
        exact h'
    go_enter Tryz.func68, Tryz.ntmps68
    go_wp2
    go_loopw [3] (fun i wr => ∃ p : Nat, p + 1 ≤ n ∧ i = .int .i64 ((p + 1 : Nat) : Int) ∧ (∀ j, j < p + 1 → kpB rs j = true) ∧ wr.ownsRow base 41 4 (.slice (some ⟨g, 0, none⟩) n cap) n (rs.flatMap Ru.cells) ∧ w.grownBy wr (some g)) (fun i _ => n - (intOf i).toNat)
    case atStart => exact ⟨0, by omega, rfl, fun j hj => kp_one hj, hrow, grown_self _ _⟩
    case round =>
      obtain ⟨p, hp, rfl, hkp, hrow, hg⟩ := hrel
      have HKP := hid hkp
      clear hkp
      by_cases hlt : p + 1 < n
      · obtain ⟨x0, x1, x2, x3⟩ := row_ru hrow hlt hl _ rfl
        obtain ⟨y0, y1, y2, y3⟩ := row_ru hrow (show p < n by omega) hl _ rfl
        have HS := hid (fun (h : (rs[p + 1]'(by omega)).same (rs[p]'(by omega)) = true) => kp_false (rs := rs) (i := p) (by omega) h)
        have HT := hid (fun (h : (rs[p + 1]'(by omega)).same (rs[p]'(by omega)) = false) => kp_true (rs := rs) (i := p) (by omega) h)
        generalize rs[p + 1] = x at *
        generalize rs[p] = y at *
        have dlt : decide ((p : Int) + 1 < (n : Int)) = true := by simp; omega
        have hse := eql_ru x y
        cases hsm : x.same y
        · rw [hsm] at hse
          have HK1 := hid (HT.out hsm)
          go_wp2_with fail
          go_quiet (fail)
          go_wp2
          refine ⟨⟨p + 1, by omega, by go_num, ?_, row_draws hrow _, grown_draws hg _⟩, by simp [intOf]; omega⟩
          intro j hj
          by_cases hjp : j = p + 1
          · subst hjp
            exact HK1.out
          · exact HKP.out j (by omega)
        · rw [hsm] at hse
          have hc0 : cpTo rs (p + 1 + 0 + 1) = rs.take (p + 1) := by
            rw [Nat.add_zero, cpTo_no (HS.out hsm), cpTo_all (p + 1) (by omega) HKP.out]
          have HC0 := hid hc0
          clear hc0
          go_wp2_with fail
          go_quiet (fail)
          go_wp2
          replace hrow := row_draws hrow nq
          replace hg := grown_draws hg nq
          clear x0 x1 x2 x3 y0 y1 y2 y3
          generalize wr.drewN nq = W1 at *
          go_loopw [3, 5] (fun kv i wq => ∃ (kk q : Nat) (ys : List Ru), kv = .int .i64 kk ∧ i = .int .i64 ((q + 1 : Nat) : Int) ∧ p + 1 + q + 1 ≤ n ∧ kk ≤ p + 1 + q ∧ ys.length = n ∧ (cpTo rs (p + 1 + q + 1)).length = kk ∧ ys.take kk = cpTo rs (p + 1 + q + 1) ∧ (∀ j, kk ≤ j → ys[j]? = rs[j]?) ∧ wq.ownsRow base 41 4 (.slice (some ⟨g, 0, none⟩) n cap) n (ys.flatMap Ru.cells) ∧ w.grownBy wq (some g)) (fun _ i _ => n - (intOf i).toNat)
          case atStart => exact ⟨p + 1, 0, rs, rfl, rfl, by omega, by omega, hl, by rw [HC0.out, List.length_take]; omega, HC0.out.symm, fun _ _ => rfl, hrow, hg⟩
          case round =>
            obtain ⟨kk, q, ys, rfl, rfl, hq, hkk, hyl, hcl, hct, hyr, hrowq, hgq⟩ := hrel
            have HCL := hid hcl
            have HCT := hid hct
            have HYR := hid hyr
            clear hcl hct hyr hrow hg
            by_cases hlq : p + 1 + q + 1 < n
            · have e1 : ys[p + 1 + q + 1]'(by omega) = rs[p + 1 + q + 1]'(by omega) := by
                have := HYR.out (p + 1 + q + 1) (by omega)
                rw [List.getElem?_eq_getElem (by omega), List.getElem?_eq_getElem (by omega)] at this
                exact Option.some.inj this
              have e2 : ys[p + 1 + q]'(by omega) = rs[p + 1 + q]'(by omega) := by
                have := HYR.out (p + 1 + q) (by omega)
                rw [List.getElem?_eq_getElem (by omega), List.getElem?_eq_getElem (by omega)] at this
                exact Option.some.inj this
              obtain ⟨x0, x1, x2, x3⟩ := row_ru hrowq hlq hyl _ e1
              obtain ⟨y0, y1, y2, y3⟩ := row_ru hrowq (show p + 1 + q < n by omega) hyl _ e2
              rw [show (p + 1 + q + 1) * 4 = (p + 1) * 4 + (q + 1) * 4 by omega] at x0 x1 x2 x3
              rw [show (p + 1 + q) * 4 = (p + 1) * 4 + q * 4 by omega] at y0 y1 y2 y3
              have HQ := hid (fun (h : (rs[p + 1 + q + 1]'(by omega)).same (rs[p + 1 + q]'(by omega)) = true) => cpTo_no (kp_false (rs := rs) (i := p + 1 + q) (by omega) h))
              have HW := hid (fun (h : (rs[p + 1 + q + 1]'(by omega)).same (rs[p + 1 + q]'(by omega)) = false) => cpTo_yes (m := p + 1 + q + 1) (by omega) (kp_true (rs := rs) (i := p + 1 + q) (by omega) h))
              clear e1 e2
              generalize rs[p + 1 + q + 1] = x at *
              generalize rs[p + 1 + q] = y at *
              have hne := neq_ru x y
              cases hsn : x.same y
              · rw [hsn] at hne
                have HN := hid (HW.out hsn)
                go_wp2_with fail
                go_quiet (fail)
                replace hrowq := row_draws hrowq nq
                replace hgq := grown_draws hgq nq
                replace x0 : (wr.drewN nq).cell? _ = _ := x0
                replace x1 : (wr.drewN nq).cell? _ = _ := x1
                replace x2 : (wr.drewN nq).cell? _ = _ := x2
                replace x3 : (wr.drewN nq).cell? _ = _ := x3
                clear y0 y1 y2 y3
                generalize wr.drewN nq = W2 at *
                have hlen : (ys.flatMap Ru.cells).length = n * 4 := hrowq.1
                have s0 := hrowq.cellAt (kk * 4) (by omega)
                have s1 := hrowq.cellAt (kk * 4 + 1) (by omega)
                have s2 := hrowq.cellAt (kk * 4 + 2) (by omega)
                have s3 := hrowq.cellAt (kk * 4 + 3) (by omega)
                rw [List.getElem?_eq_getElem (by omega)] at s0 s1 s2 s3
                have t0 := hrowq.frozenAt (kk * 4)
                have t1 := hrowq.frozenAt (kk * 4 + 1)
                have t2 := hrowq.frozenAt (kk * 4 + 2)
                have t3 := hrowq.frozenAt (kk * 4 + 3)
                generalize (ys.flatMap Ru.cells)[kk * 4] = z0 at s0
                generalize (ys.flatMap Ru.cells)[kk * 4 + 1] = z1 at s1
                generalize (ys.flatMap Ru.cells)[kk * 4 + 2] = z2 at s2
                generalize (ys.flatMap Ru.cells)[kk * 4 + 3] = z3 at s3
                have P0 := hrowq.stored (kk * 4) (.bool x.deny)
                have P1 := P0.1.stored (kk * 4 + 1) (.string x.who)
                have P2 := P1.1.stored (kk * 4 + 2) (.string x.method)
                have P3 := P2.1.stored (kk * 4 + 3) (.string x.path)
                have HG := hid (grown_two (grown_two (grown_two (grown_two hgq P0.2) P1.2) P2.2) P3.2)
                have HR := hid (by have := P3.1; rw [flat_set ys kk x (by omega)] at this; exact this)
                clear P0 P1 P2 P3
                go_wp2
                go_roundw
                case rel =>
                  refine ⟨kk + 1, q + 1, ys.set kk x, by go_num, by go_num, by omega, by omega, by rw [List.length_set]; exact hyl, ?_, ?_, ?_, HR.out, HG.out⟩
                  · rw [show p + 1 + (q + 1) + 1 = p + 1 + q + 1 + 1 by omega, HN.out, List.length_append, HCL.out]
                    rfl
                  · rw [show p + 1 + (q + 1) + 1 = p + 1 + q + 1 + 1 by omega, HN.out, ← HCT.out, List.take_succ_eq_append_getElem (by rw [List.length_set]; omega), List.take_set_of_le (Nat.le_refl _), List.getElem_set_self]
                  · intro j hj
                    rw [List.getElem?_set_ne (by omega)]
                    exact HYR.out j (by omega)
                case measure => simp [intOf]; omega
              · rw [hsn] at hne
                have HN := hid (HQ.out hsn)
                go_wp2_with fail
                go_quiet (fail)
                go_wp2
                go_roundw
                case rel => exact ⟨kk, q + 1, ys, rfl, by go_num, by omega, by omega, hyl, by rw [show p + 1 + (q + 1) + 1 = p + 1 + q + 1 + 1 by omega, HN.out]; exact HCL.out, by rw [show p + 1 + (q + 1) + 1 = p + 1 + q + 1 + 1 by omega, HN.out]; exact HCT.out, HYR.out, row_draws hrowq _, grown_draws hgq _⟩
                case measure => simp [intOf]; omega
            · have hkn : kk < n := by omega
              have hclr := clear_ru hrowq kk (cap - kk) hkn
              obtain ⟨xs', r1, r2, r3⟩ := row_behind (k := kk) (Builtin.zeroCells zeroRu.cells (n - kk)).toList (kk * 4) wr _ (Nat.le_refl _) hrowq
              have HF := hid (show (cpTo rs n).length = kk ∧ (cpTo rs n).flatMap Ru.cells = xs'.take (kk * 4) by
                have e : p + 1 + q + 1 = n := by omega
                have h1 := HCL.out
                have h2' := HCT.out
                rw [e] at h1 h2'
                refine ⟨h1, ?_⟩
                rw [r2, ← h2', flat_take])
              go_wp2
              go_ret
              exact ⟨ret_slc HF.out.1.symm, by rw [HF.out.1, HF.out.2]; exact row_short r1 (by omega), grown_two hgq r3⟩
      · obtain rfl : p + 1 = n := by omega
        have HF := hid (show cpTo rs (p + 1) = rs by rw [cpTo_all (p + 1) (by omega) HKP.out, List.take_of_length_le (by omega)])
        go_wp2
        go_ret
        exact ⟨ret_slc (by rw [HF.out, hl]), by rw [HF.out, hl]; exact hrow, hg⟩

end Go.Proofs.YtoaeckcenobfcaaGreat

namespace Go.Proofs.YtoaeckcenobfcaaGreat
open Go.RowKit Go.Shelf

def goodTo (rs : List Ru) (k : Nat) : Bool := (rs.take k).all Ru.good
/-- A list of rules is a policy. -/
def polB (rs : List Ru) : Bool := rs.all Ru.good && decide (rs.length ≤ 30)
theorem goodTo_zero (rs : List Ru) : goodTo rs 0 = true := by simp [goodTo]
theorem goodTo_succ {rs : List Ru} {k : Nat} (h : k < rs.length) : goodTo rs (k + 1) = (goodTo rs k && rs[k].good) := by
  unfold goodTo
  rw [List.take_succ_eq_append_getElem h, List.all_append]
  simp
theorem good_bad {rs : List Ru} {k : Nat} (h : k < rs.length) (hb : rs[k].good = false) : polB rs = false := by
  unfold polB
  rw [Bool.and_eq_false_iff]
  exact .inl (List.all_eq_false.2 ⟨rs[k], List.getElem_mem h, by simp [hb]⟩)
theorem good_end {rs : List Ru} (h : goodTo rs rs.length = true) : polB rs = decide (rs.length ≤ 30) := by
  unfold goodTo at h
  rw [List.take_length] at h
  unfold polB
  rw [h, Bool.true_and]

set_option maxHeartbeats 1000000 in
theorem l2Good_any (v : Value) (rs : List Ru) (w : World) (hm : rs.length ≤ 1048577) (hf : ∀ r ∈ rs, r.size ≤ 1048576) (hr : RuS w v rs) :
    Calls Tryz.prog 58 #[v] w fun e w' => e = .returned (.bool (polB rs)) ∧ Below w.heap.size w w' := by
  obtain ⟨a, cap, rfl⟩ := hr.len
  go_enter Tryz.func58, Tryz.ntmps58
  go_wp2
  go_loopw [7] (fun i wr => ∃ k : Nat, k ≤ rs.length ∧ i = .int .i64 k ∧ goodTo rs k = true ∧ Below w.heap.size w wr) (fun i _ => rs.length - (intOf i).toNat)
  case atStart => exact ⟨0, Nat.zero_le _, rfl, goodTo_zero _, Below.refl _ _⟩
  case round =>
    obtain ⟨k, hk, rfl, hs, hB⟩ := hrel
    have HS := hid hs
    clear hs
    by_cases hlt : k < rs.length
    · obtain ⟨b, off, rfl, hb, hcap, q0, q1, q2, q3⟩ := (hr.below hB).at hlt
      have hz := hf rs[k] (List.getElem_mem hlt)
      have HT := hid (goodTo_succ hlt)
      have HQ := hid (fun h => good_bad hlt h)
      generalize rs[k] = r at *
      have hw : r.who.size ≤ 1048576 := by unfold Ru.size at hz; omega
      have hp : r.path.size ≤ 1048576 := by unfold Ru.size at hz; omega
      have hBa : Below w.heap.size w (wr.alloc (.cells #[.bool r.deny, .string r.who, .string r.method, .string r.path] 41)) := hB.alloc hB.size _
      cases hg : r.good
      · have HR := hid (HQ.out hg)
        go_wp2_with (go_at_call 49; refine (specGoodRule_any r _ hw hp).mono ?_; rintro e w1 ⟨rfl, hB1⟩)
        go_ret
        exact ⟨ret_bool HR.out.symm, below_one hBa hB1⟩
      · have HR := hid (show goodTo rs (k + 1) = true by rw [HT.out, HS.out, hg]; rfl)
        go_wp2_with (go_at_call 49; refine (specGoodRule_any r _ hw hp).mono ?_; rintro e w1 ⟨rfl, hB1⟩)
        go_roundw
        case rel => exact ⟨k + 1, by omega, by go_num, HR.out, below_one hBa hB1⟩
        case measure => simp [intOf]; omega
    · obtain rfl : k = rs.length := by omega
      have HR := hid (good_end HS.out)
      go_wp2
      go_ret
      exact ⟨ret_bool (by rw [HR.out]; exact decide_eq_decide.2 (by omega)), hB⟩

end Go.Proofs.YtoaeckcenobfcaaGreat

namespace Go.Proofs.YtoaeckcenobfcaaGreat
open Go.RowKit Go.Shelf

set_option maxHeartbeats 1000000 in
theorem goodPolicy_any (v : Value) (rs : List Ru) (w : World) (hm : rs.length ≤ 1048577) (hf : ∀ r ∈ rs, r.size ≤ 1048576) (hr : RuS w v rs) :
    Calls Tryz.prog 62 #[v] w fun e w' => e = .returned (.bool (polB rs)) ∧ Below w.heap.size w w' := by
  obtain ⟨a, cap, rfl⟩ := hr.len
  by_cases h30 : 30 < rs.length
  · have HR := hid (show polB rs = false by unfold polB; rw [decide_eq_false (by omega), Bool.and_false])
    go_enter Tryz.func62, Tryz.ntmps62
    go_wp2
    go_ret
    exact ⟨ret_bool HR.out.symm, Below.refl _ _⟩
  · go_enter Tryz.func62, Tryz.ntmps62
    go_wp2
    go_loopw [10] (fun i wr => ∃ k : Nat, k ≤ rs.length ∧ i = .int .i64 k ∧ goodTo rs k = true ∧ Below w.heap.size w wr) (fun i _ => rs.length - (intOf i).toNat)
    case atStart => exact ⟨0, Nat.zero_le _, rfl, goodTo_zero _, Below.refl _ _⟩
    case round =>
      obtain ⟨k, hk, rfl, hs, hB⟩ := hrel
      have HS := hid hs
      clear hs
      by_cases hlt : k < rs.length
      · obtain ⟨b, off, rfl, hb, hcap, q0, q1, q2, q3⟩ := (hr.below hB).at hlt
        have hz := hf rs[k] (List.getElem_mem hlt)
        have HT := hid (goodTo_succ hlt)
        have HQ := hid (fun h => good_bad hlt h)
        generalize rs[k] = r at *
        have hBa : Below w.heap.size w (wr.alloc (.cells #[.bool r.deny, .string r.who, .string r.method, .string r.path] 41)) := hB.alloc hB.size _
        cases hg : r.good
        · have HR := hid (HQ.out hg)
          go_wp2_with (go_at_call 85; refine (implGoodRule_any r _ hz).mono ?_; rintro e w1 ⟨rfl, hB1⟩)
          go_ret
          exact ⟨ret_bool HR.out.symm, below_one hBa hB1⟩
        · have HR := hid (show goodTo rs (k + 1) = true by rw [HT.out, HS.out, hg]; rfl)
          go_wp2_with (go_at_call 85; refine (implGoodRule_any r _ hz).mono ?_; rintro e w1 ⟨rfl, hB1⟩)
          go_roundw
          case rel => exact ⟨k + 1, by omega, by go_num, HR.out, below_one hBa hB1⟩
          case measure => simp [intOf]; omega
      · obtain rfl : k = rs.length := by omega
        have HR := hid (show polB rs = true by rw [good_end HS.out]; exact decide_eq_true (by omega))
        go_wp2
        go_ret
        exact ⟨ret_bool HR.out.symm, hB⟩

/-- A method of a rule takes this one in. -/
def cmB (a b : ByteArray) : Bool := starB a || eqB a b

end Go.Proofs.YtoaeckcenobfcaaGreat

namespace Go.Proofs.YtoaeckcenobfcaaGreat
open Go.RowKit Go.Shelf Go.Sort

/-- The plain policy. -/
def plX (rs : List Ru) : List Ru := if polB rs = true then plTo rs rs.length else []
theorem plX_no {rs : List Ru} (h : polB rs = false) : plX rs = [] := if_neg (by rw [h]; exact Bool.false_ne_true)
theorem plX_yes {rs : List Ru} (h : polB rs = true) : plX rs = plTo rs rs.length := if_pos h

theorem cloneRules_any (base g n cap : Nat) (news : List Value) (w : World) (hn : n ≤ 1048577) (h1 : ∀ u ∈ news, u.oneCell' = true) (hrow : w.ownsRow base 41 4 (.slice (some ⟨g, 0, none⟩) n cap) n news) :
    Calls Tryz.prog 63 #[.slice (some ⟨g, 0, none⟩) n cap] w fun e w' => ∃ v', e = .returned v' ∧ w'.ownsRow w.heap.size 41 4 v' n news ∧ v' ≠ .slice none 0 0 ∧ Below w.heap.size w w' := by
  obtain ⟨i0, hi, hz0, hz1, hz2⟩ := info_parts infoRule
  exact AnyE.slices_Clone Tryz.cloneRu i0 _ 4 56 hi hz0 hz1 hz2 rfl (by decide) Tryz.sizeOf41 g 0 n cap news w hrow.1 (by unfold maxLen; omega) (by omega)
    (fun j u hu => by
      have hj : j < news.length := (List.getElem?_eq_some_iff.1 hu).1
      rw [Nat.zero_add, hrow.cellAt j (by rw [← hrow.1]; exact hj), hu]) h1
theorem cloneRules_nil (n cap : Nat) (w : World) :
    Calls Tryz.prog 63 #[.slice none n cap] w fun e w' => e = .returned (.slice none 0 0) ∧ w' = w := AnyE.slices_Clone_nil Tryz.cloneRu n cap w
theorem sortRules_nil (p : Option Addr) (cap : Nat) (fv : Value) (w : World) :
    Calls Tryz.prog 64 #[.slice p 0 cap, fv] w fun e w' => e = .returned (.tuple #[]) ∧ w' = w := AnyF.slices_SortFunc_none Tryz.sortRu p cap fv w

set_option maxHeartbeats 1000000 in
theorem compact_nil (w : World) :
    Calls Tryz.prog 68 #[.slice none 0 0] w fun e w' => e = .returned (.slice none 0 0) ∧ w' = w := by
  go_enter Tryz.func68, Tryz.ntmps68
  go_wp2
  go_ret
  exact ⟨rfl, rfl⟩

theorem cells_one {rs : List Ru} : ∀ u ∈ rs.flatMap Ru.cells, u.oneCell' = true := by
  intro u hu
  rw [List.mem_flatMap] at hu
  obtain ⟨r, _, hr⟩ := hu
  simp at hr
  rcases hr with rfl | rfl | rfl | rfl <;> rfl
theorem pol_all {rs : List Ru} (h : polB rs = true) : (∀ r ∈ rs, r.good = true) ∧ rs.length ≤ 30 := by
  unfold polB at h
  rw [Bool.and_eq_true, List.all_eq_true] at h
  exact ⟨h.1, of_decide_eq_true h.2⟩

set_option maxHeartbeats 2000000 in
theorem implPlainPolicy_any (v : Value) (rs : List Ru) (base : Nat) (w : World) (hm : rs.length ≤ 1048577) (hf : ∀ r ∈ rs, r.size ≤ 1048576) (hrow : w.ownsRow base 41 4 v rs.length (rs.flatMap Ru.cells)) :
    Calls Tryz.prog 30 #[v] w fun e w' => ∃ v', e = .returned (.tuple #[v', .bool (polB rs)]) ∧ w'.ownsRow w.heap.size 41 4 v' (plX rs).length ((plX rs).flatMap Ru.cells) ∧ Below w.heap.size w w' := by
  cases hp : polB rs
  · have HX := hid (plX_no hp)
    obtain ⟨a, cap, rfl⟩ := ownsRow_len hrow
    go_enter Tryz.func30, Tryz.ntmps30
    go_wp2_with fail
    refine (goodPolicy_any _ rs _ hm hf (RuS.own hrow)).mono ?_
    rintro e w1 ⟨rfl, hB1⟩
    rw [hp]
    go_wp2_with fail
    go_ret2
    exact ⟨_, rfl, by rw [HX.out]; exact World.ownsRow_nil _ _ _ _, hB1⟩
  · have HX := hid (plX_yes hp)
    have HG := hid (pol_all hp)
    rcases row_form hrow with ⟨rfl, h0⟩ | ⟨g, cap, rfl, hg, hcap⟩
    · obtain rfl : rs = [] := List.eq_nil_of_length_eq_zero h0
      go_enter Tryz.func30, Tryz.ntmps30
      go_wp2_with fail
      refine (goodPolicy_any _ [] _ hm hf (RuS.own hrow)).mono ?_
      rintro e w1 ⟨rfl, hB1⟩
      rw [hp]
      go_wp2_with fail
      refine (cloneRules_nil _ _ _).mono ?_
      rintro e w2 ⟨rfl, rfl⟩
      go_wp2_with fail
      refine (sortRules_nil _ _ _ _).mono ?_
      rintro e w3 ⟨rfl, rfl⟩
      go_wp2_with fail
      refine (compact_nil _).mono ?_
      rintro e w4 ⟨rfl, rfl⟩
      go_wp2_with fail
      go_ret2
      exact ⟨_, rfl, by rw [HX.out]; exact World.ownsRow_nil _ _ _ _, hB1⟩
    · go_enter Tryz.func30, Tryz.ntmps30
      go_wp2_with fail
      refine (goodPolicy_any _ rs _ hm hf (RuS.own hrow)).mono ?_
      rintro e w1 ⟨rfl, hB1⟩
      rw [hp]
      have hrow1 := ownsRow_below hrow hB1
      go_wp2_with fail
      refine (cloneRules_any base g rs.length cap _ _ hm cells_one hrow1).mono ?_
      rintro e w2 ⟨v2, rfl, hrow2, hnn, hB2⟩
      have hBB2 := below_one hB1 hB2
      rcases row_form hrow2 with ⟨h', _⟩ | ⟨g2, cap2, rfl, hg2, hcap2⟩
      · exact absurd h' hnn
      · obtain ⟨l, hl⟩ : ∃ l : List SmR, l.map Subtype.val = rs := ⟨rs.pmap Subtype.mk hf, by simp [List.map_pmap]⟩
        have hll : l.length = rs.length := by rw [← hl, List.length_map]
        have hrow2' : w2.ownsRow w1.heap.size 41 4 (.slice (some ⟨g2, 0, none⟩) l.length cap2) l.length ((l.map Subtype.val).flatMap Ru.cells) := by rw [hl, hll]; exact hrow2
        have hz12 := hB1.size
        go_wp2_with fail
        rw [← hll]
        refine (sortRules_any w1.heap.size g2 cap2 l _ (by omega) hrow2').mono ?_
        rintro e w3 ⟨rfl, ds, hperm, hsort, hrow3, hg3⟩
        have hBB3 : Below w.heap.size w w3 := hBB2.grown hg3 hBB2.size (fun k hk => by cases hk; omega)
        have hdl : (ds.map Subtype.val).length = rs.length := by rw [List.length_map, ← hll]; exact hperm.length_eq
        rw [hll] at hrow3
        have HP := hid (show cpTo (ds.map Subtype.val) rs.length = plTo rs rs.length by
          have := plain_eq (rs := rs) (ds := ds.map Subtype.val) HG.out.1 (by rw [← hl]; exact hperm.map _) (fun i j hi hj => by
            rw [List.getElem_map, List.getElem_map]
            exact hsort i j hi (by rw [List.length_map] at hj; exact hj))
          rw [hdl] at this
          exact this)
        clear hrow hrow1 hrow2 hrow2' hB1 hB2 hsort hperm
        go_wp2_with fail
        refine (compact_any w1.heap.size g2 cap2 rs.length (ds.map Subtype.val) _ hdl (by omega) hrow3).mono ?_
        rintro e w4 ⟨rfl, hrow4, hg4⟩
        rw [HP.out] at hrow4 ⊢
        have hBB4 : Below w.heap.size w w4 := hBB3.grown hg4 hBB3.size (fun k hk => by cases hk; omega)
        go_wp2_with fail
        go_ret2
        exact ⟨_, rfl, by rw [HX.out]; exact Go.Joins.ownsRow_le hrow4 hz12, hBB4⟩

end Go.Proofs.YtoaeckcenobfcaaGreat
