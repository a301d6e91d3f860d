/-
  The cursor's logs: what is drawn is a short list of records with short notes.
-/
import Derived.Deep.DeepCutAuto
import Derived.Test.YtepoamekeackkaaDoorCur
import Derived.Test.YtepoamekeackkaaDoorPutR
namespace Go.Proofs.YtepoamekeackkaaDoor
open Go.RowKit Go.Shelf

/-- A record that was drawn. -/
def Rc.drawn (r : Rc) : Prop := r.note.size ≤ 100 ∧ r.su < 4294967296
/-- One of a drawn log, a byte more at most. -/
def Rc.drawn' (r : Rc) : Prop := r.note.size ≤ 101 ∧ r.su < 4294967296
theorem Rc.drawn.up {r : Rc} (h : r.drawn) : r.drawn' := ⟨by have := h.1; omega, h.2⟩
theorem gBG {w W w2 : World} {r : Option Nat} (h : w.grownBy W r) (hB : Below w.heap.size W w2) : w.grownBy w2 r :=
  ⟨hB.os.trans h.os, hB.tape.trans h.tape, hB.output.trans h.output, Nat.le_trans h.size hB.size, fun k hk hne => (hB.block k hk).trans (h.block k hk hne)⟩
/-- A list of records is being drawn, from the world w on. -/
structure GS (w : World) (b : Nat) (a : Option Addr) (n c : Nat) (wr : World) (v : Value) (ks : List Rc) (q : Nat) : Prop where
  row : wr.ownsRow w.heap.size 34 3 v ks.length (ks.flatMap Rc.cells)
  small : ∀ k ∈ ks, k.drawn
  by_ : ByS wr a n
  cur : CurB wr b a n c q
  gr : w.grownBy wr (some b)
theorem GS.grown {w wr w' : World} {b : Nat} {a : Option Addr} {n c q q' : Nat} {v : Value} {ks : List Rc} (h : GS w b a n c wr v ks q) (hb : b < w.heap.size) (hg : wr.grownBy w' (some b)) (hB : ByS w' a n) (hC : CurB w' b a n c q') : GS w b a n c w' v ks q' :=
  ⟨h.row.kept hg (by
    rcases h.row.2 with ⟨rfl, _⟩ | ⟨g, cap, cur, rfl, hgb, _⟩
    · exact .inl rfl
    · right
      simp only [Value.ownBlock, ne_eq, Option.some.injEq]
      omega), h.small, hB, hC, g2 h.gr hg⟩
theorem GS.below {w wr w' : World} {b : Nat} {a : Option Addr} {n c q : Nat} {v : Value} {ks : List Rc} (h : GS w b a n c wr v ks q) (hB : Below wr.heap.size wr w') : GS w b a n c w' v ks q :=
  ⟨ownsRow_below h.row hB, h.small, h.by_.below hB, h.cur.below hB, gB h.gr hB⟩
theorem GS.other {w wr w' : World} {b : Nat} {a : Option Addr} {n c q : Nat} {v v' : Value} {ks ks' : List Rc} (h : GS w b a n c wr v ks q) (hB : Below wr.heap.size wr w') (hrow : w'.ownsRow wr.heap.size 34 3 v' ks'.length (ks'.flatMap Rc.cells)) (hs : ∀ k ∈ ks', k.drawn) : GS w b a n c w' v' ks' q :=
  ⟨Go.Joins.ownsRow_le hrow h.gr.size, hs, h.by_.below hB, h.cur.below hB, gB h.gr hB⟩
theorem put_drawn {l : List Rc} {note : ByteArray} (h : ∀ r ∈ l, r.drawn) (hn : note.size ≤ 100) : ∀ r ∈ puR l note, r.drawn := by
  intro r hr
  unfold puR at hr
  rw [List.mem_append, List.mem_singleton] at hr
  rcases hr with hr | rfl
  · exact h r hr
  · exact ⟨hn, smL_lt _ (pv_lt (Nat.le_refl _) (fun r hr => (h r hr).2))⟩
theorem rcflat_set : ∀ (ks : List Rc) (i j : Nat) (u : Value) (k : Rc) (hi : i < ks.length), j < 3 → k.cells = ks[i].cells.set j u → (ks.flatMap Rc.cells).set (i * 3 + j) u = (ks.set i k).flatMap Rc.cells
  | [], i, j, u, k, hi, _, _ => by simp at hi
  | x :: ks, 0, j, u, k, hi, hj, hu => by
    rw [List.flatMap_cons, List.set_append_left _ _ (by simp; omega), List.set_cons_zero, List.flatMap_cons, hu]
    simp
  | x :: ks, i + 1, j, u, k, hi, hj, hu => by
    rw [List.flatMap_cons, List.set_append_right _ _ (by simp; omega), List.set_cons_succ, List.flatMap_cons, ← rcflat_set ks i j u k (by simpa using hi) hj (by simpa using hu)]
    congr 2
    simp
    omega
theorem set_drawnR {ks : List Rc} {i : Nat} {k : Rc} (h : ∀ k ∈ ks, k.drawn) (hk : k.drawn') : ∀ x ∈ ks.set i k, x.drawn' := by
  intro x hx
  rcases List.mem_or_eq_of_mem_set hx with hx | rfl
  · exact (h x hx).up
  · exact hk

theorem pickG_any (b : Nat) (a : Option Addr) (n c k m : Nat) (w : World) (hm : 1 ≤ m) (hm2 : m ≤ 200) (hB : ByS w a n) (hC : CurB w b a n c k) (hk : k ≤ 100000000) :
    Calls Tryd.prog 47 #[.pointer (some ⟨b, 0, none⟩), .int .i64 m] w fun e w' => ∃ x : Nat, x < m ∧ e = .returned (.int .i64 x) ∧ ByS w' a n ∧ (∃ k', k' ≤ k + 1 ∧ CurB w' b a n c k') ∧ w.grownBy w' (some b) := by
  by_cases h2 : 2 ≤ m
  · refine (pick_any b a n c k m w h2 hm2 hB hC hk).mono ?_
    rintro e w1 ⟨x, hx, rfl, hC1, hg1⟩
    exact ⟨x, hx, rfl, curB_grown hB hC.apart hC.lt hg1, ⟨_, Nat.le_refl _, hC1⟩, hg1⟩
  · obtain rfl : m = 1 := by omega
    have d1 : decide (((1 : Nat) : Int) ≤ 1) = true := by decide
    go_enter Tryd.func47, Tryd.ntmps47
    go_wp2
    go_ret
    exact ⟨0, by omega, rfl, hB, ⟨k, by omega, hC⟩, gS _ _⟩

theorem RcR.tail {w : World} {g cap : Nat} {x : Rc} {l : List Rc} (h : RcR w (.slice (some ⟨g, 0, none⟩) (l.length + 1) cap) (x :: l)) : RcR w (.slice (some ⟨g, 3, none⟩) l.length (cap - 1)) l := by
  rcases h with ⟨h, _⟩ | ⟨b, off, cap', hv, hb, hl, hc⟩
  · cases h
  · simp only [Value.slice.injEq, Option.some.injEq, Addr.mk.injEq, List.length_cons, and_true] at hv
    obtain ⟨⟨rfl, rfl⟩, _, rfl⟩ := hv
    refine .inr ⟨g, 3, cap - 1, rfl, hb, by simp at hl; omega, fun k hk => ?_⟩
    have := hc (k + 1) (by simpa using hk)
    rw [show 0 + (k + 1) * 3 = 3 + k * 3 by omega] at this
    simpa using this

set_option maxHeartbeats 4000000 in
set_option maxRecDepth 100000 in
theorem drawLog_any (b : Nat) (a : Option Addr) (n c k : Nat) (w : World) (hB : ByS w a n) (hC : CurB w b a n c k) (hk : k ≤ 100000) :
    Calls Tryd.prog 26 #[.pointer (some ⟨b, 0, none⟩)] w fun e w' => ∃ (v : Value) (l : List Rc), e = .returned v ∧ l.length ≤ 60 ∧ (∀ r ∈ l, r.drawn') ∧ RcR w' v l ∧ w.grownBy w' (some b) := by
  have hbl := hC.lt
  go_enter Tryd.func26, Tryd.ntmps26
  go_wp2_with fail
  refine (pick_any b a n c k 7 w (by omega) (by omega) hB hC (by omega)).mono ?_
  rintro e w1 ⟨p1, hp1, rfl, hC1, hg1⟩
  have hB1 := curB_grown hB hC.apart hC.lt hg1
  clear hB hC
  go_wp2_with fail
  refine (one_any b a n c (k + 1) 20 w1 (by omega) (by omega) hB1 hC1 (by omega)).mono ?_
  rintro e w2 ⟨o1, rfl, hC2, hg2⟩
  have hB2 := curB_grown hB1 hC1.apart hC1.lt hg2
  have hG2 := g2 hg1 hg2
  clear hB1 hC1 hg1 hg2
  have hK0 : GS w b a n c w2 (.slice none 0 0) [] (k + 1 + 1) := ⟨World.ownsRow_nil _ _ _ _, (fun _ h => by cases h), hB2, hC2, hG2⟩
  clear hB2 hC2 hG2
  go_upto_if 10 with fail
  go_cut [4] (fun s4 wx => w2 = wx ∧ ∃ N : Nat, N ≤ 61 ∧ s4 = .int .i64 (N : Int))
  case first =>
    cases o1
    · go_wp2
      go_meet
      exact ⟨rfl, p1, by omega, rfl⟩
    · go_wp2
      go_meet
      exact ⟨rfl, 61, by omega, rfl⟩
  case rest =>
  obtain ⟨rfl, N, hN, rfl⟩ := hcut
  go_wp2_with fail
  go_loopw [3, 4] (fun sv nv wr => ∃ (v : Value) (ks : List Rc) (j q : Nat), v = sv ∧ nv = .int .i64 j ∧ j ≤ 61 ∧ ks.length ≤ 60 ∧ q + j ≤ k + 100 ∧ GS w b a n c wr v ks q) (fun _ nv _ => (intOf nv).toNat)
  case atStart => exact ⟨_, _, N, _, rfl, rfl, by omega, by simp, by omega, hK0⟩
  case round =>
    obtain ⟨v, ks, j, q, rfl, rfl, hj, hlen, hq, hK⟩ := hrel
    clear hK0
    by_cases hjz : 0 < j
    · have d0 : decide ((j : Int) > 0) = true := by simp; omega
      obtain ⟨av, cv, rfl⟩ := ownsRow_len hK.row
      go_wp2_with fail
      refine (ofNew_any b a n c q [⟨#[]⟩, ⟨#[97, 108, 108, 111, 119]⟩, ⟨#[100, 101, 110, 121, 32, 119, 101, 98]⟩, ⟨#[110, 111, 116, 101, 32, 119, 105, 116, 104, 32, 109, 111, 114, 101, 32, 105, 110, 32, 105, 116]⟩] wr (by decide) (by decide) hK.by_ hK.cur (by omega)).mono ?_
      rintro e u1 ⟨nt, hnt, rfl, hB1, hC1, hg1⟩
      have hns : nt.size ≤ 100 := by
        simp only [List.mem_cons, List.not_mem_nil, or_false] at hnt
        rcases hnt with rfl | rfl | rfl | rfl <;> decide
      have hK1 := hK.grown hbl hg1 hB1 hC1
      clear hK hB1 hC1 hg1 hnt
      go_wp2_with fail
      refine (specAppendNote_any _ ks nt u1 (by omega) (by omega) (fun r hr => by have := (hK1.small r hr).1; omega) (fun r hr => (hK1.small r hr).2) (RcR.own hK1.row)).mono ?_
      rintro e u2 ⟨v', rfl, hrow, hB2⟩
      cases hA : apB ks nt
      · obtain ⟨a2, c2, rfl⟩ := ownsRow_len hrow
        go_wp2_with fail
        go_roundw
        case rel => exact ⟨_, ks, j - 1, q + 1, rfl, by go_num, by omega, by omega, by omega, hK1.below hB2⟩
        case measure => simp [intOf]; omega
      · have hAR : apR ks nt = puR ks nt := by unfold apR; rw [hA]; rfl
        have h59 : ks.length < 60 := by
          unfold apB at hA
          simp only [Bool.and_eq_true, Bool.not_eq_true', beq_eq_false_iff_ne] at hA
          have := hA.2
          omega
        rw [hAR] at hrow
        have HD := hid (put_drawn (note := nt) hK1.small hns)
        have HL := hid (puR_len ks nt)
        have HK2 := hid (hK1.other hB2 hrow HD.out)
        obtain ⟨a2, c2, rfl⟩ := ownsRow_len hrow
        clear hAR hrow hK1
        generalize puR ks nt = ls at *
        go_wp2_with fail
        go_roundw
        case rel => exact ⟨_, ls, j - 1, q + 1, rfl, by go_num, by omega, by rw [HL.out]; omega, by omega, HK2.out⟩
        case measure => simp [intOf]; omega
    · obtain rfl : j = 0 := by omega
      have d0 : decide (((0 : Nat) : Int) > 0) = false := by decide
      obtain ⟨av, cv, rfl⟩ := ownsRow_len hK.row
      go_wp2_with fail
      refine (pick_any b a n c q 12 wr (by omega) (by omega) hK.by_ hK.cur (by omega)).mono ?_
      rintro e u1 ⟨x, hx, rfl, hC1, hg1⟩
      have hK1 := hK.grown hbl hg1 (curB_grown hK.by_ hK.cur.apart hK.cur.lt hg1) hC1
      clear hK hC1 hg1
      obtain h | h | h | h : x = 0 ∨ x = 1 ∨ x = 2 ∨ 3 ≤ x := by omega
      · subst h
        by_cases hl0 : 0 < ks.length
        · rcases row_form hK1.row with ⟨_, h0⟩ | ⟨g, cap, hv, hg, hcap⟩
          · omega
          cases hv
          have hp0 : (0 : Int) < (ks.length : Int) := by omega
          go_wp2_with fail
          refine (pickG_any b a n c (q + 1) ks.length u1 (by omega) (by omega) hK1.by_ hK1.cur (by omega)).mono ?_
          rintro e u2 ⟨m, hm, rfl, hB2, ⟨q2, hq2, hC2⟩, hg2⟩
          have hK2 := hK1.grown hbl hg2 hB2 hC2
          have hrow := hK2.row
          have hf := hrow.frozenAt (m * 3 + 1)
          have hcell := hrow.cellAt (m * 3 + 1) (by omega)
          rw [rcflat_at ks m 1 hm (by omega)] at hcell
          simp only [List.getElem?_cons_zero, List.getElem?_cons_succ] at hcell
          have hdr := hK2.small ks[m] (List.getElem_mem hm)
          have g1 : ¬9223372036854775807 < ks[m].note.size + 1 := by have := hdr.1; omega
          have hnd : Rc.drawn' ⟨ks[m].num, ks[m].note ++ ⟨#[120]⟩, ks[m].su⟩ := ⟨by have := hdr.1; rw [ByteArray.size_append, show (⟨#[120]⟩ : ByteArray).size = 1 from rfl]; omega, hdr.2⟩
          have hfin := (hrow.stored (m * 3 + 1) (.string (ks[m].note ++ ⟨#[120]⟩))).1
          rw [rcflat_set ks m 1 _ ⟨ks[m].num, ks[m].note ++ ⟨#[120]⟩, ks[m].su⟩ hm (by omega) (by simp)] at hfin
          have hsm := set_drawnR (i := m) (k := ⟨ks[m].num, ks[m].note ++ ⟨#[120]⟩, ks[m].su⟩) hK2.small hnd
          have hll : (ks.set m ⟨ks[m].num, ks[m].note ++ ⟨#[120]⟩, ks[m].su⟩).length = ks.length := List.length_set
          have hG := gBG hK2.gr ((Below.refl w.heap.size u2).setCell (p := ⟨g, m * 3 + 1, none⟩) hg (.string (ks[m].note ++ ⟨#[120]⟩)))
          have HF := hid (show RcR (u2.setCell ⟨g, m * 3 + 1, none⟩ (.string (ks[m].note ++ ⟨#[120]⟩))) (.slice (some ⟨g, 0, none⟩) ks.length cv) (ks.set m ⟨ks[m].num, ks[m].note ++ ⟨#[120]⟩, ks[m].su⟩) by
            have := RcR.own (l := ks.set m ⟨ks[m].num, ks[m].note ++ ⟨#[120]⟩, ks[m].su⟩) (by rw [hll]; exact hfin)
            exact this)
          clear hfin
          have HLL := hid hll
          clear hll
          generalize ks.set m ⟨ks[m].num, ks[m].note ++ ⟨#[120]⟩, ks[m].su⟩ = ls at *
          clear hK1 hK2 hB2 hC2 hg2
          go_wp2_with fail
          go_ret
          exact ⟨_, ls, rfl, by rw [HLL.out]; omega, hsm, HF.out, hG⟩
        · have hp0 : ¬ (0 : Int) < (ks.length : Int) := by omega
          go_wp2_with fail
          go_ret
          exact ⟨_, ks, rfl, hlen, fun r hr => (hK1.small r hr).up, RcR.own hK1.row, hK1.gr⟩
      · subst h
        by_cases hl0 : 0 < ks.length
        · rcases row_form hK1.row with ⟨_, h0⟩ | ⟨g, cap, hv, hg, hcap⟩
          · omega
          cases hv
          have hp0 : (0 : Int) < (ks.length : Int) := by omega
          go_wp2_with fail
          refine (pickG_any b a n c (q + 1) ks.length u1 (by omega) (by omega) hK1.by_ hK1.cur (by omega)).mono ?_
          rintro e u2 ⟨m, hm, rfl, hB2, ⟨q2, hq2, hC2⟩, hg2⟩
          have hK2 := hK1.grown hbl hg2 hB2 hC2
          have hrow := hK2.row
          have hf := hrow.frozenAt (m * 3 + 2)
          have hcell := hrow.cellAt (m * 3 + 2) (by omega)
          rw [rcflat_at ks m 2 hm (by omega)] at hcell
          simp only [List.getElem?_cons_zero, List.getElem?_cons_succ] at hcell
          have hdr := hK2.small ks[m] (List.getElem_mem hm)
          have hx1 : bits .xor .u32 (ks[m].su : Int) 1 = ((ks[m].su ^^^ 1 : Nat) : Int) := u32_xor_nat ks[m].su 1 hdr.2 (by omega)
          have hnd : Rc.drawn' ⟨ks[m].num, ks[m].note, ks[m].su ^^^ 1⟩ := ⟨by have := hdr.1; show ks[m].note.size ≤ 101; omega, Nat.xor_lt_two_pow (n := 32) hdr.2 (by omega)⟩
          have hfin := (hrow.stored (m * 3 + 2) (.int .u32 ((ks[m].su ^^^ 1 : Nat) : Int))).1
          rw [rcflat_set ks m 2 _ ⟨ks[m].num, ks[m].note, ks[m].su ^^^ 1⟩ hm (by omega) (by simp)] at hfin
          have hsm := set_drawnR (i := m) (k := ⟨ks[m].num, ks[m].note, ks[m].su ^^^ 1⟩) hK2.small hnd
          have hll : (ks.set m ⟨ks[m].num, ks[m].note, ks[m].su ^^^ 1⟩).length = ks.length := List.length_set
          have hG := gBG hK2.gr ((Below.refl w.heap.size u2).setCell (p := ⟨g, m * 3 + 2, none⟩) hg (.int .u32 ((ks[m].su ^^^ 1 : Nat) : Int)))
          have HF := hid (show RcR (u2.setCell ⟨g, m * 3 + 2, none⟩ (.int .u32 ((ks[m].su ^^^ 1 : Nat) : Int))) (.slice (some ⟨g, 0, none⟩) ks.length cv) (ks.set m ⟨ks[m].num, ks[m].note, ks[m].su ^^^ 1⟩) by
            have := RcR.own (l := ks.set m ⟨ks[m].num, ks[m].note, ks[m].su ^^^ 1⟩) (by rw [hll]; exact hfin)
            exact this)
          clear hfin
          have HLL := hid hll
          clear hll
          generalize ks.set m ⟨ks[m].num, ks[m].note, ks[m].su ^^^ 1⟩ = ls at *
          clear hK1 hK2 hB2 hC2 hg2
          go_wp2_with fail
          go_ret
          exact ⟨_, ls, rfl, by rw [HLL.out]; omega, hsm, HF.out, hG⟩
        · have hp0 : ¬ (0 : Int) < (ks.length : Int) := by omega
          go_wp2_with fail
          go_ret
          exact ⟨_, ks, rfl, hlen, fun r hr => (hK1.small r hr).up, RcR.own hK1.row, hK1.gr⟩
      · subst h
        by_cases hl0 : 1 < ks.length
        · rcases row_form hK1.row with ⟨_, h0⟩ | ⟨g, cap, hv, hg, hcap⟩
          · omega
          cases hv
          have hp0 : (1 : Int) < (ks.length : Int) := by omega
          have hc1 : ¬ cv = 1 := by omega
          have hc2 : (1 : Int) ≤ (ks.length : Int) := by omega
          obtain ⟨y, l, rfl⟩ : ∃ y l, ks = y :: l := by
            cases ks with
            | nil => simp at hl0
            | cons y l => exact ⟨y, l, rfl⟩
          have hT := RcR.tail (RcR.own hK1.row)
          have hll : l.length ≤ 60 := by simp at hlen; omega
          have hsm : ∀ r ∈ l, r.drawn' := fun r hr => (hK1.small r (List.mem_cons_of_mem _ hr)).up
          have hG := hK1.gr
          clear hK1
          have hln : (y :: l).length = l.length + 1 := rfl
          simp only [hln] at *
          go_wp2_with fail
          go_ret
          exact ⟨_, l, rfl, hll, hsm, hT, hG⟩
        · have hp0 : ¬ (1 : Int) < (ks.length : Int) := by omega
          go_wp2_with fail
          go_ret
          exact ⟨_, ks, rfl, hlen, fun r hr => (hK1.small r hr).up, RcR.own hK1.row, hK1.gr⟩
      · have x0 : ((x : Int) == 0) = false := by simp; omega
        have x1 : ((x : Int) == 1) = false := by simp; omega
        have x2 : ((x : Int) == 2) = false := by simp; omega
        go_wp2_with fail
        go_ret
        exact ⟨_, ks, rfl, hlen, fun r hr => (hK1.small r hr).up, RcR.own hK1.row, hK1.gr⟩

theorem ofAt_any (nb b : Nat) (a : Option Addr) (n c k : Nat) (xs : List ByteArray) (w : World) (hnb : nb = w.heap.size) (hm : 2 ≤ xs.length) (hm2 : xs.length ≤ 200) (hB : ByS w a n) (hC : CurB w b a n c k) (hk : k ≤ 100000000) :
    Calls Tryd.prog 24 #[.pointer (some ⟨b, 0, none⟩), .slice (some ⟨nb, 0, none⟩) xs.length xs.length] (w.alloc (.cells (xs.map Value.string).toArray 9)) fun e w' => ∃ x ∈ xs, e = .returned (.string x) ∧ ByS w' a n ∧ CurB w' b a n c (k + 1) ∧ w.grownBy w' (some b) := by
  subst hnb
  exact ofNew_any b a n c k xs w hm hm2 hB hC hk

theorem conv_three (W : World) (g : Nat) (h : ∀ j, j < 3 → W.cell? ⟨g, j, none⟩ = some (.int .u8 0)) : (convert 22 9 (.slice (some ⟨g, 0, none⟩) 3 3)).run Tryd.prog W = .ok (.string ⟨#[0, 0, 0]⟩) W := by
  refine run_convert_bytes_back (P := Tryd.prog) _ 22 9 5 ⟨g, 0, none⟩ 3 [0, 0, 0] Tryd.underlying22 Tryd.underlying5 Tryd.underlying9 ?_
  intro j hj
  have hj3 : j < 3 := by simpa using hj
  rw [Addr.add_lit, Nat.zero_add, h j hj3]
  obtain h | h | h : j = 0 ∨ j = 1 ∨ j = 2 := by omega
  all_goals subst h
  all_goals rfl

theorem byteInfo7 : (Tryd.prog.info? 5).map (fun i => (i.zero, i.size, i.bytes)) = some (some (.int .u8 0), 1, 1) := by kernel_rfl

set_option maxHeartbeats 4000000 in
set_option maxRecDepth 100000 in
theorem drawAN_any (a : Option Addr) (n c : Nat) (w : World) (hle : n ≤ c) (hB : ByS w a n) (hap : ∀ p, a = some p → p.block < w.heap.size) :
    Calls Tryd.prog 8 #[.slice a n c] w fun e w' => ∃ (v : Value) (l : List Rc) (nt : ByteArray), e = .returned (.tuple #[v, .string nt]) ∧ l.length ≤ 60 ∧ (∀ r ∈ l, r.drawn') ∧ nt.size ≤ 100 ∧ RcR w' v l ∧ Below w.heap.size w w' := by
  obtain ⟨i0, hi, hz0, hz1, hz2⟩ := info_parts byteInfo7
  have hBl : Below w.heap.size w (w.alloc (.cells #[.slice a n c, .int .i64 0, .int .u64 0] 49)) := (Below.refl _ w).alloc (Nat.le_refl _) _
  have hC0 : CurB (w.alloc (.cells #[.slice a n c, .int .i64 0, .int .u64 0] 49)) w.heap.size a n c 0 := ⟨hle, by simp, by simp, ⟨0, by simp⟩, by simp, by simp, hap⟩
  have hB0 := hB.below hBl
  clear hB
  go_enter Tryd.func8, Tryd.ntmps8
  go_wp2_with fail
  refine (ofAt_any (w.heap.size + 1) w.heap.size a n c 0 [⟨#[]⟩, ⟨#[97]⟩, ⟨#[97, 108, 108, 111, 119, 32, 112, 114, 111, 100, 47, 119, 101, 98]⟩] (w.alloc (.cells #[.slice a n c, .int .i64 0, .int .u64 0] 49)) (by simp) (by decide) (by decide) hB0 hC0 (by omega)).mono ?_
  rintro e w1 ⟨x1, hx1, rfl, hB1, hC1, hg1⟩
  have hs1 : x1.size ≤ 100 := by
    simp only [List.mem_cons, List.not_mem_nil, or_false] at hx1
    rcases hx1 with rfl | rfl | rfl <;> decide
  have hBB1 : Below w.heap.size w w1 := hBl.grown hg1 hBl.size (fun k hk => by cases hk; exact Nat.le_refl _)
  clear hx1 hB0 hC0 hg1 hBl
  go_wp2_with fail
  refine (one_any w.heap.size a n c 1 12 w1 (by omega) (by omega) hB1 hC1 (by omega)).mono ?_
  rintro e w2 ⟨o1, rfl, hC2, hg2⟩
  have hB2 := curB_grown hB1 hC1.apart hC1.lt hg2
  have hBB2 : Below w.heap.size w w2 := hBB1.grown hg2 hBB1.size (fun k hk => by cases hk; exact Nat.le_refl _)
  clear hB1 hC1 hg2 hBB1
  go_upto_if 13 with fail
  go_cut [5] (fun s5 wx => ∃ (nt : ByteArray) (q : Nat), s5 = .string nt ∧ nt.size ≤ 100 ∧ q ≤ 10 ∧ ByS wx a n ∧ CurB wx w.heap.size a n c q ∧ Below w.heap.size w wx)
  case first =>
    cases o1
    · go_wp2
      go_meet
      exact ⟨x1, 2, rfl, hs1, by omega, hB2, hC2, hBB2⟩
    · go_wp2_with (at_make; refine wpList_make_full _ rfl _ _ 22 rfl w2.heap.size 5 i0 _ 1 Tryd.underlying22 hi hz0 hz1 _ _ _ _ 3 rfl rfl rfl rfl (by rw [hz2]; omega) (by unfold maxLen; omega) (Nat.le_refl _) ?_; intro w3 hown hgrow)
      have hB3 : Below w2.heap.size w2 w3 := (Below.refl _ w2).grown hgrow (Nat.le_refl _) (fun k e => by cases e)
      have hcv := conv_three w3 w2.heap.size (fun j hj => by
        rw [hown.cellAt j (by omega)]
        obtain h | h | h : j = 0 ∨ j = 1 ∨ j = 2 := by omega
        all_goals subst h
        all_goals simp [madeCells]
        all_goals rfl)
      have hB3' := hB2.below hB3
      have hC3 := hC2.below hB3
      have hBB3 := below_one hBB2 hB3
      clear hown hgrow hB3 hB2 hC2 hBB2
      go_wp2_with fail
      rw [hcv]
      simp only [Result.andThen]
      rw [Oper.upon_value]
      go_wp2_with fail
      refine (ofAt_any w3.heap.size w.heap.size a n c 2 [⟨#[10]⟩, ⟨#[0, 0, 0]⟩, ⟨(List.append [49, 50, 51, 52, 53, 54, 55, 56, 57, 48, 49, 50, 51, 52, 53, 54, 55, 56, 57, 48, 49, 50, 51, 52, 53, 54, 55, 56, 57, 48, 49, 50, 51, 52, 53, 54, 55, 56, 57, 48] [49, 50, 51, 52, 53, 54, 55, 56, 57, 48, 49, 50, 51, 52, 53, 54, 55, 56, 57, 48, 49, 50, 51, 52, 53, 54, 55, 56, 57, 48, 49, 50, 51, 52, 53, 54, 55, 56, 57, 48]).toArray⟩, ⟨(List.append [49, 50, 51, 52, 53, 54, 55, 56, 57, 48, 49, 50, 51, 52, 53, 54, 55, 56, 57, 48, 49, 50, 51, 52, 53, 54, 55, 56, 57, 48, 49, 50, 51, 52, 53, 54, 55, 56, 57, 48] [49, 50, 51, 52, 53, 54, 55, 56, 57, 48, 49, 50, 51, 52, 53, 54, 55, 56, 57, 48, 49, 50, 51, 52, 53, 54, 55, 56, 57, 48, 49, 50, 51, 52, 53, 54, 55, 56, 57, 48, 49]).toArray⟩] w3 rfl (by simp) (by simp) hB3' hC3 (by omega)).mono ?_
      rintro e w4 ⟨x2, hx2, rfl, hB4, hC4, hg4⟩
      have hs2 : x2.size ≤ 100 := by
        simp only [List.mem_cons, List.not_mem_nil, or_false] at hx2
        rcases hx2 with rfl | rfl | rfl | rfl <;> decide
      have hBB4 : Below w.heap.size w w4 := hBB3.grown hg4 hBB3.size (fun k hk => by cases hk; exact Nat.le_refl _)
      go_wp2
      go_meet
      exact ⟨x2, 3, rfl, hs2, by omega, hB4, hC4, hBB4⟩
  case rest =>
  obtain ⟨nt, q, rfl, hnt, hq, hB5, hC5, hBB5⟩ := hcut
  go_wp2_with fail
  refine (drawLog_any w.heap.size a n c q _ hB5 hC5 (by omega)).mono ?_
  rintro e w6 ⟨v, l, rfl, hlen, hsm, hr, hg⟩
  have hBB6 : Below w.heap.size w w6 := hBB5.grown hg hBB5.size (fun k hk => by cases hk; exact Nat.le_refl _)
  obtain ⟨ao, capo, rfl⟩ := hr.len
  go_wp2_with fail
  go_ret2
  exact ⟨_, l, nt, rfl, hlen, hsm, hnt, hr, hBB6⟩

end Go.Proofs.YtepoamekeackkaaDoor
