/-
  Tokens that the wide laws draw: short lists of links whose names are short and do not begin with an n.
-/
import Derived.Deep.DeepCutAuto
import Derived.Test.YtecgonopefeplaaGreatDoorCurN
import Derived.Test.YtecgonopefeplaaGreatDoorExtP
namespace Go.Proofs.YtecgonopefeplaaGreatDoor
open Go.RowKit Go.Shelf

/-- What a drawn link's names are. -/
def Lk.drawn (k : Lk) : Prop := k.who.size ≤ 100 ∧ k.to.size ≤ 100 ∧ noN k.to
theorem Lk.drawn.fits {k : Lk} (h : k.drawn) : k.size ≤ 1048576 := by
  have h1 := h.1
  have h2 := h.2.1
  unfold Lk.size
  omega
theorem row_one5 (w : World) (k : Lk) : (w.alloc (.cells #[.string k.who, .string k.to, .int .i64 k.se, .int .i64 k.fr, .int .i64 k.un] 35)).ownsRow w.heap.size 35 5 (.slice (some ⟨w.heap.size, 0, none⟩) 1 1) 1 k.cells :=
  ⟨by simp, .inr ⟨w.heap.size, 1, #[.string k.who, .string k.to, .int .i64 k.se, .int .i64 k.fr, .int .i64 k.un], rfl, Nat.le_refl _, by show (w.heap.push _)[w.heap.size]? = _; rw [Array.getElem?_push_size], Nat.le_refl _, by unfold maxLen; omega, by simp, by simp⟩⟩
theorem CurB.belowM {w w' : World} {b N : Nat} {a : Option Addr} {n c k : Nat} (h : CurB w b a n c k) (hB : Below N w w') (hb : b < N) : CurB w' b a n c k := by
  obtain ⟨sd, h2⟩ := h.c2
  exact ⟨h.le, (hB.cell (p := ⟨b, 0, none⟩) hb).trans h.c0, (hB.cell (p := ⟨b, 1, none⟩) hb).trans h.c1, ⟨sd, (hB.cell (p := ⟨b, 2, none⟩) hb).trans h2⟩, (hB.frozen (p := ⟨b, 1, none⟩) hb).trans h.f1, (hB.frozen (p := ⟨b, 2, none⟩) hb).trans h.f2, h.apart⟩
theorem gBM {w W w2 : World} {r : Option Nat} (h : w.grownBy W r) (hB : Below w.heap.size W w2) : w.grownBy w2 r :=
  ⟨hB.os.trans h.os, hB.tape.trans h.tape, hB.output.trans h.output, Nat.le_trans h.size hB.size, fun k hk hne => (hB.block k hk).trans (h.block k hk hne)⟩
/-- A list of links is being drawn, from the world w on. -/
structure KS (w : World) (b : Nat) (a : Option Addr) (n c : Nat) (wr : World) (v : Value) (ks : List Lk) (q : Nat) : Prop where
  row : wr.ownsRow w.heap.size 35 5 v ks.length (ks.flatMap Lk.cells)
  small : ∀ k ∈ ks, k.drawn
  by_ : ByS wr a n
  cur : CurB wr b a n c q
  gr : w.grownBy wr (some b)
theorem KS.grown {w wr w' : World} {b : Nat} {a : Option Addr} {n c q q' : Nat} {v : Value} {ks : List Lk} (h : KS w b a n c wr v ks q) (hb : b < w.heap.size) (hg : wr.grownBy w' (some b)) (hB : ByS w' a n) (hC : CurB w' b a n c q') : KS w b a n c w' v ks q' :=
  ⟨h.row.kept hg (by
    rcases h.row.2 with ⟨rfl, _⟩ | ⟨g, cap, cur, rfl, hgb, _⟩
    · exact .inl rfl
    · right
      simp only [Value.ownBlock, ne_eq, Option.some.injEq]
      omega), h.small, hB, hC, g2 h.gr hg⟩
theorem KS.below {w wr w' : World} {b : Nat} {a : Option Addr} {n c q : Nat} {v : Value} {ks : List Lk} (h : KS w b a n c wr v ks q) (hB : Below wr.heap.size wr w') : KS w b a n c w' v ks q :=
  ⟨ownsRow_below h.row hB, h.small, h.by_.below hB, h.cur.below hB, gB h.gr hB⟩
theorem KS.other {w wr w' : World} {b : Nat} {a : Option Addr} {n c q : Nat} {v v' : Value} {ks ks' : List Lk} (h : KS w b a n c wr v ks q) (hB : Below wr.heap.size wr w') (hrow : w'.ownsRow wr.heap.size 35 5 v' ks'.length (ks'.flatMap Lk.cells)) (hs : ∀ k ∈ ks', k.drawn) : KS w b a n c w' v' ks' q :=
  ⟨Go.Joins.ownsRow_le hrow h.gr.size, hs, h.by_.below hB, h.cur.below hB, gB h.gr hB⟩
theorem KS.start {w wr : World} {b : Nat} {a : Option Addr} {n c q : Nat} (k : Lk) (hk : k.drawn) (hB : ByS wr a n) (hC : CurB wr b a n c q) (hg : w.grownBy wr (some b)) : KS w b a n c (wr.alloc (.cells #[.string k.who, .string k.to, .int .i64 k.se, .int .i64 k.fr, .int .i64 k.un] 35)) (.slice (some ⟨wr.heap.size, 0, none⟩) 1 1) [k] q :=
  have hA : Below wr.heap.size wr (wr.alloc (.cells #[.string k.who, .string k.to, .int .i64 k.se, .int .i64 k.fr, .int .i64 k.un] 35)) := (Below.refl _ wr).alloc (Nat.le_refl _) _
  ⟨by simpa using Go.Joins.ownsRow_le (row_one5 wr k) hg.size, fun x hx => by rw [List.mem_singleton] at hx; subst hx; exact hk, hB.below hA, hC.below hA, gB hg hA⟩
theorem ext_drawn {ks : List Lk} {t : ByteArray} {se nw li : Int} (h : ∀ k ∈ ks, k.drawn) (ht : t.size ≤ 100 ∧ noN t) : ∀ k ∈ extL ks t se nw li, k.drawn := by
  unfold extL
  cases hk : ks[ks.length - 1]? with
  | none => intro k hx; cases hx
  | some k0 =>
    simp only
    split
    · intro k hx
      rw [List.mem_append, List.mem_singleton] at hx
      rcases hx with hx | rfl
      · exact h k hx
      · exact ⟨(h k0 (List.mem_of_getElem? hk)).2.1, ht.1, ht.2⟩
    · intro k hx; cases hx
theorem ext_some {ks : List Lk} {t : ByteArray} {se nw li : Int} (h : extB ks t se nw li = true) : 1 ≤ (extL ks t se nw li).length := by
  unfold extL
  cases hk : ks[ks.length - 1]? with
  | none => unfold extB at h; rw [hk] at h; cases h
  | some k0 =>
    simp only
    rw [if_pos h]
    simp
theorem lflat_set : ∀ (ks : List Lk) (i j : Nat) (u : Value) (k : Lk) (hi : i < ks.length), j < 5 → k.cells = ks[i].cells.set j u → (ks.flatMap Lk.cells).set (i * 5 + j) u = (ks.set i k).flatMap Lk.cells
  | [], i, j, u, k, hi, _, _ => by simp at hi
  | x :: ks, 0, j, u, k, hi, hj, hu => by
    rw [List.flatMap_cons, List.set_append_left _ _ (by simp; omega), List.set_cons_zero, List.flatMap_cons, hu]
    simp
  | x :: ks, i + 1, j, u, k, hi, hj, hu => by
    rw [List.flatMap_cons, List.set_append_right _ _ (by simp; omega), List.set_cons_succ, List.flatMap_cons, ← lflat_set ks i j u k (by simpa using hi) hj (by simpa using hu)]
    congr 2
    simp
    omega
theorem set_drawn {ks : List Lk} {i : Nat} {k : Lk} (h : ∀ k ∈ ks, k.drawn) (hk : k.drawn) : ∀ x ∈ ks.set i k, x.drawn := by
  intro x hx
  rcases List.mem_or_eq_of_mem_set hx with hx | rfl
  · exact h x hx
  · exact hk

set_option maxHeartbeats 4000000 in
set_option maxRecDepth 100000 in
theorem drawToken_any (b : Nat) (a : Option Addr) (n c k : Nat) (w : World) (hB : ByS w a n) (hC : CurB w b a n c k) (hk : k ≤ 100000) :
    Calls Tryz.prog 26 #[.pointer (some ⟨b, 0, none⟩)] w fun e w' => ∃ (v : Value) (ks : List Lk), e = .returned v ∧ ks.length ≤ 5 ∧ (∀ k ∈ ks, k.drawn) ∧ LkS w' v ks ∧ w.grownBy w' (some b) := by
  obtain ⟨i0, hi, hz0, hz1, hz2⟩ := info_parts infoLink
  have hbl := hC.lt
  go_enter Tryz.func26, Tryz.ntmps26
  go_wp2_with fail
  refine (drawNm_any b a n c k w hB hC (by omega)).mono ?_
  rintro e w1 ⟨wh, hwh, rfl, hB1, ⟨k1, hk1, hC1⟩, hg1⟩
  clear hB hC
  go_wp2_with fail
  refine (drawNm_any b a n c k1 w1 hB1 hC1 (by omega)).mono ?_
  rintro e w2 ⟨tq, htq, rfl, hB2, ⟨k2, hk2, hC2⟩, hg2⟩
  have hG2 := g2 hg1 hg2
  clear hB1 hC1 hg1 hg2
  go_wp2_with fail
  refine (pick_any b a n c k2 9 w2 (by omega) (by omega) hB2 hC2 (by omega)).mono ?_
  rintro e w3 ⟨p1, hp1, rfl, hC3, hg3⟩
  have hB3 := curB_grown hB2 hC2.apart hC2.lt hg3
  have hG3 := g2 hG2 hg3
  clear hB2 hC2 hG2 hg3
  go_wp2_with fail
  refine (pick_any b a n c (k2 + 1) 9 w3 (by omega) (by omega) hB3 hC3 (by omega)).mono ?_
  rintro e w4 ⟨p2, hp2, rfl, hC4, hg4⟩
  have hB4 := curB_grown hB3 hC3.apart hC3.lt hg4
  have hG4 := g2 hG3 hg4
  clear hB3 hC3 hG3 hg4
  go_wp2_with fail
  refine (pick_any b a n c (k2 + 1 + 1) 40 w4 (by omega) (by omega) hB4 hC4 (by omega)).mono ?_
  rintro e w5 ⟨p3, hp3, rfl, hC5, hg5⟩
  have hB5 := curB_grown hB4 hC4.apart hC4.lt hg5
  have hG5 := g2 hG4 hg5
  clear hB4 hC4 hG4 hg5
  go_wp2_with fail
  have hK0 := KS.start ⟨wh, tq, 1 + (p1 : Int), (p2 : Int), 9 + (p3 : Int)⟩ ⟨hwh.1, htq.1, htq.2⟩ hB5 hC5 hG5
  simp only at hK0
  have HK0 := hid hK0
  refine (pick_any b a n c (k2 + 1 + 1 + 1) 4 _ (by omega) (by omega) hK0.by_ hK0.cur (by omega)).mono ?_
  rintro e w6 ⟨j0, hj0, rfl, hC6, hg6⟩
  have hK6 := hK0.grown hbl hg6 (curB_grown hK0.by_ hK0.cur.apart hK0.cur.lt hg6) hC6
  clear hB5 hC5 hG5 hC6 hg6 hK0 HK0
  go_wp2_with fail
  go_loopw [3, 4] (fun sv nv wr => ∃ (v : Value) (ks : List Lk) (j q : Nat), v = sv ∧ nv = .int .i64 j ∧ j ≤ 3 ∧ ks.length + j ≤ 4 ∧ 1 ≤ ks.length ∧ q + 60 * j ≤ k + 300 ∧ KS w b a n c wr v ks q) (fun _ nv _ => (intOf nv).toNat)
  case atStart => exact ⟨_, _, j0, _, rfl, rfl, by omega, by simp; omega, by simp, by omega, hK6⟩
  case round =>
    obtain ⟨v, ks, j, q, rfl, rfl, hj, hlen, hpos, hq, hK⟩ := hrel
    clear hK6
    by_cases hjz : 0 < j
    · have d0 : decide ((j : Int) > 0) = true := by simp; omega
      go_wp2_with fail
      refine (drawNm_any b a n c q wr hK.by_ hK.cur (by omega)).mono ?_
      rintro e u1 ⟨t2, ht2, rfl, hB1, ⟨q1, hq1, hC1⟩, hg1⟩
      have hK1 := hK.grown hbl hg1 hB1 hC1
      clear hK hB1 hC1 hg1
      go_wp2_with fail
      refine (pick_any b a n c q1 9 u1 (by omega) (by omega) hK1.by_ hK1.cur (by omega)).mono ?_
      rintro e u2 ⟨s1, hs1, rfl, hC2, hg2⟩
      have hK2 := hK1.grown hbl hg2 (curB_grown hK1.by_ hK1.cur.apart hK1.cur.lt hg2) hC2
      clear hK1 hC2 hg2
      go_wp2_with fail
      refine (pick_any b a n c (q1 + 1) 20 u2 (by omega) (by omega) hK2.by_ hK2.cur (by omega)).mono ?_
      rintro e u3 ⟨s2, hs2, rfl, hC3, hg3⟩
      have hK3 := hK2.grown hbl hg3 (curB_grown hK2.by_ hK2.cur.apart hK2.cur.lt hg3) hC3
      clear hK2 hC3 hg3
      go_wp2_with fail
      refine (pick_any b a n c (q1 + 1 + 1) 30 u3 (by omega) (by omega) hK3.by_ hK3.cur (by omega)).mono ?_
      rintro e u4 ⟨s3, hs3, rfl, hC4, hg4⟩
      have hK4 := hK3.grown hbl hg4 (curB_grown hK3.by_ hK3.cur.apart hK3.cur.lt hg4) hC4
      clear hK3 hC4 hg4
      go_wp2_with fail
      refine (specExtendToken_any v ks t2 _ _ _ u4 (by omega) (fun x hx => (hK4.small x hx).fits) (by have := ht2.1; omega) (LkS.own hK4.row)).mono ?_
      rintro e u5 ⟨v', rfl, hrow, hB5⟩
      have HL := hid (extL_le ks t2 (1 + (s1 : Int)) s2 s3)
      have HD := hid (ext_drawn (se := 1 + (s1 : Int)) (nw := s2) (li := s3) hK4.small ht2)
      have HP := hid (fun h => ext_some (ks := ks) (t := t2) (se := 1 + (s1 : Int)) (nw := s2) (li := s3) h)
      generalize extL ks t2 (1 + (s1 : Int)) s2 s3 = ls at *
      generalize extB ks t2 (1 + (s1 : Int)) s2 s3 = z at *
      cases z
      · go_wp2_with fail
        go_roundw
        case rel => exact ⟨v, ks, j - 1, q1 + 1 + 1 + 1, rfl, by go_num, by omega, by omega, by omega, by omega, hK4.below hB5⟩
        case measure => simp [intOf]; omega
      · go_wp2_with fail
        go_roundw
        case rel => exact ⟨v', ls, j - 1, q1 + 1 + 1 + 1, rfl, by go_num, by omega, by have := HL.out; omega, HP.out trivial, by omega, hK4.other hB5 hrow HD.out⟩
        case measure => simp [intOf]; omega
    · obtain rfl : j = 0 := by omega
      have d0 : decide (((0 : Nat) : Int) > 0) = false := by decide
      rcases row_form hK.row with ⟨_, hl0⟩ | ⟨g, cap, rfl, hg, hcap⟩
      · omega
      go_wp2_with fail
      refine (pick_any b a n c q 30 wr (by omega) (by omega) hK.by_ hK.cur (by omega)).mono ?_
      rintro e u1 ⟨x, hx, rfl, hC1, hg1⟩
      have hK1 := hK.grown hbl hg1 (curB_grown hK.by_ hK.cur.apart hK.cur.lt hg1) hC1
      clear hK hC1 hg1
      obtain h | h | h | h | h : x = 0 ∨ x = 1 ∨ x = 2 ∨ x = 3 ∨ 4 ≤ x := by omega
      · subst h
        obtain ⟨m, hm⟩ : ∃ m, m = ks.length - 1 := ⟨_, rfl⟩
        have hml : m < ks.length := by omega
        have hw1 : IntKind.i64.wrap ((ks.length : Int) - 1) = (m : Int) := by rw [IntKind.wrap_i64]; omega
        have hw2 : (m : Int) < (ks.length : Int) := by omega
        clear hm
        go_wp2_with fail
        refine (amongNew_any b a n c (q + 1) [0, 100000, 100001] u1 (by decide) (by decide) hK1.by_ hK1.cur (by omega)).mono ?_
        rintro e u2 ⟨z, _, rfl, hB2, hC2, hg2⟩
        have hK2 := hK1.grown hbl hg2 hB2 hC2
        have hrow := hK2.row
        have hf := hrow.frozenAt (m * 5 + 2)
        have hcell := hrow.cellAt (m * 5 + 2) (by omega)
        rw [lflat_at ks m 2 hml (by omega)] at hcell
        simp only [List.getElem?_cons_zero, List.getElem?_cons_succ] at hcell
        have hfin := (hrow.stored (m * 5 + 2) (.int .i64 z)).1
        rw [lflat_set ks m 2 _ ⟨ks[m].who, ks[m].to, z, ks[m].fr, ks[m].un⟩ hml (by omega) (by simp)] at hfin
        have hsm := set_drawn (i := m) (k := ⟨ks[m].who, ks[m].to, z, ks[m].fr, ks[m].un⟩) hK2.small (show Lk.drawn _ from (hK2.small ks[m] (List.getElem_mem hml)))
        have hll : (ks.set m ⟨ks[m].who, ks[m].to, z, ks[m].fr, ks[m].un⟩).length = ks.length := List.length_set
        have hG := gBM hK2.gr ((Below.refl w.heap.size u2).setCell (p := ⟨g, m * 5 + 2, none⟩) hg (.int .i64 z))
        have HF := hid (show LkS (u2.setCell ⟨g, m * 5 + 2, none⟩ (.int .i64 z)) (.slice (some ⟨g, 0, none⟩) ks.length cap) (ks.set m ⟨ks[m].who, ks[m].to, z, ks[m].fr, ks[m].un⟩) from LkS.own (by rw [hll]; exact hfin))
        clear hfin
        have HLL := hid hll
        clear hll
        generalize ks.set m ⟨ks[m].who, ks[m].to, z, ks[m].fr, ks[m].un⟩ = ls at *
        clear hK1 hK2 hB2 hC2 hg2
        go_wp2_with fail
        go_ret
        exact ⟨_, ls, rfl, by rw [HLL.out]; omega, hsm, HF.out, hG⟩
      · subst h
        have hp0 : (0 : Int) < (ks.length : Int) := by omega
        go_wp2_with fail
        refine (amongNew_any b a n c (q + 1) [-1, 100000, 100001] u1 (by decide) (by decide) hK1.by_ hK1.cur (by omega)).mono ?_
        rintro e u2 ⟨z, _, rfl, hB2, hC2, hg2⟩
        have hK2 := hK1.grown hbl hg2 hB2 hC2
        have hrow := hK2.row
        have hf := hrow.frozenAt 4
        have hcell := hrow.cellAt 4 (by omega)
        rw [show (ks.flatMap Lk.cells)[4]? = _ from lflat_at ks 0 4 hpos (by omega)] at hcell
        simp only [List.getElem?_cons_zero, List.getElem?_cons_succ] at hcell
        have hfin := (hrow.stored 4 (.int .i64 z)).1
        rw [show (ks.flatMap Lk.cells).set 4 (.int .i64 z) = _ from lflat_set ks 0 4 _ ⟨ks[0].who, ks[0].to, ks[0].se, ks[0].fr, z⟩ hpos (by omega) (by simp)] at hfin
        have hsm := set_drawn (i := 0) (k := ⟨ks[0].who, ks[0].to, ks[0].se, ks[0].fr, z⟩) hK2.small (show Lk.drawn _ from (hK2.small ks[0] (List.getElem_mem hpos)))
        have hll : (ks.set 0 ⟨ks[0].who, ks[0].to, ks[0].se, ks[0].fr, z⟩).length = ks.length := List.length_set
        have hG := gBM hK2.gr ((Below.refl w.heap.size u2).setCell (p := ⟨g, 4, none⟩) hg (.int .i64 z))
        have HF := hid (show LkS (u2.setCell ⟨g, 4, none⟩ (.int .i64 z)) (.slice (some ⟨g, 0, none⟩) ks.length cap) (ks.set 0 ⟨ks[0].who, ks[0].to, ks[0].se, ks[0].fr, z⟩) from LkS.own (by rw [hll]; exact hfin))
        clear hfin
        have HLL := hid hll
        clear hll
        generalize ks.set 0 ⟨ks[0].who, ks[0].to, ks[0].se, ks[0].fr, z⟩ = ls at *
        clear hK1 hK2 hB2 hC2 hg2
        go_wp2_with fail
        go_ret
        exact ⟨_, ls, rfl, by rw [HLL.out]; omega, hsm, HF.out, hG⟩
      · subst h
        have hp0 : (0 : Int) < (ks.length : Int) := by omega
        have hown := hK1.row
        have hsz := hK1.gr.size
        have hr2 := hK1.small _ (List.getElem_mem hpos)
        obtain ⟨b', off', he, _, _, y0, y1, y2, y3, y4⟩ := (LkS.own hown).at hpos
        obtain ⟨rfl, rfl⟩ : g = b' ∧ 0 = off' := by simpa using he
        simp only [Nat.zero_add, Nat.zero_mul] at y0 y1 y2 y3 y4
        clear he
        generalize ks[0] = r2 at *
        go_wp2_with (at_builtin; refine wpList_append_own _ rfl _ _ 23 rfl w.heap.size 35 i0 _ 5 56 Tryz.underlying23 hi hz0 hz1 hz2 rfl (by decide) _ _ _ rfl (hown.alloc _) ⟨u1.heap.size, 0, none⟩ 1 1 r2.cells rfl rfl (cell_five_k u1 r2) (by intro u hu; simp at hu; rcases hu with rfl | rfl | rfl | rfl | rfl <;> rfl) (by unfold maxLen; first | omega | (simp <;> omega)) (by first | omega | (simp <;> omega)) (by first | omega | (simp <;> omega)) ?_; intro v2 w6 hown' hgrow _)
        have HF := hid (show LkS w6 v2 (ks ++ [r2]) from LkS.own (by simpa using hown'))
        have hG := gBM hK1.gr (below_appended hsz hown hgrow)
        have hsm : ∀ x ∈ ks ++ [r2], x.drawn := fun x hx => by
          rw [List.mem_append, List.mem_singleton] at hx
          rcases hx with hx | rfl
          · exact hK1.small x hx
          · exact hr2
        obtain ⟨a2, c2, rfl⟩ := ownsRow_len hown'
        go_wp2_with fail
        go_ret
        exact ⟨_, ks ++ [r2], rfl, by simp; omega, hsm, HF.out, hG⟩
      · subst h
        go_wp2_with fail
        go_ret
        exact ⟨_, [], rfl, by simp, (fun _ h => by cases h), .inl ⟨none, 0, rfl, rfl⟩, hK1.gr⟩
      · have x0 : ((x : Int) == 0) = false := by simp; omega
        have x1 : ((x : Int) == 1) = false := by simp; omega
        have x2 : ((x : Int) == 2) = false := by simp; omega
        have x3 : ((x : Int) == 3) = false := by simp; omega
        go_wp2_with fail
        go_ret
        exact ⟨_, ks, rfl, by omega, hK1.small, LkS.own hK1.row, hK1.gr⟩

set_option maxHeartbeats 1000000 in
theorem drawGT_any (a : Option Addr) (n c : Nat) (w : World) (hle : n ≤ c) (hB : ByS w a n) (hap : ∀ p, a = some p → p.block < w.heap.size) :
    Calls Tryz.prog 13 #[.slice a n c] w fun e w' => ∃ (v : Value) (ks : List Lk), e = .returned v ∧ ks.length ≤ 5 ∧ (∀ k ∈ ks, k.drawn) ∧ LkS w' v ks ∧ Below w.heap.size w w' := by
  have hBl : Below w.heap.size w (w.alloc (.cells #[.slice a n c, .int .i64 0, .int .u64 0] 55)) := (Below.refl _ w).alloc (Nat.le_refl _) _
  have hC0 : CurB (w.alloc (.cells #[.slice a n c, .int .i64 0, .int .u64 0] 55)) w.heap.size a n c 0 := ⟨hle, by simp, by simp, ⟨0, by simp⟩, by simp, by simp, hap⟩
  have hB0 := hB.below hBl
  go_enter Tryz.func13, Tryz.ntmps13
  go_wp2_with fail
  refine (drawToken_any w.heap.size a n c 0 _ hB0 hC0 (by omega)).mono ?_
  rintro e w1 ⟨v, ks, rfl, hlen, hsm, hr, hg⟩
  have hBB : Below w.heap.size w w1 := hBl.grown hg hBl.size (fun k hk => by cases hk; exact Nat.le_refl _)
  obtain ⟨ao, capo, rfl⟩ := hr.len
  go_wp2_with fail
  go_ret
  exact ⟨_, ks, rfl, hlen, hsm, hr, hBB⟩

set_option maxHeartbeats 1000000 in
theorem drawTT_any (a : Option Addr) (n c : Nat) (w : World) (hle : n ≤ c) (hB : ByS w a n) (hap : ∀ p, a = some p → p.block < w.heap.size) :
    Calls Tryz.prog 4 #[.slice a n c] w fun e w' => ∃ (v : Value) (ks : List Lk), e = .returned v ∧ ks.length ≤ 5 ∧ (∀ k ∈ ks, k.drawn) ∧ LkS w' v ks ∧ Below w.heap.size w w' := by
  go_enter Tryz.func4, Tryz.ntmps4
  go_wp2_with fail
  refine (drawGT_any a n c _ hle hB hap).mono ?_
  rintro e w1 ⟨v, ks, rfl, hlen, hsm, hr, hBB⟩
  obtain ⟨ao, capo, rfl⟩ := hr.len
  go_wp2_with fail
  go_ret
  exact ⟨_, ks, rfl, hlen, hsm, hr, hBB⟩

end Go.Proofs.YtecgonopefeplaaGreatDoor
