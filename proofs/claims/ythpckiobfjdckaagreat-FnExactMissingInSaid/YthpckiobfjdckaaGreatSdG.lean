/-
  Chapter 6: good sides, by the specification and by the program.
-/
import Derived.Deep.DeepCutAuto
import Derived.Test.YthpckiobfjdckaaGreatSdV
import Derived.Test.YthpckiobfjdckaaGreatSnS
import Derived.Test.YthpckiobfjdckaaGreatPlainR
namespace Go.Proofs.YthpckiobfjdckaaGreat
open Go.RowKit Go.Shelf

def zrU : Ru := ⟨false, ByteArray.empty, ByteArray.empty, ByteArray.empty⟩
/-- Nothing is in force. -/
def zeB (s : Sn) : Bool := (s.num == 0) && (((s.pol.length : Int) == 0) && ((s.rv.length : Int) == 0))
def foB (s : Sn) : Bool := zeB s || snB s
/-- A place is as said. -/
def plB (h : Bool) (r : Ru) (z : Int) : Bool := if h = true then (if (z == 0) = true then r.good else r.same zrU && numB z) else r.same zrU && (z == 0)
def plA (s : Sd) (i : Nat) : Bool := plB ((s.ha[i]?).getD false) ((s.ru[i]?).getD zrU) ((s.se[i]?).getD 0)
def plT (s : Sd) (k : Nat) : Bool := (List.range k).all (plA s)
def lnB (s : Sd) : Bool := ((s.ru.length : Int) == (s.ha.length : Int)) && (((s.se.length : Int) == (s.ha.length : Int)) && decide ((s.ha.length : Int) ≤ 230))
def coB (s : Sd) : Bool := if (s.co == 0) = true then (s.ha.length : Int) == 0 else decide (s.fo.num < s.co) && decide (s.co ≤ 100000)
/-- A side is good. -/
def sdB (s : Sd) : Bool := foB s.fo && (lnB s && (coB s && plT s s.ha.length))
theorem sd_no1 {s : Sd} (h : foB s.fo = false) : sdB s = false := by unfold sdB; rw [h]; rfl
theorem sd_no2 {s : Sd} (h : lnB s = false) : sdB s = false := by unfold sdB; rw [h]; simp
theorem sd_no3 {s : Sd} (h : coB s = false) : sdB s = false := by unfold sdB; rw [h]; simp
theorem plT_zero (s : Sd) : plT s 0 = true := by simp [plT]
theorem plT_succ (s : Sd) (k : Nat) : plT s (k + 1) = (plT s k && plA s k) := by
  unfold plT
  rw [List.range_succ, List.all_append]
  simp
theorem sd_no4 {s : Sd} {k : Nat} (hk : k < s.ha.length) (h : plA s k = false) : sdB s = false := by
  have : plT s s.ha.length = false := List.all_eq_false.2 ⟨k, List.mem_range.2 hk, by rw [h]; simp⟩
  unfold sdB
  rw [this]
  simp
theorem sd_yes {s : Sd} (h1 : foB s.fo = true) (h2 : lnB s = true) (h3 : coB s = true) (h4 : plT s s.ha.length = true) : sdB s = true := by
  unfold sdB
  rw [h1, h2, h3, h4]
  rfl
theorem sd_parts {s : Sd} (h : sdB s = true) : foB s.fo = true ∧ lnB s = true ∧ coB s = true ∧ plT s s.ha.length = true := by
  unfold sdB at h
  simpa [Bool.and_eq_true] using h
theorem lnB_parts {s : Sd} (h : lnB s = true) : s.ru.length = s.ha.length ∧ s.se.length = s.ha.length ∧ s.ha.length ≤ 230 := by
  unfold lnB at h
  simp at h
  omega
theorem plA_at {s : Sd} {k : Nat} (h : k < s.ha.length) (hr : k < s.ru.length) (hz : k < s.se.length) : plA s k = plB s.ha[k] s.ru[k] s.se[k] := by
  unfold plA
  rw [List.getElem?_eq_getElem h, List.getElem?_eq_getElem hr, List.getElem?_eq_getElem hz]
  rfl
theorem foB_num {s : Sn} (h : foB s = true) : 0 ≤ s.num ∧ s.num ≤ 100000 := by
  unfold foB at h
  rw [Bool.or_eq_true] at h
  rcases h with h | h
  · unfold zeB at h
    simp at h
    omega
  · have := snB_num h
    omega
theorem ne_of_bne {a b : Int} (h : (a != b) = true) : (a == b) = false := by
  rw [bne] at h
  cases hq : (a == b)
  · rfl
  · rw [hq] at h; cases h
theorem eq_of_bne {a b : Int} (h : (a != b) = false) : a = b := by
  rw [bne] at h
  cases hq : (a == b)
  · rw [hq] at h; cases h
  · exact eq_of_beq hq
theorem ln_no1 {s : Sd} (h : ((s.ru.length : Int) != (s.ha.length : Int)) = true) : lnB s = false := by unfold lnB; rw [ne_of_bne h]; rfl
theorem ln_no2 {s : Sd} (h : ((s.se.length : Int) != (s.ha.length : Int)) = true) : lnB s = false := by
  unfold lnB
  rw [ne_of_bne h]
  cases ((s.ru.length : Int) == (s.ha.length : Int)) <;> rfl
theorem ln_no3 {s : Sd} (h : decide ((230 : Int) < (s.ha.length : Int)) = true) : lnB s = false := by
  unfold lnB
  rw [decide_eq_false (p := (s.ha.length : Int) ≤ 230) (by have := of_decide_eq_true h; omega)]
  cases ((s.ru.length : Int) == (s.ha.length : Int)) <;> cases ((s.se.length : Int) == (s.ha.length : Int)) <;> rfl
theorem ln_yes {s : Sd} (h1 : ((s.ru.length : Int) != (s.ha.length : Int)) = false) (h2 : ((s.se.length : Int) != (s.ha.length : Int)) = false) (h3 : decide ((230 : Int) < (s.ha.length : Int)) = false) : lnB s = true := by
  unfold lnB
  rw [eq_of_bne h1, eq_of_bne h2, decide_eq_true (p := (s.ha.length : Int) ≤ 230) (by have := of_decide_eq_false h3; omega)]
  simp
theorem co_no1 {s : Sd} (h : (s.co == 0) = true) (h2 : ((s.ha.length : Int) == 0) = false) : coB s = false := by unfold coB; rw [if_pos h, h2]
theorem co_yes1 {s : Sd} (h : (s.co == 0) = true) (h2 : ((s.ha.length : Int) == 0) = true) : coB s = true := by unfold coB; rw [if_pos h, h2]
theorem co_no2 {s : Sd} (h : (s.co == 0) = false) (h2 : ¬ (s.fo.num < s.co ∧ s.co ≤ 100000)) : coB s = false := by
  unfold coB
  rw [if_neg (by rw [h]; exact Bool.false_ne_true), ← Bool.decide_and]
  exact decide_eq_false h2
theorem co_yes2 {s : Sd} (h : (s.co == 0) = false) (h1 : s.fo.num < s.co) (h2 : s.co ≤ 100000) : coB s = true := by
  unfold coB
  rw [if_neg (by rw [h]; exact Bool.false_ne_true), decide_eq_true h1, decide_eq_true h2]
  rfl
theorem zrU_bad : zrU.good = false := by decide +kernel
theorem zero_rule {r : Ru} (h : r.same zrU = true) : r.good = false := by rw [same_eq h]; exact zrU_bad
theorem neq_zr (r : Ru) (w : World) : (binOp .neq 63 r.val (.agg #[.bool false, .string ⟨#[]⟩, .string ⟨#[]⟩, .string ⟨#[]⟩])).run Tryz.prog w = .ok (.bool (!(r.same zrU))) w := neq_ru r zrU w
theorem eql_zr (r : Ru) (w : World) : (binOp .eql 63 r.val (.agg #[.bool false, .string ⟨#[]⟩, .string ⟨#[]⟩, .string ⟨#[]⟩])).run Tryz.prog w = .ok (.bool (r.same zrU)) w := eql_ru r zrU w

set_option maxHeartbeats 1000000 in
theorem l3Num_any (n : Int) (w : World) :
    Calls Tryz.prog 88 #[.int .i64 n] w fun e w' => e = .returned (.bool (numB n)) ∧ w' = w := by
  go_enter Tryz.func88, Tryz.ntmps88
  go_wp2_with (go_at_call 59; refine (l1In_any n 1 100000 _).mono ?_; rintro e w1 ⟨rfl, rfl⟩)
  go_ret
  exact ⟨rfl, rfl⟩

set_option maxHeartbeats 1000000 in
theorem l6Zero_any (v : Value) (s : Sn) (w : World) (hs : s.short) (h : SnA w v s) :
    Calls Tryz.prog 86 #[v] w fun e w' => e = .returned (.bool (zeB s)) ∧ Below w.heap.size w w' := by
  obtain ⟨vp, vr, rfl, h1, h2⟩ := h
  obtain ⟨l1, l2, _⟩ := hs
  obtain ⟨ap, cp, rfl⟩ := h1.len
  obtain ⟨ar, cr, rfl⟩ := h2.numLen
  cases e0 : (s.num == 0)
  · have HR := hid (show zeB s = false by unfold zeB; rw [e0]; rfl)
    go_enter Tryz.func86, Tryz.ntmps86
    go_wp2
    go_ret
    exact ⟨ret_bool HR.out.symm, (Below.refl _ w).alloc (Nat.le_refl _) _⟩
  · cases e1 : ((s.pol.length : Int) == 0)
    · have HR := hid (show zeB s = false by unfold zeB; rw [e0, e1]; rfl)
      go_enter Tryz.func86, Tryz.ntmps86
      go_wp2
      go_ret
      exact ⟨ret_bool HR.out.symm, (Below.refl _ w).alloc (Nat.le_refl _) _⟩
    · have HR := hid (show zeB s = ((s.rv.length : Int) == 0) by unfold zeB; rw [e0, e1]; rfl)
      go_enter Tryz.func86, Tryz.ntmps86
      go_wp2
      go_ret
      exact ⟨ret_bool HR.out.symm, (Below.refl _ w).alloc (Nat.le_refl _) _⟩

set_option maxHeartbeats 2000000 in
theorem goodForce_any (v : Value) (s : Sn) (w : World) (hs : s.short) (h : SnR w v s) :
    Calls Tryz.prog 89 #[v] w fun e w' => e = .returned (.bool (foB s)) ∧ Below w.heap.size w w' := by
  have h' := h
  have hs' := hs
  obtain ⟨vp, vr, rfl, h1, h2⟩ := h
  obtain ⟨l1, l2, _⟩ := hs
  obtain ⟨ap, cp, rfl⟩ := h1.len
  obtain ⟨ar, cr, rfl⟩ := h2.len
  have hB0 : Below w.heap.size w (w.alloc (.cells #[.int .i64 s.num, .slice ap s.pol.length cp, .slice ar s.rv.length cr] 32)) := (Below.refl _ w).alloc (Nat.le_refl _) _
  have F := Three.new w (.int .i64 s.num) (.slice ap s.pol.length cp) (.slice ar s.rv.length cr) 32
  have HF := hid (show foB s = (zeB s || snB s) from rfl)
  cases e0 : (s.num == 0)
  · have HZ := hid (show zeB s = false by unfold zeB; rw [e0]; rfl)
    go_enter Tryz.func89, Tryz.ntmps89
    go_wp2_with fail
    generalize w.alloc (.cells #[.int .i64 s.num, .slice ap s.pol.length cp, .slice ar s.rv.length cr] 32) = W0 at *
    refine (implGoodSnapshot_any _ s _ hs' (h'.below hB0)).mono ?_
    rintro e w1 ⟨rfl, hB1⟩
    go_wp2_with fail
    go_ret
    exact ⟨ret_bool (by rw [HF.out, HZ.out]; rfl), below_one hB0 hB1⟩
  · cases e1 : ((s.pol.length : Int) == 0)
    · have HZ := hid (show zeB s = false by unfold zeB; rw [e0, e1]; rfl)
      go_enter Tryz.func89, Tryz.ntmps89
      go_wp2_with fail
      generalize w.alloc (.cells #[.int .i64 s.num, .slice ap s.pol.length cp, .slice ar s.rv.length cr] 32) = W0 at *
      refine (implGoodSnapshot_any _ s _ hs' (h'.below hB0)).mono ?_
      rintro e w1 ⟨rfl, hB1⟩
      go_wp2_with fail
      go_ret
      exact ⟨ret_bool (by rw [HF.out, HZ.out]; rfl), below_one hB0 hB1⟩
    · cases e2 : ((s.rv.length : Int) == 0)
      · have HZ := hid (show zeB s = false by unfold zeB; rw [e0, e1, e2]; rfl)
        go_enter Tryz.func89, Tryz.ntmps89
        go_wp2_with fail
        generalize w.alloc (.cells #[.int .i64 s.num, .slice ap s.pol.length cp, .slice ar s.rv.length cr] 32) = W0 at *
        refine (implGoodSnapshot_any _ s _ hs' (h'.below hB0)).mono ?_
        rintro e w1 ⟨rfl, hB1⟩
        go_wp2_with fail
        go_ret
        exact ⟨ret_bool (by rw [HF.out, HZ.out]; rfl), below_one hB0 hB1⟩
      · have HZ := hid (show zeB s = true by unfold zeB; rw [e0, e1, e2]; rfl)
        go_enter Tryz.func89, Tryz.ntmps89
        go_wp2_with fail
        go_ret
        exact ⟨ret_bool (by rw [HF.out, HZ.out]; rfl), hB0⟩

def b4B (s : Sd) : Bool := !(lnB s) || ((s.co == 0) && decide ((0 : Int) < (s.ha.length : Int)))
def b6B (s : Sd) : Bool := (s.co != 0) && !(inB (s.fo.num + 1) 100000 s.co)
theorem b4_bad {s : Sd} (h : b4B s = true) : sdB s = false := by
  unfold b4B at h
  rw [Bool.or_eq_true] at h
  rcases h with h | h
  · exact sd_no2 (by simpa using h)
  · rw [Bool.and_eq_true] at h
    exact sd_no3 (co_no1 h.1 (beq_eq_false_iff_ne.2 (by have := of_decide_eq_true h.2; omega)))
theorem b6_bad {s : Sd} (h : b6B s = true) : sdB s = false := by
  unfold b6B at h
  rw [Bool.and_eq_true] at h
  have h2 : inB (s.fo.num + 1) 100000 s.co = false := by have := h.2; simpa using this
  exact sd_no3 (co_no2 (ne_of_bne h.1) (fun hh => by have := of_decide_eq_false h2; omega))
theorem b46_good {s : Sd} (h : b4B s = false) (h6 : b6B s = false) : lnB s = true ∧ coB s = true := by
  unfold b4B at h
  rw [Bool.or_eq_false_iff] at h
  have hl : lnB s = true := by simpa using h.1
  refine ⟨hl, ?_⟩
  cases h0 : (s.co == 0)
  · have hb : (s.co != 0) = true := by rw [bne, h0]; rfl
    have h2 : inB (s.fo.num + 1) 100000 s.co = true := by unfold b6B at h6; rw [hb] at h6; simpa using h6
    have := of_decide_eq_true h2
    exact co_yes2 h0 (by omega) (by omega)
  · have := h.2
    rw [h0, Bool.true_and] at this
    exact co_yes1 h0 (beq_iff_eq.2 (by have := of_decide_eq_false this; omega))

set_option maxHeartbeats 8000000 in
set_option maxRecDepth 100000 in
theorem specGoodSide_any (v : Value) (s : Sd) (w : World) (hs : s.short) (h : SdA w v s) :
    Calls Tryz.prog 49 #[v] w fun e w' => e = .returned (.bool (sdB s)) ∧ Below w.heap.size w w' := by
  obtain ⟨vp, vr, vu, vh, vs, rfl, h1, h2, h3, h4, h5⟩ := h
  obtain ⟨hf, l3, l4, l5, lr⟩ := hs
  have hS : SnA w (.agg #[.int .i64 s.fo.num, vp, vr]) s.fo := ⟨_, _, rfl, h1, h2⟩
  obtain ⟨ap, cp, rfl⟩ := h1.len
  obtain ⟨ar, cr, rfl⟩ := h2.numLen
  obtain ⟨au, cu, rfl⟩ := h3.len
  obtain ⟨ah, ch, rfl⟩ := h4.bolLen
  obtain ⟨ai, ci, rfl⟩ := h5.numLen
  have hB0 : Below w.heap.size w (w.alloc (.cells #[.int .i64 s.fo.num, .slice ap s.fo.pol.length cp, .slice ar s.fo.rv.length cr, .int .i64 s.co, .slice au s.ru.length cu, .slice ah s.ha.length ch, .slice ai s.se.length ci] 51)) := (Below.refl _ w).alloc (Nat.le_refl _) _
  have F := Seven.new w (.int .i64 s.fo.num) (.slice ap s.fo.pol.length cp) (.slice ar s.fo.rv.length cr) (.int .i64 s.co) (.slice au s.ru.length cu) (.slice ah s.ha.length ch) (.slice ai s.se.length ci) 51
  have HF := hid (show foB s.fo = (zeB s.fo || snB s.fo) from rfl)
  obtain ⟨a0, a1, a2, a3, a4, a5, a6⟩ := F.c
  go_enter Tryz.func49, Tryz.ntmps49
  go_upto_region 1 with fail
  generalize w.alloc (.cells #[.int .i64 s.fo.num, .slice ap s.fo.pol.length cp, .slice ar s.fo.rv.length cr, .int .i64 s.co, .slice au s.ru.length cu, .slice ah s.ha.length ch, .slice ai s.se.length ci] 51) = W0 at *
  have hBw := hB0
  have F0 := F
  go_cut [17] (fun s0 wx => s0 = .bool (!(foB s.fo)) ∧ Below W0.heap.size W0 wx)
  case first =>
    cases hz : zeB s.fo
    · go_wp2_with fail
      refine (l6Zero_any _ s.fo _ hf (hS.below hB0)).mono ?_
      rintro e w1 ⟨rfl, hB1⟩
      rw [hz]
      replace F := F.below hB1
      replace hB0 := below_one hB0 hB1
      clear a0 a1 a2 a3 a4 a5 a6
      obtain ⟨a0, a1, a2, a3, a4, a5, a6⟩ := F.c
      go_wp2_with fail
      refine (specGoodSnapshot_any _ s.fo _ hf (hS.below hB0)).mono ?_
      rintro e w2 ⟨rfl, hB2⟩
      go_wp2_with fail
      go_meet
      exact ⟨by rw [HF.out, hz]; rfl, below_one hB1 hB2⟩
    · go_wp2_with fail
      refine (l6Zero_any _ s.fo _ hf (hS.below hB0)).mono ?_
      rintro e w1 ⟨rfl, hB1⟩
      rw [hz]
      go_wp2_with fail
      go_meet
      exact ⟨by rw [HF.out, hz]; rfl, hB1⟩
  case rest =>
    obtain ⟨rfl, hBW⟩ := hcut
    clear HF a0 a1 a2 a3 a4 a5 a6
    replace F := F0.below hBW
    replace hB0 := below_one hBw hBW
    obtain ⟨a0, a1, a2, a3, a4, a5, a6⟩ := F.c
    cases hfo : foB s.fo
    case false =>
      have HR := hid (show sdB s = false from sd_no1 hfo)
      go_wp2_with fail
      go_ret
      exact ⟨ret_bool HR.out.symm, hB0⟩
    have HFO := hid hfo
    have hnum := foB_num HFO.out
    clear hfo
    go_upto_region 4 with fail
    go_cut [45] (fun s0 wx => s0 = .bool (b4B s) ∧ Below W0.heap.size W0 wx)
    case first =>
      cases m1 : ((s.ru.length : Int) != (s.ha.length : Int))
      case true =>
        have HR := hid (show b4B s = true by unfold b4B; rw [ln_no1 m1]; rfl)
        go_wp2_with fail
        go_meet
        exact ⟨by rw [HR.out], hBW⟩
      cases m2 : ((s.se.length : Int) != (s.ha.length : Int))
      case true =>
        have HR := hid (show b4B s = true by unfold b4B; rw [ln_no2 m2]; rfl)
        go_wp2_with fail
        go_meet
        exact ⟨by rw [HR.out], hBW⟩
      cases m3 : decide ((230 : Int) < (s.ha.length : Int))
      case true =>
        have HR := hid (show b4B s = true by unfold b4B; rw [ln_no3 m3]; rfl)
        go_wp2_with fail
        go_meet
        exact ⟨by rw [HR.out], hBW⟩
      have HL := hid (ln_yes m1 m2 m3)
      cases m4 : (s.co == 0)
      · have HR := hid (show b4B s = false by unfold b4B; rw [HL.out, m4]; rfl)
        go_wp2_with fail
        go_meet
        exact ⟨by rw [HR.out], hBW⟩
      · have HR := hid (show b4B s = decide ((0 : Int) < (s.ha.length : Int)) by unfold b4B; rw [HL.out, m4]; rfl)
        go_wp2_with fail
        go_meet
        exact ⟨by rw [HR.out]; simp, hBW⟩
    case rest =>
      clear hBW hB0 F a0 a1 a2 a3 a4 a5 a6
      obtain ⟨rfl, hBW⟩ := hcut
      have F := F0.below hBW
      have hB0 := below_one hBw hBW
      obtain ⟨a0, a1, a2, a3, a4, a5, a6⟩ := F.c
      cases hb4 : b4B s
      case true =>
        have HR := hid (b4_bad hb4)
        go_wp2_with fail
        go_ret
        exact ⟨ret_bool HR.out.symm, hB0⟩
      have HB4 := hid hb4
      clear hb4
      go_upto_region 6 with fail
      go_cut [58] (fun s0 wx => s0 = .bool (b6B s) ∧ Below W0.heap.size W0 wx)
      case first =>
        cases m6 : (s.co != 0)
        · have HR := hid (show b6B s = false by unfold b6B; rw [m6]; rfl)
          go_wp2_with fail
          go_meet
          exact ⟨by rw [HR.out], hBW⟩
        · have HR := hid (show b6B s = !(inB (s.fo.num + 1) 100000 s.co) by unfold b6B; rw [m6]; rfl)
          go_wp2_with fail
          refine (l1In_any s.co (s.fo.num + 1) 100000 _).mono ?_
          rintro e w3 ⟨rfl, rfl⟩
          go_wp2_with fail
          go_meet
          exact ⟨by rw [HR.out], hBW⟩
      case rest =>
        clear hBW hB0 F a0 a1 a2 a3 a4 a5 a6
        obtain ⟨rfl, hBW⟩ := hcut
        have F := F0.below hBW
        have hB0 := below_one hBw hBW
        obtain ⟨a0, a1, a2, a3, a4, a5, a6⟩ := F.c
        cases hb6 : b6B s
        case true =>
          have HR := hid (b6_bad hb6)
          go_wp2_with fail
          go_ret
          exact ⟨ret_bool HR.out.symm, hB0⟩
        have HL := hid (b46_good HB4.out hb6).1
        have HCO := hid (b46_good HB4.out hb6).2
        obtain ⟨hl1, hl2, hl3⟩ := lnB_parts HL.out
        have hq1 : s.ha.length ≤ s.ru.length := by omega
        have hq2 : s.ha.length ≤ s.se.length := by omega
        clear hl1 hl2 HB4 hb6
        go_wp2_with fail
        clear F hB0 a0 a1 a2 a3 a4 a5 a6
        go_loopw [62] (fun i wr => ∃ k : Nat, k ≤ s.ha.length ∧ i = .int .i64 k ∧ plT s k = true ∧ Below W0.heap.size W0 wr) (fun i _ => s.ha.length - (intOf i).toNat)
        case atStart => exact ⟨0, Nat.zero_le _, rfl, plT_zero _, hBW⟩
        case round =>
          obtain ⟨k, hk, rfl, ht, hB⟩ := hrel
          have HT := hid ht
          clear ht
          have hBr := hB
          have F := F0.below hB
          have hB0 := below_one hBw hB
          clear hB hBW
          obtain ⟨a0, a1, a2, a3, a4, a5, a6⟩ := F.c
          by_cases hlt : k < s.ha.length
          · have hlr : k < s.ru.length := by omega
            have hlz : k < s.se.length := by omega
            obtain ⟨bu, ou, rfl, hbu, hcu, q0, q1, q2, q3⟩ := (h3.below hB0).at hlr
            obtain ⟨bh, oh, rfl, hbh, hch, q4⟩ := (h4.below hB0).bol hlt
            obtain ⟨bi, oi, rfl, hbi, hci, q5⟩ := (h5.below hB0).num hlz
            have HA := hid (plA_at hlt hlr hlz)
            have hrs := lr _ (List.getElem_mem hlr)
            generalize s.ru[k] = r at *
            generalize s.ha[k] = hh at *
            generalize s.se[k] = z at *
            have hru : r.who.size ≤ 1048576 := by unfold Ru.size at hrs; omega
            have hrp : r.path.size ≤ 1048576 := by unfold Ru.size at hrs; omega
            have hne := neq_zr r
            have HN := hid (plT_succ s k)
            have HB := hid (fun h => sd_no4 (s := s) hlt h)
            cases hh
            · cases e1 : r.same zrU
              · have HR := hid (show sdB s = false from HB.out (by rw [HA.out]; unfold plB; rw [if_neg (by simp), e1]; rfl))
                go_wp2_with fail
                go_ret
                exact ⟨ret_bool HR.out.symm, hB0⟩
              · cases e2 : (z == 0)
                · have e3 : (z != 0) = true := by rw [bne, e2]; rfl
                  have HR := hid (show sdB s = false from HB.out (by rw [HA.out]; unfold plB; rw [if_neg (by simp), e1, e2]; rfl))
                  go_wp2_with fail
                  go_ret
                  exact ⟨ret_bool HR.out.symm, hB0⟩
                · have e3 : (z != 0) = false := by rw [bne, e2]; rfl
                  have HR := hid (show plT s (k + 1) = true by rw [HN.out, HT.out, HA.out]; unfold plB; rw [if_neg (by simp), e1, e2]; rfl)
                  go_wp2_with fail
                  go_roundw
                  case rel => exact ⟨k + 1, by omega, by go_num, HR.out, hBr⟩
                  case measure => simp [intOf]; omega
            · cases e1 : r.same zrU
              · cases e2 : (z == 0)
                · have e3 : (z != 0) = true := by rw [bne, e2]; rfl
                  have HR := hid (show sdB s = false from HB.out (by rw [HA.out]; unfold plB; rw [if_pos rfl, if_neg (by rw [e2]; exact Bool.false_ne_true), e1]; rfl))
                  go_wp2_with fail
                  go_ret
                  exact ⟨ret_bool HR.out.symm, hB0⟩
                · have e3 : (z != 0) = false := by rw [bne, e2]; rfl
                  cases e4 : r.good
                  · have HR := hid (show sdB s = false from HB.out (by rw [HA.out]; unfold plB; rw [if_pos rfl, if_pos e2, e4]))
                    go_wp2_with fail
                    refine (specGoodRule_any r _ hru hrp).mono ?_
                    rintro e w5 ⟨rfl, hB5⟩
                    rw [e4]
                    go_wp2_with fail
                    go_ret
                    exact ⟨ret_bool HR.out.symm, below_one hB0 hB5⟩
                  · have HR := hid (show plT s (k + 1) = true by rw [HN.out, HT.out, HA.out]; unfold plB; rw [if_pos rfl, if_pos e2, e4]; rfl)
                    go_wp2_with fail
                    refine (specGoodRule_any r _ hru hrp).mono ?_
                    rintro e w5 ⟨rfl, hB5⟩
                    rw [e4]
                    go_wp2_with fail
                    go_roundw
                    case rel => exact ⟨k + 1, by omega, by go_num, HR.out, below_one hBr hB5⟩
                    case measure => simp [intOf]; omega
              · cases e2 : (z == 0)
                · have e3 : (z != 0) = true := by rw [bne, e2]; rfl
                  cases e4 : numB z
                  · have HR := hid (show sdB s = false from HB.out (by rw [HA.out]; unfold plB; rw [if_pos rfl, if_neg (by rw [e2]; exact Bool.false_ne_true), e1, e4]; rfl))
                    go_wp2_with fail
                    refine (l3Num_any z _).mono ?_
                    rintro e w5 ⟨rfl, rfl⟩
                    rw [e4]
                    go_wp2_with fail
                    go_ret
                    exact ⟨ret_bool HR.out.symm, hB0⟩
                  · have HR := hid (show plT s (k + 1) = true by rw [HN.out, HT.out, HA.out]; unfold plB; rw [if_pos rfl, if_neg (by rw [e2]; exact Bool.false_ne_true), e1, e4]; rfl)
                    go_wp2_with fail
                    refine (l3Num_any z _).mono ?_
                    rintro e w5 ⟨rfl, rfl⟩
                    rw [e4]
                    go_wp2_with fail
                    go_roundw
                    case rel => exact ⟨k + 1, by omega, by go_num, HR.out, hBr⟩
                    case measure => simp [intOf]; omega
                · have e3 : (z != 0) = false := by rw [bne, e2]; rfl
                  have HR := hid (show sdB s = false from HB.out (by rw [HA.out]; unfold plB; rw [if_pos rfl, if_pos e2]; exact zero_rule e1))
                  go_wp2_with fail
                  go_ret
                  exact ⟨ret_bool HR.out.symm, hB0⟩
          · obtain rfl : k = s.ha.length := by omega
            have HR := hid (show sdB s = true from sd_yes HFO.out HL.out HCO.out HT.out)
            go_wp2_with fail
            go_ret
            exact ⟨ret_bool HR.out.symm, hB0⟩

end Go.Proofs.YthpckiobfjdckaaGreat
