/-
  Chapter 6: good sides, by the program.
-/
import Derived.Test.YthpckiobfjdckaaGreatSdG
import Derived.Test.YthpckiobfjdckaaGreatSpA
namespace Go.Proofs.YthpckiobfjdckaaGreat
open Go.RowKit Go.Shelf

theorem eql_sp (h : Bool) (r : Ru) (z : Int) (w : World) : (binOp .eql 103 (.agg #[.bool h, .bool r.deny, .string r.who, .string r.method, .string r.path, .int .i64 z]) (.agg #[.bool false, .bool false, .string ⟨#[]⟩, .string ⟨#[]⟩, .string ⟨#[]⟩, .int .i64 0])).run Tryz.prog w = .ok (.bool ((h == false) && (r.same zrU && (z == 0)))) w := by
  rw [run_eql_struct]
  simp [go_sem, Tryz.underlying103, Tryz.underlying63]
  unfold Ru.same eqB zrU
  repeat' split
  all_goals simp_all

set_option maxHeartbeats 2000000 in
theorem spotGood_any (h : Bool) (r : Ru) (z : Int) (w : World) (hr : r.size ≤ 1048576) :
    Calls Tryz.prog 91 #[.agg #[.bool h, .bool r.deny, .string r.who, .string r.method, .string r.path, .int .i64 z]] w fun e w' => e = .returned (.bool (plB h r z)) ∧ Below w.heap.size w w' := by
  have hB0 : Below w.heap.size w (w.alloc (.cells #[.bool h, .bool r.deny, .string r.who, .string r.method, .string r.path, .int .i64 z] 103)) := (Below.refl _ w).alloc (Nat.le_refl _) _
  have F := Six.new w (.bool h) (.bool r.deny) (.string r.who) (.string r.method) (.string r.path) (.int .i64 z) 103
  cases h
  · have HR := hid (show plB false r z = ((false == false) && (r.same zrU && (z == 0))) from rfl)
    have hse := eql_sp false r z
    go_enter Tryz.func91, Tryz.ntmps91
    go_wp2
    go_ret
    exact ⟨ret_bool HR.out.symm, hB0⟩
  · cases e0 : (z == 0)
    · cases e1 : r.same zrU
      · have HR := hid (show plB true r z = false by unfold plB; rw [if_pos rfl, if_neg (by rw [e0]; exact Bool.false_ne_true), e1]; rfl)
        have hse := eql_zr r
        go_enter Tryz.func91, Tryz.ntmps91
        go_wp2
        go_ret
        exact ⟨ret_bool HR.out.symm, hB0⟩
      · have HR := hid (show plB true r z = numB z by unfold plB; rw [if_pos rfl, if_neg (by rw [e0]; exact Bool.false_ne_true), e1]; rfl)
        have hse := eql_zr r
        go_enter Tryz.func91, Tryz.ntmps91
        go_wp2_with (go_at_call 93; refine (okSerial_any z _).mono ?_; rintro e w1 ⟨rfl, rfl⟩)
        go_ret
        exact ⟨ret_bool ((show okS z = plB true r z by rw [HR.out]; unfold okS numB; exact decide_eq_decide.2 (by omega))), hB0⟩
    · have HR := hid (show plB true r z = r.good by unfold plB; rw [if_pos rfl, if_pos e0])
      go_enter Tryz.func91, Tryz.ntmps91
      go_wp2_with fail
      generalize w.alloc (.cells #[.bool true, .bool r.deny, .string r.who, .string r.method, .string r.path, .int .i64 z] 103) = W0 at *
      refine (implGoodRule_any r _ hr).mono ?_
      rintro e w1 ⟨rfl, hB1⟩
      go_wp2_with fail
      go_ret
      exact ⟨ret_bool HR.out.symm, below_one hB0 hB1⟩

set_option maxHeartbeats 8000000 in
set_option maxRecDepth 100000 in
theorem implGoodSide_any (v : Value) (s : Sd) (w : World) (hs : s.short) (h : SdR w v s) :
    Calls Tryz.prog 52 #[v] w fun e w' => e = .returned (.bool (sdB s)) ∧ Below w.heap.size w w' := by
  have hSd := h
  have hs' := hs
  obtain ⟨vp, vr, vu, vh, vs, rfl, h1, h2, h3, h4, h5⟩ := h
  obtain ⟨hf, l3, l4, l5, lr⟩ := hs
  have hS : SnR w (.agg #[.int .i64 s.fo.num, vp, vr]) s.fo := ⟨_, _, rfl, h1, h2⟩
  obtain ⟨ap, cp, rfl⟩ := h1.len
  obtain ⟨ar, cr, rfl⟩ := h2.len
  obtain ⟨au, cu, rfl⟩ := h3.len
  obtain ⟨ah, ch, rfl⟩ := h4.s.bolLen
  obtain ⟨ai, ci, rfl⟩ := h5.len
  have hB0 : Below w.heap.size w (w.alloc (.cells #[.int .i64 s.fo.num, .slice ap s.fo.pol.length cp, .slice ar s.fo.rv.length cr, .int .i64 s.co, .slice au s.ru.length cu, .slice ah s.ha.length ch, .slice ai s.se.length ci] 51)) := (Below.refl _ w).alloc (Nat.le_refl _) _
  have F := Seven.new w (.int .i64 s.fo.num) (.slice ap s.fo.pol.length cp) (.slice ar s.fo.rv.length cr) (.int .i64 s.co) (.slice au s.ru.length cu) (.slice ah s.ha.length ch) (.slice ai s.se.length ci) 51
  go_enter Tryz.func52, Tryz.ntmps52
  go_wp2_with fail
  generalize w.alloc (.cells #[.int .i64 s.fo.num, .slice ap s.fo.pol.length cp, .slice ar s.fo.rv.length cr, .int .i64 s.co, .slice au s.ru.length cu, .slice ah s.ha.length ch, .slice ai s.se.length ci] 51) = W0 at *
  have hBw := hB0
  have F0 := F
  have hBW := Below.refl W0.heap.size W0
  refine (goodForce_any _ s.fo _ hf (hS.below hB0)).mono ?_
  rintro e w1 ⟨rfl, hB1⟩
  replace F := F.below hB1
  replace hB0 := below_one hB0 hB1
  replace hBW := below_one hBW hB1
  clear hB1
  obtain ⟨a0, a1, a2, a3, a4, a5, a6⟩ := F.c
  cases hfo : foB s.fo
  case false =>
    have HR := hid (show sdB s = false from sd_no1 hfo)
    go_wp2_with fail
    go_ret
    exact ⟨ret_bool HR.out.symm, hB0⟩
  have HFO := hid hfo
  have hnum := foB_num HFO.out
  cases m1 : ((s.ru.length : Int) != (s.ha.length : Int))
  case true =>
    have HR := hid (show sdB s = false from sd_no2 (ln_no1 m1))
    go_wp2_with fail
    go_ret
    exact ⟨ret_bool HR.out.symm, hB0⟩
  cases m2 : ((s.se.length : Int) != (s.ha.length : Int))
  case true =>
    have HR := hid (show sdB s = false from sd_no2 (ln_no2 m2))
    go_wp2_with fail
    go_ret
    exact ⟨ret_bool HR.out.symm, hB0⟩
  cases m3 : decide ((230 : Int) < (s.ha.length : Int))
  case true =>
    have HR := hid (show sdB s = false from sd_no2 (ln_no3 m3))
    go_wp2_with fail
    go_ret
    exact ⟨ret_bool HR.out.symm, hB0⟩
  have HL := hid (ln_yes m1 m2 m3)
  have hln := lnB_parts HL.out
  obtain ⟨hl1, hl2, hl3⟩ := hln
  have hq1 : s.ha.length ≤ s.ru.length := by omega
  have hq2 : s.ha.length ≤ s.se.length := by omega
  clear hl1 hl2
  cases m4 : (s.co == 0)
  case true =>
    have HR := hid (show sdB s = ((s.ha.length : Int) == 0) by
      cases m5 : ((s.ha.length : Int) == 0)
      · exact sd_no3 (co_no1 m4 m5)
      · refine sd_yes HFO.out HL.out (co_yes1 m4 m5) ?_
        have h0 : s.ha.length = 0 := by have := eq_of_beq m5; omega
        rw [h0]
        exact plT_zero s)
    go_wp2_with fail
    go_ret
    exact ⟨ret_bool HR.out.symm, hB0⟩
  cases m5 : decide (s.co ≤ s.fo.num)
  case true =>
    have HR := hid (show sdB s = false from sd_no3 (co_no2 m4 (fun hh => by have := of_decide_eq_true m5; omega)))
    go_wp2_with fail
    go_ret
    exact ⟨ret_bool HR.out.symm, hB0⟩
  cases m6 : decide ((100000 : Int) < s.co)
  case true =>
    have HR := hid (show sdB s = false from sd_no3 (co_no2 m4 (fun hh => by have := of_decide_eq_true m6; omega)))
    go_wp2_with fail
    go_ret
    exact ⟨ret_bool HR.out.symm, hB0⟩
  have HCO := hid (co_yes2 m4 (by have := of_decide_eq_false m5; omega) (by have := of_decide_eq_false m6; omega))
  go_wp2_with fail
  clear a0 a1 a2 a3 a4 a5 a6
  go_loopw [47] (fun i wr => ∃ k : Nat, k ≤ s.ha.length ∧ i = .int .i64 k ∧ plT s k = true ∧ Below W0.heap.size W0 wr) (fun i _ => s.ha.length - (intOf i).toNat)
  case atStart => exact ⟨0, Nat.zero_le _, rfl, plT_zero _, hBW⟩
  case round =>
    obtain ⟨k, hk, rfl, ht, hB⟩ := hrel
    have HT := hid ht
    have hBr := hB
    clear ht
    replace F := F0.below hB
    replace hB0 := below_one hBw hB
    clear hB
    obtain ⟨a0, a1, a2, a3, a4, a5, a6⟩ := F.c
    by_cases hlt : k < s.ha.length
    · have hlr : k < s.ru.length := by omega
      have hlz : k < s.se.length := by omega
      have HA := hid (plA_at hlt hlr hlz)
      have hrs := lr _ (List.getElem_mem hlr)
      have hSp := spotAt_any _ s k wr hs' (hSd.below hB0) hlt hlr hlz
      generalize s.ru[k] = r at *
      generalize s.ha[k] = hh at *
      generalize s.se[k] = z at *
      have HN := hid (plT_succ s k)
      have HB := hid (fun h => sd_no4 (s := s) hlt h)
      cases hp : plB hh r z
      · have HR := hid (show sdB s = false from HB.out (by rw [HA.out, hp]))
        go_wp2_with fail
        refine hSp.mono ?_
        rintro e w5 ⟨rfl, hB5⟩
        go_wp2_with fail
        refine (spotGood_any hh r z _ hrs).mono ?_
        rintro e w6 ⟨rfl, hB6⟩
        rw [hp]
        clear hSp
        go_wp2_with fail
        go_ret
        exact ⟨ret_bool HR.out.symm, below_two hB0 hB5 hB6⟩
      · have HR := hid (show plT s (k + 1) = true by rw [HN.out, HT.out, HA.out, hp]; rfl)
        go_wp2_with fail
        refine hSp.mono ?_
        rintro e w5 ⟨rfl, hB5⟩
        go_wp2_with fail
        refine (spotGood_any hh r z _ hrs).mono ?_
        rintro e w6 ⟨rfl, hB6⟩
        rw [hp]
        clear hSp
        go_wp2_with fail
        go_roundw
        case rel => exact ⟨k + 1, by omega, by go_num, HR.out, below_two hBr hB5 hB6⟩
        case measure => simp [intOf]; omega
    · obtain rfl : k = s.ha.length := by omega
      have HR := hid (show sdB s = true from sd_yes HFO.out HL.out HCO.out HT.out)
      go_wp2_with fail
      go_ret
      exact ⟨ret_bool HR.out.symm, hB0⟩

end Go.Proofs.YthpckiobfjdckaaGreat
