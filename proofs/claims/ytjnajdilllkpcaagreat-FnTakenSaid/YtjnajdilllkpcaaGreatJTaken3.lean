/-
  Chapter 5: versions as one's own, SnapshotAt, by the specification.
-/
import Derived.Test.YtjnajdilllkpcaaGreatJTaken1
import Derived.Test.YtjnajdilllkpcaaGreatJTaken2
import Derived.Deep.RegionHeld3
import Derived.Laws.AppendOwnNone
namespace Go.Proofs.YtjnajdilllkpcaaGreat
open Go.RowKit Go.Shelf

set_option maxHeartbeats 8000000 in
set_option maxRecDepth 100000 in
theorem spotAt_any (v : Value) (s : Sd) (k : Nat) (w : World) (hs : s.short) (h : SdR w v s) (hk : k < s.ha.length) (hkr : k < s.ru.length) (hkz : k < s.se.length) :
    Calls Tryz.prog 23 #[v, .int .i64 k] w fun e w' => e = .returned (.agg #[.bool s.ha[k], .bool (s.ru[k]).deny, .string (s.ru[k]).who, .string (s.ru[k]).method, .string (s.ru[k]).path, .int .i64 s.se[k]]) ∧ Below w.heap.size w w' := by
  obtain ⟨vp, vr, vu, vh, vs, rfl, h1, h2, h3, h4, h5⟩ := h
  obtain ⟨hf, l3, l4, l5, lr⟩ := hs
  have hS : SnR w (.agg #[.int .i64 s.fo.num, vp, vr]) s.fo := ⟨_, _, rfl, h1, h2⟩
  obtain ⟨ap, cp, rfl⟩ := h1.len
  obtain ⟨ar, cr, rfl⟩ := h2.len
  obtain ⟨au, cu, rfl⟩ := h3.len
  obtain ⟨ah, ch, rfl⟩ := h4.s.bolLen
  obtain ⟨ai, ci, rfl⟩ := h5.len
  have hB0 : Below w.heap.size w ((w.alloc (.cells #[.int .i64 s.fo.num, .slice ap s.fo.pol.length cp, .slice ar s.fo.rv.length cr, .int .i64 s.co, .slice au s.ru.length cu, .slice ah s.ha.length ch, .slice ai s.se.length ci] 29)).alloc (.cells #[.bool false, .bool false, .string ⟨#[]⟩, .string ⟨#[]⟩, .string ⟨#[]⟩, .int .i64 0] 52)) := ((Below.refl _ w).alloc (Nat.le_refl _) _).alloc (by simp) _
  have F1 := (Seven.new w (.int .i64 s.fo.num) (.slice ap s.fo.pol.length cp) (.slice ar s.fo.rv.length cr) (.int .i64 s.co) (.slice au s.ru.length cu) (.slice ah s.ha.length ch) (.slice ai s.se.length ci) 29).below ((Below.refl _ _).alloc (Nat.le_refl _) (.cells #[.bool false, .bool false, .string ⟨#[]⟩, .string ⟨#[]⟩, .string ⟨#[]⟩, .int .i64 0] 52))
  have F2 := Six.at (w.alloc (.cells #[.int .i64 s.fo.num, .slice ap s.fo.pol.length cp, .slice ar s.fo.rv.length cr, .int .i64 s.co, .slice au s.ru.length cu, .slice ah s.ha.length ch, .slice ai s.se.length ci] 29)) (.bool false) (.bool false) (.string ⟨#[]⟩) (.string ⟨#[]⟩) (.string ⟨#[]⟩) (.int .i64 0) 52 (k := w.heap.size + 1) (by simp)
  obtain ⟨bu, ou, rfl, hbu, _⟩ := h3.s.at hkr
  obtain ⟨bh, oh, rfl, hbh, _⟩ := h4.s.bol hk
  obtain ⟨bi, oi, rfl, hbi, _⟩ := h5.s.num hkz
  obtain ⟨_, _, ee, _, hcu, q0, q1, q2, q3⟩ := (h3.s.below hB0).at hkr
  cases ee
  obtain ⟨_, _, ee, _, hch, q4⟩ := (h4.s.below hB0).bol hk
  cases ee
  obtain ⟨_, _, ee, _, hci, q5⟩ := (h5.s.below hB0).num hkz
  cases ee
  have m1 : bu ≠ w.heap.size + 1 := by omega
  have m1' : w.heap.size + 1 ≠ bu := by omega
  have m2 : bh ≠ w.heap.size + 1 := by omega
  have m2' : w.heap.size + 1 ≠ bh := by omega
  have m3 : bi ≠ w.heap.size + 1 := by omega
  have m3' : w.heap.size + 1 ≠ bi := by omega
  have m4 : w.heap.size ≠ w.heap.size + 1 := by omega
  have m4' : w.heap.size + 1 ≠ w.heap.size := by omega
  generalize s.ru[k] = r at *
  generalize s.ha[k] = h at *
  generalize s.se[k] = z at *
  go_enter Tryz.func23, Tryz.ntmps23
  go_wp2_with fail
  generalize (w.alloc (.cells #[.int .i64 s.fo.num, .slice ap s.fo.pol.length cp, .slice ar s.fo.rv.length cr, .int .i64 s.co, .slice (some ⟨bu, ou, none⟩) s.ru.length cu, .slice (some ⟨bh, oh, none⟩) s.ha.length ch, .slice (some ⟨bi, oi, none⟩) s.se.length ci] 29)).alloc (.cells #[.bool false, .bool false, .string ⟨#[]⟩, .string ⟨#[]⟩, .string ⟨#[]⟩, .int .i64 0] 52) = W0 at *
  obtain ⟨a0, a1, a2, a3, a4, a5, a6⟩ := F1.c
  have hBd : Below W0.heap.size W0 W0.drew := (Below.refl _ _).drew
  replace F2 := F2.below hBd
  replace hB0 := below_one hB0 hBd
  clear hBd F1
  refine wp_region_held_drew (S := fun w' => w'.cell? ⟨w.heap.size, 4, none⟩ = some (.slice (some ⟨bu, ou, none⟩) s.ru.length cu) ∧ w'.cell? ⟨w.heap.size, 5, none⟩ = some (.slice (some ⟨bh, oh, none⟩) s.ha.length ch) ∧ w'.cell? ⟨w.heap.size, 6, none⟩ = some (.slice (some ⟨bi, oi, none⟩) s.se.length ci) ∧ w'.cell? ⟨bh, oh + k, none⟩ = some (.bool h) ∧ w'.cell? ⟨bu, ou + k * 4, none⟩ = some (.bool r.deny) ∧ w'.cell? ⟨bu, ou + k * 4 + 1, none⟩ = some (.string r.who) ∧ w'.cell? ⟨bu, ou + k * 4 + 2, none⟩ = some (.string r.method) ∧ w'.cell? ⟨bu, ou + k * 4 + 3, none⟩ = some (.string r.path) ∧ w'.cell? ⟨bi, oi + k, none⟩ = some (.int .i64 z)) (by kernel_rfl) ?_ (fun hHeld => ?_)
  · go_keep
  generalize W0.drew = Wd at *
  clear q0 q1 q2 q3 q4 q5 a0 a1 a2 a3 a4 a5 a6
  obtain ⟨c0, c1, c2, c3, c4, c5⟩ := F2.c
  have f0 := F2.f 0
  have f1 := F2.f 1
  have f2 := F2.f 2
  have f3 := F2.f 3
  have f4 := F2.f 4
  have f5 := F2.f 5
  refine takeW 0 (v := ?v1) rfl (by kernel_rfl) (by kernel_rfl) (by kernel_rfl) (fun _ _ _ h => h) (by rfl) (by assumption) ?hy1 ?rest1
  case hy1 => intro w' hSw; (try dsimp only at hSw); go_simp; try with_reducible rfl
  try simp only [Act.put, List.setIfInBounds_toArray, List.set_cons_zero, List.set_cons_succ]
  refine takeW 1 (v := ?v2) rfl (by kernel_rfl) (by kernel_rfl) (by kernel_rfl) (fun _ _ _ h => h) (by rfl) (by assumption) ?hy2 ?rest2
  case hy2 => intro w' hSw; (try dsimp only at hSw); go_simp; try with_reducible rfl
  try simp only [Act.put, List.setIfInBounds_toArray, List.set_cons_zero, List.set_cons_succ]
  refine takeW 2 (v := ?v3) rfl (by kernel_rfl) (by kernel_rfl) (by kernel_rfl) (fun _ _ _ h => h) (by rfl) (by assumption) ?hy3 ?rest3
  case hy3 => intro w' hSw; (try dsimp only at hSw); go_simp; try with_reducible rfl
  try simp only [Act.put, List.setIfInBounds_toArray, List.set_cons_zero, List.set_cons_succ]
  refine takeW 3 (v := ?v4) rfl (by kernel_rfl) (by kernel_rfl) (by kernel_rfl) (fun _ _ _ h => h) (by rfl) (by assumption) ?hy4 ?rest4
  case hy4 => intro w' hSw; (try dsimp only at hSw); go_simp; try with_reducible rfl
  try simp only [Act.put, List.setIfInBounds_toArray, List.set_cons_zero, List.set_cons_succ]
  refine takeW 4 (v := ?v5) rfl (by kernel_rfl) (by kernel_rfl) (by kernel_rfl) (fun _ _ _ h => h) (by rfl) (by assumption) ?hy5 ?rest5
  case hy5 => intro w' hSw; (try dsimp only at hSw); go_simp; try with_reducible rfl
  try simp only [Act.put, List.setIfInBounds_toArray, List.set_cons_zero, List.set_cons_succ]
  refine takeW 5 (v := ?v6) rfl (by kernel_rfl) (by kernel_rfl) (by kernel_rfl) (fun _ _ _ h => h) (by rfl) (by assumption) ?hy6 ?rest6
  case hy6 => intro w' hSw; (try dsimp only at hSw); go_simp; try with_reducible rfl
  try simp only [Act.put, List.setIfInBounds_toArray, List.set_cons_zero, List.set_cons_succ]
  refine takeW 6 (v := ?v7) rfl (by kernel_rfl) (by kernel_rfl) (by kernel_rfl) (fun _ _ _ h => h) (by rfl) (by assumption) ?hy7 ?rest7
  case hy7 => intro w' hSw; (try dsimp only at hSw); go_simp; try with_reducible rfl
  try simp only [Act.put, List.setIfInBounds_toArray, List.set_cons_zero, List.set_cons_succ]
  refine takeW 7 (v := ?v8) rfl (by kernel_rfl) (by kernel_rfl) (by kernel_rfl) (fun _ _ _ h => h) (by rfl) (by assumption) ?hy8 ?rest8
  case hy8 => intro w' hSw; (try dsimp only at hSw); go_simp; try with_reducible rfl
  try simp only [Act.put, List.setIfInBounds_toArray, List.set_cons_zero, List.set_cons_succ]
  refine takeW 8 (v := ?v9) rfl (by kernel_rfl) (by kernel_rfl) (by kernel_rfl) (fun _ _ _ h => h) (by rfl) (by assumption) ?hy9 ?rest9
  case hy9 => intro w' hSw; (try dsimp only at hSw); go_simp; try with_reducible rfl
  try simp only [Act.put, List.setIfInBounds_toArray, List.set_cons_zero, List.set_cons_succ]
  refine takeW 9 (v := ?v10) rfl (by kernel_rfl) (by kernel_rfl) (by kernel_rfl) (fun _ _ _ h => h) (by rfl) (by assumption) ?hy10 ?rest10
  case hy10 => intro w' hSw; (try dsimp only at hSw); go_simp; try with_reducible rfl
  try simp only [Act.put, List.setIfInBounds_toArray, List.set_cons_zero, List.set_cons_succ]
  refine takeW 10 (v := ?v11) rfl (by kernel_rfl) (by kernel_rfl) (by kernel_rfl) (fun _ _ _ h => h) (by rfl) (by assumption) ?hy11 ?rest11
  case hy11 => intro w' hSw; (try dsimp only at hSw); go_simp; try with_reducible rfl
  try simp only [Act.put, List.setIfInBounds_toArray, List.set_cons_zero, List.set_cons_succ]
  refine takeW 11 (v := ?v12) rfl (by kernel_rfl) (by kernel_rfl) (by kernel_rfl) (fun _ _ _ h => h) (by rfl) (by assumption) ?hy12 ?rest12
  case hy12 => intro w' hSw; (try dsimp only at hSw); go_simp; try with_reducible rfl
  try simp only [Act.put, List.setIfInBounds_toArray, List.set_cons_zero, List.set_cons_succ]
  refine takeW 12 (v := ?v13) rfl (by kernel_rfl) (by kernel_rfl) (by kernel_rfl) (fun _ _ _ h => h) (by rfl) (by assumption) ?hy13 ?rest13
  case hy13 => intro w' hSw; (try dsimp only at hSw); go_simp; try with_reducible rfl
  try simp only [Act.put, List.setIfInBounds_toArray, List.set_cons_zero, List.set_cons_succ]
  refine takeW 13 (v := ?v14) rfl (by kernel_rfl) (by kernel_rfl) (by kernel_rfl) (fun _ _ _ h => h) (by rfl) (by assumption) ?hy14 ?rest14
  case hy14 => intro w' hSw; (try dsimp only at hSw); go_simp; try with_reducible rfl
  try simp only [Act.put, List.setIfInBounds_toArray, List.set_cons_zero, List.set_cons_succ]
  refine takeW 14 (v := ?v15) rfl (by kernel_rfl) (by kernel_rfl) (by kernel_rfl) (fun _ _ _ h => h) (by rfl) (by assumption) ?hy15 ?rest15
  case hy15 => intro w' hSw; (try dsimp only at hSw); go_simp; try with_reducible rfl
  try simp only [Act.put, List.setIfInBounds_toArray, List.set_cons_zero, List.set_cons_succ]
  refine takeW 15 (v := ?v16) rfl (by kernel_rfl) (by kernel_rfl) (by kernel_rfl) (fun _ _ _ h => h) (by rfl) (by assumption) ?hy16 ?rest16
  case hy16 => intro w' hSw; (try dsimp only at hSw); go_simp; try with_reducible rfl
  try simp only [Act.put, List.setIfInBounds_toArray, List.set_cons_zero, List.set_cons_succ]
  refine takeC 16 (by kernel_rfl) rfl (fun K hK => ?_)
  go_simp
  skip
  refine hK.out _ _ ?_ (fun hHeld => ?_)
  · go_keep
  clear hK K
  try simp only [Act.put, List.setIfInBounds_toArray, List.set_cons_zero, List.set_cons_succ]
  refine wpAnyH_done (by kernel_rfl) ?_ _
  clear hHeld
  have G := (((((F2.s0 (.bool h)).s1 (.bool r.deny)).s2 (.string r.who)).s3 (.string r.method)).s4 (.string r.path)).s5 (.int .i64 z)
  have pB := below_six hB0 (k := w.heap.size + 1) (by omega) (.bool h) (.bool r.deny) (.string r.who) (.string r.method) (.string r.path) (.int .i64 z)
  go_wp2_with fail
  obtain ⟨d0, d1, d2, d3, d4, d5⟩ := G.c
  exact bodyPost_ret (v := .agg #[.bool h, .bool r.deny, .string r.who, .string r.method, .string r.path, .int .i64 z]) (by simp [results, Tryz.results23, go_sem, d0, d1, d2, d3, d4, d5]) rfl ⟨rfl, pB⟩

end Go.Proofs.YtjnajdilllkpcaaGreat

namespace Go.Proofs.YtjnajdilllkpcaaGreat
open Go.RowKit Go.Shelf

theorem eql_sp (h : Bool) (r : Ru) (z : Int) (w : World) : (binOp .eql 52 (.agg #[.bool h, .bool r.deny, .string r.who, .string r.method, .string r.path, .int .i64 z]) (.agg #[.bool false, .bool false, .string ⟨#[]⟩, .string ⟨#[]⟩, .string ⟨#[]⟩, .int .i64 0])).run Tryz.prog w = .ok (.bool ((h == false) && (r.same zrU && (z == 0)))) w := by
  rw [run_eql_struct]
  simp [go_sem, Tryz.underlying52, Tryz.underlying31]
  unfold Ru.same eqB zrU
  repeat' split
  all_goals simp_all

set_option maxHeartbeats 2000000 in
theorem spotGood_any (h : Bool) (r : Ru) (z : Int) (w : World) (hr : r.size ≤ 1048576) :
    Calls Tryz.prog 24 #[.agg #[.bool h, .bool r.deny, .string r.who, .string r.method, .string r.path, .int .i64 z]] w fun e w' => e = .returned (.bool (spotB h r z)) ∧ Below w.heap.size w w' := by
  have hB0 : Below w.heap.size w (w.alloc (.cells #[.bool h, .bool r.deny, .string r.who, .string r.method, .string r.path, .int .i64 z] 52)) := (Below.refl _ w).alloc (Nat.le_refl _) _
  have F := Six.new w (.bool h) (.bool r.deny) (.string r.who) (.string r.method) (.string r.path) (.int .i64 z) 52
  cases h
  · have HR := hid (show spotB false r z = ((false == false) && (r.same zrU && (z == 0))) from rfl)
    have hse := eql_sp false r z
    go_enter Tryz.func24, Tryz.ntmps24
    go_wp2
    go_ret
    exact ⟨ret_bool HR.out.symm, hB0⟩
  · cases e0 : (z == 0)
    · cases e1 : r.same zrU
      · have HR := hid (show spotB true r z = false by unfold spotB; rw [if_pos rfl, if_neg (by rw [e0]; exact Bool.false_ne_true), e1]; rfl)
        have hse := eql_zr r
        go_enter Tryz.func24, Tryz.ntmps24
        go_wp2
        go_ret
        exact ⟨ret_bool HR.out.symm, hB0⟩
      · have HR := hid (show spotB true r z = numB z by unfold spotB; rw [if_pos rfl, if_neg (by rw [e0]; exact Bool.false_ne_true), e1]; rfl)
        have hse := eql_zr r
        go_enter Tryz.func24, Tryz.ntmps24
        go_wp2_with (go_at_call 47; refine (okSerial_any z _).mono ?_; rintro e w1 ⟨rfl, rfl⟩)
        go_ret
        exact ⟨ret_bool ((show okS z = spotB true r z by rw [HR.out]; unfold okS numB; exact decide_eq_decide.2 (by omega))), hB0⟩
    · have HR := hid (show spotB true r z = r.good by unfold spotB; rw [if_pos rfl, if_pos e0])
      go_enter Tryz.func24, Tryz.ntmps24
      go_wp2_with fail
      generalize w.alloc (.cells #[.bool true, .bool r.deny, .string r.who, .string r.method, .string r.path, .int .i64 z] 52) = W0 at *
      refine (implGoodRule_any r _ hr).mono ?_
      rintro e w1 ⟨rfl, hB1⟩
      go_wp2_with fail
      go_ret
      exact ⟨ret_bool HR.out.symm, below_one hB0 hB1⟩

set_option maxHeartbeats 8000000 in
set_option maxRecDepth 100000 in
theorem implGoodSide_any (v : Value) (s : Sd) (w : World) (hs : s.short) (h : SdR w v s) :
    Calls Tryz.prog 10 #[v] w fun e w' => e = .returned (.bool (sdB s)) ∧ Below w.heap.size w w' := by
  have hSd := h
  have hs' := hs
  obtain ⟨vp, vr, vu, vh, vs, rfl, h1, h2, h3, h4, h5⟩ := h
  obtain ⟨hf, l3, l4, l5, lr⟩ := hs
  have hS : SnR w (.agg #[.int .i64 s.fo.num, vp, vr]) s.fo := ⟨_, _, rfl, h1, h2⟩
  obtain ⟨ap, cp, rfl⟩ := h1.len
  obtain ⟨ar, cr, rfl⟩ := h2.len
  obtain ⟨au, cu, rfl⟩ := h3.len
  obtain ⟨ah, ch, rfl⟩ := h4.s.bolLen
  obtain ⟨ai, ci, rfl⟩ := h5.len
  have hB0 : Below w.heap.size w (w.alloc (.cells #[.int .i64 s.fo.num, .slice ap s.fo.pol.length cp, .slice ar s.fo.rv.length cr, .int .i64 s.co, .slice au s.ru.length cu, .slice ah s.ha.length ch, .slice ai s.se.length ci] 29)) := (Below.refl _ w).alloc (Nat.le_refl _) _
  have F := Seven.new w (.int .i64 s.fo.num) (.slice ap s.fo.pol.length cp) (.slice ar s.fo.rv.length cr) (.int .i64 s.co) (.slice au s.ru.length cu) (.slice ah s.ha.length ch) (.slice ai s.se.length ci) 29
  go_enter Tryz.func10, Tryz.ntmps10
  go_wp2_with fail
  generalize w.alloc (.cells #[.int .i64 s.fo.num, .slice ap s.fo.pol.length cp, .slice ar s.fo.rv.length cr, .int .i64 s.co, .slice au s.ru.length cu, .slice ah s.ha.length ch, .slice ai s.se.length ci] 29) = W0 at *
  have hBw := hB0
  have F0 := F
  have hBW := Below.refl W0.heap.size W0
  refine (goodForce_any _ s.fo _ hf (hS.below hB0)).mono ?_
  rintro e w1 ⟨rfl, hB1⟩
  replace F := F.below hB1
  replace hB0 := below_one hB0 hB1
  replace hBW := below_one hBW hB1
  clear hB1
  obtain ⟨a0, a1, a2, a3, a4, a5, a6⟩ := F.c
  cases hfo : foB s.fo
  case false =>
    have HR := hid (show sdB s = false from sd_no1 hfo)
    go_wp2_with fail
    go_ret
    exact ⟨ret_bool HR.out.symm, hB0⟩
  have HFO := hid hfo
  have hnum := foB_num HFO.out
  cases m1 : ((s.ru.length : Int) != (s.ha.length : Int))
  case true =>
    have HR := hid (show sdB s = false from sd_no2 (ln_no1 m1))
    go_wp2_with fail
    go_ret
    exact ⟨ret_bool HR.out.symm, hB0⟩
  cases m2 : ((s.se.length : Int) != (s.ha.length : Int))
  case true =>
    have HR := hid (show sdB s = false from sd_no2 (ln_no2 m2))
    go_wp2_with fail
    go_ret
    exact ⟨ret_bool HR.out.symm, hB0⟩
  cases m3 : decide ((230 : Int) < (s.ha.length : Int))
  case true =>
    have HR := hid (show sdB s = false from sd_no2 (ln_no3 m3))
    go_wp2_with fail
    go_ret
    exact ⟨ret_bool HR.out.symm, hB0⟩
  have HL := hid (ln_yes m1 m2 m3)
  have hln := lnB_parts HL.out
  obtain ⟨hl1, hl2, hl3⟩ := hln
  have hq1 : s.ha.length ≤ s.ru.length := by omega
  have hq2 : s.ha.length ≤ s.se.length := by omega
  clear hl1 hl2
  cases m4 : (s.co == 0)
  case true =>
    have HR := hid (show sdB s = ((s.ha.length : Int) == 0) by
      cases m5 : ((s.ha.length : Int) == 0)
      · exact sd_no3 (co_no1 m4 m5)
      · refine sd_yes HFO.out HL.out (co_yes1 m4 m5) ?_
        have h0 : s.ha.length = 0 := by have := eq_of_beq m5; omega
        rw [h0]
        exact plT_zero s)
    go_wp2_with fail
    go_ret
    exact ⟨ret_bool HR.out.symm, hB0⟩
  cases m5 : decide (s.co ≤ s.fo.num)
  case true =>
    have HR := hid (show sdB s = false from sd_no3 (co_no2 m4 (fun hh => by have := of_decide_eq_true m5; omega)))
    go_wp2_with fail
    go_ret
    exact ⟨ret_bool HR.out.symm, hB0⟩
  cases m6 : decide ((100000 : Int) < s.co)
  case true =>
    have HR := hid (show sdB s = false from sd_no3 (co_no2 m4 (fun hh => by have := of_decide_eq_true m6; omega)))
    go_wp2_with fail
    go_ret
    exact ⟨ret_bool HR.out.symm, hB0⟩
  have HCO := hid (co_yes2 m4 (by have := of_decide_eq_false m5; omega) (by have := of_decide_eq_false m6; omega))
  go_wp2_with fail
  clear a0 a1 a2 a3 a4 a5 a6
  go_loopw [47] (fun i wr => ∃ k : Nat, k ≤ s.ha.length ∧ i = .int .i64 k ∧ plT s k = true ∧ Below W0.heap.size W0 wr) (fun i _ => s.ha.length - (intOf i).toNat)
  case atStart => exact ⟨0, Nat.zero_le _, rfl, plT_zero _, hBW⟩
  case round =>
    obtain ⟨k, hk, rfl, ht, hB⟩ := hrel
    have HT := hid ht
    have hBr := hB
    clear ht
    replace F := F0.below hB
    replace hB0 := below_one hBw hB
    clear hB
    obtain ⟨a0, a1, a2, a3, a4, a5, a6⟩ := F.c
    by_cases hlt : k < s.ha.length
    · have hlr : k < s.ru.length := by omega
      have hlz : k < s.se.length := by omega
      have HA := hid (plA_at hlt hlr hlz)
      have hrs := lr _ (List.getElem_mem hlr)
      have hSp := spotAt_any _ s k wr hs' (hSd.below hB0) hlt hlr hlz
      generalize s.ru[k] = r at *
      generalize s.ha[k] = hh at *
      generalize s.se[k] = z at *
      have HN := hid (plT_succ s k)
      have HB := hid (fun h => sd_no4 (s := s) hlt h)
      cases hp : spotB hh r z
      · have HR := hid (show sdB s = false from HB.out (by rw [HA.out, hp]))
        go_wp2_with fail
        refine hSp.mono ?_
        rintro e w5 ⟨rfl, hB5⟩
        go_wp2_with fail
        refine (spotGood_any hh r z _ hrs).mono ?_
        rintro e w6 ⟨rfl, hB6⟩
        rw [hp]
        clear hSp
        go_wp2_with fail
        go_ret
        exact ⟨ret_bool HR.out.symm, below_two hB0 hB5 hB6⟩
      · have HR := hid (show plT s (k + 1) = true by rw [HN.out, HT.out, HA.out, hp]; rfl)
        go_wp2_with fail
        refine hSp.mono ?_
        rintro e w5 ⟨rfl, hB5⟩
        go_wp2_with fail
        refine (spotGood_any hh r z _ hrs).mono ?_
        rintro e w6 ⟨rfl, hB6⟩
        rw [hp]
        clear hSp
        go_wp2_with fail
        go_roundw
        case rel => exact ⟨k + 1, by omega, by go_num, HR.out, below_two hBr hB5 hB6⟩
        case measure => simp [intOf]; omega
    · obtain rfl : k = s.ha.length := by omega
      have HR := hid (show sdB s = true from sd_yes HFO.out HL.out HCO.out HT.out)
      go_wp2_with fail
      go_ret
      exact ⟨ret_bool HR.out.symm, hB0⟩

end Go.Proofs.YtjnajdilllkpcaaGreat

namespace Go.Proofs.YtjnajdilllkpcaaGreat
open Go.RowKit Go.Shelf

/-- The places that a side has not, of the first k. -/
def miT (s : Sd) (k : Nat) : List Int := ((List.range k).filter (fun i => (s.ha[i]?).getD false == false)).map (fun i : Nat => (i : Int))
def miX (s : Sd) : List Int := if sdB s = true then miT s s.ha.length else []
theorem miX_no {s : Sd} (h : sdB s = false) : miX s = [] := if_neg (by rw [h]; exact Bool.false_ne_true)
theorem miX_yes {s : Sd} (h : sdB s = true) : miX s = miT s s.ha.length := if_pos h
theorem miT_len (s : Sd) (k : Nat) : (miT s k).length ≤ k := by
  unfold miT
  rw [List.length_map]
  have := List.length_filter_le (fun i => (s.ha[i]?).getD false == false) (List.range k)
  rwa [List.length_range] at this
theorem miT_no {s : Sd} {k : Nat} (h : k < s.ha.length) (hx : s.ha[k] = false) : miT s (k + 1) = miT s k ++ [(k : Int)] := by
  unfold miT
  rw [List.range_succ, List.filter_append, List.map_append]
  simp [h, hx]
theorem miT_yes {s : Sd} {k : Nat} (h : k < s.ha.length) (hx : s.ha[k] = true) : miT s (k + 1) = miT s k := by
  unfold miT
  rw [List.range_succ, List.filter_append, List.map_append]
  simp [h, hx]
theorem miX_len (s : Sd) : (miX s).length ≤ 230 := by
  unfold miX
  split
  · rename_i h
    have := (lnB_parts (sd_parts h).2.1).2.2
    have := miT_len s s.ha.length
    omega
  · simp

set_option maxHeartbeats 4000000 in
set_option maxRecDepth 100000 in
theorem l6Missing_any (v : Value) (s : Sd) (w : World) (hs : s.short) (h : SdA w v s) :
    Calls Tryz.prog 63 #[v] w fun e w' => ∃ u, e = .returned u ∧ w'.ownsRow w.heap.size 3 1 u (miT s s.ha.length).length (nums (miT s s.ha.length)) ∧ Below w.heap.size w w' := by
  have h' := h
  obtain ⟨vp, vr, vu, vh, vs, rfl, h1, h2, h3, h4, h5⟩ := h
  have hs' := hs
  obtain ⟨hf, l3, l4, l5, lr⟩ := hs
  obtain ⟨ap, cp, rfl⟩ := h1.len
  obtain ⟨ar, cr, rfl⟩ := h2.numLen
  obtain ⟨au, cu, rfl⟩ := h3.len
  obtain ⟨ah, ch, rfl⟩ := h4.bolLen
  obtain ⟨ai, ci, rfl⟩ := h5.numLen
  have hB0 : Below w.heap.size w (w.alloc (.cells #[.int .i64 s.fo.num, .slice ap s.fo.pol.length cp, .slice ar s.fo.rv.length cr, .int .i64 s.co, .slice au s.ru.length cu, .slice ah s.ha.length ch, .slice ai s.se.length ci] 29)) := (Below.refl _ w).alloc (Nat.le_refl _) _
  have F := Seven.new w (.int .i64 s.fo.num) (.slice ap s.fo.pol.length cp) (.slice ar s.fo.rv.length cr) (.int .i64 s.co) (.slice au s.ru.length cu) (.slice ah s.ha.length ch) (.slice ai s.se.length ci) 29
  have h4s := h4
  obtain ⟨i0, hi, hz0, hz1, hz2⟩ := info_parts infoInt
  have hbz := hB0.size
  obtain ⟨a0, a1, a2, a3, a4, a5, a6⟩ := F.c
  go_enter Tryz.func63, Tryz.ntmps63
  go_upto_region 1 with fail
  generalize w.alloc (.cells #[.int .i64 s.fo.num, .slice ap s.fo.pol.length cp, .slice ar s.fo.rv.length cr, .int .i64 s.co, .slice au s.ru.length cu, .slice ah s.ha.length ch, .slice ai s.se.length ci] 29) = W0 at *
  go_wp2_with fail
  clear a0 a1 a2 a3 a4 a5 a6
  go_loopw [3, 9] (fun l i wr => ∃ k : Nat, k ≤ s.ha.length ∧ i = .int .i64 k ∧ wr.ownsRow W0.heap.size 3 1 l (miT s k).length (nums (miT s k)) ∧ Below W0.heap.size W0 wr) (fun _ i _ => s.ha.length - (intOf i).toNat)
  case atStart => exact ⟨0, Nat.zero_le _, rfl, World.ownsRow_nil _ _ _ _, Below.refl _ _⟩
  case round =>
    obtain ⟨k, hk, rfl, hrow, hB⟩ := hrel
    have hl1 := miT_len s k
    have hz3 := hB.size
    by_cases hlt : k < s.ha.length
    · obtain ⟨b, off, rfl, hb, hcap, q0⟩ := ((h4s.below hB0).below hB).bol hlt
      have HY := hid (fun h => miT_yes (s := s) hlt h)
      have HN := hid (fun h => miT_no (s := s) hlt h)
      generalize s.ha[k] = x at *
      cases x
      · have HR := hid (HN.out rfl)
        clear HN HY
        generalize miT s k = l at *
        rcases row_form hrow with ⟨rfl, hl0⟩ | ⟨go, capo, rfl, hgo, hcapo⟩
        · obtain rfl : l = [] := List.eq_nil_of_length_eq_zero hl0
          go_wp2_with (at_builtin; refine wpList_append_own _ rfl _ _ 24 rfl W0.heap.size 3 i0 (.int .i64 0) 1 8 Tryz.underlying24 hi hz0 hz1 hz2 rfl (by decide) _ _ _ rfl (hrow.alloc _) ⟨wr.heap.size, 0, none⟩ 1 1 [.int .i64 (k : Int)] rfl rfl (cell_one_new _ _ _) (by intro u hu; simp at hu; subst hu; rfl) (by unfold maxLen; first | omega | (simp <;> omega)) (by first | omega | (simp <;> omega)) (by first | omega | (simp <;> omega)) ?_; intro u' w3 hown' hgrow _; obtain ⟨g', cap3, rfl⟩ := ownsRow_succ hown')
          go_roundw
          case rel =>
            refine ⟨k + 1, by omega, by go_num, ?_, hB.trans (below_appended hz3 hrow hgrow)⟩
            rw [HR.out]
            simpa [nums] using hown'
          case measure => simp [intOf]; omega
        · go_wp2_with (at_builtin; refine wpList_append_own _ rfl _ _ 24 rfl W0.heap.size 3 i0 (.int .i64 0) 1 8 Tryz.underlying24 hi hz0 hz1 hz2 rfl (by decide) _ _ _ rfl (hrow.alloc _) ⟨wr.heap.size, 0, none⟩ 1 1 [.int .i64 (k : Int)] rfl rfl (cell_one_new _ _ _) (by intro u hu; simp at hu; subst hu; rfl) (by unfold maxLen; first | omega | (simp <;> omega)) (by first | omega | (simp <;> omega)) (by first | omega | (simp <;> omega)) ?_; intro u' w3 hown' hgrow _; obtain ⟨g', cap3, rfl⟩ := ownsRow_succ hown')
          go_roundw
          case rel =>
            refine ⟨k + 1, by omega, by go_num, ?_, hB.trans (below_appended hz3 hrow hgrow)⟩
            rw [HR.out]
            simpa [nums] using hown'
          case measure => simp [intOf]; omega
      · have HR := hid (HY.out rfl)
        go_wp2_with fail
        go_roundw
        case rel => exact ⟨k + 1, by omega, by go_num, by rw [HR.out]; exact hrow, hB⟩
        case measure => simp [intOf]; omega
    · obtain rfl : k = s.ha.length := by omega
      obtain ⟨x9, y9, z9, rfl⟩ := row_slice hrow
      go_wp2_with fail
      go_ret
      exact ⟨_, rfl, Go.Joins.ownsRow_le hrow hbz, below_one hB0 hB⟩

set_option maxHeartbeats 4000000 in
set_option maxRecDepth 100000 in
theorem implMissing_any (v : Value) (s : Sd) (w : World) (hs : s.short) (h : SdR w v s) :
    Calls Tryz.prog 8 #[v] w fun e w' => ∃ u, e = .returned (.tuple #[u, .bool (sdB s)]) ∧ w'.ownsRow w.heap.size 3 1 u (miX s).length (nums (miX s)) ∧ Below w.heap.size w w' := by
  have h' := h
  obtain ⟨vp, vr, vu, vh, vs, rfl, h1, h2, h3, h4, h5⟩ := h
  have hs' := hs
  obtain ⟨hf, l3, l4, l5, lr⟩ := hs
  obtain ⟨ap, cp, rfl⟩ := h1.len
  obtain ⟨ar, cr, rfl⟩ := h2.len
  obtain ⟨au, cu, rfl⟩ := h3.len
  obtain ⟨ah, ch, rfl⟩ := h4.s.bolLen
  obtain ⟨ai, ci, rfl⟩ := h5.len
  have hB0 : Below w.heap.size w (w.alloc (.cells #[.int .i64 s.fo.num, .slice ap s.fo.pol.length cp, .slice ar s.fo.rv.length cr, .int .i64 s.co, .slice au s.ru.length cu, .slice ah s.ha.length ch, .slice ai s.se.length ci] 29)) := (Below.refl _ w).alloc (Nat.le_refl _) _
  have F := Seven.new w (.int .i64 s.fo.num) (.slice ap s.fo.pol.length cp) (.slice ar s.fo.rv.length cr) (.int .i64 s.co) (.slice au s.ru.length cu) (.slice ah s.ha.length ch) (.slice ai s.se.length ci) 29
  have h4s := h4.s
  obtain ⟨i0, hi, hz0, hz1, hz2⟩ := info_parts infoInt
  go_enter Tryz.func8, Tryz.ntmps8
  go_wp2_with fail
  generalize w.alloc (.cells #[.int .i64 s.fo.num, .slice ap s.fo.pol.length cp, .slice ar s.fo.rv.length cr, .int .i64 s.co, .slice au s.ru.length cu, .slice ah s.ha.length ch, .slice ai s.se.length ci] 29) = Wa at *
  refine (implGoodSide_any _ s _ hs' (h'.below hB0)).mono ?_
  rintro e W0 ⟨rfl, hB1⟩
  replace F := F.below hB1
  replace hB0 := below_one hB0 hB1
  clear hB1
  have hbz := hB0.size
  obtain ⟨a0, a1, a2, a3, a4, a5, a6⟩ := F.c
  cases hg : sdB s
  case false =>
    have HR := hid (miX_no hg)
    have HG := hid hg
    go_wp2_with fail
    go_ret2
    exact ⟨_, by rw [HG.out]; rfl, by rw [HR.out]; exact World.ownsRow_nil _ _ _ _, hB0⟩
  have HX := hid (miX_yes hg)
  have HG := hid hg
  clear hg
  go_wp2_with fail
  clear a0 a1 a2 a3 a4 a5 a6
  go_loopw [4, 13] (fun l i wr => ∃ k : Nat, k ≤ s.ha.length ∧ i = .int .i64 k ∧ wr.ownsRow W0.heap.size 3 1 l (miT s k).length (nums (miT s k)) ∧ Below W0.heap.size W0 wr) (fun _ i _ => s.ha.length - (intOf i).toNat)
  case atStart => exact ⟨0, Nat.zero_le _, rfl, World.ownsRow_nil _ _ _ _, Below.refl _ _⟩
  case round =>
    obtain ⟨k, hk, rfl, hrow, hB⟩ := hrel
    have hl1 := miT_len s k
    have hz3 := hB.size
    by_cases hlt : k < s.ha.length
    · obtain ⟨b, off, rfl, hb, hcap, q0⟩ := ((h4s.below hB0).below hB).bol hlt
      have HY := hid (fun h => miT_yes (s := s) hlt h)
      have HN := hid (fun h => miT_no (s := s) hlt h)
      generalize s.ha[k] = x at *
      cases x
      · have HR := hid (HN.out rfl)
        clear HN HY
        generalize miT s k = l at *
        rcases row_form hrow with ⟨rfl, hl0⟩ | ⟨go, capo, rfl, hgo, hcapo⟩
        · obtain rfl : l = [] := List.eq_nil_of_length_eq_zero hl0
          go_wp2_with (at_builtin; refine wpList_append_own _ rfl _ _ 24 rfl W0.heap.size 3 i0 (.int .i64 0) 1 8 Tryz.underlying24 hi hz0 hz1 hz2 rfl (by decide) _ _ _ rfl (hrow.alloc _) ⟨wr.heap.size, 0, none⟩ 1 1 [.int .i64 (k : Int)] rfl rfl (cell_one_new _ _ _) (by intro u hu; simp at hu; subst hu; rfl) (by unfold maxLen; first | omega | (simp <;> omega)) (by first | omega | (simp <;> omega)) (by first | omega | (simp <;> omega)) ?_; intro u' w3 hown' hgrow _; obtain ⟨g', cap3, rfl⟩ := ownsRow_succ hown')
          go_roundw
          case rel =>
            refine ⟨k + 1, by omega, by go_num, ?_, hB.trans (below_appended hz3 hrow hgrow)⟩
            rw [HR.out]
            simpa [nums] using hown'
          case measure => simp [intOf]; omega
        · go_wp2_with (at_builtin; refine wpList_append_own _ rfl _ _ 24 rfl W0.heap.size 3 i0 (.int .i64 0) 1 8 Tryz.underlying24 hi hz0 hz1 hz2 rfl (by decide) _ _ _ rfl (hrow.alloc _) ⟨wr.heap.size, 0, none⟩ 1 1 [.int .i64 (k : Int)] rfl rfl (cell_one_new _ _ _) (by intro u hu; simp at hu; subst hu; rfl) (by unfold maxLen; first | omega | (simp <;> omega)) (by first | omega | (simp <;> omega)) (by first | omega | (simp <;> omega)) ?_; intro u' w3 hown' hgrow _; obtain ⟨g', cap3, rfl⟩ := ownsRow_succ hown')
          go_roundw
          case rel =>
            refine ⟨k + 1, by omega, by go_num, ?_, hB.trans (below_appended hz3 hrow hgrow)⟩
            rw [HR.out]
            simpa [nums] using hown'
          case measure => simp [intOf]; omega
      · have HR := hid (HY.out rfl)
        go_wp2_with fail
        go_roundw
        case rel => exact ⟨k + 1, by omega, by go_num, by rw [HR.out]; exact hrow, hB⟩
        case measure => simp [intOf]; omega
    · obtain rfl : k = s.ha.length := by omega
      obtain ⟨x9, y9, z9, rfl⟩ := row_slice hrow
      go_wp2_with fail
      go_ret2
      exact ⟨_, by rw [HG.out]; rfl, by rw [HX.out]; exact Go.Joins.ownsRow_le hrow hbz, below_one hB0 hB⟩

end Go.Proofs.YtjnajdilllkpcaaGreat

namespace Go.Proofs.YtjnajdilllkpcaaGreat
open Go.RowKit Go.Shelf

/-- A mail. -/
structure Ml where
  kd : Int
  ver : Int
  no : Int
  ru : Ru
  se : Int
abbrev ruZ : Ru := ⟨false, ⟨#[]⟩, ⟨#[]⟩, ⟨#[]⟩⟩
abbrev Ml.cells (m : Ml) : List Value := [.int .i64 m.kd, .int .i64 m.ver, .int .i64 m.no, .bool m.ru.deny, .string m.ru.who, .string m.ru.method, .string m.ru.path, .int .i64 m.se]
abbrev Ml.val (m : Ml) : Value := .agg #[.int .i64 m.kd, .int .i64 m.ver, .int .i64 m.no, .bool m.ru.deny, .string m.ru.who, .string m.ru.method, .string m.ru.path, .int .i64 m.se]
def MlAt (w : World) (b o : Nat) (m : Ml) : Prop := w.cell? ⟨b, o, none⟩ = some (.int .i64 m.kd) ∧ w.cell? ⟨b, o + 1, none⟩ = some (.int .i64 m.ver) ∧ w.cell? ⟨b, o + 2, none⟩ = some (.int .i64 m.no) ∧ w.cell? ⟨b, o + 3, none⟩ = some (.bool m.ru.deny) ∧ w.cell? ⟨b, o + 4, none⟩ = some (.string m.ru.who) ∧ w.cell? ⟨b, o + 5, none⟩ = some (.string m.ru.method) ∧ w.cell? ⟨b, o + 6, none⟩ = some (.string m.ru.path) ∧ w.cell? ⟨b, o + 7, none⟩ = some (.int .i64 m.se)
/-- A slice reads as this list of mails. -/
def MlS (w : World) (v : Value) (ms : List Ml) : Prop :=
  (v = .slice none 0 0 ∧ ms = []) ∨
  ∃ b off cap, v = .slice (some ⟨b, off, none⟩) ms.length cap ∧ b < w.heap.size ∧ ms.length ≤ cap ∧ ∀ i (h : i < ms.length), MlAt w b (off + i * 8) ms[i]
theorem MlAt.below {w w' : World} {b o : Nat} {m : Ml} (h : MlAt w b o m) (hb : b < w.heap.size) (hB : Below w.heap.size w w') : MlAt w' b o m :=
  ⟨(hB.cell (p := ⟨b, o, none⟩) hb).trans h.1, (hB.cell (p := ⟨b, o + 1, none⟩) hb).trans h.2.1, (hB.cell (p := ⟨b, o + 2, none⟩) hb).trans h.2.2.1, (hB.cell (p := ⟨b, o + 3, none⟩) hb).trans h.2.2.2.1, (hB.cell (p := ⟨b, o + 4, none⟩) hb).trans h.2.2.2.2.1, (hB.cell (p := ⟨b, o + 5, none⟩) hb).trans h.2.2.2.2.2.1, (hB.cell (p := ⟨b, o + 6, none⟩) hb).trans h.2.2.2.2.2.2.1, (hB.cell (p := ⟨b, o + 7, none⟩) hb).trans h.2.2.2.2.2.2.2⟩
theorem MlS.below {w w' : World} {v : Value} {ms : List Ml} (h : MlS w v ms) (hB : Below w.heap.size w w') : MlS w' v ms := by
  rcases h with h | ⟨b, off, cap, hv, hb, hl, hc⟩
  · exact .inl h
  · exact .inr ⟨b, off, cap, hv, Nat.lt_of_lt_of_le hb hB.size, hl, fun k hk => (hc k hk).below hb hB⟩
theorem MlS.len {w : World} {v : Value} {ms : List Ml} (h : MlS w v ms) : ∃ a cap, v = .slice a ms.length cap := by
  rcases h with ⟨hv, rfl⟩ | ⟨b, off, cap, hv, _⟩
  · exact ⟨_, _, hv⟩
  · exact ⟨_, cap, hv⟩
theorem MlS.at {w : World} {a : Option Addr} {n cap : Nat} {ms : List Ml} (h : MlS w (.slice a n cap) ms) {i : Nat} (hi : i < ms.length) : ∃ b off, a = some ⟨b, off, none⟩ ∧ b < w.heap.size ∧ n ≤ cap ∧ MlAt w b (off + i * 8) ms[i] := by
  rcases h with ⟨_, rfl⟩ | ⟨b, off, cap, hv, hb, hl, hc⟩
  · simp at hi
  · cases hv
    exact ⟨b, off, rfl, hb, hl, hc i hi⟩
theorem mlat_len : ∀ ms : List Ml, (ms.flatMap Ml.cells).length = ms.length * 8
  | [] => rfl
  | m :: ms => by rw [List.flatMap_cons, List.length_append, mlat_len ms]; simp; omega
theorem mlat_at : ∀ (ms : List Ml) (i j : Nat) (h : i < ms.length), j < 8 → (ms.flatMap Ml.cells)[i * 8 + j]? = ms[i].cells[j]?
  | m :: ms, 0, j, _, hj => by rw [List.flatMap_cons, List.getElem?_append_left (by simpa using hj)]; simp
  | m :: ms, i + 1, j, h, hj => by
    have e : (i + 1) * 8 + j = m.cells.length + (i * 8 + j) := by show (i + 1) * 8 + j = 8 + (i * 8 + j); omega
    rw [List.flatMap_cons, e, List.getElem?_append_right (by omega), Nat.add_sub_cancel_left, mlat_at ms i j (by simpa using h) hj]
    simp
theorem MlS.own {w : World} {base : Nat} {v : Value} {ms : List Ml} (h : w.ownsRow base 33 8 v ms.length (ms.flatMap Ml.cells)) : MlS w v ms := by
  rcases row_form h with ⟨rfl, h0⟩ | ⟨g, cap, rfl, _, hc⟩
  · exact .inl ⟨rfl, List.eq_nil_of_length_eq_zero h0⟩
  · refine .inr ⟨g, 0, cap, rfl, (h.lt g rfl).2, hc, fun k hk => ?_⟩
    rw [Nat.zero_add]
    have hl := mlat_len ms
    have a0 := (h.cellAt (k * 8) (by omega)).trans (mlat_at ms k 0 hk (by omega))
    have a1 := (h.cellAt (k * 8 + 1) (by omega)).trans (mlat_at ms k 1 hk (by omega))
    have a2 := (h.cellAt (k * 8 + 2) (by omega)).trans (mlat_at ms k 2 hk (by omega))
    have a3 := (h.cellAt (k * 8 + 3) (by omega)).trans (mlat_at ms k 3 hk (by omega))
    have a4 := (h.cellAt (k * 8 + 4) (by omega)).trans (mlat_at ms k 4 hk (by omega))
    have a5 := (h.cellAt (k * 8 + 5) (by omega)).trans (mlat_at ms k 5 hk (by omega))
    have a6 := (h.cellAt (k * 8 + 6) (by omega)).trans (mlat_at ms k 6 hk (by omega))
    have a7 := (h.cellAt (k * 8 + 7) (by omega)).trans (mlat_at ms k 7 hk (by omega))
    exact ⟨a0, a1, a2, a3, a4, a5, a6, a7⟩

def Ml.same (r s : Ml) : Bool := (r.kd == s.kd) && ((r.ver == s.ver) && ((r.no == s.no) && (r.ru.same s.ru && (r.se == s.se))))

/-- The mail that is laid at i, from the number k on. -/
def mkM (k i : Nat) : Ml := ⟨((k + 8 * i : Nat) : Int), ((k + 8 * i : Nat) : Int) + 1, ((k + 8 * i : Nat) : Int) + 1 + 1, ⟨(((k + 8 * i : Nat) : Int) + 1 + 1 + 1) % 3 == 0, mkT (k + 8 * i + 4), mkT (k + 8 * i + 5), mkT (k + 8 * i + 6)⟩, ((k + 8 * i : Nat) : Int) + 1 + 1 + 1 + 1 + 1 + 1 + 1⟩
def mkMs (k n : Nat) : List Ml := (List.range n).map (mkM k)
theorem mkMs_len (k n : Nat) : (mkMs k n).length = n := by simp [mkMs]
theorem mkMs_succ (k n : Nat) : mkMs k (n + 1) = mkMs k n ++ [mkM k n] := by
  unfold mkMs
  rw [List.range_succ, List.map_append]
  rfl
theorem mkMs_at {k n i : Nat} (h : i < (mkMs k n).length) : (mkMs k n)[i] = mkM k i := by simp [mkMs]
theorem take_set8 {α : Type} (xs : List α) (k : Nat) (a b c d e f g h : α) (hl : k * 8 + 8 ≤ xs.length) : ((((((((xs.set (k * 8) a).set (k * 8 + 1) b).set (k * 8 + 2) c).set (k * 8 + 3) d).set (k * 8 + 4) e).set (k * 8 + 5) f).set (k * 8 + 6) g).set (k * 8 + 7) h).take ((k + 1) * 8) = xs.take (k * 8) ++ [a, b, c, d, e, f, g, h] := by
  apply List.ext_getElem?
  intro i
  rw [List.getElem?_take]
  by_cases hi : i < (k + 1) * 8
  · rw [if_pos hi]
    by_cases h1 : i < k * 8
    · rw [List.getElem?_append_left (by rw [List.length_take]; omega), List.getElem?_take, if_pos h1]
      simp only [List.getElem?_set]
      repeat rw [if_neg (by omega)]
    · rw [List.getElem?_append_right (by rw [List.length_take]; omega), List.length_take, Nat.min_eq_left (by omega)]
      obtain ⟨j, rfl⟩ : ∃ j, i = k * 8 + j := ⟨i - k * 8, by omega⟩
      rw [Nat.add_sub_cancel_left]
      obtain rfl | rfl | rfl | rfl | rfl | rfl | rfl | rfl : j = 0 ∨ j = 1 ∨ j = 2 ∨ j = 3 ∨ j = 4 ∨ j = 5 ∨ j = 6 ∨ j = 7 := by omega
      all_goals (simp only [List.getElem?_set]; simp (config := { decide := true }); omega)
  · rw [if_neg hi, List.getElem?_eq_none]
    rw [List.length_append, List.length_take]
    simp
    omega

end Go.Proofs.YtjnajdilllkpcaaGreat

namespace Go.Proofs.YtjnajdilllkpcaaGreat
open Go.RowKit Go.Shelf

def mlB (s : Sn) : Ml := ⟨1, s.num, (s.pol.length : Int) + (s.rv.length : Int), ruZ, 0⟩
def mlE (s : Sn) : Ml := ⟨4, s.num, (s.pol.length : Int) + (s.rv.length : Int), ruZ, 0⟩
def mlR (s : Sn) (k : Nat) : List Ml := (List.range k).map (fun i : Nat => (⟨2, s.num, (i : Int), (s.pol[i]?).getD ruZ, 0⟩ : Ml))
def mlZ (s : Sn) (k : Nat) : List Ml := (List.range k).map (fun i : Nat => (⟨3, s.num, (s.pol.length : Int) + (i : Int), ruZ, (s.rv[i]?).getD 0⟩ : Ml))
/-- The mails of a version. -/
def mls (s : Sn) : List Ml := (mlB s :: (mlR s s.pol.length ++ mlZ s s.rv.length)) ++ [mlE s]
def mlX (s : Sn) : List Ml := if snB s = true then mls s else []
theorem mlX_no {s : Sn} (h : snB s = false) : mlX s = [] := if_neg (by rw [h]; exact Bool.false_ne_true)
theorem mlX_yes {s : Sn} (h : snB s = true) : mlX s = mls s := if_pos h
theorem mls_len (s : Sn) : (mls s).length = s.pol.length + 1 + s.rv.length + 1 := by simp [mls, mlR, mlZ]; omega
theorem mlX_len (s : Sn) : (mlX s).length ≤ 232 := by
  unfold mlX
  split
  · rename_i h
    have h1 := (pol_all (snB_parts h).2.1).2
    have h2 := fewB_len (snB_parts h).2.2.2.1
    rw [mls_len]
    omega
  · simp
theorem mlR_step {s : Sn} {k : Nat} (h : k < s.pol.length) : (mlB s :: mlR s (k + 1)).flatMap Ml.cells = (mlB s :: mlR s k).flatMap Ml.cells ++ Ml.cells ⟨2, s.num, (k : Int), s.pol[k], 0⟩ := by
  have e : mlR s (k + 1) = mlR s k ++ [⟨2, s.num, (k : Int), s.pol[k], 0⟩] := by
    unfold mlR
    rw [List.range_succ, List.map_append]
    simp [h]
  rw [e, ← List.cons_append, List.flatMap_append]
  simp
theorem mlZ_step {s : Sn} {k : Nat} (h : k < s.rv.length) : (mlB s :: (mlR s s.pol.length ++ mlZ s (k + 1))).flatMap Ml.cells = (mlB s :: (mlR s s.pol.length ++ mlZ s k)).flatMap Ml.cells ++ Ml.cells ⟨3, s.num, (s.pol.length : Int) + (k : Int), ruZ, s.rv[k]⟩ := by
  have e : mlZ s (k + 1) = mlZ s k ++ [⟨3, s.num, (s.pol.length : Int) + (k : Int), ruZ, s.rv[k]⟩] := by
    unfold mlZ
    rw [List.range_succ, List.map_append]
    simp [h]
  rw [e, ← List.append_assoc, ← List.cons_append, List.flatMap_append]
  simp
theorem mls_step (s : Sn) : (mls s).flatMap Ml.cells = (mlB s :: (mlR s s.pol.length ++ mlZ s s.rv.length)).flatMap Ml.cells ++ Ml.cells ⟨4, s.num, (s.pol.length : Int) + (s.rv.length : Int), ruZ, 0⟩ := by
  unfold mls
  rw [List.flatMap_append]
  simp [mlE]
theorem infoMail : (Tryz.prog.info? 33).map (fun i => (i.zero, i.size, i.bytes)) = some (some (.agg #[.int .i64 0, .int .i64 0, .int .i64 0, .bool false, .string ByteArray.empty, .string ByteArray.empty, .string ByteArray.empty, .int .i64 0]), 8, 88) := by kernel_rfl
theorem cell_eight {W : World} {k : Nat} (hk : k = W.heap.size) (m : Ml) : ∀ j u, m.cells[j]? = some u → (W.alloc (.cells #[.int .i64 m.kd, .int .i64 m.ver, .int .i64 m.no, .bool m.ru.deny, .string m.ru.who, .string m.ru.method, .string m.ru.path, .int .i64 m.se] 33)).cell? ((⟨k, 0, none⟩ : Addr).add j) = some u := by
  intro j u hu
  subst hk
  rw [Addr.add_lit, Nat.zero_add]
  have hj : j < 8 := by
    have := (List.getElem?_eq_some_iff.1 hu).1
    simpa using this
  obtain rfl | rfl | rfl | rfl | rfl | rfl | rfl | rfl : j = 0 ∨ j = 1 ∨ j = 2 ∨ j = 3 ∨ j = 4 ∨ j = 5 ∨ j = 6 ∨ j = 7 := by omega
  all_goals (simp at hu; subst hu; simp)
theorem ml_one (m : Ml) : ∀ u ∈ m.cells, u.oneCell' = true := by
  intro u hu
  simp at hu
  rcases hu with rfl | rfl | rfl | rfl | rfl | rfl | rfl | rfl <;> rfl
theorem row_mail (W : World) (m : Ml) : (W.alloc (.cells #[.int .i64 m.kd, .int .i64 m.ver, .int .i64 m.no, .bool m.ru.deny, .string m.ru.who, .string m.ru.method, .string m.ru.path, .int .i64 m.se] 33)).ownsRow W.heap.size 33 8 (.slice (some ⟨W.heap.size, 0, none⟩) 1 1) 1 m.cells :=
  ⟨rfl, .inr ⟨W.heap.size, 1, #[.int .i64 m.kd, .int .i64 m.ver, .int .i64 m.no, .bool m.ru.deny, .string m.ru.who, .string m.ru.method, .string m.ru.path, .int .i64 m.se], rfl, Nat.le_refl _, by show (W.heap.push _)[W.heap.size]? = _; rw [Array.getElem?_push_size], Nat.le_refl _, by unfold maxLen; omega, rfl, rfl⟩⟩

set_option maxHeartbeats 4000000 in
set_option maxRecDepth 100000 in
theorem l6Mails_any (v : Value) (s : Sn) (w : World) (hn : s.pol.length ≤ 30) (hm : s.rv.length ≤ 200) (h : SnA w v s) :
    Calls Tryz.prog 51 #[v] w fun e w' => ∃ u, e = .returned u ∧ w'.ownsRow w.heap.size 33 8 u (mls s).length ((mls s).flatMap Ml.cells) ∧ Below w.heap.size w w' := by
  obtain ⟨vp, vr, rfl, h1, h2⟩ := h
  obtain ⟨ap, cp, rfl⟩ := h1.len
  obtain ⟨ar, cr, rfl⟩ := h2.numLen
  obtain ⟨i0, hi, hz0, hz1, hz2⟩ := info_parts infoMail
  have hBB : Below w.heap.size w (w.alloc (.cells #[.int .i64 s.num, .slice ap s.pol.length cp, .slice ar s.rv.length cr] 26)) := (Below.refl _ w).alloc (Nat.le_refl _) _
  have F := Three.new w (.int .i64 s.num) (.slice ap s.pol.length cp) (.slice ar s.rv.length cr) 26
  have hbz := hBB.size
  have hlb := F.lt
  go_enter Tryz.func51, Tryz.ntmps51
  obtain ⟨a0, a1, a2⟩ := F.c
  go_upto_region 1 with fail
  generalize w.alloc (.cells #[.int .i64 s.num, .slice ap s.pol.length cp, .slice ar s.rv.length cr] 26) = W0 at *
  go_wp2_with fail
  clear a0 a1 a2
  go_loopw [4, 24] (fun l i wr => ∃ k : Nat, k ≤ s.pol.length ∧ i = .int .i64 k ∧ wr.ownsRow W0.heap.size 33 8 l (k + 1) ((mlB s :: mlR s k).flatMap Ml.cells) ∧ Below W0.heap.size W0 wr) (fun _ i _ => s.pol.length - (intOf i).toNat)
  case atStart => exact ⟨0, Nat.zero_le _, rfl, row_mail W0 (mlB s), (Below.refl _ W0).alloc (Nat.le_refl _) _⟩
  case round =>
    obtain ⟨k, hk, rfl, hrow, hB⟩ := hrel
    obtain ⟨g, cq, rfl⟩ := ownsRow_succ hrow
    obtain ⟨a0, a1, a2⟩ := (F.below hB).c
    have hlr := (F.below hB).lt
    by_cases hlt : k < s.pol.length
    · obtain ⟨b, off, rfl, hb, hcap, q0, q1, q2, q3⟩ := ((h1.below hBB).below hB).at hlt
      have HR := hid (mlR_step hlt)
      generalize s.pol[k] = r at *
      have hBw : Below wr.heap.size wr (wr.alloc (.cells #[.bool r.deny, .string r.who, .string r.method, .string r.path] 31)) := (Below.refl _ wr).alloc (Nat.le_refl _) _
      have hrowW := ownsRow_below hrow hBw
      have hBW := below_one hB hBw
      have hz3 := hBW.size
      have hz4 := hB.size
      clear hBw hrow
      go_wp2_with (at_builtin; refine wpList_append_own _ rfl _ _ 67 rfl W0.heap.size 33 i0 _ 8 88 Tryz.underlying67 hi hz0 hz1 hz2 rfl (by decide) _ _ _ rfl (hrowW.alloc _) ⟨wr.heap.size + 1, 0, none⟩ 1 1 (Ml.cells ⟨2, s.num, (k : Int), r, 0⟩) rfl rfl (cell_eight (by first | rfl | simp) ⟨2, s.num, (k : Int), r, 0⟩) (ml_one _) (by unfold maxLen; first | omega | (simp <;> omega)) (by first | omega | (simp <;> omega)) (by first | omega | (simp <;> omega)) ?_; intro u' w3 hown' hgrow _; obtain ⟨g', cap3, rfl⟩ := ownsRow_succ hown')
      go_roundw
      case rel =>
        refine ⟨k + 1, by omega, by go_num, ?_, hBW.trans (below_appended hz3 hrowW hgrow)⟩
        rw [HR.out]
        exact hown'
      case measure => simp [intOf]; omega
    · obtain rfl : k = s.pol.length := by omega
      have HB := hid hB
      clear hB
      go_wp2_with fail
      go_loopw [4, 41] (fun l i wx => ∃ j : Nat, j ≤ s.rv.length ∧ i = .int .i64 j ∧ wx.ownsRow W0.heap.size 33 8 l (s.pol.length + 1 + j) ((mlB s :: (mlR s s.pol.length ++ mlZ s j)).flatMap Ml.cells) ∧ Below W0.heap.size W0 wx) (fun _ i _ => s.rv.length - (intOf i).toNat)
      case atStart => exact ⟨0, Nat.zero_le _, rfl, by simpa [mlZ] using hrow, HB.out⟩
      case round =>
        clear a0 a1 a2 hrow HB
        obtain ⟨j, hj, rfl, hrow, hB⟩ := hrel
        rcases row_form hrow with ⟨_, h0⟩ | ⟨g, cq, rfl, _, _⟩
        · exact absurd h0 (by omega)
        obtain ⟨a0, a1, a2⟩ := (F.below hB).c
        have hlr := (F.below hB).lt
        have hz3 := hB.size
        by_cases hlt : j < s.rv.length
        · obtain ⟨b, off, rfl, hb, hcap, q0⟩ := ((h2.below hBB).below hB).num hlt
          have HR := hid (mlZ_step hlt)
          generalize s.rv[j] = z at *
          go_wp2_with (at_builtin; refine wpList_append_own _ rfl _ _ 67 rfl W0.heap.size 33 i0 _ 8 88 Tryz.underlying67 hi hz0 hz1 hz2 rfl (by decide) _ _ _ rfl (hrow.alloc _) ⟨wr.heap.size, 0, none⟩ 1 1 (Ml.cells ⟨3, s.num, (s.pol.length : Int) + (j : Int), ruZ, z⟩) rfl rfl (cell_eight (by first | rfl | simp) ⟨3, s.num, (s.pol.length : Int) + (j : Int), ruZ, z⟩) (ml_one _) (by unfold maxLen; first | omega | (simp <;> omega)) (by first | omega | (simp <;> omega)) (by first | omega | (simp <;> omega)) ?_; intro u' w3 hown' hgrow _; obtain ⟨g', cap3, rfl⟩ := ownsRow_succ hown')
          go_roundw
          case rel =>
            refine ⟨j + 1, by omega, by go_num, ?_, hB.trans (below_appended hz3 hrow hgrow)⟩
            rw [HR.out]
            exact hown'
          case measure => simp [intOf]; omega
        · obtain rfl : j = s.rv.length := by omega
          have HR := hid (mls_step s)
          go_wp2_with (at_builtin; refine wpList_append_own _ rfl _ _ 67 rfl W0.heap.size 33 i0 _ 8 88 Tryz.underlying67 hi hz0 hz1 hz2 rfl (by decide) _ _ _ rfl (hrow.alloc _) ⟨wr.heap.size, 0, none⟩ 1 1 (Ml.cells ⟨4, s.num, (s.pol.length : Int) + (s.rv.length : Int), ruZ, 0⟩) rfl rfl (cell_eight (by first | rfl | simp) ⟨4, s.num, (s.pol.length : Int) + (s.rv.length : Int), ruZ, 0⟩) (ml_one _) (by unfold maxLen; first | omega | (simp <;> omega)) (by first | omega | (simp <;> omega)) (by first | omega | (simp <;> omega)) ?_; intro u' w3 hown' hgrow _; obtain ⟨g', cap3, rfl⟩ := ownsRow_succ hown')
          go_ret
          exact ⟨_, rfl, by rw [HR.out, mls_len]; exact Go.Joins.ownsRow_le hown' hbz, below_one hBB (hB.trans (below_appended hz3 hrow hgrow))⟩

set_option maxHeartbeats 2000000 in
theorem specMailsOf_any (v : Value) (s : Sn) (w : World) (hs : s.short) (h : SnA w v s) :
    Calls Tryz.prog 26 #[v] w fun e w' => ∃ u, e = .returned (.tuple #[u, .bool (snB s)]) ∧ w'.ownsRow w.heap.size 33 8 u (mlX s).length ((mlX s).flatMap Ml.cells) ∧ Below w.heap.size w w' := by
  have h' := h
  obtain ⟨vp, vr, rfl, h1, h2⟩ := h
  obtain ⟨ap, cp, rfl⟩ := h1.len
  obtain ⟨ar, cr, rfl⟩ := h2.numLen
  have hBB : Below w.heap.size w (w.alloc (.cells #[.int .i64 s.num, .slice ap s.pol.length cp, .slice ar s.rv.length cr] 26)) := (Below.refl _ w).alloc (Nat.le_refl _) _
  have F := Three.new w (.int .i64 s.num) (.slice ap s.pol.length cp) (.slice ar s.rv.length cr) 26
  go_enter Tryz.func26, Tryz.ntmps26
  go_wp2_with fail
  generalize w.alloc (.cells #[.int .i64 s.num, .slice ap s.pol.length cp, .slice ar s.rv.length cr] 26) = W0 at *
  refine (specGoodSnapshot_any _ s _ hs (h'.below hBB)).mono ?_
  rintro e w1 ⟨rfl, hB1⟩
  replace F := F.below hB1
  replace hBB := below_one hBB hB1
  clear hB1
  obtain ⟨a0, a1, a2⟩ := F.c
  cases hg : snB s
  · have HR := hid (mlX_no hg)
    have HG := hid hg
    go_wp2_with fail
    go_ret2
    exact ⟨_, by rw [HG.out]; rfl, by rw [HR.out]; exact World.ownsRow_nil _ _ _ _, hBB⟩
  · have HR := hid (mlX_yes hg)
    have HG := hid hg
    have hb := hBB.size
    go_wp2_with fail
    refine (l6Mails_any _ s _ (pol_all (snB_parts hg).2.1).2 (fewB_len (snB_parts hg).2.2.2.1) (h'.below hBB)).mono ?_
    rintro e w2 ⟨u, rfl, hrow, hB2⟩
    clear a0 a1 a2
    obtain ⟨x, y, z, rfl⟩ := row_slice hrow
    go_wp2_with fail
    go_ret2
    exact ⟨_, by rw [HG.out]; rfl, by rw [HR.out]; exact Go.Joins.ownsRow_le hrow hb, below_one hBB hB2⟩

end Go.Proofs.YtjnajdilllkpcaaGreat

namespace Go.Proofs.YtjnajdilllkpcaaGreat
open Go.RowKit Go.Shelf

/-- The rules, the serials of the first k places. -/
def cmR (s : Sd) (k : Nat) : List Ru := ((List.range k).filter (fun i => (s.se[i]?).getD 0 == 0)).map (fun i : Nat => (s.ru[i]?).getD zrU)
def cmN (s : Sd) (k : Nat) : List Int := ((List.range k).filter (fun i => !((s.se[i]?).getD 0 == 0))).map (fun i : Nat => (s.se[i]?).getD 0)
/-- The version that came. -/
def nxS (s : Sd) : Sn := ⟨s.co, plTo (cmR s s.ha.length) (cmR s s.ha.length).length, srN (cmN s s.ha.length)⟩
def opX (s : Sd) (v : Int) (n : Nat) : Sd := ⟨s.fo, v, List.replicate n zrU, List.replicate n false, List.replicate n 0⟩
def cmX (s : Sd) (m : Ml) : Sd := if ((m.no == (s.ha.length : Int)) && ((miT s s.ha.length).isEmpty && snB (nxS s))) = true then ⟨nxS s, 0, [], [], []⟩ else s
def ruX (s : Sd) (m : Ml) : Sd := ⟨s.fo, s.co, s.ru.set m.no.toNat m.ru, s.ha.set m.no.toNat true, s.se⟩
def seX6 (s : Sd) (m : Ml) : Sd := ⟨s.fo, s.co, s.ru, s.ha.set m.no.toNat true, s.se.set m.no.toNat m.se⟩
/-- Where a place lacks. -/
def lkB (s : Sd) (n : Int) : Bool := decide (0 ≤ n ∧ n < (s.ha.length : Int)) && !((s.ha[n.toNat]?).getD false)
/-- What a side is behind a mail. -/
def tkX (s : Sd) (m : Ml) : Sd :=
  if (decide (m.ver ≤ s.fo.num) || decide (m.ver < s.co)) = true then s
  else if (m.kd == 1) = true then (if (decide (s.co < m.ver) && (decide (m.ver ≤ 100000) && inB 0 230 m.no)) = true then opX s m.ver m.no.toNat else s)
  else if (m.ver == s.co) = false then s
  else if (m.kd == 4) = true then cmX s m
  else if lkB s m.no = false then s
  else if ((m.kd == 2) && m.ru.good) = true then ruX s m
  else if ((m.kd == 3) && numB m.se) = true then seX6 s m
  else s
def tmX (s : Sd) (m : Ml) : Sd := if sdB s = true then tkX s m else Sd.none
theorem tmX_no {s : Sd} {m : Ml} (h : sdB s = false) : tmX s m = Sd.none := if_neg (by rw [h]; exact Bool.false_ne_true)
theorem tmX_yes {s : Sd} {m : Ml} (h : sdB s = true) : tmX s m = tkX s m := if_pos h
/-- Rules come to the first thirty places alone. -/
def loB (s : Sd) : Prop := ∀ i : Nat, (s.ha[i]?).getD false = true → (s.se[i]?).getD 0 = 0 → i < 30

theorem zr_self : zrU.same zrU = true := by decide +kernel
theorem cmR_yes {s : Sd} {k : Nat} (hz : k < s.se.length) (hr : k < s.ru.length) (h : s.se[k] = 0) : cmR s (k + 1) = cmR s k ++ [s.ru[k]] := by
  unfold cmR
  rw [List.range_succ, List.filter_append, List.map_append]
  simp [hz, hr, h]
theorem cmR_no {s : Sd} {k : Nat} (hz : k < s.se.length) (h : s.se[k] ≠ 0) : cmR s (k + 1) = cmR s k := by
  unfold cmR
  rw [List.range_succ, List.filter_append, List.map_append]
  simp [hz, h]
theorem cmN_yes {s : Sd} {k : Nat} (hz : k < s.se.length) (h : s.se[k] ≠ 0) : cmN s (k + 1) = cmN s k ++ [s.se[k]] := by
  unfold cmN
  rw [List.range_succ, List.filter_append, List.map_append]
  simp [hz, h]
theorem cmN_no {s : Sd} {k : Nat} (hz : k < s.se.length) (h : s.se[k] = 0) : cmN s (k + 1) = cmN s k := by
  unfold cmN
  rw [List.range_succ, List.filter_append, List.map_append]
  simp [hz, h]
theorem cmR_len (s : Sd) (k : Nat) : (cmR s k).length ≤ k := by
  unfold cmR
  rw [List.length_map]
  have := List.length_filter_le (fun i => (s.se[i]?).getD 0 == 0) (List.range k)
  rwa [List.length_range] at this
theorem cmN_len (s : Sd) (k : Nat) : (cmN s k).length ≤ k := by
  unfold cmN
  rw [List.length_map]
  have := List.length_filter_le (fun i => !((s.se[i]?).getD 0 == 0)) (List.range k)
  rwa [List.length_range] at this
theorem miT_none {s : Sd} (h : (miT s s.ha.length).isEmpty = true) : ∀ i, i < s.ha.length → (s.ha[i]?).getD false = true := by
  intro i hi
  have h0 : miT s s.ha.length = [] := List.isEmpty_iff.1 h
  unfold miT at h0
  rw [List.map_eq_nil_iff, List.filter_eq_nil_iff] at h0
  have := h0 i (List.mem_range.2 hi)
  simpa using this
theorem filter_below (p : Nat → Bool) (b : Nat) (h : ∀ i, p i = true → i < b) : ∀ k, ((List.range k).filter p).length ≤ b := by
  intro k
  by_cases hk : k ≤ b
  · exact Nat.le_trans (by have := List.length_filter_le p (List.range k); rwa [List.length_range] at this) hk
  · obtain ⟨d, rfl⟩ : ∃ d, k = b + d := ⟨k - b, by omega⟩
    rw [List.range_add, List.filter_append, List.length_append]
    have h2 : (List.map (fun x => b + x) (List.range d)).filter p = [] := by
      rw [List.filter_eq_nil_iff]
      intro a ha hpa
      obtain ⟨x, _, rfl⟩ := List.mem_map.1 ha
      have := h _ hpa
      omega
    rw [h2]
    have := List.length_filter_le p (List.range b)
    rw [List.length_range] at this
    simpa using this
theorem loB_few {s : Sd} (h : loB s) (hn : (miT s s.ha.length).isEmpty = true) : (cmR s s.ha.length).length ≤ 30 := by
  unfold cmR
  rw [List.length_map]
  have hm := miT_none hn
  have e : (List.range s.ha.length).filter (fun i => (s.se[i]?).getD 0 == 0) = (List.range s.ha.length).filter (fun i => decide (i < s.ha.length) && ((s.se[i]?).getD 0 == 0)) := by
    apply List.filter_congr
    intro i hi
    simp [List.mem_range.1 hi]
  rw [e]
  refine filter_below _ 30 (fun i hi => ?_) _
  simp only [Bool.and_eq_true, decide_eq_true_eq, beq_iff_eq] at hi
  exact h i (hm i hi.1) hi.2
theorem loB_none : loB Sd.none := fun i h => by simp [Sd.none] at h

theorem pl_of {s : Sd} (h : ∀ i, i < s.ha.length → plA s i = true) : plT s s.ha.length = true :=
  List.all_eq_true.2 (fun i hi => h i (List.mem_range.1 hi))
theorem pl_at {s : Sd} (h : plT s s.ha.length = true) {i : Nat} (hi : i < s.ha.length) : plA s i = true :=
  List.all_eq_true.1 h i (List.mem_range.2 hi)
theorem ln_of {s : Sd} (h1 : s.ru.length = s.ha.length) (h2 : s.se.length = s.ha.length) (h3 : s.ha.length ≤ 230) : lnB s = true := by
  unfold lnB
  simp [h1, h2]
  omega
theorem spot_off {r : Ru} {z : Int} (h : spotB false r z = true) : r = zrU ∧ z = 0 := by
  unfold spotB at h
  rw [if_neg Bool.false_ne_true, Bool.and_eq_true] at h
  exact ⟨same_eq h.1, by simpa using h.2⟩
theorem lk_at {s : Sd} {n : Int} (h : lkB s n = true) : 0 ≤ n ∧ n.toNat < s.ha.length ∧ (s.ha[n.toNat]?).getD false = false := by
  unfold lkB at h
  rw [Bool.and_eq_true, decide_eq_true_eq] at h
  exact ⟨h.1.1, by omega, by simpa using h.2⟩
theorem op_good {s : Sd} (h : sdB s = true) {v n : Int} (h1 : s.fo.num < v) (h2 : v ≤ 100000) (hn : inB 0 230 n = true) : sdB (opX s v n.toNat) = true := by
  obtain ⟨g1, _, _, _⟩ := sd_parts h
  have hN : 0 ≤ n ∧ n ≤ 230 := of_decide_eq_true hn
  refine sd_yes g1 (ln_of (by simp [opX]) (by simp [opX]) (by simp [opX]; omega)) ?_ (pl_of (fun i hi => ?_))
  · have := (foB_num g1).1
    exact co_yes2 (s := opX s v n.toNat) (by show (v == 0) = false; simp; omega) h1 h2
  · have hi' : i < n.toNat := by simpa [opX] using hi
    unfold plA
    simp only [opX]
    rw [List.getElem?_replicate, List.getElem?_replicate, List.getElem?_replicate, if_pos hi', if_pos hi', if_pos hi']
    show spotB false zrU 0 = true
    unfold spotB
    rw [if_neg Bool.false_ne_true, zr_self]
    rfl
theorem ru_good {s : Sd} {m : Ml} (h : sdB s = true) (hl : lkB s m.no = true) (hr : m.ru.good = true) : sdB (ruX s m) = true := by
  obtain ⟨g1, g2, g3, g4⟩ := sd_parts h
  obtain ⟨e1, e2, e3⟩ := lnB_parts g2
  obtain ⟨l1, l2, l3⟩ := lk_at hl
  have hp := pl_at g4 l2
  unfold plA at hp
  rw [l3] at hp
  have hz := (spot_off hp).2
  refine sd_yes g1 (ln_of (by simpa [ruX] using e1) (by simpa [ruX] using e2) (by simpa [ruX] using e3)) ?_ (pl_of (fun i hi => ?_))
  · rw [← g3]
    unfold coB
    simp only [ruX, List.length_set]
    rfl
  · have hi' : i < s.ha.length := by simpa [ruX] using hi
    by_cases c : m.no.toNat = i
    · unfold plA
      simp only [ruX]
      rw [← c, List.getElem?_set_self l2, List.getElem?_set_self (by omega), hz]
      exact hr
    · have := pl_at g4 hi'
      unfold plA at this ⊢
      simp only [ruX]
      rw [List.getElem?_set_ne c, List.getElem?_set_ne c]
      exact this
theorem se_good {s : Sd} {m : Ml} (h : sdB s = true) (hl : lkB s m.no = true) (hr : numB m.se = true) : sdB (seX6 s m) = true := by
  obtain ⟨g1, g2, g3, g4⟩ := sd_parts h
  obtain ⟨e1, e2, e3⟩ := lnB_parts g2
  obtain ⟨l1, l2, l3⟩ := lk_at hl
  have hp := pl_at g4 l2
  unfold plA at hp
  rw [l3] at hp
  have hz := (spot_off hp).1
  refine sd_yes g1 (ln_of (by simpa [seX6] using e1) (by simpa [seX6] using e2) (by simpa [seX6] using e3)) ?_ (pl_of (fun i hi => ?_))
  · rw [← g3]
    unfold coB
    simp only [seX6, List.length_set]
    rfl
  · have hi' : i < s.ha.length := by simpa [seX6] using hi
    by_cases c : m.no.toNat = i
    · unfold plA
      simp only [seX6]
      rw [← c, List.getElem?_set_self l2, List.getElem?_set_self (by omega), hz]
      have hq : 1 ≤ m.se ∧ m.se ≤ 100000 := of_decide_eq_true hr
      show spotB true zrU m.se = true
      unfold spotB
      rw [if_pos rfl, if_neg (by simp; omega), zr_self, hr]
      rfl
    · have := pl_at g4 hi'
      unfold plA at this ⊢
      simp only [seX6]
      rw [List.getElem?_set_ne c, List.getElem?_set_ne c]
      exact this
theorem cm_good {s : Sd} {m : Ml} (h : sdB s = true) : sdB (cmX s m) = true := by
  unfold cmX
  split
  · rename_i hc
    rw [Bool.and_eq_true, Bool.and_eq_true] at hc
    exact sd_yes (by show foB (nxS s) = true; unfold foB; rw [hc.2.2]; simp) (ln_of rfl rfl (Nat.zero_le _)) (co_yes1 rfl rfl) (plT_zero _)
  · exact h
theorem tk_good {s : Sd} {m : Ml} (h : sdB s = true) : sdB (tkX s m) = true := by
  unfold tkX
  split
  · exact h
  rename_i c1
  simp only [Bool.or_eq_true, decide_eq_true_eq, not_or] at c1
  split
  · split
    · rename_i c3
      simp only [Bool.and_eq_true, decide_eq_true_eq] at c3
      exact op_good h (by omega) c3.2.1 c3.2.2
    · exact h
  split
  · exact h
  split
  · exact cm_good h
  split
  · exact h
  rename_i c5
  have hl : lkB s m.no = true := by simpa using c5
  split
  · rename_i c6
    exact ru_good h hl (by rw [Bool.and_eq_true] at c6; exact c6.2)
  split
  · rename_i c7
    exact se_good h hl (by rw [Bool.and_eq_true] at c7; exact c7.2)
  · exact h
theorem tk_force {s : Sd} {m : Ml} (h : (m.kd == 4) = false) : (tkX s m).fo = s.fo := by
  unfold tkX
  repeat' split
  all_goals first | rfl | (rename_i c; rw [h] at c; cases c)
theorem tk_low {s : Sd} {m : Ml} (hg : sdB s = true) (h : loB s) (hm : (m.kd == 2) = true → m.no < 30) : loB (tkX s m) := by
  unfold tkX
  split
  · exact h
  split
  · split
    · intro i hi
      simp only [opX] at hi
      rw [List.getElem?_replicate] at hi
      split at hi <;> simp at hi
    · exact h
  split
  · exact h
  split
  · unfold cmX
    split
    · intro i hi
      simp at hi
    · exact h
  split
  · exact h
  rename_i c5
  have hl : lkB s m.no = true := by simpa using c5
  obtain ⟨l1, l2, l3⟩ := lk_at hl
  split
  · rename_i c6
    rw [Bool.and_eq_true] at c6
    intro i h1 h2
    by_cases c : m.no.toNat = i
    · have := hm c6.1
      omega
    · simp only [ruX] at h1 h2
      rw [List.getElem?_set_ne c] at h1
      exact h i h1 h2
  split
  · rename_i c7
    rw [Bool.and_eq_true] at c7
    intro i h1 h2
    simp only [seX6] at h1 h2
    by_cases c : m.no.toNat = i
    · have hq : 1 ≤ m.se ∧ m.se ≤ 100000 := of_decide_eq_true c7.2
      have e2 := (lnB_parts (sd_parts hg).2.1).2.1
      subst c
      rw [List.getElem?_set_self (by omega)] at h2
      simp at h2
      omega
    · rw [List.getElem?_set_ne c] at h1 h2
      exact h i h1 h2
  · exact h
theorem cmR_mem {s : Sd} {k : Nat} : ∀ r ∈ cmR s k, r ∈ s.ru ∨ r = zrU := by
  intro r hr
  unfold cmR at hr
  obtain ⟨i, _, rfl⟩ := List.mem_map.1 hr
  cases e : s.ru[i]? with
  | none => exact .inr rfl
  | some x => exact .inl (List.mem_of_getElem? e)
theorem zr_size : zrU.size ≤ 1048576 := by decide +kernel
theorem cmR_size {s : Sd} {k : Nat} (h : ∀ r ∈ s.ru, r.size ≤ 1048576) : ∀ r ∈ cmR s k, r.size ≤ 1048576 := by
  intro r hr
  rcases cmR_mem r hr with h1 | rfl
  · exact h r h1
  · exact zr_size
theorem tk_short {s : Sd} {m : Ml} (hg : sdB s = true) (hs : s.short) (hm : m.ru.size ≤ 1048576) : (tkX s m).short := by
  obtain ⟨e1, e2, e3⟩ := lnB_parts (sd_parts hg).2.1
  have hs' := hs
  obtain ⟨hf, _, _, _, hr⟩ := hs
  unfold tkX
  split
  · exact hs'
  split
  · split
    · rename_i c3
      simp only [Bool.and_eq_true] at c3
      have hN : 0 ≤ m.no ∧ m.no ≤ 230 := of_decide_eq_true c3.2.2
      exact ⟨hf, by simp [opX]; omega, by simp [opX]; omega, by simp [opX]; omega, fun r h => by simp only [opX] at h; rw [(List.mem_replicate.1 h).2]; exact zr_size⟩
    · exact hs'
  split
  · exact hs'
  split
  · unfold cmX
    split
    · refine ⟨⟨?_, ?_, ?_⟩, Nat.zero_le _, Nat.zero_le _, Nat.zero_le _, fun r h => by cases h⟩
      · have h1 := plTo_len (rs := cmR s s.ha.length) _ (Nat.le_refl _)
        have h2 := cmR_len s s.ha.length
        show (nxS s).pol.length ≤ 1048576
        unfold nxS
        dsimp only
        omega
      · have h1 := srN_len (cmN s s.ha.length)
        have h2 := cmN_len s s.ha.length
        show (nxS s).rv.length ≤ 1048576
        unfold nxS
        dsimp only
        omega
      · intro r h
        have h1 := (plTo_mem (rs := cmR s s.ha.length) _ (Nat.le_refl _) r).1 h
        rw [List.take_length] at h1
        exact cmR_size hr r h1
    · exact hs'
  split
  · exact hs'
  split
  · exact ⟨hf, by simp [ruX]; omega, by simp [ruX]; omega, by simp [ruX]; omega, fun r h => by
      rcases List.mem_or_eq_of_mem_set h with h1 | rfl
      · exact hr r h1
      · exact hm⟩
  split
  · exact ⟨hf, by simp [seX6]; omega, by simp [seX6]; omega, by simp [seX6]; omega, hr⟩
  · exact hs'

end Go.Proofs.YtjnajdilllkpcaaGreat

namespace Go.Proofs.YtjnajdilllkpcaaGreat
open Go.RowKit Go.Shelf

/-- A slice reads as this list of versions. -/
def SsA (w : World) (v : Value) (ss : List Sn) : Prop :=
  (∃ a cap, v = .slice a 0 cap ∧ ss = []) ∨
  ∃ b off cap, v = .slice (some ⟨b, off, none⟩) ss.length cap ∧ b < w.heap.size ∧ ss.length ≤ cap ∧ ∀ i (h : i < ss.length), ∃ vp vr, w.cell? ⟨b, off + i * 3, none⟩ = some (.int .i64 ss[i].num) ∧ w.cell? ⟨b, off + i * 3 + 1, none⟩ = some vp ∧ w.cell? ⟨b, off + i * 3 + 2, none⟩ = some vr ∧ RuS w vp ss[i].pol ∧ VS w vr (nums ss[i].rv)
def SsR (w : World) (v : Value) (ss : List Sn) : Prop :=
  (v = .slice none 0 0 ∧ ss = []) ∨
  ∃ b off cap, v = .slice (some ⟨b, off, none⟩) ss.length cap ∧ b < w.heap.size ∧ ss.length ≤ cap ∧ ∀ i (h : i < ss.length), ∃ vp vr, w.cell? ⟨b, off + i * 3, none⟩ = some (.int .i64 ss[i].num) ∧ w.cell? ⟨b, off + i * 3 + 1, none⟩ = some vp ∧ w.cell? ⟨b, off + i * 3 + 2, none⟩ = some vr ∧ RuR w vp ss[i].pol ∧ NuR w vr ss[i].rv
theorem SsA.below {w w' : World} {v : Value} {ss : List Sn} (h : SsA w v ss) (hB : Below w.heap.size w w') : SsA w' v ss := by
  rcases h with h | ⟨b, off, cap, hv, hb, hl, hc⟩
  · exact .inl h
  · refine .inr ⟨b, off, cap, hv, Nat.lt_of_lt_of_le hb hB.size, hl, fun i hi => ?_⟩
    obtain ⟨vp, vr, c0, c1, c2, h1, h2⟩ := hc i hi
    exact ⟨vp, vr, (hB.cell (p := ⟨b, _, none⟩) hb).trans c0, (hB.cell (p := ⟨b, _, none⟩) hb).trans c1, (hB.cell (p := ⟨b, _, none⟩) hb).trans c2, h1.below hB, h2.below hB⟩
theorem SsR.below {w w' : World} {v : Value} {ss : List Sn} (h : SsR w v ss) (hB : Below w.heap.size w w') : SsR w' v ss := by
  rcases h with h | ⟨b, off, cap, hv, hb, hl, hc⟩
  · exact .inl h
  · refine .inr ⟨b, off, cap, hv, Nat.lt_of_lt_of_le hb hB.size, hl, fun i hi => ?_⟩
    obtain ⟨vp, vr, c0, c1, c2, h1, h2⟩ := hc i hi
    exact ⟨vp, vr, (hB.cell (p := ⟨b, _, none⟩) hb).trans c0, (hB.cell (p := ⟨b, _, none⟩) hb).trans c1, (hB.cell (p := ⟨b, _, none⟩) hb).trans c2, h1.below hB, h2.below hB⟩
theorem SsR.a {w : World} {v : Value} {ss : List Sn} (h : SsR w v ss) : SsA w v ss := by
  rcases h with ⟨rfl, rfl⟩ | ⟨b, off, cap, hv, hb, hl, hc⟩
  · exact .inl ⟨_, _, rfl, rfl⟩
  · refine .inr ⟨b, off, cap, hv, hb, hl, fun i hi => ?_⟩
    obtain ⟨vp, vr, c0, c1, c2, h1, h2⟩ := hc i hi
    exact ⟨vp, vr, c0, c1, c2, h1.s, h2.s⟩
theorem SsA.len {w : World} {v : Value} {ss : List Sn} (h : SsA w v ss) : ∃ a cap, v = .slice a ss.length cap := by
  rcases h with ⟨a, cap, hv, rfl⟩ | ⟨b, off, cap, hv, _⟩
  · exact ⟨a, cap, hv⟩
  · exact ⟨_, cap, hv⟩
theorem SsR.len {w : World} {v : Value} {ss : List Sn} (h : SsR w v ss) : ∃ a cap, v = .slice a ss.length cap := h.a.len
theorem SsA.at {w : World} {a : Option Addr} {n cap : Nat} {ss : List Sn} (h : SsA w (.slice a n cap) ss) {i : Nat} (hi : i < ss.length) :
    ∃ b off xp cp xr cr, a = some ⟨b, off, none⟩ ∧ b < w.heap.size ∧ n ≤ cap ∧ w.cell? ⟨b, off + i * 3, none⟩ = some (.int .i64 ss[i].num) ∧ w.cell? ⟨b, off + i * 3 + 1, none⟩ = some (.slice xp ss[i].pol.length cp) ∧ w.cell? ⟨b, off + i * 3 + 2, none⟩ = some (.slice xr ss[i].rv.length cr) ∧ RuS w (.slice xp ss[i].pol.length cp) ss[i].pol ∧ VS w (.slice xr ss[i].rv.length cr) (nums ss[i].rv) := by
  rcases h with ⟨_, _, _, rfl⟩ | ⟨b, off, cap, hv, hb, hl, hc⟩
  · simp at hi
  · cases hv
    obtain ⟨vp, vr, c0, c1, c2, h1, h2⟩ := hc i hi
    obtain ⟨xp, cp, rfl⟩ := h1.len
    obtain ⟨xr, cr, rfl⟩ := h2.numLen
    exact ⟨b, off, xp, cp, xr, cr, rfl, hb, hl, c0, c1, c2, h1, h2⟩
theorem SsR.at {w : World} {a : Option Addr} {n cap : Nat} {ss : List Sn} (h : SsR w (.slice a n cap) ss) {i : Nat} (hi : i < ss.length) :
    ∃ b off xp cp xr cr, a = some ⟨b, off, none⟩ ∧ b < w.heap.size ∧ n ≤ cap ∧ w.cell? ⟨b, off + i * 3, none⟩ = some (.int .i64 ss[i].num) ∧ w.cell? ⟨b, off + i * 3 + 1, none⟩ = some (.slice xp ss[i].pol.length cp) ∧ w.cell? ⟨b, off + i * 3 + 2, none⟩ = some (.slice xr ss[i].rv.length cr) ∧ RuR w (.slice xp ss[i].pol.length cp) ss[i].pol ∧ NuR w (.slice xr ss[i].rv.length cr) ss[i].rv := by
  rcases h with ⟨_, rfl⟩ | ⟨b, off, cap, hv, hb, hl, hc⟩
  · simp at hi
  · cases hv
    obtain ⟨vp, vr, c0, c1, c2, h1, h2⟩ := hc i hi
    obtain ⟨xp, cp, rfl⟩ := h1.len
    obtain ⟨xr, cr, rfl⟩ := h2.len
    exact ⟨b, off, xp, cp, xr, cr, rfl, hb, hl, c0, c1, c2, h1, h2⟩

def vzTo (ss : List Sn) (n : Nat) : Nat := ((ss.take n).map Sn.size).sum
def vzAll (ss : List Sn) : Nat := ss.length + vzTo ss ss.length
theorem vzTo_zero (ss : List Sn) : vzTo ss 0 = 0 := by simp [vzTo]
theorem vzTo_succ {ss : List Sn} {n : Nat} (h : n < ss.length) : vzTo ss (n + 1) = vzTo ss n + ss[n].size := by
  unfold vzTo
  rw [List.take_succ_eq_append_getElem h, List.map_append, List.sum_append]
  simp
theorem vzTo_le (ss : List Sn) (n : Nat) : vzTo ss n ≤ vzTo ss ss.length := by
  unfold vzTo
  rw [List.take_length]
  conv => rhs; rw [← List.take_append_drop n ss, List.map_append, List.sum_append]
  omega
theorem vz_mem {ss : List Sn} {s : Sn} (h : s ∈ ss) : s.size ≤ vzTo ss ss.length := by
  unfold vzTo
  rw [List.take_length]
  exact sum_mem (List.mem_map.2 ⟨s, h, rfl⟩)
def leftVS (n : Int) (ss : List Sn) : Int := if (vzAll ss : Int) ≤ n then n - vzAll ss else -1

/-- No list is longer than the laws take. -/
def shortS (ss : List Sn) : Prop := ss.length ≤ 1048576 ∧ ∀ s ∈ ss, s.short
theorem shortS_of {ss : List Sn} (h : vzAll ss ≤ 1048576) : shortS ss := by
  unfold vzAll at h
  exact ⟨by omega, fun s hs => Sn.short_of (by have := vz_mem hs; omega)⟩

end Go.Proofs.YtjnajdilllkpcaaGreat

namespace Go.Proofs.YtjnajdilllkpcaaGreat
open Go.RowKit Go.Shelf

/-- A row of n places, of which the first k hold these versions, whose lists lie in blocks of their own from base on, below top. -/
structure SsK (w : World) (base top : Nat) (v : Value) (n : Nat) (ss : List Sn) (k : Nat) (xs : List Value) (vp vr : Nat → Value) : Prop where
  row : w.ownsRow base 26 3 v n xs
  rlt : ∀ j, v.ownBlock = some j → j < top
  cs : ∀ i (h : i < ss.length), i < k → xs[i * 3]? = some (.int .i64 ss[i].num) ∧ xs[i * 3 + 1]? = some (vp i) ∧ xs[i * 3 + 2]? = some (vr i)
  pol : ∀ i (h : i < ss.length), i < k → w.ownsRow base 31 4 (vp i) ss[i].pol.length (ss[i].pol.flatMap Ru.cells)
  num : ∀ i (h : i < ss.length), i < k → w.ownsRow base 3 1 (vr i) ss[i].rv.length (nums ss[i].rv)
  plt : ∀ i, i < ss.length → i < k → ∀ j, (vp i).ownBlock = some j → j < top
  nlt : ∀ i, i < ss.length → i < k → ∀ j, (vr i).ownBlock = some j → j < top
  pap : ∀ i j, i < ss.length → j < ss.length → i < k → j < k → i ≠ j → ∀ b, (vp i).ownBlock = some b → (vp j).ownBlock = some b → False
  nap : ∀ i j, i < ss.length → j < ss.length → i < k → j < k → i ≠ j → ∀ b, (vr i).ownBlock = some b → (vr j).ownBlock = some b → False
/-- A list of versions of one's own. -/
def SsO (w : World) (base top : Nat) (v : Value) (ss : List Sn) : Prop := ∃ xs vp vr, SsK w base top v ss.length ss ss.length xs vp vr
theorem SsK.below {w w' : World} {base top : Nat} {v : Value} {n : Nat} {ss : List Sn} {k : Nat} {xs : List Value} {vp vr : Nat → Value} (h : SsK w base top v n ss k xs vp vr) (hB : Below w.heap.size w w') : SsK w' base top v n ss k xs vp vr :=
  ⟨ownsRow_below h.row hB, h.rlt, h.cs, fun i hi hk => ownsRow_below (h.pol i hi hk) hB, fun i hi hk => ownsRow_below (h.num i hi hk) hB, h.plt, h.nlt, h.pap, h.nap⟩
theorem SsO.below {w w' : World} {base top : Nat} {v : Value} {ss : List Sn} (h : SsO w base top v ss) (hB : Below w.heap.size w w') : SsO w' base top v ss := by
  obtain ⟨xs, vp, vr, h⟩ := h
  exact ⟨xs, vp, vr, h.below hB⟩
theorem Mid.sso {lo hi : Nat} {w w1 : World} (hM : Mid lo hi w w1) {base top : Nat} {v : Value} {ss : List Sn} (h : SsO w base top v ss) (ho : hi ≤ base ∨ top ≤ lo) : SsO w1 base top v ss := by
  obtain ⟨xs, vp, vr, h⟩ := h
  exact ⟨xs, vp, vr, hM.row h.row (fun j hj => by have := h.row.lt j hj; have := h.rlt j hj; omega), h.rlt, h.cs,
    fun i hi hk => hM.row (h.pol i hi hk) (fun j hj => by have := (h.pol i hi hk).lt j hj; have := h.plt i hi hk j hj; omega),
    fun i hi hk => hM.row (h.num i hi hk) (fun j hj => by have := (h.num i hi hk).lt j hj; have := h.nlt i hi hk j hj; omega), h.plt, h.nlt, h.pap, h.nap⟩
theorem SsO.r {w : World} {base top : Nat} {v : Value} {ss : List Sn} (h : SsO w base top v ss) : SsR w v ss := by
  obtain ⟨xs, vp, vr, h⟩ := h
  rcases row_form h.row with ⟨rfl, h0⟩ | ⟨g, cap, rfl, hg, hcap⟩
  · exact .inl ⟨rfl, List.eq_nil_of_length_eq_zero h0⟩
  · refine .inr ⟨g, 0, cap, rfl, (h.row.lt g rfl).2, hcap, fun i hi => ?_⟩
    obtain ⟨c0, c1, c2⟩ := h.cs i hi hi
    refine ⟨vp i, vr i, ?_, ?_, ?_, RuR.own (h.pol i hi hi), NuR.own (h.num i hi hi)⟩
    · rw [Nat.zero_add, h.row.cellAt (i * 3) (by omega)]; exact c0
    · rw [Nat.zero_add, h.row.cellAt (i * 3 + 1) (by omega)]; exact c1
    · rw [Nat.zero_add, h.row.cellAt (i * 3 + 2) (by omega)]; exact c2
theorem SsO.a {w : World} {base top : Nat} {v : Value} {ss : List Sn} (h : SsO w base top v ss) : SsA w v ss := h.r.a
theorem SsO.mono {w : World} {base base' top top' : Nat} {v : Value} {ss : List Sn} (h : SsO w base top v ss) (hb : base' ≤ base) (ht : top ≤ top') : SsO w base' top' v ss := by
  obtain ⟨xs, vp, vr, h⟩ := h
  exact ⟨xs, vp, vr, Go.Joins.ownsRow_le h.row hb, fun j hj => Nat.lt_of_lt_of_le (h.rlt j hj) ht, h.cs, fun i hi hk => Go.Joins.ownsRow_le (h.pol i hi hk) hb, fun i hi hk => Go.Joins.ownsRow_le (h.num i hi hk) hb,
    fun i hi hk j hj => Nat.lt_of_lt_of_le (h.plt i hi hk j hj) ht, fun i hi hk j hj => Nat.lt_of_lt_of_le (h.nlt i hi hk j hj) ht, h.pap, h.nap⟩
theorem SsO.none (w : World) (base top : Nat) : SsO w base top (.slice none 0 0) [] :=
  ⟨[], fun _ => .nilIface, fun _ => .nilIface, World.ownsRow_nil _ _ _ _, fun _ h => by simp [Value.ownBlock] at h, fun _ h => by simp at h, fun _ h => by simp at h, fun _ h => by simp at h, fun _ h => by simp at h, fun _ h => by simp at h, fun _ _ h => by simp at h, fun _ _ h => by simp at h⟩
theorem tyR : (31 : TypeId) ≠ 26 := by decide
theorem tyN : (3 : TypeId) ≠ 26 := by decide
theorem tyRN : (31 : TypeId) ≠ 3 := by decide
/-- Three cells stored into a row's block leave rows of another kind as they are. -/
theorem row_kept3 {w : World} {b1 b2 : Nat} {e1 : TypeId} {s1 n1 g n cap : Nat} {v1 : Value} {x1 xs : List Value} (h : w.ownsRow b1 e1 s1 v1 n1 x1) (hr : w.ownsRow b2 26 3 (.slice (some ⟨g, 0, none⟩) n cap) n xs) (hne : e1 ≠ 26) (o0 o1 o2 : Nat) (y0 y1 y2 : Value) :
    (((w.setCell ⟨g, o0, none⟩ y0).setCell ⟨g, o1, none⟩ y1).setCell ⟨g, o2, none⟩ y2).ownsRow b1 e1 s1 v1 n1 x1 := by
  have hb : v1.ownBlock ≠ some g := fun e => row_apart h hr hne g e rfl
  exact ownsRow_setCell_other (ownsRow_setCell_other (ownsRow_setCell_other h (a := ⟨g, o0, none⟩) hb y0) (a := ⟨g, o1, none⟩) hb y1) (a := ⟨g, o2, none⟩) hb y2
/-- One more version is laid into the row. -/
theorem SsK.add {w w2 : World} {base g n cap : Nat} {ss : List Sn} {k : Nat} {xs : List Value} {vp vr : Nat → Value} {p r : Value} (h : SsK w base w.heap.size (.slice (some ⟨g, 0, none⟩) n cap) n ss k xs vp vr) (hB : Below w.heap.size w w2) (hk : k < ss.length) (hkn : k < n) (hb : base ≤ w.heap.size)
    (hp : w2.ownsRow w.heap.size 31 4 p ss[k].pol.length (ss[k].pol.flatMap Ru.cells)) (hr : w2.ownsRow w.heap.size 3 1 r ss[k].rv.length (nums ss[k].rv)) :
    SsK (((w2.setCell ⟨g, k * 3, none⟩ (.int .i64 ss[k].num)).setCell ⟨g, k * 3 + 1, none⟩ p).setCell ⟨g, k * 3 + 2, none⟩ r) base (((w2.setCell ⟨g, k * 3, none⟩ (.int .i64 ss[k].num)).setCell ⟨g, k * 3 + 1, none⟩ p).setCell ⟨g, k * 3 + 2, none⟩ r).heap.size (.slice (some ⟨g, 0, none⟩) n cap) n ss (k + 1) (((xs.set (k * 3) (.int .i64 ss[k].num)).set (k * 3 + 1) p).set (k * 3 + 2) r) (fun i => if i = k then p else vp i) (fun i => if i = k then r else vr i) := by
  have h2 := h.below hB
  have hlen : xs.length = n * 3 := h.row.1
  have hsz : (((w2.setCell ⟨g, k * 3, none⟩ (.int .i64 ss[k].num)).setCell ⟨g, k * 3 + 1, none⟩ p).setCell ⟨g, k * 3 + 2, none⟩ r).heap.size = w2.heap.size := by rw [World.size_setCell, World.size_setCell, World.size_setCell]
  have hs := hB.size
  refine ⟨((h2.row.stored (k * 3) _).1.stored (k * 3 + 1) _).1.stored (k * 3 + 2) _ |>.1, ?_, ?_, ?_, ?_, ?_, ?_, ?_, ?_⟩
  · intro j hj
    rw [hsz]
    exact Nat.lt_of_lt_of_le (h.rlt j hj) hs
  · intro i hi hik
    by_cases e : i = k
    · subst e
      rw [if_pos rfl, if_pos rfl]
      refine ⟨?_, ?_, ?_⟩
      · rw [List.getElem?_set_ne (by omega), List.getElem?_set_ne (by omega), List.getElem?_set_self (by omega)]
      · rw [List.getElem?_set_ne (by omega), List.getElem?_set_self (by simp; omega)]
      · rw [List.getElem?_set_self (by simp; omega)]
    · rw [if_neg e, if_neg e]
      obtain ⟨c0, c1, c2⟩ := h.cs i hi (by omega)
      refine ⟨?_, ?_, ?_⟩
      · rw [List.getElem?_set_ne (by omega), List.getElem?_set_ne (by omega), List.getElem?_set_ne (by omega)]; exact c0
      · rw [List.getElem?_set_ne (by omega), List.getElem?_set_ne (by omega), List.getElem?_set_ne (by omega)]; exact c1
      · rw [List.getElem?_set_ne (by omega), List.getElem?_set_ne (by omega), List.getElem?_set_ne (by omega)]; exact c2
  · intro i hi hik
    by_cases e : i = k
    · subst e
      rw [if_pos rfl]
      exact row_kept3 (Go.Joins.ownsRow_le hp hb) h2.row tyR _ _ _ _ _ _
    · rw [if_neg e]
      exact row_kept3 (h2.pol i hi (by omega)) h2.row tyR _ _ _ _ _ _
  · intro i hi hik
    by_cases e : i = k
    · subst e
      rw [if_pos rfl]
      exact row_kept3 (Go.Joins.ownsRow_le hr hb) h2.row tyN _ _ _ _ _ _
    · rw [if_neg e]
      exact row_kept3 (h2.num i hi (by omega)) h2.row tyN _ _ _ _ _ _
  · intro i hi hik j hj
    rw [hsz]
    by_cases e : i = k
    · rw [if_pos e] at hj
      exact (hp.lt j hj).2
    · rw [if_neg e] at hj
      exact Nat.lt_of_lt_of_le (h.plt i hi (by omega) j hj) hs
  · intro i hi hik j hj
    rw [hsz]
    by_cases e : i = k
    · rw [if_pos e] at hj
      exact (hr.lt j hj).2
    · rw [if_neg e] at hj
      exact Nat.lt_of_lt_of_le (h.nlt i hi (by omega) j hj) hs
  · intro i j hi hj hik hjk hij b h1 h2'
    by_cases e : i = k
    · rw [if_pos e] at h1
      rw [if_neg (by omega)] at h2'
      have := (hp.lt b h1).1
      have := h.plt j hj (by omega) b h2'
      omega
    · rw [if_neg e] at h1
      have := h.plt i hi (by omega) b h1
      by_cases e2 : j = k
      · rw [if_pos e2] at h2'
        have := (hp.lt b h2').1
        omega
      · rw [if_neg e2] at h2'
        exact h.pap i j hi hj (by omega) (by omega) hij b h1 h2'
  · intro i j hi hj hik hjk hij b h1 h2'
    by_cases e : i = k
    · rw [if_pos e] at h1
      rw [if_neg (by omega)] at h2'
      have := (hr.lt b h1).1
      have := h.nlt j hj (by omega) b h2'
      omega
    · rw [if_neg e] at h1
      have := h.nlt i hi (by omega) b h1
      by_cases e2 : j = k
      · rw [if_pos e2] at h2'
        have := (hr.lt b h2').1
        omega
      · rw [if_neg e2] at h2'
        exact h.nap i j hi hj (by omega) (by omega) hij b h1 h2'
theorem infoSnapshot : (Tryz.prog.info? 26).map (fun i => (i.zero, i.size, i.bytes)) = some (some (.agg #[.int .i64 0, .slice none 0 0, .slice none 0 0]), 3, 56) := by kernel_rfl

end Go.Proofs.YtjnajdilllkpcaaGreat

namespace Go.Proofs.YtjnajdilllkpcaaGreat
open Go.RowKit Go.Shelf

/-- The version that is laid from the number c on. -/
def mkV (c : Nat) (s : Sn) : Sn := ⟨(c : Int), mkL (c + 1) s.pol.length, mkN (c + 1 + 4 * s.pol.length) s.rv.length⟩
def mvTo (ss : List Sn) (j : Nat) : Nat := ((ss.take j).map (fun s => 1 + s.many)).sum
theorem mvTo_zero (ss : List Sn) : mvTo ss 0 = 0 := by simp [mvTo]
theorem mvTo_succ {ss : List Sn} {j : Nat} (h : j < ss.length) : mvTo ss (j + 1) = mvTo ss j + (1 + ss[j].many) := by
  unfold mvTo
  rw [List.take_succ_eq_append_getElem h, List.map_append, List.sum_append]
  simp
theorem mvTo_le (ss : List Sn) (j : Nat) : mvTo ss j ≤ mvTo ss ss.length := by
  unfold mvTo
  rw [List.take_length]
  conv => rhs; rw [← List.take_append_drop j ss, List.map_append, List.sum_append]
  omega
theorem mvTo_size (ss : List Sn) : mvTo ss ss.length ≤ 4 * vzAll ss := by
  have h : ∀ l : List Sn, (l.map (fun s => 1 + s.many)).sum ≤ l.length + 4 * (l.map Sn.size).sum := by
    intro l
    induction l with
    | nil => simp
    | cons s l ih =>
      simp only [List.map_cons, List.sum_cons, List.length_cons]
      have : s.many ≤ 4 * s.size := by unfold Sn.many Sn.size szAll; omega
      omega
  have := h ss
  unfold mvTo vzAll vzTo
  rw [List.take_length]
  omega
/-- The versions of a marked list. -/
def mkVs (c : Nat) (ss : List Sn) : List Sn := (List.range ss.length).map (fun i => match ss[i]? with
  | some s => mkV (c + mvTo ss i) s
  | Option.none => Sn.none)
theorem mkVs_len (c : Nat) (ss : List Sn) : (mkVs c ss).length = ss.length := by simp [mkVs]
theorem mkVs_at {c : Nat} {ss : List Sn} {i : Nat} (h : i < (mkVs c ss).length) : (mkVs c ss)[i] = mkV (c + mvTo ss i) (ss[i]'(by rw [← mkVs_len c ss]; exact h)) := by
  have hi : i < ss.length := by rw [← mkVs_len c ss]; exact h
  simp [mkVs, List.getElem?_eq_getElem hi]
theorem set_next {α : Type} {M L : List α} {j : Nat} (hM : M.length = L.length) (hj : j < L.length) : (M.take j ++ L.drop j).set j (M[j]'(by omega)) = M.take (j + 1) ++ L.drop (j + 1) := by
  rw [List.set_append_right _ _ (by rw [List.length_take]; omega), List.length_take, show j - min j M.length = 0 by omega, List.take_succ_eq_append_getElem (by omega), List.append_assoc]
  congr 1
  rw [List.drop_eq_getElem_cons hj]
  rfl
theorem get_next {α : Type} {M L : List α} {j : Nat} (hM : M.length = L.length) (hj : j < L.length) (h : j < (M.take j ++ L.drop j).length) : (M.take j ++ L.drop j)[j] = L[j] := by
  rw [List.getElem_append_right (by rw [List.length_take]; omega)]
  simp only [List.length_take]
  rw [List.getElem_drop]
  congr 1
  omega
theorem SsK.setNum {w : World} {base top g cap n : Nat} {ss : List Sn} {xs : List Value} {vp vr : Nat → Value} (h : SsK w base top (.slice (some ⟨g, 0, none⟩) n cap) n ss n xs vp vr) (hl : ss.length = n) {j : Nat} (hj : j < ss.length) (z : Int) :
    SsK (w.setCell ⟨g, j * 3, none⟩ (.int .i64 z)) base top (.slice (some ⟨g, 0, none⟩) n cap) n (ss.set j ⟨z, ss[j].pol, ss[j].rv⟩) n (xs.set (j * 3) (.int .i64 z)) vp vr := by
  have hlen : xs.length = n * 3 := h.row.1
  have hnb : ∀ {e : TypeId} {s m : Nat} {v : Value} {x : List Value}, w.ownsRow base e s v m x → e ≠ 26 → v.ownBlock ≠ some g := fun hr hne e => row_apart hr h.row hne g e rfl
  refine ⟨(h.row.stored (j * 3) _).1, h.rlt, ?_, ?_, ?_, fun i hi => h.plt i (by simpa using hi), fun i hi => h.nlt i (by simpa using hi), fun i k hi hk => h.pap i k (by simpa using hi) (by simpa using hk), fun i k hi hk => h.nap i k (by simpa using hi) (by simpa using hk)⟩
  · intro i hi hik
    have hi' : i < ss.length := by simpa using hi
    obtain ⟨c0, c1, c2⟩ := h.cs i hi' hik
    by_cases e : j = i
    · subst e
      rw [List.getElem_set_self]
      exact ⟨by rw [List.getElem?_set_self (by omega)], by rw [List.getElem?_set_ne (by omega)]; exact c1, by rw [List.getElem?_set_ne (by omega)]; exact c2⟩
    · rw [List.getElem_set_ne e]
      exact ⟨by rw [List.getElem?_set_ne (by omega)]; exact c0, by rw [List.getElem?_set_ne (by omega)]; exact c1, by rw [List.getElem?_set_ne (by omega)]; exact c2⟩
  · intro i hi hik
    have hi' : i < ss.length := by simpa using hi
    have := ownsRow_setCell_other (h.pol i hi' hik) (a := ⟨g, j * 3, none⟩) (hnb (h.pol i hi' hik) tyR) (.int .i64 z)
    by_cases e : j = i
    · subst e
      rw [List.getElem_set_self]
      exact this
    · rw [List.getElem_set_ne e]
      exact this
  · intro i hi hik
    have hi' : i < ss.length := by simpa using hi
    have := ownsRow_setCell_other (h.num i hi' hik) (a := ⟨g, j * 3, none⟩) (hnb (h.num i hi' hik) tyN) (.int .i64 z)
    by_cases e : j = i
    · subst e
      rw [List.getElem_set_self]
      exact this
    · rw [List.getElem_set_ne e]
      exact this
theorem SsK.setPol {w w1 : World} {base top n : Nat} {v : Value} {ss : List Sn} {xs : List Value} {vp vr : Nat → Value} (h : SsK w base top v n ss n xs vp vr) (hl : ss.length = n) {j : Nat} (hj : j < ss.length) {rs : List Ru} (hg : w.grownBy w1 (vp j).ownBlock) (hp : w1.ownsRow base 31 4 (vp j) rs.length (rs.flatMap Ru.cells)) :
    SsK w1 base top v n (ss.set j ⟨ss[j].num, rs, ss[j].rv⟩) n xs vp vr := by
  have hpj := h.pol j hj (by omega)
  refine ⟨kept_apart h.row hg (fun k h1 h2 => row_apart hpj h.row tyR k h2 h1), h.rlt, ?_, ?_, ?_, fun i hi => h.plt i (by simpa using hi), fun i hi => h.nlt i (by simpa using hi), fun i k hi hk => h.pap i k (by simpa using hi) (by simpa using hk), fun i k hi hk => h.nap i k (by simpa using hi) (by simpa using hk)⟩
  · intro i hi hik
    have hi' : i < ss.length := by simpa using hi
    by_cases e : j = i
    · subst e
      rw [List.getElem_set_self]
      exact h.cs j hi' hik
    · rw [List.getElem_set_ne e]
      exact h.cs i hi' hik
  · intro i hi hik
    have hi' : i < ss.length := by simpa using hi
    by_cases e : j = i
    · subst e
      rw [List.getElem_set_self]
      exact hp
    · rw [List.getElem_set_ne e]
      exact kept_apart (h.pol i hi' hik) hg (fun k h1 h2 => h.pap i j hi' hj hik (by omega) (by omega) k h1 h2)
  · intro i hi hik
    have hi' : i < ss.length := by simpa using hi
    have := kept_apart (h.num i hi' hik) hg (fun k h1 h2 => row_apart hpj (h.num i hi' hik) tyRN k h2 h1)
    by_cases e : j = i
    · subst e
      rw [List.getElem_set_self]
      exact this
    · rw [List.getElem_set_ne e]
      exact this
theorem SsK.setRv {w w1 : World} {base top n : Nat} {v : Value} {ss : List Sn} {xs : List Value} {vp vr : Nat → Value} (h : SsK w base top v n ss n xs vp vr) (hl : ss.length = n) {j : Nat} (hj : j < ss.length) {zs : List Int} (hg : w.grownBy w1 (vr j).ownBlock) (hp : w1.ownsRow base 3 1 (vr j) zs.length (nums zs)) :
    SsK w1 base top v n (ss.set j ⟨ss[j].num, ss[j].pol, zs⟩) n xs vp vr := by
  have hpj := h.num j hj (by omega)
  refine ⟨kept_apart h.row hg (fun k h1 h2 => row_apart hpj h.row tyN k h2 h1), h.rlt, ?_, ?_, ?_, fun i hi => h.plt i (by simpa using hi), fun i hi => h.nlt i (by simpa using hi), fun i k hi hk => h.pap i k (by simpa using hi) (by simpa using hk), fun i k hi hk => h.nap i k (by simpa using hi) (by simpa using hk)⟩
  · intro i hi hik
    have hi' : i < ss.length := by simpa using hi
    by_cases e : j = i
    · subst e
      rw [List.getElem_set_self]
      exact h.cs j hi' hik
    · rw [List.getElem_set_ne e]
      exact h.cs i hi' hik
  · intro i hi hik
    have hi' : i < ss.length := by simpa using hi
    have := kept_apart (h.pol i hi' hik) hg (fun k h1 h2 => row_apart (h.pol i hi' hik) hpj tyRN k h1 h2)
    by_cases e : j = i
    · subst e
      rw [List.getElem_set_self]
      exact this
    · rw [List.getElem_set_ne e]
      exact this
  · intro i hi hik
    have hi' : i < ss.length := by simpa using hi
    by_cases e : j = i
    · subst e
      rw [List.getElem_set_self]
      exact hp
    · rw [List.getElem_set_ne e]
      exact kept_apart (h.num i hi' hik) hg (fun k h1 h2 => h.nap i j hi' hj hik (by omega) (by omega) k h1 h2)

end Go.Proofs.YtjnajdilllkpcaaGreat

namespace Go.Proofs.YtjnajdilllkpcaaGreat
open Go.RowKit Go.Shelf

/-- A difference in memory. -/
def DfA (w : World) (v : Value) (d : Df) : Prop := ∃ vd va vr, v = .agg #[.int .i64 d.fr, .int .i64 d.tt, vd, va, vr] ∧ RuS w vd d.dr ∧ RuS w va d.ad ∧ VS w vr (nums d.rv)
def DfR (w : World) (v : Value) (d : Df) : Prop := ∃ vd va vr, v = .agg #[.int .i64 d.fr, .int .i64 d.tt, vd, va, vr] ∧ RuR w vd d.dr ∧ RuR w va d.ad ∧ NuR w vr d.rv
/-- .. of one's own. -/
def DfO (w : World) (base top : Nat) (v : Value) (d : Df) : Prop :=
  ∃ vd va vr, v = .agg #[.int .i64 d.fr, .int .i64 d.tt, vd, va, vr] ∧ w.ownsRow base 31 4 vd d.dr.length (d.dr.flatMap Ru.cells) ∧ w.ownsRow base 31 4 va d.ad.length (d.ad.flatMap Ru.cells) ∧ w.ownsRow base 3 1 vr d.rv.length (nums d.rv) ∧ (∀ k, vd.ownBlock = some k → k < top) ∧ (∀ k, va.ownBlock = some k → k < top) ∧ (∀ k, vr.ownBlock = some k → k < top) ∧ ∀ k, vd.ownBlock = some k → va.ownBlock = some k → False
theorem DfA.below {w w' : World} {v : Value} {d : Df} (h : DfA w v d) (hB : Below w.heap.size w w') : DfA w' v d := by
  obtain ⟨vd, va, vr, rfl, h1, h2, h3⟩ := h
  exact ⟨_, _, _, rfl, h1.below hB, h2.below hB, h3.below hB⟩
theorem DfR.below {w w' : World} {v : Value} {d : Df} (h : DfR w v d) (hB : Below w.heap.size w w') : DfR w' v d := by
  obtain ⟨vd, va, vr, rfl, h1, h2, h3⟩ := h
  exact ⟨_, _, _, rfl, h1.below hB, h2.below hB, h3.below hB⟩
theorem DfO.below {w w' : World} {base top : Nat} {v : Value} {d : Df} (h : DfO w base top v d) (hB : Below w.heap.size w w') : DfO w' base top v d := by
  obtain ⟨vd, va, vr, rfl, h1, h2, h3, t⟩ := h
  exact ⟨vd, va, vr, rfl, ownsRow_below h1 hB, ownsRow_below h2 hB, ownsRow_below h3 hB, t⟩
theorem DfR.a {w : World} {v : Value} {d : Df} (h : DfR w v d) : DfA w v d := by
  obtain ⟨vd, va, vr, rfl, h1, h2, h3⟩ := h
  exact ⟨_, _, _, rfl, h1.s, h2.s, h3.s⟩
theorem DfO.r {w : World} {base top : Nat} {v : Value} {d : Df} (h : DfO w base top v d) : DfR w v d := by
  obtain ⟨vd, va, vr, rfl, h1, h2, h3, _⟩ := h
  exact ⟨_, _, _, rfl, RuR.own h1, RuR.own h2, NuR.own h3⟩
theorem DfO.a {w : World} {base top : Nat} {v : Value} {d : Df} (h : DfO w base top v d) : DfA w v d := h.r.a
theorem DfO.mono {w : World} {base base' top top' : Nat} {v : Value} {d : Df} (h : DfO w base top v d) (hb : base' ≤ base) (ht : top ≤ top') : DfO w base' top' v d := by
  obtain ⟨vd, va, vr, rfl, h1, h2, h3, t1, t2, t3, t4⟩ := h
  exact ⟨vd, va, vr, rfl, Go.Joins.ownsRow_le h1 hb, Go.Joins.ownsRow_le h2 hb, Go.Joins.ownsRow_le h3 hb, fun k hk => Nat.lt_of_lt_of_le (t1 k hk) ht, fun k hk => Nat.lt_of_lt_of_le (t2 k hk) ht, fun k hk => Nat.lt_of_lt_of_le (t3 k hk) ht, t4⟩
theorem Mid.dfo {lo hi : Nat} {w w1 : World} (h : Mid lo hi w w1) {base top : Nat} {v : Value} {d : Df} (hr : DfO w base top v d) (ho : hi ≤ base ∨ top ≤ lo) : DfO w1 base top v d := by
  obtain ⟨vd, va, vr, rfl, h1, h2, h3, t1, t2, t3, t4⟩ := hr
  exact ⟨vd, va, vr, rfl, h.row h1 (fun k hk => by have := h1.lt k hk; have := t1 k hk; omega), h.row h2 (fun k hk => by have := h2.lt k hk; have := t2 k hk; omega), h.row h3 (fun k hk => by have := h3.lt k hk; have := t3 k hk; omega), t1, t2, t3, t4⟩
theorem DfO.five {w : World} {base top : Nat} {v : Value} {d : Df} (h : DfO w base top v d) {k : Nat} (hk : k < base) (x0 x1 x2 x3 x4 : Value) : DfO (((((w.setCell ⟨k, 0, none⟩ x0).setCell ⟨k, 1, none⟩ x1).setCell ⟨k, 2, none⟩ x2).setCell ⟨k, 3, none⟩ x3).setCell ⟨k, 4, none⟩ x4) base top v d := by
  obtain ⟨vd, va, vr, rfl, h1, h2, h3, t⟩ := h
  exact ⟨vd, va, vr, rfl, row_five h1 hk x0 x1 x2 x3 x4, row_five h2 hk x0 x1 x2 x3 x4, row_five h3 hk x0 x1 x2 x3 x4, t⟩
theorem SnO.three {w : World} {base top : Nat} {v : Value} {s : Sn} (h : SnO w base top v s) {k : Nat} (hk : k < base) (x0 x1 x2 : Value) : SnO (((w.setCell ⟨k, 0, none⟩ x0).setCell ⟨k, 1, none⟩ x1).setCell ⟨k, 2, none⟩ x2) base top v s := by
  obtain ⟨vp, vr, rfl, h1, h2, t⟩ := h
  exact ⟨vp, vr, rfl, row_three h1 hk x0 x1 x2, row_three h2 hk x0 x1 x2, t⟩
/-- A difference with nothing in it. -/
theorem DfO.none (w : World) (base top : Nat) : DfO w base top (.agg #[.int .i64 0, .int .i64 0, .slice none 0 0, .slice none 0 0, .slice none 0 0]) Df.none :=
  ⟨_, _, _, rfl, World.ownsRow_nil _ _ _ _, World.ownsRow_nil _ _ _ _, World.ownsRow_nil _ _ _ _, fun _ h => by simp [Value.ownBlock] at h, fun _ h => by simp [Value.ownBlock] at h, fun _ h => by simp [Value.ownBlock] at h, fun _ h => by simp [Value.ownBlock] at h⟩
theorem SnO.none (w : World) (base top : Nat) : SnO w base top (.agg #[.int .i64 0, .slice none 0 0, .slice none 0 0]) Sn.none :=
  ⟨_, _, rfl, World.ownsRow_nil _ _ _ _, World.ownsRow_nil _ _ _ _, fun _ h => by simp [Value.ownBlock] at h, fun _ h => by simp [Value.ownBlock] at h⟩
def Df.fits (d : Df) : Prop := d.dr.length ≤ maxLen ∧ (∀ r ∈ d.dr, r.fits) ∧ d.ad.length ≤ maxLen ∧ (∀ r ∈ d.ad, r.fits) ∧ d.rv.length ≤ maxLen
def Df.size (d : Df) : Nat := szAll d.dr + szAll d.ad + d.rv.length
def leftD (n : Int) (d : Df) : Int := if (d.size : Int) ≤ n then n - d.size else -1
def Df.short (d : Df) : Prop := d.dr.length ≤ 1048576 ∧ d.ad.length ≤ 1048576 ∧ d.rv.length ≤ 1048576 ∧ (∀ r ∈ d.dr, r.size ≤ 1048576) ∧ ∀ r ∈ d.ad, r.size ≤ 1048576
theorem Df.short_of {d : Df} (h : d.size ≤ 1048576) : d.short := by
  unfold Df.size szAll at h
  exact ⟨by omega, by omega, by omega, fun r hr => by have := sz_mem hr; omega, fun r hr => by have := sz_mem hr; omega⟩
theorem df_forms {w : World} {v : Value} {d : Df} (h : DfA w v d) : ∃ ad cd aa ca ar cr, v = .agg #[.int .i64 d.fr, .int .i64 d.tt, .slice ad d.dr.length cd, .slice aa d.ad.length ca, .slice ar d.rv.length cr] := by
  obtain ⟨vd, va, vr, rfl, h1, h2, h3⟩ := h
  obtain ⟨a1, c1, rfl⟩ := h1.len
  obtain ⟨a2, c2, rfl⟩ := h2.len
  obtain ⟨a3, c3, rfl⟩ := h3.numLen
  exact ⟨_, _, _, _, _, _, rfl⟩

/-- What lies in a difference that was marked. -/
def mkDf (k : Nat) (d : Df) : Df := ⟨d.fr, d.tt, mkL k d.dr.length, mkL (k + 4 * d.dr.length) d.ad.length, mkN (k + 4 * d.dr.length + 4 * d.ad.length) d.rv.length⟩
def Df.many (d : Df) : Nat := 4 * d.dr.length + 4 * d.ad.length + d.rv.length

end Go.Proofs.YtjnajdilllkpcaaGreat

namespace Go.Proofs.YtjnajdilllkpcaaGreat
open Go.RowKit Go.Shelf

set_option maxHeartbeats 8000000 in
set_option maxRecDepth 100000 in
theorem l5List_any (v : Value) (ss : List Sn) (w : World) (hm : shortS ss) (hr : SsA w v ss) :
    Calls Tryz.prog 71 #[v] w fun e w' => e = .returned (.bool (lsB ss)) ∧ Below w.heap.size w w' := by
  obtain ⟨a, cap, rfl⟩ := hr.len
  have hm1 := hm.1
  go_enter Tryz.func71, Tryz.ntmps71
  go_wp2
  go_loopw [7] (fun i wr => ∃ n : Nat, n ≤ ss.length ∧ i = .int .i64 n ∧ (∀ j, j < n → gdB ss j = true ∧ nexB ss j = true) ∧ Below w.heap.size w wr) (fun i _ => ss.length - (intOf i).toNat)
  case atStart => exact ⟨0, Nat.zero_le _, rfl, fun _ h => absurd h (Nat.not_lt_zero _), Below.refl _ _⟩
  case round =>
    obtain ⟨n, hnl, rfl, hk, hB⟩ := hrel
    have HK := hid hk
    clear hk
    by_cases hlt : n < ss.length
    · obtain ⟨b, off, xp, cp, xr, cr, rfl, hb, hcap, q0, q1, q2, y1, y2⟩ := (hr.below hB).at hlt
      have hsh := hm.2 ss[n] (List.getElem_mem hlt)
      have HNG := hid (fun h => lsB_no2 (ss := ss) hlt h)
      have HNX := hid (fun h => lsB_no3 (ss := ss) hlt h)
      have HGA := hid (gdB_at hlt)
      have HY := hid (show gdB ss n = true → nexB ss n = true → ∀ j, j < n + 1 → gdB ss j = true ∧ nexB ss j = true from fun hh hu j hjn => (by
        by_cases e : j = n
        · subst e; exact ⟨hh, hu⟩
        · exact HK.out j (by omega)))
      rcases Nat.eq_zero_or_pos n with rfl | hpos
      · rw [Nat.zero_mul, Nat.add_zero] at q0 q1 q2
        have HZ := hid (show nexB ss 0 = true from rfl)
        generalize ss[0] = s at *
        have hBw : Below wr.heap.size wr (wr.alloc (.cells #[.int .i64 s.num, .slice xp s.pol.length cp, .slice xr s.rv.length cr] 26)) := (Below.refl _ wr).alloc (Nat.le_refl _) _
        have F := Three.new wr (.int .i64 s.num) (.slice xp s.pol.length cp) (.slice xr s.rv.length cr) 26
        have hBW := below_one hB hBw
        have z1 := y1.below hBw
        have z2 := y2.below hBw
        have hbW := Nat.lt_of_lt_of_le hb hBw.size
        obtain ⟨x0, x1, x2⟩ := F.c
        clear y1 y2 hBw
        cases hg : snB s
        · have HR := hid (HNG.out (by rw [HGA.out]; exact hg))
          go_wp2_with fail
          generalize wr.alloc (.cells #[.int .i64 s.num, .slice xp s.pol.length cp, .slice xr s.rv.length cr] 26) = Wa at *
          refine wp_region_held_drew (S := fun w' => w'.cell? ⟨wr.heap.size, 0, none⟩ = some (.int .i64 s.num) ∧ w'.cell? ⟨wr.heap.size, 1, none⟩ = some (.slice xp s.pol.length cp) ∧ w'.cell? ⟨wr.heap.size, 2, none⟩ = some (.slice xr s.rv.length cr)) (by kernel_rfl) ?_ (fun hHeld => ?_)
          · go_keep
          refine takeW 0 (v := ?v60) rfl (by kernel_rfl) (by kernel_rfl) (by kernel_rfl) (fun _ _ _ h => h) (by rfl) (by assumption) ?hy60 ?rest60
          case hy60 => intro w' hSw; (try dsimp only at hSw); go_simp; try with_reducible rfl
          try simp only [Act.put, List.setIfInBounds_toArray, List.set_cons_zero, List.set_cons_succ]
          refine takeC 1 (by kernel_rfl) rfl (fun K hK => ?_)
          go_simp
          refine (specGoodSnapshot_any _ s _ hsh (by exact ⟨_, _, rfl, z1.below (Below.refl _ _).drew, z2.below (Below.refl _ _).drew⟩)).mono ?_; rintro e w3 ⟨he, hB3⟩; rw [hg] at he; subst he; have hcn := fun o => hB3.cell (p := ⟨wr.heap.size, o, none⟩) (by exact F.lt); have hcb := fun o => hB3.cell (p := ⟨b, o, none⟩) (by exact hbW)
          refine hK.out _ _ ?_ (fun hHeld => ?_)
          · go_keep
          clear hK K
          try simp only [Act.put, List.setIfInBounds_toArray, List.set_cons_zero, List.set_cons_succ]
          refine takeW 2 (v := ?v61) rfl (by kernel_rfl) (by kernel_rfl) (by kernel_rfl) (fun _ _ _ h => h) (by rfl) (by assumption) ?hy61 ?rest61
          case hy61 => intro w' hSw; (try dsimp only at hSw); go_simp; try with_reducible rfl
          try simp only [Act.put, List.setIfInBounds_toArray, List.set_cons_zero, List.set_cons_succ]
          refine takeW 3 (v := ?v62) rfl (by kernel_rfl) (by kernel_rfl) (by kernel_rfl) (fun _ _ _ h => h) (by rfl) (by assumption) ?hy62 ?rest62
          case hy62 => intro w' hSw; (try dsimp only at hSw); go_simp; try with_reducible rfl
          try simp only [Act.put, List.setIfInBounds_toArray, List.set_cons_zero, List.set_cons_succ]
          refine takeX 4 rfl (by kernel_rfl) (by kernel_rfl) (by kernel_rfl) (fun _ _ _ h => h) (by rfl) (by assumption) ?_
          try simp only [Act.put, List.setIfInBounds_toArray, List.set_cons_zero, List.set_cons_succ]
          refine takeX 5 rfl (by kernel_rfl) (by kernel_rfl) (by kernel_rfl) (fun _ _ _ h => h) (by rfl) (by assumption) ?_
          try simp only [Act.put, List.setIfInBounds_toArray, List.set_cons_zero, List.set_cons_succ]
          refine takeX 6 rfl (by kernel_rfl) (by kernel_rfl) (by kernel_rfl) (fun _ _ _ h => h) (by rfl) (by assumption) ?_
          try simp only [Act.put, List.setIfInBounds_toArray, List.set_cons_zero, List.set_cons_succ]
          refine takeX 7 rfl (by kernel_rfl) (by kernel_rfl) (by kernel_rfl) (fun _ _ _ h => h) (by rfl) (by assumption) ?_
          try simp only [Act.put, List.setIfInBounds_toArray, List.set_cons_zero, List.set_cons_succ]
          refine takeX 8 rfl (by kernel_rfl) (by kernel_rfl) (by kernel_rfl) (fun _ _ _ h => h) (by rfl) (by assumption) ?_
          try simp only [Act.put, List.setIfInBounds_toArray, List.set_cons_zero, List.set_cons_succ]
          refine takeX 9 rfl (by kernel_rfl) (by kernel_rfl) (by kernel_rfl) (fun _ _ _ h => h) (by rfl) (by assumption) ?_
          try simp only [Act.put, List.setIfInBounds_toArray, List.set_cons_zero, List.set_cons_succ]
          refine takeX 10 rfl (by kernel_rfl) (by kernel_rfl) (by kernel_rfl) (fun _ _ _ h => h) (by rfl) (by assumption) ?_
          try simp only [Act.put, List.setIfInBounds_toArray, List.set_cons_zero, List.set_cons_succ]
          refine takeX 11 rfl (by kernel_rfl) (by kernel_rfl) (by kernel_rfl) (fun _ _ _ h => h) (by rfl) (by assumption) ?_
          try simp only [Act.put, List.setIfInBounds_toArray, List.set_cons_zero, List.set_cons_succ]
          refine takeX 12 rfl (by kernel_rfl) (by kernel_rfl) (by kernel_rfl) (fun _ _ _ h => h) (by rfl) (by assumption) ?_
          try simp only [Act.put, List.setIfInBounds_toArray, List.set_cons_zero, List.set_cons_succ]
          refine takeX 13 rfl (by kernel_rfl) (by kernel_rfl) (by kernel_rfl) (fun _ _ _ h => h) (by rfl) (by assumption) ?_
          try simp only [Act.put, List.setIfInBounds_toArray, List.set_cons_zero, List.set_cons_succ]
          refine takeX 14 rfl (by kernel_rfl) (by kernel_rfl) (by kernel_rfl) (fun _ _ _ h => h) (by rfl) (by assumption) ?_
          try simp only [Act.put, List.setIfInBounds_toArray, List.set_cons_zero, List.set_cons_succ]
          refine takeX 15 rfl (by kernel_rfl) (by kernel_rfl) (by kernel_rfl) (fun _ _ _ h => h) (by rfl) (by assumption) ?_
          try simp only [Act.put, List.setIfInBounds_toArray, List.set_cons_zero, List.set_cons_succ]
          refine takeX 16 rfl (by kernel_rfl) (by kernel_rfl) (by kernel_rfl) (fun _ _ _ h => h) (by rfl) (by assumption) ?_
          try simp only [Act.put, List.setIfInBounds_toArray, List.set_cons_zero, List.set_cons_succ]
          refine takeX 17 rfl (by kernel_rfl) (by kernel_rfl) (by kernel_rfl) (fun _ _ _ h => h) (by rfl) (by assumption) ?_
          try simp only [Act.put, List.setIfInBounds_toArray, List.set_cons_zero, List.set_cons_succ]
          refine takeW 18 (v := ?v63) rfl (by kernel_rfl) (by kernel_rfl) (by kernel_rfl) (fun _ _ _ h => h) (by rfl) (by assumption) ?hy63 ?rest63
          case hy63 => intro w' hSw; (try dsimp only at hSw); go_simp; try with_reducible rfl
          try simp only [Act.put, List.setIfInBounds_toArray, List.set_cons_zero, List.set_cons_succ]
          refine wpAnyH_done (by kernel_rfl) ?_ _
          have hBB3 := below_one hBW (below_drew1 hB3)
          clear hcn hcb hB3 hHeld x0 x1 x2 q0 q1 q2
          go_wp2_with fail
          go_ret
          exact ⟨ret_bool HR.out.symm, hBB3⟩
        · have HR := hid (HY.out (by rw [HGA.out]; exact hg) HZ.out)
          go_wp2_with fail
          generalize wr.alloc (.cells #[.int .i64 s.num, .slice xp s.pol.length cp, .slice xr s.rv.length cr] 26) = Wa at *
          refine wp_region_held_drew (S := fun w' => w'.cell? ⟨wr.heap.size, 0, none⟩ = some (.int .i64 s.num) ∧ w'.cell? ⟨wr.heap.size, 1, none⟩ = some (.slice xp s.pol.length cp) ∧ w'.cell? ⟨wr.heap.size, 2, none⟩ = some (.slice xr s.rv.length cr)) (by kernel_rfl) ?_ (fun hHeld => ?_)
          · go_keep
          refine takeW 0 (v := ?v64) rfl (by kernel_rfl) (by kernel_rfl) (by kernel_rfl) (fun _ _ _ h => h) (by rfl) (by assumption) ?hy64 ?rest64
          case hy64 => intro w' hSw; (try dsimp only at hSw); go_simp; try with_reducible rfl
          try simp only [Act.put, List.setIfInBounds_toArray, List.set_cons_zero, List.set_cons_succ]
          refine takeC 1 (by kernel_rfl) rfl (fun K hK => ?_)
          go_simp
          refine (specGoodSnapshot_any _ s _ hsh (by exact ⟨_, _, rfl, z1.below (Below.refl _ _).drew, z2.below (Below.refl _ _).drew⟩)).mono ?_; rintro e w3 ⟨he, hB3⟩; rw [hg] at he; subst he; have hcn := fun o => hB3.cell (p := ⟨wr.heap.size, o, none⟩) (by exact F.lt); have hcb := fun o => hB3.cell (p := ⟨b, o, none⟩) (by exact hbW)
          refine hK.out _ _ ?_ (fun hHeld => ?_)
          · go_keep
          clear hK K
          try simp only [Act.put, List.setIfInBounds_toArray, List.set_cons_zero, List.set_cons_succ]
          refine takeW 2 (v := ?v65) rfl (by kernel_rfl) (by kernel_rfl) (by kernel_rfl) (fun _ _ _ h => h) (by rfl) (by assumption) ?hy65 ?rest65
          case hy65 => intro w' hSw; (try dsimp only at hSw); go_simp; try with_reducible rfl
          try simp only [Act.put, List.setIfInBounds_toArray, List.set_cons_zero, List.set_cons_succ]
          refine takeW 3 (v := ?v66) rfl (by kernel_rfl) (by kernel_rfl) (by kernel_rfl) (fun _ _ _ h => h) (by rfl) (by assumption) ?hy66 ?rest66
          case hy66 => intro w' hSw; (try dsimp only at hSw); go_simp; try with_reducible rfl
          try simp only [Act.put, List.setIfInBounds_toArray, List.set_cons_zero, List.set_cons_succ]
          refine takeW 4 (v := ?v67) rfl (by kernel_rfl) (by kernel_rfl) (by kernel_rfl) (fun _ _ _ h => h) (by rfl) (by assumption) ?hy67 ?rest67
          case hy67 => intro w' hSw; (try dsimp only at hSw); go_simp; try with_reducible rfl
          try simp only [Act.put, List.setIfInBounds_toArray, List.set_cons_zero, List.set_cons_succ]
          refine takeW 5 (v := ?v68) rfl (by kernel_rfl) (by kernel_rfl) (by kernel_rfl) (fun _ _ _ h => h) (by rfl) (by assumption) ?hy68 ?rest68
          case hy68 => intro w' hSw; (try dsimp only at hSw); go_simp; try with_reducible rfl
          try simp only [Act.put, List.setIfInBounds_toArray, List.set_cons_zero, List.set_cons_succ]
          refine takeW 6 (v := ?v69) rfl (by kernel_rfl) (by kernel_rfl) (by kernel_rfl) (fun _ _ _ h => h) (by rfl) (by assumption) ?hy69 ?rest69
          case hy69 => intro w' hSw; (try dsimp only at hSw); go_simp; try with_reducible rfl
          try simp only [Act.put, List.setIfInBounds_toArray, List.set_cons_zero, List.set_cons_succ]
          refine takeX 7 rfl (by kernel_rfl) (by kernel_rfl) (by kernel_rfl) (fun _ _ _ h => h) (by rfl) (by assumption) ?_
          try simp only [Act.put, List.setIfInBounds_toArray, List.set_cons_zero, List.set_cons_succ]
          refine takeX 8 rfl (by kernel_rfl) (by kernel_rfl) (by kernel_rfl) (fun _ _ _ h => h) (by rfl) (by assumption) ?_
          try simp only [Act.put, List.setIfInBounds_toArray, List.set_cons_zero, List.set_cons_succ]
          refine takeX 9 rfl (by kernel_rfl) (by kernel_rfl) (by kernel_rfl) (fun _ _ _ h => h) (by rfl) (by assumption) ?_
          try simp only [Act.put, List.setIfInBounds_toArray, List.set_cons_zero, List.set_cons_succ]
          refine takeX 10 rfl (by kernel_rfl) (by kernel_rfl) (by kernel_rfl) (fun _ _ _ h => h) (by rfl) (by assumption) ?_
          try simp only [Act.put, List.setIfInBounds_toArray, List.set_cons_zero, List.set_cons_succ]
          refine takeX 11 rfl (by kernel_rfl) (by kernel_rfl) (by kernel_rfl) (fun _ _ _ h => h) (by rfl) (by assumption) ?_
          try simp only [Act.put, List.setIfInBounds_toArray, List.set_cons_zero, List.set_cons_succ]
          refine takeX 12 rfl (by kernel_rfl) (by kernel_rfl) (by kernel_rfl) (fun _ _ _ h => h) (by rfl) (by assumption) ?_
          try simp only [Act.put, List.setIfInBounds_toArray, List.set_cons_zero, List.set_cons_succ]
          refine takeX 13 rfl (by kernel_rfl) (by kernel_rfl) (by kernel_rfl) (fun _ _ _ h => h) (by rfl) (by assumption) ?_
          try simp only [Act.put, List.setIfInBounds_toArray, List.set_cons_zero, List.set_cons_succ]
          refine takeX 14 rfl (by kernel_rfl) (by kernel_rfl) (by kernel_rfl) (fun _ _ _ h => h) (by rfl) (by assumption) ?_
          try simp only [Act.put, List.setIfInBounds_toArray, List.set_cons_zero, List.set_cons_succ]
          refine takeX 15 rfl (by kernel_rfl) (by kernel_rfl) (by kernel_rfl) (fun _ _ _ h => h) (by rfl) (by assumption) ?_
          try simp only [Act.put, List.setIfInBounds_toArray, List.set_cons_zero, List.set_cons_succ]
          refine takeX 16 rfl (by kernel_rfl) (by kernel_rfl) (by kernel_rfl) (fun _ _ _ h => h) (by rfl) (by assumption) ?_
          try simp only [Act.put, List.setIfInBounds_toArray, List.set_cons_zero, List.set_cons_succ]
          refine takeW 17 (v := ?v70) rfl (by kernel_rfl) (by kernel_rfl) (by kernel_rfl) (fun _ _ _ h => h) (by rfl) (by assumption) ?hy70 ?rest70
          case hy70 => intro w' hSw; (try dsimp only at hSw); go_simp; try with_reducible rfl
          try simp only [Act.put, List.setIfInBounds_toArray, List.set_cons_zero, List.set_cons_succ]
          refine takeW 18 (v := ?v71) rfl (by kernel_rfl) (by kernel_rfl) (by kernel_rfl) (fun _ _ _ h => h) (by rfl) (by assumption) ?hy71 ?rest71
          case hy71 => intro w' hSw; (try dsimp only at hSw); go_simp; try with_reducible rfl
          try simp only [Act.put, List.setIfInBounds_toArray, List.set_cons_zero, List.set_cons_succ]
          refine wpAnyH_done (by kernel_rfl) ?_ _
          have hBB3 := below_one hBW (below_drew1 hB3)
          clear hcn hcb hB3 hHeld x0 x1 x2 q0 q1 q2
          go_wp2_with fail
          go_roundw
          case rel => first | exact ⟨1, by omega, by go_num, HR.out, hBB3⟩ | ((repeat apply Exists.intro); exact ⟨⟨1, by omega, by go_num, HR.out, hBB3⟩, rfl⟩)
          case measure => simp [intOf]; omega
      · obtain ⟨m, hm2⟩ : ∃ m, n = m + 1 := ⟨n - 1, by omega⟩
        obtain ⟨b', off', _, _, _, _, hbo, _, _, p0, hjk⟩ := (hr.below hB).at (i := m) (by omega)
        clear hjk
        cases hbo
        have HI := hid (show nexB ss n = (ss[n].num == (ss[m]'(by omega)).num + 1) by subst hm2; exact nexB_succ hlt)
        have hpn := snB_num (s := ss[m]'(by omega)) (by have := (HK.out m (by omega)).1; rwa [gdB_at (by omega)] at this)
        have hw1 : IntKind.i64.wrap ((n : Int) - 1) = (m : Int) := by rw [IntKind.wrap_i64]; omega
        have dn : decide (0 < (n : Int)) = true := by simp; omega
        have dn2 : decide (0 < n) = true := by simp; omega
        have hl2 : (m : Int) < (ss.length : Int) := by omega
        generalize ss[n] = s at *
        generalize (ss[m]'(by omega)).num = p at *
        have hw2 : IntKind.i64.wrap (p + 1) = p + 1 := by rw [IntKind.wrap_i64]; omega
        clear hm2 hpos
        have hBw : Below wr.heap.size wr (wr.alloc (.cells #[.int .i64 s.num, .slice xp s.pol.length cp, .slice xr s.rv.length cr] 26)) := (Below.refl _ wr).alloc (Nat.le_refl _) _
        have F := Three.new wr (.int .i64 s.num) (.slice xp s.pol.length cp) (.slice xr s.rv.length cr) 26
        have hBW := below_one hB hBw
        have z1 := y1.below hBw
        have z2 := y2.below hBw
        have hbW := Nat.lt_of_lt_of_le hb hBw.size
        have pW := (hBw.cell (p := ⟨b, off + m * 3, none⟩) hb).trans p0
        obtain ⟨x0, x1, x2⟩ := F.c
        clear y1 y2 hBw p0
        cases hg : snB s
        · have HR := hid (HNG.out (by rw [HGA.out]; exact hg))
          go_wp2_with fail
          generalize wr.alloc (.cells #[.int .i64 s.num, .slice xp s.pol.length cp, .slice xr s.rv.length cr] 26) = Wa at *
          refine wp_region_held_drew (S := fun w' => w'.cell? ⟨wr.heap.size, 0, none⟩ = some (.int .i64 s.num) ∧ w'.cell? ⟨wr.heap.size, 1, none⟩ = some (.slice xp s.pol.length cp) ∧ w'.cell? ⟨wr.heap.size, 2, none⟩ = some (.slice xr s.rv.length cr)) (by kernel_rfl) ?_ (fun hHeld => ?_)
          · go_keep
          refine takeW 0 (v := ?v72) rfl (by kernel_rfl) (by kernel_rfl) (by kernel_rfl) (fun _ _ _ h => h) (by rfl) (by assumption) ?hy72 ?rest72
          case hy72 => intro w' hSw; (try dsimp only at hSw); go_simp; try with_reducible rfl
          try simp only [Act.put, List.setIfInBounds_toArray, List.set_cons_zero, List.set_cons_succ]
          refine takeC 1 (by kernel_rfl) rfl (fun K hK => ?_)
          go_simp
          refine (specGoodSnapshot_any _ s _ hsh (by exact ⟨_, _, rfl, z1.below (Below.refl _ _).drew, z2.below (Below.refl _ _).drew⟩)).mono ?_; rintro e w3 ⟨he, hB3⟩; rw [hg] at he; subst he; have hcn := fun o => hB3.cell (p := ⟨wr.heap.size, o, none⟩) (by exact F.lt); have hcb := fun o => hB3.cell (p := ⟨b, o, none⟩) (by exact hbW)
          refine hK.out _ _ ?_ (fun hHeld => ?_)
          · go_keep
          clear hK K
          try simp only [Act.put, List.setIfInBounds_toArray, List.set_cons_zero, List.set_cons_succ]
          refine takeW 2 (v := ?v73) rfl (by kernel_rfl) (by kernel_rfl) (by kernel_rfl) (fun _ _ _ h => h) (by rfl) (by assumption) ?hy73 ?rest73
          case hy73 => intro w' hSw; (try dsimp only at hSw); go_simp; try with_reducible rfl
          try simp only [Act.put, List.setIfInBounds_toArray, List.set_cons_zero, List.set_cons_succ]
          refine takeW 3 (v := ?v74) rfl (by kernel_rfl) (by kernel_rfl) (by kernel_rfl) (fun _ _ _ h => h) (by rfl) (by assumption) ?hy74 ?rest74
          case hy74 => intro w' hSw; (try dsimp only at hSw); go_simp; try with_reducible rfl
          try simp only [Act.put, List.setIfInBounds_toArray, List.set_cons_zero, List.set_cons_succ]
          refine takeX 4 rfl (by kernel_rfl) (by kernel_rfl) (by kernel_rfl) (fun _ _ _ h => h) (by rfl) (by assumption) ?_
          try simp only [Act.put, List.setIfInBounds_toArray, List.set_cons_zero, List.set_cons_succ]
          refine takeX 5 rfl (by kernel_rfl) (by kernel_rfl) (by kernel_rfl) (fun _ _ _ h => h) (by rfl) (by assumption) ?_
          try simp only [Act.put, List.setIfInBounds_toArray, List.set_cons_zero, List.set_cons_succ]
          refine takeX 6 rfl (by kernel_rfl) (by kernel_rfl) (by kernel_rfl) (fun _ _ _ h => h) (by rfl) (by assumption) ?_
          try simp only [Act.put, List.setIfInBounds_toArray, List.set_cons_zero, List.set_cons_succ]
          refine takeX 7 rfl (by kernel_rfl) (by kernel_rfl) (by kernel_rfl) (fun _ _ _ h => h) (by rfl) (by assumption) ?_
          try simp only [Act.put, List.setIfInBounds_toArray, List.set_cons_zero, List.set_cons_succ]
          refine takeX 8 rfl (by kernel_rfl) (by kernel_rfl) (by kernel_rfl) (fun _ _ _ h => h) (by rfl) (by assumption) ?_
          try simp only [Act.put, List.setIfInBounds_toArray, List.set_cons_zero, List.set_cons_succ]
          refine takeX 9 rfl (by kernel_rfl) (by kernel_rfl) (by kernel_rfl) (fun _ _ _ h => h) (by rfl) (by assumption) ?_
          try simp only [Act.put, List.setIfInBounds_toArray, List.set_cons_zero, List.set_cons_succ]
          refine takeX 10 rfl (by kernel_rfl) (by kernel_rfl) (by kernel_rfl) (fun _ _ _ h => h) (by rfl) (by assumption) ?_
          try simp only [Act.put, List.setIfInBounds_toArray, List.set_cons_zero, List.set_cons_succ]
          refine takeX 11 rfl (by kernel_rfl) (by kernel_rfl) (by kernel_rfl) (fun _ _ _ h => h) (by rfl) (by assumption) ?_
          try simp only [Act.put, List.setIfInBounds_toArray, List.set_cons_zero, List.set_cons_succ]
          refine takeX 12 rfl (by kernel_rfl) (by kernel_rfl) (by kernel_rfl) (fun _ _ _ h => h) (by rfl) (by assumption) ?_
          try simp only [Act.put, List.setIfInBounds_toArray, List.set_cons_zero, List.set_cons_succ]
          refine takeX 13 rfl (by kernel_rfl) (by kernel_rfl) (by kernel_rfl) (fun _ _ _ h => h) (by rfl) (by assumption) ?_
          try simp only [Act.put, List.setIfInBounds_toArray, List.set_cons_zero, List.set_cons_succ]
          refine takeX 14 rfl (by kernel_rfl) (by kernel_rfl) (by kernel_rfl) (fun _ _ _ h => h) (by rfl) (by assumption) ?_
          try simp only [Act.put, List.setIfInBounds_toArray, List.set_cons_zero, List.set_cons_succ]
          refine takeX 15 rfl (by kernel_rfl) (by kernel_rfl) (by kernel_rfl) (fun _ _ _ h => h) (by rfl) (by assumption) ?_
          try simp only [Act.put, List.setIfInBounds_toArray, List.set_cons_zero, List.set_cons_succ]
          refine takeX 16 rfl (by kernel_rfl) (by kernel_rfl) (by kernel_rfl) (fun _ _ _ h => h) (by rfl) (by assumption) ?_
          try simp only [Act.put, List.setIfInBounds_toArray, List.set_cons_zero, List.set_cons_succ]
          refine takeX 17 rfl (by kernel_rfl) (by kernel_rfl) (by kernel_rfl) (fun _ _ _ h => h) (by rfl) (by assumption) ?_
          try simp only [Act.put, List.setIfInBounds_toArray, List.set_cons_zero, List.set_cons_succ]
          refine takeW 18 (v := ?v75) rfl (by kernel_rfl) (by kernel_rfl) (by kernel_rfl) (fun _ _ _ h => h) (by rfl) (by assumption) ?hy75 ?rest75
          case hy75 => intro w' hSw; (try dsimp only at hSw); go_simp; try with_reducible rfl
          try simp only [Act.put, List.setIfInBounds_toArray, List.set_cons_zero, List.set_cons_succ]
          refine wpAnyH_done (by kernel_rfl) ?_ _
          have hBB3 := below_one hBW (below_drew1 hB3)
          clear hcn hcb hB3 hHeld x0 x1 x2 q0 q1 q2
          go_wp2_with fail
          go_ret
          exact ⟨ret_bool HR.out.symm, hBB3⟩
        · cases hx : (s.num == p + 1)
          · have HR := hid (HNX.out (by rw [HI.out]; exact hx))
            have hne : (p + 1 != s.num) = true := by simp at hx ⊢; omega
            go_wp2_with fail
            generalize wr.alloc (.cells #[.int .i64 s.num, .slice xp s.pol.length cp, .slice xr s.rv.length cr] 26) = Wa at *
            refine wp_region_held_drew (S := fun w' => w'.cell? ⟨wr.heap.size, 0, none⟩ = some (.int .i64 s.num) ∧ w'.cell? ⟨wr.heap.size, 1, none⟩ = some (.slice xp s.pol.length cp) ∧ w'.cell? ⟨wr.heap.size, 2, none⟩ = some (.slice xr s.rv.length cr) ∧ w'.cell? ⟨b, off + m * 3, none⟩ = some (.int .i64 p)) (by kernel_rfl) ?_ (fun hHeld => ?_)
            · go_keep
            refine takeW 0 (v := ?v76) rfl (by kernel_rfl) (by kernel_rfl) (by kernel_rfl) (fun _ _ _ h => h) (by rfl) (by assumption) ?hy76 ?rest76
            case hy76 => intro w' hSw; (try dsimp only at hSw); go_simp; try with_reducible rfl
            try simp only [Act.put, List.setIfInBounds_toArray, List.set_cons_zero, List.set_cons_succ]
            refine takeC 1 (by kernel_rfl) rfl (fun K hK => ?_)
            go_simp
            refine (specGoodSnapshot_any _ s _ hsh (by exact ⟨_, _, rfl, z1.below (Below.refl _ _).drew, z2.below (Below.refl _ _).drew⟩)).mono ?_; rintro e w3 ⟨he, hB3⟩; rw [hg] at he; subst he; have hcn := fun o => hB3.cell (p := ⟨wr.heap.size, o, none⟩) (by exact F.lt); have hcb := fun o => hB3.cell (p := ⟨b, o, none⟩) (by exact hbW)
            refine hK.out _ _ ?_ (fun hHeld => ?_)
            · go_keep
            clear hK K
            try simp only [Act.put, List.setIfInBounds_toArray, List.set_cons_zero, List.set_cons_succ]
            refine takeW 2 (v := ?v77) rfl (by kernel_rfl) (by kernel_rfl) (by kernel_rfl) (fun _ _ _ h => h) (by rfl) (by assumption) ?hy77 ?rest77
            case hy77 => intro w' hSw; (try dsimp only at hSw); go_simp; try with_reducible rfl
            try simp only [Act.put, List.setIfInBounds_toArray, List.set_cons_zero, List.set_cons_succ]
            refine takeW 3 (v := ?v78) rfl (by kernel_rfl) (by kernel_rfl) (by kernel_rfl) (fun _ _ _ h => h) (by rfl) (by assumption) ?hy78 ?rest78
            case hy78 => intro w' hSw; (try dsimp only at hSw); go_simp; try with_reducible rfl
            try simp only [Act.put, List.setIfInBounds_toArray, List.set_cons_zero, List.set_cons_succ]
            refine takeW 4 (v := ?v79) rfl (by kernel_rfl) (by kernel_rfl) (by kernel_rfl) (fun _ _ _ h => h) (by rfl) (by assumption) ?hy79 ?rest79
            case hy79 => intro w' hSw; (try dsimp only at hSw); go_simp; try with_reducible rfl
            try simp only [Act.put, List.setIfInBounds_toArray, List.set_cons_zero, List.set_cons_succ]
            refine takeW 5 (v := ?v80) rfl (by kernel_rfl) (by kernel_rfl) (by kernel_rfl) (fun _ _ _ h => h) (by rfl) (by assumption) ?hy80 ?rest80
            case hy80 => intro w' hSw; (try dsimp only at hSw); go_simp; try with_reducible rfl
            try simp only [Act.put, List.setIfInBounds_toArray, List.set_cons_zero, List.set_cons_succ]
            refine takeW 6 (v := ?v81) rfl (by kernel_rfl) (by kernel_rfl) (by kernel_rfl) (fun _ _ _ h => h) (by rfl) (by assumption) ?hy81 ?rest81
            case hy81 => intro w' hSw; (try dsimp only at hSw); go_simp; try with_reducible rfl
            try simp only [Act.put, List.setIfInBounds_toArray, List.set_cons_zero, List.set_cons_succ]
            refine takeW 7 (v := ?v82) rfl (by kernel_rfl) (by kernel_rfl) (by kernel_rfl) (fun _ _ _ h => h) (by rfl) (by assumption) ?hy82 ?rest82
            case hy82 => intro w' hSw; (try dsimp only at hSw); go_simp; try with_reducible rfl
            try simp only [Act.put, List.setIfInBounds_toArray, List.set_cons_zero, List.set_cons_succ]
            refine takeW 8 (v := ?v83) rfl (by kernel_rfl) (by kernel_rfl) (by kernel_rfl) (fun _ _ _ h => h) (by rfl) (by assumption) ?hy83 ?rest83
            case hy83 => intro w' hSw; (try dsimp only at hSw); go_simp; try with_reducible rfl
            try simp only [Act.put, List.setIfInBounds_toArray, List.set_cons_zero, List.set_cons_succ]
            refine takeW 9 (v := ?v84) rfl (by kernel_rfl) (by kernel_rfl) (by kernel_rfl) (fun _ _ _ h => h) (by rfl) (by assumption) ?hy84 ?rest84
            case hy84 => intro w' hSw; (try dsimp only at hSw); go_simp; try with_reducible rfl
            try simp only [Act.put, List.setIfInBounds_toArray, List.set_cons_zero, List.set_cons_succ]
            refine takeW 10 (v := ?v85) rfl (by kernel_rfl) (by kernel_rfl) (by kernel_rfl) (fun _ _ _ h => h) (by rfl) (by assumption) ?hy85 ?rest85
            case hy85 => intro w' hSw; (try dsimp only at hSw); go_simp; try with_reducible rfl
            try simp only [Act.put, List.setIfInBounds_toArray, List.set_cons_zero, List.set_cons_succ]
            refine takeW 11 (v := ?v86) rfl (by kernel_rfl) (by kernel_rfl) (by kernel_rfl) (fun _ _ _ h => h) (by rfl) (by assumption) ?hy86 ?rest86
            case hy86 => intro w' hSw; (try dsimp only at hSw); go_simp; try with_reducible rfl
            try simp only [Act.put, List.setIfInBounds_toArray, List.set_cons_zero, List.set_cons_succ]
            refine takeW 12 (v := ?v87) rfl (by kernel_rfl) (by kernel_rfl) (by kernel_rfl) (fun _ _ _ h => h) (by rfl) (by assumption) ?hy87 ?rest87
            case hy87 => intro w' hSw; (try dsimp only at hSw); go_simp; try with_reducible rfl
            try simp only [Act.put, List.setIfInBounds_toArray, List.set_cons_zero, List.set_cons_succ]
            refine takeW 13 (v := ?v88) rfl (by kernel_rfl) (by kernel_rfl) (by kernel_rfl) (fun _ _ _ h => h) (by rfl) (by assumption) ?hy88 ?rest88
            case hy88 => intro w' hSw; (try dsimp only at hSw); go_simp; try with_reducible rfl
            try simp only [Act.put, List.setIfInBounds_toArray, List.set_cons_zero, List.set_cons_succ]
            refine takeW 14 (v := ?v89) rfl (by kernel_rfl) (by kernel_rfl) (by kernel_rfl) (fun _ _ _ h => h) (by rfl) (by assumption) ?hy89 ?rest89
            case hy89 => intro w' hSw; (try dsimp only at hSw); go_simp; try with_reducible rfl
            try simp only [Act.put, List.setIfInBounds_toArray, List.set_cons_zero, List.set_cons_succ]
            refine takeW 15 (v := ?v90) rfl (by kernel_rfl) (by kernel_rfl) (by kernel_rfl) (fun _ _ _ h => h) (by rfl) (by assumption) ?hy90 ?rest90
            case hy90 => intro w' hSw; (try dsimp only at hSw); go_simp; try with_reducible rfl
            try simp only [Act.put, List.setIfInBounds_toArray, List.set_cons_zero, List.set_cons_succ]
            refine takeW 16 (v := ?v91) rfl (by kernel_rfl) (by kernel_rfl) (by kernel_rfl) (fun _ _ _ h => h) (by rfl) (by assumption) ?hy91 ?rest91
            case hy91 => intro w' hSw; (try dsimp only at hSw); go_simp; try with_reducible rfl
            try simp only [Act.put, List.setIfInBounds_toArray, List.set_cons_zero, List.set_cons_succ]
            refine takeW 17 (v := ?v92) rfl (by kernel_rfl) (by kernel_rfl) (by kernel_rfl) (fun _ _ _ h => h) (by rfl) (by assumption) ?hy92 ?rest92
            case hy92 => intro w' hSw; (try dsimp only at hSw); go_simp; try with_reducible rfl
            try simp only [Act.put, List.setIfInBounds_toArray, List.set_cons_zero, List.set_cons_succ]
            refine takeW 18 (v := ?v93) rfl (by kernel_rfl) (by kernel_rfl) (by kernel_rfl) (fun _ _ _ h => h) (by rfl) (by assumption) ?hy93 ?rest93
            case hy93 => intro w' hSw; (try dsimp only at hSw); go_simp; try with_reducible rfl
            try simp only [Act.put, List.setIfInBounds_toArray, List.set_cons_zero, List.set_cons_succ]
            refine wpAnyH_done (by kernel_rfl) ?_ _
            have hBB3 := below_one hBW (below_drew1 hB3)
            clear hcn hcb hB3 hHeld x0 x1 x2 q0 q1 q2
            go_wp2_with fail
            go_ret
            exact ⟨ret_bool HR.out.symm, hBB3⟩
          · have HR := hid (HY.out (by rw [HGA.out]; exact hg) (by rw [HI.out]; exact hx))
            have hne : (p + 1 != s.num) = false := by simp at hx ⊢; omega
            go_wp2_with fail
            generalize wr.alloc (.cells #[.int .i64 s.num, .slice xp s.pol.length cp, .slice xr s.rv.length cr] 26) = Wa at *
            refine wp_region_held_drew (S := fun w' => w'.cell? ⟨wr.heap.size, 0, none⟩ = some (.int .i64 s.num) ∧ w'.cell? ⟨wr.heap.size, 1, none⟩ = some (.slice xp s.pol.length cp) ∧ w'.cell? ⟨wr.heap.size, 2, none⟩ = some (.slice xr s.rv.length cr) ∧ w'.cell? ⟨b, off + m * 3, none⟩ = some (.int .i64 p)) (by kernel_rfl) ?_ (fun hHeld => ?_)
            · go_keep
            refine takeW 0 (v := ?v94) rfl (by kernel_rfl) (by kernel_rfl) (by kernel_rfl) (fun _ _ _ h => h) (by rfl) (by assumption) ?hy94 ?rest94
            case hy94 => intro w' hSw; (try dsimp only at hSw); go_simp; try with_reducible rfl
            try simp only [Act.put, List.setIfInBounds_toArray, List.set_cons_zero, List.set_cons_succ]
            refine takeC 1 (by kernel_rfl) rfl (fun K hK => ?_)
            go_simp
            refine (specGoodSnapshot_any _ s _ hsh (by exact ⟨_, _, rfl, z1.below (Below.refl _ _).drew, z2.below (Below.refl _ _).drew⟩)).mono ?_; rintro e w3 ⟨he, hB3⟩; rw [hg] at he; subst he; have hcn := fun o => hB3.cell (p := ⟨wr.heap.size, o, none⟩) (by exact F.lt); have hcb := fun o => hB3.cell (p := ⟨b, o, none⟩) (by exact hbW)
            refine hK.out _ _ ?_ (fun hHeld => ?_)
            · go_keep
            clear hK K
            try simp only [Act.put, List.setIfInBounds_toArray, List.set_cons_zero, List.set_cons_succ]
            refine takeW 2 (v := ?v95) rfl (by kernel_rfl) (by kernel_rfl) (by kernel_rfl) (fun _ _ _ h => h) (by rfl) (by assumption) ?hy95 ?rest95
            case hy95 => intro w' hSw; (try dsimp only at hSw); go_simp; try with_reducible rfl
            try simp only [Act.put, List.setIfInBounds_toArray, List.set_cons_zero, List.set_cons_succ]
            refine takeW 3 (v := ?v96) rfl (by kernel_rfl) (by kernel_rfl) (by kernel_rfl) (fun _ _ _ h => h) (by rfl) (by assumption) ?hy96 ?rest96
            case hy96 => intro w' hSw; (try dsimp only at hSw); go_simp; try with_reducible rfl
            try simp only [Act.put, List.setIfInBounds_toArray, List.set_cons_zero, List.set_cons_succ]
            refine takeW 4 (v := ?v97) rfl (by kernel_rfl) (by kernel_rfl) (by kernel_rfl) (fun _ _ _ h => h) (by rfl) (by assumption) ?hy97 ?rest97
            case hy97 => intro w' hSw; (try dsimp only at hSw); go_simp; try with_reducible rfl
            try simp only [Act.put, List.setIfInBounds_toArray, List.set_cons_zero, List.set_cons_succ]
            refine takeW 5 (v := ?v98) rfl (by kernel_rfl) (by kernel_rfl) (by kernel_rfl) (fun _ _ _ h => h) (by rfl) (by assumption) ?hy98 ?rest98
            case hy98 => intro w' hSw; (try dsimp only at hSw); go_simp; try with_reducible rfl
            try simp only [Act.put, List.setIfInBounds_toArray, List.set_cons_zero, List.set_cons_succ]
            refine takeW 6 (v := ?v99) rfl (by kernel_rfl) (by kernel_rfl) (by kernel_rfl) (fun _ _ _ h => h) (by rfl) (by assumption) ?hy99 ?rest99
            case hy99 => intro w' hSw; (try dsimp only at hSw); go_simp; try with_reducible rfl
            try simp only [Act.put, List.setIfInBounds_toArray, List.set_cons_zero, List.set_cons_succ]
            refine takeW 7 (v := ?v100) rfl (by kernel_rfl) (by kernel_rfl) (by kernel_rfl) (fun _ _ _ h => h) (by rfl) (by assumption) ?hy100 ?rest100
            case hy100 => intro w' hSw; (try dsimp only at hSw); go_simp; try with_reducible rfl
            try simp only [Act.put, List.setIfInBounds_toArray, List.set_cons_zero, List.set_cons_succ]
            refine takeW 8 (v := ?v101) rfl (by kernel_rfl) (by kernel_rfl) (by kernel_rfl) (fun _ _ _ h => h) (by rfl) (by assumption) ?hy101 ?rest101
            case hy101 => intro w' hSw; (try dsimp only at hSw); go_simp; try with_reducible rfl
            try simp only [Act.put, List.setIfInBounds_toArray, List.set_cons_zero, List.set_cons_succ]
            refine takeW 9 (v := ?v102) rfl (by kernel_rfl) (by kernel_rfl) (by kernel_rfl) (fun _ _ _ h => h) (by rfl) (by assumption) ?hy102 ?rest102
            case hy102 => intro w' hSw; (try dsimp only at hSw); go_simp; try with_reducible rfl
            try simp only [Act.put, List.setIfInBounds_toArray, List.set_cons_zero, List.set_cons_succ]
            refine takeW 10 (v := ?v103) rfl (by kernel_rfl) (by kernel_rfl) (by kernel_rfl) (fun _ _ _ h => h) (by rfl) (by assumption) ?hy103 ?rest103
            case hy103 => intro w' hSw; (try dsimp only at hSw); go_simp; try with_reducible rfl
            try simp only [Act.put, List.setIfInBounds_toArray, List.set_cons_zero, List.set_cons_succ]
            refine takeW 11 (v := ?v104) rfl (by kernel_rfl) (by kernel_rfl) (by kernel_rfl) (fun _ _ _ h => h) (by rfl) (by assumption) ?hy104 ?rest104
            case hy104 => intro w' hSw; (try dsimp only at hSw); go_simp; try with_reducible rfl
            try simp only [Act.put, List.setIfInBounds_toArray, List.set_cons_zero, List.set_cons_succ]
            refine takeW 12 (v := ?v105) rfl (by kernel_rfl) (by kernel_rfl) (by kernel_rfl) (fun _ _ _ h => h) (by rfl) (by assumption) ?hy105 ?rest105
            case hy105 => intro w' hSw; (try dsimp only at hSw); go_simp; try with_reducible rfl
            try simp only [Act.put, List.setIfInBounds_toArray, List.set_cons_zero, List.set_cons_succ]
            refine takeW 13 (v := ?v106) rfl (by kernel_rfl) (by kernel_rfl) (by kernel_rfl) (fun _ _ _ h => h) (by rfl) (by assumption) ?hy106 ?rest106
            case hy106 => intro w' hSw; (try dsimp only at hSw); go_simp; try with_reducible rfl
            try simp only [Act.put, List.setIfInBounds_toArray, List.set_cons_zero, List.set_cons_succ]
            refine takeW 14 (v := ?v107) rfl (by kernel_rfl) (by kernel_rfl) (by kernel_rfl) (fun _ _ _ h => h) (by rfl) (by assumption) ?hy107 ?rest107
            case hy107 => intro w' hSw; (try dsimp only at hSw); go_simp; try with_reducible rfl
            try simp only [Act.put, List.setIfInBounds_toArray, List.set_cons_zero, List.set_cons_succ]
            refine takeW 15 (v := ?v108) rfl (by kernel_rfl) (by kernel_rfl) (by kernel_rfl) (fun _ _ _ h => h) (by rfl) (by assumption) ?hy108 ?rest108
            case hy108 => intro w' hSw; (try dsimp only at hSw); go_simp; try with_reducible rfl
            try simp only [Act.put, List.setIfInBounds_toArray, List.set_cons_zero, List.set_cons_succ]
            refine takeW 16 (v := ?v109) rfl (by kernel_rfl) (by kernel_rfl) (by kernel_rfl) (fun _ _ _ h => h) (by rfl) (by assumption) ?hy109 ?rest109
            case hy109 => intro w' hSw; (try dsimp only at hSw); go_simp; try with_reducible rfl
            try simp only [Act.put, List.setIfInBounds_toArray, List.set_cons_zero, List.set_cons_succ]
            refine takeW 17 (v := ?v110) rfl (by kernel_rfl) (by kernel_rfl) (by kernel_rfl) (fun _ _ _ h => h) (by rfl) (by assumption) ?hy110 ?rest110
            case hy110 => intro w' hSw; (try dsimp only at hSw); go_simp; try with_reducible rfl
            try simp only [Act.put, List.setIfInBounds_toArray, List.set_cons_zero, List.set_cons_succ]
            refine takeW 18 (v := ?v111) rfl (by kernel_rfl) (by kernel_rfl) (by kernel_rfl) (fun _ _ _ h => h) (by rfl) (by assumption) ?hy111 ?rest111
            case hy111 => intro w' hSw; (try dsimp only at hSw); go_simp; try with_reducible rfl
            try simp only [Act.put, List.setIfInBounds_toArray, List.set_cons_zero, List.set_cons_succ]
            refine wpAnyH_done (by kernel_rfl) ?_ _
            have hBB3 := below_one hBW (below_drew1 hB3)
            clear hcn hcb hB3 hHeld x0 x1 x2 q0 q1 q2
            go_wp2_with fail
            go_roundw
            case rel => first | exact ⟨n + 1, by omega, by go_num, HR.out, hBB3⟩ | ((repeat apply Exists.intro); exact ⟨⟨n + 1, by omega, by go_num, HR.out, hBB3⟩, rfl⟩)
            case measure => simp [intOf]; omega
    · obtain rfl : n = ss.length := by omega
      have HR := hid (show lsB ss = decide (ss.length ≤ 20) by by_cases h : ss.length ≤ 20; rw [lsB_yes h HK.out, decide_eq_true h]; rw [lsB_no1 h, decide_eq_false h])
      go_wp2
      go_ret
      exact ⟨ret_bool (by rw [HR.out]; exact decide_eq_decide.2 (by omega)), hB⟩

end Go.Proofs.YtjnajdilllkpcaaGreat

namespace Go.Proofs.YtjnajdilllkpcaaGreat
open Go.RowKit Go.Shelf

/-- append(v, u...): a row of one's own, and one that can be read. -/
theorem wpList_append_read {P : Program} {w : World} {ops : Array Oper} {rest : List Oper} {o : Oper} {a : Act} {Q : Exit → Act → World → Prop} (hgd : o.guard = none) (s x : Operand) (t : TypeId)
    (ho : o.op = .call { callee := .builtin .append, args := #[s, x], argTypes := #[t, t] })
    (base : Nat) (e : TypeId) (i : TypeInfo) (z : Value) (size bytes : Nat) (ht : P.underlying t = some (.slice e)) (hi : P.info? e = some i) (hz : i.zero = some z)
    (hsize : i.size = size) (hby : i.bytes = bytes) (hzs : z.cells.size = size) (hsz : 0 < size)
    (v u : Value) (n m : Nat) (xs ys : List Value) (hs : a.eval s = v) (hown : w.ownsRow base e size v n xs) (hx : a.eval x = u)
    (hsrc : (u = .slice none 0 0 ∧ m = 0 ∧ ys = []) ∨ ∃ b off cap, u = .slice (some ⟨b, off, none⟩) m cap ∧ ys.length = m * size ∧ ∀ j y, ys[j]? = some y → w.cell? ⟨b, off + j, none⟩ = some y) (h1 : ∀ y ∈ ys, y.oneCell' = true)
    (h63 : n + m ≤ maxLen) (hbytes : (n + m) * bytes ≤ 140737488355328) (hbase : base ≤ w.heap.size)
    (h : ∀ v' w', w'.ownsRow base e size v' (n + m) (xs ++ ys) → w.grownBy w' v.ownBlock → wpList P ops Q rest (a.put o.dst v') w') : wpList P ops Q (o :: rest) a w := by
  rcases hsrc with ⟨rfl, rfl, rfl⟩ | ⟨b, off, cap, rfl, hl, hc⟩
  · exact wpList_append_own_none hgd s x t ho base e i size ht hi v n xs hs hown hx (h v w (by simpa using hown) (grown_self _ _))
  · exact wpList_append_own _ hgd s x t ho base e i z size bytes ht hi hz hsize hby hzs hsz v n xs hs hown ⟨b, off, none⟩ m cap ys hx hl (fun j y hj => by rw [Addr.add_lit]; exact hc j y hj) h1 h63 hbytes hbase (fun v' w' h1 h2 _ => h v' w' h1 h2)
theorem row_void (w : World) (e : TypeId) (size n : Nat) {base : Nat} (hn : n = w.heap.size) (hb : base ≤ w.heap.size) : (w.alloc (.cells #[] e)).ownsRow base e size (.slice (some ⟨n, 0, none⟩) 0 0) 0 [] := by
  subst hn
  exact ⟨by simp, .inr ⟨w.heap.size, 0, #[], rfl, hb, by show (w.heap.push _)[w.heap.size]? = _; rw [Array.getElem?_push_size], Nat.le_refl _, by unfold maxLen; omega, by simp, by simp⟩⟩
theorem RuR.src {w : World} {v : Value} {rs : List Ru} (h : RuR w v rs) : (v = .slice none 0 0 ∧ rs.length = 0 ∧ rs.flatMap Ru.cells = []) ∨ ∃ b off cap, v = .slice (some ⟨b, off, none⟩) rs.length cap ∧ (rs.flatMap Ru.cells).length = rs.length * 4 ∧ ∀ j y, (rs.flatMap Ru.cells)[j]? = some y → w.cell? ⟨b, off + j, none⟩ = some y := by
  rcases h with ⟨rfl, rfl⟩ | ⟨b, off, cap, rfl, _, _, hc⟩
  · exact .inl ⟨rfl, rfl, rfl⟩
  · exact .inr ⟨b, off, cap, rfl, flat_len rs, RuR.flat hc⟩
theorem NuR.src {w : World} {v : Value} {zs : List Int} (h : NuR w v zs) : (v = .slice none 0 0 ∧ zs.length = 0 ∧ nums zs = []) ∨ ∃ b off cap, v = .slice (some ⟨b, off, none⟩) zs.length cap ∧ (nums zs).length = zs.length * 1 ∧ ∀ j y, (nums zs)[j]? = some y → w.cell? ⟨b, off + j, none⟩ = some y := by
  rcases h with ⟨rfl, rfl⟩ | ⟨b, off, cap, rfl, _, _, hc⟩
  · exact .inl ⟨rfl, rfl, rfl⟩
  · refine .inr ⟨b, off, cap, rfl, by rw [nums_len]; omega, fun j y hy => ?_⟩
    have hj : j < zs.length := by rw [← nums_len]; exact (List.getElem?_eq_some_iff.1 hy).1
    rw [hc j hj]
    simpa [nums, hj] using hy
theorem ones_n {zs : List Int} : ∀ u ∈ nums zs, u.oneCell' = true := by
  intro u hu
  obtain ⟨z, _, rfl⟩ := List.mem_map.1 hu
  rfl

set_option maxHeartbeats 4000000 in
set_option maxRecDepth 100000 in
theorem l5Own_any (v : Value) (s : Sn) (w : World) (hs : s.short) (h : SnR w v s) :
    Calls Tryz.prog 62 #[v] w fun e w' => ∃ v', e = .returned v' ∧ SnO w' w.heap.size w'.heap.size v' s ∧ Below w.heap.size w w' := by
  obtain ⟨vp, vr, rfl, h1, h2⟩ := h
  obtain ⟨l1, l2, _⟩ := hs
  obtain ⟨xp, cp, rfl⟩ := h1.len
  obtain ⟨xr, cr, rfl⟩ := h2.len
  obtain ⟨iw, hiw, hw0, hw1, hw2⟩ := info_parts infoRule
  obtain ⟨ii, hii, hi0, hi1, hi2⟩ := info_parts infoInt
  have hB0 : Below w.heap.size w ((((w.alloc (.cells #[.int .i64 s.num, .slice xp s.pol.length cp, .slice xr s.rv.length cr] 26)).alloc (.cells #[.int .i64 0, .slice none 0 0, .slice none 0 0] 26))).alloc (.cells #[] 31)) := (((Below.refl _ w).alloc (Nat.le_refl _) _).alloc (by simp) _).alloc (by simp; omega) _
  have F1 := ((Three.new w (.int .i64 s.num) (.slice xp s.pol.length cp) (.slice xr s.rv.length cr) 26).below ((Below.refl _ _).alloc (Nat.le_refl _) (.cells #[.int .i64 0, .slice none 0 0, .slice none 0 0] 26))).below ((Below.refl _ _).alloc (Nat.le_refl _) (.cells #[] 31))
  have F2 := (Three.at (w.alloc (.cells #[.int .i64 s.num, .slice xp s.pol.length cp, .slice xr s.rv.length cr] 26)) (.int .i64 0) (.slice none 0 0) (.slice none 0 0) 26 (k := w.heap.size + 1) (by simp)).below ((Below.refl _ _).alloc (Nat.le_refl _) (.cells #[] 31))
  have r0 := row_void ((w.alloc (.cells #[.int .i64 s.num, .slice xp s.pol.length cp, .slice xr s.rv.length cr] 26)).alloc (.cells #[.int .i64 0, .slice none 0 0, .slice none 0 0] 26)) 31 4 (w.heap.size + 1 + 1) (base := w.heap.size + 1 + 1) (by simp) (by simp)
  have hbz : w.heap.size + 1 + 1 ≤ (((w.alloc (.cells #[.int .i64 s.num, .slice xp s.pol.length cp, .slice xr s.rv.length cr] 26)).alloc (.cells #[.int .i64 0, .slice none 0 0, .slice none 0 0] 26)).alloc (.cells #[] 31)).heap.size := by simp
  go_enter Tryz.func62, Tryz.ntmps62
  go_wp2_with (at_builtin; refine wpList_append_read rfl _ _ 23 rfl (w.heap.size + 1 + 1) 31 iw _ 4 56 Tryz.underlying23 hiw hw0 hw1 hw2 rfl (by decide) _ _ 0 s.pol.length [] _ rfl r0 rfl (h1.below hB0).src cells_one (by unfold maxLen; omega) (by omega) hbz ?_)
  intro v1 w1 o1 g1
  obtain ⟨x1, y1, z1, rfl⟩ := row_slice o1
  replace F1 : Three w1 _ _ _ _ _ := World.ownsRow.kept F1 g1 (.inr (by simp [Value.ownBlock] <;> omega))
  replace F2 : Three w1 _ _ _ _ _ := World.ownsRow.kept F2 g1 (.inr (by simp [Value.ownBlock] <;> omega))
  have hBB1 : Below w.heap.size w w1 := hB0.grown g1 hB0.size (fun k e => by simp [Value.ownBlock] at e; omega)
  have hk1 : w.heap.size + 1 + 1 ≤ w1.heap.size := Nat.le_trans hbz g1.size
  clear hB0 g1 r0 hbz
  have hBc : Below (w1.setCell ⟨w.heap.size, 1, none⟩ (.slice x1 y1 z1)).heap.size (w1.setCell ⟨w.heap.size, 1, none⟩ (.slice x1 y1 z1)) ((w1.setCell ⟨w.heap.size, 1, none⟩ (.slice x1 y1 z1)).alloc (.cells #[] 3)) := (Below.refl _ _).alloc (Nat.le_refl _) _
  obtain ⟨a0, a1, a2⟩ := F1.c
  have f1 := F1.f 1
  have G1 := (F1.s1 (.slice x1 y1 z1)).below hBc
  have G2 := (F2.other (k' := w.heap.size) (by omega) 1 (.slice x1 y1 z1)).below hBc
  have q1 := (ownsRow_setCell_below o1 (a := ⟨w.heap.size, 1, none⟩) (by simp; omega) (.slice x1 y1 z1)).alloc (.cells #[] 3)
  have r1 := row_void (w1.setCell ⟨w.heap.size, 1, none⟩ (.slice x1 y1 z1)) 3 1 w1.heap.size (base := w1.heap.size) (by simp) (by simp)
  have hBB2 := (hBB1.setCell (p := ⟨w.heap.size, 1, none⟩) (by simp) (.slice x1 y1 z1)).trans (hBc.mono (by simp; have := hBB1.size; omega))
  have hbz2 : w1.heap.size ≤ ((w1.setCell ⟨w.heap.size, 1, none⟩ (.slice x1 y1 z1)).alloc (.cells #[] 3)).heap.size := by simp
  clear F1 F2 hBc
  obtain ⟨n0, n1, n2⟩ := G1.c
  go_wp2_with (at_builtin; refine wpList_append_read rfl _ _ 24 rfl w1.heap.size 3 ii _ 1 8 Tryz.underlying24 hii hi0 hi1 hi2 rfl (by decide) _ _ 0 s.rv.length [] _ rfl r1 rfl (h2.below hBB2).src ones_n (by unfold maxLen; omega) (by omega) hbz2 ?_)
  intro v2 w2 o2 g2
  obtain ⟨x2, y2, z2, rfl⟩ := row_slice o2
  replace G1 : Three w2 _ _ _ _ _ := World.ownsRow.kept G1 g2 (.inr (by simp [Value.ownBlock] <;> omega))
  replace G2 : Three w2 _ _ _ _ _ := World.ownsRow.kept G2 g2 (.inr (by simp [Value.ownBlock] <;> omega))
  have p1 := kept_apart (v2 := .slice (some ⟨w1.heap.size, 0, none⟩) 0 0) q1 g2 (row_apart q1 r1 (by decide))
  have hBB3 : Below w.heap.size w w2 := hBB2.grown g2 hBB2.size (fun k e => by simp [Value.ownBlock] at e; omega)
  have hk2 : w1.heap.size ≤ w2.heap.size := Nat.le_trans hbz2 g2.size
  clear hBB2 g2 r1 hbz2 q1 a0 a1 a2 f1 n0 n1 n2
  obtain ⟨a0, a1, a2⟩ := G1.c
  have f2 := G1.f 2
  have F1' := G1.s2 (.slice x2 y2 z2)
  have F2' := G2.other (k' := w.heap.size) (by omega) 2 (.slice x2 y2 z2)
  have q1 := ownsRow_setCell_below p1 (a := ⟨w.heap.size, 2, none⟩) (by simp; omega) (.slice x2 y2 z2)
  have q2 := ownsRow_setCell_below o2 (a := ⟨w.heap.size, 2, none⟩) (by simp; omega) (.slice x2 y2 z2)
  have hBB4 := hBB3.setCell (p := ⟨w.heap.size, 2, none⟩) (by simp) (.slice x2 y2 z2)
  obtain ⟨b0, b1, b2⟩ := F1'.c
  obtain ⟨e0, e1, e2⟩ := F2'.c
  have k0 := F2'.f 0
  have k1 := F2'.f 1
  have k2 := F2'.f 2
  have G := ((F2'.s0 (.int .i64 s.num)).s1 (.slice x1 y1 z1)).s2 (.slice x2 y2 z2)
  have m1 := row_three q1 (k := w.heap.size + 1) (by omega) (.int .i64 s.num) (.slice x1 y1 z1) (.slice x2 y2 z2)
  have m2 := row_three q2 (k := w.heap.size + 1) (by omega) (.int .i64 s.num) (.slice x1 y1 z1) (.slice x2 y2 z2)
  have pB := below_three hBB4 (k := w.heap.size + 1) (by omega) (.int .i64 s.num) (.slice x1 y1 z1) (.slice x2 y2 z2)
  go_wp2_with fail
  clear a0 a1 a2 f2 b0 b1 b2 e0 e1 e2 k0 k1 k2
  generalize (((w2.setCell ⟨w.heap.size, 2, none⟩ (.slice x2 y2 z2)).setCell ⟨w.heap.size + 1, 0, none⟩ (.int .i64 s.num)).setCell ⟨w.heap.size + 1, 1, none⟩ (.slice x1 y1 z1)).setCell ⟨w.heap.size + 1, 2, none⟩ (.slice x2 y2 z2) = W5 at *
  obtain ⟨d0, d1, d2⟩ := G.c
  exact bodyPost_ret (v := .agg #[.int .i64 s.num, .slice x1 y1 z1, .slice x2 y2 z2]) (by simp [results, Tryz.results62, go_sem, d0, d1, d2]) rfl ⟨_, rfl, SnO.of (Go.Joins.ownsRow_le m1 (by omega)) (Go.Joins.ownsRow_le m2 (by omega)), pB⟩

end Go.Proofs.YtjnajdilllkpcaaGreat
