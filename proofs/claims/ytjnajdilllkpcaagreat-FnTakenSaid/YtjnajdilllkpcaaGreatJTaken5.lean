/-
  Chapter 6: TakeMail, by the specification.
-/
import Derived.Deep.DeepCutAuto
import Derived.Test.YtjnajdilllkpcaaGreatJTaken4
namespace Go.Proofs.YtjnajdilllkpcaaGreat
open Go.RowKit Go.Shelf

section
variable {s : Sd} {kd ver no se : Int} {ru : Ru}
theorem tk1 (h : (decide (ver ≤ s.fo.num) || decide (ver < s.co)) = true) : tkX s ⟨kd, ver, no, ru, se⟩ = s := if_pos h
theorem tk_rest (h1 : decide (ver ≤ s.fo.num) = false) (h2 : decide (ver < s.co) = false) : tkX s ⟨kd, ver, no, ru, se⟩ = if (kd == 1) = true then (if (decide (s.co < ver) && (decide (ver ≤ 100000) && inB 0 230 no)) = true then opX s ver no.toNat else s)
  else if (ver == s.co) = false then s
  else if (kd == 4) = true then cmX s ⟨kd, ver, no, ru, se⟩
  else if lkB s no = false then s
  else if ((kd == 2) && ru.good) = true then ruX s ⟨kd, ver, no, ru, se⟩
  else if ((kd == 3) && numB se) = true then seX6 s ⟨kd, ver, no, ru, se⟩
  else s := if_neg (by show ¬ (decide (ver ≤ s.fo.num) || decide (ver < s.co)) = true; rw [h1, h2]; exact Bool.false_ne_true)
theorem tk_op (h1 : decide (ver ≤ s.fo.num) = false) (h2 : decide (ver < s.co) = false) : tkX s ⟨1, ver, no, ru, se⟩ = if (decide (s.co < ver) && (decide (ver ≤ 100000) && inB 0 230 no)) = true then opX s ver no.toNat else s := by
  rw [tk_rest h1 h2]
  rfl
theorem tk_ver (h1 : decide (ver ≤ s.fo.num) = false) (h2 : decide (ver < s.co) = false) (k1 : (kd == 1) = false) (h3 : (ver != s.co) = true) : tkX s ⟨kd, ver, no, ru, se⟩ = s := by
  rw [tk_rest h1 h2, if_neg (by rw [k1]; exact Bool.false_ne_true), if_pos (by simpa using h3)]
theorem tk_com (h1 : decide (ver ≤ s.fo.num) = false) (h2 : decide (ver < s.co) = false) (h3 : (ver != s.co) = false) : tkX s ⟨4, ver, no, ru, se⟩ = cmX s ⟨4, ver, no, ru, se⟩ := by
  rw [tk_rest h1 h2, if_neg (by decide), if_neg (by simpa using h3), if_pos (by decide)]
theorem tk_put (h1 : decide (ver ≤ s.fo.num) = false) (h2 : decide (ver < s.co) = false) (k1 : (kd == 1) = false) (k4 : (kd == 4) = false) (h3 : (ver != s.co) = false) : tkX s ⟨kd, ver, no, ru, se⟩ = if lkB s no = false then s
  else if ((kd == 2) && ru.good) = true then ruX s ⟨kd, ver, no, ru, se⟩
  else if ((kd == 3) && numB se) = true then seX6 s ⟨kd, ver, no, ru, se⟩
  else s := by
  rw [tk_rest h1 h2, if_neg (by rw [k1]; exact Bool.false_ne_true), if_neg (by simpa using h3), if_neg (by rw [k4]; exact Bool.false_ne_true)]
theorem tk_lk (h1 : decide (ver ≤ s.fo.num) = false) (h2 : decide (ver < s.co) = false) (k1 : (kd == 1) = false) (k4 : (kd == 4) = false) (h3 : (ver != s.co) = false) (h4 : lkB s no = false) : tkX s ⟨kd, ver, no, ru, se⟩ = s := by
  rw [tk_put h1 h2 k1 k4 h3, if_pos h4]
theorem tk_ru (h1 : decide (ver ≤ s.fo.num) = false) (h2 : decide (ver < s.co) = false) (h3 : (ver != s.co) = false) (h4 : lkB s no = true) (h5 : ru.good = true) : tkX s ⟨2, ver, no, ru, se⟩ = ruX s ⟨2, ver, no, ru, se⟩ := by
  rw [tk_put h1 h2 (by decide) (by decide) h3, if_neg (by rw [h4]; simp), if_pos (by rw [h5]; rfl)]
theorem tk_ru0 (h1 : decide (ver ≤ s.fo.num) = false) (h2 : decide (ver < s.co) = false) (h3 : (ver != s.co) = false) (h4 : lkB s no = true) (h5 : ru.good = false) : tkX s ⟨2, ver, no, ru, se⟩ = s := by
  rw [tk_put h1 h2 (by decide) (by decide) h3, if_neg (by rw [h4]; simp), if_neg (by rw [h5]; simp), if_neg (by simp)]
theorem tk_se (h1 : decide (ver ≤ s.fo.num) = false) (h2 : decide (ver < s.co) = false) (h3 : (ver != s.co) = false) (h4 : lkB s no = true) (h5 : numB se = true) : tkX s ⟨3, ver, no, ru, se⟩ = seX6 s ⟨3, ver, no, ru, se⟩ := by
  rw [tk_put h1 h2 (by decide) (by decide) h3, if_neg (by rw [h4]; simp), if_neg (by simp), if_pos (by rw [h5]; rfl)]
theorem tk_se0 (h1 : decide (ver ≤ s.fo.num) = false) (h2 : decide (ver < s.co) = false) (h3 : (ver != s.co) = false) (h4 : lkB s no = true) (h5 : numB se = false) : tkX s ⟨3, ver, no, ru, se⟩ = s := by
  rw [tk_put h1 h2 (by decide) (by decide) h3, if_neg (by rw [h4]; simp), if_neg (by simp), if_neg (by rw [h5]; simp)]
theorem tk_no (h1 : decide (ver ≤ s.fo.num) = false) (h2 : decide (ver < s.co) = false) (k1 : (kd == 1) = false) (k4 : (kd == 4) = false) (k2 : (kd == 2) = false) (k3 : (kd == 3) = false) (h3 : (ver != s.co) = false) : tkX s ⟨kd, ver, no, ru, se⟩ = s := by
  rw [tk_put h1 h2 k1 k4 h3, k2, k3]
  simp
theorem lk_no1 (h : inB 0 ((s.ha.length : Int) - 1) no = false) : lkB s no = false := by
  unfold lkB
  rw [show decide (0 ≤ no ∧ no < (s.ha.length : Int)) = false by have := of_decide_eq_false h; exact decide_eq_false (by omega)]
  rfl
end
theorem lk_no2 {s : Sd} {n : Nat} (hn : n < s.ha.length) (h : s.ha[n] = true) : lkB s (n : Int) = false := by
  unfold lkB
  rw [Int.toNat_natCast, List.getElem?_eq_getElem hn, Option.getD_some, h]
  simp
theorem lk_yes {s : Sd} {n : Nat} (hn : n < s.ha.length) (h : s.ha[n] = false) : lkB s (n : Int) = true := by
  unfold lkB
  rw [Int.toNat_natCast, List.getElem?_eq_getElem hn, Option.getD_some, h]
  simp
  omega

set_option maxHeartbeats 16000000 in
set_option maxRecDepth 100000 in
theorem l6Take_any (v : Value) (s : Sd) (kd ver no : Int) (ru : Ru) (se : Int) (w : World) (hs : s.short) (hg : sdB s = true) (hl : loB s) (hr : ru.size ≤ 1048576) (h : SdR w v s) :
    Calls Tryz.prog 18 #[v, (Ml.mk kd ver no ru se).val] w fun e w' => ∃ v', e = .returned v' ∧ SdO w' w.heap.size w'.heap.size v' (tkX s ⟨kd, ver, no, ru, se⟩) ∧ Below w.heap.size w w' := by
  have h' := h
  obtain ⟨e1, e2, e3⟩ := lnB_parts (sd_parts hg).2.1
  obtain ⟨vp, vr, vu, vh, vs, rfl, h1, h2, h3, h4, h5⟩ := h
  have hs' := hs
  obtain ⟨hf, l3, l4, l5, lr⟩ := hs
  obtain ⟨ap, cp, rfl⟩ := h1.len
  obtain ⟨ar, cr, rfl⟩ := h2.len
  obtain ⟨au, cu, rfl⟩ := h3.len
  obtain ⟨ah, ch, rfl⟩ := h4.s.bolLen
  obtain ⟨ai, ci, rfl⟩ := h5.len
  obtain ⟨iw, hiw, hw0, hw1, hw2⟩ := info_parts infoRule
  obtain ⟨ib, hib, hb0, hb1, hb2⟩ := info_parts infoBool
  obtain ⟨ii, hii, hi0, hi1, hi2⟩ := info_parts infoInt
  have E1 := hid e1
  have E2 := hid e2
  clear e1 e2 h1 h2 h3 h4 h5
  have hB0 : Below w.heap.size w (((w.alloc (.cells #[.int .i64 s.fo.num, .slice ap s.fo.pol.length cp, .slice ar s.fo.rv.length cr, .int .i64 s.co, .slice au s.ru.length cu, .slice ah s.ha.length ch, .slice ai s.se.length ci] 29)).alloc (.cells #[.int .i64 kd, .int .i64 ver, .int .i64 no, .bool ru.deny, .string ru.who, .string ru.method, .string ru.path, .int .i64 se] 33)).alloc (.cells #[.int .i64 0, .slice none 0 0, .slice none 0 0, .int .i64 0, .slice none 0 0, .slice none 0 0, .slice none 0 0] 29)) := (((Below.refl _ w).alloc (Nat.le_refl _) _).alloc (by simp) _).alloc (by simp; omega) _
  have F := ((Seven.new w (.int .i64 s.fo.num) (.slice ap s.fo.pol.length cp) (.slice ar s.fo.rv.length cr) (.int .i64 s.co) (.slice au s.ru.length cu) (.slice ah s.ha.length ch) (.slice ai s.se.length ci) 29).below ((Below.refl _ _).alloc (Nat.le_refl _) (.cells #[.int .i64 kd, .int .i64 ver, .int .i64 no, .bool ru.deny, .string ru.who, .string ru.method, .string ru.path, .int .i64 se] 33))).below ((Below.refl _ _).alloc (Nat.le_refl _) (.cells #[.int .i64 0, .slice none 0 0, .slice none 0 0, .int .i64 0, .slice none 0 0, .slice none 0 0, .slice none 0 0] 29))
  have FM := (Eight.at (w.alloc (.cells #[.int .i64 s.fo.num, .slice ap s.fo.pol.length cp, .slice ar s.fo.rv.length cr, .int .i64 s.co, .slice au s.ru.length cu, .slice ah s.ha.length ch, .slice ai s.se.length ci] 29)) (.int .i64 kd) (.int .i64 ver) (.int .i64 no) (.bool ru.deny) (.string ru.who) (.string ru.method) (.string ru.path) (.int .i64 se) 33 (k := w.heap.size + 1) (by simp)).below ((Below.refl _ _).alloc (Nat.le_refl _) (.cells #[.int .i64 0, .slice none 0 0, .slice none 0 0, .int .i64 0, .slice none 0 0, .slice none 0 0, .slice none 0 0] 29))
  have F2 := Seven.at ((w.alloc (.cells #[.int .i64 s.fo.num, .slice ap s.fo.pol.length cp, .slice ar s.fo.rv.length cr, .int .i64 s.co, .slice au s.ru.length cu, .slice ah s.ha.length ch, .slice ai s.se.length ci] 29)).alloc (.cells #[.int .i64 kd, .int .i64 ver, .int .i64 no, .bool ru.deny, .string ru.who, .string ru.method, .string ru.path, .int .i64 se] 33)) (.int .i64 0) (.slice none 0 0) (.slice none 0 0) (.int .i64 0) (.slice none 0 0) (.slice none 0 0) (.slice none 0 0) 29 (k := w.heap.size + 1 + 1) (by simp)
  have hk2 := F2.lt
  go_enter Tryz.func18, Tryz.ntmps18
  go_upto_region 1 with fail
  generalize ((w.alloc (.cells #[.int .i64 s.fo.num, .slice ap s.fo.pol.length cp, .slice ar s.fo.rv.length cr, .int .i64 s.co, .slice au s.ru.length cu, .slice ah s.ha.length ch, .slice ai s.se.length ci] 29)).alloc (.cells #[.int .i64 kd, .int .i64 ver, .int .i64 no, .bool ru.deny, .string ru.who, .string ru.method, .string ru.path, .int .i64 se] 33)).alloc (.cells #[.int .i64 0, .slice none 0 0, .slice none 0 0, .int .i64 0, .slice none 0 0, .slice none 0 0, .slice none 0 0] 29) = W0 at *
  obtain ⟨a0, a1, a2, a3, a4, a5, a6⟩ := F.c
  go_wp2_with fail
  refine (l6Own_any _ s _ hs' (h'.below hB0)).mono ?_
  rintro e w1 ⟨v1, rfl, O1, hB1⟩
  obtain ⟨p1, c1, p2, c2, p3, c3, p4, c4, p5, c5, rfl⟩ := sd_forms O1.a
  replace F := F.below hB1
  replace FM := FM.below hB1
  replace F2 := F2.below hB1
  replace hB0 := below_one hB0 hB1
  have hs1 := hB1.size
  clear hB1 a0 a1 a2 a3 a4 a5 a6
  obtain ⟨a0, a1, a2, a3, a4, a5, a6⟩ := F.c
  have f0 := F.f 0
  have f1 := F.f 1
  have f2 := F.f 2
  have f3 := F.f 3
  have f4 := F.f 4
  have f5 := F.f 5
  have f6 := F.f 6
  have G := (((((((F.s0 (.int .i64 s.fo.num)).s1 (.slice p1 s.fo.pol.length c1)).s2 (.slice p2 s.fo.rv.length c2)).s3 (.int .i64 s.co)).s4 (.slice p3 s.ru.length c3)).s5 (.slice p4 s.ha.length c4)).s6 (.slice p5 s.se.length c5))
  have GM := (((((((FM.other (k' := w.heap.size) (by omega) 0 (.int .i64 s.fo.num)).other (k' := w.heap.size) (by omega) 1 (.slice p1 s.fo.pol.length c1)).other (k' := w.heap.size) (by omega) 2 (.slice p2 s.fo.rv.length c2)).other (k' := w.heap.size) (by omega) 3 (.int .i64 s.co)).other (k' := w.heap.size) (by omega) 4 (.slice p3 s.ru.length c3)).other (k' := w.heap.size) (by omega) 5 (.slice p4 s.ha.length c4)).other (k' := w.heap.size) (by omega) 6 (.slice p5 s.se.length c5))
  have G2 := (((((((F2.other (k' := w.heap.size) (by omega) 0 (.int .i64 s.fo.num)).other (k' := w.heap.size) (by omega) 1 (.slice p1 s.fo.pol.length c1)).other (k' := w.heap.size) (by omega) 2 (.slice p2 s.fo.rv.length c2)).other (k' := w.heap.size) (by omega) 3 (.int .i64 s.co)).other (k' := w.heap.size) (by omega) 4 (.slice p3 s.ru.length c3)).other (k' := w.heap.size) (by omega) 5 (.slice p4 s.ha.length c4)).other (k' := w.heap.size) (by omega) 6 (.slice p5 s.se.length c5))
  have O := (sdo_set (sdo_set (sdo_set (sdo_set (sdo_set (sdo_set (sdo_set O1 (p := ⟨w.heap.size, 0, none⟩) (by simp; omega) (.int .i64 s.fo.num)) (p := ⟨w.heap.size, 1, none⟩) (by simp; omega) (.slice p1 s.fo.pol.length c1)) (p := ⟨w.heap.size, 2, none⟩) (by simp; omega) (.slice p2 s.fo.rv.length c2)) (p := ⟨w.heap.size, 3, none⟩) (by simp; omega) (.int .i64 s.co)) (p := ⟨w.heap.size, 4, none⟩) (by simp; omega) (.slice p3 s.ru.length c3)) (p := ⟨w.heap.size, 5, none⟩) (by simp; omega) (.slice p4 s.ha.length c4)) (p := ⟨w.heap.size, 6, none⟩) (by simp; omega) (.slice p5 s.se.length c5))
  have hBB := below_seven hB0 (k := w.heap.size) (Nat.le_refl _) (.int .i64 s.fo.num) (.slice p1 s.fo.pol.length c1) (.slice p2 s.fo.rv.length c2) (.int .i64 s.co) (.slice p3 s.ru.length c3) (.slice p4 s.ha.length c4) (.slice p5 s.se.length c5)
  have hs2 : w1.heap.size ≤ (((((((w1.setCell ⟨w.heap.size, 0, none⟩ (.int .i64 s.fo.num)).setCell ⟨w.heap.size, 1, none⟩ (.slice p1 s.fo.pol.length c1)).setCell ⟨w.heap.size, 2, none⟩ (.slice p2 s.fo.rv.length c2)).setCell ⟨w.heap.size, 3, none⟩ (.int .i64 s.co)).setCell ⟨w.heap.size, 4, none⟩ (.slice p3 s.ru.length c3)).setCell ⟨w.heap.size, 5, none⟩ (.slice p4 s.ha.length c4)).setCell ⟨w.heap.size, 6, none⟩ (.slice p5 s.se.length c5)).heap.size := by simp
  go_upto_region 2 with fail
  clear a0 a1 a2 a3 a4 a5 a6 f0 f1 f2 f3 f4 f5 f6 F FM F2 O1 hB0
  generalize ((((((w1.setCell ⟨w.heap.size, 0, none⟩ (.int .i64 s.fo.num)).setCell ⟨w.heap.size, 1, none⟩ (.slice p1 s.fo.pol.length c1)).setCell ⟨w.heap.size, 2, none⟩ (.slice p2 s.fo.rv.length c2)).setCell ⟨w.heap.size, 3, none⟩ (.int .i64 s.co)).setCell ⟨w.heap.size, 4, none⟩ (.slice p3 s.ru.length c3)).setCell ⟨w.heap.size, 5, none⟩ (.slice p4 s.ha.length c4)).setCell ⟨w.heap.size, 6, none⟩ (.slice p5 s.se.length c5) = W1 at *
  obtain ⟨a0, a1, a2, a3, a4, a5, a6⟩ := G.c
  obtain ⟨m0, m1, m2, m3, m4, m5, m6, m7⟩ := GM.c
  cases hA : decide (ver ≤ s.fo.num)
  case true =>
    have HR := hid (tk1 (s := s) (kd := kd) (ver := ver) (no := no) (ru := ru) (se := se) (by rw [hA]; rfl))
    obtain ⟨r0, r1, r2, r3, r4, r5, r6⟩ := G2.c
    have f0 := G2.f 0
    have f1 := G2.f 1
    have f2 := G2.f 2
    have f3 := G2.f 3
    have f4 := G2.f 4
    have f5 := G2.f 5
    have f6 := G2.f 6
    have G3 := (((((((G2.s0 (.int .i64 s.fo.num)).s1 (.slice p1 s.fo.pol.length c1)).s2 (.slice p2 s.fo.rv.length c2)).s3 (.int .i64 s.co)).s4 (.slice p3 s.ru.length c3)).s5 (.slice p4 s.ha.length c4)).s6 (.slice p5 s.se.length c5))
    have pB := below_seven hBB (k := w.heap.size + 1 + 1) (by omega) (.int .i64 s.fo.num) (.slice p1 s.fo.pol.length c1) (.slice p2 s.fo.rv.length c2) (.int .i64 s.co) (.slice p3 s.ru.length c3) (.slice p4 s.ha.length c4) (.slice p5 s.se.length c5)
    have O9 := (sdo_set (sdo_set (sdo_set (sdo_set (sdo_set (sdo_set (sdo_set O (p := ⟨w.heap.size + 1 + 1, 0, none⟩) (by simp; omega) (.int .i64 s.fo.num)) (p := ⟨w.heap.size + 1 + 1, 1, none⟩) (by simp; omega) (.slice p1 s.fo.pol.length c1)) (p := ⟨w.heap.size + 1 + 1, 2, none⟩) (by simp; omega) (.slice p2 s.fo.rv.length c2)) (p := ⟨w.heap.size + 1 + 1, 3, none⟩) (by simp; omega) (.int .i64 s.co)) (p := ⟨w.heap.size + 1 + 1, 4, none⟩) (by simp; omega) (.slice p3 s.ru.length c3)) (p := ⟨w.heap.size + 1 + 1, 5, none⟩) (by simp; omega) (.slice p4 s.ha.length c4)) (p := ⟨w.heap.size + 1 + 1, 6, none⟩) (by simp; omega) (.slice p5 s.se.length c5))
    have hse : W1.heap.size ≤ (((((((W1.setCell ⟨w.heap.size + 1 + 1, 0, none⟩ (.int .i64 s.fo.num)).setCell ⟨w.heap.size + 1 + 1, 1, none⟩ (.slice p1 s.fo.pol.length c1)).setCell ⟨w.heap.size + 1 + 1, 2, none⟩ (.slice p2 s.fo.rv.length c2)).setCell ⟨w.heap.size + 1 + 1, 3, none⟩ (.int .i64 s.co)).setCell ⟨w.heap.size + 1 + 1, 4, none⟩ (.slice p3 s.ru.length c3)).setCell ⟨w.heap.size + 1 + 1, 5, none⟩ (.slice p4 s.ha.length c4)).setCell ⟨w.heap.size + 1 + 1, 6, none⟩ (.slice p5 s.se.length c5)).heap.size := by simp
    go_wp2_with fail
    clear r0 r1 r2 r3 r4 r5 r6 f0 f1 f2 f3 f4 f5 f6
    generalize ((((((W1.setCell ⟨w.heap.size + 1 + 1, 0, none⟩ (.int .i64 s.fo.num)).setCell ⟨w.heap.size + 1 + 1, 1, none⟩ (.slice p1 s.fo.pol.length c1)).setCell ⟨w.heap.size + 1 + 1, 2, none⟩ (.slice p2 s.fo.rv.length c2)).setCell ⟨w.heap.size + 1 + 1, 3, none⟩ (.int .i64 s.co)).setCell ⟨w.heap.size + 1 + 1, 4, none⟩ (.slice p3 s.ru.length c3)).setCell ⟨w.heap.size + 1 + 1, 5, none⟩ (.slice p4 s.ha.length c4)).setCell ⟨w.heap.size + 1 + 1, 6, none⟩ (.slice p5 s.se.length c5) = W9 at *
    obtain ⟨d0, d1, d2, d3, d4, d5, d6⟩ := G3.c
    exact bodyPost_ret (v := .agg #[.int .i64 s.fo.num, .slice p1 s.fo.pol.length c1, .slice p2 s.fo.rv.length c2, .int .i64 s.co, .slice p3 s.ru.length c3, .slice p4 s.ha.length c4, .slice p5 s.se.length c5]) (by simp [results, Tryz.results18, go_sem, d0, d1, d2, d3, d4, d5, d6]) rfl ⟨_, rfl, by rw [HR.out]; exact O9.mono (by omega) (by omega), pB⟩
  cases hC : decide (ver < s.co)
  case true =>
    have HR := hid (tk1 (s := s) (kd := kd) (ver := ver) (no := no) (ru := ru) (se := se) (by rw [hC]; simp))
    obtain ⟨r0, r1, r2, r3, r4, r5, r6⟩ := G2.c
    have f0 := G2.f 0
    have f1 := G2.f 1
    have f2 := G2.f 2
    have f3 := G2.f 3
    have f4 := G2.f 4
    have f5 := G2.f 5
    have f6 := G2.f 6
    have G3 := (((((((G2.s0 (.int .i64 s.fo.num)).s1 (.slice p1 s.fo.pol.length c1)).s2 (.slice p2 s.fo.rv.length c2)).s3 (.int .i64 s.co)).s4 (.slice p3 s.ru.length c3)).s5 (.slice p4 s.ha.length c4)).s6 (.slice p5 s.se.length c5))
    have pB := below_seven hBB (k := w.heap.size + 1 + 1) (by omega) (.int .i64 s.fo.num) (.slice p1 s.fo.pol.length c1) (.slice p2 s.fo.rv.length c2) (.int .i64 s.co) (.slice p3 s.ru.length c3) (.slice p4 s.ha.length c4) (.slice p5 s.se.length c5)
    have O9 := (sdo_set (sdo_set (sdo_set (sdo_set (sdo_set (sdo_set (sdo_set O (p := ⟨w.heap.size + 1 + 1, 0, none⟩) (by simp; omega) (.int .i64 s.fo.num)) (p := ⟨w.heap.size + 1 + 1, 1, none⟩) (by simp; omega) (.slice p1 s.fo.pol.length c1)) (p := ⟨w.heap.size + 1 + 1, 2, none⟩) (by simp; omega) (.slice p2 s.fo.rv.length c2)) (p := ⟨w.heap.size + 1 + 1, 3, none⟩) (by simp; omega) (.int .i64 s.co)) (p := ⟨w.heap.size + 1 + 1, 4, none⟩) (by simp; omega) (.slice p3 s.ru.length c3)) (p := ⟨w.heap.size + 1 + 1, 5, none⟩) (by simp; omega) (.slice p4 s.ha.length c4)) (p := ⟨w.heap.size + 1 + 1, 6, none⟩) (by simp; omega) (.slice p5 s.se.length c5))
    have hse : W1.heap.size ≤ (((((((W1.setCell ⟨w.heap.size + 1 + 1, 0, none⟩ (.int .i64 s.fo.num)).setCell ⟨w.heap.size + 1 + 1, 1, none⟩ (.slice p1 s.fo.pol.length c1)).setCell ⟨w.heap.size + 1 + 1, 2, none⟩ (.slice p2 s.fo.rv.length c2)).setCell ⟨w.heap.size + 1 + 1, 3, none⟩ (.int .i64 s.co)).setCell ⟨w.heap.size + 1 + 1, 4, none⟩ (.slice p3 s.ru.length c3)).setCell ⟨w.heap.size + 1 + 1, 5, none⟩ (.slice p4 s.ha.length c4)).setCell ⟨w.heap.size + 1 + 1, 6, none⟩ (.slice p5 s.se.length c5)).heap.size := by simp
    go_wp2_with fail
    clear r0 r1 r2 r3 r4 r5 r6 f0 f1 f2 f3 f4 f5 f6
    generalize ((((((W1.setCell ⟨w.heap.size + 1 + 1, 0, none⟩ (.int .i64 s.fo.num)).setCell ⟨w.heap.size + 1 + 1, 1, none⟩ (.slice p1 s.fo.pol.length c1)).setCell ⟨w.heap.size + 1 + 1, 2, none⟩ (.slice p2 s.fo.rv.length c2)).setCell ⟨w.heap.size + 1 + 1, 3, none⟩ (.int .i64 s.co)).setCell ⟨w.heap.size + 1 + 1, 4, none⟩ (.slice p3 s.ru.length c3)).setCell ⟨w.heap.size + 1 + 1, 5, none⟩ (.slice p4 s.ha.length c4)).setCell ⟨w.heap.size + 1 + 1, 6, none⟩ (.slice p5 s.se.length c5) = W9 at *
    obtain ⟨d0, d1, d2, d3, d4, d5, d6⟩ := G3.c
    exact bodyPost_ret (v := .agg #[.int .i64 s.fo.num, .slice p1 s.fo.pol.length c1, .slice p2 s.fo.rv.length c2, .int .i64 s.co, .slice p3 s.ru.length c3, .slice p4 s.ha.length c4, .slice p5 s.se.length c5]) (by simp [results, Tryz.results18, go_sem, d0, d1, d2, d3, d4, d5, d6]) rfl ⟨_, rfl, by rw [HR.out]; exact O9.mono (by omega) (by omega), pB⟩
  by_cases k1 : kd = 1
  · subst k1
    cases hD : decide (s.co < ver)
    case false =>
      have HR := hid ((tk_op (s := s) (no := no) (ru := ru) (se := se) hA hC).trans (if_neg (by rw [hD]; simp)))
      obtain ⟨r0, r1, r2, r3, r4, r5, r6⟩ := G2.c
      have f0 := G2.f 0
      have f1 := G2.f 1
      have f2 := G2.f 2
      have f3 := G2.f 3
      have f4 := G2.f 4
      have f5 := G2.f 5
      have f6 := G2.f 6
      have G3 := (((((((G2.s0 (.int .i64 s.fo.num)).s1 (.slice p1 s.fo.pol.length c1)).s2 (.slice p2 s.fo.rv.length c2)).s3 (.int .i64 s.co)).s4 (.slice p3 s.ru.length c3)).s5 (.slice p4 s.ha.length c4)).s6 (.slice p5 s.se.length c5))
      have pB := below_seven hBB (k := w.heap.size + 1 + 1) (by omega) (.int .i64 s.fo.num) (.slice p1 s.fo.pol.length c1) (.slice p2 s.fo.rv.length c2) (.int .i64 s.co) (.slice p3 s.ru.length c3) (.slice p4 s.ha.length c4) (.slice p5 s.se.length c5)
      have O9 := (sdo_set (sdo_set (sdo_set (sdo_set (sdo_set (sdo_set (sdo_set O (p := ⟨w.heap.size + 1 + 1, 0, none⟩) (by simp; omega) (.int .i64 s.fo.num)) (p := ⟨w.heap.size + 1 + 1, 1, none⟩) (by simp; omega) (.slice p1 s.fo.pol.length c1)) (p := ⟨w.heap.size + 1 + 1, 2, none⟩) (by simp; omega) (.slice p2 s.fo.rv.length c2)) (p := ⟨w.heap.size + 1 + 1, 3, none⟩) (by simp; omega) (.int .i64 s.co)) (p := ⟨w.heap.size + 1 + 1, 4, none⟩) (by simp; omega) (.slice p3 s.ru.length c3)) (p := ⟨w.heap.size + 1 + 1, 5, none⟩) (by simp; omega) (.slice p4 s.ha.length c4)) (p := ⟨w.heap.size + 1 + 1, 6, none⟩) (by simp; omega) (.slice p5 s.se.length c5))
      have hse : W1.heap.size ≤ (((((((W1.setCell ⟨w.heap.size + 1 + 1, 0, none⟩ (.int .i64 s.fo.num)).setCell ⟨w.heap.size + 1 + 1, 1, none⟩ (.slice p1 s.fo.pol.length c1)).setCell ⟨w.heap.size + 1 + 1, 2, none⟩ (.slice p2 s.fo.rv.length c2)).setCell ⟨w.heap.size + 1 + 1, 3, none⟩ (.int .i64 s.co)).setCell ⟨w.heap.size + 1 + 1, 4, none⟩ (.slice p3 s.ru.length c3)).setCell ⟨w.heap.size + 1 + 1, 5, none⟩ (.slice p4 s.ha.length c4)).setCell ⟨w.heap.size + 1 + 1, 6, none⟩ (.slice p5 s.se.length c5)).heap.size := by simp
      go_wp2_with fail
      clear r0 r1 r2 r3 r4 r5 r6 f0 f1 f2 f3 f4 f5 f6
      generalize ((((((W1.setCell ⟨w.heap.size + 1 + 1, 0, none⟩ (.int .i64 s.fo.num)).setCell ⟨w.heap.size + 1 + 1, 1, none⟩ (.slice p1 s.fo.pol.length c1)).setCell ⟨w.heap.size + 1 + 1, 2, none⟩ (.slice p2 s.fo.rv.length c2)).setCell ⟨w.heap.size + 1 + 1, 3, none⟩ (.int .i64 s.co)).setCell ⟨w.heap.size + 1 + 1, 4, none⟩ (.slice p3 s.ru.length c3)).setCell ⟨w.heap.size + 1 + 1, 5, none⟩ (.slice p4 s.ha.length c4)).setCell ⟨w.heap.size + 1 + 1, 6, none⟩ (.slice p5 s.se.length c5) = W9 at *
      obtain ⟨d0, d1, d2, d3, d4, d5, d6⟩ := G3.c
      exact bodyPost_ret (v := .agg #[.int .i64 s.fo.num, .slice p1 s.fo.pol.length c1, .slice p2 s.fo.rv.length c2, .int .i64 s.co, .slice p3 s.ru.length c3, .slice p4 s.ha.length c4, .slice p5 s.se.length c5]) (by simp [results, Tryz.results18, go_sem, d0, d1, d2, d3, d4, d5, d6]) rfl ⟨_, rfl, by rw [HR.out]; exact O9.mono (by omega) (by omega), pB⟩
    cases hE : decide (ver ≤ 100000)
    case false =>
      have HR := hid ((tk_op (s := s) (no := no) (ru := ru) (se := se) hA hC).trans (if_neg (by rw [hE]; simp)))
      obtain ⟨r0, r1, r2, r3, r4, r5, r6⟩ := G2.c
      have f0 := G2.f 0
      have f1 := G2.f 1
      have f2 := G2.f 2
      have f3 := G2.f 3
      have f4 := G2.f 4
      have f5 := G2.f 5
      have f6 := G2.f 6
      have G3 := (((((((G2.s0 (.int .i64 s.fo.num)).s1 (.slice p1 s.fo.pol.length c1)).s2 (.slice p2 s.fo.rv.length c2)).s3 (.int .i64 s.co)).s4 (.slice p3 s.ru.length c3)).s5 (.slice p4 s.ha.length c4)).s6 (.slice p5 s.se.length c5))
      have pB := below_seven hBB (k := w.heap.size + 1 + 1) (by omega) (.int .i64 s.fo.num) (.slice p1 s.fo.pol.length c1) (.slice p2 s.fo.rv.length c2) (.int .i64 s.co) (.slice p3 s.ru.length c3) (.slice p4 s.ha.length c4) (.slice p5 s.se.length c5)
      have O9 := (sdo_set (sdo_set (sdo_set (sdo_set (sdo_set (sdo_set (sdo_set O (p := ⟨w.heap.size + 1 + 1, 0, none⟩) (by simp; omega) (.int .i64 s.fo.num)) (p := ⟨w.heap.size + 1 + 1, 1, none⟩) (by simp; omega) (.slice p1 s.fo.pol.length c1)) (p := ⟨w.heap.size + 1 + 1, 2, none⟩) (by simp; omega) (.slice p2 s.fo.rv.length c2)) (p := ⟨w.heap.size + 1 + 1, 3, none⟩) (by simp; omega) (.int .i64 s.co)) (p := ⟨w.heap.size + 1 + 1, 4, none⟩) (by simp; omega) (.slice p3 s.ru.length c3)) (p := ⟨w.heap.size + 1 + 1, 5, none⟩) (by simp; omega) (.slice p4 s.ha.length c4)) (p := ⟨w.heap.size + 1 + 1, 6, none⟩) (by simp; omega) (.slice p5 s.se.length c5))
      have hse : W1.heap.size ≤ (((((((W1.setCell ⟨w.heap.size + 1 + 1, 0, none⟩ (.int .i64 s.fo.num)).setCell ⟨w.heap.size + 1 + 1, 1, none⟩ (.slice p1 s.fo.pol.length c1)).setCell ⟨w.heap.size + 1 + 1, 2, none⟩ (.slice p2 s.fo.rv.length c2)).setCell ⟨w.heap.size + 1 + 1, 3, none⟩ (.int .i64 s.co)).setCell ⟨w.heap.size + 1 + 1, 4, none⟩ (.slice p3 s.ru.length c3)).setCell ⟨w.heap.size + 1 + 1, 5, none⟩ (.slice p4 s.ha.length c4)).setCell ⟨w.heap.size + 1 + 1, 6, none⟩ (.slice p5 s.se.length c5)).heap.size := by simp
      go_wp2_with fail
      clear r0 r1 r2 r3 r4 r5 r6 f0 f1 f2 f3 f4 f5 f6
      generalize ((((((W1.setCell ⟨w.heap.size + 1 + 1, 0, none⟩ (.int .i64 s.fo.num)).setCell ⟨w.heap.size + 1 + 1, 1, none⟩ (.slice p1 s.fo.pol.length c1)).setCell ⟨w.heap.size + 1 + 1, 2, none⟩ (.slice p2 s.fo.rv.length c2)).setCell ⟨w.heap.size + 1 + 1, 3, none⟩ (.int .i64 s.co)).setCell ⟨w.heap.size + 1 + 1, 4, none⟩ (.slice p3 s.ru.length c3)).setCell ⟨w.heap.size + 1 + 1, 5, none⟩ (.slice p4 s.ha.length c4)).setCell ⟨w.heap.size + 1 + 1, 6, none⟩ (.slice p5 s.se.length c5) = W9 at *
      obtain ⟨d0, d1, d2, d3, d4, d5, d6⟩ := G3.c
      exact bodyPost_ret (v := .agg #[.int .i64 s.fo.num, .slice p1 s.fo.pol.length c1, .slice p2 s.fo.rv.length c2, .int .i64 s.co, .slice p3 s.ru.length c3, .slice p4 s.ha.length c4, .slice p5 s.se.length c5]) (by simp [results, Tryz.results18, go_sem, d0, d1, d2, d3, d4, d5, d6]) rfl ⟨_, rfl, by rw [HR.out]; exact O9.mono (by omega) (by omega), pB⟩
    go_wp2_with fail
    refine (l1In_any no 0 230 _).mono ?_
    rintro e wx ⟨rfl, rfl⟩
    cases hF : inB 0 230 no
    case false =>
      have HR := hid ((tk_op (s := s) (no := no) (ru := ru) (se := se) hA hC).trans (if_neg (by rw [hF]; simp)))
      obtain ⟨r0, r1, r2, r3, r4, r5, r6⟩ := G2.c
      have f0 := G2.f 0
      have f1 := G2.f 1
      have f2 := G2.f 2
      have f3 := G2.f 3
      have f4 := G2.f 4
      have f5 := G2.f 5
      have f6 := G2.f 6
      have G3 := (((((((G2.s0 (.int .i64 s.fo.num)).s1 (.slice p1 s.fo.pol.length c1)).s2 (.slice p2 s.fo.rv.length c2)).s3 (.int .i64 s.co)).s4 (.slice p3 s.ru.length c3)).s5 (.slice p4 s.ha.length c4)).s6 (.slice p5 s.se.length c5))
      have pB := below_seven hBB (k := w.heap.size + 1 + 1) (by omega) (.int .i64 s.fo.num) (.slice p1 s.fo.pol.length c1) (.slice p2 s.fo.rv.length c2) (.int .i64 s.co) (.slice p3 s.ru.length c3) (.slice p4 s.ha.length c4) (.slice p5 s.se.length c5)
      have O9 := (sdo_set (sdo_set (sdo_set (sdo_set (sdo_set (sdo_set (sdo_set O (p := ⟨w.heap.size + 1 + 1, 0, none⟩) (by simp; omega) (.int .i64 s.fo.num)) (p := ⟨w.heap.size + 1 + 1, 1, none⟩) (by simp; omega) (.slice p1 s.fo.pol.length c1)) (p := ⟨w.heap.size + 1 + 1, 2, none⟩) (by simp; omega) (.slice p2 s.fo.rv.length c2)) (p := ⟨w.heap.size + 1 + 1, 3, none⟩) (by simp; omega) (.int .i64 s.co)) (p := ⟨w.heap.size + 1 + 1, 4, none⟩) (by simp; omega) (.slice p3 s.ru.length c3)) (p := ⟨w.heap.size + 1 + 1, 5, none⟩) (by simp; omega) (.slice p4 s.ha.length c4)) (p := ⟨w.heap.size + 1 + 1, 6, none⟩) (by simp; omega) (.slice p5 s.se.length c5))
      have hse : wx.heap.size ≤ (((((((wx.setCell ⟨w.heap.size + 1 + 1, 0, none⟩ (.int .i64 s.fo.num)).setCell ⟨w.heap.size + 1 + 1, 1, none⟩ (.slice p1 s.fo.pol.length c1)).setCell ⟨w.heap.size + 1 + 1, 2, none⟩ (.slice p2 s.fo.rv.length c2)).setCell ⟨w.heap.size + 1 + 1, 3, none⟩ (.int .i64 s.co)).setCell ⟨w.heap.size + 1 + 1, 4, none⟩ (.slice p3 s.ru.length c3)).setCell ⟨w.heap.size + 1 + 1, 5, none⟩ (.slice p4 s.ha.length c4)).setCell ⟨w.heap.size + 1 + 1, 6, none⟩ (.slice p5 s.se.length c5)).heap.size := by simp
      go_wp2_with fail
      clear r0 r1 r2 r3 r4 r5 r6 f0 f1 f2 f3 f4 f5 f6
      generalize ((((((wx.setCell ⟨w.heap.size + 1 + 1, 0, none⟩ (.int .i64 s.fo.num)).setCell ⟨w.heap.size + 1 + 1, 1, none⟩ (.slice p1 s.fo.pol.length c1)).setCell ⟨w.heap.size + 1 + 1, 2, none⟩ (.slice p2 s.fo.rv.length c2)).setCell ⟨w.heap.size + 1 + 1, 3, none⟩ (.int .i64 s.co)).setCell ⟨w.heap.size + 1 + 1, 4, none⟩ (.slice p3 s.ru.length c3)).setCell ⟨w.heap.size + 1 + 1, 5, none⟩ (.slice p4 s.ha.length c4)).setCell ⟨w.heap.size + 1 + 1, 6, none⟩ (.slice p5 s.se.length c5) = W9 at *
      obtain ⟨d0, d1, d2, d3, d4, d5, d6⟩ := G3.c
      exact bodyPost_ret (v := .agg #[.int .i64 s.fo.num, .slice p1 s.fo.pol.length c1, .slice p2 s.fo.rv.length c2, .int .i64 s.co, .slice p3 s.ru.length c3, .slice p4 s.ha.length c4, .slice p5 s.se.length c5]) (by simp [results, Tryz.results18, go_sem, d0, d1, d2, d3, d4, d5, d6]) rfl ⟨_, rfl, by rw [HR.out]; exact O9.mono (by omega) (by omega), pB⟩
    have HR := hid ((tk_op (s := s) (no := no) (ru := ru) (se := se) hA hC).trans (if_pos (by rw [hD, hE, hF]; rfl)))
    have hN : 0 ≤ no ∧ no ≤ 230 := of_decide_eq_true hF
    obtain ⟨n, rfl⟩ := Int.eq_ofNat_of_zero_le hN.1
    rw [Int.toNat_natCast] at HR
    go_upto_region 6 with fail
    obtain ⟨mm, _, _, _, _, _, ee, hm1, hm2, OF, _, _, _, _⟩ := O
    cases ee
    replace OF := OF.mono (Nat.le_refl _) hm2
    have gF : Seven wx.drew _ _ _ _ _ _ _ _ _ := World.ownsRow.drew G
    have gM : Eight wx.drew _ _ _ _ _ _ _ _ _ _ := World.ownsRow.drew GM
    have g2 : Seven wx.drew _ _ _ _ _ _ _ _ _ := World.ownsRow.drew G2
    have gO : SnO wx.drew W0.heap.size w1.heap.size (.agg #[.int .i64 s.fo.num, .slice p1 s.fo.pol.length c1, .slice p2 s.fo.rv.length c2]) s.fo := OF
    have gB : Below w.heap.size w wx.drew := ⟨hBB.os, hBB.tape, hBB.output, hBB.size, hBB.block⟩
    have gs : w1.heap.size ≤ wx.drew.heap.size := hs2
    clear G GM G2 OF hBB hs2 a0 a1 a2 a3 a4 a5 a6 m0 m1 m2 m3 m4 m5 m6 m7
    refine wp_region_held_drew (S := fun W => W.cell? ⟨w.heap.size, 0, none⟩ = some (.int .i64 s.fo.num) ∧ W.cell? ⟨w.heap.size, 1, none⟩ = some (.slice p1 s.fo.pol.length c1) ∧ W.cell? ⟨w.heap.size, 2, none⟩ = some (.slice p2 s.fo.rv.length c2) ∧ W.cell? ⟨w.heap.size + 1, 1, none⟩ = some (.int .i64 ver) ∧ W.cell? ⟨w.heap.size + 1, 2, none⟩ = some (.int .i64 (n : Int))) (by kernel_rfl) (by exact ⟨gF.c.1, gF.c.2.1, gF.c.2.2.1, gM.c.2.1, gM.c.2.2.1⟩) (fun hHeld => ?_)
    generalize wx.drew = We at *
    refine takeW 0 (v := ?v1) rfl (by kernel_rfl) (by kernel_rfl) (by kernel_rfl) (fun _ _ _ h => h) (by rfl) (by assumption) ?hy1 ?rest1
    case hy1 => intro w' hSw; (try dsimp only at hSw); go_simp; try with_reducible rfl
    try simp only [Act.put, List.setIfInBounds_toArray, List.set_cons_zero, List.set_cons_succ]
    refine takeW 1 (v := ?v2) rfl (by kernel_rfl) (by kernel_rfl) (by kernel_rfl) (fun _ _ _ h => h) (by rfl) (by assumption) ?hy2 ?rest2
    case hy2 => intro w' hSw; (try dsimp only at hSw); go_simp; try with_reducible rfl
    try simp only [Act.put, List.setIfInBounds_toArray, List.set_cons_zero, List.set_cons_succ]
    refine takeW 2 (v := ?v3) rfl (by kernel_rfl) (by kernel_rfl) (by kernel_rfl) (fun _ _ _ h => h) (by rfl) (by assumption) ?hy3 ?rest3
    case hy3 => intro w' hSw; (try dsimp only at hSw); go_simp; try with_reducible rfl
    try simp only [Act.put, List.setIfInBounds_toArray, List.set_cons_zero, List.set_cons_succ]
    refine takeW 3 (v := ?v4) rfl (by kernel_rfl) (by kernel_rfl) (by kernel_rfl) (fun _ _ _ h => h) (by rfl) (by assumption) ?hy4 ?rest4
    case hy4 => intro w' hSw; (try dsimp only at hSw); go_simp; try with_reducible rfl
    try simp only [Act.put, List.setIfInBounds_toArray, List.set_cons_zero, List.set_cons_succ]
    refine takeW 4 (v := ?v5) rfl (by kernel_rfl) (by kernel_rfl) (by kernel_rfl) (fun _ _ _ h => h) (by rfl) (by assumption) ?hy5 ?rest5
    case hy5 => intro w' hSw; (try dsimp only at hSw); go_simp; try with_reducible rfl
    try simp only [Act.put, List.setIfInBounds_toArray, List.set_cons_zero, List.set_cons_succ]
    refine takeW 5 (v := ?v6) rfl (by kernel_rfl) (by kernel_rfl) (by kernel_rfl) (fun _ _ _ h => h) (by rfl) (by assumption) ?hy6 ?rest6
    case hy6 => intro w' hSw; (try dsimp only at hSw); go_simp; try with_reducible rfl
    try simp only [Act.put, List.setIfInBounds_toArray, List.set_cons_zero, List.set_cons_succ]
    refine takeW 7 (v := ?v7) rfl (by kernel_rfl) (by kernel_rfl) (by kernel_rfl) (fun _ _ _ h => h) (by rfl) (by assumption) ?hy7 ?rest7
    case hy7 => intro w' hSw; (try dsimp only at hSw); go_simp; try with_reducible rfl
    try simp only [Act.put, List.setIfInBounds_toArray, List.set_cons_zero, List.set_cons_succ]
    refine takeW 8 (v := ?v8) rfl (by kernel_rfl) (by kernel_rfl) (by kernel_rfl) (fun _ _ _ h => h) (by rfl) (by assumption) ?hy8 ?rest8
    case hy8 => intro w' hSw; (try dsimp only at hSw); go_simp; try with_reducible rfl
    try simp only [Act.put, List.setIfInBounds_toArray, List.set_cons_zero, List.set_cons_succ]
    refine takeW 10 (v := ?v9) rfl (by kernel_rfl) (by kernel_rfl) (by kernel_rfl) (fun _ _ _ h => h) (by rfl) (by assumption) ?hy9 ?rest9
    case hy9 => intro w' hSw; (try dsimp only at hSw); go_simp; try with_reducible rfl
    try simp only [Act.put, List.setIfInBounds_toArray, List.set_cons_zero, List.set_cons_succ]
    refine takeW 11 (v := ?v10) rfl (by kernel_rfl) (by kernel_rfl) (by kernel_rfl) (fun _ _ _ h => h) (by rfl) (by assumption) ?hy10 ?rest10
    case hy10 => intro w' hSw; (try dsimp only at hSw); go_simp; try with_reducible rfl
    try simp only [Act.put, List.setIfInBounds_toArray, List.set_cons_zero, List.set_cons_succ]
    refine takeC3 6 9 12 (by kernel_rfl) rfl rfl rfl (fun K hK => ?_) (fun K hK => ?_) (fun K hK => ?_)
    · refine step_make rfl (.tmp 44) (.tmp 44) 23 rfl w1.heap.size 31 iw _ 4 Tryz.underlying23 hiw hw0 hw1 n rfl rfl (by rw [hw2]; omega) (by unfold maxLen; omega) (by omega) ?_; intro Wa qR qR_g; rw [made_r n] at qR; replace gF : Seven Wa _ _ _ _ _ _ _ _ _ := World.ownsRow.kept gF qR_g (.inr (by simp [Value.ownBlock])); replace gM : Eight Wa _ _ _ _ _ _ _ _ _ _ := World.ownsRow.kept gM qR_g (.inr (by simp [Value.ownBlock])); replace g2 : Seven Wa _ _ _ _ _ _ _ _ _ := World.ownsRow.kept g2 qR_g (.inr (by simp [Value.ownBlock])); replace gO := SnO.below gO ⟨qR_g.os, qR_g.tape, qR_g.output, qR_g.size, fun k hk => qR_g.block k hk (by simp)⟩; replace gB := gB.grown qR_g gB.size (fun k e => by simp at e); replace gs := Nat.le_trans gs qR_g.size
      refine hK.out _ _ ?_ (fun hHeld => ?_)
      · exact ⟨gF.c.1, gF.c.2.1, gF.c.2.2.1, gM.c.2.1, gM.c.2.2.1⟩
      clear hK K
      try simp only [Act.put, List.setIfInBounds_toArray, List.set_cons_zero, List.set_cons_succ]
      refine takeC2 9 12 (by kernel_rfl) rfl rfl (fun K hK => ?_) (fun K hK => ?_)
      · refine step_make rfl (.tmp 47) (.tmp 47) 27 rfl w1.heap.size 4 ib _ 1 Tryz.underlying27 hib hb0 hb1 n rfl rfl (by rw [hb2]; omega) (by unfold maxLen; omega) (by omega) ?_; intro Wb qH qH_g; rw [made_b n] at qH; replace gF : Seven Wb _ _ _ _ _ _ _ _ _ := World.ownsRow.kept gF qH_g (.inr (by simp [Value.ownBlock])); replace gM : Eight Wb _ _ _ _ _ _ _ _ _ _ := World.ownsRow.kept gM qH_g (.inr (by simp [Value.ownBlock])); replace g2 : Seven Wb _ _ _ _ _ _ _ _ _ := World.ownsRow.kept g2 qH_g (.inr (by simp [Value.ownBlock])); replace gO := SnO.below gO ⟨qH_g.os, qH_g.tape, qH_g.output, qH_g.size, fun k hk => qH_g.block k hk (by simp)⟩; replace gB := gB.grown qH_g gB.size (fun k e => by simp at e); replace gs := Nat.le_trans gs qH_g.size; replace qR := World.ownsRow.kept qR qH_g (.inr (by simp [Value.ownBlock]))
        refine hK.out _ _ ?_ (fun hHeld => ?_)
        · exact ⟨gF.c.1, gF.c.2.1, gF.c.2.2.1, gM.c.2.1, gM.c.2.2.1⟩
        clear hK K
        try simp only [Act.put, List.setIfInBounds_toArray, List.set_cons_zero, List.set_cons_succ]
        refine takeC 12 (by kernel_rfl) rfl (fun K hK => ?_)
        refine step_make rfl (.tmp 50) (.tmp 50) 24 rfl w1.heap.size 3 ii _ 1 Tryz.underlying24 hii hi0 hi1 n rfl rfl (by rw [hi2]; omega) (by unfold maxLen; omega) (by omega) ?_; intro Wc qN qN_g; rw [made_n n] at qN; replace gF : Seven Wc _ _ _ _ _ _ _ _ _ := World.ownsRow.kept gF qN_g (.inr (by simp [Value.ownBlock])); replace gM : Eight Wc _ _ _ _ _ _ _ _ _ _ := World.ownsRow.kept gM qN_g (.inr (by simp [Value.ownBlock])); replace g2 : Seven Wc _ _ _ _ _ _ _ _ _ := World.ownsRow.kept g2 qN_g (.inr (by simp [Value.ownBlock])); replace gO := SnO.below gO ⟨qN_g.os, qN_g.tape, qN_g.output, qN_g.size, fun k hk => qN_g.block k hk (by simp)⟩; replace gB := gB.grown qN_g gB.size (fun k e => by simp at e); replace gs := Nat.le_trans gs qN_g.size; replace qR := World.ownsRow.kept qR qN_g (.inr (by simp [Value.ownBlock])); replace qH := World.ownsRow.kept qH qN_g (.inr (by simp [Value.ownBlock]))
        refine hK.out _ _ ?_ (fun hHeld => ?_)
        · exact ⟨gF.c.1, gF.c.2.1, gF.c.2.2.1, gM.c.2.1, gM.c.2.2.1⟩
        clear hK K
        try simp only [Act.put, List.setIfInBounds_toArray, List.set_cons_zero, List.set_cons_succ]
        refine takeW 13 (v := ?v11) rfl (by kernel_rfl) (by kernel_rfl) (by kernel_rfl) (fun _ _ _ h => h) (by rfl) (by assumption) ?hy11 ?rest11
        case hy11 => intro w' hSw; (try dsimp only at hSw); go_simp; try with_reducible rfl
        try simp only [Act.put, List.setIfInBounds_toArray, List.set_cons_zero, List.set_cons_succ]
        obtain ⟨r0, r1, r2, r3, r4, r5, r6⟩ := g2.c
        have f0 := g2.f 0
        have f1 := g2.f 1
        have f2 := g2.f 2
        have f3 := g2.f 3
        have f4 := g2.f 4
        have f5 := g2.f 5
        have f6 := g2.f 6
        have gb2 := g2.lt
        have G3 := (((((((g2.s0 (.int .i64 s.fo.num)).s1 (.slice p1 s.fo.pol.length c1)).s2 (.slice p2 s.fo.rv.length c2)).s3 (.int .i64 ver)).s4 (.slice (some ⟨We.heap.size, 0, none⟩) n n)).s5 (.slice (some ⟨Wa.heap.size, 0, none⟩) n n)).s6 (.slice (some ⟨Wb.heap.size, 0, none⟩) n n))
        have pB := below_seven gB (k := w.heap.size + 1 + 1) (by omega) (.int .i64 s.fo.num) (.slice p1 s.fo.pol.length c1) (.slice p2 s.fo.rv.length c2) (.int .i64 ver) (.slice (some ⟨We.heap.size, 0, none⟩) n n) (.slice (some ⟨Wa.heap.size, 0, none⟩) n n) (.slice (some ⟨Wb.heap.size, 0, none⟩) n n)
        have zR := row_seven qR (k := w.heap.size + 1 + 1) (by omega) (.int .i64 s.fo.num) (.slice p1 s.fo.pol.length c1) (.slice p2 s.fo.rv.length c2) (.int .i64 ver) (.slice (some ⟨We.heap.size, 0, none⟩) n n) (.slice (some ⟨Wa.heap.size, 0, none⟩) n n) (.slice (some ⟨Wb.heap.size, 0, none⟩) n n)
        have zH := row_seven qH (k := w.heap.size + 1 + 1) (by omega) (.int .i64 s.fo.num) (.slice p1 s.fo.pol.length c1) (.slice p2 s.fo.rv.length c2) (.int .i64 ver) (.slice (some ⟨We.heap.size, 0, none⟩) n n) (.slice (some ⟨Wa.heap.size, 0, none⟩) n n) (.slice (some ⟨Wb.heap.size, 0, none⟩) n n)
        have zN := row_seven qN (k := w.heap.size + 1 + 1) (by omega) (.int .i64 s.fo.num) (.slice p1 s.fo.pol.length c1) (.slice p2 s.fo.rv.length c2) (.int .i64 ver) (.slice (some ⟨We.heap.size, 0, none⟩) n n) (.slice (some ⟨Wa.heap.size, 0, none⟩) n n) (.slice (some ⟨Wb.heap.size, 0, none⟩) n n)
        obtain ⟨_, _, e9, o1, o2, t1, t2⟩ := gO
        cases e9
        have z1 := row_seven o1 (k := w.heap.size + 1 + 1) (by omega) (.int .i64 s.fo.num) (.slice p1 s.fo.pol.length c1) (.slice p2 s.fo.rv.length c2) (.int .i64 ver) (.slice (some ⟨We.heap.size, 0, none⟩) n n) (.slice (some ⟨Wa.heap.size, 0, none⟩) n n) (.slice (some ⟨Wb.heap.size, 0, none⟩) n n)
        have z2 := row_seven o2 (k := w.heap.size + 1 + 1) (by omega) (.int .i64 s.fo.num) (.slice p1 s.fo.pol.length c1) (.slice p2 s.fo.rv.length c2) (.int .i64 ver) (.slice (some ⟨We.heap.size, 0, none⟩) n n) (.slice (some ⟨Wa.heap.size, 0, none⟩) n n) (.slice (some ⟨Wb.heap.size, 0, none⟩) n n)
        have hse : Wc.heap.size ≤ (((((((Wc.setCell ⟨w.heap.size + 1 + 1, 0, none⟩ (.int .i64 s.fo.num)).setCell ⟨w.heap.size + 1 + 1, 1, none⟩ (.slice p1 s.fo.pol.length c1)).setCell ⟨w.heap.size + 1 + 1, 2, none⟩ (.slice p2 s.fo.rv.length c2)).setCell ⟨w.heap.size + 1 + 1, 3, none⟩ (.int .i64 ver)).setCell ⟨w.heap.size + 1 + 1, 4, none⟩ (.slice (some ⟨We.heap.size, 0, none⟩) n n)).setCell ⟨w.heap.size + 1 + 1, 5, none⟩ (.slice (some ⟨Wa.heap.size, 0, none⟩) n n)).setCell ⟨w.heap.size + 1 + 1, 6, none⟩ (.slice (some ⟨Wb.heap.size, 0, none⟩) n n)).heap.size := by simp
        replace gF := (((((((gF.other (k' := w.heap.size + 1 + 1) (by omega) 0 (.int .i64 s.fo.num)).other (k' := w.heap.size + 1 + 1) (by omega) 1 (.slice p1 s.fo.pol.length c1)).other (k' := w.heap.size + 1 + 1) (by omega) 2 (.slice p2 s.fo.rv.length c2)).other (k' := w.heap.size + 1 + 1) (by omega) 3 (.int .i64 ver)).other (k' := w.heap.size + 1 + 1) (by omega) 4 (.slice (some ⟨We.heap.size, 0, none⟩) n n)).other (k' := w.heap.size + 1 + 1) (by omega) 5 (.slice (some ⟨Wa.heap.size, 0, none⟩) n n)).other (k' := w.heap.size + 1 + 1) (by omega) 6 (.slice (some ⟨Wb.heap.size, 0, none⟩) n n))
        replace gM := (((((((gM.other (k' := w.heap.size + 1 + 1) (by omega) 0 (.int .i64 s.fo.num)).other (k' := w.heap.size + 1 + 1) (by omega) 1 (.slice p1 s.fo.pol.length c1)).other (k' := w.heap.size + 1 + 1) (by omega) 2 (.slice p2 s.fo.rv.length c2)).other (k' := w.heap.size + 1 + 1) (by omega) 3 (.int .i64 ver)).other (k' := w.heap.size + 1 + 1) (by omega) 4 (.slice (some ⟨We.heap.size, 0, none⟩) n n)).other (k' := w.heap.size + 1 + 1) (by omega) 5 (.slice (some ⟨Wa.heap.size, 0, none⟩) n n)).other (k' := w.heap.size + 1 + 1) (by omega) 6 (.slice (some ⟨Wb.heap.size, 0, none⟩) n n))
        refine takeC 14 (by kernel_rfl) rfl (fun K hK => ?_)
        go_simp
        skip
        refine hK.out _ _ ?_ (fun hHeld => ?_)
        · exact ⟨gF.c.1, gF.c.2.1, gF.c.2.2.1, gM.c.2.1, gM.c.2.2.1⟩
        clear hK K
        try simp only [Act.put, List.setIfInBounds_toArray, List.set_cons_zero, List.set_cons_succ]
        refine wpAnyH_done (by kernel_rfl) ?_ _
        go_wp2_with fail
        clear r0 r1 r2 r3 r4 r5 r6 f0 f1 f2 f3 f4 f5 f6 gF gM hHeld
        generalize ((((((Wc.setCell ⟨w.heap.size + 1 + 1, 0, none⟩ (.int .i64 s.fo.num)).setCell ⟨w.heap.size + 1 + 1, 1, none⟩ (.slice p1 s.fo.pol.length c1)).setCell ⟨w.heap.size + 1 + 1, 2, none⟩ (.slice p2 s.fo.rv.length c2)).setCell ⟨w.heap.size + 1 + 1, 3, none⟩ (.int .i64 ver)).setCell ⟨w.heap.size + 1 + 1, 4, none⟩ (.slice (some ⟨We.heap.size, 0, none⟩) n n)).setCell ⟨w.heap.size + 1 + 1, 5, none⟩ (.slice (some ⟨Wa.heap.size, 0, none⟩) n n)).setCell ⟨w.heap.size + 1 + 1, 6, none⟩ (.slice (some ⟨Wb.heap.size, 0, none⟩) n n) = W9 at *
        obtain ⟨d0, d1, d2, d3, d4, d5, d6⟩ := G3.c
        exact bodyPost_ret (v := .agg #[.int .i64 s.fo.num, .slice p1 s.fo.pol.length c1, .slice p2 s.fo.rv.length c2, .int .i64 ver, .slice (some ⟨We.heap.size, 0, none⟩) n n, .slice (some ⟨Wa.heap.size, 0, none⟩) n n, .slice (some ⟨Wb.heap.size, 0, none⟩) n n]) (by simp [results, Tryz.results18, go_sem, d0, d1, d2, d3, d4, d5, d6]) rfl ⟨_, rfl, by rw [HR.out]; exact ⟨w1.heap.size, _, _, _, _, _, rfl, by omega, by omega, ⟨_, _, rfl, Go.Joins.ownsRow_le z1 (by omega), Go.Joins.ownsRow_le z2 (by omega), t1, t2⟩, row_castN zR (by simp [opX]), row_castN zH (by simp [opX]), row_castN zN (by simp [opX]), fun k e => (zR.lt k e).2, fun k e => (zH.lt k e).2, fun k e => (zN.lt k e).2⟩, pB⟩
      · refine step_make rfl (.tmp 50) (.tmp 50) 24 rfl w1.heap.size 3 ii _ 1 Tryz.underlying24 hii hi0 hi1 n rfl rfl (by rw [hi2]; omega) (by unfold maxLen; omega) (by omega) ?_; intro Wb qN qN_g; rw [made_n n] at qN; replace gF : Seven Wb _ _ _ _ _ _ _ _ _ := World.ownsRow.kept gF qN_g (.inr (by simp [Value.ownBlock])); replace gM : Eight Wb _ _ _ _ _ _ _ _ _ _ := World.ownsRow.kept gM qN_g (.inr (by simp [Value.ownBlock])); replace g2 : Seven Wb _ _ _ _ _ _ _ _ _ := World.ownsRow.kept g2 qN_g (.inr (by simp [Value.ownBlock])); replace gO := SnO.below gO ⟨qN_g.os, qN_g.tape, qN_g.output, qN_g.size, fun k hk => qN_g.block k hk (by simp)⟩; replace gB := gB.grown qN_g gB.size (fun k e => by simp at e); replace gs := Nat.le_trans gs qN_g.size; replace qR := World.ownsRow.kept qR qN_g (.inr (by simp [Value.ownBlock]))
        refine hK.out _ _ ?_ (fun hHeld => ?_)
        · exact ⟨gF.c.1, gF.c.2.1, gF.c.2.2.1, gM.c.2.1, gM.c.2.2.1⟩
        clear hK K
        try simp only [Act.put, List.setIfInBounds_toArray, List.set_cons_zero, List.set_cons_succ]
        refine takeC 9 (by kernel_rfl) rfl (fun K hK => ?_)
        refine step_make rfl (.tmp 47) (.tmp 47) 27 rfl w1.heap.size 4 ib _ 1 Tryz.underlying27 hib hb0 hb1 n rfl rfl (by rw [hb2]; omega) (by unfold maxLen; omega) (by omega) ?_; intro Wc qH qH_g; rw [made_b n] at qH; replace gF : Seven Wc _ _ _ _ _ _ _ _ _ := World.ownsRow.kept gF qH_g (.inr (by simp [Value.ownBlock])); replace gM : Eight Wc _ _ _ _ _ _ _ _ _ _ := World.ownsRow.kept gM qH_g (.inr (by simp [Value.ownBlock])); replace g2 : Seven Wc _ _ _ _ _ _ _ _ _ := World.ownsRow.kept g2 qH_g (.inr (by simp [Value.ownBlock])); replace gO := SnO.below gO ⟨qH_g.os, qH_g.tape, qH_g.output, qH_g.size, fun k hk => qH_g.block k hk (by simp)⟩; replace gB := gB.grown qH_g gB.size (fun k e => by simp at e); replace gs := Nat.le_trans gs qH_g.size; replace qR := World.ownsRow.kept qR qH_g (.inr (by simp [Value.ownBlock])); replace qN := World.ownsRow.kept qN qH_g (.inr (by simp [Value.ownBlock]))
        refine hK.out _ _ ?_ (fun hHeld => ?_)
        · exact ⟨gF.c.1, gF.c.2.1, gF.c.2.2.1, gM.c.2.1, gM.c.2.2.1⟩
        clear hK K
        try simp only [Act.put, List.setIfInBounds_toArray, List.set_cons_zero, List.set_cons_succ]
        refine takeW 13 (v := ?v12) rfl (by kernel_rfl) (by kernel_rfl) (by kernel_rfl) (fun _ _ _ h => h) (by rfl) (by assumption) ?hy12 ?rest12
        case hy12 => intro w' hSw; (try dsimp only at hSw); go_simp; try with_reducible rfl
        try simp only [Act.put, List.setIfInBounds_toArray, List.set_cons_zero, List.set_cons_succ]
        obtain ⟨r0, r1, r2, r3, r4, r5, r6⟩ := g2.c
        have f0 := g2.f 0
        have f1 := g2.f 1
        have f2 := g2.f 2
        have f3 := g2.f 3
        have f4 := g2.f 4
        have f5 := g2.f 5
        have f6 := g2.f 6
        have gb2 := g2.lt
        have G3 := (((((((g2.s0 (.int .i64 s.fo.num)).s1 (.slice p1 s.fo.pol.length c1)).s2 (.slice p2 s.fo.rv.length c2)).s3 (.int .i64 ver)).s4 (.slice (some ⟨We.heap.size, 0, none⟩) n n)).s5 (.slice (some ⟨Wb.heap.size, 0, none⟩) n n)).s6 (.slice (some ⟨Wa.heap.size, 0, none⟩) n n))
        have pB := below_seven gB (k := w.heap.size + 1 + 1) (by omega) (.int .i64 s.fo.num) (.slice p1 s.fo.pol.length c1) (.slice p2 s.fo.rv.length c2) (.int .i64 ver) (.slice (some ⟨We.heap.size, 0, none⟩) n n) (.slice (some ⟨Wb.heap.size, 0, none⟩) n n) (.slice (some ⟨Wa.heap.size, 0, none⟩) n n)
        have zR := row_seven qR (k := w.heap.size + 1 + 1) (by omega) (.int .i64 s.fo.num) (.slice p1 s.fo.pol.length c1) (.slice p2 s.fo.rv.length c2) (.int .i64 ver) (.slice (some ⟨We.heap.size, 0, none⟩) n n) (.slice (some ⟨Wb.heap.size, 0, none⟩) n n) (.slice (some ⟨Wa.heap.size, 0, none⟩) n n)
        have zH := row_seven qH (k := w.heap.size + 1 + 1) (by omega) (.int .i64 s.fo.num) (.slice p1 s.fo.pol.length c1) (.slice p2 s.fo.rv.length c2) (.int .i64 ver) (.slice (some ⟨We.heap.size, 0, none⟩) n n) (.slice (some ⟨Wb.heap.size, 0, none⟩) n n) (.slice (some ⟨Wa.heap.size, 0, none⟩) n n)
        have zN := row_seven qN (k := w.heap.size + 1 + 1) (by omega) (.int .i64 s.fo.num) (.slice p1 s.fo.pol.length c1) (.slice p2 s.fo.rv.length c2) (.int .i64 ver) (.slice (some ⟨We.heap.size, 0, none⟩) n n) (.slice (some ⟨Wb.heap.size, 0, none⟩) n n) (.slice (some ⟨Wa.heap.size, 0, none⟩) n n)
        obtain ⟨_, _, e9, o1, o2, t1, t2⟩ := gO
        cases e9
        have z1 := row_seven o1 (k := w.heap.size + 1 + 1) (by omega) (.int .i64 s.fo.num) (.slice p1 s.fo.pol.length c1) (.slice p2 s.fo.rv.length c2) (.int .i64 ver) (.slice (some ⟨We.heap.size, 0, none⟩) n n) (.slice (some ⟨Wb.heap.size, 0, none⟩) n n) (.slice (some ⟨Wa.heap.size, 0, none⟩) n n)
        have z2 := row_seven o2 (k := w.heap.size + 1 + 1) (by omega) (.int .i64 s.fo.num) (.slice p1 s.fo.pol.length c1) (.slice p2 s.fo.rv.length c2) (.int .i64 ver) (.slice (some ⟨We.heap.size, 0, none⟩) n n) (.slice (some ⟨Wb.heap.size, 0, none⟩) n n) (.slice (some ⟨Wa.heap.size, 0, none⟩) n n)
        have hse : Wc.heap.size ≤ (((((((Wc.setCell ⟨w.heap.size + 1 + 1, 0, none⟩ (.int .i64 s.fo.num)).setCell ⟨w.heap.size + 1 + 1, 1, none⟩ (.slice p1 s.fo.pol.length c1)).setCell ⟨w.heap.size + 1 + 1, 2, none⟩ (.slice p2 s.fo.rv.length c2)).setCell ⟨w.heap.size + 1 + 1, 3, none⟩ (.int .i64 ver)).setCell ⟨w.heap.size + 1 + 1, 4, none⟩ (.slice (some ⟨We.heap.size, 0, none⟩) n n)).setCell ⟨w.heap.size + 1 + 1, 5, none⟩ (.slice (some ⟨Wb.heap.size, 0, none⟩) n n)).setCell ⟨w.heap.size + 1 + 1, 6, none⟩ (.slice (some ⟨Wa.heap.size, 0, none⟩) n n)).heap.size := by simp
        replace gF := (((((((gF.other (k' := w.heap.size + 1 + 1) (by omega) 0 (.int .i64 s.fo.num)).other (k' := w.heap.size + 1 + 1) (by omega) 1 (.slice p1 s.fo.pol.length c1)).other (k' := w.heap.size + 1 + 1) (by omega) 2 (.slice p2 s.fo.rv.length c2)).other (k' := w.heap.size + 1 + 1) (by omega) 3 (.int .i64 ver)).other (k' := w.heap.size + 1 + 1) (by omega) 4 (.slice (some ⟨We.heap.size, 0, none⟩) n n)).other (k' := w.heap.size + 1 + 1) (by omega) 5 (.slice (some ⟨Wb.heap.size, 0, none⟩) n n)).other (k' := w.heap.size + 1 + 1) (by omega) 6 (.slice (some ⟨Wa.heap.size, 0, none⟩) n n))
        replace gM := (((((((gM.other (k' := w.heap.size + 1 + 1) (by omega) 0 (.int .i64 s.fo.num)).other (k' := w.heap.size + 1 + 1) (by omega) 1 (.slice p1 s.fo.pol.length c1)).other (k' := w.heap.size + 1 + 1) (by omega) 2 (.slice p2 s.fo.rv.length c2)).other (k' := w.heap.size + 1 + 1) (by omega) 3 (.int .i64 ver)).other (k' := w.heap.size + 1 + 1) (by omega) 4 (.slice (some ⟨We.heap.size, 0, none⟩) n n)).other (k' := w.heap.size + 1 + 1) (by omega) 5 (.slice (some ⟨Wb.heap.size, 0, none⟩) n n)).other (k' := w.heap.size + 1 + 1) (by omega) 6 (.slice (some ⟨Wa.heap.size, 0, none⟩) n n))
        refine takeC 14 (by kernel_rfl) rfl (fun K hK => ?_)
        go_simp
        skip
        refine hK.out _ _ ?_ (fun hHeld => ?_)
        · exact ⟨gF.c.1, gF.c.2.1, gF.c.2.2.1, gM.c.2.1, gM.c.2.2.1⟩
        clear hK K
        try simp only [Act.put, List.setIfInBounds_toArray, List.set_cons_zero, List.set_cons_succ]
        refine wpAnyH_done (by kernel_rfl) ?_ _
        go_wp2_with fail
        clear r0 r1 r2 r3 r4 r5 r6 f0 f1 f2 f3 f4 f5 f6 gF gM hHeld
        generalize ((((((Wc.setCell ⟨w.heap.size + 1 + 1, 0, none⟩ (.int .i64 s.fo.num)).setCell ⟨w.heap.size + 1 + 1, 1, none⟩ (.slice p1 s.fo.pol.length c1)).setCell ⟨w.heap.size + 1 + 1, 2, none⟩ (.slice p2 s.fo.rv.length c2)).setCell ⟨w.heap.size + 1 + 1, 3, none⟩ (.int .i64 ver)).setCell ⟨w.heap.size + 1 + 1, 4, none⟩ (.slice (some ⟨We.heap.size, 0, none⟩) n n)).setCell ⟨w.heap.size + 1 + 1, 5, none⟩ (.slice (some ⟨Wb.heap.size, 0, none⟩) n n)).setCell ⟨w.heap.size + 1 + 1, 6, none⟩ (.slice (some ⟨Wa.heap.size, 0, none⟩) n n) = W9 at *
        obtain ⟨d0, d1, d2, d3, d4, d5, d6⟩ := G3.c
        exact bodyPost_ret (v := .agg #[.int .i64 s.fo.num, .slice p1 s.fo.pol.length c1, .slice p2 s.fo.rv.length c2, .int .i64 ver, .slice (some ⟨We.heap.size, 0, none⟩) n n, .slice (some ⟨Wb.heap.size, 0, none⟩) n n, .slice (some ⟨Wa.heap.size, 0, none⟩) n n]) (by simp [results, Tryz.results18, go_sem, d0, d1, d2, d3, d4, d5, d6]) rfl ⟨_, rfl, by rw [HR.out]; exact ⟨w1.heap.size, _, _, _, _, _, rfl, by omega, by omega, ⟨_, _, rfl, Go.Joins.ownsRow_le z1 (by omega), Go.Joins.ownsRow_le z2 (by omega), t1, t2⟩, row_castN zR (by simp [opX]), row_castN zH (by simp [opX]), row_castN zN (by simp [opX]), fun k e => (zR.lt k e).2, fun k e => (zH.lt k e).2, fun k e => (zN.lt k e).2⟩, pB⟩
    · refine step_make rfl (.tmp 47) (.tmp 47) 27 rfl w1.heap.size 4 ib _ 1 Tryz.underlying27 hib hb0 hb1 n rfl rfl (by rw [hb2]; omega) (by unfold maxLen; omega) (by omega) ?_; intro Wa qH qH_g; rw [made_b n] at qH; replace gF : Seven Wa _ _ _ _ _ _ _ _ _ := World.ownsRow.kept gF qH_g (.inr (by simp [Value.ownBlock])); replace gM : Eight Wa _ _ _ _ _ _ _ _ _ _ := World.ownsRow.kept gM qH_g (.inr (by simp [Value.ownBlock])); replace g2 : Seven Wa _ _ _ _ _ _ _ _ _ := World.ownsRow.kept g2 qH_g (.inr (by simp [Value.ownBlock])); replace gO := SnO.below gO ⟨qH_g.os, qH_g.tape, qH_g.output, qH_g.size, fun k hk => qH_g.block k hk (by simp)⟩; replace gB := gB.grown qH_g gB.size (fun k e => by simp at e); replace gs := Nat.le_trans gs qH_g.size
      refine hK.out _ _ ?_ (fun hHeld => ?_)
      · exact ⟨gF.c.1, gF.c.2.1, gF.c.2.2.1, gM.c.2.1, gM.c.2.2.1⟩
      clear hK K
      try simp only [Act.put, List.setIfInBounds_toArray, List.set_cons_zero, List.set_cons_succ]
      refine takeC2 6 12 (by kernel_rfl) rfl rfl (fun K hK => ?_) (fun K hK => ?_)
      · refine step_make rfl (.tmp 44) (.tmp 44) 23 rfl w1.heap.size 31 iw _ 4 Tryz.underlying23 hiw hw0 hw1 n rfl rfl (by rw [hw2]; omega) (by unfold maxLen; omega) (by omega) ?_; intro Wb qR qR_g; rw [made_r n] at qR; replace gF : Seven Wb _ _ _ _ _ _ _ _ _ := World.ownsRow.kept gF qR_g (.inr (by simp [Value.ownBlock])); replace gM : Eight Wb _ _ _ _ _ _ _ _ _ _ := World.ownsRow.kept gM qR_g (.inr (by simp [Value.ownBlock])); replace g2 : Seven Wb _ _ _ _ _ _ _ _ _ := World.ownsRow.kept g2 qR_g (.inr (by simp [Value.ownBlock])); replace gO := SnO.below gO ⟨qR_g.os, qR_g.tape, qR_g.output, qR_g.size, fun k hk => qR_g.block k hk (by simp)⟩; replace gB := gB.grown qR_g gB.size (fun k e => by simp at e); replace gs := Nat.le_trans gs qR_g.size; replace qH := World.ownsRow.kept qH qR_g (.inr (by simp [Value.ownBlock]))
        refine hK.out _ _ ?_ (fun hHeld => ?_)
        · exact ⟨gF.c.1, gF.c.2.1, gF.c.2.2.1, gM.c.2.1, gM.c.2.2.1⟩
        clear hK K
        try simp only [Act.put, List.setIfInBounds_toArray, List.set_cons_zero, List.set_cons_succ]
        refine takeC 12 (by kernel_rfl) rfl (fun K hK => ?_)
        refine step_make rfl (.tmp 50) (.tmp 50) 24 rfl w1.heap.size 3 ii _ 1 Tryz.underlying24 hii hi0 hi1 n rfl rfl (by rw [hi2]; omega) (by unfold maxLen; omega) (by omega) ?_; intro Wc qN qN_g; rw [made_n n] at qN; replace gF : Seven Wc _ _ _ _ _ _ _ _ _ := World.ownsRow.kept gF qN_g (.inr (by simp [Value.ownBlock])); replace gM : Eight Wc _ _ _ _ _ _ _ _ _ _ := World.ownsRow.kept gM qN_g (.inr (by simp [Value.ownBlock])); replace g2 : Seven Wc _ _ _ _ _ _ _ _ _ := World.ownsRow.kept g2 qN_g (.inr (by simp [Value.ownBlock])); replace gO := SnO.below gO ⟨qN_g.os, qN_g.tape, qN_g.output, qN_g.size, fun k hk => qN_g.block k hk (by simp)⟩; replace gB := gB.grown qN_g gB.size (fun k e => by simp at e); replace gs := Nat.le_trans gs qN_g.size; replace qH := World.ownsRow.kept qH qN_g (.inr (by simp [Value.ownBlock])); replace qR := World.ownsRow.kept qR qN_g (.inr (by simp [Value.ownBlock]))
        refine hK.out _ _ ?_ (fun hHeld => ?_)
        · exact ⟨gF.c.1, gF.c.2.1, gF.c.2.2.1, gM.c.2.1, gM.c.2.2.1⟩
        clear hK K
        try simp only [Act.put, List.setIfInBounds_toArray, List.set_cons_zero, List.set_cons_succ]
        refine takeW 13 (v := ?v13) rfl (by kernel_rfl) (by kernel_rfl) (by kernel_rfl) (fun _ _ _ h => h) (by rfl) (by assumption) ?hy13 ?rest13
        case hy13 => intro w' hSw; (try dsimp only at hSw); go_simp; try with_reducible rfl
        try simp only [Act.put, List.setIfInBounds_toArray, List.set_cons_zero, List.set_cons_succ]
        obtain ⟨r0, r1, r2, r3, r4, r5, r6⟩ := g2.c
        have f0 := g2.f 0
        have f1 := g2.f 1
        have f2 := g2.f 2
        have f3 := g2.f 3
        have f4 := g2.f 4
        have f5 := g2.f 5
        have f6 := g2.f 6
        have gb2 := g2.lt
        have G3 := (((((((g2.s0 (.int .i64 s.fo.num)).s1 (.slice p1 s.fo.pol.length c1)).s2 (.slice p2 s.fo.rv.length c2)).s3 (.int .i64 ver)).s4 (.slice (some ⟨Wa.heap.size, 0, none⟩) n n)).s5 (.slice (some ⟨We.heap.size, 0, none⟩) n n)).s6 (.slice (some ⟨Wb.heap.size, 0, none⟩) n n))
        have pB := below_seven gB (k := w.heap.size + 1 + 1) (by omega) (.int .i64 s.fo.num) (.slice p1 s.fo.pol.length c1) (.slice p2 s.fo.rv.length c2) (.int .i64 ver) (.slice (some ⟨Wa.heap.size, 0, none⟩) n n) (.slice (some ⟨We.heap.size, 0, none⟩) n n) (.slice (some ⟨Wb.heap.size, 0, none⟩) n n)
        have zR := row_seven qR (k := w.heap.size + 1 + 1) (by omega) (.int .i64 s.fo.num) (.slice p1 s.fo.pol.length c1) (.slice p2 s.fo.rv.length c2) (.int .i64 ver) (.slice (some ⟨Wa.heap.size, 0, none⟩) n n) (.slice (some ⟨We.heap.size, 0, none⟩) n n) (.slice (some ⟨Wb.heap.size, 0, none⟩) n n)
        have zH := row_seven qH (k := w.heap.size + 1 + 1) (by omega) (.int .i64 s.fo.num) (.slice p1 s.fo.pol.length c1) (.slice p2 s.fo.rv.length c2) (.int .i64 ver) (.slice (some ⟨Wa.heap.size, 0, none⟩) n n) (.slice (some ⟨We.heap.size, 0, none⟩) n n) (.slice (some ⟨Wb.heap.size, 0, none⟩) n n)
        have zN := row_seven qN (k := w.heap.size + 1 + 1) (by omega) (.int .i64 s.fo.num) (.slice p1 s.fo.pol.length c1) (.slice p2 s.fo.rv.length c2) (.int .i64 ver) (.slice (some ⟨Wa.heap.size, 0, none⟩) n n) (.slice (some ⟨We.heap.size, 0, none⟩) n n) (.slice (some ⟨Wb.heap.size, 0, none⟩) n n)
        obtain ⟨_, _, e9, o1, o2, t1, t2⟩ := gO
        cases e9
        have z1 := row_seven o1 (k := w.heap.size + 1 + 1) (by omega) (.int .i64 s.fo.num) (.slice p1 s.fo.pol.length c1) (.slice p2 s.fo.rv.length c2) (.int .i64 ver) (.slice (some ⟨Wa.heap.size, 0, none⟩) n n) (.slice (some ⟨We.heap.size, 0, none⟩) n n) (.slice (some ⟨Wb.heap.size, 0, none⟩) n n)
        have z2 := row_seven o2 (k := w.heap.size + 1 + 1) (by omega) (.int .i64 s.fo.num) (.slice p1 s.fo.pol.length c1) (.slice p2 s.fo.rv.length c2) (.int .i64 ver) (.slice (some ⟨Wa.heap.size, 0, none⟩) n n) (.slice (some ⟨We.heap.size, 0, none⟩) n n) (.slice (some ⟨Wb.heap.size, 0, none⟩) n n)
        have hse : Wc.heap.size ≤ (((((((Wc.setCell ⟨w.heap.size + 1 + 1, 0, none⟩ (.int .i64 s.fo.num)).setCell ⟨w.heap.size + 1 + 1, 1, none⟩ (.slice p1 s.fo.pol.length c1)).setCell ⟨w.heap.size + 1 + 1, 2, none⟩ (.slice p2 s.fo.rv.length c2)).setCell ⟨w.heap.size + 1 + 1, 3, none⟩ (.int .i64 ver)).setCell ⟨w.heap.size + 1 + 1, 4, none⟩ (.slice (some ⟨Wa.heap.size, 0, none⟩) n n)).setCell ⟨w.heap.size + 1 + 1, 5, none⟩ (.slice (some ⟨We.heap.size, 0, none⟩) n n)).setCell ⟨w.heap.size + 1 + 1, 6, none⟩ (.slice (some ⟨Wb.heap.size, 0, none⟩) n n)).heap.size := by simp
        replace gF := (((((((gF.other (k' := w.heap.size + 1 + 1) (by omega) 0 (.int .i64 s.fo.num)).other (k' := w.heap.size + 1 + 1) (by omega) 1 (.slice p1 s.fo.pol.length c1)).other (k' := w.heap.size + 1 + 1) (by omega) 2 (.slice p2 s.fo.rv.length c2)).other (k' := w.heap.size + 1 + 1) (by omega) 3 (.int .i64 ver)).other (k' := w.heap.size + 1 + 1) (by omega) 4 (.slice (some ⟨Wa.heap.size, 0, none⟩) n n)).other (k' := w.heap.size + 1 + 1) (by omega) 5 (.slice (some ⟨We.heap.size, 0, none⟩) n n)).other (k' := w.heap.size + 1 + 1) (by omega) 6 (.slice (some ⟨Wb.heap.size, 0, none⟩) n n))
        replace gM := (((((((gM.other (k' := w.heap.size + 1 + 1) (by omega) 0 (.int .i64 s.fo.num)).other (k' := w.heap.size + 1 + 1) (by omega) 1 (.slice p1 s.fo.pol.length c1)).other (k' := w.heap.size + 1 + 1) (by omega) 2 (.slice p2 s.fo.rv.length c2)).other (k' := w.heap.size + 1 + 1) (by omega) 3 (.int .i64 ver)).other (k' := w.heap.size + 1 + 1) (by omega) 4 (.slice (some ⟨Wa.heap.size, 0, none⟩) n n)).other (k' := w.heap.size + 1 + 1) (by omega) 5 (.slice (some ⟨We.heap.size, 0, none⟩) n n)).other (k' := w.heap.size + 1 + 1) (by omega) 6 (.slice (some ⟨Wb.heap.size, 0, none⟩) n n))
        refine takeC 14 (by kernel_rfl) rfl (fun K hK => ?_)
        go_simp
        skip
        refine hK.out _ _ ?_ (fun hHeld => ?_)
        · exact ⟨gF.c.1, gF.c.2.1, gF.c.2.2.1, gM.c.2.1, gM.c.2.2.1⟩
        clear hK K
        try simp only [Act.put, List.setIfInBounds_toArray, List.set_cons_zero, List.set_cons_succ]
        refine wpAnyH_done (by kernel_rfl) ?_ _
        go_wp2_with fail
        clear r0 r1 r2 r3 r4 r5 r6 f0 f1 f2 f3 f4 f5 f6 gF gM hHeld
        generalize ((((((Wc.setCell ⟨w.heap.size + 1 + 1, 0, none⟩ (.int .i64 s.fo.num)).setCell ⟨w.heap.size + 1 + 1, 1, none⟩ (.slice p1 s.fo.pol.length c1)).setCell ⟨w.heap.size + 1 + 1, 2, none⟩ (.slice p2 s.fo.rv.length c2)).setCell ⟨w.heap.size + 1 + 1, 3, none⟩ (.int .i64 ver)).setCell ⟨w.heap.size + 1 + 1, 4, none⟩ (.slice (some ⟨Wa.heap.size, 0, none⟩) n n)).setCell ⟨w.heap.size + 1 + 1, 5, none⟩ (.slice (some ⟨We.heap.size, 0, none⟩) n n)).setCell ⟨w.heap.size + 1 + 1, 6, none⟩ (.slice (some ⟨Wb.heap.size, 0, none⟩) n n) = W9 at *
        obtain ⟨d0, d1, d2, d3, d4, d5, d6⟩ := G3.c
        exact bodyPost_ret (v := .agg #[.int .i64 s.fo.num, .slice p1 s.fo.pol.length c1, .slice p2 s.fo.rv.length c2, .int .i64 ver, .slice (some ⟨Wa.heap.size, 0, none⟩) n n, .slice (some ⟨We.heap.size, 0, none⟩) n n, .slice (some ⟨Wb.heap.size, 0, none⟩) n n]) (by simp [results, Tryz.results18, go_sem, d0, d1, d2, d3, d4, d5, d6]) rfl ⟨_, rfl, by rw [HR.out]; exact ⟨w1.heap.size, _, _, _, _, _, rfl, by omega, by omega, ⟨_, _, rfl, Go.Joins.ownsRow_le z1 (by omega), Go.Joins.ownsRow_le z2 (by omega), t1, t2⟩, row_castN zR (by simp [opX]), row_castN zH (by simp [opX]), row_castN zN (by simp [opX]), fun k e => (zR.lt k e).2, fun k e => (zH.lt k e).2, fun k e => (zN.lt k e).2⟩, pB⟩
      · refine step_make rfl (.tmp 50) (.tmp 50) 24 rfl w1.heap.size 3 ii _ 1 Tryz.underlying24 hii hi0 hi1 n rfl rfl (by rw [hi2]; omega) (by unfold maxLen; omega) (by omega) ?_; intro Wb qN qN_g; rw [made_n n] at qN; replace gF : Seven Wb _ _ _ _ _ _ _ _ _ := World.ownsRow.kept gF qN_g (.inr (by simp [Value.ownBlock])); replace gM : Eight Wb _ _ _ _ _ _ _ _ _ _ := World.ownsRow.kept gM qN_g (.inr (by simp [Value.ownBlock])); replace g2 : Seven Wb _ _ _ _ _ _ _ _ _ := World.ownsRow.kept g2 qN_g (.inr (by simp [Value.ownBlock])); replace gO := SnO.below gO ⟨qN_g.os, qN_g.tape, qN_g.output, qN_g.size, fun k hk => qN_g.block k hk (by simp)⟩; replace gB := gB.grown qN_g gB.size (fun k e => by simp at e); replace gs := Nat.le_trans gs qN_g.size; replace qH := World.ownsRow.kept qH qN_g (.inr (by simp [Value.ownBlock]))
        refine hK.out _ _ ?_ (fun hHeld => ?_)
        · exact ⟨gF.c.1, gF.c.2.1, gF.c.2.2.1, gM.c.2.1, gM.c.2.2.1⟩
        clear hK K
        try simp only [Act.put, List.setIfInBounds_toArray, List.set_cons_zero, List.set_cons_succ]
        refine takeC 6 (by kernel_rfl) rfl (fun K hK => ?_)
        refine step_make rfl (.tmp 44) (.tmp 44) 23 rfl w1.heap.size 31 iw _ 4 Tryz.underlying23 hiw hw0 hw1 n rfl rfl (by rw [hw2]; omega) (by unfold maxLen; omega) (by omega) ?_; intro Wc qR qR_g; rw [made_r n] at qR; replace gF : Seven Wc _ _ _ _ _ _ _ _ _ := World.ownsRow.kept gF qR_g (.inr (by simp [Value.ownBlock])); replace gM : Eight Wc _ _ _ _ _ _ _ _ _ _ := World.ownsRow.kept gM qR_g (.inr (by simp [Value.ownBlock])); replace g2 : Seven Wc _ _ _ _ _ _ _ _ _ := World.ownsRow.kept g2 qR_g (.inr (by simp [Value.ownBlock])); replace gO := SnO.below gO ⟨qR_g.os, qR_g.tape, qR_g.output, qR_g.size, fun k hk => qR_g.block k hk (by simp)⟩; replace gB := gB.grown qR_g gB.size (fun k e => by simp at e); replace gs := Nat.le_trans gs qR_g.size; replace qH := World.ownsRow.kept qH qR_g (.inr (by simp [Value.ownBlock])); replace qN := World.ownsRow.kept qN qR_g (.inr (by simp [Value.ownBlock]))
        refine hK.out _ _ ?_ (fun hHeld => ?_)
        · exact ⟨gF.c.1, gF.c.2.1, gF.c.2.2.1, gM.c.2.1, gM.c.2.2.1⟩
        clear hK K
        try simp only [Act.put, List.setIfInBounds_toArray, List.set_cons_zero, List.set_cons_succ]
        refine takeW 13 (v := ?v14) rfl (by kernel_rfl) (by kernel_rfl) (by kernel_rfl) (fun _ _ _ h => h) (by rfl) (by assumption) ?hy14 ?rest14
        case hy14 => intro w' hSw; (try dsimp only at hSw); go_simp; try with_reducible rfl
        try simp only [Act.put, List.setIfInBounds_toArray, List.set_cons_zero, List.set_cons_succ]
        obtain ⟨r0, r1, r2, r3, r4, r5, r6⟩ := g2.c
        have f0 := g2.f 0
        have f1 := g2.f 1
        have f2 := g2.f 2
        have f3 := g2.f 3
        have f4 := g2.f 4
        have f5 := g2.f 5
        have f6 := g2.f 6
        have gb2 := g2.lt
        have G3 := (((((((g2.s0 (.int .i64 s.fo.num)).s1 (.slice p1 s.fo.pol.length c1)).s2 (.slice p2 s.fo.rv.length c2)).s3 (.int .i64 ver)).s4 (.slice (some ⟨Wb.heap.size, 0, none⟩) n n)).s5 (.slice (some ⟨We.heap.size, 0, none⟩) n n)).s6 (.slice (some ⟨Wa.heap.size, 0, none⟩) n n))
        have pB := below_seven gB (k := w.heap.size + 1 + 1) (by omega) (.int .i64 s.fo.num) (.slice p1 s.fo.pol.length c1) (.slice p2 s.fo.rv.length c2) (.int .i64 ver) (.slice (some ⟨Wb.heap.size, 0, none⟩) n n) (.slice (some ⟨We.heap.size, 0, none⟩) n n) (.slice (some ⟨Wa.heap.size, 0, none⟩) n n)
        have zR := row_seven qR (k := w.heap.size + 1 + 1) (by omega) (.int .i64 s.fo.num) (.slice p1 s.fo.pol.length c1) (.slice p2 s.fo.rv.length c2) (.int .i64 ver) (.slice (some ⟨Wb.heap.size, 0, none⟩) n n) (.slice (some ⟨We.heap.size, 0, none⟩) n n) (.slice (some ⟨Wa.heap.size, 0, none⟩) n n)
        have zH := row_seven qH (k := w.heap.size + 1 + 1) (by omega) (.int .i64 s.fo.num) (.slice p1 s.fo.pol.length c1) (.slice p2 s.fo.rv.length c2) (.int .i64 ver) (.slice (some ⟨Wb.heap.size, 0, none⟩) n n) (.slice (some ⟨We.heap.size, 0, none⟩) n n) (.slice (some ⟨Wa.heap.size, 0, none⟩) n n)
        have zN := row_seven qN (k := w.heap.size + 1 + 1) (by omega) (.int .i64 s.fo.num) (.slice p1 s.fo.pol.length c1) (.slice p2 s.fo.rv.length c2) (.int .i64 ver) (.slice (some ⟨Wb.heap.size, 0, none⟩) n n) (.slice (some ⟨We.heap.size, 0, none⟩) n n) (.slice (some ⟨Wa.heap.size, 0, none⟩) n n)
        obtain ⟨_, _, e9, o1, o2, t1, t2⟩ := gO
        cases e9
        have z1 := row_seven o1 (k := w.heap.size + 1 + 1) (by omega) (.int .i64 s.fo.num) (.slice p1 s.fo.pol.length c1) (.slice p2 s.fo.rv.length c2) (.int .i64 ver) (.slice (some ⟨Wb.heap.size, 0, none⟩) n n) (.slice (some ⟨We.heap.size, 0, none⟩) n n) (.slice (some ⟨Wa.heap.size, 0, none⟩) n n)
        have z2 := row_seven o2 (k := w.heap.size + 1 + 1) (by omega) (.int .i64 s.fo.num) (.slice p1 s.fo.pol.length c1) (.slice p2 s.fo.rv.length c2) (.int .i64 ver) (.slice (some ⟨Wb.heap.size, 0, none⟩) n n) (.slice (some ⟨We.heap.size, 0, none⟩) n n) (.slice (some ⟨Wa.heap.size, 0, none⟩) n n)
        have hse : Wc.heap.size ≤ (((((((Wc.setCell ⟨w.heap.size + 1 + 1, 0, none⟩ (.int .i64 s.fo.num)).setCell ⟨w.heap.size + 1 + 1, 1, none⟩ (.slice p1 s.fo.pol.length c1)).setCell ⟨w.heap.size + 1 + 1, 2, none⟩ (.slice p2 s.fo.rv.length c2)).setCell ⟨w.heap.size + 1 + 1, 3, none⟩ (.int .i64 ver)).setCell ⟨w.heap.size + 1 + 1, 4, none⟩ (.slice (some ⟨Wb.heap.size, 0, none⟩) n n)).setCell ⟨w.heap.size + 1 + 1, 5, none⟩ (.slice (some ⟨We.heap.size, 0, none⟩) n n)).setCell ⟨w.heap.size + 1 + 1, 6, none⟩ (.slice (some ⟨Wa.heap.size, 0, none⟩) n n)).heap.size := by simp
        replace gF := (((((((gF.other (k' := w.heap.size + 1 + 1) (by omega) 0 (.int .i64 s.fo.num)).other (k' := w.heap.size + 1 + 1) (by omega) 1 (.slice p1 s.fo.pol.length c1)).other (k' := w.heap.size + 1 + 1) (by omega) 2 (.slice p2 s.fo.rv.length c2)).other (k' := w.heap.size + 1 + 1) (by omega) 3 (.int .i64 ver)).other (k' := w.heap.size + 1 + 1) (by omega) 4 (.slice (some ⟨Wb.heap.size, 0, none⟩) n n)).other (k' := w.heap.size + 1 + 1) (by omega) 5 (.slice (some ⟨We.heap.size, 0, none⟩) n n)).other (k' := w.heap.size + 1 + 1) (by omega) 6 (.slice (some ⟨Wa.heap.size, 0, none⟩) n n))
        replace gM := (((((((gM.other (k' := w.heap.size + 1 + 1) (by omega) 0 (.int .i64 s.fo.num)).other (k' := w.heap.size + 1 + 1) (by omega) 1 (.slice p1 s.fo.pol.length c1)).other (k' := w.heap.size + 1 + 1) (by omega) 2 (.slice p2 s.fo.rv.length c2)).other (k' := w.heap.size + 1 + 1) (by omega) 3 (.int .i64 ver)).other (k' := w.heap.size + 1 + 1) (by omega) 4 (.slice (some ⟨Wb.heap.size, 0, none⟩) n n)).other (k' := w.heap.size + 1 + 1) (by omega) 5 (.slice (some ⟨We.heap.size, 0, none⟩) n n)).other (k' := w.heap.size + 1 + 1) (by omega) 6 (.slice (some ⟨Wa.heap.size, 0, none⟩) n n))
        refine takeC 14 (by kernel_rfl) rfl (fun K hK => ?_)
        go_simp
        skip
        refine hK.out _ _ ?_ (fun hHeld => ?_)
        · exact ⟨gF.c.1, gF.c.2.1, gF.c.2.2.1, gM.c.2.1, gM.c.2.2.1⟩
        clear hK K
        try simp only [Act.put, List.setIfInBounds_toArray, List.set_cons_zero, List.set_cons_succ]
        refine wpAnyH_done (by kernel_rfl) ?_ _
        go_wp2_with fail
        clear r0 r1 r2 r3 r4 r5 r6 f0 f1 f2 f3 f4 f5 f6 gF gM hHeld
        generalize ((((((Wc.setCell ⟨w.heap.size + 1 + 1, 0, none⟩ (.int .i64 s.fo.num)).setCell ⟨w.heap.size + 1 + 1, 1, none⟩ (.slice p1 s.fo.pol.length c1)).setCell ⟨w.heap.size + 1 + 1, 2, none⟩ (.slice p2 s.fo.rv.length c2)).setCell ⟨w.heap.size + 1 + 1, 3, none⟩ (.int .i64 ver)).setCell ⟨w.heap.size + 1 + 1, 4, none⟩ (.slice (some ⟨Wb.heap.size, 0, none⟩) n n)).setCell ⟨w.heap.size + 1 + 1, 5, none⟩ (.slice (some ⟨We.heap.size, 0, none⟩) n n)).setCell ⟨w.heap.size + 1 + 1, 6, none⟩ (.slice (some ⟨Wa.heap.size, 0, none⟩) n n) = W9 at *
        obtain ⟨d0, d1, d2, d3, d4, d5, d6⟩ := G3.c
        exact bodyPost_ret (v := .agg #[.int .i64 s.fo.num, .slice p1 s.fo.pol.length c1, .slice p2 s.fo.rv.length c2, .int .i64 ver, .slice (some ⟨Wb.heap.size, 0, none⟩) n n, .slice (some ⟨We.heap.size, 0, none⟩) n n, .slice (some ⟨Wa.heap.size, 0, none⟩) n n]) (by simp [results, Tryz.results18, go_sem, d0, d1, d2, d3, d4, d5, d6]) rfl ⟨_, rfl, by rw [HR.out]; exact ⟨w1.heap.size, _, _, _, _, _, rfl, by omega, by omega, ⟨_, _, rfl, Go.Joins.ownsRow_le z1 (by omega), Go.Joins.ownsRow_le z2 (by omega), t1, t2⟩, row_castN zR (by simp [opX]), row_castN zH (by simp [opX]), row_castN zN (by simp [opX]), fun k e => (zR.lt k e).2, fun k e => (zH.lt k e).2, fun k e => (zN.lt k e).2⟩, pB⟩
    · refine step_make rfl (.tmp 50) (.tmp 50) 24 rfl w1.heap.size 3 ii _ 1 Tryz.underlying24 hii hi0 hi1 n rfl rfl (by rw [hi2]; omega) (by unfold maxLen; omega) (by omega) ?_; intro Wa qN qN_g; rw [made_n n] at qN; replace gF : Seven Wa _ _ _ _ _ _ _ _ _ := World.ownsRow.kept gF qN_g (.inr (by simp [Value.ownBlock])); replace gM : Eight Wa _ _ _ _ _ _ _ _ _ _ := World.ownsRow.kept gM qN_g (.inr (by simp [Value.ownBlock])); replace g2 : Seven Wa _ _ _ _ _ _ _ _ _ := World.ownsRow.kept g2 qN_g (.inr (by simp [Value.ownBlock])); replace gO := SnO.below gO ⟨qN_g.os, qN_g.tape, qN_g.output, qN_g.size, fun k hk => qN_g.block k hk (by simp)⟩; replace gB := gB.grown qN_g gB.size (fun k e => by simp at e); replace gs := Nat.le_trans gs qN_g.size
      refine hK.out _ _ ?_ (fun hHeld => ?_)
      · exact ⟨gF.c.1, gF.c.2.1, gF.c.2.2.1, gM.c.2.1, gM.c.2.2.1⟩
      clear hK K
      try simp only [Act.put, List.setIfInBounds_toArray, List.set_cons_zero, List.set_cons_succ]
      refine takeC2 6 9 (by kernel_rfl) rfl rfl (fun K hK => ?_) (fun K hK => ?_)
      · refine step_make rfl (.tmp 44) (.tmp 44) 23 rfl w1.heap.size 31 iw _ 4 Tryz.underlying23 hiw hw0 hw1 n rfl rfl (by rw [hw2]; omega) (by unfold maxLen; omega) (by omega) ?_; intro Wb qR qR_g; rw [made_r n] at qR; replace gF : Seven Wb _ _ _ _ _ _ _ _ _ := World.ownsRow.kept gF qR_g (.inr (by simp [Value.ownBlock])); replace gM : Eight Wb _ _ _ _ _ _ _ _ _ _ := World.ownsRow.kept gM qR_g (.inr (by simp [Value.ownBlock])); replace g2 : Seven Wb _ _ _ _ _ _ _ _ _ := World.ownsRow.kept g2 qR_g (.inr (by simp [Value.ownBlock])); replace gO := SnO.below gO ⟨qR_g.os, qR_g.tape, qR_g.output, qR_g.size, fun k hk => qR_g.block k hk (by simp)⟩; replace gB := gB.grown qR_g gB.size (fun k e => by simp at e); replace gs := Nat.le_trans gs qR_g.size; replace qN := World.ownsRow.kept qN qR_g (.inr (by simp [Value.ownBlock]))
        refine hK.out _ _ ?_ (fun hHeld => ?_)
        · exact ⟨gF.c.1, gF.c.2.1, gF.c.2.2.1, gM.c.2.1, gM.c.2.2.1⟩
        clear hK K
        try simp only [Act.put, List.setIfInBounds_toArray, List.set_cons_zero, List.set_cons_succ]
        refine takeC 9 (by kernel_rfl) rfl (fun K hK => ?_)
        refine step_make rfl (.tmp 47) (.tmp 47) 27 rfl w1.heap.size 4 ib _ 1 Tryz.underlying27 hib hb0 hb1 n rfl rfl (by rw [hb2]; omega) (by unfold maxLen; omega) (by omega) ?_; intro Wc qH qH_g; rw [made_b n] at qH; replace gF : Seven Wc _ _ _ _ _ _ _ _ _ := World.ownsRow.kept gF qH_g (.inr (by simp [Value.ownBlock])); replace gM : Eight Wc _ _ _ _ _ _ _ _ _ _ := World.ownsRow.kept gM qH_g (.inr (by simp [Value.ownBlock])); replace g2 : Seven Wc _ _ _ _ _ _ _ _ _ := World.ownsRow.kept g2 qH_g (.inr (by simp [Value.ownBlock])); replace gO := SnO.below gO ⟨qH_g.os, qH_g.tape, qH_g.output, qH_g.size, fun k hk => qH_g.block k hk (by simp)⟩; replace gB := gB.grown qH_g gB.size (fun k e => by simp at e); replace gs := Nat.le_trans gs qH_g.size; replace qN := World.ownsRow.kept qN qH_g (.inr (by simp [Value.ownBlock])); replace qR := World.ownsRow.kept qR qH_g (.inr (by simp [Value.ownBlock]))
        refine hK.out _ _ ?_ (fun hHeld => ?_)
        · exact ⟨gF.c.1, gF.c.2.1, gF.c.2.2.1, gM.c.2.1, gM.c.2.2.1⟩
        clear hK K
        try simp only [Act.put, List.setIfInBounds_toArray, List.set_cons_zero, List.set_cons_succ]
        refine takeW 13 (v := ?v15) rfl (by kernel_rfl) (by kernel_rfl) (by kernel_rfl) (fun _ _ _ h => h) (by rfl) (by assumption) ?hy15 ?rest15
        case hy15 => intro w' hSw; (try dsimp only at hSw); go_simp; try with_reducible rfl
        try simp only [Act.put, List.setIfInBounds_toArray, List.set_cons_zero, List.set_cons_succ]
        obtain ⟨r0, r1, r2, r3, r4, r5, r6⟩ := g2.c
        have f0 := g2.f 0
        have f1 := g2.f 1
        have f2 := g2.f 2
        have f3 := g2.f 3
        have f4 := g2.f 4
        have f5 := g2.f 5
        have f6 := g2.f 6
        have gb2 := g2.lt
        have G3 := (((((((g2.s0 (.int .i64 s.fo.num)).s1 (.slice p1 s.fo.pol.length c1)).s2 (.slice p2 s.fo.rv.length c2)).s3 (.int .i64 ver)).s4 (.slice (some ⟨Wa.heap.size, 0, none⟩) n n)).s5 (.slice (some ⟨Wb.heap.size, 0, none⟩) n n)).s6 (.slice (some ⟨We.heap.size, 0, none⟩) n n))
        have pB := below_seven gB (k := w.heap.size + 1 + 1) (by omega) (.int .i64 s.fo.num) (.slice p1 s.fo.pol.length c1) (.slice p2 s.fo.rv.length c2) (.int .i64 ver) (.slice (some ⟨Wa.heap.size, 0, none⟩) n n) (.slice (some ⟨Wb.heap.size, 0, none⟩) n n) (.slice (some ⟨We.heap.size, 0, none⟩) n n)
        have zR := row_seven qR (k := w.heap.size + 1 + 1) (by omega) (.int .i64 s.fo.num) (.slice p1 s.fo.pol.length c1) (.slice p2 s.fo.rv.length c2) (.int .i64 ver) (.slice (some ⟨Wa.heap.size, 0, none⟩) n n) (.slice (some ⟨Wb.heap.size, 0, none⟩) n n) (.slice (some ⟨We.heap.size, 0, none⟩) n n)
        have zH := row_seven qH (k := w.heap.size + 1 + 1) (by omega) (.int .i64 s.fo.num) (.slice p1 s.fo.pol.length c1) (.slice p2 s.fo.rv.length c2) (.int .i64 ver) (.slice (some ⟨Wa.heap.size, 0, none⟩) n n) (.slice (some ⟨Wb.heap.size, 0, none⟩) n n) (.slice (some ⟨We.heap.size, 0, none⟩) n n)
        have zN := row_seven qN (k := w.heap.size + 1 + 1) (by omega) (.int .i64 s.fo.num) (.slice p1 s.fo.pol.length c1) (.slice p2 s.fo.rv.length c2) (.int .i64 ver) (.slice (some ⟨Wa.heap.size, 0, none⟩) n n) (.slice (some ⟨Wb.heap.size, 0, none⟩) n n) (.slice (some ⟨We.heap.size, 0, none⟩) n n)
        obtain ⟨_, _, e9, o1, o2, t1, t2⟩ := gO
        cases e9
        have z1 := row_seven o1 (k := w.heap.size + 1 + 1) (by omega) (.int .i64 s.fo.num) (.slice p1 s.fo.pol.length c1) (.slice p2 s.fo.rv.length c2) (.int .i64 ver) (.slice (some ⟨Wa.heap.size, 0, none⟩) n n) (.slice (some ⟨Wb.heap.size, 0, none⟩) n n) (.slice (some ⟨We.heap.size, 0, none⟩) n n)
        have z2 := row_seven o2 (k := w.heap.size + 1 + 1) (by omega) (.int .i64 s.fo.num) (.slice p1 s.fo.pol.length c1) (.slice p2 s.fo.rv.length c2) (.int .i64 ver) (.slice (some ⟨Wa.heap.size, 0, none⟩) n n) (.slice (some ⟨Wb.heap.size, 0, none⟩) n n) (.slice (some ⟨We.heap.size, 0, none⟩) n n)
        have hse : Wc.heap.size ≤ (((((((Wc.setCell ⟨w.heap.size + 1 + 1, 0, none⟩ (.int .i64 s.fo.num)).setCell ⟨w.heap.size + 1 + 1, 1, none⟩ (.slice p1 s.fo.pol.length c1)).setCell ⟨w.heap.size + 1 + 1, 2, none⟩ (.slice p2 s.fo.rv.length c2)).setCell ⟨w.heap.size + 1 + 1, 3, none⟩ (.int .i64 ver)).setCell ⟨w.heap.size + 1 + 1, 4, none⟩ (.slice (some ⟨Wa.heap.size, 0, none⟩) n n)).setCell ⟨w.heap.size + 1 + 1, 5, none⟩ (.slice (some ⟨Wb.heap.size, 0, none⟩) n n)).setCell ⟨w.heap.size + 1 + 1, 6, none⟩ (.slice (some ⟨We.heap.size, 0, none⟩) n n)).heap.size := by simp
        replace gF := (((((((gF.other (k' := w.heap.size + 1 + 1) (by omega) 0 (.int .i64 s.fo.num)).other (k' := w.heap.size + 1 + 1) (by omega) 1 (.slice p1 s.fo.pol.length c1)).other (k' := w.heap.size + 1 + 1) (by omega) 2 (.slice p2 s.fo.rv.length c2)).other (k' := w.heap.size + 1 + 1) (by omega) 3 (.int .i64 ver)).other (k' := w.heap.size + 1 + 1) (by omega) 4 (.slice (some ⟨Wa.heap.size, 0, none⟩) n n)).other (k' := w.heap.size + 1 + 1) (by omega) 5 (.slice (some ⟨Wb.heap.size, 0, none⟩) n n)).other (k' := w.heap.size + 1 + 1) (by omega) 6 (.slice (some ⟨We.heap.size, 0, none⟩) n n))
        replace gM := (((((((gM.other (k' := w.heap.size + 1 + 1) (by omega) 0 (.int .i64 s.fo.num)).other (k' := w.heap.size + 1 + 1) (by omega) 1 (.slice p1 s.fo.pol.length c1)).other (k' := w.heap.size + 1 + 1) (by omega) 2 (.slice p2 s.fo.rv.length c2)).other (k' := w.heap.size + 1 + 1) (by omega) 3 (.int .i64 ver)).other (k' := w.heap.size + 1 + 1) (by omega) 4 (.slice (some ⟨Wa.heap.size, 0, none⟩) n n)).other (k' := w.heap.size + 1 + 1) (by omega) 5 (.slice (some ⟨Wb.heap.size, 0, none⟩) n n)).other (k' := w.heap.size + 1 + 1) (by omega) 6 (.slice (some ⟨We.heap.size, 0, none⟩) n n))
        refine takeC 14 (by kernel_rfl) rfl (fun K hK => ?_)
        go_simp
        skip
        refine hK.out _ _ ?_ (fun hHeld => ?_)
        · exact ⟨gF.c.1, gF.c.2.1, gF.c.2.2.1, gM.c.2.1, gM.c.2.2.1⟩
        clear hK K
        try simp only [Act.put, List.setIfInBounds_toArray, List.set_cons_zero, List.set_cons_succ]
        refine wpAnyH_done (by kernel_rfl) ?_ _
        go_wp2_with fail
        clear r0 r1 r2 r3 r4 r5 r6 f0 f1 f2 f3 f4 f5 f6 gF gM hHeld
        generalize ((((((Wc.setCell ⟨w.heap.size + 1 + 1, 0, none⟩ (.int .i64 s.fo.num)).setCell ⟨w.heap.size + 1 + 1, 1, none⟩ (.slice p1 s.fo.pol.length c1)).setCell ⟨w.heap.size + 1 + 1, 2, none⟩ (.slice p2 s.fo.rv.length c2)).setCell ⟨w.heap.size + 1 + 1, 3, none⟩ (.int .i64 ver)).setCell ⟨w.heap.size + 1 + 1, 4, none⟩ (.slice (some ⟨Wa.heap.size, 0, none⟩) n n)).setCell ⟨w.heap.size + 1 + 1, 5, none⟩ (.slice (some ⟨Wb.heap.size, 0, none⟩) n n)).setCell ⟨w.heap.size + 1 + 1, 6, none⟩ (.slice (some ⟨We.heap.size, 0, none⟩) n n) = W9 at *
        obtain ⟨d0, d1, d2, d3, d4, d5, d6⟩ := G3.c
        exact bodyPost_ret (v := .agg #[.int .i64 s.fo.num, .slice p1 s.fo.pol.length c1, .slice p2 s.fo.rv.length c2, .int .i64 ver, .slice (some ⟨Wa.heap.size, 0, none⟩) n n, .slice (some ⟨Wb.heap.size, 0, none⟩) n n, .slice (some ⟨We.heap.size, 0, none⟩) n n]) (by simp [results, Tryz.results18, go_sem, d0, d1, d2, d3, d4, d5, d6]) rfl ⟨_, rfl, by rw [HR.out]; exact ⟨w1.heap.size, _, _, _, _, _, rfl, by omega, by omega, ⟨_, _, rfl, Go.Joins.ownsRow_le z1 (by omega), Go.Joins.ownsRow_le z2 (by omega), t1, t2⟩, row_castN zR (by simp [opX]), row_castN zH (by simp [opX]), row_castN zN (by simp [opX]), fun k e => (zR.lt k e).2, fun k e => (zH.lt k e).2, fun k e => (zN.lt k e).2⟩, pB⟩
      · refine step_make rfl (.tmp 47) (.tmp 47) 27 rfl w1.heap.size 4 ib _ 1 Tryz.underlying27 hib hb0 hb1 n rfl rfl (by rw [hb2]; omega) (by unfold maxLen; omega) (by omega) ?_; intro Wb qH qH_g; rw [made_b n] at qH; replace gF : Seven Wb _ _ _ _ _ _ _ _ _ := World.ownsRow.kept gF qH_g (.inr (by simp [Value.ownBlock])); replace gM : Eight Wb _ _ _ _ _ _ _ _ _ _ := World.ownsRow.kept gM qH_g (.inr (by simp [Value.ownBlock])); replace g2 : Seven Wb _ _ _ _ _ _ _ _ _ := World.ownsRow.kept g2 qH_g (.inr (by simp [Value.ownBlock])); replace gO := SnO.below gO ⟨qH_g.os, qH_g.tape, qH_g.output, qH_g.size, fun k hk => qH_g.block k hk (by simp)⟩; replace gB := gB.grown qH_g gB.size (fun k e => by simp at e); replace gs := Nat.le_trans gs qH_g.size; replace qN := World.ownsRow.kept qN qH_g (.inr (by simp [Value.ownBlock]))
        refine hK.out _ _ ?_ (fun hHeld => ?_)
        · exact ⟨gF.c.1, gF.c.2.1, gF.c.2.2.1, gM.c.2.1, gM.c.2.2.1⟩
        clear hK K
        try simp only [Act.put, List.setIfInBounds_toArray, List.set_cons_zero, List.set_cons_succ]
        refine takeC 6 (by kernel_rfl) rfl (fun K hK => ?_)
        refine step_make rfl (.tmp 44) (.tmp 44) 23 rfl w1.heap.size 31 iw _ 4 Tryz.underlying23 hiw hw0 hw1 n rfl rfl (by rw [hw2]; omega) (by unfold maxLen; omega) (by omega) ?_; intro Wc qR qR_g; rw [made_r n] at qR; replace gF : Seven Wc _ _ _ _ _ _ _ _ _ := World.ownsRow.kept gF qR_g (.inr (by simp [Value.ownBlock])); replace gM : Eight Wc _ _ _ _ _ _ _ _ _ _ := World.ownsRow.kept gM qR_g (.inr (by simp [Value.ownBlock])); replace g2 : Seven Wc _ _ _ _ _ _ _ _ _ := World.ownsRow.kept g2 qR_g (.inr (by simp [Value.ownBlock])); replace gO := SnO.below gO ⟨qR_g.os, qR_g.tape, qR_g.output, qR_g.size, fun k hk => qR_g.block k hk (by simp)⟩; replace gB := gB.grown qR_g gB.size (fun k e => by simp at e); replace gs := Nat.le_trans gs qR_g.size; replace qN := World.ownsRow.kept qN qR_g (.inr (by simp [Value.ownBlock])); replace qH := World.ownsRow.kept qH qR_g (.inr (by simp [Value.ownBlock]))
        refine hK.out _ _ ?_ (fun hHeld => ?_)
        · exact ⟨gF.c.1, gF.c.2.1, gF.c.2.2.1, gM.c.2.1, gM.c.2.2.1⟩
        clear hK K
        try simp only [Act.put, List.setIfInBounds_toArray, List.set_cons_zero, List.set_cons_succ]
        refine takeW 13 (v := ?v16) rfl (by kernel_rfl) (by kernel_rfl) (by kernel_rfl) (fun _ _ _ h => h) (by rfl) (by assumption) ?hy16 ?rest16
        case hy16 => intro w' hSw; (try dsimp only at hSw); go_simp; try with_reducible rfl
        try simp only [Act.put, List.setIfInBounds_toArray, List.set_cons_zero, List.set_cons_succ]
        obtain ⟨r0, r1, r2, r3, r4, r5, r6⟩ := g2.c
        have f0 := g2.f 0
        have f1 := g2.f 1
        have f2 := g2.f 2
        have f3 := g2.f 3
        have f4 := g2.f 4
        have f5 := g2.f 5
        have f6 := g2.f 6
        have gb2 := g2.lt
        have G3 := (((((((g2.s0 (.int .i64 s.fo.num)).s1 (.slice p1 s.fo.pol.length c1)).s2 (.slice p2 s.fo.rv.length c2)).s3 (.int .i64 ver)).s4 (.slice (some ⟨Wb.heap.size, 0, none⟩) n n)).s5 (.slice (some ⟨Wa.heap.size, 0, none⟩) n n)).s6 (.slice (some ⟨We.heap.size, 0, none⟩) n n))
        have pB := below_seven gB (k := w.heap.size + 1 + 1) (by omega) (.int .i64 s.fo.num) (.slice p1 s.fo.pol.length c1) (.slice p2 s.fo.rv.length c2) (.int .i64 ver) (.slice (some ⟨Wb.heap.size, 0, none⟩) n n) (.slice (some ⟨Wa.heap.size, 0, none⟩) n n) (.slice (some ⟨We.heap.size, 0, none⟩) n n)
        have zR := row_seven qR (k := w.heap.size + 1 + 1) (by omega) (.int .i64 s.fo.num) (.slice p1 s.fo.pol.length c1) (.slice p2 s.fo.rv.length c2) (.int .i64 ver) (.slice (some ⟨Wb.heap.size, 0, none⟩) n n) (.slice (some ⟨Wa.heap.size, 0, none⟩) n n) (.slice (some ⟨We.heap.size, 0, none⟩) n n)
        have zH := row_seven qH (k := w.heap.size + 1 + 1) (by omega) (.int .i64 s.fo.num) (.slice p1 s.fo.pol.length c1) (.slice p2 s.fo.rv.length c2) (.int .i64 ver) (.slice (some ⟨Wb.heap.size, 0, none⟩) n n) (.slice (some ⟨Wa.heap.size, 0, none⟩) n n) (.slice (some ⟨We.heap.size, 0, none⟩) n n)
        have zN := row_seven qN (k := w.heap.size + 1 + 1) (by omega) (.int .i64 s.fo.num) (.slice p1 s.fo.pol.length c1) (.slice p2 s.fo.rv.length c2) (.int .i64 ver) (.slice (some ⟨Wb.heap.size, 0, none⟩) n n) (.slice (some ⟨Wa.heap.size, 0, none⟩) n n) (.slice (some ⟨We.heap.size, 0, none⟩) n n)
        obtain ⟨_, _, e9, o1, o2, t1, t2⟩ := gO
        cases e9
        have z1 := row_seven o1 (k := w.heap.size + 1 + 1) (by omega) (.int .i64 s.fo.num) (.slice p1 s.fo.pol.length c1) (.slice p2 s.fo.rv.length c2) (.int .i64 ver) (.slice (some ⟨Wb.heap.size, 0, none⟩) n n) (.slice (some ⟨Wa.heap.size, 0, none⟩) n n) (.slice (some ⟨We.heap.size, 0, none⟩) n n)
        have z2 := row_seven o2 (k := w.heap.size + 1 + 1) (by omega) (.int .i64 s.fo.num) (.slice p1 s.fo.pol.length c1) (.slice p2 s.fo.rv.length c2) (.int .i64 ver) (.slice (some ⟨Wb.heap.size, 0, none⟩) n n) (.slice (some ⟨Wa.heap.size, 0, none⟩) n n) (.slice (some ⟨We.heap.size, 0, none⟩) n n)
        have hse : Wc.heap.size ≤ (((((((Wc.setCell ⟨w.heap.size + 1 + 1, 0, none⟩ (.int .i64 s.fo.num)).setCell ⟨w.heap.size + 1 + 1, 1, none⟩ (.slice p1 s.fo.pol.length c1)).setCell ⟨w.heap.size + 1 + 1, 2, none⟩ (.slice p2 s.fo.rv.length c2)).setCell ⟨w.heap.size + 1 + 1, 3, none⟩ (.int .i64 ver)).setCell ⟨w.heap.size + 1 + 1, 4, none⟩ (.slice (some ⟨Wb.heap.size, 0, none⟩) n n)).setCell ⟨w.heap.size + 1 + 1, 5, none⟩ (.slice (some ⟨Wa.heap.size, 0, none⟩) n n)).setCell ⟨w.heap.size + 1 + 1, 6, none⟩ (.slice (some ⟨We.heap.size, 0, none⟩) n n)).heap.size := by simp
        replace gF := (((((((gF.other (k' := w.heap.size + 1 + 1) (by omega) 0 (.int .i64 s.fo.num)).other (k' := w.heap.size + 1 + 1) (by omega) 1 (.slice p1 s.fo.pol.length c1)).other (k' := w.heap.size + 1 + 1) (by omega) 2 (.slice p2 s.fo.rv.length c2)).other (k' := w.heap.size + 1 + 1) (by omega) 3 (.int .i64 ver)).other (k' := w.heap.size + 1 + 1) (by omega) 4 (.slice (some ⟨Wb.heap.size, 0, none⟩) n n)).other (k' := w.heap.size + 1 + 1) (by omega) 5 (.slice (some ⟨Wa.heap.size, 0, none⟩) n n)).other (k' := w.heap.size + 1 + 1) (by omega) 6 (.slice (some ⟨We.heap.size, 0, none⟩) n n))
        replace gM := (((((((gM.other (k' := w.heap.size + 1 + 1) (by omega) 0 (.int .i64 s.fo.num)).other (k' := w.heap.size + 1 + 1) (by omega) 1 (.slice p1 s.fo.pol.length c1)).other (k' := w.heap.size + 1 + 1) (by omega) 2 (.slice p2 s.fo.rv.length c2)).other (k' := w.heap.size + 1 + 1) (by omega) 3 (.int .i64 ver)).other (k' := w.heap.size + 1 + 1) (by omega) 4 (.slice (some ⟨Wb.heap.size, 0, none⟩) n n)).other (k' := w.heap.size + 1 + 1) (by omega) 5 (.slice (some ⟨Wa.heap.size, 0, none⟩) n n)).other (k' := w.heap.size + 1 + 1) (by omega) 6 (.slice (some ⟨We.heap.size, 0, none⟩) n n))
        refine takeC 14 (by kernel_rfl) rfl (fun K hK => ?_)
        go_simp
        skip
        refine hK.out _ _ ?_ (fun hHeld => ?_)
        · exact ⟨gF.c.1, gF.c.2.1, gF.c.2.2.1, gM.c.2.1, gM.c.2.2.1⟩
        clear hK K
        try simp only [Act.put, List.setIfInBounds_toArray, List.set_cons_zero, List.set_cons_succ]
        refine wpAnyH_done (by kernel_rfl) ?_ _
        go_wp2_with fail
        clear r0 r1 r2 r3 r4 r5 r6 f0 f1 f2 f3 f4 f5 f6 gF gM hHeld
        generalize ((((((Wc.setCell ⟨w.heap.size + 1 + 1, 0, none⟩ (.int .i64 s.fo.num)).setCell ⟨w.heap.size + 1 + 1, 1, none⟩ (.slice p1 s.fo.pol.length c1)).setCell ⟨w.heap.size + 1 + 1, 2, none⟩ (.slice p2 s.fo.rv.length c2)).setCell ⟨w.heap.size + 1 + 1, 3, none⟩ (.int .i64 ver)).setCell ⟨w.heap.size + 1 + 1, 4, none⟩ (.slice (some ⟨Wb.heap.size, 0, none⟩) n n)).setCell ⟨w.heap.size + 1 + 1, 5, none⟩ (.slice (some ⟨Wa.heap.size, 0, none⟩) n n)).setCell ⟨w.heap.size + 1 + 1, 6, none⟩ (.slice (some ⟨We.heap.size, 0, none⟩) n n) = W9 at *
        obtain ⟨d0, d1, d2, d3, d4, d5, d6⟩ := G3.c
        exact bodyPost_ret (v := .agg #[.int .i64 s.fo.num, .slice p1 s.fo.pol.length c1, .slice p2 s.fo.rv.length c2, .int .i64 ver, .slice (some ⟨Wb.heap.size, 0, none⟩) n n, .slice (some ⟨Wa.heap.size, 0, none⟩) n n, .slice (some ⟨We.heap.size, 0, none⟩) n n]) (by simp [results, Tryz.results18, go_sem, d0, d1, d2, d3, d4, d5, d6]) rfl ⟨_, rfl, by rw [HR.out]; exact ⟨w1.heap.size, _, _, _, _, _, rfl, by omega, by omega, ⟨_, _, rfl, Go.Joins.ownsRow_le z1 (by omega), Go.Joins.ownsRow_le z2 (by omega), t1, t2⟩, row_castN zR (by simp [opX]), row_castN zH (by simp [opX]), row_castN zN (by simp [opX]), fun k e => (zR.lt k e).2, fun k e => (zH.lt k e).2, fun k e => (zN.lt k e).2⟩, pB⟩
  have k1' : (kd == 1) = false := by simpa using k1
  cases hD : (ver != s.co)
  case true =>
    have HR := hid (tk_ver (s := s) (no := no) (ru := ru) (se := se) hA hC k1' hD)
    obtain ⟨r0, r1, r2, r3, r4, r5, r6⟩ := G2.c
    have f0 := G2.f 0
    have f1 := G2.f 1
    have f2 := G2.f 2
    have f3 := G2.f 3
    have f4 := G2.f 4
    have f5 := G2.f 5
    have f6 := G2.f 6
    have G3 := (((((((G2.s0 (.int .i64 s.fo.num)).s1 (.slice p1 s.fo.pol.length c1)).s2 (.slice p2 s.fo.rv.length c2)).s3 (.int .i64 s.co)).s4 (.slice p3 s.ru.length c3)).s5 (.slice p4 s.ha.length c4)).s6 (.slice p5 s.se.length c5))
    have pB := below_seven hBB (k := w.heap.size + 1 + 1) (by omega) (.int .i64 s.fo.num) (.slice p1 s.fo.pol.length c1) (.slice p2 s.fo.rv.length c2) (.int .i64 s.co) (.slice p3 s.ru.length c3) (.slice p4 s.ha.length c4) (.slice p5 s.se.length c5)
    have O9 := (sdo_set (sdo_set (sdo_set (sdo_set (sdo_set (sdo_set (sdo_set O (p := ⟨w.heap.size + 1 + 1, 0, none⟩) (by simp; omega) (.int .i64 s.fo.num)) (p := ⟨w.heap.size + 1 + 1, 1, none⟩) (by simp; omega) (.slice p1 s.fo.pol.length c1)) (p := ⟨w.heap.size + 1 + 1, 2, none⟩) (by simp; omega) (.slice p2 s.fo.rv.length c2)) (p := ⟨w.heap.size + 1 + 1, 3, none⟩) (by simp; omega) (.int .i64 s.co)) (p := ⟨w.heap.size + 1 + 1, 4, none⟩) (by simp; omega) (.slice p3 s.ru.length c3)) (p := ⟨w.heap.size + 1 + 1, 5, none⟩) (by simp; omega) (.slice p4 s.ha.length c4)) (p := ⟨w.heap.size + 1 + 1, 6, none⟩) (by simp; omega) (.slice p5 s.se.length c5))
    have hse : W1.heap.size ≤ (((((((W1.setCell ⟨w.heap.size + 1 + 1, 0, none⟩ (.int .i64 s.fo.num)).setCell ⟨w.heap.size + 1 + 1, 1, none⟩ (.slice p1 s.fo.pol.length c1)).setCell ⟨w.heap.size + 1 + 1, 2, none⟩ (.slice p2 s.fo.rv.length c2)).setCell ⟨w.heap.size + 1 + 1, 3, none⟩ (.int .i64 s.co)).setCell ⟨w.heap.size + 1 + 1, 4, none⟩ (.slice p3 s.ru.length c3)).setCell ⟨w.heap.size + 1 + 1, 5, none⟩ (.slice p4 s.ha.length c4)).setCell ⟨w.heap.size + 1 + 1, 6, none⟩ (.slice p5 s.se.length c5)).heap.size := by simp
    go_wp2_with fail
    clear r0 r1 r2 r3 r4 r5 r6 f0 f1 f2 f3 f4 f5 f6
    generalize ((((((W1.setCell ⟨w.heap.size + 1 + 1, 0, none⟩ (.int .i64 s.fo.num)).setCell ⟨w.heap.size + 1 + 1, 1, none⟩ (.slice p1 s.fo.pol.length c1)).setCell ⟨w.heap.size + 1 + 1, 2, none⟩ (.slice p2 s.fo.rv.length c2)).setCell ⟨w.heap.size + 1 + 1, 3, none⟩ (.int .i64 s.co)).setCell ⟨w.heap.size + 1 + 1, 4, none⟩ (.slice p3 s.ru.length c3)).setCell ⟨w.heap.size + 1 + 1, 5, none⟩ (.slice p4 s.ha.length c4)).setCell ⟨w.heap.size + 1 + 1, 6, none⟩ (.slice p5 s.se.length c5) = W9 at *
    obtain ⟨d0, d1, d2, d3, d4, d5, d6⟩ := G3.c
    exact bodyPost_ret (v := .agg #[.int .i64 s.fo.num, .slice p1 s.fo.pol.length c1, .slice p2 s.fo.rv.length c2, .int .i64 s.co, .slice p3 s.ru.length c3, .slice p4 s.ha.length c4, .slice p5 s.se.length c5]) (by simp [results, Tryz.results18, go_sem, d0, d1, d2, d3, d4, d5, d6]) rfl ⟨_, rfl, by rw [HR.out]; exact O9.mono (by omega) (by omega), pB⟩
  by_cases k4 : kd = 4
  · subst k4
    have HR := hid (tk_com (s := s) (no := no) (ru := ru) (se := se) hA hC hD)
    have hM := fun W hW => l6Commit_any (.agg #[.int .i64 s.fo.num, .slice p1 s.fo.pol.length c1, .slice p2 s.fo.rv.length c2, .int .i64 s.co, .slice p3 s.ru.length c3, .slice p4 s.ha.length c4, .slice p5 s.se.length c5]) s ⟨4, ver, no, ru, se⟩ W hs' hg hl hW
    go_wp2_with fail
    refine (hM _ O.r).mono ?_
    rintro e w3 ⟨v3, rfl, hv3, hB3⟩
    replace G2 := G2.below hB3
    have hs3 := hB3.size
    replace hBB := below_one hBB hB3
    rcases hv3 with ⟨rfl, hq⟩ | O3
    · replace O := O.below hB3
      have HR := hid (HR.out.trans hq)
      obtain ⟨r0, r1, r2, r3, r4, r5, r6⟩ := G2.c
      have f0 := G2.f 0
      have f1 := G2.f 1
      have f2 := G2.f 2
      have f3 := G2.f 3
      have f4 := G2.f 4
      have f5 := G2.f 5
      have f6 := G2.f 6
      have G3 := (((((((G2.s0 (.int .i64 s.fo.num)).s1 (.slice p1 s.fo.pol.length c1)).s2 (.slice p2 s.fo.rv.length c2)).s3 (.int .i64 s.co)).s4 (.slice p3 s.ru.length c3)).s5 (.slice p4 s.ha.length c4)).s6 (.slice p5 s.se.length c5))
      have pB := below_seven hBB (k := w.heap.size + 1 + 1) (by omega) (.int .i64 s.fo.num) (.slice p1 s.fo.pol.length c1) (.slice p2 s.fo.rv.length c2) (.int .i64 s.co) (.slice p3 s.ru.length c3) (.slice p4 s.ha.length c4) (.slice p5 s.se.length c5)
      have O9 := (sdo_set (sdo_set (sdo_set (sdo_set (sdo_set (sdo_set (sdo_set O (p := ⟨w.heap.size + 1 + 1, 0, none⟩) (by simp; omega) (.int .i64 s.fo.num)) (p := ⟨w.heap.size + 1 + 1, 1, none⟩) (by simp; omega) (.slice p1 s.fo.pol.length c1)) (p := ⟨w.heap.size + 1 + 1, 2, none⟩) (by simp; omega) (.slice p2 s.fo.rv.length c2)) (p := ⟨w.heap.size + 1 + 1, 3, none⟩) (by simp; omega) (.int .i64 s.co)) (p := ⟨w.heap.size + 1 + 1, 4, none⟩) (by simp; omega) (.slice p3 s.ru.length c3)) (p := ⟨w.heap.size + 1 + 1, 5, none⟩) (by simp; omega) (.slice p4 s.ha.length c4)) (p := ⟨w.heap.size + 1 + 1, 6, none⟩) (by simp; omega) (.slice p5 s.se.length c5))
      have hse : w3.heap.size ≤ (((((((w3.setCell ⟨w.heap.size + 1 + 1, 0, none⟩ (.int .i64 s.fo.num)).setCell ⟨w.heap.size + 1 + 1, 1, none⟩ (.slice p1 s.fo.pol.length c1)).setCell ⟨w.heap.size + 1 + 1, 2, none⟩ (.slice p2 s.fo.rv.length c2)).setCell ⟨w.heap.size + 1 + 1, 3, none⟩ (.int .i64 s.co)).setCell ⟨w.heap.size + 1 + 1, 4, none⟩ (.slice p3 s.ru.length c3)).setCell ⟨w.heap.size + 1 + 1, 5, none⟩ (.slice p4 s.ha.length c4)).setCell ⟨w.heap.size + 1 + 1, 6, none⟩ (.slice p5 s.se.length c5)).heap.size := by simp
      go_wp2_with fail
      clear r0 r1 r2 r3 r4 r5 r6 f0 f1 f2 f3 f4 f5 f6
      generalize ((((((w3.setCell ⟨w.heap.size + 1 + 1, 0, none⟩ (.int .i64 s.fo.num)).setCell ⟨w.heap.size + 1 + 1, 1, none⟩ (.slice p1 s.fo.pol.length c1)).setCell ⟨w.heap.size + 1 + 1, 2, none⟩ (.slice p2 s.fo.rv.length c2)).setCell ⟨w.heap.size + 1 + 1, 3, none⟩ (.int .i64 s.co)).setCell ⟨w.heap.size + 1 + 1, 4, none⟩ (.slice p3 s.ru.length c3)).setCell ⟨w.heap.size + 1 + 1, 5, none⟩ (.slice p4 s.ha.length c4)).setCell ⟨w.heap.size + 1 + 1, 6, none⟩ (.slice p5 s.se.length c5) = W9 at *
      obtain ⟨d0, d1, d2, d3, d4, d5, d6⟩ := G3.c
      exact bodyPost_ret (v := .agg #[.int .i64 s.fo.num, .slice p1 s.fo.pol.length c1, .slice p2 s.fo.rv.length c2, .int .i64 s.co, .slice p3 s.ru.length c3, .slice p4 s.ha.length c4, .slice p5 s.se.length c5]) (by simp [results, Tryz.results18, go_sem, d0, d1, d2, d3, d4, d5, d6]) rfl ⟨_, rfl, by rw [HR.out]; exact O9.mono (by omega) (by omega), pB⟩
    · obtain ⟨y1, x1, y2, x2, y3, x3, y4, x4, y5, x5, rfl⟩ := sd_forms O3.a
      generalize hX : cmX s ⟨4, ver, no, ru, se⟩ = X at *
      have HR2 := hid HR.out
      clear HR hX hM
      have HR := hid (HR2.out)
      obtain ⟨r0, r1, r2, r3, r4, r5, r6⟩ := G2.c
      have f0 := G2.f 0
      have f1 := G2.f 1
      have f2 := G2.f 2
      have f3 := G2.f 3
      have f4 := G2.f 4
      have f5 := G2.f 5
      have f6 := G2.f 6
      have G3 := (((((((G2.s0 (.int .i64 X.fo.num)).s1 (.slice y1 X.fo.pol.length x1)).s2 (.slice y2 X.fo.rv.length x2)).s3 (.int .i64 X.co)).s4 (.slice y3 X.ru.length x3)).s5 (.slice y4 X.ha.length x4)).s6 (.slice y5 X.se.length x5))
      have pB := below_seven hBB (k := w.heap.size + 1 + 1) (by omega) (.int .i64 X.fo.num) (.slice y1 X.fo.pol.length x1) (.slice y2 X.fo.rv.length x2) (.int .i64 X.co) (.slice y3 X.ru.length x3) (.slice y4 X.ha.length x4) (.slice y5 X.se.length x5)
      have O9 := (sdo_set (sdo_set (sdo_set (sdo_set (sdo_set (sdo_set (sdo_set O3 (p := ⟨w.heap.size + 1 + 1, 0, none⟩) (by simp; omega) (.int .i64 X.fo.num)) (p := ⟨w.heap.size + 1 + 1, 1, none⟩) (by simp; omega) (.slice y1 X.fo.pol.length x1)) (p := ⟨w.heap.size + 1 + 1, 2, none⟩) (by simp; omega) (.slice y2 X.fo.rv.length x2)) (p := ⟨w.heap.size + 1 + 1, 3, none⟩) (by simp; omega) (.int .i64 X.co)) (p := ⟨w.heap.size + 1 + 1, 4, none⟩) (by simp; omega) (.slice y3 X.ru.length x3)) (p := ⟨w.heap.size + 1 + 1, 5, none⟩) (by simp; omega) (.slice y4 X.ha.length x4)) (p := ⟨w.heap.size + 1 + 1, 6, none⟩) (by simp; omega) (.slice y5 X.se.length x5))
      have hse : w3.heap.size ≤ (((((((w3.setCell ⟨w.heap.size + 1 + 1, 0, none⟩ (.int .i64 X.fo.num)).setCell ⟨w.heap.size + 1 + 1, 1, none⟩ (.slice y1 X.fo.pol.length x1)).setCell ⟨w.heap.size + 1 + 1, 2, none⟩ (.slice y2 X.fo.rv.length x2)).setCell ⟨w.heap.size + 1 + 1, 3, none⟩ (.int .i64 X.co)).setCell ⟨w.heap.size + 1 + 1, 4, none⟩ (.slice y3 X.ru.length x3)).setCell ⟨w.heap.size + 1 + 1, 5, none⟩ (.slice y4 X.ha.length x4)).setCell ⟨w.heap.size + 1 + 1, 6, none⟩ (.slice y5 X.se.length x5)).heap.size := by simp
      go_wp2_with fail
      clear r0 r1 r2 r3 r4 r5 r6 f0 f1 f2 f3 f4 f5 f6
      generalize ((((((w3.setCell ⟨w.heap.size + 1 + 1, 0, none⟩ (.int .i64 X.fo.num)).setCell ⟨w.heap.size + 1 + 1, 1, none⟩ (.slice y1 X.fo.pol.length x1)).setCell ⟨w.heap.size + 1 + 1, 2, none⟩ (.slice y2 X.fo.rv.length x2)).setCell ⟨w.heap.size + 1 + 1, 3, none⟩ (.int .i64 X.co)).setCell ⟨w.heap.size + 1 + 1, 4, none⟩ (.slice y3 X.ru.length x3)).setCell ⟨w.heap.size + 1 + 1, 5, none⟩ (.slice y4 X.ha.length x4)).setCell ⟨w.heap.size + 1 + 1, 6, none⟩ (.slice y5 X.se.length x5) = W9 at *
      obtain ⟨d0, d1, d2, d3, d4, d5, d6⟩ := G3.c
      exact bodyPost_ret (v := .agg #[.int .i64 X.fo.num, .slice y1 X.fo.pol.length x1, .slice y2 X.fo.rv.length x2, .int .i64 X.co, .slice y3 X.ru.length x3, .slice y4 X.ha.length x4, .slice y5 X.se.length x5]) (by simp [results, Tryz.results18, go_sem, d0, d1, d2, d3, d4, d5, d6]) rfl ⟨_, rfl, by rw [HR.out]; exact O9.mono (by omega) (by omega), pB⟩
  have k4' : (kd == 4) = false := by simpa using k4
  go_wp2_with fail
  refine (l1In_any no 0 ((s.ha.length : Int) - 1) _).mono ?_
  rintro e wx ⟨rfl, rfl⟩
  cases hE : inB 0 ((s.ha.length : Int) - 1) no
  case false =>
    have HR := hid (tk_lk (s := s) (no := no) (ru := ru) (se := se) hA hC k1' k4' hD (lk_no1 hE))
    obtain ⟨r0, r1, r2, r3, r4, r5, r6⟩ := G2.c
    have f0 := G2.f 0
    have f1 := G2.f 1
    have f2 := G2.f 2
    have f3 := G2.f 3
    have f4 := G2.f 4
    have f5 := G2.f 5
    have f6 := G2.f 6
    have G3 := (((((((G2.s0 (.int .i64 s.fo.num)).s1 (.slice p1 s.fo.pol.length c1)).s2 (.slice p2 s.fo.rv.length c2)).s3 (.int .i64 s.co)).s4 (.slice p3 s.ru.length c3)).s5 (.slice p4 s.ha.length c4)).s6 (.slice p5 s.se.length c5))
    have pB := below_seven hBB (k := w.heap.size + 1 + 1) (by omega) (.int .i64 s.fo.num) (.slice p1 s.fo.pol.length c1) (.slice p2 s.fo.rv.length c2) (.int .i64 s.co) (.slice p3 s.ru.length c3) (.slice p4 s.ha.length c4) (.slice p5 s.se.length c5)
    have O9 := (sdo_set (sdo_set (sdo_set (sdo_set (sdo_set (sdo_set (sdo_set O (p := ⟨w.heap.size + 1 + 1, 0, none⟩) (by simp; omega) (.int .i64 s.fo.num)) (p := ⟨w.heap.size + 1 + 1, 1, none⟩) (by simp; omega) (.slice p1 s.fo.pol.length c1)) (p := ⟨w.heap.size + 1 + 1, 2, none⟩) (by simp; omega) (.slice p2 s.fo.rv.length c2)) (p := ⟨w.heap.size + 1 + 1, 3, none⟩) (by simp; omega) (.int .i64 s.co)) (p := ⟨w.heap.size + 1 + 1, 4, none⟩) (by simp; omega) (.slice p3 s.ru.length c3)) (p := ⟨w.heap.size + 1 + 1, 5, none⟩) (by simp; omega) (.slice p4 s.ha.length c4)) (p := ⟨w.heap.size + 1 + 1, 6, none⟩) (by simp; omega) (.slice p5 s.se.length c5))
    have hse : wx.heap.size ≤ (((((((wx.setCell ⟨w.heap.size + 1 + 1, 0, none⟩ (.int .i64 s.fo.num)).setCell ⟨w.heap.size + 1 + 1, 1, none⟩ (.slice p1 s.fo.pol.length c1)).setCell ⟨w.heap.size + 1 + 1, 2, none⟩ (.slice p2 s.fo.rv.length c2)).setCell ⟨w.heap.size + 1 + 1, 3, none⟩ (.int .i64 s.co)).setCell ⟨w.heap.size + 1 + 1, 4, none⟩ (.slice p3 s.ru.length c3)).setCell ⟨w.heap.size + 1 + 1, 5, none⟩ (.slice p4 s.ha.length c4)).setCell ⟨w.heap.size + 1 + 1, 6, none⟩ (.slice p5 s.se.length c5)).heap.size := by simp
    go_wp2_with fail
    clear r0 r1 r2 r3 r4 r5 r6 f0 f1 f2 f3 f4 f5 f6
    generalize ((((((wx.setCell ⟨w.heap.size + 1 + 1, 0, none⟩ (.int .i64 s.fo.num)).setCell ⟨w.heap.size + 1 + 1, 1, none⟩ (.slice p1 s.fo.pol.length c1)).setCell ⟨w.heap.size + 1 + 1, 2, none⟩ (.slice p2 s.fo.rv.length c2)).setCell ⟨w.heap.size + 1 + 1, 3, none⟩ (.int .i64 s.co)).setCell ⟨w.heap.size + 1 + 1, 4, none⟩ (.slice p3 s.ru.length c3)).setCell ⟨w.heap.size + 1 + 1, 5, none⟩ (.slice p4 s.ha.length c4)).setCell ⟨w.heap.size + 1 + 1, 6, none⟩ (.slice p5 s.se.length c5) = W9 at *
    obtain ⟨d0, d1, d2, d3, d4, d5, d6⟩ := G3.c
    exact bodyPost_ret (v := .agg #[.int .i64 s.fo.num, .slice p1 s.fo.pol.length c1, .slice p2 s.fo.rv.length c2, .int .i64 s.co, .slice p3 s.ru.length c3, .slice p4 s.ha.length c4, .slice p5 s.se.length c5]) (by simp [results, Tryz.results18, go_sem, d0, d1, d2, d3, d4, d5, d6]) rfl ⟨_, rfl, by rw [HR.out]; exact O9.mono (by omega) (by omega), pB⟩
  have hN : 0 ≤ no ∧ no ≤ (s.ha.length : Int) - 1 := of_decide_eq_true hE
  obtain ⟨n, rfl⟩ := Int.eq_ofNat_of_zero_le hN.1
  have hn : n < s.ha.length := by omega
  have hnr : n < s.ru.length := by rw [E1.out]; exact hn
  have hnz : n < s.se.length := by rw [E2.out]; exact hn
  clear hN hE
  have O0 := O
  obtain ⟨gH, cH, eH, bH, lH, kH, fH, cH0, _⟩ := sdo_ha O hn true
  cases eH
  have HL1 := hid (fun h => lk_no2 (s := s) hn h)
  have HL2 := hid (fun h => lk_yes (s := s) hn h)
  generalize s.ha[n] = x at *
  cases x
  case true =>
    have HR := hid (tk_lk (s := s) (ru := ru) (se := se) hA hC k1' k4' hD (HL1.out rfl))
    obtain ⟨r0, r1, r2, r3, r4, r5, r6⟩ := G2.c
    have f0 := G2.f 0
    have f1 := G2.f 1
    have f2 := G2.f 2
    have f3 := G2.f 3
    have f4 := G2.f 4
    have f5 := G2.f 5
    have f6 := G2.f 6
    have G3 := (((((((G2.s0 (.int .i64 s.fo.num)).s1 (.slice p1 s.fo.pol.length c1)).s2 (.slice p2 s.fo.rv.length c2)).s3 (.int .i64 s.co)).s4 (.slice p3 s.ru.length c3)).s5 (.slice (some ⟨gH, 0, none⟩) s.ha.length c4)).s6 (.slice p5 s.se.length c5))
    have pB := below_seven hBB (k := w.heap.size + 1 + 1) (by omega) (.int .i64 s.fo.num) (.slice p1 s.fo.pol.length c1) (.slice p2 s.fo.rv.length c2) (.int .i64 s.co) (.slice p3 s.ru.length c3) (.slice (some ⟨gH, 0, none⟩) s.ha.length c4) (.slice p5 s.se.length c5)
    have O9 := (sdo_set (sdo_set (sdo_set (sdo_set (sdo_set (sdo_set (sdo_set O (p := ⟨w.heap.size + 1 + 1, 0, none⟩) (by simp; omega) (.int .i64 s.fo.num)) (p := ⟨w.heap.size + 1 + 1, 1, none⟩) (by simp; omega) (.slice p1 s.fo.pol.length c1)) (p := ⟨w.heap.size + 1 + 1, 2, none⟩) (by simp; omega) (.slice p2 s.fo.rv.length c2)) (p := ⟨w.heap.size + 1 + 1, 3, none⟩) (by simp; omega) (.int .i64 s.co)) (p := ⟨w.heap.size + 1 + 1, 4, none⟩) (by simp; omega) (.slice p3 s.ru.length c3)) (p := ⟨w.heap.size + 1 + 1, 5, none⟩) (by simp; omega) (.slice (some ⟨gH, 0, none⟩) s.ha.length c4)) (p := ⟨w.heap.size + 1 + 1, 6, none⟩) (by simp; omega) (.slice p5 s.se.length c5))
    have hse : wx.heap.size ≤ (((((((wx.setCell ⟨w.heap.size + 1 + 1, 0, none⟩ (.int .i64 s.fo.num)).setCell ⟨w.heap.size + 1 + 1, 1, none⟩ (.slice p1 s.fo.pol.length c1)).setCell ⟨w.heap.size + 1 + 1, 2, none⟩ (.slice p2 s.fo.rv.length c2)).setCell ⟨w.heap.size + 1 + 1, 3, none⟩ (.int .i64 s.co)).setCell ⟨w.heap.size + 1 + 1, 4, none⟩ (.slice p3 s.ru.length c3)).setCell ⟨w.heap.size + 1 + 1, 5, none⟩ (.slice (some ⟨gH, 0, none⟩) s.ha.length c4)).setCell ⟨w.heap.size + 1 + 1, 6, none⟩ (.slice p5 s.se.length c5)).heap.size := by simp
    go_wp2_with fail
    clear r0 r1 r2 r3 r4 r5 r6 f0 f1 f2 f3 f4 f5 f6
    generalize ((((((wx.setCell ⟨w.heap.size + 1 + 1, 0, none⟩ (.int .i64 s.fo.num)).setCell ⟨w.heap.size + 1 + 1, 1, none⟩ (.slice p1 s.fo.pol.length c1)).setCell ⟨w.heap.size + 1 + 1, 2, none⟩ (.slice p2 s.fo.rv.length c2)).setCell ⟨w.heap.size + 1 + 1, 3, none⟩ (.int .i64 s.co)).setCell ⟨w.heap.size + 1 + 1, 4, none⟩ (.slice p3 s.ru.length c3)).setCell ⟨w.heap.size + 1 + 1, 5, none⟩ (.slice (some ⟨gH, 0, none⟩) s.ha.length c4)).setCell ⟨w.heap.size + 1 + 1, 6, none⟩ (.slice p5 s.se.length c5) = W9 at *
    obtain ⟨d0, d1, d2, d3, d4, d5, d6⟩ := G3.c
    exact bodyPost_ret (v := .agg #[.int .i64 s.fo.num, .slice p1 s.fo.pol.length c1, .slice p2 s.fo.rv.length c2, .int .i64 s.co, .slice p3 s.ru.length c3, .slice (some ⟨gH, 0, none⟩) s.ha.length c4, .slice p5 s.se.length c5]) (by simp [results, Tryz.results18, go_sem, d0, d1, d2, d3, d4, d5, d6]) rfl ⟨_, rfl, by rw [HR.out]; exact O9.mono (by omega) (by omega), pB⟩
  have HL := HL2.out rfl
  clear HL1 HL2
  by_cases k2 : kd = 2
  · subst k2
    go_wp2_with fail
    refine (specGoodRule_sz ru _ hr).mono ?_
    rintro e w3 ⟨rfl, hB3⟩
    replace G := G.below hB3
    replace GM := GM.below hB3
    replace G2 := G2.below hB3
    replace O := O.below hB3
    replace hBB := below_one hBB hB3
    replace hs2 := Nat.le_trans hs2 hB3.size
    clear O0 cH0 fH lH hB3
    clear a0 a1 a2 a3 a4 a5 a6 m0 m1 m2 m3 m4 m5 m6 m7
    obtain ⟨a0, a1, a2, a3, a4, a5, a6⟩ := G.c
    obtain ⟨m0, m1, m2, m3, m4, m5, m6, m7⟩ := GM.c
    cases hG : ru.good
    case false =>
      have HR := hid (tk_ru0 (s := s) (se := se) hA hC hD HL hG)
      obtain ⟨r0, r1, r2, r3, r4, r5, r6⟩ := G2.c
      have f0 := G2.f 0
      have f1 := G2.f 1
      have f2 := G2.f 2
      have f3 := G2.f 3
      have f4 := G2.f 4
      have f5 := G2.f 5
      have f6 := G2.f 6
      have G3 := (((((((G2.s0 (.int .i64 s.fo.num)).s1 (.slice p1 s.fo.pol.length c1)).s2 (.slice p2 s.fo.rv.length c2)).s3 (.int .i64 s.co)).s4 (.slice p3 s.ru.length c3)).s5 (.slice (some ⟨gH, 0, none⟩) s.ha.length c4)).s6 (.slice p5 s.se.length c5))
      have pB := below_seven hBB (k := w.heap.size + 1 + 1) (by omega) (.int .i64 s.fo.num) (.slice p1 s.fo.pol.length c1) (.slice p2 s.fo.rv.length c2) (.int .i64 s.co) (.slice p3 s.ru.length c3) (.slice (some ⟨gH, 0, none⟩) s.ha.length c4) (.slice p5 s.se.length c5)
      have O9 := (sdo_set (sdo_set (sdo_set (sdo_set (sdo_set (sdo_set (sdo_set O (p := ⟨w.heap.size + 1 + 1, 0, none⟩) (by simp; omega) (.int .i64 s.fo.num)) (p := ⟨w.heap.size + 1 + 1, 1, none⟩) (by simp; omega) (.slice p1 s.fo.pol.length c1)) (p := ⟨w.heap.size + 1 + 1, 2, none⟩) (by simp; omega) (.slice p2 s.fo.rv.length c2)) (p := ⟨w.heap.size + 1 + 1, 3, none⟩) (by simp; omega) (.int .i64 s.co)) (p := ⟨w.heap.size + 1 + 1, 4, none⟩) (by simp; omega) (.slice p3 s.ru.length c3)) (p := ⟨w.heap.size + 1 + 1, 5, none⟩) (by simp; omega) (.slice (some ⟨gH, 0, none⟩) s.ha.length c4)) (p := ⟨w.heap.size + 1 + 1, 6, none⟩) (by simp; omega) (.slice p5 s.se.length c5))
      have hse : w3.heap.size ≤ (((((((w3.setCell ⟨w.heap.size + 1 + 1, 0, none⟩ (.int .i64 s.fo.num)).setCell ⟨w.heap.size + 1 + 1, 1, none⟩ (.slice p1 s.fo.pol.length c1)).setCell ⟨w.heap.size + 1 + 1, 2, none⟩ (.slice p2 s.fo.rv.length c2)).setCell ⟨w.heap.size + 1 + 1, 3, none⟩ (.int .i64 s.co)).setCell ⟨w.heap.size + 1 + 1, 4, none⟩ (.slice p3 s.ru.length c3)).setCell ⟨w.heap.size + 1 + 1, 5, none⟩ (.slice (some ⟨gH, 0, none⟩) s.ha.length c4)).setCell ⟨w.heap.size + 1 + 1, 6, none⟩ (.slice p5 s.se.length c5)).heap.size := by simp
      go_wp2_with fail
      clear r0 r1 r2 r3 r4 r5 r6 f0 f1 f2 f3 f4 f5 f6
      generalize ((((((w3.setCell ⟨w.heap.size + 1 + 1, 0, none⟩ (.int .i64 s.fo.num)).setCell ⟨w.heap.size + 1 + 1, 1, none⟩ (.slice p1 s.fo.pol.length c1)).setCell ⟨w.heap.size + 1 + 1, 2, none⟩ (.slice p2 s.fo.rv.length c2)).setCell ⟨w.heap.size + 1 + 1, 3, none⟩ (.int .i64 s.co)).setCell ⟨w.heap.size + 1 + 1, 4, none⟩ (.slice p3 s.ru.length c3)).setCell ⟨w.heap.size + 1 + 1, 5, none⟩ (.slice (some ⟨gH, 0, none⟩) s.ha.length c4)).setCell ⟨w.heap.size + 1 + 1, 6, none⟩ (.slice p5 s.se.length c5) = W9 at *
      obtain ⟨d0, d1, d2, d3, d4, d5, d6⟩ := G3.c
      exact bodyPost_ret (v := .agg #[.int .i64 s.fo.num, .slice p1 s.fo.pol.length c1, .slice p2 s.fo.rv.length c2, .int .i64 s.co, .slice p3 s.ru.length c3, .slice (some ⟨gH, 0, none⟩) s.ha.length c4, .slice p5 s.se.length c5]) (by simp [results, Tryz.results18, go_sem, d0, d1, d2, d3, d4, d5, d6]) rfl ⟨_, rfl, by rw [HR.out]; exact O9.mono (by omega) (by omega), pB⟩
    obtain ⟨gR, cR, eR, bR, lR, kR, fR, ⟨q0, q1, q2, q3, i0, i1, i2, i3⟩, O4⟩ := sdo_ru O hnr ru
    cases eR
    have j0 := fR (n * 4)
    have j1 := fR (n * 4 + 1)
    have j2 := fR (n * 4 + 2)
    have j3 := fR (n * 4 + 3)
    clear fR
    have hq4 : w.heap.size + 1 + 1 < gR := by omega
    have hz4 : w3.heap.size ≤ ((((w3.setCell ⟨gR, n * 4, none⟩ (.bool ru.deny)).setCell ⟨gR, n * 4 + 1, none⟩ (.string ru.who)).setCell ⟨gR, n * 4 + 2, none⟩ (.string ru.method)).setCell ⟨gR, n * 4 + 3, none⟩ (.string ru.path)).heap.size := by simp
    replace G := ((((G.other (k' := gR) (by omega) (n * 4) (.bool ru.deny)).other (k' := gR) (by omega) (n * 4 + 1) (.string ru.who)).other (k' := gR) (by omega) (n * 4 + 2) (.string ru.method)).other (k' := gR) (by omega) (n * 4 + 3) (.string ru.path))
    replace GM := ((((GM.other (k' := gR) (by omega) (n * 4) (.bool ru.deny)).other (k' := gR) (by omega) (n * 4 + 1) (.string ru.who)).other (k' := gR) (by omega) (n * 4 + 2) (.string ru.method)).other (k' := gR) (by omega) (n * 4 + 3) (.string ru.path))
    replace G2 := ((((G2.other (k' := gR) (by omega) (n * 4) (.bool ru.deny)).other (k' := gR) (by omega) (n * 4 + 1) (.string ru.who)).other (k' := gR) (by omega) (n * 4 + 2) (.string ru.method)).other (k' := gR) (by omega) (n * 4 + 3) (.string ru.path))
    replace hBB := ((((hBB.setCell (p := ⟨gR, n * 4, none⟩) (by simp; omega) (.bool ru.deny)).setCell (p := ⟨gR, n * 4 + 1, none⟩) (by simp; omega) (.string ru.who)).setCell (p := ⟨gR, n * 4 + 2, none⟩) (by simp; omega) (.string ru.method)).setCell (p := ⟨gR, n * 4 + 3, none⟩) (by simp; omega) (.string ru.path))
    go_upto_region 16 with fail
    clear hq4
    generalize (((w3.setCell ⟨gR, n * 4, none⟩ (.bool ru.deny)).setCell ⟨gR, n * 4 + 1, none⟩ (.string ru.who)).setCell ⟨gR, n * 4 + 2, none⟩ (.string ru.method)).setCell ⟨gR, n * 4 + 3, none⟩ (.string ru.path) = W4 at *
    replace hs2 := Nat.le_trans hs2 hz4
    clear hz4
    replace O := O4
    clear a0 a1 a2 a3 a4 a5 a6 m0 m1 m2 m3 m4 m5 m6 m7
    obtain ⟨a0, a1, a2, a3, a4, a5, a6⟩ := G.c
    obtain ⟨m0, m1, m2, m3, m4, m5, m6, m7⟩ := GM.c
    clear i0 i1 i2 i3 j0 j1 j2 j3 O4
    obtain ⟨gK, cK, eK, bK, lK, kK, fK, i0, O4⟩ := sdo_ha O hn true
    cases eK
    have j0 := fK n
    clear fK
    have hq4 : w.heap.size + 1 + 1 < gH := by omega
    have hz4 : W4.heap.size ≤ (W4.setCell ⟨gH, n, none⟩ (.bool true)).heap.size := by simp
    replace G := (G.other (k' := gH) (by omega) (n) (.bool true))
    replace GM := (GM.other (k' := gH) (by omega) (n) (.bool true))
    replace G2 := (G2.other (k' := gH) (by omega) (n) (.bool true))
    replace hBB := (hBB.setCell (p := ⟨gH, n, none⟩) (by simp; omega) (.bool true))
    go_upto_region 17 with fail
    clear hq4
    generalize W4.setCell ⟨gH, n, none⟩ (.bool true) = W5 at *
    replace hs2 := Nat.le_trans hs2 hz4
    clear hz4
    replace O := O4
    clear a0 a1 a2 a3 a4 a5 a6 m0 m1 m2 m3 m4 m5 m6 m7
    obtain ⟨a0, a1, a2, a3, a4, a5, a6⟩ := G.c
    obtain ⟨m0, m1, m2, m3, m4, m5, m6, m7⟩ := GM.c
    clear i0 j0 O4
    have HR := hid ((tk_ru (s := s) (se := se) hA hC hD HL hG).trans (show ruX s ⟨2, ver, (n : Int), ru, se⟩ = ⟨s.fo, s.co, s.ru.set n ru, s.ha.set n true, s.se⟩ by unfold ruX; simp only [Int.toNat_natCast]))
    obtain ⟨r0, r1, r2, r3, r4, r5, r6⟩ := G2.c
    have f0 := G2.f 0
    have f1 := G2.f 1
    have f2 := G2.f 2
    have f3 := G2.f 3
    have f4 := G2.f 4
    have f5 := G2.f 5
    have f6 := G2.f 6
    have G3 := (((((((G2.s0 (.int .i64 s.fo.num)).s1 (.slice p1 s.fo.pol.length c1)).s2 (.slice p2 s.fo.rv.length c2)).s3 (.int .i64 s.co)).s4 (.slice (some ⟨gR, 0, none⟩) s.ru.length c3)).s5 (.slice (some ⟨gH, 0, none⟩) s.ha.length c4)).s6 (.slice p5 s.se.length c5))
    have pB := below_seven hBB (k := w.heap.size + 1 + 1) (by omega) (.int .i64 s.fo.num) (.slice p1 s.fo.pol.length c1) (.slice p2 s.fo.rv.length c2) (.int .i64 s.co) (.slice (some ⟨gR, 0, none⟩) s.ru.length c3) (.slice (some ⟨gH, 0, none⟩) s.ha.length c4) (.slice p5 s.se.length c5)
    have O9 := (sdo_set (sdo_set (sdo_set (sdo_set (sdo_set (sdo_set (sdo_set O (p := ⟨w.heap.size + 1 + 1, 0, none⟩) (by simp; omega) (.int .i64 s.fo.num)) (p := ⟨w.heap.size + 1 + 1, 1, none⟩) (by simp; omega) (.slice p1 s.fo.pol.length c1)) (p := ⟨w.heap.size + 1 + 1, 2, none⟩) (by simp; omega) (.slice p2 s.fo.rv.length c2)) (p := ⟨w.heap.size + 1 + 1, 3, none⟩) (by simp; omega) (.int .i64 s.co)) (p := ⟨w.heap.size + 1 + 1, 4, none⟩) (by simp; omega) (.slice (some ⟨gR, 0, none⟩) s.ru.length c3)) (p := ⟨w.heap.size + 1 + 1, 5, none⟩) (by simp; omega) (.slice (some ⟨gH, 0, none⟩) s.ha.length c4)) (p := ⟨w.heap.size + 1 + 1, 6, none⟩) (by simp; omega) (.slice p5 s.se.length c5))
    have hse : W5.heap.size ≤ (((((((W5.setCell ⟨w.heap.size + 1 + 1, 0, none⟩ (.int .i64 s.fo.num)).setCell ⟨w.heap.size + 1 + 1, 1, none⟩ (.slice p1 s.fo.pol.length c1)).setCell ⟨w.heap.size + 1 + 1, 2, none⟩ (.slice p2 s.fo.rv.length c2)).setCell ⟨w.heap.size + 1 + 1, 3, none⟩ (.int .i64 s.co)).setCell ⟨w.heap.size + 1 + 1, 4, none⟩ (.slice (some ⟨gR, 0, none⟩) s.ru.length c3)).setCell ⟨w.heap.size + 1 + 1, 5, none⟩ (.slice (some ⟨gH, 0, none⟩) s.ha.length c4)).setCell ⟨w.heap.size + 1 + 1, 6, none⟩ (.slice p5 s.se.length c5)).heap.size := by simp
    go_wp2_with fail
    clear r0 r1 r2 r3 r4 r5 r6 f0 f1 f2 f3 f4 f5 f6
    generalize ((((((W5.setCell ⟨w.heap.size + 1 + 1, 0, none⟩ (.int .i64 s.fo.num)).setCell ⟨w.heap.size + 1 + 1, 1, none⟩ (.slice p1 s.fo.pol.length c1)).setCell ⟨w.heap.size + 1 + 1, 2, none⟩ (.slice p2 s.fo.rv.length c2)).setCell ⟨w.heap.size + 1 + 1, 3, none⟩ (.int .i64 s.co)).setCell ⟨w.heap.size + 1 + 1, 4, none⟩ (.slice (some ⟨gR, 0, none⟩) s.ru.length c3)).setCell ⟨w.heap.size + 1 + 1, 5, none⟩ (.slice (some ⟨gH, 0, none⟩) s.ha.length c4)).setCell ⟨w.heap.size + 1 + 1, 6, none⟩ (.slice p5 s.se.length c5) = W9 at *
    obtain ⟨d0, d1, d2, d3, d4, d5, d6⟩ := G3.c
    exact bodyPost_ret (v := .agg #[.int .i64 s.fo.num, .slice p1 s.fo.pol.length c1, .slice p2 s.fo.rv.length c2, .int .i64 s.co, .slice (some ⟨gR, 0, none⟩) s.ru.length c3, .slice (some ⟨gH, 0, none⟩) s.ha.length c4, .slice p5 s.se.length c5]) (by simp [results, Tryz.results18, go_sem, d0, d1, d2, d3, d4, d5, d6]) rfl ⟨_, rfl, by rw [HR.out]; exact O9.mono (by omega) (by omega), pB⟩
  have k2' : (kd == 2) = false := by simpa using k2
  by_cases k3 : kd = 3
  · subst k3
    go_wp2_with fail
    refine (l3Num_any se _).mono ?_
    rintro e w3 ⟨rfl, rfl⟩
    clear O0 cH0 fH lH
    cases hG : numB se
    case false =>
      have HR := hid (tk_se0 (s := s) (ru := ru) hA hC hD HL hG)
      obtain ⟨r0, r1, r2, r3, r4, r5, r6⟩ := G2.c
      have f0 := G2.f 0
      have f1 := G2.f 1
      have f2 := G2.f 2
      have f3 := G2.f 3
      have f4 := G2.f 4
      have f5 := G2.f 5
      have f6 := G2.f 6
      have G3 := (((((((G2.s0 (.int .i64 s.fo.num)).s1 (.slice p1 s.fo.pol.length c1)).s2 (.slice p2 s.fo.rv.length c2)).s3 (.int .i64 s.co)).s4 (.slice p3 s.ru.length c3)).s5 (.slice (some ⟨gH, 0, none⟩) s.ha.length c4)).s6 (.slice p5 s.se.length c5))
      have pB := below_seven hBB (k := w.heap.size + 1 + 1) (by omega) (.int .i64 s.fo.num) (.slice p1 s.fo.pol.length c1) (.slice p2 s.fo.rv.length c2) (.int .i64 s.co) (.slice p3 s.ru.length c3) (.slice (some ⟨gH, 0, none⟩) s.ha.length c4) (.slice p5 s.se.length c5)
      have O9 := (sdo_set (sdo_set (sdo_set (sdo_set (sdo_set (sdo_set (sdo_set O (p := ⟨w.heap.size + 1 + 1, 0, none⟩) (by simp; omega) (.int .i64 s.fo.num)) (p := ⟨w.heap.size + 1 + 1, 1, none⟩) (by simp; omega) (.slice p1 s.fo.pol.length c1)) (p := ⟨w.heap.size + 1 + 1, 2, none⟩) (by simp; omega) (.slice p2 s.fo.rv.length c2)) (p := ⟨w.heap.size + 1 + 1, 3, none⟩) (by simp; omega) (.int .i64 s.co)) (p := ⟨w.heap.size + 1 + 1, 4, none⟩) (by simp; omega) (.slice p3 s.ru.length c3)) (p := ⟨w.heap.size + 1 + 1, 5, none⟩) (by simp; omega) (.slice (some ⟨gH, 0, none⟩) s.ha.length c4)) (p := ⟨w.heap.size + 1 + 1, 6, none⟩) (by simp; omega) (.slice p5 s.se.length c5))
      have hse : w3.heap.size ≤ (((((((w3.setCell ⟨w.heap.size + 1 + 1, 0, none⟩ (.int .i64 s.fo.num)).setCell ⟨w.heap.size + 1 + 1, 1, none⟩ (.slice p1 s.fo.pol.length c1)).setCell ⟨w.heap.size + 1 + 1, 2, none⟩ (.slice p2 s.fo.rv.length c2)).setCell ⟨w.heap.size + 1 + 1, 3, none⟩ (.int .i64 s.co)).setCell ⟨w.heap.size + 1 + 1, 4, none⟩ (.slice p3 s.ru.length c3)).setCell ⟨w.heap.size + 1 + 1, 5, none⟩ (.slice (some ⟨gH, 0, none⟩) s.ha.length c4)).setCell ⟨w.heap.size + 1 + 1, 6, none⟩ (.slice p5 s.se.length c5)).heap.size := by simp
      go_wp2_with fail
      clear r0 r1 r2 r3 r4 r5 r6 f0 f1 f2 f3 f4 f5 f6
      generalize ((((((w3.setCell ⟨w.heap.size + 1 + 1, 0, none⟩ (.int .i64 s.fo.num)).setCell ⟨w.heap.size + 1 + 1, 1, none⟩ (.slice p1 s.fo.pol.length c1)).setCell ⟨w.heap.size + 1 + 1, 2, none⟩ (.slice p2 s.fo.rv.length c2)).setCell ⟨w.heap.size + 1 + 1, 3, none⟩ (.int .i64 s.co)).setCell ⟨w.heap.size + 1 + 1, 4, none⟩ (.slice p3 s.ru.length c3)).setCell ⟨w.heap.size + 1 + 1, 5, none⟩ (.slice (some ⟨gH, 0, none⟩) s.ha.length c4)).setCell ⟨w.heap.size + 1 + 1, 6, none⟩ (.slice p5 s.se.length c5) = W9 at *
      obtain ⟨d0, d1, d2, d3, d4, d5, d6⟩ := G3.c
      exact bodyPost_ret (v := .agg #[.int .i64 s.fo.num, .slice p1 s.fo.pol.length c1, .slice p2 s.fo.rv.length c2, .int .i64 s.co, .slice p3 s.ru.length c3, .slice (some ⟨gH, 0, none⟩) s.ha.length c4, .slice p5 s.se.length c5]) (by simp [results, Tryz.results18, go_sem, d0, d1, d2, d3, d4, d5, d6]) rfl ⟨_, rfl, by rw [HR.out]; exact O9.mono (by omega) (by omega), pB⟩
    obtain ⟨gZ, cZ, eZ, bZ, lZ, kZ, fZ, i0, O4⟩ := sdo_se O hnz se
    cases eZ
    have j0 := fZ n
    clear fZ
    have hq4 : w.heap.size + 1 + 1 < gZ := by omega
    have hz4 : w3.heap.size ≤ (w3.setCell ⟨gZ, n, none⟩ (.int .i64 se)).heap.size := by simp
    replace G := (G.other (k' := gZ) (by omega) (n) (.int .i64 se))
    replace GM := (GM.other (k' := gZ) (by omega) (n) (.int .i64 se))
    replace G2 := (G2.other (k' := gZ) (by omega) (n) (.int .i64 se))
    replace hBB := (hBB.setCell (p := ⟨gZ, n, none⟩) (by simp; omega) (.int .i64 se))
    go_upto_region 19 with fail
    clear hq4
    generalize w3.setCell ⟨gZ, n, none⟩ (.int .i64 se) = W4 at *
    replace hs2 := Nat.le_trans hs2 hz4
    clear hz4
    replace O := O4
    clear a0 a1 a2 a3 a4 a5 a6 m0 m1 m2 m3 m4 m5 m6 m7
    obtain ⟨a0, a1, a2, a3, a4, a5, a6⟩ := G.c
    obtain ⟨m0, m1, m2, m3, m4, m5, m6, m7⟩ := GM.c
    clear i0 j0 O4
    obtain ⟨gK, cK, eK, bK, lK, kK, fK, i0, O4⟩ := sdo_ha O hn true
    cases eK
    have j0 := fK n
    clear fK
    have hq4 : w.heap.size + 1 + 1 < gH := by omega
    have hz4 : W4.heap.size ≤ (W4.setCell ⟨gH, n, none⟩ (.bool true)).heap.size := by simp
    replace G := (G.other (k' := gH) (by omega) (n) (.bool true))
    replace GM := (GM.other (k' := gH) (by omega) (n) (.bool true))
    replace G2 := (G2.other (k' := gH) (by omega) (n) (.bool true))
    replace hBB := (hBB.setCell (p := ⟨gH, n, none⟩) (by simp; omega) (.bool true))
    go_upto_region 20 with fail
    clear hq4
    generalize W4.setCell ⟨gH, n, none⟩ (.bool true) = W5 at *
    replace hs2 := Nat.le_trans hs2 hz4
    clear hz4
    replace O := O4
    clear a0 a1 a2 a3 a4 a5 a6 m0 m1 m2 m3 m4 m5 m6 m7
    obtain ⟨a0, a1, a2, a3, a4, a5, a6⟩ := G.c
    obtain ⟨m0, m1, m2, m3, m4, m5, m6, m7⟩ := GM.c
    clear i0 j0 O4
    have HR := hid ((tk_se (s := s) (ru := ru) hA hC hD HL hG).trans (show seX6 s ⟨3, ver, (n : Int), ru, se⟩ = ⟨s.fo, s.co, s.ru, s.ha.set n true, s.se.set n se⟩ by unfold seX6; simp only [Int.toNat_natCast]))
    obtain ⟨r0, r1, r2, r3, r4, r5, r6⟩ := G2.c
    have f0 := G2.f 0
    have f1 := G2.f 1
    have f2 := G2.f 2
    have f3 := G2.f 3
    have f4 := G2.f 4
    have f5 := G2.f 5
    have f6 := G2.f 6
    have G3 := (((((((G2.s0 (.int .i64 s.fo.num)).s1 (.slice p1 s.fo.pol.length c1)).s2 (.slice p2 s.fo.rv.length c2)).s3 (.int .i64 s.co)).s4 (.slice p3 s.ru.length c3)).s5 (.slice (some ⟨gH, 0, none⟩) s.ha.length c4)).s6 (.slice (some ⟨gZ, 0, none⟩) s.se.length c5))
    have pB := below_seven hBB (k := w.heap.size + 1 + 1) (by omega) (.int .i64 s.fo.num) (.slice p1 s.fo.pol.length c1) (.slice p2 s.fo.rv.length c2) (.int .i64 s.co) (.slice p3 s.ru.length c3) (.slice (some ⟨gH, 0, none⟩) s.ha.length c4) (.slice (some ⟨gZ, 0, none⟩) s.se.length c5)
    have O9 := (sdo_set (sdo_set (sdo_set (sdo_set (sdo_set (sdo_set (sdo_set O (p := ⟨w.heap.size + 1 + 1, 0, none⟩) (by simp; omega) (.int .i64 s.fo.num)) (p := ⟨w.heap.size + 1 + 1, 1, none⟩) (by simp; omega) (.slice p1 s.fo.pol.length c1)) (p := ⟨w.heap.size + 1 + 1, 2, none⟩) (by simp; omega) (.slice p2 s.fo.rv.length c2)) (p := ⟨w.heap.size + 1 + 1, 3, none⟩) (by simp; omega) (.int .i64 s.co)) (p := ⟨w.heap.size + 1 + 1, 4, none⟩) (by simp; omega) (.slice p3 s.ru.length c3)) (p := ⟨w.heap.size + 1 + 1, 5, none⟩) (by simp; omega) (.slice (some ⟨gH, 0, none⟩) s.ha.length c4)) (p := ⟨w.heap.size + 1 + 1, 6, none⟩) (by simp; omega) (.slice (some ⟨gZ, 0, none⟩) s.se.length c5))
    have hse : W5.heap.size ≤ (((((((W5.setCell ⟨w.heap.size + 1 + 1, 0, none⟩ (.int .i64 s.fo.num)).setCell ⟨w.heap.size + 1 + 1, 1, none⟩ (.slice p1 s.fo.pol.length c1)).setCell ⟨w.heap.size + 1 + 1, 2, none⟩ (.slice p2 s.fo.rv.length c2)).setCell ⟨w.heap.size + 1 + 1, 3, none⟩ (.int .i64 s.co)).setCell ⟨w.heap.size + 1 + 1, 4, none⟩ (.slice p3 s.ru.length c3)).setCell ⟨w.heap.size + 1 + 1, 5, none⟩ (.slice (some ⟨gH, 0, none⟩) s.ha.length c4)).setCell ⟨w.heap.size + 1 + 1, 6, none⟩ (.slice (some ⟨gZ, 0, none⟩) s.se.length c5)).heap.size := by simp
    go_wp2_with fail
    clear r0 r1 r2 r3 r4 r5 r6 f0 f1 f2 f3 f4 f5 f6
    generalize ((((((W5.setCell ⟨w.heap.size + 1 + 1, 0, none⟩ (.int .i64 s.fo.num)).setCell ⟨w.heap.size + 1 + 1, 1, none⟩ (.slice p1 s.fo.pol.length c1)).setCell ⟨w.heap.size + 1 + 1, 2, none⟩ (.slice p2 s.fo.rv.length c2)).setCell ⟨w.heap.size + 1 + 1, 3, none⟩ (.int .i64 s.co)).setCell ⟨w.heap.size + 1 + 1, 4, none⟩ (.slice p3 s.ru.length c3)).setCell ⟨w.heap.size + 1 + 1, 5, none⟩ (.slice (some ⟨gH, 0, none⟩) s.ha.length c4)).setCell ⟨w.heap.size + 1 + 1, 6, none⟩ (.slice (some ⟨gZ, 0, none⟩) s.se.length c5) = W9 at *
    obtain ⟨d0, d1, d2, d3, d4, d5, d6⟩ := G3.c
    exact bodyPost_ret (v := .agg #[.int .i64 s.fo.num, .slice p1 s.fo.pol.length c1, .slice p2 s.fo.rv.length c2, .int .i64 s.co, .slice p3 s.ru.length c3, .slice (some ⟨gH, 0, none⟩) s.ha.length c4, .slice (some ⟨gZ, 0, none⟩) s.se.length c5]) (by simp [results, Tryz.results18, go_sem, d0, d1, d2, d3, d4, d5, d6]) rfl ⟨_, rfl, by rw [HR.out]; exact O9.mono (by omega) (by omega), pB⟩
  have k3' : (kd == 3) = false := by simpa using k3
  clear O0 fH lH
  have HR := hid (tk_no (s := s) (no := (n : Int)) (ru := ru) (se := se) hA hC k1' k4' k2' k3' hD)
  obtain ⟨r0, r1, r2, r3, r4, r5, r6⟩ := G2.c
  have f0 := G2.f 0
  have f1 := G2.f 1
  have f2 := G2.f 2
  have f3 := G2.f 3
  have f4 := G2.f 4
  have f5 := G2.f 5
  have f6 := G2.f 6
  have G3 := (((((((G2.s0 (.int .i64 s.fo.num)).s1 (.slice p1 s.fo.pol.length c1)).s2 (.slice p2 s.fo.rv.length c2)).s3 (.int .i64 s.co)).s4 (.slice p3 s.ru.length c3)).s5 (.slice (some ⟨gH, 0, none⟩) s.ha.length c4)).s6 (.slice p5 s.se.length c5))
  have pB := below_seven hBB (k := w.heap.size + 1 + 1) (by omega) (.int .i64 s.fo.num) (.slice p1 s.fo.pol.length c1) (.slice p2 s.fo.rv.length c2) (.int .i64 s.co) (.slice p3 s.ru.length c3) (.slice (some ⟨gH, 0, none⟩) s.ha.length c4) (.slice p5 s.se.length c5)
  have O9 := (sdo_set (sdo_set (sdo_set (sdo_set (sdo_set (sdo_set (sdo_set O (p := ⟨w.heap.size + 1 + 1, 0, none⟩) (by simp; omega) (.int .i64 s.fo.num)) (p := ⟨w.heap.size + 1 + 1, 1, none⟩) (by simp; omega) (.slice p1 s.fo.pol.length c1)) (p := ⟨w.heap.size + 1 + 1, 2, none⟩) (by simp; omega) (.slice p2 s.fo.rv.length c2)) (p := ⟨w.heap.size + 1 + 1, 3, none⟩) (by simp; omega) (.int .i64 s.co)) (p := ⟨w.heap.size + 1 + 1, 4, none⟩) (by simp; omega) (.slice p3 s.ru.length c3)) (p := ⟨w.heap.size + 1 + 1, 5, none⟩) (by simp; omega) (.slice (some ⟨gH, 0, none⟩) s.ha.length c4)) (p := ⟨w.heap.size + 1 + 1, 6, none⟩) (by simp; omega) (.slice p5 s.se.length c5))
  have hse : wx.heap.size ≤ (((((((wx.setCell ⟨w.heap.size + 1 + 1, 0, none⟩ (.int .i64 s.fo.num)).setCell ⟨w.heap.size + 1 + 1, 1, none⟩ (.slice p1 s.fo.pol.length c1)).setCell ⟨w.heap.size + 1 + 1, 2, none⟩ (.slice p2 s.fo.rv.length c2)).setCell ⟨w.heap.size + 1 + 1, 3, none⟩ (.int .i64 s.co)).setCell ⟨w.heap.size + 1 + 1, 4, none⟩ (.slice p3 s.ru.length c3)).setCell ⟨w.heap.size + 1 + 1, 5, none⟩ (.slice (some ⟨gH, 0, none⟩) s.ha.length c4)).setCell ⟨w.heap.size + 1 + 1, 6, none⟩ (.slice p5 s.se.length c5)).heap.size := by simp
  go_wp2_with fail
  clear r0 r1 r2 r3 r4 r5 r6 f0 f1 f2 f3 f4 f5 f6
  generalize ((((((wx.setCell ⟨w.heap.size + 1 + 1, 0, none⟩ (.int .i64 s.fo.num)).setCell ⟨w.heap.size + 1 + 1, 1, none⟩ (.slice p1 s.fo.pol.length c1)).setCell ⟨w.heap.size + 1 + 1, 2, none⟩ (.slice p2 s.fo.rv.length c2)).setCell ⟨w.heap.size + 1 + 1, 3, none⟩ (.int .i64 s.co)).setCell ⟨w.heap.size + 1 + 1, 4, none⟩ (.slice p3 s.ru.length c3)).setCell ⟨w.heap.size + 1 + 1, 5, none⟩ (.slice (some ⟨gH, 0, none⟩) s.ha.length c4)).setCell ⟨w.heap.size + 1 + 1, 6, none⟩ (.slice p5 s.se.length c5) = W9 at *
  obtain ⟨d0, d1, d2, d3, d4, d5, d6⟩ := G3.c
  exact bodyPost_ret (v := .agg #[.int .i64 s.fo.num, .slice p1 s.fo.pol.length c1, .slice p2 s.fo.rv.length c2, .int .i64 s.co, .slice p3 s.ru.length c3, .slice (some ⟨gH, 0, none⟩) s.ha.length c4, .slice p5 s.se.length c5]) (by simp [results, Tryz.results18, go_sem, d0, d1, d2, d3, d4, d5, d6]) rfl ⟨_, rfl, by rw [HR.out]; exact O9.mono (by omega) (by omega), pB⟩

set_option maxHeartbeats 4000000 in
set_option maxRecDepth 100000 in
theorem specTake_any (v : Value) (s : Sd) (m : Ml) (w : World) (hs : s.short) (hl : sdB s = true → loB s) (hr : m.ru.size ≤ 1048576) (h : SdR w v s) :
    Calls Tryz.prog 6 #[v, m.val] w fun e w' => ∃ v', e = .returned (.tuple #[v', .bool (sdB s)]) ∧ SdO w' w.heap.size w'.heap.size v' (tmX s m) ∧ Below w.heap.size w w' := by
  have h' := h
  obtain ⟨kd, ver, no, ru, se⟩ := m
  obtain ⟨vp, vr, vu, vh, vs, rfl, h1, h2, h3, h4, h5⟩ := h
  have hs' := hs
  obtain ⟨hf, l3, l4, l5, lr⟩ := hs
  obtain ⟨ap, cp, rfl⟩ := h1.len
  obtain ⟨ar, cr, rfl⟩ := h2.len
  obtain ⟨au, cu, rfl⟩ := h3.len
  obtain ⟨ah, ch, rfl⟩ := h4.s.bolLen
  obtain ⟨ai, ci, rfl⟩ := h5.len
  have hB0 : Below w.heap.size w (((w.alloc (.cells #[.int .i64 s.fo.num, .slice ap s.fo.pol.length cp, .slice ar s.fo.rv.length cr, .int .i64 s.co, .slice au s.ru.length cu, .slice ah s.ha.length ch, .slice ai s.se.length ci] 29)).alloc (.cells #[.int .i64 kd, .int .i64 ver, .int .i64 no, .bool ru.deny, .string ru.who, .string ru.method, .string ru.path, .int .i64 se] 33)).alloc (.cells #[.int .i64 0, .slice none 0 0, .slice none 0 0, .int .i64 0, .slice none 0 0, .slice none 0 0, .slice none 0 0] 29)) := (((Below.refl _ w).alloc (Nat.le_refl _) _).alloc (by simp) _).alloc (by simp; omega) _
  have F := ((Seven.new w (.int .i64 s.fo.num) (.slice ap s.fo.pol.length cp) (.slice ar s.fo.rv.length cr) (.int .i64 s.co) (.slice au s.ru.length cu) (.slice ah s.ha.length ch) (.slice ai s.se.length ci) 29).below ((Below.refl _ _).alloc (Nat.le_refl _) (.cells #[.int .i64 kd, .int .i64 ver, .int .i64 no, .bool ru.deny, .string ru.who, .string ru.method, .string ru.path, .int .i64 se] 33))).below ((Below.refl _ _).alloc (Nat.le_refl _) (.cells #[.int .i64 0, .slice none 0 0, .slice none 0 0, .int .i64 0, .slice none 0 0, .slice none 0 0, .slice none 0 0] 29))
  have FM := (Eight.at (w.alloc (.cells #[.int .i64 s.fo.num, .slice ap s.fo.pol.length cp, .slice ar s.fo.rv.length cr, .int .i64 s.co, .slice au s.ru.length cu, .slice ah s.ha.length ch, .slice ai s.se.length ci] 29)) (.int .i64 kd) (.int .i64 ver) (.int .i64 no) (.bool ru.deny) (.string ru.who) (.string ru.method) (.string ru.path) (.int .i64 se) 33 (k := w.heap.size + 1) (by simp)).below ((Below.refl _ _).alloc (Nat.le_refl _) (.cells #[.int .i64 0, .slice none 0 0, .slice none 0 0, .int .i64 0, .slice none 0 0, .slice none 0 0, .slice none 0 0] 29))
  have F2 := Seven.at ((w.alloc (.cells #[.int .i64 s.fo.num, .slice ap s.fo.pol.length cp, .slice ar s.fo.rv.length cr, .int .i64 s.co, .slice au s.ru.length cu, .slice ah s.ha.length ch, .slice ai s.se.length ci] 29)).alloc (.cells #[.int .i64 kd, .int .i64 ver, .int .i64 no, .bool ru.deny, .string ru.who, .string ru.method, .string ru.path, .int .i64 se] 33)) (.int .i64 0) (.slice none 0 0) (.slice none 0 0) (.int .i64 0) (.slice none 0 0) (.slice none 0 0) (.slice none 0 0) 29 (k := w.heap.size + 1 + 1) (by simp)
  have hk2 := F2.lt
  go_enter Tryz.func6, Tryz.ntmps6
  go_upto_region 1 with fail
  generalize ((w.alloc (.cells #[.int .i64 s.fo.num, .slice ap s.fo.pol.length cp, .slice ar s.fo.rv.length cr, .int .i64 s.co, .slice au s.ru.length cu, .slice ah s.ha.length ch, .slice ai s.se.length ci] 29)).alloc (.cells #[.int .i64 kd, .int .i64 ver, .int .i64 no, .bool ru.deny, .string ru.who, .string ru.method, .string ru.path, .int .i64 se] 33)).alloc (.cells #[.int .i64 0, .slice none 0 0, .slice none 0 0, .int .i64 0, .slice none 0 0, .slice none 0 0, .slice none 0 0] 29) = W0 at *
  obtain ⟨a0, a1, a2, a3, a4, a5, a6⟩ := F.c
  go_wp2_with fail
  refine (specGoodSide_any _ s _ hs' (h'.below hB0).a).mono ?_
  rintro e w1 ⟨rfl, hB1⟩
  replace F := F.below hB1
  replace FM := FM.below hB1
  replace F2 := F2.below hB1
  replace hB0 := below_one hB0 hB1
  have hs1 := hB1.size
  clear hB1 a0 a1 a2 a3 a4 a5 a6
  obtain ⟨a0, a1, a2, a3, a4, a5, a6⟩ := F.c
  obtain ⟨m0, m1, m2, m3, m4, m5, m6, m7⟩ := FM.c
  cases hg : sdB s
  case false =>
    have HR := hid (tmX_no (m := ⟨kd, ver, no, ru, se⟩) hg)
    have HG := hid hg
    obtain ⟨r0, r1, r2, r3, r4, r5, r6⟩ := F2.c
    have f0 := F2.f 0
    have f1 := F2.f 1
    have f2 := F2.f 2
    have f3 := F2.f 3
    have f4 := F2.f 4
    have f5 := F2.f 5
    have f6 := F2.f 6
    have G3 := (((((((F2.s0 (.int .i64 0)).s1 (.slice none 0 0)).s2 (.slice none 0 0)).s3 (.int .i64 0)).s4 (.slice none 0 0)).s5 (.slice none 0 0)).s6 (.slice none 0 0))
    have pB := below_seven hB0 (k := w.heap.size + 1 + 1) (by omega) (.int .i64 0) (.slice none 0 0) (.slice none 0 0) (.int .i64 0) (.slice none 0 0) (.slice none 0 0) (.slice none 0 0)
    have hse : w1.heap.size ≤ (((((((w1.setCell ⟨w.heap.size + 1 + 1, 0, none⟩ (.int .i64 0)).setCell ⟨w.heap.size + 1 + 1, 1, none⟩ (.slice none 0 0)).setCell ⟨w.heap.size + 1 + 1, 2, none⟩ (.slice none 0 0)).setCell ⟨w.heap.size + 1 + 1, 3, none⟩ (.int .i64 0)).setCell ⟨w.heap.size + 1 + 1, 4, none⟩ (.slice none 0 0)).setCell ⟨w.heap.size + 1 + 1, 5, none⟩ (.slice none 0 0)).setCell ⟨w.heap.size + 1 + 1, 6, none⟩ (.slice none 0 0)).heap.size := by simp
    go_wp2_with fail
    clear r0 r1 r2 r3 r4 r5 r6 f0 f1 f2 f3 f4 f5 f6
    generalize ((((((w1.setCell ⟨w.heap.size + 1 + 1, 0, none⟩ (.int .i64 0)).setCell ⟨w.heap.size + 1 + 1, 1, none⟩ (.slice none 0 0)).setCell ⟨w.heap.size + 1 + 1, 2, none⟩ (.slice none 0 0)).setCell ⟨w.heap.size + 1 + 1, 3, none⟩ (.int .i64 0)).setCell ⟨w.heap.size + 1 + 1, 4, none⟩ (.slice none 0 0)).setCell ⟨w.heap.size + 1 + 1, 5, none⟩ (.slice none 0 0)).setCell ⟨w.heap.size + 1 + 1, 6, none⟩ (.slice none 0 0) = W9 at *
    obtain ⟨d0, d1, d2, d3, d4, d5, d6⟩ := G3.c
    exact bodyPost_ret (v := .tuple #[.agg #[.int .i64 0, .slice none 0 0, .slice none 0 0, .int .i64 0, .slice none 0 0, .slice none 0 0, .slice none 0 0], .bool false]) (by simp [results, Tryz.results6, go_sem, d0, d1, d2, d3, d4, d5, d6]) rfl ⟨_, by rw [HG.out], by rw [HR.out]; exact SdO.none _ _ _ (by omega), pB⟩
  have HR := hid (tmX_yes (m := ⟨kd, ver, no, ru, se⟩) hg)
  have HG := hid hg
  have hM := fun W hW => l6Take_any (.agg #[.int .i64 s.fo.num, .slice ap s.fo.pol.length cp, .slice ar s.fo.rv.length cr, .int .i64 s.co, .slice au s.ru.length cu, .slice ah s.ha.length ch, .slice ai s.se.length ci]) s kd ver no ru se W hs' hg (hl hg) hr hW
  go_wp2_with fail
  refine (hM _ (h'.below hB0)).mono ?_
  rintro e w3 ⟨v3, rfl, O3, hB3⟩
  replace F2 := F2.below hB3
  have hs3 := hB3.size
  replace hB0 := below_one hB0 hB3
  obtain ⟨y1, x1, y2, x2, y3, x3, y4, x4, y5, x5, rfl⟩ := sd_forms O3.a
  generalize tkX s ⟨kd, ver, no, ru, se⟩ = X at *
  clear hM
  obtain ⟨r0, r1, r2, r3, r4, r5, r6⟩ := F2.c
  have f0 := F2.f 0
  have f1 := F2.f 1
  have f2 := F2.f 2
  have f3 := F2.f 3
  have f4 := F2.f 4
  have f5 := F2.f 5
  have f6 := F2.f 6
  have G3 := (((((((F2.s0 (.int .i64 X.fo.num)).s1 (.slice y1 X.fo.pol.length x1)).s2 (.slice y2 X.fo.rv.length x2)).s3 (.int .i64 X.co)).s4 (.slice y3 X.ru.length x3)).s5 (.slice y4 X.ha.length x4)).s6 (.slice y5 X.se.length x5))
  have pB := below_seven hB0 (k := w.heap.size + 1 + 1) (by omega) (.int .i64 X.fo.num) (.slice y1 X.fo.pol.length x1) (.slice y2 X.fo.rv.length x2) (.int .i64 X.co) (.slice y3 X.ru.length x3) (.slice y4 X.ha.length x4) (.slice y5 X.se.length x5)
  have O9 := (sdo_set (sdo_set (sdo_set (sdo_set (sdo_set (sdo_set (sdo_set O3 (p := ⟨w.heap.size + 1 + 1, 0, none⟩) (by simp; omega) (.int .i64 X.fo.num)) (p := ⟨w.heap.size + 1 + 1, 1, none⟩) (by simp; omega) (.slice y1 X.fo.pol.length x1)) (p := ⟨w.heap.size + 1 + 1, 2, none⟩) (by simp; omega) (.slice y2 X.fo.rv.length x2)) (p := ⟨w.heap.size + 1 + 1, 3, none⟩) (by simp; omega) (.int .i64 X.co)) (p := ⟨w.heap.size + 1 + 1, 4, none⟩) (by simp; omega) (.slice y3 X.ru.length x3)) (p := ⟨w.heap.size + 1 + 1, 5, none⟩) (by simp; omega) (.slice y4 X.ha.length x4)) (p := ⟨w.heap.size + 1 + 1, 6, none⟩) (by simp; omega) (.slice y5 X.se.length x5))
  have hse : w3.heap.size ≤ (((((((w3.setCell ⟨w.heap.size + 1 + 1, 0, none⟩ (.int .i64 X.fo.num)).setCell ⟨w.heap.size + 1 + 1, 1, none⟩ (.slice y1 X.fo.pol.length x1)).setCell ⟨w.heap.size + 1 + 1, 2, none⟩ (.slice y2 X.fo.rv.length x2)).setCell ⟨w.heap.size + 1 + 1, 3, none⟩ (.int .i64 X.co)).setCell ⟨w.heap.size + 1 + 1, 4, none⟩ (.slice y3 X.ru.length x3)).setCell ⟨w.heap.size + 1 + 1, 5, none⟩ (.slice y4 X.ha.length x4)).setCell ⟨w.heap.size + 1 + 1, 6, none⟩ (.slice y5 X.se.length x5)).heap.size := by simp
  go_wp2_with fail
  clear r0 r1 r2 r3 r4 r5 r6 f0 f1 f2 f3 f4 f5 f6
  generalize ((((((w3.setCell ⟨w.heap.size + 1 + 1, 0, none⟩ (.int .i64 X.fo.num)).setCell ⟨w.heap.size + 1 + 1, 1, none⟩ (.slice y1 X.fo.pol.length x1)).setCell ⟨w.heap.size + 1 + 1, 2, none⟩ (.slice y2 X.fo.rv.length x2)).setCell ⟨w.heap.size + 1 + 1, 3, none⟩ (.int .i64 X.co)).setCell ⟨w.heap.size + 1 + 1, 4, none⟩ (.slice y3 X.ru.length x3)).setCell ⟨w.heap.size + 1 + 1, 5, none⟩ (.slice y4 X.ha.length x4)).setCell ⟨w.heap.size + 1 + 1, 6, none⟩ (.slice y5 X.se.length x5) = W9 at *
  obtain ⟨d0, d1, d2, d3, d4, d5, d6⟩ := G3.c
  exact bodyPost_ret (v := .tuple #[.agg #[.int .i64 X.fo.num, .slice y1 X.fo.pol.length x1, .slice y2 X.fo.rv.length x2, .int .i64 X.co, .slice y3 X.ru.length x3, .slice y4 X.ha.length x4, .slice y5 X.se.length x5], .bool true]) (by simp [results, Tryz.results6, go_sem, d0, d1, d2, d3, d4, d5, d6]) rfl ⟨_, by rw [HG.out], by rw [HR.out]; exact O9.mono (by omega) (by omega), pB⟩

end Go.Proofs.YtjnajdilllkpcaaGreat
