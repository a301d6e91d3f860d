/-
  Works, lists of works and issuers held against each other by the laws, measured, and handed on.
-/
import Derived.Test.YtfchmhcnejifhaaDoorWorkV
namespace Go.Proofs.YtfchmhcnejifhaaDoor
open Go.RowKit Go.Shelf

set_option maxHeartbeats 1000000 in
theorem eqWork_same (r : Wk) (w : World) :
    Calls Tryd.prog 59 #[r.val, r.val] w fun e w' => e = .returned (.bool true) ∧ Below w.heap.size w w' := by
  have e0 : (r.name.toList == r.name.toList) = true := by simp
  have e1 : (r.live != r.live) = false := by simp
  have e2 : (r.se != r.se) = false := by simp
  go_enter Tryd.func59, Tryd.ntmps59
  go_wp2
  go_ret
  exact ⟨rfl, ((Below.refl _ w).alloc (Nat.le_refl _) _).alloc (by simp) _⟩

set_option maxHeartbeats 2000000 in
/-- A list of works is like itself, wherever the two lie. -/
theorem eqWorkS_same (v v' : Value) (ks : List Wk) (w : World) (hn : ks.length ≤ 1048577) (hr : WkS w v ks) (hr' : WkS w v' ks) :
    Calls Tryd.prog 30 #[v, v'] w fun e w' => e = .returned (.bool true) ∧ Below w.heap.size w w' := by
  obtain ⟨a, cap, rfl⟩ := hr.len
  obtain ⟨a', cap', rfl⟩ := hr'.len
  have e0 : ((ks.length : Int) != (ks.length : Int)) = false := by simp
  go_enter Tryd.func30, Tryd.ntmps30
  go_wp2
  go_loopw [5] (fun i wr => ∃ j : Nat, j ≤ ks.length ∧ i = .int .i64 j ∧ Below w.heap.size w wr) (fun i _ => ks.length - (intOf i).toNat)
  case atStart => exact ⟨0, Nat.zero_le _, rfl, Below.refl _ _⟩
  case round =>
    obtain ⟨j, hj, rfl, hB⟩ := hrel
    by_cases hlt : j < ks.length
    · obtain ⟨b, off, rfl, hb, hcap, q0, q1, q2⟩ := (hr.below hB).at hlt
      obtain ⟨b', off', rfl, hb', hcap', p0, p1, p2⟩ := (hr'.below hB).at hlt
      generalize ks[j] = r at *
      go_wp2_with fail
      go_region_with (go_at_call 59; refine (eqWork_same r _).mono ?_; rintro e w1 ⟨rfl, hB1⟩)
      all_goals go_wp2
      all_goals go_roundw
      all_goals first
        | exact ⟨j + 1, by omega, by go_num, below_one hB (below_drew1 hB1)⟩
        | (simp [intOf]; omega)
    · obtain rfl : j = ks.length := by omega
      go_wp2
      go_ret
      exact ⟨rfl, hB⟩

/-- No list of an issuer is longer than the laws take. -/
def Is.short (s : Is) : Prop := s.ws.length ≤ 1048577 ∧ s.rv.length ≤ 1048577 ∧ s.sg.length ≤ 1048577
set_option maxHeartbeats 2000000 in
/-- An issuer is like itself, wherever the two lie. -/
theorem eqIssuer_same (v v' : Value) (s : Is) (w : World) (hs : s.short) (h : IsA w v s) (h' : IsA w v' s) :
    Calls Tryd.prog 9 #[v, v'] w fun e w' => e = .returned (.bool true) ∧ Below w.heap.size w w' := by
  obtain ⟨vw, vr, vs, rfl, h1, h2, h3⟩ := h.parts
  obtain ⟨vw', vr', vs', rfl, h1', h2', h3'⟩ := h'.parts
  obtain ⟨l1, l2, l3⟩ := hs
  have hB0 : Below w.heap.size w ((w.alloc (.cells #[vw, .int .i64 s.nx, vr, vs] 30)).alloc (.cells #[vw', .int .i64 s.nx, vr', vs'] 30)) := ((Below.refl _ w).alloc (Nat.le_refl _) _).alloc (by simp) _
  have F1 := (Four.new w vw (.int .i64 s.nx) vr vs 30).below ((Below.refl _ _).alloc (Nat.le_refl _) (.cells #[vw', .int .i64 s.nx, vr', vs'] 30))
  have F2 := Four.at (w.alloc (.cells #[vw, .int .i64 s.nx, vr, vs] 30)) vw' (.int .i64 s.nx) vr' vs' 30 (k := w.heap.size + 1) (by simp)
  have e1 : (s.nx != s.nx) = false := by simp
  go_enter Tryd.func9, Tryd.ntmps9
  go_wp2_with fail
  generalize (w.alloc (.cells #[vw, .int .i64 s.nx, vr, vs] 30)).alloc (.cells #[vw', .int .i64 s.nx, vr', vs'] 30) = W0 at *
  refine (eqWorkS_same vw vw' s.ws _ l1 (h1.below hB0) (h1'.below hB0)).mono ?_
  rintro e w1 ⟨rfl, hB1⟩
  replace F1 := F1.below hB1
  replace F2 := F2.below hB1
  have hBB1 := below_one hB0 hB1
  clear hB1 hB0
  obtain ⟨a0, a1, a2, a3⟩ := F1.c
  obtain ⟨c0, c1, c2, c3⟩ := F2.c
  go_wp2_with fail
  refine (eqIntS_same vr vr' s.rv _ l2 (h2.below hBB1) (h2'.below hBB1)).mono ?_
  rintro e w2 ⟨rfl, hB2⟩
  replace F1 := F1.below hB2
  replace F2 := F2.below hB2
  have hBB2 := below_one hBB1 hB2
  clear a0 a1 a2 a3 c0 c1 c2 c3 hB2
  obtain ⟨a0, a1, a2, a3⟩ := F1.c
  obtain ⟨c0, c1, c2, c3⟩ := F2.c
  go_wp2_with fail
  refine (eqStringS_any vs vs' s.sg _ l3 (h3.below hBB2) (h3'.below hBB2)).mono ?_
  rintro e w3 ⟨rfl, hB3⟩
  go_wp2_with fail
  go_ret
  exact ⟨rfl, below_one hBB2 hB3⟩

set_option maxHeartbeats 2000000 in
theorem szIssuer_any (v : Value) (s : Is) (w : World) (hf : s.fits) (h : IsA w v s) :
    Calls Tryd.prog 5 #[v, .int .i64 1048576] w fun e w' => e = .returned (.int .i64 (leftI 1048576 s)) ∧ Below w.heap.size w w' := by
  obtain ⟨vw, vr, vs, rfl, h1, h2, h3⟩ := h.parts
  obtain ⟨l1, f1, l2, l3, f3⟩ := hf
  have hB0 : Below w.heap.size w (w.alloc (.cells #[vw, .int .i64 s.nx, vr, vs] 26)) := (Below.refl _ w).alloc (Nat.le_refl _) _
  have F1 := Four.new w vw (.int .i64 s.nx) vr vs 26
  have HI := hid (show leftI 1048576 s = if (s.size : Int) ≤ 1048576 then (1048576 : Int) - (s.size : Int) else (-1 : Int) from rfl)
  have HZ := hid (show s.size = wzAll s.ws + s.rv.length + tzAll s.sg from rfl)
  go_enter Tryd.func5, Tryd.ntmps5
  go_wp2_with fail
  generalize w.alloc (.cells #[vw, .int .i64 s.nx, vr, vs] 26) = W0 at *
  refine (szWorkS_any vw s.ws 1048576 _ (by omega) (by omega) l1 f1 (h1.below hB0)).mono ?_
  rintro e w1 ⟨rfl, hB1⟩
  replace F1 := F1.below hB1
  have hBB1 := below_one hB0 hB1
  clear hB1 hB0
  obtain ⟨a0, a1, a2, a3⟩ := F1.c
  by_cases c1 : (wzAll s.ws : Int) ≤ 1048576
  · rw [show leftW 1048576 s.ws = 1048576 - wzAll s.ws from if_pos c1]
    have d1 : decide ((1048576 : Int) - (wzAll s.ws : Int) < 0) = false := by simp; omega
    go_wp2_with fail
    refine (szIntS_any vr s.rv _ _ (by omega) (by omega) l2 (h2.below hBB1)).mono ?_
    rintro e w2 ⟨rfl, hB2⟩
    replace F1 := F1.below hB2
    have hBB2 := below_one hBB1 hB2
    clear hB2 a0 a1 a2 a3
    obtain ⟨a0, a1, a2, a3⟩ := F1.c
    by_cases c2 : (s.rv.length : Int) ≤ 1048576 - wzAll s.ws
    · rw [show left1 (1048576 - (wzAll s.ws : Int)) s.rv.length = 1048576 - wzAll s.ws - s.rv.length from if_pos c2]
      have d2 : decide ((1048576 : Int) - (wzAll s.ws : Int) - (s.rv.length : Int) < 0) = false := by simp; omega
      go_wp2_with fail
      refine (szStringS_any vs s.sg _ _ (by omega) (by omega) l3 f3 (h3.below hBB2)).mono ?_
      rintro e w3 ⟨rfl, hB3⟩
      have hBB3 := below_one hBB2 hB3
      clear hB3 a0 a1 a2 a3
      by_cases c3 : (tzAll s.sg : Int) ≤ 1048576 - wzAll s.ws - s.rv.length
      · rw [show leftT (1048576 - (wzAll s.ws : Int) - (s.rv.length : Int)) s.sg = 1048576 - wzAll s.ws - s.rv.length - tzAll s.sg from if_pos c3]
        have d3 : decide ((1048576 : Int) - (wzAll s.ws : Int) - (s.rv.length : Int) - (tzAll s.sg : Int) < 0) = false := by simp; omega
        have HR := hid (show leftI 1048576 s = 1048576 - wzAll s.ws - s.rv.length - tzAll s.sg by rw [HI.out, if_pos (by rw [HZ.out]; push_cast; omega), HZ.out]; push_cast; omega)
        go_wp2_with fail
        go_ret
        exact ⟨ret_int HR.out.symm, hBB3⟩
      · rw [show leftT (1048576 - (wzAll s.ws : Int) - (s.rv.length : Int)) s.sg = -1 from if_neg c3]
        have HR := hid (show leftI 1048576 s = -1 by rw [HI.out, if_neg (by rw [HZ.out]; push_cast; omega)])
        go_wp2_with fail
        go_ret
        exact ⟨ret_int HR.out.symm, hBB3⟩
    · rw [show left1 (1048576 - (wzAll s.ws : Int)) s.rv.length = -1 from if_neg c2]
      have HR := hid (show leftI 1048576 s = -1 by rw [HI.out, if_neg (by rw [HZ.out]; push_cast; omega)])
      go_wp2_with fail
      go_ret
      exact ⟨ret_int HR.out.symm, hBB2⟩
  · rw [show leftW 1048576 s.ws = -1 from if_neg c1]
    have HR := hid (show leftI 1048576 s = -1 by rw [HI.out, if_neg (by rw [HZ.out]; push_cast; omega)])
    go_wp2_with fail
    go_ret
    exact ⟨ret_int HR.out.symm, hBB1⟩

/-- An issuer of one's own: its lists lie in blocks from base on, below top. -/
def IsO (w : World) (base top : Nat) (v : Value) (s : Is) : Prop :=
  ∃ vw vr vs, v = .agg #[vw, .int .i64 s.nx, vr, vs] ∧ w.ownsRow base 48 3 vw s.ws.length (s.ws.flatMap Wk.cells) ∧ w.ownsRow base 3 1 vr s.rv.length (nums s.rv) ∧ w.ownsRow base 9 1 vs s.sg.length (strs s.sg) ∧ (∀ k, vw.ownBlock = some k → k < top) ∧ (∀ k, vr.ownBlock = some k → k < top) ∧ ∀ k, vs.ownBlock = some k → k < top
theorem IsO.a {w : World} {base top : Nat} {v : Value} {s : Is} (h : IsO w base top v s) : IsA w v s := by
  obtain ⟨vw, vr, vs, rfl, h1, h2, h3, _⟩ := h
  exact ⟨vw, vr, vs, rfl, WkS.own h1, VS.ownN h2, VS.ownS h3⟩
theorem IsO.below {w w' : World} {base top : Nat} {v : Value} {s : Is} (h : IsO w base top v s) (hB : Below w.heap.size w w') : IsO w' base top v s := by
  obtain ⟨vw, vr, vs, rfl, h1, h2, h3, t1, t2, t3⟩ := h
  exact ⟨vw, vr, vs, rfl, ownsRow_below h1 hB, ownsRow_below h2 hB, ownsRow_below h3 hB, t1, t2, t3⟩
theorem IsO.of {w : World} {base : Nat} {vw vr vs : Value} {s : Is} (h1 : w.ownsRow base 48 3 vw s.ws.length (s.ws.flatMap Wk.cells)) (h2 : w.ownsRow base 3 1 vr s.rv.length (nums s.rv)) (h3 : w.ownsRow base 9 1 vs s.sg.length (strs s.sg)) : IsO w base w.heap.size (.agg #[vw, .int .i64 s.nx, vr, vs]) s :=
  ⟨vw, vr, vs, rfl, h1, h2, h3, fun k hk => (h1.lt k hk).2, fun k hk => (h2.lt k hk).2, fun k hk => (h3.lt k hk).2⟩
theorem IsO.mono {w : World} {base base' top top' : Nat} {v : Value} {s : Is} (h : IsO w base top v s) (hb : base' ≤ base) (ht : top ≤ top') : IsO w base' top' v s := by
  obtain ⟨vw, vr, vs, rfl, h1, h2, h3, t1, t2, t3⟩ := h
  exact ⟨vw, vr, vs, rfl, Go.Joins.ownsRow_le h1 hb, Go.Joins.ownsRow_le h2 hb, Go.Joins.ownsRow_le h3 hb, fun k hk => Nat.lt_of_lt_of_le (t1 k hk) ht, fun k hk => Nat.lt_of_lt_of_le (t2 k hk) ht, fun k hk => Nat.lt_of_lt_of_le (t3 k hk) ht⟩

set_option maxHeartbeats 2000000 in
theorem toIssuer_any (v : Value) (s : Is) (w : World) (hs : s.size ≤ 1048576) (h : IsA w v s) :
    Calls Tryd.prog 7 #[v] w fun e w' => ∃ v', e = .returned v' ∧ IsO w' w.heap.size w'.heap.size v' s ∧ Below w.heap.size w w' := by
  obtain ⟨vw, vr, vs, rfl, h1, h2, h3⟩ := h.parts
  have l1 : s.ws.length ≤ 1048576 := by unfold Is.size wzAll at hs; omega
  have l2 : s.rv.length ≤ 1048576 := by unfold Is.size at hs; omega
  have l3 : s.sg.length ≤ 1048576 := by unfold Is.size tzAll at hs; omega
  have hB0 : Below w.heap.size w (((w.alloc (.cells #[vw, .int .i64 s.nx, vr, vs] 26)).alloc (.cells #[.slice none 0 0, .int .i64 0, .slice none 0 0, .slice none 0 0] 30)).alloc (.cells #[.slice none 0 0, .int .i64 0, .slice none 0 0, .slice none 0 0] 30)) := (((Below.refl _ w).alloc (Nat.le_refl _) _).alloc (by simp) _).alloc (by simp; omega) _
  have F1 := ((Four.new w vw (.int .i64 s.nx) vr vs 26).below ((Below.refl _ _).alloc (Nat.le_refl _) (.cells #[.slice none 0 0, .int .i64 0, .slice none 0 0, .slice none 0 0] 30))).below ((Below.refl _ _).alloc (Nat.le_refl _) (.cells #[.slice none 0 0, .int .i64 0, .slice none 0 0, .slice none 0 0] 30))
  have F2 := (Four.at (w.alloc (.cells #[vw, .int .i64 s.nx, vr, vs] 26)) (.slice none 0 0) (.int .i64 0) (.slice none 0 0) (.slice none 0 0) 30 (k := w.heap.size + 1) (by simp)).below ((Below.refl _ _).alloc (Nat.le_refl _) (.cells #[.slice none 0 0, .int .i64 0, .slice none 0 0, .slice none 0 0] 30))
  have F3 := Four.at ((w.alloc (.cells #[vw, .int .i64 s.nx, vr, vs] 26)).alloc (.cells #[.slice none 0 0, .int .i64 0, .slice none 0 0, .slice none 0 0] 30)) (.slice none 0 0) (.int .i64 0) (.slice none 0 0) (.slice none 0 0) 30 (k := w.heap.size + 1 + 1) (by simp)
  have hz0 : (((w.alloc (.cells #[vw, .int .i64 s.nx, vr, vs] 26)).alloc (.cells #[.slice none 0 0, .int .i64 0, .slice none 0 0, .slice none 0 0] 30)).alloc (.cells #[.slice none 0 0, .int .i64 0, .slice none 0 0, .slice none 0 0] 30)).heap.size = w.heap.size + 1 + 1 + 1 := by simp
  have HZ := hid hz0
  clear hz0
  go_enter Tryd.func7, Tryd.ntmps7
  go_wp2_with fail
  generalize (((w.alloc (.cells #[vw, .int .i64 s.nx, vr, vs] 26)).alloc (.cells #[.slice none 0 0, .int .i64 0, .slice none 0 0, .slice none 0 0] 30)).alloc (.cells #[.slice none 0 0, .int .i64 0, .slice none 0 0, .slice none 0 0] 30)) = W0 at *
  refine (toWorkS_any vw s.ws _ l1 (h1.below hB0)).mono ?_
  rintro e w1 ⟨v1, rfl, o1, hB1⟩
  obtain ⟨a1', m1', c1', hv1⟩ := row_slice o1
  subst hv1
  replace F1 := F1.below hB1
  replace F2 := F2.below hB1
  replace F3 := F3.below hB1
  have hBB1 := below_one hB0 hB1
  clear hB1 hB0
  obtain ⟨a0, a1, a2, a3⟩ := F1.c
  obtain ⟨c0, c1, c2, c3⟩ := F3.c
  have f0 := F3.f 0
  have f1 := F3.f 1
  go_wp2_with fail
  have F1' := (F1.other (k' := w.heap.size + 1 + 1) (by omega) 0 (.slice a1' m1' c1')).other (k' := w.heap.size + 1 + 1) (by omega) 1 (.int .i64 s.nx)
  have F2' := (F2.other (k' := w.heap.size + 1 + 1) (by omega) 0 (.slice a1' m1' c1')).other (k' := w.heap.size + 1 + 1) (by omega) 1 (.int .i64 s.nx)
  have F3' := (F3.s0 (.slice a1' m1' c1')).s1 (.int .i64 s.nx)
  have hB1' := (hBB1.setCell (p := ⟨w.heap.size + 1 + 1, 0, none⟩) (by simp; omega) (.slice a1' m1' c1')).setCell (p := ⟨w.heap.size + 1 + 1, 1, none⟩) (by simp; omega) (.int .i64 s.nx)
  have o1' := ownsRow_setCell_below (ownsRow_setCell_below o1 (a := ⟨w.heap.size + 1 + 1, 0, none⟩) (by rw [HZ.out]; simp) (.slice a1' m1' c1')) (a := ⟨w.heap.size + 1 + 1, 1, none⟩) (by rw [HZ.out]; simp) (.int .i64 s.nx)
  clear F1 F2 F3 hBB1 o1 a0 a1 a2 a3 c0 c1 c2 c3 f0 f1
  generalize (w1.setCell ⟨w.heap.size + 1 + 1, 0, none⟩ (.slice a1' m1' c1')).setCell ⟨w.heap.size + 1 + 1, 1, none⟩ (.int .i64 s.nx) = W1 at *
  refine (toIntS_any vr s.rv _ l2 (h2.below hB1')).mono ?_
  rintro e w2 ⟨v2, rfl, o2, hB2⟩
  obtain ⟨a2', m2', c2', hv2⟩ := row_slice o2
  subst hv2
  have z1 := hB1'.size
  replace F1 := F1'.below hB2
  replace F2 := F2'.below hB2
  replace F3 := F3'.below hB2
  replace o1 := ownsRow_below o1' hB2
  have hBB2 := below_one hB1' hB2
  have hl3 := F3'.lt
  clear hB2 hB1' F1' F2' F3' o1'
  obtain ⟨a0, a1, a2, a3⟩ := F1.c
  obtain ⟨c0, c1, c2, c3⟩ := F3.c
  have f2 := F3.f 2
  go_wp2_with fail
  have F2' := F2.other (k' := w.heap.size + 1 + 1) (by omega) 2 (.slice a2' m2' c2')
  have F3' := F3.s2 (.slice a2' m2' c2')
  have hB2' := hBB2.setCell (p := ⟨w.heap.size + 1 + 1, 2, none⟩) (by simp; omega) (.slice a2' m2' c2')
  have o1' := ownsRow_setCell_below o1 (a := ⟨w.heap.size + 1 + 1, 2, none⟩) (by rw [HZ.out]; simp) (.slice a2' m2' c2')
  have o2' := ownsRow_setCell_below o2 (a := ⟨w.heap.size + 1 + 1, 2, none⟩) hl3 (.slice a2' m2' c2')
  clear F1 F2 F3 hBB2 o1 o2 a0 a1 a2 a3 c0 c1 c2 c3 f2
  generalize w2.setCell ⟨w.heap.size + 1 + 1, 2, none⟩ (.slice a2' m2' c2') = W2 at *
  refine (toStringS_any vs s.sg _ l3 (h3.below hB2')).mono ?_
  rintro e w3 ⟨v3, rfl, o3, hB3⟩
  obtain ⟨a3', m3', c3', hv3⟩ := row_slice o3
  subst hv3
  have z2 := hB2'.size
  replace F2 := F2'.below hB3
  replace F3 := F3'.below hB3
  replace o1 := ownsRow_below o1' hB3
  replace o2 := ownsRow_below o2' hB3
  have hBB3 := below_one hB2' hB3
  have hl4 := F3'.lt
  have hl5 := F2'.lt
  clear hB3 hB2' F2' F3' o1' o2'
  obtain ⟨b0, b1, b2, b3⟩ := F2.c
  obtain ⟨c0, c1, c2, c3⟩ := F3.c
  have f3 := F3.f 3
  have g0 := F2.f 0
  have g1 := F2.f 1
  have g2 := F2.f 2
  have g3 := F2.f 3
  have o1' := ownsRow_setCell_below o1 (a := ⟨w.heap.size + 1 + 1, 3, none⟩) (by rw [HZ.out]; simp) (.slice a3' m3' c3')
  have o2' := ownsRow_setCell_below o2 (a := ⟨w.heap.size + 1 + 1, 3, none⟩) hl3 (.slice a3' m3' c3')
  have o3' := ownsRow_setCell_below o3 (a := ⟨w.heap.size + 1 + 1, 3, none⟩) hl4 (.slice a3' m3' c3')
  have hBB' := hBB3.setCell (p := ⟨w.heap.size + 1 + 1, 3, none⟩) (by simp; omega) (.slice a3' m3' c3')
  go_wp2_with fail
  have G := ((((F2.other (k' := w.heap.size + 1 + 1) (by omega) 3 (.slice a3' m3' c3')).s0 (.slice a1' m1' c1')).s1 (.int .i64 s.nx)).s2 (.slice a2' m2' c2')).s3 (.slice a3' m3' c3')
  have p1 := row_four o1' (k := w.heap.size + 1) (by rw [HZ.out]; omega) (.slice a1' m1' c1') (.int .i64 s.nx) (.slice a2' m2' c2') (.slice a3' m3' c3')
  have p2 := row_four o2' (k := w.heap.size + 1) (by omega) (.slice a1' m1' c1') (.int .i64 s.nx) (.slice a2' m2' c2') (.slice a3' m3' c3')
  have p3 := row_four o3' (k := w.heap.size + 1) (by omega) (.slice a1' m1' c1') (.int .i64 s.nx) (.slice a2' m2' c2') (.slice a3' m3' c3')
  have pB := below_four hBB' (k := w.heap.size + 1) (by omega) (.slice a1' m1' c1') (.int .i64 s.nx) (.slice a2' m2' c2') (.slice a3' m3' c3')
  have hW0 : w.heap.size ≤ W0.heap.size := by rw [HZ.out]; omega
  generalize ((((w3.setCell ⟨w.heap.size + 1 + 1, 3, none⟩ (.slice a3' m3' c3')).setCell ⟨w.heap.size + 1, 0, none⟩ (.slice a1' m1' c1')).setCell ⟨w.heap.size + 1, 1, none⟩ (.int .i64 s.nx)).setCell ⟨w.heap.size + 1, 2, none⟩ (.slice a2' m2' c2')).setCell ⟨w.heap.size + 1, 3, none⟩ (.slice a3' m3' c3') = W4 at *
  obtain ⟨d0, d1, d2, d3⟩ := G.c
  exact bodyPost_ret (v := .agg #[(.slice a1' m1' c1'), .int .i64 s.nx, (.slice a2' m2' c2'), (.slice a3' m3' c3')]) (by simp [results, Tryd.results7, go_sem, d0, d1, d2, d3]) rfl ⟨_, rfl, IsO.of (Go.Joins.ownsRow_le p1 hW0) (Go.Joins.ownsRow_le p2 z1) (Go.Joins.ownsRow_le p3 z2), pB⟩

end Go.Proofs.YtfchmhcnejifhaaDoor
