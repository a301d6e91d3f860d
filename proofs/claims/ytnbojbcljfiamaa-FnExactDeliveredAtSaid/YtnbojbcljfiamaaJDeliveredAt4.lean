/-
  Lists of records marked by the laws, and held against the marks.
-/
import Derived.Test.YtnbojbcljfiamaaJDeliveredAt3
import Derived.Deep.RegionHeld3
import Derived.Test.YtnbojbcljfiamaaJDeliveredAt0
import Derived.Test.YtnbojbcljfiamaaJDeliveredAt2
namespace Go.Proofs.Ytnbojbcljfiamaa
open Go.RowKit Go.Shelf

set_option maxHeartbeats 1000000 in
theorem eqWork_same (r : Wk) (w : World) :
    Calls Try.prog 76 #[r.val, r.val] w fun e w' => e = .returned (.bool true) ∧ Below w.heap.size w w' := by
  have e0 : (r.name.toList == r.name.toList) = true := by simp
  have e1 : (r.live != r.live) = false := by simp
  have e2 : (r.se != r.se) = false := by simp
  go_enter Try.func76, Try.ntmps76
  go_wp2
  go_ret
  exact ⟨rfl, ((Below.refl _ w).alloc (Nat.le_refl _) _).alloc (by simp) _⟩

set_option maxHeartbeats 2000000 in
/-- A list of works is like itself, wherever the two lie. -/
theorem eqWorkS_same (v v' : Value) (ks : List Wk) (w : World) (hn : ks.length ≤ 1048577) (hr : WkS w v ks) (hr' : WkS w v' ks) :
    Calls Try.prog 44 #[v, v'] w fun e w' => e = .returned (.bool true) ∧ Below w.heap.size w w' := by
  obtain ⟨a, cap, rfl⟩ := hr.len
  obtain ⟨a', cap', rfl⟩ := hr'.len
  have e0 : ((ks.length : Int) != (ks.length : Int)) = false := by simp
  go_enter Try.func44, Try.ntmps44
  go_wp2
  go_loopw [5] (fun i wr => ∃ j : Nat, j ≤ ks.length ∧ i = .int .i64 j ∧ Below w.heap.size w wr) (fun i _ => ks.length - (intOf i).toNat)
  case atStart => exact ⟨0, Nat.zero_le _, rfl, Below.refl _ _⟩
  case round =>
    obtain ⟨j, hj, rfl, hB⟩ := hrel
    by_cases hlt : j < ks.length
    · obtain ⟨b, off, rfl, hb, hcap, q0, q1, q2⟩ := (hr.below hB).at hlt
      obtain ⟨b', off', rfl, hb', hcap', p0, p1, p2⟩ := (hr'.below hB).at hlt
      generalize ks[j] = r at *
      go_wp2_with fail
      go_region_with (go_at_call 76; refine (eqWork_same r _).mono ?_; rintro e w1 ⟨rfl, hB1⟩)
      all_goals go_wp2
      all_goals go_roundw
      all_goals first
        | exact ⟨j + 1, by omega, by go_num, below_one hB (below_drew1 hB1)⟩
        | (simp [intOf]; omega)
    · obtain rfl : j = ks.length := by omega
      go_wp2
      go_ret
      exact ⟨rfl, hB⟩

/-- No list of an issuer is longer than the laws take. -/
def Is.short (s : Is) : Prop := s.ws.length ≤ 1048577 ∧ s.rv.length ≤ 1048577 ∧ s.sg.length ≤ 1048577

set_option maxHeartbeats 2000000 in
/-- An issuer is like itself, wherever the two lie. -/
theorem eqIssuer_same (v v' : Value) (s : Is) (w : World) (hs : s.short) (h : IsA w v s) (h' : IsA w v' s) :
    Calls Try.prog 19 #[v, v'] w fun e w' => e = .returned (.bool true) ∧ Below w.heap.size w w' := by
  obtain ⟨vw, vr, vs, rfl, h1, h2, h3⟩ := h.parts
  obtain ⟨vw', vr', vs', rfl, h1', h2', h3'⟩ := h'.parts
  obtain ⟨l1, l2, l3⟩ := hs
  have hB0 : Below w.heap.size w ((w.alloc (.cells #[vw, .int .i64 s.nx, vr, vs] 26)).alloc (.cells #[vw', .int .i64 s.nx, vr', vs'] 26)) := ((Below.refl _ w).alloc (Nat.le_refl _) _).alloc (by simp) _
  have F1 := (Four.new w vw (.int .i64 s.nx) vr vs 26).below ((Below.refl _ _).alloc (Nat.le_refl _) (.cells #[vw', .int .i64 s.nx, vr', vs'] 26))
  have F2 := Four.at (w.alloc (.cells #[vw, .int .i64 s.nx, vr, vs] 26)) vw' (.int .i64 s.nx) vr' vs' 26 (k := w.heap.size + 1) (by simp)
  have e1 : (s.nx != s.nx) = false := by simp
  go_enter Try.func19, Try.ntmps19
  go_wp2_with fail
  generalize (w.alloc (.cells #[vw, .int .i64 s.nx, vr, vs] 26)).alloc (.cells #[vw', .int .i64 s.nx, vr', vs'] 26) = W0 at *
  refine (eqWorkS_same vw vw' s.ws _ l1 (h1.below hB0) (h1'.below hB0)).mono ?_
  rintro e w1 ⟨rfl, hB1⟩
  replace F1 := F1.below hB1
  replace F2 := F2.below hB1
  have hBB1 := below_one hB0 hB1
  clear hB1 hB0
  obtain ⟨a0, a1, a2, a3⟩ := F1.c
  obtain ⟨c0, c1, c2, c3⟩ := F2.c
  go_wp2_with fail
  refine (eqIntS_same vr vr' s.rv _ l2 (h2.below hBB1) (h2'.below hBB1)).mono ?_
  rintro e w2 ⟨rfl, hB2⟩
  replace F1 := F1.below hB2
  replace F2 := F2.below hB2
  have hBB2 := below_one hBB1 hB2
  clear a0 a1 a2 a3 c0 c1 c2 c3 hB2
  obtain ⟨a0, a1, a2, a3⟩ := F1.c
  obtain ⟨c0, c1, c2, c3⟩ := F2.c
  go_wp2_with fail
  refine (eqStringS_any vs vs' s.sg _ l3 (h3.below hBB2) (h3'.below hBB2)).mono ?_
  rintro e w3 ⟨rfl, hB3⟩
  go_wp2_with fail
  go_ret
  exact ⟨rfl, below_one hBB2 hB3⟩

set_option maxHeartbeats 2000000 in
theorem szIssuer_any (v : Value) (s : Is) (w : World) (hf : s.fits) (h : IsA w v s) :
    Calls Try.prog 28 #[v, .int .i64 1048576] w fun e w' => e = .returned (.int .i64 (leftI 1048576 s)) ∧ Below w.heap.size w w' := by
  obtain ⟨vw, vr, vs, rfl, h1, h2, h3⟩ := h.parts
  obtain ⟨l1, f1, l2, l3, f3⟩ := hf
  have hB0 : Below w.heap.size w (w.alloc (.cells #[vw, .int .i64 s.nx, vr, vs] 38)) := (Below.refl _ w).alloc (Nat.le_refl _) _
  have F1 := Four.new w vw (.int .i64 s.nx) vr vs 38
  have HI := hid (show leftI 1048576 s = if (s.size : Int) ≤ 1048576 then (1048576 : Int) - (s.size : Int) else (-1 : Int) from rfl)
  have HZ := hid (show s.size = wzAll s.ws + s.rv.length + tzAll s.sg from rfl)
  go_enter Try.func28, Try.ntmps28
  go_wp2_with fail
  generalize w.alloc (.cells #[vw, .int .i64 s.nx, vr, vs] 38) = W0 at *
  refine (szWorkS_any vw s.ws 1048576 _ (by omega) (by omega) l1 f1 (h1.below hB0)).mono ?_
  rintro e w1 ⟨rfl, hB1⟩
  replace F1 := F1.below hB1
  have hBB1 := below_one hB0 hB1
  clear hB1 hB0
  obtain ⟨a0, a1, a2, a3⟩ := F1.c
  by_cases c1 : (wzAll s.ws : Int) ≤ 1048576
  · rw [show leftW 1048576 s.ws = 1048576 - wzAll s.ws from if_pos c1]
    have d1 : decide ((1048576 : Int) - (wzAll s.ws : Int) < 0) = false := by simp; omega
    go_wp2_with fail
    refine (szIntS_any vr s.rv _ _ (by omega) (by omega) l2 (h2.below hBB1)).mono ?_
    rintro e w2 ⟨rfl, hB2⟩
    replace F1 := F1.below hB2
    have hBB2 := below_one hBB1 hB2
    clear hB2 a0 a1 a2 a3
    obtain ⟨a0, a1, a2, a3⟩ := F1.c
    by_cases c2 : (s.rv.length : Int) ≤ 1048576 - wzAll s.ws
    · rw [show left1 (1048576 - (wzAll s.ws : Int)) s.rv.length = 1048576 - wzAll s.ws - s.rv.length from if_pos c2]
      have d2 : decide ((1048576 : Int) - (wzAll s.ws : Int) - (s.rv.length : Int) < 0) = false := by simp; omega
      go_wp2_with fail
      refine (szStringS_any vs s.sg _ _ (by omega) (by omega) l3 f3 (h3.below hBB2)).mono ?_
      rintro e w3 ⟨rfl, hB3⟩
      have hBB3 := below_one hBB2 hB3
      clear hB3 a0 a1 a2 a3
      by_cases c3 : (tzAll s.sg : Int) ≤ 1048576 - wzAll s.ws - s.rv.length
      · rw [show leftT (1048576 - (wzAll s.ws : Int) - (s.rv.length : Int)) s.sg = 1048576 - wzAll s.ws - s.rv.length - tzAll s.sg from if_pos c3]
        have d3 : decide ((1048576 : Int) - (wzAll s.ws : Int) - (s.rv.length : Int) - (tzAll s.sg : Int) < 0) = false := by simp; omega
        have HR := hid (show leftI 1048576 s = 1048576 - wzAll s.ws - s.rv.length - tzAll s.sg by rw [HI.out, if_pos (by rw [HZ.out]; push_cast; omega), HZ.out]; push_cast; omega)
        go_wp2_with fail
        go_ret
        exact ⟨ret_int HR.out.symm, hBB3⟩
      · rw [show leftT (1048576 - (wzAll s.ws : Int) - (s.rv.length : Int)) s.sg = -1 from if_neg c3]
        have HR := hid (show leftI 1048576 s = -1 by rw [HI.out, if_neg (by rw [HZ.out]; push_cast; omega)])
        go_wp2_with fail
        go_ret
        exact ⟨ret_int HR.out.symm, hBB3⟩
    · rw [show left1 (1048576 - (wzAll s.ws : Int)) s.rv.length = -1 from if_neg c2]
      have HR := hid (show leftI 1048576 s = -1 by rw [HI.out, if_neg (by rw [HZ.out]; push_cast; omega)])
      go_wp2_with fail
      go_ret
      exact ⟨ret_int HR.out.symm, hBB2⟩
  · rw [show leftW 1048576 s.ws = -1 from if_neg c1]
    have HR := hid (show leftI 1048576 s = -1 by rw [HI.out, if_neg (by rw [HZ.out]; push_cast; omega)])
    go_wp2_with fail
    go_ret
    exact ⟨ret_int HR.out.symm, hBB1⟩

/-- An issuer of one's own: its lists lie in blocks from base on, below top. -/
def IsO (w : World) (base top : Nat) (v : Value) (s : Is) : Prop :=
  ∃ vw vr vs, v = .agg #[vw, .int .i64 s.nx, vr, vs] ∧ w.ownsRow base 129 3 vw s.ws.length (s.ws.flatMap Wk.cells) ∧ w.ownsRow base 3 1 vr s.rv.length (nums s.rv) ∧ w.ownsRow base 9 1 vs s.sg.length (strs s.sg) ∧ (∀ k, vw.ownBlock = some k → k < top) ∧ (∀ k, vr.ownBlock = some k → k < top) ∧ ∀ k, vs.ownBlock = some k → k < top
theorem IsO.a {w : World} {base top : Nat} {v : Value} {s : Is} (h : IsO w base top v s) : IsA w v s := by
  obtain ⟨vw, vr, vs, rfl, h1, h2, h3, _⟩ := h
  exact ⟨vw, vr, vs, rfl, WkS.own h1, VS.ownN h2, VS.ownS h3⟩
theorem IsO.below {w w' : World} {base top : Nat} {v : Value} {s : Is} (h : IsO w base top v s) (hB : Below w.heap.size w w') : IsO w' base top v s := by
  obtain ⟨vw, vr, vs, rfl, h1, h2, h3, t1, t2, t3⟩ := h
  exact ⟨vw, vr, vs, rfl, ownsRow_below h1 hB, ownsRow_below h2 hB, ownsRow_below h3 hB, t1, t2, t3⟩
theorem IsO.of {w : World} {base : Nat} {vw vr vs : Value} {s : Is} (h1 : w.ownsRow base 129 3 vw s.ws.length (s.ws.flatMap Wk.cells)) (h2 : w.ownsRow base 3 1 vr s.rv.length (nums s.rv)) (h3 : w.ownsRow base 9 1 vs s.sg.length (strs s.sg)) : IsO w base w.heap.size (.agg #[vw, .int .i64 s.nx, vr, vs]) s :=
  ⟨vw, vr, vs, rfl, h1, h2, h3, fun k hk => (h1.lt k hk).2, fun k hk => (h2.lt k hk).2, fun k hk => (h3.lt k hk).2⟩
theorem IsO.mono {w : World} {base base' top top' : Nat} {v : Value} {s : Is} (h : IsO w base top v s) (hb : base' ≤ base) (ht : top ≤ top') : IsO w base' top' v s := by
  obtain ⟨vw, vr, vs, rfl, h1, h2, h3, t1, t2, t3⟩ := h
  exact ⟨vw, vr, vs, rfl, Go.Joins.ownsRow_le h1 hb, Go.Joins.ownsRow_le h2 hb, Go.Joins.ownsRow_le h3 hb, fun k hk => Nat.lt_of_lt_of_le (t1 k hk) ht, fun k hk => Nat.lt_of_lt_of_le (t2 k hk) ht, fun k hk => Nat.lt_of_lt_of_le (t3 k hk) ht⟩

set_option maxHeartbeats 2000000 in
theorem toIssuer_any (v : Value) (s : Is) (w : World) (hs : s.size ≤ 1048576) (h : IsA w v s) :
    Calls Try.prog 34 #[v] w fun e w' => ∃ v', e = .returned v' ∧ IsO w' w.heap.size w'.heap.size v' s ∧ Below w.heap.size w w' := by
  obtain ⟨vw, vr, vs, rfl, h1, h2, h3⟩ := h.parts
  have l1 : s.ws.length ≤ 1048576 := by unfold Is.size wzAll at hs; omega
  have l2 : s.rv.length ≤ 1048576 := by unfold Is.size at hs; omega
  have l3 : s.sg.length ≤ 1048576 := by unfold Is.size tzAll at hs; omega
  have hB0 : Below w.heap.size w (((w.alloc (.cells #[vw, .int .i64 s.nx, vr, vs] 38)).alloc (.cells #[.slice none 0 0, .int .i64 0, .slice none 0 0, .slice none 0 0] 26)).alloc (.cells #[.slice none 0 0, .int .i64 0, .slice none 0 0, .slice none 0 0] 26)) := (((Below.refl _ w).alloc (Nat.le_refl _) _).alloc (by simp) _).alloc (by simp; omega) _
  have F1 := ((Four.new w vw (.int .i64 s.nx) vr vs 38).below ((Below.refl _ _).alloc (Nat.le_refl _) (.cells #[.slice none 0 0, .int .i64 0, .slice none 0 0, .slice none 0 0] 26))).below ((Below.refl _ _).alloc (Nat.le_refl _) (.cells #[.slice none 0 0, .int .i64 0, .slice none 0 0, .slice none 0 0] 26))
  have F2 := (Four.at (w.alloc (.cells #[vw, .int .i64 s.nx, vr, vs] 38)) (.slice none 0 0) (.int .i64 0) (.slice none 0 0) (.slice none 0 0) 26 (k := w.heap.size + 1) (by simp)).below ((Below.refl _ _).alloc (Nat.le_refl _) (.cells #[.slice none 0 0, .int .i64 0, .slice none 0 0, .slice none 0 0] 26))
  have F3 := Four.at ((w.alloc (.cells #[vw, .int .i64 s.nx, vr, vs] 38)).alloc (.cells #[.slice none 0 0, .int .i64 0, .slice none 0 0, .slice none 0 0] 26)) (.slice none 0 0) (.int .i64 0) (.slice none 0 0) (.slice none 0 0) 26 (k := w.heap.size + 1 + 1) (by simp)
  have hz0 : (((w.alloc (.cells #[vw, .int .i64 s.nx, vr, vs] 38)).alloc (.cells #[.slice none 0 0, .int .i64 0, .slice none 0 0, .slice none 0 0] 26)).alloc (.cells #[.slice none 0 0, .int .i64 0, .slice none 0 0, .slice none 0 0] 26)).heap.size = w.heap.size + 1 + 1 + 1 := by simp
  have HZ := hid hz0
  clear hz0
  go_enter Try.func34, Try.ntmps34
  go_wp2_with fail
  generalize (((w.alloc (.cells #[vw, .int .i64 s.nx, vr, vs] 38)).alloc (.cells #[.slice none 0 0, .int .i64 0, .slice none 0 0, .slice none 0 0] 26)).alloc (.cells #[.slice none 0 0, .int .i64 0, .slice none 0 0, .slice none 0 0] 26)) = W0 at *
  refine (toWorkS_any vw s.ws _ l1 (h1.below hB0)).mono ?_
  rintro e w1 ⟨v1, rfl, o1, hB1⟩
  obtain ⟨a1', m1', c1', hv1⟩ := row_slice o1
  subst hv1
  replace F1 := F1.below hB1
  replace F2 := F2.below hB1
  replace F3 := F3.below hB1
  have hBB1 := below_one hB0 hB1
  clear hB1 hB0
  obtain ⟨a0, a1, a2, a3⟩ := F1.c
  obtain ⟨c0, c1, c2, c3⟩ := F3.c
  have f0 := F3.f 0
  have f1 := F3.f 1
  go_wp2_with fail
  have F1' := (F1.other (k' := w.heap.size + 1 + 1) (by omega) 0 (.slice a1' m1' c1')).other (k' := w.heap.size + 1 + 1) (by omega) 1 (.int .i64 s.nx)
  have F2' := (F2.other (k' := w.heap.size + 1 + 1) (by omega) 0 (.slice a1' m1' c1')).other (k' := w.heap.size + 1 + 1) (by omega) 1 (.int .i64 s.nx)
  have F3' := (F3.s0 (.slice a1' m1' c1')).s1 (.int .i64 s.nx)
  have hB1' := (hBB1.setCell (p := ⟨w.heap.size + 1 + 1, 0, none⟩) (by simp; omega) (.slice a1' m1' c1')).setCell (p := ⟨w.heap.size + 1 + 1, 1, none⟩) (by simp; omega) (.int .i64 s.nx)
  have o1' := ownsRow_setCell_below (ownsRow_setCell_below o1 (a := ⟨w.heap.size + 1 + 1, 0, none⟩) (by rw [HZ.out]; simp) (.slice a1' m1' c1')) (a := ⟨w.heap.size + 1 + 1, 1, none⟩) (by rw [HZ.out]; simp) (.int .i64 s.nx)
  clear F1 F2 F3 hBB1 o1 a0 a1 a2 a3 c0 c1 c2 c3 f0 f1
  generalize (w1.setCell ⟨w.heap.size + 1 + 1, 0, none⟩ (.slice a1' m1' c1')).setCell ⟨w.heap.size + 1 + 1, 1, none⟩ (.int .i64 s.nx) = W1 at *
  refine (toIntS_any vr s.rv _ l2 (h2.below hB1')).mono ?_
  rintro e w2 ⟨v2, rfl, o2, hB2⟩
  obtain ⟨a2', m2', c2', hv2⟩ := row_slice o2
  subst hv2
  have z1 := hB1'.size
  replace F1 := F1'.below hB2
  replace F2 := F2'.below hB2
  replace F3 := F3'.below hB2
  replace o1 := ownsRow_below o1' hB2
  have hBB2 := below_one hB1' hB2
  have hl3 := F3'.lt
  clear hB2 hB1' F1' F2' F3' o1'
  obtain ⟨a0, a1, a2, a3⟩ := F1.c
  obtain ⟨c0, c1, c2, c3⟩ := F3.c
  have f2 := F3.f 2
  go_wp2_with fail
  have F2' := F2.other (k' := w.heap.size + 1 + 1) (by omega) 2 (.slice a2' m2' c2')
  have F3' := F3.s2 (.slice a2' m2' c2')
  have hB2' := hBB2.setCell (p := ⟨w.heap.size + 1 + 1, 2, none⟩) (by simp; omega) (.slice a2' m2' c2')
  have o1' := ownsRow_setCell_below o1 (a := ⟨w.heap.size + 1 + 1, 2, none⟩) (by rw [HZ.out]; simp) (.slice a2' m2' c2')
  have o2' := ownsRow_setCell_below o2 (a := ⟨w.heap.size + 1 + 1, 2, none⟩) hl3 (.slice a2' m2' c2')
  clear F1 F2 F3 hBB2 o1 o2 a0 a1 a2 a3 c0 c1 c2 c3 f2
  generalize w2.setCell ⟨w.heap.size + 1 + 1, 2, none⟩ (.slice a2' m2' c2') = W2 at *
  refine (toStringS_any vs s.sg _ l3 (h3.below hB2')).mono ?_
  rintro e w3 ⟨v3, rfl, o3, hB3⟩
  obtain ⟨a3', m3', c3', hv3⟩ := row_slice o3
  subst hv3
  have z2 := hB2'.size
  replace F2 := F2'.below hB3
  replace F3 := F3'.below hB3
  replace o1 := ownsRow_below o1' hB3
  replace o2 := ownsRow_below o2' hB3
  have hBB3 := below_one hB2' hB3
  have hl4 := F3'.lt
  have hl5 := F2'.lt
  clear hB3 hB2' F2' F3' o1' o2'
  obtain ⟨b0, b1, b2, b3⟩ := F2.c
  obtain ⟨c0, c1, c2, c3⟩ := F3.c
  have f3 := F3.f 3
  have g0 := F2.f 0
  have g1 := F2.f 1
  have g2 := F2.f 2
  have g3 := F2.f 3
  have o1' := ownsRow_setCell_below o1 (a := ⟨w.heap.size + 1 + 1, 3, none⟩) (by rw [HZ.out]; simp) (.slice a3' m3' c3')
  have o2' := ownsRow_setCell_below o2 (a := ⟨w.heap.size + 1 + 1, 3, none⟩) hl3 (.slice a3' m3' c3')
  have o3' := ownsRow_setCell_below o3 (a := ⟨w.heap.size + 1 + 1, 3, none⟩) hl4 (.slice a3' m3' c3')
  have hBB' := hBB3.setCell (p := ⟨w.heap.size + 1 + 1, 3, none⟩) (by simp; omega) (.slice a3' m3' c3')
  go_wp2_with fail
  have G := ((((F2.other (k' := w.heap.size + 1 + 1) (by omega) 3 (.slice a3' m3' c3')).s0 (.slice a1' m1' c1')).s1 (.int .i64 s.nx)).s2 (.slice a2' m2' c2')).s3 (.slice a3' m3' c3')
  have p1 := row_four o1' (k := w.heap.size + 1) (by rw [HZ.out]; omega) (.slice a1' m1' c1') (.int .i64 s.nx) (.slice a2' m2' c2') (.slice a3' m3' c3')
  have p2 := row_four o2' (k := w.heap.size + 1) (by omega) (.slice a1' m1' c1') (.int .i64 s.nx) (.slice a2' m2' c2') (.slice a3' m3' c3')
  have p3 := row_four o3' (k := w.heap.size + 1) (by omega) (.slice a1' m1' c1') (.int .i64 s.nx) (.slice a2' m2' c2') (.slice a3' m3' c3')
  have pB := below_four hBB' (k := w.heap.size + 1) (by omega) (.slice a1' m1' c1') (.int .i64 s.nx) (.slice a2' m2' c2') (.slice a3' m3' c3')
  have hW0 : w.heap.size ≤ W0.heap.size := by rw [HZ.out]; omega
  generalize ((((w3.setCell ⟨w.heap.size + 1 + 1, 3, none⟩ (.slice a3' m3' c3')).setCell ⟨w.heap.size + 1, 0, none⟩ (.slice a1' m1' c1')).setCell ⟨w.heap.size + 1, 1, none⟩ (.int .i64 s.nx)).setCell ⟨w.heap.size + 1, 2, none⟩ (.slice a2' m2' c2')).setCell ⟨w.heap.size + 1, 3, none⟩ (.slice a3' m3' c3') = W4 at *
  obtain ⟨d0, d1, d2, d3⟩ := G.c
  exact bodyPost_ret (v := .agg #[(.slice a1' m1' c1'), .int .i64 s.nx, (.slice a2' m2' c2'), (.slice a3' m3' c3')]) (by simp [results, Try.results34, go_sem, d0, d1, d2, d3]) rfl ⟨_, rfl, IsO.of (Go.Joins.ownsRow_le p1 hW0) (Go.Joins.ownsRow_le p2 z1) (Go.Joins.ownsRow_le p3 z2), pB⟩

end Go.Proofs.Ytnbojbcljfiamaa

namespace Go.Proofs.Ytnbojbcljfiamaa
open Go.RowKit Go.Shelf

/-- The work that is laid at i, from the number k on. -/
def mkW (k i : Nat) : Wk := ⟨mkT (k + 3 * i), (((k + 3 * i : Nat) : Int) + 1) % 3 == 0, ((k + 3 * i : Nat) : Int) + 2⟩
def mkWs (k n : Nat) : List Wk := (List.range n).map (mkW k)
theorem mkWs_len (k n : Nat) : (mkWs k n).length = n := by simp [mkWs]
theorem mkWs_succ (k n : Nat) : mkWs k (n + 1) = mkWs k n ++ [mkW k n] := by
  unfold mkWs
  rw [List.range_succ, List.map_append]
  rfl
theorem mkWs_at {k n i : Nat} (h : i < (mkWs k n).length) : (mkWs k n)[i] = mkW k i := by simp [mkWs]

set_option maxHeartbeats 2000000 in
set_option maxRecDepth 100000 in
theorem markWorkS_to (v : Value) (n k base : Nat) (xs : List Value) (w : World) (hn : n ≤ 1048577) (hk : k + 3 * n ≤ 8000000) (hrow : w.ownsRow base 129 3 v n xs) :
    Calls Try.prog 49 #[v, .int .i64 k] w fun e w' => e = .returned (.int .i64 ((k + 3 * n : Nat) : Int)) ∧ w'.ownsRow base 129 3 v n ((mkWs k n).flatMap Wk.cells) ∧ w.grownBy w' v.ownBlock := by
  rcases row_form hrow with ⟨rfl, rfl⟩ | ⟨g, cap, rfl, hg, hcap⟩
  · go_enter Try.func49, Try.ntmps49
    go_wp2
    refine wp_loop_rounds 1 ?_
    rw [rounds_succ]
    go_wp2
    go_ret
    exact ⟨rfl, World.ownsRow_nil _ _ _ _, ⟨rfl, rfl, rfl, Nat.le_refl _, fun _ _ _ => rfl⟩⟩
  · go_enter Try.func49, Try.ntmps49
    go_wp2
    go_loopw [1, 5] (fun kv i wr => ∃ (j c : Nat), j ≤ n ∧ c = k + 3 * j ∧ kv = .int .i64 c ∧ i = .int .i64 j ∧ ∃ ys, wr.ownsRow base 129 3 (.slice (some ⟨g, 0, none⟩) n cap) n ys ∧ ys.take (j * 3) = (mkWs k j).flatMap Wk.cells ∧ w.grownBy wr (some g)) (fun _ i _ => n - (intOf i).toNat)
    case atStart => exact ⟨0, k, Nat.zero_le _, by omega, rfl, rfl, xs, hrow, by simp [mkWs], grown_self _ _⟩
    case round =>
      obtain ⟨j, c, hj, hc, rfl, rfl, ys, row0, hx, hg0⟩ := hrel
      have HX := hid hx
      have HC := hid hc
      clear hx hc hrow
      have hc9 : c ≤ 8000000 := by have := HC.out; omega
      by_cases hlt : j < n
      · have hlen : ys.length = n * 3 := row0.1
        go_wp2_with fail
        refine (markText_at c _ _ rfl (by omega)).mono ?_
        rintro e v1 ⟨rfl, hB1⟩
        have row1 := ownsRow_below row0 hB1
        have hg1 := grown_below hg0 hB1
        clear row0 hg0 hB1
        have hl1 := row1.1
        have s0 := row1.cellAt (j * 3) (by omega)
        have s1 := row1.cellAt (j * 3 + 1) (by omega)
        have s2 := row1.cellAt (j * 3 + 2) (by omega)
        rw [List.getElem?_eq_getElem (by omega)] at s0 s1 s2
        have t0 := row1.frozenAt (j * 3)
        have t1 := row1.frozenAt (j * 3 + 1)
        have t2 := row1.frozenAt (j * 3 + 2)
        have P0 := row1.stored (j * 3) (.string (mkT c))
        have P1 := P0.1.stored (j * 3 + 1) (.bool (((c : Int) + 1) % 3 == 0))
        have P2 := P1.1.stored (j * 3 + 2) (.int .i64 ((c : Int) + 2))
        have HP0 := hid P0.2
        have HP1 := hid P1.2
        have HP2 := hid P2.2
        have HO := hid P2.1
        clear P0 P1 P2
        go_wp2_with fail
        have HM := hid (show mkWs k (j + 1) = mkWs k j ++ [⟨mkT c, ((c : Int) + 1) % 3 == 0, (c : Int) + 2⟩] by rw [mkWs_succ]; unfold mkW; rw [← HC.out])
        go_roundw
        case rel =>
          refine ⟨j + 1, c + 3, by omega, by have := HC.out; omega, by go_num, by go_num, _, HO.out, ?_, grown_two (grown_two (grown_two hg1 HP0.out) HP1.out) HP2.out⟩
          rw [take_set3 _ _ _ _ _ (by omega), HX.out, HM.out, List.flatMap_append]
          simp
        case measure => simp [intOf]; omega
      · obtain rfl : j = n := by omega
        have HF := hid (show ys = (mkWs k j).flatMap Wk.cells by have := HX.out; rw [List.take_of_length_le (by have := row0.1; omega)] at this; exact this)
        go_wp2
        go_ret
        exact ⟨ret_int (by rw [HC.out]), by rw [← HF.out]; exact row0, hg0⟩

set_option maxHeartbeats 2000000 in
set_option maxRecDepth 100000 in
theorem heldWorkS_to (v : Value) (n k : Nat) (w : World) (hn : n ≤ 1048577) (hk : k + 3 * n ≤ 8000000) (hr : WkS w v (mkWs k n)) :
    Calls Try.prog 56 #[v, .int .i64 k] w fun e w' => e = .returned (.int .i64 ((k + 3 * n : Nat) : Int)) ∧ Below w.heap.size w w' := by
  obtain ⟨a, cap, rfl⟩ := hr.len
  have hln := mkWs_len k n
  rw [hln] at hr ⊢
  clear hln
  go_enter Try.func56, Try.ntmps56
  go_wp2
  go_loopw [1, 5] (fun kv i wr => ∃ (j c : Nat), j ≤ n ∧ c = k + 3 * j ∧ kv = .int .i64 c ∧ i = .int .i64 j ∧ Below w.heap.size w wr) (fun _ i _ => n - (intOf i).toNat)
  case atStart => exact ⟨0, k, Nat.zero_le _, by omega, rfl, rfl, Below.refl _ _⟩
  case round =>
    obtain ⟨j, c, hj, hc, rfl, rfl, hB⟩ := hrel
    have HC := hid hc
    clear hc
    have hc9 : c ≤ 8000000 := by have := HC.out; omega
    by_cases hlt : j < n
    · obtain ⟨b, off, rfl, hb, hcap, q0, q1, q2⟩ := (hr.below hB).at (i := j) (by rw [mkWs_len]; exact hlt)
      rw [mkWs_at] at q0 q1 q2
      unfold mkW at q0 q1 q2
      dsimp only at q0 q1 q2
      rw [← HC.out] at q0 q1 q2
      clear hr
      cases hq : (((c : Int) + 1) % 3 == 0)
      all_goals rw [hq] at q1
      all_goals go_wp2_with fail
      all_goals go_region_held3 (fun w' => w'.cell? ⟨b, off + j * 3, none⟩ = some (.string (mkT c))) (go_keep) (first | (go_at_call 41; refine (markText_at c _ _ rfl (by omega)).mono ?_; rintro e v1 ⟨rfl, hB1⟩; have r0 := (hB1.cell (p := ⟨b, off + j * 3, none⟩) (by exact hb)).trans (by exact q0); have r1 := (hB1.cell (p := ⟨b, off + j * 3 + 1, none⟩) (by exact hb)).trans (by exact q1); have r2 := (hB1.cell (p := ⟨b, off + j * 3 + 2, none⟩) (by exact hb)).trans (by exact q2)))
      all_goals have hBB1 := below_one hB (below_drew1 hB1)
      all_goals clear hB1
      all_goals go_wp2
      all_goals go_roundw
      all_goals first
        | exact ⟨j + 1, c + 3, by omega, by have := HC.out; omega, by go_num, by go_num, hBB1⟩
        | ((repeat apply Exists.intro); exact ⟨⟨j + 1, c + 3, by omega, by have := HC.out; omega, by go_num, by go_num, hBB1⟩, rfl⟩)
        | (simp [intOf]; omega)
    · obtain rfl : j = n := by omega
      go_wp2
      go_ret
      exact ⟨ret_int (by rw [HC.out]), hB⟩

end Go.Proofs.Ytnbojbcljfiamaa

namespace Go.Proofs.Ytnbojbcljfiamaa
open Go.RowKit Go.Shelf

theorem Mid.iso {lo hi : Nat} {w w1 : World} (h : Mid lo hi w w1) {base top : Nat} {v : Value} {s : Is} (hr : IsO w base top v s) (ho : hi ≤ base ∨ top ≤ lo) : IsO w1 base top v s := by
  obtain ⟨vw, vr, vs, rfl, h1, h2, h3, t1, t2, t3⟩ := hr
  exact ⟨vw, vr, vs, rfl, h.row h1 (fun k hk => by have := h1.lt k hk; have := t1 k hk; omega), h.row h2 (fun k hk => by have := h2.lt k hk; have := t2 k hk; omega), h.row h3 (fun k hk => by have := h3.lt k hk; have := t3 k hk; omega), t1, t2, t3⟩
/-- What lies in an issuer that was marked. -/
def mkIs (k : Nat) (s : Is) : Is := ⟨mkWs k s.ws.length, s.nx, mkN (k + 3 * s.ws.length) s.rv.length, mkS (k + 3 * s.ws.length + s.rv.length) s.sg.length⟩
def Is.many (s : Is) : Nat := 3 * s.ws.length + s.rv.length + s.sg.length

set_option maxHeartbeats 2000000 in
theorem markIssuer_any (v : Value) (s : Is) (k base top : Nat) (w : World) (hs : s.short) (hk : k + s.many ≤ 8000000) (ht : top ≤ w.heap.size) (h : IsO w base top v s) :
    Calls Try.prog 22 #[v, .int .i64 k] w fun e w' => e = .returned (.int .i64 ((k + s.many : Nat) : Int)) ∧ IsO w' base top v (mkIs k s) ∧ Mid base top w w' := by
  obtain ⟨vw, vr, vs, rfl, h1, h2, h3, t1, t2, t3⟩ := h
  obtain ⟨l1, l2, l3⟩ := hs
  unfold Is.many at hk
  obtain ⟨c1, HC1⟩ : ∃ c, Hid (c = k + 3 * s.ws.length) := ⟨_, hid rfl⟩
  obtain ⟨c2, HC2⟩ : ∃ c, Hid (c = c1 + s.rv.length) := ⟨_, hid rfl⟩
  have hc1 : c1 ≤ 8000000 := by have := HC1.out; omega
  have hc2 : c2 ≤ 8000000 := by have := HC1.out; have := HC2.out; omega
  have hB0 : Below w.heap.size w (w.alloc (.cells #[vw, .int .i64 s.nx, vr, vs] 26)) := (Below.refl _ w).alloc (Nat.le_refl _) _
  have F := Four.new w vw (.int .i64 s.nx) vr vs 26
  replace h1 := ownsRow_below h1 hB0
  replace h2 := ownsRow_below h2 hB0
  replace h3 := ownsRow_below h3 hB0
  have M0 : Mid base top w (w.alloc (.cells #[vw, .int .i64 s.nx, vr, vs] 26)) := Mid.of_below hB0
  go_enter Try.func22, Try.ntmps22
  go_wp2_with fail
  clear hB0
  generalize w.alloc (.cells #[vw, .int .i64 s.nx, vr, vs] 26) = W0 at *
  refine (markWorkS_to vw s.ws.length k base _ _ l1 (by omega) h1).mono ?_
  rintro e w1 ⟨rfl, r1, g1⟩
  rw [← HC1.out]
  have M1 : Mid base top W0 w1 := Mid.of_grown g1 (fun j hj => ⟨(h1.lt j hj).1, t1 j hj⟩)
  replace h2 := kept_apart h2 g1 (row_apart h2 h1 (by decide))
  replace h3 := kept_apart h3 g1 (row_apart h3 h1 (by decide))
  replace F := M1.four F (.inr ht)
  replace M0 := M0.trans M1
  clear M1 g1
  obtain ⟨a0, a1, a2, a3⟩ := F.c
  go_wp2_with fail
  refine (markIntS_to vr s.rv.length c1 base _ _ l2 (by have := HC1.out; omega) h2).mono ?_
  rintro e w2 ⟨rfl, r2, g2⟩
  rw [← HC2.out]
  have M1 : Mid base top w1 w2 := Mid.of_grown g2 (fun j hj => ⟨(h2.lt j hj).1, t2 j hj⟩)
  replace r1 := kept_apart r1 g2 (row_apart r1 h2 (by decide))
  replace h3 := kept_apart h3 g2 (row_apart h3 h2 (by decide))
  replace F := M1.four F (.inr ht)
  replace M0 := M0.trans M1
  clear M1 g2 a0 a1 a2 a3
  obtain ⟨a0, a1, a2, a3⟩ := F.c
  go_wp2_with fail
  refine (markStringS_to vs s.sg.length c2 base _ _ l3 (by have := HC1.out; have := HC2.out; omega) h3).mono ?_
  rintro e w3 ⟨rfl, r3, g3⟩
  have HE := hid (show ((c2 + s.sg.length : Nat) : Int) = ((k + s.many : Nat) : Int) by have := HC1.out; have := HC2.out; unfold Is.many; omega)
  rw [HE.out]
  have M1 : Mid base top w2 w3 := Mid.of_grown g3 (fun j hj => ⟨(h3.lt j hj).1, t3 j hj⟩)
  replace r1 := kept_apart r1 g3 (row_apart r1 h3 (by decide))
  replace r2 := kept_apart r2 g3 (row_apart r2 h3 (by decide))
  replace M0 := M0.trans M1
  clear M1 g3 a0 a1 a2 a3
  go_wp2_with fail
  go_ret
  refine ⟨rfl, ⟨vw, vr, vs, rfl, ?_, ?_, ?_, t1, t2, t3⟩, M0⟩
  · show World.ownsRow _ _ _ _ _ (mkWs k s.ws.length).length _
    rw [mkWs_len]
    exact r1
  · show World.ownsRow _ _ _ _ _ (mkN (k + 3 * s.ws.length) s.rv.length).length (nums (mkN (k + 3 * s.ws.length) s.rv.length))
    rw [mkN_len, ← HC1.out]
    exact r2
  · show World.ownsRow _ _ _ _ _ (mkS (k + 3 * s.ws.length + s.rv.length) s.sg.length).length (strs (mkS (k + 3 * s.ws.length + s.rv.length) s.sg.length))
    rw [mkS_len, ← HC1.out, ← HC2.out]
    exact r3

set_option maxHeartbeats 2000000 in
theorem heldIssuer_any (v : Value) (s : Is) (k : Nat) (w : World) (hs : s.short) (hk : k + s.many ≤ 8000000) (h : IsA w v (mkIs k s)) :
    Calls Try.prog 25 #[v, .int .i64 k] w fun e w' => e = .returned (.int .i64 ((k + s.many : Nat) : Int)) ∧ Below w.heap.size w w' := by
  obtain ⟨vw, vr, vs, rfl, h1, h2, h3⟩ := h.parts
  obtain ⟨l1, l2, l3⟩ := hs
  unfold Is.many at hk
  obtain ⟨c1, HC1⟩ : ∃ c, Hid (c = k + 3 * s.ws.length) := ⟨_, hid rfl⟩
  obtain ⟨c2, HC2⟩ : ∃ c, Hid (c = c1 + s.rv.length) := ⟨_, hid rfl⟩
  have hc1 : c1 ≤ 8000000 := by have := HC1.out; omega
  have hc2 : c2 ≤ 8000000 := by have := HC1.out; have := HC2.out; omega
  have h1' : WkS w vw (mkWs k s.ws.length) := h1
  have h2' : VS w vr (nums (mkN c1 s.rv.length)) := by rw [HC1.out]; exact h2
  have h3' : VS w vs (strs (mkS c2 s.sg.length)) := by rw [HC2.out, HC1.out]; exact h3
  have hnx : (mkIs k s).nx = s.nx := rfl
  rw [hnx]
  clear h h1 h2 h3 hnx
  have hB0 : Below w.heap.size w (w.alloc (.cells #[vw, .int .i64 s.nx, vr, vs] 26)) := (Below.refl _ w).alloc (Nat.le_refl _) _
  have F := Four.new w vw (.int .i64 s.nx) vr vs 26
  go_enter Try.func25, Try.ntmps25
  go_wp2_with fail
  generalize w.alloc (.cells #[vw, .int .i64 s.nx, vr, vs] 26) = W0 at *
  refine (heldWorkS_to vw s.ws.length k _ l1 (by omega) (h1'.below hB0)).mono ?_
  rintro e w1 ⟨rfl, hB1⟩
  rw [← HC1.out]
  replace F := F.below hB1
  have hBB1 := below_one hB0 hB1
  clear hB0 hB1
  obtain ⟨a0, a1, a2, a3⟩ := F.c
  have d1 : decide ((c1 : Int) < 0) = false := by simp
  go_wp2_with fail
  refine (heldIntS_to vr s.rv.length c1 _ l2 (by have := HC1.out; omega) (h2'.below hBB1)).mono ?_
  rintro e w2 ⟨rfl, hB2⟩
  rw [← HC2.out]
  replace F := F.below hB2
  have hBB2 := below_one hBB1 hB2
  clear hBB1 hB2 a0 a1 a2 a3
  obtain ⟨a0, a1, a2, a3⟩ := F.c
  have d2 : decide ((c2 : Int) < 0) = false := by simp
  go_wp2_with fail
  refine (heldStringS_to vs s.sg.length c2 _ l3 (by have := HC1.out; have := HC2.out; omega) (h3'.below hBB2)).mono ?_
  rintro e w3 ⟨rfl, hB3⟩
  obtain ⟨c3, HC3⟩ : ∃ c, Hid (c = c2 + s.sg.length) := ⟨_, hid rfl⟩
  rw [← HC3.out]
  have d3 : decide ((c3 : Int) < 0) = false := by simp
  go_wp2_with fail
  go_ret
  exact ⟨ret_int (by have := HC1.out; have := HC2.out; have := HC3.out; unfold Is.many; omega), below_one hBB2 hB3⟩

end Go.Proofs.Ytnbojbcljfiamaa

namespace Go.Proofs.Ytnbojbcljfiamaa
open Go.RowKit Go.Shelf

/-- A slice reads as this list of versions. -/
def SsA (w : World) (v : Value) (ss : List Sn) : Prop :=
  (∃ a cap, v = .slice a 0 cap ∧ ss = []) ∨
  ∃ b off cap, v = .slice (some ⟨b, off, none⟩) ss.length cap ∧ b < w.heap.size ∧ ss.length ≤ cap ∧ ∀ i (h : i < ss.length), ∃ vp vr, w.cell? ⟨b, off + i * 3, none⟩ = some (.int .i64 ss[i].num) ∧ w.cell? ⟨b, off + i * 3 + 1, none⟩ = some vp ∧ w.cell? ⟨b, off + i * 3 + 2, none⟩ = some vr ∧ RuS w vp ss[i].pol ∧ VS w vr (nums ss[i].rv)
def SsR (w : World) (v : Value) (ss : List Sn) : Prop :=
  (v = .slice none 0 0 ∧ ss = []) ∨
  ∃ b off cap, v = .slice (some ⟨b, off, none⟩) ss.length cap ∧ b < w.heap.size ∧ ss.length ≤ cap ∧ ∀ i (h : i < ss.length), ∃ vp vr, w.cell? ⟨b, off + i * 3, none⟩ = some (.int .i64 ss[i].num) ∧ w.cell? ⟨b, off + i * 3 + 1, none⟩ = some vp ∧ w.cell? ⟨b, off + i * 3 + 2, none⟩ = some vr ∧ RuR w vp ss[i].pol ∧ NuR w vr ss[i].rv
theorem SsA.below {w w' : World} {v : Value} {ss : List Sn} (h : SsA w v ss) (hB : Below w.heap.size w w') : SsA w' v ss := by
  rcases h with h | ⟨b, off, cap, hv, hb, hl, hc⟩
  · exact .inl h
  · refine .inr ⟨b, off, cap, hv, Nat.lt_of_lt_of_le hb hB.size, hl, fun i hi => ?_⟩
    obtain ⟨vp, vr, c0, c1, c2, h1, h2⟩ := hc i hi
    exact ⟨vp, vr, (hB.cell (p := ⟨b, _, none⟩) hb).trans c0, (hB.cell (p := ⟨b, _, none⟩) hb).trans c1, (hB.cell (p := ⟨b, _, none⟩) hb).trans c2, h1.below hB, h2.below hB⟩
theorem SsR.below {w w' : World} {v : Value} {ss : List Sn} (h : SsR w v ss) (hB : Below w.heap.size w w') : SsR w' v ss := by
  rcases h with h | ⟨b, off, cap, hv, hb, hl, hc⟩
  · exact .inl h
  · refine .inr ⟨b, off, cap, hv, Nat.lt_of_lt_of_le hb hB.size, hl, fun i hi => ?_⟩
    obtain ⟨vp, vr, c0, c1, c2, h1, h2⟩ := hc i hi
    exact ⟨vp, vr, (hB.cell (p := ⟨b, _, none⟩) hb).trans c0, (hB.cell (p := ⟨b, _, none⟩) hb).trans c1, (hB.cell (p := ⟨b, _, none⟩) hb).trans c2, h1.below hB, h2.below hB⟩
theorem SsR.a {w : World} {v : Value} {ss : List Sn} (h : SsR w v ss) : SsA w v ss := by
  rcases h with ⟨rfl, rfl⟩ | ⟨b, off, cap, hv, hb, hl, hc⟩
  · exact .inl ⟨_, _, rfl, rfl⟩
  · refine .inr ⟨b, off, cap, hv, hb, hl, fun i hi => ?_⟩
    obtain ⟨vp, vr, c0, c1, c2, h1, h2⟩ := hc i hi
    exact ⟨vp, vr, c0, c1, c2, h1.s, h2.s⟩
theorem SsA.len {w : World} {v : Value} {ss : List Sn} (h : SsA w v ss) : ∃ a cap, v = .slice a ss.length cap := by
  rcases h with ⟨a, cap, hv, rfl⟩ | ⟨b, off, cap, hv, _⟩
  · exact ⟨a, cap, hv⟩
  · exact ⟨_, cap, hv⟩
theorem SsR.len {w : World} {v : Value} {ss : List Sn} (h : SsR w v ss) : ∃ a cap, v = .slice a ss.length cap := h.a.len
theorem SsA.at {w : World} {a : Option Addr} {n cap : Nat} {ss : List Sn} (h : SsA w (.slice a n cap) ss) {i : Nat} (hi : i < ss.length) :
    ∃ b off xp cp xr cr, a = some ⟨b, off, none⟩ ∧ b < w.heap.size ∧ n ≤ cap ∧ w.cell? ⟨b, off + i * 3, none⟩ = some (.int .i64 ss[i].num) ∧ w.cell? ⟨b, off + i * 3 + 1, none⟩ = some (.slice xp ss[i].pol.length cp) ∧ w.cell? ⟨b, off + i * 3 + 2, none⟩ = some (.slice xr ss[i].rv.length cr) ∧ RuS w (.slice xp ss[i].pol.length cp) ss[i].pol ∧ VS w (.slice xr ss[i].rv.length cr) (nums ss[i].rv) := by
  rcases h with ⟨_, _, _, rfl⟩ | ⟨b, off, cap, hv, hb, hl, hc⟩
  · simp at hi
  · cases hv
    obtain ⟨vp, vr, c0, c1, c2, h1, h2⟩ := hc i hi
    obtain ⟨xp, cp, rfl⟩ := h1.len
    obtain ⟨xr, cr, rfl⟩ := h2.numLen
    exact ⟨b, off, xp, cp, xr, cr, rfl, hb, hl, c0, c1, c2, h1, h2⟩
theorem SsR.at {w : World} {a : Option Addr} {n cap : Nat} {ss : List Sn} (h : SsR w (.slice a n cap) ss) {i : Nat} (hi : i < ss.length) :
    ∃ b off xp cp xr cr, a = some ⟨b, off, none⟩ ∧ b < w.heap.size ∧ n ≤ cap ∧ w.cell? ⟨b, off + i * 3, none⟩ = some (.int .i64 ss[i].num) ∧ w.cell? ⟨b, off + i * 3 + 1, none⟩ = some (.slice xp ss[i].pol.length cp) ∧ w.cell? ⟨b, off + i * 3 + 2, none⟩ = some (.slice xr ss[i].rv.length cr) ∧ RuR w (.slice xp ss[i].pol.length cp) ss[i].pol ∧ NuR w (.slice xr ss[i].rv.length cr) ss[i].rv := by
  rcases h with ⟨_, rfl⟩ | ⟨b, off, cap, hv, hb, hl, hc⟩
  · simp at hi
  · cases hv
    obtain ⟨vp, vr, c0, c1, c2, h1, h2⟩ := hc i hi
    obtain ⟨xp, cp, rfl⟩ := h1.len
    obtain ⟨xr, cr, rfl⟩ := h2.len
    exact ⟨b, off, xp, cp, xr, cr, rfl, hb, hl, c0, c1, c2, h1, h2⟩

set_option maxRecDepth 100000 in
open Go.Deep Go.ChangeShapes Go.WideShapes Go.Joins in
/-- A list of versions that comes in. -/
theorem openSsS {H : Type} {enc : TypeId × Value → H} {W : World} {a : Option Addr} {n c : Nat} {d : DataW H} {p : List MemPlace} (h : DataW.Trod enc Try.prog W 0 (fun _ => true) true 39 (.slice a n c) d p) :
    ∃ ss : List Sn, SsA W (.slice a n c) ss ∧ ss.length = n ∧ n ≤ maxLen ∧ ∀ s ∈ ss, s.fits := by
  obtain ⟨fuel, hf⟩ := h
  rcases open_slice Try.underlying39 hf with ⟨hcs, _⟩ | ⟨x, len, cap, m, k, D, Pl, hcs, _, hl, hm, hmm, _, hx⟩
  · simp [Value.cells] at hcs
    obtain ⟨rfl, rfl, rfl⟩ := hcs
    exact ⟨[], .inl ⟨_, _, rfl, rfl⟩, rfl, Nat.zero_le _, fun r hr => by cases hr⟩
  · simp [Value.cells] at hcs
    obtain ⟨rfl, rfl, rfl⟩ := hcs
    have hlm : n ≤ m := by rw [hmm]; simpa using hl
    have each : ∀ i, i < n → ∃ s : Sn, (∃ vp vr, W.cell? (x.add (i * 3)) = some (.int .i64 s.num) ∧ W.cell? (x.add (i * 3 + 1)) = some vp ∧ W.cell? (x.add (i * 3 + 2)) = some vr ∧ RuS W vp s.pol ∧ VS W vr (nums s.rv)) ∧ s.fits := by
      intro i hi
      obtain ⟨cs', h1, h2⟩ := hx i (by omega)
      rw [cellsSnapshot] at h1
      obtain ⟨_, hlen, hcell⟩ := World.cells?_some h1
      obtain ⟨y0, y1, y2, m', _, _, g0, g1, g2⟩ := trod_struct3 Try.underlying105 h2
      match cs', hlen with
      | [v0, v1, v2], _ =>
        have e0 := hcell 0 (by omega)
        have e1 := hcell 1 (by omega)
        have e2 := hcell 2 (by omega)
        rw [add_add] at e0 e1 e2
        have c1 : Try.prog.cellsOf 3 = 1 := by kernel_rfl
        have c2 : Try.prog.cellsOf 103 = 1 := by kernel_rfl
        have c3 : Try.prog.cellsOf 23 = 1 := by kernel_rfl
        simp [c1, c2, c3] at g0 g1 g2
        obtain ⟨x0, f0, _, _⟩ := DataW.trod_int Try.underlying3 g0
        obtain ⟨a1, n1, k1, rs, rfl, r1, rfl, l1, f1⟩ := openRuR g1
        obtain ⟨a2, n2, k2, zs, rfl, r2, rfl, l2⟩ := openInR g2
        simp at f0
        subst f0
        exact ⟨⟨x0, rs, zs⟩, ⟨_, _, by simpa using e0, by simpa using e1, by simpa using e2, r1, r2⟩, l1, f1, l2⟩
    have hin : Inhabited Sn := ⟨Sn.none⟩
    obtain ⟨q, hq⟩ := choose_lt each
    by_cases h0 : n = 0
    · subst h0
      exact ⟨[], .inl ⟨_, _, rfl, rfl⟩, rfl, Nat.zero_le _, fun r hr => by cases hr⟩
    · obtain ⟨b, off, spot⟩ := x
      obtain ⟨_, _, hz, _⟩ := (hq 0 (by omega)).1
      have hs : spot = none := by simpa [Addr.add] using World.cell?_spot hz
      subst hs
      have hlt : b < W.heap.size := by
        rw [Addr.add_lit] at hz
        by_cases hb : b < W.heap.size
        · exact hb
        · simp only [World.cell?] at hz
          rw [Array.getElem?_eq_none (by omega)] at hz
          cases hz
      refine ⟨(List.range n).map q, .inr ⟨b, off, c, by simp, hlt, by simpa using hl, fun k hk => ?_⟩, by simp, by omega, ?_⟩
      · have hk' : k < n := by simpa using hk
        obtain ⟨vp, vr, c0, c1, c2, h1, h2⟩ := (hq k hk').1
        simp only [Addr.add_lit, ← Nat.add_assoc] at c0 c1 c2
        refine ⟨vp, vr, ?_, c1, c2, ?_, ?_⟩
        · simpa using c0
        · simpa using h1
        · simpa using h2
      · intro r hr
        obtain ⟨i, hi, rfl⟩ := List.mem_map.1 hr
        exact (hq i (List.mem_range.1 hi)).2

def vzTo (ss : List Sn) (n : Nat) : Nat := ((ss.take n).map Sn.size).sum
def vzAll (ss : List Sn) : Nat := ss.length + vzTo ss ss.length
theorem vzTo_zero (ss : List Sn) : vzTo ss 0 = 0 := by simp [vzTo]
theorem vzTo_succ {ss : List Sn} {n : Nat} (h : n < ss.length) : vzTo ss (n + 1) = vzTo ss n + ss[n].size := by
  unfold vzTo
  rw [List.take_succ_eq_append_getElem h, List.map_append, List.sum_append]
  simp
theorem vzTo_le (ss : List Sn) (n : Nat) : vzTo ss n ≤ vzTo ss ss.length := by
  unfold vzTo
  rw [List.take_length]
  conv => rhs; rw [← List.take_append_drop n ss, List.map_append, List.sum_append]
  omega
theorem vz_mem {ss : List Sn} {s : Sn} (h : s ∈ ss) : s.size ≤ vzTo ss ss.length := by
  unfold vzTo
  rw [List.take_length]
  exact sum_mem (List.mem_map.2 ⟨s, h, rfl⟩)
def leftVS (n : Int) (ss : List Sn) : Int := if (vzAll ss : Int) ≤ n then n - vzAll ss else -1

set_option maxHeartbeats 1000000 in
theorem szSnapshotS_any (v : Value) (rs : List Sn) (n : Int) (w : World) (h0 : 0 ≤ n) (h1 : n ≤ 1048576) (hm : rs.length ≤ maxLen) (hf : ∀ r ∈ rs, r.fits) (hr : SsA w v rs) :
    Calls Try.prog 29 #[v, .int .i64 n] w fun e w' => e = .returned (.int .i64 (leftVS n rs)) ∧ Below w.heap.size w w' := by
  obtain ⟨a, cap, rfl⟩ := hr.len
  unfold maxLen at hm
  by_cases c0 : n < rs.length
  · have HR := hid (show leftVS n rs = -1 from if_neg (by unfold vzAll; omega))
    go_enter Try.func29, Try.ntmps29
    go_wp2
    go_ret
    exact ⟨ret_int HR.out.symm, Below.refl _ _⟩
  · have d0 : decide (n - (rs.length : Int) < 0) = false := by simp; omega
    go_enter Try.func29, Try.ntmps29
    go_wp2
    go_loopw [1, 5] (fun m i wr => ∃ k : Nat, k ≤ rs.length ∧ i = .int .i64 k ∧ m = .int .i64 (n - rs.length - vzTo rs k) ∧ 0 ≤ n - rs.length - vzTo rs k ∧ Below w.heap.size w wr) (fun _ i _ => rs.length - (intOf i).toNat)
    case atStart => exact ⟨0, Nat.zero_le _, rfl, by rw [vzTo_zero]; go_num, by rw [vzTo_zero]; omega, Below.refl _ _⟩
    case round =>
      obtain ⟨k, hk, rfl, rfl, hp, hB⟩ := hrel
      by_cases hlt : k < rs.length
      · obtain ⟨b, off, xp, cp, xr, cr, rfl, hb, hcap, q0, q1, q2, y1, y2⟩ := (hr.below hB).at hlt
        have f1 := hf rs[k] (List.getElem_mem hlt)
        have HS := hid (vzTo_succ hlt)
        have HT := hid (vzTo_le rs (k + 1))
        generalize rs[k] = r at *
        go_wp2_with fail
        refine (szSnapshot_any _ r _ _ hp (by omega) f1 ⟨_, _, rfl, y1, y2⟩).mono ?_
        rintro e w1 ⟨rfl, hB1⟩
        have hB2 := below_one hB hB1
        by_cases c1 : (r.size : Int) ≤ n - rs.length - vzTo rs k
        · have hv : leftV (n - rs.length - vzTo rs k) r = n - rs.length - vzTo rs (k + 1) := by
            rw [HS.out]
            unfold leftV
            rw [if_pos (by omega)]
            omega
          have hq : 0 ≤ n - rs.length - vzTo rs (k + 1) := by rw [HS.out]; omega
          rw [hv]
          have d1 : decide (n - (rs.length : Int) - (vzTo rs (k + 1) : Int) < 0) = false := by simp; omega
          clear hv hB1 q0 q1 q2 y1 y2
          go_wp2_with fail
          go_roundw
          case rel => exact ⟨k + 1, by omega, by go_num, rfl, hq, hB2⟩
          case measure => simp [intOf]; omega
        · have hv : leftV (n - rs.length - vzTo rs k) r = -1 := if_neg (by omega)
          have HR := hid (show leftVS n rs = -1 from if_neg (by have := HT.out; rw [HS.out] at this; unfold vzAll; omega))
          rw [hv]
          clear hv hB1 q0 q1 q2 y1 y2
          go_wp2_with fail
          go_ret
          exact ⟨ret_int HR.out.symm, hB2⟩
      · obtain rfl : k = rs.length := by omega
        have HR := hid (show leftVS n rs = n - rs.length - vzTo rs rs.length by unfold leftVS vzAll; rw [if_pos (by omega)]; omega)
        go_wp2
        go_ret
        exact ⟨ret_int HR.out.symm, hB⟩

/-- No list is longer than the laws take. -/
def shortS (ss : List Sn) : Prop := ss.length ≤ 1048576 ∧ ∀ s ∈ ss, s.short
theorem shortS_of {ss : List Sn} (h : vzAll ss ≤ 1048576) : shortS ss := by
  unfold vzAll at h
  exact ⟨by omega, fun s hs => Sn.short_of (by have := vz_mem hs; omega)⟩

set_option maxHeartbeats 2000000 in
/-- A list of versions is like itself, wherever the two lie. -/
theorem eqSnapshotS_same (v v' : Value) (ss : List Sn) (w : World) (hn : shortS ss) (hr : SsA w v ss) (hr' : SsA w v' ss) :
    Calls Try.prog 20 #[v, v'] w fun e w' => e = .returned (.bool true) ∧ Below w.heap.size w w' := by
  obtain ⟨a, cap, rfl⟩ := hr.len
  obtain ⟨a', cap', rfl⟩ := hr'.len
  have hn1 := hn.1
  have e0 : ((ss.length : Int) != (ss.length : Int)) = false := by simp
  go_enter Try.func20, Try.ntmps20
  go_wp2
  go_loopw [5] (fun i wr => ∃ j : Nat, j ≤ ss.length ∧ i = .int .i64 j ∧ Below w.heap.size w wr) (fun i _ => ss.length - (intOf i).toNat)
  case atStart => exact ⟨0, Nat.zero_le _, rfl, Below.refl _ _⟩
  case round =>
    obtain ⟨j, hj, rfl, hB⟩ := hrel
    by_cases hlt : j < ss.length
    · obtain ⟨b, off, xp, cp, xr, cr, rfl, hb, hcap, q0, q1, q2, y1, y2⟩ := (hr.below hB).at hlt
      obtain ⟨b', off', xp', cp', xr', cr', rfl, hb', hcap', p0, p1, p2, y1', y2'⟩ := (hr'.below hB).at hlt
      have hs := hn.2 ss[j] (List.getElem_mem hlt)
      generalize ss[j] = s at *
      go_wp2_with fail
      go_region_with (go_at_call 47; refine (eqSnapshot_same _ _ s _ hs ⟨_, _, rfl, y1.below (Below.refl _ _).drew, y2.below (Below.refl _ _).drew⟩ ⟨_, _, rfl, y1'.below (Below.refl _ _).drew, y2'.below (Below.refl _ _).drew⟩).mono ?_; rintro e w1 ⟨rfl, hB1⟩)
      all_goals go_wp2
      all_goals go_roundw
      all_goals first
        | exact ⟨j + 1, by omega, by go_num, below_one hB (below_drew1 hB1)⟩
        | (simp [intOf]; omega)
    · obtain rfl : j = ss.length := by omega
      go_wp2
      go_ret
      exact ⟨rfl, hB⟩

end Go.Proofs.Ytnbojbcljfiamaa

namespace Go.Proofs.Ytnbojbcljfiamaa
open Go.RowKit Go.Shelf

/-- A row of n places, of which the first k hold these versions, whose lists lie in blocks of their own from base on, below top. -/
structure SsK (w : World) (base top : Nat) (v : Value) (n : Nat) (ss : List Sn) (k : Nat) (xs : List Value) (vp vr : Nat → Value) : Prop where
  row : w.ownsRow base 85 3 v n xs
  rlt : ∀ j, v.ownBlock = some j → j < top
  cs : ∀ i (h : i < ss.length), i < k → xs[i * 3]? = some (.int .i64 ss[i].num) ∧ xs[i * 3 + 1]? = some (vp i) ∧ xs[i * 3 + 2]? = some (vr i)
  pol : ∀ i (h : i < ss.length), i < k → w.ownsRow base 135 4 (vp i) ss[i].pol.length (ss[i].pol.flatMap Ru.cells)
  num : ∀ i (h : i < ss.length), i < k → w.ownsRow base 3 1 (vr i) ss[i].rv.length (nums ss[i].rv)
  plt : ∀ i, i < ss.length → i < k → ∀ j, (vp i).ownBlock = some j → j < top
  nlt : ∀ i, i < ss.length → i < k → ∀ j, (vr i).ownBlock = some j → j < top
  pap : ∀ i j, i < ss.length → j < ss.length → i < k → j < k → i ≠ j → ∀ b, (vp i).ownBlock = some b → (vp j).ownBlock = some b → False
  nap : ∀ i j, i < ss.length → j < ss.length → i < k → j < k → i ≠ j → ∀ b, (vr i).ownBlock = some b → (vr j).ownBlock = some b → False
/-- A list of versions of one's own. -/
def SsO (w : World) (base top : Nat) (v : Value) (ss : List Sn) : Prop := ∃ xs vp vr, SsK w base top v ss.length ss ss.length xs vp vr
theorem SsK.below {w w' : World} {base top : Nat} {v : Value} {n : Nat} {ss : List Sn} {k : Nat} {xs : List Value} {vp vr : Nat → Value} (h : SsK w base top v n ss k xs vp vr) (hB : Below w.heap.size w w') : SsK w' base top v n ss k xs vp vr :=
  ⟨ownsRow_below h.row hB, h.rlt, h.cs, fun i hi hk => ownsRow_below (h.pol i hi hk) hB, fun i hi hk => ownsRow_below (h.num i hi hk) hB, h.plt, h.nlt, h.pap, h.nap⟩
theorem SsO.below {w w' : World} {base top : Nat} {v : Value} {ss : List Sn} (h : SsO w base top v ss) (hB : Below w.heap.size w w') : SsO w' base top v ss := by
  obtain ⟨xs, vp, vr, h⟩ := h
  exact ⟨xs, vp, vr, h.below hB⟩
theorem Mid.sso {lo hi : Nat} {w w1 : World} (hM : Mid lo hi w w1) {base top : Nat} {v : Value} {ss : List Sn} (h : SsO w base top v ss) (ho : hi ≤ base ∨ top ≤ lo) : SsO w1 base top v ss := by
  obtain ⟨xs, vp, vr, h⟩ := h
  exact ⟨xs, vp, vr, hM.row h.row (fun j hj => by have := h.row.lt j hj; have := h.rlt j hj; omega), h.rlt, h.cs,
    fun i hi hk => hM.row (h.pol i hi hk) (fun j hj => by have := (h.pol i hi hk).lt j hj; have := h.plt i hi hk j hj; omega),
    fun i hi hk => hM.row (h.num i hi hk) (fun j hj => by have := (h.num i hi hk).lt j hj; have := h.nlt i hi hk j hj; omega), h.plt, h.nlt, h.pap, h.nap⟩
theorem SsO.r {w : World} {base top : Nat} {v : Value} {ss : List Sn} (h : SsO w base top v ss) : SsR w v ss := by
  obtain ⟨xs, vp, vr, h⟩ := h
  rcases row_form h.row with ⟨rfl, h0⟩ | ⟨g, cap, rfl, hg, hcap⟩
  · exact .inl ⟨rfl, List.eq_nil_of_length_eq_zero h0⟩
  · refine .inr ⟨g, 0, cap, rfl, (h.row.lt g rfl).2, hcap, fun i hi => ?_⟩
    obtain ⟨c0, c1, c2⟩ := h.cs i hi hi
    refine ⟨vp i, vr i, ?_, ?_, ?_, RuR.own (h.pol i hi hi), NuR.own (h.num i hi hi)⟩
    · rw [Nat.zero_add, h.row.cellAt (i * 3) (by omega)]; exact c0
    · rw [Nat.zero_add, h.row.cellAt (i * 3 + 1) (by omega)]; exact c1
    · rw [Nat.zero_add, h.row.cellAt (i * 3 + 2) (by omega)]; exact c2
theorem SsO.a {w : World} {base top : Nat} {v : Value} {ss : List Sn} (h : SsO w base top v ss) : SsA w v ss := h.r.a
theorem SsO.mono {w : World} {base base' top top' : Nat} {v : Value} {ss : List Sn} (h : SsO w base top v ss) (hb : base' ≤ base) (ht : top ≤ top') : SsO w base' top' v ss := by
  obtain ⟨xs, vp, vr, h⟩ := h
  exact ⟨xs, vp, vr, Go.Joins.ownsRow_le h.row hb, fun j hj => Nat.lt_of_lt_of_le (h.rlt j hj) ht, h.cs, fun i hi hk => Go.Joins.ownsRow_le (h.pol i hi hk) hb, fun i hi hk => Go.Joins.ownsRow_le (h.num i hi hk) hb,
    fun i hi hk j hj => Nat.lt_of_lt_of_le (h.plt i hi hk j hj) ht, fun i hi hk j hj => Nat.lt_of_lt_of_le (h.nlt i hi hk j hj) ht, h.pap, h.nap⟩
theorem SsO.none (w : World) (base top : Nat) : SsO w base top (.slice none 0 0) [] :=
  ⟨[], fun _ => .nilIface, fun _ => .nilIface, World.ownsRow_nil _ _ _ _, fun _ h => by simp [Value.ownBlock] at h, fun _ h => by simp at h, fun _ h => by simp at h, fun _ h => by simp at h, fun _ h => by simp at h, fun _ h => by simp at h, fun _ _ h => by simp at h, fun _ _ h => by simp at h⟩
theorem tyR : (135 : TypeId) ≠ 85 := by decide
theorem tyN : (3 : TypeId) ≠ 85 := by decide
theorem tyRN : (135 : TypeId) ≠ 3 := by decide
/-- Three cells stored into a row's block leave rows of another kind as they are. -/
theorem row_kept3 {w : World} {b1 b2 : Nat} {e1 : TypeId} {s1 n1 g n cap : Nat} {v1 : Value} {x1 xs : List Value} (h : w.ownsRow b1 e1 s1 v1 n1 x1) (hr : w.ownsRow b2 85 3 (.slice (some ⟨g, 0, none⟩) n cap) n xs) (hne : e1 ≠ 85) (o0 o1 o2 : Nat) (y0 y1 y2 : Value) :
    (((w.setCell ⟨g, o0, none⟩ y0).setCell ⟨g, o1, none⟩ y1).setCell ⟨g, o2, none⟩ y2).ownsRow b1 e1 s1 v1 n1 x1 := by
  have hb : v1.ownBlock ≠ some g := fun e => row_apart h hr hne g e rfl
  exact ownsRow_setCell_other (ownsRow_setCell_other (ownsRow_setCell_other h (a := ⟨g, o0, none⟩) hb y0) (a := ⟨g, o1, none⟩) hb y1) (a := ⟨g, o2, none⟩) hb y2
/-- One more version is laid into the row. -/
theorem SsK.add {w w2 : World} {base g n cap : Nat} {ss : List Sn} {k : Nat} {xs : List Value} {vp vr : Nat → Value} {p r : Value} (h : SsK w base w.heap.size (.slice (some ⟨g, 0, none⟩) n cap) n ss k xs vp vr) (hB : Below w.heap.size w w2) (hk : k < ss.length) (hkn : k < n) (hb : base ≤ w.heap.size)
    (hp : w2.ownsRow w.heap.size 135 4 p ss[k].pol.length (ss[k].pol.flatMap Ru.cells)) (hr : w2.ownsRow w.heap.size 3 1 r ss[k].rv.length (nums ss[k].rv)) :
    SsK (((w2.setCell ⟨g, k * 3, none⟩ (.int .i64 ss[k].num)).setCell ⟨g, k * 3 + 1, none⟩ p).setCell ⟨g, k * 3 + 2, none⟩ r) base (((w2.setCell ⟨g, k * 3, none⟩ (.int .i64 ss[k].num)).setCell ⟨g, k * 3 + 1, none⟩ p).setCell ⟨g, k * 3 + 2, none⟩ r).heap.size (.slice (some ⟨g, 0, none⟩) n cap) n ss (k + 1) (((xs.set (k * 3) (.int .i64 ss[k].num)).set (k * 3 + 1) p).set (k * 3 + 2) r) (fun i => if i = k then p else vp i) (fun i => if i = k then r else vr i) := by
  have h2 := h.below hB
  have hlen : xs.length = n * 3 := h.row.1
  have hsz : (((w2.setCell ⟨g, k * 3, none⟩ (.int .i64 ss[k].num)).setCell ⟨g, k * 3 + 1, none⟩ p).setCell ⟨g, k * 3 + 2, none⟩ r).heap.size = w2.heap.size := by rw [World.size_setCell, World.size_setCell, World.size_setCell]
  have hs := hB.size
  refine ⟨((h2.row.stored (k * 3) _).1.stored (k * 3 + 1) _).1.stored (k * 3 + 2) _ |>.1, ?_, ?_, ?_, ?_, ?_, ?_, ?_, ?_⟩
  · intro j hj
    rw [hsz]
    exact Nat.lt_of_lt_of_le (h.rlt j hj) hs
  · intro i hi hik
    by_cases e : i = k
    · subst e
      rw [if_pos rfl, if_pos rfl]
      refine ⟨?_, ?_, ?_⟩
      · rw [List.getElem?_set_ne (by omega), List.getElem?_set_ne (by omega), List.getElem?_set_self (by omega)]
      · rw [List.getElem?_set_ne (by omega), List.getElem?_set_self (by simp; omega)]
      · rw [List.getElem?_set_self (by simp; omega)]
    · rw [if_neg e, if_neg e]
      obtain ⟨c0, c1, c2⟩ := h.cs i hi (by omega)
      refine ⟨?_, ?_, ?_⟩
      · rw [List.getElem?_set_ne (by omega), List.getElem?_set_ne (by omega), List.getElem?_set_ne (by omega)]; exact c0
      · rw [List.getElem?_set_ne (by omega), List.getElem?_set_ne (by omega), List.getElem?_set_ne (by omega)]; exact c1
      · rw [List.getElem?_set_ne (by omega), List.getElem?_set_ne (by omega), List.getElem?_set_ne (by omega)]; exact c2
  · intro i hi hik
    by_cases e : i = k
    · subst e
      rw [if_pos rfl]
      exact row_kept3 (Go.Joins.ownsRow_le hp hb) h2.row tyR _ _ _ _ _ _
    · rw [if_neg e]
      exact row_kept3 (h2.pol i hi (by omega)) h2.row tyR _ _ _ _ _ _
  · intro i hi hik
    by_cases e : i = k
    · subst e
      rw [if_pos rfl]
      exact row_kept3 (Go.Joins.ownsRow_le hr hb) h2.row tyN _ _ _ _ _ _
    · rw [if_neg e]
      exact row_kept3 (h2.num i hi (by omega)) h2.row tyN _ _ _ _ _ _
  · intro i hi hik j hj
    rw [hsz]
    by_cases e : i = k
    · rw [if_pos e] at hj
      exact (hp.lt j hj).2
    · rw [if_neg e] at hj
      exact Nat.lt_of_lt_of_le (h.plt i hi (by omega) j hj) hs
  · intro i hi hik j hj
    rw [hsz]
    by_cases e : i = k
    · rw [if_pos e] at hj
      exact (hr.lt j hj).2
    · rw [if_neg e] at hj
      exact Nat.lt_of_lt_of_le (h.nlt i hi (by omega) j hj) hs
  · intro i j hi hj hik hjk hij b h1 h2'
    by_cases e : i = k
    · rw [if_pos e] at h1
      rw [if_neg (by omega)] at h2'
      have := (hp.lt b h1).1
      have := h.plt j hj (by omega) b h2'
      omega
    · rw [if_neg e] at h1
      have := h.plt i hi (by omega) b h1
      by_cases e2 : j = k
      · rw [if_pos e2] at h2'
        have := (hp.lt b h2').1
        omega
      · rw [if_neg e2] at h2'
        exact h.pap i j hi hj (by omega) (by omega) hij b h1 h2'
  · intro i j hi hj hik hjk hij b h1 h2'
    by_cases e : i = k
    · rw [if_pos e] at h1
      rw [if_neg (by omega)] at h2'
      have := (hr.lt b h1).1
      have := h.nlt j hj (by omega) b h2'
      omega
    · rw [if_neg e] at h1
      have := h.nlt i hi (by omega) b h1
      by_cases e2 : j = k
      · rw [if_pos e2] at h2'
        have := (hr.lt b h2').1
        omega
      · rw [if_neg e2] at h2'
        exact h.nap i j hi hj (by omega) (by omega) hij b h1 h2'
theorem infoSnapshot : (Try.prog.info? 85).map (fun i => (i.zero, i.size, i.bytes)) = some (some (.agg #[.int .i64 0, .slice none 0 0, .slice none 0 0]), 3, 56) := by kernel_rfl

set_option maxHeartbeats 2000000 in
theorem toSnapshotS_any (v : Value) (ss : List Sn) (w : World) (hm : shortS ss) (hr : SsA w v ss) :
    Calls Try.prog 35 #[v] w fun e w' => ∃ v', e = .returned v' ∧ SsO w' w.heap.size w'.heap.size v' ss ∧ Below w.heap.size w w' := by
  obtain ⟨a, cap, rfl⟩ := hr.len
  obtain ⟨i0, hi, hz0, hz1, hz2⟩ := info_parts infoSnapshot
  have hm1 := hm.1
  go_enter Try.func35, Try.ntmps35
  go_wp2_with (at_make; refine wpList_make_full _ rfl _ _ 27 rfl w.heap.size 85 i0 _ 3 Try.underlying27 hi hz0 hz1 _ _ _ _ ss.length rfl rfl rfl rfl (by rw [hz2]; omega) (by unfold maxLen; omega) (Nat.le_refl _) ?_; intro w1 hown hgrow)
  have hB1 : Below w.heap.size w w1 := (Below.refl _ w).grown hgrow (Nat.le_refl _) (fun k e => by cases e)
  go_loopw [4] (fun i wr => ∃ k : Nat, k ≤ ss.length ∧ i = .int .i64 k ∧ ∃ xs vp vr, SsK wr w.heap.size wr.heap.size (.slice (some ⟨w.heap.size, 0, none⟩) ss.length ss.length) ss.length ss k xs vp vr ∧ Below w.heap.size w wr) (fun i _ => ss.length - (intOf i).toNat)
  case atStart => exact ⟨0, Nat.zero_le _, rfl, _, fun _ => .nilIface, fun _ => .nilIface, ⟨hown, fun j hj => (hown.lt j hj).2, fun _ _ h => absurd h (Nat.not_lt_zero _), fun _ _ h => absurd h (Nat.not_lt_zero _), fun _ _ h => absurd h (Nat.not_lt_zero _), fun _ _ h => absurd h (Nat.not_lt_zero _), fun _ _ h => absurd h (Nat.not_lt_zero _), fun _ _ _ _ h => absurd h (Nat.not_lt_zero _), fun _ _ _ _ h => absurd h (Nat.not_lt_zero _)⟩, hB1⟩
  case round =>
    obtain ⟨k, hk, rfl, xs, vp, vr, hK, hB⟩ := hrel
    by_cases hlt : k < ss.length
    · obtain ⟨b, off, xp, cp, xr, cr, rfl, hb, hcap, q0, q1, q2, y1, y2⟩ := (hr.below hB).at hlt
      have hsh := hm.2 ss[k] (List.getElem_mem hlt)
      have HA := hid (fun (w2 : World) (p r : Value) (hB2 : Below wr.heap.size wr w2) => SsK.add (w2 := w2) (p := p) (r := r) hK hB2 hlt hlt hB.size)
      go_wp2_with fail
      refine (toSnapshot_any _ ss[k] _ hsh ⟨_, _, rfl, y1, y2⟩).mono ?_
      rintro e w2 ⟨v2, rfl, ⟨p, r, rfl, op, or', tp, tr⟩, hB2⟩
      obtain ⟨xa, ya, za, rfl⟩ := row_slice op
      obtain ⟨xb, yb, zb, rfl⟩ := row_slice or'
      have HK := hid (HA.out w2 _ _ hB2 op or')
      have hrow2 := ownsRow_below hK.row hB2
      have hB3 := below_one hB hB2
      have hlen : xs.length = ss.length * 3 := hrow2.1
      have s0 := hrow2.cellAt (k * 3) (by omega)
      have s1 := hrow2.cellAt (k * 3 + 1) (by omega)
      have s2 := hrow2.cellAt (k * 3 + 2) (by omega)
      rw [List.getElem?_eq_getElem (by omega)] at s0 s1 s2
      have t0 := hrow2.frozenAt (k * 3)
      have t1 := hrow2.frozenAt (k * 3 + 1)
      have t2 := hrow2.frozenAt (k * 3 + 2)
      generalize xs[k * 3] = z0 at *
      generalize xs[k * 3 + 1] = z1 at *
      generalize xs[k * 3 + 2] = z2 at *
      generalize ss[k] = s at *
      clear q0 q1 q2 hB2 hK HA y1 y2 op or'
      go_wp2_with fail
      go_roundw
      case rel => exact ⟨k + 1, by omega, by go_num, _, _, _, HK.out, ((hB3.setCell (p := ⟨w.heap.size, _, none⟩) (Nat.le_refl _) _).setCell (p := ⟨w.heap.size, _, none⟩) (Nat.le_refl _) _).setCell (p := ⟨w.heap.size, _, none⟩) (Nat.le_refl _) _⟩
      case measure => simp [intOf]; omega
    · obtain rfl : k = ss.length := by omega
      go_wp2
      go_ret
      exact ⟨_, rfl, ⟨xs, vp, vr, hK⟩, hB⟩

end Go.Proofs.Ytnbojbcljfiamaa

namespace Go.Proofs.Ytnbojbcljfiamaa
open Go.RowKit Go.Shelf

theorem Is.short_of {s : Is} (h : s.size ≤ 1048576) : s.short := by
  unfold Is.size wzAll tzAll at h
  exact ⟨by omega, by omega, by omega⟩
theorem is_frm {w : World} {v : Value} {s : Is} (h : IsA w v s) : ∃ a b c d e f, v = .agg #[.slice a s.ws.length b, .int .i64 s.nx, .slice c s.rv.length d, .slice e s.sg.length f] := by
  obtain ⟨vw, vr, vs, rfl, h1, h2, h3⟩ := h.parts
  obtain ⟨a1, c1, rfl⟩ := h1.len
  obtain ⟨a2, c2, rfl⟩ := h2.numLen
  obtain ⟨a3, c3, rfl⟩ := h3.strLen
  exact ⟨_, _, _, _, _, _, rfl⟩
/-- A mesh. -/
structure Ms where
  now : Int
  iss : Is
  vs : List Sn
  sc : List Sc
  dl : List Dv
/-- These cells read as this one. -/
def MsC (w : World) (cs : List Value) (m : Ms) : Prop := ∃ p1a p1b p1c p1d p1e p1f p2x p2z p3x p3z p4x p4z, cs = [.int .i64 m.now, .slice p1a m.iss.ws.length p1b, .int .i64 m.iss.nx, .slice p1c m.iss.rv.length p1d, .slice p1e m.iss.sg.length p1f, .slice p2x m.vs.length p2z, .slice p3x m.sc.length p3z, .slice p4x m.dl.length p4z] ∧ IsA w (.agg #[.slice p1a m.iss.ws.length p1b, .int .i64 m.iss.nx, .slice p1c m.iss.rv.length p1d, .slice p1e m.iss.sg.length p1f]) m.iss ∧ SsA w (.slice p2x m.vs.length p2z) m.vs ∧ GsA 10 ScC w (.slice p3x m.sc.length p3z) m.sc ∧ GsA 6 DvC w (.slice p4x m.dl.length p4z) m.dl
/-- .. of one's own, in blocks from base on, below top. -/
def MsO (w : World) (base top : Nat) (cs : List Value) (m : Ms) : Prop := ∃ p1a p1b p1c p1d p1e p1f p2x p2z p3x p3z p4x p4z m1 m2 m3, cs = [.int .i64 m.now, .slice p1a m.iss.ws.length p1b, .int .i64 m.iss.nx, .slice p1c m.iss.rv.length p1d, .slice p1e m.iss.sg.length p1f, .slice p2x m.vs.length p2z, .slice p3x m.sc.length p3z, .slice p4x m.dl.length p4z] ∧ base ≤ m1 ∧ m1 ≤ m2 ∧ m2 ≤ m3 ∧ m3 ≤ top ∧ IsO w base m1 (.agg #[.slice p1a m.iss.ws.length p1b, .int .i64 m.iss.nx, .slice p1c m.iss.rv.length p1d, .slice p1e m.iss.sg.length p1f]) m.iss ∧ SsO w m1 m2 (.slice p2x m.vs.length p2z) m.vs ∧ GsO 93 10 ScO w m2 m3 (.slice p3x m.sc.length p3z) m.sc ∧ GsO 67 6 DvO w m3 top (.slice p4x m.dl.length p4z) m.dl
def Ms.fits (m : Ms) : Prop := m.iss.fits ∧ (m.vs.length ≤ maxLen ∧ ∀ k ∈ m.vs, k.fits) ∧ (m.sc.length ≤ maxLen ∧ ∀ k ∈ m.sc, k.fits) ∧ (m.dl.length ≤ maxLen ∧ ∀ k ∈ m.dl, k.fits)
def Ms.size (m : Ms) : Nat := m.iss.size + vzAll m.vs + gzAll Sc.size m.sc + gzAll Dv.size m.dl
def Ms.short (m : Ms) : Prop := m.iss.size ≤ 1048576 ∧ shortS m.vs ∧ gShort Sc.short m.sc ∧ gShort Dv.short m.dl
theorem MsC.below {w w' : World} {cs : List Value} {m : Ms} (h : MsC w cs m) (hB : Below w.heap.size w w') : MsC w' cs m := by
  obtain ⟨p1a, p1b, p1c, p1d, p1e, p1f, p2x, p2z, p3x, p3z, p4x, p4z, rfl, h0, h1, h2, h3⟩ := h
  exact ⟨_, _, _, _, _, _, _, _, _, _, _, _, rfl, h0.below hB, h1.below hB, (GsA.below h2 (fun _ _ h => h.below hB) hB), (GsA.below h3 (fun _ _ h => h.below hB) hB)⟩
theorem MsO.mid {lo hi : Nat} {w w1 : World} {base top : Nat} {cs : List Value} {m : Ms} (h : MsO w base top cs m) (M : Mid lo hi w w1) (ho : hi ≤ base ∨ top ≤ lo) : MsO w1 base top cs m := by
  obtain ⟨p1a, p1b, p1c, p1d, p1e, p1f, p2x, p2z, p3x, p3z, p4x, p4z, m1, m2, m3, rfl, g0, g1, g2, g3, h0, h1, h2, h3⟩ := h
  exact ⟨_, _, _, _, _, _, _, _, _, _, _, _, m1, m2, m3, rfl, g0, g1, g2, g3, Mid.iso M h0 (by omega), Mid.sso M h1 (by omega), GsO.mid h2 (fun _ _ _ _ h ho => h.mid M ho) M (by omega), GsO.mid h3 (fun _ _ _ _ h ho => h.mid M ho) M (by omega)⟩
theorem MsO.below {w w1 : World} {base top : Nat} {cs : List Value} {m : Ms} (h : MsO w base top cs m) (hB : Below w.heap.size w w1) : MsO w1 base top cs m := h.mid (Mid.of_below (lo := 0) (hi := 0) hB) (.inl (Nat.zero_le _))
theorem MsO.mono {w : World} {base base' top top' : Nat} {cs : List Value} {m : Ms} (h : MsO w base top cs m) (hb : base' ≤ base) (ht : top ≤ top') : MsO w base' top' cs m := by
  obtain ⟨p1a, p1b, p1c, p1d, p1e, p1f, p2x, p2z, p3x, p3z, p4x, p4z, m1, m2, m3, rfl, g0, g1, g2, g3, h0, h1, h2, h3⟩ := h
  exact ⟨_, _, _, _, _, _, _, _, _, _, _, _, m1, m2, m3, rfl, by omega, by omega, by omega, by omega, IsO.mono h0 hb (Nat.le_refl _), SsO.mono h1 (Nat.le_refl _) (Nat.le_refl _), GsO.mono h2 (Nat.le_refl _) (Nat.le_refl _), GsO.mono h3 (Nat.le_refl _) ht⟩
theorem Ms.short_of {m : Ms} (h : m.size ≤ 1048576) : m.short := by
  unfold Ms.size gzAll at h
  exact ⟨by omega, shortS_of (by omega), ⟨by omega, fun a ha => Sc.short_of (by have := gz_mem (f := Sc.size) ha; omega)⟩, by omega, fun a ha => Dv.short_of (by have := gz_mem (f := Dv.size) ha; omega)⟩
theorem MsO.a {w : World} {base top : Nat} {cs : List Value} {m : Ms} (h : MsO w base top cs m) : MsC w cs m := by
  obtain ⟨p1a, p1b, p1c, p1d, p1e, p1f, p2x, p2z, p3x, p3z, p4x, p4z, m1, m2, m3, rfl, g0, g1, g2, g3, h0, h1, h2, h3⟩ := h
  exact ⟨_, _, _, _, _, _, _, _, _, _, _, _, rfl, h0.a, h1.a, GsO.a (fun _ _ _ _ h => h.a) h2, GsO.a (fun _ _ _ _ h => h.a) h3⟩

set_option maxRecDepth 100000 in
theorem cellsMesh : Try.prog.cellsOf 43 = 8 := by kernel_rfl
set_option maxRecDepth 100000 in
open Go.Deep Go.ChangeShapes Go.WideShapes Go.ChangeAt Go.Joins in
/-- A mesh that comes in. -/
theorem openMs {H : Type} {enc : TypeId × Value → H} {W : World} {base : Nat} {v : Value} {y : DataW H} {p : List MemPlace} (hv : Value.okWide Try.prog W .any base 43 v) (h : DataW.Trod enc Try.prog W 0 (fun _ => true) true 43 v y p) :
    ∃ (cs : List Value) (m : Ms), v = .agg cs.toArray ∧ MsC W cs m ∧ m.fits := by
  obtain ⟨cs, rfl, hsz⟩ := okWide_struct Try.underlying43 hv
  rw [cellsMesh] at hsz
  obtain ⟨l⟩ := cs
  obtain ⟨fuel, hf⟩ := h
  obtain ⟨c0, c1, c2, c3, c4, c5, c6, c7, rfl⟩ : ∃ c0 c1 c2 c3 c4 c5 c6 c7, l = [c0, c1, c2, c3, c4, c5, c6, c7] := by
    match l, hsz with
    | [c0, c1, c2, c3, c4, c5, c6, c7], _ => exact ⟨c0, c1, c2, c3, c4, c5, c6, c7, rfl⟩
  obtain ⟨xs, n, _, _, _, hlen, hfs⟩ := DataW.trod_struct Try.underlying43 hf
  obtain ⟨y0, y1, y2, y3, y4, rfl⟩ : ∃ y0 y1 y2 y3 y4, xs = [y0, y1, y2, y3, y4] := by
    match xs, hlen with
    | [y0, y1, y2, y3, y4], _ => exact ⟨y0, y1, y2, y3, y4, rfl⟩
  have ci : Try.prog.cellsOf 3 = 1 := by kernel_rfl
  have cv : Try.prog.cellsOf 39 = 1 := by kernel_rfl
  have cc : Try.prog.cellsOf 40 = 1 := by kernel_rfl
  have cd : Try.prog.cellsOf 41 = 1 := by kernel_rfl
  have h0 : DataW.trod enc Try.prog W 0 (fun _ => true) true n 3 [c0] = some y0 := by have := hfs 0 _ rfl; simpa [Value.cells, ci] using this
  have h1 : DataW.trod enc Try.prog W 0 (fun _ => true) true n 38 [c1, c2, c3, c4] = some y1 := by have := hfs 1 _ rfl; simpa [Value.cells, ci, cellsIssuer] using this
  have h2 : DataW.trod enc Try.prog W 0 (fun _ => true) true n 39 [c5] = some y2 := by have := hfs 2 _ rfl; simpa [Value.cells, ci, cellsIssuer, cv] using this
  have h3 : DataW.trod enc Try.prog W 0 (fun _ => true) true n 40 [c6] = some y3 := by have := hfs 3 _ rfl; simpa [Value.cells, ci, cellsIssuer, cv, cc] using this
  have h4 : DataW.trod enc Try.prog W 0 (fun _ => true) true n 41 [c7] = some y4 := by have := hfs 4 _ rfl; simpa [Value.cells, ci, cellsIssuer, cv, cc, cd] using this
  obtain ⟨x0, f0, _, _⟩ := DataW.trod_int Try.underlying3 h0
  obtain ⟨zs, n', _, _, _, hlen', hgs⟩ := DataW.trod_struct Try.underlying38 h1
  obtain ⟨z0, z1, z2, z3, rfl⟩ : ∃ z0 z1 z2 z3, zs = [z0, z1, z2, z3] := by
    match zs, hlen' with
    | [z0, z1, z2, z3], _ => exact ⟨z0, z1, z2, z3, rfl⟩
  have ck : Try.prog.cellsOf 36 = 1 := by kernel_rfl
  have cn : Try.prog.cellsOf 23 = 1 := by kernel_rfl
  have ct : Try.prog.cellsOf 24 = 1 := by kernel_rfl
  have g0 : DataW.trod enc Try.prog W 0 (fun _ => true) true n' 36 [c1] = some z0 := by have := hgs 0 _ rfl; simpa [Value.cells, ck] using this
  have g1 : DataW.trod enc Try.prog W 0 (fun _ => true) true n' 3 [c2] = some z1 := by have := hgs 1 _ rfl; simpa [Value.cells, ck, ci] using this
  have g2 : DataW.trod enc Try.prog W 0 (fun _ => true) true n' 23 [c3] = some z2 := by have := hgs 2 _ rfl; simpa [Value.cells, ck, ci, cn] using this
  have g3 : DataW.trod enc Try.prog W 0 (fun _ => true) true n' 24 [c4] = some z3 := by have := hgs 3 _ rfl; simpa [Value.cells, ck, ci, cn, ct] using this
  obtain ⟨i0, j0, k0, ws, rfl, r0, rfl, l0, q0⟩ := openWkR g0
  obtain ⟨x1, e1, _, _⟩ := DataW.trod_int Try.underlying3 g1
  obtain ⟨i2, j2, k2, rv, rfl, r2, rfl, l2⟩ := openInR g2
  obtain ⟨i3, j3, k3, sg, rfl, r3, rfl, l3, q3⟩ := openStR g3
  have hsl : ∃ a n c, c5 = .slice a n c := by
    rcases open_slice Try.underlying39 h2 with ⟨hcs, _⟩ | ⟨x, n, c, m, k, D, Pl, hcs, _⟩
    · simp at hcs; exact ⟨_, _, _, hcs⟩
    · simp at hcs; exact ⟨_, _, _, hcs⟩
  obtain ⟨i4, j4, k4, rfl⟩ := hsl
  obtain ⟨ss, r4, rfl, l4, q4⟩ := openSsS (a := i4) (n := j4) (c := k4) (d := y2.1) (p := y2.2) ⟨n, h2⟩
  obtain ⟨i5, j5, k5, sc, rfl, r5, rfl, l5, q5⟩ := openGs (A := ScC) (fits := Sc.fits) Try.underlying40 cellsSidecar (by omega) (fun l y m hl h => openScC hl h) h3
  obtain ⟨i6, j6, k6, dl, rfl, r6, rfl, l6, q6⟩ := openGs (A := DvC) (fits := Dv.fits) Try.underlying41 cellsDelivery (by omega) (fun l y m hl h => openDvC hl h) h4
  simp at f0 e1
  subst f0 e1
  exact ⟨_, ⟨x0, ⟨ws, x1, rv, sg⟩, ss, sc, dl⟩, rfl, ⟨_, _, _, _, _, _, _, _, _, _, _, _, rfl, ⟨_, _, _, rfl, r0, r2, r3⟩, r4, r5, r6⟩, ⟨l0, q0, l2, l3, q3⟩, ⟨l4, q4⟩, ⟨l5, q5⟩, l6, q6⟩

set_option maxHeartbeats 4000000 in
set_option maxRecDepth 100000 in
theorem szMesh_any (cs : List Value) (m : Ms) (w : World) (hf : m.fits) (h : MsC w cs m) :
    Calls Try.prog 10 #[.agg cs.toArray, .int .i64 1048576] w fun e w' => e = .returned (.int .i64 (leftK 1048576 m.size)) ∧ Below w.heap.size w w' := by
  obtain ⟨p1a, p1b, p1c, p1d, p1e, p1f, p2x, p2z, p3x, p3z, p4x, p4z, rfl, h2, h3, h4, h5⟩ := h
  obtain ⟨f1, f2, f3, f4⟩ := hf
  have hB0 : Below w.heap.size w (w.alloc (.cells #[.int .i64 m.now, .slice p1a m.iss.ws.length p1b, .int .i64 m.iss.nx, .slice p1c m.iss.rv.length p1d, .slice p1e m.iss.sg.length p1f, .slice p2x m.vs.length p2z, .slice p3x m.sc.length p3z, .slice p4x m.dl.length p4z] 43)) := (Below.refl _ w).alloc (Nat.le_refl _) _
  have F1 := Eight.new w (.int .i64 m.now) (.slice p1a m.iss.ws.length p1b) (.int .i64 m.iss.nx) (.slice p1c m.iss.rv.length p1d) (.slice p1e m.iss.sg.length p1f) (.slice p2x m.vs.length p2z) (.slice p3x m.sc.length p3z) (.slice p4x m.dl.length p4z) 43
  have HI := hid (show leftK 1048576 m.size = if (m.size : Int) ≤ 1048576 then 1048576 - (m.size : Int) else (-1 : Int) from rfl)
  have HZ := hid (show m.size = m.iss.size + vzAll m.vs + gzAll Sc.size m.sc + gzAll Dv.size m.dl from rfl)
  obtain ⟨N1, HN1⟩ : ∃ N : Nat, Hid (N = m.iss.size) := ⟨_, hid rfl⟩
  obtain ⟨N2, HN2⟩ : ∃ N : Nat, Hid (N = vzAll m.vs) := ⟨_, hid rfl⟩
  obtain ⟨N3, HN3⟩ : ∃ N : Nat, Hid (N = gzAll Sc.size m.sc) := ⟨_, hid rfl⟩
  obtain ⟨N4, HN4⟩ : ∃ N : Nat, Hid (N = gzAll Dv.size m.dl) := ⟨_, hid rfl⟩
  go_enter Try.func10, Try.ntmps10
  go_wp2_with fail
  generalize w.alloc (.cells #[.int .i64 m.now, .slice p1a m.iss.ws.length p1b, .int .i64 m.iss.nx, .slice p1c m.iss.rv.length p1d, .slice p1e m.iss.sg.length p1f, .slice p2x m.vs.length p2z, .slice p3x m.sc.length p3z, .slice p4x m.dl.length p4z] 43) = W0 at *
  refine (szIssuer_any _ m.iss _ f1 (h2.below hB0)).mono ?_
  rintro e w2 ⟨rfl, hB2⟩
  replace F1 := F1.below hB2
  replace hB0 := below_one hB0 hB2
  clear hB2
  obtain ⟨a0, a1, a2, a3, a4, a5, a6, a7⟩ := F1.c
  by_cases c1 : (N1 : Int) ≤ 1048576
  · rw [show leftI 1048576 m.iss = 1048576 - (N1 : Int) from (show leftK (1048576) _ = _ by unfold leftK; rw [← HN1.out]; exact if_pos c1)]
    have d1 : decide (1048576 - (N1 : Int) < 0) = false := by simp; omega
    go_wp2_with fail
    refine (szSnapshotS_any _ m.vs (1048576 - (N1 : Int)) _ (by omega) (by omega) f2.1 f2.2 (h3.below hB0)).mono ?_
    rintro e w3 ⟨rfl, hB3⟩
    replace F1 := F1.below hB3
    replace hB0 := below_one hB0 hB3
    clear hB3
    clear a0 a1 a2 a3 a4 a5 a6 a7
    obtain ⟨a0, a1, a2, a3, a4, a5, a6, a7⟩ := F1.c
    by_cases c2 : (N2 : Int) ≤ 1048576 - (N1 : Int)
    · rw [show leftVS (1048576 - (N1 : Int)) m.vs = 1048576 - (N1 : Int) - (N2 : Int) from (show leftK (1048576 - (N1 : Int)) _ = _ by unfold leftK; rw [← HN2.out]; exact if_pos c2)]
      have d2 : decide (1048576 - (N1 : Int) - (N2 : Int) < 0) = false := by simp; omega
      go_wp2_with fail
      refine (szSidecarS_any _ m.sc (1048576 - (N1 : Int) - (N2 : Int)) _ (by omega) (by omega) f3.1 f3.2 (GsA.below h4 (fun _ _ h => h.below hB0) hB0)).mono ?_
      rintro e w4 ⟨rfl, hB4⟩
      replace F1 := F1.below hB4
      replace hB0 := below_one hB0 hB4
      clear hB4
      clear a0 a1 a2 a3 a4 a5 a6 a7
      obtain ⟨a0, a1, a2, a3, a4, a5, a6, a7⟩ := F1.c
      by_cases c3 : (N3 : Int) ≤ 1048576 - (N1 : Int) - (N2 : Int)
      · rw [show leftK (1048576 - (N1 : Int) - (N2 : Int)) (gzAll Sc.size m.sc) = 1048576 - (N1 : Int) - (N2 : Int) - (N3 : Int) from (show leftK (1048576 - (N1 : Int) - (N2 : Int)) _ = _ by unfold leftK; rw [← HN3.out]; exact if_pos c3)]
        have d3 : decide (1048576 - (N1 : Int) - (N2 : Int) - (N3 : Int) < 0) = false := by simp; omega
        go_wp2_with fail
        refine (szDeliveryS_any _ m.dl (1048576 - (N1 : Int) - (N2 : Int) - (N3 : Int)) _ (by omega) (by omega) f4.1 f4.2 (GsA.below h5 (fun _ _ h => h.below hB0) hB0)).mono ?_
        rintro e w5 ⟨rfl, hB5⟩
        replace F1 := F1.below hB5
        replace hB0 := below_one hB0 hB5
        clear hB5
        clear a0 a1 a2 a3 a4 a5 a6 a7
        obtain ⟨a0, a1, a2, a3, a4, a5, a6, a7⟩ := F1.c
        by_cases c4 : (N4 : Int) ≤ 1048576 - (N1 : Int) - (N2 : Int) - (N3 : Int)
        · rw [show leftK (1048576 - (N1 : Int) - (N2 : Int) - (N3 : Int)) (gzAll Dv.size m.dl) = 1048576 - (N1 : Int) - (N2 : Int) - (N3 : Int) - (N4 : Int) from (show leftK (1048576 - (N1 : Int) - (N2 : Int) - (N3 : Int)) _ = _ by unfold leftK; rw [← HN4.out]; exact if_pos c4)]
          have d4 : decide (1048576 - (N1 : Int) - (N2 : Int) - (N3 : Int) - (N4 : Int) < 0) = false := by simp; omega
          have HR := hid (show leftK 1048576 m.size = 1048576 - (N1 : Int) - (N2 : Int) - (N3 : Int) - (N4 : Int) by rw [HI.out, if_pos (by rw [HZ.out, ← HN1.out, ← HN2.out, ← HN3.out, ← HN4.out]; push_cast; omega)]; rw [HZ.out, ← HN1.out, ← HN2.out, ← HN3.out, ← HN4.out]; push_cast; omega)
          go_wp2_with fail
          go_ret
          exact ⟨ret_int HR.out.symm, hB0⟩
        · rw [show leftK (1048576 - (N1 : Int) - (N2 : Int) - (N3 : Int)) (gzAll Dv.size m.dl) = -1 from (show leftK (1048576 - (N1 : Int) - (N2 : Int) - (N3 : Int)) _ = _ by unfold leftK; rw [← HN4.out]; exact if_neg c4)]
          have HR := hid (show leftK 1048576 m.size = -1 by rw [HI.out, if_neg (by rw [HZ.out, ← HN1.out, ← HN2.out, ← HN3.out, ← HN4.out]; push_cast; omega)])
          go_wp2_with fail
          go_ret
          exact ⟨ret_int HR.out.symm, hB0⟩
      · rw [show leftK (1048576 - (N1 : Int) - (N2 : Int)) (gzAll Sc.size m.sc) = -1 from (show leftK (1048576 - (N1 : Int) - (N2 : Int)) _ = _ by unfold leftK; rw [← HN3.out]; exact if_neg c3)]
        have HR := hid (show leftK 1048576 m.size = -1 by rw [HI.out, if_neg (by rw [HZ.out, ← HN1.out, ← HN2.out, ← HN3.out, ← HN4.out]; push_cast; omega)])
        go_wp2_with fail
        go_ret
        exact ⟨ret_int HR.out.symm, hB0⟩
    · rw [show leftVS (1048576 - (N1 : Int)) m.vs = -1 from (show leftK (1048576 - (N1 : Int)) _ = _ by unfold leftK; rw [← HN2.out]; exact if_neg c2)]
      have HR := hid (show leftK 1048576 m.size = -1 by rw [HI.out, if_neg (by rw [HZ.out, ← HN1.out, ← HN2.out, ← HN3.out, ← HN4.out]; push_cast; omega)])
      go_wp2_with fail
      go_ret
      exact ⟨ret_int HR.out.symm, hB0⟩
  · rw [show leftI 1048576 m.iss = -1 from (show leftK (1048576) _ = _ by unfold leftK; rw [← HN1.out]; exact if_neg c1)]
    have HR := hid (show leftK 1048576 m.size = -1 by rw [HI.out, if_neg (by rw [HZ.out, ← HN1.out, ← HN2.out, ← HN3.out, ← HN4.out]; push_cast; omega)])
    go_wp2_with fail
    go_ret
    exact ⟨ret_int HR.out.symm, hB0⟩

set_option maxHeartbeats 4000000 in
set_option maxRecDepth 100000 in
theorem eqMesh_same (cs cs' : List Value) (m : Ms) (w : World) (hs : m.short) (h : MsC w cs m) (h' : MsC w cs' m) :
    Calls Try.prog 7 #[.agg cs.toArray, .agg cs'.toArray] w fun e w' => e = .returned (.bool true) ∧ Below w.heap.size w w' := by
  obtain ⟨p1a, p1b, p1c, p1d, p1e, p1f, p2x, p2z, p3x, p3z, p4x, p4z, rfl, h1, h2, h3, h4⟩ := h
  obtain ⟨q1a, q1b, q1c, q1d, q1e, q1f, q2x, q2z, q3x, q3z, q4x, q4z, rfl, h1', h2', h3', h4'⟩ := h'
  obtain ⟨s1, s2, s3, s4⟩ := hs
  have hB0 : Below w.heap.size w ((w.alloc (.cells #[.int .i64 m.now, .slice p1a m.iss.ws.length p1b, .int .i64 m.iss.nx, .slice p1c m.iss.rv.length p1d, .slice p1e m.iss.sg.length p1f, .slice p2x m.vs.length p2z, .slice p3x m.sc.length p3z, .slice p4x m.dl.length p4z] 31)).alloc (.cells #[.int .i64 m.now, .slice q1a m.iss.ws.length q1b, .int .i64 m.iss.nx, .slice q1c m.iss.rv.length q1d, .slice q1e m.iss.sg.length q1f, .slice q2x m.vs.length q2z, .slice q3x m.sc.length q3z, .slice q4x m.dl.length q4z] 31)) := ((Below.refl _ w).alloc (Nat.le_refl _) _).alloc (by simp) _
  have F1 := (Eight.new w (.int .i64 m.now) (.slice p1a m.iss.ws.length p1b) (.int .i64 m.iss.nx) (.slice p1c m.iss.rv.length p1d) (.slice p1e m.iss.sg.length p1f) (.slice p2x m.vs.length p2z) (.slice p3x m.sc.length p3z) (.slice p4x m.dl.length p4z) 31).below ((Below.refl _ _).alloc (Nat.le_refl _) (.cells #[.int .i64 m.now, .slice q1a m.iss.ws.length q1b, .int .i64 m.iss.nx, .slice q1c m.iss.rv.length q1d, .slice q1e m.iss.sg.length q1f, .slice q2x m.vs.length q2z, .slice q3x m.sc.length q3z, .slice q4x m.dl.length q4z] 31))
  have F2 := Eight.at (w.alloc (.cells #[.int .i64 m.now, .slice p1a m.iss.ws.length p1b, .int .i64 m.iss.nx, .slice p1c m.iss.rv.length p1d, .slice p1e m.iss.sg.length p1f, .slice p2x m.vs.length p2z, .slice p3x m.sc.length p3z, .slice p4x m.dl.length p4z] 31)) (.int .i64 m.now) (.slice q1a m.iss.ws.length q1b) (.int .i64 m.iss.nx) (.slice q1c m.iss.rv.length q1d) (.slice q1e m.iss.sg.length q1f) (.slice q2x m.vs.length q2z) (.slice q3x m.sc.length q3z) (.slice q4x m.dl.length q4z) 31 (k := w.heap.size + 1) (by simp)
  have e0 : (m.now != m.now) = false := by simp
  go_enter Try.func7, Try.ntmps7
  go_wp2_with fail
  generalize (w.alloc (.cells #[.int .i64 m.now, .slice p1a m.iss.ws.length p1b, .int .i64 m.iss.nx, .slice p1c m.iss.rv.length p1d, .slice p1e m.iss.sg.length p1f, .slice p2x m.vs.length p2z, .slice p3x m.sc.length p3z, .slice p4x m.dl.length p4z] 31)).alloc (.cells #[.int .i64 m.now, .slice q1a m.iss.ws.length q1b, .int .i64 m.iss.nx, .slice q1c m.iss.rv.length q1d, .slice q1e m.iss.sg.length q1f, .slice q2x m.vs.length q2z, .slice q3x m.sc.length q3z, .slice q4x m.dl.length q4z] 31) = W0 at *
  refine (eqIssuer_same _ _ m.iss _ (Is.short_of s1) (h1.below hB0) (h1'.below hB0)).mono ?_
  rintro e w2 ⟨rfl, hB2⟩
  replace F1 := F1.below hB2
  replace F2 := F2.below hB2
  replace hB0 := below_one hB0 hB2
  clear hB2
  obtain ⟨a0, a1, a2, a3, a4, a5, a6, a7⟩ := F1.c
  obtain ⟨c0, c1, c2, c3, c4, c5, c6, c7⟩ := F2.c
  go_wp2_with fail
  refine (eqSnapshotS_same _ _ m.vs _ s2 (h2.below hB0) (h2'.below hB0)).mono ?_
  rintro e w3 ⟨rfl, hB3⟩
  clear a0 a1 a2 a3 a4 a5 a6 a7 c0 c1 c2 c3 c4 c5 c6 c7
  replace F1 := F1.below hB3
  replace F2 := F2.below hB3
  replace hB0 := below_one hB0 hB3
  clear hB3
  obtain ⟨a0, a1, a2, a3, a4, a5, a6, a7⟩ := F1.c
  obtain ⟨c0, c1, c2, c3, c4, c5, c6, c7⟩ := F2.c
  go_wp2_with fail
  refine (eqSidecarS_same _ _ m.sc _ s3 (GsA.below h3 (fun _ _ h => h.below hB0) hB0) (GsA.below h3' (fun _ _ h => h.below hB0) hB0)).mono ?_
  rintro e w4 ⟨rfl, hB4⟩
  clear a0 a1 a2 a3 a4 a5 a6 a7 c0 c1 c2 c3 c4 c5 c6 c7
  replace F1 := F1.below hB4
  replace F2 := F2.below hB4
  replace hB0 := below_one hB0 hB4
  clear hB4
  obtain ⟨a0, a1, a2, a3, a4, a5, a6, a7⟩ := F1.c
  obtain ⟨c0, c1, c2, c3, c4, c5, c6, c7⟩ := F2.c
  go_wp2_with fail
  refine (eqDeliveryS_same _ _ m.dl _ s4 (GsA.below h4 (fun _ _ h => h.below hB0) hB0) (GsA.below h4' (fun _ _ h => h.below hB0) hB0)).mono ?_
  rintro e w5 ⟨rfl, hB5⟩
  clear a0 a1 a2 a3 a4 a5 a6 a7 c0 c1 c2 c3 c4 c5 c6 c7
  replace F1 := F1.below hB5
  replace F2 := F2.below hB5
  replace hB0 := below_one hB0 hB5
  clear hB5
  obtain ⟨a0, a1, a2, a3, a4, a5, a6, a7⟩ := F1.c
  obtain ⟨c0, c1, c2, c3, c4, c5, c6, c7⟩ := F2.c
  go_wp2_with fail
  go_ret
  exact ⟨rfl, hB0⟩

set_option maxHeartbeats 16000000 in
set_option maxRecDepth 100000 in
theorem toMesh_any (cs : List Value) (m : Ms) (w : World) (hs : m.short) (h : MsC w cs m) :
    Calls Try.prog 12 #[.agg cs.toArray] w fun e w' => ∃ cs', e = .returned (.agg cs'.toArray) ∧ MsO w' w.heap.size w'.heap.size cs' m ∧ Below w.heap.size w w' := by
  obtain ⟨p1a, p1b, p1c, p1d, p1e, p1f, p2x, p2z, p3x, p3z, p4x, p4z, rfl, h1, h2, h3, h4⟩ := h
  obtain ⟨s1, s2, s3, s4⟩ := hs
  have hB0 : Below w.heap.size w (((w.alloc (.cells #[.int .i64 m.now, .slice p1a m.iss.ws.length p1b, .int .i64 m.iss.nx, .slice p1c m.iss.rv.length p1d, .slice p1e m.iss.sg.length p1f, .slice p2x m.vs.length p2z, .slice p3x m.sc.length p3z, .slice p4x m.dl.length p4z] 43)).alloc (.cells #[.int .i64 0, .slice none 0 0, .int .i64 0, .slice none 0 0, .slice none 0 0, .slice none 0 0, .slice none 0 0, .slice none 0 0] 31)).alloc (.cells #[.int .i64 m.now, .slice none 0 0, .int .i64 0, .slice none 0 0, .slice none 0 0, .slice none 0 0, .slice none 0 0, .slice none 0 0] 31)) := (((Below.refl _ w).alloc (Nat.le_refl _) _).alloc (by simp) _).alloc (by simp; omega) _
  have F1 := ((Eight.new w (.int .i64 m.now) (.slice p1a m.iss.ws.length p1b) (.int .i64 m.iss.nx) (.slice p1c m.iss.rv.length p1d) (.slice p1e m.iss.sg.length p1f) (.slice p2x m.vs.length p2z) (.slice p3x m.sc.length p3z) (.slice p4x m.dl.length p4z) 43).below ((Below.refl _ _).alloc (Nat.le_refl _) (.cells #[.int .i64 0, .slice none 0 0, .int .i64 0, .slice none 0 0, .slice none 0 0, .slice none 0 0, .slice none 0 0, .slice none 0 0] 31))).below ((Below.refl _ _).alloc (Nat.le_refl _) (.cells #[.int .i64 m.now, .slice none 0 0, .int .i64 0, .slice none 0 0, .slice none 0 0, .slice none 0 0, .slice none 0 0, .slice none 0 0] 31))
  have F2 := (Eight.at (w.alloc (.cells #[.int .i64 m.now, .slice p1a m.iss.ws.length p1b, .int .i64 m.iss.nx, .slice p1c m.iss.rv.length p1d, .slice p1e m.iss.sg.length p1f, .slice p2x m.vs.length p2z, .slice p3x m.sc.length p3z, .slice p4x m.dl.length p4z] 43)) (.int .i64 0) (.slice none 0 0) (.int .i64 0) (.slice none 0 0) (.slice none 0 0) (.slice none 0 0) (.slice none 0 0) (.slice none 0 0) 31 (k := w.heap.size + 1) (by simp)).below ((Below.refl _ _).alloc (Nat.le_refl _) (.cells #[.int .i64 m.now, .slice none 0 0, .int .i64 0, .slice none 0 0, .slice none 0 0, .slice none 0 0, .slice none 0 0, .slice none 0 0] 31))
  have F3 := Eight.at ((w.alloc (.cells #[.int .i64 m.now, .slice p1a m.iss.ws.length p1b, .int .i64 m.iss.nx, .slice p1c m.iss.rv.length p1d, .slice p1e m.iss.sg.length p1f, .slice p2x m.vs.length p2z, .slice p3x m.sc.length p3z, .slice p4x m.dl.length p4z] 43)).alloc (.cells #[.int .i64 0, .slice none 0 0, .int .i64 0, .slice none 0 0, .slice none 0 0, .slice none 0 0, .slice none 0 0, .slice none 0 0] 31)) (.int .i64 m.now) (.slice none 0 0) (.int .i64 0) (.slice none 0 0) (.slice none 0 0) (.slice none 0 0) (.slice none 0 0) (.slice none 0 0) 31 (k := w.heap.size + 1 + 1) (by simp)
  have hK : w.heap.size + 1 + 1 < (((w.alloc (.cells #[.int .i64 m.now, .slice p1a m.iss.ws.length p1b, .int .i64 m.iss.nx, .slice p1c m.iss.rv.length p1d, .slice p1e m.iss.sg.length p1f, .slice p2x m.vs.length p2z, .slice p3x m.sc.length p3z, .slice p4x m.dl.length p4z] 43)).alloc (.cells #[.int .i64 0, .slice none 0 0, .int .i64 0, .slice none 0 0, .slice none 0 0, .slice none 0 0, .slice none 0 0, .slice none 0 0] 31)).alloc (.cells #[.int .i64 m.now, .slice none 0 0, .int .i64 0, .slice none 0 0, .slice none 0 0, .slice none 0 0, .slice none 0 0, .slice none 0 0] 31)).heap.size := F3.lt
  go_enter Try.func12, Try.ntmps12
  go_wp2_with fail
  generalize ((w.alloc (.cells #[.int .i64 m.now, .slice p1a m.iss.ws.length p1b, .int .i64 m.iss.nx, .slice p1c m.iss.rv.length p1d, .slice p1e m.iss.sg.length p1f, .slice p2x m.vs.length p2z, .slice p3x m.sc.length p3z, .slice p4x m.dl.length p4z] 43)).alloc (.cells #[.int .i64 0, .slice none 0 0, .int .i64 0, .slice none 0 0, .slice none 0 0, .slice none 0 0, .slice none 0 0, .slice none 0 0] 31)).alloc (.cells #[.int .i64 m.now, .slice none 0 0, .int .i64 0, .slice none 0 0, .slice none 0 0, .slice none 0 0, .slice none 0 0, .slice none 0 0] 31) = W0 at *
  refine (toIssuer_any _ m.iss _ s1 (h1.below hB0)).mono ?_
  rintro e w1 ⟨v1, rfl, o1, hB1⟩
  obtain ⟨r1a, r1b, r1c, r1d, r1e, r1f, rfl⟩ := is_frm o1.a
  replace F1 := F1.below hB1
  replace F2 := F2.below hB1
  replace F3 := F3.below hB1
  replace hB0 := below_one hB0 hB1
  have hs1 := hB1.size
  clear hB1
  obtain ⟨a0, a1, a2, a3, a4, a5, a6, a7⟩ := F1.c
  obtain ⟨c0, c1, c2, c3, c4, c5, c6, c7⟩ := F3.c
  have f1 := F3.f 1
  have f2 := F3.f 2
  have f3 := F3.f 3
  have f4 := F3.f 4
  go_wp2_with fail
  clear a0 a1 a2 a3 a4 a5 a6 a7 c0 c1 c2 c3 c4 c5 c6 c7 f1 f2 f3 f4
  have M1 : Mid (w.heap.size + 1 + 1) (w.heap.size + 1 + 1 + 1) w1 ((((w1.setCell ⟨w.heap.size + 1 + 1, 1, none⟩ (.slice r1a m.iss.ws.length r1b)).setCell ⟨w.heap.size + 1 + 1, 2, none⟩ (.int .i64 m.iss.nx)).setCell ⟨w.heap.size + 1 + 1, 3, none⟩ (.slice r1c m.iss.rv.length r1d)).setCell ⟨w.heap.size + 1 + 1, 4, none⟩ (.slice r1e m.iss.sg.length r1f)) := (((((Mid.of_below (Below.refl _ _)).set (p := ⟨w.heap.size + 1 + 1, 1, none⟩) (by simp) (by simp) (.slice r1a m.iss.ws.length r1b)).set (p := ⟨w.heap.size + 1 + 1, 2, none⟩) (by simp) (by simp) (.int .i64 m.iss.nx)).set (p := ⟨w.heap.size + 1 + 1, 3, none⟩) (by simp) (by simp) (.slice r1c m.iss.rv.length r1d)).set (p := ⟨w.heap.size + 1 + 1, 4, none⟩) (by simp) (by simp) (.slice r1e m.iss.sg.length r1f))
  replace F1 := M1.eight F1 (.inl (by omega))
  replace F2 := M1.eight F2 (.inl (by omega))
  replace F3 := ((((F3.s1 (.slice r1a m.iss.ws.length r1b)).s2 (.int .i64 m.iss.nx)).s3 (.slice r1c m.iss.rv.length r1d)).s4 (.slice r1e m.iss.sg.length r1f))
  replace hB0 := ((((hB0.setCell (p := ⟨w.heap.size + 1 + 1, 1, none⟩) (by simp; omega) (.slice r1a m.iss.ws.length r1b)).setCell (p := ⟨w.heap.size + 1 + 1, 2, none⟩) (by simp; omega) (.int .i64 m.iss.nx)).setCell (p := ⟨w.heap.size + 1 + 1, 3, none⟩) (by simp; omega) (.slice r1c m.iss.rv.length r1d)).setCell (p := ⟨w.heap.size + 1 + 1, 4, none⟩) (by simp; omega) (.slice r1e m.iss.sg.length r1f))
  replace o1 := Mid.iso M1 o1 (.inl (by omega))
  have hq1 : w1.heap.size ≤ ((((w1.setCell ⟨w.heap.size + 1 + 1, 1, none⟩ (.slice r1a m.iss.ws.length r1b)).setCell ⟨w.heap.size + 1 + 1, 2, none⟩ (.int .i64 m.iss.nx)).setCell ⟨w.heap.size + 1 + 1, 3, none⟩ (.slice r1c m.iss.rv.length r1d)).setCell ⟨w.heap.size + 1 + 1, 4, none⟩ (.slice r1e m.iss.sg.length r1f)).heap.size := by simp
  have hp1 : ((((w1.setCell ⟨w.heap.size + 1 + 1, 1, none⟩ (.slice r1a m.iss.ws.length r1b)).setCell ⟨w.heap.size + 1 + 1, 2, none⟩ (.int .i64 m.iss.nx)).setCell ⟨w.heap.size + 1 + 1, 3, none⟩ (.slice r1c m.iss.rv.length r1d)).setCell ⟨w.heap.size + 1 + 1, 4, none⟩ (.slice r1e m.iss.sg.length r1f)).heap.size ≤ w1.heap.size := by simp
  clear M1
  generalize (((w1.setCell ⟨w.heap.size + 1 + 1, 1, none⟩ (.slice r1a m.iss.ws.length r1b)).setCell ⟨w.heap.size + 1 + 1, 2, none⟩ (.int .i64 m.iss.nx)).setCell ⟨w.heap.size + 1 + 1, 3, none⟩ (.slice r1c m.iss.rv.length r1d)).setCell ⟨w.heap.size + 1 + 1, 4, none⟩ (.slice r1e m.iss.sg.length r1f) = W1 at *
  refine (toSnapshotS_any _ m.vs _ s2 (h2.below hB0)).mono ?_
  rintro e w2 ⟨v2, rfl, o2, hB2⟩
  obtain ⟨r2x, r2z, rfl⟩ := o2.a.len
  replace F1 := F1.below hB2
  replace F2 := F2.below hB2
  replace F3 := F3.below hB2
  replace o1 := IsO.below o1 hB2
  replace hB0 := below_one hB0 hB2
  have hs2 := hB2.size
  clear hB2
  obtain ⟨a0, a1, a2, a3, a4, a5, a6, a7⟩ := F1.c
  obtain ⟨c0, c1, c2, c3, c4, c5, c6, c7⟩ := F3.c
  have f5 := F3.f 5
  go_wp2_with fail
  clear a0 a1 a2 a3 a4 a5 a6 a7 c0 c1 c2 c3 c4 c5 c6 c7 f5
  have M2 : Mid (w.heap.size + 1 + 1) (w.heap.size + 1 + 1 + 1) w2 (w2.setCell ⟨w.heap.size + 1 + 1, 5, none⟩ (.slice r2x m.vs.length r2z)) := ((Mid.of_below (Below.refl _ _)).set (p := ⟨w.heap.size + 1 + 1, 5, none⟩) (by simp) (by simp) (.slice r2x m.vs.length r2z))
  replace F1 := M2.eight F1 (.inl (by omega))
  replace F2 := M2.eight F2 (.inl (by omega))
  replace F3 := (F3.s5 (.slice r2x m.vs.length r2z))
  replace hB0 := (hB0.setCell (p := ⟨w.heap.size + 1 + 1, 5, none⟩) (by simp; omega) (.slice r2x m.vs.length r2z))
  replace o1 := Mid.iso M2 o1 (.inl (by omega))
  replace o2 := Mid.sso M2 o2 (.inl (by omega))
  have hq2 : w2.heap.size ≤ (w2.setCell ⟨w.heap.size + 1 + 1, 5, none⟩ (.slice r2x m.vs.length r2z)).heap.size := by simp
  have hp2 : (w2.setCell ⟨w.heap.size + 1 + 1, 5, none⟩ (.slice r2x m.vs.length r2z)).heap.size ≤ w2.heap.size := by simp
  clear M2
  generalize w2.setCell ⟨w.heap.size + 1 + 1, 5, none⟩ (.slice r2x m.vs.length r2z) = W2 at *
  refine (toSidecarS_any _ m.sc _ s3 (GsA.below h3 (fun _ _ h => h.below hB0) hB0)).mono ?_
  rintro e w3 ⟨v3, rfl, o3, hB3⟩
  obtain ⟨r3x, r3z, rfl⟩ := GsO.len o3
  replace F1 := F1.below hB3
  replace F2 := F2.below hB3
  replace F3 := F3.below hB3
  replace o1 := IsO.below o1 hB3
  replace o2 := SsO.below o2 hB3
  replace hB0 := below_one hB0 hB3
  have hs3 := hB3.size
  clear hB3
  obtain ⟨a0, a1, a2, a3, a4, a5, a6, a7⟩ := F1.c
  obtain ⟨c0, c1, c2, c3, c4, c5, c6, c7⟩ := F3.c
  have f6 := F3.f 6
  go_wp2_with fail
  clear a0 a1 a2 a3 a4 a5 a6 a7 c0 c1 c2 c3 c4 c5 c6 c7 f6
  have M3 : Mid (w.heap.size + 1 + 1) (w.heap.size + 1 + 1 + 1) w3 (w3.setCell ⟨w.heap.size + 1 + 1, 6, none⟩ (.slice r3x m.sc.length r3z)) := ((Mid.of_below (Below.refl _ _)).set (p := ⟨w.heap.size + 1 + 1, 6, none⟩) (by simp) (by simp) (.slice r3x m.sc.length r3z))
  replace F1 := M3.eight F1 (.inl (by omega))
  replace F2 := M3.eight F2 (.inl (by omega))
  replace F3 := (F3.s6 (.slice r3x m.sc.length r3z))
  replace hB0 := (hB0.setCell (p := ⟨w.heap.size + 1 + 1, 6, none⟩) (by simp; omega) (.slice r3x m.sc.length r3z))
  replace o1 := Mid.iso M3 o1 (.inl (by omega))
  replace o2 := Mid.sso M3 o2 (.inl (by omega))
  replace o3 := GsO.mid o3 (fun _ _ _ _ h ho => h.mid M3 ho) M3 (.inl (by omega))
  have hq3 : w3.heap.size ≤ (w3.setCell ⟨w.heap.size + 1 + 1, 6, none⟩ (.slice r3x m.sc.length r3z)).heap.size := by simp
  have hp3 : (w3.setCell ⟨w.heap.size + 1 + 1, 6, none⟩ (.slice r3x m.sc.length r3z)).heap.size ≤ w3.heap.size := by simp
  clear M3
  generalize w3.setCell ⟨w.heap.size + 1 + 1, 6, none⟩ (.slice r3x m.sc.length r3z) = W3 at *
  refine (toDeliveryS_any _ m.dl _ s4 (GsA.below h4 (fun _ _ h => h.below hB0) hB0)).mono ?_
  rintro e w4 ⟨v4, rfl, o4, hB4⟩
  obtain ⟨r4x, r4z, rfl⟩ := GsO.len o4
  replace F1 := F1.below hB4
  replace F2 := F2.below hB4
  replace F3 := F3.below hB4
  replace o1 := IsO.below o1 hB4
  replace o2 := SsO.below o2 hB4
  replace o3 := GsO.mid o3 (fun _ _ _ _ h _ => h.below hB4) (Mid.of_below (lo := 0) (hi := 0) hB4) (.inl (Nat.zero_le _))
  replace hB0 := below_one hB0 hB4
  have hs4 := hB4.size
  clear hB4
  obtain ⟨a0, a1, a2, a3, a4, a5, a6, a7⟩ := F1.c
  obtain ⟨c0, c1, c2, c3, c4, c5, c6, c7⟩ := F3.c
  have f7 := F3.f 7
  have G3 := (F3.s7 (.slice r4x m.dl.length r4z))
  have G2 := (F2.other (k' := w.heap.size + 1 + 1) (by omega) 7 (.slice r4x m.dl.length r4z))
  obtain ⟨m0, m1, m2, m3, m4, m5, m6, m7⟩ := G3.c
  obtain ⟨t0, t1, t2, t3, t4, t5, t6, t7⟩ := G2.c
  have g0 := G2.f 0
  have g1 := G2.f 1
  have g2 := G2.f 2
  have g3 := G2.f 3
  have g4 := G2.f 4
  have g5 := G2.f 5
  have g6 := G2.f 6
  have g7 := G2.f 7
  have G := ((((((((G2.s0 (.int .i64 m.now)).s1 (.slice r1a m.iss.ws.length r1b)).s2 (.int .i64 m.iss.nx)).s3 (.slice r1c m.iss.rv.length r1d)).s4 (.slice r1e m.iss.sg.length r1f)).s5 (.slice r2x m.vs.length r2z)).s6 (.slice r3x m.sc.length r3z)).s7 (.slice r4x m.dl.length r4z))
  have M9 : Mid (w.heap.size + 1) (w.heap.size + 1 + 1 + 1) w4 (((((((((w4.setCell ⟨w.heap.size + 1 + 1, 7, none⟩ (.slice r4x m.dl.length r4z)).setCell ⟨w.heap.size + 1, 0, none⟩ (.int .i64 m.now)).setCell ⟨w.heap.size + 1, 1, none⟩ (.slice r1a m.iss.ws.length r1b)).setCell ⟨w.heap.size + 1, 2, none⟩ (.int .i64 m.iss.nx)).setCell ⟨w.heap.size + 1, 3, none⟩ (.slice r1c m.iss.rv.length r1d)).setCell ⟨w.heap.size + 1, 4, none⟩ (.slice r1e m.iss.sg.length r1f)).setCell ⟨w.heap.size + 1, 5, none⟩ (.slice r2x m.vs.length r2z)).setCell ⟨w.heap.size + 1, 6, none⟩ (.slice r3x m.sc.length r3z)).setCell ⟨w.heap.size + 1, 7, none⟩ (.slice r4x m.dl.length r4z)) := ((((((((((Mid.of_below (Below.refl _ _)).set (p := ⟨w.heap.size + 1 + 1, 7, none⟩) (by simp) (by simp) (.slice r4x m.dl.length r4z)).set (p := ⟨w.heap.size + 1, 0, none⟩) (by simp) (by simp) (.int .i64 m.now)).set (p := ⟨w.heap.size + 1, 1, none⟩) (by simp) (by simp) (.slice r1a m.iss.ws.length r1b)).set (p := ⟨w.heap.size + 1, 2, none⟩) (by simp) (by simp) (.int .i64 m.iss.nx)).set (p := ⟨w.heap.size + 1, 3, none⟩) (by simp) (by simp) (.slice r1c m.iss.rv.length r1d)).set (p := ⟨w.heap.size + 1, 4, none⟩) (by simp) (by simp) (.slice r1e m.iss.sg.length r1f)).set (p := ⟨w.heap.size + 1, 5, none⟩) (by simp) (by simp) (.slice r2x m.vs.length r2z)).set (p := ⟨w.heap.size + 1, 6, none⟩) (by simp) (by simp) (.slice r3x m.sc.length r3z)).set (p := ⟨w.heap.size + 1, 7, none⟩) (by simp) (by simp) (.slice r4x m.dl.length r4z))
  replace o1 := Mid.iso M9 o1 (.inl (by omega))
  replace o2 := Mid.sso M9 o2 (.inl (by omega))
  replace o3 := GsO.mid o3 (fun _ _ _ _ h ho => h.mid M9 ho) M9 (.inl (by omega))
  replace o4 := GsO.mid o4 (fun _ _ _ _ h ho => h.mid M9 ho) M9 (.inl (by omega))
  replace hB0 := (((((((((hB0.setCell (p := ⟨w.heap.size + 1 + 1, 7, none⟩) (by simp; omega) (.slice r4x m.dl.length r4z)).setCell (p := ⟨w.heap.size + 1, 0, none⟩) (by simp) (.int .i64 m.now)).setCell (p := ⟨w.heap.size + 1, 1, none⟩) (by simp) (.slice r1a m.iss.ws.length r1b)).setCell (p := ⟨w.heap.size + 1, 2, none⟩) (by simp) (.int .i64 m.iss.nx)).setCell (p := ⟨w.heap.size + 1, 3, none⟩) (by simp) (.slice r1c m.iss.rv.length r1d)).setCell (p := ⟨w.heap.size + 1, 4, none⟩) (by simp) (.slice r1e m.iss.sg.length r1f)).setCell (p := ⟨w.heap.size + 1, 5, none⟩) (by simp) (.slice r2x m.vs.length r2z)).setCell (p := ⟨w.heap.size + 1, 6, none⟩) (by simp) (.slice r3x m.sc.length r3z)).setCell (p := ⟨w.heap.size + 1, 7, none⟩) (by simp) (.slice r4x m.dl.length r4z))
  have hE : w4.heap.size ≤ (((((((((w4.setCell ⟨w.heap.size + 1 + 1, 7, none⟩ (.slice r4x m.dl.length r4z)).setCell ⟨w.heap.size + 1, 0, none⟩ (.int .i64 m.now)).setCell ⟨w.heap.size + 1, 1, none⟩ (.slice r1a m.iss.ws.length r1b)).setCell ⟨w.heap.size + 1, 2, none⟩ (.int .i64 m.iss.nx)).setCell ⟨w.heap.size + 1, 3, none⟩ (.slice r1c m.iss.rv.length r1d)).setCell ⟨w.heap.size + 1, 4, none⟩ (.slice r1e m.iss.sg.length r1f)).setCell ⟨w.heap.size + 1, 5, none⟩ (.slice r2x m.vs.length r2z)).setCell ⟨w.heap.size + 1, 6, none⟩ (.slice r3x m.sc.length r3z)).setCell ⟨w.heap.size + 1, 7, none⟩ (.slice r4x m.dl.length r4z)).heap.size := by simp
  have hW0 : w.heap.size ≤ W0.heap.size := by omega
  clear F1 F2 F3 M9
  go_wp2_with fail
  clear a0 a1 a2 a3 a4 a5 a6 a7 c0 c1 c2 c3 c4 c5 c6 c7 f7 m0 m1 m2 m3 m4 m5 m6 m7 t0 t1 t2 t3 t4 t5 t6 t7 g0 g1 g2 g3 g4 g5 g6 g7
  generalize ((((((((w4.setCell ⟨w.heap.size + 1 + 1, 7, none⟩ (.slice r4x m.dl.length r4z)).setCell ⟨w.heap.size + 1, 0, none⟩ (.int .i64 m.now)).setCell ⟨w.heap.size + 1, 1, none⟩ (.slice r1a m.iss.ws.length r1b)).setCell ⟨w.heap.size + 1, 2, none⟩ (.int .i64 m.iss.nx)).setCell ⟨w.heap.size + 1, 3, none⟩ (.slice r1c m.iss.rv.length r1d)).setCell ⟨w.heap.size + 1, 4, none⟩ (.slice r1e m.iss.sg.length r1f)).setCell ⟨w.heap.size + 1, 5, none⟩ (.slice r2x m.vs.length r2z)).setCell ⟨w.heap.size + 1, 6, none⟩ (.slice r3x m.sc.length r3z)).setCell ⟨w.heap.size + 1, 7, none⟩ (.slice r4x m.dl.length r4z) = WE at *
  obtain ⟨d0, d1, d2, d3, d4, d5, d6, d7⟩ := G.c
  exact bodyPost_ret (v := .agg #[.int .i64 m.now, .slice r1a m.iss.ws.length r1b, .int .i64 m.iss.nx, .slice r1c m.iss.rv.length r1d, .slice r1e m.iss.sg.length r1f, .slice r2x m.vs.length r2z, .slice r3x m.sc.length r3z, .slice r4x m.dl.length r4z]) (by simp [results, Try.results12, go_sem, d0, d1, d2, d3, d4, d5, d6, d7]) rfl ⟨_, rfl, ⟨_, _, _, _, _, _, _, _, _, _, _, _, w1.heap.size, w2.heap.size, w3.heap.size, rfl, by omega, by omega, by omega, by omega, IsO.mono o1 (by omega) (by omega), SsO.mono o2 (by omega) (by omega), GsO.mono o3 (by omega) (by omega), GsO.mono o4 (by omega) (by omega)⟩, hB0⟩

end Go.Proofs.Ytnbojbcljfiamaa

namespace Go.Proofs.Ytnbojbcljfiamaa
open Go.RowKit Go.Shelf

/-- The version that is laid from the number c on. -/
def mkV (c : Nat) (s : Sn) : Sn := ⟨(c : Int), mkL (c + 1) s.pol.length, mkN (c + 1 + 4 * s.pol.length) s.rv.length⟩
def mvTo (ss : List Sn) (j : Nat) : Nat := ((ss.take j).map (fun s => 1 + s.many)).sum
theorem mvTo_zero (ss : List Sn) : mvTo ss 0 = 0 := by simp [mvTo]
theorem mvTo_succ {ss : List Sn} {j : Nat} (h : j < ss.length) : mvTo ss (j + 1) = mvTo ss j + (1 + ss[j].many) := by
  unfold mvTo
  rw [List.take_succ_eq_append_getElem h, List.map_append, List.sum_append]
  simp
theorem mvTo_le (ss : List Sn) (j : Nat) : mvTo ss j ≤ mvTo ss ss.length := by
  unfold mvTo
  rw [List.take_length]
  conv => rhs; rw [← List.take_append_drop j ss, List.map_append, List.sum_append]
  omega
theorem mvTo_size (ss : List Sn) : mvTo ss ss.length ≤ 4 * vzAll ss := by
  have h : ∀ l : List Sn, (l.map (fun s => 1 + s.many)).sum ≤ l.length + 4 * (l.map Sn.size).sum := by
    intro l
    induction l with
    | nil => simp
    | cons s l ih =>
      simp only [List.map_cons, List.sum_cons, List.length_cons]
      have : s.many ≤ 4 * s.size := by unfold Sn.many Sn.size szAll; omega
      omega
  have := h ss
  unfold mvTo vzAll vzTo
  rw [List.take_length]
  omega
/-- The versions of a marked list. -/
def mkVs (c : Nat) (ss : List Sn) : List Sn := (List.range ss.length).map (fun i => match ss[i]? with
  | some s => mkV (c + mvTo ss i) s
  | Option.none => Sn.none)
theorem mkVs_len (c : Nat) (ss : List Sn) : (mkVs c ss).length = ss.length := by simp [mkVs]
theorem mkVs_at {c : Nat} {ss : List Sn} {i : Nat} (h : i < (mkVs c ss).length) : (mkVs c ss)[i] = mkV (c + mvTo ss i) (ss[i]'(by rw [← mkVs_len c ss]; exact h)) := by
  have hi : i < ss.length := by rw [← mkVs_len c ss]; exact h
  simp [mkVs, List.getElem?_eq_getElem hi]
theorem set_next {α : Type} {M L : List α} {j : Nat} (hM : M.length = L.length) (hj : j < L.length) : (M.take j ++ L.drop j).set j (M[j]'(by omega)) = M.take (j + 1) ++ L.drop (j + 1) := by
  rw [List.set_append_right _ _ (by rw [List.length_take]; omega), List.length_take, show j - min j M.length = 0 by omega, List.take_succ_eq_append_getElem (by omega), List.append_assoc]
  congr 1
  rw [List.drop_eq_getElem_cons hj]
  rfl
theorem get_next {α : Type} {M L : List α} {j : Nat} (hM : M.length = L.length) (hj : j < L.length) (h : j < (M.take j ++ L.drop j).length) : (M.take j ++ L.drop j)[j] = L[j] := by
  rw [List.getElem_append_right (by rw [List.length_take]; omega)]
  simp only [List.length_take]
  rw [List.getElem_drop]
  congr 1
  omega
theorem SsK.setNum {w : World} {base top g cap n : Nat} {ss : List Sn} {xs : List Value} {vp vr : Nat → Value} (h : SsK w base top (.slice (some ⟨g, 0, none⟩) n cap) n ss n xs vp vr) (hl : ss.length = n) {j : Nat} (hj : j < ss.length) (z : Int) :
    SsK (w.setCell ⟨g, j * 3, none⟩ (.int .i64 z)) base top (.slice (some ⟨g, 0, none⟩) n cap) n (ss.set j ⟨z, ss[j].pol, ss[j].rv⟩) n (xs.set (j * 3) (.int .i64 z)) vp vr := by
  have hlen : xs.length = n * 3 := h.row.1
  have hnb : ∀ {e : TypeId} {s m : Nat} {v : Value} {x : List Value}, w.ownsRow base e s v m x → e ≠ 85 → v.ownBlock ≠ some g := fun hr hne e => row_apart hr h.row hne g e rfl
  refine ⟨(h.row.stored (j * 3) _).1, h.rlt, ?_, ?_, ?_, fun i hi => h.plt i (by simpa using hi), fun i hi => h.nlt i (by simpa using hi), fun i k hi hk => h.pap i k (by simpa using hi) (by simpa using hk), fun i k hi hk => h.nap i k (by simpa using hi) (by simpa using hk)⟩
  · intro i hi hik
    have hi' : i < ss.length := by simpa using hi
    obtain ⟨c0, c1, c2⟩ := h.cs i hi' hik
    by_cases e : j = i
    · subst e
      rw [List.getElem_set_self]
      exact ⟨by rw [List.getElem?_set_self (by omega)], by rw [List.getElem?_set_ne (by omega)]; exact c1, by rw [List.getElem?_set_ne (by omega)]; exact c2⟩
    · rw [List.getElem_set_ne e]
      exact ⟨by rw [List.getElem?_set_ne (by omega)]; exact c0, by rw [List.getElem?_set_ne (by omega)]; exact c1, by rw [List.getElem?_set_ne (by omega)]; exact c2⟩
  · intro i hi hik
    have hi' : i < ss.length := by simpa using hi
    have := ownsRow_setCell_other (h.pol i hi' hik) (a := ⟨g, j * 3, none⟩) (hnb (h.pol i hi' hik) tyR) (.int .i64 z)
    by_cases e : j = i
    · subst e
      rw [List.getElem_set_self]
      exact this
    · rw [List.getElem_set_ne e]
      exact this
  · intro i hi hik
    have hi' : i < ss.length := by simpa using hi
    have := ownsRow_setCell_other (h.num i hi' hik) (a := ⟨g, j * 3, none⟩) (hnb (h.num i hi' hik) tyN) (.int .i64 z)
    by_cases e : j = i
    · subst e
      rw [List.getElem_set_self]
      exact this
    · rw [List.getElem_set_ne e]
      exact this
theorem SsK.setPol {w w1 : World} {base top n : Nat} {v : Value} {ss : List Sn} {xs : List Value} {vp vr : Nat → Value} (h : SsK w base top v n ss n xs vp vr) (hl : ss.length = n) {j : Nat} (hj : j < ss.length) {rs : List Ru} (hg : w.grownBy w1 (vp j).ownBlock) (hp : w1.ownsRow base 135 4 (vp j) rs.length (rs.flatMap Ru.cells)) :
    SsK w1 base top v n (ss.set j ⟨ss[j].num, rs, ss[j].rv⟩) n xs vp vr := by
  have hpj := h.pol j hj (by omega)
  refine ⟨kept_apart h.row hg (fun k h1 h2 => row_apart hpj h.row tyR k h2 h1), h.rlt, ?_, ?_, ?_, fun i hi => h.plt i (by simpa using hi), fun i hi => h.nlt i (by simpa using hi), fun i k hi hk => h.pap i k (by simpa using hi) (by simpa using hk), fun i k hi hk => h.nap i k (by simpa using hi) (by simpa using hk)⟩
  · intro i hi hik
    have hi' : i < ss.length := by simpa using hi
    by_cases e : j = i
    · subst e
      rw [List.getElem_set_self]
      exact h.cs j hi' hik
    · rw [List.getElem_set_ne e]
      exact h.cs i hi' hik
  · intro i hi hik
    have hi' : i < ss.length := by simpa using hi
    by_cases e : j = i
    · subst e
      rw [List.getElem_set_self]
      exact hp
    · rw [List.getElem_set_ne e]
      exact kept_apart (h.pol i hi' hik) hg (fun k h1 h2 => h.pap i j hi' hj hik (by omega) (by omega) k h1 h2)
  · intro i hi hik
    have hi' : i < ss.length := by simpa using hi
    have := kept_apart (h.num i hi' hik) hg (fun k h1 h2 => row_apart hpj (h.num i hi' hik) tyRN k h2 h1)
    by_cases e : j = i
    · subst e
      rw [List.getElem_set_self]
      exact this
    · rw [List.getElem_set_ne e]
      exact this
theorem SsK.setRv {w w1 : World} {base top n : Nat} {v : Value} {ss : List Sn} {xs : List Value} {vp vr : Nat → Value} (h : SsK w base top v n ss n xs vp vr) (hl : ss.length = n) {j : Nat} (hj : j < ss.length) {zs : List Int} (hg : w.grownBy w1 (vr j).ownBlock) (hp : w1.ownsRow base 3 1 (vr j) zs.length (nums zs)) :
    SsK w1 base top v n (ss.set j ⟨ss[j].num, ss[j].pol, zs⟩) n xs vp vr := by
  have hpj := h.num j hj (by omega)
  refine ⟨kept_apart h.row hg (fun k h1 h2 => row_apart hpj h.row tyN k h2 h1), h.rlt, ?_, ?_, ?_, fun i hi => h.plt i (by simpa using hi), fun i hi => h.nlt i (by simpa using hi), fun i k hi hk => h.pap i k (by simpa using hi) (by simpa using hk), fun i k hi hk => h.nap i k (by simpa using hi) (by simpa using hk)⟩
  · intro i hi hik
    have hi' : i < ss.length := by simpa using hi
    by_cases e : j = i
    · subst e
      rw [List.getElem_set_self]
      exact h.cs j hi' hik
    · rw [List.getElem_set_ne e]
      exact h.cs i hi' hik
  · intro i hi hik
    have hi' : i < ss.length := by simpa using hi
    have := kept_apart (h.pol i hi' hik) hg (fun k h1 h2 => row_apart (h.pol i hi' hik) hpj tyRN k h1 h2)
    by_cases e : j = i
    · subst e
      rw [List.getElem_set_self]
      exact this
    · rw [List.getElem_set_ne e]
      exact this
  · intro i hi hik
    have hi' : i < ss.length := by simpa using hi
    by_cases e : j = i
    · subst e
      rw [List.getElem_set_self]
      exact hp
    · rw [List.getElem_set_ne e]
      exact kept_apart (h.num i hi' hik) hg (fun k h1 h2 => h.nap i j hi' hj hik (by omega) (by omega) k h1 h2)

set_option maxHeartbeats 4000000 in
theorem markSnapshotS_any (v : Value) (ss : List Sn) (c0 base top : Nat) (w : World) (hm : shortS ss) (hk : c0 + mvTo ss ss.length ≤ 8000000) (h : SsO w base top v ss) :
    Calls Try.prog 23 #[v, .int .i64 c0] w fun e w' => e = .returned (.int .i64 ((c0 + mvTo ss ss.length : Nat) : Int)) ∧ SsO w' base top v (mkVs c0 ss) ∧ Mid base top w w' := by
  obtain ⟨xs, vp, vr, h⟩ := h
  have hm1 := hm.1
  rcases row_form h.row with ⟨rfl, h0⟩ | ⟨g, cap, rfl, hg, hcap⟩
  · obtain rfl : ss = [] := List.eq_nil_of_length_eq_zero h0
    go_enter Try.func23, Try.ntmps23
    go_wp2
    refine wp_loop_rounds 1 ?_
    rw [rounds_succ]
    go_wp2
    go_ret
    exact ⟨rfl, SsO.none _ _ _, Mid.of_below (Below.refl _ _)⟩
  · have hgt := h.rlt g rfl
    have hML := mkVs_len c0 ss
    go_enter Try.func23, Try.ntmps23
    go_wp2
    go_loopw [1, 5] (fun kv i wr => ∃ (j c : Nat), j ≤ ss.length ∧ Hid (c = c0 + mvTo ss j) ∧ kv = .int .i64 c ∧ i = .int .i64 j ∧ ∃ xs vp vr, SsK wr base top (.slice (some ⟨g, 0, none⟩) ss.length cap) ss.length ((mkVs c0 ss).take j ++ ss.drop j) ss.length xs vp vr ∧ Mid base top w wr) (fun _ i _ => ss.length - (intOf i).toNat)
    case atStart => exact ⟨0, c0, Nat.zero_le _, hid (by rw [mvTo_zero]; rfl), rfl, rfl, xs, vp, vr, h, Mid.of_below (Below.refl _ _)⟩
    case round =>
      obtain ⟨j, c, hj, HC, rfl, rfl, xs, vp, vr, hK, hM⟩ := hrel
      have hc9 : c ≤ 8000000 := by have := HC.out; have := mvTo_le ss j; omega
      by_cases hlt : j < ss.length
      · obtain ⟨M, HM⟩ : ∃ M, Hid (M = (mkVs c0 ss).take j ++ ss.drop j) := ⟨_, hid rfl⟩
        rw [← HM.out] at hK
        have hMl : M.length = ss.length := by rw [HM.out, List.length_append, List.length_take, List.length_drop]; omega
        have HG := hid (show M[j]'(by omega) = ss[j] by simp only [HM.out]; exact get_next hML hlt (by rw [← HM.out]; omega))
        have HN := hid (show M.set j (mkV c ss[j]) = (mkVs c0 ss).take (j + 1) ++ ss.drop (j + 1) by
          have hjm : j < (mkVs c0 ss).length := by omega
          have e : (mkVs c0 ss)[j] = mkV c ss[j] := by rw [mkVs_at, ← HC.out]
          rw [← e, HM.out]
          exact set_next hML hlt)
        have HS := hid (mvTo_succ hlt)
        have HT := hid (mvTo_le ss (j + 1))
        have hsh := hm.2 ss[j] (List.getElem_mem hlt)
        generalize ss[j] = s at *
        have hml : j < M.length := by omega
        have hmn : s.many = 4 * s.pol.length + s.rv.length := rfl
        have hcb : c + 1 + 4 * s.pol.length + s.rv.length ≤ 8000000 := by have := HC.out; have := HS.out; have := HT.out; omega
        clear h
        obtain ⟨xa, ya, za, hvp⟩ := row_slice (hK.pol j hml (by omega))
        obtain ⟨xb, yb, zb, hvr⟩ := row_slice (hK.num j hml (by omega))
        have K1 : SsK (wr.setCell ⟨g, j * 3, none⟩ (.int .i64 (c : Int))) base top (.slice (some ⟨g, 0, none⟩) ss.length cap) ss.length (M.set j ⟨(c : Int), s.pol, s.rv⟩) ss.length (xs.set (j * 3) (.int .i64 (c : Int))) vp vr := by
          have := hK.setNum hMl hml (c : Int)
          rw [HG.out] at this
          exact this
        have hjs : j < (M.set j ⟨(c : Int), s.pol, s.rv⟩).length := by rw [List.length_set]; exact hml
        have s0 := hK.row.cellAt (j * 3) (by have := hK.row.1; omega)
        rw [List.getElem?_eq_getElem (by have := hK.row.1; omega)] at s0
        have t0 := hK.row.frozenAt (j * 3)
        have M1 := hM.set (p := ⟨g, j * 3, none⟩) hg hgt (.int .i64 (c : Int))
        have s1 := (K1.row.cellAt (j * 3 + 1) (by omega)).trans (K1.cs j hjs hlt).2.1
        have s2 := (K1.row.cellAt (j * 3 + 2) (by omega)).trans (K1.cs j hjs hlt).2.2
        have o1 := K1.pol j hjs hlt
        have o2 := K1.num j hjs hlt
        have l1 := K1.plt j hjs hlt
        have l2 := K1.nlt j hjs hlt
        rw [List.getElem_set_self] at o1 o2
        rw [hvp] at s1 o1 l1
        rw [hvr] at s2 o2 l2
        obtain ⟨c1, HC1⟩ : ∃ c1, Hid (c1 = c + 1) := ⟨_, hid rfl⟩
        obtain ⟨c2, HC2⟩ : ∃ c2, Hid (c2 = c1 + 4 * s.pol.length) := ⟨_, hid rfl⟩
        obtain ⟨c3, HC3⟩ : ∃ c3, Hid (c3 = c2 + s.rv.length) := ⟨_, hid rfl⟩
        have HW := hid (show IntKind.i64.wrap ((c : Int) + 1) = (c1 : Int) by rw [IntKind.wrap_i64]; have := HC1.out; omega)
        have hw1 := HW.out
        go_wp2_with fail
        clear s0 t0 hK hM
        generalize wr.setCell ⟨g, j * 3, none⟩ (.int .i64 (c : Int)) = W1 at *
        refine (markRuleS_to (.slice xa ya za) s.pol.length c1 base _ _ (by have := hsh.1; omega) (by have := HC1.out; omega) o1).mono ?_
        rintro e w2 ⟨rfl, r1, g1⟩
        rw [← HC2.out]
        have K2 : SsK w2 base top (.slice (some ⟨g, 0, none⟩) ss.length cap) ss.length (M.set j ⟨(c : Int), mkL c1 s.pol.length, s.rv⟩) ss.length (xs.set (j * 3) (.int .i64 (c : Int))) vp vr := by
          have := K1.setPol (rs := mkL c1 s.pol.length) (by rw [List.length_set]; exact hMl) hjs (by rw [hvp]; exact g1) (by rw [hvp, mkL_len]; exact r1)
          rw [List.getElem_set_self, List.set_set] at this
          exact this
        have M2 := M1.trans (Mid.of_grown g1 (fun k hk => ⟨(o1.lt k hk).1, l1 k hk⟩))
        have hjs2 : j < (M.set j ⟨(c : Int), mkL c1 s.pol.length, s.rv⟩).length := by rw [List.length_set]; exact hml
        have s3 := (K2.row.cellAt (j * 3 + 2) (by omega)).trans (K2.cs j hjs2 hlt).2.2
        have o3 := K2.num j hjs2 hlt
        rw [List.getElem_set_self] at o3
        rw [hvr] at s3 o3
        clear s1 s2 o1 o2 K1 M1 r1 g1 l1
        go_wp2_with fail
        refine (markIntS_to (.slice xb yb zb) s.rv.length c2 base _ _ (by have := hsh.2.1; omega) (by have := HC1.out; have := HC2.out; omega) o3).mono ?_
        rintro e w3 ⟨rfl, r2, g2⟩
        rw [← HC3.out]
        have K3 : SsK w3 base top (.slice (some ⟨g, 0, none⟩) ss.length cap) ss.length (M.set j ⟨(c : Int), mkL c1 s.pol.length, mkN c2 s.rv.length⟩) ss.length (xs.set (j * 3) (.int .i64 (c : Int))) vp vr := by
          have := K2.setRv (zs := mkN c2 s.rv.length) (by rw [List.length_set]; exact hMl) hjs2 (by rw [hvr]; exact g2) (by rw [hvr, mkN_len]; exact r2)
          rw [List.getElem_set_self, List.set_set] at this
          exact this
        have M3 := M2.trans (Mid.of_grown g2 (fun k hk => ⟨(o3.lt k hk).1, l2 k hk⟩))
        have HV := hid (show (⟨(c : Int), mkL c1 s.pol.length, mkN c2 s.rv.length⟩ : Sn) = mkV c s by unfold mkV; rw [HC2.out, HC1.out])
        have hc3 : c3 ≤ 8000000 := by have := HC1.out; have := HC2.out; have := HC3.out; omega
        clear s3 o3 K2 M2 r2 g2 l2
        go_wp2_with fail
        go_roundw
        case rel =>
          refine ⟨j + 1, c3, by omega, hid (by have := HC.out; have := HS.out; have := HC1.out; have := HC2.out; have := HC3.out; omega), rfl, by go_num, xs.set (j * 3) (.int .i64 (c : Int)), vp, vr, ?_, M3⟩
          rw [← HN.out, ← HV.out]
          exact K3
        case measure => simp [intOf]; omega
      · obtain rfl : j = ss.length := by omega
        rw [List.take_of_length_le (by omega), List.drop_length, List.append_nil] at hK
        go_wp2
        go_ret
        exact ⟨ret_int (by rw [HC.out]), ⟨xs, vp, vr, by rw [hML]; exact hK⟩, hM⟩

set_option maxHeartbeats 4000000 in
theorem heldSnapshotS_any (v : Value) (ss : List Sn) (c0 : Nat) (w : World) (hm : shortS ss) (hk : c0 + mvTo ss ss.length ≤ 8000000) (hr : SsA w v (mkVs c0 ss)) :
    Calls Try.prog 26 #[v, .int .i64 c0] w fun e w' => e = .returned (.int .i64 ((c0 + mvTo ss ss.length : Nat) : Int)) ∧ Below w.heap.size w w' := by
  obtain ⟨a, cap, rfl⟩ := hr.len
  have hm1 := hm.1
  have hML := mkVs_len c0 ss
  rw [hML] at hr ⊢
  go_enter Try.func26, Try.ntmps26
  go_wp2
  go_loopw [1, 5] (fun kv i wr => ∃ (j c : Nat), j ≤ ss.length ∧ Hid (c = c0 + mvTo ss j) ∧ kv = .int .i64 c ∧ i = .int .i64 j ∧ Below w.heap.size w wr) (fun _ i _ => ss.length - (intOf i).toNat)
  case atStart => exact ⟨0, c0, Nat.zero_le _, hid (by rw [mvTo_zero]; rfl), rfl, rfl, Below.refl _ _⟩
  case round =>
    obtain ⟨j, c, hj, HC, rfl, rfl, hB⟩ := hrel
    have hc9 : c ≤ 8000000 := by have := HC.out; have := mvTo_le ss j; omega
    by_cases hlt : j < ss.length
    · obtain ⟨b, off, xp, cp, xr, cr, rfl, hb, hcap, q0, q1, q2, y1, y2⟩ := (hr.below hB).at (i := j) (by omega)
      have HS := hid (mvTo_succ hlt)
      have HT := hid (mvTo_le ss (j + 1))
      have hsh := hm.2 ss[j] (List.getElem_mem hlt)
      rw [mkVs_at, ← HC.out] at q0 q1 q2 y1 y2
      generalize ss[j] = s at *
      have hmn : s.many = 4 * s.pol.length + s.rv.length := rfl
      have hcb : c + 1 + 4 * s.pol.length + s.rv.length ≤ 8000000 := by have := HC.out; have := HS.out; have := HT.out; omega
      obtain ⟨c1, HC1⟩ : ∃ c1, Hid (c1 = c + 1) := ⟨_, hid rfl⟩
      obtain ⟨c2, HC2⟩ : ∃ c2, Hid (c2 = c1 + 4 * s.pol.length) := ⟨_, hid rfl⟩
      obtain ⟨c3, HC3⟩ : ∃ c3, Hid (c3 = c2 + s.rv.length) := ⟨_, hid rfl⟩
      have z1 : RuS wr (.slice xp (mkL c1 s.pol.length).length cp) (mkL c1 s.pol.length) := by rw [HC1.out]; exact y1
      have z2 : VS wr (.slice xr (mkN c2 s.rv.length).length cr) (nums (mkN c2 s.rv.length)) := by rw [HC2.out, HC1.out]; exact y2
      have p0 : wr.cell? ⟨b, off + j * 3, none⟩ = some (.int .i64 (c : Int)) := q0
      have p1 : wr.cell? ⟨b, off + j * 3 + 1, none⟩ = some (.slice xp (mkL c1 s.pol.length).length cp) := by rw [HC1.out]; exact q1
      have p2 : wr.cell? ⟨b, off + j * 3 + 2, none⟩ = some (.slice xr (mkN c2 s.rv.length).length cr) := by rw [HC2.out, HC1.out]; exact q2
      rw [mkL_len] at z1 p1
      rw [mkN_len] at z2 p2
      clear q0 q1 q2 y1 y2 hr
      have hw1 : IntKind.i64.wrap ((c : Int) + 1) = (c1 : Int) := by rw [IntKind.wrap_i64]; have := HC1.out; omega
      have e0 : ((c : Int) != (c : Int)) = false := by simp
      go_wp2_with fail
      refine (heldRuleS_to _ s.pol.length c1 _ (by have := hsh.1; omega) (by have := HC1.out; omega) z1).mono ?_
      rintro e w2 ⟨rfl, hB2⟩
      rw [← HC2.out]
      have p2' := (hB2.cell (p := ⟨b, off + j * 3 + 2, none⟩) hb).trans p2
      have z2' := z2.below hB2
      have hBB2 := below_one hB hB2
      have d1 : decide ((c2 : Int) < 0) = false := by simp
      clear p0 p1 p2 z1 z2
      go_wp2_with fail
      refine (heldIntS_to _ s.rv.length c2 _ (by have := hsh.2.1; omega) (by have := HC1.out; have := HC2.out; omega) z2').mono ?_
      rintro e w3 ⟨rfl, hB3⟩
      rw [← HC3.out]
      have hBB3 := below_one hBB2 hB3
      have d2 : decide ((c3 : Int) < 0) = false := by simp
      have hc3 : c3 ≤ 8000000 := by have := HC1.out; have := HC2.out; have := HC3.out; omega
      clear p2' z2'
      go_wp2_with fail
      go_roundw
      case rel => exact ⟨j + 1, c3, by omega, hid (by have := HC.out; have := HS.out; have := HC1.out; have := HC2.out; have := HC3.out; omega), rfl, by go_num, hBB3⟩
      case measure => simp [intOf]; omega
    · obtain rfl : j = ss.length := by omega
      go_wp2
      go_ret
      exact ⟨ret_int (by rw [HC.out]), hB⟩

end Go.Proofs.Ytnbojbcljfiamaa

namespace Go.Proofs.Ytnbojbcljfiamaa
open Go.RowKit Go.Shelf

/-- The link that is laid at i, from the number k on. -/
def mkK (k i : Nat) : Lk := ⟨mkT (k + 5 * i), mkT (k + 5 * i + 1), ((k + 5 * i : Nat) : Int) + 2, ((k + 5 * i : Nat) : Int) + 3, ((k + 5 * i : Nat) : Int) + 4⟩
def mkKs (k n : Nat) : List Lk := (List.range n).map (mkK k)
theorem mkKs_len (k n : Nat) : (mkKs k n).length = n := by simp [mkKs]
theorem mkKs_succ (k n : Nat) : mkKs k (n + 1) = mkKs k n ++ [mkK k n] := by
  unfold mkKs
  rw [List.range_succ, List.map_append]
  rfl
theorem mkKs_at {k n i : Nat} (h : i < (mkKs k n).length) : (mkKs k n)[i] = mkK k i := by simp [mkKs]

set_option maxHeartbeats 2000000 in
set_option maxRecDepth 100000 in
theorem markLinkS_to (v : Value) (n k base : Nat) (xs : List Value) (w : World) (hn : n ≤ 1048577) (hk : k + 5 * n ≤ 8000000) (hrow : w.ownsRow base 75 5 v n xs) :
    Calls Try.prog 42 #[v, .int .i64 k] w fun e w' => e = .returned (.int .i64 ((k + 5 * n : Nat) : Int)) ∧ w'.ownsRow base 75 5 v n ((mkKs k n).flatMap Lk.cells) ∧ w.grownBy w' v.ownBlock := by
  rcases row_form hrow with ⟨rfl, rfl⟩ | ⟨g, cap, rfl, hg, hcap⟩
  · go_enter Try.func42, Try.ntmps42
    go_wp2
    refine wp_loop_rounds 1 ?_
    rw [rounds_succ]
    go_wp2
    go_ret
    exact ⟨rfl, World.ownsRow_nil _ _ _ _, ⟨rfl, rfl, rfl, Nat.le_refl _, fun _ _ _ => rfl⟩⟩
  · go_enter Try.func42, Try.ntmps42
    go_wp2
    go_loopw [1, 5] (fun kv i wr => ∃ (j c : Nat), j ≤ n ∧ c = k + 5 * j ∧ kv = .int .i64 c ∧ i = .int .i64 j ∧ ∃ ys, wr.ownsRow base 75 5 (.slice (some ⟨g, 0, none⟩) n cap) n ys ∧ ys.take (j * 5) = (mkKs k j).flatMap Lk.cells ∧ w.grownBy wr (some g)) (fun _ i _ => n - (intOf i).toNat)
    case atStart => exact ⟨0, k, Nat.zero_le _, by omega, rfl, rfl, xs, hrow, by simp [mkKs], grown_self _ _⟩
    case round =>
      obtain ⟨j, c, hj, hc, rfl, rfl, ys, row0, hx, hg0⟩ := hrel
      have HX := hid hx
      have HC := hid hc
      clear hx hc hrow
      have hc9 : c ≤ 8000000 := by have := HC.out; omega
      by_cases hlt : j < n
      · have hlen : ys.length = n * 5 := row0.1
        go_wp2_with fail
        refine (markText_at c _ _ rfl (by omega)).mono ?_
        rintro e v1 ⟨rfl, hB1⟩
        have row1 := ownsRow_below row0 hB1
        have hg1 := grown_below hg0 hB1
        clear row0 hg0 hB1
        have s0 := row1.cellAt (j * 5) (by have := row1.1; omega)
        rw [List.getElem?_eq_getElem (by have := row1.1; omega)] at s0
        have t0 := row1.frozenAt (j * 5)
        go_wp2_with fail
        have P1 := row1.stored (j * 5) (.string (mkT c))
        have hg1' := grown_two hg1 P1.2
        have row1' := P1.1
        clear P1 s0 t0 row1 hg1
        generalize v1.setCell ⟨g, j * 5, none⟩ (.string (mkT c)) = W1 at *
        refine (markText_at (c + 1) _ _ (by push_cast; omega) (by omega)).mono ?_
        rintro e v2 ⟨rfl, hB2⟩
        have row2 := ownsRow_below row1' hB2
        have hg2 := grown_below hg1' hB2
        clear row1' hg1' hB2
        have hl2 := row2.1
        have s1 := row2.cellAt (j * 5 + 1) (by omega)
        have s2 := row2.cellAt (j * 5 + 2) (by omega)
        have s3 := row2.cellAt (j * 5 + 3) (by omega)
        have s4 := row2.cellAt (j * 5 + 4) (by omega)
        rw [List.getElem?_eq_getElem (by omega)] at s1 s2 s3 s4
        have t1 := row2.frozenAt (j * 5 + 1)
        have t2 := row2.frozenAt (j * 5 + 2)
        have t3 := row2.frozenAt (j * 5 + 3)
        have t4 := row2.frozenAt (j * 5 + 4)
        have P1 := row2.stored (j * 5 + 1) (.string (mkT (c + 1)))
        have P2 := P1.1.stored (j * 5 + 2) (.int .i64 ((c : Int) + 2))
        have P3 := P2.1.stored (j * 5 + 3) (.int .i64 ((c : Int) + 3))
        have P4 := P3.1.stored (j * 5 + 4) (.int .i64 ((c : Int) + 4))
        have HP1 := hid P1.2
        have HP2 := hid P2.2
        have HP3 := hid P3.2
        have HP4 := hid P4.2
        have HO := hid P4.1
        clear P1 P2 P3 P4
        go_wp2_with fail
        have HM := hid (show mkKs k (j + 1) = mkKs k j ++ [⟨mkT c, mkT (c + 1), (c : Int) + 2, (c : Int) + 3, (c : Int) + 4⟩] by rw [mkKs_succ]; unfold mkK; rw [← HC.out])
        go_roundw
        case rel =>
          refine ⟨j + 1, c + 5, by omega, by have := HC.out; omega, by go_num, by go_num, _, HO.out, ?_, grown_two (grown_two (grown_two (grown_two hg2 HP1.out) HP2.out) HP3.out) HP4.out⟩
          rw [take_set5 _ _ _ _ _ _ _ (by omega), HX.out, HM.out, List.flatMap_append]
          simp
        case measure => simp [intOf]; omega
      · obtain rfl : j = n := by omega
        have HF := hid (show ys = (mkKs k j).flatMap Lk.cells by have := HX.out; rw [List.take_of_length_le (by have := row0.1; omega)] at this; exact this)
        go_wp2
        go_ret
        exact ⟨ret_int (by rw [HC.out]), by rw [← HF.out]; exact row0, hg0⟩

theorem markLinkS_any (v : Value) (n k base : Nat) (xs : List Value) (w : World) (hn : n ≤ 1048577) (hk : k ≤ 1) (hrow : w.ownsRow base 75 5 v n xs) :
    Calls Try.prog 42 #[v, .int .i64 k] w fun e w' => e = .returned (.int .i64 ((k + 5 * n : Nat) : Int)) ∧ w'.ownsRow base 75 5 v n ((mkKs k n).flatMap Lk.cells) ∧ w.grownBy w' v.ownBlock :=
  markLinkS_to v n k base xs w hn (by omega) hrow

end Go.Proofs.Ytnbojbcljfiamaa

namespace Go.Proofs.Ytnbojbcljfiamaa
open Go.RowKit Go.Shelf

/-- The record that is laid at i, from the number k on. -/
def mkRc (k i : Nat) : Rc := ⟨((k + 3 * i : Nat) : Int), mkT (k + 3 * i + 1), k + 3 * i + 2⟩
def mkRcs (k n : Nat) : List Rc := (List.range n).map (mkRc k)
theorem mkRcs_len (k n : Nat) : (mkRcs k n).length = n := by simp [mkRcs]
theorem mkRcs_succ (k n : Nat) : mkRcs k (n + 1) = mkRcs k n ++ [mkRc k n] := by
  unfold mkRcs
  rw [List.range_succ, List.map_append]
  rfl
theorem mkRcs_at {k n i : Nat} (h : i < (mkRcs k n).length) : (mkRcs k n)[i] = mkRc k i := by simp [mkRcs]

set_option maxHeartbeats 2000000 in
set_option maxRecDepth 100000 in
theorem markRecordS_to (v : Value) (n k base : Nat) (xs : List Value) (w : World) (hn : n ≤ 1048577) (hk : k + 3 * n ≤ 8000000) (hrow : w.ownsRow base 138 3 v n xs) :
    Calls Try.prog 55 #[v, .int .i64 k] w fun e w' => e = .returned (.int .i64 ((k + 3 * n : Nat) : Int)) ∧ w'.ownsRow base 138 3 v n ((mkRcs k n).flatMap Rc.cells) ∧ w.grownBy w' v.ownBlock := by
  rcases row_form hrow with ⟨rfl, rfl⟩ | ⟨g, cap, rfl, hg, hcap⟩
  · go_enter Try.func55, Try.ntmps55
    go_wp2
    refine wp_loop_rounds 1 ?_
    rw [rounds_succ]
    go_wp2
    go_ret
    exact ⟨rfl, World.ownsRow_nil _ _ _ _, ⟨rfl, rfl, rfl, Nat.le_refl _, fun _ _ _ => rfl⟩⟩
  · go_enter Try.func55, Try.ntmps55
    go_wp2
    go_loopw [1, 5] (fun kv i wr => ∃ (j c : Nat), j ≤ n ∧ c = k + 3 * j ∧ kv = .int .i64 c ∧ i = .int .i64 j ∧ ∃ ys, wr.ownsRow base 138 3 (.slice (some ⟨g, 0, none⟩) n cap) n ys ∧ ys.take (j * 3) = (mkRcs k j).flatMap Rc.cells ∧ w.grownBy wr (some g)) (fun _ i _ => n - (intOf i).toNat)
    case atStart => exact ⟨0, k, Nat.zero_le _, by omega, rfl, rfl, xs, hrow, by simp [mkRcs], grown_self _ _⟩
    case round =>
      obtain ⟨j, c, hj, hc, rfl, rfl, ys, row0, hx, hg0⟩ := hrel
      have HX := hid hx
      have HC := hid hc
      clear hx hc hrow
      have hc9 : c ≤ 8000000 := by have := HC.out; omega
      by_cases hlt : j < n
      · have hlen : ys.length = n * 3 := row0.1
        have s0 := row0.cellAt (j * 3) (by omega)
        rw [List.getElem?_eq_getElem (by omega)] at s0
        have t0 := row0.frozenAt (j * 3)
        have P0 := row0.stored (j * 3) (.int .i64 (c : Int))
        have HP0 := hid P0.2
        have HO0 := hid P0.1
        clear P0
        go_wp2_with fail
        refine (markText_at (c + 1) _ _ (by omega) (by omega)).mono ?_
        rintro e v1 ⟨rfl, hB1⟩
        have row1 := ownsRow_below HO0.out hB1
        have hg1 := grown_below (grown_two hg0 HP0.out) hB1
        clear row0 hg0 hB1 s0 t0 HO0 HP0
        have hl1 := row1.1
        have s1 := row1.cellAt (j * 3 + 1) (by omega)
        have s2 := row1.cellAt (j * 3 + 2) (by omega)
        rw [List.getElem?_eq_getElem (by omega)] at s1 s2
        have t1 := row1.frozenAt (j * 3 + 1)
        have t2 := row1.frozenAt (j * 3 + 2)
        have P1 := row1.stored (j * 3 + 1) (.string (mkT (c + 1)))
        have P2 := P1.1.stored (j * 3 + 2) (.int .u32 ((c : Int) + 2))
        have HP1 := hid P1.2
        have HP2 := hid P2.2
        have HO := hid P2.1
        have e3 : IntKind.u32.wrap ((c : Int) + 2) = (c : Int) + 2 := by rw [IntKind.wrap_u32]; omega
        clear P1 P2
        go_wp2_with fail
        have HM := hid (show mkRcs k (j + 1) = mkRcs k j ++ [⟨(c : Int), mkT (c + 1), c + 2⟩] by rw [mkRcs_succ]; unfold mkRc; rw [← HC.out])
        go_roundw
        case rel =>
          refine ⟨j + 1, c + 3, by omega, by have := HC.out; omega, by go_num, by go_num, _, HO.out, ?_, grown_two (grown_two hg1 HP1.out) HP2.out⟩
          rw [take_set3 _ _ _ _ _ (by omega), HX.out, HM.out, List.flatMap_append]
          simp
        case measure => simp [intOf]; omega
      · obtain rfl : j = n := by omega
        have HF := hid (show ys = (mkRcs k j).flatMap Rc.cells by have := HX.out; rw [List.take_of_length_le (by have := row0.1; omega)] at this; exact this)
        go_wp2
        go_ret
        exact ⟨ret_int (by rw [HC.out]), by rw [← HF.out]; exact row0, hg0⟩

set_option maxHeartbeats 2000000 in
set_option maxRecDepth 100000 in
theorem heldRecordS_to (v : Value) (n k : Nat) (w : World) (hn : n ≤ 1048577) (hk : k + 3 * n ≤ 8000000) (hr : RcS w v (mkRcs k n)) :
    Calls Try.prog 62 #[v, .int .i64 k] w fun e w' => e = .returned (.int .i64 ((k + 3 * n : Nat) : Int)) ∧ Below w.heap.size w w' := by
  obtain ⟨a, cap, rfl⟩ := hr.len
  have hln := mkRcs_len k n
  rw [hln] at hr ⊢
  clear hln
  go_enter Try.func62, Try.ntmps62
  go_wp2
  go_loopw [1, 5] (fun kv i wr => ∃ (j c : Nat), j ≤ n ∧ c = k + 3 * j ∧ kv = .int .i64 c ∧ i = .int .i64 j ∧ Below w.heap.size w wr) (fun _ i _ => n - (intOf i).toNat)
  case atStart => exact ⟨0, k, Nat.zero_le _, by omega, rfl, rfl, Below.refl _ _⟩
  case round =>
    obtain ⟨j, c, hj, hc, rfl, rfl, hB⟩ := hrel
    have HC := hid hc
    clear hc
    have hc9 : c ≤ 8000000 := by have := HC.out; omega
    by_cases hlt : j < n
    · obtain ⟨b, off, rfl, hb, hcap, q0, q1, q2⟩ := (hr.below hB).at (i := j) (by rw [mkRcs_len]; exact hlt)
      rw [mkRcs_at] at q0 q1 q2
      unfold mkRc at q0 q1 q2
      dsimp only at q0 q1 q2
      rw [← HC.out] at q0 q1 q2
      clear hr
      have e3 : IntKind.u32.wrap ((c : Int) + 2) = (c : Int) + 2 := by rw [IntKind.wrap_u32]; omega
      go_wp2_with fail
      go_region_held3 (fun w' => w'.cell? ⟨b, off + j * 3 + 1, none⟩ = some (.string (mkT (c + 1)))) (go_keep) (first | (go_at_call 41; refine (markText_at (c + 1) _ _ (by omega) (by omega)).mono ?_; rintro e v1 ⟨rfl, hB1⟩; have r1 := (hB1.cell (p := ⟨b, off + j * 3 + 1, none⟩) (by exact hb)).trans (by exact q1); have r2 := (hB1.cell (p := ⟨b, off + j * 3 + 2, none⟩) (by exact hb)).trans (by exact q2)))
      all_goals have hBB1 := below_one hB (below_drew1 hB1)
      all_goals clear hB1
      all_goals go_wp2
      all_goals go_roundw
      all_goals first
        | exact ⟨j + 1, c + 3, by omega, by have := HC.out; omega, by go_num, by go_num, hBB1⟩
        | ((repeat apply Exists.intro); exact ⟨⟨j + 1, c + 3, by omega, by have := HC.out; omega, by go_num, by go_num, hBB1⟩, rfl⟩)
        | (simp [intOf]; omega)
    · obtain rfl : j = n := by omega
      go_wp2
      go_ret
      exact ⟨ret_int (by rw [HC.out]), hB⟩

end Go.Proofs.Ytnbojbcljfiamaa
