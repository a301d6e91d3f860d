/-
  Works, lists of works and issuers held against each other by the laws, measured, and handed on.
-/
import Derived.Test.YthejifjjaknifahWorkV
namespace Go.Proofs.Ythejifjjaknifah
open Go.RowKit Go.Shelf

set_option maxHeartbeats 1000000 in
theorem eqWork_same (r : Wk) (w : World) :
    Calls Try.prog 31 #[r.val, r.val] w fun e w' => e = .returned (.bool true) ∧ Below w.heap.size w w' := by
  have e0 : (r.name.toList == r.name.toList) = true := by simp
  have e1 : (r.live != r.live) = false := by simp
  have e2 : (r.se != r.se) = false := by simp
  go_enter Try.func31, Try.ntmps31
  go_wp2
  go_ret
  exact ⟨rfl, ((Below.refl _ w).alloc (Nat.le_refl _) _).alloc (by simp) _⟩

set_option maxHeartbeats 2000000 in
/-- A list of works is like itself, wherever the two lie. -/
theorem eqWorkS_same (v v' : Value) (ks : List Wk) (w : World) (hn : ks.length ≤ 1048577) (hr : WkS w v ks) (hr' : WkS w v' ks) :
    Calls Try.prog 20 #[v, v'] w fun e w' => e = .returned (.bool true) ∧ Below w.heap.size w w' := by
  obtain ⟨a, cap, rfl⟩ := hr.len
  obtain ⟨a', cap', rfl⟩ := hr'.len
  have e0 : ((ks.length : Int) != (ks.length : Int)) = false := by simp
  go_enter Try.func20, Try.ntmps20
  go_wp2
  go_loopw [5] (fun i wr => ∃ j : Nat, j ≤ ks.length ∧ i = .int .i64 j ∧ Below w.heap.size w wr) (fun i _ => ks.length - (intOf i).toNat)
  case atStart => exact ⟨0, Nat.zero_le _, rfl, Below.refl _ _⟩
  case round =>
    obtain ⟨j, hj, rfl, hB⟩ := hrel
    by_cases hlt : j < ks.length
    · obtain ⟨b, off, rfl, hb, hcap, q0, q1, q2⟩ := (hr.below hB).at hlt
      obtain ⟨b', off', rfl, hb', hcap', p0, p1, p2⟩ := (hr'.below hB).at hlt
      generalize ks[j] = r at *
      go_wp2_with fail
      go_region_with (go_at_call 31; refine (eqWork_same r _).mono ?_; rintro e w1 ⟨rfl, hB1⟩)
      all_goals go_wp2
      all_goals go_roundw
      all_goals first
        | exact ⟨j + 1, by omega, by go_num, below_one hB (below_drew1 hB1)⟩
        | (simp [intOf]; omega)
    · obtain rfl : j = ks.length := by omega
      go_wp2
      go_ret
      exact ⟨rfl, hB⟩

/-- No list of an issuer is longer than the laws take. -/
def Is.short (s : Is) : Prop := s.ws.length ≤ 1048577 ∧ s.rv.length ≤ 1048577 ∧ s.sg.length ≤ 1048577
/-- Four cells that are a block of their own. -/
def Four (w : World) (t : TypeId) (k : Nat) (a b c d : Value) : Prop := w.ownsRow k t 4 (.slice (some ⟨k, 0, none⟩) 1 1) 1 [a, b, c, d]
theorem Four.at (w : World) (a b c d : Value) (t : TypeId) {k : Nat} (hk : k = w.heap.size) : Four (w.alloc (.cells #[a, b, c, d] t)) t k a b c d := by
  subst hk
  exact ⟨rfl, .inr ⟨w.heap.size, 1, #[a, b, c, d], rfl, Nat.le_refl _, by show (w.heap.push _)[w.heap.size]? = _; rw [Array.getElem?_push_size], Nat.le_refl _, by unfold maxLen; omega, rfl, rfl⟩⟩
theorem Four.new (w : World) (a b c d : Value) (t : TypeId) : Four (w.alloc (.cells #[a, b, c, d] t)) t w.heap.size a b c d := Four.at w a b c d t rfl
theorem Four.below {w w' : World} {t : TypeId} {k : Nat} {a b c d : Value} (h : Four w t k a b c d) (hB : Below w.heap.size w w') : Four w' t k a b c d := ownsRow_below h hB
theorem Four.c {w : World} {t : TypeId} {k : Nat} {a b c d : Value} (h : Four w t k a b c d) : w.cell? ⟨k, 0, none⟩ = some a ∧ w.cell? ⟨k, 1, none⟩ = some b ∧ w.cell? ⟨k, 2, none⟩ = some c ∧ w.cell? ⟨k, 3, none⟩ = some d :=
  ⟨World.ownsRow.cellAt h 0 (by omega), World.ownsRow.cellAt h 1 (by omega), World.ownsRow.cellAt h 2 (by omega), World.ownsRow.cellAt h 3 (by omega)⟩
theorem Four.f {w : World} {t : TypeId} {k : Nat} {a b c d : Value} (h : Four w t k a b c d) (j : Nat) : w.frozen? ⟨k, j, none⟩ = false := World.ownsRow.frozenAt h j
theorem Four.s0 {w : World} {t : TypeId} {k : Nat} {a b c d : Value} (h : Four w t k a b c d) (x : Value) : Four (w.setCell ⟨k, 0, none⟩ x) t k x b c d := (World.ownsRow.stored h 0 x).1
theorem Four.s1 {w : World} {t : TypeId} {k : Nat} {a b c d : Value} (h : Four w t k a b c d) (x : Value) : Four (w.setCell ⟨k, 1, none⟩ x) t k a x c d := (World.ownsRow.stored h 1 x).1
theorem Four.s2 {w : World} {t : TypeId} {k : Nat} {a b c d : Value} (h : Four w t k a b c d) (x : Value) : Four (w.setCell ⟨k, 2, none⟩ x) t k a b x d := (World.ownsRow.stored h 2 x).1
theorem Four.s3 {w : World} {t : TypeId} {k : Nat} {a b c d : Value} (h : Four w t k a b c d) (x : Value) : Four (w.setCell ⟨k, 3, none⟩ x) t k a b c x := (World.ownsRow.stored h 3 x).1
theorem Four.other {w : World} {t : TypeId} {k : Nat} {a b c d : Value} (h : Four w t k a b c d) {k' : Nat} (hk : k ≠ k') (j : Nat) (x : Value) : Four (w.setCell ⟨k', j, none⟩ x) t k a b c d := ownsRow_setCell_other h (by simpa [Value.ownBlock] using hk) x
theorem Four.lt {w : World} {t : TypeId} {k : Nat} {a b c d : Value} (h : Four w t k a b c d) : k < w.heap.size := (World.ownsRow.lt h k rfl).2

set_option maxHeartbeats 2000000 in
/-- An issuer is like itself, wherever the two lie. -/
theorem eqIssuer_same (v v' : Value) (s : Is) (w : World) (hs : s.short) (h : IsA w v s) (h' : IsA w v' s) :
    Calls Try.prog 8 #[v, v'] w fun e w' => e = .returned (.bool true) ∧ Below w.heap.size w w' := by
  obtain ⟨vw, vr, vs, rfl, h1, h2, h3⟩ := h.parts
  obtain ⟨vw', vr', vs', rfl, h1', h2', h3'⟩ := h'.parts
  obtain ⟨l1, l2, l3⟩ := hs
  have hB0 : Below w.heap.size w ((w.alloc (.cells #[vw, .int .i64 s.nx, vr, vs] 32)).alloc (.cells #[vw', .int .i64 s.nx, vr', vs'] 32)) := ((Below.refl _ w).alloc (Nat.le_refl _) _).alloc (by simp) _
  have F1 := (Four.new w vw (.int .i64 s.nx) vr vs 32).below ((Below.refl _ _).alloc (Nat.le_refl _) (.cells #[vw', .int .i64 s.nx, vr', vs'] 32))
  have F2 := Four.at (w.alloc (.cells #[vw, .int .i64 s.nx, vr, vs] 32)) vw' (.int .i64 s.nx) vr' vs' 32 (k := w.heap.size + 1) (by simp)
  have e1 : (s.nx != s.nx) = false := by simp
  go_enter Try.func8, Try.ntmps8
  go_wp2_with fail
  generalize (w.alloc (.cells #[vw, .int .i64 s.nx, vr, vs] 32)).alloc (.cells #[vw', .int .i64 s.nx, vr', vs'] 32) = W0 at *
  refine (eqWorkS_same vw vw' s.ws _ l1 (h1.below hB0) (h1'.below hB0)).mono ?_
  rintro e w1 ⟨rfl, hB1⟩
  replace F1 := F1.below hB1
  replace F2 := F2.below hB1
  have hBB1 := below_one hB0 hB1
  clear hB1 hB0
  obtain ⟨a0, a1, a2, a3⟩ := F1.c
  obtain ⟨c0, c1, c2, c3⟩ := F2.c
  go_wp2_with fail
  refine (eqIntS_same vr vr' s.rv _ l2 (h2.below hBB1) (h2'.below hBB1)).mono ?_
  rintro e w2 ⟨rfl, hB2⟩
  replace F1 := F1.below hB2
  replace F2 := F2.below hB2
  have hBB2 := below_one hBB1 hB2
  clear a0 a1 a2 a3 c0 c1 c2 c3 hB2
  obtain ⟨a0, a1, a2, a3⟩ := F1.c
  obtain ⟨c0, c1, c2, c3⟩ := F2.c
  go_wp2_with fail
  refine (eqStringS_any vs vs' s.sg _ l3 (h3.below hBB2) (h3'.below hBB2)).mono ?_
  rintro e w3 ⟨rfl, hB3⟩
  go_wp2_with fail
  go_ret
  exact ⟨rfl, below_one hBB2 hB3⟩

set_option maxHeartbeats 1000000 in
theorem szIntS_any (v : Value) (zs : List Int) (n : Int) (w : World) (h0 : 0 ≤ n) (h1 : n ≤ 1048576) (hm : zs.length ≤ maxLen) (hr : VS w v (nums zs)) :
    Calls Try.prog 10 #[v, .int .i64 n] w fun e w' => e = .returned (.int .i64 (left1 n zs.length)) ∧ Below w.heap.size w w' := by
  obtain ⟨a, cap, rfl⟩ := hr.numLen
  unfold maxLen at hm
  by_cases c0 : n < zs.length
  · have HR := hid (show left1 n zs.length = -1 from if_neg (by omega))
    go_enter Try.func10, Try.ntmps10
    go_wp2
    go_ret
    exact ⟨ret_int HR.out.symm, Below.refl _ _⟩
  · have HR := hid (show left1 n zs.length = n - zs.length from if_pos (by omega))
    have d0 : decide (n - (zs.length : Int) < 0) = false := by simp; omega
    go_enter Try.func10, Try.ntmps10
    go_wp2
    go_ret
    exact ⟨ret_int HR.out.symm, Below.refl _ _⟩

set_option maxHeartbeats 2000000 in
theorem szIssuer_any (v : Value) (s : Is) (w : World) (hf : s.fits) (h : IsA w v s) :
    Calls Try.prog 4 #[v, .int .i64 1048576] w fun e w' => e = .returned (.int .i64 (leftI 1048576 s)) ∧ Below w.heap.size w w' := by
  obtain ⟨vw, vr, vs, rfl, h1, h2, h3⟩ := h.parts
  obtain ⟨l1, f1, l2, l3, f3⟩ := hf
  have hB0 : Below w.heap.size w (w.alloc (.cells #[vw, .int .i64 s.nx, vr, vs] 26)) := (Below.refl _ w).alloc (Nat.le_refl _) _
  have F1 := Four.new w vw (.int .i64 s.nx) vr vs 26
  have HI := hid (show leftI 1048576 s = if (s.size : Int) ≤ 1048576 then (1048576 : Int) - (s.size : Int) else (-1 : Int) from rfl)
  have HZ := hid (show s.size = wzAll s.ws + s.rv.length + tzAll s.sg from rfl)
  go_enter Try.func4, Try.ntmps4
  go_wp2_with fail
  generalize w.alloc (.cells #[vw, .int .i64 s.nx, vr, vs] 26) = W0 at *
  refine (szWorkS_any vw s.ws 1048576 _ (by omega) (by omega) l1 f1 (h1.below hB0)).mono ?_
  rintro e w1 ⟨rfl, hB1⟩
  replace F1 := F1.below hB1
  have hBB1 := below_one hB0 hB1
  clear hB1 hB0
  obtain ⟨a0, a1, a2, a3⟩ := F1.c
  by_cases c1 : (wzAll s.ws : Int) ≤ 1048576
  · rw [show leftW 1048576 s.ws = 1048576 - wzAll s.ws from if_pos c1]
    have d1 : decide ((1048576 : Int) - (wzAll s.ws : Int) < 0) = false := by simp; omega
    go_wp2_with fail
    refine (szIntS_any vr s.rv _ _ (by omega) (by omega) l2 (h2.below hBB1)).mono ?_
    rintro e w2 ⟨rfl, hB2⟩
    replace F1 := F1.below hB2
    have hBB2 := below_one hBB1 hB2
    clear hB2 a0 a1 a2 a3
    obtain ⟨a0, a1, a2, a3⟩ := F1.c
    by_cases c2 : (s.rv.length : Int) ≤ 1048576 - wzAll s.ws
    · rw [show left1 (1048576 - (wzAll s.ws : Int)) s.rv.length = 1048576 - wzAll s.ws - s.rv.length from if_pos c2]
      have d2 : decide ((1048576 : Int) - (wzAll s.ws : Int) - (s.rv.length : Int) < 0) = false := by simp; omega
      go_wp2_with fail
      refine (szStringS_any vs s.sg _ _ (by omega) (by omega) l3 f3 (h3.below hBB2)).mono ?_
      rintro e w3 ⟨rfl, hB3⟩
      have hBB3 := below_one hBB2 hB3
      clear hB3 a0 a1 a2 a3
      by_cases c3 : (tzAll s.sg : Int) ≤ 1048576 - wzAll s.ws - s.rv.length
      · rw [show leftT (1048576 - (wzAll s.ws : Int) - (s.rv.length : Int)) s.sg = 1048576 - wzAll s.ws - s.rv.length - tzAll s.sg from if_pos c3]
        have d3 : decide ((1048576 : Int) - (wzAll s.ws : Int) - (s.rv.length : Int) - (tzAll s.sg : Int) < 0) = false := by simp; omega
        have HR := hid (show leftI 1048576 s = 1048576 - wzAll s.ws - s.rv.length - tzAll s.sg by rw [HI.out, if_pos (by rw [HZ.out]; push_cast; omega), HZ.out]; push_cast; omega)
        go_wp2_with fail
        go_ret
        exact ⟨ret_int HR.out.symm, hBB3⟩
      · rw [show leftT (1048576 - (wzAll s.ws : Int) - (s.rv.length : Int)) s.sg = -1 from if_neg c3]
        have HR := hid (show leftI 1048576 s = -1 by rw [HI.out, if_neg (by rw [HZ.out]; push_cast; omega)])
        go_wp2_with fail
        go_ret
        exact ⟨ret_int HR.out.symm, hBB3⟩
    · rw [show left1 (1048576 - (wzAll s.ws : Int)) s.rv.length = -1 from if_neg c2]
      have HR := hid (show leftI 1048576 s = -1 by rw [HI.out, if_neg (by rw [HZ.out]; push_cast; omega)])
      go_wp2_with fail
      go_ret
      exact ⟨ret_int HR.out.symm, hBB2⟩
  · rw [show leftW 1048576 s.ws = -1 from if_neg c1]
    have HR := hid (show leftI 1048576 s = -1 by rw [HI.out, if_neg (by rw [HZ.out]; push_cast; omega)])
    go_wp2_with fail
    go_ret
    exact ⟨ret_int HR.out.symm, hBB1⟩

theorem row_slice {w : World} {base : Nat} {e : TypeId} {size n : Nat} {v : Value} {xs : List Value} (h : w.ownsRow base e size v n xs) : ∃ a m c, v = .slice a m c := by
  rcases h.2 with ⟨h, _⟩ | ⟨g, cap, cur, hv, _⟩
  · exact ⟨_, _, _, h⟩
  · exact ⟨_, _, _, hv⟩
/-- An issuer of one's own: its lists lie in blocks from base on, below top. -/
def IsO (w : World) (base top : Nat) (v : Value) (s : Is) : Prop :=
  ∃ vw vr vs, v = .agg #[vw, .int .i64 s.nx, vr, vs] ∧ w.ownsRow base 41 3 vw s.ws.length (s.ws.flatMap Wk.cells) ∧ w.ownsRow base 3 1 vr s.rv.length (nums s.rv) ∧ w.ownsRow base 9 1 vs s.sg.length (strs s.sg) ∧ (∀ k, vw.ownBlock = some k → k < top) ∧ (∀ k, vr.ownBlock = some k → k < top) ∧ ∀ k, vs.ownBlock = some k → k < top
theorem IsO.a {w : World} {base top : Nat} {v : Value} {s : Is} (h : IsO w base top v s) : IsA w v s := by
  obtain ⟨vw, vr, vs, rfl, h1, h2, h3, _⟩ := h
  exact ⟨vw, vr, vs, rfl, WkS.own h1, VS.ownN h2, VS.ownS h3⟩
theorem IsO.below {w w' : World} {base top : Nat} {v : Value} {s : Is} (h : IsO w base top v s) (hB : Below w.heap.size w w') : IsO w' base top v s := by
  obtain ⟨vw, vr, vs, rfl, h1, h2, h3, t1, t2, t3⟩ := h
  exact ⟨vw, vr, vs, rfl, ownsRow_below h1 hB, ownsRow_below h2 hB, ownsRow_below h3 hB, t1, t2, t3⟩
theorem IsO.of {w : World} {base : Nat} {vw vr vs : Value} {s : Is} (h1 : w.ownsRow base 41 3 vw s.ws.length (s.ws.flatMap Wk.cells)) (h2 : w.ownsRow base 3 1 vr s.rv.length (nums s.rv)) (h3 : w.ownsRow base 9 1 vs s.sg.length (strs s.sg)) : IsO w base w.heap.size (.agg #[vw, .int .i64 s.nx, vr, vs]) s :=
  ⟨vw, vr, vs, rfl, h1, h2, h3, fun k hk => (h1.lt k hk).2, fun k hk => (h2.lt k hk).2, fun k hk => (h3.lt k hk).2⟩
theorem IsO.mono {w : World} {base base' top top' : Nat} {v : Value} {s : Is} (h : IsO w base top v s) (hb : base' ≤ base) (ht : top ≤ top') : IsO w base' top' v s := by
  obtain ⟨vw, vr, vs, rfl, h1, h2, h3, t1, t2, t3⟩ := h
  exact ⟨vw, vr, vs, rfl, Go.Joins.ownsRow_le h1 hb, Go.Joins.ownsRow_le h2 hb, Go.Joins.ownsRow_le h3 hb, fun k hk => Nat.lt_of_lt_of_le (t1 k hk) ht, fun k hk => Nat.lt_of_lt_of_le (t2 k hk) ht, fun k hk => Nat.lt_of_lt_of_le (t3 k hk) ht⟩

theorem row_four {w : World} {base : Nat} {e : TypeId} {size n : Nat} {v : Value} {xs : List Value} (h : w.ownsRow base e size v n xs) {k : Nat} (hk : k < base) (x0 x1 x2 x3 : Value) : ((((w.setCell ⟨k, 0, none⟩ x0).setCell ⟨k, 1, none⟩ x1).setCell ⟨k, 2, none⟩ x2).setCell ⟨k, 3, none⟩ x3).ownsRow base e size v n xs :=
  ownsRow_setCell_below (ownsRow_setCell_below (ownsRow_setCell_below (ownsRow_setCell_below h (a := ⟨k, 0, none⟩) hk x0) (a := ⟨k, 1, none⟩) hk x1) (a := ⟨k, 2, none⟩) hk x2) (a := ⟨k, 3, none⟩) hk x3
theorem below_four {n k : Nat} {w W : World} (h : Below n w W) (hk : n ≤ k) (x0 x1 x2 x3 : Value) : Below n w ((((W.setCell ⟨k, 0, none⟩ x0).setCell ⟨k, 1, none⟩ x1).setCell ⟨k, 2, none⟩ x2).setCell ⟨k, 3, none⟩ x3) :=
  (((h.setCell (p := ⟨k, 0, none⟩) hk x0).setCell (p := ⟨k, 1, none⟩) hk x1).setCell (p := ⟨k, 2, none⟩) hk x2).setCell (p := ⟨k, 3, none⟩) hk x3

set_option maxHeartbeats 2000000 in
theorem toIssuer_any (v : Value) (s : Is) (w : World) (hs : s.size ≤ 1048576) (h : IsA w v s) :
    Calls Try.prog 6 #[v] w fun e w' => ∃ v', e = .returned v' ∧ IsO w' w.heap.size w'.heap.size v' s ∧ Below w.heap.size w w' := by
  obtain ⟨vw, vr, vs, rfl, h1, h2, h3⟩ := h.parts
  have l1 : s.ws.length ≤ 1048576 := by unfold Is.size wzAll at hs; omega
  have l2 : s.rv.length ≤ 1048576 := by unfold Is.size at hs; omega
  have l3 : s.sg.length ≤ 1048576 := by unfold Is.size tzAll at hs; omega
  have hB0 : Below w.heap.size w (((w.alloc (.cells #[vw, .int .i64 s.nx, vr, vs] 26)).alloc (.cells #[.slice none 0 0, .int .i64 0, .slice none 0 0, .slice none 0 0] 32)).alloc (.cells #[.slice none 0 0, .int .i64 0, .slice none 0 0, .slice none 0 0] 32)) := (((Below.refl _ w).alloc (Nat.le_refl _) _).alloc (by simp) _).alloc (by simp; omega) _
  have F1 := ((Four.new w vw (.int .i64 s.nx) vr vs 26).below ((Below.refl _ _).alloc (Nat.le_refl _) (.cells #[.slice none 0 0, .int .i64 0, .slice none 0 0, .slice none 0 0] 32))).below ((Below.refl _ _).alloc (Nat.le_refl _) (.cells #[.slice none 0 0, .int .i64 0, .slice none 0 0, .slice none 0 0] 32))
  have F2 := (Four.at (w.alloc (.cells #[vw, .int .i64 s.nx, vr, vs] 26)) (.slice none 0 0) (.int .i64 0) (.slice none 0 0) (.slice none 0 0) 32 (k := w.heap.size + 1) (by simp)).below ((Below.refl _ _).alloc (Nat.le_refl _) (.cells #[.slice none 0 0, .int .i64 0, .slice none 0 0, .slice none 0 0] 32))
  have F3 := Four.at ((w.alloc (.cells #[vw, .int .i64 s.nx, vr, vs] 26)).alloc (.cells #[.slice none 0 0, .int .i64 0, .slice none 0 0, .slice none 0 0] 32)) (.slice none 0 0) (.int .i64 0) (.slice none 0 0) (.slice none 0 0) 32 (k := w.heap.size + 1 + 1) (by simp)
  have hz0 : (((w.alloc (.cells #[vw, .int .i64 s.nx, vr, vs] 26)).alloc (.cells #[.slice none 0 0, .int .i64 0, .slice none 0 0, .slice none 0 0] 32)).alloc (.cells #[.slice none 0 0, .int .i64 0, .slice none 0 0, .slice none 0 0] 32)).heap.size = w.heap.size + 1 + 1 + 1 := by simp
  have HZ := hid hz0
  clear hz0
  go_enter Try.func6, Try.ntmps6
  go_wp2_with fail
  generalize (((w.alloc (.cells #[vw, .int .i64 s.nx, vr, vs] 26)).alloc (.cells #[.slice none 0 0, .int .i64 0, .slice none 0 0, .slice none 0 0] 32)).alloc (.cells #[.slice none 0 0, .int .i64 0, .slice none 0 0, .slice none 0 0] 32)) = W0 at *
  refine (toWorkS_any vw s.ws _ l1 (h1.below hB0)).mono ?_
  rintro e w1 ⟨v1, rfl, o1, hB1⟩
  obtain ⟨a1', m1', c1', hv1⟩ := row_slice o1
  subst hv1
  replace F1 := F1.below hB1
  replace F2 := F2.below hB1
  replace F3 := F3.below hB1
  have hBB1 := below_one hB0 hB1
  clear hB1 hB0
  obtain ⟨a0, a1, a2, a3⟩ := F1.c
  obtain ⟨c0, c1, c2, c3⟩ := F3.c
  have f0 := F3.f 0
  have f1 := F3.f 1
  go_wp2_with fail
  have F1' := (F1.other (k' := w.heap.size + 1 + 1) (by omega) 0 (.slice a1' m1' c1')).other (k' := w.heap.size + 1 + 1) (by omega) 1 (.int .i64 s.nx)
  have F2' := (F2.other (k' := w.heap.size + 1 + 1) (by omega) 0 (.slice a1' m1' c1')).other (k' := w.heap.size + 1 + 1) (by omega) 1 (.int .i64 s.nx)
  have F3' := (F3.s0 (.slice a1' m1' c1')).s1 (.int .i64 s.nx)
  have hB1' := (hBB1.setCell (p := ⟨w.heap.size + 1 + 1, 0, none⟩) (by simp; omega) (.slice a1' m1' c1')).setCell (p := ⟨w.heap.size + 1 + 1, 1, none⟩) (by simp; omega) (.int .i64 s.nx)
  have o1' := ownsRow_setCell_below (ownsRow_setCell_below o1 (a := ⟨w.heap.size + 1 + 1, 0, none⟩) (by rw [HZ.out]; simp) (.slice a1' m1' c1')) (a := ⟨w.heap.size + 1 + 1, 1, none⟩) (by rw [HZ.out]; simp) (.int .i64 s.nx)
  clear F1 F2 F3 hBB1 o1 a0 a1 a2 a3 c0 c1 c2 c3 f0 f1
  generalize (w1.setCell ⟨w.heap.size + 1 + 1, 0, none⟩ (.slice a1' m1' c1')).setCell ⟨w.heap.size + 1 + 1, 1, none⟩ (.int .i64 s.nx) = W1 at *
  refine (toIntS_any vr s.rv _ l2 (h2.below hB1')).mono ?_
  rintro e w2 ⟨v2, rfl, o2, hB2⟩
  obtain ⟨a2', m2', c2', hv2⟩ := row_slice o2
  subst hv2
  have z1 := hB1'.size
  replace F1 := F1'.below hB2
  replace F2 := F2'.below hB2
  replace F3 := F3'.below hB2
  replace o1 := ownsRow_below o1' hB2
  have hBB2 := below_one hB1' hB2
  have hl3 := F3'.lt
  clear hB2 hB1' F1' F2' F3' o1'
  obtain ⟨a0, a1, a2, a3⟩ := F1.c
  obtain ⟨c0, c1, c2, c3⟩ := F3.c
  have f2 := F3.f 2
  go_wp2_with fail
  have F2' := F2.other (k' := w.heap.size + 1 + 1) (by omega) 2 (.slice a2' m2' c2')
  have F3' := F3.s2 (.slice a2' m2' c2')
  have hB2' := hBB2.setCell (p := ⟨w.heap.size + 1 + 1, 2, none⟩) (by simp; omega) (.slice a2' m2' c2')
  have o1' := ownsRow_setCell_below o1 (a := ⟨w.heap.size + 1 + 1, 2, none⟩) (by rw [HZ.out]; simp) (.slice a2' m2' c2')
  have o2' := ownsRow_setCell_below o2 (a := ⟨w.heap.size + 1 + 1, 2, none⟩) hl3 (.slice a2' m2' c2')
  clear F1 F2 F3 hBB2 o1 o2 a0 a1 a2 a3 c0 c1 c2 c3 f2
  generalize w2.setCell ⟨w.heap.size + 1 + 1, 2, none⟩ (.slice a2' m2' c2') = W2 at *
  refine (toStringS_any vs s.sg _ l3 (h3.below hB2')).mono ?_
  rintro e w3 ⟨v3, rfl, o3, hB3⟩
  obtain ⟨a3', m3', c3', hv3⟩ := row_slice o3
  subst hv3
  have z2 := hB2'.size
  replace F2 := F2'.below hB3
  replace F3 := F3'.below hB3
  replace o1 := ownsRow_below o1' hB3
  replace o2 := ownsRow_below o2' hB3
  have hBB3 := below_one hB2' hB3
  have hl4 := F3'.lt
  have hl5 := F2'.lt
  clear hB3 hB2' F2' F3' o1' o2'
  obtain ⟨b0, b1, b2, b3⟩ := F2.c
  obtain ⟨c0, c1, c2, c3⟩ := F3.c
  have f3 := F3.f 3
  have g0 := F2.f 0
  have g1 := F2.f 1
  have g2 := F2.f 2
  have g3 := F2.f 3
  have o1' := ownsRow_setCell_below o1 (a := ⟨w.heap.size + 1 + 1, 3, none⟩) (by rw [HZ.out]; simp) (.slice a3' m3' c3')
  have o2' := ownsRow_setCell_below o2 (a := ⟨w.heap.size + 1 + 1, 3, none⟩) hl3 (.slice a3' m3' c3')
  have o3' := ownsRow_setCell_below o3 (a := ⟨w.heap.size + 1 + 1, 3, none⟩) hl4 (.slice a3' m3' c3')
  have hBB' := hBB3.setCell (p := ⟨w.heap.size + 1 + 1, 3, none⟩) (by simp; omega) (.slice a3' m3' c3')
  go_wp2_with fail
  have G := ((((F2.other (k' := w.heap.size + 1 + 1) (by omega) 3 (.slice a3' m3' c3')).s0 (.slice a1' m1' c1')).s1 (.int .i64 s.nx)).s2 (.slice a2' m2' c2')).s3 (.slice a3' m3' c3')
  have p1 := row_four o1' (k := w.heap.size + 1) (by rw [HZ.out]; omega) (.slice a1' m1' c1') (.int .i64 s.nx) (.slice a2' m2' c2') (.slice a3' m3' c3')
  have p2 := row_four o2' (k := w.heap.size + 1) (by omega) (.slice a1' m1' c1') (.int .i64 s.nx) (.slice a2' m2' c2') (.slice a3' m3' c3')
  have p3 := row_four o3' (k := w.heap.size + 1) (by omega) (.slice a1' m1' c1') (.int .i64 s.nx) (.slice a2' m2' c2') (.slice a3' m3' c3')
  have pB := below_four hBB' (k := w.heap.size + 1) (by omega) (.slice a1' m1' c1') (.int .i64 s.nx) (.slice a2' m2' c2') (.slice a3' m3' c3')
  have hW0 : w.heap.size ≤ W0.heap.size := by rw [HZ.out]; omega
  generalize ((((w3.setCell ⟨w.heap.size + 1 + 1, 3, none⟩ (.slice a3' m3' c3')).setCell ⟨w.heap.size + 1, 0, none⟩ (.slice a1' m1' c1')).setCell ⟨w.heap.size + 1, 1, none⟩ (.int .i64 s.nx)).setCell ⟨w.heap.size + 1, 2, none⟩ (.slice a2' m2' c2')).setCell ⟨w.heap.size + 1, 3, none⟩ (.slice a3' m3' c3') = W4 at *
  obtain ⟨d0, d1, d2, d3⟩ := G.c
  exact bodyPost_ret (v := .agg #[(.slice a1' m1' c1'), .int .i64 s.nx, (.slice a2' m2' c2'), (.slice a3' m3' c3')]) (by simp [results, Try.results6, go_sem, d0, d1, d2, d3]) rfl ⟨_, rfl, IsO.of (Go.Joins.ownsRow_le p1 hW0) (Go.Joins.ownsRow_le p2 z1) (Go.Joins.ownsRow_le p3 z2), pB⟩

end Go.Proofs.Ythejifjjaknifah
