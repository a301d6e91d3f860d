/-
  Sides in memory: how one that comes in is read, what the laws measure, hand on, hold and mark.
-/
import Derived.Test.YthpckiobfjdckaaGreatBoV
import Derived.Test.YthpckiobfjdckaaGreatBlkS
namespace Go.Proofs.YthpckiobfjdckaaGreat
open Go.RowKit Go.Shelf

/-- A side. -/
structure Sd where
  fo : Sn
  co : Int
  ru : List Ru
  ha : List Bool
  se : List Int
def Sd.none : Sd := ⟨Sn.none, 0, [], [], []⟩
def SdA (w : World) (v : Value) (s : Sd) : Prop := ∃ vp vr vu vh vs, v = .agg #[.int .i64 s.fo.num, vp, vr, .int .i64 s.co, vu, vh, vs] ∧ RuS w vp s.fo.pol ∧ VS w vr (nums s.fo.rv) ∧ RuS w vu s.ru ∧ VS w vh (bls s.ha) ∧ VS w vs (nums s.se)
def SdR (w : World) (v : Value) (s : Sd) : Prop := ∃ vp vr vu vh vs, v = .agg #[.int .i64 s.fo.num, vp, vr, .int .i64 s.co, vu, vh, vs] ∧ RuR w vp s.fo.pol ∧ NuR w vr s.fo.rv ∧ RuR w vu s.ru ∧ BoR w vh s.ha ∧ NuR w vs s.se
/-- .. of one's own: the version's lists lie in blocks from base on, below m, the others from m on, below top. -/
def SdO (w : World) (base top : Nat) (v : Value) (s : Sd) : Prop :=
  ∃ m vp vr vu vh vs, v = .agg #[.int .i64 s.fo.num, vp, vr, .int .i64 s.co, vu, vh, vs] ∧ base ≤ m ∧ m ≤ top ∧ SnO w base m (.agg #[.int .i64 s.fo.num, vp, vr]) s.fo ∧ w.ownsRow m 63 4 vu s.ru.length (s.ru.flatMap Ru.cells) ∧ w.ownsRow m 4 1 vh s.ha.length (bls s.ha) ∧ w.ownsRow m 3 1 vs s.se.length (nums s.se) ∧ (∀ k, vu.ownBlock = some k → k < top) ∧ (∀ k, vh.ownBlock = some k → k < top) ∧ ∀ k, vs.ownBlock = some k → k < top
theorem SdA.below {w w' : World} {v : Value} {s : Sd} (h : SdA w v s) (hB : Below w.heap.size w w') : SdA w' v s := by
  obtain ⟨vp, vr, vu, vh, vs, rfl, h1, h2, h3, h4, h5⟩ := h
  exact ⟨_, _, _, _, _, rfl, h1.below hB, h2.below hB, h3.below hB, h4.below hB, h5.below hB⟩
theorem SdR.below {w w' : World} {v : Value} {s : Sd} (h : SdR w v s) (hB : Below w.heap.size w w') : SdR w' v s := by
  obtain ⟨vp, vr, vu, vh, vs, rfl, h1, h2, h3, h4, h5⟩ := h
  exact ⟨_, _, _, _, _, rfl, h1.below hB, h2.below hB, h3.below hB, h4.below hB, h5.below hB⟩
theorem SdO.below {w w' : World} {base top : Nat} {v : Value} {s : Sd} (h : SdO w base top v s) (hB : Below w.heap.size w w') : SdO w' base top v s := by
  obtain ⟨m, vp, vr, vu, vh, vs, rfl, hm, ht, h1, h3, h4, h5, t⟩ := h
  exact ⟨m, vp, vr, vu, vh, vs, rfl, hm, ht, h1.below hB, ownsRow_below h3 hB, ownsRow_below h4 hB, ownsRow_below h5 hB, t⟩
theorem SdR.a {w : World} {v : Value} {s : Sd} (h : SdR w v s) : SdA w v s := by
  obtain ⟨vp, vr, vu, vh, vs, rfl, h1, h2, h3, h4, h5⟩ := h
  exact ⟨_, _, _, _, _, rfl, h1.s, h2.s, h3.s, h4.s, h5.s⟩
theorem SdO.r {w : World} {base top : Nat} {v : Value} {s : Sd} (h : SdO w base top v s) : SdR w v s := by
  obtain ⟨m, vp, vr, vu, vh, vs, rfl, hm, ht, ⟨vp', vr', e, h1, h2, _, _⟩, h3, h4, h5, t⟩ := h
  cases e
  exact ⟨_, _, _, _, _, rfl, RuR.own h1, NuR.own h2, RuR.own h3, BoR.own h4, NuR.own h5⟩
theorem SdO.a {w : World} {base top : Nat} {v : Value} {s : Sd} (h : SdO w base top v s) : SdA w v s := h.r.a
theorem SdR.fo {w : World} {vp vr vu vh vs : Value} {s : Sd} (h : SdR w (.agg #[.int .i64 s.fo.num, vp, vr, .int .i64 s.co, vu, vh, vs]) s) : SnR w (.agg #[.int .i64 s.fo.num, vp, vr]) s.fo := by
  obtain ⟨_, _, _, _, _, e, h1, h2, _⟩ := h
  cases e
  exact ⟨_, _, rfl, h1, h2⟩
theorem SdO.mono {w : World} {base base' top top' : Nat} {v : Value} {s : Sd} (h : SdO w base top v s) (hb : base' ≤ base) (ht : top ≤ top') : SdO w base' top' v s := by
  obtain ⟨m, vp, vr, vu, vh, vs, rfl, hm, hmt, h1, h3, h4, h5, t1, t2, t3⟩ := h
  exact ⟨m, vp, vr, vu, vh, vs, rfl, by omega, by omega, h1.mono hb (Nat.le_refl _), h3, h4, h5, fun k hk => Nat.lt_of_lt_of_le (t1 k hk) ht, fun k hk => Nat.lt_of_lt_of_le (t2 k hk) ht, fun k hk => Nat.lt_of_lt_of_le (t3 k hk) ht⟩
theorem Mid.sdo {lo hi : Nat} {w w1 : World} (h : Mid lo hi w w1) {base top : Nat} {v : Value} {s : Sd} (hr : SdO w base top v s) (ho : hi ≤ base ∨ top ≤ lo) : SdO w1 base top v s := by
  obtain ⟨m, vp, vr, vu, vh, vs, rfl, hm, hmt, h1, h3, h4, h5, t1, t2, t3⟩ := hr
  exact ⟨m, vp, vr, vu, vh, vs, rfl, hm, hmt, h.sno h1 (by omega), h.row h3 (fun k hk => by have := h3.lt k hk; have := t1 k hk; omega), h.row h4 (fun k hk => by have := h4.lt k hk; have := t2 k hk; omega), h.row h5 (fun k hk => by have := h5.lt k hk; have := t3 k hk; omega), t1, t2, t3⟩
theorem SdO.none (w : World) (base top : Nat) (h : base ≤ top) : SdO w base top (.agg #[.int .i64 0, .slice none 0 0, .slice none 0 0, .int .i64 0, .slice none 0 0, .slice none 0 0, .slice none 0 0]) Sd.none :=
  ⟨base, _, _, _, _, _, rfl, Nat.le_refl _, h, ⟨_, _, rfl, World.ownsRow_nil _ _ _ _, World.ownsRow_nil _ _ _ _, fun _ h => by simp [Value.ownBlock] at h, fun _ h => by simp [Value.ownBlock] at h⟩, World.ownsRow_nil _ _ _ _, World.ownsRow_nil _ _ _ _, World.ownsRow_nil _ _ _ _, fun _ h => by simp [Value.ownBlock] at h, fun _ h => by simp [Value.ownBlock] at h, fun _ h => by simp [Value.ownBlock] at h⟩
def Sd.fits (s : Sd) : Prop := s.fo.fits ∧ s.ru.length ≤ maxLen ∧ (∀ r ∈ s.ru, r.fits) ∧ s.ha.length ≤ maxLen ∧ s.se.length ≤ maxLen
def Sd.size (s : Sd) : Nat := s.fo.size + szAll s.ru + s.ha.length + s.se.length
def leftW (n : Int) (s : Sd) : Int := if (s.size : Int) ≤ n then n - s.size else -1
def Sd.short (s : Sd) : Prop := s.fo.short ∧ s.ru.length ≤ 1048576 ∧ s.ha.length ≤ 1048576 ∧ s.se.length ≤ 1048576 ∧ ∀ r ∈ s.ru, r.size ≤ 1048576
theorem Sd.short_of {s : Sd} (h : s.size ≤ 1048576) : s.short := by
  unfold Sd.size szAll at h
  exact ⟨Sn.short_of (by omega), by omega, by omega, by omega, fun r hr => by have := sz_mem hr; omega⟩
theorem sd_forms {w : World} {v : Value} {s : Sd} (h : SdA w v s) : ∃ ap cp ar cr au cu ah ch as' cs, v = .agg #[.int .i64 s.fo.num, .slice ap s.fo.pol.length cp, .slice ar s.fo.rv.length cr, .int .i64 s.co, .slice au s.ru.length cu, .slice ah s.ha.length ch, .slice as' s.se.length cs] := by
  obtain ⟨vp, vr, vu, vh, vs, rfl, h1, h2, h3, h4, h5⟩ := h
  obtain ⟨a1, c1, rfl⟩ := h1.len
  obtain ⟨a2, c2, rfl⟩ := h2.numLen
  obtain ⟨a3, c3, rfl⟩ := h3.len
  obtain ⟨a4, c4, rfl⟩ := h4.bolLen
  obtain ⟨a5, c5, rfl⟩ := h5.numLen
  exact ⟨_, _, _, _, _, _, _, _, _, _, rfl⟩

set_option maxRecDepth 100000 in
theorem cellsSide : Tryz.prog.cellsOf 46 = 7 := by kernel_rfl
set_option maxRecDepth 100000 in
open Go.Deep Go.ChangeShapes Go.WideShapes Go.ChangeAt Go.Joins in
/-- A side that comes in. -/
theorem openSd {H : Type} {enc : TypeId × Value → H} {W : World} {base : Nat} {v : Value} {y : DataW H} {p : List MemPlace} (hv : Value.okWide Tryz.prog W .any base 46 v) (h : DataW.Trod enc Tryz.prog W 0 (fun _ => true) true 46 v y p) :
    ∃ s : Sd, SdA W v s ∧ s.fits := by
  obtain ⟨cs, rfl, hsz⟩ := okWide_struct Tryz.underlying46 hv
  rw [cellsSide] at hsz
  obtain ⟨l⟩ := cs
  obtain ⟨c0, c1, c2, c3, c4, c5, c6, rfl⟩ : ∃ c0 c1 c2 c3 c4 c5 c6, l = [c0, c1, c2, c3, c4, c5, c6] := by
    match l, hsz with
    | [c0, c1, c2, c3, c4, c5, c6], _ => exact ⟨c0, c1, c2, c3, c4, c5, c6, rfl⟩
  obtain ⟨fuel, hf⟩ := h
  obtain ⟨xs, n, _, _, _, hlen, hfs⟩ := DataW.trod_struct Tryz.underlying46 hf
  obtain ⟨y0, y1, y2, y3, y4, rfl⟩ : ∃ y0 y1 y2 y3 y4, xs = [y0, y1, y2, y3, y4] := by
    match xs, hlen with
    | [y0, y1, y2, y3, y4], _ => exact ⟨y0, y1, y2, y3, y4, rfl⟩
  have ci : Tryz.prog.cellsOf 3 = 1 := by kernel_rfl
  have cr : Tryz.prog.cellsOf 22 = 1 := by kernel_rfl
  have cb : Tryz.prog.cellsOf 44 = 1 := by kernel_rfl
  have cn : Tryz.prog.cellsOf 23 = 1 := by kernel_rfl
  have h0 : DataW.trod enc Tryz.prog W 0 (fun _ => true) true n 25 [c0, c1, c2] = some y0 := by have := hfs 0 _ rfl; simpa [Value.cells, cellsSnapshot] using this
  have h1 : DataW.trod enc Tryz.prog W 0 (fun _ => true) true n 3 [c3] = some y1 := by have := hfs 1 _ rfl; simpa [Value.cells, ci] using this
  have h2 : DataW.trod enc Tryz.prog W 0 (fun _ => true) true n 22 [c4] = some y2 := by have := hfs 2 _ rfl; simpa [Value.cells, cr] using this
  have h3 : DataW.trod enc Tryz.prog W 0 (fun _ => true) true n 44 [c5] = some y3 := by have := hfs 3 _ rfl; simpa [Value.cells, cb] using this
  have h4 : DataW.trod enc Tryz.prog W 0 (fun _ => true) true n 23 [c6] = some y4 := by have := hfs 4 _ rfl; simpa [Value.cells, cn] using this
  obtain ⟨zs, n', _, _, _, hlen', hgs⟩ := DataW.trod_struct Tryz.underlying25 h0
  obtain ⟨z0, z1, z2, rfl⟩ : ∃ z0 z1 z2, zs = [z0, z1, z2] := by
    match zs, hlen' with
    | [z0, z1, z2], _ => exact ⟨z0, z1, z2, rfl⟩
  have g0 : DataW.trod enc Tryz.prog W 0 (fun _ => true) true n' 3 [c0] = some z0 := by have := hgs 0 _ rfl; simpa [Value.cells, ci] using this
  have g1 : DataW.trod enc Tryz.prog W 0 (fun _ => true) true n' 22 [c1] = some z1 := by have := hgs 1 _ rfl; simpa [Value.cells, cr] using this
  have g2 : DataW.trod enc Tryz.prog W 0 (fun _ => true) true n' 23 [c2] = some z2 := by have := hgs 2 _ rfl; simpa [Value.cells, cn] using this
  obtain ⟨x0, e0, _, _⟩ := DataW.trod_int Tryz.underlying3 g0
  obtain ⟨a1, n1, k1, rs, rfl, r1, rfl, l1, f1⟩ := openRuR g1
  obtain ⟨a2, n2, k2, rv, rfl, r2, rfl, l2⟩ := openInR g2
  obtain ⟨x3, e3, _, _⟩ := DataW.trod_int Tryz.underlying3 h1
  obtain ⟨a4, n4, k4, ru, rfl, r4, rfl, l4, f4⟩ := openRuR h2
  obtain ⟨a5, n5, k5, ha, rfl, r5, rfl, l5⟩ := openBoR h3
  obtain ⟨a6, n6, k6, se, rfl, r6, rfl, l6⟩ := openInR h4
  simp only [List.cons.injEq, and_true] at e0 e3
  subst e0 e3
  exact ⟨⟨⟨x0, rs, rv⟩, x3, ru, ha, se⟩, ⟨_, _, _, _, _, rfl, r1, r2, r4, r5, r6⟩, ⟨l1, f1, l2⟩, l4, f4, l5, l6⟩

set_option maxHeartbeats 2000000 in
theorem szSide_any (v : Value) (s : Sd) (n : Int) (w : World) (h0 : 0 ≤ n) (hn : n ≤ 1048576) (hf : s.fits) (h : SdA w v s) :
    Calls Tryz.prog 17 #[v, .int .i64 n] w fun e w' => e = .returned (.int .i64 (leftW n s)) ∧ Below w.heap.size w w' := by
  obtain ⟨vp, vr, vu, vh, vs, rfl, h1, h2, h3, h4, h5⟩ := h
  obtain ⟨fs, l3, f3, l4, l5⟩ := hf
  have hS0 : SnA w (.agg #[.int .i64 s.fo.num, vp, vr]) s.fo := ⟨_, _, rfl, h1, h2⟩
  have hB0 : Below w.heap.size w (w.alloc (.cells #[.int .i64 s.fo.num, vp, vr, .int .i64 s.co, vu, vh, vs] 46)) := (Below.refl _ w).alloc (Nat.le_refl _) _
  have F1 := Seven.new w (.int .i64 s.fo.num) vp vr (.int .i64 s.co) vu vh vs 46
  have HI := hid (show leftW n s = if (s.size : Int) ≤ n then n - (s.size : Int) else (-1 : Int) from rfl)
  have HZ := hid (show s.size = s.fo.size + szAll s.ru + s.ha.length + s.se.length from rfl)
  obtain ⟨N0, HN0⟩ : ∃ N : Nat, Hid (N = s.fo.size) := ⟨_, hid rfl⟩
  obtain ⟨N1, HN1⟩ : ∃ N : Nat, Hid (N = szAll s.ru) := ⟨_, hid rfl⟩
  go_enter Tryz.func17, Tryz.ntmps17
  go_wp2_with fail
  generalize w.alloc (.cells #[.int .i64 s.fo.num, vp, vr, .int .i64 s.co, vu, vh, vs] 46) = W0 at *
  refine (szSnapshot_any (.agg #[.int .i64 s.fo.num, vp, vr]) s.fo (n) _ (by omega) (by omega) fs (SnA.below hS0 hB0)).mono ?_
  rintro e w1 ⟨rfl, hB1⟩
  replace F1 := F1.below hB1
  replace hB0 := below_one hB0 hB1
  clear hB1
  obtain ⟨a0, a1, a2, a3, a4, a5, a6⟩ := F1.c
  by_cases c0 : (N0 : Int) ≤ n
  · rw [show leftV (n) s.fo = n - (N0 : Int) from by unfold leftV; rw [← HN0.out]; exact if_pos c0]
    have d0 : decide (n - (N0 : Int) < 0) = false := by simp; omega
    go_wp2_with fail
    refine (szRuleS_any vu s.ru (n - (N0 : Int)) _ (by omega) (by omega) l3 f3 (h3.below hB0)).mono ?_
    rintro e w2 ⟨rfl, hB2⟩
    replace F1 := F1.below hB2
    replace hB0 := below_one hB0 hB2
    clear hB2
    clear a0 a1 a2 a3 a4 a5 a6
    obtain ⟨a0, a1, a2, a3, a4, a5, a6⟩ := F1.c
    by_cases c1 : (N1 : Int) ≤ n - (N0 : Int)
    · rw [show leftS (n - (N0 : Int)) s.ru = n - (N0 : Int) - (N1 : Int) from by unfold leftS; rw [← HN1.out]; exact if_pos c1]
      have d1 : decide (n - (N0 : Int) - (N1 : Int) < 0) = false := by simp; omega
      go_wp2_with fail
      refine (szBoolS_any vh s.ha (n - (N0 : Int) - (N1 : Int)) _ (by omega) (by omega) l4 (h4.below hB0)).mono ?_
      rintro e w3 ⟨rfl, hB3⟩
      replace F1 := F1.below hB3
      replace hB0 := below_one hB0 hB3
      clear hB3
      clear a0 a1 a2 a3 a4 a5 a6
      obtain ⟨a0, a1, a2, a3, a4, a5, a6⟩ := F1.c
      by_cases c2 : (s.ha.length : Int) ≤ n - (N0 : Int) - (N1 : Int)
      · rw [show left1 (n - (N0 : Int) - (N1 : Int)) s.ha.length = n - (N0 : Int) - (N1 : Int) - (s.ha.length : Int) from if_pos c2]
        have d2 : decide (n - (N0 : Int) - (N1 : Int) - (s.ha.length : Int) < 0) = false := by simp; omega
        go_wp2_with fail
        refine (szIntS_any vs s.se (n - (N0 : Int) - (N1 : Int) - (s.ha.length : Int)) _ (by omega) (by omega) l5 (h5.below hB0)).mono ?_
        rintro e w4 ⟨rfl, hB4⟩
        replace F1 := F1.below hB4
        replace hB0 := below_one hB0 hB4
        clear hB4
        clear a0 a1 a2 a3 a4 a5 a6
        obtain ⟨a0, a1, a2, a3, a4, a5, a6⟩ := F1.c
        by_cases c3 : (s.se.length : Int) ≤ n - (N0 : Int) - (N1 : Int) - (s.ha.length : Int)
        · rw [show left1 (n - (N0 : Int) - (N1 : Int) - (s.ha.length : Int)) s.se.length = n - (N0 : Int) - (N1 : Int) - (s.ha.length : Int) - (s.se.length : Int) from if_pos c3]
          have d3 : decide (n - (N0 : Int) - (N1 : Int) - (s.ha.length : Int) - (s.se.length : Int) < 0) = false := by simp; omega
          have HR := hid (show leftW n s = n - (N0 : Int) - (N1 : Int) - (s.ha.length : Int) - (s.se.length : Int) by rw [HI.out, if_pos (by rw [HZ.out, ← HN0.out, ← HN1.out]; push_cast; omega), HZ.out, ← HN0.out, ← HN1.out]; push_cast; omega)
          go_wp2_with fail
          go_ret
          exact ⟨ret_int HR.out.symm, hB0⟩
        · rw [show left1 (n - (N0 : Int) - (N1 : Int) - (s.ha.length : Int)) s.se.length = -1 from if_neg c3]
          have HR := hid (show leftW n s = -1 by rw [HI.out, if_neg (by rw [HZ.out, ← HN0.out, ← HN1.out]; push_cast; omega)])
          go_wp2_with fail
          go_ret
          exact ⟨ret_int HR.out.symm, hB0⟩
      · rw [show left1 (n - (N0 : Int) - (N1 : Int)) s.ha.length = -1 from if_neg c2]
        have HR := hid (show leftW n s = -1 by rw [HI.out, if_neg (by rw [HZ.out, ← HN0.out, ← HN1.out]; push_cast; omega)])
        go_wp2_with fail
        go_ret
        exact ⟨ret_int HR.out.symm, hB0⟩
    · rw [show leftS (n - (N0 : Int)) s.ru = -1 from by unfold leftS; rw [← HN1.out]; exact if_neg c1]
      have HR := hid (show leftW n s = -1 by rw [HI.out, if_neg (by rw [HZ.out, ← HN0.out, ← HN1.out]; push_cast; omega)])
      go_wp2_with fail
      go_ret
      exact ⟨ret_int HR.out.symm, hB0⟩
  · rw [show leftV (n) s.fo = -1 from by unfold leftV; rw [← HN0.out]; exact if_neg c0]
    have HR := hid (show leftW n s = -1 by rw [HI.out, if_neg (by rw [HZ.out, ← HN0.out, ← HN1.out]; push_cast; omega)])
    go_wp2_with fail
    go_ret
    exact ⟨ret_int HR.out.symm, hB0⟩

set_option maxHeartbeats 2000000 in
/-- A side is like itself, wherever the two lie. -/
theorem eqSide_same (v v' : Value) (s : Sd) (w : World) (hs : s.short) (h : SdA w v s) (h' : SdA w v' s) :
    Calls Tryz.prog 22 #[v, v'] w fun e w' => e = .returned (.bool true) ∧ Below w.heap.size w w' := by
  obtain ⟨vp, vr, vu, vh, vs, rfl, h1, h2, h3, h4, h5⟩ := h
  obtain ⟨vp', vr', vu', vh', vs', rfl, h1', h2', h3', h4', h5'⟩ := h'
  obtain ⟨hf, l3, l4, l5, _⟩ := hs
  have hS : SnA w (.agg #[.int .i64 s.fo.num, vp, vr]) s.fo := ⟨_, _, rfl, h1, h2⟩
  have hS' : SnA w (.agg #[.int .i64 s.fo.num, vp', vr']) s.fo := ⟨_, _, rfl, h1', h2'⟩
  have hB0 : Below w.heap.size w ((w.alloc (.cells #[.int .i64 s.fo.num, vp, vr, .int .i64 s.co, vu, vh, vs] 51)).alloc (.cells #[.int .i64 s.fo.num, vp', vr', .int .i64 s.co, vu', vh', vs'] 51)) := ((Below.refl _ w).alloc (Nat.le_refl _) _).alloc (by simp) _
  have F1 := (Seven.new w (.int .i64 s.fo.num) vp vr (.int .i64 s.co) vu vh vs 51).below ((Below.refl _ _).alloc (Nat.le_refl _) (.cells #[.int .i64 s.fo.num, vp', vr', .int .i64 s.co, vu', vh', vs'] 51))
  have F2 := Seven.at (w.alloc (.cells #[.int .i64 s.fo.num, vp, vr, .int .i64 s.co, vu, vh, vs] 51)) (.int .i64 s.fo.num) vp' vr' (.int .i64 s.co) vu' vh' vs' 51 (k := w.heap.size + 1) (by simp)
  have e1 : (s.co != s.co) = false := by simp
  go_enter Tryz.func22, Tryz.ntmps22
  go_wp2_with fail
  generalize (w.alloc (.cells #[.int .i64 s.fo.num, vp, vr, .int .i64 s.co, vu, vh, vs] 51)).alloc (.cells #[.int .i64 s.fo.num, vp', vr', .int .i64 s.co, vu', vh', vs'] 51) = W0 at *
  refine (eqSnapshot_same _ _ s.fo _ hf (hS.below hB0) (hS'.below hB0)).mono ?_
  rintro e w1 ⟨rfl, hB1⟩
  replace F1 := F1.below hB1
  replace F2 := F2.below hB1
  replace hB0 := below_one hB0 hB1
  clear hB1
  obtain ⟨a0, a1, a2, a3, a4, a5, a6⟩ := F1.c
  obtain ⟨c0, c1, c2, c3, c4, c5, c6⟩ := F2.c
  go_wp2_with fail
  refine (eqRuleS_any vu vu' s.ru s.ru _ (by omega) (by omega) (h3.below hB0) (h3'.below hB0)).mono ?_
  rintro e w2 ⟨rfl, hB2⟩
  rw [sameS_refl]
  clear a0 a1 a2 a3 a4 a5 a6 c0 c1 c2 c3 c4 c5 c6
  replace F1 := F1.below hB2
  replace F2 := F2.below hB2
  replace hB0 := below_one hB0 hB2
  clear hB2
  obtain ⟨a0, a1, a2, a3, a4, a5, a6⟩ := F1.c
  obtain ⟨c0, c1, c2, c3, c4, c5, c6⟩ := F2.c
  go_wp2_with fail
  refine (eqBoolS_same vh vh' s.ha _ (by omega) (h4.below hB0) (h4'.below hB0)).mono ?_
  rintro e w3 ⟨rfl, hB3⟩
  clear a0 a1 a2 a3 a4 a5 a6 c0 c1 c2 c3 c4 c5 c6
  replace F1 := F1.below hB3
  replace F2 := F2.below hB3
  replace hB0 := below_one hB0 hB3
  clear hB3
  obtain ⟨a0, a1, a2, a3, a4, a5, a6⟩ := F1.c
  obtain ⟨c0, c1, c2, c3, c4, c5, c6⟩ := F2.c
  go_wp2_with fail
  refine (eqIntS_same vs vs' s.se _ (by omega) (h5.below hB0) (h5'.below hB0)).mono ?_
  rintro e w4 ⟨rfl, hB4⟩
  replace hB0 := below_one hB0 hB4
  go_wp2_with fail
  go_ret
  exact ⟨rfl, hB0⟩

set_option maxHeartbeats 8000000 in
set_option maxRecDepth 100000 in
theorem toSide_any (v : Value) (s : Sd) (w : World) (hs : s.short) (h : SdA w v s) :
    Calls Tryz.prog 19 #[v] w fun e w' => ∃ v', e = .returned v' ∧ SdO w' w.heap.size w'.heap.size v' s ∧ Below w.heap.size w w' := by
  obtain ⟨vp, vr, vu, vh, vs, rfl, h1, h2, h3, h4, h5⟩ := h
  obtain ⟨hf, l3, l4, l5, _⟩ := hs
  have hS : SnA w (.agg #[.int .i64 s.fo.num, vp, vr]) s.fo := ⟨_, _, rfl, h1, h2⟩
  have hB0 : Below w.heap.size w (((w.alloc (.cells #[.int .i64 s.fo.num, vp, vr, .int .i64 s.co, vu, vh, vs] 46)).alloc (.cells #[.int .i64 0, .slice none 0 0, .slice none 0 0, .int .i64 0, .slice none 0 0, .slice none 0 0, .slice none 0 0] 51)).alloc (.cells #[.int .i64 0, .slice none 0 0, .slice none 0 0, .int .i64 0, .slice none 0 0, .slice none 0 0, .slice none 0 0] 51)) := (((Below.refl _ w).alloc (Nat.le_refl _) _).alloc (by simp) _).alloc (by simp; omega) _
  have F1 := ((Seven.new w (.int .i64 s.fo.num) vp vr (.int .i64 s.co) vu vh vs 46).below ((Below.refl _ _).alloc (Nat.le_refl _) (.cells #[.int .i64 0, .slice none 0 0, .slice none 0 0, .int .i64 0, .slice none 0 0, .slice none 0 0, .slice none 0 0] 51))).below ((Below.refl _ _).alloc (Nat.le_refl _) (.cells #[.int .i64 0, .slice none 0 0, .slice none 0 0, .int .i64 0, .slice none 0 0, .slice none 0 0, .slice none 0 0] 51))
  have F2 := (Seven.at (w.alloc (.cells #[.int .i64 s.fo.num, vp, vr, .int .i64 s.co, vu, vh, vs] 46)) (.int .i64 0) (.slice none 0 0) (.slice none 0 0) (.int .i64 0) (.slice none 0 0) (.slice none 0 0) (.slice none 0 0) 51 (k := w.heap.size + 1) (by simp)).below ((Below.refl _ _).alloc (Nat.le_refl _) (.cells #[.int .i64 0, .slice none 0 0, .slice none 0 0, .int .i64 0, .slice none 0 0, .slice none 0 0, .slice none 0 0] 51))
  have F3 := Seven.at ((w.alloc (.cells #[.int .i64 s.fo.num, vp, vr, .int .i64 s.co, vu, vh, vs] 46)).alloc (.cells #[.int .i64 0, .slice none 0 0, .slice none 0 0, .int .i64 0, .slice none 0 0, .slice none 0 0, .slice none 0 0] 51)) (.int .i64 0) (.slice none 0 0) (.slice none 0 0) (.int .i64 0) (.slice none 0 0) (.slice none 0 0) (.slice none 0 0) 51 (k := w.heap.size + 1 + 1) (by simp)
  have hK : w.heap.size + 1 + 1 < (((w.alloc (.cells #[.int .i64 s.fo.num, vp, vr, .int .i64 s.co, vu, vh, vs] 46)).alloc (.cells #[.int .i64 0, .slice none 0 0, .slice none 0 0, .int .i64 0, .slice none 0 0, .slice none 0 0, .slice none 0 0] 51)).alloc (.cells #[.int .i64 0, .slice none 0 0, .slice none 0 0, .int .i64 0, .slice none 0 0, .slice none 0 0, .slice none 0 0] 51)).heap.size := F3.lt
  go_enter Tryz.func19, Tryz.ntmps19
  go_wp2_with fail
  generalize ((w.alloc (.cells #[.int .i64 s.fo.num, vp, vr, .int .i64 s.co, vu, vh, vs] 46)).alloc (.cells #[.int .i64 0, .slice none 0 0, .slice none 0 0, .int .i64 0, .slice none 0 0, .slice none 0 0, .slice none 0 0] 51)).alloc (.cells #[.int .i64 0, .slice none 0 0, .slice none 0 0, .int .i64 0, .slice none 0 0, .slice none 0 0, .slice none 0 0] 51) = W0 at *
  refine (toSnapshot_any _ s.fo _ hf (hS.below hB0)).mono ?_
  rintro e w1 ⟨v1, rfl, O1, hB1⟩
  obtain ⟨x1, z1, x2, z2, rfl⟩ := sn_forms O1.a
  obtain ⟨_, _, ee, o1, o2, t1, t2⟩ := O1
  cases ee
  replace F1 := F1.below hB1
  replace F2 := F2.below hB1
  replace F3 := F3.below hB1
  replace hB0 := below_one hB0 hB1
  have hs1 := hB1.size
  clear hB1
  obtain ⟨a0, a1, a2, a3, a4, a5, a6⟩ := F1.c
  obtain ⟨c0, c1, c2, c3, c4, c5, c6⟩ := F3.c
  have f0 := F3.f 0
  have f1 := F3.f 1
  have f2 := F3.f 2
  have f3 := F3.f 3
  go_wp2_with fail
  clear a0 a1 a2 a3 a4 a5 a6 c0 c1 c2 c3 c4 c5 c6 f0 f1 f2 f3
  replace F1 := ((((F1.other (k' := w.heap.size + 1 + 1) (by omega) 0 (.int .i64 s.fo.num)).other (k' := w.heap.size + 1 + 1) (by omega) 1 (.slice x1 s.fo.pol.length z1)).other (k' := w.heap.size + 1 + 1) (by omega) 2 (.slice x2 s.fo.rv.length z2)).other (k' := w.heap.size + 1 + 1) (by omega) 3 (.int .i64 s.co))
  replace F2 := ((((F2.other (k' := w.heap.size + 1 + 1) (by omega) 0 (.int .i64 s.fo.num)).other (k' := w.heap.size + 1 + 1) (by omega) 1 (.slice x1 s.fo.pol.length z1)).other (k' := w.heap.size + 1 + 1) (by omega) 2 (.slice x2 s.fo.rv.length z2)).other (k' := w.heap.size + 1 + 1) (by omega) 3 (.int .i64 s.co))
  replace F3 := ((((F3.s0 (.int .i64 s.fo.num)).s1 (.slice x1 s.fo.pol.length z1)).s2 (.slice x2 s.fo.rv.length z2)).s3 (.int .i64 s.co))
  replace hB0 := ((((hB0.setCell (p := ⟨w.heap.size + 1 + 1, 0, none⟩) (by simp; omega) (.int .i64 s.fo.num)).setCell (p := ⟨w.heap.size + 1 + 1, 1, none⟩) (by simp; omega) (.slice x1 s.fo.pol.length z1)).setCell (p := ⟨w.heap.size + 1 + 1, 2, none⟩) (by simp; omega) (.slice x2 s.fo.rv.length z2)).setCell (p := ⟨w.heap.size + 1 + 1, 3, none⟩) (by simp; omega) (.int .i64 s.co))
  replace o1 := (ownsRow_setCell_below (ownsRow_setCell_below (ownsRow_setCell_below (ownsRow_setCell_below o1 (a := ⟨w.heap.size + 1 + 1, 0, none⟩) (by simp; omega) (.int .i64 s.fo.num)) (a := ⟨w.heap.size + 1 + 1, 1, none⟩) (by simp; omega) (.slice x1 s.fo.pol.length z1)) (a := ⟨w.heap.size + 1 + 1, 2, none⟩) (by simp; omega) (.slice x2 s.fo.rv.length z2)) (a := ⟨w.heap.size + 1 + 1, 3, none⟩) (by simp; omega) (.int .i64 s.co))
  replace o2 := (ownsRow_setCell_below (ownsRow_setCell_below (ownsRow_setCell_below (ownsRow_setCell_below o2 (a := ⟨w.heap.size + 1 + 1, 0, none⟩) (by simp; omega) (.int .i64 s.fo.num)) (a := ⟨w.heap.size + 1 + 1, 1, none⟩) (by simp; omega) (.slice x1 s.fo.pol.length z1)) (a := ⟨w.heap.size + 1 + 1, 2, none⟩) (by simp; omega) (.slice x2 s.fo.rv.length z2)) (a := ⟨w.heap.size + 1 + 1, 3, none⟩) (by simp; omega) (.int .i64 s.co))
  have hq1 : w1.heap.size ≤ ((((w1.setCell ⟨w.heap.size + 1 + 1, 0, none⟩ (.int .i64 s.fo.num)).setCell ⟨w.heap.size + 1 + 1, 1, none⟩ (.slice x1 s.fo.pol.length z1)).setCell ⟨w.heap.size + 1 + 1, 2, none⟩ (.slice x2 s.fo.rv.length z2)).setCell ⟨w.heap.size + 1 + 1, 3, none⟩ (.int .i64 s.co)).heap.size := by simp
  have hp1 : ((((w1.setCell ⟨w.heap.size + 1 + 1, 0, none⟩ (.int .i64 s.fo.num)).setCell ⟨w.heap.size + 1 + 1, 1, none⟩ (.slice x1 s.fo.pol.length z1)).setCell ⟨w.heap.size + 1 + 1, 2, none⟩ (.slice x2 s.fo.rv.length z2)).setCell ⟨w.heap.size + 1 + 1, 3, none⟩ (.int .i64 s.co)).heap.size ≤ w1.heap.size := by simp
  generalize (((w1.setCell ⟨w.heap.size + 1 + 1, 0, none⟩ (.int .i64 s.fo.num)).setCell ⟨w.heap.size + 1 + 1, 1, none⟩ (.slice x1 s.fo.pol.length z1)).setCell ⟨w.heap.size + 1 + 1, 2, none⟩ (.slice x2 s.fo.rv.length z2)).setCell ⟨w.heap.size + 1 + 1, 3, none⟩ (.int .i64 s.co) = W1 at *
  refine (toRuleS_any vu s.ru _ l3 (h3.below hB0)).mono ?_
  rintro e w2 ⟨v2, rfl, o3, hB2⟩
  replace o3 := Go.Joins.ownsRow_le o3 hq1
  obtain ⟨x3, y3, z3, rfl⟩ := row_slice o3
  replace F1 := F1.below hB2
  replace F2 := F2.below hB2
  replace F3 := F3.below hB2
  replace o1 := ownsRow_below o1 hB2
  replace o2 := ownsRow_below o2 hB2
  replace hB0 := below_one hB0 hB2
  have hs2 := hB2.size
  clear hB2
  obtain ⟨a0, a1, a2, a3, a4, a5, a6⟩ := F1.c
  obtain ⟨c0, c1, c2, c3, c4, c5, c6⟩ := F3.c
  have f4 := F3.f 4
  go_wp2_with fail
  clear a0 a1 a2 a3 a4 a5 a6 c0 c1 c2 c3 c4 c5 c6 f4
  replace F1 := (F1.other (k' := w.heap.size + 1 + 1) (by omega) 4 (.slice x3 y3 z3))
  replace F2 := (F2.other (k' := w.heap.size + 1 + 1) (by omega) 4 (.slice x3 y3 z3))
  replace F3 := (F3.s4 (.slice x3 y3 z3))
  replace hB0 := (hB0.setCell (p := ⟨w.heap.size + 1 + 1, 4, none⟩) (by simp; omega) (.slice x3 y3 z3))
  replace o1 := (ownsRow_setCell_below o1 (a := ⟨w.heap.size + 1 + 1, 4, none⟩) (by simp; omega) (.slice x3 y3 z3))
  replace o2 := (ownsRow_setCell_below o2 (a := ⟨w.heap.size + 1 + 1, 4, none⟩) (by simp; omega) (.slice x3 y3 z3))
  replace o3 := (ownsRow_setCell_below o3 (a := ⟨w.heap.size + 1 + 1, 4, none⟩) (by simp; omega) (.slice x3 y3 z3))
  have hq2 : w2.heap.size ≤ (w2.setCell ⟨w.heap.size + 1 + 1, 4, none⟩ (.slice x3 y3 z3)).heap.size := by simp
  have hp2 : (w2.setCell ⟨w.heap.size + 1 + 1, 4, none⟩ (.slice x3 y3 z3)).heap.size ≤ w2.heap.size := by simp
  generalize w2.setCell ⟨w.heap.size + 1 + 1, 4, none⟩ (.slice x3 y3 z3) = W2 at *
  refine (toBoolS_any vh s.ha _ l4 (h4.below hB0)).mono ?_
  rintro e w3 ⟨v3, rfl, o4, hB3⟩
  replace o4 := Go.Joins.ownsRow_le o4 (Nat.le_trans hq1 (Nat.le_trans hs2 hq2))
  obtain ⟨x4, y4, z4, rfl⟩ := row_slice o4
  replace F1 := F1.below hB3
  replace F2 := F2.below hB3
  replace F3 := F3.below hB3
  replace o1 := ownsRow_below o1 hB3
  replace o2 := ownsRow_below o2 hB3
  replace o3 := ownsRow_below o3 hB3
  replace hB0 := below_one hB0 hB3
  have hs3 := hB3.size
  clear hB3
  obtain ⟨a0, a1, a2, a3, a4, a5, a6⟩ := F1.c
  obtain ⟨c0, c1, c2, c3, c4, c5, c6⟩ := F3.c
  have f5 := F3.f 5
  go_wp2_with fail
  clear a0 a1 a2 a3 a4 a5 a6 c0 c1 c2 c3 c4 c5 c6 f5
  replace F1 := (F1.other (k' := w.heap.size + 1 + 1) (by omega) 5 (.slice x4 y4 z4))
  replace F2 := (F2.other (k' := w.heap.size + 1 + 1) (by omega) 5 (.slice x4 y4 z4))
  replace F3 := (F3.s5 (.slice x4 y4 z4))
  replace hB0 := (hB0.setCell (p := ⟨w.heap.size + 1 + 1, 5, none⟩) (by simp; omega) (.slice x4 y4 z4))
  replace o1 := (ownsRow_setCell_below o1 (a := ⟨w.heap.size + 1 + 1, 5, none⟩) (by simp; omega) (.slice x4 y4 z4))
  replace o2 := (ownsRow_setCell_below o2 (a := ⟨w.heap.size + 1 + 1, 5, none⟩) (by simp; omega) (.slice x4 y4 z4))
  replace o3 := (ownsRow_setCell_below o3 (a := ⟨w.heap.size + 1 + 1, 5, none⟩) (by simp; omega) (.slice x4 y4 z4))
  replace o4 := (ownsRow_setCell_below o4 (a := ⟨w.heap.size + 1 + 1, 5, none⟩) (by simp; omega) (.slice x4 y4 z4))
  have hq3 : w3.heap.size ≤ (w3.setCell ⟨w.heap.size + 1 + 1, 5, none⟩ (.slice x4 y4 z4)).heap.size := by simp
  have hp3 : (w3.setCell ⟨w.heap.size + 1 + 1, 5, none⟩ (.slice x4 y4 z4)).heap.size ≤ w3.heap.size := by simp
  generalize w3.setCell ⟨w.heap.size + 1 + 1, 5, none⟩ (.slice x4 y4 z4) = W3x at *
  refine (toIntS_any vs s.se _ l5 (h5.below hB0)).mono ?_
  rintro e w4 ⟨v4, rfl, o5, hB4⟩
  replace o5 := Go.Joins.ownsRow_le o5 (Nat.le_trans hq1 (Nat.le_trans hs2 (Nat.le_trans hq2 (Nat.le_trans hs3 hq3))))
  obtain ⟨x5, y5, z5, rfl⟩ := row_slice o5
  replace F1 := F1.below hB4
  replace F2 := F2.below hB4
  replace F3 := F3.below hB4
  replace o1 := ownsRow_below o1 hB4
  replace o2 := ownsRow_below o2 hB4
  replace o3 := ownsRow_below o3 hB4
  replace o4 := ownsRow_below o4 hB4
  replace hB0 := below_one hB0 hB4
  have hs4 := hB4.size
  clear hB4
  obtain ⟨a0, a1, a2, a3, a4, a5, a6⟩ := F1.c
  obtain ⟨c0, c1, c2, c3, c4, c5, c6⟩ := F3.c
  have f6 := F3.f 6
  have G3 := F3.s6 (.slice x5 y5 z5)
  have G2 := F2.other (k' := w.heap.size + 1 + 1) (by omega) 6 (.slice x5 y5 z5)
  replace hB0 := hB0.setCell (p := ⟨w.heap.size + 1 + 1, 6, none⟩) (by simp; omega) (.slice x5 y5 z5)
  replace o1 := ownsRow_setCell_below o1 (a := ⟨w.heap.size + 1 + 1, 6, none⟩) (by simp; omega) (.slice x5 y5 z5)
  replace o2 := ownsRow_setCell_below o2 (a := ⟨w.heap.size + 1 + 1, 6, none⟩) (by simp; omega) (.slice x5 y5 z5)
  replace o3 := ownsRow_setCell_below o3 (a := ⟨w.heap.size + 1 + 1, 6, none⟩) (by simp; omega) (.slice x5 y5 z5)
  replace o4 := ownsRow_setCell_below o4 (a := ⟨w.heap.size + 1 + 1, 6, none⟩) (by simp; omega) (.slice x5 y5 z5)
  replace o5 := ownsRow_setCell_below o5 (a := ⟨w.heap.size + 1 + 1, 6, none⟩) (by simp; omega) (.slice x5 y5 z5)
  obtain ⟨m0, m1, m2, m3, m4, m5, m6⟩ := G3.c
  obtain ⟨r0, r1, r2, r3, r4, r5, r6⟩ := G2.c
  have g0 := G2.f 0
  have g1 := G2.f 1
  have g2 := G2.f 2
  have g3 := G2.f 3
  have g4 := G2.f 4
  have g5 := G2.f 5
  have g6 := G2.f 6
  have G := (((((((G2.s0 (.int .i64 s.fo.num)).s1 (.slice x1 s.fo.pol.length z1)).s2 (.slice x2 s.fo.rv.length z2)).s3 (.int .i64 s.co)).s4 (.slice x3 y3 z3)).s5 (.slice x4 y4 z4)).s6 (.slice x5 y5 z5))
  have p1 := row_seven o1 (k := w.heap.size + 1) (by omega) (.int .i64 s.fo.num) (.slice x1 s.fo.pol.length z1) (.slice x2 s.fo.rv.length z2) (.int .i64 s.co) (.slice x3 y3 z3) (.slice x4 y4 z4) (.slice x5 y5 z5)
  have p2 := row_seven o2 (k := w.heap.size + 1) (by omega) (.int .i64 s.fo.num) (.slice x1 s.fo.pol.length z1) (.slice x2 s.fo.rv.length z2) (.int .i64 s.co) (.slice x3 y3 z3) (.slice x4 y4 z4) (.slice x5 y5 z5)
  have p3 := row_seven o3 (k := w.heap.size + 1) (by omega) (.int .i64 s.fo.num) (.slice x1 s.fo.pol.length z1) (.slice x2 s.fo.rv.length z2) (.int .i64 s.co) (.slice x3 y3 z3) (.slice x4 y4 z4) (.slice x5 y5 z5)
  have p4 := row_seven o4 (k := w.heap.size + 1) (by omega) (.int .i64 s.fo.num) (.slice x1 s.fo.pol.length z1) (.slice x2 s.fo.rv.length z2) (.int .i64 s.co) (.slice x3 y3 z3) (.slice x4 y4 z4) (.slice x5 y5 z5)
  have p5 := row_seven o5 (k := w.heap.size + 1) (by omega) (.int .i64 s.fo.num) (.slice x1 s.fo.pol.length z1) (.slice x2 s.fo.rv.length z2) (.int .i64 s.co) (.slice x3 y3 z3) (.slice x4 y4 z4) (.slice x5 y5 z5)
  have pB := below_seven hB0 (k := w.heap.size + 1) (by omega) (.int .i64 s.fo.num) (.slice x1 s.fo.pol.length z1) (.slice x2 s.fo.rv.length z2) (.int .i64 s.co) (.slice x3 y3 z3) (.slice x4 y4 z4) (.slice x5 y5 z5)
  have hW0 : w.heap.size ≤ W0.heap.size := by omega
  have htp : ∀ k, w1.heap.size ≤ k → w1.heap.size ≤ k := fun _ h => h
  have hsE : w4.heap.size ≤ ((((((((w4.setCell ⟨w.heap.size + 1 + 1, 6, none⟩ (.slice x5 y5 z5)).setCell ⟨w.heap.size + 1, 0, none⟩ (.int .i64 s.fo.num)).setCell ⟨w.heap.size + 1, 1, none⟩ (.slice x1 s.fo.pol.length z1)).setCell ⟨w.heap.size + 1, 2, none⟩ (.slice x2 s.fo.rv.length z2)).setCell ⟨w.heap.size + 1, 3, none⟩ (.int .i64 s.co)).setCell ⟨w.heap.size + 1, 4, none⟩ (.slice x3 y3 z3)).setCell ⟨w.heap.size + 1, 5, none⟩ (.slice x4 y4 z4)).setCell ⟨w.heap.size + 1, 6, none⟩ (.slice x5 y5 z5)).heap.size := by simp
  have hm1 : w1.heap.size ≤ w4.heap.size := by omega
  clear F1 F2 F3 o1 o2 o3 o4 o5
  go_wp2_with fail
  clear a0 a1 a2 a3 a4 a5 a6 c0 c1 c2 c3 c4 c5 c6 f6 m0 m1 m2 m3 m4 m5 m6 r0 r1 r2 r3 r4 r5 r6 g0 g1 g2 g3 g4 g5 g6
  generalize (((((((w4.setCell ⟨w.heap.size + 1 + 1, 6, none⟩ (.slice x5 y5 z5)).setCell ⟨w.heap.size + 1, 0, none⟩ (.int .i64 s.fo.num)).setCell ⟨w.heap.size + 1, 1, none⟩ (.slice x1 s.fo.pol.length z1)).setCell ⟨w.heap.size + 1, 2, none⟩ (.slice x2 s.fo.rv.length z2)).setCell ⟨w.heap.size + 1, 3, none⟩ (.int .i64 s.co)).setCell ⟨w.heap.size + 1, 4, none⟩ (.slice x3 y3 z3)).setCell ⟨w.heap.size + 1, 5, none⟩ (.slice x4 y4 z4)).setCell ⟨w.heap.size + 1, 6, none⟩ (.slice x5 y5 z5) = W4 at *
  obtain ⟨d0, d1, d2, d3, d4, d5, d6⟩ := G.c
  exact bodyPost_ret (v := .agg #[.int .i64 s.fo.num, .slice x1 s.fo.pol.length z1, .slice x2 s.fo.rv.length z2, .int .i64 s.co, .slice x3 y3 z3, .slice x4 y4 z4, .slice x5 y5 z5]) (by simp [results, Tryz.results19, go_sem, d0, d1, d2, d3, d4, d5, d6]) rfl ⟨_, rfl, ⟨w1.heap.size, _, _, _, _, _, rfl, by omega, by omega, ⟨_, _, rfl, Go.Joins.ownsRow_le p1 hW0, Go.Joins.ownsRow_le p2 hW0, t1, t2⟩, p3, p4, p5, fun k hk => (p3.lt k hk).2, fun k hk => (p4.lt k hk).2, fun k hk => (p5.lt k hk).2⟩, pB⟩

/-- What lies in a side that was marked. -/
def mkSd (k : Nat) (s : Sd) : Sd := ⟨mkSn k s.fo, s.co, mkL (k + s.fo.many) s.ru.length, mkY (k + s.fo.many + 4 * s.ru.length) s.ha.length, mkN (k + s.fo.many + 4 * s.ru.length + s.ha.length) s.se.length⟩
def Sd.many (s : Sd) : Nat := s.fo.many + 4 * s.ru.length + s.ha.length + s.se.length

set_option maxHeartbeats 4000000 in
theorem markSide_any (v : Value) (s : Sd) (k base top : Nat) (w : World) (hs : s.short) (hk : k + s.many ≤ 8000000) (ht : top ≤ w.heap.size) (h : SdO w base top v s) :
    Calls Tryz.prog 23 #[v, .int .i64 k] w fun e w' => e = .returned (.int .i64 ((k + s.many : Nat) : Int)) ∧ SdO w' base top v (mkSd k s) ∧ Mid base top w w' := by
  obtain ⟨m, vp, vr, vu, vh, vs, rfl, hbm, hmt, hS, h3, h4, h5, t1, t2, t3⟩ := h
  obtain ⟨hf, l3, l4, l5, _⟩ := hs
  unfold Sd.many at hk
  obtain ⟨c1, HC1⟩ : ∃ c, Hid (c = k + s.fo.many) := ⟨_, hid rfl⟩
  obtain ⟨c2, HC2⟩ : ∃ c, Hid (c = c1 + 4 * s.ru.length) := ⟨_, hid rfl⟩
  obtain ⟨c3, HC3⟩ : ∃ c, Hid (c = c2 + s.ha.length) := ⟨_, hid rfl⟩
  have hc1 : c1 ≤ 8000000 := by have := HC1.out; omega
  have hc2 : c2 ≤ 8000000 := by have := HC1.out; have := HC2.out; omega
  have hc3 : c3 ≤ 8000000 := by have := HC1.out; have := HC2.out; have := HC3.out; omega
  have hB0 : Below w.heap.size w (w.alloc (.cells #[.int .i64 s.fo.num, vp, vr, .int .i64 s.co, vu, vh, vs] 51)) := (Below.refl _ w).alloc (Nat.le_refl _) _
  have F := Seven.new w (.int .i64 s.fo.num) vp vr (.int .i64 s.co) vu vh vs 51
  replace hS := hS.below hB0
  replace h3 := ownsRow_below h3 hB0
  replace h4 := ownsRow_below h4 hB0
  replace h5 := ownsRow_below h5 hB0
  have M0 : Mid base top w (w.alloc (.cells #[.int .i64 s.fo.num, vp, vr, .int .i64 s.co, vu, vh, vs] 51)) := Mid.of_below hB0
  have htw := hB0.size
  go_enter Tryz.func23, Tryz.ntmps23
  go_wp2_with fail
  clear hB0
  generalize w.alloc (.cells #[.int .i64 s.fo.num, vp, vr, .int .i64 s.co, vu, vh, vs] 51) = W0 at *
  refine (markSnapshot_any _ s.fo k _ _ _ hf (by omega) (by omega) hS).mono ?_
  rintro e w1 ⟨rfl, S1, M1⟩
  rw [← HC1.out]
  replace h3 := M1.row h3 (fun j hj => by have := h3.lt j hj; omega)
  replace h4 := M1.row h4 (fun j hj => by have := h4.lt j hj; omega)
  replace h5 := M1.row h5 (fun j hj => by have := h5.lt j hj; omega)
  replace F := M1.seven F (.inr (by omega))
  have M1' : Mid base top W0 w1 := ⟨M1.os, M1.tape, M1.output, M1.size, fun k hk hn => M1.block k hk (by omega)⟩
  replace M0 := M0.trans M1'
  have hs1 := M1.size
  clear M1 M1' hS
  obtain ⟨a0, a1, a2, a3, a4, a5, a6⟩ := F.c
  go_wp2_with fail
  refine (markRuleS_to vu s.ru.length c1 m _ _ (by omega) (by have := HC1.out; omega) h3).mono ?_
  rintro e w2 ⟨rfl, r3, g3⟩
  rw [← HC2.out]
  have M1 : Mid m top w1 w2 := Mid.of_grown g3 (fun j hj => ⟨(h3.lt j hj).1, t1 j hj⟩)
  replace S1 := M1.sno S1 (.inr (Nat.le_refl _))
  replace h4 := kept_apart h4 g3 (row_apart h4 h3 (by decide))
  replace h5 := kept_apart h5 g3 (row_apart h5 h3 (by decide))
  replace F := M1.seven F (.inr (by omega))
  replace M0 := M0.trans ⟨M1.os, M1.tape, M1.output, M1.size, fun k hk hn => M1.block k hk (by omega)⟩
  have hs2 := M1.size
  clear M1 g3 a0 a1 a2 a3 a4 a5 a6
  obtain ⟨a0, a1, a2, a3, a4, a5, a6⟩ := F.c
  go_wp2_with fail
  refine (markBoolS_to vh s.ha.length c2 m _ _ (by omega) (by have := HC1.out; have := HC2.out; omega) h4).mono ?_
  rintro e w3 ⟨rfl, r4, g4⟩
  rw [← HC3.out]
  have M1 : Mid m top w2 w3 := Mid.of_grown g4 (fun j hj => ⟨(h4.lt j hj).1, t2 j hj⟩)
  replace S1 := M1.sno S1 (.inr (Nat.le_refl _))
  replace r3 := kept_apart r3 g4 (row_apart r3 h4 (by decide))
  replace h5 := kept_apart h5 g4 (row_apart h5 h4 (by decide))
  replace F := M1.seven F (.inr (by omega))
  replace M0 := M0.trans ⟨M1.os, M1.tape, M1.output, M1.size, fun k hk hn => M1.block k hk (by omega)⟩
  have hs3 := M1.size
  clear M1 g4 a0 a1 a2 a3 a4 a5 a6
  obtain ⟨a0, a1, a2, a3, a4, a5, a6⟩ := F.c
  go_wp2_with fail
  refine (markIntS_to vs s.se.length c3 m _ _ (by omega) (by have := HC1.out; have := HC2.out; have := HC3.out; omega) h5).mono ?_
  rintro e w4 ⟨rfl, r5, g5⟩
  have HE := hid (show ((c3 + s.se.length : Nat) : Int) = ((k + s.many : Nat) : Int) by have := HC1.out; have := HC2.out; have := HC3.out; unfold Sd.many; omega)
  rw [HE.out]
  have M1 : Mid m top w3 w4 := Mid.of_grown g5 (fun j hj => ⟨(h5.lt j hj).1, t3 j hj⟩)
  replace S1 := M1.sno S1 (.inr (Nat.le_refl _))
  replace r3 := kept_apart r3 g5 (row_apart r3 h5 (by decide))
  replace r4 := kept_apart r4 g5 (row_apart r4 h5 (by decide))
  replace M0 := M0.trans ⟨M1.os, M1.tape, M1.output, M1.size, fun k hk hn => M1.block k hk (by omega)⟩
  clear M1 g5 a0 a1 a2 a3 a4 a5 a6
  go_wp2_with fail
  go_ret
  refine ⟨rfl, ⟨m, vp, vr, vu, vh, vs, rfl, hbm, hmt, S1, ?_, ?_, ?_, t1, t2, t3⟩, M0⟩
  · show World.ownsRow _ _ _ _ _ (mkL (k + s.fo.many) s.ru.length).length ((mkL (k + s.fo.many) s.ru.length).flatMap Ru.cells)
    rw [mkL_len, ← HC1.out]
    exact r3
  · show World.ownsRow _ _ _ _ _ (mkY (k + s.fo.many + 4 * s.ru.length) s.ha.length).length (bls (mkY (k + s.fo.many + 4 * s.ru.length) s.ha.length))
    rw [mkY_len, ← HC1.out, ← HC2.out]
    exact r4
  · show World.ownsRow _ _ _ _ _ (mkN (k + s.fo.many + 4 * s.ru.length + s.ha.length) s.se.length).length (nums (mkN (k + s.fo.many + 4 * s.ru.length + s.ha.length) s.se.length))
    rw [mkN_len, ← HC1.out, ← HC2.out, ← HC3.out]
    exact r5

set_option maxHeartbeats 4000000 in
theorem heldSide_any (v : Value) (s : Sd) (k : Nat) (w : World) (hs : s.short) (hk : k + s.many ≤ 8000000) (h : SdA w v (mkSd k s)) :
    Calls Tryz.prog 28 #[v, .int .i64 k] w fun e w' => e = .returned (.int .i64 ((k + s.many : Nat) : Int)) ∧ Below w.heap.size w w' := by
  obtain ⟨vp, vr, vu, vh, vs, rfl, h1, h2, h3, h4, h5⟩ := h
  obtain ⟨hf, l3, l4, l5, _⟩ := hs
  unfold Sd.many at hk
  obtain ⟨c1, HC1⟩ : ∃ c, Hid (c = k + s.fo.many) := ⟨_, hid rfl⟩
  obtain ⟨c2, HC2⟩ : ∃ c, Hid (c = c1 + 4 * s.ru.length) := ⟨_, hid rfl⟩
  obtain ⟨c3, HC3⟩ : ∃ c, Hid (c = c2 + s.ha.length) := ⟨_, hid rfl⟩
  have hc1 : c1 ≤ 8000000 := by have := HC1.out; omega
  have hc2 : c2 ≤ 8000000 := by have := HC1.out; have := HC2.out; omega
  have hc3 : c3 ≤ 8000000 := by have := HC1.out; have := HC2.out; have := HC3.out; omega
  have hS : SnA w (.agg #[.int .i64 s.fo.num, vp, vr]) (mkSn k s.fo) := ⟨vp, vr, rfl, h1, h2⟩
  have h3' : RuS w vu (mkL c1 s.ru.length) := by rw [HC1.out]; exact h3
  have h4' : VS w vh (bls (mkY c2 s.ha.length)) := by rw [HC2.out, HC1.out]; exact h4
  have h5' : VS w vs (nums (mkN c3 s.se.length)) := by rw [HC3.out, HC2.out, HC1.out]; exact h5
  have hnx : (mkSd k s).fo.num = s.fo.num := rfl
  have hny : (mkSd k s).co = s.co := rfl
  rw [hnx, hny]
  clear h1 h2 h3 h4 h5 hnx hny
  have hB0 : Below w.heap.size w (w.alloc (.cells #[.int .i64 s.fo.num, vp, vr, .int .i64 s.co, vu, vh, vs] 51)) := (Below.refl _ w).alloc (Nat.le_refl _) _
  have F := Seven.new w (.int .i64 s.fo.num) vp vr (.int .i64 s.co) vu vh vs 51
  go_enter Tryz.func28, Tryz.ntmps28
  go_wp2_with fail
  generalize w.alloc (.cells #[.int .i64 s.fo.num, vp, vr, .int .i64 s.co, vu, vh, vs] 51) = W0 at *
  refine (heldSnapshot_any _ s.fo k _ hf (by omega) (hS.below hB0)).mono ?_
  rintro e w1 ⟨rfl, hB1⟩
  rw [← HC1.out]
  replace F := F.below hB1
  replace hB0 := below_one hB0 hB1
  clear hB1
  obtain ⟨a0, a1, a2, a3, a4, a5, a6⟩ := F.c
  have d1 : decide ((c1 : Int) < 0) = false := by simp
  go_wp2_with fail
  refine (heldRuleS_to vu s.ru.length c1 _ (by omega) (by have := HC1.out; omega) (h3'.below hB0)).mono ?_
  rintro e w2 ⟨rfl, hB2⟩
  rw [← HC2.out]
  replace F := F.below hB2
  replace hB0 := below_one hB0 hB2
  clear hB2 a0 a1 a2 a3 a4 a5 a6
  obtain ⟨a0, a1, a2, a3, a4, a5, a6⟩ := F.c
  have d2 : decide ((c2 : Int) < 0) = false := by simp
  go_wp2_with fail
  refine (heldBoolS_to vh s.ha.length c2 _ (by omega) (by have := HC1.out; have := HC2.out; omega) (h4'.below hB0)).mono ?_
  rintro e w3 ⟨rfl, hB3⟩
  rw [← HC3.out]
  replace F := F.below hB3
  replace hB0 := below_one hB0 hB3
  clear hB3 a0 a1 a2 a3 a4 a5 a6
  obtain ⟨a0, a1, a2, a3, a4, a5, a6⟩ := F.c
  have d3 : decide ((c3 : Int) < 0) = false := by simp
  go_wp2_with fail
  refine (heldIntS_to vs s.se.length c3 _ (by omega) (by have := HC1.out; have := HC2.out; have := HC3.out; omega) (h5'.below hB0)).mono ?_
  rintro e w4 ⟨rfl, hB4⟩
  obtain ⟨c4, HC4⟩ : ∃ c, Hid (c = c3 + s.se.length) := ⟨_, hid rfl⟩
  rw [← HC4.out]
  have d4 : decide ((c4 : Int) < 0) = false := by simp
  go_wp2_with fail
  go_ret
  exact ⟨ret_int (by have := HC1.out; have := HC2.out; have := HC3.out; have := HC4.out; unfold Sd.many; omega), below_one hB0 hB4⟩

end Go.Proofs.YthpckiobfjdckaaGreat
