/-
  Differences in memory: how one that comes in is read, what the laws measure, hand on, hold and mark.
-/
import Derived.Test.YthpckiobfjdckaaGreatSnV
namespace Go.Proofs.YthpckiobfjdckaaGreat
open Go.RowKit Go.Shelf

/-- A difference in memory. -/
def DfA (w : World) (v : Value) (d : Df) : Prop := ∃ vd va vr, v = .agg #[.int .i64 d.fr, .int .i64 d.tt, vd, va, vr] ∧ RuS w vd d.dr ∧ RuS w va d.ad ∧ VS w vr (nums d.rv)
def DfR (w : World) (v : Value) (d : Df) : Prop := ∃ vd va vr, v = .agg #[.int .i64 d.fr, .int .i64 d.tt, vd, va, vr] ∧ RuR w vd d.dr ∧ RuR w va d.ad ∧ NuR w vr d.rv
/-- .. of one's own. -/
def DfO (w : World) (base top : Nat) (v : Value) (d : Df) : Prop :=
  ∃ vd va vr, v = .agg #[.int .i64 d.fr, .int .i64 d.tt, vd, va, vr] ∧ w.ownsRow base 63 4 vd d.dr.length (d.dr.flatMap Ru.cells) ∧ w.ownsRow base 63 4 va d.ad.length (d.ad.flatMap Ru.cells) ∧ w.ownsRow base 3 1 vr d.rv.length (nums d.rv) ∧ (∀ k, vd.ownBlock = some k → k < top) ∧ (∀ k, va.ownBlock = some k → k < top) ∧ (∀ k, vr.ownBlock = some k → k < top) ∧ ∀ k, vd.ownBlock = some k → va.ownBlock = some k → False
theorem DfA.below {w w' : World} {v : Value} {d : Df} (h : DfA w v d) (hB : Below w.heap.size w w') : DfA w' v d := by
  obtain ⟨vd, va, vr, rfl, h1, h2, h3⟩ := h
  exact ⟨_, _, _, rfl, h1.below hB, h2.below hB, h3.below hB⟩
theorem DfR.below {w w' : World} {v : Value} {d : Df} (h : DfR w v d) (hB : Below w.heap.size w w') : DfR w' v d := by
  obtain ⟨vd, va, vr, rfl, h1, h2, h3⟩ := h
  exact ⟨_, _, _, rfl, h1.below hB, h2.below hB, h3.below hB⟩
theorem DfO.below {w w' : World} {base top : Nat} {v : Value} {d : Df} (h : DfO w base top v d) (hB : Below w.heap.size w w') : DfO w' base top v d := by
  obtain ⟨vd, va, vr, rfl, h1, h2, h3, t⟩ := h
  exact ⟨vd, va, vr, rfl, ownsRow_below h1 hB, ownsRow_below h2 hB, ownsRow_below h3 hB, t⟩
theorem DfR.a {w : World} {v : Value} {d : Df} (h : DfR w v d) : DfA w v d := by
  obtain ⟨vd, va, vr, rfl, h1, h2, h3⟩ := h
  exact ⟨_, _, _, rfl, h1.s, h2.s, h3.s⟩
theorem DfO.r {w : World} {base top : Nat} {v : Value} {d : Df} (h : DfO w base top v d) : DfR w v d := by
  obtain ⟨vd, va, vr, rfl, h1, h2, h3, _⟩ := h
  exact ⟨_, _, _, rfl, RuR.own h1, RuR.own h2, NuR.own h3⟩
theorem DfO.a {w : World} {base top : Nat} {v : Value} {d : Df} (h : DfO w base top v d) : DfA w v d := h.r.a
theorem DfO.mono {w : World} {base base' top top' : Nat} {v : Value} {d : Df} (h : DfO w base top v d) (hb : base' ≤ base) (ht : top ≤ top') : DfO w base' top' v d := by
  obtain ⟨vd, va, vr, rfl, h1, h2, h3, t1, t2, t3, t4⟩ := h
  exact ⟨vd, va, vr, rfl, Go.Joins.ownsRow_le h1 hb, Go.Joins.ownsRow_le h2 hb, Go.Joins.ownsRow_le h3 hb, fun k hk => Nat.lt_of_lt_of_le (t1 k hk) ht, fun k hk => Nat.lt_of_lt_of_le (t2 k hk) ht, fun k hk => Nat.lt_of_lt_of_le (t3 k hk) ht, t4⟩
theorem Mid.dfo {lo hi : Nat} {w w1 : World} (h : Mid lo hi w w1) {base top : Nat} {v : Value} {d : Df} (hr : DfO w base top v d) (ho : hi ≤ base ∨ top ≤ lo) : DfO w1 base top v d := by
  obtain ⟨vd, va, vr, rfl, h1, h2, h3, t1, t2, t3, t4⟩ := hr
  exact ⟨vd, va, vr, rfl, h.row h1 (fun k hk => by have := h1.lt k hk; have := t1 k hk; omega), h.row h2 (fun k hk => by have := h2.lt k hk; have := t2 k hk; omega), h.row h3 (fun k hk => by have := h3.lt k hk; have := t3 k hk; omega), t1, t2, t3, t4⟩
theorem DfO.five {w : World} {base top : Nat} {v : Value} {d : Df} (h : DfO w base top v d) {k : Nat} (hk : k < base) (x0 x1 x2 x3 x4 : Value) : DfO (((((w.setCell ⟨k, 0, none⟩ x0).setCell ⟨k, 1, none⟩ x1).setCell ⟨k, 2, none⟩ x2).setCell ⟨k, 3, none⟩ x3).setCell ⟨k, 4, none⟩ x4) base top v d := by
  obtain ⟨vd, va, vr, rfl, h1, h2, h3, t⟩ := h
  exact ⟨vd, va, vr, rfl, row_five h1 hk x0 x1 x2 x3 x4, row_five h2 hk x0 x1 x2 x3 x4, row_five h3 hk x0 x1 x2 x3 x4, t⟩
theorem SnO.three {w : World} {base top : Nat} {v : Value} {s : Sn} (h : SnO w base top v s) {k : Nat} (hk : k < base) (x0 x1 x2 : Value) : SnO (((w.setCell ⟨k, 0, none⟩ x0).setCell ⟨k, 1, none⟩ x1).setCell ⟨k, 2, none⟩ x2) base top v s := by
  obtain ⟨vp, vr, rfl, h1, h2, t⟩ := h
  exact ⟨vp, vr, rfl, row_three h1 hk x0 x1 x2, row_three h2 hk x0 x1 x2, t⟩
/-- A difference with nothing in it. -/
theorem DfO.none (w : World) (base top : Nat) : DfO w base top (.agg #[.int .i64 0, .int .i64 0, .slice none 0 0, .slice none 0 0, .slice none 0 0]) Df.none :=
  ⟨_, _, _, rfl, World.ownsRow_nil _ _ _ _, World.ownsRow_nil _ _ _ _, World.ownsRow_nil _ _ _ _, fun _ h => by simp [Value.ownBlock] at h, fun _ h => by simp [Value.ownBlock] at h, fun _ h => by simp [Value.ownBlock] at h, fun _ h => by simp [Value.ownBlock] at h⟩
theorem SnO.none (w : World) (base top : Nat) : SnO w base top (.agg #[.int .i64 0, .slice none 0 0, .slice none 0 0]) Sn.none :=
  ⟨_, _, rfl, World.ownsRow_nil _ _ _ _, World.ownsRow_nil _ _ _ _, fun _ h => by simp [Value.ownBlock] at h, fun _ h => by simp [Value.ownBlock] at h⟩
def Df.fits (d : Df) : Prop := d.dr.length ≤ maxLen ∧ (∀ r ∈ d.dr, r.fits) ∧ d.ad.length ≤ maxLen ∧ (∀ r ∈ d.ad, r.fits) ∧ d.rv.length ≤ maxLen
def Df.size (d : Df) : Nat := szAll d.dr + szAll d.ad + d.rv.length
def leftD (n : Int) (d : Df) : Int := if (d.size : Int) ≤ n then n - d.size else -1
def Df.short (d : Df) : Prop := d.dr.length ≤ 1048576 ∧ d.ad.length ≤ 1048576 ∧ d.rv.length ≤ 1048576 ∧ (∀ r ∈ d.dr, r.size ≤ 1048576) ∧ ∀ r ∈ d.ad, r.size ≤ 1048576
theorem Df.short_of {d : Df} (h : d.size ≤ 1048576) : d.short := by
  unfold Df.size szAll at h
  exact ⟨by omega, by omega, by omega, fun r hr => by have := sz_mem hr; omega, fun r hr => by have := sz_mem hr; omega⟩
theorem df_forms {w : World} {v : Value} {d : Df} (h : DfA w v d) : ∃ ad cd aa ca ar cr, v = .agg #[.int .i64 d.fr, .int .i64 d.tt, .slice ad d.dr.length cd, .slice aa d.ad.length ca, .slice ar d.rv.length cr] := by
  obtain ⟨vd, va, vr, rfl, h1, h2, h3⟩ := h
  obtain ⟨a1, c1, rfl⟩ := h1.len
  obtain ⟨a2, c2, rfl⟩ := h2.len
  obtain ⟨a3, c3, rfl⟩ := h3.numLen
  exact ⟨_, _, _, _, _, _, rfl⟩

set_option maxHeartbeats 2000000 in
/-- A difference is like itself, wherever the two lie. -/
theorem eqDiff_same (v v' : Value) (d : Df) (w : World) (hs : d.short) (h : DfA w v d) (h' : DfA w v' d) :
    Calls Tryz.prog 13 #[v, v'] w fun e w' => e = .returned (.bool true) ∧ Below w.heap.size w w' := by
  obtain ⟨vd, va, vr, rfl, h1, h2, h3⟩ := h
  obtain ⟨vd', va', vr', rfl, h1', h2', h3'⟩ := h'
  obtain ⟨l1, l2, l3, _, _⟩ := hs
  have hB0 : Below w.heap.size w ((w.alloc (.cells #[.int .i64 d.fr, .int .i64 d.tt, vd, va, vr] 37)).alloc (.cells #[.int .i64 d.fr, .int .i64 d.tt, vd', va', vr'] 37)) := ((Below.refl _ w).alloc (Nat.le_refl _) _).alloc (by simp) _
  have F1 := (Five.new w (.int .i64 d.fr) (.int .i64 d.tt) vd va vr 37).below ((Below.refl _ _).alloc (Nat.le_refl _) (.cells #[.int .i64 d.fr, .int .i64 d.tt, vd', va', vr'] 37))
  have F2 := Five.at (w.alloc (.cells #[.int .i64 d.fr, .int .i64 d.tt, vd, va, vr] 37)) (.int .i64 d.fr) (.int .i64 d.tt) vd' va' vr' 37 (k := w.heap.size + 1) (by simp)
  have e1 : (d.fr != d.fr) = false := by simp
  have e2 : (d.tt != d.tt) = false := by simp
  go_enter Tryz.func13, Tryz.ntmps13
  go_wp2_with fail
  generalize (w.alloc (.cells #[.int .i64 d.fr, .int .i64 d.tt, vd, va, vr] 37)).alloc (.cells #[.int .i64 d.fr, .int .i64 d.tt, vd', va', vr'] 37) = W0 at *
  refine (eqRuleS_any vd vd' d.dr d.dr _ (by omega) (by omega) (h1.below hB0) (h1'.below hB0)).mono ?_
  rintro e w1 ⟨rfl, hB1⟩
  rw [sameS_refl]
  replace F1 := F1.below hB1
  replace F2 := F2.below hB1
  have hBB1 := below_one hB0 hB1
  clear hB1 hB0
  obtain ⟨a0, a1, a2, a3, a4⟩ := F1.c
  obtain ⟨c0, c1, c2, c3, c4⟩ := F2.c
  go_wp2_with fail
  refine (eqRuleS_any va va' d.ad d.ad _ (by omega) (by omega) (h2.below hBB1) (h2'.below hBB1)).mono ?_
  rintro e w2 ⟨rfl, hB2⟩
  rw [sameS_refl]
  replace F1 := F1.below hB2
  replace F2 := F2.below hB2
  have hBB2 := below_one hBB1 hB2
  clear a0 a1 a2 a3 a4 c0 c1 c2 c3 c4 hB2
  obtain ⟨a0, a1, a2, a3, a4⟩ := F1.c
  obtain ⟨c0, c1, c2, c3, c4⟩ := F2.c
  go_wp2_with fail
  refine (eqIntS_same vr vr' d.rv _ (by omega) (h3.below hBB2) (h3'.below hBB2)).mono ?_
  rintro e w3 ⟨rfl, hB3⟩
  have hBB3 := below_one hBB2 hB3
  go_wp2_with fail
  go_ret
  exact ⟨rfl, hBB3⟩

/-- What lies in a difference that was marked. -/
def mkDf (k : Nat) (d : Df) : Df := ⟨d.fr, d.tt, mkL k d.dr.length, mkL (k + 4 * d.dr.length) d.ad.length, mkN (k + 4 * d.dr.length + 4 * d.ad.length) d.rv.length⟩
def Df.many (d : Df) : Nat := 4 * d.dr.length + 4 * d.ad.length + d.rv.length

set_option maxHeartbeats 2000000 in
theorem markDiff_any (v : Value) (d : Df) (k base top : Nat) (w : World) (hs : d.short) (hk : k + d.many ≤ 8000000) (ht : top ≤ w.heap.size) (h : DfO w base top v d) :
    Calls Tryz.prog 15 #[v, .int .i64 k] w fun e w' => e = .returned (.int .i64 ((k + d.many : Nat) : Int)) ∧ DfO w' base top v (mkDf k d) ∧ Mid base top w w' := by
  obtain ⟨vd, va, vr, rfl, h1, h2, h3, t1, t2, t3, t4⟩ := h
  obtain ⟨l1, l2, l3, _, _⟩ := hs
  unfold Df.many at hk
  obtain ⟨c1, HC1⟩ : ∃ c, Hid (c = k + 4 * d.dr.length) := ⟨_, hid rfl⟩
  obtain ⟨c2, HC2⟩ : ∃ c, Hid (c = c1 + 4 * d.ad.length) := ⟨_, hid rfl⟩
  have hc1 : c1 ≤ 8000000 := by have := HC1.out; omega
  have hc2 : c2 ≤ 8000000 := by have := HC1.out; have := HC2.out; omega
  have hB0 : Below w.heap.size w (w.alloc (.cells #[.int .i64 d.fr, .int .i64 d.tt, vd, va, vr] 37)) := (Below.refl _ w).alloc (Nat.le_refl _) _
  have F := Five.new w (.int .i64 d.fr) (.int .i64 d.tt) vd va vr 37
  replace h1 := ownsRow_below h1 hB0
  replace h2 := ownsRow_below h2 hB0
  replace h3 := ownsRow_below h3 hB0
  have M0 : Mid base top w (w.alloc (.cells #[.int .i64 d.fr, .int .i64 d.tt, vd, va, vr] 37)) := Mid.of_below hB0
  go_enter Tryz.func15, Tryz.ntmps15
  go_wp2_with fail
  clear hB0
  generalize w.alloc (.cells #[.int .i64 d.fr, .int .i64 d.tt, vd, va, vr] 37) = W0 at *
  refine (markRuleS_to vd d.dr.length k base _ _ (by omega) (by omega) h1).mono ?_
  rintro e w1 ⟨rfl, r1, g1⟩
  rw [← HC1.out]
  have M1 : Mid base top W0 w1 := Mid.of_grown g1 (fun j hj => ⟨(h1.lt j hj).1, t1 j hj⟩)
  replace h2 := kept_apart h2 g1 (fun k hk hk' => t4 k hk' hk)
  replace h3 := kept_apart h3 g1 (row_apart h3 h1 (by decide))
  replace F := M1.five F (.inr ht)
  replace M0 := M0.trans M1
  clear M1 g1
  obtain ⟨a0, a1, a2, a3, a4⟩ := F.c
  go_wp2_with fail
  refine (markRuleS_to va d.ad.length c1 base _ _ (by omega) (by have := HC1.out; omega) h2).mono ?_
  rintro e w2 ⟨rfl, r2, g2⟩
  rw [← HC2.out]
  have M1 : Mid base top w1 w2 := Mid.of_grown g2 (fun j hj => ⟨(h2.lt j hj).1, t2 j hj⟩)
  replace r1 := kept_apart r1 g2 t4
  replace h3 := kept_apart h3 g2 (row_apart h3 h2 (by decide))
  replace F := M1.five F (.inr ht)
  replace M0 := M0.trans M1
  clear M1 g2 a0 a1 a2 a3 a4
  obtain ⟨a0, a1, a2, a3, a4⟩ := F.c
  go_wp2_with fail
  refine (markIntS_to vr d.rv.length c2 base _ _ (by omega) (by have := HC1.out; have := HC2.out; omega) h3).mono ?_
  rintro e w3 ⟨rfl, r3, g3⟩
  have HE := hid (show ((c2 + d.rv.length : Nat) : Int) = ((k + d.many : Nat) : Int) by have := HC1.out; have := HC2.out; unfold Df.many; omega)
  rw [HE.out]
  have M1 : Mid base top w2 w3 := Mid.of_grown g3 (fun j hj => ⟨(h3.lt j hj).1, t3 j hj⟩)
  replace r1 := kept_apart r1 g3 (row_apart r1 h3 (by decide))
  replace r2 := kept_apart r2 g3 (row_apart r2 h3 (by decide))
  replace M0 := M0.trans M1
  clear M1 g3 a0 a1 a2 a3 a4
  go_wp2_with fail
  go_ret
  refine ⟨rfl, ⟨vd, va, vr, rfl, ?_, ?_, ?_, t1, t2, t3, t4⟩, M0⟩
  · show World.ownsRow _ _ _ _ _ (mkL k d.dr.length).length _
    rw [mkL_len]
    exact r1
  · show World.ownsRow _ _ _ _ _ (mkL (k + 4 * d.dr.length) d.ad.length).length ((mkL (k + 4 * d.dr.length) d.ad.length).flatMap Ru.cells)
    rw [mkL_len, ← HC1.out]
    exact r2
  · show World.ownsRow _ _ _ _ _ (mkN (k + 4 * d.dr.length + 4 * d.ad.length) d.rv.length).length (nums (mkN (k + 4 * d.dr.length + 4 * d.ad.length) d.rv.length))
    rw [mkN_len, ← HC1.out, ← HC2.out]
    exact r3

end Go.Proofs.YthpckiobfjdckaaGreat
