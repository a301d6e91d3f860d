/-
  Proved: at every argument CrashSide answers as the specification, changes nothing, and its answer owns its memory.
-/
import Derived.Test.YthpckiobfjdckaaGreatJCrashSide2
import Derived.Test.YthpckiobfjdckaaGreatJCrashSide3
import Derived.Laws.AppendOwnNone
import Derived.Test.YthpckiobfjdckaaGreatRows
import Derived.WalkKit
import Derived.ProofKit
import Derived.OpenShut
import Derived.ShutString
import Derived.ChangeOld
import Derived.Below
import Derived.Lib.SmallJoins
import Derived.Deep.Slices
namespace Go.Proofs.YthpckiobfjdckaaGreat
open Go.RowKit Go.Shelf

/-- A difference in memory. -/
def DfA (w : World) (v : Value) (d : Df) : Prop := ∃ vd va vr, v = .agg #[.int .i64 d.fr, .int .i64 d.tt, vd, va, vr] ∧ RuS w vd d.dr ∧ RuS w va d.ad ∧ VS w vr (nums d.rv)
def DfR (w : World) (v : Value) (d : Df) : Prop := ∃ vd va vr, v = .agg #[.int .i64 d.fr, .int .i64 d.tt, vd, va, vr] ∧ RuR w vd d.dr ∧ RuR w va d.ad ∧ NuR w vr d.rv
/-- .. of one's own. -/
def DfO (w : World) (base top : Nat) (v : Value) (d : Df) : Prop :=
  ∃ vd va vr, v = .agg #[.int .i64 d.fr, .int .i64 d.tt, vd, va, vr] ∧ w.ownsRow base 63 4 vd d.dr.length (d.dr.flatMap Ru.cells) ∧ w.ownsRow base 63 4 va d.ad.length (d.ad.flatMap Ru.cells) ∧ w.ownsRow base 3 1 vr d.rv.length (nums d.rv) ∧ (∀ k, vd.ownBlock = some k → k < top) ∧ (∀ k, va.ownBlock = some k → k < top) ∧ (∀ k, vr.ownBlock = some k → k < top) ∧ ∀ k, vd.ownBlock = some k → va.ownBlock = some k → False
theorem DfA.below {w w' : World} {v : Value} {d : Df} (h : DfA w v d) (hB : Below w.heap.size w w') : DfA w' v d := by
  obtain ⟨vd, va, vr, rfl, h1, h2, h3⟩ := h
  exact ⟨_, _, _, rfl, h1.below hB, h2.below hB, h3.below hB⟩
theorem DfR.below {w w' : World} {v : Value} {d : Df} (h : DfR w v d) (hB : Below w.heap.size w w') : DfR w' v d := by
  obtain ⟨vd, va, vr, rfl, h1, h2, h3⟩ := h
  exact ⟨_, _, _, rfl, h1.below hB, h2.below hB, h3.below hB⟩
theorem DfO.below {w w' : World} {base top : Nat} {v : Value} {d : Df} (h : DfO w base top v d) (hB : Below w.heap.size w w') : DfO w' base top v d := by
  obtain ⟨vd, va, vr, rfl, h1, h2, h3, t⟩ := h
  exact ⟨vd, va, vr, rfl, ownsRow_below h1 hB, ownsRow_below h2 hB, ownsRow_below h3 hB, t⟩
theorem DfR.a {w : World} {v : Value} {d : Df} (h : DfR w v d) : DfA w v d := by
  obtain ⟨vd, va, vr, rfl, h1, h2, h3⟩ := h
  exact ⟨_, _, _, rfl, h1.s, h2.s, h3.s⟩
theorem DfO.r {w : World} {base top : Nat} {v : Value} {d : Df} (h : DfO w base top v d) : DfR w v d := by
  obtain ⟨vd, va, vr, rfl, h1, h2, h3, _⟩ := h
  exact ⟨_, _, _, rfl, RuR.own h1, RuR.own h2, NuR.own h3⟩
theorem DfO.a {w : World} {base top : Nat} {v : Value} {d : Df} (h : DfO w base top v d) : DfA w v d := h.r.a
theorem DfO.mono {w : World} {base base' top top' : Nat} {v : Value} {d : Df} (h : DfO w base top v d) (hb : base' ≤ base) (ht : top ≤ top') : DfO w base' top' v d := by
  obtain ⟨vd, va, vr, rfl, h1, h2, h3, t1, t2, t3, t4⟩ := h
  exact ⟨vd, va, vr, rfl, Go.Joins.ownsRow_le h1 hb, Go.Joins.ownsRow_le h2 hb, Go.Joins.ownsRow_le h3 hb, fun k hk => Nat.lt_of_lt_of_le (t1 k hk) ht, fun k hk => Nat.lt_of_lt_of_le (t2 k hk) ht, fun k hk => Nat.lt_of_lt_of_le (t3 k hk) ht, t4⟩
theorem Mid.dfo {lo hi : Nat} {w w1 : World} (h : Mid lo hi w w1) {base top : Nat} {v : Value} {d : Df} (hr : DfO w base top v d) (ho : hi ≤ base ∨ top ≤ lo) : DfO w1 base top v d := by
  obtain ⟨vd, va, vr, rfl, h1, h2, h3, t1, t2, t3, t4⟩ := hr
  exact ⟨vd, va, vr, rfl, h.row h1 (fun k hk => by have := h1.lt k hk; have := t1 k hk; omega), h.row h2 (fun k hk => by have := h2.lt k hk; have := t2 k hk; omega), h.row h3 (fun k hk => by have := h3.lt k hk; have := t3 k hk; omega), t1, t2, t3, t4⟩
theorem DfO.five {w : World} {base top : Nat} {v : Value} {d : Df} (h : DfO w base top v d) {k : Nat} (hk : k < base) (x0 x1 x2 x3 x4 : Value) : DfO (((((w.setCell ⟨k, 0, none⟩ x0).setCell ⟨k, 1, none⟩ x1).setCell ⟨k, 2, none⟩ x2).setCell ⟨k, 3, none⟩ x3).setCell ⟨k, 4, none⟩ x4) base top v d := by
  obtain ⟨vd, va, vr, rfl, h1, h2, h3, t⟩ := h
  exact ⟨vd, va, vr, rfl, row_five h1 hk x0 x1 x2 x3 x4, row_five h2 hk x0 x1 x2 x3 x4, row_five h3 hk x0 x1 x2 x3 x4, t⟩
theorem SnO.three {w : World} {base top : Nat} {v : Value} {s : Sn} (h : SnO w base top v s) {k : Nat} (hk : k < base) (x0 x1 x2 : Value) : SnO (((w.setCell ⟨k, 0, none⟩ x0).setCell ⟨k, 1, none⟩ x1).setCell ⟨k, 2, none⟩ x2) base top v s := by
  obtain ⟨vp, vr, rfl, h1, h2, t⟩ := h
  exact ⟨vp, vr, rfl, row_three h1 hk x0 x1 x2, row_three h2 hk x0 x1 x2, t⟩
/-- A difference with nothing in it. -/
theorem DfO.none (w : World) (base top : Nat) : DfO w base top (.agg #[.int .i64 0, .int .i64 0, .slice none 0 0, .slice none 0 0, .slice none 0 0]) Df.none :=
  ⟨_, _, _, rfl, World.ownsRow_nil _ _ _ _, World.ownsRow_nil _ _ _ _, World.ownsRow_nil _ _ _ _, fun _ h => by simp [Value.ownBlock] at h, fun _ h => by simp [Value.ownBlock] at h, fun _ h => by simp [Value.ownBlock] at h, fun _ h => by simp [Value.ownBlock] at h⟩
theorem SnO.none (w : World) (base top : Nat) : SnO w base top (.agg #[.int .i64 0, .slice none 0 0, .slice none 0 0]) Sn.none :=
  ⟨_, _, rfl, World.ownsRow_nil _ _ _ _, World.ownsRow_nil _ _ _ _, fun _ h => by simp [Value.ownBlock] at h, fun _ h => by simp [Value.ownBlock] at h⟩
def Df.fits (d : Df) : Prop := d.dr.length ≤ maxLen ∧ (∀ r ∈ d.dr, r.fits) ∧ d.ad.length ≤ maxLen ∧ (∀ r ∈ d.ad, r.fits) ∧ d.rv.length ≤ maxLen
def Df.size (d : Df) : Nat := szAll d.dr + szAll d.ad + d.rv.length
def leftD (n : Int) (d : Df) : Int := if (d.size : Int) ≤ n then n - d.size else -1
def Df.short (d : Df) : Prop := d.dr.length ≤ 1048576 ∧ d.ad.length ≤ 1048576 ∧ d.rv.length ≤ 1048576 ∧ (∀ r ∈ d.dr, r.size ≤ 1048576) ∧ ∀ r ∈ d.ad, r.size ≤ 1048576
theorem Df.short_of {d : Df} (h : d.size ≤ 1048576) : d.short := by
  unfold Df.size szAll at h
  exact ⟨by omega, by omega, by omega, fun r hr => by have := sz_mem hr; omega, fun r hr => by have := sz_mem hr; omega⟩
theorem df_forms {w : World} {v : Value} {d : Df} (h : DfA w v d) : ∃ ad cd aa ca ar cr, v = .agg #[.int .i64 d.fr, .int .i64 d.tt, .slice ad d.dr.length cd, .slice aa d.ad.length ca, .slice ar d.rv.length cr] := by
  obtain ⟨vd, va, vr, rfl, h1, h2, h3⟩ := h
  obtain ⟨a1, c1, rfl⟩ := h1.len
  obtain ⟨a2, c2, rfl⟩ := h2.len
  obtain ⟨a3, c3, rfl⟩ := h3.numLen
  exact ⟨_, _, _, _, _, _, rfl⟩

set_option maxHeartbeats 2000000 in
/-- A difference is like itself, wherever the two lie. -/
theorem eqDiff_same (v v' : Value) (d : Df) (w : World) (hs : d.short) (h : DfA w v d) (h' : DfA w v' d) :
    Calls Tryz.prog 13 #[v, v'] w fun e w' => e = .returned (.bool true) ∧ Below w.heap.size w w' := by
  obtain ⟨vd, va, vr, rfl, h1, h2, h3⟩ := h
  obtain ⟨vd', va', vr', rfl, h1', h2', h3'⟩ := h'
  obtain ⟨l1, l2, l3, _, _⟩ := hs
  have hB0 : Below w.heap.size w ((w.alloc (.cells #[.int .i64 d.fr, .int .i64 d.tt, vd, va, vr] 37)).alloc (.cells #[.int .i64 d.fr, .int .i64 d.tt, vd', va', vr'] 37)) := ((Below.refl _ w).alloc (Nat.le_refl _) _).alloc (by simp) _
  have F1 := (Five.new w (.int .i64 d.fr) (.int .i64 d.tt) vd va vr 37).below ((Below.refl _ _).alloc (Nat.le_refl _) (.cells #[.int .i64 d.fr, .int .i64 d.tt, vd', va', vr'] 37))
  have F2 := Five.at (w.alloc (.cells #[.int .i64 d.fr, .int .i64 d.tt, vd, va, vr] 37)) (.int .i64 d.fr) (.int .i64 d.tt) vd' va' vr' 37 (k := w.heap.size + 1) (by simp)
  have e1 : (d.fr != d.fr) = false := by simp
  have e2 : (d.tt != d.tt) = false := by simp
  go_enter Tryz.func13, Tryz.ntmps13
  go_wp2_with fail
  generalize (w.alloc (.cells #[.int .i64 d.fr, .int .i64 d.tt, vd, va, vr] 37)).alloc (.cells #[.int .i64 d.fr, .int .i64 d.tt, vd', va', vr'] 37) = W0 at *
  refine (eqRuleS_any vd vd' d.dr d.dr _ (by omega) (by omega) (h1.below hB0) (h1'.below hB0)).mono ?_
  rintro e w1 ⟨rfl, hB1⟩
  rw [sameS_refl]
  replace F1 := F1.below hB1
  replace F2 := F2.below hB1
  have hBB1 := below_one hB0 hB1
  clear hB1 hB0
  obtain ⟨a0, a1, a2, a3, a4⟩ := F1.c
  obtain ⟨c0, c1, c2, c3, c4⟩ := F2.c
  go_wp2_with fail
  refine (eqRuleS_any va va' d.ad d.ad _ (by omega) (by omega) (h2.below hBB1) (h2'.below hBB1)).mono ?_
  rintro e w2 ⟨rfl, hB2⟩
  rw [sameS_refl]
  replace F1 := F1.below hB2
  replace F2 := F2.below hB2
  have hBB2 := below_one hBB1 hB2
  clear a0 a1 a2 a3 a4 c0 c1 c2 c3 c4 hB2
  obtain ⟨a0, a1, a2, a3, a4⟩ := F1.c
  obtain ⟨c0, c1, c2, c3, c4⟩ := F2.c
  go_wp2_with fail
  refine (eqIntS_same vr vr' d.rv _ (by omega) (h3.below hBB2) (h3'.below hBB2)).mono ?_
  rintro e w3 ⟨rfl, hB3⟩
  have hBB3 := below_one hBB2 hB3
  go_wp2_with fail
  go_ret
  exact ⟨rfl, hBB3⟩

/-- What lies in a difference that was marked. -/
def mkDf (k : Nat) (d : Df) : Df := ⟨d.fr, d.tt, mkL k d.dr.length, mkL (k + 4 * d.dr.length) d.ad.length, mkN (k + 4 * d.dr.length + 4 * d.ad.length) d.rv.length⟩
def Df.many (d : Df) : Nat := 4 * d.dr.length + 4 * d.ad.length + d.rv.length

set_option maxHeartbeats 2000000 in
theorem markDiff_any (v : Value) (d : Df) (k base top : Nat) (w : World) (hs : d.short) (hk : k + d.many ≤ 8000000) (ht : top ≤ w.heap.size) (h : DfO w base top v d) :
    Calls Tryz.prog 15 #[v, .int .i64 k] w fun e w' => e = .returned (.int .i64 ((k + d.many : Nat) : Int)) ∧ DfO w' base top v (mkDf k d) ∧ Mid base top w w' := by
  obtain ⟨vd, va, vr, rfl, h1, h2, h3, t1, t2, t3, t4⟩ := h
  obtain ⟨l1, l2, l3, _, _⟩ := hs
  unfold Df.many at hk
  obtain ⟨c1, HC1⟩ : ∃ c, Hid (c = k + 4 * d.dr.length) := ⟨_, hid rfl⟩
  obtain ⟨c2, HC2⟩ : ∃ c, Hid (c = c1 + 4 * d.ad.length) := ⟨_, hid rfl⟩
  have hc1 : c1 ≤ 8000000 := by have := HC1.out; omega
  have hc2 : c2 ≤ 8000000 := by have := HC1.out; have := HC2.out; omega
  have hB0 : Below w.heap.size w (w.alloc (.cells #[.int .i64 d.fr, .int .i64 d.tt, vd, va, vr] 37)) := (Below.refl _ w).alloc (Nat.le_refl _) _
  have F := Five.new w (.int .i64 d.fr) (.int .i64 d.tt) vd va vr 37
  replace h1 := ownsRow_below h1 hB0
  replace h2 := ownsRow_below h2 hB0
  replace h3 := ownsRow_below h3 hB0
  have M0 : Mid base top w (w.alloc (.cells #[.int .i64 d.fr, .int .i64 d.tt, vd, va, vr] 37)) := Mid.of_below hB0
  go_enter Tryz.func15, Tryz.ntmps15
  go_wp2_with fail
  clear hB0
  generalize w.alloc (.cells #[.int .i64 d.fr, .int .i64 d.tt, vd, va, vr] 37) = W0 at *
  refine (markRuleS_to vd d.dr.length k base _ _ (by omega) (by omega) h1).mono ?_
  rintro e w1 ⟨rfl, r1, g1⟩
  rw [← HC1.out]
  have M1 : Mid base top W0 w1 := Mid.of_grown g1 (fun j hj => ⟨(h1.lt j hj).1, t1 j hj⟩)
  replace h2 := kept_apart h2 g1 (fun k hk hk' => t4 k hk' hk)
  replace h3 := kept_apart h3 g1 (row_apart h3 h1 (by decide))
  replace F := M1.five F (.inr ht)
  replace M0 := M0.trans M1
  clear M1 g1
  obtain ⟨a0, a1, a2, a3, a4⟩ := F.c
  go_wp2_with fail
  refine (markRuleS_to va d.ad.length c1 base _ _ (by omega) (by have := HC1.out; omega) h2).mono ?_
  rintro e w2 ⟨rfl, r2, g2⟩
  rw [← HC2.out]
  have M1 : Mid base top w1 w2 := Mid.of_grown g2 (fun j hj => ⟨(h2.lt j hj).1, t2 j hj⟩)
  replace r1 := kept_apart r1 g2 t4
  replace h3 := kept_apart h3 g2 (row_apart h3 h2 (by decide))
  replace F := M1.five F (.inr ht)
  replace M0 := M0.trans M1
  clear M1 g2 a0 a1 a2 a3 a4
  obtain ⟨a0, a1, a2, a3, a4⟩ := F.c
  go_wp2_with fail
  refine (markIntS_to vr d.rv.length c2 base _ _ (by omega) (by have := HC1.out; have := HC2.out; omega) h3).mono ?_
  rintro e w3 ⟨rfl, r3, g3⟩
  have HE := hid (show ((c2 + d.rv.length : Nat) : Int) = ((k + d.many : Nat) : Int) by have := HC1.out; have := HC2.out; unfold Df.many; omega)
  rw [HE.out]
  have M1 : Mid base top w2 w3 := Mid.of_grown g3 (fun j hj => ⟨(h3.lt j hj).1, t3 j hj⟩)
  replace r1 := kept_apart r1 g3 (row_apart r1 h3 (by decide))
  replace r2 := kept_apart r2 g3 (row_apart r2 h3 (by decide))
  replace M0 := M0.trans M1
  clear M1 g3 a0 a1 a2 a3 a4
  go_wp2_with fail
  go_ret
  refine ⟨rfl, ⟨vd, va, vr, rfl, ?_, ?_, ?_, t1, t2, t3, t4⟩, M0⟩
  · show World.ownsRow _ _ _ _ _ (mkL k d.dr.length).length _
    rw [mkL_len]
    exact r1
  · show World.ownsRow _ _ _ _ _ (mkL (k + 4 * d.dr.length) d.ad.length).length ((mkL (k + 4 * d.dr.length) d.ad.length).flatMap Ru.cells)
    rw [mkL_len, ← HC1.out]
    exact r2
  · show World.ownsRow _ _ _ _ _ (mkN (k + 4 * d.dr.length + 4 * d.ad.length) d.rv.length).length (nums (mkN (k + 4 * d.dr.length + 4 * d.ad.length) d.rv.length))
    rw [mkN_len, ← HC1.out, ← HC2.out]
    exact r3

end Go.Proofs.YthpckiobfjdckaaGreat

namespace Go.Proofs.YthpckiobfjdckaaGreat
open Go.RowKit Go.Shelf

end Go.Proofs.YthpckiobfjdckaaGreat

namespace Go.Proofs.YthpckiobfjdckaaGreat
open Go.RowKit Go.Shelf

/-- append(v, u...): a row of one's own, and one that can be read. -/
theorem wpList_append_read {P : Program} {w : World} {ops : Array Oper} {rest : List Oper} {o : Oper} {a : Act} {Q : Exit → Act → World → Prop} (hgd : o.guard = none) (s x : Operand) (t : TypeId)
    (ho : o.op = .call { callee := .builtin .append, args := #[s, x], argTypes := #[t, t] })
    (base : Nat) (e : TypeId) (i : TypeInfo) (z : Value) (size bytes : Nat) (ht : P.underlying t = some (.slice e)) (hi : P.info? e = some i) (hz : i.zero = some z)
    (hsize : i.size = size) (hby : i.bytes = bytes) (hzs : z.cells.size = size) (hsz : 0 < size)
    (v u : Value) (n m : Nat) (xs ys : List Value) (hs : a.eval s = v) (hown : w.ownsRow base e size v n xs) (hx : a.eval x = u)
    (hsrc : (u = .slice none 0 0 ∧ m = 0 ∧ ys = []) ∨ ∃ b off cap, u = .slice (some ⟨b, off, none⟩) m cap ∧ ys.length = m * size ∧ ∀ j y, ys[j]? = some y → w.cell? ⟨b, off + j, none⟩ = some y) (h1 : ∀ y ∈ ys, y.oneCell' = true)
    (h63 : n + m ≤ maxLen) (hbytes : (n + m) * bytes ≤ 140737488355328) (hbase : base ≤ w.heap.size)
    (h : ∀ v' w', w'.ownsRow base e size v' (n + m) (xs ++ ys) → w.grownBy w' v.ownBlock → wpList P ops Q rest (a.put o.dst v') w') : wpList P ops Q (o :: rest) a w := by
  rcases hsrc with ⟨rfl, rfl, rfl⟩ | ⟨b, off, cap, rfl, hl, hc⟩
  · exact wpList_append_own_none hgd s x t ho base e i size ht hi v n xs hs hown hx (h v w (by simpa using hown) (grown_self _ _))
  · exact wpList_append_own _ hgd s x t ho base e i z size bytes ht hi hz hsize hby hzs hsz v n xs hs hown ⟨b, off, none⟩ m cap ys hx hl (fun j y hj => by rw [Addr.add_lit]; exact hc j y hj) h1 h63 hbytes hbase (fun v' w' h1 h2 _ => h v' w' h1 h2)
theorem row_void (w : World) (e : TypeId) (size n : Nat) {base : Nat} (hn : n = w.heap.size) (hb : base ≤ w.heap.size) : (w.alloc (.cells #[] e)).ownsRow base e size (.slice (some ⟨n, 0, none⟩) 0 0) 0 [] := by
  subst hn
  exact ⟨by simp, .inr ⟨w.heap.size, 0, #[], rfl, hb, by show (w.heap.push _)[w.heap.size]? = _; rw [Array.getElem?_push_size], Nat.le_refl _, by unfold maxLen; omega, by simp, by simp⟩⟩
theorem RuR.src {w : World} {v : Value} {rs : List Ru} (h : RuR w v rs) : (v = .slice none 0 0 ∧ rs.length = 0 ∧ rs.flatMap Ru.cells = []) ∨ ∃ b off cap, v = .slice (some ⟨b, off, none⟩) rs.length cap ∧ (rs.flatMap Ru.cells).length = rs.length * 4 ∧ ∀ j y, (rs.flatMap Ru.cells)[j]? = some y → w.cell? ⟨b, off + j, none⟩ = some y := by
  rcases h with ⟨rfl, rfl⟩ | ⟨b, off, cap, rfl, _, _, hc⟩
  · exact .inl ⟨rfl, rfl, rfl⟩
  · exact .inr ⟨b, off, cap, rfl, flat_len rs, RuR.flat hc⟩
theorem NuR.src {w : World} {v : Value} {zs : List Int} (h : NuR w v zs) : (v = .slice none 0 0 ∧ zs.length = 0 ∧ nums zs = []) ∨ ∃ b off cap, v = .slice (some ⟨b, off, none⟩) zs.length cap ∧ (nums zs).length = zs.length * 1 ∧ ∀ j y, (nums zs)[j]? = some y → w.cell? ⟨b, off + j, none⟩ = some y := by
  rcases h with ⟨rfl, rfl⟩ | ⟨b, off, cap, rfl, _, _, hc⟩
  · exact .inl ⟨rfl, rfl, rfl⟩
  · refine .inr ⟨b, off, cap, rfl, by rw [nums_len]; omega, fun j y hy => ?_⟩
    have hj : j < zs.length := by rw [← nums_len]; exact (List.getElem?_eq_some_iff.1 hy).1
    rw [hc j hj]
    simpa [nums, hj] using hy
theorem ones_n {zs : List Int} : ∀ u ∈ nums zs, u.oneCell' = true := by
  intro u hu
  obtain ⟨z, _, rfl⟩ := List.mem_map.1 hu
  rfl

set_option maxHeartbeats 4000000 in
set_option maxRecDepth 100000 in
theorem l5Own_any (v : Value) (s : Sn) (w : World) (hs : s.short) (h : SnR w v s) :
    Calls Tryz.prog 55 #[v] w fun e w' => ∃ v', e = .returned v' ∧ SnO w' w.heap.size w'.heap.size v' s ∧ Below w.heap.size w w' := by
  obtain ⟨vp, vr, rfl, h1, h2⟩ := h
  obtain ⟨l1, l2, _⟩ := hs
  obtain ⟨xp, cp, rfl⟩ := h1.len
  obtain ⟨xr, cr, rfl⟩ := h2.len
  obtain ⟨iw, hiw, hw0, hw1, hw2⟩ := info_parts infoRule
  obtain ⟨ii, hii, hi0, hi1, hi2⟩ := info_parts infoInt
  have hB0 : Below w.heap.size w ((((w.alloc (.cells #[.int .i64 s.num, .slice xp s.pol.length cp, .slice xr s.rv.length cr] 32)).alloc (.cells #[.int .i64 0, .slice none 0 0, .slice none 0 0] 32))).alloc (.cells #[] 63)) := (((Below.refl _ w).alloc (Nat.le_refl _) _).alloc (by simp) _).alloc (by simp; omega) _
  have F1 := ((Three.new w (.int .i64 s.num) (.slice xp s.pol.length cp) (.slice xr s.rv.length cr) 32).below ((Below.refl _ _).alloc (Nat.le_refl _) (.cells #[.int .i64 0, .slice none 0 0, .slice none 0 0] 32))).below ((Below.refl _ _).alloc (Nat.le_refl _) (.cells #[] 63))
  have F2 := (Three.at (w.alloc (.cells #[.int .i64 s.num, .slice xp s.pol.length cp, .slice xr s.rv.length cr] 32)) (.int .i64 0) (.slice none 0 0) (.slice none 0 0) 32 (k := w.heap.size + 1) (by simp)).below ((Below.refl _ _).alloc (Nat.le_refl _) (.cells #[] 63))
  have r0 := row_void ((w.alloc (.cells #[.int .i64 s.num, .slice xp s.pol.length cp, .slice xr s.rv.length cr] 32)).alloc (.cells #[.int .i64 0, .slice none 0 0, .slice none 0 0] 32)) 63 4 (w.heap.size + 1 + 1) (base := w.heap.size + 1 + 1) (by simp) (by simp)
  have hbz : w.heap.size + 1 + 1 ≤ (((w.alloc (.cells #[.int .i64 s.num, .slice xp s.pol.length cp, .slice xr s.rv.length cr] 32)).alloc (.cells #[.int .i64 0, .slice none 0 0, .slice none 0 0] 32)).alloc (.cells #[] 63)).heap.size := by simp
  go_enter Tryz.func55, Tryz.ntmps55
  go_wp2_with (at_builtin; refine wpList_append_read rfl _ _ 30 rfl (w.heap.size + 1 + 1) 63 iw _ 4 56 Tryz.underlying30 hiw hw0 hw1 hw2 rfl (by decide) _ _ 0 s.pol.length [] _ rfl r0 rfl (h1.below hB0).src cells_one (by unfold maxLen; omega) (by omega) hbz ?_)
  intro v1 w1 o1 g1
  obtain ⟨x1, y1, z1, rfl⟩ := row_slice o1
  replace F1 : Three w1 _ _ _ _ _ := World.ownsRow.kept F1 g1 (.inr (by simp [Value.ownBlock] <;> omega))
  replace F2 : Three w1 _ _ _ _ _ := World.ownsRow.kept F2 g1 (.inr (by simp [Value.ownBlock] <;> omega))
  have hBB1 : Below w.heap.size w w1 := hB0.grown g1 hB0.size (fun k e => by simp [Value.ownBlock] at e; omega)
  have hk1 : w.heap.size + 1 + 1 ≤ w1.heap.size := Nat.le_trans hbz g1.size
  clear hB0 g1 r0 hbz
  have hBc : Below (w1.setCell ⟨w.heap.size, 1, none⟩ (.slice x1 y1 z1)).heap.size (w1.setCell ⟨w.heap.size, 1, none⟩ (.slice x1 y1 z1)) ((w1.setCell ⟨w.heap.size, 1, none⟩ (.slice x1 y1 z1)).alloc (.cells #[] 3)) := (Below.refl _ _).alloc (Nat.le_refl _) _
  obtain ⟨a0, a1, a2⟩ := F1.c
  have f1 := F1.f 1
  have G1 := (F1.s1 (.slice x1 y1 z1)).below hBc
  have G2 := (F2.other (k' := w.heap.size) (by omega) 1 (.slice x1 y1 z1)).below hBc
  have q1 := (ownsRow_setCell_below o1 (a := ⟨w.heap.size, 1, none⟩) (by simp; omega) (.slice x1 y1 z1)).alloc (.cells #[] 3)
  have r1 := row_void (w1.setCell ⟨w.heap.size, 1, none⟩ (.slice x1 y1 z1)) 3 1 w1.heap.size (base := w1.heap.size) (by simp) (by simp)
  have hBB2 := (hBB1.setCell (p := ⟨w.heap.size, 1, none⟩) (by simp) (.slice x1 y1 z1)).trans (hBc.mono (by simp; have := hBB1.size; omega))
  have hbz2 : w1.heap.size ≤ ((w1.setCell ⟨w.heap.size, 1, none⟩ (.slice x1 y1 z1)).alloc (.cells #[] 3)).heap.size := by simp
  clear F1 F2 hBc
  obtain ⟨n0, n1, n2⟩ := G1.c
  go_wp2_with (at_builtin; refine wpList_append_read rfl _ _ 23 rfl w1.heap.size 3 ii _ 1 8 Tryz.underlying23 hii hi0 hi1 hi2 rfl (by decide) _ _ 0 s.rv.length [] _ rfl r1 rfl (h2.below hBB2).src ones_n (by unfold maxLen; omega) (by omega) hbz2 ?_)
  intro v2 w2 o2 g2
  obtain ⟨x2, y2, z2, rfl⟩ := row_slice o2
  replace G1 : Three w2 _ _ _ _ _ := World.ownsRow.kept G1 g2 (.inr (by simp [Value.ownBlock] <;> omega))
  replace G2 : Three w2 _ _ _ _ _ := World.ownsRow.kept G2 g2 (.inr (by simp [Value.ownBlock] <;> omega))
  have p1 := kept_apart (v2 := .slice (some ⟨w1.heap.size, 0, none⟩) 0 0) q1 g2 (row_apart q1 r1 (by decide))
  have hBB3 : Below w.heap.size w w2 := hBB2.grown g2 hBB2.size (fun k e => by simp [Value.ownBlock] at e; omega)
  have hk2 : w1.heap.size ≤ w2.heap.size := Nat.le_trans hbz2 g2.size
  clear hBB2 g2 r1 hbz2 q1 a0 a1 a2 f1 n0 n1 n2
  obtain ⟨a0, a1, a2⟩ := G1.c
  have f2 := G1.f 2
  have F1' := G1.s2 (.slice x2 y2 z2)
  have F2' := G2.other (k' := w.heap.size) (by omega) 2 (.slice x2 y2 z2)
  have q1 := ownsRow_setCell_below p1 (a := ⟨w.heap.size, 2, none⟩) (by simp; omega) (.slice x2 y2 z2)
  have q2 := ownsRow_setCell_below o2 (a := ⟨w.heap.size, 2, none⟩) (by simp; omega) (.slice x2 y2 z2)
  have hBB4 := hBB3.setCell (p := ⟨w.heap.size, 2, none⟩) (by simp) (.slice x2 y2 z2)
  obtain ⟨b0, b1, b2⟩ := F1'.c
  obtain ⟨e0, e1, e2⟩ := F2'.c
  have k0 := F2'.f 0
  have k1 := F2'.f 1
  have k2 := F2'.f 2
  have G := ((F2'.s0 (.int .i64 s.num)).s1 (.slice x1 y1 z1)).s2 (.slice x2 y2 z2)
  have m1 := row_three q1 (k := w.heap.size + 1) (by omega) (.int .i64 s.num) (.slice x1 y1 z1) (.slice x2 y2 z2)
  have m2 := row_three q2 (k := w.heap.size + 1) (by omega) (.int .i64 s.num) (.slice x1 y1 z1) (.slice x2 y2 z2)
  have pB := below_three hBB4 (k := w.heap.size + 1) (by omega) (.int .i64 s.num) (.slice x1 y1 z1) (.slice x2 y2 z2)
  go_wp2_with fail
  clear a0 a1 a2 f2 b0 b1 b2 e0 e1 e2 k0 k1 k2
  generalize (((w2.setCell ⟨w.heap.size, 2, none⟩ (.slice x2 y2 z2)).setCell ⟨w.heap.size + 1, 0, none⟩ (.int .i64 s.num)).setCell ⟨w.heap.size + 1, 1, none⟩ (.slice x1 y1 z1)).setCell ⟨w.heap.size + 1, 2, none⟩ (.slice x2 y2 z2) = W5 at *
  obtain ⟨d0, d1, d2⟩ := G.c
  exact bodyPost_ret (v := .agg #[.int .i64 s.num, .slice x1 y1 z1, .slice x2 y2 z2]) (by simp [results, Tryz.results55, go_sem, d0, d1, d2]) rfl ⟨_, rfl, SnO.of (Go.Joins.ownsRow_le m1 (by omega)) (Go.Joins.ownsRow_le m2 (by omega)), pB⟩

end Go.Proofs.YthpckiobfjdckaaGreat

namespace Go.Proofs.YthpckiobfjdckaaGreat
open Go.RowKit Go.Shelf

set_option maxHeartbeats 4000000 in
set_option maxRecDepth 100000 in
theorem copySnapshot_any (v : Value) (s : Sn) (w : World) (hs : s.short) (h : SnR w v s) :
    Calls Tryz.prog 56 #[v] w fun e w' => ∃ v', e = .returned v' ∧ SnO w' w.heap.size w'.heap.size v' s ∧ Below w.heap.size w w' := by
  obtain ⟨vp, vr, rfl, h1, h2⟩ := h
  obtain ⟨l1, l2, _⟩ := hs
  obtain ⟨xp, cp, rfl⟩ := h1.len
  obtain ⟨xr, cr, rfl⟩ := h2.len
  have hBB : Below w.heap.size w ((w.alloc (.cells #[.int .i64 s.num, .slice xp s.pol.length cp, .slice xr s.rv.length cr] 32)).alloc (.cells #[.int .i64 0, .slice none 0 0, .slice none 0 0] 32)) := ((Below.refl _ w).alloc (Nat.le_refl _) _).alloc (by simp) _
  have F1 := (Three.new w (.int .i64 s.num) (.slice xp s.pol.length cp) (.slice xr s.rv.length cr) 32).below ((Below.refl _ _).alloc (Nat.le_refl _) (.cells #[.int .i64 0, .slice none 0 0, .slice none 0 0] 32))
  have F2 := Three.at (w.alloc (.cells #[.int .i64 s.num, .slice xp s.pol.length cp, .slice xr s.rv.length cr] 32)) (.int .i64 0) (.slice none 0 0) (.slice none 0 0) 32 (k := w.heap.size + 1) (by simp)
  have n01 : w.heap.size ≠ w.heap.size + 1 := by omega
  have n10 : w.heap.size + 1 ≠ w.heap.size := by omega
  go_enter Tryz.func56, Tryz.ntmps56
  go_wp2_with fail
  generalize (w.alloc (.cells #[.int .i64 s.num, .slice xp s.pol.length cp, .slice xr s.rv.length cr] 32)).alloc (.cells #[.int .i64 0, .slice none 0 0, .slice none 0 0] 32) = W0 at *
  obtain ⟨a0, a1, a2⟩ := F1.c
  refine wp_region_held_drew (S := fun w' => w'.cell? ⟨w.heap.size, 0, none⟩ = some (.int .i64 s.num) ∧ w'.cell? ⟨w.heap.size, 1, none⟩ = some (.slice xp s.pol.length cp) ∧ w'.cell? ⟨w.heap.size, 2, none⟩ = some (.slice xr s.rv.length cr)) (by kernel_rfl) ?_ (fun hHeld => ?_)
  · go_keep
  refine takeW 0 (v := ?v1) rfl (by kernel_rfl) (by kernel_rfl) (by kernel_rfl) (fun _ _ _ h => h) (by rfl) (by assumption) ?hy1 ?rest1
  case hy1 => intro w' hSw; (try dsimp only at hSw); go_simp; try with_reducible rfl
  try simp only [Act.put, List.setIfInBounds_toArray, List.set_cons_zero, List.set_cons_succ]
  refine takeW 1 (v := ?v2) rfl (by kernel_rfl) (by kernel_rfl) (by kernel_rfl) (fun _ _ _ h => h) (by rfl) (by assumption) ?hy2 ?rest2
  case hy2 => intro w' hSw; (try dsimp only at hSw); go_simp; try with_reducible rfl
  try simp only [Act.put, List.setIfInBounds_toArray, List.set_cons_zero, List.set_cons_succ]
  refine takeW 2 (v := ?v3) rfl (by kernel_rfl) (by kernel_rfl) (by kernel_rfl) (fun _ _ _ h => h) (by rfl) (by assumption) ?hy3 ?rest3
  case hy3 => intro w' hSw; (try dsimp only at hSw); go_simp; try with_reducible rfl
  try simp only [Act.put, List.setIfInBounds_toArray, List.set_cons_zero, List.set_cons_succ]
  refine takeW 3 (v := ?v4) rfl (by kernel_rfl) (by kernel_rfl) (by kernel_rfl) (fun _ _ _ h => h) (by rfl) (by assumption) ?hy4 ?rest4
  case hy4 => intro w' hSw; (try dsimp only at hSw); go_simp; try with_reducible rfl
  try simp only [Act.put, List.setIfInBounds_toArray, List.set_cons_zero, List.set_cons_succ]
  refine takeW 5 (v := ?v5) rfl (by kernel_rfl) (by kernel_rfl) (by kernel_rfl) (fun _ _ _ h => h) (by rfl) (by assumption) ?hy5 ?rest5
  case hy5 => intro w' hSw; (try dsimp only at hSw); go_simp; try with_reducible rfl
  try simp only [Act.put, List.setIfInBounds_toArray, List.set_cons_zero, List.set_cons_succ]
  refine takeW 6 (v := ?v6) rfl (by kernel_rfl) (by kernel_rfl) (by kernel_rfl) (fun _ _ _ h => h) (by rfl) (by assumption) ?hy6 ?rest6
  case hy6 => intro w' hSw; (try dsimp only at hSw); go_simp; try with_reducible rfl
  try simp only [Act.put, List.setIfInBounds_toArray, List.set_cons_zero, List.set_cons_succ]
  refine takeC 4 (by kernel_rfl) rfl (fun K hK => ?_)
  go_simp
  refine (cloneRu_any _ s.pol _ (by omega) (by exact (h1.below hBB).below (Below.refl _ _).drew)).mono ?_; rintro e w4 ⟨u4, rfl, o4, _, hB4⟩; obtain ⟨x4, y4, z4, rfl⟩ := row_slice o4; have hD4 : Below W0.heap.size W0 w4 := below_drew1 hB4; have hc4 := fun o => hB4.cell (p := ⟨w.heap.size, o, none⟩) (by exact F1.lt); have G1 : Three w4 _ _ _ _ _ := F1.below hD4; have G2 : Three w4 _ _ _ _ _ := F2.below hD4; have hBB4 := below_one hBB hD4
  refine hK.out _ _ ?_ (fun hHeld => ?_)
  · go_keep
  clear hK K
  try simp only [Act.put, List.setIfInBounds_toArray, List.set_cons_zero, List.set_cons_succ]
  refine takeC 7 (by kernel_rfl) rfl (fun K hK => ?_)
  go_simp
  refine (cloneNu_any _ s.rv _ (by omega) (h2.below hBB4)).mono ?_; rintro e w5 ⟨u5, rfl, o5, hB5⟩; obtain ⟨x5, y5, z5, rfl⟩ := row_slice o5; have hc5 := fun o => hB5.cell (p := ⟨w.heap.size, o, none⟩) (by exact G1.lt); have H2 := G2.below hB5; have hBB5 := below_one hBB4 hB5; have o4' := ownsRow_below o4 hB5; obtain ⟨r0, r1, r2⟩ := H2.c; have f0 := H2.f 0; have f1 := H2.f 1; have f2 := H2.f 2
  refine hK.out _ _ ?_ (fun hHeld => ?_)
  · go_keep
  clear hK K
  try simp only [Act.put, List.setIfInBounds_toArray, List.set_cons_zero, List.set_cons_succ]
  refine takeW 8 (v := ?v7) rfl (by kernel_rfl) (by kernel_rfl) (by kernel_rfl) (fun _ _ _ h => h) (by rfl) (by assumption) ?hy7 ?rest7
  case hy7 => intro w' hSw; (try dsimp only at hSw); go_simp; try with_reducible rfl
  try simp only [Act.put, List.setIfInBounds_toArray, List.set_cons_zero, List.set_cons_succ]
  refine takeC 9 (by kernel_rfl) rfl (fun K hK => ?_)
  go_simp
  skip
  refine hK.out _ _ ?_ (fun hHeld => ?_)
  · go_keep
  clear hK K
  try simp only [Act.put, List.setIfInBounds_toArray, List.set_cons_zero, List.set_cons_succ]
  refine wpAnyH_done (by kernel_rfl) ?_ _
  have G := ((H2.s0 (.int .i64 s.num)).s1 (.slice x4 y4 z4)).s2 (.slice x5 y5 z5)
  have q4 := row_three o4' (k := w.heap.size + 1) F2.lt (.int .i64 s.num) (.slice x4 y4 z4) (.slice x5 y5 z5)
  have q5 := row_three o5 (k := w.heap.size + 1) G2.lt (.int .i64 s.num) (.slice x4 y4 z4) (.slice x5 y5 z5)
  have pB := below_three hBB5 (k := w.heap.size + 1) (by omega) (.int .i64 s.num) (.slice x4 y4 z4) (.slice x5 y5 z5)
  have s3 := hBB.size
  have s4 := hBB4.size
  go_wp2_with fail
  clear r0 r1 r2 f0 f1 f2 hHeld hc4 hc5
  generalize ((w5.setCell ⟨w.heap.size + 1, 0, none⟩ (.int .i64 s.num)).setCell ⟨w.heap.size + 1, 1, none⟩ (.slice x4 y4 z4)).setCell ⟨w.heap.size + 1, 2, none⟩ (.slice x5 y5 z5) = W9 at *
  obtain ⟨d0, d1, d2⟩ := G.c
  exact bodyPost_ret (v := .agg #[.int .i64 s.num, .slice x4 y4 z4, .slice x5 y5 z5]) (by simp [results, Tryz.results56, go_sem, d0, d1, d2]) rfl ⟨_, rfl, SnO.of (Go.Joins.ownsRow_le q4 s3) (Go.Joins.ownsRow_le q5 s4), pB⟩

end Go.Proofs.YthpckiobfjdckaaGreat

namespace Go.Proofs.YthpckiobfjdckaaGreat
open Go.RowKit Go.Shelf

def crX (s : Sd) : Sd := if sdB s = true then ⟨s.fo, 0, [], [], []⟩ else Sd.none
theorem crX_no {s : Sd} (h : sdB s = false) : crX s = Sd.none := if_neg (by rw [h]; exact Bool.false_ne_true)
theorem crX_yes {s : Sd} (h : sdB s = true) : crX s = ⟨s.fo, 0, [], [], []⟩ := if_pos h
theorem crX_short {s : Sd} (h : s.short) : (crX s).short := by
  unfold crX
  split
  · exact ⟨h.1, Nat.zero_le _, Nat.zero_le _, Nat.zero_le _, fun r hr => by cases hr⟩
  · exact ⟨⟨Nat.zero_le _, Nat.zero_le _, fun r hr => by cases hr⟩, Nat.zero_le _, Nat.zero_le _, Nat.zero_le _, fun r hr => by cases hr⟩
theorem crX_many (s : Sd) : (crX s).many ≤ s.many := by
  unfold crX
  split
  · simp [Sd.many]; omega
  · simp [Sd.many, Sd.none, Sn.many, Sn.none]

set_option maxHeartbeats 4000000 in
set_option maxRecDepth 100000 in
theorem specCrash_any (v : Value) (s : Sd) (w : World) (hs : s.short) (h : SdR w v s) :
    Calls Tryz.prog 26 #[v] w fun e w' => ∃ v', e = .returned (.tuple #[v', .bool (sdB s)]) ∧ SdO w' w.heap.size w'.heap.size v' (crX s) ∧ Below w.heap.size w w' := by
  have h' := h
  obtain ⟨vp, vr, vu, vh, vs, rfl, h1, h2, h3, h4, h5⟩ := h
  have hs' := hs
  obtain ⟨hf, l3, l4, l5, lr⟩ := hs
  obtain ⟨ap, cp, rfl⟩ := h1.len
  obtain ⟨ar, cr, rfl⟩ := h2.len
  obtain ⟨au, cu, rfl⟩ := h3.len
  obtain ⟨ah, ch, rfl⟩ := h4.s.bolLen
  obtain ⟨ai, ci, rfl⟩ := h5.len
  have hB0 : Below w.heap.size w ((w.alloc (.cells #[.int .i64 s.fo.num, .slice ap s.fo.pol.length cp, .slice ar s.fo.rv.length cr, .int .i64 s.co, .slice au s.ru.length cu, .slice ah s.ha.length ch, .slice ai s.se.length ci] 51)).alloc (.cells #[.int .i64 0, .slice none 0 0, .slice none 0 0, .int .i64 0, .slice none 0 0, .slice none 0 0, .slice none 0 0] 51)) := ((Below.refl _ w).alloc (Nat.le_refl _) _).alloc (by simp) _
  have F := (Seven.new w (.int .i64 s.fo.num) (.slice ap s.fo.pol.length cp) (.slice ar s.fo.rv.length cr) (.int .i64 s.co) (.slice au s.ru.length cu) (.slice ah s.ha.length ch) (.slice ai s.se.length ci) 51).below ((Below.refl _ _).alloc (Nat.le_refl _) (.cells #[.int .i64 0, .slice none 0 0, .slice none 0 0, .int .i64 0, .slice none 0 0, .slice none 0 0, .slice none 0 0] 51))
  have F2 := Seven.at (w.alloc (.cells #[.int .i64 s.fo.num, .slice ap s.fo.pol.length cp, .slice ar s.fo.rv.length cr, .int .i64 s.co, .slice au s.ru.length cu, .slice ah s.ha.length ch, .slice ai s.se.length ci] 51)) (.int .i64 0) (.slice none 0 0) (.slice none 0 0) (.int .i64 0) (.slice none 0 0) (.slice none 0 0) (.slice none 0 0) 51 (k := w.heap.size + 1) (by simp)
  go_enter Tryz.func26, Tryz.ntmps26
  go_wp2_with fail
  generalize (w.alloc (.cells #[.int .i64 s.fo.num, .slice ap s.fo.pol.length cp, .slice ar s.fo.rv.length cr, .int .i64 s.co, .slice au s.ru.length cu, .slice ah s.ha.length ch, .slice ai s.se.length ci] 51)).alloc (.cells #[.int .i64 0, .slice none 0 0, .slice none 0 0, .int .i64 0, .slice none 0 0, .slice none 0 0, .slice none 0 0] 51) = W0 at *
  refine (specGoodSide_any _ s _ hs' (h'.below hB0).a).mono ?_
  rintro e w1 ⟨rfl, hB1⟩
  replace F := F.below hB1
  replace F2 := F2.below hB1
  replace hB0 := below_one hB0 hB1
  clear hB1
  have hb := hB0.size
  have hk0 := F2.lt
  cases hg : sdB s
  case false =>
    have HR := hid (crX_no hg)
    have HG := hid hg
    obtain ⟨r0, r1, r2, r3, r4, r5, r6⟩ := F2.c
    have f0 := F2.f 0
    have f1 := F2.f 1
    have f2 := F2.f 2
    have f3 := F2.f 3
    have f4 := F2.f 4
    have f5 := F2.f 5
    have f6 := F2.f 6
    have G := (((((((F2.s0 (.int .i64 0)).s1 (.slice none 0 0)).s2 (.slice none 0 0)).s3 (.int .i64 0)).s4 (.slice none 0 0)).s5 (.slice none 0 0)).s6 (.slice none 0 0))
    have pB := below_seven hB0 (k := w.heap.size + 1) (by omega) (.int .i64 0) (.slice none 0 0) (.slice none 0 0) (.int .i64 0) (.slice none 0 0) (.slice none 0 0) (.slice none 0 0)
    go_wp2_with fail
    clear r0 r1 r2 r3 r4 r5 r6 f0 f1 f2 f3 f4 f5 f6
    generalize ((((((w1.setCell ⟨w.heap.size + 1, 0, none⟩ (.int .i64 0)).setCell ⟨w.heap.size + 1, 1, none⟩ (.slice none 0 0)).setCell ⟨w.heap.size + 1, 2, none⟩ (.slice none 0 0)).setCell ⟨w.heap.size + 1, 3, none⟩ (.int .i64 0)).setCell ⟨w.heap.size + 1, 4, none⟩ (.slice none 0 0)).setCell ⟨w.heap.size + 1, 5, none⟩ (.slice none 0 0)).setCell ⟨w.heap.size + 1, 6, none⟩ (.slice none 0 0) = W9 at *
    obtain ⟨d0, d1, d2, d3, d4, d5, d6⟩ := G.c
    exact bodyPost_ret (v := .tuple #[.agg #[.int .i64 0, .slice none 0 0, .slice none 0 0, .int .i64 0, .slice none 0 0, .slice none 0 0, .slice none 0 0], .bool false]) (by simp [results, Tryz.results26, go_sem, d0, d1, d2, d3, d4, d5, d6]) rfl ⟨_, by rw [HG.out], by rw [HR.out]; exact SdO.none _ _ _ (by have := pB.size; omega), pB⟩
  have HR := hid (crX_yes hg)
  have HG := hid hg
  clear hg
  obtain ⟨a0, a1, a2, a3, a4, a5, a6⟩ := F.c
  go_wp2_with fail
  refine (l5Own_any _ s.fo _ hf ((h'.below hB0).fo)).mono ?_
  rintro e w2 ⟨v2, rfl, O2, hB2⟩
  obtain ⟨x1, z1, x2, z2, rfl⟩ := sn_forms O2.a
  replace F2 := F2.below hB2
  replace hB0 := below_one hB0 hB2
  have hb2 := hB2.size
  have hk2 : w.heap.size + 1 < w1.heap.size := hk0
  clear a0 a1 a2 a3 a4 a5 a6
  obtain ⟨r0, r1, r2, r3, r4, r5, r6⟩ := F2.c
  have f0 := F2.f 0
  have f1 := F2.f 1
  have f2 := F2.f 2
  have f3 := F2.f 3
  have f4 := F2.f 4
  have f5 := F2.f 5
  have f6 := F2.f 6
  have G := (((((((F2.s0 (.int .i64 s.fo.num)).s1 (.slice x1 s.fo.pol.length z1)).s2 (.slice x2 s.fo.rv.length z2)).s3 (.int .i64 0)).s4 (.slice none 0 0)).s5 (.slice none 0 0)).s6 (.slice none 0 0))
  have pB := below_seven hB0 (k := w.heap.size + 1) (by omega) (.int .i64 s.fo.num) (.slice x1 s.fo.pol.length z1) (.slice x2 s.fo.rv.length z2) (.int .i64 0) (.slice none 0 0) (.slice none 0 0) (.slice none 0 0)
  obtain ⟨_, _, ee, o1, o2, t1, t2⟩ := O2
  cases ee
  have q1 := row_seven o1 (k := w.heap.size + 1) hk2 (.int .i64 s.fo.num) (.slice x1 s.fo.pol.length z1) (.slice x2 s.fo.rv.length z2) (.int .i64 0) (.slice none 0 0) (.slice none 0 0) (.slice none 0 0)
  have q2 := row_seven o2 (k := w.heap.size + 1) hk2 (.int .i64 s.fo.num) (.slice x1 s.fo.pol.length z1) (.slice x2 s.fo.rv.length z2) (.int .i64 0) (.slice none 0 0) (.slice none 0 0) (.slice none 0 0)
  have hse : w2.heap.size ≤ (((((((w2.setCell ⟨w.heap.size + 1, 0, none⟩ (.int .i64 s.fo.num)).setCell ⟨w.heap.size + 1, 1, none⟩ (.slice x1 s.fo.pol.length z1)).setCell ⟨w.heap.size + 1, 2, none⟩ (.slice x2 s.fo.rv.length z2)).setCell ⟨w.heap.size + 1, 3, none⟩ (.int .i64 0)).setCell ⟨w.heap.size + 1, 4, none⟩ (.slice none 0 0)).setCell ⟨w.heap.size + 1, 5, none⟩ (.slice none 0 0)).setCell ⟨w.heap.size + 1, 6, none⟩ (.slice none 0 0)).heap.size := by simp
  go_wp2_with fail
  clear r0 r1 r2 r3 r4 r5 r6 f0 f1 f2 f3 f4 f5 f6
  generalize ((((((w2.setCell ⟨w.heap.size + 1, 0, none⟩ (.int .i64 s.fo.num)).setCell ⟨w.heap.size + 1, 1, none⟩ (.slice x1 s.fo.pol.length z1)).setCell ⟨w.heap.size + 1, 2, none⟩ (.slice x2 s.fo.rv.length z2)).setCell ⟨w.heap.size + 1, 3, none⟩ (.int .i64 0)).setCell ⟨w.heap.size + 1, 4, none⟩ (.slice none 0 0)).setCell ⟨w.heap.size + 1, 5, none⟩ (.slice none 0 0)).setCell ⟨w.heap.size + 1, 6, none⟩ (.slice none 0 0) = W9 at *
  obtain ⟨d0, d1, d2, d3, d4, d5, d6⟩ := G.c
  exact bodyPost_ret (v := .tuple #[.agg #[.int .i64 s.fo.num, .slice x1 s.fo.pol.length z1, .slice x2 s.fo.rv.length z2, .int .i64 0, .slice none 0 0, .slice none 0 0, .slice none 0 0], .bool true]) (by simp [results, Tryz.results26, go_sem, d0, d1, d2, d3, d4, d5, d6]) rfl ⟨_, by rw [HG.out], by rw [HR.out]; exact ⟨w2.heap.size, _, _, _, _, _, rfl, by omega, hse, ⟨_, _, rfl, Go.Joins.ownsRow_le q1 hb, Go.Joins.ownsRow_le q2 hb, t1, t2⟩, World.ownsRow_nil _ _ _ _, World.ownsRow_nil _ _ _ _, World.ownsRow_nil _ _ _ _, fun _ h => by simp [Value.ownBlock] at h, fun _ h => by simp [Value.ownBlock] at h, fun _ h => by simp [Value.ownBlock] at h⟩, pB⟩

set_option maxHeartbeats 4000000 in
set_option maxRecDepth 100000 in
theorem implCrash_any (v : Value) (s : Sd) (w : World) (hs : s.short) (h : SdR w v s) :
    Calls Tryz.prog 27 #[v] w fun e w' => ∃ v', e = .returned (.tuple #[v', .bool (sdB s)]) ∧ SdO w' w.heap.size w'.heap.size v' (crX s) ∧ Below w.heap.size w w' := by
  have h' := h
  obtain ⟨vp, vr, vu, vh, vs, rfl, h1, h2, h3, h4, h5⟩ := h
  have hs' := hs
  obtain ⟨hf, l3, l4, l5, lr⟩ := hs
  obtain ⟨ap, cp, rfl⟩ := h1.len
  obtain ⟨ar, cr, rfl⟩ := h2.len
  obtain ⟨au, cu, rfl⟩ := h3.len
  obtain ⟨ah, ch, rfl⟩ := h4.s.bolLen
  obtain ⟨ai, ci, rfl⟩ := h5.len
  have hB0 : Below w.heap.size w ((w.alloc (.cells #[.int .i64 s.fo.num, .slice ap s.fo.pol.length cp, .slice ar s.fo.rv.length cr, .int .i64 s.co, .slice au s.ru.length cu, .slice ah s.ha.length ch, .slice ai s.se.length ci] 51)).alloc (.cells #[.int .i64 0, .slice none 0 0, .slice none 0 0, .int .i64 0, .slice none 0 0, .slice none 0 0, .slice none 0 0] 51)) := ((Below.refl _ w).alloc (Nat.le_refl _) _).alloc (by simp) _
  have F := (Seven.new w (.int .i64 s.fo.num) (.slice ap s.fo.pol.length cp) (.slice ar s.fo.rv.length cr) (.int .i64 s.co) (.slice au s.ru.length cu) (.slice ah s.ha.length ch) (.slice ai s.se.length ci) 51).below ((Below.refl _ _).alloc (Nat.le_refl _) (.cells #[.int .i64 0, .slice none 0 0, .slice none 0 0, .int .i64 0, .slice none 0 0, .slice none 0 0, .slice none 0 0] 51))
  have F2 := Seven.at (w.alloc (.cells #[.int .i64 s.fo.num, .slice ap s.fo.pol.length cp, .slice ar s.fo.rv.length cr, .int .i64 s.co, .slice au s.ru.length cu, .slice ah s.ha.length ch, .slice ai s.se.length ci] 51)) (.int .i64 0) (.slice none 0 0) (.slice none 0 0) (.int .i64 0) (.slice none 0 0) (.slice none 0 0) (.slice none 0 0) 51 (k := w.heap.size + 1) (by simp)
  go_enter Tryz.func27, Tryz.ntmps27
  go_wp2_with fail
  generalize (w.alloc (.cells #[.int .i64 s.fo.num, .slice ap s.fo.pol.length cp, .slice ar s.fo.rv.length cr, .int .i64 s.co, .slice au s.ru.length cu, .slice ah s.ha.length ch, .slice ai s.se.length ci] 51)).alloc (.cells #[.int .i64 0, .slice none 0 0, .slice none 0 0, .int .i64 0, .slice none 0 0, .slice none 0 0, .slice none 0 0] 51) = W0 at *
  refine (implGoodSide_any _ s _ hs' (h'.below hB0)).mono ?_
  rintro e w1 ⟨rfl, hB1⟩
  replace F := F.below hB1
  replace F2 := F2.below hB1
  replace hB0 := below_one hB0 hB1
  clear hB1
  have hb := hB0.size
  have hk0 := F2.lt
  cases hg : sdB s
  case false =>
    have HR := hid (crX_no hg)
    have HG := hid hg
    obtain ⟨r0, r1, r2, r3, r4, r5, r6⟩ := F2.c
    have f0 := F2.f 0
    have f1 := F2.f 1
    have f2 := F2.f 2
    have f3 := F2.f 3
    have f4 := F2.f 4
    have f5 := F2.f 5
    have f6 := F2.f 6
    have G := (((((((F2.s0 (.int .i64 0)).s1 (.slice none 0 0)).s2 (.slice none 0 0)).s3 (.int .i64 0)).s4 (.slice none 0 0)).s5 (.slice none 0 0)).s6 (.slice none 0 0))
    have pB := below_seven hB0 (k := w.heap.size + 1) (by omega) (.int .i64 0) (.slice none 0 0) (.slice none 0 0) (.int .i64 0) (.slice none 0 0) (.slice none 0 0) (.slice none 0 0)
    go_wp2_with fail
    clear r0 r1 r2 r3 r4 r5 r6 f0 f1 f2 f3 f4 f5 f6
    generalize ((((((w1.setCell ⟨w.heap.size + 1, 0, none⟩ (.int .i64 0)).setCell ⟨w.heap.size + 1, 1, none⟩ (.slice none 0 0)).setCell ⟨w.heap.size + 1, 2, none⟩ (.slice none 0 0)).setCell ⟨w.heap.size + 1, 3, none⟩ (.int .i64 0)).setCell ⟨w.heap.size + 1, 4, none⟩ (.slice none 0 0)).setCell ⟨w.heap.size + 1, 5, none⟩ (.slice none 0 0)).setCell ⟨w.heap.size + 1, 6, none⟩ (.slice none 0 0) = W9 at *
    obtain ⟨d0, d1, d2, d3, d4, d5, d6⟩ := G.c
    exact bodyPost_ret (v := .tuple #[.agg #[.int .i64 0, .slice none 0 0, .slice none 0 0, .int .i64 0, .slice none 0 0, .slice none 0 0, .slice none 0 0], .bool false]) (by simp [results, Tryz.results27, go_sem, d0, d1, d2, d3, d4, d5, d6]) rfl ⟨_, by rw [HG.out], by rw [HR.out]; exact SdO.none _ _ _ (by have := pB.size; omega), pB⟩
  have HR := hid (crX_yes hg)
  have HG := hid hg
  clear hg
  obtain ⟨a0, a1, a2, a3, a4, a5, a6⟩ := F.c
  go_wp2_with fail
  refine (copySnapshot_any _ s.fo _ hf ((h'.below hB0).fo)).mono ?_
  rintro e w2 ⟨v2, rfl, O2, hB2⟩
  obtain ⟨x1, z1, x2, z2, rfl⟩ := sn_forms O2.a
  replace F2 := F2.below hB2
  replace hB0 := below_one hB0 hB2
  have hb2 := hB2.size
  have hk2 : w.heap.size + 1 < w1.heap.size := hk0
  clear a0 a1 a2 a3 a4 a5 a6
  obtain ⟨r0, r1, r2, r3, r4, r5, r6⟩ := F2.c
  have f0 := F2.f 0
  have f1 := F2.f 1
  have f2 := F2.f 2
  have f3 := F2.f 3
  have f4 := F2.f 4
  have f5 := F2.f 5
  have f6 := F2.f 6
  have G := (((((((F2.s0 (.int .i64 s.fo.num)).s1 (.slice x1 s.fo.pol.length z1)).s2 (.slice x2 s.fo.rv.length z2)).s3 (.int .i64 0)).s4 (.slice none 0 0)).s5 (.slice none 0 0)).s6 (.slice none 0 0))
  have pB := below_seven hB0 (k := w.heap.size + 1) (by omega) (.int .i64 s.fo.num) (.slice x1 s.fo.pol.length z1) (.slice x2 s.fo.rv.length z2) (.int .i64 0) (.slice none 0 0) (.slice none 0 0) (.slice none 0 0)
  obtain ⟨_, _, ee, o1, o2, t1, t2⟩ := O2
  cases ee
  have q1 := row_seven o1 (k := w.heap.size + 1) hk2 (.int .i64 s.fo.num) (.slice x1 s.fo.pol.length z1) (.slice x2 s.fo.rv.length z2) (.int .i64 0) (.slice none 0 0) (.slice none 0 0) (.slice none 0 0)
  have q2 := row_seven o2 (k := w.heap.size + 1) hk2 (.int .i64 s.fo.num) (.slice x1 s.fo.pol.length z1) (.slice x2 s.fo.rv.length z2) (.int .i64 0) (.slice none 0 0) (.slice none 0 0) (.slice none 0 0)
  have hse : w2.heap.size ≤ (((((((w2.setCell ⟨w.heap.size + 1, 0, none⟩ (.int .i64 s.fo.num)).setCell ⟨w.heap.size + 1, 1, none⟩ (.slice x1 s.fo.pol.length z1)).setCell ⟨w.heap.size + 1, 2, none⟩ (.slice x2 s.fo.rv.length z2)).setCell ⟨w.heap.size + 1, 3, none⟩ (.int .i64 0)).setCell ⟨w.heap.size + 1, 4, none⟩ (.slice none 0 0)).setCell ⟨w.heap.size + 1, 5, none⟩ (.slice none 0 0)).setCell ⟨w.heap.size + 1, 6, none⟩ (.slice none 0 0)).heap.size := by simp
  go_wp2_with fail
  clear r0 r1 r2 r3 r4 r5 r6 f0 f1 f2 f3 f4 f5 f6
  generalize ((((((w2.setCell ⟨w.heap.size + 1, 0, none⟩ (.int .i64 s.fo.num)).setCell ⟨w.heap.size + 1, 1, none⟩ (.slice x1 s.fo.pol.length z1)).setCell ⟨w.heap.size + 1, 2, none⟩ (.slice x2 s.fo.rv.length z2)).setCell ⟨w.heap.size + 1, 3, none⟩ (.int .i64 0)).setCell ⟨w.heap.size + 1, 4, none⟩ (.slice none 0 0)).setCell ⟨w.heap.size + 1, 5, none⟩ (.slice none 0 0)).setCell ⟨w.heap.size + 1, 6, none⟩ (.slice none 0 0) = W9 at *
  obtain ⟨d0, d1, d2, d3, d4, d5, d6⟩ := G.c
  exact bodyPost_ret (v := .tuple #[.agg #[.int .i64 s.fo.num, .slice x1 s.fo.pol.length z1, .slice x2 s.fo.rv.length z2, .int .i64 0, .slice none 0 0, .slice none 0 0, .slice none 0 0], .bool true]) (by simp [results, Tryz.results27, go_sem, d0, d1, d2, d3, d4, d5, d6]) rfl ⟨_, by rw [HG.out], by rw [HR.out]; exact ⟨w2.heap.size, _, _, _, _, _, rfl, by omega, hse, ⟨_, _, rfl, Go.Joins.ownsRow_le q1 hb, Go.Joins.ownsRow_le q2 hb, t1, t2⟩, World.ownsRow_nil _ _ _ _, World.ownsRow_nil _ _ _ _, World.ownsRow_nil _ _ _ _, fun _ h => by simp [Value.ownBlock] at h, fun _ h => by simp [Value.ownBlock] at h, fun _ h => by simp [Value.ownBlock] at h⟩, pB⟩

end Go.Proofs.YthpckiobfjdckaaGreat

namespace Go.Proofs.YthpckiobfjdckaaGreat.fnExactCrashSide
open Go.ChangeShapes Go.WideShapes Go.ChangeAt Go.RowKit Go.Joins Go.Deep Go.Proofs.YthpckiobfjdckaaGreat
open Go.ChangeMaps (open_string shut_string)

theorem own : ownKnob Tryz.prog.godebug = none := by kernel_rfl
theorem laidOut : laidOutB Tryz.prog = true := by kernel_rfl

set_option maxHeartbeats 16000000 in
set_option maxRecDepth 100000 in
theorem walk (v : Value) (s : Sd) (w : World) (hA : SdA w v s) (hfs : s.fits) :
    Calls Tryz.prog 5 #[v] w fun e w' => e = .returned (.bool true) ∧ Below w.heap.size w w' := by
  obtain ⟨ka0, ka1, ka2, ka3, ka4, ka5, ka6, ka7, ka8, ka9, rfl⟩ := sd_forms hA
  have hBB : Below w.heap.size w (w.alloc (.cells #[.int .i64 s.fo.num, .slice ka0 s.fo.pol.length ka1, .slice ka2 s.fo.rv.length ka3, .int .i64 s.co, .slice ka4 s.ru.length ka5, .slice ka6 s.ha.length ka7, .slice ka8 s.se.length ka9] 46)) := (Below.refl _ w).alloc (Nat.le_refl _) _
  have F := Seven.new w (.int .i64 s.fo.num) (.slice ka0 s.fo.pol.length ka1) (.slice ka2 s.fo.rv.length ka3) (.int .i64 s.co) (.slice ka4 s.ru.length ka5) (.slice ka6 s.ha.length ka7) (.slice ka8 s.se.length ka9) 46
  by_cases hC : s.size ≤ 1048576
  case neg =>
    have HU := hid (show leftW 1048576 s = -1 from if_neg (by omega))
    go_enter Tryz.func5, Tryz.ntmps5
    go_wp2_with fail
    generalize w.alloc (.cells #[.int .i64 s.fo.num, .slice ka0 s.fo.pol.length ka1, .slice ka2 s.fo.rv.length ka3, .int .i64 s.co, .slice ka4 s.ru.length ka5, .slice ka6 s.ha.length ka7, .slice ka8 s.se.length ka9] 46) = W0 at *
    refine (szSide_any _ s _ _ (by omega) (by omega) hfs (hA.below hBB)).mono ?_
    rintro e w1 ⟨rfl, hB1⟩
    rw [HU.out]
    replace hBB := below_one hBB hB1
    go_wp2_with fail
    go_ret
    exact ⟨rfl, hBB⟩
  have HU := hid (show leftW 1048576 s = 1048576 - s.size from if_pos (by omega))
  have d1 : decide ((1048576 : Int) - (s.size : Int) < 0) = false := by simp; omega
  have hS := Sd.short_of hC
  have hms : s.many ≤ 4 * s.size := by unfold Sd.many Sd.size Sn.many Sn.size szAll; omega
  obtain ⟨t, HT⟩ : ∃ t, Hid (t = crX s) := ⟨_, hid rfl⟩
  obtain ⟨ok, HO⟩ : ∃ ok, Hid (sdB s = ok) := ⟨_, hid rfl⟩
  have hT : t.short := by rw [HT.out]; exact crX_short hS
  have hmt : t.many ≤ s.many := by rw [HT.out]; exact crX_many s
  go_enter Tryz.func5, Tryz.ntmps5
  go_wp2_with fail
  generalize w.alloc (.cells #[.int .i64 s.fo.num, .slice ka0 s.fo.pol.length ka1, .slice ka2 s.fo.rv.length ka3, .int .i64 s.co, .slice ka4 s.ru.length ka5, .slice ka6 s.ha.length ka7, .slice ka8 s.se.length ka9] 46) = W0 at *
  refine (szSide_any _ s _ _ (by omega) (by omega) hfs (hA.below hBB)).mono ?_
  rintro e w1 ⟨rfl, hB1⟩
  rw [HU.out]
  replace F := F.below hB1
  replace hBB := below_one hBB hB1
  clear hB1
  obtain ⟨a0, a1, a2, a3, a4, a5, a6⟩ := F.c
  go_wp2_with fail
  refine (toSide_any _ s _ hS (hA.below hBB)).mono ?_
  rintro e w2 ⟨v2, rfl, O2, hB2⟩
  obtain ⟨ki0, ki1, ki2, ki3, ki4, ki5, ki6, ki7, ki8, ki9, rfl⟩ := sd_forms O2.a
  replace F := F.below hB2
  replace hBB := below_one hBB hB2
  clear hB2 a0 a1 a2 a3 a4 a5 a6
  go_wp2_with fail
  refine (specCrash_any _ s _ hS O2.r).mono ?_
  rintro e w3 ⟨v3, he, OW, hB3⟩
  rw [← HT.out] at OW
  rw [HO.out] at he
  subst he
  obtain ⟨kw0, kw1, kw2, kw3, kw4, kw5, kw6, kw7, kw8, kw9, rfl⟩ := sd_forms OW.a
  replace F := F.below hB3
  replace hBB := below_one hBB hB3
  clear hB3 O2
  have z0w := hBB.size
  obtain ⟨a0, a1, a2, a3, a4, a5, a6⟩ := F.c
  have hBv : Below w3.heap.size w3 (w3.alloc (.cells #[.int .i64 t.fo.num, .slice kw0 t.fo.pol.length kw1, .slice kw2 t.fo.rv.length kw3, .int .i64 t.co, .slice kw4 t.ru.length kw5, .slice kw6 t.ha.length kw7, .slice kw8 t.se.length kw9] 51)) := (Below.refl _ w3).alloc (Nat.le_refl _) _
  have FW := Seven.new w3 (.int .i64 t.fo.num) (.slice kw0 t.fo.pol.length kw1) (.slice kw2 t.fo.rv.length kw3) (.int .i64 t.co) (.slice kw4 t.ru.length kw5) (.slice kw6 t.ha.length kw7) (.slice kw8 t.se.length kw9) 51
  replace F := F.below hBv
  replace OW := OW.below hBv
  replace hBB := below_one hBB hBv
  clear hBv
  clear a0 a1 a2 a3 a4 a5 a6
  obtain ⟨a0, a1, a2, a3, a4, a5, a6⟩ := F.c
  go_wp2_with fail
  generalize w3.alloc (.cells #[.int .i64 t.fo.num, .slice kw0 t.fo.pol.length kw1, .slice kw2 t.fo.rv.length kw3, .int .i64 t.co, .slice kw4 t.ru.length kw5, .slice kw6 t.ha.length kw7, .slice kw8 t.se.length kw9] 51) = W3 at *
  generalize w3.heap.size = kw at *
  have zw := FW.lt
  have z0 := F.lt
  refine (toSide_any _ s _ hS (hA.below hBB)).mono ?_
  rintro e w4 ⟨v4, rfl, OX, hB4⟩
  obtain ⟨kb0, kb1, kb2, kb3, kb4, kb5, kb6, kb7, kb8, kb9, rfl⟩ := sd_forms OX.a
  have z4 := hB4.size
  replace F := F.below hB4
  replace OW := OW.below hB4
  replace FW := FW.below hB4
  replace hBB := below_one hBB hB4
  clear hB4 a0 a1 a2 a3 a4 a5 a6
  have hBv : Below w4.heap.size w4 (w4.alloc (.cells #[.int .i64 s.fo.num, .slice kb0 s.fo.pol.length kb1, .slice kb2 s.fo.rv.length kb3, .int .i64 s.co, .slice kb4 s.ru.length kb5, .slice kb6 s.ha.length kb7, .slice kb8 s.se.length kb9] 51)) := (Below.refl _ w4).alloc (Nat.le_refl _) _
  have FX := Seven.new w4 (.int .i64 s.fo.num) (.slice kb0 s.fo.pol.length kb1) (.slice kb2 s.fo.rv.length kb3) (.int .i64 s.co) (.slice kb4 s.ru.length kb5) (.slice kb6 s.ha.length kb7) (.slice kb8 s.se.length kb9) 51
  replace F := F.below hBv
  replace OW := OW.below hBv
  replace FW := FW.below hBv
  replace OX := OX.below hBv
  replace hBB := below_one hBB hBv
  clear hBv
  obtain ⟨a0, a1, a2, a3, a4, a5, a6⟩ := FX.c
  go_wp2_with fail
  generalize w4.alloc (.cells #[.int .i64 s.fo.num, .slice kb0 s.fo.pol.length kb1, .slice kb2 s.fo.rv.length kb3, .int .i64 s.co, .slice kb4 s.ru.length kb5, .slice kb6 s.ha.length kb7, .slice kb8 s.se.length kb9] 51) = W4 at *
  generalize w4.heap.size = kx at *
  have zx := FX.lt
  refine (implCrash_any _ s _ hS OX.r).mono ?_
  rintro e w6 ⟨v6, he, OG, hB6⟩
  rw [← HT.out] at OG
  rw [HO.out] at he
  subst he
  obtain ⟨kg0, kg1, kg2, kg3, kg4, kg5, kg6, kg7, kg8, kg9, rfl⟩ := sd_forms OG.a
  have z6 := hB6.size
  replace F := F.below hB6
  replace OW := OW.below hB6
  replace FW := FW.below hB6
  replace OX := OX.below hB6
  replace FX := FX.below hB6
  replace hBB := below_one hBB hB6
  clear hB6 a0 a1 a2 a3 a4 a5 a6
  have eo : (ok != ok) = false := by simp
  have hBv : Below w6.heap.size w6 (w6.alloc (.cells #[.int .i64 t.fo.num, .slice kg0 t.fo.pol.length kg1, .slice kg2 t.fo.rv.length kg3, .int .i64 t.co, .slice kg4 t.ru.length kg5, .slice kg6 t.ha.length kg7, .slice kg8 t.se.length kg9] 51)) := (Below.refl _ w6).alloc (Nat.le_refl _) _
  have FG := Seven.new w6 (.int .i64 t.fo.num) (.slice kg0 t.fo.pol.length kg1) (.slice kg2 t.fo.rv.length kg3) (.int .i64 t.co) (.slice kg4 t.ru.length kg5) (.slice kg6 t.ha.length kg7) (.slice kg8 t.se.length kg9) 51
  replace F := F.below hBv
  replace OW := OW.below hBv
  replace FW := FW.below hBv
  replace OX := OX.below hBv
  replace FX := FX.below hBv
  replace OG := OG.below hBv
  replace hBB := below_one hBB hBv
  clear hBv
  obtain ⟨a0, a1, a2, a3, a4, a5, a6⟩ := FW.c
  go_wp2_with fail
  generalize w6.alloc (.cells #[.int .i64 t.fo.num, .slice kg0 t.fo.pol.length kg1, .slice kg2 t.fo.rv.length kg3, .int .i64 t.co, .slice kg4 t.ru.length kg5, .slice kg6 t.ha.length kg7, .slice kg8 t.se.length kg9] 51) = W6 at *
  generalize w6.heap.size = kg at *
  have zg := FG.lt
  refine (eqSide_same _ _ t _ hT OG.a OW.a).mono ?_
  rintro e w7 ⟨rfl, hB7⟩
  replace F := F.below hB7
  replace OW := OW.below hB7
  replace FW := FW.below hB7
  replace OX := OX.below hB7
  replace FX := FX.below hB7
  replace OG := OG.below hB7
  replace FG := FG.below hB7
  replace hBB := below_one hBB hB7
  clear hB7 a0 a1 a2 a3 a4 a5 a6
  obtain ⟨a0, a1, a2, a3, a4, a5, a6⟩ := F.c
  obtain ⟨b0, b1, b2, b3, b4, b5, b6⟩ := FX.c
  go_wp2_with fail
  refine wp_region_held_drew (S := fun w' => w'.cell? ⟨kx, 0, none⟩ = some (.int .i64 s.fo.num) ∧ w'.cell? ⟨kx, 1, none⟩ = some (.slice kb0 s.fo.pol.length kb1) ∧ w'.cell? ⟨kx, 2, none⟩ = some (.slice kb2 s.fo.rv.length kb3) ∧ w'.cell? ⟨kx, 3, none⟩ = some (.int .i64 s.co) ∧ w'.cell? ⟨kx, 4, none⟩ = some (.slice kb4 s.ru.length kb5) ∧ w'.cell? ⟨kx, 5, none⟩ = some (.slice kb6 s.ha.length kb7) ∧ w'.cell? ⟨kx, 6, none⟩ = some (.slice kb8 s.se.length kb9) ∧ w'.cell? ⟨w.heap.size, 0, none⟩ = some (.int .i64 s.fo.num) ∧ w'.cell? ⟨w.heap.size, 1, none⟩ = some (.slice ka0 s.fo.pol.length ka1) ∧ w'.cell? ⟨w.heap.size, 2, none⟩ = some (.slice ka2 s.fo.rv.length ka3) ∧ w'.cell? ⟨w.heap.size, 3, none⟩ = some (.int .i64 s.co) ∧ w'.cell? ⟨w.heap.size, 4, none⟩ = some (.slice ka4 s.ru.length ka5) ∧ w'.cell? ⟨w.heap.size, 5, none⟩ = some (.slice ka6 s.ha.length ka7) ∧ w'.cell? ⟨w.heap.size, 6, none⟩ = some (.slice ka8 s.se.length ka9)) (by kernel_rfl) ?_ (fun hHeld => ?_)
  · go_keep
  refine takeW 0 (v := ?v7) rfl (by kernel_rfl) (by kernel_rfl) (by kernel_rfl) (fun _ _ _ h => h) (by rfl) (by assumption) ?hy7 ?rest7
  case hy7 => intro w' hSw; (try dsimp only at hSw); go_simp; try with_reducible rfl
  try simp only [Act.put, List.setIfInBounds_toArray, List.set_cons_zero, List.set_cons_succ]
  refine takeW 1 (v := ?v8) rfl (by kernel_rfl) (by kernel_rfl) (by kernel_rfl) (fun _ _ _ h => h) (by rfl) (by assumption) ?hy8 ?rest8
  case hy8 => intro w' hSw; (try dsimp only at hSw); go_simp; try with_reducible rfl
  try simp only [Act.put, List.setIfInBounds_toArray, List.set_cons_zero, List.set_cons_succ]
  refine takeC 2 (by kernel_rfl) rfl (fun K hK => ?_)
  go_simp
  refine (toSide_any _ s _ hS (by exact (hA.below hBB).below (Below.refl _ _).drew)).mono ?_; rintro e w8 ⟨v9, rfl, O9, hB9⟩; have hcx := fun o => hB9.cell (p := ⟨kx, o, none⟩) (by exact FX.lt); have hca := fun o => hB9.cell (p := ⟨w.heap.size, o, none⟩) (by exact F.lt)
  refine hK.out _ _ ?_ (fun hHeld => ?_)
  · go_keep
  clear hK K
  try simp only [Act.put, List.setIfInBounds_toArray, List.set_cons_zero, List.set_cons_succ]
  refine takeC 3 (by kernel_rfl) rfl (fun K hK => ?_)
  go_simp
  refine (eqSide_same _ _ s _ hS (by exact (OX.below (below_drew1 hB9)).a) O9.a).mono ?_; rintro e w9 ⟨rfl, hB10⟩; have hcx2 := fun o => hB10.cell (p := ⟨kx, o, none⟩) (by exact Nat.lt_of_lt_of_le FX.lt (below_drew1 hB9).size); have hca2 := fun o => hB10.cell (p := ⟨w.heap.size, o, none⟩) (by exact Nat.lt_of_lt_of_le F.lt (below_drew1 hB9).size)
  refine hK.out _ _ ?_ (fun hHeld => ?_)
  · go_keep
  clear hK K
  try simp only [Act.put, List.setIfInBounds_toArray, List.set_cons_zero, List.set_cons_succ]
  refine takeW 4 (v := ?v9) rfl (by kernel_rfl) (by kernel_rfl) (by kernel_rfl) (fun _ _ _ h => h) (by rfl) (by assumption) ?hy9 ?rest9
  case hy9 => intro w' hSw; (try dsimp only at hSw); go_simp; try with_reducible rfl
  try simp only [Act.put, List.setIfInBounds_toArray, List.set_cons_zero, List.set_cons_succ]
  refine wpAnyH_done (by kernel_rfl) ?_ _
  have hBd : Below w7.heap.size w7 w9 := below_one (below_drew1 hB9) hB10
  clear hcx hca hcx2 hca2 hB9 hB10 hHeld O9 a0 a1 a2 a3 a4 a5 a6 b0 b1 b2 b3 b4 b5 b6
  replace F := F.below hBd
  replace OW := OW.below hBd
  replace FW := FW.below hBd
  replace OX := OX.below hBd
  replace FX := FX.below hBd
  replace OG := OG.below hBd
  replace FG := FG.below hBd
  replace hBB := below_one hBB hBd
  clear hBd
  have zx9 := FX.lt
  have zg9 := FG.lt
  obtain ⟨a0, a1, a2, a3, a4, a5, a6⟩ := FX.c
  go_wp2_with fail
  obtain ⟨c1, HC1⟩ : ∃ c, Hid (c = 1 + s.many) := ⟨_, hid rfl⟩
  obtain ⟨c3, HC3⟩ : ∃ c, Hid (c = 1 + t.many) := ⟨_, hid rfl⟩
  refine (markSide_any _ s 1 _ _ _ hS (by omega) (by omega) OX).mono ?_
  rintro e w12 ⟨rfl, _, M1⟩
  rw [← HC1.out]
  clear OX
  replace F := M1.seven F (by omega)
  replace OW := M1.sdo OW (by omega)
  replace FW := M1.seven FW (by omega)
  replace FX := M1.seven FX (by omega)
  replace OG := M1.sdo OG (by omega)
  replace FG := M1.seven FG (by omega)
  replace hBB := hBB.trans (M1.below (n := w.heap.size) (by omega) hBB.size)
  clear M1 a0 a1 a2 a3 a4 a5 a6
  have dk : decide ((c1 : Int) < 0) = false := by simp
  obtain ⟨a0, a1, a2, a3, a4, a5, a6⟩ := FW.c
  obtain ⟨b0, b1, b2, b3, b4, b5, b6⟩ := FG.c
  go_wp2_with fail
  refine (eqSide_same _ _ t _ hT OG.a OW.a).mono ?_
  rintro e w14 ⟨rfl, hB14⟩
  replace F := F.below hB14
  replace OW := OW.below hB14
  replace FW := FW.below hB14
  replace FX := FX.below hB14
  replace OG := OG.below hB14
  replace FG := FG.below hB14
  replace hBB := below_one hBB hB14
  clear hB14 a0 a1 a2 a3 a4 a5 a6 b0 b1 b2 b3 b4 b5 b6
  have zgq := FG.lt
  obtain ⟨b0, b1, b2, b3, b4, b5, b6⟩ := FG.c
  go_wp2_with fail
  refine (markSide_any _ t 1 _ _ _ hT (by omega) (by omega) OG).mono ?_
  rintro e w15 ⟨rfl, OG', M3⟩
  rw [← HC3.out]
  clear OG
  replace F := M3.seven F (by omega)
  replace OW := M3.sdo OW (by omega)
  replace FW := M3.seven FW (by omega)
  replace FX := M3.seven FX (by omega)
  replace FG := M3.seven FG (by omega)
  replace hBB := hBB.trans (M3.below (n := w.heap.size) (by omega) hBB.size)
  clear M3 b0 b1 b2 b3 b4 b5 b6
  obtain ⟨b0, b1, b2, b3, b4, b5, b6⟩ := FG.c
  go_wp2_with fail
  refine (heldSide_any _ t 1 _ hT (by omega) OG'.a).mono ?_
  rintro e w16 ⟨rfl, hB16⟩
  rw [← HC3.out]
  replace F := F.below hB16
  replace OW := OW.below hB16
  replace FW := FW.below hB16
  replace FX := FX.below hB16
  replace FG := FG.below hB16
  replace OG' := OG'.below hB16
  replace hBB := below_one hBB hB16
  clear hB16 b0 b1 b2 b3 b4 b5 b6
  have dq : decide ((c3 : Int) < 0) = false := by simp
  have eq3 : ((c3 : Int) != (c3 : Int)) = false := by simp
  obtain ⟨a0, a1, a2, a3, a4, a5, a6⟩ := F.c
  go_wp2_with fail
  refine (toSide_any _ s _ hS (hA.below hBB)).mono ?_
  rintro e w17 ⟨v17, rfl, OY, hB17⟩
  obtain ⟨ky0, ky1, ky2, ky3, ky4, ky5, ky6, ky7, ky8, ky9, rfl⟩ := sd_forms OY.a
  replace F := F.below hB17
  replace OW := OW.below hB17
  replace FW := FW.below hB17
  replace FX := FX.below hB17
  replace FG := FG.below hB17
  replace OG' := OG'.below hB17
  replace hBB := below_one hBB hB17
  clear hB17 a0 a1 a2 a3 a4 a5 a6
  go_wp2_with fail
  refine (implCrash_any _ s _ hS OY.r).mono ?_
  rintro e w18 ⟨v18, he, OH, hB18⟩
  rw [← HT.out] at OH
  rw [HO.out] at he
  subst he
  obtain ⟨kh0, kh1, kh2, kh3, kh4, kh5, kh6, kh7, kh8, kh9, rfl⟩ := sd_forms OH.a
  replace F := F.below hB18
  replace OW := OW.below hB18
  replace FW := FW.below hB18
  replace FX := FX.below hB18
  replace FG := FG.below hB18
  replace OG' := OG'.below hB18
  replace hBB := below_one hBB hB18
  clear hB18 OY
  have hBv : Below w18.heap.size w18 (w18.alloc (.cells #[.int .i64 t.fo.num, .slice kh0 t.fo.pol.length kh1, .slice kh2 t.fo.rv.length kh3, .int .i64 t.co, .slice kh4 t.ru.length kh5, .slice kh6 t.ha.length kh7, .slice kh8 t.se.length kh9] 51)) := (Below.refl _ w18).alloc (Nat.le_refl _) _
  have FH := Seven.new w18 (.int .i64 t.fo.num) (.slice kh0 t.fo.pol.length kh1) (.slice kh2 t.fo.rv.length kh3) (.int .i64 t.co) (.slice kh4 t.ru.length kh5) (.slice kh6 t.ha.length kh7) (.slice kh8 t.se.length kh9) 51
  replace F := F.below hBv
  replace OW := OW.below hBv
  replace FW := FW.below hBv
  replace FX := FX.below hBv
  replace FG := FG.below hBv
  replace OG' := OG'.below hBv
  replace OH := OH.below hBv
  replace hBB := below_one hBB hBv
  clear hBv
  obtain ⟨a0, a1, a2, a3, a4, a5, a6⟩ := FW.c
  go_wp2_with fail
  generalize w18.alloc (.cells #[.int .i64 t.fo.num, .slice kh0 t.fo.pol.length kh1, .slice kh2 t.fo.rv.length kh3, .int .i64 t.co, .slice kh4 t.ru.length kh5, .slice kh6 t.ha.length kh7, .slice kh8 t.se.length kh9] 51) = W18 at *
  generalize w18.heap.size = kh at *
  refine (eqSide_same _ _ t _ hT OH.a OW.a).mono ?_
  rintro e w19 ⟨rfl, hB19⟩
  replace F := F.below hB19
  replace OW := OW.below hB19
  replace FW := FW.below hB19
  replace FX := FX.below hB19
  replace FG := FG.below hB19
  replace OG' := OG'.below hB19
  replace OH := OH.below hB19
  replace FH := FH.below hB19
  replace hBB := below_one hBB hB19
  clear hB19 a0 a1 a2 a3 a4 a5 a6
  obtain ⟨b0, b1, b2, b3, b4, b5, b6⟩ := FG.c
  go_wp2_with fail
  refine (heldSide_any _ t 1 _ hT (by omega) OG'.a).mono ?_
  rintro e w20 ⟨rfl, hB20⟩
  rw [← HC3.out]
  replace hBB := below_one hBB hB20
  clear hB20 b0 b1 b2 b3 b4 b5 b6
  go_wp2_with fail
  go_ret
  exact ⟨rfl, hBB⟩

set_option maxRecDepth 100000 in
theorem lifted (os : Os) (started : os.Started) (H : Type) (enc : TypeId × Value → H) :
    ReturnsInHanded {} Tryz.checked os 5 .any (Rows.fnExactCrashSideSpec.pre6 enc Tryz.prog Tryz.f5 Rows.fnExactCrashSideRow.domain false) (Rows.fnExactCrashSideSpec.post enc Tryz.prog Tryz.f5 false true false false) := by
  refine returnsInHanded_of_change (C := Tryz.checked) own started (by kernel_rfl) Tryz.func5
    (ChangeSpec.witness6 (enc := enc) (C := Tryz.checked) false ⟨#[], #[.agg #[.int .i64 0, .slice none 0 0, .slice none 0 0, .int .i64 0, .slice none 0 0, .slice none 0 0, .slice none 0 0]], []⟩ 8 (by kernel_rfl) (by kernel_rfl) (by kernel_rfl) (by kernel_rfl)) ?_
  intro W base args ds gs before hval0 hW hcnd _
  have hval : ∀ (j : Nat) t v, Tryz.f5.params[j]? = some t → args[j]? = some v → Value.okWide Tryz.prog W .any base t v := hval0
  have hW' := hW
  obtain ⟨p, q, hA0, hV, rfl, _, _⟩ := hW
  have hA : DataW.TrodAll enc Tryz.prog W 0 (fun _ => true) true Tryz.f5.params.toList args.toList ds p := hA0
  rw [Tryz.params5] at hA hval
  obtain ⟨v0, vs0, d0, ds0, p0, q0, hargs, rfl, rfl, h0, r0⟩ := trodAll_cons hA
  obtain ⟨rfl, rfl, rfl⟩ := trodAll_nil r0
  obtain rfl : args = #[v0] := by cases args; simp_all
  obtain ⟨rfl, rfl⟩ := trodVars_none hV
  have k0 := h0
  have lt0 : ∀ x ∈ p0, x.block < W.heap.size := by obtain ⟨m, hm⟩ := k0; exact DataW.trod_lt m _ _ _ hm
  obtain ⟨a0, w0, f0⟩ := openSd (hval 0 46 v0 rfl rfl) h0
  clear hA0 hval0
  refine (walk v0 a0 W w0 f0).mono fun e W' ⟨he, bel⟩ => ?_
  subst he
  exact ⟨_, rfl, _, _, _, [], _, [], hW', trodAll_mk1 (shut_bool Tryz.underlying4 _), (trodAll_cons_mk (Below.trod laidOut (by kernel_rfl) (of_decide_eq_true (by kernel_rfl)) k0 bel lt0) trodAll_mk0), rfl, bel.frame _, fun h => by cases h⟩

theorem over : Rows.fnExactCrashSideRow.holds Tryz.pinned (OpenSpec.ofChange Rows.fnExactCrashSideSpec) :=
  OpenClaim.holds_of_wide 5 Tryz.f5 rfl rfl rfl rfl rfl rfl rfl ⟨rfl, rfl, rfl, rfl, rfl⟩ rfl rfl rfl rfl rfl (by kernel_rfl) Tryz.func5 (by kernel_rfl)
    (of_decide_eq_true (by kernel_rfl)) (by unfold Func.isWrapper; first | (rw [if_pos (by decide +kernel)]; kernel_rfl) | (rw [if_neg (by decide +kernel)]; exact ⟨rfl, rfl⟩))
    (fun os started H enc _ => lifted os started H enc)

end Go.Proofs.YthpckiobfjdckaaGreat.fnExactCrashSide
namespace Go.Proofs.YthpckiobfjdckaaGreat
theorem fnExactCrashSide_holds : Rows.FnExactCrashSideSaid := fnExactCrashSide.over
#print axioms fnExactCrashSide_holds
end Go.Proofs.YthpckiobfjdckaaGreat
