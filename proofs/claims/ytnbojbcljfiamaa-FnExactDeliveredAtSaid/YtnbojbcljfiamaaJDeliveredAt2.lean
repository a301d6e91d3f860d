/-
  Asks in memory: how one that comes in is read, what the laws measure, hold and hand on.
-/
import Derived.Test.YtnbojbcljfiamaaJDeliveredAt1
import Derived.Deep.RegionHeld3
import Derived.Test.YtnbojbcljfiamaaJDeliveredAt0
import Derived.Lib.ItoaNum
import Derived.Laws.BitsAllLaws
import Derived.WalkKit
import Derived.ProofKit
import Derived.OpenShut
import Derived.Lib.SmallJoins
import Derived.Deep.Slices
namespace Go.Proofs.Ytnbojbcljfiamaa
open Go.RowKit Go.Shelf

/-- Lists that can be read, by an address or none at all. -/
def RuR (w : World) (v : Value) (rs : List Ru) : Prop :=
  (v = .slice none 0 0 ∧ rs = []) ∨ ∃ b off cap, v = .slice (some ⟨b, off, none⟩) rs.length cap ∧ b < w.heap.size ∧ rs.length ≤ cap ∧ ∀ k (h : k < rs.length), RuAt w b (off + k * 4) rs[k]
def NuR (w : World) (v : Value) (zs : List Int) : Prop :=
  (v = .slice none 0 0 ∧ zs = []) ∨ ∃ b off cap, v = .slice (some ⟨b, off, none⟩) zs.length cap ∧ b < w.heap.size ∧ zs.length ≤ cap ∧ ∀ k (h : k < zs.length), w.cell? ⟨b, off + k, none⟩ = some (.int .i64 zs[k])
theorem RuR.s {w : World} {v : Value} {rs : List Ru} (h : RuR w v rs) : RuS w v rs := by
  rcases h with ⟨rfl, rfl⟩ | h
  · exact .inl ⟨_, _, rfl, rfl⟩
  · exact .inr h
theorem NuR.s {w : World} {v : Value} {zs : List Int} (h : NuR w v zs) : VS w v (nums zs) := by
  rcases h with ⟨rfl, rfl⟩ | ⟨b, off, cap, rfl, hb, hl, hc⟩
  · exact .inl ⟨_, _, rfl, rfl⟩
  · refine .inr ⟨b, off, cap, by rw [nums_len], hb, by rw [nums_len]; exact hl, fun k hk => ?_⟩
    rw [nums_len] at hk
    rw [hc k hk]
    simp [nums]
theorem RuR.below {w w' : World} {v : Value} {rs : List Ru} (h : RuR w v rs) (hB : Below w.heap.size w w') : RuR w' v rs := by
  rcases h with h | ⟨b, off, cap, hv, hb, hl, hc⟩
  · exact .inl h
  · exact .inr ⟨b, off, cap, hv, Nat.lt_of_lt_of_le hb hB.size, hl, fun k hk => (hc k hk).below hb hB⟩
theorem NuR.below {w w' : World} {v : Value} {zs : List Int} (h : NuR w v zs) (hB : Below w.heap.size w w') : NuR w' v zs := by
  rcases h with h | ⟨b, off, cap, hv, hb, hl, hc⟩
  · exact .inl h
  · exact .inr ⟨b, off, cap, hv, Nat.lt_of_lt_of_le hb hB.size, hl, fun k hk => (hB.cell (p := ⟨b, off + k, none⟩) hb).trans (hc k hk)⟩
theorem RuR.len {w : World} {v : Value} {rs : List Ru} (h : RuR w v rs) : ∃ a cap, v = .slice a rs.length cap := h.s.len
theorem NuR.len {w : World} {v : Value} {zs : List Int} (h : NuR w v zs) : ∃ a cap, v = .slice a zs.length cap := h.s.numLen
theorem RuR.own {w : World} {base : Nat} {v : Value} {rs : List Ru} (h : w.ownsRow base 135 4 v rs.length (rs.flatMap Ru.cells)) : RuR w v rs := by
  have hs := RuS.own h
  rcases row_form h with ⟨rfl, h0⟩ | ⟨g, cap, rfl, _, hc⟩
  · exact .inl ⟨rfl, List.eq_nil_of_length_eq_zero h0⟩
  · refine .inr ⟨g, 0, cap, rfl, (h.lt g rfl).2, hc, fun k hk => ?_⟩
    obtain ⟨b, off, hbo, _, _, hat⟩ := hs.at hk
    cases hbo
    exact hat
theorem NuR.own {w : World} {base : Nat} {v : Value} {zs : List Int} (h : w.ownsRow base 3 1 v zs.length (nums zs)) : NuR w v zs := by
  rcases row_form h with ⟨rfl, h0⟩ | ⟨g, cap, rfl, _, hc⟩
  · exact .inl ⟨rfl, List.eq_nil_of_length_eq_zero h0⟩
  · refine .inr ⟨g, 0, cap, rfl, (h.lt g rfl).2, hc, fun k hk => ?_⟩
    rw [Nat.zero_add, h.cellAt k (by omega)]
    simp [nums, hk]
/-- All cells of a list of rules, one behind the other. -/
theorem RuR.flat {w : World} {b off : Nat} {rs : List Ru} (hc : ∀ k (h : k < rs.length), RuAt w b (off + k * 4) rs[k]) : ∀ j u, (rs.flatMap Ru.cells)[j]? = some u → w.cell? ⟨b, off + j, none⟩ = some u := by
  intro j u hu
  have hj : j < rs.length * 4 := by rw [← flat_len]; exact (List.getElem?_eq_some_iff.1 hu).1
  have hk : j / 4 < rs.length := by omega
  have hm : j % 4 < 4 := Nat.mod_lt _ (by omega)
  have e : j = j / 4 * 4 + j % 4 := by omega
  rw [e, flat_at rs _ _ hk hm] at hu
  obtain ⟨h0, h1, h2, h3⟩ := hc (j / 4) hk
  rw [show off + j = off + j / 4 * 4 + j % 4 by omega]
  obtain h | h | h | h : j % 4 = 0 ∨ j % 4 = 1 ∨ j % 4 = 2 ∨ j % 4 = 3 := by omega
  all_goals rw [h] at hu ⊢
  · simp at hu; rw [← hu]; exact h0
  · simp at hu; rw [← hu]; exact h1
  · simp at hu; rw [← hu]; exact h2
  · simp at hu; rw [← hu]; exact h3

/-- A version in memory. -/
def SnA (w : World) (v : Value) (s : Sn) : Prop := ∃ vp vr, v = .agg #[.int .i64 s.num, vp, vr] ∧ RuS w vp s.pol ∧ VS w vr (nums s.rv)
def SnR (w : World) (v : Value) (s : Sn) : Prop := ∃ vp vr, v = .agg #[.int .i64 s.num, vp, vr] ∧ RuR w vp s.pol ∧ NuR w vr s.rv
/-- .. of one's own: its lists lie in blocks from base on, below top. -/
def SnO (w : World) (base top : Nat) (v : Value) (s : Sn) : Prop :=
  ∃ vp vr, v = .agg #[.int .i64 s.num, vp, vr] ∧ w.ownsRow base 135 4 vp s.pol.length (s.pol.flatMap Ru.cells) ∧ w.ownsRow base 3 1 vr s.rv.length (nums s.rv) ∧ (∀ k, vp.ownBlock = some k → k < top) ∧ ∀ k, vr.ownBlock = some k → k < top
theorem SnA.below {w w' : World} {v : Value} {s : Sn} (h : SnA w v s) (hB : Below w.heap.size w w') : SnA w' v s := by
  obtain ⟨vp, vr, rfl, h1, h2⟩ := h
  exact ⟨_, _, rfl, h1.below hB, h2.below hB⟩
theorem SnR.below {w w' : World} {v : Value} {s : Sn} (h : SnR w v s) (hB : Below w.heap.size w w') : SnR w' v s := by
  obtain ⟨vp, vr, rfl, h1, h2⟩ := h
  exact ⟨_, _, rfl, h1.below hB, h2.below hB⟩
theorem SnO.below {w w' : World} {base top : Nat} {v : Value} {s : Sn} (h : SnO w base top v s) (hB : Below w.heap.size w w') : SnO w' base top v s := by
  obtain ⟨vp, vr, rfl, h1, h2, t1, t2⟩ := h
  exact ⟨vp, vr, rfl, ownsRow_below h1 hB, ownsRow_below h2 hB, t1, t2⟩
theorem SnR.a {w : World} {v : Value} {s : Sn} (h : SnR w v s) : SnA w v s := by
  obtain ⟨vp, vr, rfl, h1, h2⟩ := h
  exact ⟨_, _, rfl, h1.s, h2.s⟩
theorem SnO.r {w : World} {base top : Nat} {v : Value} {s : Sn} (h : SnO w base top v s) : SnR w v s := by
  obtain ⟨vp, vr, rfl, h1, h2, _⟩ := h
  exact ⟨_, _, rfl, RuR.own h1, NuR.own h2⟩
theorem SnO.a {w : World} {base top : Nat} {v : Value} {s : Sn} (h : SnO w base top v s) : SnA w v s := h.r.a
theorem SnO.of {w : World} {base : Nat} {vp vr : Value} {s : Sn} (h1 : w.ownsRow base 135 4 vp s.pol.length (s.pol.flatMap Ru.cells)) (h2 : w.ownsRow base 3 1 vr s.rv.length (nums s.rv)) : SnO w base w.heap.size (.agg #[.int .i64 s.num, vp, vr]) s :=
  ⟨vp, vr, rfl, h1, h2, fun k hk => (h1.lt k hk).2, fun k hk => (h2.lt k hk).2⟩
theorem SnO.mono {w : World} {base base' top top' : Nat} {v : Value} {s : Sn} (h : SnO w base top v s) (hb : base' ≤ base) (ht : top ≤ top') : SnO w base' top' v s := by
  obtain ⟨vp, vr, rfl, h1, h2, t1, t2⟩ := h
  exact ⟨vp, vr, rfl, Go.Joins.ownsRow_le h1 hb, Go.Joins.ownsRow_le h2 hb, fun k hk => Nat.lt_of_lt_of_le (t1 k hk) ht, fun k hk => Nat.lt_of_lt_of_le (t2 k hk) ht⟩
theorem Mid.sno {lo hi : Nat} {w w1 : World} (h : Mid lo hi w w1) {base top : Nat} {v : Value} {s : Sn} (hr : SnO w base top v s) (ho : hi ≤ base ∨ top ≤ lo) : SnO w1 base top v s := by
  obtain ⟨vp, vr, rfl, h1, h2, t1, t2⟩ := hr
  exact ⟨vp, vr, rfl, h.row h1 (fun k hk => by have := h1.lt k hk; have := t1 k hk; omega), h.row h2 (fun k hk => by have := h2.lt k hk; have := t2 k hk; omega), t1, t2⟩
def Sn.fits (s : Sn) : Prop := s.pol.length ≤ maxLen ∧ (∀ r ∈ s.pol, r.fits) ∧ s.rv.length ≤ maxLen
/-- What the laws count of a version. -/
def Sn.size (s : Sn) : Nat := szAll s.pol + s.rv.length
def leftV (n : Int) (s : Sn) : Int := if (s.size : Int) ≤ n then n - s.size else -1
/-- No list of it is longer than the laws take, and no rule greater. -/
def Sn.short (s : Sn) : Prop := s.pol.length ≤ 1048576 ∧ s.rv.length ≤ 1048576 ∧ ∀ r ∈ s.pol, r.size ≤ 1048576
theorem Sn.short_of {s : Sn} (h : s.size ≤ 1048576) : s.short := by
  unfold Sn.size szAll at h
  exact ⟨by omega, by omega, fun r hr => by have := sz_mem hr; omega⟩
theorem sn_forms {w : World} {v : Value} {s : Sn} (h : SnA w v s) : ∃ ap cp ar cr, v = .agg #[.int .i64 s.num, .slice ap s.pol.length cp, .slice ar s.rv.length cr] := by
  obtain ⟨vp, vr, rfl, h1, h2⟩ := h
  obtain ⟨ap, cp, rfl⟩ := h1.len
  obtain ⟨ar, cr, rfl⟩ := h2.numLen
  exact ⟨_, _, _, _, rfl⟩

open Go.Deep Go.ChangeShapes Go.WideShapes Go.Joins in
theorem openRuR {H : Type} {enc : TypeId × Value → H} {W : World} {c0 : Value} {d : DataW H × List MemPlace} {fuel : Nat} (hf : DataW.trod enc Try.prog W 0 (fun _ => true) true fuel 103 [c0] = some d) :
    ∃ (a : Option Addr) (n c : Nat) (rs : List Ru), c0 = .slice a n c ∧ RuS W (.slice a n c) rs ∧ rs.length = n ∧ n ≤ maxLen ∧ ∀ r ∈ rs, r.fits := by
  have hs : ∃ a n c, c0 = .slice a n c := by
    rcases open_slice Try.underlying103 hf with ⟨hcs, _⟩ | ⟨x, n, c, m, k, D, Pl, hcs, _⟩
    · simp at hcs; exact ⟨_, _, _, hcs⟩
    · simp at hcs; exact ⟨_, _, _, hcs⟩
  obtain ⟨a, n, c, rfl⟩ := hs
  obtain ⟨rs, h⟩ := openRuS (a := a) (n := n) (c := c) (d := d.1) (p := d.2) ⟨fuel, hf⟩
  exact ⟨a, n, c, rs, rfl, h⟩
set_option maxRecDepth 100000 in
theorem cellsSnapshot : Try.prog.cellsOf 105 = 3 := by kernel_rfl
set_option maxRecDepth 100000 in
open Go.Deep Go.ChangeShapes Go.WideShapes Go.ChangeAt Go.Joins in
/-- A version that comes in. -/
theorem openSn {H : Type} {enc : TypeId × Value → H} {W : World} {base : Nat} {v : Value} {d : DataW H} {p : List MemPlace} (hv : Value.okWide Try.prog W .any base 105 v) (h : DataW.Trod enc Try.prog W 0 (fun _ => true) true 105 v d p) :
    ∃ s : Sn, SnA W v s ∧ s.fits := by
  obtain ⟨c0, c1, c2, y0, y1, y2, m, rfl, _, _, h0, h1, h2⟩ := open_agg3 Try.underlying105 (by kernel_rfl) cellsSnapshot hv h
  obtain ⟨x0, e0, _, _⟩ := DataW.trod_int Try.underlying3 h0
  obtain ⟨a1, n1, k1, rs, rfl, r1, rfl, l1, f1⟩ := openRuR h1
  obtain ⟨a2, n2, k2, rv, rfl, r2, rfl, l2⟩ := openInR h2
  simp only [List.cons.injEq, and_true] at e0
  subst e0
  exact ⟨⟨x0, rs, rv⟩, ⟨_, _, rfl, r1, r2⟩, l1, f1, l2⟩

set_option maxHeartbeats 2000000 in
theorem szSnapshot_any (v : Value) (s : Sn) (n : Int) (w : World) (h0 : 0 ≤ n) (hn : n ≤ 1048576) (hf : s.fits) (h : SnA w v s) :
    Calls Try.prog 66 #[v, .int .i64 n] w fun e w' => e = .returned (.int .i64 (leftV n s)) ∧ Below w.heap.size w w' := by
  obtain ⟨vp, vr, rfl, h1, h2⟩ := h
  obtain ⟨l1, f1, l2⟩ := hf
  have hB0 : Below w.heap.size w (w.alloc (.cells #[.int .i64 s.num, vp, vr] 105)) := (Below.refl _ w).alloc (Nat.le_refl _) _
  have F1 := Three.new w (.int .i64 s.num) vp vr 105
  have HI := hid (show leftV n s = if (s.size : Int) ≤ n then n - (s.size : Int) else (-1 : Int) from rfl)
  have HZ := hid (show s.size = szAll s.pol + s.rv.length from rfl)
  go_enter Try.func66, Try.ntmps66
  go_wp2_with fail
  generalize w.alloc (.cells #[.int .i64 s.num, vp, vr] 105) = W0 at *
  refine (szRuleS_any vp s.pol n _ h0 hn l1 f1 (h1.below hB0)).mono ?_
  rintro e w1 ⟨rfl, hB1⟩
  replace F1 := F1.below hB1
  have hBB1 := below_one hB0 hB1
  clear hB1 hB0
  obtain ⟨a0, a1, a2⟩ := F1.c
  by_cases c1 : (szAll s.pol : Int) ≤ n
  · rw [show leftS n s.pol = n - szAll s.pol from if_pos c1]
    have d1 : decide (n - (szAll s.pol : Int) < 0) = false := by simp; omega
    go_wp2_with fail
    refine (szIntS_any vr s.rv _ _ (by omega) (by omega) l2 (h2.below hBB1)).mono ?_
    rintro e w2 ⟨rfl, hB2⟩
    have hBB2 := below_one hBB1 hB2
    clear hB2 a0 a1 a2
    by_cases c2 : (s.rv.length : Int) ≤ n - szAll s.pol
    · rw [show left1 (n - (szAll s.pol : Int)) s.rv.length = n - szAll s.pol - s.rv.length from if_pos c2]
      have d2 : decide (n - (szAll s.pol : Int) - (s.rv.length : Int) < 0) = false := by simp; omega
      have HR := hid (show leftV n s = n - szAll s.pol - s.rv.length by rw [HI.out, if_pos (by rw [HZ.out]; push_cast; omega), HZ.out]; push_cast; omega)
      go_wp2_with fail
      go_ret
      exact ⟨ret_int HR.out.symm, hBB2⟩
    · rw [show left1 (n - (szAll s.pol : Int)) s.rv.length = -1 from if_neg c2]
      have HR := hid (show leftV n s = -1 by rw [HI.out, if_neg (by rw [HZ.out]; push_cast; omega)])
      go_wp2_with fail
      go_ret
      exact ⟨ret_int HR.out.symm, hBB2⟩
  · rw [show leftS n s.pol = -1 from if_neg c1]
    have HR := hid (show leftV n s = -1 by rw [HI.out, if_neg (by rw [HZ.out]; push_cast; omega)])
    go_wp2_with fail
    go_ret
    exact ⟨ret_int HR.out.symm, hBB1⟩

set_option maxHeartbeats 2000000 in
/-- A version is like itself, wherever the two lie. -/
theorem eqSnapshot_same (v v' : Value) (s : Sn) (w : World) (hs : s.short) (h : SnA w v s) (h' : SnA w v' s) :
    Calls Try.prog 47 #[v, v'] w fun e w' => e = .returned (.bool true) ∧ Below w.heap.size w w' := by
  obtain ⟨vp, vr, rfl, h1, h2⟩ := h
  obtain ⟨vp', vr', rfl, h1', h2'⟩ := h'
  obtain ⟨l1, l2, _⟩ := hs
  have hB0 : Below w.heap.size w ((w.alloc (.cells #[.int .i64 s.num, vp, vr] 85)).alloc (.cells #[.int .i64 s.num, vp', vr'] 85)) := ((Below.refl _ w).alloc (Nat.le_refl _) _).alloc (by simp) _
  have F1 := (Three.new w (.int .i64 s.num) vp vr 85).below ((Below.refl _ _).alloc (Nat.le_refl _) (.cells #[.int .i64 s.num, vp', vr'] 85))
  have F2 := Three.at (w.alloc (.cells #[.int .i64 s.num, vp, vr] 85)) (.int .i64 s.num) vp' vr' 85 (k := w.heap.size + 1) (by simp)
  have e1 : (s.num != s.num) = false := by simp
  go_enter Try.func47, Try.ntmps47
  go_wp2_with fail
  generalize (w.alloc (.cells #[.int .i64 s.num, vp, vr] 85)).alloc (.cells #[.int .i64 s.num, vp', vr'] 85) = W0 at *
  refine (eqRuleS_any vp vp' s.pol s.pol _ (by omega) (by omega) (h1.below hB0) (h1'.below hB0)).mono ?_
  rintro e w1 ⟨rfl, hB1⟩
  rw [sameS_refl]
  replace F1 := F1.below hB1
  replace F2 := F2.below hB1
  have hBB1 := below_one hB0 hB1
  clear hB1 hB0
  obtain ⟨a0, a1, a2⟩ := F1.c
  obtain ⟨c0, c1, c2⟩ := F2.c
  go_wp2_with fail
  refine (eqIntS_same vr vr' s.rv _ (by omega) (h2.below hBB1) (h2'.below hBB1)).mono ?_
  rintro e w2 ⟨rfl, hB2⟩
  have hBB2 := below_one hBB1 hB2
  clear a0 a1 a2 c0 c1 c2 hB2
  go_wp2_with fail
  go_ret
  exact ⟨rfl, hBB2⟩

set_option maxHeartbeats 2000000 in
theorem toSnapshot_any (v : Value) (s : Sn) (w : World) (hs : s.short) (h : SnA w v s) :
    Calls Try.prog 72 #[v] w fun e w' => ∃ v', e = .returned v' ∧ SnO w' w.heap.size w'.heap.size v' s ∧ Below w.heap.size w w' := by
  obtain ⟨vp, vr, rfl, h1, h2⟩ := h
  obtain ⟨l1, l2, _⟩ := hs
  have hB0' : Below w.heap.size w (((w.alloc (.cells #[.int .i64 s.num, vp, vr] 105)).alloc (.cells #[.int .i64 0, .slice none 0 0, .slice none 0 0] 85)).alloc (.cells #[.int .i64 s.num, .slice none 0 0, .slice none 0 0] 85)) := (((Below.refl _ w).alloc (Nat.le_refl _) _).alloc (by simp) _).alloc (by simp; omega) _
  have F1' := ((Three.new w (.int .i64 s.num) vp vr 105).below ((Below.refl _ _).alloc (Nat.le_refl _) (.cells #[.int .i64 0, .slice none 0 0, .slice none 0 0] 85))).below ((Below.refl _ _).alloc (Nat.le_refl _) (.cells #[.int .i64 s.num, .slice none 0 0, .slice none 0 0] 85))
  have F2' := (Three.at (w.alloc (.cells #[.int .i64 s.num, vp, vr] 105)) (.int .i64 0) (.slice none 0 0) (.slice none 0 0) 85 (k := w.heap.size + 1) (by simp)).below ((Below.refl _ _).alloc (Nat.le_refl _) (.cells #[.int .i64 s.num, .slice none 0 0, .slice none 0 0] 85))
  have F3' := Three.at ((w.alloc (.cells #[.int .i64 s.num, vp, vr] 105)).alloc (.cells #[.int .i64 0, .slice none 0 0, .slice none 0 0] 85)) (.int .i64 s.num) (.slice none 0 0) (.slice none 0 0) 85 (k := w.heap.size + 1 + 1) (by simp)
  have hz0 : (((w.alloc (.cells #[.int .i64 s.num, vp, vr] 105)).alloc (.cells #[.int .i64 0, .slice none 0 0, .slice none 0 0] 85)).alloc (.cells #[.int .i64 s.num, .slice none 0 0, .slice none 0 0] 85)).heap.size = w.heap.size + 1 + 1 + 1 := by simp
  have HZ' := hid hz0
  clear hz0
  go_enter Try.func72, Try.ntmps72
  go_wp2_with fail
  generalize ((w.alloc (.cells #[.int .i64 s.num, vp, vr] 105)).alloc (.cells #[.int .i64 0, .slice none 0 0, .slice none 0 0] 85)).alloc (.cells #[.int .i64 s.num, .slice none 0 0, .slice none 0 0] 85) = W0 at *
  refine (toRuleS_any vp s.pol _ l1 (h1.below hB0')).mono ?_
  rintro e w1 ⟨v1, rfl, o1, hB1⟩
  obtain ⟨a1', m1', c1', hv1⟩ := row_slice o1
  subst hv1
  replace F1 := F1'.below hB1
  replace F2 := F2'.below hB1
  replace F3 := F3'.below hB1
  have hBB1 := below_one hB0' hB1
  clear hB1 hB0' F1' F2' F3'
  obtain ⟨a0, a1, a2⟩ := F1.c
  obtain ⟨c0, c1, c2⟩ := F3.c
  have f1 := F3.f 1
  go_wp2_with fail
  have F2' := F2.other (k' := w.heap.size + 1 + 1) (by omega) 1 (.slice a1' m1' c1')
  have F3' := F3.s1 (.slice a1' m1' c1')
  have hB1' := hBB1.setCell (p := ⟨w.heap.size + 1 + 1, 1, none⟩) (by simp; omega) (.slice a1' m1' c1')
  have o1' := ownsRow_setCell_below o1 (a := ⟨w.heap.size + 1 + 1, 1, none⟩) (by rw [HZ'.out]; simp) (.slice a1' m1' c1')
  clear F1 F2 F3 hBB1 o1 a0 a1 a2 c0 c1 c2 f1
  generalize w1.setCell ⟨w.heap.size + 1 + 1, 1, none⟩ (.slice a1' m1' c1') = W1 at *
  refine (toIntS_any vr s.rv _ l2 (h2.below hB1')).mono ?_
  rintro e w2 ⟨v2, rfl, o2, hB2⟩
  obtain ⟨a2', m2', c2', hv2⟩ := row_slice o2
  subst hv2
  have z1 := hB1'.size
  replace F2 := F2'.below hB2
  replace F3 := F3'.below hB2
  replace o1 := ownsRow_below o1' hB2
  have hBB2 := below_one hB1' hB2
  have hl3 := F3'.lt
  have hl2 := F2'.lt
  clear hB2 hB1' F2' F3' o1'
  obtain ⟨b0, b1, b2⟩ := F2.c
  obtain ⟨c0, c1, c2⟩ := F3.c
  have f2 := F3.f 2
  have g0 := F2.f 0
  have g1 := F2.f 1
  have g2 := F2.f 2
  have o1' := ownsRow_setCell_below o1 (a := ⟨w.heap.size + 1 + 1, 2, none⟩) (by rw [HZ'.out]; simp) (.slice a2' m2' c2')
  have o2' := ownsRow_setCell_below o2 (a := ⟨w.heap.size + 1 + 1, 2, none⟩) hl3 (.slice a2' m2' c2')
  have hBB' := hBB2.setCell (p := ⟨w.heap.size + 1 + 1, 2, none⟩) (by simp; omega) (.slice a2' m2' c2')
  go_wp2_with fail
  have G := (((F2.other (k' := w.heap.size + 1 + 1) (by omega) 2 (.slice a2' m2' c2')).s0 (.int .i64 s.num)).s1 (.slice a1' m1' c1')).s2 (.slice a2' m2' c2')
  have p1 := row_three o1' (k := w.heap.size + 1) (by rw [HZ'.out]; omega) (.int .i64 s.num) (.slice a1' m1' c1') (.slice a2' m2' c2')
  have p2 := row_three o2' (k := w.heap.size + 1) hl2 (.int .i64 s.num) (.slice a1' m1' c1') (.slice a2' m2' c2')
  have pB := below_three hBB' (k := w.heap.size + 1) (by omega) (.int .i64 s.num) (.slice a1' m1' c1') (.slice a2' m2' c2')
  have hW0 : w.heap.size ≤ W0.heap.size := by rw [HZ'.out]; omega
  generalize (((w2.setCell ⟨w.heap.size + 1 + 1, 2, none⟩ (.slice a2' m2' c2')).setCell ⟨w.heap.size + 1, 0, none⟩ (.int .i64 s.num)).setCell ⟨w.heap.size + 1, 1, none⟩ (.slice a1' m1' c1')).setCell ⟨w.heap.size + 1, 2, none⟩ (.slice a2' m2' c2') = W4 at *
  obtain ⟨d0, d1, d2⟩ := G.c
  exact bodyPost_ret (v := .agg #[.int .i64 s.num, (.slice a1' m1' c1'), (.slice a2' m2' c2')]) (by simp [results, Try.results72, go_sem, d0, d1, d2]) rfl ⟨_, rfl, SnO.of (Go.Joins.ownsRow_le p1 hW0) (Go.Joins.ownsRow_le p2 z1), pB⟩

/-- What lies in a version that was marked. -/
def mkSn (k : Nat) (s : Sn) : Sn := ⟨s.num, mkL k s.pol.length, mkN (k + 4 * s.pol.length) s.rv.length⟩
def Sn.many (s : Sn) : Nat := 4 * s.pol.length + s.rv.length

end Go.Proofs.Ytnbojbcljfiamaa

namespace Go.Proofs.Ytnbojbcljfiamaa
open Go.RowKit Go.Shelf

abbrev bls (bs : List Bool) : List Value := bs.map Value.bool
theorem bls_len (bs : List Bool) : (bls bs).length = bs.length := List.length_map _
theorem VS.bol {w : World} {a : Option Addr} {n cap : Nat} {bs : List Bool} (h : VS w (.slice a n cap) (bls bs)) {i : Nat} (hi : i < bs.length) : ∃ b off, a = some ⟨b, off, none⟩ ∧ b < w.heap.size ∧ n ≤ cap ∧ w.cell? ⟨b, off + i, none⟩ = some (.bool bs[i]) := by
  obtain ⟨b, off, h1, h2, h3, h4⟩ := h.at (i := i) (by rw [bls_len]; exact hi)
  exact ⟨b, off, h1, h2, h3, by rw [h4, List.getElem_map]⟩
theorem VS.bolLen {w : World} {v : Value} {bs : List Bool} (h : VS w v (bls bs)) : ∃ a cap, v = .slice a bs.length cap := by
  have := h.len
  rwa [bls_len] at this
theorem infoBool : (Try.prog.info? 4).map (fun i => (i.zero, i.size, i.bytes)) = some (some (.bool false), 1, 1) := by kernel_rfl
/-- A list of yes and no that can be read, by an address or none at all. -/
def BoR (w : World) (v : Value) (bs : List Bool) : Prop :=
  (v = .slice none 0 0 ∧ bs = []) ∨ ∃ b off cap, v = .slice (some ⟨b, off, none⟩) bs.length cap ∧ b < w.heap.size ∧ bs.length ≤ cap ∧ ∀ k (h : k < bs.length), w.cell? ⟨b, off + k, none⟩ = some (.bool bs[k])
theorem BoR.s {w : World} {v : Value} {bs : List Bool} (h : BoR w v bs) : VS w v (bls bs) := by
  rcases h with ⟨rfl, rfl⟩ | ⟨b, off, cap, rfl, hb, hl, hc⟩
  · exact .inl ⟨_, _, rfl, rfl⟩
  · refine .inr ⟨b, off, cap, by rw [bls_len], hb, by rw [bls_len]; exact hl, fun k hk => ?_⟩
    rw [bls_len] at hk
    rw [hc k hk]
    simp [bls]
theorem BoR.below {w w' : World} {v : Value} {bs : List Bool} (h : BoR w v bs) (hB : Below w.heap.size w w') : BoR w' v bs := by
  rcases h with h | ⟨b, off, cap, hv, hb, hl, hc⟩
  · exact .inl h
  · exact .inr ⟨b, off, cap, hv, Nat.lt_of_lt_of_le hb hB.size, hl, fun k hk => (hB.cell (p := ⟨b, off + k, none⟩) hb).trans (hc k hk)⟩
theorem BoR.own {w : World} {base : Nat} {v : Value} {bs : List Bool} (h : w.ownsRow base 4 1 v bs.length (bls bs)) : BoR w v bs := by
  rcases row_form h with ⟨rfl, h0⟩ | ⟨g, cap, rfl, _, hc⟩
  · exact .inl ⟨rfl, List.eq_nil_of_length_eq_zero h0⟩
  · refine .inr ⟨g, 0, cap, rfl, (h.lt g rfl).2, hc, fun k hk => ?_⟩
    rw [Nat.zero_add, h.cellAt k (by omega)]
    simp [bls, hk]


set_option maxRecDepth 100000 in
open Go.Deep Go.ChangeShapes Go.WideShapes Go.Joins in
/-- A list of numbers that comes in. -/
theorem openBoS {H : Type} {enc : TypeId × Value → H} {W : World} {a : Option Addr} {n c : Nat} {d : DataW H} {p : List MemPlace} (h : DataW.Trod enc Try.prog W 0 (fun _ => true) true 87 (.slice a n c) d p) :
    ∃ zs : List Bool, VS W (.slice a n c) (bls zs) ∧ zs.length = n ∧ n ≤ maxLen := by
  obtain ⟨fuel, hf⟩ := h
  have c2 : Try.prog.cellsOf 4 = 1 := by kernel_rfl
  rcases open_slice Try.underlying87 hf with ⟨hcs, _⟩ | ⟨x, len, cap, m, k, D, Pl, hcs, _, hl, hm, hmm, _, hx⟩
  · simp [Value.cells] at hcs
    obtain ⟨rfl, rfl, rfl⟩ := hcs
    exact ⟨[], .inl ⟨_, _, rfl, rfl⟩, rfl, Nat.zero_le _⟩
  · simp [Value.cells] at hcs
    obtain ⟨rfl, rfl, rfl⟩ := hcs
    have hlm : n ≤ m := by rw [hmm]; simpa using hl
    have each : ∀ i, i < n → ∃ r : Bool, W.cell? (x.add i) = some (.bool r) := by
      intro i hi
      obtain ⟨cs', h1, h2⟩ := hx i (by omega)
      rw [c2, Nat.mul_one] at h1
      obtain ⟨_, hlen, hcell⟩ := World.cells?_some h1
      obtain ⟨x0, f0, _⟩ := DataW.trod_bool Try.underlying4 h2
      subst f0
      have e0 := hcell 0 (by omega)
      rw [add_add] at e0
      exact ⟨x0, by simpa using e0⟩
    have hin : Inhabited Bool := ⟨false⟩
    obtain ⟨q, hq⟩ := choose_lt each
    by_cases h0 : n = 0
    · subst h0
      exact ⟨[], .inl ⟨_, _, rfl, rfl⟩, rfl, Nat.zero_le _⟩
    · obtain ⟨b, off, spot⟩ := x
      have hs : spot = none := by simpa [Addr.add] using World.cell?_spot (hq 0 (by omega))
      subst hs
      have hlt : b < W.heap.size := by
        have := hq 0 (by omega)
        rw [Addr.add_lit] at this
        by_cases hb : b < W.heap.size
        · exact hb
        · simp only [World.cell?] at this
          rw [Array.getElem?_eq_none (by omega)] at this
          cases this
      refine ⟨(List.range n).map q, .inr ⟨b, off, c, by simp [bls], hlt, by simpa [bls] using hl, fun k hk => ?_⟩, by simp, by omega⟩
      have hk' : k < n := by simpa [bls] using hk
      have := hq k hk'
      simp only [Addr.add_lit] at this
      simpa [bls] using this

open Go.Deep Go.ChangeShapes Go.WideShapes Go.Joins in
theorem openBoR {H : Type} {enc : TypeId × Value → H} {W : World} {c0 : Value} {d : DataW H × List MemPlace} {fuel : Nat} (hf : DataW.trod enc Try.prog W 0 (fun _ => true) true fuel 87 [c0] = some d) :
    ∃ (a : Option Addr) (n c : Nat) (zs : List Bool), c0 = .slice a n c ∧ VS W (.slice a n c) (bls zs) ∧ zs.length = n ∧ n ≤ maxLen := by
  have hs : ∃ a n c, c0 = .slice a n c := by
    rcases open_slice Try.underlying87 hf with ⟨hcs, _⟩ | ⟨x, n, c, m, k, D, Pl, hcs, _⟩
    · simp at hcs; exact ⟨_, _, _, hcs⟩
    · simp at hcs; exact ⟨_, _, _, hcs⟩
  obtain ⟨a, n, c, rfl⟩ := hs
  obtain ⟨zs, h⟩ := openBoS (a := a) (n := n) (c := c) (d := d.1) (p := d.2) ⟨fuel, hf⟩
  exact ⟨a, n, c, zs, rfl, h⟩

set_option maxHeartbeats 1000000 in
theorem szBoolS_any (v : Value) (zs : List Bool) (n : Int) (w : World) (h0 : 0 ≤ n) (h1 : n ≤ 1048576) (hm : zs.length ≤ maxLen) (hr : VS w v (bls zs)) :
    Calls Try.prog 98 #[v, .int .i64 n] w fun e w' => e = .returned (.int .i64 (left1 n zs.length)) ∧ Below w.heap.size w w' := by
  obtain ⟨a, cap, rfl⟩ := hr.bolLen
  unfold maxLen at hm
  by_cases c0 : n < zs.length
  · have HR := hid (show left1 n zs.length = -1 from if_neg (by omega))
    go_enter Try.func98, Try.ntmps98
    go_wp2
    go_ret
    exact ⟨ret_int HR.out.symm, Below.refl _ _⟩
  · have HR := hid (show left1 n zs.length = n - zs.length from if_pos (by omega))
    have d0 : decide (n - (zs.length : Int) < 0) = false := by simp; omega
    go_enter Try.func98, Try.ntmps98
    go_wp2
    go_ret
    exact ⟨ret_int HR.out.symm, Below.refl _ _⟩

set_option maxHeartbeats 1000000 in
/-- A list of numbers is like itself, wherever the two lie. -/
theorem eqBoolS_same (v v' : Value) (zs : List Bool) (w : World) (hn : zs.length ≤ 1048577) (hr : VS w v (bls zs)) (hr' : VS w v' (bls zs)) :
    Calls Try.prog 95 #[v, v'] w fun e w' => e = .returned (.bool true) ∧ Below w.heap.size w w' := by
  obtain ⟨a, cap, rfl⟩ := hr.bolLen
  obtain ⟨a', cap', rfl⟩ := hr'.bolLen
  have e0 : ((zs.length : Int) != (zs.length : Int)) = false := by simp
  go_enter Try.func95, Try.ntmps95
  go_wp2
  go_loopw [5] (fun i wr => ∃ j : Nat, j ≤ zs.length ∧ i = .int .i64 j ∧ Below w.heap.size w wr) (fun i _ => zs.length - (intOf i).toNat)
  case atStart => exact ⟨0, Nat.zero_le _, rfl, Below.refl _ _⟩
  case round =>
    obtain ⟨j, hj, rfl, hB⟩ := hrel
    by_cases hlt : j < zs.length
    · obtain ⟨b, off, rfl, hb, hcap, q0⟩ := (hr.below hB).bol hlt
      obtain ⟨b', off', rfl, hb', hcap', q1⟩ := (hr'.below hB).bol hlt
      generalize zs[j] = x at q0 q1
      go_wp2_with fail
      go_quiet (fail)
      go_wp2
      go_roundw
      case rel => first | exact ⟨j + 1, by omega, by go_num, below_drewn hB _⟩ | ((repeat apply Exists.intro); exact ⟨⟨j + 1, by omega, by go_num, below_drewn hB _⟩, rfl⟩)
      case measure => simp [intOf]; omega
    · obtain rfl : j = zs.length := by omega
      go_wp2
      go_ret
      exact ⟨rfl, hB⟩

set_option maxHeartbeats 1000000 in
theorem toBoolS_any (v : Value) (zs : List Bool) (w : World) (hm : zs.length ≤ 1048576) (hr : VS w v (bls zs)) :
    Calls Try.prog 102 #[v] w fun e w' => ∃ v', e = .returned v' ∧ w'.ownsRow w.heap.size 4 1 v' zs.length (bls zs) ∧ Below w.heap.size w w' := by
  obtain ⟨a, cap, rfl⟩ := hr.bolLen
  obtain ⟨i0, hi, hz0, hz1, hz2⟩ := info_parts infoBool
  go_enter Try.func102, Try.ntmps102
  go_wp2_with (at_make; refine wpList_make_full _ rfl _ _ 87 rfl w.heap.size 4 i0 _ 1 Try.underlying87 hi hz0 hz1 _ _ _ _ zs.length rfl rfl rfl rfl (by rw [hz2]; omega) (by unfold maxLen; omega) (Nat.le_refl _) ?_; intro w1 hown hgrow)
  have hB1 : Below w.heap.size w w1 := (Below.refl _ w).grown hgrow (Nat.le_refl _) (fun k e => by cases e)
  go_loopw [4] (fun i wr => ∃ k : Nat, k ≤ zs.length ∧ i = .int .i64 k ∧ ∃ xs, wr.ownsRow w.heap.size 4 1 (.slice (some ⟨w.heap.size, 0, none⟩) zs.length zs.length) zs.length xs ∧ xs.take k = bls (zs.take k) ∧ Below w.heap.size w wr) (fun i _ => zs.length - (intOf i).toNat)
  case atStart => exact ⟨0, Nat.zero_le _, rfl, _, hown, by simp, hB1⟩
  case round =>
    obtain ⟨k, hk, rfl, xs, hrow, hx, hB⟩ := hrel
    have HX := hid hx
    clear hx
    by_cases hlt : k < zs.length
    · obtain ⟨b, off, rfl, hb, hcap, q0⟩ := (hr.below hB).bol hlt
      have HT := hid (List.take_succ_eq_append_getElem hlt)
      generalize zs[k] = r at *
      have hlen : xs.length = zs.length := by have := hrow.1; omega
      have s0 := hrow.cellAt k (by omega)
      rw [List.getElem?_eq_getElem (by omega)] at s0
      have t0 := hrow.frozenAt k
      generalize xs[k] = y0 at *
      go_wp2
      go_roundw
      case rel =>
        refine ⟨k + 1, by omega, by go_num, _, (hrow.stored k (.bool r)).1, ?_, hB.setCell (p := ⟨w.heap.size, _, none⟩) (Nat.le_refl _) _⟩
        rw [take_one _ _ _ (by omega), HX.out, HT.out]
        simp [bls]
      case measure => simp [intOf]; omega
    · obtain rfl : k = zs.length := by omega
      have HF := hid (show xs = bls zs by have := HX.out; rw [List.take_of_length_le (by have := hrow.1; omega), List.take_length] at this; exact this)
      go_wp2
      go_ret
      exact ⟨_, rfl, by rw [← HF.out]; exact hrow, hB⟩

def mkY (k n : Nat) : List Bool := (List.range n).map (fun i => ((k + i : Nat) : Int) % 3 == 0)
theorem mkY_len (k n : Nat) : (mkY k n).length = n := by simp [mkY]
theorem mkY_succ (k n : Nat) : mkY k (n + 1) = mkY k n ++ [((k + n : Nat) : Int) % 3 == 0] := by
  unfold mkY
  rw [List.range_succ, List.map_append]
  rfl
theorem mkY_at {k n i : Nat} (h : i < (mkY k n).length) : (mkY k n)[i] = (((k + i : Nat) : Int) % 3 == 0) := by simp [mkY]

set_option maxHeartbeats 1000000 in
theorem markBoolS_to (v : Value) (n k base : Nat) (xs : List Value) (w : World) (hn : n ≤ 1048577) (hk : k + n ≤ 8000000) (hrow : w.ownsRow base 4 1 v n xs) :
    Calls Try.prog 53 #[v, .int .i64 k] w fun e w' => e = .returned (.int .i64 ((k + n : Nat) : Int)) ∧ w'.ownsRow base 4 1 v n (bls (mkY k n)) ∧ w.grownBy w' v.ownBlock := by
  rcases row_form hrow with ⟨rfl, rfl⟩ | ⟨g, cap, rfl, hg, hcap⟩
  · go_enter Try.func53, Try.ntmps53
    go_wp2
    refine wp_loop_rounds 1 ?_
    rw [rounds_succ]
    go_wp2
    go_ret
    exact ⟨rfl, World.ownsRow_nil _ _ _ _, grown_self _ _⟩
  · go_enter Try.func53, Try.ntmps53
    go_wp2
    go_loopw [1, 5] (fun kv i wr => ∃ (j c : Nat), j ≤ n ∧ c = k + j ∧ kv = .int .i64 c ∧ i = .int .i64 j ∧ ∃ ys, wr.ownsRow base 4 1 (.slice (some ⟨g, 0, none⟩) n cap) n ys ∧ ys.take j = bls (mkY k j) ∧ w.grownBy wr (some g)) (fun _ i _ => n - (intOf i).toNat)
    case atStart => exact ⟨0, k, Nat.zero_le _, by omega, rfl, rfl, xs, hrow, by simp [mkY], grown_self _ _⟩
    case round =>
      obtain ⟨j, c, hj, hc, rfl, rfl, ys, row0, hx, hg0⟩ := hrel
      have HX := hid hx
      have HC := hid hc
      clear hx hc hrow
      have hc9 : c ≤ 8000000 := by have := HC.out; omega
      by_cases hlt : j < n
      · have hlen : ys.length = n := by have := row0.1; omega
        have s0 := row0.cellAt j (by omega)
        rw [List.getElem?_eq_getElem (by omega)] at s0
        have t0 := row0.frozenAt j
        have P0 := row0.stored j (.bool ((c : Int) % 3 == 0))
        have HM := hid (show bls (mkY k (j + 1)) = bls (mkY k j) ++ [.bool ((c : Int) % 3 == 0)] by rw [mkY_succ, ← HC.out]; simp [bls])
        go_wp2
        go_roundw
        case rel =>
          refine ⟨j + 1, c + 1, by omega, by have := HC.out; omega, by go_num, by go_num, _, P0.1, ?_, grown_two hg0 P0.2⟩
          rw [take_one _ _ _ (by omega), HX.out, HM.out]
        case measure => simp [intOf]; omega
      · obtain rfl : j = n := by omega
        have HF := hid (show ys = bls (mkY k j) by have := HX.out; rw [List.take_of_length_le (by have := row0.1; omega)] at this; exact this)
        go_wp2
        go_ret
        exact ⟨ret_int (by rw [HC.out]), by rw [← HF.out]; exact row0, hg0⟩

set_option maxHeartbeats 1000000 in
theorem heldBoolS_to (v : Value) (n k : Nat) (w : World) (hn : n ≤ 1048577) (hk : k + n ≤ 8000000) (hr : VS w v (bls (mkY k n))) :
    Calls Try.prog 60 #[v, .int .i64 k] w fun e w' => e = .returned (.int .i64 ((k + n : Nat) : Int)) ∧ Below w.heap.size w w' := by
  obtain ⟨a, cap, rfl⟩ := hr.bolLen
  have hln := mkY_len k n
  rw [hln] at hr ⊢
  clear hln
  go_enter Try.func60, Try.ntmps60
  go_wp2
  go_loopw [1, 5] (fun kv i wr => ∃ (j c : Nat), j ≤ n ∧ c = k + j ∧ kv = .int .i64 c ∧ i = .int .i64 j ∧ Below w.heap.size w wr) (fun _ i _ => n - (intOf i).toNat)
  case atStart => exact ⟨0, k, Nat.zero_le _, by omega, rfl, rfl, Below.refl _ _⟩
  case round =>
    obtain ⟨j, c, hj, hc, rfl, rfl, hB⟩ := hrel
    have HC := hid hc
    clear hc
    have hc9 : c ≤ 8000000 := by have := HC.out; omega
    by_cases hlt : j < n
    · obtain ⟨b, off, rfl, hb, hcap, q0⟩ := (hr.below hB).bol (i := j) (by rw [mkY_len]; exact hlt)
      rw [mkY_at, ← HC.out] at q0
      clear hr
      cases hq : ((c : Int) % 3 == 0)
      all_goals
        rw [hq] at q0
        go_wp2
        go_roundw
        case rel => exact ⟨j + 1, c + 1, by omega, by have := HC.out; omega, by go_num, by go_num, hB⟩
        case measure => simp [intOf]; omega
    · obtain rfl : j = n := by omega
      go_wp2
      go_ret
      exact ⟨ret_int (by rw [HC.out]), hB⟩

end Go.Proofs.Ytnbojbcljfiamaa

namespace Go.Proofs.Ytnbojbcljfiamaa
open Go.RowKit Go.Shelf

/-- 6 cells that are a block of their own. -/
def Six (w : World) (t : TypeId) (k : Nat) (a b c d e f : Value) : Prop := w.ownsRow k t 6 (.slice (some ⟨k, 0, none⟩) 1 1) 1 [a, b, c, d, e, f]
theorem Six.at (w : World) (a b c d e f : Value) (t : TypeId) {k : Nat} (hk : k = w.heap.size) : Six (w.alloc (.cells #[a, b, c, d, e, f] t)) t k a b c d e f := by
  subst hk
  exact ⟨rfl, .inr ⟨w.heap.size, 1, #[a, b, c, d, e, f], rfl, Nat.le_refl _, by show (w.heap.push _)[w.heap.size]? = _; rw [Array.getElem?_push_size], Nat.le_refl _, by unfold maxLen; omega, rfl, rfl⟩⟩
theorem Six.new (w : World) (a b c d e f : Value) (t : TypeId) : Six (w.alloc (.cells #[a, b, c, d, e, f] t)) t w.heap.size a b c d e f := Six.at w a b c d e f t rfl
theorem Six.below {w' : World} {w : World} {t : TypeId} {k : Nat} {a b c d e f : Value} (h : Six w t k a b c d e f) (hB : Below w.heap.size w w') : Six w' t k a b c d e f := ownsRow_below h hB
theorem Six.c {w : World} {t : TypeId} {k : Nat} {a b c d e f : Value} (h : Six w t k a b c d e f) : w.cell? ⟨k, 0, none⟩ = some a ∧ w.cell? ⟨k, 1, none⟩ = some b ∧ w.cell? ⟨k, 2, none⟩ = some c ∧ w.cell? ⟨k, 3, none⟩ = some d ∧ w.cell? ⟨k, 4, none⟩ = some e ∧ w.cell? ⟨k, 5, none⟩ = some f :=
  ⟨World.ownsRow.cellAt h 0 (by omega), World.ownsRow.cellAt h 1 (by omega), World.ownsRow.cellAt h 2 (by omega), World.ownsRow.cellAt h 3 (by omega), World.ownsRow.cellAt h 4 (by omega), World.ownsRow.cellAt h 5 (by omega)⟩
theorem Six.f {w : World} {t : TypeId} {k : Nat} {a b c d e f : Value} (h : Six w t k a b c d e f) (j : Nat) : w.frozen? ⟨k, j, none⟩ = false := World.ownsRow.frozenAt h j
theorem Six.s0 {w : World} {t : TypeId} {k : Nat} {a b c d e f : Value} (h : Six w t k a b c d e f) (x : Value) : Six (w.setCell ⟨k, 0, none⟩ x) t k x b c d e f := (World.ownsRow.stored h 0 x).1
theorem Six.s1 {w : World} {t : TypeId} {k : Nat} {a b c d e f : Value} (h : Six w t k a b c d e f) (x : Value) : Six (w.setCell ⟨k, 1, none⟩ x) t k a x c d e f := (World.ownsRow.stored h 1 x).1
theorem Six.s2 {w : World} {t : TypeId} {k : Nat} {a b c d e f : Value} (h : Six w t k a b c d e f) (x : Value) : Six (w.setCell ⟨k, 2, none⟩ x) t k a b x d e f := (World.ownsRow.stored h 2 x).1
theorem Six.s3 {w : World} {t : TypeId} {k : Nat} {a b c d e f : Value} (h : Six w t k a b c d e f) (x : Value) : Six (w.setCell ⟨k, 3, none⟩ x) t k a b c x e f := (World.ownsRow.stored h 3 x).1
theorem Six.s4 {w : World} {t : TypeId} {k : Nat} {a b c d e f : Value} (h : Six w t k a b c d e f) (x : Value) : Six (w.setCell ⟨k, 4, none⟩ x) t k a b c d x f := (World.ownsRow.stored h 4 x).1
theorem Six.s5 {w : World} {t : TypeId} {k : Nat} {a b c d e f : Value} (h : Six w t k a b c d e f) (x : Value) : Six (w.setCell ⟨k, 5, none⟩ x) t k a b c d e x := (World.ownsRow.stored h 5 x).1
theorem Six.other {w : World} {t : TypeId} {k : Nat} {a b c d e f : Value} (h : Six w t k a b c d e f) {k' : Nat} (hk : k ≠ k') (j : Nat) (x : Value) : Six (w.setCell ⟨k', j, none⟩ x) t k a b c d e f := ownsRow_setCell_other h (by simpa [Value.ownBlock] using hk) x
theorem Six.lt {w : World} {t : TypeId} {k : Nat} {a b c d e f : Value} (h : Six w t k a b c d e f) : k < w.heap.size := (World.ownsRow.lt h k rfl).2
theorem Mid.six {lo hi : Nat} {w1 : World} {w : World} {t : TypeId} {k : Nat} {a b c d e f : Value} (h : Mid lo hi w w1) (hr : Six w t k a b c d e f) (ho : k < lo ∨ hi ≤ k) : Six w1 t k a b c d e f :=
  h.row hr (fun j hj => by simp [Value.ownBlock] at hj; omega)
theorem row_six {w : World} {base : Nat} {e : TypeId} {size n : Nat} {v : Value} {xs : List Value} (h : w.ownsRow base e size v n xs) {k : Nat} (hk : k < base) (x0 x1 x2 x3 x4 x5 : Value) : ((((((w.setCell ⟨k, 0, none⟩ x0).setCell ⟨k, 1, none⟩ x1).setCell ⟨k, 2, none⟩ x2).setCell ⟨k, 3, none⟩ x3).setCell ⟨k, 4, none⟩ x4).setCell ⟨k, 5, none⟩ x5).ownsRow base e size v n xs :=
  (ownsRow_setCell_below (ownsRow_setCell_below (ownsRow_setCell_below (ownsRow_setCell_below (ownsRow_setCell_below (ownsRow_setCell_below h (a := ⟨k, 0, none⟩) hk x0) (a := ⟨k, 1, none⟩) hk x1) (a := ⟨k, 2, none⟩) hk x2) (a := ⟨k, 3, none⟩) hk x3) (a := ⟨k, 4, none⟩) hk x4) (a := ⟨k, 5, none⟩) hk x5)
theorem below_six {n k : Nat} {w W : World} (h : Below n w W) (hk : n ≤ k) (x0 x1 x2 x3 x4 x5 : Value) : Below n w ((((((W.setCell ⟨k, 0, none⟩ x0).setCell ⟨k, 1, none⟩ x1).setCell ⟨k, 2, none⟩ x2).setCell ⟨k, 3, none⟩ x3).setCell ⟨k, 4, none⟩ x4).setCell ⟨k, 5, none⟩ x5) :=
  ((((((h.setCell (p := ⟨k, 0, none⟩) hk x0).setCell (p := ⟨k, 1, none⟩) hk x1).setCell (p := ⟨k, 2, none⟩) hk x2).setCell (p := ⟨k, 3, none⟩) hk x3).setCell (p := ⟨k, 4, none⟩) hk x4).setCell (p := ⟨k, 5, none⟩) hk x5)

/-- 7 cells that are a block of their own. -/
def Seven (w : World) (t : TypeId) (k : Nat) (a b c d e f g : Value) : Prop := w.ownsRow k t 7 (.slice (some ⟨k, 0, none⟩) 1 1) 1 [a, b, c, d, e, f, g]
theorem Seven.at (w : World) (a b c d e f g : Value) (t : TypeId) {k : Nat} (hk : k = w.heap.size) : Seven (w.alloc (.cells #[a, b, c, d, e, f, g] t)) t k a b c d e f g := by
  subst hk
  exact ⟨rfl, .inr ⟨w.heap.size, 1, #[a, b, c, d, e, f, g], rfl, Nat.le_refl _, by show (w.heap.push _)[w.heap.size]? = _; rw [Array.getElem?_push_size], Nat.le_refl _, by unfold maxLen; omega, rfl, rfl⟩⟩
theorem Seven.new (w : World) (a b c d e f g : Value) (t : TypeId) : Seven (w.alloc (.cells #[a, b, c, d, e, f, g] t)) t w.heap.size a b c d e f g := Seven.at w a b c d e f g t rfl
theorem Seven.below {w' : World} {w : World} {t : TypeId} {k : Nat} {a b c d e f g : Value} (h : Seven w t k a b c d e f g) (hB : Below w.heap.size w w') : Seven w' t k a b c d e f g := ownsRow_below h hB
theorem Seven.c {w : World} {t : TypeId} {k : Nat} {a b c d e f g : Value} (h : Seven w t k a b c d e f g) : w.cell? ⟨k, 0, none⟩ = some a ∧ w.cell? ⟨k, 1, none⟩ = some b ∧ w.cell? ⟨k, 2, none⟩ = some c ∧ w.cell? ⟨k, 3, none⟩ = some d ∧ w.cell? ⟨k, 4, none⟩ = some e ∧ w.cell? ⟨k, 5, none⟩ = some f ∧ w.cell? ⟨k, 6, none⟩ = some g :=
  ⟨World.ownsRow.cellAt h 0 (by omega), World.ownsRow.cellAt h 1 (by omega), World.ownsRow.cellAt h 2 (by omega), World.ownsRow.cellAt h 3 (by omega), World.ownsRow.cellAt h 4 (by omega), World.ownsRow.cellAt h 5 (by omega), World.ownsRow.cellAt h 6 (by omega)⟩
theorem Seven.f {w : World} {t : TypeId} {k : Nat} {a b c d e f g : Value} (h : Seven w t k a b c d e f g) (j : Nat) : w.frozen? ⟨k, j, none⟩ = false := World.ownsRow.frozenAt h j
theorem Seven.s0 {w : World} {t : TypeId} {k : Nat} {a b c d e f g : Value} (h : Seven w t k a b c d e f g) (x : Value) : Seven (w.setCell ⟨k, 0, none⟩ x) t k x b c d e f g := (World.ownsRow.stored h 0 x).1
theorem Seven.s1 {w : World} {t : TypeId} {k : Nat} {a b c d e f g : Value} (h : Seven w t k a b c d e f g) (x : Value) : Seven (w.setCell ⟨k, 1, none⟩ x) t k a x c d e f g := (World.ownsRow.stored h 1 x).1
theorem Seven.s2 {w : World} {t : TypeId} {k : Nat} {a b c d e f g : Value} (h : Seven w t k a b c d e f g) (x : Value) : Seven (w.setCell ⟨k, 2, none⟩ x) t k a b x d e f g := (World.ownsRow.stored h 2 x).1
theorem Seven.s3 {w : World} {t : TypeId} {k : Nat} {a b c d e f g : Value} (h : Seven w t k a b c d e f g) (x : Value) : Seven (w.setCell ⟨k, 3, none⟩ x) t k a b c x e f g := (World.ownsRow.stored h 3 x).1
theorem Seven.s4 {w : World} {t : TypeId} {k : Nat} {a b c d e f g : Value} (h : Seven w t k a b c d e f g) (x : Value) : Seven (w.setCell ⟨k, 4, none⟩ x) t k a b c d x f g := (World.ownsRow.stored h 4 x).1
theorem Seven.s5 {w : World} {t : TypeId} {k : Nat} {a b c d e f g : Value} (h : Seven w t k a b c d e f g) (x : Value) : Seven (w.setCell ⟨k, 5, none⟩ x) t k a b c d e x g := (World.ownsRow.stored h 5 x).1
theorem Seven.s6 {w : World} {t : TypeId} {k : Nat} {a b c d e f g : Value} (h : Seven w t k a b c d e f g) (x : Value) : Seven (w.setCell ⟨k, 6, none⟩ x) t k a b c d e f x := (World.ownsRow.stored h 6 x).1
theorem Seven.other {w : World} {t : TypeId} {k : Nat} {a b c d e f g : Value} (h : Seven w t k a b c d e f g) {k' : Nat} (hk : k ≠ k') (j : Nat) (x : Value) : Seven (w.setCell ⟨k', j, none⟩ x) t k a b c d e f g := ownsRow_setCell_other h (by simpa [Value.ownBlock] using hk) x
theorem Seven.lt {w : World} {t : TypeId} {k : Nat} {a b c d e f g : Value} (h : Seven w t k a b c d e f g) : k < w.heap.size := (World.ownsRow.lt h k rfl).2
theorem Mid.seven {lo hi : Nat} {w1 : World} {w : World} {t : TypeId} {k : Nat} {a b c d e f g : Value} (h : Mid lo hi w w1) (hr : Seven w t k a b c d e f g) (ho : k < lo ∨ hi ≤ k) : Seven w1 t k a b c d e f g :=
  h.row hr (fun j hj => by simp [Value.ownBlock] at hj; omega)
theorem row_seven {w : World} {base : Nat} {e : TypeId} {size n : Nat} {v : Value} {xs : List Value} (h : w.ownsRow base e size v n xs) {k : Nat} (hk : k < base) (x0 x1 x2 x3 x4 x5 x6 : Value) : (((((((w.setCell ⟨k, 0, none⟩ x0).setCell ⟨k, 1, none⟩ x1).setCell ⟨k, 2, none⟩ x2).setCell ⟨k, 3, none⟩ x3).setCell ⟨k, 4, none⟩ x4).setCell ⟨k, 5, none⟩ x5).setCell ⟨k, 6, none⟩ x6).ownsRow base e size v n xs :=
  (ownsRow_setCell_below (ownsRow_setCell_below (ownsRow_setCell_below (ownsRow_setCell_below (ownsRow_setCell_below (ownsRow_setCell_below (ownsRow_setCell_below h (a := ⟨k, 0, none⟩) hk x0) (a := ⟨k, 1, none⟩) hk x1) (a := ⟨k, 2, none⟩) hk x2) (a := ⟨k, 3, none⟩) hk x3) (a := ⟨k, 4, none⟩) hk x4) (a := ⟨k, 5, none⟩) hk x5) (a := ⟨k, 6, none⟩) hk x6)
theorem below_seven {n k : Nat} {w W : World} (h : Below n w W) (hk : n ≤ k) (x0 x1 x2 x3 x4 x5 x6 : Value) : Below n w (((((((W.setCell ⟨k, 0, none⟩ x0).setCell ⟨k, 1, none⟩ x1).setCell ⟨k, 2, none⟩ x2).setCell ⟨k, 3, none⟩ x3).setCell ⟨k, 4, none⟩ x4).setCell ⟨k, 5, none⟩ x5).setCell ⟨k, 6, none⟩ x6) :=
  (((((((h.setCell (p := ⟨k, 0, none⟩) hk x0).setCell (p := ⟨k, 1, none⟩) hk x1).setCell (p := ⟨k, 2, none⟩) hk x2).setCell (p := ⟨k, 3, none⟩) hk x3).setCell (p := ⟨k, 4, none⟩) hk x4).setCell (p := ⟨k, 5, none⟩) hk x5).setCell (p := ⟨k, 6, none⟩) hk x6)

end Go.Proofs.Ytnbojbcljfiamaa

namespace Go.Proofs.Ytnbojbcljfiamaa
open Go.RowKit Go.Shelf

/-- A side. -/
structure Sd where
  fo : Sn
  co : Int
  ru : List Ru
  ha : List Bool
  se : List Int
def Sd.none : Sd := ⟨Sn.none, 0, [], [], []⟩
def SdA (w : World) (v : Value) (s : Sd) : Prop := ∃ vp vr vu vh vs, v = .agg #[.int .i64 s.fo.num, vp, vr, .int .i64 s.co, vu, vh, vs] ∧ RuS w vp s.fo.pol ∧ VS w vr (nums s.fo.rv) ∧ RuS w vu s.ru ∧ VS w vh (bls s.ha) ∧ VS w vs (nums s.se)
def SdR (w : World) (v : Value) (s : Sd) : Prop := ∃ vp vr vu vh vs, v = .agg #[.int .i64 s.fo.num, vp, vr, .int .i64 s.co, vu, vh, vs] ∧ RuR w vp s.fo.pol ∧ NuR w vr s.fo.rv ∧ RuR w vu s.ru ∧ BoR w vh s.ha ∧ NuR w vs s.se
/-- .. of one's own: the version's lists lie in blocks from base on, below m, the others from m on, below top. -/
def SdO (w : World) (base top : Nat) (v : Value) (s : Sd) : Prop :=
  ∃ m vp vr vu vh vs, v = .agg #[.int .i64 s.fo.num, vp, vr, .int .i64 s.co, vu, vh, vs] ∧ base ≤ m ∧ m ≤ top ∧ SnO w base m (.agg #[.int .i64 s.fo.num, vp, vr]) s.fo ∧ w.ownsRow m 135 4 vu s.ru.length (s.ru.flatMap Ru.cells) ∧ w.ownsRow m 4 1 vh s.ha.length (bls s.ha) ∧ w.ownsRow m 3 1 vs s.se.length (nums s.se) ∧ (∀ k, vu.ownBlock = some k → k < top) ∧ (∀ k, vh.ownBlock = some k → k < top) ∧ ∀ k, vs.ownBlock = some k → k < top
theorem SdA.below {w w' : World} {v : Value} {s : Sd} (h : SdA w v s) (hB : Below w.heap.size w w') : SdA w' v s := by
  obtain ⟨vp, vr, vu, vh, vs, rfl, h1, h2, h3, h4, h5⟩ := h
  exact ⟨_, _, _, _, _, rfl, h1.below hB, h2.below hB, h3.below hB, h4.below hB, h5.below hB⟩
theorem SdR.below {w w' : World} {v : Value} {s : Sd} (h : SdR w v s) (hB : Below w.heap.size w w') : SdR w' v s := by
  obtain ⟨vp, vr, vu, vh, vs, rfl, h1, h2, h3, h4, h5⟩ := h
  exact ⟨_, _, _, _, _, rfl, h1.below hB, h2.below hB, h3.below hB, h4.below hB, h5.below hB⟩
theorem SdO.below {w w' : World} {base top : Nat} {v : Value} {s : Sd} (h : SdO w base top v s) (hB : Below w.heap.size w w') : SdO w' base top v s := by
  obtain ⟨m, vp, vr, vu, vh, vs, rfl, hm, ht, h1, h3, h4, h5, t⟩ := h
  exact ⟨m, vp, vr, vu, vh, vs, rfl, hm, ht, h1.below hB, ownsRow_below h3 hB, ownsRow_below h4 hB, ownsRow_below h5 hB, t⟩
theorem SdR.a {w : World} {v : Value} {s : Sd} (h : SdR w v s) : SdA w v s := by
  obtain ⟨vp, vr, vu, vh, vs, rfl, h1, h2, h3, h4, h5⟩ := h
  exact ⟨_, _, _, _, _, rfl, h1.s, h2.s, h3.s, h4.s, h5.s⟩
theorem SdO.r {w : World} {base top : Nat} {v : Value} {s : Sd} (h : SdO w base top v s) : SdR w v s := by
  obtain ⟨m, vp, vr, vu, vh, vs, rfl, hm, ht, ⟨vp', vr', e, h1, h2, _, _⟩, h3, h4, h5, t⟩ := h
  cases e
  exact ⟨_, _, _, _, _, rfl, RuR.own h1, NuR.own h2, RuR.own h3, BoR.own h4, NuR.own h5⟩
theorem SdO.a {w : World} {base top : Nat} {v : Value} {s : Sd} (h : SdO w base top v s) : SdA w v s := h.r.a
theorem SdR.fo {w : World} {vp vr vu vh vs : Value} {s : Sd} (h : SdR w (.agg #[.int .i64 s.fo.num, vp, vr, .int .i64 s.co, vu, vh, vs]) s) : SnR w (.agg #[.int .i64 s.fo.num, vp, vr]) s.fo := by
  obtain ⟨_, _, _, _, _, e, h1, h2, _⟩ := h
  cases e
  exact ⟨_, _, rfl, h1, h2⟩
theorem SdO.mono {w : World} {base base' top top' : Nat} {v : Value} {s : Sd} (h : SdO w base top v s) (hb : base' ≤ base) (ht : top ≤ top') : SdO w base' top' v s := by
  obtain ⟨m, vp, vr, vu, vh, vs, rfl, hm, hmt, h1, h3, h4, h5, t1, t2, t3⟩ := h
  exact ⟨m, vp, vr, vu, vh, vs, rfl, by omega, by omega, h1.mono hb (Nat.le_refl _), h3, h4, h5, fun k hk => Nat.lt_of_lt_of_le (t1 k hk) ht, fun k hk => Nat.lt_of_lt_of_le (t2 k hk) ht, fun k hk => Nat.lt_of_lt_of_le (t3 k hk) ht⟩
theorem Mid.sdo {lo hi : Nat} {w w1 : World} (h : Mid lo hi w w1) {base top : Nat} {v : Value} {s : Sd} (hr : SdO w base top v s) (ho : hi ≤ base ∨ top ≤ lo) : SdO w1 base top v s := by
  obtain ⟨m, vp, vr, vu, vh, vs, rfl, hm, hmt, h1, h3, h4, h5, t1, t2, t3⟩ := hr
  exact ⟨m, vp, vr, vu, vh, vs, rfl, hm, hmt, h.sno h1 (by omega), h.row h3 (fun k hk => by have := h3.lt k hk; have := t1 k hk; omega), h.row h4 (fun k hk => by have := h4.lt k hk; have := t2 k hk; omega), h.row h5 (fun k hk => by have := h5.lt k hk; have := t3 k hk; omega), t1, t2, t3⟩
theorem SdO.none (w : World) (base top : Nat) (h : base ≤ top) : SdO w base top (.agg #[.int .i64 0, .slice none 0 0, .slice none 0 0, .int .i64 0, .slice none 0 0, .slice none 0 0, .slice none 0 0]) Sd.none :=
  ⟨base, _, _, _, _, _, rfl, Nat.le_refl _, h, ⟨_, _, rfl, World.ownsRow_nil _ _ _ _, World.ownsRow_nil _ _ _ _, fun _ h => by simp [Value.ownBlock] at h, fun _ h => by simp [Value.ownBlock] at h⟩, World.ownsRow_nil _ _ _ _, World.ownsRow_nil _ _ _ _, World.ownsRow_nil _ _ _ _, fun _ h => by simp [Value.ownBlock] at h, fun _ h => by simp [Value.ownBlock] at h, fun _ h => by simp [Value.ownBlock] at h⟩
def Sd.fits (s : Sd) : Prop := s.fo.fits ∧ s.ru.length ≤ maxLen ∧ (∀ r ∈ s.ru, r.fits) ∧ s.ha.length ≤ maxLen ∧ s.se.length ≤ maxLen
def Sd.size (s : Sd) : Nat := s.fo.size + szAll s.ru + s.ha.length + s.se.length
def leftSd (n : Int) (s : Sd) : Int := if (s.size : Int) ≤ n then n - s.size else -1
def Sd.short (s : Sd) : Prop := s.fo.short ∧ s.ru.length ≤ 1048576 ∧ s.ha.length ≤ 1048576 ∧ s.se.length ≤ 1048576 ∧ ∀ r ∈ s.ru, r.size ≤ 1048576
theorem Sd.short_of {s : Sd} (h : s.size ≤ 1048576) : s.short := by
  unfold Sd.size szAll at h
  exact ⟨Sn.short_of (by omega), by omega, by omega, by omega, fun r hr => by have := sz_mem hr; omega⟩
theorem sd_forms {w : World} {v : Value} {s : Sd} (h : SdA w v s) : ∃ ap cp ar cr au cu ah ch as' cs, v = .agg #[.int .i64 s.fo.num, .slice ap s.fo.pol.length cp, .slice ar s.fo.rv.length cr, .int .i64 s.co, .slice au s.ru.length cu, .slice ah s.ha.length ch, .slice as' s.se.length cs] := by
  obtain ⟨vp, vr, vu, vh, vs, rfl, h1, h2, h3, h4, h5⟩ := h
  obtain ⟨a1, c1, rfl⟩ := h1.len
  obtain ⟨a2, c2, rfl⟩ := h2.numLen
  obtain ⟨a3, c3, rfl⟩ := h3.len
  obtain ⟨a4, c4, rfl⟩ := h4.bolLen
  obtain ⟨a5, c5, rfl⟩ := h5.numLen
  exact ⟨_, _, _, _, _, _, _, _, _, _, rfl⟩

set_option maxRecDepth 100000 in
theorem cellsSide : Try.prog.cellsOf 108 = 7 := by kernel_rfl
set_option maxRecDepth 100000 in
open Go.Deep Go.ChangeShapes Go.WideShapes Go.ChangeAt Go.Joins in
/-- A side that comes in. -/
theorem openSd {H : Type} {enc : TypeId × Value → H} {W : World} {base : Nat} {v : Value} {y : DataW H} {p : List MemPlace} (hv : Value.okWide Try.prog W .any base 108 v) (h : DataW.Trod enc Try.prog W 0 (fun _ => true) true 108 v y p) :
    ∃ s : Sd, SdA W v s ∧ s.fits := by
  obtain ⟨cs, rfl, hsz⟩ := okWide_struct Try.underlying108 hv
  rw [cellsSide] at hsz
  obtain ⟨l⟩ := cs
  obtain ⟨c0, c1, c2, c3, c4, c5, c6, rfl⟩ : ∃ c0 c1 c2 c3 c4 c5 c6, l = [c0, c1, c2, c3, c4, c5, c6] := by
    match l, hsz with
    | [c0, c1, c2, c3, c4, c5, c6], _ => exact ⟨c0, c1, c2, c3, c4, c5, c6, rfl⟩
  obtain ⟨fuel, hf⟩ := h
  obtain ⟨xs, n, _, _, _, hlen, hfs⟩ := DataW.trod_struct Try.underlying108 hf
  obtain ⟨y0, y1, y2, y3, y4, rfl⟩ : ∃ y0 y1 y2 y3 y4, xs = [y0, y1, y2, y3, y4] := by
    match xs, hlen with
    | [y0, y1, y2, y3, y4], _ => exact ⟨y0, y1, y2, y3, y4, rfl⟩
  have ci : Try.prog.cellsOf 3 = 1 := by kernel_rfl
  have cr : Try.prog.cellsOf 103 = 1 := by kernel_rfl
  have cb : Try.prog.cellsOf 87 = 1 := by kernel_rfl
  have cn : Try.prog.cellsOf 23 = 1 := by kernel_rfl
  have h0 : DataW.trod enc Try.prog W 0 (fun _ => true) true n 105 [c0, c1, c2] = some y0 := by have := hfs 0 _ rfl; simpa [Value.cells, cellsSnapshot] using this
  have h1 : DataW.trod enc Try.prog W 0 (fun _ => true) true n 3 [c3] = some y1 := by have := hfs 1 _ rfl; simpa [Value.cells, ci] using this
  have h2 : DataW.trod enc Try.prog W 0 (fun _ => true) true n 103 [c4] = some y2 := by have := hfs 2 _ rfl; simpa [Value.cells, cr] using this
  have h3 : DataW.trod enc Try.prog W 0 (fun _ => true) true n 87 [c5] = some y3 := by have := hfs 3 _ rfl; simpa [Value.cells, cb] using this
  have h4 : DataW.trod enc Try.prog W 0 (fun _ => true) true n 23 [c6] = some y4 := by have := hfs 4 _ rfl; simpa [Value.cells, cn] using this
  obtain ⟨zs, n', _, _, _, hlen', hgs⟩ := DataW.trod_struct Try.underlying105 h0
  obtain ⟨z0, z1, z2, rfl⟩ : ∃ z0 z1 z2, zs = [z0, z1, z2] := by
    match zs, hlen' with
    | [z0, z1, z2], _ => exact ⟨z0, z1, z2, rfl⟩
  have g0 : DataW.trod enc Try.prog W 0 (fun _ => true) true n' 3 [c0] = some z0 := by have := hgs 0 _ rfl; simpa [Value.cells, ci] using this
  have g1 : DataW.trod enc Try.prog W 0 (fun _ => true) true n' 103 [c1] = some z1 := by have := hgs 1 _ rfl; simpa [Value.cells, cr] using this
  have g2 : DataW.trod enc Try.prog W 0 (fun _ => true) true n' 23 [c2] = some z2 := by have := hgs 2 _ rfl; simpa [Value.cells, cn] using this
  obtain ⟨x0, e0, _, _⟩ := DataW.trod_int Try.underlying3 g0
  obtain ⟨a1, n1, k1, rs, rfl, r1, rfl, l1, f1⟩ := openRuR g1
  obtain ⟨a2, n2, k2, rv, rfl, r2, rfl, l2⟩ := openInR g2
  obtain ⟨x3, e3, _, _⟩ := DataW.trod_int Try.underlying3 h1
  obtain ⟨a4, n4, k4, ru, rfl, r4, rfl, l4, f4⟩ := openRuR h2
  obtain ⟨a5, n5, k5, ha, rfl, r5, rfl, l5⟩ := openBoR h3
  obtain ⟨a6, n6, k6, se, rfl, r6, rfl, l6⟩ := openInR h4
  simp only [List.cons.injEq, and_true] at e0 e3
  subst e0 e3
  exact ⟨⟨⟨x0, rs, rv⟩, x3, ru, ha, se⟩, ⟨_, _, _, _, _, rfl, r1, r2, r4, r5, r6⟩, ⟨l1, f1, l2⟩, l4, f4, l5, l6⟩

set_option maxHeartbeats 2000000 in
theorem szSide_any (v : Value) (s : Sd) (n : Int) (w : World) (h0 : 0 ≤ n) (hn : n ≤ 1048576) (hf : s.fits) (h : SdA w v s) :
    Calls Try.prog 83 #[v, .int .i64 n] w fun e w' => e = .returned (.int .i64 (leftSd n s)) ∧ Below w.heap.size w w' := by
  obtain ⟨vp, vr, vu, vh, vs, rfl, h1, h2, h3, h4, h5⟩ := h
  obtain ⟨fs, l3, f3, l4, l5⟩ := hf
  have hS0 : SnA w (.agg #[.int .i64 s.fo.num, vp, vr]) s.fo := ⟨_, _, rfl, h1, h2⟩
  have hB0 : Below w.heap.size w (w.alloc (.cells #[.int .i64 s.fo.num, vp, vr, .int .i64 s.co, vu, vh, vs] 108)) := (Below.refl _ w).alloc (Nat.le_refl _) _
  have F1 := Seven.new w (.int .i64 s.fo.num) vp vr (.int .i64 s.co) vu vh vs 108
  have HI := hid (show leftSd n s = if (s.size : Int) ≤ n then n - (s.size : Int) else (-1 : Int) from rfl)
  have HZ := hid (show s.size = s.fo.size + szAll s.ru + s.ha.length + s.se.length from rfl)
  obtain ⟨N0, HN0⟩ : ∃ N : Nat, Hid (N = s.fo.size) := ⟨_, hid rfl⟩
  obtain ⟨N1, HN1⟩ : ∃ N : Nat, Hid (N = szAll s.ru) := ⟨_, hid rfl⟩
  go_enter Try.func83, Try.ntmps83
  go_wp2_with fail
  generalize w.alloc (.cells #[.int .i64 s.fo.num, vp, vr, .int .i64 s.co, vu, vh, vs] 108) = W0 at *
  refine (szSnapshot_any (.agg #[.int .i64 s.fo.num, vp, vr]) s.fo (n) _ (by omega) (by omega) fs (SnA.below hS0 hB0)).mono ?_
  rintro e w1 ⟨rfl, hB1⟩
  replace F1 := F1.below hB1
  replace hB0 := below_one hB0 hB1
  clear hB1
  obtain ⟨a0, a1, a2, a3, a4, a5, a6⟩ := F1.c
  by_cases c0 : (N0 : Int) ≤ n
  · rw [show leftV (n) s.fo = n - (N0 : Int) from by unfold leftV; rw [← HN0.out]; exact if_pos c0]
    have d0 : decide (n - (N0 : Int) < 0) = false := by simp; omega
    go_wp2_with fail
    refine (szRuleS_any vu s.ru (n - (N0 : Int)) _ (by omega) (by omega) l3 f3 (h3.below hB0)).mono ?_
    rintro e w2 ⟨rfl, hB2⟩
    replace F1 := F1.below hB2
    replace hB0 := below_one hB0 hB2
    clear hB2
    clear a0 a1 a2 a3 a4 a5 a6
    obtain ⟨a0, a1, a2, a3, a4, a5, a6⟩ := F1.c
    by_cases c1 : (N1 : Int) ≤ n - (N0 : Int)
    · rw [show leftS (n - (N0 : Int)) s.ru = n - (N0 : Int) - (N1 : Int) from by unfold leftS; rw [← HN1.out]; exact if_pos c1]
      have d1 : decide (n - (N0 : Int) - (N1 : Int) < 0) = false := by simp; omega
      go_wp2_with fail
      refine (szBoolS_any vh s.ha (n - (N0 : Int) - (N1 : Int)) _ (by omega) (by omega) l4 (h4.below hB0)).mono ?_
      rintro e w3 ⟨rfl, hB3⟩
      replace F1 := F1.below hB3
      replace hB0 := below_one hB0 hB3
      clear hB3
      clear a0 a1 a2 a3 a4 a5 a6
      obtain ⟨a0, a1, a2, a3, a4, a5, a6⟩ := F1.c
      by_cases c2 : (s.ha.length : Int) ≤ n - (N0 : Int) - (N1 : Int)
      · rw [show left1 (n - (N0 : Int) - (N1 : Int)) s.ha.length = n - (N0 : Int) - (N1 : Int) - (s.ha.length : Int) from if_pos c2]
        have d2 : decide (n - (N0 : Int) - (N1 : Int) - (s.ha.length : Int) < 0) = false := by simp; omega
        go_wp2_with fail
        refine (szIntS_any vs s.se (n - (N0 : Int) - (N1 : Int) - (s.ha.length : Int)) _ (by omega) (by omega) l5 (h5.below hB0)).mono ?_
        rintro e w4 ⟨rfl, hB4⟩
        replace F1 := F1.below hB4
        replace hB0 := below_one hB0 hB4
        clear hB4
        clear a0 a1 a2 a3 a4 a5 a6
        obtain ⟨a0, a1, a2, a3, a4, a5, a6⟩ := F1.c
        by_cases c3 : (s.se.length : Int) ≤ n - (N0 : Int) - (N1 : Int) - (s.ha.length : Int)
        · rw [show left1 (n - (N0 : Int) - (N1 : Int) - (s.ha.length : Int)) s.se.length = n - (N0 : Int) - (N1 : Int) - (s.ha.length : Int) - (s.se.length : Int) from if_pos c3]
          have d3 : decide (n - (N0 : Int) - (N1 : Int) - (s.ha.length : Int) - (s.se.length : Int) < 0) = false := by simp; omega
          have HR := hid (show leftSd n s = n - (N0 : Int) - (N1 : Int) - (s.ha.length : Int) - (s.se.length : Int) by rw [HI.out, if_pos (by rw [HZ.out, ← HN0.out, ← HN1.out]; push_cast; omega), HZ.out, ← HN0.out, ← HN1.out]; push_cast; omega)
          go_wp2_with fail
          go_ret
          exact ⟨ret_int HR.out.symm, hB0⟩
        · rw [show left1 (n - (N0 : Int) - (N1 : Int) - (s.ha.length : Int)) s.se.length = -1 from if_neg c3]
          have HR := hid (show leftSd n s = -1 by rw [HI.out, if_neg (by rw [HZ.out, ← HN0.out, ← HN1.out]; push_cast; omega)])
          go_wp2_with fail
          go_ret
          exact ⟨ret_int HR.out.symm, hB0⟩
      · rw [show left1 (n - (N0 : Int) - (N1 : Int)) s.ha.length = -1 from if_neg c2]
        have HR := hid (show leftSd n s = -1 by rw [HI.out, if_neg (by rw [HZ.out, ← HN0.out, ← HN1.out]; push_cast; omega)])
        go_wp2_with fail
        go_ret
        exact ⟨ret_int HR.out.symm, hB0⟩
    · rw [show leftS (n - (N0 : Int)) s.ru = -1 from by unfold leftS; rw [← HN1.out]; exact if_neg c1]
      have HR := hid (show leftSd n s = -1 by rw [HI.out, if_neg (by rw [HZ.out, ← HN0.out, ← HN1.out]; push_cast; omega)])
      go_wp2_with fail
      go_ret
      exact ⟨ret_int HR.out.symm, hB0⟩
  · rw [show leftV (n) s.fo = -1 from by unfold leftV; rw [← HN0.out]; exact if_neg c0]
    have HR := hid (show leftSd n s = -1 by rw [HI.out, if_neg (by rw [HZ.out, ← HN0.out, ← HN1.out]; push_cast; omega)])
    go_wp2_with fail
    go_ret
    exact ⟨ret_int HR.out.symm, hB0⟩

set_option maxHeartbeats 2000000 in
/-- A side is like itself, wherever the two lie. -/
theorem eqSide_same (v v' : Value) (s : Sd) (w : World) (hs : s.short) (h : SdA w v s) (h' : SdA w v' s) :
    Calls Try.prog 78 #[v, v'] w fun e w' => e = .returned (.bool true) ∧ Below w.heap.size w w' := by
  obtain ⟨vp, vr, vu, vh, vs, rfl, h1, h2, h3, h4, h5⟩ := h
  obtain ⟨vp', vr', vu', vh', vs', rfl, h1', h2', h3', h4', h5'⟩ := h'
  obtain ⟨hf, l3, l4, l5, _⟩ := hs
  have hS : SnA w (.agg #[.int .i64 s.fo.num, vp, vr]) s.fo := ⟨_, _, rfl, h1, h2⟩
  have hS' : SnA w (.agg #[.int .i64 s.fo.num, vp', vr']) s.fo := ⟨_, _, rfl, h1', h2'⟩
  have hB0 : Below w.heap.size w ((w.alloc (.cells #[.int .i64 s.fo.num, vp, vr, .int .i64 s.co, vu, vh, vs] 89)).alloc (.cells #[.int .i64 s.fo.num, vp', vr', .int .i64 s.co, vu', vh', vs'] 89)) := ((Below.refl _ w).alloc (Nat.le_refl _) _).alloc (by simp) _
  have F1 := (Seven.new w (.int .i64 s.fo.num) vp vr (.int .i64 s.co) vu vh vs 89).below ((Below.refl _ _).alloc (Nat.le_refl _) (.cells #[.int .i64 s.fo.num, vp', vr', .int .i64 s.co, vu', vh', vs'] 89))
  have F2 := Seven.at (w.alloc (.cells #[.int .i64 s.fo.num, vp, vr, .int .i64 s.co, vu, vh, vs] 89)) (.int .i64 s.fo.num) vp' vr' (.int .i64 s.co) vu' vh' vs' 89 (k := w.heap.size + 1) (by simp)
  have e1 : (s.co != s.co) = false := by simp
  go_enter Try.func78, Try.ntmps78
  go_wp2_with fail
  generalize (w.alloc (.cells #[.int .i64 s.fo.num, vp, vr, .int .i64 s.co, vu, vh, vs] 89)).alloc (.cells #[.int .i64 s.fo.num, vp', vr', .int .i64 s.co, vu', vh', vs'] 89) = W0 at *
  refine (eqSnapshot_same _ _ s.fo _ hf (hS.below hB0) (hS'.below hB0)).mono ?_
  rintro e w1 ⟨rfl, hB1⟩
  replace F1 := F1.below hB1
  replace F2 := F2.below hB1
  replace hB0 := below_one hB0 hB1
  clear hB1
  obtain ⟨a0, a1, a2, a3, a4, a5, a6⟩ := F1.c
  obtain ⟨c0, c1, c2, c3, c4, c5, c6⟩ := F2.c
  go_wp2_with fail
  refine (eqRuleS_any vu vu' s.ru s.ru _ (by omega) (by omega) (h3.below hB0) (h3'.below hB0)).mono ?_
  rintro e w2 ⟨rfl, hB2⟩
  rw [sameS_refl]
  clear a0 a1 a2 a3 a4 a5 a6 c0 c1 c2 c3 c4 c5 c6
  replace F1 := F1.below hB2
  replace F2 := F2.below hB2
  replace hB0 := below_one hB0 hB2
  clear hB2
  obtain ⟨a0, a1, a2, a3, a4, a5, a6⟩ := F1.c
  obtain ⟨c0, c1, c2, c3, c4, c5, c6⟩ := F2.c
  go_wp2_with fail
  refine (eqBoolS_same vh vh' s.ha _ (by omega) (h4.below hB0) (h4'.below hB0)).mono ?_
  rintro e w3 ⟨rfl, hB3⟩
  clear a0 a1 a2 a3 a4 a5 a6 c0 c1 c2 c3 c4 c5 c6
  replace F1 := F1.below hB3
  replace F2 := F2.below hB3
  replace hB0 := below_one hB0 hB3
  clear hB3
  obtain ⟨a0, a1, a2, a3, a4, a5, a6⟩ := F1.c
  obtain ⟨c0, c1, c2, c3, c4, c5, c6⟩ := F2.c
  go_wp2_with fail
  refine (eqIntS_same vs vs' s.se _ (by omega) (h5.below hB0) (h5'.below hB0)).mono ?_
  rintro e w4 ⟨rfl, hB4⟩
  replace hB0 := below_one hB0 hB4
  go_wp2_with fail
  go_ret
  exact ⟨rfl, hB0⟩

set_option maxHeartbeats 8000000 in
set_option maxRecDepth 100000 in
theorem toSide_any (v : Value) (s : Sd) (w : World) (hs : s.short) (h : SdA w v s) :
    Calls Try.prog 89 #[v] w fun e w' => ∃ v', e = .returned v' ∧ SdO w' w.heap.size w'.heap.size v' s ∧ Below w.heap.size w w' := by
  obtain ⟨vp, vr, vu, vh, vs, rfl, h1, h2, h3, h4, h5⟩ := h
  obtain ⟨hf, l3, l4, l5, _⟩ := hs
  have hS : SnA w (.agg #[.int .i64 s.fo.num, vp, vr]) s.fo := ⟨_, _, rfl, h1, h2⟩
  have hB0 : Below w.heap.size w (((w.alloc (.cells #[.int .i64 s.fo.num, vp, vr, .int .i64 s.co, vu, vh, vs] 108)).alloc (.cells #[.int .i64 0, .slice none 0 0, .slice none 0 0, .int .i64 0, .slice none 0 0, .slice none 0 0, .slice none 0 0] 89)).alloc (.cells #[.int .i64 0, .slice none 0 0, .slice none 0 0, .int .i64 0, .slice none 0 0, .slice none 0 0, .slice none 0 0] 89)) := (((Below.refl _ w).alloc (Nat.le_refl _) _).alloc (by simp) _).alloc (by simp; omega) _
  have F1 := ((Seven.new w (.int .i64 s.fo.num) vp vr (.int .i64 s.co) vu vh vs 108).below ((Below.refl _ _).alloc (Nat.le_refl _) (.cells #[.int .i64 0, .slice none 0 0, .slice none 0 0, .int .i64 0, .slice none 0 0, .slice none 0 0, .slice none 0 0] 89))).below ((Below.refl _ _).alloc (Nat.le_refl _) (.cells #[.int .i64 0, .slice none 0 0, .slice none 0 0, .int .i64 0, .slice none 0 0, .slice none 0 0, .slice none 0 0] 89))
  have F2 := (Seven.at (w.alloc (.cells #[.int .i64 s.fo.num, vp, vr, .int .i64 s.co, vu, vh, vs] 108)) (.int .i64 0) (.slice none 0 0) (.slice none 0 0) (.int .i64 0) (.slice none 0 0) (.slice none 0 0) (.slice none 0 0) 89 (k := w.heap.size + 1) (by simp)).below ((Below.refl _ _).alloc (Nat.le_refl _) (.cells #[.int .i64 0, .slice none 0 0, .slice none 0 0, .int .i64 0, .slice none 0 0, .slice none 0 0, .slice none 0 0] 89))
  have F3 := Seven.at ((w.alloc (.cells #[.int .i64 s.fo.num, vp, vr, .int .i64 s.co, vu, vh, vs] 108)).alloc (.cells #[.int .i64 0, .slice none 0 0, .slice none 0 0, .int .i64 0, .slice none 0 0, .slice none 0 0, .slice none 0 0] 89)) (.int .i64 0) (.slice none 0 0) (.slice none 0 0) (.int .i64 0) (.slice none 0 0) (.slice none 0 0) (.slice none 0 0) 89 (k := w.heap.size + 1 + 1) (by simp)
  have hK : w.heap.size + 1 + 1 < (((w.alloc (.cells #[.int .i64 s.fo.num, vp, vr, .int .i64 s.co, vu, vh, vs] 108)).alloc (.cells #[.int .i64 0, .slice none 0 0, .slice none 0 0, .int .i64 0, .slice none 0 0, .slice none 0 0, .slice none 0 0] 89)).alloc (.cells #[.int .i64 0, .slice none 0 0, .slice none 0 0, .int .i64 0, .slice none 0 0, .slice none 0 0, .slice none 0 0] 89)).heap.size := F3.lt
  go_enter Try.func89, Try.ntmps89
  go_wp2_with fail
  generalize ((w.alloc (.cells #[.int .i64 s.fo.num, vp, vr, .int .i64 s.co, vu, vh, vs] 108)).alloc (.cells #[.int .i64 0, .slice none 0 0, .slice none 0 0, .int .i64 0, .slice none 0 0, .slice none 0 0, .slice none 0 0] 89)).alloc (.cells #[.int .i64 0, .slice none 0 0, .slice none 0 0, .int .i64 0, .slice none 0 0, .slice none 0 0, .slice none 0 0] 89) = W0 at *
  refine (toSnapshot_any _ s.fo _ hf (hS.below hB0)).mono ?_
  rintro e w1 ⟨v1, rfl, O1, hB1⟩
  obtain ⟨x1, z1, x2, z2, rfl⟩ := sn_forms O1.a
  obtain ⟨_, _, ee, o1, o2, t1, t2⟩ := O1
  cases ee
  replace F1 := F1.below hB1
  replace F2 := F2.below hB1
  replace F3 := F3.below hB1
  replace hB0 := below_one hB0 hB1
  have hs1 := hB1.size
  clear hB1
  obtain ⟨a0, a1, a2, a3, a4, a5, a6⟩ := F1.c
  obtain ⟨c0, c1, c2, c3, c4, c5, c6⟩ := F3.c
  have f0 := F3.f 0
  have f1 := F3.f 1
  have f2 := F3.f 2
  have f3 := F3.f 3
  go_wp2_with fail
  clear a0 a1 a2 a3 a4 a5 a6 c0 c1 c2 c3 c4 c5 c6 f0 f1 f2 f3
  replace F1 := ((((F1.other (k' := w.heap.size + 1 + 1) (by omega) 0 (.int .i64 s.fo.num)).other (k' := w.heap.size + 1 + 1) (by omega) 1 (.slice x1 s.fo.pol.length z1)).other (k' := w.heap.size + 1 + 1) (by omega) 2 (.slice x2 s.fo.rv.length z2)).other (k' := w.heap.size + 1 + 1) (by omega) 3 (.int .i64 s.co))
  replace F2 := ((((F2.other (k' := w.heap.size + 1 + 1) (by omega) 0 (.int .i64 s.fo.num)).other (k' := w.heap.size + 1 + 1) (by omega) 1 (.slice x1 s.fo.pol.length z1)).other (k' := w.heap.size + 1 + 1) (by omega) 2 (.slice x2 s.fo.rv.length z2)).other (k' := w.heap.size + 1 + 1) (by omega) 3 (.int .i64 s.co))
  replace F3 := ((((F3.s0 (.int .i64 s.fo.num)).s1 (.slice x1 s.fo.pol.length z1)).s2 (.slice x2 s.fo.rv.length z2)).s3 (.int .i64 s.co))
  replace hB0 := ((((hB0.setCell (p := ⟨w.heap.size + 1 + 1, 0, none⟩) (by simp; omega) (.int .i64 s.fo.num)).setCell (p := ⟨w.heap.size + 1 + 1, 1, none⟩) (by simp; omega) (.slice x1 s.fo.pol.length z1)).setCell (p := ⟨w.heap.size + 1 + 1, 2, none⟩) (by simp; omega) (.slice x2 s.fo.rv.length z2)).setCell (p := ⟨w.heap.size + 1 + 1, 3, none⟩) (by simp; omega) (.int .i64 s.co))
  replace o1 := (ownsRow_setCell_below (ownsRow_setCell_below (ownsRow_setCell_below (ownsRow_setCell_below o1 (a := ⟨w.heap.size + 1 + 1, 0, none⟩) (by simp; omega) (.int .i64 s.fo.num)) (a := ⟨w.heap.size + 1 + 1, 1, none⟩) (by simp; omega) (.slice x1 s.fo.pol.length z1)) (a := ⟨w.heap.size + 1 + 1, 2, none⟩) (by simp; omega) (.slice x2 s.fo.rv.length z2)) (a := ⟨w.heap.size + 1 + 1, 3, none⟩) (by simp; omega) (.int .i64 s.co))
  replace o2 := (ownsRow_setCell_below (ownsRow_setCell_below (ownsRow_setCell_below (ownsRow_setCell_below o2 (a := ⟨w.heap.size + 1 + 1, 0, none⟩) (by simp; omega) (.int .i64 s.fo.num)) (a := ⟨w.heap.size + 1 + 1, 1, none⟩) (by simp; omega) (.slice x1 s.fo.pol.length z1)) (a := ⟨w.heap.size + 1 + 1, 2, none⟩) (by simp; omega) (.slice x2 s.fo.rv.length z2)) (a := ⟨w.heap.size + 1 + 1, 3, none⟩) (by simp; omega) (.int .i64 s.co))
  have hq1 : w1.heap.size ≤ ((((w1.setCell ⟨w.heap.size + 1 + 1, 0, none⟩ (.int .i64 s.fo.num)).setCell ⟨w.heap.size + 1 + 1, 1, none⟩ (.slice x1 s.fo.pol.length z1)).setCell ⟨w.heap.size + 1 + 1, 2, none⟩ (.slice x2 s.fo.rv.length z2)).setCell ⟨w.heap.size + 1 + 1, 3, none⟩ (.int .i64 s.co)).heap.size := by simp
  have hp1 : ((((w1.setCell ⟨w.heap.size + 1 + 1, 0, none⟩ (.int .i64 s.fo.num)).setCell ⟨w.heap.size + 1 + 1, 1, none⟩ (.slice x1 s.fo.pol.length z1)).setCell ⟨w.heap.size + 1 + 1, 2, none⟩ (.slice x2 s.fo.rv.length z2)).setCell ⟨w.heap.size + 1 + 1, 3, none⟩ (.int .i64 s.co)).heap.size ≤ w1.heap.size := by simp
  generalize (((w1.setCell ⟨w.heap.size + 1 + 1, 0, none⟩ (.int .i64 s.fo.num)).setCell ⟨w.heap.size + 1 + 1, 1, none⟩ (.slice x1 s.fo.pol.length z1)).setCell ⟨w.heap.size + 1 + 1, 2, none⟩ (.slice x2 s.fo.rv.length z2)).setCell ⟨w.heap.size + 1 + 1, 3, none⟩ (.int .i64 s.co) = W1 at *
  refine (toRuleS_any vu s.ru _ l3 (h3.below hB0)).mono ?_
  rintro e w2 ⟨v2, rfl, o3, hB2⟩
  replace o3 := Go.Joins.ownsRow_le o3 hq1
  obtain ⟨x3, y3, z3, rfl⟩ := row_slice o3
  replace F1 := F1.below hB2
  replace F2 := F2.below hB2
  replace F3 := F3.below hB2
  replace o1 := ownsRow_below o1 hB2
  replace o2 := ownsRow_below o2 hB2
  replace hB0 := below_one hB0 hB2
  have hs2 := hB2.size
  clear hB2
  obtain ⟨a0, a1, a2, a3, a4, a5, a6⟩ := F1.c
  obtain ⟨c0, c1, c2, c3, c4, c5, c6⟩ := F3.c
  have f4 := F3.f 4
  go_wp2_with fail
  clear a0 a1 a2 a3 a4 a5 a6 c0 c1 c2 c3 c4 c5 c6 f4
  replace F1 := (F1.other (k' := w.heap.size + 1 + 1) (by omega) 4 (.slice x3 y3 z3))
  replace F2 := (F2.other (k' := w.heap.size + 1 + 1) (by omega) 4 (.slice x3 y3 z3))
  replace F3 := (F3.s4 (.slice x3 y3 z3))
  replace hB0 := (hB0.setCell (p := ⟨w.heap.size + 1 + 1, 4, none⟩) (by simp; omega) (.slice x3 y3 z3))
  replace o1 := (ownsRow_setCell_below o1 (a := ⟨w.heap.size + 1 + 1, 4, none⟩) (by simp; omega) (.slice x3 y3 z3))
  replace o2 := (ownsRow_setCell_below o2 (a := ⟨w.heap.size + 1 + 1, 4, none⟩) (by simp; omega) (.slice x3 y3 z3))
  replace o3 := (ownsRow_setCell_below o3 (a := ⟨w.heap.size + 1 + 1, 4, none⟩) (by simp; omega) (.slice x3 y3 z3))
  have hq2 : w2.heap.size ≤ (w2.setCell ⟨w.heap.size + 1 + 1, 4, none⟩ (.slice x3 y3 z3)).heap.size := by simp
  have hp2 : (w2.setCell ⟨w.heap.size + 1 + 1, 4, none⟩ (.slice x3 y3 z3)).heap.size ≤ w2.heap.size := by simp
  generalize w2.setCell ⟨w.heap.size + 1 + 1, 4, none⟩ (.slice x3 y3 z3) = W2 at *
  refine (toBoolS_any vh s.ha _ l4 (h4.below hB0)).mono ?_
  rintro e w3 ⟨v3, rfl, o4, hB3⟩
  replace o4 := Go.Joins.ownsRow_le o4 (Nat.le_trans hq1 (Nat.le_trans hs2 hq2))
  obtain ⟨x4, y4, z4, rfl⟩ := row_slice o4
  replace F1 := F1.below hB3
  replace F2 := F2.below hB3
  replace F3 := F3.below hB3
  replace o1 := ownsRow_below o1 hB3
  replace o2 := ownsRow_below o2 hB3
  replace o3 := ownsRow_below o3 hB3
  replace hB0 := below_one hB0 hB3
  have hs3 := hB3.size
  clear hB3
  obtain ⟨a0, a1, a2, a3, a4, a5, a6⟩ := F1.c
  obtain ⟨c0, c1, c2, c3, c4, c5, c6⟩ := F3.c
  have f5 := F3.f 5
  go_wp2_with fail
  clear a0 a1 a2 a3 a4 a5 a6 c0 c1 c2 c3 c4 c5 c6 f5
  replace F1 := (F1.other (k' := w.heap.size + 1 + 1) (by omega) 5 (.slice x4 y4 z4))
  replace F2 := (F2.other (k' := w.heap.size + 1 + 1) (by omega) 5 (.slice x4 y4 z4))
  replace F3 := (F3.s5 (.slice x4 y4 z4))
  replace hB0 := (hB0.setCell (p := ⟨w.heap.size + 1 + 1, 5, none⟩) (by simp; omega) (.slice x4 y4 z4))
  replace o1 := (ownsRow_setCell_below o1 (a := ⟨w.heap.size + 1 + 1, 5, none⟩) (by simp; omega) (.slice x4 y4 z4))
  replace o2 := (ownsRow_setCell_below o2 (a := ⟨w.heap.size + 1 + 1, 5, none⟩) (by simp; omega) (.slice x4 y4 z4))
  replace o3 := (ownsRow_setCell_below o3 (a := ⟨w.heap.size + 1 + 1, 5, none⟩) (by simp; omega) (.slice x4 y4 z4))
  replace o4 := (ownsRow_setCell_below o4 (a := ⟨w.heap.size + 1 + 1, 5, none⟩) (by simp; omega) (.slice x4 y4 z4))
  have hq3 : w3.heap.size ≤ (w3.setCell ⟨w.heap.size + 1 + 1, 5, none⟩ (.slice x4 y4 z4)).heap.size := by simp
  have hp3 : (w3.setCell ⟨w.heap.size + 1 + 1, 5, none⟩ (.slice x4 y4 z4)).heap.size ≤ w3.heap.size := by simp
  generalize w3.setCell ⟨w.heap.size + 1 + 1, 5, none⟩ (.slice x4 y4 z4) = W3x at *
  refine (toIntS_any vs s.se _ l5 (h5.below hB0)).mono ?_
  rintro e w4 ⟨v4, rfl, o5, hB4⟩
  replace o5 := Go.Joins.ownsRow_le o5 (Nat.le_trans hq1 (Nat.le_trans hs2 (Nat.le_trans hq2 (Nat.le_trans hs3 hq3))))
  obtain ⟨x5, y5, z5, rfl⟩ := row_slice o5
  replace F1 := F1.below hB4
  replace F2 := F2.below hB4
  replace F3 := F3.below hB4
  replace o1 := ownsRow_below o1 hB4
  replace o2 := ownsRow_below o2 hB4
  replace o3 := ownsRow_below o3 hB4
  replace o4 := ownsRow_below o4 hB4
  replace hB0 := below_one hB0 hB4
  have hs4 := hB4.size
  clear hB4
  obtain ⟨a0, a1, a2, a3, a4, a5, a6⟩ := F1.c
  obtain ⟨c0, c1, c2, c3, c4, c5, c6⟩ := F3.c
  have f6 := F3.f 6
  have G3 := F3.s6 (.slice x5 y5 z5)
  have G2 := F2.other (k' := w.heap.size + 1 + 1) (by omega) 6 (.slice x5 y5 z5)
  replace hB0 := hB0.setCell (p := ⟨w.heap.size + 1 + 1, 6, none⟩) (by simp; omega) (.slice x5 y5 z5)
  replace o1 := ownsRow_setCell_below o1 (a := ⟨w.heap.size + 1 + 1, 6, none⟩) (by simp; omega) (.slice x5 y5 z5)
  replace o2 := ownsRow_setCell_below o2 (a := ⟨w.heap.size + 1 + 1, 6, none⟩) (by simp; omega) (.slice x5 y5 z5)
  replace o3 := ownsRow_setCell_below o3 (a := ⟨w.heap.size + 1 + 1, 6, none⟩) (by simp; omega) (.slice x5 y5 z5)
  replace o4 := ownsRow_setCell_below o4 (a := ⟨w.heap.size + 1 + 1, 6, none⟩) (by simp; omega) (.slice x5 y5 z5)
  replace o5 := ownsRow_setCell_below o5 (a := ⟨w.heap.size + 1 + 1, 6, none⟩) (by simp; omega) (.slice x5 y5 z5)
  obtain ⟨m0, m1, m2, m3, m4, m5, m6⟩ := G3.c
  obtain ⟨r0, r1, r2, r3, r4, r5, r6⟩ := G2.c
  have g0 := G2.f 0
  have g1 := G2.f 1
  have g2 := G2.f 2
  have g3 := G2.f 3
  have g4 := G2.f 4
  have g5 := G2.f 5
  have g6 := G2.f 6
  have G := (((((((G2.s0 (.int .i64 s.fo.num)).s1 (.slice x1 s.fo.pol.length z1)).s2 (.slice x2 s.fo.rv.length z2)).s3 (.int .i64 s.co)).s4 (.slice x3 y3 z3)).s5 (.slice x4 y4 z4)).s6 (.slice x5 y5 z5))
  have p1 := row_seven o1 (k := w.heap.size + 1) (by omega) (.int .i64 s.fo.num) (.slice x1 s.fo.pol.length z1) (.slice x2 s.fo.rv.length z2) (.int .i64 s.co) (.slice x3 y3 z3) (.slice x4 y4 z4) (.slice x5 y5 z5)
  have p2 := row_seven o2 (k := w.heap.size + 1) (by omega) (.int .i64 s.fo.num) (.slice x1 s.fo.pol.length z1) (.slice x2 s.fo.rv.length z2) (.int .i64 s.co) (.slice x3 y3 z3) (.slice x4 y4 z4) (.slice x5 y5 z5)
  have p3 := row_seven o3 (k := w.heap.size + 1) (by omega) (.int .i64 s.fo.num) (.slice x1 s.fo.pol.length z1) (.slice x2 s.fo.rv.length z2) (.int .i64 s.co) (.slice x3 y3 z3) (.slice x4 y4 z4) (.slice x5 y5 z5)
  have p4 := row_seven o4 (k := w.heap.size + 1) (by omega) (.int .i64 s.fo.num) (.slice x1 s.fo.pol.length z1) (.slice x2 s.fo.rv.length z2) (.int .i64 s.co) (.slice x3 y3 z3) (.slice x4 y4 z4) (.slice x5 y5 z5)
  have p5 := row_seven o5 (k := w.heap.size + 1) (by omega) (.int .i64 s.fo.num) (.slice x1 s.fo.pol.length z1) (.slice x2 s.fo.rv.length z2) (.int .i64 s.co) (.slice x3 y3 z3) (.slice x4 y4 z4) (.slice x5 y5 z5)
  have pB := below_seven hB0 (k := w.heap.size + 1) (by omega) (.int .i64 s.fo.num) (.slice x1 s.fo.pol.length z1) (.slice x2 s.fo.rv.length z2) (.int .i64 s.co) (.slice x3 y3 z3) (.slice x4 y4 z4) (.slice x5 y5 z5)
  have hW0 : w.heap.size ≤ W0.heap.size := by omega
  have htp : ∀ k, w1.heap.size ≤ k → w1.heap.size ≤ k := fun _ h => h
  have hsE : w4.heap.size ≤ ((((((((w4.setCell ⟨w.heap.size + 1 + 1, 6, none⟩ (.slice x5 y5 z5)).setCell ⟨w.heap.size + 1, 0, none⟩ (.int .i64 s.fo.num)).setCell ⟨w.heap.size + 1, 1, none⟩ (.slice x1 s.fo.pol.length z1)).setCell ⟨w.heap.size + 1, 2, none⟩ (.slice x2 s.fo.rv.length z2)).setCell ⟨w.heap.size + 1, 3, none⟩ (.int .i64 s.co)).setCell ⟨w.heap.size + 1, 4, none⟩ (.slice x3 y3 z3)).setCell ⟨w.heap.size + 1, 5, none⟩ (.slice x4 y4 z4)).setCell ⟨w.heap.size + 1, 6, none⟩ (.slice x5 y5 z5)).heap.size := by simp
  have hm1 : w1.heap.size ≤ w4.heap.size := by omega
  clear F1 F2 F3 o1 o2 o3 o4 o5
  go_wp2_with fail
  clear a0 a1 a2 a3 a4 a5 a6 c0 c1 c2 c3 c4 c5 c6 f6 m0 m1 m2 m3 m4 m5 m6 r0 r1 r2 r3 r4 r5 r6 g0 g1 g2 g3 g4 g5 g6
  generalize (((((((w4.setCell ⟨w.heap.size + 1 + 1, 6, none⟩ (.slice x5 y5 z5)).setCell ⟨w.heap.size + 1, 0, none⟩ (.int .i64 s.fo.num)).setCell ⟨w.heap.size + 1, 1, none⟩ (.slice x1 s.fo.pol.length z1)).setCell ⟨w.heap.size + 1, 2, none⟩ (.slice x2 s.fo.rv.length z2)).setCell ⟨w.heap.size + 1, 3, none⟩ (.int .i64 s.co)).setCell ⟨w.heap.size + 1, 4, none⟩ (.slice x3 y3 z3)).setCell ⟨w.heap.size + 1, 5, none⟩ (.slice x4 y4 z4)).setCell ⟨w.heap.size + 1, 6, none⟩ (.slice x5 y5 z5) = W4 at *
  obtain ⟨d0, d1, d2, d3, d4, d5, d6⟩ := G.c
  exact bodyPost_ret (v := .agg #[.int .i64 s.fo.num, .slice x1 s.fo.pol.length z1, .slice x2 s.fo.rv.length z2, .int .i64 s.co, .slice x3 y3 z3, .slice x4 y4 z4, .slice x5 y5 z5]) (by simp [results, Try.results89, go_sem, d0, d1, d2, d3, d4, d5, d6]) rfl ⟨_, rfl, ⟨w1.heap.size, _, _, _, _, _, rfl, by omega, by omega, ⟨_, _, rfl, Go.Joins.ownsRow_le p1 hW0, Go.Joins.ownsRow_le p2 hW0, t1, t2⟩, p3, p4, p5, fun k hk => (p3.lt k hk).2, fun k hk => (p4.lt k hk).2, fun k hk => (p5.lt k hk).2⟩, pB⟩

/-- What lies in a side that was marked. -/
def mkSd (k : Nat) (s : Sd) : Sd := ⟨mkSn k s.fo, s.co, mkL (k + s.fo.many) s.ru.length, mkY (k + s.fo.many + 4 * s.ru.length) s.ha.length, mkN (k + s.fo.many + 4 * s.ru.length + s.ha.length) s.se.length⟩
def Sd.many (s : Sd) : Nat := s.fo.many + 4 * s.ru.length + s.ha.length + s.se.length

end Go.Proofs.Ytnbojbcljfiamaa

namespace Go.Proofs.Ytnbojbcljfiamaa
open Go.RowKit

/-- A record. -/
structure Rc where
  num : Int
  note : ByteArray
  su : Nat

def smS (h : Nat) (b : UInt8) : Nat := (h ^^^ b.toNat) * 16777619 % 4294967296
/-- The sum of some bytes behind a sum. -/
def smL (h : Nat) (l : List UInt8) : Nat := l.foldl smS h
theorem smS_lt (h : Nat) (b : UInt8) : smS h b < 4294967296 := Nat.mod_lt _ (by decide)
theorem smL_lt {h : Nat} (l : List UInt8) (hh : h < 4294967296) : smL h l < 4294967296 := by
  induction l generalizing h with
  | nil => exact hh
  | cons b l ih =>
    rw [show smL h (b :: l) = smL (smS h b) l from rfl]
    exact ih (smS_lt h b)
theorem smL_snoc (h : Nat) (l : List UInt8) (b : UInt8) : smL h (l ++ [b]) = smS (smL h l) b := by
  unfold smL
  rw [List.foldl_append, List.foldl_cons, List.foldl_nil]

/-- A byte that is plain; a note that is good. -/
def plB (b : UInt8) : Bool := decide (32 ≤ b.toNat) && decide (b.toNat ≤ 126)
def ntB (s : ByteArray) : Bool := decide (s.size ≤ 80) && s.data.toList.all plB
/-- A log, as said. -/
def lgB (l : List Rc) : Bool := decide (l.length ≤ 60) && l.all (fun r => ntB r.note)
/-- The text that a record's sum speaks of. -/
def rcT (n : Nat) (note : ByteArray) : ByteArray := numT (n : Int) ++ ⟨#[32]⟩ ++ note
/-- The record that a note makes behind n others, the last sum being h. -/
def rcN (h n : Nat) (note : ByteArray) : Rc := ⟨((n + 1 : Nat) : Int), note, smL h (rcT (n + 1) note).data.toList⟩
/-- The sum ahead of the place i. -/
def pvS (l : List Rc) (i : Nat) : Nat := if i = 0 then 2166136261 else match l[i - 1]? with | some r => r.su | none => 0
def Rc.same (r s : Rc) : Bool := ((r.num == s.num) && (r.note.toList == s.note.toList)) && ((r.su : Int) == (s.su : Int))
theorem Rc.same_eq {r s : Rc} (h : r.same s = true) : r = s := by
  unfold Rc.same at h
  simp only [Bool.and_eq_true, beq_iff_eq, toList_data] at h
  obtain ⟨⟨h1, h2⟩, h3⟩ := h
  obtain ⟨a, b, c⟩ := r
  obtain ⟨a', b', c'⟩ := s
  simp only at h1 h2 h3
  rw [bytes_same h2, h1, Int.ofNat_inj.1 h3]
theorem Rc.same_refl (r : Rc) : r.same r = true := by simp [Rc.same]
/-- The record at i is the one that its note makes there. -/
def okA (l : List Rc) (i : Nat) : Bool := match l[i]? with | some r => r.same (rcN (pvS l i) i r.note) | none => true
theorem okA_at {l : List Rc} {i : Nat} (h : i < l.length) : okA l i = l[i].same (rcN (pvS l i) i l[i].note) := by
  unfold okA
  rw [List.getElem?_eq_getElem h]
/-- Where the first broken record stands. -/
def brX (l : List Rc) : Option Nat := (List.range l.length).find? (fun i => !okA l i)
theorem brX_at {l : List Rc} {k : Nat} (hk : k < l.length) (h : ∀ j, j < k → okA l j = true) (hb : okA l k = false) : brX l = some k := by
  unfold brX
  rw [List.find?_eq_some_iff_getElem]
  refine ⟨by rw [hb]; rfl, k, by simpa using hk, by simp, fun j hj => ?_⟩
  simp [h j hj]
theorem brX_none {l : List Rc} (h : ∀ j, j < l.length → okA l j = true) : brX l = none := by
  unfold brX
  rw [List.find?_eq_none]
  intro j hj
  simp [h j (List.mem_range.1 hj)]
theorem brX_lt {l : List Rc} {k : Nat} (h : brX l = some k) : k < l.length := by
  unfold brX at h
  have := List.mem_of_find?_eq_some h
  exact List.mem_range.1 this
theorem brX_all {l : List Rc} (h : brX l = none) : ∀ j, j < l.length → okA l j = true := by
  intro j hj
  unfold brX at h
  rw [List.find?_eq_none] at h
  have := h j (List.mem_range.2 hj)
  simpa using this
/-- A good log. -/
def glB (l : List Rc) : Bool := lgB l && (brX l).isNone
/-- What FirstBroken tells. -/
def fbN (l : List Rc) : Nat := if lgB l then (brX l).getD 0 else 0
def fbB (l : List Rc) : Bool := lgB l && (brX l).isSome
/-- A log with a note behind. -/
def puR (l : List Rc) (note : ByteArray) : List Rc := l ++ [rcN (pvS l l.length) l.length note]
def apB (l : List Rc) (note : ByteArray) : Bool := (glB l && ntB note) && !(l.length == 60)
def apR (l : List Rc) (note : ByteArray) : List Rc := if apB l note then puR l note else []

end Go.Proofs.Ytnbojbcljfiamaa

namespace Go.Proofs.Ytnbojbcljfiamaa
open Go.RowKit Go.Shelf

theorem u32_nat {x : Int} (h : (Lit.int .u32 x).wf = true) : ∃ n : Nat, x = n ∧ n < 4294967296 := by
  have hmin : IntKind.u32.min = 0 := rfl
  have hmax : IntKind.u32.max = 4294967295 := rfl
  simp only [Lit.wf, Bool.and_eq_true, decide_eq_true_eq] at h
  exact ⟨x.toNat, by omega, by omega⟩
theorem sm_take (h : Nat) (s : ByteArray) (k : Nat) (hk : k < s.size) : smL h (s.data.toList.take (k + 1)) = smS (smL h (s.data.toList.take k)) s[k] := by
  have hl : k < s.data.toList.length := by rw [Array.length_toList]; exact hk
  rw [List.take_succ_eq_append_getElem hl, smL_snoc]
  rfl
theorem sm_end (h : Nat) (s : ByteArray) : smL h (s.data.toList.take s.size) = smL h s.data.toList := by
  rw [List.take_of_length_le (by rw [Array.length_toList]; exact Nat.le_refl _)]
theorem sm_step (h b : Nat) : IntKind.u32.wrap (((h ^^^ b : Nat) : Int) * 16777619) = (((h ^^^ b) * 16777619 % 4294967296 : Nat) : Int) := by
  rw [IntKind.wrap_u32]
  omega

/-- The bytes up to k are plain. -/
def ntTo (s : ByteArray) (k : Nat) : Bool := (s.data.toList.take k).all plB
theorem ntTo_zero (s : ByteArray) : ntTo s 0 = true := by simp [ntTo]
theorem ntTo_succ (s : ByteArray) (k : Nat) (hk : k < s.size) : ntTo s (k + 1) = (ntTo s k && plB s[k]) := by
  have hl : k < s.data.toList.length := by rw [Array.length_toList]; exact hk
  unfold ntTo
  rw [List.take_succ_eq_append_getElem hl, List.all_append]
  simp
  rfl
theorem ntB_bad (s : ByteArray) (k : Nat) (hk : k < s.size) (h : plB s[k] = false) : ntB s = false := by
  unfold ntB
  rw [Bool.and_eq_false_iff]
  refine .inr (List.all_eq_false.2 ⟨s[k], ?_, by simp [h]⟩)
  have hl : k < s.data.toList.length := by rw [Array.length_toList]; exact hk
  exact List.getElem_mem hl
theorem ntB_end (s : ByteArray) (h : ntTo s s.size = true) : ntB s = decide (s.size ≤ 80) := by
  unfold ntB ntTo at *
  rw [List.take_of_length_le (by rw [Array.length_toList]; exact Nat.le_refl _)] at h
  rw [h, Bool.and_true]
theorem plB_no1 {b : UInt8} (h : (b.toNat : Int) < 32) : plB b = false := by
  unfold plB
  rw [decide_eq_false (by omega)]
  rfl
theorem plB_no2 {b : UInt8} (h : (126 : Int) < b.toNat) : plB b = false := by
  unfold plB
  rw [decide_eq_false (by omega : ¬ b.toNat ≤ 126), Bool.and_false]
theorem plB_yes {b : UInt8} (h : ¬ (b.toNat : Int) < 32) (h' : ¬ (126 : Int) < b.toNat) : plB b = true := by
  unfold plB
  rw [decide_eq_true (by omega), decide_eq_true (by omega)]
  rfl

end Go.Proofs.Ytnbojbcljfiamaa

namespace Go.Proofs.Ytnbojbcljfiamaa
open Go.RowKit Go.Shelf

abbrev Rc.val (k : Rc) : Value := .agg #[.int .i64 k.num, .string k.note, .int .u32 (k.su : Int)]
def Rc.fits (k : Rc) : Prop := k.note.size ≤ maxLen ∧ k.su < 4294967296
/-- A record lies in memory. -/
def RcAt (w : World) (b o : Nat) (k : Rc) : Prop := w.cell? ⟨b, o, none⟩ = some (.int .i64 k.num) ∧ w.cell? ⟨b, o + 1, none⟩ = some (.string k.note) ∧ w.cell? ⟨b, o + 2, none⟩ = some (.int .u32 (k.su : Int))
/-- A slice reads as this list of records. -/
def RcS (w : World) (v : Value) (ks : List Rc) : Prop :=
  (∃ a cap, v = .slice a 0 cap ∧ ks = []) ∨
  ∃ b off cap, v = .slice (some ⟨b, off, none⟩) ks.length cap ∧ b < w.heap.size ∧ ks.length ≤ cap ∧ ∀ i (h : i < ks.length), RcAt w b (off + i * 3) ks[i]
theorem RcAt.below {w w' : World} {b o : Nat} {k : Rc} (h : RcAt w b o k) (hb : b < w.heap.size) (hB : Below w.heap.size w w') : RcAt w' b o k :=
  ⟨(hB.cell (p := ⟨b, o, none⟩) hb).trans h.1, (hB.cell (p := ⟨b, o + 1, none⟩) hb).trans h.2.1, (hB.cell (p := ⟨b, o + 2, none⟩) hb).trans h.2.2⟩
theorem RcS.below {w w' : World} {v : Value} {ks : List Rc} (h : RcS w v ks) (hB : Below w.heap.size w w') : RcS w' v ks := by
  rcases h with h | ⟨b, off, cap, hv, hb, hl, hc⟩
  · exact .inl h
  · exact .inr ⟨b, off, cap, hv, Nat.lt_of_lt_of_le hb hB.size, hl, fun k hk => (hc k hk).below hb hB⟩
theorem RcS.len {w : World} {v : Value} {ks : List Rc} (h : RcS w v ks) : ∃ a cap, v = .slice a ks.length cap := by
  rcases h with ⟨a, cap, hv, rfl⟩ | ⟨b, off, cap, hv, _⟩
  · exact ⟨a, cap, hv⟩
  · exact ⟨_, cap, hv⟩
theorem RcS.at {w : World} {a : Option Addr} {n cap : Nat} {ks : List Rc} (h : RcS w (.slice a n cap) ks) {i : Nat} (hi : i < ks.length) : ∃ b off, a = some ⟨b, off, none⟩ ∧ b < w.heap.size ∧ n ≤ cap ∧ RcAt w b (off + i * 3) ks[i] := by
  rcases h with ⟨_, _, _, rfl⟩ | ⟨b, off, cap, hv, hb, hl, hc⟩
  · simp at hi
  · cases hv
    exact ⟨b, off, rfl, hb, hl, hc i hi⟩

set_option maxRecDepth 100000 in
theorem cellsRecord : Try.prog.cellsOf 159 = 3 := by kernel_rfl
set_option maxRecDepth 100000 in
open Go.Deep Go.ChangeShapes Go.WideShapes Go.Joins in
/-- A list of records that comes in. -/
theorem openRcR {H : Type} {enc : TypeId × Value → H} {W : World} {c0 : Value} {d : DataW H × List MemPlace} {fuel : Nat} (hf : DataW.trod enc Try.prog W 0 (fun _ => true) true fuel 110 [c0] = some d) :
    ∃ (a : Option Addr) (n c : Nat) (ks : List Rc), c0 = .slice a n c ∧ RcS W (.slice a n c) ks ∧ ks.length = n ∧ n ≤ maxLen ∧ ∀ k ∈ ks, k.fits := by
  rcases open_slice Try.underlying110 hf with ⟨hcs, _⟩ | ⟨x, n, c, m, k, D, Pl, hcs, _, hl, hm, hmm, _, hx⟩
  · simp at hcs
    subst hcs
    exact ⟨_, _, _, [], rfl, .inl ⟨_, _, rfl, rfl⟩, rfl, Nat.zero_le _, fun r hr => by cases hr⟩
  · simp at hcs
    subst hcs
    have hlm : n ≤ m := by rw [hmm]; simpa using hl
    have each : ∀ i, i < n → ∃ r : Rc, (W.cell? (x.add (i * 3)) = some (.int .i64 r.num) ∧ W.cell? (x.add (i * 3 + 1)) = some (.string r.note) ∧ W.cell? (x.add (i * 3 + 2)) = some (.int .u32 (r.su : Int))) ∧ r.fits := by
      intro i hi
      obtain ⟨cs', h1, h2⟩ := hx i (by omega)
      rw [cellsRecord] at h1
      obtain ⟨_, hlen, hcell⟩ := World.cells?_some h1
      obtain ⟨xs, m', _, _, _, hxl, hfl⟩ := DataW.trod_struct Try.underlying159 h2
      match cs', hlen, xs, hxl with
      | [v0, v1, v2], _, [y0, y1, y2], _ =>
        have g0 := hfl 0 _ rfl
        have g1 := hfl 1 _ rfl
        have g2 := hfl 2 _ rfl
        have e0 := hcell 0 (by omega)
        have e1 := hcell 1 (by omega)
        have e2 := hcell 2 (by omega)
        rw [add_add] at e0 e1 e2
        have c1 : Try.prog.cellsOf 3 = 1 := by kernel_rfl
        have c2 : Try.prog.cellsOf 9 = 1 := by kernel_rfl
        have c3 : Try.prog.cellsOf 136 = 1 := by kernel_rfl
        simp [c1, c2, c3] at g0 g1 g2
        obtain ⟨x0, f0, _, _⟩ := DataW.trod_int Try.underlying3 g0
        obtain ⟨x1, f1, _, w1⟩ := DataW.trod_string Try.underlying9 g1
        obtain ⟨x2, f2, _, w2⟩ := DataW.trod_int Try.underlying136 g2
        simp at f0 f1 f2
        subst f0 f1 f2
        obtain ⟨u2, rfl, hu2⟩ := u32_nat w2
        exact ⟨⟨x0, x1, u2⟩, ⟨by simpa using e0, by simpa using e1, by simpa using e2⟩, w1, hu2⟩
    have hin : Inhabited Rc := ⟨⟨0, ByteArray.empty, 0⟩⟩
    obtain ⟨q, hq⟩ := choose_lt each
    by_cases h0 : n = 0
    · subst h0
      exact ⟨_, _, _, [], rfl, .inl ⟨_, _, rfl, rfl⟩, rfl, Nat.zero_le _, fun r hr => by cases hr⟩
    · obtain ⟨b, off, spot⟩ := x
      have hs : spot = none := by simpa [Addr.add] using World.cell?_spot (hq 0 (by omega)).1.1
      subst hs
      have hlt : b < W.heap.size := by
        have := (hq 0 (by omega)).1.1
        rw [Addr.add_lit] at this
        by_cases hb : b < W.heap.size
        · exact hb
        · simp only [World.cell?] at this
          rw [Array.getElem?_eq_none (by omega)] at this
          cases this
      refine ⟨_, _, _, (List.range n).map q, rfl, .inr ⟨b, off, c, by simp, hlt, by simpa using hl, fun k hk => ?_⟩, by simp, by omega, ?_⟩
      · have hk' : k < n := by simpa using hk
        have := (hq k hk').1
        simp only [Addr.add_lit, ← Nat.add_assoc] at this
        simpa [RcAt] using this
      · intro r hr
        obtain ⟨i, hi, rfl⟩ := List.mem_map.1 hr
        exact (hq i (List.mem_range.1 hi)).2

/-- A list of records that comes in, as an argument. -/
theorem openRcS {H : Type} {enc : TypeId × Value → H} {W : World} {a : Option Addr} {n c : Nat} {d : DataW H} {p : List MemPlace} (h : DataW.Trod enc Try.prog W 0 (fun _ => true) true 110 (.slice a n c) d p) :
    ∃ ks : List Rc, RcS W (.slice a n c) ks ∧ ks.length = n ∧ n ≤ maxLen ∧ ∀ k ∈ ks, k.fits := by
  obtain ⟨fuel, hf⟩ := h
  obtain ⟨a', n', c', ks, he, h1, h2, h3, h4⟩ := openRcR (c0 := .slice a n c) (by simpa [Value.cells] using hf)
  cases he
  exact ⟨ks, h1, h2, h3, h4⟩

def rczTo (ks : List Rc) (n : Nat) : Nat := ((ks.take n).map (fun k => k.note.size)).sum
def rczAll (ks : List Rc) : Nat := ks.length + rczTo ks ks.length
theorem rczTo_zero (ks : List Rc) : rczTo ks 0 = 0 := by simp [rczTo]
theorem rczTo_succ {ks : List Rc} {n : Nat} (h : n < ks.length) : rczTo ks (n + 1) = rczTo ks n + ks[n].note.size := by
  unfold rczTo
  rw [List.take_succ_eq_append_getElem h, List.map_append, List.sum_append]
  simp
theorem rczTo_le (ks : List Rc) (n : Nat) : rczTo ks n ≤ rczTo ks ks.length := by
  unfold rczTo
  rw [List.take_length]
  conv => rhs; rw [← List.take_append_drop n ks, List.map_append, List.sum_append]
  omega
theorem rcz_mem {ks : List Rc} {k : Rc} (h : k ∈ ks) : k.note.size ≤ rczTo ks ks.length := by
  unfold rczTo
  rw [List.take_length]
  exact sum_mem (List.mem_map.2 ⟨k, h, rfl⟩)
def leftRc (n : Int) (ks : List Rc) : Int := if (rczAll ks : Int) ≤ n then n - rczAll ks else -1

set_option maxHeartbeats 1000000 in
theorem szRecord_any (k : Rc) (n : Int) (w : World) (h0 : 0 ≤ n) (h1 : n ≤ 1048576) (ha : k.note.size ≤ maxLen) :
    Calls Try.prog 99 #[k.val, .int .i64 n] w fun e w' => e = .returned (.int .i64 (left1 n k.note.size)) ∧ Below w.heap.size w w' := by
  unfold maxLen at ha
  by_cases c1 : n < k.note.size
  · have HR := hid (show left1 n k.note.size = -1 from if_neg (by omega))
    go_enter Try.func99, Try.ntmps99
    go_wp2
    go_ret
    exact ⟨ret_int HR.out.symm, (Below.refl _ w).alloc (Nat.le_refl _) _⟩
  · have HR := hid (show left1 n k.note.size = n - k.note.size from if_pos (by omega))
    go_enter Try.func99, Try.ntmps99
    go_wp2
    go_ret
    exact ⟨ret_int HR.out.symm, (Below.refl _ w).alloc (Nat.le_refl _) _⟩

set_option maxHeartbeats 1000000 in
theorem szRecordS_any (v : Value) (rs : List Rc) (n : Int) (w : World) (h0 : 0 ≤ n) (h1 : n ≤ 1048576) (hm : rs.length ≤ maxLen) (hf : ∀ r ∈ rs, r.fits) (hr : RcS w v rs) :
    Calls Try.prog 85 #[v, .int .i64 n] w fun e w' => e = .returned (.int .i64 (leftRc n rs)) ∧ Below w.heap.size w w' := by
  obtain ⟨a, cap, rfl⟩ := hr.len
  unfold maxLen at hm
  by_cases c0 : n < rs.length
  · have HR := hid (show leftRc n rs = -1 from if_neg (by unfold rczAll; omega))
    go_enter Try.func85, Try.ntmps85
    go_wp2
    go_ret
    exact ⟨ret_int HR.out.symm, Below.refl _ _⟩
  · have d0 : decide (n - (rs.length : Int) < 0) = false := by simp; omega
    go_enter Try.func85, Try.ntmps85
    go_wp2
    go_loopw [1, 5] (fun m i wr => ∃ k : Nat, k ≤ rs.length ∧ i = .int .i64 k ∧ m = .int .i64 (n - rs.length - rczTo rs k) ∧ 0 ≤ n - rs.length - rczTo rs k ∧ Below w.heap.size w wr) (fun _ i _ => rs.length - (intOf i).toNat)
    case atStart => exact ⟨0, Nat.zero_le _, rfl, by rw [rczTo_zero]; go_num, by rw [rczTo_zero]; omega, Below.refl _ _⟩
    case round =>
      obtain ⟨k, hk, rfl, rfl, hp, hB⟩ := hrel
      by_cases hlt : k < rs.length
      · obtain ⟨b, off, rfl, hb, hcap, q0, q1, q2⟩ := (hr.below hB).at hlt
        have f1 := (hf rs[k] (List.getElem_mem hlt)).1
        have HS := hid (rczTo_succ hlt)
        have HT := hid (rczTo_le rs (k + 1))
        generalize rs[k] = r at *
        go_wp2_with fail
        refine (szRecord_any r _ _ hp (by omega) f1).mono ?_
        rintro e w1 ⟨rfl, hB1⟩
        have hB2 := below_one hB hB1
        by_cases c1 : (r.note.size : Int) ≤ n - rs.length - rczTo rs k
        · have hv : left1 (n - rs.length - rczTo rs k) r.note.size = n - rs.length - rczTo rs (k + 1) := by
            rw [HS.out]
            unfold left1
            rw [if_pos (by omega)]
            omega
          have hq : 0 ≤ n - rs.length - rczTo rs (k + 1) := by rw [HS.out]; omega
          rw [hv]
          have d1 : decide (n - (rs.length : Int) - (rczTo rs (k + 1) : Int) < 0) = false := by simp; omega
          clear hv hB1 q0 q1 q2
          go_wp2_with fail
          go_roundw
          case rel => exact ⟨k + 1, by omega, by go_num, rfl, hq, hB2⟩
          case measure => simp [intOf]; omega
        · have hv : left1 (n - rs.length - rczTo rs k) r.note.size = -1 := if_neg (by omega)
          have HR := hid (show leftRc n rs = -1 from if_neg (by have := HT.out; rw [HS.out] at this; unfold rczAll; omega))
          rw [hv]
          clear hv hB1 q0 q1 q2
          go_wp2_with fail
          go_ret
          exact ⟨ret_int HR.out.symm, hB2⟩
      · obtain rfl : k = rs.length := by omega
        have HR := hid (show leftRc n rs = n - rs.length - rczTo rs rs.length by unfold leftRc rczAll; rw [if_pos (by omega)]; omega)
        go_wp2
        go_ret
        exact ⟨ret_int HR.out.symm, hB⟩

abbrev Rc.cells (k : Rc) : List Value := [.int .i64 k.num, .string k.note, .int .u32 (k.su : Int)]
theorem rcflat_len (ks : List Rc) : (ks.flatMap Rc.cells).length = ks.length * 3 := by
  induction ks with
  | nil => rfl
  | cons r rs ih => rw [List.flatMap_cons, List.length_append, ih]; simp; omega
theorem rcflat_at (rs : List Rc) : ∀ (k j : Nat) (h : k < rs.length), j < 3 → (rs.flatMap Rc.cells)[k * 3 + j]? = rs[k].cells[j]? := by
  induction rs with
  | nil => intro k j h; simp at h
  | cons r rs ih =>
    intro k j h hj
    rw [List.flatMap_cons]
    cases k with
    | zero => rw [List.getElem?_append_left (by simp; omega)]; simp
    | succ k =>
      rw [List.getElem?_append_right (by simp; omega)]
      have := ih k j (by simpa using h) hj
      rw [show (k + 1) * 3 + j - r.cells.length = k * 3 + j by simp; omega]
      simpa using this
/-- A slice of records of one's own reads as its list. -/
theorem RcS.own {w : World} {base : Nat} {v : Value} {rs : List Rc} (h : w.ownsRow base 138 3 v rs.length (rs.flatMap Rc.cells)) : RcS w v rs := by
  rcases h.2 with ⟨rfl, h0⟩ | ⟨g, cap, cur, rfl, hg, hb, hle, _⟩
  · exact .inl ⟨none, 0, rfl, List.eq_nil_of_length_eq_zero h0⟩
  · refine .inr ⟨g, 0, cap, rfl, (Array.getElem?_eq_some_iff.1 hb).1, hle, fun k hk => ?_⟩
    have hc : ∀ j, j < 3 → w.cell? ⟨g, k * 3 + j, none⟩ = rs[k].cells[j]? := fun j hj => by rw [h.cellAt (k * 3 + j) (by omega), rcflat_at rs k j hk hj]
    have h0 := hc 0 (by omega)
    have h1 := hc 1 (by omega)
    have h2 := hc 2 (by omega)
    simp only [Nat.add_zero, List.getElem?_cons_zero, List.getElem?_cons_succ] at h0 h1 h2
    exact ⟨by rw [Nat.zero_add]; exact h0, by rw [Nat.zero_add]; exact h1, by rw [Nat.zero_add]; exact h2⟩
theorem infoRecord : (Try.prog.info? 138).map (fun i => (i.zero, i.size, i.bytes)) = some (some (.agg #[.int .i64 0, .string ByteArray.empty, .int .u32 0]), 3, 32) := by kernel_rfl

set_option maxHeartbeats 1000000 in
theorem toRecord_any (k : Rc) (w : World) :
    Calls Try.prog 103 #[k.val] w fun e w' => e = .returned k.val ∧ Below w.heap.size w w' := by
  go_enter Try.func103, Try.ntmps103
  go_wp2
  exact bodyPost_ret (v := k.val) (by simp [results, Try.results103, go_sem]) rfl ⟨rfl, (((Below.refl _ w).alloc (Nat.le_refl _) _).alloc (by simp) _).alloc (by simp; omega) _⟩

set_option maxHeartbeats 2000000 in
theorem toRecordS_any (v : Value) (rs : List Rc) (w : World) (hm : rs.length ≤ 1048576) (hr : RcS w v rs) :
    Calls Try.prog 91 #[v] w fun e w' => ∃ v', e = .returned v' ∧ w'.ownsRow w.heap.size 138 3 v' rs.length (rs.flatMap Rc.cells) ∧ Below w.heap.size w w' := by
  obtain ⟨a, cap, rfl⟩ := hr.len
  obtain ⟨i0, hi, hz0, hz1, hz2⟩ := info_parts infoRecord
  go_enter Try.func91, Try.ntmps91
  go_wp2_with (at_make; refine wpList_make_full _ rfl _ _ 91 rfl w.heap.size 138 i0 _ 3 Try.underlying91 hi hz0 hz1 _ _ _ _ rs.length rfl rfl rfl rfl (by rw [hz2]; omega) (by unfold maxLen; omega) (Nat.le_refl _) ?_; intro w1 hown hgrow)
  have hB1 : Below w.heap.size w w1 := (Below.refl _ w).grown hgrow (Nat.le_refl _) (fun k e => by cases e)
  go_loopw [4] (fun i wr => ∃ k : Nat, k ≤ rs.length ∧ i = .int .i64 k ∧ ∃ xs, wr.ownsRow w.heap.size 138 3 (.slice (some ⟨w.heap.size, 0, none⟩) rs.length rs.length) rs.length xs ∧ xs.take (k * 3) = (rs.take k).flatMap Rc.cells ∧ Below w.heap.size w wr) (fun i _ => rs.length - (intOf i).toNat)
  case atStart => exact ⟨0, Nat.zero_le _, rfl, _, hown, by simp, hB1⟩
  case round =>
    obtain ⟨k, hk, rfl, xs, hrow, hx, hB⟩ := hrel
    have HX := hid hx
    clear hx
    by_cases hlt : k < rs.length
    · obtain ⟨b, off, rfl, hb, hcap, q0, q1, q2⟩ := (hr.below hB).at hlt
      have HT := hid (List.take_succ_eq_append_getElem hlt)
      generalize rs[k] = r at *
      go_wp2_with fail
      refine (toRecord_any r _).mono ?_
      rintro e w2 ⟨rfl, hB2⟩
      have hrow2 := ownsRow_below hrow hB2
      have hB3 := below_one hB hB2
      have hlen : xs.length = rs.length * 3 := hrow2.1
      have s0 := hrow2.cellAt (k * 3) (by omega)
      have s1 := hrow2.cellAt (k * 3 + 1) (by omega)
      have s2 := hrow2.cellAt (k * 3 + 2) (by omega)
      rw [List.getElem?_eq_getElem (by omega)] at s0 s1 s2
      have t0 := hrow2.frozenAt (k * 3)
      have t1 := hrow2.frozenAt (k * 3 + 1)
      have t2 := hrow2.frozenAt (k * 3 + 2)
      generalize xs[k * 3] = y0 at *
      generalize xs[k * 3 + 1] = y1 at *
      generalize xs[k * 3 + 2] = y2 at *
      clear q0 q1 q2 hB2
      go_wp2_with fail
      go_roundw
      case rel =>
        refine ⟨k + 1, by omega, by go_num, _, ((hrow2.stored (k * 3) (.int .i64 r.num)).1.stored (k * 3 + 1) (.string r.note)).1.stored (k * 3 + 2) (.int .u32 (r.su : Int)) |>.1, ?_, ((hB3.setCell (p := ⟨w.heap.size, _, none⟩) (Nat.le_refl _) _).setCell (p := ⟨w.heap.size, _, none⟩) (Nat.le_refl _) _).setCell (p := ⟨w.heap.size, _, none⟩) (Nat.le_refl _) _⟩
        rw [take_set3 _ _ _ _ _ (by omega), HX.out, HT.out, List.flatMap_append]
        simp
      case measure => simp [intOf]; omega
    · obtain rfl : k = rs.length := by omega
      have HF := hid (show xs = rs.flatMap Rc.cells by have := HX.out; rw [List.take_of_length_le (by have := hrow.1; omega), List.take_length] at this; exact this)
      go_wp2
      go_ret
      exact ⟨_, rfl, by rw [← HF.out]; exact hrow, hB⟩

end Go.Proofs.Ytnbojbcljfiamaa

namespace Go.Proofs.Ytnbojbcljfiamaa
open Go.RowKit Go.Shelf

set_option maxHeartbeats 1000000 in
theorem eqRecord_same (r : Rc) (w : World) :
    Calls Try.prog 96 #[r.val, r.val] w fun e w' => e = .returned (.bool true) ∧ Below w.heap.size w w' := by
  have e0 : (r.num != r.num) = false := by simp
  have e1 : (r.note.toList == r.note.toList) = true := by simp
  have e2 : ((r.su : Int) != (r.su : Int)) = false := by simp
  go_enter Try.func96, Try.ntmps96
  go_wp2
  go_ret
  exact ⟨rfl, ((Below.refl _ w).alloc (Nat.le_refl _) _).alloc (by simp) _⟩

set_option maxHeartbeats 2000000 in
/-- A list of records is like itself, wherever the two lie. -/
theorem eqRecordS_same (v v' : Value) (ks : List Rc) (w : World) (hn : ks.length ≤ 1048577) (hr : RcS w v ks) (hr' : RcS w v' ks) :
    Calls Try.prog 80 #[v, v'] w fun e w' => e = .returned (.bool true) ∧ Below w.heap.size w w' := by
  obtain ⟨a, cap, rfl⟩ := hr.len
  obtain ⟨a', cap', rfl⟩ := hr'.len
  have e0 : ((ks.length : Int) != (ks.length : Int)) = false := by simp
  go_enter Try.func80, Try.ntmps80
  go_wp2
  go_loopw [5] (fun i wr => ∃ j : Nat, j ≤ ks.length ∧ i = .int .i64 j ∧ Below w.heap.size w wr) (fun i _ => ks.length - (intOf i).toNat)
  case atStart => exact ⟨0, Nat.zero_le _, rfl, Below.refl _ _⟩
  case round =>
    obtain ⟨j, hj, rfl, hB⟩ := hrel
    by_cases hlt : j < ks.length
    · obtain ⟨b, off, rfl, hb, hcap, q0, q1, q2⟩ := (hr.below hB).at hlt
      obtain ⟨b', off', rfl, hb', hcap', p0, p1, p2⟩ := (hr'.below hB).at hlt
      generalize ks[j] = r at *
      go_wp2_with fail
      go_region_with (go_at_call 96; refine (eqRecord_same r _).mono ?_; rintro e w1 ⟨rfl, hB1⟩)
      all_goals go_wp2
      all_goals go_roundw
      all_goals first
        | exact ⟨j + 1, by omega, by go_num, below_one hB (below_drew1 hB1)⟩
        | (simp [intOf]; omega)
    · obtain rfl : j = ks.length := by omega
      go_wp2
      go_ret
      exact ⟨rfl, hB⟩

end Go.Proofs.Ytnbojbcljfiamaa

namespace Go.Proofs.Ytnbojbcljfiamaa
open Go.RowKit Go.Shelf

def Lk.same (r s : Lk) : Bool := (((((r.who.toList == s.who.toList) && (r.to.toList == s.to.toList)) && (r.se == s.se)) && (r.fr == s.fr)) && (r.un == s.un))
theorem Lk.same_refl (r : Lk) : r.same r = true := by simp [Lk.same]
theorem Lk.same_eq {r s : Lk} (h : r.same s = true) : r = s := by
  unfold Lk.same at h
  simp only [Bool.and_eq_true, beq_iff_eq, toList_data] at h
  obtain ⟨⟨⟨⟨h1, h2⟩, h3⟩, h4⟩, h5⟩ := h
  obtain ⟨a, b, c, d, e⟩ := r
  obtain ⟨a', b', c', d', e'⟩ := s
  simp only at h1 h2 h3 h4 h5
  rw [bytes_same h1, bytes_same h2, h3, h4, h5]

set_option maxHeartbeats 1000000 in
theorem eqLink_any (r s : Lk) (w : World) :
    Calls Try.prog 105 #[r.val, s.val] w fun e w' => e = .returned (.bool (r.same s)) ∧ Below w.heap.size w w' := by
  cases b0 : (r.who.toList == s.who.toList)
  · have e0 : (r.who.toList == s.who.toList) = false := b0
    have HR := hid (show r.same s = false by unfold Lk.same; rw [b0]; rfl)
    clear b0
    go_enter Try.func105, Try.ntmps105
    go_wp2
    go_ret
    exact ⟨ret_bool HR.out.symm, ((Below.refl _ w).alloc (Nat.le_refl _) _).alloc (by simp) _⟩
  · have e0 : (r.who.toList == s.who.toList) = true := b0
    cases b1 : (r.to.toList == s.to.toList)
    · have e1 : (r.to.toList == s.to.toList) = false := b1
      have HR := hid (show r.same s = false by unfold Lk.same; rw [b0, b1]; rfl)
      clear b0 b1
      go_enter Try.func105, Try.ntmps105
      go_wp2
      go_ret
      exact ⟨ret_bool HR.out.symm, ((Below.refl _ w).alloc (Nat.le_refl _) _).alloc (by simp) _⟩
    · have e1 : (r.to.toList == s.to.toList) = true := b1
      cases b2 : (r.se == s.se)
      · have e2 : (r.se != s.se) = true := by rw [bne, b2]; rfl
        have HR := hid (show r.same s = false by unfold Lk.same; rw [b0, b1, b2]; rfl)
        clear b0 b1 b2
        go_enter Try.func105, Try.ntmps105
        go_wp2
        go_ret
        exact ⟨ret_bool HR.out.symm, ((Below.refl _ w).alloc (Nat.le_refl _) _).alloc (by simp) _⟩
      · have e2 : (r.se != s.se) = false := by rw [bne, b2]; rfl
        cases b3 : (r.fr == s.fr)
        · have e3 : (r.fr != s.fr) = true := by rw [bne, b3]; rfl
          have HR := hid (show r.same s = false by unfold Lk.same; rw [b0, b1, b2, b3]; rfl)
          clear b0 b1 b2 b3
          go_enter Try.func105, Try.ntmps105
          go_wp2
          go_ret
          exact ⟨ret_bool HR.out.symm, ((Below.refl _ w).alloc (Nat.le_refl _) _).alloc (by simp) _⟩
        · have e3 : (r.fr != s.fr) = false := by rw [bne, b3]; rfl
          cases b4 : (r.un == s.un)
          · have e4 : (r.un != s.un) = true := by rw [bne, b4]; rfl
            have HR := hid (show r.same s = false by unfold Lk.same; rw [b0, b1, b2, b3, b4]; rfl)
            clear b0 b1 b2 b3 b4
            go_enter Try.func105, Try.ntmps105
            go_wp2
            go_ret
            exact ⟨ret_bool HR.out.symm, ((Below.refl _ w).alloc (Nat.le_refl _) _).alloc (by simp) _⟩
          · have e4 : (r.un != s.un) = false := by rw [bne, b4]; rfl
            have HR := hid (show r.same s = true by unfold Lk.same; rw [b0, b1, b2, b3, b4]; rfl)
            clear b0 b1 b2 b3 b4
            go_enter Try.func105, Try.ntmps105
            go_wp2
            go_ret
            exact ⟨ret_bool HR.out.symm, ((Below.refl _ w).alloc (Nat.le_refl _) _).alloc (by simp) _⟩

def lsTo (rs ss : List Lk) (k : Nat) : Bool := ((rs.zip ss).take k).all (fun q => q.1.same q.2)
def lsS (rs ss : List Lk) : Bool := decide (rs.length = ss.length) && (rs.zip ss).all (fun q => q.1.same q.2)
theorem lsTo_zero (rs ss : List Lk) : lsTo rs ss 0 = true := by simp [lsTo]
theorem lsTo_succ {rs ss : List Lk} {k : Nat} (h : k < rs.length) (h' : k < ss.length) : lsTo rs ss (k + 1) = (lsTo rs ss k && rs[k].same ss[k]) := by
  unfold lsTo
  rw [List.take_succ_eq_append_getElem (by rw [List.length_zip]; omega), List.all_append]
  simp
theorem ls_bad {rs ss : List Lk} {k : Nat} (hb : lsTo rs ss (k + 1) = false) : lsS rs ss = false := by
  unfold lsTo at hb
  rw [List.all_eq_false] at hb
  obtain ⟨x, hx, hn⟩ := hb
  unfold lsS
  rw [Bool.and_eq_false_iff]
  exact .inr (List.all_eq_false.2 ⟨x, List.mem_of_mem_take hx, hn⟩)
theorem ls_end {rs ss : List Lk} (h : rs.length = ss.length) : lsTo rs ss rs.length = lsS rs ss := by
  unfold lsTo lsS
  rw [List.take_of_length_le (by rw [List.length_zip]; omega), decide_eq_true h, Bool.true_and]
theorem lsS_refl (rs : List Lk) : lsS rs rs = true := by
  unfold lsS
  rw [decide_eq_true rfl, Bool.true_and, List.all_eq_true]
  intro x hx
  obtain ⟨i, hi, he⟩ := List.getElem_of_mem hx
  rw [List.getElem_zip] at he
  rw [← he]
  exact Lk.same_refl _

set_option maxHeartbeats 2000000 in
theorem eqLinkS_any (v v' : Value) (rs ss : List Lk) (w : World) (_hm : rs.length ≤ 1048577) (hm' : ss.length ≤ 1048577) (hr : LkS w v rs) (hr' : LkS w v' ss) :
    Calls Try.prog 93 #[v, v'] w fun e w' => e = .returned (.bool (lsS rs ss)) ∧ Below w.heap.size w w' := by
  obtain ⟨a, cap, rfl⟩ := hr.len
  obtain ⟨a', cap', rfl⟩ := hr'.len
  by_cases hl : rs.length = ss.length
  · have e0 : ((rs.length : Int) != (ss.length : Int)) = false := by simp; omega
    have hl1 : rs.length ≤ ss.length := by omega
    have HL := hid hl
    clear hl
    go_enter Try.func93, Try.ntmps93
    go_wp2
    go_loopw [5] (fun i wr => ∃ k : Nat, k ≤ rs.length ∧ i = .int .i64 k ∧ lsTo rs ss k = true ∧ Below w.heap.size w wr) (fun i _ => rs.length - (intOf i).toNat)
    case atStart => exact ⟨0, Nat.zero_le _, rfl, lsTo_zero _ _, Below.refl _ _⟩
    case round =>
      obtain ⟨k, hk, rfl, hs, hB⟩ := hrel
      have HS := hid hs
      clear hs
      by_cases hlt : k < rs.length
      · have hlt' : k < ss.length := by omega
        obtain ⟨b, off, rfl, hb, hcap, q0, q1, q2, q3, q4⟩ := (hr.below hB).at hlt
        obtain ⟨b', off', rfl, hb', hcap', p0, p1, p2, p3, p4⟩ := (hr'.below hB).at hlt'
        have HT := hid (lsTo_succ hlt hlt')
        generalize rs[k] = r at *
        generalize ss[k] = s at *
        cases hq : r.same s
        · have HR := hid (show lsS rs ss = false from ls_bad (by rw [HT.out, hq, Bool.and_false]))
          go_wp2_with fail
          go_region_with (go_at_call 105; refine (eqLink_any r s _).mono ?_; rintro e w1 ⟨rfl, hB1⟩)
          all_goals go_wp2
          all_goals go_ret
          all_goals exact ⟨ret_bool HR.out.symm, below_one hB (below_drew1 hB1)⟩
        · have HR := hid (show lsTo rs ss (k + 1) = true by rw [HT.out, HS.out, hq]; rfl)
          go_wp2_with fail
          go_region_with (go_at_call 105; refine (eqLink_any r s _).mono ?_; rintro e w1 ⟨rfl, hB1⟩)
          all_goals go_wp2
          all_goals go_roundw
          all_goals first
            | exact ⟨k + 1, by omega, by go_num, HR.out, below_one hB (below_drew1 hB1)⟩
            | (simp [intOf]; omega)
      · obtain rfl : k = rs.length := by omega
        have HR := hid (show lsS rs ss = true by rw [← ls_end HL.out]; exact HS.out)
        go_wp2
        go_ret
        exact ⟨ret_bool HR.out.symm, hB⟩
  · have e0 : ((rs.length : Int) != (ss.length : Int)) = true := by simp; omega
    have HR := hid (show lsS rs ss = false by unfold lsS; rw [decide_eq_false hl]; rfl)
    clear hl
    go_enter Try.func93, Try.ntmps93
    go_wp2
    go_ret
    exact ⟨ret_bool HR.out.symm, Below.refl _ _⟩

end Go.Proofs.Ytnbojbcljfiamaa

namespace Go.Proofs.Ytnbojbcljfiamaa
open Go.RowKit Go.Shelf

/-- An ask. -/
structure Ak where
  tk : List Lk
  me : ByteArray
  pa : ByteArray
/-- These cells read as this one. -/
def AkC (w : World) (cs : List Value) (a : Ak) : Prop := ∃ p0x p0z, cs = [.slice p0x a.tk.length p0z, .string a.me, .string a.pa] ∧ LkS w (.slice p0x a.tk.length p0z) a.tk
/-- .. of one's own, in blocks from base on, below top. -/
def AkO (w : World) (base top : Nat) (cs : List Value) (a : Ak) : Prop := ∃ p0x p0z, cs = [.slice p0x a.tk.length p0z, .string a.me, .string a.pa] ∧ RoO 75 5 w base top (.slice p0x a.tk.length p0z) a.tk.length (a.tk.flatMap Lk.cells)
def Ak.fits (a : Ak) : Prop := (a.tk.length ≤ maxLen ∧ ∀ k ∈ a.tk, k.fits) ∧ a.me.size ≤ maxLen ∧ a.pa.size ≤ maxLen
def Ak.size (a : Ak) : Nat := lzAll a.tk + a.me.size + a.pa.size
def Ak.short (a : Ak) : Prop := (a.tk.length ≤ 1048576 ∧ ∀ k ∈ a.tk, k.size ≤ 1048576) ∧ a.me.size ≤ 1048576 ∧ a.pa.size ≤ 1048576
theorem AkC.below {w w' : World} {cs : List Value} {a : Ak} (h : AkC w cs a) (hB : Below w.heap.size w w') : AkC w' cs a := by
  obtain ⟨p0x, p0z, rfl, h0⟩ := h
  exact ⟨_, _, rfl, h0.below hB⟩
theorem AkO.mid {lo hi : Nat} {w w1 : World} {base top : Nat} {cs : List Value} {a : Ak} (h : AkO w base top cs a) (M : Mid lo hi w w1) (ho : hi ≤ base ∨ top ≤ lo) : AkO w1 base top cs a := by
  obtain ⟨p0x, p0z, rfl, h0⟩ := h
  exact ⟨_, _, rfl, h0.mid M (by omega)⟩
theorem AkO.below {w w1 : World} {base top : Nat} {cs : List Value} {a : Ak} (h : AkO w base top cs a) (hB : Below w.heap.size w w1) : AkO w1 base top cs a := h.mid (Mid.of_below (lo := 0) (hi := 0) hB) (.inl (Nat.zero_le _))
theorem AkO.mono {w : World} {base base' top top' : Nat} {cs : List Value} {a : Ak} (h : AkO w base top cs a) (hb : base' ≤ base) (ht : top ≤ top') : AkO w base' top' cs a := by
  obtain ⟨p0x, p0z, rfl, h0⟩ := h
  exact ⟨_, _, rfl, h0.mono hb ht⟩
theorem Ak.short_of {a : Ak} (h : a.size ≤ 1048576) : a.short := by
  unfold Ak.size lzAll at h
  exact ⟨⟨by omega, fun k hk => by have := lz_mem hk; omega⟩, by omega, by omega⟩
theorem AkO.a {w : World} {base top : Nat} {cs : List Value} {a : Ak} (h : AkO w base top cs a) : AkC w cs a := by
  obtain ⟨_, _, rfl, h0⟩ := h
  exact ⟨_, _, rfl, LkS.own h0.1⟩

set_option maxRecDepth 100000 in
theorem cellsAsk : Try.prog.cellsOf 116 = 3 := by kernel_rfl
set_option maxRecDepth 100000 in
open Go.Deep Go.ChangeShapes Go.WideShapes Go.ChangeAt Go.Joins in
/-- The cells of an ask that comes in. -/
theorem openAkC {H : Type} {enc : TypeId × Value → H} {W : World} {l : List Value} {y : DataW H × List MemPlace} {fuel : Nat} (hsz : l.length = 3) (hf : DataW.trod enc Try.prog W 0 (fun _ => true) true fuel 116 l = some y) :
    ∃ a : Ak, AkC W l a ∧ a.fits := by
  obtain ⟨c0, c1, c2, rfl⟩ : ∃ c0 c1 c2, l = [c0, c1, c2] := by
    match l, hsz with
    | [c0, c1, c2], _ => exact ⟨c0, c1, c2, rfl⟩
  obtain ⟨xs, n, _, _, _, hlen, hfs⟩ := DataW.trod_struct Try.underlying116 hf
  obtain ⟨y0, y1, y2, rfl⟩ : ∃ y0 y1 y2, xs = [y0, y1, y2] := by
    match xs, hlen with
    | [y0, y1, y2], _ => exact ⟨y0, y1, y2, rfl⟩
  have cl : Try.prog.cellsOf 114 = 1 := by kernel_rfl
  have cs : Try.prog.cellsOf 9 = 1 := by kernel_rfl
  have h0 : DataW.trod enc Try.prog W 0 (fun _ => true) true n 114 [c0] = some y0 := by have := hfs 0 _ rfl; simpa [Value.cells, cl] using this
  have h1 : DataW.trod enc Try.prog W 0 (fun _ => true) true n 9 [c1] = some y1 := by have := hfs 1 _ rfl; simpa [Value.cells, cl, cs] using this
  have h2 : DataW.trod enc Try.prog W 0 (fun _ => true) true n 9 [c2] = some y2 := by have := hfs 2 _ rfl; simpa [Value.cells, cl, cs] using this
  obtain ⟨a0, n0, k0, ks, rfl, r0, rfl, l0, f0⟩ := openLkR h0
  obtain ⟨x1, f1, _, w1⟩ := DataW.trod_string Try.underlying9 h1
  obtain ⟨x2, f2, _, w2⟩ := DataW.trod_string Try.underlying9 h2
  simp at f1 f2
  subst f1 f2
  exact ⟨⟨ks, x1, x2⟩, ⟨_, _, rfl, r0⟩, ⟨l0, f0⟩, w1, w2⟩
set_option maxRecDepth 100000 in
open Go.Deep Go.ChangeShapes Go.WideShapes Go.ChangeAt Go.Joins in
/-- An ask that comes in. -/
theorem openAk {H : Type} {enc : TypeId × Value → H} {W : World} {base : Nat} {v : Value} {y : DataW H} {p : List MemPlace} (hv : Value.okWide Try.prog W .any base 116 v) (h : DataW.Trod enc Try.prog W 0 (fun _ => true) true 116 v y p) :
    ∃ (cs : List Value) (a : Ak), v = .agg cs.toArray ∧ AkC W cs a ∧ a.fits := by
  obtain ⟨cs, rfl, hsz⟩ := okWide_struct Try.underlying116 hv
  rw [cellsAsk] at hsz
  obtain ⟨l⟩ := cs
  obtain ⟨fuel, hf⟩ := h
  obtain ⟨a, h1, h2⟩ := openAkC hsz hf
  exact ⟨l, a, rfl, h1, h2⟩

set_option maxHeartbeats 4000000 in
set_option maxRecDepth 100000 in
theorem szAsk_any (cs : List Value) (a : Ak) (n : Int) (w : World) (h0 : 0 ≤ n) (hn : n ≤ 1048576) (hf : a.fits) (h : AkC w cs a) :
    Calls Try.prog 86 #[.agg cs.toArray, .int .i64 n] w fun e w' => e = .returned (.int .i64 (leftK n a.size)) ∧ Below w.heap.size w w' := by
  obtain ⟨p0x, p0z, rfl, h1⟩ := h
  obtain ⟨f0, f1, f2⟩ := hf
  have hB0 : Below w.heap.size w (w.alloc (.cells #[.slice p0x a.tk.length p0z, .string a.me, .string a.pa] 116)) := (Below.refl _ w).alloc (Nat.le_refl _) _
  have F1 := Three.new w (.slice p0x a.tk.length p0z) (.string a.me) (.string a.pa) 116
  have HI := hid (show leftK n a.size = if (a.size : Int) ≤ n then n - (a.size : Int) else (-1 : Int) from rfl)
  have HZ := hid (show a.size = lzAll a.tk + a.me.size + a.pa.size from rfl)
  obtain ⟨N0, HN0⟩ : ∃ N : Nat, Hid (N = lzAll a.tk) := ⟨_, hid rfl⟩
  obtain ⟨N1, HN1⟩ : ∃ N : Nat, Hid (N = a.me.size) := ⟨_, hid rfl⟩
  obtain ⟨N2, HN2⟩ : ∃ N : Nat, Hid (N = a.pa.size) := ⟨_, hid rfl⟩
  have HN1' := HN1.out
  have e1 : a.me.size = N1 := HN1'.symm
  have u1 : N1 ≤ 9223372036854775807 := by unfold maxLen at f1; omega
  clear HN1'
  have HN2' := HN2.out
  have e2 : a.pa.size = N2 := HN2'.symm
  have u2 : N2 ≤ 9223372036854775807 := by unfold maxLen at f2; omega
  clear HN2'
  go_enter Try.func86, Try.ntmps86
  go_wp2_with fail
  generalize w.alloc (.cells #[.slice p0x a.tk.length p0z, .string a.me, .string a.pa] 116) = W0 at *
  refine (szLinkS_any _ a.tk (n) _ (by omega) (by omega) f0.1 f0.2 (h1.below hB0)).mono ?_
  rintro e w1 ⟨rfl, hB1⟩
  replace F1 := F1.below hB1
  replace hB0 := below_one hB0 hB1
  clear hB1
  obtain ⟨a0, a1, a2⟩ := F1.c
  by_cases c0 : (N0 : Int) ≤ n
  · rw [show leftL (n) a.tk = n - (N0 : Int) from (show leftK (n) _ = _ by unfold leftK; rw [← HN0.out]; exact if_pos c0)]
    have d0 : decide (n - (N0 : Int) < 0) = false := by simp; omega
    by_cases c1 : (N1 : Int) ≤ n - (N0 : Int)
    · have d1 : decide (n - (N0 : Int) - (N1 : Int) < 0) = false := by simp; omega
      by_cases c2 : (N2 : Int) ≤ n - (N0 : Int) - (N1 : Int)
      · have d2 : decide (n - (N0 : Int) - (N1 : Int) - (N2 : Int) < 0) = false := by simp; omega
        have HR := hid (show leftK n a.size = n - (N0 : Int) - (N1 : Int) - (N2 : Int) by rw [HI.out, if_pos (by rw [HZ.out, ← HN0.out, ← HN1.out, ← HN2.out]; push_cast; omega)]; rw [HZ.out, ← HN0.out, ← HN1.out, ← HN2.out]; push_cast; omega)
        go_wp2_with fail
        go_ret
        exact ⟨ret_int HR.out.symm, hB0⟩
      · have d2 : decide (n - (N0 : Int) - (N1 : Int) - (N2 : Int) < 0) = true := by simp; omega
        have HR := hid (show leftK n a.size = -1 by rw [HI.out, if_neg (by rw [HZ.out, ← HN0.out, ← HN1.out, ← HN2.out]; push_cast; omega)])
        go_wp2_with fail
        go_ret
        exact ⟨ret_int HR.out.symm, hB0⟩
    · have d1 : decide (n - (N0 : Int) - (N1 : Int) < 0) = true := by simp; omega
      have HR := hid (show leftK n a.size = -1 by rw [HI.out, if_neg (by rw [HZ.out, ← HN0.out, ← HN1.out, ← HN2.out]; push_cast; omega)])
      go_wp2_with fail
      go_ret
      exact ⟨ret_int HR.out.symm, hB0⟩
  · rw [show leftL (n) a.tk = -1 from (show leftK (n) _ = _ by unfold leftK; rw [← HN0.out]; exact if_neg c0)]
    have HR := hid (show leftK n a.size = -1 by rw [HI.out, if_neg (by rw [HZ.out, ← HN0.out, ← HN1.out, ← HN2.out]; push_cast; omega)])
    go_wp2_with fail
    go_ret
    exact ⟨ret_int HR.out.symm, hB0⟩

set_option maxHeartbeats 4000000 in
set_option maxRecDepth 100000 in
theorem eqAsk_same (cs cs' : List Value) (a : Ak) (w : World) (hs : a.short) (h : AkC w cs a) (h' : AkC w cs' a) :
    Calls Try.prog 75 #[.agg cs.toArray, .agg cs'.toArray] w fun e w' => e = .returned (.bool true) ∧ Below w.heap.size w w' := by
  obtain ⟨p0x, p0z, rfl, h0⟩ := h
  obtain ⟨q0x, q0z, rfl, h0'⟩ := h'
  obtain ⟨s0, s1, s2⟩ := hs
  have hB0 : Below w.heap.size w ((w.alloc (.cells #[.slice p0x a.tk.length p0z, .string a.me, .string a.pa] 65)).alloc (.cells #[.slice q0x a.tk.length q0z, .string a.me, .string a.pa] 65)) := ((Below.refl _ w).alloc (Nat.le_refl _) _).alloc (by simp) _
  have F1 := (Three.new w (.slice p0x a.tk.length p0z) (.string a.me) (.string a.pa) 65).below ((Below.refl _ _).alloc (Nat.le_refl _) (.cells #[.slice q0x a.tk.length q0z, .string a.me, .string a.pa] 65))
  have F2 := Three.at (w.alloc (.cells #[.slice p0x a.tk.length p0z, .string a.me, .string a.pa] 65)) (.slice q0x a.tk.length q0z) (.string a.me) (.string a.pa) 65 (k := w.heap.size + 1) (by simp)
  have e1 : (a.me.toList == a.me.toList) = true := by simp
  have e2 : (a.pa.toList == a.pa.toList) = true := by simp
  go_enter Try.func75, Try.ntmps75
  go_wp2_with fail
  generalize (w.alloc (.cells #[.slice p0x a.tk.length p0z, .string a.me, .string a.pa] 65)).alloc (.cells #[.slice q0x a.tk.length q0z, .string a.me, .string a.pa] 65) = W0 at *
  refine (eqLinkS_any _ _ a.tk a.tk _ (Nat.le_succ_of_le s0.1) (Nat.le_succ_of_le s0.1) (h0.below hB0) (h0'.below hB0)).mono ?_
  rintro e w1 ⟨rfl, hB1⟩
  rw [lsS_refl]
  replace F1 := F1.below hB1
  replace F2 := F2.below hB1
  replace hB0 := below_one hB0 hB1
  clear hB1
  obtain ⟨a0, a1, a2⟩ := F1.c
  obtain ⟨c0, c1, c2⟩ := F2.c
  go_wp2_with fail
  go_ret
  exact ⟨rfl, hB0⟩

set_option maxHeartbeats 16000000 in
set_option maxRecDepth 100000 in
theorem toAsk_any (cs : List Value) (a : Ak) (w : World) (hs : a.short) (h : AkC w cs a) :
    Calls Try.prog 92 #[.agg cs.toArray] w fun e w' => ∃ cs', e = .returned (.agg cs'.toArray) ∧ AkO w' w.heap.size w'.heap.size cs' a ∧ Below w.heap.size w w' := by
  obtain ⟨p0x, p0z, rfl, h0⟩ := h
  obtain ⟨s0, s1, s2⟩ := hs
  have hB0 : Below w.heap.size w (((w.alloc (.cells #[.slice p0x a.tk.length p0z, .string a.me, .string a.pa] 116)).alloc (.cells #[.slice none 0 0, .string ⟨#[]⟩, .string ⟨#[]⟩] 65)).alloc (.cells #[.slice none 0 0, .string ⟨#[]⟩, .string ⟨#[]⟩] 65)) := (((Below.refl _ w).alloc (Nat.le_refl _) _).alloc (by simp) _).alloc (by simp; omega) _
  have F1 := ((Three.new w (.slice p0x a.tk.length p0z) (.string a.me) (.string a.pa) 116).below ((Below.refl _ _).alloc (Nat.le_refl _) (.cells #[.slice none 0 0, .string ⟨#[]⟩, .string ⟨#[]⟩] 65))).below ((Below.refl _ _).alloc (Nat.le_refl _) (.cells #[.slice none 0 0, .string ⟨#[]⟩, .string ⟨#[]⟩] 65))
  have F2 := (Three.at (w.alloc (.cells #[.slice p0x a.tk.length p0z, .string a.me, .string a.pa] 116)) (.slice none 0 0) (.string ⟨#[]⟩) (.string ⟨#[]⟩) 65 (k := w.heap.size + 1) (by simp)).below ((Below.refl _ _).alloc (Nat.le_refl _) (.cells #[.slice none 0 0, .string ⟨#[]⟩, .string ⟨#[]⟩] 65))
  have F3 := Three.at ((w.alloc (.cells #[.slice p0x a.tk.length p0z, .string a.me, .string a.pa] 116)).alloc (.cells #[.slice none 0 0, .string ⟨#[]⟩, .string ⟨#[]⟩] 65)) (.slice none 0 0) (.string ⟨#[]⟩) (.string ⟨#[]⟩) 65 (k := w.heap.size + 1 + 1) (by simp)
  have hK : w.heap.size + 1 + 1 < (((w.alloc (.cells #[.slice p0x a.tk.length p0z, .string a.me, .string a.pa] 116)).alloc (.cells #[.slice none 0 0, .string ⟨#[]⟩, .string ⟨#[]⟩] 65)).alloc (.cells #[.slice none 0 0, .string ⟨#[]⟩, .string ⟨#[]⟩] 65)).heap.size := F3.lt
  go_enter Try.func92, Try.ntmps92
  go_wp2_with fail
  generalize ((w.alloc (.cells #[.slice p0x a.tk.length p0z, .string a.me, .string a.pa] 116)).alloc (.cells #[.slice none 0 0, .string ⟨#[]⟩, .string ⟨#[]⟩] 65)).alloc (.cells #[.slice none 0 0, .string ⟨#[]⟩, .string ⟨#[]⟩] 65) = W0 at *
  refine (toLinkS_any _ a.tk _ s0.1 (h0.below hB0)).mono ?_
  rintro e w1 ⟨v1, rfl, o0, hB1⟩
  replace o0 := RoO.of o0
  obtain ⟨r0x, r0z, rfl⟩ := RoO.len o0
  replace F1 := F1.below hB1
  replace F2 := F2.below hB1
  replace F3 := F3.below hB1
  replace hB0 := below_one hB0 hB1
  have hs1 := hB1.size
  clear hB1
  obtain ⟨a0, a1, a2⟩ := F1.c
  obtain ⟨c0, c1, c2⟩ := F3.c
  have f0 := F3.f 0
  have f1 := F3.f 1
  have f2 := F3.f 2
  have G3 := (((F3.s0 (.slice r0x a.tk.length r0z)).s1 (.string a.me)).s2 (.string a.pa))
  have G2 := (((F2.other (k' := w.heap.size + 1 + 1) (by omega) 0 (.slice r0x a.tk.length r0z)).other (k' := w.heap.size + 1 + 1) (by omega) 1 (.string a.me)).other (k' := w.heap.size + 1 + 1) (by omega) 2 (.string a.pa))
  obtain ⟨m0, m1, m2⟩ := G3.c
  obtain ⟨t0, t1, t2⟩ := G2.c
  have g0 := G2.f 0
  have g1 := G2.f 1
  have g2 := G2.f 2
  have G := (((G2.s0 (.slice r0x a.tk.length r0z)).s1 (.string a.me)).s2 (.string a.pa))
  have M9 : Mid (w.heap.size + 1) (w.heap.size + 1 + 1 + 1) w1 ((((((w1.setCell ⟨w.heap.size + 1 + 1, 0, none⟩ (.slice r0x a.tk.length r0z)).setCell ⟨w.heap.size + 1 + 1, 1, none⟩ (.string a.me)).setCell ⟨w.heap.size + 1 + 1, 2, none⟩ (.string a.pa)).setCell ⟨w.heap.size + 1, 0, none⟩ (.slice r0x a.tk.length r0z)).setCell ⟨w.heap.size + 1, 1, none⟩ (.string a.me)).setCell ⟨w.heap.size + 1, 2, none⟩ (.string a.pa)) := (((((((Mid.of_below (Below.refl _ _)).set (p := ⟨w.heap.size + 1 + 1, 0, none⟩) (by simp) (by simp) (.slice r0x a.tk.length r0z)).set (p := ⟨w.heap.size + 1 + 1, 1, none⟩) (by simp) (by simp) (.string a.me)).set (p := ⟨w.heap.size + 1 + 1, 2, none⟩) (by simp) (by simp) (.string a.pa)).set (p := ⟨w.heap.size + 1, 0, none⟩) (by simp) (by simp) (.slice r0x a.tk.length r0z)).set (p := ⟨w.heap.size + 1, 1, none⟩) (by simp) (by simp) (.string a.me)).set (p := ⟨w.heap.size + 1, 2, none⟩) (by simp) (by simp) (.string a.pa))
  replace o0 := o0.mid M9 (.inl (by omega))
  replace hB0 := ((((((hB0.setCell (p := ⟨w.heap.size + 1 + 1, 0, none⟩) (by simp; omega) (.slice r0x a.tk.length r0z)).setCell (p := ⟨w.heap.size + 1 + 1, 1, none⟩) (by simp; omega) (.string a.me)).setCell (p := ⟨w.heap.size + 1 + 1, 2, none⟩) (by simp; omega) (.string a.pa)).setCell (p := ⟨w.heap.size + 1, 0, none⟩) (by simp) (.slice r0x a.tk.length r0z)).setCell (p := ⟨w.heap.size + 1, 1, none⟩) (by simp) (.string a.me)).setCell (p := ⟨w.heap.size + 1, 2, none⟩) (by simp) (.string a.pa))
  have hE : w1.heap.size ≤ ((((((w1.setCell ⟨w.heap.size + 1 + 1, 0, none⟩ (.slice r0x a.tk.length r0z)).setCell ⟨w.heap.size + 1 + 1, 1, none⟩ (.string a.me)).setCell ⟨w.heap.size + 1 + 1, 2, none⟩ (.string a.pa)).setCell ⟨w.heap.size + 1, 0, none⟩ (.slice r0x a.tk.length r0z)).setCell ⟨w.heap.size + 1, 1, none⟩ (.string a.me)).setCell ⟨w.heap.size + 1, 2, none⟩ (.string a.pa)).heap.size := by simp
  have hW0 : w.heap.size ≤ W0.heap.size := by omega
  clear F1 F2 F3 M9
  go_wp2_with fail
  clear a0 a1 a2 c0 c1 c2 f0 f1 f2 m0 m1 m2 t0 t1 t2 g0 g1 g2
  generalize (((((w1.setCell ⟨w.heap.size + 1 + 1, 0, none⟩ (.slice r0x a.tk.length r0z)).setCell ⟨w.heap.size + 1 + 1, 1, none⟩ (.string a.me)).setCell ⟨w.heap.size + 1 + 1, 2, none⟩ (.string a.pa)).setCell ⟨w.heap.size + 1, 0, none⟩ (.slice r0x a.tk.length r0z)).setCell ⟨w.heap.size + 1, 1, none⟩ (.string a.me)).setCell ⟨w.heap.size + 1, 2, none⟩ (.string a.pa) = WE at *
  obtain ⟨d0, d1, d2⟩ := G.c
  exact bodyPost_ret (v := .agg #[.slice r0x a.tk.length r0z, .string a.me, .string a.pa]) (by simp [results, Try.results92, go_sem, d0, d1, d2]) rfl ⟨_, rfl, ⟨_, _, rfl, o0.mono (by omega) (by omega)⟩, hB0⟩

end Go.Proofs.Ytnbojbcljfiamaa
