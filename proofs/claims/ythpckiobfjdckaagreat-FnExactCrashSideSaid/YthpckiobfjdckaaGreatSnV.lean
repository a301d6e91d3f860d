/-
  Versions in memory: how one that comes in is read, what the laws measure, hand on, hold and mark.
-/
import Derived.Test.YthpckiobfjdckaaGreatBlkN
import Derived.Test.YthpckiobfjdckaaGreatSnM
import Derived.Test.YthpckiobfjdckaaGreatMarkH
namespace Go.Proofs.YthpckiobfjdckaaGreat
open Go.RowKit Go.Shelf

/-- Lists that can be read, by an address or none at all. -/
def RuR (w : World) (v : Value) (rs : List Ru) : Prop :=
  (v = .slice none 0 0 ∧ rs = []) ∨ ∃ b off cap, v = .slice (some ⟨b, off, none⟩) rs.length cap ∧ b < w.heap.size ∧ rs.length ≤ cap ∧ ∀ k (h : k < rs.length), RuAt w b (off + k * 4) rs[k]
def NuR (w : World) (v : Value) (zs : List Int) : Prop :=
  (v = .slice none 0 0 ∧ zs = []) ∨ ∃ b off cap, v = .slice (some ⟨b, off, none⟩) zs.length cap ∧ b < w.heap.size ∧ zs.length ≤ cap ∧ ∀ k (h : k < zs.length), w.cell? ⟨b, off + k, none⟩ = some (.int .i64 zs[k])
theorem RuR.s {w : World} {v : Value} {rs : List Ru} (h : RuR w v rs) : RuS w v rs := by
  rcases h with ⟨rfl, rfl⟩ | h
  · exact .inl ⟨_, _, rfl, rfl⟩
  · exact .inr h
theorem NuR.s {w : World} {v : Value} {zs : List Int} (h : NuR w v zs) : VS w v (nums zs) := by
  rcases h with ⟨rfl, rfl⟩ | ⟨b, off, cap, rfl, hb, hl, hc⟩
  · exact .inl ⟨_, _, rfl, rfl⟩
  · refine .inr ⟨b, off, cap, by rw [nums_len], hb, by rw [nums_len]; exact hl, fun k hk => ?_⟩
    rw [nums_len] at hk
    rw [hc k hk]
    simp [nums]
theorem RuR.below {w w' : World} {v : Value} {rs : List Ru} (h : RuR w v rs) (hB : Below w.heap.size w w') : RuR w' v rs := by
  rcases h with h | ⟨b, off, cap, hv, hb, hl, hc⟩
  · exact .inl h
  · exact .inr ⟨b, off, cap, hv, Nat.lt_of_lt_of_le hb hB.size, hl, fun k hk => (hc k hk).below hb hB⟩
theorem NuR.below {w w' : World} {v : Value} {zs : List Int} (h : NuR w v zs) (hB : Below w.heap.size w w') : NuR w' v zs := by
  rcases h with h | ⟨b, off, cap, hv, hb, hl, hc⟩
  · exact .inl h
  · exact .inr ⟨b, off, cap, hv, Nat.lt_of_lt_of_le hb hB.size, hl, fun k hk => (hB.cell (p := ⟨b, off + k, none⟩) hb).trans (hc k hk)⟩
theorem RuR.len {w : World} {v : Value} {rs : List Ru} (h : RuR w v rs) : ∃ a cap, v = .slice a rs.length cap := h.s.len
theorem NuR.len {w : World} {v : Value} {zs : List Int} (h : NuR w v zs) : ∃ a cap, v = .slice a zs.length cap := h.s.numLen
theorem RuR.own {w : World} {base : Nat} {v : Value} {rs : List Ru} (h : w.ownsRow base 63 4 v rs.length (rs.flatMap Ru.cells)) : RuR w v rs := by
  have hs := RuS.own h
  rcases row_form h with ⟨rfl, h0⟩ | ⟨g, cap, rfl, _, hc⟩
  · exact .inl ⟨rfl, List.eq_nil_of_length_eq_zero h0⟩
  · refine .inr ⟨g, 0, cap, rfl, (h.lt g rfl).2, hc, fun k hk => ?_⟩
    obtain ⟨b, off, hbo, _, _, hat⟩ := hs.at hk
    cases hbo
    exact hat
theorem NuR.own {w : World} {base : Nat} {v : Value} {zs : List Int} (h : w.ownsRow base 3 1 v zs.length (nums zs)) : NuR w v zs := by
  rcases row_form h with ⟨rfl, h0⟩ | ⟨g, cap, rfl, _, hc⟩
  · exact .inl ⟨rfl, List.eq_nil_of_length_eq_zero h0⟩
  · refine .inr ⟨g, 0, cap, rfl, (h.lt g rfl).2, hc, fun k hk => ?_⟩
    rw [Nat.zero_add, h.cellAt k (by omega)]
    simp [nums, hk]
/-- All cells of a list of rules, one behind the other. -/
theorem RuR.flat {w : World} {b off : Nat} {rs : List Ru} (hc : ∀ k (h : k < rs.length), RuAt w b (off + k * 4) rs[k]) : ∀ j u, (rs.flatMap Ru.cells)[j]? = some u → w.cell? ⟨b, off + j, none⟩ = some u := by
  intro j u hu
  have hj : j < rs.length * 4 := by rw [← flat_len]; exact (List.getElem?_eq_some_iff.1 hu).1
  have hk : j / 4 < rs.length := by omega
  have hm : j % 4 < 4 := Nat.mod_lt _ (by omega)
  have e : j = j / 4 * 4 + j % 4 := by omega
  rw [e, flat_at rs _ _ hk hm] at hu
  obtain ⟨h0, h1, h2, h3⟩ := hc (j / 4) hk
  rw [show off + j = off + j / 4 * 4 + j % 4 by omega]
  obtain h | h | h | h : j % 4 = 0 ∨ j % 4 = 1 ∨ j % 4 = 2 ∨ j % 4 = 3 := by omega
  all_goals rw [h] at hu ⊢
  · simp at hu; rw [← hu]; exact h0
  · simp at hu; rw [← hu]; exact h1
  · simp at hu; rw [← hu]; exact h2
  · simp at hu; rw [← hu]; exact h3

/-- A version in memory. -/
def SnA (w : World) (v : Value) (s : Sn) : Prop := ∃ vp vr, v = .agg #[.int .i64 s.num, vp, vr] ∧ RuS w vp s.pol ∧ VS w vr (nums s.rv)
def SnR (w : World) (v : Value) (s : Sn) : Prop := ∃ vp vr, v = .agg #[.int .i64 s.num, vp, vr] ∧ RuR w vp s.pol ∧ NuR w vr s.rv
/-- .. of one's own: its lists lie in blocks from base on, below top. -/
def SnO (w : World) (base top : Nat) (v : Value) (s : Sn) : Prop :=
  ∃ vp vr, v = .agg #[.int .i64 s.num, vp, vr] ∧ w.ownsRow base 63 4 vp s.pol.length (s.pol.flatMap Ru.cells) ∧ w.ownsRow base 3 1 vr s.rv.length (nums s.rv) ∧ (∀ k, vp.ownBlock = some k → k < top) ∧ ∀ k, vr.ownBlock = some k → k < top
theorem SnA.below {w w' : World} {v : Value} {s : Sn} (h : SnA w v s) (hB : Below w.heap.size w w') : SnA w' v s := by
  obtain ⟨vp, vr, rfl, h1, h2⟩ := h
  exact ⟨_, _, rfl, h1.below hB, h2.below hB⟩
theorem SnR.below {w w' : World} {v : Value} {s : Sn} (h : SnR w v s) (hB : Below w.heap.size w w') : SnR w' v s := by
  obtain ⟨vp, vr, rfl, h1, h2⟩ := h
  exact ⟨_, _, rfl, h1.below hB, h2.below hB⟩
theorem SnO.below {w w' : World} {base top : Nat} {v : Value} {s : Sn} (h : SnO w base top v s) (hB : Below w.heap.size w w') : SnO w' base top v s := by
  obtain ⟨vp, vr, rfl, h1, h2, t1, t2⟩ := h
  exact ⟨vp, vr, rfl, ownsRow_below h1 hB, ownsRow_below h2 hB, t1, t2⟩
theorem SnR.a {w : World} {v : Value} {s : Sn} (h : SnR w v s) : SnA w v s := by
  obtain ⟨vp, vr, rfl, h1, h2⟩ := h
  exact ⟨_, _, rfl, h1.s, h2.s⟩
theorem SnO.r {w : World} {base top : Nat} {v : Value} {s : Sn} (h : SnO w base top v s) : SnR w v s := by
  obtain ⟨vp, vr, rfl, h1, h2, _⟩ := h
  exact ⟨_, _, rfl, RuR.own h1, NuR.own h2⟩
theorem SnO.a {w : World} {base top : Nat} {v : Value} {s : Sn} (h : SnO w base top v s) : SnA w v s := h.r.a
theorem SnO.of {w : World} {base : Nat} {vp vr : Value} {s : Sn} (h1 : w.ownsRow base 63 4 vp s.pol.length (s.pol.flatMap Ru.cells)) (h2 : w.ownsRow base 3 1 vr s.rv.length (nums s.rv)) : SnO w base w.heap.size (.agg #[.int .i64 s.num, vp, vr]) s :=
  ⟨vp, vr, rfl, h1, h2, fun k hk => (h1.lt k hk).2, fun k hk => (h2.lt k hk).2⟩
theorem SnO.mono {w : World} {base base' top top' : Nat} {v : Value} {s : Sn} (h : SnO w base top v s) (hb : base' ≤ base) (ht : top ≤ top') : SnO w base' top' v s := by
  obtain ⟨vp, vr, rfl, h1, h2, t1, t2⟩ := h
  exact ⟨vp, vr, rfl, Go.Joins.ownsRow_le h1 hb, Go.Joins.ownsRow_le h2 hb, fun k hk => Nat.lt_of_lt_of_le (t1 k hk) ht, fun k hk => Nat.lt_of_lt_of_le (t2 k hk) ht⟩
theorem Mid.sno {lo hi : Nat} {w w1 : World} (h : Mid lo hi w w1) {base top : Nat} {v : Value} {s : Sn} (hr : SnO w base top v s) (ho : hi ≤ base ∨ top ≤ lo) : SnO w1 base top v s := by
  obtain ⟨vp, vr, rfl, h1, h2, t1, t2⟩ := hr
  exact ⟨vp, vr, rfl, h.row h1 (fun k hk => by have := h1.lt k hk; have := t1 k hk; omega), h.row h2 (fun k hk => by have := h2.lt k hk; have := t2 k hk; omega), t1, t2⟩
def Sn.fits (s : Sn) : Prop := s.pol.length ≤ maxLen ∧ (∀ r ∈ s.pol, r.fits) ∧ s.rv.length ≤ maxLen
/-- What the laws count of a version. -/
def Sn.size (s : Sn) : Nat := szAll s.pol + s.rv.length
def leftV (n : Int) (s : Sn) : Int := if (s.size : Int) ≤ n then n - s.size else -1
/-- No list of it is longer than the laws take, and no rule greater. -/
def Sn.short (s : Sn) : Prop := s.pol.length ≤ 1048576 ∧ s.rv.length ≤ 1048576 ∧ ∀ r ∈ s.pol, r.size ≤ 1048576
theorem Sn.short_of {s : Sn} (h : s.size ≤ 1048576) : s.short := by
  unfold Sn.size szAll at h
  exact ⟨by omega, by omega, fun r hr => by have := sz_mem hr; omega⟩
theorem sn_forms {w : World} {v : Value} {s : Sn} (h : SnA w v s) : ∃ ap cp ar cr, v = .agg #[.int .i64 s.num, .slice ap s.pol.length cp, .slice ar s.rv.length cr] := by
  obtain ⟨vp, vr, rfl, h1, h2⟩ := h
  obtain ⟨ap, cp, rfl⟩ := h1.len
  obtain ⟨ar, cr, rfl⟩ := h2.numLen
  exact ⟨_, _, _, _, rfl⟩

open Go.Deep Go.ChangeShapes Go.WideShapes Go.Joins in
theorem openRuR {H : Type} {enc : TypeId × Value → H} {W : World} {c0 : Value} {d : DataW H × List MemPlace} {fuel : Nat} (hf : DataW.trod enc Tryz.prog W 0 (fun _ => true) true fuel 22 [c0] = some d) :
    ∃ (a : Option Addr) (n c : Nat) (rs : List Ru), c0 = .slice a n c ∧ RuS W (.slice a n c) rs ∧ rs.length = n ∧ n ≤ maxLen ∧ ∀ r ∈ rs, r.fits := by
  have hs : ∃ a n c, c0 = .slice a n c := by
    rcases open_slice Tryz.underlying22 hf with ⟨hcs, _⟩ | ⟨x, n, c, m, k, D, Pl, hcs, _⟩
    · simp at hcs; exact ⟨_, _, _, hcs⟩
    · simp at hcs; exact ⟨_, _, _, hcs⟩
  obtain ⟨a, n, c, rfl⟩ := hs
  obtain ⟨rs, h⟩ := openRuS (a := a) (n := n) (c := c) (d := d.1) (p := d.2) ⟨fuel, hf⟩
  exact ⟨a, n, c, rs, rfl, h⟩
set_option maxRecDepth 100000 in
theorem cellsSnapshot : Tryz.prog.cellsOf 25 = 3 := by kernel_rfl
set_option maxRecDepth 100000 in
open Go.Deep Go.ChangeShapes Go.WideShapes Go.ChangeAt Go.Joins in
/-- A version that comes in. -/
theorem openSn {H : Type} {enc : TypeId × Value → H} {W : World} {base : Nat} {v : Value} {d : DataW H} {p : List MemPlace} (hv : Value.okWide Tryz.prog W .any base 25 v) (h : DataW.Trod enc Tryz.prog W 0 (fun _ => true) true 25 v d p) :
    ∃ s : Sn, SnA W v s ∧ s.fits := by
  obtain ⟨c0, c1, c2, y0, y1, y2, m, rfl, _, _, h0, h1, h2⟩ := open_agg3 Tryz.underlying25 (by kernel_rfl) cellsSnapshot hv h
  obtain ⟨x0, e0, _, _⟩ := DataW.trod_int Tryz.underlying3 h0
  obtain ⟨a1, n1, k1, rs, rfl, r1, rfl, l1, f1⟩ := openRuR h1
  obtain ⟨a2, n2, k2, rv, rfl, r2, rfl, l2⟩ := openInR h2
  simp only [List.cons.injEq, and_true] at e0
  subst e0
  exact ⟨⟨x0, rs, rv⟩, ⟨_, _, rfl, r1, r2⟩, l1, f1, l2⟩

set_option maxHeartbeats 2000000 in
theorem szSnapshot_any (v : Value) (s : Sn) (n : Int) (w : World) (h0 : 0 ≤ n) (hn : n ≤ 1048576) (hf : s.fits) (h : SnA w v s) :
    Calls Tryz.prog 6 #[v, .int .i64 n] w fun e w' => e = .returned (.int .i64 (leftV n s)) ∧ Below w.heap.size w w' := by
  obtain ⟨vp, vr, rfl, h1, h2⟩ := h
  obtain ⟨l1, f1, l2⟩ := hf
  have hB0 : Below w.heap.size w (w.alloc (.cells #[.int .i64 s.num, vp, vr] 25)) := (Below.refl _ w).alloc (Nat.le_refl _) _
  have F1 := Three.new w (.int .i64 s.num) vp vr 25
  have HI := hid (show leftV n s = if (s.size : Int) ≤ n then n - (s.size : Int) else (-1 : Int) from rfl)
  have HZ := hid (show s.size = szAll s.pol + s.rv.length from rfl)
  go_enter Tryz.func6, Tryz.ntmps6
  go_wp2_with fail
  generalize w.alloc (.cells #[.int .i64 s.num, vp, vr] 25) = W0 at *
  refine (szRuleS_any vp s.pol n _ h0 hn l1 f1 (h1.below hB0)).mono ?_
  rintro e w1 ⟨rfl, hB1⟩
  replace F1 := F1.below hB1
  have hBB1 := below_one hB0 hB1
  clear hB1 hB0
  obtain ⟨a0, a1, a2⟩ := F1.c
  by_cases c1 : (szAll s.pol : Int) ≤ n
  · rw [show leftS n s.pol = n - szAll s.pol from if_pos c1]
    have d1 : decide (n - (szAll s.pol : Int) < 0) = false := by simp; omega
    go_wp2_with fail
    refine (szIntS_any vr s.rv _ _ (by omega) (by omega) l2 (h2.below hBB1)).mono ?_
    rintro e w2 ⟨rfl, hB2⟩
    have hBB2 := below_one hBB1 hB2
    clear hB2 a0 a1 a2
    by_cases c2 : (s.rv.length : Int) ≤ n - szAll s.pol
    · rw [show left1 (n - (szAll s.pol : Int)) s.rv.length = n - szAll s.pol - s.rv.length from if_pos c2]
      have d2 : decide (n - (szAll s.pol : Int) - (s.rv.length : Int) < 0) = false := by simp; omega
      have HR := hid (show leftV n s = n - szAll s.pol - s.rv.length by rw [HI.out, if_pos (by rw [HZ.out]; push_cast; omega), HZ.out]; push_cast; omega)
      go_wp2_with fail
      go_ret
      exact ⟨ret_int HR.out.symm, hBB2⟩
    · rw [show left1 (n - (szAll s.pol : Int)) s.rv.length = -1 from if_neg c2]
      have HR := hid (show leftV n s = -1 by rw [HI.out, if_neg (by rw [HZ.out]; push_cast; omega)])
      go_wp2_with fail
      go_ret
      exact ⟨ret_int HR.out.symm, hBB2⟩
  · rw [show leftS n s.pol = -1 from if_neg c1]
    have HR := hid (show leftV n s = -1 by rw [HI.out, if_neg (by rw [HZ.out]; push_cast; omega)])
    go_wp2_with fail
    go_ret
    exact ⟨ret_int HR.out.symm, hBB1⟩

set_option maxHeartbeats 2000000 in
/-- A version is like itself, wherever the two lie. -/
theorem eqSnapshot_same (v v' : Value) (s : Sn) (w : World) (hs : s.short) (h : SnA w v s) (h' : SnA w v' s) :
    Calls Tryz.prog 12 #[v, v'] w fun e w' => e = .returned (.bool true) ∧ Below w.heap.size w w' := by
  obtain ⟨vp, vr, rfl, h1, h2⟩ := h
  obtain ⟨vp', vr', rfl, h1', h2'⟩ := h'
  obtain ⟨l1, l2, _⟩ := hs
  have hB0 : Below w.heap.size w ((w.alloc (.cells #[.int .i64 s.num, vp, vr] 32)).alloc (.cells #[.int .i64 s.num, vp', vr'] 32)) := ((Below.refl _ w).alloc (Nat.le_refl _) _).alloc (by simp) _
  have F1 := (Three.new w (.int .i64 s.num) vp vr 32).below ((Below.refl _ _).alloc (Nat.le_refl _) (.cells #[.int .i64 s.num, vp', vr'] 32))
  have F2 := Three.at (w.alloc (.cells #[.int .i64 s.num, vp, vr] 32)) (.int .i64 s.num) vp' vr' 32 (k := w.heap.size + 1) (by simp)
  have e1 : (s.num != s.num) = false := by simp
  go_enter Tryz.func12, Tryz.ntmps12
  go_wp2_with fail
  generalize (w.alloc (.cells #[.int .i64 s.num, vp, vr] 32)).alloc (.cells #[.int .i64 s.num, vp', vr'] 32) = W0 at *
  refine (eqRuleS_any vp vp' s.pol s.pol _ (by omega) (by omega) (h1.below hB0) (h1'.below hB0)).mono ?_
  rintro e w1 ⟨rfl, hB1⟩
  rw [sameS_refl]
  replace F1 := F1.below hB1
  replace F2 := F2.below hB1
  have hBB1 := below_one hB0 hB1
  clear hB1 hB0
  obtain ⟨a0, a1, a2⟩ := F1.c
  obtain ⟨c0, c1, c2⟩ := F2.c
  go_wp2_with fail
  refine (eqIntS_same vr vr' s.rv _ (by omega) (h2.below hBB1) (h2'.below hBB1)).mono ?_
  rintro e w2 ⟨rfl, hB2⟩
  have hBB2 := below_one hBB1 hB2
  clear a0 a1 a2 c0 c1 c2 hB2
  go_wp2_with fail
  go_ret
  exact ⟨rfl, hBB2⟩

set_option maxHeartbeats 2000000 in
theorem toSnapshot_any (v : Value) (s : Sn) (w : World) (hs : s.short) (h : SnA w v s) :
    Calls Tryz.prog 9 #[v] w fun e w' => ∃ v', e = .returned v' ∧ SnO w' w.heap.size w'.heap.size v' s ∧ Below w.heap.size w w' := by
  obtain ⟨vp, vr, rfl, h1, h2⟩ := h
  obtain ⟨l1, l2, _⟩ := hs
  have hB0' : Below w.heap.size w (((w.alloc (.cells #[.int .i64 s.num, vp, vr] 25)).alloc (.cells #[.int .i64 0, .slice none 0 0, .slice none 0 0] 32)).alloc (.cells #[.int .i64 s.num, .slice none 0 0, .slice none 0 0] 32)) := (((Below.refl _ w).alloc (Nat.le_refl _) _).alloc (by simp) _).alloc (by simp; omega) _
  have F1' := ((Three.new w (.int .i64 s.num) vp vr 25).below ((Below.refl _ _).alloc (Nat.le_refl _) (.cells #[.int .i64 0, .slice none 0 0, .slice none 0 0] 32))).below ((Below.refl _ _).alloc (Nat.le_refl _) (.cells #[.int .i64 s.num, .slice none 0 0, .slice none 0 0] 32))
  have F2' := (Three.at (w.alloc (.cells #[.int .i64 s.num, vp, vr] 25)) (.int .i64 0) (.slice none 0 0) (.slice none 0 0) 32 (k := w.heap.size + 1) (by simp)).below ((Below.refl _ _).alloc (Nat.le_refl _) (.cells #[.int .i64 s.num, .slice none 0 0, .slice none 0 0] 32))
  have F3' := Three.at ((w.alloc (.cells #[.int .i64 s.num, vp, vr] 25)).alloc (.cells #[.int .i64 0, .slice none 0 0, .slice none 0 0] 32)) (.int .i64 s.num) (.slice none 0 0) (.slice none 0 0) 32 (k := w.heap.size + 1 + 1) (by simp)
  have hz0 : (((w.alloc (.cells #[.int .i64 s.num, vp, vr] 25)).alloc (.cells #[.int .i64 0, .slice none 0 0, .slice none 0 0] 32)).alloc (.cells #[.int .i64 s.num, .slice none 0 0, .slice none 0 0] 32)).heap.size = w.heap.size + 1 + 1 + 1 := by simp
  have HZ' := hid hz0
  clear hz0
  go_enter Tryz.func9, Tryz.ntmps9
  go_wp2_with fail
  generalize ((w.alloc (.cells #[.int .i64 s.num, vp, vr] 25)).alloc (.cells #[.int .i64 0, .slice none 0 0, .slice none 0 0] 32)).alloc (.cells #[.int .i64 s.num, .slice none 0 0, .slice none 0 0] 32) = W0 at *
  refine (toRuleS_any vp s.pol _ l1 (h1.below hB0')).mono ?_
  rintro e w1 ⟨v1, rfl, o1, hB1⟩
  obtain ⟨a1', m1', c1', hv1⟩ := row_slice o1
  subst hv1
  replace F1 := F1'.below hB1
  replace F2 := F2'.below hB1
  replace F3 := F3'.below hB1
  have hBB1 := below_one hB0' hB1
  clear hB1 hB0' F1' F2' F3'
  obtain ⟨a0, a1, a2⟩ := F1.c
  obtain ⟨c0, c1, c2⟩ := F3.c
  have f1 := F3.f 1
  go_wp2_with fail
  have F2' := F2.other (k' := w.heap.size + 1 + 1) (by omega) 1 (.slice a1' m1' c1')
  have F3' := F3.s1 (.slice a1' m1' c1')
  have hB1' := hBB1.setCell (p := ⟨w.heap.size + 1 + 1, 1, none⟩) (by simp; omega) (.slice a1' m1' c1')
  have o1' := ownsRow_setCell_below o1 (a := ⟨w.heap.size + 1 + 1, 1, none⟩) (by rw [HZ'.out]; simp) (.slice a1' m1' c1')
  clear F1 F2 F3 hBB1 o1 a0 a1 a2 c0 c1 c2 f1
  generalize w1.setCell ⟨w.heap.size + 1 + 1, 1, none⟩ (.slice a1' m1' c1') = W1 at *
  refine (toIntS_any vr s.rv _ l2 (h2.below hB1')).mono ?_
  rintro e w2 ⟨v2, rfl, o2, hB2⟩
  obtain ⟨a2', m2', c2', hv2⟩ := row_slice o2
  subst hv2
  have z1 := hB1'.size
  replace F2 := F2'.below hB2
  replace F3 := F3'.below hB2
  replace o1 := ownsRow_below o1' hB2
  have hBB2 := below_one hB1' hB2
  have hl3 := F3'.lt
  have hl2 := F2'.lt
  clear hB2 hB1' F2' F3' o1'
  obtain ⟨b0, b1, b2⟩ := F2.c
  obtain ⟨c0, c1, c2⟩ := F3.c
  have f2 := F3.f 2
  have g0 := F2.f 0
  have g1 := F2.f 1
  have g2 := F2.f 2
  have o1' := ownsRow_setCell_below o1 (a := ⟨w.heap.size + 1 + 1, 2, none⟩) (by rw [HZ'.out]; simp) (.slice a2' m2' c2')
  have o2' := ownsRow_setCell_below o2 (a := ⟨w.heap.size + 1 + 1, 2, none⟩) hl3 (.slice a2' m2' c2')
  have hBB' := hBB2.setCell (p := ⟨w.heap.size + 1 + 1, 2, none⟩) (by simp; omega) (.slice a2' m2' c2')
  go_wp2_with fail
  have G := (((F2.other (k' := w.heap.size + 1 + 1) (by omega) 2 (.slice a2' m2' c2')).s0 (.int .i64 s.num)).s1 (.slice a1' m1' c1')).s2 (.slice a2' m2' c2')
  have p1 := row_three o1' (k := w.heap.size + 1) (by rw [HZ'.out]; omega) (.int .i64 s.num) (.slice a1' m1' c1') (.slice a2' m2' c2')
  have p2 := row_three o2' (k := w.heap.size + 1) hl2 (.int .i64 s.num) (.slice a1' m1' c1') (.slice a2' m2' c2')
  have pB := below_three hBB' (k := w.heap.size + 1) (by omega) (.int .i64 s.num) (.slice a1' m1' c1') (.slice a2' m2' c2')
  have hW0 : w.heap.size ≤ W0.heap.size := by rw [HZ'.out]; omega
  generalize (((w2.setCell ⟨w.heap.size + 1 + 1, 2, none⟩ (.slice a2' m2' c2')).setCell ⟨w.heap.size + 1, 0, none⟩ (.int .i64 s.num)).setCell ⟨w.heap.size + 1, 1, none⟩ (.slice a1' m1' c1')).setCell ⟨w.heap.size + 1, 2, none⟩ (.slice a2' m2' c2') = W4 at *
  obtain ⟨d0, d1, d2⟩ := G.c
  exact bodyPost_ret (v := .agg #[.int .i64 s.num, (.slice a1' m1' c1'), (.slice a2' m2' c2')]) (by simp [results, Tryz.results9, go_sem, d0, d1, d2]) rfl ⟨_, rfl, SnO.of (Go.Joins.ownsRow_le p1 hW0) (Go.Joins.ownsRow_le p2 z1), pB⟩

/-- What lies in a version that was marked. -/
def mkSn (k : Nat) (s : Sn) : Sn := ⟨s.num, mkL k s.pol.length, mkN (k + 4 * s.pol.length) s.rv.length⟩
def Sn.many (s : Sn) : Nat := 4 * s.pol.length + s.rv.length

set_option maxHeartbeats 2000000 in
theorem markSnapshot_any (v : Value) (s : Sn) (k base top : Nat) (w : World) (hs : s.short) (hk : k + s.many ≤ 8000000) (ht : top ≤ w.heap.size) (h : SnO w base top v s) :
    Calls Tryz.prog 14 #[v, .int .i64 k] w fun e w' => e = .returned (.int .i64 ((k + s.many : Nat) : Int)) ∧ SnO w' base top v (mkSn k s) ∧ Mid base top w w' := by
  obtain ⟨vp, vr, rfl, h1, h2, t1, t2⟩ := h
  obtain ⟨l1, l2, _⟩ := hs
  unfold Sn.many at hk
  obtain ⟨c1, HC1⟩ : ∃ c, Hid (c = k + 4 * s.pol.length) := ⟨_, hid rfl⟩
  have hc1 : c1 ≤ 8000000 := by have := HC1.out; omega
  have hB0 : Below w.heap.size w (w.alloc (.cells #[.int .i64 s.num, vp, vr] 32)) := (Below.refl _ w).alloc (Nat.le_refl _) _
  have F := Three.new w (.int .i64 s.num) vp vr 32
  replace h1 := ownsRow_below h1 hB0
  replace h2 := ownsRow_below h2 hB0
  have M0 : Mid base top w (w.alloc (.cells #[.int .i64 s.num, vp, vr] 32)) := Mid.of_below hB0
  go_enter Tryz.func14, Tryz.ntmps14
  go_wp2_with fail
  clear hB0
  generalize w.alloc (.cells #[.int .i64 s.num, vp, vr] 32) = W0 at *
  refine (markRuleS_to vp s.pol.length k base _ _ (by omega) (by omega) h1).mono ?_
  rintro e w1 ⟨rfl, r1, g1⟩
  rw [← HC1.out]
  have M1 : Mid base top W0 w1 := Mid.of_grown g1 (fun j hj => ⟨(h1.lt j hj).1, t1 j hj⟩)
  replace h2 := kept_apart h2 g1 (row_apart h2 h1 (by decide))
  replace F := M1.three F (.inr ht)
  replace M0 := M0.trans M1
  clear M1 g1
  obtain ⟨a0, a1, a2⟩ := F.c
  go_wp2_with fail
  refine (markIntS_to vr s.rv.length c1 base _ _ (by omega) (by have := HC1.out; omega) h2).mono ?_
  rintro e w2 ⟨rfl, r2, g2⟩
  have HE := hid (show ((c1 + s.rv.length : Nat) : Int) = ((k + s.many : Nat) : Int) by have := HC1.out; unfold Sn.many; omega)
  rw [HE.out]
  have M1 : Mid base top w1 w2 := Mid.of_grown g2 (fun j hj => ⟨(h2.lt j hj).1, t2 j hj⟩)
  replace r1 := kept_apart r1 g2 (row_apart r1 h2 (by decide))
  replace M0 := M0.trans M1
  clear M1 g2 a0 a1 a2
  go_wp2_with fail
  go_ret
  refine ⟨rfl, ⟨vp, vr, rfl, ?_, ?_, t1, t2⟩, M0⟩
  · show World.ownsRow _ _ _ _ _ (mkL k s.pol.length).length _
    rw [mkL_len]
    exact r1
  · show World.ownsRow _ _ _ _ _ (mkN (k + 4 * s.pol.length) s.rv.length).length (nums (mkN (k + 4 * s.pol.length) s.rv.length))
    rw [mkN_len, ← HC1.out]
    exact r2

set_option maxHeartbeats 2000000 in
theorem heldSnapshot_any (v : Value) (s : Sn) (k : Nat) (w : World) (hs : s.short) (hk : k + s.many ≤ 8000000) (h : SnA w v (mkSn k s)) :
    Calls Tryz.prog 16 #[v, .int .i64 k] w fun e w' => e = .returned (.int .i64 ((k + s.many : Nat) : Int)) ∧ Below w.heap.size w w' := by
  obtain ⟨vp, vr, rfl, h1, h2⟩ := h
  obtain ⟨l1, l2, _⟩ := hs
  unfold Sn.many at hk
  obtain ⟨c1, HC1⟩ : ∃ c, Hid (c = k + 4 * s.pol.length) := ⟨_, hid rfl⟩
  have hc1 : c1 ≤ 8000000 := by have := HC1.out; omega
  have h1' : RuS w vp (mkL k s.pol.length) := h1
  have h2' : VS w vr (nums (mkN c1 s.rv.length)) := by rw [HC1.out]; exact h2
  have hnx : (mkSn k s).num = s.num := rfl
  rw [hnx]
  clear h1 h2 hnx
  have hB0 : Below w.heap.size w (w.alloc (.cells #[.int .i64 s.num, vp, vr] 32)) := (Below.refl _ w).alloc (Nat.le_refl _) _
  have F := Three.new w (.int .i64 s.num) vp vr 32
  go_enter Tryz.func16, Tryz.ntmps16
  go_wp2_with fail
  generalize w.alloc (.cells #[.int .i64 s.num, vp, vr] 32) = W0 at *
  refine (heldRuleS_to vp s.pol.length k _ (by omega) (by omega) (h1'.below hB0)).mono ?_
  rintro e w1 ⟨rfl, hB1⟩
  rw [← HC1.out]
  replace F := F.below hB1
  have hBB1 := below_one hB0 hB1
  clear hB0 hB1
  obtain ⟨a0, a1, a2⟩ := F.c
  have d1 : decide ((c1 : Int) < 0) = false := by simp
  go_wp2_with fail
  refine (heldIntS_to vr s.rv.length c1 _ (by omega) (by have := HC1.out; omega) (h2'.below hBB1)).mono ?_
  rintro e w2 ⟨rfl, hB2⟩
  obtain ⟨c2, HC2⟩ : ∃ c, Hid (c = c1 + s.rv.length) := ⟨_, hid rfl⟩
  rw [← HC2.out]
  have d2 : decide ((c2 : Int) < 0) = false := by simp
  go_wp2_with fail
  go_ret
  exact ⟨ret_int (by have := HC1.out; have := HC2.out; unfold Sn.many; omega), below_one hBB1 hB2⟩
theorem mkSn_short {k : Nat} {s : Sn} : (mkSn k s).pol.length = s.pol.length ∧ (mkSn k s).rv.length = s.rv.length := ⟨mkL_len _ _, mkN_len _ _⟩

end Go.Proofs.YthpckiobfjdckaaGreat
