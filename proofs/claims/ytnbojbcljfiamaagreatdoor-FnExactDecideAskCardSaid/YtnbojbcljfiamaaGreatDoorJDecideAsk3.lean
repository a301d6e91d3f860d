/-
  A drawing region walked by hand: an operation that is wanted, one that is not, a call.
-/
import Derived.Test.YtnbojbcljfiamaaGreatDoorJDecideAsk0
import Derived.Test.YtnbojbcljfiamaaGreatDoorJDecideAsk2
import Derived.Deep.RegionHeld3
import Derived.WalkKit
import Derived.ProofKit
namespace Go.Proofs.YtnbojbcljfiamaaGreatDoor
open Go.RowKit Go.Shelf

/-- Lists that can be read, by an address or none at all. -/
def RuR (w : World) (v : Value) (rs : List Ru) : Prop :=
  (v = .slice none 0 0 ∧ rs = []) ∨ ∃ b off cap, v = .slice (some ⟨b, off, none⟩) rs.length cap ∧ b < w.heap.size ∧ rs.length ≤ cap ∧ ∀ k (h : k < rs.length), RuAt w b (off + k * 4) rs[k]
def NuR (w : World) (v : Value) (zs : List Int) : Prop :=
  (v = .slice none 0 0 ∧ zs = []) ∨ ∃ b off cap, v = .slice (some ⟨b, off, none⟩) zs.length cap ∧ b < w.heap.size ∧ zs.length ≤ cap ∧ ∀ k (h : k < zs.length), w.cell? ⟨b, off + k, none⟩ = some (.int .i64 zs[k])
theorem RuR.s {w : World} {v : Value} {rs : List Ru} (h : RuR w v rs) : RuS w v rs := by
  rcases h with ⟨rfl, rfl⟩ | h
  · exact .inl ⟨_, _, rfl, rfl⟩
  · exact .inr h
theorem NuR.s {w : World} {v : Value} {zs : List Int} (h : NuR w v zs) : VS w v (nums zs) := by
  rcases h with ⟨rfl, rfl⟩ | ⟨b, off, cap, rfl, hb, hl, hc⟩
  · exact .inl ⟨_, _, rfl, rfl⟩
  · refine .inr ⟨b, off, cap, by rw [nums_len], hb, by rw [nums_len]; exact hl, fun k hk => ?_⟩
    rw [nums_len] at hk
    rw [hc k hk]
    simp [nums]
theorem RuR.below {w w' : World} {v : Value} {rs : List Ru} (h : RuR w v rs) (hB : Below w.heap.size w w') : RuR w' v rs := by
  rcases h with h | ⟨b, off, cap, hv, hb, hl, hc⟩
  · exact .inl h
  · exact .inr ⟨b, off, cap, hv, Nat.lt_of_lt_of_le hb hB.size, hl, fun k hk => (hc k hk).below hb hB⟩
theorem NuR.below {w w' : World} {v : Value} {zs : List Int} (h : NuR w v zs) (hB : Below w.heap.size w w') : NuR w' v zs := by
  rcases h with h | ⟨b, off, cap, hv, hb, hl, hc⟩
  · exact .inl h
  · exact .inr ⟨b, off, cap, hv, Nat.lt_of_lt_of_le hb hB.size, hl, fun k hk => (hB.cell (p := ⟨b, off + k, none⟩) hb).trans (hc k hk)⟩
theorem RuR.len {w : World} {v : Value} {rs : List Ru} (h : RuR w v rs) : ∃ a cap, v = .slice a rs.length cap := h.s.len
theorem NuR.len {w : World} {v : Value} {zs : List Int} (h : NuR w v zs) : ∃ a cap, v = .slice a zs.length cap := h.s.numLen
theorem RuR.own {w : World} {base : Nat} {v : Value} {rs : List Ru} (h : w.ownsRow base 122 4 v rs.length (rs.flatMap Ru.cells)) : RuR w v rs := by
  have hs := RuS.own h
  rcases row_form h with ⟨rfl, h0⟩ | ⟨g, cap, rfl, _, hc⟩
  · exact .inl ⟨rfl, List.eq_nil_of_length_eq_zero h0⟩
  · refine .inr ⟨g, 0, cap, rfl, (h.lt g rfl).2, hc, fun k hk => ?_⟩
    obtain ⟨b, off, hbo, _, _, hat⟩ := hs.at hk
    cases hbo
    exact hat
theorem NuR.own {w : World} {base : Nat} {v : Value} {zs : List Int} (h : w.ownsRow base 3 1 v zs.length (nums zs)) : NuR w v zs := by
  rcases row_form h with ⟨rfl, h0⟩ | ⟨g, cap, rfl, _, hc⟩
  · exact .inl ⟨rfl, List.eq_nil_of_length_eq_zero h0⟩
  · refine .inr ⟨g, 0, cap, rfl, (h.lt g rfl).2, hc, fun k hk => ?_⟩
    rw [Nat.zero_add, h.cellAt k (by omega)]
    simp [nums, hk]
/-- All cells of a list of rules, one behind the other. -/
theorem RuR.flat {w : World} {b off : Nat} {rs : List Ru} (hc : ∀ k (h : k < rs.length), RuAt w b (off + k * 4) rs[k]) : ∀ j u, (rs.flatMap Ru.cells)[j]? = some u → w.cell? ⟨b, off + j, none⟩ = some u := by
  intro j u hu
  have hj : j < rs.length * 4 := by rw [← flat_len]; exact (List.getElem?_eq_some_iff.1 hu).1
  have hk : j / 4 < rs.length := by omega
  have hm : j % 4 < 4 := Nat.mod_lt _ (by omega)
  have e : j = j / 4 * 4 + j % 4 := by omega
  rw [e, flat_at rs _ _ hk hm] at hu
  obtain ⟨h0, h1, h2, h3⟩ := hc (j / 4) hk
  rw [show off + j = off + j / 4 * 4 + j % 4 by omega]
  obtain h | h | h | h : j % 4 = 0 ∨ j % 4 = 1 ∨ j % 4 = 2 ∨ j % 4 = 3 := by omega
  all_goals rw [h] at hu ⊢
  · simp at hu; rw [← hu]; exact h0
  · simp at hu; rw [← hu]; exact h1
  · simp at hu; rw [← hu]; exact h2
  · simp at hu; rw [← hu]; exact h3

/-- A version in memory. -/
def SnA (w : World) (v : Value) (s : Sn) : Prop := ∃ vp vr, v = .agg #[.int .i64 s.num, vp, vr] ∧ RuS w vp s.pol ∧ VS w vr (nums s.rv)
def SnR (w : World) (v : Value) (s : Sn) : Prop := ∃ vp vr, v = .agg #[.int .i64 s.num, vp, vr] ∧ RuR w vp s.pol ∧ NuR w vr s.rv
/-- .. of one's own: its lists lie in blocks from base on, below top. -/
def SnO (w : World) (base top : Nat) (v : Value) (s : Sn) : Prop :=
  ∃ vp vr, v = .agg #[.int .i64 s.num, vp, vr] ∧ w.ownsRow base 122 4 vp s.pol.length (s.pol.flatMap Ru.cells) ∧ w.ownsRow base 3 1 vr s.rv.length (nums s.rv) ∧ (∀ k, vp.ownBlock = some k → k < top) ∧ ∀ k, vr.ownBlock = some k → k < top
theorem SnA.below {w w' : World} {v : Value} {s : Sn} (h : SnA w v s) (hB : Below w.heap.size w w') : SnA w' v s := by
  obtain ⟨vp, vr, rfl, h1, h2⟩ := h
  exact ⟨_, _, rfl, h1.below hB, h2.below hB⟩
theorem SnR.below {w w' : World} {v : Value} {s : Sn} (h : SnR w v s) (hB : Below w.heap.size w w') : SnR w' v s := by
  obtain ⟨vp, vr, rfl, h1, h2⟩ := h
  exact ⟨_, _, rfl, h1.below hB, h2.below hB⟩
theorem SnO.below {w w' : World} {base top : Nat} {v : Value} {s : Sn} (h : SnO w base top v s) (hB : Below w.heap.size w w') : SnO w' base top v s := by
  obtain ⟨vp, vr, rfl, h1, h2, t1, t2⟩ := h
  exact ⟨vp, vr, rfl, ownsRow_below h1 hB, ownsRow_below h2 hB, t1, t2⟩
theorem SnR.a {w : World} {v : Value} {s : Sn} (h : SnR w v s) : SnA w v s := by
  obtain ⟨vp, vr, rfl, h1, h2⟩ := h
  exact ⟨_, _, rfl, h1.s, h2.s⟩
theorem SnO.r {w : World} {base top : Nat} {v : Value} {s : Sn} (h : SnO w base top v s) : SnR w v s := by
  obtain ⟨vp, vr, rfl, h1, h2, _⟩ := h
  exact ⟨_, _, rfl, RuR.own h1, NuR.own h2⟩
theorem SnO.a {w : World} {base top : Nat} {v : Value} {s : Sn} (h : SnO w base top v s) : SnA w v s := h.r.a
theorem SnO.of {w : World} {base : Nat} {vp vr : Value} {s : Sn} (h1 : w.ownsRow base 122 4 vp s.pol.length (s.pol.flatMap Ru.cells)) (h2 : w.ownsRow base 3 1 vr s.rv.length (nums s.rv)) : SnO w base w.heap.size (.agg #[.int .i64 s.num, vp, vr]) s :=
  ⟨vp, vr, rfl, h1, h2, fun k hk => (h1.lt k hk).2, fun k hk => (h2.lt k hk).2⟩
theorem SnO.mono {w : World} {base base' top top' : Nat} {v : Value} {s : Sn} (h : SnO w base top v s) (hb : base' ≤ base) (ht : top ≤ top') : SnO w base' top' v s := by
  obtain ⟨vp, vr, rfl, h1, h2, t1, t2⟩ := h
  exact ⟨vp, vr, rfl, Go.Joins.ownsRow_le h1 hb, Go.Joins.ownsRow_le h2 hb, fun k hk => Nat.lt_of_lt_of_le (t1 k hk) ht, fun k hk => Nat.lt_of_lt_of_le (t2 k hk) ht⟩
theorem Mid.sno {lo hi : Nat} {w w1 : World} (h : Mid lo hi w w1) {base top : Nat} {v : Value} {s : Sn} (hr : SnO w base top v s) (ho : hi ≤ base ∨ top ≤ lo) : SnO w1 base top v s := by
  obtain ⟨vp, vr, rfl, h1, h2, t1, t2⟩ := hr
  exact ⟨vp, vr, rfl, h.row h1 (fun k hk => by have := h1.lt k hk; have := t1 k hk; omega), h.row h2 (fun k hk => by have := h2.lt k hk; have := t2 k hk; omega), t1, t2⟩
def Sn.fits (s : Sn) : Prop := s.pol.length ≤ maxLen ∧ (∀ r ∈ s.pol, r.fits) ∧ s.rv.length ≤ maxLen
/-- What the laws count of a version. -/
def Sn.size (s : Sn) : Nat := szAll s.pol + s.rv.length
def leftV (n : Int) (s : Sn) : Int := if (s.size : Int) ≤ n then n - s.size else -1
/-- No list of it is longer than the laws take, and no rule greater. -/
def Sn.short (s : Sn) : Prop := s.pol.length ≤ 1048576 ∧ s.rv.length ≤ 1048576 ∧ ∀ r ∈ s.pol, r.size ≤ 1048576
theorem Sn.short_of {s : Sn} (h : s.size ≤ 1048576) : s.short := by
  unfold Sn.size szAll at h
  exact ⟨by omega, by omega, fun r hr => by have := sz_mem hr; omega⟩
theorem sn_forms {w : World} {v : Value} {s : Sn} (h : SnA w v s) : ∃ ap cp ar cr, v = .agg #[.int .i64 s.num, .slice ap s.pol.length cp, .slice ar s.rv.length cr] := by
  obtain ⟨vp, vr, rfl, h1, h2⟩ := h
  obtain ⟨ap, cp, rfl⟩ := h1.len
  obtain ⟨ar, cr, rfl⟩ := h2.numLen
  exact ⟨_, _, _, _, rfl⟩

open Go.Deep Go.ChangeShapes Go.WideShapes Go.Joins in
theorem openRuR {H : Type} {enc : TypeId × Value → H} {W : World} {c0 : Value} {d : DataW H × List MemPlace} {fuel : Nat} (hf : DataW.trod enc Tryz.prog W 0 (fun _ => true) true fuel 22 [c0] = some d) :
    ∃ (a : Option Addr) (n c : Nat) (rs : List Ru), c0 = .slice a n c ∧ RuS W (.slice a n c) rs ∧ rs.length = n ∧ n ≤ maxLen ∧ ∀ r ∈ rs, r.fits := by
  have hs : ∃ a n c, c0 = .slice a n c := by
    rcases open_slice Tryz.underlying22 hf with ⟨hcs, _⟩ | ⟨x, n, c, m, k, D, Pl, hcs, _⟩
    · simp at hcs; exact ⟨_, _, _, hcs⟩
    · simp at hcs; exact ⟨_, _, _, hcs⟩
  obtain ⟨a, n, c, rfl⟩ := hs
  obtain ⟨rs, h⟩ := openRuS (a := a) (n := n) (c := c) (d := d.1) (p := d.2) ⟨fuel, hf⟩
  exact ⟨a, n, c, rs, rfl, h⟩
set_option maxRecDepth 100000 in
theorem cellsSnapshot : Tryz.prog.cellsOf 25 = 3 := by kernel_rfl
set_option maxRecDepth 100000 in
open Go.Deep Go.ChangeShapes Go.WideShapes Go.ChangeAt Go.Joins in
/-- A version that comes in. -/
theorem openSn {H : Type} {enc : TypeId × Value → H} {W : World} {base : Nat} {v : Value} {d : DataW H} {p : List MemPlace} (hv : Value.okWide Tryz.prog W .any base 25 v) (h : DataW.Trod enc Tryz.prog W 0 (fun _ => true) true 25 v d p) :
    ∃ s : Sn, SnA W v s ∧ s.fits := by
  obtain ⟨c0, c1, c2, y0, y1, y2, m, rfl, _, _, h0, h1, h2⟩ := open_agg3 Tryz.underlying25 (by kernel_rfl) cellsSnapshot hv h
  obtain ⟨x0, e0, _, _⟩ := DataW.trod_int Tryz.underlying3 h0
  obtain ⟨a1, n1, k1, rs, rfl, r1, rfl, l1, f1⟩ := openRuR h1
  obtain ⟨a2, n2, k2, rv, rfl, r2, rfl, l2⟩ := openInR h2
  simp only [List.cons.injEq, and_true] at e0
  subst e0
  exact ⟨⟨x0, rs, rv⟩, ⟨_, _, rfl, r1, r2⟩, l1, f1, l2⟩

set_option maxHeartbeats 2000000 in
theorem szSnapshot_any (v : Value) (s : Sn) (n : Int) (w : World) (h0 : 0 ≤ n) (hn : n ≤ 1048576) (hf : s.fits) (h : SnA w v s) :
    Calls Tryz.prog 24 #[v, .int .i64 n] w fun e w' => e = .returned (.int .i64 (leftV n s)) ∧ Below w.heap.size w w' := by
  obtain ⟨vp, vr, rfl, h1, h2⟩ := h
  obtain ⟨l1, f1, l2⟩ := hf
  have hB0 : Below w.heap.size w (w.alloc (.cells #[.int .i64 s.num, vp, vr] 25)) := (Below.refl _ w).alloc (Nat.le_refl _) _
  have F1 := Three.new w (.int .i64 s.num) vp vr 25
  have HI := hid (show leftV n s = if (s.size : Int) ≤ n then n - (s.size : Int) else (-1 : Int) from rfl)
  have HZ := hid (show s.size = szAll s.pol + s.rv.length from rfl)
  go_enter Tryz.func24, Tryz.ntmps24
  go_wp2_with fail
  generalize w.alloc (.cells #[.int .i64 s.num, vp, vr] 25) = W0 at *
  refine (szRuleS_any vp s.pol n _ h0 hn l1 f1 (h1.below hB0)).mono ?_
  rintro e w1 ⟨rfl, hB1⟩
  replace F1 := F1.below hB1
  have hBB1 := below_one hB0 hB1
  clear hB1 hB0
  obtain ⟨a0, a1, a2⟩ := F1.c
  by_cases c1 : (szAll s.pol : Int) ≤ n
  · rw [show leftS n s.pol = n - szAll s.pol from if_pos c1]
    have d1 : decide (n - (szAll s.pol : Int) < 0) = false := by simp; omega
    go_wp2_with fail
    refine (szIntS_any vr s.rv _ _ (by omega) (by omega) l2 (h2.below hBB1)).mono ?_
    rintro e w2 ⟨rfl, hB2⟩
    have hBB2 := below_one hBB1 hB2
    clear hB2 a0 a1 a2
    by_cases c2 : (s.rv.length : Int) ≤ n - szAll s.pol
    · rw [show left1 (n - (szAll s.pol : Int)) s.rv.length = n - szAll s.pol - s.rv.length from if_pos c2]
      have d2 : decide (n - (szAll s.pol : Int) - (s.rv.length : Int) < 0) = false := by simp; omega
      have HR := hid (show leftV n s = n - szAll s.pol - s.rv.length by rw [HI.out, if_pos (by rw [HZ.out]; push_cast; omega), HZ.out]; push_cast; omega)
      go_wp2_with fail
      go_ret
      exact ⟨ret_int HR.out.symm, hBB2⟩
    · rw [show left1 (n - (szAll s.pol : Int)) s.rv.length = -1 from if_neg c2]
      have HR := hid (show leftV n s = -1 by rw [HI.out, if_neg (by rw [HZ.out]; push_cast; omega)])
      go_wp2_with fail
      go_ret
      exact ⟨ret_int HR.out.symm, hBB2⟩
  · rw [show leftS n s.pol = -1 from if_neg c1]
    have HR := hid (show leftV n s = -1 by rw [HI.out, if_neg (by rw [HZ.out]; push_cast; omega)])
    go_wp2_with fail
    go_ret
    exact ⟨ret_int HR.out.symm, hBB1⟩

set_option maxHeartbeats 2000000 in
/-- A version is like itself, wherever the two lie. -/
theorem eqSnapshot_same (v v' : Value) (s : Sn) (w : World) (hs : s.short) (h : SnA w v s) (h' : SnA w v' s) :
    Calls Tryz.prog 41 #[v, v'] w fun e w' => e = .returned (.bool true) ∧ Below w.heap.size w w' := by
  obtain ⟨vp, vr, rfl, h1, h2⟩ := h
  obtain ⟨vp', vr', rfl, h1', h2'⟩ := h'
  obtain ⟨l1, l2, _⟩ := hs
  have hB0 : Below w.heap.size w ((w.alloc (.cells #[.int .i64 s.num, vp, vr] 40)).alloc (.cells #[.int .i64 s.num, vp', vr'] 40)) := ((Below.refl _ w).alloc (Nat.le_refl _) _).alloc (by simp) _
  have F1 := (Three.new w (.int .i64 s.num) vp vr 40).below ((Below.refl _ _).alloc (Nat.le_refl _) (.cells #[.int .i64 s.num, vp', vr'] 40))
  have F2 := Three.at (w.alloc (.cells #[.int .i64 s.num, vp, vr] 40)) (.int .i64 s.num) vp' vr' 40 (k := w.heap.size + 1) (by simp)
  have e1 : (s.num != s.num) = false := by simp
  go_enter Tryz.func41, Tryz.ntmps41
  go_wp2_with fail
  generalize (w.alloc (.cells #[.int .i64 s.num, vp, vr] 40)).alloc (.cells #[.int .i64 s.num, vp', vr'] 40) = W0 at *
  refine (eqRuleS_any vp vp' s.pol s.pol _ (by omega) (by omega) (h1.below hB0) (h1'.below hB0)).mono ?_
  rintro e w1 ⟨rfl, hB1⟩
  rw [sameS_refl]
  replace F1 := F1.below hB1
  replace F2 := F2.below hB1
  have hBB1 := below_one hB0 hB1
  clear hB1 hB0
  obtain ⟨a0, a1, a2⟩ := F1.c
  obtain ⟨c0, c1, c2⟩ := F2.c
  go_wp2_with fail
  refine (eqIntS_same vr vr' s.rv _ (by omega) (h2.below hBB1) (h2'.below hBB1)).mono ?_
  rintro e w2 ⟨rfl, hB2⟩
  have hBB2 := below_one hBB1 hB2
  clear a0 a1 a2 c0 c1 c2 hB2
  go_wp2_with fail
  go_ret
  exact ⟨rfl, hBB2⟩

set_option maxHeartbeats 2000000 in
theorem toSnapshot_any (v : Value) (s : Sn) (w : World) (hs : s.short) (h : SnA w v s) :
    Calls Tryz.prog 32 #[v] w fun e w' => ∃ v', e = .returned v' ∧ SnO w' w.heap.size w'.heap.size v' s ∧ Below w.heap.size w w' := by
  obtain ⟨vp, vr, rfl, h1, h2⟩ := h
  obtain ⟨l1, l2, _⟩ := hs
  have hB0' : Below w.heap.size w (((w.alloc (.cells #[.int .i64 s.num, vp, vr] 25)).alloc (.cells #[.int .i64 0, .slice none 0 0, .slice none 0 0] 40)).alloc (.cells #[.int .i64 s.num, .slice none 0 0, .slice none 0 0] 40)) := (((Below.refl _ w).alloc (Nat.le_refl _) _).alloc (by simp) _).alloc (by simp; omega) _
  have F1' := ((Three.new w (.int .i64 s.num) vp vr 25).below ((Below.refl _ _).alloc (Nat.le_refl _) (.cells #[.int .i64 0, .slice none 0 0, .slice none 0 0] 40))).below ((Below.refl _ _).alloc (Nat.le_refl _) (.cells #[.int .i64 s.num, .slice none 0 0, .slice none 0 0] 40))
  have F2' := (Three.at (w.alloc (.cells #[.int .i64 s.num, vp, vr] 25)) (.int .i64 0) (.slice none 0 0) (.slice none 0 0) 40 (k := w.heap.size + 1) (by simp)).below ((Below.refl _ _).alloc (Nat.le_refl _) (.cells #[.int .i64 s.num, .slice none 0 0, .slice none 0 0] 40))
  have F3' := Three.at ((w.alloc (.cells #[.int .i64 s.num, vp, vr] 25)).alloc (.cells #[.int .i64 0, .slice none 0 0, .slice none 0 0] 40)) (.int .i64 s.num) (.slice none 0 0) (.slice none 0 0) 40 (k := w.heap.size + 1 + 1) (by simp)
  have hz0 : (((w.alloc (.cells #[.int .i64 s.num, vp, vr] 25)).alloc (.cells #[.int .i64 0, .slice none 0 0, .slice none 0 0] 40)).alloc (.cells #[.int .i64 s.num, .slice none 0 0, .slice none 0 0] 40)).heap.size = w.heap.size + 1 + 1 + 1 := by simp
  have HZ' := hid hz0
  clear hz0
  go_enter Tryz.func32, Tryz.ntmps32
  go_wp2_with fail
  generalize ((w.alloc (.cells #[.int .i64 s.num, vp, vr] 25)).alloc (.cells #[.int .i64 0, .slice none 0 0, .slice none 0 0] 40)).alloc (.cells #[.int .i64 s.num, .slice none 0 0, .slice none 0 0] 40) = W0 at *
  refine (toRuleS_any vp s.pol _ l1 (h1.below hB0')).mono ?_
  rintro e w1 ⟨v1, rfl, o1, hB1⟩
  obtain ⟨a1', m1', c1', hv1⟩ := row_slice o1
  subst hv1
  replace F1 := F1'.below hB1
  replace F2 := F2'.below hB1
  replace F3 := F3'.below hB1
  have hBB1 := below_one hB0' hB1
  clear hB1 hB0' F1' F2' F3'
  obtain ⟨a0, a1, a2⟩ := F1.c
  obtain ⟨c0, c1, c2⟩ := F3.c
  have f1 := F3.f 1
  go_wp2_with fail
  have F2' := F2.other (k' := w.heap.size + 1 + 1) (by omega) 1 (.slice a1' m1' c1')
  have F3' := F3.s1 (.slice a1' m1' c1')
  have hB1' := hBB1.setCell (p := ⟨w.heap.size + 1 + 1, 1, none⟩) (by simp; omega) (.slice a1' m1' c1')
  have o1' := ownsRow_setCell_below o1 (a := ⟨w.heap.size + 1 + 1, 1, none⟩) (by rw [HZ'.out]; simp) (.slice a1' m1' c1')
  clear F1 F2 F3 hBB1 o1 a0 a1 a2 c0 c1 c2 f1
  generalize w1.setCell ⟨w.heap.size + 1 + 1, 1, none⟩ (.slice a1' m1' c1') = W1 at *
  refine (toIntS_any vr s.rv _ l2 (h2.below hB1')).mono ?_
  rintro e w2 ⟨v2, rfl, o2, hB2⟩
  obtain ⟨a2', m2', c2', hv2⟩ := row_slice o2
  subst hv2
  have z1 := hB1'.size
  replace F2 := F2'.below hB2
  replace F3 := F3'.below hB2
  replace o1 := ownsRow_below o1' hB2
  have hBB2 := below_one hB1' hB2
  have hl3 := F3'.lt
  have hl2 := F2'.lt
  clear hB2 hB1' F2' F3' o1'
  obtain ⟨b0, b1, b2⟩ := F2.c
  obtain ⟨c0, c1, c2⟩ := F3.c
  have f2 := F3.f 2
  have g0 := F2.f 0
  have g1 := F2.f 1
  have g2 := F2.f 2
  have o1' := ownsRow_setCell_below o1 (a := ⟨w.heap.size + 1 + 1, 2, none⟩) (by rw [HZ'.out]; simp) (.slice a2' m2' c2')
  have o2' := ownsRow_setCell_below o2 (a := ⟨w.heap.size + 1 + 1, 2, none⟩) hl3 (.slice a2' m2' c2')
  have hBB' := hBB2.setCell (p := ⟨w.heap.size + 1 + 1, 2, none⟩) (by simp; omega) (.slice a2' m2' c2')
  go_wp2_with fail
  have G := (((F2.other (k' := w.heap.size + 1 + 1) (by omega) 2 (.slice a2' m2' c2')).s0 (.int .i64 s.num)).s1 (.slice a1' m1' c1')).s2 (.slice a2' m2' c2')
  have p1 := row_three o1' (k := w.heap.size + 1) (by rw [HZ'.out]; omega) (.int .i64 s.num) (.slice a1' m1' c1') (.slice a2' m2' c2')
  have p2 := row_three o2' (k := w.heap.size + 1) hl2 (.int .i64 s.num) (.slice a1' m1' c1') (.slice a2' m2' c2')
  have pB := below_three hBB' (k := w.heap.size + 1) (by omega) (.int .i64 s.num) (.slice a1' m1' c1') (.slice a2' m2' c2')
  have hW0 : w.heap.size ≤ W0.heap.size := by rw [HZ'.out]; omega
  generalize (((w2.setCell ⟨w.heap.size + 1 + 1, 2, none⟩ (.slice a2' m2' c2')).setCell ⟨w.heap.size + 1, 0, none⟩ (.int .i64 s.num)).setCell ⟨w.heap.size + 1, 1, none⟩ (.slice a1' m1' c1')).setCell ⟨w.heap.size + 1, 2, none⟩ (.slice a2' m2' c2') = W4 at *
  obtain ⟨d0, d1, d2⟩ := G.c
  exact bodyPost_ret (v := .agg #[.int .i64 s.num, (.slice a1' m1' c1'), (.slice a2' m2' c2')]) (by simp [results, Tryz.results32, go_sem, d0, d1, d2]) rfl ⟨_, rfl, SnO.of (Go.Joins.ownsRow_le p1 hW0) (Go.Joins.ownsRow_le p2 z1), pB⟩

/-- What lies in a version that was marked. -/
def mkSn (k : Nat) (s : Sn) : Sn := ⟨s.num, mkL k s.pol.length, mkN (k + 4 * s.pol.length) s.rv.length⟩
def Sn.many (s : Sn) : Nat := 4 * s.pol.length + s.rv.length

end Go.Proofs.YtnbojbcljfiamaaGreatDoor

namespace Go.Proofs.YtnbojbcljfiamaaGreatDoor
open Go.RowKit Go.Shelf

abbrev bls (bs : List Bool) : List Value := bs.map Value.bool
theorem bls_len (bs : List Bool) : (bls bs).length = bs.length := List.length_map _
theorem VS.bol {w : World} {a : Option Addr} {n cap : Nat} {bs : List Bool} (h : VS w (.slice a n cap) (bls bs)) {i : Nat} (hi : i < bs.length) : ∃ b off, a = some ⟨b, off, none⟩ ∧ b < w.heap.size ∧ n ≤ cap ∧ w.cell? ⟨b, off + i, none⟩ = some (.bool bs[i]) := by
  obtain ⟨b, off, h1, h2, h3, h4⟩ := h.at (i := i) (by rw [bls_len]; exact hi)
  exact ⟨b, off, h1, h2, h3, by rw [h4, List.getElem_map]⟩
theorem VS.bolLen {w : World} {v : Value} {bs : List Bool} (h : VS w v (bls bs)) : ∃ a cap, v = .slice a bs.length cap := by
  have := h.len
  rwa [bls_len] at this
theorem infoBool : (Tryz.prog.info? 4).map (fun i => (i.zero, i.size, i.bytes)) = some (some (.bool false), 1, 1) := by kernel_rfl
/-- A list of yes and no that can be read, by an address or none at all. -/
def BoR (w : World) (v : Value) (bs : List Bool) : Prop :=
  (v = .slice none 0 0 ∧ bs = []) ∨ ∃ b off cap, v = .slice (some ⟨b, off, none⟩) bs.length cap ∧ b < w.heap.size ∧ bs.length ≤ cap ∧ ∀ k (h : k < bs.length), w.cell? ⟨b, off + k, none⟩ = some (.bool bs[k])
theorem BoR.s {w : World} {v : Value} {bs : List Bool} (h : BoR w v bs) : VS w v (bls bs) := by
  rcases h with ⟨rfl, rfl⟩ | ⟨b, off, cap, rfl, hb, hl, hc⟩
  · exact .inl ⟨_, _, rfl, rfl⟩
  · refine .inr ⟨b, off, cap, by rw [bls_len], hb, by rw [bls_len]; exact hl, fun k hk => ?_⟩
    rw [bls_len] at hk
    rw [hc k hk]
    simp [bls]
theorem BoR.below {w w' : World} {v : Value} {bs : List Bool} (h : BoR w v bs) (hB : Below w.heap.size w w') : BoR w' v bs := by
  rcases h with h | ⟨b, off, cap, hv, hb, hl, hc⟩
  · exact .inl h
  · exact .inr ⟨b, off, cap, hv, Nat.lt_of_lt_of_le hb hB.size, hl, fun k hk => (hB.cell (p := ⟨b, off + k, none⟩) hb).trans (hc k hk)⟩
theorem BoR.own {w : World} {base : Nat} {v : Value} {bs : List Bool} (h : w.ownsRow base 4 1 v bs.length (bls bs)) : BoR w v bs := by
  rcases row_form h with ⟨rfl, h0⟩ | ⟨g, cap, rfl, _, hc⟩
  · exact .inl ⟨rfl, List.eq_nil_of_length_eq_zero h0⟩
  · refine .inr ⟨g, 0, cap, rfl, (h.lt g rfl).2, hc, fun k hk => ?_⟩
    rw [Nat.zero_add, h.cellAt k (by omega)]
    simp [bls, hk]


set_option maxRecDepth 100000 in
open Go.Deep Go.ChangeShapes Go.WideShapes Go.Joins in
/-- A list of numbers that comes in. -/
theorem openBoS {H : Type} {enc : TypeId × Value → H} {W : World} {a : Option Addr} {n c : Nat} {d : DataW H} {p : List MemPlace} (h : DataW.Trod enc Tryz.prog W 0 (fun _ => true) true 26 (.slice a n c) d p) :
    ∃ zs : List Bool, VS W (.slice a n c) (bls zs) ∧ zs.length = n ∧ n ≤ maxLen := by
  obtain ⟨fuel, hf⟩ := h
  have c2 : Tryz.prog.cellsOf 4 = 1 := by kernel_rfl
  rcases open_slice Tryz.underlying26 hf with ⟨hcs, _⟩ | ⟨x, len, cap, m, k, D, Pl, hcs, _, hl, hm, hmm, _, hx⟩
  · simp [Value.cells] at hcs
    obtain ⟨rfl, rfl, rfl⟩ := hcs
    exact ⟨[], .inl ⟨_, _, rfl, rfl⟩, rfl, Nat.zero_le _⟩
  · simp [Value.cells] at hcs
    obtain ⟨rfl, rfl, rfl⟩ := hcs
    have hlm : n ≤ m := by rw [hmm]; simpa using hl
    have each : ∀ i, i < n → ∃ r : Bool, W.cell? (x.add i) = some (.bool r) := by
      intro i hi
      obtain ⟨cs', h1, h2⟩ := hx i (by omega)
      rw [c2, Nat.mul_one] at h1
      obtain ⟨_, hlen, hcell⟩ := World.cells?_some h1
      obtain ⟨x0, f0, _⟩ := DataW.trod_bool Tryz.underlying4 h2
      subst f0
      have e0 := hcell 0 (by omega)
      rw [add_add] at e0
      exact ⟨x0, by simpa using e0⟩
    have hin : Inhabited Bool := ⟨false⟩
    obtain ⟨q, hq⟩ := choose_lt each
    by_cases h0 : n = 0
    · subst h0
      exact ⟨[], .inl ⟨_, _, rfl, rfl⟩, rfl, Nat.zero_le _⟩
    · obtain ⟨b, off, spot⟩ := x
      have hs : spot = none := by simpa [Addr.add] using World.cell?_spot (hq 0 (by omega))
      subst hs
      have hlt : b < W.heap.size := by
        have := hq 0 (by omega)
        rw [Addr.add_lit] at this
        by_cases hb : b < W.heap.size
        · exact hb
        · simp only [World.cell?] at this
          rw [Array.getElem?_eq_none (by omega)] at this
          cases this
      refine ⟨(List.range n).map q, .inr ⟨b, off, c, by simp [bls], hlt, by simpa [bls] using hl, fun k hk => ?_⟩, by simp, by omega⟩
      have hk' : k < n := by simpa [bls] using hk
      have := hq k hk'
      simp only [Addr.add_lit] at this
      simpa [bls] using this

open Go.Deep Go.ChangeShapes Go.WideShapes Go.Joins in
theorem openBoR {H : Type} {enc : TypeId × Value → H} {W : World} {c0 : Value} {d : DataW H × List MemPlace} {fuel : Nat} (hf : DataW.trod enc Tryz.prog W 0 (fun _ => true) true fuel 26 [c0] = some d) :
    ∃ (a : Option Addr) (n c : Nat) (zs : List Bool), c0 = .slice a n c ∧ VS W (.slice a n c) (bls zs) ∧ zs.length = n ∧ n ≤ maxLen := by
  have hs : ∃ a n c, c0 = .slice a n c := by
    rcases open_slice Tryz.underlying26 hf with ⟨hcs, _⟩ | ⟨x, n, c, m, k, D, Pl, hcs, _⟩
    · simp at hcs; exact ⟨_, _, _, hcs⟩
    · simp at hcs; exact ⟨_, _, _, hcs⟩
  obtain ⟨a, n, c, rfl⟩ := hs
  obtain ⟨zs, h⟩ := openBoS (a := a) (n := n) (c := c) (d := d.1) (p := d.2) ⟨fuel, hf⟩
  exact ⟨a, n, c, zs, rfl, h⟩

set_option maxHeartbeats 1000000 in
theorem szBoolS_any (v : Value) (zs : List Bool) (n : Int) (w : World) (h0 : 0 ≤ n) (h1 : n ≤ 1048576) (hm : zs.length ≤ maxLen) (hr : VS w v (bls zs)) :
    Calls Tryz.prog 26 #[v, .int .i64 n] w fun e w' => e = .returned (.int .i64 (left1 n zs.length)) ∧ Below w.heap.size w w' := by
  obtain ⟨a, cap, rfl⟩ := hr.bolLen
  unfold maxLen at hm
  by_cases c0 : n < zs.length
  · have HR := hid (show left1 n zs.length = -1 from if_neg (by omega))
    go_enter Tryz.func26, Tryz.ntmps26
    go_wp2
    go_ret
    exact ⟨ret_int HR.out.symm, Below.refl _ _⟩
  · have HR := hid (show left1 n zs.length = n - zs.length from if_pos (by omega))
    have d0 : decide (n - (zs.length : Int) < 0) = false := by simp; omega
    go_enter Tryz.func26, Tryz.ntmps26
    go_wp2
    go_ret
    exact ⟨ret_int HR.out.symm, Below.refl _ _⟩

set_option maxHeartbeats 1000000 in
/-- A list of numbers is like itself, wherever the two lie. -/
theorem eqBoolS_same (v v' : Value) (zs : List Bool) (w : World) (hn : zs.length ≤ 1048577) (hr : VS w v (bls zs)) (hr' : VS w v' (bls zs)) :
    Calls Tryz.prog 43 #[v, v'] w fun e w' => e = .returned (.bool true) ∧ Below w.heap.size w w' := by
  obtain ⟨a, cap, rfl⟩ := hr.bolLen
  obtain ⟨a', cap', rfl⟩ := hr'.bolLen
  have e0 : ((zs.length : Int) != (zs.length : Int)) = false := by simp
  go_enter Tryz.func43, Tryz.ntmps43
  go_wp2
  go_loopw [5] (fun i wr => ∃ j : Nat, j ≤ zs.length ∧ i = .int .i64 j ∧ Below w.heap.size w wr) (fun i _ => zs.length - (intOf i).toNat)
  case atStart => exact ⟨0, Nat.zero_le _, rfl, Below.refl _ _⟩
  case round =>
    obtain ⟨j, hj, rfl, hB⟩ := hrel
    by_cases hlt : j < zs.length
    · obtain ⟨b, off, rfl, hb, hcap, q0⟩ := (hr.below hB).bol hlt
      obtain ⟨b', off', rfl, hb', hcap', q1⟩ := (hr'.below hB).bol hlt
      generalize zs[j] = x at q0 q1
      go_wp2_with fail
      go_quiet (fail)
      go_wp2
      go_roundw
      case rel => first | exact ⟨j + 1, by omega, by go_num, below_drewn hB _⟩ | ((repeat apply Exists.intro); exact ⟨⟨j + 1, by omega, by go_num, below_drewn hB _⟩, rfl⟩)
      case measure => simp [intOf]; omega
    · obtain rfl : j = zs.length := by omega
      go_wp2
      go_ret
      exact ⟨rfl, hB⟩

set_option maxHeartbeats 1000000 in
theorem toBoolS_any (v : Value) (zs : List Bool) (w : World) (hm : zs.length ≤ 1048576) (hr : VS w v (bls zs)) :
    Calls Tryz.prog 34 #[v] w fun e w' => ∃ v', e = .returned v' ∧ w'.ownsRow w.heap.size 4 1 v' zs.length (bls zs) ∧ Below w.heap.size w w' := by
  obtain ⟨a, cap, rfl⟩ := hr.bolLen
  obtain ⟨i0, hi, hz0, hz1, hz2⟩ := info_parts infoBool
  go_enter Tryz.func34, Tryz.ntmps34
  go_wp2_with (at_make; refine wpList_make_full _ rfl _ _ 26 rfl w.heap.size 4 i0 _ 1 Tryz.underlying26 hi hz0 hz1 _ _ _ _ zs.length rfl rfl rfl rfl (by rw [hz2]; omega) (by unfold maxLen; omega) (Nat.le_refl _) ?_; intro w1 hown hgrow)
  have hB1 : Below w.heap.size w w1 := (Below.refl _ w).grown hgrow (Nat.le_refl _) (fun k e => by cases e)
  go_loopw [4] (fun i wr => ∃ k : Nat, k ≤ zs.length ∧ i = .int .i64 k ∧ ∃ xs, wr.ownsRow w.heap.size 4 1 (.slice (some ⟨w.heap.size, 0, none⟩) zs.length zs.length) zs.length xs ∧ xs.take k = bls (zs.take k) ∧ Below w.heap.size w wr) (fun i _ => zs.length - (intOf i).toNat)
  case atStart => exact ⟨0, Nat.zero_le _, rfl, _, hown, by simp, hB1⟩
  case round =>
    obtain ⟨k, hk, rfl, xs, hrow, hx, hB⟩ := hrel
    have HX := hid hx
    clear hx
    by_cases hlt : k < zs.length
    · obtain ⟨b, off, rfl, hb, hcap, q0⟩ := (hr.below hB).bol hlt
      have HT := hid (List.take_succ_eq_append_getElem hlt)
      generalize zs[k] = r at *
      have hlen : xs.length = zs.length := by have := hrow.1; omega
      have s0 := hrow.cellAt k (by omega)
      rw [List.getElem?_eq_getElem (by omega)] at s0
      have t0 := hrow.frozenAt k
      generalize xs[k] = y0 at *
      go_wp2
      go_roundw
      case rel =>
        refine ⟨k + 1, by omega, by go_num, _, (hrow.stored k (.bool r)).1, ?_, hB.setCell (p := ⟨w.heap.size, _, none⟩) (Nat.le_refl _) _⟩
        rw [take_one _ _ _ (by omega), HX.out, HT.out]
        simp [bls]
      case measure => simp [intOf]; omega
    · obtain rfl : k = zs.length := by omega
      have HF := hid (show xs = bls zs by have := HX.out; rw [List.take_of_length_le (by have := hrow.1; omega), List.take_length] at this; exact this)
      go_wp2
      go_ret
      exact ⟨_, rfl, by rw [← HF.out]; exact hrow, hB⟩

def mkY (k n : Nat) : List Bool := (List.range n).map (fun i => ((k + i : Nat) : Int) % 3 == 0)
theorem mkY_len (k n : Nat) : (mkY k n).length = n := by simp [mkY]
theorem mkY_succ (k n : Nat) : mkY k (n + 1) = mkY k n ++ [((k + n : Nat) : Int) % 3 == 0] := by
  unfold mkY
  rw [List.range_succ, List.map_append]
  rfl
theorem mkY_at {k n i : Nat} (h : i < (mkY k n).length) : (mkY k n)[i] = (((k + i : Nat) : Int) % 3 == 0) := by simp [mkY]

end Go.Proofs.YtnbojbcljfiamaaGreatDoor

namespace Go.Proofs.YtnbojbcljfiamaaGreatDoor
open Go.RowKit Go.Shelf

/-- 6 cells that are a block of their own. -/
def Six (w : World) (t : TypeId) (k : Nat) (a b c d e f : Value) : Prop := w.ownsRow k t 6 (.slice (some ⟨k, 0, none⟩) 1 1) 1 [a, b, c, d, e, f]
theorem Six.at (w : World) (a b c d e f : Value) (t : TypeId) {k : Nat} (hk : k = w.heap.size) : Six (w.alloc (.cells #[a, b, c, d, e, f] t)) t k a b c d e f := by
  subst hk
  exact ⟨rfl, .inr ⟨w.heap.size, 1, #[a, b, c, d, e, f], rfl, Nat.le_refl _, by show (w.heap.push _)[w.heap.size]? = _; rw [Array.getElem?_push_size], Nat.le_refl _, by unfold maxLen; omega, rfl, rfl⟩⟩
theorem Six.new (w : World) (a b c d e f : Value) (t : TypeId) : Six (w.alloc (.cells #[a, b, c, d, e, f] t)) t w.heap.size a b c d e f := Six.at w a b c d e f t rfl
theorem Six.below {w' : World} {w : World} {t : TypeId} {k : Nat} {a b c d e f : Value} (h : Six w t k a b c d e f) (hB : Below w.heap.size w w') : Six w' t k a b c d e f := ownsRow_below h hB
theorem Six.c {w : World} {t : TypeId} {k : Nat} {a b c d e f : Value} (h : Six w t k a b c d e f) : w.cell? ⟨k, 0, none⟩ = some a ∧ w.cell? ⟨k, 1, none⟩ = some b ∧ w.cell? ⟨k, 2, none⟩ = some c ∧ w.cell? ⟨k, 3, none⟩ = some d ∧ w.cell? ⟨k, 4, none⟩ = some e ∧ w.cell? ⟨k, 5, none⟩ = some f :=
  ⟨World.ownsRow.cellAt h 0 (by omega), World.ownsRow.cellAt h 1 (by omega), World.ownsRow.cellAt h 2 (by omega), World.ownsRow.cellAt h 3 (by omega), World.ownsRow.cellAt h 4 (by omega), World.ownsRow.cellAt h 5 (by omega)⟩
theorem Six.f {w : World} {t : TypeId} {k : Nat} {a b c d e f : Value} (h : Six w t k a b c d e f) (j : Nat) : w.frozen? ⟨k, j, none⟩ = false := World.ownsRow.frozenAt h j
theorem Six.s0 {w : World} {t : TypeId} {k : Nat} {a b c d e f : Value} (h : Six w t k a b c d e f) (x : Value) : Six (w.setCell ⟨k, 0, none⟩ x) t k x b c d e f := (World.ownsRow.stored h 0 x).1
theorem Six.s1 {w : World} {t : TypeId} {k : Nat} {a b c d e f : Value} (h : Six w t k a b c d e f) (x : Value) : Six (w.setCell ⟨k, 1, none⟩ x) t k a x c d e f := (World.ownsRow.stored h 1 x).1
theorem Six.s2 {w : World} {t : TypeId} {k : Nat} {a b c d e f : Value} (h : Six w t k a b c d e f) (x : Value) : Six (w.setCell ⟨k, 2, none⟩ x) t k a b x d e f := (World.ownsRow.stored h 2 x).1
theorem Six.s3 {w : World} {t : TypeId} {k : Nat} {a b c d e f : Value} (h : Six w t k a b c d e f) (x : Value) : Six (w.setCell ⟨k, 3, none⟩ x) t k a b c x e f := (World.ownsRow.stored h 3 x).1
theorem Six.s4 {w : World} {t : TypeId} {k : Nat} {a b c d e f : Value} (h : Six w t k a b c d e f) (x : Value) : Six (w.setCell ⟨k, 4, none⟩ x) t k a b c d x f := (World.ownsRow.stored h 4 x).1
theorem Six.s5 {w : World} {t : TypeId} {k : Nat} {a b c d e f : Value} (h : Six w t k a b c d e f) (x : Value) : Six (w.setCell ⟨k, 5, none⟩ x) t k a b c d e x := (World.ownsRow.stored h 5 x).1
theorem Six.other {w : World} {t : TypeId} {k : Nat} {a b c d e f : Value} (h : Six w t k a b c d e f) {k' : Nat} (hk : k ≠ k') (j : Nat) (x : Value) : Six (w.setCell ⟨k', j, none⟩ x) t k a b c d e f := ownsRow_setCell_other h (by simpa [Value.ownBlock] using hk) x
theorem Six.lt {w : World} {t : TypeId} {k : Nat} {a b c d e f : Value} (h : Six w t k a b c d e f) : k < w.heap.size := (World.ownsRow.lt h k rfl).2
theorem Mid.six {lo hi : Nat} {w1 : World} {w : World} {t : TypeId} {k : Nat} {a b c d e f : Value} (h : Mid lo hi w w1) (hr : Six w t k a b c d e f) (ho : k < lo ∨ hi ≤ k) : Six w1 t k a b c d e f :=
  h.row hr (fun j hj => by simp [Value.ownBlock] at hj; omega)
theorem row_six {w : World} {base : Nat} {e : TypeId} {size n : Nat} {v : Value} {xs : List Value} (h : w.ownsRow base e size v n xs) {k : Nat} (hk : k < base) (x0 x1 x2 x3 x4 x5 : Value) : ((((((w.setCell ⟨k, 0, none⟩ x0).setCell ⟨k, 1, none⟩ x1).setCell ⟨k, 2, none⟩ x2).setCell ⟨k, 3, none⟩ x3).setCell ⟨k, 4, none⟩ x4).setCell ⟨k, 5, none⟩ x5).ownsRow base e size v n xs :=
  (ownsRow_setCell_below (ownsRow_setCell_below (ownsRow_setCell_below (ownsRow_setCell_below (ownsRow_setCell_below (ownsRow_setCell_below h (a := ⟨k, 0, none⟩) hk x0) (a := ⟨k, 1, none⟩) hk x1) (a := ⟨k, 2, none⟩) hk x2) (a := ⟨k, 3, none⟩) hk x3) (a := ⟨k, 4, none⟩) hk x4) (a := ⟨k, 5, none⟩) hk x5)
theorem below_six {n k : Nat} {w W : World} (h : Below n w W) (hk : n ≤ k) (x0 x1 x2 x3 x4 x5 : Value) : Below n w ((((((W.setCell ⟨k, 0, none⟩ x0).setCell ⟨k, 1, none⟩ x1).setCell ⟨k, 2, none⟩ x2).setCell ⟨k, 3, none⟩ x3).setCell ⟨k, 4, none⟩ x4).setCell ⟨k, 5, none⟩ x5) :=
  ((((((h.setCell (p := ⟨k, 0, none⟩) hk x0).setCell (p := ⟨k, 1, none⟩) hk x1).setCell (p := ⟨k, 2, none⟩) hk x2).setCell (p := ⟨k, 3, none⟩) hk x3).setCell (p := ⟨k, 4, none⟩) hk x4).setCell (p := ⟨k, 5, none⟩) hk x5)

/-- 7 cells that are a block of their own. -/
def Seven (w : World) (t : TypeId) (k : Nat) (a b c d e f g : Value) : Prop := w.ownsRow k t 7 (.slice (some ⟨k, 0, none⟩) 1 1) 1 [a, b, c, d, e, f, g]
theorem Seven.at (w : World) (a b c d e f g : Value) (t : TypeId) {k : Nat} (hk : k = w.heap.size) : Seven (w.alloc (.cells #[a, b, c, d, e, f, g] t)) t k a b c d e f g := by
  subst hk
  exact ⟨rfl, .inr ⟨w.heap.size, 1, #[a, b, c, d, e, f, g], rfl, Nat.le_refl _, by show (w.heap.push _)[w.heap.size]? = _; rw [Array.getElem?_push_size], Nat.le_refl _, by unfold maxLen; omega, rfl, rfl⟩⟩
theorem Seven.new (w : World) (a b c d e f g : Value) (t : TypeId) : Seven (w.alloc (.cells #[a, b, c, d, e, f, g] t)) t w.heap.size a b c d e f g := Seven.at w a b c d e f g t rfl
theorem Seven.below {w' : World} {w : World} {t : TypeId} {k : Nat} {a b c d e f g : Value} (h : Seven w t k a b c d e f g) (hB : Below w.heap.size w w') : Seven w' t k a b c d e f g := ownsRow_below h hB
theorem Seven.c {w : World} {t : TypeId} {k : Nat} {a b c d e f g : Value} (h : Seven w t k a b c d e f g) : w.cell? ⟨k, 0, none⟩ = some a ∧ w.cell? ⟨k, 1, none⟩ = some b ∧ w.cell? ⟨k, 2, none⟩ = some c ∧ w.cell? ⟨k, 3, none⟩ = some d ∧ w.cell? ⟨k, 4, none⟩ = some e ∧ w.cell? ⟨k, 5, none⟩ = some f ∧ w.cell? ⟨k, 6, none⟩ = some g :=
  ⟨World.ownsRow.cellAt h 0 (by omega), World.ownsRow.cellAt h 1 (by omega), World.ownsRow.cellAt h 2 (by omega), World.ownsRow.cellAt h 3 (by omega), World.ownsRow.cellAt h 4 (by omega), World.ownsRow.cellAt h 5 (by omega), World.ownsRow.cellAt h 6 (by omega)⟩
theorem Seven.f {w : World} {t : TypeId} {k : Nat} {a b c d e f g : Value} (h : Seven w t k a b c d e f g) (j : Nat) : w.frozen? ⟨k, j, none⟩ = false := World.ownsRow.frozenAt h j
theorem Seven.s0 {w : World} {t : TypeId} {k : Nat} {a b c d e f g : Value} (h : Seven w t k a b c d e f g) (x : Value) : Seven (w.setCell ⟨k, 0, none⟩ x) t k x b c d e f g := (World.ownsRow.stored h 0 x).1
theorem Seven.s1 {w : World} {t : TypeId} {k : Nat} {a b c d e f g : Value} (h : Seven w t k a b c d e f g) (x : Value) : Seven (w.setCell ⟨k, 1, none⟩ x) t k a x c d e f g := (World.ownsRow.stored h 1 x).1
theorem Seven.s2 {w : World} {t : TypeId} {k : Nat} {a b c d e f g : Value} (h : Seven w t k a b c d e f g) (x : Value) : Seven (w.setCell ⟨k, 2, none⟩ x) t k a b x d e f g := (World.ownsRow.stored h 2 x).1
theorem Seven.s3 {w : World} {t : TypeId} {k : Nat} {a b c d e f g : Value} (h : Seven w t k a b c d e f g) (x : Value) : Seven (w.setCell ⟨k, 3, none⟩ x) t k a b c x e f g := (World.ownsRow.stored h 3 x).1
theorem Seven.s4 {w : World} {t : TypeId} {k : Nat} {a b c d e f g : Value} (h : Seven w t k a b c d e f g) (x : Value) : Seven (w.setCell ⟨k, 4, none⟩ x) t k a b c d x f g := (World.ownsRow.stored h 4 x).1
theorem Seven.s5 {w : World} {t : TypeId} {k : Nat} {a b c d e f g : Value} (h : Seven w t k a b c d e f g) (x : Value) : Seven (w.setCell ⟨k, 5, none⟩ x) t k a b c d e x g := (World.ownsRow.stored h 5 x).1
theorem Seven.s6 {w : World} {t : TypeId} {k : Nat} {a b c d e f g : Value} (h : Seven w t k a b c d e f g) (x : Value) : Seven (w.setCell ⟨k, 6, none⟩ x) t k a b c d e f x := (World.ownsRow.stored h 6 x).1
theorem Seven.other {w : World} {t : TypeId} {k : Nat} {a b c d e f g : Value} (h : Seven w t k a b c d e f g) {k' : Nat} (hk : k ≠ k') (j : Nat) (x : Value) : Seven (w.setCell ⟨k', j, none⟩ x) t k a b c d e f g := ownsRow_setCell_other h (by simpa [Value.ownBlock] using hk) x
theorem Seven.lt {w : World} {t : TypeId} {k : Nat} {a b c d e f g : Value} (h : Seven w t k a b c d e f g) : k < w.heap.size := (World.ownsRow.lt h k rfl).2
theorem Mid.seven {lo hi : Nat} {w1 : World} {w : World} {t : TypeId} {k : Nat} {a b c d e f g : Value} (h : Mid lo hi w w1) (hr : Seven w t k a b c d e f g) (ho : k < lo ∨ hi ≤ k) : Seven w1 t k a b c d e f g :=
  h.row hr (fun j hj => by simp [Value.ownBlock] at hj; omega)
theorem row_seven {w : World} {base : Nat} {e : TypeId} {size n : Nat} {v : Value} {xs : List Value} (h : w.ownsRow base e size v n xs) {k : Nat} (hk : k < base) (x0 x1 x2 x3 x4 x5 x6 : Value) : (((((((w.setCell ⟨k, 0, none⟩ x0).setCell ⟨k, 1, none⟩ x1).setCell ⟨k, 2, none⟩ x2).setCell ⟨k, 3, none⟩ x3).setCell ⟨k, 4, none⟩ x4).setCell ⟨k, 5, none⟩ x5).setCell ⟨k, 6, none⟩ x6).ownsRow base e size v n xs :=
  (ownsRow_setCell_below (ownsRow_setCell_below (ownsRow_setCell_below (ownsRow_setCell_below (ownsRow_setCell_below (ownsRow_setCell_below (ownsRow_setCell_below h (a := ⟨k, 0, none⟩) hk x0) (a := ⟨k, 1, none⟩) hk x1) (a := ⟨k, 2, none⟩) hk x2) (a := ⟨k, 3, none⟩) hk x3) (a := ⟨k, 4, none⟩) hk x4) (a := ⟨k, 5, none⟩) hk x5) (a := ⟨k, 6, none⟩) hk x6)
theorem below_seven {n k : Nat} {w W : World} (h : Below n w W) (hk : n ≤ k) (x0 x1 x2 x3 x4 x5 x6 : Value) : Below n w (((((((W.setCell ⟨k, 0, none⟩ x0).setCell ⟨k, 1, none⟩ x1).setCell ⟨k, 2, none⟩ x2).setCell ⟨k, 3, none⟩ x3).setCell ⟨k, 4, none⟩ x4).setCell ⟨k, 5, none⟩ x5).setCell ⟨k, 6, none⟩ x6) :=
  (((((((h.setCell (p := ⟨k, 0, none⟩) hk x0).setCell (p := ⟨k, 1, none⟩) hk x1).setCell (p := ⟨k, 2, none⟩) hk x2).setCell (p := ⟨k, 3, none⟩) hk x3).setCell (p := ⟨k, 4, none⟩) hk x4).setCell (p := ⟨k, 5, none⟩) hk x5).setCell (p := ⟨k, 6, none⟩) hk x6)

end Go.Proofs.YtnbojbcljfiamaaGreatDoor

namespace Go.Proofs.YtnbojbcljfiamaaGreatDoor
open Go.RowKit Go.Shelf

/-- A side. -/
structure Sd where
  fo : Sn
  co : Int
  ru : List Ru
  ha : List Bool
  se : List Int
def Sd.none : Sd := ⟨Sn.none, 0, [], [], []⟩
def SdA (w : World) (v : Value) (s : Sd) : Prop := ∃ vp vr vu vh vs, v = .agg #[.int .i64 s.fo.num, vp, vr, .int .i64 s.co, vu, vh, vs] ∧ RuS w vp s.fo.pol ∧ VS w vr (nums s.fo.rv) ∧ RuS w vu s.ru ∧ VS w vh (bls s.ha) ∧ VS w vs (nums s.se)
def SdR (w : World) (v : Value) (s : Sd) : Prop := ∃ vp vr vu vh vs, v = .agg #[.int .i64 s.fo.num, vp, vr, .int .i64 s.co, vu, vh, vs] ∧ RuR w vp s.fo.pol ∧ NuR w vr s.fo.rv ∧ RuR w vu s.ru ∧ BoR w vh s.ha ∧ NuR w vs s.se
/-- .. of one's own: the version's lists lie in blocks from base on, below m, the others from m on, below top. -/
def SdO (w : World) (base top : Nat) (v : Value) (s : Sd) : Prop :=
  ∃ m vp vr vu vh vs, v = .agg #[.int .i64 s.fo.num, vp, vr, .int .i64 s.co, vu, vh, vs] ∧ base ≤ m ∧ m ≤ top ∧ SnO w base m (.agg #[.int .i64 s.fo.num, vp, vr]) s.fo ∧ w.ownsRow m 122 4 vu s.ru.length (s.ru.flatMap Ru.cells) ∧ w.ownsRow m 4 1 vh s.ha.length (bls s.ha) ∧ w.ownsRow m 3 1 vs s.se.length (nums s.se) ∧ (∀ k, vu.ownBlock = some k → k < top) ∧ (∀ k, vh.ownBlock = some k → k < top) ∧ ∀ k, vs.ownBlock = some k → k < top
theorem SdA.below {w w' : World} {v : Value} {s : Sd} (h : SdA w v s) (hB : Below w.heap.size w w') : SdA w' v s := by
  obtain ⟨vp, vr, vu, vh, vs, rfl, h1, h2, h3, h4, h5⟩ := h
  exact ⟨_, _, _, _, _, rfl, h1.below hB, h2.below hB, h3.below hB, h4.below hB, h5.below hB⟩
theorem SdR.below {w w' : World} {v : Value} {s : Sd} (h : SdR w v s) (hB : Below w.heap.size w w') : SdR w' v s := by
  obtain ⟨vp, vr, vu, vh, vs, rfl, h1, h2, h3, h4, h5⟩ := h
  exact ⟨_, _, _, _, _, rfl, h1.below hB, h2.below hB, h3.below hB, h4.below hB, h5.below hB⟩
theorem SdO.below {w w' : World} {base top : Nat} {v : Value} {s : Sd} (h : SdO w base top v s) (hB : Below w.heap.size w w') : SdO w' base top v s := by
  obtain ⟨m, vp, vr, vu, vh, vs, rfl, hm, ht, h1, h3, h4, h5, t⟩ := h
  exact ⟨m, vp, vr, vu, vh, vs, rfl, hm, ht, h1.below hB, ownsRow_below h3 hB, ownsRow_below h4 hB, ownsRow_below h5 hB, t⟩
theorem SdR.a {w : World} {v : Value} {s : Sd} (h : SdR w v s) : SdA w v s := by
  obtain ⟨vp, vr, vu, vh, vs, rfl, h1, h2, h3, h4, h5⟩ := h
  exact ⟨_, _, _, _, _, rfl, h1.s, h2.s, h3.s, h4.s, h5.s⟩
theorem SdO.r {w : World} {base top : Nat} {v : Value} {s : Sd} (h : SdO w base top v s) : SdR w v s := by
  obtain ⟨m, vp, vr, vu, vh, vs, rfl, hm, ht, ⟨vp', vr', e, h1, h2, _, _⟩, h3, h4, h5, t⟩ := h
  cases e
  exact ⟨_, _, _, _, _, rfl, RuR.own h1, NuR.own h2, RuR.own h3, BoR.own h4, NuR.own h5⟩
theorem SdO.a {w : World} {base top : Nat} {v : Value} {s : Sd} (h : SdO w base top v s) : SdA w v s := h.r.a
theorem SdR.fo {w : World} {vp vr vu vh vs : Value} {s : Sd} (h : SdR w (.agg #[.int .i64 s.fo.num, vp, vr, .int .i64 s.co, vu, vh, vs]) s) : SnR w (.agg #[.int .i64 s.fo.num, vp, vr]) s.fo := by
  obtain ⟨_, _, _, _, _, e, h1, h2, _⟩ := h
  cases e
  exact ⟨_, _, rfl, h1, h2⟩
theorem SdO.mono {w : World} {base base' top top' : Nat} {v : Value} {s : Sd} (h : SdO w base top v s) (hb : base' ≤ base) (ht : top ≤ top') : SdO w base' top' v s := by
  obtain ⟨m, vp, vr, vu, vh, vs, rfl, hm, hmt, h1, h3, h4, h5, t1, t2, t3⟩ := h
  exact ⟨m, vp, vr, vu, vh, vs, rfl, by omega, by omega, h1.mono hb (Nat.le_refl _), h3, h4, h5, fun k hk => Nat.lt_of_lt_of_le (t1 k hk) ht, fun k hk => Nat.lt_of_lt_of_le (t2 k hk) ht, fun k hk => Nat.lt_of_lt_of_le (t3 k hk) ht⟩
theorem Mid.sdo {lo hi : Nat} {w w1 : World} (h : Mid lo hi w w1) {base top : Nat} {v : Value} {s : Sd} (hr : SdO w base top v s) (ho : hi ≤ base ∨ top ≤ lo) : SdO w1 base top v s := by
  obtain ⟨m, vp, vr, vu, vh, vs, rfl, hm, hmt, h1, h3, h4, h5, t1, t2, t3⟩ := hr
  exact ⟨m, vp, vr, vu, vh, vs, rfl, hm, hmt, h.sno h1 (by omega), h.row h3 (fun k hk => by have := h3.lt k hk; have := t1 k hk; omega), h.row h4 (fun k hk => by have := h4.lt k hk; have := t2 k hk; omega), h.row h5 (fun k hk => by have := h5.lt k hk; have := t3 k hk; omega), t1, t2, t3⟩
theorem SdO.none (w : World) (base top : Nat) (h : base ≤ top) : SdO w base top (.agg #[.int .i64 0, .slice none 0 0, .slice none 0 0, .int .i64 0, .slice none 0 0, .slice none 0 0, .slice none 0 0]) Sd.none :=
  ⟨base, _, _, _, _, _, rfl, Nat.le_refl _, h, ⟨_, _, rfl, World.ownsRow_nil _ _ _ _, World.ownsRow_nil _ _ _ _, fun _ h => by simp [Value.ownBlock] at h, fun _ h => by simp [Value.ownBlock] at h⟩, World.ownsRow_nil _ _ _ _, World.ownsRow_nil _ _ _ _, World.ownsRow_nil _ _ _ _, fun _ h => by simp [Value.ownBlock] at h, fun _ h => by simp [Value.ownBlock] at h, fun _ h => by simp [Value.ownBlock] at h⟩
def Sd.fits (s : Sd) : Prop := s.fo.fits ∧ s.ru.length ≤ maxLen ∧ (∀ r ∈ s.ru, r.fits) ∧ s.ha.length ≤ maxLen ∧ s.se.length ≤ maxLen
def Sd.size (s : Sd) : Nat := s.fo.size + szAll s.ru + s.ha.length + s.se.length
def leftSd (n : Int) (s : Sd) : Int := if (s.size : Int) ≤ n then n - s.size else -1
def Sd.short (s : Sd) : Prop := s.fo.short ∧ s.ru.length ≤ 1048576 ∧ s.ha.length ≤ 1048576 ∧ s.se.length ≤ 1048576 ∧ ∀ r ∈ s.ru, r.size ≤ 1048576
theorem Sd.short_of {s : Sd} (h : s.size ≤ 1048576) : s.short := by
  unfold Sd.size szAll at h
  exact ⟨Sn.short_of (by omega), by omega, by omega, by omega, fun r hr => by have := sz_mem hr; omega⟩
theorem sd_forms {w : World} {v : Value} {s : Sd} (h : SdA w v s) : ∃ ap cp ar cr au cu ah ch as' cs, v = .agg #[.int .i64 s.fo.num, .slice ap s.fo.pol.length cp, .slice ar s.fo.rv.length cr, .int .i64 s.co, .slice au s.ru.length cu, .slice ah s.ha.length ch, .slice as' s.se.length cs] := by
  obtain ⟨vp, vr, vu, vh, vs, rfl, h1, h2, h3, h4, h5⟩ := h
  obtain ⟨a1, c1, rfl⟩ := h1.len
  obtain ⟨a2, c2, rfl⟩ := h2.numLen
  obtain ⟨a3, c3, rfl⟩ := h3.len
  obtain ⟨a4, c4, rfl⟩ := h4.bolLen
  obtain ⟨a5, c5, rfl⟩ := h5.numLen
  exact ⟨_, _, _, _, _, _, _, _, _, _, rfl⟩

set_option maxRecDepth 100000 in
theorem cellsSide : Tryz.prog.cellsOf 28 = 7 := by kernel_rfl
set_option maxRecDepth 100000 in
open Go.Deep Go.ChangeShapes Go.WideShapes Go.ChangeAt Go.Joins in
/-- A side that comes in. -/
theorem openSd {H : Type} {enc : TypeId × Value → H} {W : World} {base : Nat} {v : Value} {y : DataW H} {p : List MemPlace} (hv : Value.okWide Tryz.prog W .any base 28 v) (h : DataW.Trod enc Tryz.prog W 0 (fun _ => true) true 28 v y p) :
    ∃ s : Sd, SdA W v s ∧ s.fits := by
  obtain ⟨cs, rfl, hsz⟩ := okWide_struct Tryz.underlying28 hv
  rw [cellsSide] at hsz
  obtain ⟨l⟩ := cs
  obtain ⟨c0, c1, c2, c3, c4, c5, c6, rfl⟩ : ∃ c0 c1 c2 c3 c4 c5 c6, l = [c0, c1, c2, c3, c4, c5, c6] := by
    match l, hsz with
    | [c0, c1, c2, c3, c4, c5, c6], _ => exact ⟨c0, c1, c2, c3, c4, c5, c6, rfl⟩
  obtain ⟨fuel, hf⟩ := h
  obtain ⟨xs, n, _, _, _, hlen, hfs⟩ := DataW.trod_struct Tryz.underlying28 hf
  obtain ⟨y0, y1, y2, y3, y4, rfl⟩ : ∃ y0 y1 y2 y3 y4, xs = [y0, y1, y2, y3, y4] := by
    match xs, hlen with
    | [y0, y1, y2, y3, y4], _ => exact ⟨y0, y1, y2, y3, y4, rfl⟩
  have ci : Tryz.prog.cellsOf 3 = 1 := by kernel_rfl
  have cr : Tryz.prog.cellsOf 22 = 1 := by kernel_rfl
  have cb : Tryz.prog.cellsOf 26 = 1 := by kernel_rfl
  have cn : Tryz.prog.cellsOf 23 = 1 := by kernel_rfl
  have h0 : DataW.trod enc Tryz.prog W 0 (fun _ => true) true n 25 [c0, c1, c2] = some y0 := by have := hfs 0 _ rfl; simpa [Value.cells, cellsSnapshot] using this
  have h1 : DataW.trod enc Tryz.prog W 0 (fun _ => true) true n 3 [c3] = some y1 := by have := hfs 1 _ rfl; simpa [Value.cells, ci] using this
  have h2 : DataW.trod enc Tryz.prog W 0 (fun _ => true) true n 22 [c4] = some y2 := by have := hfs 2 _ rfl; simpa [Value.cells, cr] using this
  have h3 : DataW.trod enc Tryz.prog W 0 (fun _ => true) true n 26 [c5] = some y3 := by have := hfs 3 _ rfl; simpa [Value.cells, cb] using this
  have h4 : DataW.trod enc Tryz.prog W 0 (fun _ => true) true n 23 [c6] = some y4 := by have := hfs 4 _ rfl; simpa [Value.cells, cn] using this
  obtain ⟨zs, n', _, _, _, hlen', hgs⟩ := DataW.trod_struct Tryz.underlying25 h0
  obtain ⟨z0, z1, z2, rfl⟩ : ∃ z0 z1 z2, zs = [z0, z1, z2] := by
    match zs, hlen' with
    | [z0, z1, z2], _ => exact ⟨z0, z1, z2, rfl⟩
  have g0 : DataW.trod enc Tryz.prog W 0 (fun _ => true) true n' 3 [c0] = some z0 := by have := hgs 0 _ rfl; simpa [Value.cells, ci] using this
  have g1 : DataW.trod enc Tryz.prog W 0 (fun _ => true) true n' 22 [c1] = some z1 := by have := hgs 1 _ rfl; simpa [Value.cells, cr] using this
  have g2 : DataW.trod enc Tryz.prog W 0 (fun _ => true) true n' 23 [c2] = some z2 := by have := hgs 2 _ rfl; simpa [Value.cells, cn] using this
  obtain ⟨x0, e0, _, _⟩ := DataW.trod_int Tryz.underlying3 g0
  obtain ⟨a1, n1, k1, rs, rfl, r1, rfl, l1, f1⟩ := openRuR g1
  obtain ⟨a2, n2, k2, rv, rfl, r2, rfl, l2⟩ := openInR g2
  obtain ⟨x3, e3, _, _⟩ := DataW.trod_int Tryz.underlying3 h1
  obtain ⟨a4, n4, k4, ru, rfl, r4, rfl, l4, f4⟩ := openRuR h2
  obtain ⟨a5, n5, k5, ha, rfl, r5, rfl, l5⟩ := openBoR h3
  obtain ⟨a6, n6, k6, se, rfl, r6, rfl, l6⟩ := openInR h4
  simp only [List.cons.injEq, and_true] at e0 e3
  subst e0 e3
  exact ⟨⟨⟨x0, rs, rv⟩, x3, ru, ha, se⟩, ⟨_, _, _, _, _, rfl, r1, r2, r4, r5, r6⟩, ⟨l1, f1, l2⟩, l4, f4, l5, l6⟩

set_option maxHeartbeats 2000000 in
theorem szSide_any (v : Value) (s : Sd) (n : Int) (w : World) (h0 : 0 ≤ n) (hn : n ≤ 1048576) (hf : s.fits) (h : SdA w v s) :
    Calls Tryz.prog 5 #[v, .int .i64 n] w fun e w' => e = .returned (.int .i64 (leftSd n s)) ∧ Below w.heap.size w w' := by
  obtain ⟨vp, vr, vu, vh, vs, rfl, h1, h2, h3, h4, h5⟩ := h
  obtain ⟨fs, l3, f3, l4, l5⟩ := hf
  have hS0 : SnA w (.agg #[.int .i64 s.fo.num, vp, vr]) s.fo := ⟨_, _, rfl, h1, h2⟩
  have hB0 : Below w.heap.size w (w.alloc (.cells #[.int .i64 s.fo.num, vp, vr, .int .i64 s.co, vu, vh, vs] 28)) := (Below.refl _ w).alloc (Nat.le_refl _) _
  have F1 := Seven.new w (.int .i64 s.fo.num) vp vr (.int .i64 s.co) vu vh vs 28
  have HI := hid (show leftSd n s = if (s.size : Int) ≤ n then n - (s.size : Int) else (-1 : Int) from rfl)
  have HZ := hid (show s.size = s.fo.size + szAll s.ru + s.ha.length + s.se.length from rfl)
  obtain ⟨N0, HN0⟩ : ∃ N : Nat, Hid (N = s.fo.size) := ⟨_, hid rfl⟩
  obtain ⟨N1, HN1⟩ : ∃ N : Nat, Hid (N = szAll s.ru) := ⟨_, hid rfl⟩
  go_enter Tryz.func5, Tryz.ntmps5
  go_wp2_with fail
  generalize w.alloc (.cells #[.int .i64 s.fo.num, vp, vr, .int .i64 s.co, vu, vh, vs] 28) = W0 at *
  refine (szSnapshot_any (.agg #[.int .i64 s.fo.num, vp, vr]) s.fo (n) _ (by omega) (by omega) fs (SnA.below hS0 hB0)).mono ?_
  rintro e w1 ⟨rfl, hB1⟩
  replace F1 := F1.below hB1
  replace hB0 := below_one hB0 hB1
  clear hB1
  obtain ⟨a0, a1, a2, a3, a4, a5, a6⟩ := F1.c
  by_cases c0 : (N0 : Int) ≤ n
  · rw [show leftV (n) s.fo = n - (N0 : Int) from by unfold leftV; rw [← HN0.out]; exact if_pos c0]
    have d0 : decide (n - (N0 : Int) < 0) = false := by simp; omega
    go_wp2_with fail
    refine (szRuleS_any vu s.ru (n - (N0 : Int)) _ (by omega) (by omega) l3 f3 (h3.below hB0)).mono ?_
    rintro e w2 ⟨rfl, hB2⟩
    replace F1 := F1.below hB2
    replace hB0 := below_one hB0 hB2
    clear hB2
    clear a0 a1 a2 a3 a4 a5 a6
    obtain ⟨a0, a1, a2, a3, a4, a5, a6⟩ := F1.c
    by_cases c1 : (N1 : Int) ≤ n - (N0 : Int)
    · rw [show leftS (n - (N0 : Int)) s.ru = n - (N0 : Int) - (N1 : Int) from by unfold leftS; rw [← HN1.out]; exact if_pos c1]
      have d1 : decide (n - (N0 : Int) - (N1 : Int) < 0) = false := by simp; omega
      go_wp2_with fail
      refine (szBoolS_any vh s.ha (n - (N0 : Int) - (N1 : Int)) _ (by omega) (by omega) l4 (h4.below hB0)).mono ?_
      rintro e w3 ⟨rfl, hB3⟩
      replace F1 := F1.below hB3
      replace hB0 := below_one hB0 hB3
      clear hB3
      clear a0 a1 a2 a3 a4 a5 a6
      obtain ⟨a0, a1, a2, a3, a4, a5, a6⟩ := F1.c
      by_cases c2 : (s.ha.length : Int) ≤ n - (N0 : Int) - (N1 : Int)
      · rw [show left1 (n - (N0 : Int) - (N1 : Int)) s.ha.length = n - (N0 : Int) - (N1 : Int) - (s.ha.length : Int) from if_pos c2]
        have d2 : decide (n - (N0 : Int) - (N1 : Int) - (s.ha.length : Int) < 0) = false := by simp; omega
        go_wp2_with fail
        refine (szIntS_any vs s.se (n - (N0 : Int) - (N1 : Int) - (s.ha.length : Int)) _ (by omega) (by omega) l5 (h5.below hB0)).mono ?_
        rintro e w4 ⟨rfl, hB4⟩
        replace F1 := F1.below hB4
        replace hB0 := below_one hB0 hB4
        clear hB4
        clear a0 a1 a2 a3 a4 a5 a6
        obtain ⟨a0, a1, a2, a3, a4, a5, a6⟩ := F1.c
        by_cases c3 : (s.se.length : Int) ≤ n - (N0 : Int) - (N1 : Int) - (s.ha.length : Int)
        · rw [show left1 (n - (N0 : Int) - (N1 : Int) - (s.ha.length : Int)) s.se.length = n - (N0 : Int) - (N1 : Int) - (s.ha.length : Int) - (s.se.length : Int) from if_pos c3]
          have d3 : decide (n - (N0 : Int) - (N1 : Int) - (s.ha.length : Int) - (s.se.length : Int) < 0) = false := by simp; omega
          have HR := hid (show leftSd n s = n - (N0 : Int) - (N1 : Int) - (s.ha.length : Int) - (s.se.length : Int) by rw [HI.out, if_pos (by rw [HZ.out, ← HN0.out, ← HN1.out]; push_cast; omega), HZ.out, ← HN0.out, ← HN1.out]; push_cast; omega)
          go_wp2_with fail
          go_ret
          exact ⟨ret_int HR.out.symm, hB0⟩
        · rw [show left1 (n - (N0 : Int) - (N1 : Int) - (s.ha.length : Int)) s.se.length = -1 from if_neg c3]
          have HR := hid (show leftSd n s = -1 by rw [HI.out, if_neg (by rw [HZ.out, ← HN0.out, ← HN1.out]; push_cast; omega)])
          go_wp2_with fail
          go_ret
          exact ⟨ret_int HR.out.symm, hB0⟩
      · rw [show left1 (n - (N0 : Int) - (N1 : Int)) s.ha.length = -1 from if_neg c2]
        have HR := hid (show leftSd n s = -1 by rw [HI.out, if_neg (by rw [HZ.out, ← HN0.out, ← HN1.out]; push_cast; omega)])
        go_wp2_with fail
        go_ret
        exact ⟨ret_int HR.out.symm, hB0⟩
    · rw [show leftS (n - (N0 : Int)) s.ru = -1 from by unfold leftS; rw [← HN1.out]; exact if_neg c1]
      have HR := hid (show leftSd n s = -1 by rw [HI.out, if_neg (by rw [HZ.out, ← HN0.out, ← HN1.out]; push_cast; omega)])
      go_wp2_with fail
      go_ret
      exact ⟨ret_int HR.out.symm, hB0⟩
  · rw [show leftV (n) s.fo = -1 from by unfold leftV; rw [← HN0.out]; exact if_neg c0]
    have HR := hid (show leftSd n s = -1 by rw [HI.out, if_neg (by rw [HZ.out, ← HN0.out, ← HN1.out]; push_cast; omega)])
    go_wp2_with fail
    go_ret
    exact ⟨ret_int HR.out.symm, hB0⟩

set_option maxHeartbeats 2000000 in
/-- A side is like itself, wherever the two lie. -/
theorem eqSide_same (v v' : Value) (s : Sd) (w : World) (hs : s.short) (h : SdA w v s) (h' : SdA w v' s) :
    Calls Tryz.prog 13 #[v, v'] w fun e w' => e = .returned (.bool true) ∧ Below w.heap.size w w' := by
  obtain ⟨vp, vr, vu, vh, vs, rfl, h1, h2, h3, h4, h5⟩ := h
  obtain ⟨vp', vr', vu', vh', vs', rfl, h1', h2', h3', h4', h5'⟩ := h'
  obtain ⟨hf, l3, l4, l5, _⟩ := hs
  have hS : SnA w (.agg #[.int .i64 s.fo.num, vp, vr]) s.fo := ⟨_, _, rfl, h1, h2⟩
  have hS' : SnA w (.agg #[.int .i64 s.fo.num, vp', vr']) s.fo := ⟨_, _, rfl, h1', h2'⟩
  have hB0 : Below w.heap.size w ((w.alloc (.cells #[.int .i64 s.fo.num, vp, vr, .int .i64 s.co, vu, vh, vs] 42)).alloc (.cells #[.int .i64 s.fo.num, vp', vr', .int .i64 s.co, vu', vh', vs'] 42)) := ((Below.refl _ w).alloc (Nat.le_refl _) _).alloc (by simp) _
  have F1 := (Seven.new w (.int .i64 s.fo.num) vp vr (.int .i64 s.co) vu vh vs 42).below ((Below.refl _ _).alloc (Nat.le_refl _) (.cells #[.int .i64 s.fo.num, vp', vr', .int .i64 s.co, vu', vh', vs'] 42))
  have F2 := Seven.at (w.alloc (.cells #[.int .i64 s.fo.num, vp, vr, .int .i64 s.co, vu, vh, vs] 42)) (.int .i64 s.fo.num) vp' vr' (.int .i64 s.co) vu' vh' vs' 42 (k := w.heap.size + 1) (by simp)
  have e1 : (s.co != s.co) = false := by simp
  go_enter Tryz.func13, Tryz.ntmps13
  go_wp2_with fail
  generalize (w.alloc (.cells #[.int .i64 s.fo.num, vp, vr, .int .i64 s.co, vu, vh, vs] 42)).alloc (.cells #[.int .i64 s.fo.num, vp', vr', .int .i64 s.co, vu', vh', vs'] 42) = W0 at *
  refine (eqSnapshot_same _ _ s.fo _ hf (hS.below hB0) (hS'.below hB0)).mono ?_
  rintro e w1 ⟨rfl, hB1⟩
  replace F1 := F1.below hB1
  replace F2 := F2.below hB1
  replace hB0 := below_one hB0 hB1
  clear hB1
  obtain ⟨a0, a1, a2, a3, a4, a5, a6⟩ := F1.c
  obtain ⟨c0, c1, c2, c3, c4, c5, c6⟩ := F2.c
  go_wp2_with fail
  refine (eqRuleS_any vu vu' s.ru s.ru _ (by omega) (by omega) (h3.below hB0) (h3'.below hB0)).mono ?_
  rintro e w2 ⟨rfl, hB2⟩
  rw [sameS_refl]
  clear a0 a1 a2 a3 a4 a5 a6 c0 c1 c2 c3 c4 c5 c6
  replace F1 := F1.below hB2
  replace F2 := F2.below hB2
  replace hB0 := below_one hB0 hB2
  clear hB2
  obtain ⟨a0, a1, a2, a3, a4, a5, a6⟩ := F1.c
  obtain ⟨c0, c1, c2, c3, c4, c5, c6⟩ := F2.c
  go_wp2_with fail
  refine (eqBoolS_same vh vh' s.ha _ (by omega) (h4.below hB0) (h4'.below hB0)).mono ?_
  rintro e w3 ⟨rfl, hB3⟩
  clear a0 a1 a2 a3 a4 a5 a6 c0 c1 c2 c3 c4 c5 c6
  replace F1 := F1.below hB3
  replace F2 := F2.below hB3
  replace hB0 := below_one hB0 hB3
  clear hB3
  obtain ⟨a0, a1, a2, a3, a4, a5, a6⟩ := F1.c
  obtain ⟨c0, c1, c2, c3, c4, c5, c6⟩ := F2.c
  go_wp2_with fail
  refine (eqIntS_same vs vs' s.se _ (by omega) (h5.below hB0) (h5'.below hB0)).mono ?_
  rintro e w4 ⟨rfl, hB4⟩
  replace hB0 := below_one hB0 hB4
  go_wp2_with fail
  go_ret
  exact ⟨rfl, hB0⟩

set_option maxHeartbeats 8000000 in
set_option maxRecDepth 100000 in
theorem toSide_any (v : Value) (s : Sd) (w : World) (hs : s.short) (h : SdA w v s) :
    Calls Tryz.prog 9 #[v] w fun e w' => ∃ v', e = .returned v' ∧ SdO w' w.heap.size w'.heap.size v' s ∧ Below w.heap.size w w' := by
  obtain ⟨vp, vr, vu, vh, vs, rfl, h1, h2, h3, h4, h5⟩ := h
  obtain ⟨hf, l3, l4, l5, _⟩ := hs
  have hS : SnA w (.agg #[.int .i64 s.fo.num, vp, vr]) s.fo := ⟨_, _, rfl, h1, h2⟩
  have hB0 : Below w.heap.size w (((w.alloc (.cells #[.int .i64 s.fo.num, vp, vr, .int .i64 s.co, vu, vh, vs] 28)).alloc (.cells #[.int .i64 0, .slice none 0 0, .slice none 0 0, .int .i64 0, .slice none 0 0, .slice none 0 0, .slice none 0 0] 42)).alloc (.cells #[.int .i64 0, .slice none 0 0, .slice none 0 0, .int .i64 0, .slice none 0 0, .slice none 0 0, .slice none 0 0] 42)) := (((Below.refl _ w).alloc (Nat.le_refl _) _).alloc (by simp) _).alloc (by simp; omega) _
  have F1 := ((Seven.new w (.int .i64 s.fo.num) vp vr (.int .i64 s.co) vu vh vs 28).below ((Below.refl _ _).alloc (Nat.le_refl _) (.cells #[.int .i64 0, .slice none 0 0, .slice none 0 0, .int .i64 0, .slice none 0 0, .slice none 0 0, .slice none 0 0] 42))).below ((Below.refl _ _).alloc (Nat.le_refl _) (.cells #[.int .i64 0, .slice none 0 0, .slice none 0 0, .int .i64 0, .slice none 0 0, .slice none 0 0, .slice none 0 0] 42))
  have F2 := (Seven.at (w.alloc (.cells #[.int .i64 s.fo.num, vp, vr, .int .i64 s.co, vu, vh, vs] 28)) (.int .i64 0) (.slice none 0 0) (.slice none 0 0) (.int .i64 0) (.slice none 0 0) (.slice none 0 0) (.slice none 0 0) 42 (k := w.heap.size + 1) (by simp)).below ((Below.refl _ _).alloc (Nat.le_refl _) (.cells #[.int .i64 0, .slice none 0 0, .slice none 0 0, .int .i64 0, .slice none 0 0, .slice none 0 0, .slice none 0 0] 42))
  have F3 := Seven.at ((w.alloc (.cells #[.int .i64 s.fo.num, vp, vr, .int .i64 s.co, vu, vh, vs] 28)).alloc (.cells #[.int .i64 0, .slice none 0 0, .slice none 0 0, .int .i64 0, .slice none 0 0, .slice none 0 0, .slice none 0 0] 42)) (.int .i64 0) (.slice none 0 0) (.slice none 0 0) (.int .i64 0) (.slice none 0 0) (.slice none 0 0) (.slice none 0 0) 42 (k := w.heap.size + 1 + 1) (by simp)
  have hK : w.heap.size + 1 + 1 < (((w.alloc (.cells #[.int .i64 s.fo.num, vp, vr, .int .i64 s.co, vu, vh, vs] 28)).alloc (.cells #[.int .i64 0, .slice none 0 0, .slice none 0 0, .int .i64 0, .slice none 0 0, .slice none 0 0, .slice none 0 0] 42)).alloc (.cells #[.int .i64 0, .slice none 0 0, .slice none 0 0, .int .i64 0, .slice none 0 0, .slice none 0 0, .slice none 0 0] 42)).heap.size := F3.lt
  go_enter Tryz.func9, Tryz.ntmps9
  go_wp2_with fail
  generalize ((w.alloc (.cells #[.int .i64 s.fo.num, vp, vr, .int .i64 s.co, vu, vh, vs] 28)).alloc (.cells #[.int .i64 0, .slice none 0 0, .slice none 0 0, .int .i64 0, .slice none 0 0, .slice none 0 0, .slice none 0 0] 42)).alloc (.cells #[.int .i64 0, .slice none 0 0, .slice none 0 0, .int .i64 0, .slice none 0 0, .slice none 0 0, .slice none 0 0] 42) = W0 at *
  refine (toSnapshot_any _ s.fo _ hf (hS.below hB0)).mono ?_
  rintro e w1 ⟨v1, rfl, O1, hB1⟩
  obtain ⟨x1, z1, x2, z2, rfl⟩ := sn_forms O1.a
  obtain ⟨_, _, ee, o1, o2, t1, t2⟩ := O1
  cases ee
  replace F1 := F1.below hB1
  replace F2 := F2.below hB1
  replace F3 := F3.below hB1
  replace hB0 := below_one hB0 hB1
  have hs1 := hB1.size
  clear hB1
  obtain ⟨a0, a1, a2, a3, a4, a5, a6⟩ := F1.c
  obtain ⟨c0, c1, c2, c3, c4, c5, c6⟩ := F3.c
  have f0 := F3.f 0
  have f1 := F3.f 1
  have f2 := F3.f 2
  have f3 := F3.f 3
  go_wp2_with fail
  clear a0 a1 a2 a3 a4 a5 a6 c0 c1 c2 c3 c4 c5 c6 f0 f1 f2 f3
  replace F1 := ((((F1.other (k' := w.heap.size + 1 + 1) (by omega) 0 (.int .i64 s.fo.num)).other (k' := w.heap.size + 1 + 1) (by omega) 1 (.slice x1 s.fo.pol.length z1)).other (k' := w.heap.size + 1 + 1) (by omega) 2 (.slice x2 s.fo.rv.length z2)).other (k' := w.heap.size + 1 + 1) (by omega) 3 (.int .i64 s.co))
  replace F2 := ((((F2.other (k' := w.heap.size + 1 + 1) (by omega) 0 (.int .i64 s.fo.num)).other (k' := w.heap.size + 1 + 1) (by omega) 1 (.slice x1 s.fo.pol.length z1)).other (k' := w.heap.size + 1 + 1) (by omega) 2 (.slice x2 s.fo.rv.length z2)).other (k' := w.heap.size + 1 + 1) (by omega) 3 (.int .i64 s.co))
  replace F3 := ((((F3.s0 (.int .i64 s.fo.num)).s1 (.slice x1 s.fo.pol.length z1)).s2 (.slice x2 s.fo.rv.length z2)).s3 (.int .i64 s.co))
  replace hB0 := ((((hB0.setCell (p := ⟨w.heap.size + 1 + 1, 0, none⟩) (by simp; omega) (.int .i64 s.fo.num)).setCell (p := ⟨w.heap.size + 1 + 1, 1, none⟩) (by simp; omega) (.slice x1 s.fo.pol.length z1)).setCell (p := ⟨w.heap.size + 1 + 1, 2, none⟩) (by simp; omega) (.slice x2 s.fo.rv.length z2)).setCell (p := ⟨w.heap.size + 1 + 1, 3, none⟩) (by simp; omega) (.int .i64 s.co))
  replace o1 := (ownsRow_setCell_below (ownsRow_setCell_below (ownsRow_setCell_below (ownsRow_setCell_below o1 (a := ⟨w.heap.size + 1 + 1, 0, none⟩) (by simp; omega) (.int .i64 s.fo.num)) (a := ⟨w.heap.size + 1 + 1, 1, none⟩) (by simp; omega) (.slice x1 s.fo.pol.length z1)) (a := ⟨w.heap.size + 1 + 1, 2, none⟩) (by simp; omega) (.slice x2 s.fo.rv.length z2)) (a := ⟨w.heap.size + 1 + 1, 3, none⟩) (by simp; omega) (.int .i64 s.co))
  replace o2 := (ownsRow_setCell_below (ownsRow_setCell_below (ownsRow_setCell_below (ownsRow_setCell_below o2 (a := ⟨w.heap.size + 1 + 1, 0, none⟩) (by simp; omega) (.int .i64 s.fo.num)) (a := ⟨w.heap.size + 1 + 1, 1, none⟩) (by simp; omega) (.slice x1 s.fo.pol.length z1)) (a := ⟨w.heap.size + 1 + 1, 2, none⟩) (by simp; omega) (.slice x2 s.fo.rv.length z2)) (a := ⟨w.heap.size + 1 + 1, 3, none⟩) (by simp; omega) (.int .i64 s.co))
  have hq1 : w1.heap.size ≤ ((((w1.setCell ⟨w.heap.size + 1 + 1, 0, none⟩ (.int .i64 s.fo.num)).setCell ⟨w.heap.size + 1 + 1, 1, none⟩ (.slice x1 s.fo.pol.length z1)).setCell ⟨w.heap.size + 1 + 1, 2, none⟩ (.slice x2 s.fo.rv.length z2)).setCell ⟨w.heap.size + 1 + 1, 3, none⟩ (.int .i64 s.co)).heap.size := by simp
  have hp1 : ((((w1.setCell ⟨w.heap.size + 1 + 1, 0, none⟩ (.int .i64 s.fo.num)).setCell ⟨w.heap.size + 1 + 1, 1, none⟩ (.slice x1 s.fo.pol.length z1)).setCell ⟨w.heap.size + 1 + 1, 2, none⟩ (.slice x2 s.fo.rv.length z2)).setCell ⟨w.heap.size + 1 + 1, 3, none⟩ (.int .i64 s.co)).heap.size ≤ w1.heap.size := by simp
  generalize (((w1.setCell ⟨w.heap.size + 1 + 1, 0, none⟩ (.int .i64 s.fo.num)).setCell ⟨w.heap.size + 1 + 1, 1, none⟩ (.slice x1 s.fo.pol.length z1)).setCell ⟨w.heap.size + 1 + 1, 2, none⟩ (.slice x2 s.fo.rv.length z2)).setCell ⟨w.heap.size + 1 + 1, 3, none⟩ (.int .i64 s.co) = W1 at *
  refine (toRuleS_any vu s.ru _ l3 (h3.below hB0)).mono ?_
  rintro e w2 ⟨v2, rfl, o3, hB2⟩
  replace o3 := Go.Joins.ownsRow_le o3 hq1
  obtain ⟨x3, y3, z3, rfl⟩ := row_slice o3
  replace F1 := F1.below hB2
  replace F2 := F2.below hB2
  replace F3 := F3.below hB2
  replace o1 := ownsRow_below o1 hB2
  replace o2 := ownsRow_below o2 hB2
  replace hB0 := below_one hB0 hB2
  have hs2 := hB2.size
  clear hB2
  obtain ⟨a0, a1, a2, a3, a4, a5, a6⟩ := F1.c
  obtain ⟨c0, c1, c2, c3, c4, c5, c6⟩ := F3.c
  have f4 := F3.f 4
  go_wp2_with fail
  clear a0 a1 a2 a3 a4 a5 a6 c0 c1 c2 c3 c4 c5 c6 f4
  replace F1 := (F1.other (k' := w.heap.size + 1 + 1) (by omega) 4 (.slice x3 y3 z3))
  replace F2 := (F2.other (k' := w.heap.size + 1 + 1) (by omega) 4 (.slice x3 y3 z3))
  replace F3 := (F3.s4 (.slice x3 y3 z3))
  replace hB0 := (hB0.setCell (p := ⟨w.heap.size + 1 + 1, 4, none⟩) (by simp; omega) (.slice x3 y3 z3))
  replace o1 := (ownsRow_setCell_below o1 (a := ⟨w.heap.size + 1 + 1, 4, none⟩) (by simp; omega) (.slice x3 y3 z3))
  replace o2 := (ownsRow_setCell_below o2 (a := ⟨w.heap.size + 1 + 1, 4, none⟩) (by simp; omega) (.slice x3 y3 z3))
  replace o3 := (ownsRow_setCell_below o3 (a := ⟨w.heap.size + 1 + 1, 4, none⟩) (by simp; omega) (.slice x3 y3 z3))
  have hq2 : w2.heap.size ≤ (w2.setCell ⟨w.heap.size + 1 + 1, 4, none⟩ (.slice x3 y3 z3)).heap.size := by simp
  have hp2 : (w2.setCell ⟨w.heap.size + 1 + 1, 4, none⟩ (.slice x3 y3 z3)).heap.size ≤ w2.heap.size := by simp
  generalize w2.setCell ⟨w.heap.size + 1 + 1, 4, none⟩ (.slice x3 y3 z3) = W2 at *
  refine (toBoolS_any vh s.ha _ l4 (h4.below hB0)).mono ?_
  rintro e w3 ⟨v3, rfl, o4, hB3⟩
  replace o4 := Go.Joins.ownsRow_le o4 (Nat.le_trans hq1 (Nat.le_trans hs2 hq2))
  obtain ⟨x4, y4, z4, rfl⟩ := row_slice o4
  replace F1 := F1.below hB3
  replace F2 := F2.below hB3
  replace F3 := F3.below hB3
  replace o1 := ownsRow_below o1 hB3
  replace o2 := ownsRow_below o2 hB3
  replace o3 := ownsRow_below o3 hB3
  replace hB0 := below_one hB0 hB3
  have hs3 := hB3.size
  clear hB3
  obtain ⟨a0, a1, a2, a3, a4, a5, a6⟩ := F1.c
  obtain ⟨c0, c1, c2, c3, c4, c5, c6⟩ := F3.c
  have f5 := F3.f 5
  go_wp2_with fail
  clear a0 a1 a2 a3 a4 a5 a6 c0 c1 c2 c3 c4 c5 c6 f5
  replace F1 := (F1.other (k' := w.heap.size + 1 + 1) (by omega) 5 (.slice x4 y4 z4))
  replace F2 := (F2.other (k' := w.heap.size + 1 + 1) (by omega) 5 (.slice x4 y4 z4))
  replace F3 := (F3.s5 (.slice x4 y4 z4))
  replace hB0 := (hB0.setCell (p := ⟨w.heap.size + 1 + 1, 5, none⟩) (by simp; omega) (.slice x4 y4 z4))
  replace o1 := (ownsRow_setCell_below o1 (a := ⟨w.heap.size + 1 + 1, 5, none⟩) (by simp; omega) (.slice x4 y4 z4))
  replace o2 := (ownsRow_setCell_below o2 (a := ⟨w.heap.size + 1 + 1, 5, none⟩) (by simp; omega) (.slice x4 y4 z4))
  replace o3 := (ownsRow_setCell_below o3 (a := ⟨w.heap.size + 1 + 1, 5, none⟩) (by simp; omega) (.slice x4 y4 z4))
  replace o4 := (ownsRow_setCell_below o4 (a := ⟨w.heap.size + 1 + 1, 5, none⟩) (by simp; omega) (.slice x4 y4 z4))
  have hq3 : w3.heap.size ≤ (w3.setCell ⟨w.heap.size + 1 + 1, 5, none⟩ (.slice x4 y4 z4)).heap.size := by simp
  have hp3 : (w3.setCell ⟨w.heap.size + 1 + 1, 5, none⟩ (.slice x4 y4 z4)).heap.size ≤ w3.heap.size := by simp
  generalize w3.setCell ⟨w.heap.size + 1 + 1, 5, none⟩ (.slice x4 y4 z4) = W3x at *
  refine (toIntS_any vs s.se _ l5 (h5.below hB0)).mono ?_
  rintro e w4 ⟨v4, rfl, o5, hB4⟩
  replace o5 := Go.Joins.ownsRow_le o5 (Nat.le_trans hq1 (Nat.le_trans hs2 (Nat.le_trans hq2 (Nat.le_trans hs3 hq3))))
  obtain ⟨x5, y5, z5, rfl⟩ := row_slice o5
  replace F1 := F1.below hB4
  replace F2 := F2.below hB4
  replace F3 := F3.below hB4
  replace o1 := ownsRow_below o1 hB4
  replace o2 := ownsRow_below o2 hB4
  replace o3 := ownsRow_below o3 hB4
  replace o4 := ownsRow_below o4 hB4
  replace hB0 := below_one hB0 hB4
  have hs4 := hB4.size
  clear hB4
  obtain ⟨a0, a1, a2, a3, a4, a5, a6⟩ := F1.c
  obtain ⟨c0, c1, c2, c3, c4, c5, c6⟩ := F3.c
  have f6 := F3.f 6
  have G3 := F3.s6 (.slice x5 y5 z5)
  have G2 := F2.other (k' := w.heap.size + 1 + 1) (by omega) 6 (.slice x5 y5 z5)
  replace hB0 := hB0.setCell (p := ⟨w.heap.size + 1 + 1, 6, none⟩) (by simp; omega) (.slice x5 y5 z5)
  replace o1 := ownsRow_setCell_below o1 (a := ⟨w.heap.size + 1 + 1, 6, none⟩) (by simp; omega) (.slice x5 y5 z5)
  replace o2 := ownsRow_setCell_below o2 (a := ⟨w.heap.size + 1 + 1, 6, none⟩) (by simp; omega) (.slice x5 y5 z5)
  replace o3 := ownsRow_setCell_below o3 (a := ⟨w.heap.size + 1 + 1, 6, none⟩) (by simp; omega) (.slice x5 y5 z5)
  replace o4 := ownsRow_setCell_below o4 (a := ⟨w.heap.size + 1 + 1, 6, none⟩) (by simp; omega) (.slice x5 y5 z5)
  replace o5 := ownsRow_setCell_below o5 (a := ⟨w.heap.size + 1 + 1, 6, none⟩) (by simp; omega) (.slice x5 y5 z5)
  obtain ⟨m0, m1, m2, m3, m4, m5, m6⟩ := G3.c
  obtain ⟨r0, r1, r2, r3, r4, r5, r6⟩ := G2.c
  have g0 := G2.f 0
  have g1 := G2.f 1
  have g2 := G2.f 2
  have g3 := G2.f 3
  have g4 := G2.f 4
  have g5 := G2.f 5
  have g6 := G2.f 6
  have G := (((((((G2.s0 (.int .i64 s.fo.num)).s1 (.slice x1 s.fo.pol.length z1)).s2 (.slice x2 s.fo.rv.length z2)).s3 (.int .i64 s.co)).s4 (.slice x3 y3 z3)).s5 (.slice x4 y4 z4)).s6 (.slice x5 y5 z5))
  have p1 := row_seven o1 (k := w.heap.size + 1) (by omega) (.int .i64 s.fo.num) (.slice x1 s.fo.pol.length z1) (.slice x2 s.fo.rv.length z2) (.int .i64 s.co) (.slice x3 y3 z3) (.slice x4 y4 z4) (.slice x5 y5 z5)
  have p2 := row_seven o2 (k := w.heap.size + 1) (by omega) (.int .i64 s.fo.num) (.slice x1 s.fo.pol.length z1) (.slice x2 s.fo.rv.length z2) (.int .i64 s.co) (.slice x3 y3 z3) (.slice x4 y4 z4) (.slice x5 y5 z5)
  have p3 := row_seven o3 (k := w.heap.size + 1) (by omega) (.int .i64 s.fo.num) (.slice x1 s.fo.pol.length z1) (.slice x2 s.fo.rv.length z2) (.int .i64 s.co) (.slice x3 y3 z3) (.slice x4 y4 z4) (.slice x5 y5 z5)
  have p4 := row_seven o4 (k := w.heap.size + 1) (by omega) (.int .i64 s.fo.num) (.slice x1 s.fo.pol.length z1) (.slice x2 s.fo.rv.length z2) (.int .i64 s.co) (.slice x3 y3 z3) (.slice x4 y4 z4) (.slice x5 y5 z5)
  have p5 := row_seven o5 (k := w.heap.size + 1) (by omega) (.int .i64 s.fo.num) (.slice x1 s.fo.pol.length z1) (.slice x2 s.fo.rv.length z2) (.int .i64 s.co) (.slice x3 y3 z3) (.slice x4 y4 z4) (.slice x5 y5 z5)
  have pB := below_seven hB0 (k := w.heap.size + 1) (by omega) (.int .i64 s.fo.num) (.slice x1 s.fo.pol.length z1) (.slice x2 s.fo.rv.length z2) (.int .i64 s.co) (.slice x3 y3 z3) (.slice x4 y4 z4) (.slice x5 y5 z5)
  have hW0 : w.heap.size ≤ W0.heap.size := by omega
  have htp : ∀ k, w1.heap.size ≤ k → w1.heap.size ≤ k := fun _ h => h
  have hsE : w4.heap.size ≤ ((((((((w4.setCell ⟨w.heap.size + 1 + 1, 6, none⟩ (.slice x5 y5 z5)).setCell ⟨w.heap.size + 1, 0, none⟩ (.int .i64 s.fo.num)).setCell ⟨w.heap.size + 1, 1, none⟩ (.slice x1 s.fo.pol.length z1)).setCell ⟨w.heap.size + 1, 2, none⟩ (.slice x2 s.fo.rv.length z2)).setCell ⟨w.heap.size + 1, 3, none⟩ (.int .i64 s.co)).setCell ⟨w.heap.size + 1, 4, none⟩ (.slice x3 y3 z3)).setCell ⟨w.heap.size + 1, 5, none⟩ (.slice x4 y4 z4)).setCell ⟨w.heap.size + 1, 6, none⟩ (.slice x5 y5 z5)).heap.size := by simp
  have hm1 : w1.heap.size ≤ w4.heap.size := by omega
  clear F1 F2 F3 o1 o2 o3 o4 o5
  go_wp2_with fail
  clear a0 a1 a2 a3 a4 a5 a6 c0 c1 c2 c3 c4 c5 c6 f6 m0 m1 m2 m3 m4 m5 m6 r0 r1 r2 r3 r4 r5 r6 g0 g1 g2 g3 g4 g5 g6
  generalize (((((((w4.setCell ⟨w.heap.size + 1 + 1, 6, none⟩ (.slice x5 y5 z5)).setCell ⟨w.heap.size + 1, 0, none⟩ (.int .i64 s.fo.num)).setCell ⟨w.heap.size + 1, 1, none⟩ (.slice x1 s.fo.pol.length z1)).setCell ⟨w.heap.size + 1, 2, none⟩ (.slice x2 s.fo.rv.length z2)).setCell ⟨w.heap.size + 1, 3, none⟩ (.int .i64 s.co)).setCell ⟨w.heap.size + 1, 4, none⟩ (.slice x3 y3 z3)).setCell ⟨w.heap.size + 1, 5, none⟩ (.slice x4 y4 z4)).setCell ⟨w.heap.size + 1, 6, none⟩ (.slice x5 y5 z5) = W4 at *
  obtain ⟨d0, d1, d2, d3, d4, d5, d6⟩ := G.c
  exact bodyPost_ret (v := .agg #[.int .i64 s.fo.num, .slice x1 s.fo.pol.length z1, .slice x2 s.fo.rv.length z2, .int .i64 s.co, .slice x3 y3 z3, .slice x4 y4 z4, .slice x5 y5 z5]) (by simp [results, Tryz.results9, go_sem, d0, d1, d2, d3, d4, d5, d6]) rfl ⟨_, rfl, ⟨w1.heap.size, _, _, _, _, _, rfl, by omega, by omega, ⟨_, _, rfl, Go.Joins.ownsRow_le p1 hW0, Go.Joins.ownsRow_le p2 hW0, t1, t2⟩, p3, p4, p5, fun k hk => (p3.lt k hk).2, fun k hk => (p4.lt k hk).2, fun k hk => (p5.lt k hk).2⟩, pB⟩

/-- What lies in a side that was marked. -/
def mkSd (k : Nat) (s : Sd) : Sd := ⟨mkSn k s.fo, s.co, mkL (k + s.fo.many) s.ru.length, mkY (k + s.fo.many + 4 * s.ru.length) s.ha.length, mkN (k + s.fo.many + 4 * s.ru.length + s.ha.length) s.se.length⟩
def Sd.many (s : Sd) : Nat := s.fo.many + 4 * s.ru.length + s.ha.length + s.se.length

end Go.Proofs.YtnbojbcljfiamaaGreatDoor

namespace Go.Proofs.YtnbojbcljfiamaaGreatDoor
open Go.RowKit Go.Shelf

theorem insU_at {r : Ru} : ∀ (l : List Ru) (m : Nat), m ≤ l.length → (∀ j (h : j < l.length), j < m → ltR l[j] r = true) → (∀ h : m < l.length, ltR l[m] r = false) →
    insU r l = if (∃ h : m < l.length, l[m].same r = true) then l else l.take m ++ r :: l.drop m
  | [], m, hm, _, _ => by
    obtain rfl : m = 0 := by simpa using hm
    rw [if_neg (fun ⟨h, _⟩ => by simp at h)]
    rfl
  | x :: xs, 0, _, _, h2 => by
    have h3 := h2 (by simp)
    simp only [List.getElem_cons_zero] at h3
    unfold insU
    rw [if_neg (by rw [h3]; exact Bool.false_ne_true)]
    by_cases hs : x.same r = true
    · rw [if_pos hs, if_pos ⟨by simp, hs⟩]
    · rw [if_neg hs, if_neg (fun ⟨_, h⟩ => hs h)]
      rfl
  | x :: xs, m + 1, hm, h1, h2 => by
    have hx := h1 0 (by simp) (by omega)
    simp only [List.getElem_cons_zero] at hx
    have ih := insU_at xs m (by simpa using hm) (fun j h hj => by
      have := h1 (j + 1) (by simpa using h) (by omega)
      simpa using this) (fun h => by
      have := h2 (by simpa using h)
      simpa using this)
    unfold insU
    rw [if_pos hx, ih]
    by_cases hs : ∃ h : m < xs.length, xs[m].same r = true
    · rw [if_pos hs, if_pos]
      obtain ⟨h, hs⟩ := hs
      exact ⟨by simpa using h, by simpa using hs⟩
    · rw [if_neg hs, if_neg]
      · rfl
      · rintro ⟨h, h'⟩
        exact hs ⟨by simpa using h, by simpa using h'⟩
theorem ins_keep {r : Ru} {l : List Ru} {m : Nat} (hm : m < l.length) (h1 : ∀ j (h : j < l.length), j < m → ltR l[j] r = true) (h2 : ltR l[m] r = false) (hs : l[m].same r = true) : insU r l = l := by
  rw [insU_at l m (by omega) h1 (fun _ => h2), if_pos ⟨hm, hs⟩]
theorem ins_new {r : Ru} {l : List Ru} {m : Nat} (hm : m < l.length) (h1 : ∀ j (h : j < l.length), j < m → ltR l[j] r = true) (h2 : ltR l[m] r = false) (hs : l[m].same r = false) : insU r l = l.take m ++ r :: l.drop m := by
  rw [insU_at l m (by omega) h1 (fun _ => h2), if_neg (fun ⟨_, h⟩ => by rw [hs] at h; cases h)]
theorem ins_end {r : Ru} {l : List Ru} (h1 : ∀ j (h : j < l.length), j < l.length → ltR l[j] r = true) : insU r l = l.take l.length ++ r :: l.drop l.length := by
  rw [insU_at l l.length (Nat.le_refl _) h1 (fun h => absurd h (Nat.lt_irrefl _)), if_neg (fun ⟨h, _⟩ => absurd h (Nat.lt_irrefl _))]
theorem insU_len (r : Ru) : ∀ l : List Ru, (insU r l).length ≤ l.length + 1
  | [] => by simp [insU]
  | x :: xs => by
    have := insU_len r xs
    unfold insU
    split
    · simp only [List.length_cons]
      omega
    · split
      · simp
      · simp
theorem plTo_len {rs : List Ru} : ∀ k, k ≤ rs.length → (plTo rs k).length ≤ k
  | 0, _ => by simp [plTo]
  | k + 1, hk => by
    have ih := plTo_len k (rs := rs) (by omega)
    rw [plTo_succ (by omega)]
    have := insU_len rs[k] (plTo rs k)
    omega
theorem cells_one' {rs : List Ru} : ∀ u ∈ rs.flatMap Ru.cells, u.oneCell' = true := cells_one
theorem cell_four_new (w : World) (r : Ru) : ∀ j u, r.cells[j]? = some u → (w.alloc (.cells #[.bool r.deny, .string r.who, .string r.method, .string r.path] 122)).cell? ((⟨w.heap.size, 0, none⟩ : Addr).add j) = some u := by
  intro j u hu
  have hj : j < 4 := by have := (List.getElem?_eq_some_iff.1 hu).1; simpa using this
  obtain h | h | h | h : j = 0 ∨ j = 1 ∨ j = 2 ∨ j = 3 := by omega
  all_goals subst h
  all_goals simp at hu
  all_goals subst hu
  all_goals simp [Addr.add]
theorem row_take {w : World} {base g cap n m : Nat} {l : List Ru} (hrow : w.ownsRow base 122 4 (.slice (some ⟨g, 0, none⟩) n cap) n (l.flatMap Ru.cells)) (hm : m ≤ n) : ∀ j u, ((l.take m).flatMap Ru.cells)[j]? = some u → w.cell? ((⟨g, 0, none⟩ : Addr).add j) = some u := by
  intro j u hu
  rw [← flat_take] at hu
  have hj : j < m * 4 := by
    have := (List.getElem?_eq_some_iff.1 hu).1
    rw [List.length_take] at this
    omega
  rw [List.getElem?_take_of_lt hj] at hu
  rw [Addr.add_lit, Nat.zero_add, hrow.cellAt j (by omega)]
  exact hu
theorem flat_drop : ∀ (ys : List Ru) (k : Nat), (ys.flatMap Ru.cells).drop (k * 4) = (ys.drop k).flatMap Ru.cells
  | [], k => by simp
  | y :: ys, 0 => by simp
  | y :: ys, k + 1 => by
    rw [List.flatMap_cons, List.drop_succ_cons, ← flat_drop ys k, show (k + 1) * 4 = k * 4 + 4 by omega]
    rfl
theorem row_drop {w : World} {base g cap n m : Nat} {l : List Ru} (hrow : w.ownsRow base 122 4 (.slice (some ⟨g, 0, none⟩) n cap) n (l.flatMap Ru.cells)) (_hm : m ≤ n) : ∀ j u, ((l.drop m).flatMap Ru.cells)[j]? = some u → w.cell? ((⟨g, m * 4, none⟩ : Addr).add j) = some u := by
  intro j u hu
  rw [← flat_drop, List.getElem?_drop] at hu
  have hj : m * 4 + j < n * 4 := by
    have := (List.getElem?_eq_some_iff.1 hu).1
    rw [hrow.1] at this
    exact this
  rw [Addr.add_lit, hrow.cellAt (m * 4 + j) hj]
  exact hu
theorem below_draws1 (w : World) (q : Nat) : Below w.heap.size w (w.drewN q) := below_drewN (Below.refl _ _) q

set_option maxHeartbeats 4000000 in
set_option maxRecDepth 100000 in
theorem l2PlainW_any (v : Value) (rs : List Ru) (w : World) (hm : rs.length ≤ 64) (hf : ∀ r ∈ rs, r.size ≤ 1048576) (hr : RuS w v rs) :
    Calls Tryz.prog 96 #[v] w fun e w' => ∃ v', e = .returned v' ∧ w'.ownsRow w.heap.size 122 4 v' (plTo rs rs.length).length ((plTo rs rs.length).flatMap Ru.cells) ∧ Below w.heap.size w w' := by
  obtain ⟨a, cap, rfl⟩ := hr.len
  obtain ⟨i0, hi, hz0, hz1, hz2⟩ := info_parts infoRule
  go_enter Tryz.func96, Tryz.ntmps96
  go_wp2
  go_loopw [3, 10] (fun out i wr => ∃ k : Nat, k ≤ rs.length ∧ i = .int .i64 k ∧ wr.ownsRow w.heap.size 122 4 out (plTo rs k).length ((plTo rs k).flatMap Ru.cells) ∧ Below w.heap.size w wr) (fun _ i _ => rs.length - (intOf i).toNat)
  case atStart => exact ⟨0, Nat.zero_le _, rfl, World.ownsRow_nil _ _ _ _, Below.refl _ _⟩
  case round =>
    obtain ⟨k, hk, rfl, hrow, hB⟩ := hrel
    by_cases hlt : k < rs.length
    · obtain ⟨b, off, rfl, hb, hcap, y0, y1, y2, y3⟩ := (hr.below hB).at hlt
      have hzr := hf rs[k] (List.getElem_mem hlt)
      have hll := plTo_len k hk
      have hfl : ∀ x ∈ plTo rs k, x.size ≤ 1048576 := fun x hx => hf x (List.mem_of_mem_take ((plTo_mem k hk x).1 hx))
      have HSU := hid (plTo_succ hlt)
      have hlim : (plTo rs k).length ≤ 64 := by omega
      generalize plTo rs k = l at *
      generalize rs[k] = r at *
      have hBw : Below wr.heap.size wr (wr.alloc (.cells #[.bool r.deny, .string r.who, .string r.method, .string r.path] 122)) := (Below.refl _ wr).alloc (Nat.le_refl _) _
      have c0 : (wr.alloc (.cells #[.bool r.deny, .string r.who, .string r.method, .string r.path] 122)).cell? ⟨wr.heap.size, 0, none⟩ = some (.bool r.deny) := by simp
      have c1 : (wr.alloc (.cells #[.bool r.deny, .string r.who, .string r.method, .string r.path] 122)).cell? ⟨wr.heap.size, 1, none⟩ = some (.string r.who) := by simp
      have c2 : (wr.alloc (.cells #[.bool r.deny, .string r.who, .string r.method, .string r.path] 122)).cell? ⟨wr.heap.size, 2, none⟩ = some (.string r.method) := by simp
      have c3 : (wr.alloc (.cells #[.bool r.deny, .string r.who, .string r.method, .string r.path] 122)).cell? ⟨wr.heap.size, 3, none⟩ = some (.string r.path) := by simp
      have hzW : wr.heap.size < (wr.alloc (.cells #[.bool r.deny, .string r.who, .string r.method, .string r.path] 122)).heap.size := by simp
      have hrowW := ownsRow_below hrow hBw
      have hBW := below_one hB hBw
      rcases row_form hrow with ⟨rfl, hl0⟩ | ⟨g, capo, rfl, hg, hcapo⟩
      · obtain rfl : l = [] := List.eq_nil_of_length_eq_zero hl0
        go_wp2
        generalize (wr.alloc (.cells #[.bool r.deny, .string r.who, .string r.method, .string r.path] 122)) = W0 at *
        clear y0 y1 y2 y3 hrow hB hBw
        generalize wr.heap.size = bx at *
        refine wp_loop_rounds 1 ?_
        rw [rounds_succ]
        go_wp2_with fail
        go_quiet (fail)
        go_wp2_with fail
        replace hBW := below_drewN hBW nq
        replace c0 : (W0.drewN nq).cell? _ = _ := c0
        replace c1 : (W0.drewN nq).cell? _ = _ := c1
        replace c2 : (W0.drewN nq).cell? _ = _ := c2
        replace c3 : (W0.drewN nq).cell? _ = _ := c3
        clear hrowW hzW
        generalize W0.drewN nq = W1 at *
        go_quiet (fail)
        replace hBW := below_drewN hBW nq
        replace c0 : (W1.drewN nq).cell? _ = _ := c0
        replace c1 : (W1.drewN nq).cell? _ = _ := c1
        replace c2 : (W1.drewN nq).cell? _ = _ := c2
        replace c3 : (W1.drewN nq).cell? _ = _ := c3
        generalize W1.drewN nq = Wc at *
        have HIN := hid (show plTo rs (k + 1) = [r] by rw [HSU.out]; rfl)
        go_wp2_with (at_builtin; refine wpList_append_own _ rfl _ _ 38 rfl Wc.heap.size 122 i0 _ 4 56 Tryz.underlying38 hi hz0 hz1 hz2 rfl (by decide) _ _ _ rfl ((World.ownsRow_nil Wc Wc.heap.size 122 4).alloc _) ⟨Wc.heap.size, 0, none⟩ 1 1 r.cells rfl rfl (cell_four_new _ r) (by intro u hu; simp at hu; rcases hu with rfl | rfl | rfl | rfl <;> rfl) (by unfold maxLen; omega) (by omega) (by simp) ?_)
        intro v2 w2 hown2 hgrow2 _
        have hb2 : Below Wc.heap.size Wc w2 := below_appended (Nat.le_refl _) (World.ownsRow_nil Wc Wc.heap.size 122 4) hgrow2
        rcases row_form hown2 with ⟨_, h'⟩ | ⟨g2, cp2, rfl, _, hcp⟩
        · exact absurd h' (by omega)
        · clear c0 c1 c2 c3 hgrow2
          go_wp2
          go_roundw
          case rel => exact ⟨k + 1, by omega, by go_num, by rw [HIN.out]; exact Go.Joins.ownsRow_le hown2 hBW.size, below_one hBW hb2⟩
          case measure => simp [intOf]; omega
      · go_wp2
        generalize (wr.alloc (.cells #[.bool r.deny, .string r.who, .string r.method, .string r.path] 122)) = W0 at *
        clear y0 y1 y2 y3 hrow hB hBw
        generalize wr.heap.size = bx at *
        go_loopw [6] (fun i wq => ∃ m : Nat, m ≤ l.length ∧ i = .int .i64 m ∧ (∀ j (h : j < l.length), j < m → ltR l[j] r = true) ∧ Below W0.heap.size W0 wq) (fun i _ => l.length - (intOf i).toNat)
        case atStart => exact ⟨0, Nat.zero_le _, rfl, fun _ _ h => absurd h (Nat.not_lt_zero _), Below.refl _ _⟩
        case round =>
          obtain ⟨m, hml, rfl, hlts, hBq⟩ := hrel
          have HL := hid hlts
          clear hlts
          have hrowq := ownsRow_below hrowW hBq
          have b0 := (hBq.cell (p := ⟨bx, 0, none⟩) hzW).trans c0
          have b1 := (hBq.cell (p := ⟨bx, 1, none⟩) hzW).trans c1
          have b2 := (hBq.cell (p := ⟨bx, 2, none⟩) hzW).trans c2
          have b3 := (hBq.cell (p := ⟨bx, 3, none⟩) hzW).trans c3
          have hzq := Nat.lt_of_lt_of_le hzW hBq.size
          by_cases hlm : m < l.length
          · have dm : decide ((m : Int) < (l.length : Int)) = true := by simp; omega
            have hX := hfl l[m] (List.getElem_mem hlm)
            obtain ⟨x0, x1, x2, x3⟩ := row_ru hrowq hlm rfl _ rfl
            have hgq : g < wr.heap.size := cell_lt x0
            have HST := hid (fun (h : ltR l[m] r = true) => (fun j (hj : j < l.length) (hjm : j < m + 1) => (show ltR l[j] r = true by
              by_cases e : j = m
              · subst e
                exact h
              · exact HL.out j hj (by omega)) : ∀ j (hj : j < l.length), j < m + 1 → ltR l[j] r = true))
            have HKE := hid (fun h2 hs => ins_keep (r := r) hlm HL.out h2 hs)
            have HNE := hid (fun h2 hs => ins_new (r := r) hlm HL.out h2 hs)
            generalize l[m] = x at *
            cases ht : ltR x r
            · have et : Op.bytesLess x.text.toList r.text.toList = false := by rw [toList_data, toList_data]; exact ht
              have hse := eql_ru x r
              cases hsm : x.same r
              · have HIN := hid (show plTo rs (k + 1) = l.take m ++ r :: l.drop m by rw [HSU.out]; exact HNE.out ht hsm)
                rw [hsm] at hse
                have hM1 : True := trivial
                go_wp2_with fail
                go_region_held3 (fun w' => w'.cell? ⟨g, m * 4, none⟩ = some (.bool x.deny) ∧ w'.cell? ⟨g, m * 4 + 1, none⟩ = some (.string x.who) ∧ w'.cell? ⟨g, m * 4 + 2, none⟩ = some (.string x.method) ∧ w'.cell? ⟨g, m * 4 + 3, none⟩ = some (.string x.path) ∧ w'.cell? ⟨bx, 0, none⟩ = some (.bool r.deny) ∧ w'.cell? ⟨bx, 1, none⟩ = some (.string r.who) ∧ w'.cell? ⟨bx, 2, none⟩ = some (.string r.method) ∧ w'.cell? ⟨bx, 3, none⟩ = some (.string r.path)) (go_keep) (first | (go_at_call 130; clear hM1; refine (l2Text_any x _ hX).mono ?_; rintro e v1 ⟨rfl, hB1⟩; have x0_1 := (hB1.cell (p := ⟨g, m * 4, none⟩) (by exact hgq)).trans (by exact x0); have x1_1 := (hB1.cell (p := ⟨g, m * 4 + 1, none⟩) (by exact hgq)).trans (by exact x1); have x2_1 := (hB1.cell (p := ⟨g, m * 4 + 2, none⟩) (by exact hgq)).trans (by exact x2); have x3_1 := (hB1.cell (p := ⟨g, m * 4 + 3, none⟩) (by exact hgq)).trans (by exact x3); have b0_1 := (hB1.cell (p := ⟨bx, 0, none⟩) (by exact hzq)).trans (by exact b0); have b1_1 := (hB1.cell (p := ⟨bx, 1, none⟩) (by exact hzq)).trans (by exact b1); have b2_1 := (hB1.cell (p := ⟨bx, 2, none⟩) (by exact hzq)).trans (by exact b2); have b3_1 := (hB1.cell (p := ⟨bx, 3, none⟩) (by exact hzq)).trans (by exact b3); have hgq1 := Nat.lt_of_lt_of_le hgq hB1.size; have hzq1 := Nat.lt_of_lt_of_le hzq hB1.size) | (go_at_call 130; refine (l2Text_any r _ hzr).mono ?_; rintro e v2 ⟨rfl, hB2⟩; have x0_2 := (hB2.cell (p := ⟨g, m * 4, none⟩) (by exact hgq1)).trans (by exact x0_1); have x1_2 := (hB2.cell (p := ⟨g, m * 4 + 1, none⟩) (by exact hgq1)).trans (by exact x1_1); have x2_2 := (hB2.cell (p := ⟨g, m * 4 + 2, none⟩) (by exact hgq1)).trans (by exact x2_1); have x3_2 := (hB2.cell (p := ⟨g, m * 4 + 3, none⟩) (by exact hgq1)).trans (by exact x3_1); have b0_2 := (hB2.cell (p := ⟨bx, 0, none⟩) (by exact hzq1)).trans (by exact b0_1); have b1_2 := (hB2.cell (p := ⟨bx, 1, none⟩) (by exact hzq1)).trans (by exact b1_1); have b2_2 := (hB2.cell (p := ⟨bx, 2, none⟩) (by exact hzq1)).trans (by exact b2_1); have b3_2 := (hB2.cell (p := ⟨bx, 3, none⟩) (by exact hzq1)).trans (by exact b3_1); have hgq2 := Nat.lt_of_lt_of_le hgq1 hB2.size; have hzq2 := Nat.lt_of_lt_of_le hzq1 hB2.size))
                have hBq2 := below_one (below_one hBq (below_drew1 hB1)) hB2
                clear hB1 hB2 x0_1 b0_1 x0 b0 x1_1 b1_1 x1 b1 x2_1 b2_1 x2 b2 x3_1 b3_1 x3 b3
                go_wp2_with fail
                go_quiet (fail)
                replace hBq2 := below_drewN hBq2 nq
                replace b0_2 : (v2.drewN nq).cell? _ = _ := b0_2
                replace b1_2 : (v2.drewN nq).cell? _ = _ := b1_2
                replace b2_2 : (v2.drewN nq).cell? _ = _ := b2_2
                replace b3_2 : (v2.drewN nq).cell? _ = _ := b3_2
                replace hzq2 : bx < (v2.drewN nq).heap.size := hzq2
                clear x0_2 x1_2 x2_2 x3_2 hgq2
                generalize v2.drewN nq = Wc at *
                have hrowc := ownsRow_below hrowW hBq2
                have hBc := below_one hBW hBq2
                have b0 := b0_2
                have b1 := b1_2
                have b2 := b2_2
                have b3 := b3_2
                have hzc := hzq2
                clear b0_2 b1_2 b2_2 b3_2 hzq2 hrowq hBq2 hBq
                have hn1 : ((l.take m).flatMap Ru.cells).length = m * 4 := by rw [flat_len, List.length_take]; omega
                have hn2 : ((l.drop m).flatMap Ru.cells).length = (l.length - m) * 4 := by rw [flat_len, List.length_drop]
                have hc1 : ∀ j u, ((l.take m).flatMap Ru.cells)[j]? = some u → Wc.cell? ((⟨g, 0, none⟩ : Addr).add j) = some u := row_take hrowc (by omega)
                go_wp2_with (at_builtin; refine wpList_append_own _ rfl _ _ 38 rfl Wc.heap.size 122 i0 _ 4 56 Tryz.underlying38 hi hz0 hz1 hz2 rfl (by decide) _ _ _ rfl (World.ownsRow_nil Wc Wc.heap.size 122 4) ⟨g, 0, none⟩ m _ ((l.take m).flatMap Ru.cells) rfl hn1 hc1 cells_one' (by unfold maxLen; omega) (by omega) (Nat.le_refl _) ?_)
                intro v1 w1 hown1 hgrow1 _
                have hb1 : Below Wc.heap.size Wc w1 := (Below.refl _ Wc).grown hgrow1 (Nat.le_refl _) (fun k hk => by cases hk)
                have q0 := (hb1.cell (p := ⟨bx, 0, none⟩) hzc).trans b0
                have q1 := (hb1.cell (p := ⟨bx, 1, none⟩) hzc).trans b1
                have q2 := (hb1.cell (p := ⟨bx, 2, none⟩) hzc).trans b2
                have q3 := (hb1.cell (p := ⟨bx, 3, none⟩) hzc).trans b3
                have hz1c := hb1.size
                obtain ⟨a1, cp1, rfl⟩ := ownsRow_len hown1
                clear hc1 b0 b1 b2 b3 hgrow1
                go_wp2_with (at_builtin; refine wpList_append_own _ rfl _ _ 38 rfl Wc.heap.size 122 i0 _ 4 56 Tryz.underlying38 hi hz0 hz1 hz2 rfl (by decide) _ _ _ rfl (hown1.alloc _) ⟨w1.heap.size, 0, none⟩ 1 1 r.cells rfl rfl (cell_four_new _ r) (by intro u hu; simp at hu; rcases hu with rfl | rfl | rfl | rfl <;> rfl) (by unfold maxLen; omega) (by omega) (by simp; omega) ?_)
                intro v2 w2 hown2 hgrow2 _
                have hb2 : Below Wc.heap.size Wc w2 := hb1.trans (below_appended hz1c hown1 hgrow2)
                have hz2c := hb2.size
                have hrow2 := ownsRow_below hrowc hb2
                have hc2 : ∀ j u, ((l.drop m).flatMap Ru.cells)[j]? = some u → w2.cell? ((⟨g, m * 4, none⟩ : Addr).add j) = some u := row_drop hrow2 (by omega)
                obtain ⟨a2, cp2, rfl⟩ := ownsRow_len hown2
                clear q0 q1 q2 q3 hgrow2 hown1
                go_wp2_with (at_builtin; refine wpList_append_own _ rfl _ _ 38 rfl Wc.heap.size 122 i0 _ 4 56 Tryz.underlying38 hi hz0 hz1 hz2 rfl (by decide) _ _ _ rfl hown2 ⟨g, m * 4, none⟩ (l.length - m) (capo - m) ((l.drop m).flatMap Ru.cells) rfl hn2 hc2 cells_one' (by unfold maxLen; omega) (by omega) hz2c ?_)
                intro v3 w3 hown3 hgrow3 _
                have hb3 : Below Wc.heap.size Wc w3 := hb2.grown hgrow3 hz2c (fun k hk => (hown2.lt k hk).1)
                have HO := hid hown3
                obtain ⟨a3, cp3, rfl⟩ := ownsRow_len hown3
                clear hown3 hown2 hgrow3 hc2 hn1 hn2
                go_wp2
                go_roundw
                case rel =>
                  refine ⟨k + 1, by omega, by go_num, ?_, below_one hBc hb3⟩
                  rw [HIN.out]
                  have h3 := Go.Joins.ownsRow_le HO.out hBc.size
                  have hl3 : (l.take m ++ r :: l.drop m).length = m + 1 + (l.length - m) := by rw [List.length_append, List.length_take, List.length_cons, List.length_drop]; omega
                  rw [hl3]
                  have hf3 : (l.take m ++ r :: l.drop m).flatMap Ru.cells = (l.take m).flatMap Ru.cells ++ .bool r.deny :: .string r.who :: .string r.method :: .string r.path :: (l.drop m).flatMap Ru.cells := by rw [List.flatMap_append, List.flatMap_cons]; rfl
                  rw [hf3]
                  exact h3
                case measure => simp [intOf]; omega
              · have HIN := hid (show plTo rs (k + 1) = l by rw [HSU.out]; exact HKE.out ht hsm)
                rw [hsm] at hse
                have hM1 : True := trivial
                go_wp2_with fail
                go_region_held3 (fun w' => w'.cell? ⟨g, m * 4, none⟩ = some (.bool x.deny) ∧ w'.cell? ⟨g, m * 4 + 1, none⟩ = some (.string x.who) ∧ w'.cell? ⟨g, m * 4 + 2, none⟩ = some (.string x.method) ∧ w'.cell? ⟨g, m * 4 + 3, none⟩ = some (.string x.path) ∧ w'.cell? ⟨bx, 0, none⟩ = some (.bool r.deny) ∧ w'.cell? ⟨bx, 1, none⟩ = some (.string r.who) ∧ w'.cell? ⟨bx, 2, none⟩ = some (.string r.method) ∧ w'.cell? ⟨bx, 3, none⟩ = some (.string r.path)) (go_keep) (first | (go_at_call 130; clear hM1; refine (l2Text_any x _ hX).mono ?_; rintro e v1 ⟨rfl, hB1⟩; have x0_1 := (hB1.cell (p := ⟨g, m * 4, none⟩) (by exact hgq)).trans (by exact x0); have x1_1 := (hB1.cell (p := ⟨g, m * 4 + 1, none⟩) (by exact hgq)).trans (by exact x1); have x2_1 := (hB1.cell (p := ⟨g, m * 4 + 2, none⟩) (by exact hgq)).trans (by exact x2); have x3_1 := (hB1.cell (p := ⟨g, m * 4 + 3, none⟩) (by exact hgq)).trans (by exact x3); have b0_1 := (hB1.cell (p := ⟨bx, 0, none⟩) (by exact hzq)).trans (by exact b0); have b1_1 := (hB1.cell (p := ⟨bx, 1, none⟩) (by exact hzq)).trans (by exact b1); have b2_1 := (hB1.cell (p := ⟨bx, 2, none⟩) (by exact hzq)).trans (by exact b2); have b3_1 := (hB1.cell (p := ⟨bx, 3, none⟩) (by exact hzq)).trans (by exact b3); have hgq1 := Nat.lt_of_lt_of_le hgq hB1.size; have hzq1 := Nat.lt_of_lt_of_le hzq hB1.size) | (go_at_call 130; refine (l2Text_any r _ hzr).mono ?_; rintro e v2 ⟨rfl, hB2⟩; have x0_2 := (hB2.cell (p := ⟨g, m * 4, none⟩) (by exact hgq1)).trans (by exact x0_1); have x1_2 := (hB2.cell (p := ⟨g, m * 4 + 1, none⟩) (by exact hgq1)).trans (by exact x1_1); have x2_2 := (hB2.cell (p := ⟨g, m * 4 + 2, none⟩) (by exact hgq1)).trans (by exact x2_1); have x3_2 := (hB2.cell (p := ⟨g, m * 4 + 3, none⟩) (by exact hgq1)).trans (by exact x3_1); have b0_2 := (hB2.cell (p := ⟨bx, 0, none⟩) (by exact hzq1)).trans (by exact b0_1); have b1_2 := (hB2.cell (p := ⟨bx, 1, none⟩) (by exact hzq1)).trans (by exact b1_1); have b2_2 := (hB2.cell (p := ⟨bx, 2, none⟩) (by exact hzq1)).trans (by exact b2_1); have b3_2 := (hB2.cell (p := ⟨bx, 3, none⟩) (by exact hzq1)).trans (by exact b3_1); have hgq2 := Nat.lt_of_lt_of_le hgq1 hB2.size; have hzq2 := Nat.lt_of_lt_of_le hzq1 hB2.size))
                have hBq2 := below_one (below_one hBq (below_drew1 hB1)) hB2
                clear hB1 hB2 x0_1 b0_1 x0 b0 x1_1 b1_1 x1 b1 x2_1 b2_1 x2 b2 x3_1 b3_1 x3 b3
                go_wp2_with fail
                have hrow2 := ownsRow_below hrowW hBq2
                go_quiet (fail)
                go_wp2
                go_roundw
                case rel => exact ⟨k + 1, by omega, by go_num, by rw [HIN.out]; exact row_draws hrow2 _, below_drewN (below_one hBW hBq2) _⟩
                case measure => simp [intOf]; omega
            · have et : Op.bytesLess x.text.toList r.text.toList = true := by rw [toList_data, toList_data]; exact ht
              have HS1 := hid (HST.out ht)
              have hM1 : True := trivial
              go_wp2_with fail
              go_region_held3 (fun w' => w'.cell? ⟨g, m * 4, none⟩ = some (.bool x.deny) ∧ w'.cell? ⟨g, m * 4 + 1, none⟩ = some (.string x.who) ∧ w'.cell? ⟨g, m * 4 + 2, none⟩ = some (.string x.method) ∧ w'.cell? ⟨g, m * 4 + 3, none⟩ = some (.string x.path) ∧ w'.cell? ⟨bx, 0, none⟩ = some (.bool r.deny) ∧ w'.cell? ⟨bx, 1, none⟩ = some (.string r.who) ∧ w'.cell? ⟨bx, 2, none⟩ = some (.string r.method) ∧ w'.cell? ⟨bx, 3, none⟩ = some (.string r.path)) (go_keep) (first | (go_at_call 130; clear hM1; refine (l2Text_any x _ hX).mono ?_; rintro e v1 ⟨rfl, hB1⟩; have x0_1 := (hB1.cell (p := ⟨g, m * 4, none⟩) (by exact hgq)).trans (by exact x0); have x1_1 := (hB1.cell (p := ⟨g, m * 4 + 1, none⟩) (by exact hgq)).trans (by exact x1); have x2_1 := (hB1.cell (p := ⟨g, m * 4 + 2, none⟩) (by exact hgq)).trans (by exact x2); have x3_1 := (hB1.cell (p := ⟨g, m * 4 + 3, none⟩) (by exact hgq)).trans (by exact x3); have b0_1 := (hB1.cell (p := ⟨bx, 0, none⟩) (by exact hzq)).trans (by exact b0); have b1_1 := (hB1.cell (p := ⟨bx, 1, none⟩) (by exact hzq)).trans (by exact b1); have b2_1 := (hB1.cell (p := ⟨bx, 2, none⟩) (by exact hzq)).trans (by exact b2); have b3_1 := (hB1.cell (p := ⟨bx, 3, none⟩) (by exact hzq)).trans (by exact b3); have hgq1 := Nat.lt_of_lt_of_le hgq hB1.size; have hzq1 := Nat.lt_of_lt_of_le hzq hB1.size) | (go_at_call 130; refine (l2Text_any r _ hzr).mono ?_; rintro e v2 ⟨rfl, hB2⟩; have x0_2 := (hB2.cell (p := ⟨g, m * 4, none⟩) (by exact hgq1)).trans (by exact x0_1); have x1_2 := (hB2.cell (p := ⟨g, m * 4 + 1, none⟩) (by exact hgq1)).trans (by exact x1_1); have x2_2 := (hB2.cell (p := ⟨g, m * 4 + 2, none⟩) (by exact hgq1)).trans (by exact x2_1); have x3_2 := (hB2.cell (p := ⟨g, m * 4 + 3, none⟩) (by exact hgq1)).trans (by exact x3_1); have b0_2 := (hB2.cell (p := ⟨bx, 0, none⟩) (by exact hzq1)).trans (by exact b0_1); have b1_2 := (hB2.cell (p := ⟨bx, 1, none⟩) (by exact hzq1)).trans (by exact b1_1); have b2_2 := (hB2.cell (p := ⟨bx, 2, none⟩) (by exact hzq1)).trans (by exact b2_1); have b3_2 := (hB2.cell (p := ⟨bx, 3, none⟩) (by exact hzq1)).trans (by exact b3_1); have hgq2 := Nat.lt_of_lt_of_le hgq1 hB2.size; have hzq2 := Nat.lt_of_lt_of_le hzq1 hB2.size))
              have hBq2 := below_one (below_one hBq (below_drew1 hB1)) hB2
              clear hB1 hB2 x0_1 b0_1 x0 b0 x1_1 b1_1 x1 b1 x2_1 b2_1 x2 b2 x3_1 b3_1 x3 b3
              go_wp2
              go_roundw
              case rel => first | exact ⟨m + 1, by omega, by go_num, HS1.out, hBq2⟩ | ((repeat apply Exists.intro); exact ⟨⟨m + 1, by omega, by go_num, HS1.out, hBq2⟩, rfl⟩)
              case measure => simp [intOf]; omega
          · have HME := hid (show m = l.length by omega)
            have dm : decide ((m : Int) < (l.length : Int)) = false := by simp; omega
            have HIN := hid (show plTo rs (k + 1) = l.take m ++ r :: l.drop m by
              rw [HSU.out, HME.out]
              exact ins_end (fun j hj _ => HL.out j hj (by have := HME.out; omega)))
            go_wp2_with fail
            go_quiet (fail)
            go_wp2_with fail
            replace hBq := below_drewN hBq nq
            replace b0 : (wr.drewN nq).cell? _ = _ := b0
            replace b1 : (wr.drewN nq).cell? _ = _ := b1
            replace b2 : (wr.drewN nq).cell? _ = _ := b2
            replace b3 : (wr.drewN nq).cell? _ = _ := b3
            replace hzq : bx < (wr.drewN nq).heap.size := hzq
            clear hrowq
            generalize wr.drewN nq = Wb at *
            go_quiet (fail)
            replace hBq := below_drewN hBq nq
            replace b0 : (Wb.drewN nq).cell? _ = _ := b0
            replace b1 : (Wb.drewN nq).cell? _ = _ := b1
            replace b2 : (Wb.drewN nq).cell? _ = _ := b2
            replace b3 : (Wb.drewN nq).cell? _ = _ := b3
            replace hzq : bx < (Wb.drewN nq).heap.size := hzq
            generalize Wb.drewN nq = Wc at *
            have hrowc := ownsRow_below hrowW hBq
            have hBc := below_one hBW hBq
            have hzc := hzq
            clear hBq hzq
            by_cases hcm : capo = m
            ·
              have hn1 : ((l.take m).flatMap Ru.cells).length = m * 4 := by rw [flat_len, List.length_take]; omega
              have hn2 : ((l.drop m).flatMap Ru.cells).length = (l.length - m) * 4 := by rw [flat_len, List.length_drop]
              have hc1 : ∀ j u, ((l.take m).flatMap Ru.cells)[j]? = some u → Wc.cell? ((⟨g, 0, none⟩ : Addr).add j) = some u := row_take hrowc (by omega)
              go_wp2_with (at_builtin; refine wpList_append_own _ rfl _ _ 38 rfl Wc.heap.size 122 i0 _ 4 56 Tryz.underlying38 hi hz0 hz1 hz2 rfl (by decide) _ _ _ rfl (World.ownsRow_nil Wc Wc.heap.size 122 4) ⟨g, 0, none⟩ m _ ((l.take m).flatMap Ru.cells) rfl hn1 hc1 cells_one' (by unfold maxLen; omega) (by omega) (Nat.le_refl _) ?_)
              intro v1 w1 hown1 hgrow1 _
              have hb1 : Below Wc.heap.size Wc w1 := (Below.refl _ Wc).grown hgrow1 (Nat.le_refl _) (fun k hk => by cases hk)
              have q0 := (hb1.cell (p := ⟨bx, 0, none⟩) hzc).trans b0
              have q1 := (hb1.cell (p := ⟨bx, 1, none⟩) hzc).trans b1
              have q2 := (hb1.cell (p := ⟨bx, 2, none⟩) hzc).trans b2
              have q3 := (hb1.cell (p := ⟨bx, 3, none⟩) hzc).trans b3
              have hz1c := hb1.size
              obtain ⟨a1, cp1, rfl⟩ := ownsRow_len hown1
              clear hc1 b0 b1 b2 b3 hgrow1
              go_wp2_with (at_builtin; refine wpList_append_own _ rfl _ _ 38 rfl Wc.heap.size 122 i0 _ 4 56 Tryz.underlying38 hi hz0 hz1 hz2 rfl (by decide) _ _ _ rfl (hown1.alloc _) ⟨w1.heap.size, 0, none⟩ 1 1 r.cells rfl rfl (cell_four_new _ r) (by intro u hu; simp at hu; rcases hu with rfl | rfl | rfl | rfl <;> rfl) (by unfold maxLen; omega) (by omega) (by simp; omega) ?_)
              intro v2 w2 hown2 hgrow2 _
              have hb2 : Below Wc.heap.size Wc w2 := hb1.trans (below_appended hz1c hown1 hgrow2)
              have hz2c := hb2.size
              have hrow2 := ownsRow_below hrowc hb2
              obtain ⟨a2, cp2, rfl⟩ := ownsRow_len hown2
              clear q0 q1 q2 q3 hgrow2 hown1
              go_wp2_with (at_builtin; refine wpList_append_own _ rfl _ _ 38 rfl Wc.heap.size 122 i0 _ 4 56 Tryz.underlying38 hi hz0 hz1 hz2 rfl (by decide) _ _ _ rfl hown2 _ (l.length - m) _ [] rfl (by have := HME.out; simp; omega) (fun j u h => by cases h) (fun u h => by cases h) (by unfold maxLen; omega) (by omega) hz2c ?_)
              all_goals intro v3 w3 hown3 hgrow3 _
              all_goals have hb3 : Below Wc.heap.size Wc w3 := hb2.grown hgrow3 hz2c (fun k hk => (hown2.lt k hk).1)
              all_goals have HO := hid hown3
              all_goals obtain ⟨a3, cp3, rfl⟩ := ownsRow_len hown3
              all_goals clear hown3 hown2 hgrow3 hn1 hn2
              all_goals go_wp2
              all_goals go_roundw
              all_goals first
                | (simp [intOf]; omega)
                | (refine ⟨k + 1, by omega, by go_num, ?_, below_one hBc hb3⟩
                   rw [HIN.out]
                   have h3 := Go.Joins.ownsRow_le HO.out hBc.size
                   have hl3 : (l.take m ++ r :: l.drop m).length = m + 1 + (l.length - m) := by rw [List.length_append, List.length_take, List.length_cons, List.length_drop]; omega
                   rw [hl3]
                   have hd3 : l.drop m = [] := List.drop_eq_nil_of_le (by have := HME.out; omega)
                   have hf3 : (l.take m ++ r :: l.drop m).flatMap Ru.cells = (l.take m).flatMap Ru.cells ++ r.cells := by rw [hd3, List.flatMap_append, List.flatMap_cons]; rfl
                   rw [hf3]
                   first | exact h3 | simpa using h3)
            ·
              have hn1 : ((l.take m).flatMap Ru.cells).length = m * 4 := by rw [flat_len, List.length_take]; omega
              have hn2 : ((l.drop m).flatMap Ru.cells).length = (l.length - m) * 4 := by rw [flat_len, List.length_drop]
              have hc1 : ∀ j u, ((l.take m).flatMap Ru.cells)[j]? = some u → Wc.cell? ((⟨g, 0, none⟩ : Addr).add j) = some u := row_take hrowc (by omega)
              go_wp2_with (at_builtin; refine wpList_append_own _ rfl _ _ 38 rfl Wc.heap.size 122 i0 _ 4 56 Tryz.underlying38 hi hz0 hz1 hz2 rfl (by decide) _ _ _ rfl (World.ownsRow_nil Wc Wc.heap.size 122 4) ⟨g, 0, none⟩ m _ ((l.take m).flatMap Ru.cells) rfl hn1 hc1 cells_one' (by unfold maxLen; omega) (by omega) (Nat.le_refl _) ?_)
              intro v1 w1 hown1 hgrow1 _
              have hb1 : Below Wc.heap.size Wc w1 := (Below.refl _ Wc).grown hgrow1 (Nat.le_refl _) (fun k hk => by cases hk)
              have q0 := (hb1.cell (p := ⟨bx, 0, none⟩) hzc).trans b0
              have q1 := (hb1.cell (p := ⟨bx, 1, none⟩) hzc).trans b1
              have q2 := (hb1.cell (p := ⟨bx, 2, none⟩) hzc).trans b2
              have q3 := (hb1.cell (p := ⟨bx, 3, none⟩) hzc).trans b3
              have hz1c := hb1.size
              obtain ⟨a1, cp1, rfl⟩ := ownsRow_len hown1
              clear hc1 b0 b1 b2 b3 hgrow1
              go_wp2_with (at_builtin; refine wpList_append_own _ rfl _ _ 38 rfl Wc.heap.size 122 i0 _ 4 56 Tryz.underlying38 hi hz0 hz1 hz2 rfl (by decide) _ _ _ rfl (hown1.alloc _) ⟨w1.heap.size, 0, none⟩ 1 1 r.cells rfl rfl (cell_four_new _ r) (by intro u hu; simp at hu; rcases hu with rfl | rfl | rfl | rfl <;> rfl) (by unfold maxLen; omega) (by omega) (by simp; omega) ?_)
              intro v2 w2 hown2 hgrow2 _
              have hb2 : Below Wc.heap.size Wc w2 := hb1.trans (below_appended hz1c hown1 hgrow2)
              have hz2c := hb2.size
              have hrow2 := ownsRow_below hrowc hb2
              obtain ⟨a2, cp2, rfl⟩ := ownsRow_len hown2
              clear q0 q1 q2 q3 hgrow2 hown1
              go_wp2_with (at_builtin; refine wpList_append_own _ rfl _ _ 38 rfl Wc.heap.size 122 i0 _ 4 56 Tryz.underlying38 hi hz0 hz1 hz2 rfl (by decide) _ _ _ rfl hown2 _ (l.length - m) _ [] rfl (by have := HME.out; simp; omega) (fun j u h => by cases h) (fun u h => by cases h) (by unfold maxLen; omega) (by omega) hz2c ?_)
              all_goals intro v3 w3 hown3 hgrow3 _
              all_goals have hb3 : Below Wc.heap.size Wc w3 := hb2.grown hgrow3 hz2c (fun k hk => (hown2.lt k hk).1)
              all_goals have HO := hid hown3
              all_goals obtain ⟨a3, cp3, rfl⟩ := ownsRow_len hown3
              all_goals clear hown3 hown2 hgrow3 hn1 hn2
              all_goals go_wp2
              all_goals go_roundw
              all_goals first
                | (simp [intOf]; omega)
                | (refine ⟨k + 1, by omega, by go_num, ?_, below_one hBc hb3⟩
                   rw [HIN.out]
                   have h3 := Go.Joins.ownsRow_le HO.out hBc.size
                   have hl3 : (l.take m ++ r :: l.drop m).length = m + 1 + (l.length - m) := by rw [List.length_append, List.length_take, List.length_cons, List.length_drop]; omega
                   rw [hl3]
                   have hd3 : l.drop m = [] := List.drop_eq_nil_of_le (by have := HME.out; omega)
                   have hf3 : (l.take m ++ r :: l.drop m).flatMap Ru.cells = (l.take m).flatMap Ru.cells ++ r.cells := by rw [hd3, List.flatMap_append, List.flatMap_cons]; rfl
                   rw [hf3]
                   first | exact h3 | simpa using h3)
    · obtain rfl : k = rs.length := by omega
      go_wp2
      go_ret
      exact ⟨_, rfl, hrow, hB⟩

theorem l2Plain_any (v : Value) (rs : List Ru) (w : World) (hm : rs.length ≤ 30) (hf : ∀ r ∈ rs, r.size ≤ 1048576) (hr : RuS w v rs) :
    Calls Tryz.prog 96 #[v] w fun e w' => ∃ v', e = .returned v' ∧ w'.ownsRow w.heap.size 122 4 v' (plTo rs rs.length).length ((plTo rs rs.length).flatMap Ru.cells) ∧ Below w.heap.size w w' :=
  l2PlainW_any v rs w (by omega) hf hr

end Go.Proofs.YtnbojbcljfiamaaGreatDoor

namespace Go.Proofs.YtnbojbcljfiamaaGreatDoor
open Go.RowKit Go.Shelf

theorem at_drop {ops : Array Oper} {i : Nat} {o : Oper} (h : (ops.toList.drop i).head? = some o) : ops[i]? = some o := by
  rw [List.head?_drop] at h
  simpa using h
theorem takeW {P : Program} {ops : Array Oper} {Q : Exit → Act → World → Prop} {md : Region.Mode} {S : World → Prop} (i : Nat) {oi : Oper} {v : Value} {fuel : Nat} {listed : Array Bool} {a : Act} {w : World} (hi : (ops.toList.drop i).head? = some oi)
    (hs : Region.noSelect ops = true) (hf : Region.free md ops listed i = true) (hr : (Region.ready md ops listed).contains i = true)
    (hQ : ∀ c a w, Q (.panic c) (a.put oi.dst v) w → Q (.panic c) a w) (hw : Region.wanted oi (yielded ops a.tmps) = true) (hS : S w) (hy : ∀ w, S w → (execOp a.eval oi).run P w = .ok (.value v) w)
    (h : wpAnyH P md ops Q S fuel (listed.setIfInBounds i true) (a.put oi.dst v) w) : wpAnyH P md ops Q S (fuel + 1) listed a w :=
  wpAnyH_take (at_drop hi) hs hf hr hQ (Or.inl ⟨hw, hy⟩) hS h
theorem takeX {P : Program} {ops : Array Oper} {Q : Exit → Act → World → Prop} {md : Region.Mode} {S : World → Prop} (i : Nat) {oi : Oper} {fuel : Nat} {listed : Array Bool} {a : Act} {w : World} (hi : (ops.toList.drop i).head? = some oi)
    (hs : Region.noSelect ops = true) (hf : Region.free md ops listed i = true) (hr : (Region.ready md ops listed).contains i = true)
    (hQ : ∀ c a w, Q (.panic c) (a.put oi.dst undef) w → Q (.panic c) a w) (hw : Region.wanted oi (yielded ops a.tmps) = false) (hS : S w)
    (h : wpAnyH P md ops Q S fuel (listed.setIfInBounds i true) (a.put oi.dst undef) w) : wpAnyH P md ops Q S (fuel + 1) listed a w :=
  wpAnyH_take (at_drop hi) hs hf hr hQ (Or.inr ⟨hw, rfl⟩) hS h
theorem takeC {P : Program} {ops : Array Oper} {Q : Exit → Act → World → Prop} {md : Region.Mode} {S : World → Prop} (i : Nat) {oi : Oper} {fuel : Nat} {listed : Array Bool} {a : Act} {w : World} (hr : Region.ready md ops listed = [i]) (hi : (ops.toList.drop i).head? = some oi)
    (h : ∀ K' : Act → World → Prop, Shut (∀ a w, S w → (S w → wpAnyH P md ops Q S fuel (listed.setIfInBounds i true) a w) → K' a w) → if Region.wanted oi (yielded ops a.tmps) = true then Oper.wp P oi a w K' Q else K' (a.put oi.dst undef) w) : wpAnyH P md ops Q S (fuel + 1) listed a w :=
  wpAnyH_ready hr (by simp) (AllReadyH.cons (at_drop hi) h AllReadyH.nil)
/-- Two operations, either of which may come first. -/
theorem takeC2 {P : Program} {ops : Array Oper} {Q : Exit → Act → World → Prop} {md : Region.Mode} {S : World → Prop} (i j : Nat) {oi oj : Oper} {fuel : Nat} {listed : Array Bool} {a : Act} {w : World} (hr : Region.ready md ops listed = [i, j]) (hi : (ops.toList.drop i).head? = some oi) (hj : (ops.toList.drop j).head? = some oj)
    (h : ∀ K' : Act → World → Prop, Shut (∀ a w, S w → (S w → wpAnyH P md ops Q S fuel (listed.setIfInBounds i true) a w) → K' a w) → if Region.wanted oi (yielded ops a.tmps) = true then Oper.wp P oi a w K' Q else K' (a.put oi.dst undef) w)
    (h' : ∀ K' : Act → World → Prop, Shut (∀ a w, S w → (S w → wpAnyH P md ops Q S fuel (listed.setIfInBounds j true) a w) → K' a w) → if Region.wanted oj (yielded ops a.tmps) = true then Oper.wp P oj a w K' Q else K' (a.put oj.dst undef) w) : wpAnyH P md ops Q S (fuel + 1) listed a w :=
  wpAnyH_ready hr (by simp) (AllReadyH.cons (at_drop hi) h (AllReadyH.cons (at_drop hj) h' AllReadyH.nil))

def inB (lo hi n : Int) : Bool := decide (lo ≤ n ∧ n ≤ hi)

theorem l1In_any (n lo hi : Int) (w : World) :
    Calls Tryz.prog 64 #[.int .i64 n, .int .i64 lo, .int .i64 hi] w fun e w' => e = .returned (.bool (inB lo hi n)) ∧ w' = w := by
  by_cases c1 : lo ≤ n
  · by_cases c2 : n ≤ hi
    · have HR := hid (show inB lo hi n = true from decide_eq_true ⟨c1, c2⟩)
      go_enter Tryz.func64, Tryz.ntmps64
      go_wp2
      go_ret
      exact ⟨ret_bool HR.out.symm, rfl⟩
    · have HR := hid (show inB lo hi n = false from decide_eq_false (fun h => c2 h.2))
      go_enter Tryz.func64, Tryz.ntmps64
      go_wp2
      go_ret
      exact ⟨ret_bool HR.out.symm, rfl⟩
  · have HR := hid (show inB lo hi n = false from decide_eq_false (fun h => c1 h.1))
    go_enter Tryz.func64, Tryz.ntmps64
    go_wp2
    go_ret
    exact ⟨ret_bool HR.out.symm, rfl⟩

end Go.Proofs.YtnbojbcljfiamaaGreatDoor
