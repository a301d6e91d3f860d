/-
  Proved: NewMesh answers as the specification; its answer owns its memory.
-/
import Derived.Deep.RegionHeld3
import Derived.Test.YtnbojbcljfiamaaJNewMesh2
import Derived.Test.YtnbojbcljfiamaaJNewMesh3
import Derived.Test.YtnbojbcljfiamaaJNewMesh1
import Derived.Test.YtnbojbcljfiamaaRows
import Derived.WalkKit
import Derived.ProofKit
import Derived.OpenShut
import Derived.ShutString
import Derived.ChangeOld
import Derived.Below
import Derived.Lib.SmallJoins
import Derived.Deep.Slices
namespace Go.Proofs.Ytnbojbcljfiamaa
open Go.RowKit Go.Shelf

/-- A slice reads as this list of versions. -/
def SsA (w : World) (v : Value) (ss : List Sn) : Prop :=
  (∃ a cap, v = .slice a 0 cap ∧ ss = []) ∨
  ∃ b off cap, v = .slice (some ⟨b, off, none⟩) ss.length cap ∧ b < w.heap.size ∧ ss.length ≤ cap ∧ ∀ i (h : i < ss.length), ∃ vp vr, w.cell? ⟨b, off + i * 3, none⟩ = some (.int .i64 ss[i].num) ∧ w.cell? ⟨b, off + i * 3 + 1, none⟩ = some vp ∧ w.cell? ⟨b, off + i * 3 + 2, none⟩ = some vr ∧ RuS w vp ss[i].pol ∧ VS w vr (nums ss[i].rv)
def SsR (w : World) (v : Value) (ss : List Sn) : Prop :=
  (v = .slice none 0 0 ∧ ss = []) ∨
  ∃ b off cap, v = .slice (some ⟨b, off, none⟩) ss.length cap ∧ b < w.heap.size ∧ ss.length ≤ cap ∧ ∀ i (h : i < ss.length), ∃ vp vr, w.cell? ⟨b, off + i * 3, none⟩ = some (.int .i64 ss[i].num) ∧ w.cell? ⟨b, off + i * 3 + 1, none⟩ = some vp ∧ w.cell? ⟨b, off + i * 3 + 2, none⟩ = some vr ∧ RuR w vp ss[i].pol ∧ NuR w vr ss[i].rv
theorem SsA.below {w w' : World} {v : Value} {ss : List Sn} (h : SsA w v ss) (hB : Below w.heap.size w w') : SsA w' v ss := by
  rcases h with h | ⟨b, off, cap, hv, hb, hl, hc⟩
  · exact .inl h
  · refine .inr ⟨b, off, cap, hv, Nat.lt_of_lt_of_le hb hB.size, hl, fun i hi => ?_⟩
    obtain ⟨vp, vr, c0, c1, c2, h1, h2⟩ := hc i hi
    exact ⟨vp, vr, (hB.cell (p := ⟨b, _, none⟩) hb).trans c0, (hB.cell (p := ⟨b, _, none⟩) hb).trans c1, (hB.cell (p := ⟨b, _, none⟩) hb).trans c2, h1.below hB, h2.below hB⟩
theorem SsR.below {w w' : World} {v : Value} {ss : List Sn} (h : SsR w v ss) (hB : Below w.heap.size w w') : SsR w' v ss := by
  rcases h with h | ⟨b, off, cap, hv, hb, hl, hc⟩
  · exact .inl h
  · refine .inr ⟨b, off, cap, hv, Nat.lt_of_lt_of_le hb hB.size, hl, fun i hi => ?_⟩
    obtain ⟨vp, vr, c0, c1, c2, h1, h2⟩ := hc i hi
    exact ⟨vp, vr, (hB.cell (p := ⟨b, _, none⟩) hb).trans c0, (hB.cell (p := ⟨b, _, none⟩) hb).trans c1, (hB.cell (p := ⟨b, _, none⟩) hb).trans c2, h1.below hB, h2.below hB⟩
theorem SsR.a {w : World} {v : Value} {ss : List Sn} (h : SsR w v ss) : SsA w v ss := by
  rcases h with ⟨rfl, rfl⟩ | ⟨b, off, cap, hv, hb, hl, hc⟩
  · exact .inl ⟨_, _, rfl, rfl⟩
  · refine .inr ⟨b, off, cap, hv, hb, hl, fun i hi => ?_⟩
    obtain ⟨vp, vr, c0, c1, c2, h1, h2⟩ := hc i hi
    exact ⟨vp, vr, c0, c1, c2, h1.s, h2.s⟩
theorem SsA.len {w : World} {v : Value} {ss : List Sn} (h : SsA w v ss) : ∃ a cap, v = .slice a ss.length cap := by
  rcases h with ⟨a, cap, hv, rfl⟩ | ⟨b, off, cap, hv, _⟩
  · exact ⟨a, cap, hv⟩
  · exact ⟨_, cap, hv⟩
theorem SsR.len {w : World} {v : Value} {ss : List Sn} (h : SsR w v ss) : ∃ a cap, v = .slice a ss.length cap := h.a.len
theorem SsA.at {w : World} {a : Option Addr} {n cap : Nat} {ss : List Sn} (h : SsA w (.slice a n cap) ss) {i : Nat} (hi : i < ss.length) :
    ∃ b off xp cp xr cr, a = some ⟨b, off, none⟩ ∧ b < w.heap.size ∧ n ≤ cap ∧ w.cell? ⟨b, off + i * 3, none⟩ = some (.int .i64 ss[i].num) ∧ w.cell? ⟨b, off + i * 3 + 1, none⟩ = some (.slice xp ss[i].pol.length cp) ∧ w.cell? ⟨b, off + i * 3 + 2, none⟩ = some (.slice xr ss[i].rv.length cr) ∧ RuS w (.slice xp ss[i].pol.length cp) ss[i].pol ∧ VS w (.slice xr ss[i].rv.length cr) (nums ss[i].rv) := by
  rcases h with ⟨_, _, _, rfl⟩ | ⟨b, off, cap, hv, hb, hl, hc⟩
  · simp at hi
  · cases hv
    obtain ⟨vp, vr, c0, c1, c2, h1, h2⟩ := hc i hi
    obtain ⟨xp, cp, rfl⟩ := h1.len
    obtain ⟨xr, cr, rfl⟩ := h2.numLen
    exact ⟨b, off, xp, cp, xr, cr, rfl, hb, hl, c0, c1, c2, h1, h2⟩
theorem SsR.at {w : World} {a : Option Addr} {n cap : Nat} {ss : List Sn} (h : SsR w (.slice a n cap) ss) {i : Nat} (hi : i < ss.length) :
    ∃ b off xp cp xr cr, a = some ⟨b, off, none⟩ ∧ b < w.heap.size ∧ n ≤ cap ∧ w.cell? ⟨b, off + i * 3, none⟩ = some (.int .i64 ss[i].num) ∧ w.cell? ⟨b, off + i * 3 + 1, none⟩ = some (.slice xp ss[i].pol.length cp) ∧ w.cell? ⟨b, off + i * 3 + 2, none⟩ = some (.slice xr ss[i].rv.length cr) ∧ RuR w (.slice xp ss[i].pol.length cp) ss[i].pol ∧ NuR w (.slice xr ss[i].rv.length cr) ss[i].rv := by
  rcases h with ⟨_, rfl⟩ | ⟨b, off, cap, hv, hb, hl, hc⟩
  · simp at hi
  · cases hv
    obtain ⟨vp, vr, c0, c1, c2, h1, h2⟩ := hc i hi
    obtain ⟨xp, cp, rfl⟩ := h1.len
    obtain ⟨xr, cr, rfl⟩ := h2.len
    exact ⟨b, off, xp, cp, xr, cr, rfl, hb, hl, c0, c1, c2, h1, h2⟩

set_option maxRecDepth 100000 in
open Go.Deep Go.ChangeShapes Go.WideShapes Go.Joins in
/-- A list of versions that comes in. -/
theorem openSsS {H : Type} {enc : TypeId × Value → H} {W : World} {a : Option Addr} {n c : Nat} {d : DataW H} {p : List MemPlace} (h : DataW.Trod enc Try.prog W 0 (fun _ => true) true 39 (.slice a n c) d p) :
    ∃ ss : List Sn, SsA W (.slice a n c) ss ∧ ss.length = n ∧ n ≤ maxLen ∧ ∀ s ∈ ss, s.fits := by
  obtain ⟨fuel, hf⟩ := h
  rcases open_slice Try.underlying39 hf with ⟨hcs, _⟩ | ⟨x, len, cap, m, k, D, Pl, hcs, _, hl, hm, hmm, _, hx⟩
  · simp [Value.cells] at hcs
    obtain ⟨rfl, rfl, rfl⟩ := hcs
    exact ⟨[], .inl ⟨_, _, rfl, rfl⟩, rfl, Nat.zero_le _, fun r hr => by cases hr⟩
  · simp [Value.cells] at hcs
    obtain ⟨rfl, rfl, rfl⟩ := hcs
    have hlm : n ≤ m := by rw [hmm]; simpa using hl
    have each : ∀ i, i < n → ∃ s : Sn, (∃ vp vr, W.cell? (x.add (i * 3)) = some (.int .i64 s.num) ∧ W.cell? (x.add (i * 3 + 1)) = some vp ∧ W.cell? (x.add (i * 3 + 2)) = some vr ∧ RuS W vp s.pol ∧ VS W vr (nums s.rv)) ∧ s.fits := by
      intro i hi
      obtain ⟨cs', h1, h2⟩ := hx i (by omega)
      rw [cellsSnapshot] at h1
      obtain ⟨_, hlen, hcell⟩ := World.cells?_some h1
      obtain ⟨y0, y1, y2, m', _, _, g0, g1, g2⟩ := trod_struct3 Try.underlying105 h2
      match cs', hlen with
      | [v0, v1, v2], _ =>
        have e0 := hcell 0 (by omega)
        have e1 := hcell 1 (by omega)
        have e2 := hcell 2 (by omega)
        rw [add_add] at e0 e1 e2
        have c1 : Try.prog.cellsOf 3 = 1 := by kernel_rfl
        have c2 : Try.prog.cellsOf 103 = 1 := by kernel_rfl
        have c3 : Try.prog.cellsOf 23 = 1 := by kernel_rfl
        simp [c1, c2, c3] at g0 g1 g2
        obtain ⟨x0, f0, _, _⟩ := DataW.trod_int Try.underlying3 g0
        obtain ⟨a1, n1, k1, rs, rfl, r1, rfl, l1, f1⟩ := openRuR g1
        obtain ⟨a2, n2, k2, zs, rfl, r2, rfl, l2⟩ := openInR g2
        simp at f0
        subst f0
        exact ⟨⟨x0, rs, zs⟩, ⟨_, _, by simpa using e0, by simpa using e1, by simpa using e2, r1, r2⟩, l1, f1, l2⟩
    have hin : Inhabited Sn := ⟨Sn.none⟩
    obtain ⟨q, hq⟩ := choose_lt each
    by_cases h0 : n = 0
    · subst h0
      exact ⟨[], .inl ⟨_, _, rfl, rfl⟩, rfl, Nat.zero_le _, fun r hr => by cases hr⟩
    · obtain ⟨b, off, spot⟩ := x
      obtain ⟨_, _, hz, _⟩ := (hq 0 (by omega)).1
      have hs : spot = none := by simpa [Addr.add] using World.cell?_spot hz
      subst hs
      have hlt : b < W.heap.size := by
        rw [Addr.add_lit] at hz
        by_cases hb : b < W.heap.size
        · exact hb
        · simp only [World.cell?] at hz
          rw [Array.getElem?_eq_none (by omega)] at hz
          cases hz
      refine ⟨(List.range n).map q, .inr ⟨b, off, c, by simp, hlt, by simpa using hl, fun k hk => ?_⟩, by simp, by omega, ?_⟩
      · have hk' : k < n := by simpa using hk
        obtain ⟨vp, vr, c0, c1, c2, h1, h2⟩ := (hq k hk').1
        simp only [Addr.add_lit, ← Nat.add_assoc] at c0 c1 c2
        refine ⟨vp, vr, ?_, c1, c2, ?_, ?_⟩
        · simpa using c0
        · simpa using h1
        · simpa using h2
      · intro r hr
        obtain ⟨i, hi, rfl⟩ := List.mem_map.1 hr
        exact (hq i (List.mem_range.1 hi)).2

def vzTo (ss : List Sn) (n : Nat) : Nat := ((ss.take n).map Sn.size).sum
def vzAll (ss : List Sn) : Nat := ss.length + vzTo ss ss.length
theorem vzTo_zero (ss : List Sn) : vzTo ss 0 = 0 := by simp [vzTo]
theorem vzTo_succ {ss : List Sn} {n : Nat} (h : n < ss.length) : vzTo ss (n + 1) = vzTo ss n + ss[n].size := by
  unfold vzTo
  rw [List.take_succ_eq_append_getElem h, List.map_append, List.sum_append]
  simp
theorem vzTo_le (ss : List Sn) (n : Nat) : vzTo ss n ≤ vzTo ss ss.length := by
  unfold vzTo
  rw [List.take_length]
  conv => rhs; rw [← List.take_append_drop n ss, List.map_append, List.sum_append]
  omega
theorem vz_mem {ss : List Sn} {s : Sn} (h : s ∈ ss) : s.size ≤ vzTo ss ss.length := by
  unfold vzTo
  rw [List.take_length]
  exact sum_mem (List.mem_map.2 ⟨s, h, rfl⟩)
def leftVS (n : Int) (ss : List Sn) : Int := if (vzAll ss : Int) ≤ n then n - vzAll ss else -1

set_option maxHeartbeats 1000000 in
theorem szSnapshotS_any (v : Value) (rs : List Sn) (n : Int) (w : World) (h0 : 0 ≤ n) (h1 : n ≤ 1048576) (hm : rs.length ≤ maxLen) (hf : ∀ r ∈ rs, r.fits) (hr : SsA w v rs) :
    Calls Try.prog 29 #[v, .int .i64 n] w fun e w' => e = .returned (.int .i64 (leftVS n rs)) ∧ Below w.heap.size w w' := by
  obtain ⟨a, cap, rfl⟩ := hr.len
  unfold maxLen at hm
  by_cases c0 : n < rs.length
  · have HR := hid (show leftVS n rs = -1 from if_neg (by unfold vzAll; omega))
    go_enter Try.func29, Try.ntmps29
    go_wp2
    go_ret
    exact ⟨ret_int HR.out.symm, Below.refl _ _⟩
  · have d0 : decide (n - (rs.length : Int) < 0) = false := by simp; omega
    go_enter Try.func29, Try.ntmps29
    go_wp2
    go_loopw [1, 5] (fun m i wr => ∃ k : Nat, k ≤ rs.length ∧ i = .int .i64 k ∧ m = .int .i64 (n - rs.length - vzTo rs k) ∧ 0 ≤ n - rs.length - vzTo rs k ∧ Below w.heap.size w wr) (fun _ i _ => rs.length - (intOf i).toNat)
    case atStart => exact ⟨0, Nat.zero_le _, rfl, by rw [vzTo_zero]; go_num, by rw [vzTo_zero]; omega, Below.refl _ _⟩
    case round =>
      obtain ⟨k, hk, rfl, rfl, hp, hB⟩ := hrel
      by_cases hlt : k < rs.length
      · obtain ⟨b, off, xp, cp, xr, cr, rfl, hb, hcap, q0, q1, q2, y1, y2⟩ := (hr.below hB).at hlt
        have f1 := hf rs[k] (List.getElem_mem hlt)
        have HS := hid (vzTo_succ hlt)
        have HT := hid (vzTo_le rs (k + 1))
        generalize rs[k] = r at *
        go_wp2_with fail
        refine (szSnapshot_any _ r _ _ hp (by omega) f1 ⟨_, _, rfl, y1, y2⟩).mono ?_
        rintro e w1 ⟨rfl, hB1⟩
        have hB2 := below_one hB hB1
        by_cases c1 : (r.size : Int) ≤ n - rs.length - vzTo rs k
        · have hv : leftV (n - rs.length - vzTo rs k) r = n - rs.length - vzTo rs (k + 1) := by
            rw [HS.out]
            unfold leftV
            rw [if_pos (by omega)]
            omega
          have hq : 0 ≤ n - rs.length - vzTo rs (k + 1) := by rw [HS.out]; omega
          rw [hv]
          have d1 : decide (n - (rs.length : Int) - (vzTo rs (k + 1) : Int) < 0) = false := by simp; omega
          clear hv hB1 q0 q1 q2 y1 y2
          go_wp2_with fail
          go_roundw
          case rel => exact ⟨k + 1, by omega, by go_num, rfl, hq, hB2⟩
          case measure => simp [intOf]; omega
        · have hv : leftV (n - rs.length - vzTo rs k) r = -1 := if_neg (by omega)
          have HR := hid (show leftVS n rs = -1 from if_neg (by have := HT.out; rw [HS.out] at this; unfold vzAll; omega))
          rw [hv]
          clear hv hB1 q0 q1 q2 y1 y2
          go_wp2_with fail
          go_ret
          exact ⟨ret_int HR.out.symm, hB2⟩
      · obtain rfl : k = rs.length := by omega
        have HR := hid (show leftVS n rs = n - rs.length - vzTo rs rs.length by unfold leftVS vzAll; rw [if_pos (by omega)]; omega)
        go_wp2
        go_ret
        exact ⟨ret_int HR.out.symm, hB⟩

/-- No list is longer than the laws take. -/
def shortS (ss : List Sn) : Prop := ss.length ≤ 1048576 ∧ ∀ s ∈ ss, s.short
theorem shortS_of {ss : List Sn} (h : vzAll ss ≤ 1048576) : shortS ss := by
  unfold vzAll at h
  exact ⟨by omega, fun s hs => Sn.short_of (by have := vz_mem hs; omega)⟩

set_option maxHeartbeats 2000000 in
/-- A list of versions is like itself, wherever the two lie. -/
theorem eqSnapshotS_same (v v' : Value) (ss : List Sn) (w : World) (hn : shortS ss) (hr : SsA w v ss) (hr' : SsA w v' ss) :
    Calls Try.prog 20 #[v, v'] w fun e w' => e = .returned (.bool true) ∧ Below w.heap.size w w' := by
  obtain ⟨a, cap, rfl⟩ := hr.len
  obtain ⟨a', cap', rfl⟩ := hr'.len
  have hn1 := hn.1
  have e0 : ((ss.length : Int) != (ss.length : Int)) = false := by simp
  go_enter Try.func20, Try.ntmps20
  go_wp2
  go_loopw [5] (fun i wr => ∃ j : Nat, j ≤ ss.length ∧ i = .int .i64 j ∧ Below w.heap.size w wr) (fun i _ => ss.length - (intOf i).toNat)
  case atStart => exact ⟨0, Nat.zero_le _, rfl, Below.refl _ _⟩
  case round =>
    obtain ⟨j, hj, rfl, hB⟩ := hrel
    by_cases hlt : j < ss.length
    · obtain ⟨b, off, xp, cp, xr, cr, rfl, hb, hcap, q0, q1, q2, y1, y2⟩ := (hr.below hB).at hlt
      obtain ⟨b', off', xp', cp', xr', cr', rfl, hb', hcap', p0, p1, p2, y1', y2'⟩ := (hr'.below hB).at hlt
      have hs := hn.2 ss[j] (List.getElem_mem hlt)
      generalize ss[j] = s at *
      go_wp2_with fail
      go_region_with (go_at_call 47; refine (eqSnapshot_same _ _ s _ hs ⟨_, _, rfl, y1.below (Below.refl _ _).drew, y2.below (Below.refl _ _).drew⟩ ⟨_, _, rfl, y1'.below (Below.refl _ _).drew, y2'.below (Below.refl _ _).drew⟩).mono ?_; rintro e w1 ⟨rfl, hB1⟩)
      all_goals go_wp2
      all_goals go_roundw
      all_goals first
        | exact ⟨j + 1, by omega, by go_num, below_one hB (below_drew1 hB1)⟩
        | (simp [intOf]; omega)
    · obtain rfl : j = ss.length := by omega
      go_wp2
      go_ret
      exact ⟨rfl, hB⟩

end Go.Proofs.Ytnbojbcljfiamaa

namespace Go.Proofs.Ytnbojbcljfiamaa
open Go.RowKit Go.Shelf

/-- A row of n places, of which the first k hold these versions, whose lists lie in blocks of their own from base on, below top. -/
structure SsK (w : World) (base top : Nat) (v : Value) (n : Nat) (ss : List Sn) (k : Nat) (xs : List Value) (vp vr : Nat → Value) : Prop where
  row : w.ownsRow base 85 3 v n xs
  rlt : ∀ j, v.ownBlock = some j → j < top
  cs : ∀ i (h : i < ss.length), i < k → xs[i * 3]? = some (.int .i64 ss[i].num) ∧ xs[i * 3 + 1]? = some (vp i) ∧ xs[i * 3 + 2]? = some (vr i)
  pol : ∀ i (h : i < ss.length), i < k → w.ownsRow base 135 4 (vp i) ss[i].pol.length (ss[i].pol.flatMap Ru.cells)
  num : ∀ i (h : i < ss.length), i < k → w.ownsRow base 3 1 (vr i) ss[i].rv.length (nums ss[i].rv)
  plt : ∀ i, i < ss.length → i < k → ∀ j, (vp i).ownBlock = some j → j < top
  nlt : ∀ i, i < ss.length → i < k → ∀ j, (vr i).ownBlock = some j → j < top
  pap : ∀ i j, i < ss.length → j < ss.length → i < k → j < k → i ≠ j → ∀ b, (vp i).ownBlock = some b → (vp j).ownBlock = some b → False
  nap : ∀ i j, i < ss.length → j < ss.length → i < k → j < k → i ≠ j → ∀ b, (vr i).ownBlock = some b → (vr j).ownBlock = some b → False
/-- A list of versions of one's own. -/
def SsO (w : World) (base top : Nat) (v : Value) (ss : List Sn) : Prop := ∃ xs vp vr, SsK w base top v ss.length ss ss.length xs vp vr
theorem SsK.below {w w' : World} {base top : Nat} {v : Value} {n : Nat} {ss : List Sn} {k : Nat} {xs : List Value} {vp vr : Nat → Value} (h : SsK w base top v n ss k xs vp vr) (hB : Below w.heap.size w w') : SsK w' base top v n ss k xs vp vr :=
  ⟨ownsRow_below h.row hB, h.rlt, h.cs, fun i hi hk => ownsRow_below (h.pol i hi hk) hB, fun i hi hk => ownsRow_below (h.num i hi hk) hB, h.plt, h.nlt, h.pap, h.nap⟩
theorem SsO.below {w w' : World} {base top : Nat} {v : Value} {ss : List Sn} (h : SsO w base top v ss) (hB : Below w.heap.size w w') : SsO w' base top v ss := by
  obtain ⟨xs, vp, vr, h⟩ := h
  exact ⟨xs, vp, vr, h.below hB⟩
theorem Mid.sso {lo hi : Nat} {w w1 : World} (hM : Mid lo hi w w1) {base top : Nat} {v : Value} {ss : List Sn} (h : SsO w base top v ss) (ho : hi ≤ base ∨ top ≤ lo) : SsO w1 base top v ss := by
  obtain ⟨xs, vp, vr, h⟩ := h
  exact ⟨xs, vp, vr, hM.row h.row (fun j hj => by have := h.row.lt j hj; have := h.rlt j hj; omega), h.rlt, h.cs,
    fun i hi hk => hM.row (h.pol i hi hk) (fun j hj => by have := (h.pol i hi hk).lt j hj; have := h.plt i hi hk j hj; omega),
    fun i hi hk => hM.row (h.num i hi hk) (fun j hj => by have := (h.num i hi hk).lt j hj; have := h.nlt i hi hk j hj; omega), h.plt, h.nlt, h.pap, h.nap⟩
theorem SsO.r {w : World} {base top : Nat} {v : Value} {ss : List Sn} (h : SsO w base top v ss) : SsR w v ss := by
  obtain ⟨xs, vp, vr, h⟩ := h
  rcases row_form h.row with ⟨rfl, h0⟩ | ⟨g, cap, rfl, hg, hcap⟩
  · exact .inl ⟨rfl, List.eq_nil_of_length_eq_zero h0⟩
  · refine .inr ⟨g, 0, cap, rfl, (h.row.lt g rfl).2, hcap, fun i hi => ?_⟩
    obtain ⟨c0, c1, c2⟩ := h.cs i hi hi
    refine ⟨vp i, vr i, ?_, ?_, ?_, RuR.own (h.pol i hi hi), NuR.own (h.num i hi hi)⟩
    · rw [Nat.zero_add, h.row.cellAt (i * 3) (by omega)]; exact c0
    · rw [Nat.zero_add, h.row.cellAt (i * 3 + 1) (by omega)]; exact c1
    · rw [Nat.zero_add, h.row.cellAt (i * 3 + 2) (by omega)]; exact c2
theorem SsO.a {w : World} {base top : Nat} {v : Value} {ss : List Sn} (h : SsO w base top v ss) : SsA w v ss := h.r.a
theorem SsO.mono {w : World} {base base' top top' : Nat} {v : Value} {ss : List Sn} (h : SsO w base top v ss) (hb : base' ≤ base) (ht : top ≤ top') : SsO w base' top' v ss := by
  obtain ⟨xs, vp, vr, h⟩ := h
  exact ⟨xs, vp, vr, Go.Joins.ownsRow_le h.row hb, fun j hj => Nat.lt_of_lt_of_le (h.rlt j hj) ht, h.cs, fun i hi hk => Go.Joins.ownsRow_le (h.pol i hi hk) hb, fun i hi hk => Go.Joins.ownsRow_le (h.num i hi hk) hb,
    fun i hi hk j hj => Nat.lt_of_lt_of_le (h.plt i hi hk j hj) ht, fun i hi hk j hj => Nat.lt_of_lt_of_le (h.nlt i hi hk j hj) ht, h.pap, h.nap⟩
theorem SsO.none (w : World) (base top : Nat) : SsO w base top (.slice none 0 0) [] :=
  ⟨[], fun _ => .nilIface, fun _ => .nilIface, World.ownsRow_nil _ _ _ _, fun _ h => by simp [Value.ownBlock] at h, fun _ h => by simp at h, fun _ h => by simp at h, fun _ h => by simp at h, fun _ h => by simp at h, fun _ h => by simp at h, fun _ _ h => by simp at h, fun _ _ h => by simp at h⟩
theorem tyR : (135 : TypeId) ≠ 85 := by decide
theorem tyN : (3 : TypeId) ≠ 85 := by decide
theorem tyRN : (135 : TypeId) ≠ 3 := by decide
/-- Three cells stored into a row's block leave rows of another kind as they are. -/
theorem row_kept3 {w : World} {b1 b2 : Nat} {e1 : TypeId} {s1 n1 g n cap : Nat} {v1 : Value} {x1 xs : List Value} (h : w.ownsRow b1 e1 s1 v1 n1 x1) (hr : w.ownsRow b2 85 3 (.slice (some ⟨g, 0, none⟩) n cap) n xs) (hne : e1 ≠ 85) (o0 o1 o2 : Nat) (y0 y1 y2 : Value) :
    (((w.setCell ⟨g, o0, none⟩ y0).setCell ⟨g, o1, none⟩ y1).setCell ⟨g, o2, none⟩ y2).ownsRow b1 e1 s1 v1 n1 x1 := by
  have hb : v1.ownBlock ≠ some g := fun e => row_apart h hr hne g e rfl
  exact ownsRow_setCell_other (ownsRow_setCell_other (ownsRow_setCell_other h (a := ⟨g, o0, none⟩) hb y0) (a := ⟨g, o1, none⟩) hb y1) (a := ⟨g, o2, none⟩) hb y2
/-- One more version is laid into the row. -/
theorem SsK.add {w w2 : World} {base g n cap : Nat} {ss : List Sn} {k : Nat} {xs : List Value} {vp vr : Nat → Value} {p r : Value} (h : SsK w base w.heap.size (.slice (some ⟨g, 0, none⟩) n cap) n ss k xs vp vr) (hB : Below w.heap.size w w2) (hk : k < ss.length) (hkn : k < n) (hb : base ≤ w.heap.size)
    (hp : w2.ownsRow w.heap.size 135 4 p ss[k].pol.length (ss[k].pol.flatMap Ru.cells)) (hr : w2.ownsRow w.heap.size 3 1 r ss[k].rv.length (nums ss[k].rv)) :
    SsK (((w2.setCell ⟨g, k * 3, none⟩ (.int .i64 ss[k].num)).setCell ⟨g, k * 3 + 1, none⟩ p).setCell ⟨g, k * 3 + 2, none⟩ r) base (((w2.setCell ⟨g, k * 3, none⟩ (.int .i64 ss[k].num)).setCell ⟨g, k * 3 + 1, none⟩ p).setCell ⟨g, k * 3 + 2, none⟩ r).heap.size (.slice (some ⟨g, 0, none⟩) n cap) n ss (k + 1) (((xs.set (k * 3) (.int .i64 ss[k].num)).set (k * 3 + 1) p).set (k * 3 + 2) r) (fun i => if i = k then p else vp i) (fun i => if i = k then r else vr i) := by
  have h2 := h.below hB
  have hlen : xs.length = n * 3 := h.row.1
  have hsz : (((w2.setCell ⟨g, k * 3, none⟩ (.int .i64 ss[k].num)).setCell ⟨g, k * 3 + 1, none⟩ p).setCell ⟨g, k * 3 + 2, none⟩ r).heap.size = w2.heap.size := by rw [World.size_setCell, World.size_setCell, World.size_setCell]
  have hs := hB.size
  refine ⟨((h2.row.stored (k * 3) _).1.stored (k * 3 + 1) _).1.stored (k * 3 + 2) _ |>.1, ?_, ?_, ?_, ?_, ?_, ?_, ?_, ?_⟩
  · intro j hj
    rw [hsz]
    exact Nat.lt_of_lt_of_le (h.rlt j hj) hs
  · intro i hi hik
    by_cases e : i = k
    · subst e
      rw [if_pos rfl, if_pos rfl]
      refine ⟨?_, ?_, ?_⟩
      · rw [List.getElem?_set_ne (by omega), List.getElem?_set_ne (by omega), List.getElem?_set_self (by omega)]
      · rw [List.getElem?_set_ne (by omega), List.getElem?_set_self (by simp; omega)]
      · rw [List.getElem?_set_self (by simp; omega)]
    · rw [if_neg e, if_neg e]
      obtain ⟨c0, c1, c2⟩ := h.cs i hi (by omega)
      refine ⟨?_, ?_, ?_⟩
      · rw [List.getElem?_set_ne (by omega), List.getElem?_set_ne (by omega), List.getElem?_set_ne (by omega)]; exact c0
      · rw [List.getElem?_set_ne (by omega), List.getElem?_set_ne (by omega), List.getElem?_set_ne (by omega)]; exact c1
      · rw [List.getElem?_set_ne (by omega), List.getElem?_set_ne (by omega), List.getElem?_set_ne (by omega)]; exact c2
  · intro i hi hik
    by_cases e : i = k
    · subst e
      rw [if_pos rfl]
      exact row_kept3 (Go.Joins.ownsRow_le hp hb) h2.row tyR _ _ _ _ _ _
    · rw [if_neg e]
      exact row_kept3 (h2.pol i hi (by omega)) h2.row tyR _ _ _ _ _ _
  · intro i hi hik
    by_cases e : i = k
    · subst e
      rw [if_pos rfl]
      exact row_kept3 (Go.Joins.ownsRow_le hr hb) h2.row tyN _ _ _ _ _ _
    · rw [if_neg e]
      exact row_kept3 (h2.num i hi (by omega)) h2.row tyN _ _ _ _ _ _
  · intro i hi hik j hj
    rw [hsz]
    by_cases e : i = k
    · rw [if_pos e] at hj
      exact (hp.lt j hj).2
    · rw [if_neg e] at hj
      exact Nat.lt_of_lt_of_le (h.plt i hi (by omega) j hj) hs
  · intro i hi hik j hj
    rw [hsz]
    by_cases e : i = k
    · rw [if_pos e] at hj
      exact (hr.lt j hj).2
    · rw [if_neg e] at hj
      exact Nat.lt_of_lt_of_le (h.nlt i hi (by omega) j hj) hs
  · intro i j hi hj hik hjk hij b h1 h2'
    by_cases e : i = k
    · rw [if_pos e] at h1
      rw [if_neg (by omega)] at h2'
      have := (hp.lt b h1).1
      have := h.plt j hj (by omega) b h2'
      omega
    · rw [if_neg e] at h1
      have := h.plt i hi (by omega) b h1
      by_cases e2 : j = k
      · rw [if_pos e2] at h2'
        have := (hp.lt b h2').1
        omega
      · rw [if_neg e2] at h2'
        exact h.pap i j hi hj (by omega) (by omega) hij b h1 h2'
  · intro i j hi hj hik hjk hij b h1 h2'
    by_cases e : i = k
    · rw [if_pos e] at h1
      rw [if_neg (by omega)] at h2'
      have := (hr.lt b h1).1
      have := h.nlt j hj (by omega) b h2'
      omega
    · rw [if_neg e] at h1
      have := h.nlt i hi (by omega) b h1
      by_cases e2 : j = k
      · rw [if_pos e2] at h2'
        have := (hr.lt b h2').1
        omega
      · rw [if_neg e2] at h2'
        exact h.nap i j hi hj (by omega) (by omega) hij b h1 h2'
theorem infoSnapshot : (Try.prog.info? 85).map (fun i => (i.zero, i.size, i.bytes)) = some (some (.agg #[.int .i64 0, .slice none 0 0, .slice none 0 0]), 3, 56) := by kernel_rfl

set_option maxHeartbeats 2000000 in
theorem toSnapshotS_any (v : Value) (ss : List Sn) (w : World) (hm : shortS ss) (hr : SsA w v ss) :
    Calls Try.prog 35 #[v] w fun e w' => ∃ v', e = .returned v' ∧ SsO w' w.heap.size w'.heap.size v' ss ∧ Below w.heap.size w w' := by
  obtain ⟨a, cap, rfl⟩ := hr.len
  obtain ⟨i0, hi, hz0, hz1, hz2⟩ := info_parts infoSnapshot
  have hm1 := hm.1
  go_enter Try.func35, Try.ntmps35
  go_wp2_with (at_make; refine wpList_make_full _ rfl _ _ 27 rfl w.heap.size 85 i0 _ 3 Try.underlying27 hi hz0 hz1 _ _ _ _ ss.length rfl rfl rfl rfl (by rw [hz2]; omega) (by unfold maxLen; omega) (Nat.le_refl _) ?_; intro w1 hown hgrow)
  have hB1 : Below w.heap.size w w1 := (Below.refl _ w).grown hgrow (Nat.le_refl _) (fun k e => by cases e)
  go_loopw [4] (fun i wr => ∃ k : Nat, k ≤ ss.length ∧ i = .int .i64 k ∧ ∃ xs vp vr, SsK wr w.heap.size wr.heap.size (.slice (some ⟨w.heap.size, 0, none⟩) ss.length ss.length) ss.length ss k xs vp vr ∧ Below w.heap.size w wr) (fun i _ => ss.length - (intOf i).toNat)
  case atStart => exact ⟨0, Nat.zero_le _, rfl, _, fun _ => .nilIface, fun _ => .nilIface, ⟨hown, fun j hj => (hown.lt j hj).2, fun _ _ h => absurd h (Nat.not_lt_zero _), fun _ _ h => absurd h (Nat.not_lt_zero _), fun _ _ h => absurd h (Nat.not_lt_zero _), fun _ _ h => absurd h (Nat.not_lt_zero _), fun _ _ h => absurd h (Nat.not_lt_zero _), fun _ _ _ _ h => absurd h (Nat.not_lt_zero _), fun _ _ _ _ h => absurd h (Nat.not_lt_zero _)⟩, hB1⟩
  case round =>
    obtain ⟨k, hk, rfl, xs, vp, vr, hK, hB⟩ := hrel
    by_cases hlt : k < ss.length
    · obtain ⟨b, off, xp, cp, xr, cr, rfl, hb, hcap, q0, q1, q2, y1, y2⟩ := (hr.below hB).at hlt
      have hsh := hm.2 ss[k] (List.getElem_mem hlt)
      have HA := hid (fun (w2 : World) (p r : Value) (hB2 : Below wr.heap.size wr w2) => SsK.add (w2 := w2) (p := p) (r := r) hK hB2 hlt hlt hB.size)
      go_wp2_with fail
      refine (toSnapshot_any _ ss[k] _ hsh ⟨_, _, rfl, y1, y2⟩).mono ?_
      rintro e w2 ⟨v2, rfl, ⟨p, r, rfl, op, or', tp, tr⟩, hB2⟩
      obtain ⟨xa, ya, za, rfl⟩ := row_slice op
      obtain ⟨xb, yb, zb, rfl⟩ := row_slice or'
      have HK := hid (HA.out w2 _ _ hB2 op or')
      have hrow2 := ownsRow_below hK.row hB2
      have hB3 := below_one hB hB2
      have hlen : xs.length = ss.length * 3 := hrow2.1
      have s0 := hrow2.cellAt (k * 3) (by omega)
      have s1 := hrow2.cellAt (k * 3 + 1) (by omega)
      have s2 := hrow2.cellAt (k * 3 + 2) (by omega)
      rw [List.getElem?_eq_getElem (by omega)] at s0 s1 s2
      have t0 := hrow2.frozenAt (k * 3)
      have t1 := hrow2.frozenAt (k * 3 + 1)
      have t2 := hrow2.frozenAt (k * 3 + 2)
      generalize xs[k * 3] = z0 at *
      generalize xs[k * 3 + 1] = z1 at *
      generalize xs[k * 3 + 2] = z2 at *
      generalize ss[k] = s at *
      clear q0 q1 q2 hB2 hK HA y1 y2 op or'
      go_wp2_with fail
      go_roundw
      case rel => exact ⟨k + 1, by omega, by go_num, _, _, _, HK.out, ((hB3.setCell (p := ⟨w.heap.size, _, none⟩) (Nat.le_refl _) _).setCell (p := ⟨w.heap.size, _, none⟩) (Nat.le_refl _) _).setCell (p := ⟨w.heap.size, _, none⟩) (Nat.le_refl _) _⟩
      case measure => simp [intOf]; omega
    · obtain rfl : k = ss.length := by omega
      go_wp2
      go_ret
      exact ⟨_, rfl, ⟨xs, vp, vr, hK⟩, hB⟩

end Go.Proofs.Ytnbojbcljfiamaa

namespace Go.Proofs.Ytnbojbcljfiamaa
open Go.RowKit Go.Shelf

theorem Is.short_of {s : Is} (h : s.size ≤ 1048576) : s.short := by
  unfold Is.size wzAll tzAll at h
  exact ⟨by omega, by omega, by omega⟩
theorem is_frm {w : World} {v : Value} {s : Is} (h : IsA w v s) : ∃ a b c d e f, v = .agg #[.slice a s.ws.length b, .int .i64 s.nx, .slice c s.rv.length d, .slice e s.sg.length f] := by
  obtain ⟨vw, vr, vs, rfl, h1, h2, h3⟩ := h.parts
  obtain ⟨a1, c1, rfl⟩ := h1.len
  obtain ⟨a2, c2, rfl⟩ := h2.numLen
  obtain ⟨a3, c3, rfl⟩ := h3.strLen
  exact ⟨_, _, _, _, _, _, rfl⟩
/-- A mesh. -/
structure Ms where
  now : Int
  iss : Is
  vs : List Sn
  sc : List Sc
  dl : List Dv
/-- These cells read as this one. -/
def MsC (w : World) (cs : List Value) (m : Ms) : Prop := ∃ p1a p1b p1c p1d p1e p1f p2x p2z p3x p3z p4x p4z, cs = [.int .i64 m.now, .slice p1a m.iss.ws.length p1b, .int .i64 m.iss.nx, .slice p1c m.iss.rv.length p1d, .slice p1e m.iss.sg.length p1f, .slice p2x m.vs.length p2z, .slice p3x m.sc.length p3z, .slice p4x m.dl.length p4z] ∧ IsA w (.agg #[.slice p1a m.iss.ws.length p1b, .int .i64 m.iss.nx, .slice p1c m.iss.rv.length p1d, .slice p1e m.iss.sg.length p1f]) m.iss ∧ SsA w (.slice p2x m.vs.length p2z) m.vs ∧ GsA 10 ScC w (.slice p3x m.sc.length p3z) m.sc ∧ GsA 6 DvC w (.slice p4x m.dl.length p4z) m.dl
/-- .. of one's own, in blocks from base on, below top. -/
def MsO (w : World) (base top : Nat) (cs : List Value) (m : Ms) : Prop := ∃ p1a p1b p1c p1d p1e p1f p2x p2z p3x p3z p4x p4z m1 m2 m3, cs = [.int .i64 m.now, .slice p1a m.iss.ws.length p1b, .int .i64 m.iss.nx, .slice p1c m.iss.rv.length p1d, .slice p1e m.iss.sg.length p1f, .slice p2x m.vs.length p2z, .slice p3x m.sc.length p3z, .slice p4x m.dl.length p4z] ∧ base ≤ m1 ∧ m1 ≤ m2 ∧ m2 ≤ m3 ∧ m3 ≤ top ∧ IsO w base m1 (.agg #[.slice p1a m.iss.ws.length p1b, .int .i64 m.iss.nx, .slice p1c m.iss.rv.length p1d, .slice p1e m.iss.sg.length p1f]) m.iss ∧ SsO w m1 m2 (.slice p2x m.vs.length p2z) m.vs ∧ GsO 93 10 ScO w m2 m3 (.slice p3x m.sc.length p3z) m.sc ∧ GsO 67 6 DvO w m3 top (.slice p4x m.dl.length p4z) m.dl
def Ms.fits (m : Ms) : Prop := m.iss.fits ∧ (m.vs.length ≤ maxLen ∧ ∀ k ∈ m.vs, k.fits) ∧ (m.sc.length ≤ maxLen ∧ ∀ k ∈ m.sc, k.fits) ∧ (m.dl.length ≤ maxLen ∧ ∀ k ∈ m.dl, k.fits)
def Ms.size (m : Ms) : Nat := m.iss.size + vzAll m.vs + gzAll Sc.size m.sc + gzAll Dv.size m.dl
def Ms.short (m : Ms) : Prop := m.iss.size ≤ 1048576 ∧ shortS m.vs ∧ gShort Sc.short m.sc ∧ gShort Dv.short m.dl
theorem MsC.below {w w' : World} {cs : List Value} {m : Ms} (h : MsC w cs m) (hB : Below w.heap.size w w') : MsC w' cs m := by
  obtain ⟨p1a, p1b, p1c, p1d, p1e, p1f, p2x, p2z, p3x, p3z, p4x, p4z, rfl, h0, h1, h2, h3⟩ := h
  exact ⟨_, _, _, _, _, _, _, _, _, _, _, _, rfl, h0.below hB, h1.below hB, (GsA.below h2 (fun _ _ h => h.below hB) hB), (GsA.below h3 (fun _ _ h => h.below hB) hB)⟩
theorem MsO.mid {lo hi : Nat} {w w1 : World} {base top : Nat} {cs : List Value} {m : Ms} (h : MsO w base top cs m) (M : Mid lo hi w w1) (ho : hi ≤ base ∨ top ≤ lo) : MsO w1 base top cs m := by
  obtain ⟨p1a, p1b, p1c, p1d, p1e, p1f, p2x, p2z, p3x, p3z, p4x, p4z, m1, m2, m3, rfl, g0, g1, g2, g3, h0, h1, h2, h3⟩ := h
  exact ⟨_, _, _, _, _, _, _, _, _, _, _, _, m1, m2, m3, rfl, g0, g1, g2, g3, Mid.iso M h0 (by omega), Mid.sso M h1 (by omega), GsO.mid h2 (fun _ _ _ _ h ho => h.mid M ho) M (by omega), GsO.mid h3 (fun _ _ _ _ h ho => h.mid M ho) M (by omega)⟩
theorem MsO.below {w w1 : World} {base top : Nat} {cs : List Value} {m : Ms} (h : MsO w base top cs m) (hB : Below w.heap.size w w1) : MsO w1 base top cs m := h.mid (Mid.of_below (lo := 0) (hi := 0) hB) (.inl (Nat.zero_le _))
theorem MsO.mono {w : World} {base base' top top' : Nat} {cs : List Value} {m : Ms} (h : MsO w base top cs m) (hb : base' ≤ base) (ht : top ≤ top') : MsO w base' top' cs m := by
  obtain ⟨p1a, p1b, p1c, p1d, p1e, p1f, p2x, p2z, p3x, p3z, p4x, p4z, m1, m2, m3, rfl, g0, g1, g2, g3, h0, h1, h2, h3⟩ := h
  exact ⟨_, _, _, _, _, _, _, _, _, _, _, _, m1, m2, m3, rfl, by omega, by omega, by omega, by omega, IsO.mono h0 hb (Nat.le_refl _), SsO.mono h1 (Nat.le_refl _) (Nat.le_refl _), GsO.mono h2 (Nat.le_refl _) (Nat.le_refl _), GsO.mono h3 (Nat.le_refl _) ht⟩
theorem Ms.short_of {m : Ms} (h : m.size ≤ 1048576) : m.short := by
  unfold Ms.size gzAll at h
  exact ⟨by omega, shortS_of (by omega), ⟨by omega, fun a ha => Sc.short_of (by have := gz_mem (f := Sc.size) ha; omega)⟩, by omega, fun a ha => Dv.short_of (by have := gz_mem (f := Dv.size) ha; omega)⟩
theorem MsO.a {w : World} {base top : Nat} {cs : List Value} {m : Ms} (h : MsO w base top cs m) : MsC w cs m := by
  obtain ⟨p1a, p1b, p1c, p1d, p1e, p1f, p2x, p2z, p3x, p3z, p4x, p4z, m1, m2, m3, rfl, g0, g1, g2, g3, h0, h1, h2, h3⟩ := h
  exact ⟨_, _, _, _, _, _, _, _, _, _, _, _, rfl, h0.a, h1.a, GsO.a (fun _ _ _ _ h => h.a) h2, GsO.a (fun _ _ _ _ h => h.a) h3⟩

set_option maxRecDepth 100000 in
theorem cellsMesh : Try.prog.cellsOf 43 = 8 := by kernel_rfl
set_option maxRecDepth 100000 in
open Go.Deep Go.ChangeShapes Go.WideShapes Go.ChangeAt Go.Joins in
/-- A mesh that comes in. -/
theorem openMs {H : Type} {enc : TypeId × Value → H} {W : World} {base : Nat} {v : Value} {y : DataW H} {p : List MemPlace} (hv : Value.okWide Try.prog W .any base 43 v) (h : DataW.Trod enc Try.prog W 0 (fun _ => true) true 43 v y p) :
    ∃ (cs : List Value) (m : Ms), v = .agg cs.toArray ∧ MsC W cs m ∧ m.fits := by
  obtain ⟨cs, rfl, hsz⟩ := okWide_struct Try.underlying43 hv
  rw [cellsMesh] at hsz
  obtain ⟨l⟩ := cs
  obtain ⟨fuel, hf⟩ := h
  obtain ⟨c0, c1, c2, c3, c4, c5, c6, c7, rfl⟩ : ∃ c0 c1 c2 c3 c4 c5 c6 c7, l = [c0, c1, c2, c3, c4, c5, c6, c7] := by
    match l, hsz with
    | [c0, c1, c2, c3, c4, c5, c6, c7], _ => exact ⟨c0, c1, c2, c3, c4, c5, c6, c7, rfl⟩
  obtain ⟨xs, n, _, _, _, hlen, hfs⟩ := DataW.trod_struct Try.underlying43 hf
  obtain ⟨y0, y1, y2, y3, y4, rfl⟩ : ∃ y0 y1 y2 y3 y4, xs = [y0, y1, y2, y3, y4] := by
    match xs, hlen with
    | [y0, y1, y2, y3, y4], _ => exact ⟨y0, y1, y2, y3, y4, rfl⟩
  have ci : Try.prog.cellsOf 3 = 1 := by kernel_rfl
  have cv : Try.prog.cellsOf 39 = 1 := by kernel_rfl
  have cc : Try.prog.cellsOf 40 = 1 := by kernel_rfl
  have cd : Try.prog.cellsOf 41 = 1 := by kernel_rfl
  have h0 : DataW.trod enc Try.prog W 0 (fun _ => true) true n 3 [c0] = some y0 := by have := hfs 0 _ rfl; simpa [Value.cells, ci] using this
  have h1 : DataW.trod enc Try.prog W 0 (fun _ => true) true n 38 [c1, c2, c3, c4] = some y1 := by have := hfs 1 _ rfl; simpa [Value.cells, ci, cellsIssuer] using this
  have h2 : DataW.trod enc Try.prog W 0 (fun _ => true) true n 39 [c5] = some y2 := by have := hfs 2 _ rfl; simpa [Value.cells, ci, cellsIssuer, cv] using this
  have h3 : DataW.trod enc Try.prog W 0 (fun _ => true) true n 40 [c6] = some y3 := by have := hfs 3 _ rfl; simpa [Value.cells, ci, cellsIssuer, cv, cc] using this
  have h4 : DataW.trod enc Try.prog W 0 (fun _ => true) true n 41 [c7] = some y4 := by have := hfs 4 _ rfl; simpa [Value.cells, ci, cellsIssuer, cv, cc, cd] using this
  obtain ⟨x0, f0, _, _⟩ := DataW.trod_int Try.underlying3 h0
  obtain ⟨zs, n', _, _, _, hlen', hgs⟩ := DataW.trod_struct Try.underlying38 h1
  obtain ⟨z0, z1, z2, z3, rfl⟩ : ∃ z0 z1 z2 z3, zs = [z0, z1, z2, z3] := by
    match zs, hlen' with
    | [z0, z1, z2, z3], _ => exact ⟨z0, z1, z2, z3, rfl⟩
  have ck : Try.prog.cellsOf 36 = 1 := by kernel_rfl
  have cn : Try.prog.cellsOf 23 = 1 := by kernel_rfl
  have ct : Try.prog.cellsOf 24 = 1 := by kernel_rfl
  have g0 : DataW.trod enc Try.prog W 0 (fun _ => true) true n' 36 [c1] = some z0 := by have := hgs 0 _ rfl; simpa [Value.cells, ck] using this
  have g1 : DataW.trod enc Try.prog W 0 (fun _ => true) true n' 3 [c2] = some z1 := by have := hgs 1 _ rfl; simpa [Value.cells, ck, ci] using this
  have g2 : DataW.trod enc Try.prog W 0 (fun _ => true) true n' 23 [c3] = some z2 := by have := hgs 2 _ rfl; simpa [Value.cells, ck, ci, cn] using this
  have g3 : DataW.trod enc Try.prog W 0 (fun _ => true) true n' 24 [c4] = some z3 := by have := hgs 3 _ rfl; simpa [Value.cells, ck, ci, cn, ct] using this
  obtain ⟨i0, j0, k0, ws, rfl, r0, rfl, l0, q0⟩ := openWkR g0
  obtain ⟨x1, e1, _, _⟩ := DataW.trod_int Try.underlying3 g1
  obtain ⟨i2, j2, k2, rv, rfl, r2, rfl, l2⟩ := openInR g2
  obtain ⟨i3, j3, k3, sg, rfl, r3, rfl, l3, q3⟩ := openStR g3
  have hsl : ∃ a n c, c5 = .slice a n c := by
    rcases open_slice Try.underlying39 h2 with ⟨hcs, _⟩ | ⟨x, n, c, m, k, D, Pl, hcs, _⟩
    · simp at hcs; exact ⟨_, _, _, hcs⟩
    · simp at hcs; exact ⟨_, _, _, hcs⟩
  obtain ⟨i4, j4, k4, rfl⟩ := hsl
  obtain ⟨ss, r4, rfl, l4, q4⟩ := openSsS (a := i4) (n := j4) (c := k4) (d := y2.1) (p := y2.2) ⟨n, h2⟩
  obtain ⟨i5, j5, k5, sc, rfl, r5, rfl, l5, q5⟩ := openGs (A := ScC) (fits := Sc.fits) Try.underlying40 cellsSidecar (by omega) (fun l y m hl h => openScC hl h) h3
  obtain ⟨i6, j6, k6, dl, rfl, r6, rfl, l6, q6⟩ := openGs (A := DvC) (fits := Dv.fits) Try.underlying41 cellsDelivery (by omega) (fun l y m hl h => openDvC hl h) h4
  simp at f0 e1
  subst f0 e1
  exact ⟨_, ⟨x0, ⟨ws, x1, rv, sg⟩, ss, sc, dl⟩, rfl, ⟨_, _, _, _, _, _, _, _, _, _, _, _, rfl, ⟨_, _, _, rfl, r0, r2, r3⟩, r4, r5, r6⟩, ⟨l0, q0, l2, l3, q3⟩, ⟨l4, q4⟩, ⟨l5, q5⟩, l6, q6⟩

set_option maxHeartbeats 4000000 in
set_option maxRecDepth 100000 in
theorem szMesh_any (cs : List Value) (m : Ms) (w : World) (hf : m.fits) (h : MsC w cs m) :
    Calls Try.prog 10 #[.agg cs.toArray, .int .i64 1048576] w fun e w' => e = .returned (.int .i64 (leftK 1048576 m.size)) ∧ Below w.heap.size w w' := by
  obtain ⟨p1a, p1b, p1c, p1d, p1e, p1f, p2x, p2z, p3x, p3z, p4x, p4z, rfl, h2, h3, h4, h5⟩ := h
  obtain ⟨f1, f2, f3, f4⟩ := hf
  have hB0 : Below w.heap.size w (w.alloc (.cells #[.int .i64 m.now, .slice p1a m.iss.ws.length p1b, .int .i64 m.iss.nx, .slice p1c m.iss.rv.length p1d, .slice p1e m.iss.sg.length p1f, .slice p2x m.vs.length p2z, .slice p3x m.sc.length p3z, .slice p4x m.dl.length p4z] 43)) := (Below.refl _ w).alloc (Nat.le_refl _) _
  have F1 := Eight.new w (.int .i64 m.now) (.slice p1a m.iss.ws.length p1b) (.int .i64 m.iss.nx) (.slice p1c m.iss.rv.length p1d) (.slice p1e m.iss.sg.length p1f) (.slice p2x m.vs.length p2z) (.slice p3x m.sc.length p3z) (.slice p4x m.dl.length p4z) 43
  have HI := hid (show leftK 1048576 m.size = if (m.size : Int) ≤ 1048576 then 1048576 - (m.size : Int) else (-1 : Int) from rfl)
  have HZ := hid (show m.size = m.iss.size + vzAll m.vs + gzAll Sc.size m.sc + gzAll Dv.size m.dl from rfl)
  obtain ⟨N1, HN1⟩ : ∃ N : Nat, Hid (N = m.iss.size) := ⟨_, hid rfl⟩
  obtain ⟨N2, HN2⟩ : ∃ N : Nat, Hid (N = vzAll m.vs) := ⟨_, hid rfl⟩
  obtain ⟨N3, HN3⟩ : ∃ N : Nat, Hid (N = gzAll Sc.size m.sc) := ⟨_, hid rfl⟩
  obtain ⟨N4, HN4⟩ : ∃ N : Nat, Hid (N = gzAll Dv.size m.dl) := ⟨_, hid rfl⟩
  go_enter Try.func10, Try.ntmps10
  go_wp2_with fail
  generalize w.alloc (.cells #[.int .i64 m.now, .slice p1a m.iss.ws.length p1b, .int .i64 m.iss.nx, .slice p1c m.iss.rv.length p1d, .slice p1e m.iss.sg.length p1f, .slice p2x m.vs.length p2z, .slice p3x m.sc.length p3z, .slice p4x m.dl.length p4z] 43) = W0 at *
  refine (szIssuer_any _ m.iss _ f1 (h2.below hB0)).mono ?_
  rintro e w2 ⟨rfl, hB2⟩
  replace F1 := F1.below hB2
  replace hB0 := below_one hB0 hB2
  clear hB2
  obtain ⟨a0, a1, a2, a3, a4, a5, a6, a7⟩ := F1.c
  by_cases c1 : (N1 : Int) ≤ 1048576
  · rw [show leftI 1048576 m.iss = 1048576 - (N1 : Int) from (show leftK (1048576) _ = _ by unfold leftK; rw [← HN1.out]; exact if_pos c1)]
    have d1 : decide (1048576 - (N1 : Int) < 0) = false := by simp; omega
    go_wp2_with fail
    refine (szSnapshotS_any _ m.vs (1048576 - (N1 : Int)) _ (by omega) (by omega) f2.1 f2.2 (h3.below hB0)).mono ?_
    rintro e w3 ⟨rfl, hB3⟩
    replace F1 := F1.below hB3
    replace hB0 := below_one hB0 hB3
    clear hB3
    clear a0 a1 a2 a3 a4 a5 a6 a7
    obtain ⟨a0, a1, a2, a3, a4, a5, a6, a7⟩ := F1.c
    by_cases c2 : (N2 : Int) ≤ 1048576 - (N1 : Int)
    · rw [show leftVS (1048576 - (N1 : Int)) m.vs = 1048576 - (N1 : Int) - (N2 : Int) from (show leftK (1048576 - (N1 : Int)) _ = _ by unfold leftK; rw [← HN2.out]; exact if_pos c2)]
      have d2 : decide (1048576 - (N1 : Int) - (N2 : Int) < 0) = false := by simp; omega
      go_wp2_with fail
      refine (szSidecarS_any _ m.sc (1048576 - (N1 : Int) - (N2 : Int)) _ (by omega) (by omega) f3.1 f3.2 (GsA.below h4 (fun _ _ h => h.below hB0) hB0)).mono ?_
      rintro e w4 ⟨rfl, hB4⟩
      replace F1 := F1.below hB4
      replace hB0 := below_one hB0 hB4
      clear hB4
      clear a0 a1 a2 a3 a4 a5 a6 a7
      obtain ⟨a0, a1, a2, a3, a4, a5, a6, a7⟩ := F1.c
      by_cases c3 : (N3 : Int) ≤ 1048576 - (N1 : Int) - (N2 : Int)
      · rw [show leftK (1048576 - (N1 : Int) - (N2 : Int)) (gzAll Sc.size m.sc) = 1048576 - (N1 : Int) - (N2 : Int) - (N3 : Int) from (show leftK (1048576 - (N1 : Int) - (N2 : Int)) _ = _ by unfold leftK; rw [← HN3.out]; exact if_pos c3)]
        have d3 : decide (1048576 - (N1 : Int) - (N2 : Int) - (N3 : Int) < 0) = false := by simp; omega
        go_wp2_with fail
        refine (szDeliveryS_any _ m.dl (1048576 - (N1 : Int) - (N2 : Int) - (N3 : Int)) _ (by omega) (by omega) f4.1 f4.2 (GsA.below h5 (fun _ _ h => h.below hB0) hB0)).mono ?_
        rintro e w5 ⟨rfl, hB5⟩
        replace F1 := F1.below hB5
        replace hB0 := below_one hB0 hB5
        clear hB5
        clear a0 a1 a2 a3 a4 a5 a6 a7
        obtain ⟨a0, a1, a2, a3, a4, a5, a6, a7⟩ := F1.c
        by_cases c4 : (N4 : Int) ≤ 1048576 - (N1 : Int) - (N2 : Int) - (N3 : Int)
        · rw [show leftK (1048576 - (N1 : Int) - (N2 : Int) - (N3 : Int)) (gzAll Dv.size m.dl) = 1048576 - (N1 : Int) - (N2 : Int) - (N3 : Int) - (N4 : Int) from (show leftK (1048576 - (N1 : Int) - (N2 : Int) - (N3 : Int)) _ = _ by unfold leftK; rw [← HN4.out]; exact if_pos c4)]
          have d4 : decide (1048576 - (N1 : Int) - (N2 : Int) - (N3 : Int) - (N4 : Int) < 0) = false := by simp; omega
          have HR := hid (show leftK 1048576 m.size = 1048576 - (N1 : Int) - (N2 : Int) - (N3 : Int) - (N4 : Int) by rw [HI.out, if_pos (by rw [HZ.out, ← HN1.out, ← HN2.out, ← HN3.out, ← HN4.out]; push_cast; omega)]; rw [HZ.out, ← HN1.out, ← HN2.out, ← HN3.out, ← HN4.out]; push_cast; omega)
          go_wp2_with fail
          go_ret
          exact ⟨ret_int HR.out.symm, hB0⟩
        · rw [show leftK (1048576 - (N1 : Int) - (N2 : Int) - (N3 : Int)) (gzAll Dv.size m.dl) = -1 from (show leftK (1048576 - (N1 : Int) - (N2 : Int) - (N3 : Int)) _ = _ by unfold leftK; rw [← HN4.out]; exact if_neg c4)]
          have HR := hid (show leftK 1048576 m.size = -1 by rw [HI.out, if_neg (by rw [HZ.out, ← HN1.out, ← HN2.out, ← HN3.out, ← HN4.out]; push_cast; omega)])
          go_wp2_with fail
          go_ret
          exact ⟨ret_int HR.out.symm, hB0⟩
      · rw [show leftK (1048576 - (N1 : Int) - (N2 : Int)) (gzAll Sc.size m.sc) = -1 from (show leftK (1048576 - (N1 : Int) - (N2 : Int)) _ = _ by unfold leftK; rw [← HN3.out]; exact if_neg c3)]
        have HR := hid (show leftK 1048576 m.size = -1 by rw [HI.out, if_neg (by rw [HZ.out, ← HN1.out, ← HN2.out, ← HN3.out, ← HN4.out]; push_cast; omega)])
        go_wp2_with fail
        go_ret
        exact ⟨ret_int HR.out.symm, hB0⟩
    · rw [show leftVS (1048576 - (N1 : Int)) m.vs = -1 from (show leftK (1048576 - (N1 : Int)) _ = _ by unfold leftK; rw [← HN2.out]; exact if_neg c2)]
      have HR := hid (show leftK 1048576 m.size = -1 by rw [HI.out, if_neg (by rw [HZ.out, ← HN1.out, ← HN2.out, ← HN3.out, ← HN4.out]; push_cast; omega)])
      go_wp2_with fail
      go_ret
      exact ⟨ret_int HR.out.symm, hB0⟩
  · rw [show leftI 1048576 m.iss = -1 from (show leftK (1048576) _ = _ by unfold leftK; rw [← HN1.out]; exact if_neg c1)]
    have HR := hid (show leftK 1048576 m.size = -1 by rw [HI.out, if_neg (by rw [HZ.out, ← HN1.out, ← HN2.out, ← HN3.out, ← HN4.out]; push_cast; omega)])
    go_wp2_with fail
    go_ret
    exact ⟨ret_int HR.out.symm, hB0⟩

set_option maxHeartbeats 4000000 in
set_option maxRecDepth 100000 in
theorem eqMesh_same (cs cs' : List Value) (m : Ms) (w : World) (hs : m.short) (h : MsC w cs m) (h' : MsC w cs' m) :
    Calls Try.prog 7 #[.agg cs.toArray, .agg cs'.toArray] w fun e w' => e = .returned (.bool true) ∧ Below w.heap.size w w' := by
  obtain ⟨p1a, p1b, p1c, p1d, p1e, p1f, p2x, p2z, p3x, p3z, p4x, p4z, rfl, h1, h2, h3, h4⟩ := h
  obtain ⟨q1a, q1b, q1c, q1d, q1e, q1f, q2x, q2z, q3x, q3z, q4x, q4z, rfl, h1', h2', h3', h4'⟩ := h'
  obtain ⟨s1, s2, s3, s4⟩ := hs
  have hB0 : Below w.heap.size w ((w.alloc (.cells #[.int .i64 m.now, .slice p1a m.iss.ws.length p1b, .int .i64 m.iss.nx, .slice p1c m.iss.rv.length p1d, .slice p1e m.iss.sg.length p1f, .slice p2x m.vs.length p2z, .slice p3x m.sc.length p3z, .slice p4x m.dl.length p4z] 31)).alloc (.cells #[.int .i64 m.now, .slice q1a m.iss.ws.length q1b, .int .i64 m.iss.nx, .slice q1c m.iss.rv.length q1d, .slice q1e m.iss.sg.length q1f, .slice q2x m.vs.length q2z, .slice q3x m.sc.length q3z, .slice q4x m.dl.length q4z] 31)) := ((Below.refl _ w).alloc (Nat.le_refl _) _).alloc (by simp) _
  have F1 := (Eight.new w (.int .i64 m.now) (.slice p1a m.iss.ws.length p1b) (.int .i64 m.iss.nx) (.slice p1c m.iss.rv.length p1d) (.slice p1e m.iss.sg.length p1f) (.slice p2x m.vs.length p2z) (.slice p3x m.sc.length p3z) (.slice p4x m.dl.length p4z) 31).below ((Below.refl _ _).alloc (Nat.le_refl _) (.cells #[.int .i64 m.now, .slice q1a m.iss.ws.length q1b, .int .i64 m.iss.nx, .slice q1c m.iss.rv.length q1d, .slice q1e m.iss.sg.length q1f, .slice q2x m.vs.length q2z, .slice q3x m.sc.length q3z, .slice q4x m.dl.length q4z] 31))
  have F2 := Eight.at (w.alloc (.cells #[.int .i64 m.now, .slice p1a m.iss.ws.length p1b, .int .i64 m.iss.nx, .slice p1c m.iss.rv.length p1d, .slice p1e m.iss.sg.length p1f, .slice p2x m.vs.length p2z, .slice p3x m.sc.length p3z, .slice p4x m.dl.length p4z] 31)) (.int .i64 m.now) (.slice q1a m.iss.ws.length q1b) (.int .i64 m.iss.nx) (.slice q1c m.iss.rv.length q1d) (.slice q1e m.iss.sg.length q1f) (.slice q2x m.vs.length q2z) (.slice q3x m.sc.length q3z) (.slice q4x m.dl.length q4z) 31 (k := w.heap.size + 1) (by simp)
  have e0 : (m.now != m.now) = false := by simp
  go_enter Try.func7, Try.ntmps7
  go_wp2_with fail
  generalize (w.alloc (.cells #[.int .i64 m.now, .slice p1a m.iss.ws.length p1b, .int .i64 m.iss.nx, .slice p1c m.iss.rv.length p1d, .slice p1e m.iss.sg.length p1f, .slice p2x m.vs.length p2z, .slice p3x m.sc.length p3z, .slice p4x m.dl.length p4z] 31)).alloc (.cells #[.int .i64 m.now, .slice q1a m.iss.ws.length q1b, .int .i64 m.iss.nx, .slice q1c m.iss.rv.length q1d, .slice q1e m.iss.sg.length q1f, .slice q2x m.vs.length q2z, .slice q3x m.sc.length q3z, .slice q4x m.dl.length q4z] 31) = W0 at *
  refine (eqIssuer_same _ _ m.iss _ (Is.short_of s1) (h1.below hB0) (h1'.below hB0)).mono ?_
  rintro e w2 ⟨rfl, hB2⟩
  replace F1 := F1.below hB2
  replace F2 := F2.below hB2
  replace hB0 := below_one hB0 hB2
  clear hB2
  obtain ⟨a0, a1, a2, a3, a4, a5, a6, a7⟩ := F1.c
  obtain ⟨c0, c1, c2, c3, c4, c5, c6, c7⟩ := F2.c
  go_wp2_with fail
  refine (eqSnapshotS_same _ _ m.vs _ s2 (h2.below hB0) (h2'.below hB0)).mono ?_
  rintro e w3 ⟨rfl, hB3⟩
  clear a0 a1 a2 a3 a4 a5 a6 a7 c0 c1 c2 c3 c4 c5 c6 c7
  replace F1 := F1.below hB3
  replace F2 := F2.below hB3
  replace hB0 := below_one hB0 hB3
  clear hB3
  obtain ⟨a0, a1, a2, a3, a4, a5, a6, a7⟩ := F1.c
  obtain ⟨c0, c1, c2, c3, c4, c5, c6, c7⟩ := F2.c
  go_wp2_with fail
  refine (eqSidecarS_same _ _ m.sc _ s3 (GsA.below h3 (fun _ _ h => h.below hB0) hB0) (GsA.below h3' (fun _ _ h => h.below hB0) hB0)).mono ?_
  rintro e w4 ⟨rfl, hB4⟩
  clear a0 a1 a2 a3 a4 a5 a6 a7 c0 c1 c2 c3 c4 c5 c6 c7
  replace F1 := F1.below hB4
  replace F2 := F2.below hB4
  replace hB0 := below_one hB0 hB4
  clear hB4
  obtain ⟨a0, a1, a2, a3, a4, a5, a6, a7⟩ := F1.c
  obtain ⟨c0, c1, c2, c3, c4, c5, c6, c7⟩ := F2.c
  go_wp2_with fail
  refine (eqDeliveryS_same _ _ m.dl _ s4 (GsA.below h4 (fun _ _ h => h.below hB0) hB0) (GsA.below h4' (fun _ _ h => h.below hB0) hB0)).mono ?_
  rintro e w5 ⟨rfl, hB5⟩
  clear a0 a1 a2 a3 a4 a5 a6 a7 c0 c1 c2 c3 c4 c5 c6 c7
  replace F1 := F1.below hB5
  replace F2 := F2.below hB5
  replace hB0 := below_one hB0 hB5
  clear hB5
  obtain ⟨a0, a1, a2, a3, a4, a5, a6, a7⟩ := F1.c
  obtain ⟨c0, c1, c2, c3, c4, c5, c6, c7⟩ := F2.c
  go_wp2_with fail
  go_ret
  exact ⟨rfl, hB0⟩

set_option maxHeartbeats 16000000 in
set_option maxRecDepth 100000 in
theorem toMesh_any (cs : List Value) (m : Ms) (w : World) (hs : m.short) (h : MsC w cs m) :
    Calls Try.prog 12 #[.agg cs.toArray] w fun e w' => ∃ cs', e = .returned (.agg cs'.toArray) ∧ MsO w' w.heap.size w'.heap.size cs' m ∧ Below w.heap.size w w' := by
  obtain ⟨p1a, p1b, p1c, p1d, p1e, p1f, p2x, p2z, p3x, p3z, p4x, p4z, rfl, h1, h2, h3, h4⟩ := h
  obtain ⟨s1, s2, s3, s4⟩ := hs
  have hB0 : Below w.heap.size w (((w.alloc (.cells #[.int .i64 m.now, .slice p1a m.iss.ws.length p1b, .int .i64 m.iss.nx, .slice p1c m.iss.rv.length p1d, .slice p1e m.iss.sg.length p1f, .slice p2x m.vs.length p2z, .slice p3x m.sc.length p3z, .slice p4x m.dl.length p4z] 43)).alloc (.cells #[.int .i64 0, .slice none 0 0, .int .i64 0, .slice none 0 0, .slice none 0 0, .slice none 0 0, .slice none 0 0, .slice none 0 0] 31)).alloc (.cells #[.int .i64 m.now, .slice none 0 0, .int .i64 0, .slice none 0 0, .slice none 0 0, .slice none 0 0, .slice none 0 0, .slice none 0 0] 31)) := (((Below.refl _ w).alloc (Nat.le_refl _) _).alloc (by simp) _).alloc (by simp; omega) _
  have F1 := ((Eight.new w (.int .i64 m.now) (.slice p1a m.iss.ws.length p1b) (.int .i64 m.iss.nx) (.slice p1c m.iss.rv.length p1d) (.slice p1e m.iss.sg.length p1f) (.slice p2x m.vs.length p2z) (.slice p3x m.sc.length p3z) (.slice p4x m.dl.length p4z) 43).below ((Below.refl _ _).alloc (Nat.le_refl _) (.cells #[.int .i64 0, .slice none 0 0, .int .i64 0, .slice none 0 0, .slice none 0 0, .slice none 0 0, .slice none 0 0, .slice none 0 0] 31))).below ((Below.refl _ _).alloc (Nat.le_refl _) (.cells #[.int .i64 m.now, .slice none 0 0, .int .i64 0, .slice none 0 0, .slice none 0 0, .slice none 0 0, .slice none 0 0, .slice none 0 0] 31))
  have F2 := (Eight.at (w.alloc (.cells #[.int .i64 m.now, .slice p1a m.iss.ws.length p1b, .int .i64 m.iss.nx, .slice p1c m.iss.rv.length p1d, .slice p1e m.iss.sg.length p1f, .slice p2x m.vs.length p2z, .slice p3x m.sc.length p3z, .slice p4x m.dl.length p4z] 43)) (.int .i64 0) (.slice none 0 0) (.int .i64 0) (.slice none 0 0) (.slice none 0 0) (.slice none 0 0) (.slice none 0 0) (.slice none 0 0) 31 (k := w.heap.size + 1) (by simp)).below ((Below.refl _ _).alloc (Nat.le_refl _) (.cells #[.int .i64 m.now, .slice none 0 0, .int .i64 0, .slice none 0 0, .slice none 0 0, .slice none 0 0, .slice none 0 0, .slice none 0 0] 31))
  have F3 := Eight.at ((w.alloc (.cells #[.int .i64 m.now, .slice p1a m.iss.ws.length p1b, .int .i64 m.iss.nx, .slice p1c m.iss.rv.length p1d, .slice p1e m.iss.sg.length p1f, .slice p2x m.vs.length p2z, .slice p3x m.sc.length p3z, .slice p4x m.dl.length p4z] 43)).alloc (.cells #[.int .i64 0, .slice none 0 0, .int .i64 0, .slice none 0 0, .slice none 0 0, .slice none 0 0, .slice none 0 0, .slice none 0 0] 31)) (.int .i64 m.now) (.slice none 0 0) (.int .i64 0) (.slice none 0 0) (.slice none 0 0) (.slice none 0 0) (.slice none 0 0) (.slice none 0 0) 31 (k := w.heap.size + 1 + 1) (by simp)
  have hK : w.heap.size + 1 + 1 < (((w.alloc (.cells #[.int .i64 m.now, .slice p1a m.iss.ws.length p1b, .int .i64 m.iss.nx, .slice p1c m.iss.rv.length p1d, .slice p1e m.iss.sg.length p1f, .slice p2x m.vs.length p2z, .slice p3x m.sc.length p3z, .slice p4x m.dl.length p4z] 43)).alloc (.cells #[.int .i64 0, .slice none 0 0, .int .i64 0, .slice none 0 0, .slice none 0 0, .slice none 0 0, .slice none 0 0, .slice none 0 0] 31)).alloc (.cells #[.int .i64 m.now, .slice none 0 0, .int .i64 0, .slice none 0 0, .slice none 0 0, .slice none 0 0, .slice none 0 0, .slice none 0 0] 31)).heap.size := F3.lt
  go_enter Try.func12, Try.ntmps12
  go_wp2_with fail
  generalize ((w.alloc (.cells #[.int .i64 m.now, .slice p1a m.iss.ws.length p1b, .int .i64 m.iss.nx, .slice p1c m.iss.rv.length p1d, .slice p1e m.iss.sg.length p1f, .slice p2x m.vs.length p2z, .slice p3x m.sc.length p3z, .slice p4x m.dl.length p4z] 43)).alloc (.cells #[.int .i64 0, .slice none 0 0, .int .i64 0, .slice none 0 0, .slice none 0 0, .slice none 0 0, .slice none 0 0, .slice none 0 0] 31)).alloc (.cells #[.int .i64 m.now, .slice none 0 0, .int .i64 0, .slice none 0 0, .slice none 0 0, .slice none 0 0, .slice none 0 0, .slice none 0 0] 31) = W0 at *
  refine (toIssuer_any _ m.iss _ s1 (h1.below hB0)).mono ?_
  rintro e w1 ⟨v1, rfl, o1, hB1⟩
  obtain ⟨r1a, r1b, r1c, r1d, r1e, r1f, rfl⟩ := is_frm o1.a
  replace F1 := F1.below hB1
  replace F2 := F2.below hB1
  replace F3 := F3.below hB1
  replace hB0 := below_one hB0 hB1
  have hs1 := hB1.size
  clear hB1
  obtain ⟨a0, a1, a2, a3, a4, a5, a6, a7⟩ := F1.c
  obtain ⟨c0, c1, c2, c3, c4, c5, c6, c7⟩ := F3.c
  have f1 := F3.f 1
  have f2 := F3.f 2
  have f3 := F3.f 3
  have f4 := F3.f 4
  go_wp2_with fail
  clear a0 a1 a2 a3 a4 a5 a6 a7 c0 c1 c2 c3 c4 c5 c6 c7 f1 f2 f3 f4
  have M1 : Mid (w.heap.size + 1 + 1) (w.heap.size + 1 + 1 + 1) w1 ((((w1.setCell ⟨w.heap.size + 1 + 1, 1, none⟩ (.slice r1a m.iss.ws.length r1b)).setCell ⟨w.heap.size + 1 + 1, 2, none⟩ (.int .i64 m.iss.nx)).setCell ⟨w.heap.size + 1 + 1, 3, none⟩ (.slice r1c m.iss.rv.length r1d)).setCell ⟨w.heap.size + 1 + 1, 4, none⟩ (.slice r1e m.iss.sg.length r1f)) := (((((Mid.of_below (Below.refl _ _)).set (p := ⟨w.heap.size + 1 + 1, 1, none⟩) (by simp) (by simp) (.slice r1a m.iss.ws.length r1b)).set (p := ⟨w.heap.size + 1 + 1, 2, none⟩) (by simp) (by simp) (.int .i64 m.iss.nx)).set (p := ⟨w.heap.size + 1 + 1, 3, none⟩) (by simp) (by simp) (.slice r1c m.iss.rv.length r1d)).set (p := ⟨w.heap.size + 1 + 1, 4, none⟩) (by simp) (by simp) (.slice r1e m.iss.sg.length r1f))
  replace F1 := M1.eight F1 (.inl (by omega))
  replace F2 := M1.eight F2 (.inl (by omega))
  replace F3 := ((((F3.s1 (.slice r1a m.iss.ws.length r1b)).s2 (.int .i64 m.iss.nx)).s3 (.slice r1c m.iss.rv.length r1d)).s4 (.slice r1e m.iss.sg.length r1f))
  replace hB0 := ((((hB0.setCell (p := ⟨w.heap.size + 1 + 1, 1, none⟩) (by simp; omega) (.slice r1a m.iss.ws.length r1b)).setCell (p := ⟨w.heap.size + 1 + 1, 2, none⟩) (by simp; omega) (.int .i64 m.iss.nx)).setCell (p := ⟨w.heap.size + 1 + 1, 3, none⟩) (by simp; omega) (.slice r1c m.iss.rv.length r1d)).setCell (p := ⟨w.heap.size + 1 + 1, 4, none⟩) (by simp; omega) (.slice r1e m.iss.sg.length r1f))
  replace o1 := Mid.iso M1 o1 (.inl (by omega))
  have hq1 : w1.heap.size ≤ ((((w1.setCell ⟨w.heap.size + 1 + 1, 1, none⟩ (.slice r1a m.iss.ws.length r1b)).setCell ⟨w.heap.size + 1 + 1, 2, none⟩ (.int .i64 m.iss.nx)).setCell ⟨w.heap.size + 1 + 1, 3, none⟩ (.slice r1c m.iss.rv.length r1d)).setCell ⟨w.heap.size + 1 + 1, 4, none⟩ (.slice r1e m.iss.sg.length r1f)).heap.size := by simp
  have hp1 : ((((w1.setCell ⟨w.heap.size + 1 + 1, 1, none⟩ (.slice r1a m.iss.ws.length r1b)).setCell ⟨w.heap.size + 1 + 1, 2, none⟩ (.int .i64 m.iss.nx)).setCell ⟨w.heap.size + 1 + 1, 3, none⟩ (.slice r1c m.iss.rv.length r1d)).setCell ⟨w.heap.size + 1 + 1, 4, none⟩ (.slice r1e m.iss.sg.length r1f)).heap.size ≤ w1.heap.size := by simp
  clear M1
  generalize (((w1.setCell ⟨w.heap.size + 1 + 1, 1, none⟩ (.slice r1a m.iss.ws.length r1b)).setCell ⟨w.heap.size + 1 + 1, 2, none⟩ (.int .i64 m.iss.nx)).setCell ⟨w.heap.size + 1 + 1, 3, none⟩ (.slice r1c m.iss.rv.length r1d)).setCell ⟨w.heap.size + 1 + 1, 4, none⟩ (.slice r1e m.iss.sg.length r1f) = W1 at *
  refine (toSnapshotS_any _ m.vs _ s2 (h2.below hB0)).mono ?_
  rintro e w2 ⟨v2, rfl, o2, hB2⟩
  obtain ⟨r2x, r2z, rfl⟩ := o2.a.len
  replace F1 := F1.below hB2
  replace F2 := F2.below hB2
  replace F3 := F3.below hB2
  replace o1 := IsO.below o1 hB2
  replace hB0 := below_one hB0 hB2
  have hs2 := hB2.size
  clear hB2
  obtain ⟨a0, a1, a2, a3, a4, a5, a6, a7⟩ := F1.c
  obtain ⟨c0, c1, c2, c3, c4, c5, c6, c7⟩ := F3.c
  have f5 := F3.f 5
  go_wp2_with fail
  clear a0 a1 a2 a3 a4 a5 a6 a7 c0 c1 c2 c3 c4 c5 c6 c7 f5
  have M2 : Mid (w.heap.size + 1 + 1) (w.heap.size + 1 + 1 + 1) w2 (w2.setCell ⟨w.heap.size + 1 + 1, 5, none⟩ (.slice r2x m.vs.length r2z)) := ((Mid.of_below (Below.refl _ _)).set (p := ⟨w.heap.size + 1 + 1, 5, none⟩) (by simp) (by simp) (.slice r2x m.vs.length r2z))
  replace F1 := M2.eight F1 (.inl (by omega))
  replace F2 := M2.eight F2 (.inl (by omega))
  replace F3 := (F3.s5 (.slice r2x m.vs.length r2z))
  replace hB0 := (hB0.setCell (p := ⟨w.heap.size + 1 + 1, 5, none⟩) (by simp; omega) (.slice r2x m.vs.length r2z))
  replace o1 := Mid.iso M2 o1 (.inl (by omega))
  replace o2 := Mid.sso M2 o2 (.inl (by omega))
  have hq2 : w2.heap.size ≤ (w2.setCell ⟨w.heap.size + 1 + 1, 5, none⟩ (.slice r2x m.vs.length r2z)).heap.size := by simp
  have hp2 : (w2.setCell ⟨w.heap.size + 1 + 1, 5, none⟩ (.slice r2x m.vs.length r2z)).heap.size ≤ w2.heap.size := by simp
  clear M2
  generalize w2.setCell ⟨w.heap.size + 1 + 1, 5, none⟩ (.slice r2x m.vs.length r2z) = W2 at *
  refine (toSidecarS_any _ m.sc _ s3 (GsA.below h3 (fun _ _ h => h.below hB0) hB0)).mono ?_
  rintro e w3 ⟨v3, rfl, o3, hB3⟩
  obtain ⟨r3x, r3z, rfl⟩ := GsO.len o3
  replace F1 := F1.below hB3
  replace F2 := F2.below hB3
  replace F3 := F3.below hB3
  replace o1 := IsO.below o1 hB3
  replace o2 := SsO.below o2 hB3
  replace hB0 := below_one hB0 hB3
  have hs3 := hB3.size
  clear hB3
  obtain ⟨a0, a1, a2, a3, a4, a5, a6, a7⟩ := F1.c
  obtain ⟨c0, c1, c2, c3, c4, c5, c6, c7⟩ := F3.c
  have f6 := F3.f 6
  go_wp2_with fail
  clear a0 a1 a2 a3 a4 a5 a6 a7 c0 c1 c2 c3 c4 c5 c6 c7 f6
  have M3 : Mid (w.heap.size + 1 + 1) (w.heap.size + 1 + 1 + 1) w3 (w3.setCell ⟨w.heap.size + 1 + 1, 6, none⟩ (.slice r3x m.sc.length r3z)) := ((Mid.of_below (Below.refl _ _)).set (p := ⟨w.heap.size + 1 + 1, 6, none⟩) (by simp) (by simp) (.slice r3x m.sc.length r3z))
  replace F1 := M3.eight F1 (.inl (by omega))
  replace F2 := M3.eight F2 (.inl (by omega))
  replace F3 := (F3.s6 (.slice r3x m.sc.length r3z))
  replace hB0 := (hB0.setCell (p := ⟨w.heap.size + 1 + 1, 6, none⟩) (by simp; omega) (.slice r3x m.sc.length r3z))
  replace o1 := Mid.iso M3 o1 (.inl (by omega))
  replace o2 := Mid.sso M3 o2 (.inl (by omega))
  replace o3 := GsO.mid o3 (fun _ _ _ _ h ho => h.mid M3 ho) M3 (.inl (by omega))
  have hq3 : w3.heap.size ≤ (w3.setCell ⟨w.heap.size + 1 + 1, 6, none⟩ (.slice r3x m.sc.length r3z)).heap.size := by simp
  have hp3 : (w3.setCell ⟨w.heap.size + 1 + 1, 6, none⟩ (.slice r3x m.sc.length r3z)).heap.size ≤ w3.heap.size := by simp
  clear M3
  generalize w3.setCell ⟨w.heap.size + 1 + 1, 6, none⟩ (.slice r3x m.sc.length r3z) = W3 at *
  refine (toDeliveryS_any _ m.dl _ s4 (GsA.below h4 (fun _ _ h => h.below hB0) hB0)).mono ?_
  rintro e w4 ⟨v4, rfl, o4, hB4⟩
  obtain ⟨r4x, r4z, rfl⟩ := GsO.len o4
  replace F1 := F1.below hB4
  replace F2 := F2.below hB4
  replace F3 := F3.below hB4
  replace o1 := IsO.below o1 hB4
  replace o2 := SsO.below o2 hB4
  replace o3 := GsO.mid o3 (fun _ _ _ _ h _ => h.below hB4) (Mid.of_below (lo := 0) (hi := 0) hB4) (.inl (Nat.zero_le _))
  replace hB0 := below_one hB0 hB4
  have hs4 := hB4.size
  clear hB4
  obtain ⟨a0, a1, a2, a3, a4, a5, a6, a7⟩ := F1.c
  obtain ⟨c0, c1, c2, c3, c4, c5, c6, c7⟩ := F3.c
  have f7 := F3.f 7
  have G3 := (F3.s7 (.slice r4x m.dl.length r4z))
  have G2 := (F2.other (k' := w.heap.size + 1 + 1) (by omega) 7 (.slice r4x m.dl.length r4z))
  obtain ⟨m0, m1, m2, m3, m4, m5, m6, m7⟩ := G3.c
  obtain ⟨t0, t1, t2, t3, t4, t5, t6, t7⟩ := G2.c
  have g0 := G2.f 0
  have g1 := G2.f 1
  have g2 := G2.f 2
  have g3 := G2.f 3
  have g4 := G2.f 4
  have g5 := G2.f 5
  have g6 := G2.f 6
  have g7 := G2.f 7
  have G := ((((((((G2.s0 (.int .i64 m.now)).s1 (.slice r1a m.iss.ws.length r1b)).s2 (.int .i64 m.iss.nx)).s3 (.slice r1c m.iss.rv.length r1d)).s4 (.slice r1e m.iss.sg.length r1f)).s5 (.slice r2x m.vs.length r2z)).s6 (.slice r3x m.sc.length r3z)).s7 (.slice r4x m.dl.length r4z))
  have M9 : Mid (w.heap.size + 1) (w.heap.size + 1 + 1 + 1) w4 (((((((((w4.setCell ⟨w.heap.size + 1 + 1, 7, none⟩ (.slice r4x m.dl.length r4z)).setCell ⟨w.heap.size + 1, 0, none⟩ (.int .i64 m.now)).setCell ⟨w.heap.size + 1, 1, none⟩ (.slice r1a m.iss.ws.length r1b)).setCell ⟨w.heap.size + 1, 2, none⟩ (.int .i64 m.iss.nx)).setCell ⟨w.heap.size + 1, 3, none⟩ (.slice r1c m.iss.rv.length r1d)).setCell ⟨w.heap.size + 1, 4, none⟩ (.slice r1e m.iss.sg.length r1f)).setCell ⟨w.heap.size + 1, 5, none⟩ (.slice r2x m.vs.length r2z)).setCell ⟨w.heap.size + 1, 6, none⟩ (.slice r3x m.sc.length r3z)).setCell ⟨w.heap.size + 1, 7, none⟩ (.slice r4x m.dl.length r4z)) := ((((((((((Mid.of_below (Below.refl _ _)).set (p := ⟨w.heap.size + 1 + 1, 7, none⟩) (by simp) (by simp) (.slice r4x m.dl.length r4z)).set (p := ⟨w.heap.size + 1, 0, none⟩) (by simp) (by simp) (.int .i64 m.now)).set (p := ⟨w.heap.size + 1, 1, none⟩) (by simp) (by simp) (.slice r1a m.iss.ws.length r1b)).set (p := ⟨w.heap.size + 1, 2, none⟩) (by simp) (by simp) (.int .i64 m.iss.nx)).set (p := ⟨w.heap.size + 1, 3, none⟩) (by simp) (by simp) (.slice r1c m.iss.rv.length r1d)).set (p := ⟨w.heap.size + 1, 4, none⟩) (by simp) (by simp) (.slice r1e m.iss.sg.length r1f)).set (p := ⟨w.heap.size + 1, 5, none⟩) (by simp) (by simp) (.slice r2x m.vs.length r2z)).set (p := ⟨w.heap.size + 1, 6, none⟩) (by simp) (by simp) (.slice r3x m.sc.length r3z)).set (p := ⟨w.heap.size + 1, 7, none⟩) (by simp) (by simp) (.slice r4x m.dl.length r4z))
  replace o1 := Mid.iso M9 o1 (.inl (by omega))
  replace o2 := Mid.sso M9 o2 (.inl (by omega))
  replace o3 := GsO.mid o3 (fun _ _ _ _ h ho => h.mid M9 ho) M9 (.inl (by omega))
  replace o4 := GsO.mid o4 (fun _ _ _ _ h ho => h.mid M9 ho) M9 (.inl (by omega))
  replace hB0 := (((((((((hB0.setCell (p := ⟨w.heap.size + 1 + 1, 7, none⟩) (by simp; omega) (.slice r4x m.dl.length r4z)).setCell (p := ⟨w.heap.size + 1, 0, none⟩) (by simp) (.int .i64 m.now)).setCell (p := ⟨w.heap.size + 1, 1, none⟩) (by simp) (.slice r1a m.iss.ws.length r1b)).setCell (p := ⟨w.heap.size + 1, 2, none⟩) (by simp) (.int .i64 m.iss.nx)).setCell (p := ⟨w.heap.size + 1, 3, none⟩) (by simp) (.slice r1c m.iss.rv.length r1d)).setCell (p := ⟨w.heap.size + 1, 4, none⟩) (by simp) (.slice r1e m.iss.sg.length r1f)).setCell (p := ⟨w.heap.size + 1, 5, none⟩) (by simp) (.slice r2x m.vs.length r2z)).setCell (p := ⟨w.heap.size + 1, 6, none⟩) (by simp) (.slice r3x m.sc.length r3z)).setCell (p := ⟨w.heap.size + 1, 7, none⟩) (by simp) (.slice r4x m.dl.length r4z))
  have hE : w4.heap.size ≤ (((((((((w4.setCell ⟨w.heap.size + 1 + 1, 7, none⟩ (.slice r4x m.dl.length r4z)).setCell ⟨w.heap.size + 1, 0, none⟩ (.int .i64 m.now)).setCell ⟨w.heap.size + 1, 1, none⟩ (.slice r1a m.iss.ws.length r1b)).setCell ⟨w.heap.size + 1, 2, none⟩ (.int .i64 m.iss.nx)).setCell ⟨w.heap.size + 1, 3, none⟩ (.slice r1c m.iss.rv.length r1d)).setCell ⟨w.heap.size + 1, 4, none⟩ (.slice r1e m.iss.sg.length r1f)).setCell ⟨w.heap.size + 1, 5, none⟩ (.slice r2x m.vs.length r2z)).setCell ⟨w.heap.size + 1, 6, none⟩ (.slice r3x m.sc.length r3z)).setCell ⟨w.heap.size + 1, 7, none⟩ (.slice r4x m.dl.length r4z)).heap.size := by simp
  have hW0 : w.heap.size ≤ W0.heap.size := by omega
  clear F1 F2 F3 M9
  go_wp2_with fail
  clear a0 a1 a2 a3 a4 a5 a6 a7 c0 c1 c2 c3 c4 c5 c6 c7 f7 m0 m1 m2 m3 m4 m5 m6 m7 t0 t1 t2 t3 t4 t5 t6 t7 g0 g1 g2 g3 g4 g5 g6 g7
  generalize ((((((((w4.setCell ⟨w.heap.size + 1 + 1, 7, none⟩ (.slice r4x m.dl.length r4z)).setCell ⟨w.heap.size + 1, 0, none⟩ (.int .i64 m.now)).setCell ⟨w.heap.size + 1, 1, none⟩ (.slice r1a m.iss.ws.length r1b)).setCell ⟨w.heap.size + 1, 2, none⟩ (.int .i64 m.iss.nx)).setCell ⟨w.heap.size + 1, 3, none⟩ (.slice r1c m.iss.rv.length r1d)).setCell ⟨w.heap.size + 1, 4, none⟩ (.slice r1e m.iss.sg.length r1f)).setCell ⟨w.heap.size + 1, 5, none⟩ (.slice r2x m.vs.length r2z)).setCell ⟨w.heap.size + 1, 6, none⟩ (.slice r3x m.sc.length r3z)).setCell ⟨w.heap.size + 1, 7, none⟩ (.slice r4x m.dl.length r4z) = WE at *
  obtain ⟨d0, d1, d2, d3, d4, d5, d6, d7⟩ := G.c
  exact bodyPost_ret (v := .agg #[.int .i64 m.now, .slice r1a m.iss.ws.length r1b, .int .i64 m.iss.nx, .slice r1c m.iss.rv.length r1d, .slice r1e m.iss.sg.length r1f, .slice r2x m.vs.length r2z, .slice r3x m.sc.length r3z, .slice r4x m.dl.length r4z]) (by simp [results, Try.results12, go_sem, d0, d1, d2, d3, d4, d5, d6, d7]) rfl ⟨_, rfl, ⟨_, _, _, _, _, _, _, _, _, _, _, _, w1.heap.size, w2.heap.size, w3.heap.size, rfl, by omega, by omega, by omega, by omega, IsO.mono o1 (by omega) (by omega), SsO.mono o2 (by omega) (by omega), GsO.mono o3 (by omega) (by omega), GsO.mono o4 (by omega) (by omega)⟩, hB0⟩

end Go.Proofs.Ytnbojbcljfiamaa

namespace Go.Proofs.Ytnbojbcljfiamaa.fnExactNewMesh
open Go.ChangeShapes Go.WideShapes Go.ChangeAt Go.RowKit Go.Joins Go.Deep Go.Proofs.Ytnbojbcljfiamaa
open Go.ChangeMaps (open_string shut_string)

theorem own : ownKnob Try.prog.godebug = none := by kernel_rfl
theorem laidOut : laidOutB Try.prog = true := by kernel_rfl

def new : Is := ⟨[], 1, [], []⟩
theorem new_o (w : World) (base top : Nat) : IsO w base top (.agg #[.slice none 0 0, .int .i64 1, .slice none 0 0, .slice none 0 0]) new :=
  ⟨_, _, _, rfl, World.ownsRow_nil _ _ _ _, World.ownsRow_nil _ _ _ _, World.ownsRow_nil _ _ _ _, fun _ h => by simp [Value.ownBlock] at h, fun _ h => by simp [Value.ownBlock] at h, fun _ h => by simp [Value.ownBlock] at h⟩
theorem new_short : new.short := ⟨by decide, by decide, by decide⟩
theorem mk_new (k : Nat) : mkIs k new = new := by
  unfold mkIs new mkWs mkN mkS
  simp

theorem implNew (w : World) :
    Calls Try.prog 18 #[] w fun e w' => e = .returned (.agg #[.slice none 0 0, .int .i64 1, .slice none 0 0, .slice none 0 0]) ∧ Below w.heap.size w w' := by
  go_enter Try.func18, Try.ntmps18
  go_wp2
  exact bodyPost_ret (v := .agg #[.slice none 0 0, .int .i64 1, .slice none 0 0, .slice none 0 0]) (by simp [results, Try.results18, go_sem]) rfl ⟨rfl, (Below.refl _ w).alloc (Nat.le_refl _) _⟩

theorem specNew (w : World) :
    Calls Try.prog 17 #[] w fun e w' => e = .returned (.agg #[.slice none 0 0, .int .i64 1, .slice none 0 0, .slice none 0 0]) ∧ Below w.heap.size w w' := by
  go_enter Try.func17, Try.ntmps17
  go_wp2
  exact bodyPost_ret (v := .agg #[.slice none 0 0, .int .i64 1, .slice none 0 0, .slice none 0 0]) (by simp [results, Try.results17, go_sem]) rfl ⟨rfl, (Below.refl _ w).alloc (Nat.le_refl _) _⟩

def newM : Ms := ⟨0, new, [], [], []⟩
theorem new_short' : newM.short := ⟨by decide, ⟨by decide, fun _ h => by cases h⟩, ⟨by decide, fun _ h => by cases h⟩, by decide, fun _ h => by cases h⟩
theorem newM_c (w : World) : MsC w [.int .i64 0, .slice none 0 0, .int .i64 1, .slice none 0 0, .slice none 0 0, .slice none 0 0, .slice none 0 0, .slice none 0 0] newM :=
  ⟨none, 0, none, 0, none, 0, none, 0, none, 0, none, 0, rfl, (new_o w 0 0).a, .inl ⟨_, _, rfl, rfl⟩, .inl ⟨_, _, rfl, rfl⟩, .inl ⟨_, _, rfl, rfl⟩⟩

theorem implNewM (w : World) :
    Calls Try.prog 6 #[] w fun e w' => e = .returned (.agg #[.int .i64 0, .slice none 0 0, .int .i64 1, .slice none 0 0, .slice none 0 0, .slice none 0 0, .slice none 0 0, .slice none 0 0]) ∧ Below w.heap.size w w' := by
  have hBa : Below w.heap.size w (w.alloc (.cells #[.int .i64 0, .slice none 0 0, .int .i64 0, .slice none 0 0, .slice none 0 0, .slice none 0 0, .slice none 0 0, .slice none 0 0] 31)) := (Below.refl _ w).alloc (Nat.le_refl _) _
  have F := Eight.new w (.int .i64 0) (.slice none 0 0) (.int .i64 0) (.slice none 0 0) (.slice none 0 0) (.slice none 0 0) (.slice none 0 0) (.slice none 0 0) 31
  go_enter Try.func6, Try.ntmps6
  go_wp2_with fail
  generalize w.alloc (.cells #[.int .i64 0, .slice none 0 0, .int .i64 0, .slice none 0 0, .slice none 0 0, .slice none 0 0, .slice none 0 0, .slice none 0 0] 31) = W0 at *
  refine (implNew _).mono ?_
  rintro e w1 ⟨rfl, hB1⟩
  replace F := F.below hB1
  replace hBa := below_one hBa hB1
  obtain ⟨a0, a1, a2, a3, a4, a5, a6, a7⟩ := F.c
  have f0 := F.f 0
  have f1 := F.f 1
  have f2 := F.f 2
  have f3 := F.f 3
  have f4 := F.f 4
  have f5 := F.f 5
  have f6 := F.f 6
  have f7 := F.f 7
  go_wp2_with fail
  have G := (((((((F.s0 (.int .i64 0)).s1 (.slice none 0 0)).s2 (.int .i64 1)).s3 (.slice none 0 0)).s4 (.slice none 0 0)).s5 (.slice none 0 0)).s6 (.slice none 0 0)).s7 (.slice none 0 0)
  have hE := below_eight hBa (k := w.heap.size) (Nat.le_refl _) (.int .i64 0) (.slice none 0 0) (.int .i64 1) (.slice none 0 0) (.slice none 0 0) (.slice none 0 0) (.slice none 0 0) (.slice none 0 0)
  obtain ⟨d0, d1, d2, d3, d4, d5, d6, d7⟩ := G.c
  exact bodyPost_ret (v := .agg #[.int .i64 0, .slice none 0 0, .int .i64 1, .slice none 0 0, .slice none 0 0, .slice none 0 0, .slice none 0 0, .slice none 0 0]) (by simp [results, Try.results6, go_sem, d0, d1, d2, d3, d4, d5, d6, d7]) rfl ⟨rfl, hE⟩

theorem specNewM (w : World) :
    Calls Try.prog 5 #[] w fun e w' => e = .returned (.agg #[.int .i64 0, .slice none 0 0, .int .i64 1, .slice none 0 0, .slice none 0 0, .slice none 0 0, .slice none 0 0, .slice none 0 0]) ∧ Below w.heap.size w w' := by
  have hBa : Below w.heap.size w (w.alloc (.cells #[.int .i64 0, .slice none 0 0, .int .i64 0, .slice none 0 0, .slice none 0 0, .slice none 0 0, .slice none 0 0, .slice none 0 0] 31)) := (Below.refl _ w).alloc (Nat.le_refl _) _
  have F := Eight.new w (.int .i64 0) (.slice none 0 0) (.int .i64 0) (.slice none 0 0) (.slice none 0 0) (.slice none 0 0) (.slice none 0 0) (.slice none 0 0) 31
  go_enter Try.func5, Try.ntmps5
  go_wp2_with fail
  generalize w.alloc (.cells #[.int .i64 0, .slice none 0 0, .int .i64 0, .slice none 0 0, .slice none 0 0, .slice none 0 0, .slice none 0 0, .slice none 0 0] 31) = W0 at *
  refine (specNew _).mono ?_
  rintro e w1 ⟨rfl, hB1⟩
  replace F := F.below hB1
  replace hBa := below_one hBa hB1
  obtain ⟨a0, a1, a2, a3, a4, a5, a6, a7⟩ := F.c
  have f0 := F.f 0
  have f1 := F.f 1
  have f2 := F.f 2
  have f3 := F.f 3
  have f4 := F.f 4
  have f5 := F.f 5
  have f6 := F.f 6
  have f7 := F.f 7
  go_wp2_with fail
  have G := (((((((F.s0 (.int .i64 0)).s1 (.slice none 0 0)).s2 (.int .i64 1)).s3 (.slice none 0 0)).s4 (.slice none 0 0)).s5 (.slice none 0 0)).s6 (.slice none 0 0)).s7 (.slice none 0 0)
  have hE := below_eight hBa (k := w.heap.size) (Nat.le_refl _) (.int .i64 0) (.slice none 0 0) (.int .i64 1) (.slice none 0 0) (.slice none 0 0) (.slice none 0 0) (.slice none 0 0) (.slice none 0 0)
  obtain ⟨d0, d1, d2, d3, d4, d5, d6, d7⟩ := G.c
  exact bodyPost_ret (v := .agg #[.int .i64 0, .slice none 0 0, .int .i64 1, .slice none 0 0, .slice none 0 0, .slice none 0 0, .slice none 0 0, .slice none 0 0]) (by simp [results, Try.results5, go_sem, d0, d1, d2, d3, d4, d5, d6, d7]) rfl ⟨rfl, hE⟩

set_option maxHeartbeats 1000000 in
theorem markSnapshotS_nil (w : World) :
    Calls Try.prog 23 #[.slice none 0 0, .int .i64 1] w fun e w' => e = .returned (.int .i64 1) ∧ Below w.heap.size w w' := by
  go_enter Try.func23, Try.ntmps23
  go_wp2
  refine wp_loop_rounds 1 ?_
  rw [rounds_succ]
  go_wp2
  go_ret
  exact ⟨rfl, Below.refl _ _⟩

set_option maxHeartbeats 1000000 in
theorem markSidecarS_nil (w : World) :
    Calls Try.prog 24 #[.slice none 0 0, .int .i64 1] w fun e w' => e = .returned (.int .i64 1) ∧ Below w.heap.size w w' := by
  go_enter Try.func24, Try.ntmps24
  go_wp2
  refine wp_loop_rounds 1 ?_
  rw [rounds_succ]
  go_wp2
  go_ret
  exact ⟨rfl, Below.refl _ _⟩

set_option maxHeartbeats 1000000 in
theorem markDeliveryS_nil (w : World) :
    Calls Try.prog 15 #[.slice none 0 0, .int .i64 1] w fun e w' => e = .returned (.int .i64 1) ∧ Below w.heap.size w w' := by
  go_enter Try.func15, Try.ntmps15
  go_wp2
  refine wp_loop_rounds 1 ?_
  rw [rounds_succ]
  go_wp2
  go_ret
  exact ⟨rfl, Below.refl _ _⟩

set_option maxHeartbeats 1000000 in
theorem heldSnapshotS_nil (w : World) :
    Calls Try.prog 26 #[.slice none 0 0, .int .i64 1] w fun e w' => e = .returned (.int .i64 1) ∧ Below w.heap.size w w' := by
  go_enter Try.func26, Try.ntmps26
  go_wp2
  refine wp_loop_rounds 1 ?_
  rw [rounds_succ]
  go_wp2
  go_ret
  exact ⟨rfl, Below.refl _ _⟩

set_option maxHeartbeats 1000000 in
theorem heldSidecarS_nil (w : World) :
    Calls Try.prog 27 #[.slice none 0 0, .int .i64 1] w fun e w' => e = .returned (.int .i64 1) ∧ Below w.heap.size w w' := by
  go_enter Try.func27, Try.ntmps27
  go_wp2
  refine wp_loop_rounds 1 ?_
  rw [rounds_succ]
  go_wp2
  go_ret
  exact ⟨rfl, Below.refl _ _⟩

set_option maxHeartbeats 1000000 in
theorem heldDeliveryS_nil (w : World) :
    Calls Try.prog 16 #[.slice none 0 0, .int .i64 1] w fun e w' => e = .returned (.int .i64 1) ∧ Below w.heap.size w w' := by
  go_enter Try.func16, Try.ntmps16
  go_wp2
  refine wp_loop_rounds 1 ?_
  rw [rounds_succ]
  go_wp2
  go_ret
  exact ⟨rfl, Below.refl _ _⟩

set_option maxHeartbeats 4000000 in
theorem markMesh_new (w : World) :
    Calls Try.prog 8 #[.agg #[.int .i64 0, .slice none 0 0, .int .i64 1, .slice none 0 0, .slice none 0 0, .slice none 0 0, .slice none 0 0, .slice none 0 0], .int .i64 1] w fun e w' => e = .returned (.int .i64 1) ∧ Below w.heap.size w w' := by
  have hnew : ((1 + new.many : Nat) : Int) = 1 := by decide
  have hBB : Below w.heap.size w (w.alloc (.cells #[.int .i64 0, .slice none 0 0, .int .i64 1, .slice none 0 0, .slice none 0 0, .slice none 0 0, .slice none 0 0, .slice none 0 0] 31)) := (Below.refl _ w).alloc (Nat.le_refl _) _
  have F := Eight.new w (.int .i64 0) (.slice none 0 0) (.int .i64 1) (.slice none 0 0) (.slice none 0 0) (.slice none 0 0) (.slice none 0 0) (.slice none 0 0) 31
  go_enter Try.func8, Try.ntmps8
  go_wp2_with fail
  generalize w.alloc (.cells #[.int .i64 0, .slice none 0 0, .int .i64 1, .slice none 0 0, .slice none 0 0, .slice none 0 0, .slice none 0 0, .slice none 0 0] 31) = W0 at *
  refine (markIssuer_any _ new 1 0 0 _ new_short (by decide) (Nat.zero_le _) (new_o _ 0 0)).mono ?_
  rintro e w0 ⟨rfl, _, M0⟩
  rw [hnew]
  have hB0 : Below W0.heap.size W0 w0 := ⟨M0.os, M0.tape, M0.output, M0.size, fun k hk => M0.block k hk (.inr (Nat.zero_le _))⟩
  clear M0
  replace F := F.below hB0
  replace hBB := below_one hBB hB0
  clear hB0
  obtain ⟨a0, a1, a2, a3, a4, a5, a6, a7⟩ := F.c
  go_wp2_with fail
  clear a0 a1 a2 a3 a4 a5 a6 a7
  refine (markSnapshotS_nil _).mono ?_
  rintro e w1 ⟨rfl, hB1⟩
  replace F := F.below hB1
  replace hBB := below_one hBB hB1
  clear hB1
  obtain ⟨a0, a1, a2, a3, a4, a5, a6, a7⟩ := F.c
  go_wp2_with fail
  clear a0 a1 a2 a3 a4 a5 a6 a7
  refine (markSidecarS_nil _).mono ?_
  rintro e w2 ⟨rfl, hB2⟩
  replace F := F.below hB2
  replace hBB := below_one hBB hB2
  clear hB2
  obtain ⟨a0, a1, a2, a3, a4, a5, a6, a7⟩ := F.c
  go_wp2_with fail
  clear a0 a1 a2 a3 a4 a5 a6 a7
  refine (markDeliveryS_nil _).mono ?_
  rintro e w3 ⟨rfl, hB3⟩
  go_wp2_with fail
  go_ret
  exact ⟨rfl, below_one hBB hB3⟩

set_option maxHeartbeats 4000000 in
theorem heldMesh_new (w : World) :
    Calls Try.prog 9 #[.agg #[.int .i64 0, .slice none 0 0, .int .i64 1, .slice none 0 0, .slice none 0 0, .slice none 0 0, .slice none 0 0, .slice none 0 0], .int .i64 1] w fun e w' => e = .returned (.int .i64 1) ∧ Below w.heap.size w w' := by
  have hnew : ((1 + new.many : Nat) : Int) = 1 := by decide
  have hBB : Below w.heap.size w (w.alloc (.cells #[.int .i64 0, .slice none 0 0, .int .i64 1, .slice none 0 0, .slice none 0 0, .slice none 0 0, .slice none 0 0, .slice none 0 0] 31)) := (Below.refl _ w).alloc (Nat.le_refl _) _
  have F := Eight.new w (.int .i64 0) (.slice none 0 0) (.int .i64 1) (.slice none 0 0) (.slice none 0 0) (.slice none 0 0) (.slice none 0 0) (.slice none 0 0) 31
  go_enter Try.func9, Try.ntmps9
  go_wp2_with fail
  generalize w.alloc (.cells #[.int .i64 0, .slice none 0 0, .int .i64 1, .slice none 0 0, .slice none 0 0, .slice none 0 0, .slice none 0 0, .slice none 0 0] 31) = W0 at *
  refine (heldIssuer_any _ new 1 _ new_short (by decide) (by rw [mk_new]; exact (new_o _ 0 0).a)).mono ?_
  rintro e w0 ⟨rfl, hB0⟩
  rw [hnew]
  replace F := F.below hB0
  replace hBB := below_one hBB hB0
  clear hB0
  obtain ⟨a0, a1, a2, a3, a4, a5, a6, a7⟩ := F.c
  go_wp2_with fail
  clear a0 a1 a2 a3 a4 a5 a6 a7
  refine (heldSnapshotS_nil _).mono ?_
  rintro e w1 ⟨rfl, hB1⟩
  replace F := F.below hB1
  replace hBB := below_one hBB hB1
  clear hB1
  obtain ⟨a0, a1, a2, a3, a4, a5, a6, a7⟩ := F.c
  go_wp2_with fail
  clear a0 a1 a2 a3 a4 a5 a6 a7
  refine (heldSidecarS_nil _).mono ?_
  rintro e w2 ⟨rfl, hB2⟩
  replace F := F.below hB2
  replace hBB := below_one hBB hB2
  clear hB2
  obtain ⟨a0, a1, a2, a3, a4, a5, a6, a7⟩ := F.c
  go_wp2_with fail
  clear a0 a1 a2 a3 a4 a5 a6 a7
  refine (heldDeliveryS_nil _).mono ?_
  rintro e w3 ⟨rfl, hB3⟩
  go_wp2_with fail
  go_ret
  exact ⟨rfl, below_one hBB hB3⟩

set_option maxHeartbeats 4000000 in
theorem walk (w : World)  :
    Calls Try.prog 3 #[] w fun e w' => e = .returned (.bool true) ∧ Below w.heap.size w w' := by
  go_enter Try.func3, Try.ntmps3
  go_wp2_with fail
  refine (specNewM _).mono ?_
  rintro e w1 ⟨rfl, hB1⟩
  have hBa : Below w1.heap.size w1 (w1.alloc (.cells #[.int .i64 0, .slice none 0 0, .int .i64 1, .slice none 0 0, .slice none 0 0, .slice none 0 0, .slice none 0 0, .slice none 0 0] 31)) := (Below.refl _ w1).alloc (Nat.le_refl _) _
  have FA := Eight.new w1 (.int .i64 0) (.slice none 0 0) (.int .i64 1) (.slice none 0 0) (.slice none 0 0) (.slice none 0 0) (.slice none 0 0) (.slice none 0 0) 31
  have hBB := below_one hB1 hBa
  clear hBa hB1
  go_wp2_with fail
  generalize w1.alloc (.cells #[.int .i64 0, .slice none 0 0, .int .i64 1, .slice none 0 0, .slice none 0 0, .slice none 0 0, .slice none 0 0, .slice none 0 0] 31) = W1 at *
  generalize w1.heap.size = ba at *
  refine (implNewM _).mono ?_
  rintro e w2 ⟨rfl, hB2⟩
  have hBa : Below w2.heap.size w2 (w2.alloc (.cells #[.int .i64 0, .slice none 0 0, .int .i64 1, .slice none 0 0, .slice none 0 0, .slice none 0 0, .slice none 0 0, .slice none 0 0] 31)) := (Below.refl _ w2).alloc (Nat.le_refl _) _
  have FG := Eight.new w2 (.int .i64 0) (.slice none 0 0) (.int .i64 1) (.slice none 0 0) (.slice none 0 0) (.slice none 0 0) (.slice none 0 0) (.slice none 0 0) 31
  replace FA := (FA.below hB2).below hBa
  replace hBB := below_two hBB hB2 hBa
  clear hB2 hBa
  obtain ⟨a0, a1, a2, a3, a4, a5, a6, a7⟩ := FA.c
  go_wp2_with fail
  generalize w2.alloc (.cells #[.int .i64 0, .slice none 0 0, .int .i64 1, .slice none 0 0, .slice none 0 0, .slice none 0 0, .slice none 0 0, .slice none 0 0] 31) = W2 at *
  generalize w2.heap.size = bg at *
  refine (eqMesh_same _ _ newM _ new_short' (newM_c _) (newM_c _)).mono ?_
  rintro e w3 ⟨rfl, hB3⟩
  replace FA := FA.below hB3
  replace FG := FG.below hB3
  replace hBB := below_one hBB hB3
  clear hB3 a0 a1 a2 a3 a4 a5 a6 a7
  obtain ⟨b0, b1, b2, b3, b4, b5, b6, b7⟩ := FG.c
  go_wp2_with fail
  refine (markMesh_new _).mono ?_
  rintro e w4 ⟨rfl, hB4⟩
  replace FA := FA.below hB4
  replace FG := FG.below hB4
  replace hBB := below_one hBB hB4
  clear hB4 b0 b1 b2 b3 b4 b5 b6 b7
  obtain ⟨b0, b1, b2, b3, b4, b5, b6, b7⟩ := FG.c
  go_wp2_with fail
  refine (heldMesh_new _).mono ?_
  rintro e w5 ⟨rfl, hB5⟩
  replace FA := FA.below hB5
  replace FG := FG.below hB5
  replace hBB := below_one hBB hB5
  clear hB5 b0 b1 b2 b3 b4 b5 b6 b7
  go_wp2_with fail
  refine (implNewM _).mono ?_
  rintro e w6 ⟨rfl, hB6⟩
  have hBa : Below w6.heap.size w6 (w6.alloc (.cells #[.int .i64 0, .slice none 0 0, .int .i64 1, .slice none 0 0, .slice none 0 0, .slice none 0 0, .slice none 0 0, .slice none 0 0] 31)) := (Below.refl _ w6).alloc (Nat.le_refl _) _
  have FH := Eight.new w6 (.int .i64 0) (.slice none 0 0) (.int .i64 1) (.slice none 0 0) (.slice none 0 0) (.slice none 0 0) (.slice none 0 0) (.slice none 0 0) 31
  replace FA := (FA.below hB6).below hBa
  replace FG := (FG.below hB6).below hBa
  replace hBB := below_two hBB hB6 hBa
  clear hB6 hBa
  obtain ⟨a0, a1, a2, a3, a4, a5, a6, a7⟩ := FA.c
  go_wp2_with fail
  generalize w6.alloc (.cells #[.int .i64 0, .slice none 0 0, .int .i64 1, .slice none 0 0, .slice none 0 0, .slice none 0 0, .slice none 0 0, .slice none 0 0] 31) = W6 at *
  generalize w6.heap.size = bh at *
  refine (eqMesh_same _ _ newM _ new_short' (newM_c _) (newM_c _)).mono ?_
  rintro e w7 ⟨rfl, hB7⟩
  replace FG := FG.below hB7
  replace hBB := below_one hBB hB7
  clear hB7 a0 a1 a2 a3 a4 a5 a6 a7
  obtain ⟨b0, b1, b2, b3, b4, b5, b6, b7⟩ := FG.c
  go_wp2_with fail
  refine (heldMesh_new _).mono ?_
  rintro e w8 ⟨rfl, hB8⟩
  replace hBB := below_one hBB hB8
  clear hB8 b0 b1 b2 b3 b4 b5 b6 b7
  go_wp2_with fail
  go_ret
  exact ⟨rfl, hBB⟩

set_option maxRecDepth 100000 in
theorem lifted (os : Os) (started : os.Started) (H : Type) (enc : TypeId × Value → H) :
    ReturnsInHanded {} Try.checked os 3 .any (Rows.fnExactNewMeshSpec.pre6 enc Try.prog Try.f3 Rows.fnExactNewMeshRow.domain false) (Rows.fnExactNewMeshSpec.post enc Try.prog Try.f3 false true false false) := by
  refine returnsInHanded_of_change (C := Try.checked) own started (by kernel_rfl) Try.func3
    (ChangeSpec.witness6 (enc := enc) (C := Try.checked) false ⟨#[], #[], []⟩ 8 (by kernel_rfl) (by kernel_rfl) (by kernel_rfl) (by kernel_rfl)) ?_
  intro W base args ds gs before hval0 hW hcnd _
  have hval : ∀ (j : Nat) t v, Try.f3.params[j]? = some t → args[j]? = some v → Value.okWide Try.prog W .any base t v := hval0
  have hW' := hW
  obtain ⟨p, q, hA0, hV, rfl, _, _⟩ := hW
  have hA : DataW.TrodAll enc Try.prog W 0 (fun _ => true) true Try.f3.params.toList args.toList ds p := hA0
  rw [Try.params3] at hA hval
  obtain ⟨hargs, rfl, rfl⟩ := trodAll_nil hA
  obtain rfl : args = #[] := by cases args; simp_all
  obtain ⟨rfl, rfl⟩ := trodVars_none hV
  clear hA0 hval0
  refine (walk  W ).mono fun e W' ⟨he, bel⟩ => ?_
  subst he
  exact ⟨_, rfl, _, _, _, [], _, [], hW', trodAll_mk1 (shut_bool Try.underlying4 _), trodAll_mk0, rfl, bel.frame _, fun h => by cases h⟩

theorem over : Rows.fnExactNewMeshRow.holds Try.pinned (OpenSpec.ofChange Rows.fnExactNewMeshSpec) :=
  OpenClaim.holds_of_wide 3 Try.f3 rfl rfl rfl rfl rfl rfl rfl ⟨rfl, rfl, rfl, rfl, rfl⟩ rfl rfl rfl rfl rfl (by kernel_rfl) Try.func3 (by kernel_rfl)
    (of_decide_eq_true (by kernel_rfl)) (by unfold Func.isWrapper; first | (rw [if_pos (by decide +kernel)]; kernel_rfl) | (rw [if_neg (by decide +kernel)]; exact ⟨rfl, rfl⟩))
    (fun os started H enc _ => lifted os started H enc)

end Go.Proofs.Ytnbojbcljfiamaa.fnExactNewMesh
namespace Go.Proofs.Ytnbojbcljfiamaa
theorem fnExactNewMesh_holds : Rows.FnExactNewMeshSaid := fnExactNewMesh.over
#print axioms fnExactNewMesh_holds
end Go.Proofs.Ytnbojbcljfiamaa
