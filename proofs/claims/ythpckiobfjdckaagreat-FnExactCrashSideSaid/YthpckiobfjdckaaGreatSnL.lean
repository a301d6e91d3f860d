/-
  Lists of versions in memory: how one that comes in is read, what the laws measure, hand on and hold.
-/
import Derived.Deep.RegionHeld3
import Derived.Test.YthpckiobfjdckaaGreatSnV
namespace Go.Proofs.YthpckiobfjdckaaGreat
open Go.RowKit Go.Shelf

/-- A slice reads as this list of versions. -/
def SsA (w : World) (v : Value) (ss : List Sn) : Prop :=
  (∃ a cap, v = .slice a 0 cap ∧ ss = []) ∨
  ∃ b off cap, v = .slice (some ⟨b, off, none⟩) ss.length cap ∧ b < w.heap.size ∧ ss.length ≤ cap ∧ ∀ i (h : i < ss.length), ∃ vp vr, w.cell? ⟨b, off + i * 3, none⟩ = some (.int .i64 ss[i].num) ∧ w.cell? ⟨b, off + i * 3 + 1, none⟩ = some vp ∧ w.cell? ⟨b, off + i * 3 + 2, none⟩ = some vr ∧ RuS w vp ss[i].pol ∧ VS w vr (nums ss[i].rv)
def SsR (w : World) (v : Value) (ss : List Sn) : Prop :=
  (v = .slice none 0 0 ∧ ss = []) ∨
  ∃ b off cap, v = .slice (some ⟨b, off, none⟩) ss.length cap ∧ b < w.heap.size ∧ ss.length ≤ cap ∧ ∀ i (h : i < ss.length), ∃ vp vr, w.cell? ⟨b, off + i * 3, none⟩ = some (.int .i64 ss[i].num) ∧ w.cell? ⟨b, off + i * 3 + 1, none⟩ = some vp ∧ w.cell? ⟨b, off + i * 3 + 2, none⟩ = some vr ∧ RuR w vp ss[i].pol ∧ NuR w vr ss[i].rv
theorem SsA.below {w w' : World} {v : Value} {ss : List Sn} (h : SsA w v ss) (hB : Below w.heap.size w w') : SsA w' v ss := by
  rcases h with h | ⟨b, off, cap, hv, hb, hl, hc⟩
  · exact .inl h
  · refine .inr ⟨b, off, cap, hv, Nat.lt_of_lt_of_le hb hB.size, hl, fun i hi => ?_⟩
    obtain ⟨vp, vr, c0, c1, c2, h1, h2⟩ := hc i hi
    exact ⟨vp, vr, (hB.cell (p := ⟨b, _, none⟩) hb).trans c0, (hB.cell (p := ⟨b, _, none⟩) hb).trans c1, (hB.cell (p := ⟨b, _, none⟩) hb).trans c2, h1.below hB, h2.below hB⟩
theorem SsR.below {w w' : World} {v : Value} {ss : List Sn} (h : SsR w v ss) (hB : Below w.heap.size w w') : SsR w' v ss := by
  rcases h with h | ⟨b, off, cap, hv, hb, hl, hc⟩
  · exact .inl h
  · refine .inr ⟨b, off, cap, hv, Nat.lt_of_lt_of_le hb hB.size, hl, fun i hi => ?_⟩
    obtain ⟨vp, vr, c0, c1, c2, h1, h2⟩ := hc i hi
    exact ⟨vp, vr, (hB.cell (p := ⟨b, _, none⟩) hb).trans c0, (hB.cell (p := ⟨b, _, none⟩) hb).trans c1, (hB.cell (p := ⟨b, _, none⟩) hb).trans c2, h1.below hB, h2.below hB⟩
theorem SsR.a {w : World} {v : Value} {ss : List Sn} (h : SsR w v ss) : SsA w v ss := by
  rcases h with ⟨rfl, rfl⟩ | ⟨b, off, cap, hv, hb, hl, hc⟩
  · exact .inl ⟨_, _, rfl, rfl⟩
  · refine .inr ⟨b, off, cap, hv, hb, hl, fun i hi => ?_⟩
    obtain ⟨vp, vr, c0, c1, c2, h1, h2⟩ := hc i hi
    exact ⟨vp, vr, c0, c1, c2, h1.s, h2.s⟩
theorem SsA.len {w : World} {v : Value} {ss : List Sn} (h : SsA w v ss) : ∃ a cap, v = .slice a ss.length cap := by
  rcases h with ⟨a, cap, hv, rfl⟩ | ⟨b, off, cap, hv, _⟩
  · exact ⟨a, cap, hv⟩
  · exact ⟨_, cap, hv⟩
theorem SsR.len {w : World} {v : Value} {ss : List Sn} (h : SsR w v ss) : ∃ a cap, v = .slice a ss.length cap := h.a.len
theorem SsA.at {w : World} {a : Option Addr} {n cap : Nat} {ss : List Sn} (h : SsA w (.slice a n cap) ss) {i : Nat} (hi : i < ss.length) :
    ∃ b off xp cp xr cr, a = some ⟨b, off, none⟩ ∧ b < w.heap.size ∧ n ≤ cap ∧ w.cell? ⟨b, off + i * 3, none⟩ = some (.int .i64 ss[i].num) ∧ w.cell? ⟨b, off + i * 3 + 1, none⟩ = some (.slice xp ss[i].pol.length cp) ∧ w.cell? ⟨b, off + i * 3 + 2, none⟩ = some (.slice xr ss[i].rv.length cr) ∧ RuS w (.slice xp ss[i].pol.length cp) ss[i].pol ∧ VS w (.slice xr ss[i].rv.length cr) (nums ss[i].rv) := by
  rcases h with ⟨_, _, _, rfl⟩ | ⟨b, off, cap, hv, hb, hl, hc⟩
  · simp at hi
  · cases hv
    obtain ⟨vp, vr, c0, c1, c2, h1, h2⟩ := hc i hi
    obtain ⟨xp, cp, rfl⟩ := h1.len
    obtain ⟨xr, cr, rfl⟩ := h2.numLen
    exact ⟨b, off, xp, cp, xr, cr, rfl, hb, hl, c0, c1, c2, h1, h2⟩
theorem SsR.at {w : World} {a : Option Addr} {n cap : Nat} {ss : List Sn} (h : SsR w (.slice a n cap) ss) {i : Nat} (hi : i < ss.length) :
    ∃ b off xp cp xr cr, a = some ⟨b, off, none⟩ ∧ b < w.heap.size ∧ n ≤ cap ∧ w.cell? ⟨b, off + i * 3, none⟩ = some (.int .i64 ss[i].num) ∧ w.cell? ⟨b, off + i * 3 + 1, none⟩ = some (.slice xp ss[i].pol.length cp) ∧ w.cell? ⟨b, off + i * 3 + 2, none⟩ = some (.slice xr ss[i].rv.length cr) ∧ RuR w (.slice xp ss[i].pol.length cp) ss[i].pol ∧ NuR w (.slice xr ss[i].rv.length cr) ss[i].rv := by
  rcases h with ⟨_, rfl⟩ | ⟨b, off, cap, hv, hb, hl, hc⟩
  · simp at hi
  · cases hv
    obtain ⟨vp, vr, c0, c1, c2, h1, h2⟩ := hc i hi
    obtain ⟨xp, cp, rfl⟩ := h1.len
    obtain ⟨xr, cr, rfl⟩ := h2.len
    exact ⟨b, off, xp, cp, xr, cr, rfl, hb, hl, c0, c1, c2, h1, h2⟩

def vzTo (ss : List Sn) (n : Nat) : Nat := ((ss.take n).map Sn.size).sum
def vzAll (ss : List Sn) : Nat := ss.length + vzTo ss ss.length
theorem vzTo_zero (ss : List Sn) : vzTo ss 0 = 0 := by simp [vzTo]
theorem vzTo_succ {ss : List Sn} {n : Nat} (h : n < ss.length) : vzTo ss (n + 1) = vzTo ss n + ss[n].size := by
  unfold vzTo
  rw [List.take_succ_eq_append_getElem h, List.map_append, List.sum_append]
  simp
theorem vzTo_le (ss : List Sn) (n : Nat) : vzTo ss n ≤ vzTo ss ss.length := by
  unfold vzTo
  rw [List.take_length]
  conv => rhs; rw [← List.take_append_drop n ss, List.map_append, List.sum_append]
  omega
theorem vz_mem {ss : List Sn} {s : Sn} (h : s ∈ ss) : s.size ≤ vzTo ss ss.length := by
  unfold vzTo
  rw [List.take_length]
  exact sum_mem (List.mem_map.2 ⟨s, h, rfl⟩)
def leftVS (n : Int) (ss : List Sn) : Int := if (vzAll ss : Int) ≤ n then n - vzAll ss else -1

/-- No list is longer than the laws take. -/
def shortS (ss : List Sn) : Prop := ss.length ≤ 1048576 ∧ ∀ s ∈ ss, s.short
theorem shortS_of {ss : List Sn} (h : vzAll ss ≤ 1048576) : shortS ss := by
  unfold vzAll at h
  exact ⟨by omega, fun s hs => Sn.short_of (by have := vz_mem hs; omega)⟩

end Go.Proofs.YthpckiobfjdckaaGreat
