/-
  Links and lists of links in memory: how those that come in are read, and what the laws measure.
-/
import Derived.WalkKit
import Derived.ProofKit
import Derived.OpenShut
import Derived.Lib.SmallJoins
import Derived.Deep.Slices
import Derived.Test.YtepoamekeackkaaDoorGen
import Derived.Test.YtepoamekeackkaaDoorTokM
namespace Go.Proofs.YtepoamekeackkaaDoor
open Go.RowKit Go.Shelf

abbrev Lk.val (k : Lk) : Value := .agg #[.string k.who, .string k.to, .int .i64 k.se, .int .i64 k.fr, .int .i64 k.un]
/-- Its texts are no longer than a text may be. -/
def Lk.fits (k : Lk) : Prop := k.who.size ≤ maxLen ∧ k.to.size ≤ maxLen
/-- A link lies in memory. -/
def LkAt (w : World) (b o : Nat) (k : Lk) : Prop := w.cell? ⟨b, o, none⟩ = some (.string k.who) ∧ w.cell? ⟨b, o + 1, none⟩ = some (.string k.to) ∧ w.cell? ⟨b, o + 2, none⟩ = some (.int .i64 k.se) ∧ w.cell? ⟨b, o + 3, none⟩ = some (.int .i64 k.fr) ∧ w.cell? ⟨b, o + 4, none⟩ = some (.int .i64 k.un)
/-- A slice reads as this list of links. -/
def LkS (w : World) (v : Value) (ks : List Lk) : Prop :=
  (∃ a cap, v = .slice a 0 cap ∧ ks = []) ∨
  ∃ b off cap, v = .slice (some ⟨b, off, none⟩) ks.length cap ∧ b < w.heap.size ∧ ks.length ≤ cap ∧ ∀ i (h : i < ks.length), LkAt w b (off + i * 5) ks[i]
theorem LkAt.below {w w' : World} {b o : Nat} {k : Lk} (h : LkAt w b o k) (hb : b < w.heap.size) (hB : Below w.heap.size w w') : LkAt w' b o k :=
  ⟨(hB.cell (p := ⟨b, o, none⟩) hb).trans h.1, (hB.cell (p := ⟨b, o + 1, none⟩) hb).trans h.2.1, (hB.cell (p := ⟨b, o + 2, none⟩) hb).trans h.2.2.1, (hB.cell (p := ⟨b, o + 3, none⟩) hb).trans h.2.2.2.1, (hB.cell (p := ⟨b, o + 4, none⟩) hb).trans h.2.2.2.2⟩
theorem LkS.below {w w' : World} {v : Value} {ks : List Lk} (h : LkS w v ks) (hB : Below w.heap.size w w') : LkS w' v ks := by
  rcases h with h | ⟨b, off, cap, hv, hb, hl, hc⟩
  · exact .inl h
  · exact .inr ⟨b, off, cap, hv, Nat.lt_of_lt_of_le hb hB.size, hl, fun k hk => (hc k hk).below hb hB⟩
theorem LkS.len {w : World} {v : Value} {ks : List Lk} (h : LkS w v ks) : ∃ a cap, v = .slice a ks.length cap := by
  rcases h with ⟨a, cap, hv, rfl⟩ | ⟨b, off, cap, hv, _⟩
  · exact ⟨a, cap, hv⟩
  · exact ⟨_, cap, hv⟩
theorem LkS.at {w : World} {a : Option Addr} {n cap : Nat} {ks : List Lk} (h : LkS w (.slice a n cap) ks) {i : Nat} (hi : i < ks.length) : ∃ b off, a = some ⟨b, off, none⟩ ∧ b < w.heap.size ∧ n ≤ cap ∧ LkAt w b (off + i * 5) ks[i] := by
  rcases h with ⟨_, _, _, rfl⟩ | ⟨b, off, cap, hv, hb, hl, hc⟩
  · simp at hi
  · cases hv
    exact ⟨b, off, rfl, hb, hl, hc i hi⟩
/-- The first ones of a list. -/
theorem LkS.take {w : World} {b off n cap : Nat} {ks : List Lk} (h : LkS w (.slice (some ⟨b, off, none⟩) n cap) ks) (m c : Nat) (hm : m ≤ ks.length) (hc : m ≤ c) : LkS w (.slice (some ⟨b, off, none⟩) m c) (ks.take m) := by
  rcases h with ⟨_, _, hv, rfl⟩ | ⟨b', off', cap', hv, hb, hl, hat⟩
  · exact .inl ⟨_, _, by simp at hm; subst hm; rfl, by simp⟩
  · cases hv
    refine .inr ⟨b, off, c, by rw [List.length_take, Nat.min_eq_left hm], hb, by rw [List.length_take]; omega, fun i hi => ?_⟩
    rw [List.length_take] at hi
    rw [List.getElem_take]
    exact hat i (by omega)

def lzTo (ks : List Lk) (n : Nat) : Nat := ((ks.take n).map Lk.size).sum
def lzAll (ks : List Lk) : Nat := ks.length + lzTo ks ks.length
theorem lzTo_zero (ks : List Lk) : lzTo ks 0 = 0 := by simp [lzTo]
theorem lzTo_succ {ks : List Lk} {n : Nat} (h : n < ks.length) : lzTo ks (n + 1) = lzTo ks n + ks[n].size := by
  unfold lzTo
  rw [List.take_succ_eq_append_getElem h, List.map_append, List.sum_append]
  simp
theorem lzTo_le (ks : List Lk) (n : Nat) : lzTo ks n ≤ lzTo ks ks.length := by
  unfold lzTo
  rw [List.take_length]
  conv => rhs; rw [← List.take_append_drop n ks, List.map_append, List.sum_append]
  omega
theorem lz_mem {ks : List Lk} {k : Lk} (h : k ∈ ks) : k.size ≤ lzTo ks ks.length := by
  unfold lzTo
  rw [List.take_length]
  exact sum_mem (List.mem_map.2 ⟨k, h, rfl⟩)
/-- What is left of a budget behind a link, and behind a list. -/
def left2 (n : Int) (a b : Nat) : Int := if (a : Int) + b ≤ n then n - a - b else -1
def leftL (n : Int) (ks : List Lk) : Int := if (lzAll ks : Int) ≤ n then n - lzAll ks else -1

end Go.Proofs.YtepoamekeackkaaDoor
