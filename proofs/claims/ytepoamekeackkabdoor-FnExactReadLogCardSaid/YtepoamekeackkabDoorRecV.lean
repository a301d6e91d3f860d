/-
  Records and lists of records in memory: how those that come in are read, and what the laws measure.
-/
import Derived.WalkKit
import Derived.ProofKit
import Derived.OpenShut
import Derived.Lib.SmallJoins
import Derived.Deep.Slices
import Derived.Test.YtepoamekeackkabDoorGen
import Derived.Test.YtepoamekeackkabDoorListV
import Derived.Test.YtepoamekeackkabDoorRecM
import Derived.Test.YtepoamekeackkabDoorSumT
import Derived.Test.YtepoamekeackkabDoorLstN
namespace Go.Proofs.YtepoamekeackkabDoor
open Go.RowKit Go.Shelf

abbrev Rc.val (k : Rc) : Value := .agg #[.int .i64 k.num, .string k.note, .int .u32 (k.su : Int)]
def Rc.fits (k : Rc) : Prop := k.note.size ≤ maxLen ∧ k.su < 4294967296
/-- A record lies in memory. -/
def RcAt (w : World) (b o : Nat) (k : Rc) : Prop := w.cell? ⟨b, o, none⟩ = some (.int .i64 k.num) ∧ w.cell? ⟨b, o + 1, none⟩ = some (.string k.note) ∧ w.cell? ⟨b, o + 2, none⟩ = some (.int .u32 (k.su : Int))
/-- A slice reads as this list of records. -/
def RcS (w : World) (v : Value) (ks : List Rc) : Prop :=
  (∃ a cap, v = .slice a 0 cap ∧ ks = []) ∨
  ∃ b off cap, v = .slice (some ⟨b, off, none⟩) ks.length cap ∧ b < w.heap.size ∧ ks.length ≤ cap ∧ ∀ i (h : i < ks.length), RcAt w b (off + i * 3) ks[i]
theorem RcAt.below {w w' : World} {b o : Nat} {k : Rc} (h : RcAt w b o k) (hb : b < w.heap.size) (hB : Below w.heap.size w w') : RcAt w' b o k :=
  ⟨(hB.cell (p := ⟨b, o, none⟩) hb).trans h.1, (hB.cell (p := ⟨b, o + 1, none⟩) hb).trans h.2.1, (hB.cell (p := ⟨b, o + 2, none⟩) hb).trans h.2.2⟩
theorem RcS.below {w w' : World} {v : Value} {ks : List Rc} (h : RcS w v ks) (hB : Below w.heap.size w w') : RcS w' v ks := by
  rcases h with h | ⟨b, off, cap, hv, hb, hl, hc⟩
  · exact .inl h
  · exact .inr ⟨b, off, cap, hv, Nat.lt_of_lt_of_le hb hB.size, hl, fun k hk => (hc k hk).below hb hB⟩
theorem RcS.len {w : World} {v : Value} {ks : List Rc} (h : RcS w v ks) : ∃ a cap, v = .slice a ks.length cap := by
  rcases h with ⟨a, cap, hv, rfl⟩ | ⟨b, off, cap, hv, _⟩
  · exact ⟨a, cap, hv⟩
  · exact ⟨_, cap, hv⟩
theorem RcS.at {w : World} {a : Option Addr} {n cap : Nat} {ks : List Rc} (h : RcS w (.slice a n cap) ks) {i : Nat} (hi : i < ks.length) : ∃ b off, a = some ⟨b, off, none⟩ ∧ b < w.heap.size ∧ n ≤ cap ∧ RcAt w b (off + i * 3) ks[i] := by
  rcases h with ⟨_, _, _, rfl⟩ | ⟨b, off, cap, hv, hb, hl, hc⟩
  · simp at hi
  · cases hv
    exact ⟨b, off, rfl, hb, hl, hc i hi⟩

def rczTo (ks : List Rc) (n : Nat) : Nat := ((ks.take n).map (fun k => k.note.size)).sum
def rczAll (ks : List Rc) : Nat := ks.length + rczTo ks ks.length
theorem rczTo_zero (ks : List Rc) : rczTo ks 0 = 0 := by simp [rczTo]
theorem rczTo_succ {ks : List Rc} {n : Nat} (h : n < ks.length) : rczTo ks (n + 1) = rczTo ks n + ks[n].note.size := by
  unfold rczTo
  rw [List.take_succ_eq_append_getElem h, List.map_append, List.sum_append]
  simp
theorem rczTo_le (ks : List Rc) (n : Nat) : rczTo ks n ≤ rczTo ks ks.length := by
  unfold rczTo
  rw [List.take_length]
  conv => rhs; rw [← List.take_append_drop n ks, List.map_append, List.sum_append]
  omega
theorem rcz_mem {ks : List Rc} {k : Rc} (h : k ∈ ks) : k.note.size ≤ rczTo ks ks.length := by
  unfold rczTo
  rw [List.take_length]
  exact sum_mem (List.mem_map.2 ⟨k, h, rfl⟩)
def leftRc (n : Int) (ks : List Rc) : Int := if (rczAll ks : Int) ≤ n then n - rczAll ks else -1

abbrev Rc.cells (k : Rc) : List Value := [.int .i64 k.num, .string k.note, .int .u32 (k.su : Int)]
theorem rcflat_len (ks : List Rc) : (ks.flatMap Rc.cells).length = ks.length * 3 := by
  induction ks with
  | nil => rfl
  | cons r rs ih => rw [List.flatMap_cons, List.length_append, ih]; simp; omega
theorem rcflat_at (rs : List Rc) : ∀ (k j : Nat) (h : k < rs.length), j < 3 → (rs.flatMap Rc.cells)[k * 3 + j]? = rs[k].cells[j]? := by
  induction rs with
  | nil => intro k j h; simp at h
  | cons r rs ih =>
    intro k j h hj
    rw [List.flatMap_cons]
    cases k with
    | zero => rw [List.getElem?_append_left (by simp; omega)]; simp
    | succ k =>
      rw [List.getElem?_append_right (by simp; omega)]
      have := ih k j (by simpa using h) hj
      rw [show (k + 1) * 3 + j - r.cells.length = k * 3 + j by simp; omega]
      simpa using this
/-- A slice of records of one's own reads as its list. -/
theorem RcS.own {w : World} {base : Nat} {v : Value} {rs : List Rc} (h : w.ownsRow base 39 3 v rs.length (rs.flatMap Rc.cells)) : RcS w v rs := by
  rcases h.2 with ⟨rfl, h0⟩ | ⟨g, cap, cur, rfl, hg, hb, hle, _⟩
  · exact .inl ⟨none, 0, rfl, List.eq_nil_of_length_eq_zero h0⟩
  · refine .inr ⟨g, 0, cap, rfl, (Array.getElem?_eq_some_iff.1 hb).1, hle, fun k hk => ?_⟩
    have hc : ∀ j, j < 3 → w.cell? ⟨g, k * 3 + j, none⟩ = rs[k].cells[j]? := fun j hj => by rw [h.cellAt (k * 3 + j) (by omega), rcflat_at rs k j hk hj]
    have h0 := hc 0 (by omega)
    have h1 := hc 1 (by omega)
    have h2 := hc 2 (by omega)
    simp only [Nat.add_zero, List.getElem?_cons_zero, List.getElem?_cons_succ] at h0 h1 h2
    exact ⟨by rw [Nat.zero_add]; exact h0, by rw [Nat.zero_add]; exact h1, by rw [Nat.zero_add]; exact h2⟩
theorem infoRecord : (Tryd.prog.info? 39).map (fun i => (i.zero, i.size, i.bytes)) = some (some (.agg #[.int .i64 0, .string ByteArray.empty, .int .u32 0]), 3, 32) := by kernel_rfl

end Go.Proofs.YtepoamekeackkabDoor
