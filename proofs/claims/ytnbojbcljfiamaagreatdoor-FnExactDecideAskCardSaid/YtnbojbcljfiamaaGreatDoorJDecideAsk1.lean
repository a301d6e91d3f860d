/-
  Chapter 2, the program's side: rules and calls that are good, and the text of a rule.
-/
import Derived.WalkKit
import Derived.ProofKit
import Derived.OpenShut
import Derived.Lib.SmallJoins
import Derived.Deep.Slices
import Derived.Test.YtnbojbcljfiamaaGreatDoorJDecideAsk0
import Derived.Shelf.Small.Strs
import Derived.Shelf.Strings.Builder1
import Derived.Shelf.Strings.OnBuilder
import Derived.Shelf.Strconv.Itoa3
import Derived.Shelf.Slices.Turned
import Derived.Shelf.SlGeneric
import Derived.Ground.SlgqProg
import Derived.Shelf.SlicesQ.Equal
import Derived.Shelf.SlicesQ.Contains
import Derived.Ground.SlsfProg
import Derived.Shelf.SlSortCmp.NoneTotal
import Derived.Ground.SlgnProg
import Derived.Shelf.SlicesE.Clone
import Derived.Test.YtnbojbcljfiamaaGreatDoorProg
import Derived.Maps.OwnOps
import Derived.Maps.Views
namespace Go.Proofs.YtnbojbcljfiamaaGreatDoor
open Go.RowKit Go.Shelf

abbrev Lk.val (k : Lk) : Value := .agg #[.string k.who, .string k.to, .int .i64 k.se, .int .i64 k.fr, .int .i64 k.un]
/-- Its texts are no longer than a text may be. -/
def Lk.fits (k : Lk) : Prop := k.who.size ≤ maxLen ∧ k.to.size ≤ maxLen
/-- A link lies in memory. -/
def LkAt (w : World) (b o : Nat) (k : Lk) : Prop := w.cell? ⟨b, o, none⟩ = some (.string k.who) ∧ w.cell? ⟨b, o + 1, none⟩ = some (.string k.to) ∧ w.cell? ⟨b, o + 2, none⟩ = some (.int .i64 k.se) ∧ w.cell? ⟨b, o + 3, none⟩ = some (.int .i64 k.fr) ∧ w.cell? ⟨b, o + 4, none⟩ = some (.int .i64 k.un)
/-- A slice reads as this list of links. -/
def LkS (w : World) (v : Value) (ks : List Lk) : Prop :=
  (∃ a cap, v = .slice a 0 cap ∧ ks = []) ∨
  ∃ b off cap, v = .slice (some ⟨b, off, none⟩) ks.length cap ∧ b < w.heap.size ∧ ks.length ≤ cap ∧ ∀ i (h : i < ks.length), LkAt w b (off + i * 5) ks[i]
theorem LkAt.below {w w' : World} {b o : Nat} {k : Lk} (h : LkAt w b o k) (hb : b < w.heap.size) (hB : Below w.heap.size w w') : LkAt w' b o k :=
  ⟨(hB.cell (p := ⟨b, o, none⟩) hb).trans h.1, (hB.cell (p := ⟨b, o + 1, none⟩) hb).trans h.2.1, (hB.cell (p := ⟨b, o + 2, none⟩) hb).trans h.2.2.1, (hB.cell (p := ⟨b, o + 3, none⟩) hb).trans h.2.2.2.1, (hB.cell (p := ⟨b, o + 4, none⟩) hb).trans h.2.2.2.2⟩
theorem LkS.below {w w' : World} {v : Value} {ks : List Lk} (h : LkS w v ks) (hB : Below w.heap.size w w') : LkS w' v ks := by
  rcases h with h | ⟨b, off, cap, hv, hb, hl, hc⟩
  · exact .inl h
  · exact .inr ⟨b, off, cap, hv, Nat.lt_of_lt_of_le hb hB.size, hl, fun k hk => (hc k hk).below hb hB⟩
theorem LkS.len {w : World} {v : Value} {ks : List Lk} (h : LkS w v ks) : ∃ a cap, v = .slice a ks.length cap := by
  rcases h with ⟨a, cap, hv, rfl⟩ | ⟨b, off, cap, hv, _⟩
  · exact ⟨a, cap, hv⟩
  · exact ⟨_, cap, hv⟩
theorem LkS.at {w : World} {a : Option Addr} {n cap : Nat} {ks : List Lk} (h : LkS w (.slice a n cap) ks) {i : Nat} (hi : i < ks.length) : ∃ b off, a = some ⟨b, off, none⟩ ∧ b < w.heap.size ∧ n ≤ cap ∧ LkAt w b (off + i * 5) ks[i] := by
  rcases h with ⟨_, _, _, rfl⟩ | ⟨b, off, cap, hv, hb, hl, hc⟩
  · simp at hi
  · cases hv
    exact ⟨b, off, rfl, hb, hl, hc i hi⟩
/-- The first ones of a list. -/
theorem LkS.take {w : World} {b off n cap : Nat} {ks : List Lk} (h : LkS w (.slice (some ⟨b, off, none⟩) n cap) ks) (m c : Nat) (hm : m ≤ ks.length) (hc : m ≤ c) : LkS w (.slice (some ⟨b, off, none⟩) m c) (ks.take m) := by
  rcases h with ⟨_, _, hv, rfl⟩ | ⟨b', off', cap', hv, hb, hl, hat⟩
  · exact .inl ⟨_, _, by simp at hm; subst hm; rfl, by simp⟩
  · cases hv
    refine .inr ⟨b, off, c, by rw [List.length_take, Nat.min_eq_left hm], hb, by rw [List.length_take]; omega, fun i hi => ?_⟩
    rw [List.length_take] at hi
    rw [List.getElem_take]
    exact hat i (by omega)

set_option maxRecDepth 100000 in
theorem cellsLink : Tryz.prog.cellsOf 119 = 5 := by kernel_rfl
set_option maxRecDepth 100000 in
open Go.Deep Go.ChangeShapes Go.WideShapes Go.Joins in
/-- A list of links that comes in. -/
theorem openLkS {H : Type} {enc : TypeId × Value → H} {W : World} {a : Option Addr} {n c : Nat} {d : DataW H} {p : List MemPlace} (h : DataW.Trod enc Tryz.prog W 0 (fun _ => true) true 29 (.slice a n c) d p) :
    ∃ ks : List Lk, LkS W (.slice a n c) ks ∧ ks.length = n ∧ n ≤ maxLen ∧ ∀ k ∈ ks, k.fits := by
  obtain ⟨fuel, hf⟩ := h
  rcases open_slice Tryz.underlying29 hf with ⟨hcs, _⟩ | ⟨x, len, cap, m, k, D, Pl, hcs, _, hl, hm, hmm, _, hx⟩
  · simp [Value.cells] at hcs
    obtain ⟨rfl, rfl, rfl⟩ := hcs
    exact ⟨[], .inl ⟨_, _, rfl, rfl⟩, rfl, Nat.zero_le _, fun r hr => by cases hr⟩
  · simp [Value.cells] at hcs
    obtain ⟨rfl, rfl, rfl⟩ := hcs
    have hlm : n ≤ m := by rw [hmm]; simpa using hl
    have each : ∀ i, i < n → ∃ r : Lk, (W.cell? (x.add (i * 5)) = some (.string r.who) ∧ W.cell? (x.add (i * 5 + 1)) = some (.string r.to) ∧ W.cell? (x.add (i * 5 + 2)) = some (.int .i64 r.se) ∧ W.cell? (x.add (i * 5 + 3)) = some (.int .i64 r.fr) ∧ W.cell? (x.add (i * 5 + 4)) = some (.int .i64 r.un)) ∧ r.fits := by
      intro i hi
      obtain ⟨cs', h1, h2⟩ := hx i (by omega)
      rw [cellsLink] at h1
      obtain ⟨_, hlen, hcell⟩ := World.cells?_some h1
      obtain ⟨xs, m', _, _, _, hxl, hfl⟩ := DataW.trod_struct Tryz.underlying119 h2
      match cs', hlen, xs, hxl with
      | [v0, v1, v2, v3, v4], _, [y0, y1, y2, y3, y4], _ =>
        have g0 := hfl 0 _ rfl
        have g1 := hfl 1 _ rfl
        have g2 := hfl 2 _ rfl
        have g3 := hfl 3 _ rfl
        have g4 := hfl 4 _ rfl
        have e0 := hcell 0 (by omega)
        have e1 := hcell 1 (by omega)
        have e2 := hcell 2 (by omega)
        have e3 := hcell 3 (by omega)
        have e4 := hcell 4 (by omega)
        rw [add_add] at e0 e1 e2 e3 e4
        have c1 : Tryz.prog.cellsOf 3 = 1 := by kernel_rfl
        have c2 : Tryz.prog.cellsOf 9 = 1 := by kernel_rfl
        simp [c1, c2] at g0 g1 g2 g3 g4
        obtain ⟨x0, f0, _, w0⟩ := DataW.trod_string Tryz.underlying9 g0
        obtain ⟨x1, f1, _, w1⟩ := DataW.trod_string Tryz.underlying9 g1
        obtain ⟨x2, f2, _, _⟩ := DataW.trod_int Tryz.underlying3 g2
        obtain ⟨x3, f3, _, _⟩ := DataW.trod_int Tryz.underlying3 g3
        obtain ⟨x4, f4, _, _⟩ := DataW.trod_int Tryz.underlying3 g4
        simp at f0 f1 f2 f3 f4
        subst f0 f1 f2 f3 f4
        exact ⟨⟨x0, x1, x2, x3, x4⟩, ⟨by simpa using e0, by simpa using e1, by simpa using e2, by simpa using e3, by simpa using e4⟩, w0, w1⟩
    have hin : Inhabited Lk := ⟨⟨ByteArray.empty, ByteArray.empty, 0, 0, 0⟩⟩
    obtain ⟨q, hq⟩ := choose_lt each
    by_cases h0 : n = 0
    · subst h0
      exact ⟨[], .inl ⟨_, _, rfl, rfl⟩, rfl, Nat.zero_le _, fun r hr => by cases hr⟩
    · obtain ⟨b, off, spot⟩ := x
      have hs : spot = none := by simpa [Addr.add] using World.cell?_spot (hq 0 (by omega)).1.1
      subst hs
      have hlt : b < W.heap.size := by
        have := (hq 0 (by omega)).1.1
        rw [Addr.add_lit] at this
        by_cases hb : b < W.heap.size
        · exact hb
        · simp only [World.cell?] at this
          rw [Array.getElem?_eq_none (by omega)] at this
          cases this
      refine ⟨(List.range n).map q, .inr ⟨b, off, c, by simp, hlt, by simpa using hl, fun k hk => ?_⟩, by simp, by omega, ?_⟩
      · have hk' : k < n := by simpa using hk
        have := (hq k hk').1
        simp only [Addr.add_lit, ← Nat.add_assoc] at this
        simpa [LkAt] using this
      · intro r hr
        obtain ⟨i, hi, rfl⟩ := List.mem_map.1 hr
        exact (hq i (List.mem_range.1 hi)).2

def lzTo (ks : List Lk) (n : Nat) : Nat := ((ks.take n).map Lk.size).sum
def lzAll (ks : List Lk) : Nat := ks.length + lzTo ks ks.length
theorem lzTo_zero (ks : List Lk) : lzTo ks 0 = 0 := by simp [lzTo]
theorem lzTo_succ {ks : List Lk} {n : Nat} (h : n < ks.length) : lzTo ks (n + 1) = lzTo ks n + ks[n].size := by
  unfold lzTo
  rw [List.take_succ_eq_append_getElem h, List.map_append, List.sum_append]
  simp
theorem lzTo_le (ks : List Lk) (n : Nat) : lzTo ks n ≤ lzTo ks ks.length := by
  unfold lzTo
  rw [List.take_length]
  conv => rhs; rw [← List.take_append_drop n ks, List.map_append, List.sum_append]
  omega
theorem lz_mem {ks : List Lk} {k : Lk} (h : k ∈ ks) : k.size ≤ lzTo ks ks.length := by
  unfold lzTo
  rw [List.take_length]
  exact sum_mem (List.mem_map.2 ⟨k, h, rfl⟩)
/-- What is left of a budget behind a link, and behind a list. -/
def left2 (n : Int) (a b : Nat) : Int := if (a : Int) + b ≤ n then n - a - b else -1
def leftL (n : Int) (ks : List Lk) : Int := if (lzAll ks : Int) ≤ n then n - lzAll ks else -1

set_option maxHeartbeats 1000000 in
theorem szLink_any (k : Lk) (n : Int) (w : World) (h0 : 0 ≤ n) (h1 : n ≤ 1048576) (ha : k.who.size ≤ maxLen) (hb : k.to.size ≤ maxLen) :
    Calls Tryz.prog 61 #[k.val, .int .i64 n] w fun e w' => e = .returned (.int .i64 (left2 n k.who.size k.to.size)) ∧ Below w.heap.size w w' := by
  unfold maxLen at ha hb
  by_cases c1 : n < k.who.size
  · have HR := hid (show left2 n k.who.size k.to.size = -1 from if_neg (by omega))
    go_enter Tryz.func61, Tryz.ntmps61
    go_wp2
    go_ret
    exact ⟨ret_int HR.out.symm, (Below.refl _ w).alloc (Nat.le_refl _) _⟩
  · by_cases c2 : n - k.who.size < k.to.size
    · have HR := hid (show left2 n k.who.size k.to.size = -1 from if_neg (by omega))
      go_enter Tryz.func61, Tryz.ntmps61
      go_wp2
      go_ret
      exact ⟨ret_int HR.out.symm, (Below.refl _ w).alloc (Nat.le_refl _) _⟩
    · have HR := hid (show left2 n k.who.size k.to.size = n - k.who.size - k.to.size from if_pos (by omega))
      go_enter Tryz.func61, Tryz.ntmps61
      go_wp2
      go_ret
      exact ⟨ret_int HR.out.symm, (Below.refl _ w).alloc (Nat.le_refl _) _⟩

set_option maxHeartbeats 1000000 in
theorem szLinkS_any (v : Value) (rs : List Lk) (n : Int) (w : World) (h0 : 0 ≤ n) (h1 : n ≤ 1048576) (hm : rs.length ≤ maxLen) (hf : ∀ r ∈ rs, r.fits) (hr : LkS w v rs) :
    Calls Tryz.prog 28 #[v, .int .i64 n] w fun e w' => e = .returned (.int .i64 (leftL n rs)) ∧ Below w.heap.size w w' := by
  obtain ⟨a, cap, rfl⟩ := hr.len
  unfold maxLen at hm
  by_cases c0 : n < rs.length
  · have HR := hid (show leftL n rs = -1 from if_neg (by unfold lzAll; omega))
    go_enter Tryz.func28, Tryz.ntmps28
    go_wp2
    go_ret
    exact ⟨ret_int HR.out.symm, Below.refl _ _⟩
  · have d0 : decide (n - (rs.length : Int) < 0) = false := by simp; omega
    go_enter Tryz.func28, Tryz.ntmps28
    go_wp2
    go_loopw [1, 5] (fun m i wr => ∃ k : Nat, k ≤ rs.length ∧ i = .int .i64 k ∧ m = .int .i64 (n - rs.length - lzTo rs k) ∧ 0 ≤ n - rs.length - lzTo rs k ∧ Below w.heap.size w wr) (fun _ i _ => rs.length - (intOf i).toNat)
    case atStart => exact ⟨0, Nat.zero_le _, rfl, by rw [lzTo_zero]; go_num, by rw [lzTo_zero]; omega, Below.refl _ _⟩
    case round =>
      obtain ⟨k, hk, rfl, rfl, hp, hB⟩ := hrel
      by_cases hlt : k < rs.length
      · obtain ⟨b, off, rfl, hb, hcap, q0, q1, q2, q3, q4⟩ := (hr.below hB).at hlt
        obtain ⟨f1, f2⟩ := hf rs[k] (List.getElem_mem hlt)
        have HS := hid (lzTo_succ hlt)
        have HT := hid (lzTo_le rs (k + 1))
        generalize rs[k] = r at *
        go_wp2_with fail
        refine (szLink_any r _ _ hp (by omega) f1 f2).mono ?_
        rintro e w1 ⟨rfl, hB1⟩
        have hB2 := below_one hB hB1
        by_cases c1 : (r.size : Int) ≤ n - rs.length - lzTo rs k
        · have hv : left2 (n - rs.length - lzTo rs k) r.who.size r.to.size = n - rs.length - lzTo rs (k + 1) := by
            rw [HS.out]
            unfold Lk.size at *
            unfold left2
            rw [if_pos (by omega)]
            omega
          have hq : 0 ≤ n - rs.length - lzTo rs (k + 1) := by rw [HS.out]; omega
          rw [hv]
          have d1 : decide (n - (rs.length : Int) - (lzTo rs (k + 1) : Int) < 0) = false := by simp; omega
          clear hv hB1 q0 q1 q2 q3 q4
          go_wp2_with fail
          go_roundw
          case rel => exact ⟨k + 1, by omega, by go_num, rfl, hq, hB2⟩
          case measure => simp [intOf]; omega
        · have hv : left2 (n - rs.length - lzTo rs k) r.who.size r.to.size = -1 := if_neg (by unfold Lk.size at c1; omega)
          have HR := hid (show leftL n rs = -1 from if_neg (by have := HT.out; rw [HS.out] at this; unfold lzAll; omega))
          rw [hv]
          clear hv hB1 q0 q1 q2 q3 q4
          go_wp2_with fail
          go_ret
          exact ⟨ret_int HR.out.symm, hB2⟩
      · obtain rfl : k = rs.length := by omega
        have HR := hid (show leftL n rs = n - rs.length - lzTo rs rs.length by unfold leftL lzAll; rw [if_pos (by omega)]; omega)
        go_wp2
        go_ret
        exact ⟨ret_int HR.out.symm, hB⟩

abbrev Lk.cells (k : Lk) : List Value := [.string k.who, .string k.to, .int .i64 k.se, .int .i64 k.fr, .int .i64 k.un]
theorem lflat_len (ks : List Lk) : (ks.flatMap Lk.cells).length = ks.length * 5 := by
  induction ks with
  | nil => rfl
  | cons r rs ih => rw [List.flatMap_cons, List.length_append, ih]; simp; omega
theorem lflat_at (rs : List Lk) : ∀ (k j : Nat) (h : k < rs.length), j < 5 → (rs.flatMap Lk.cells)[k * 5 + j]? = rs[k].cells[j]? := by
  induction rs with
  | nil => intro k j h; simp at h
  | cons r rs ih =>
    intro k j h hj
    rw [List.flatMap_cons]
    cases k with
    | zero => rw [List.getElem?_append_left (by simp; omega)]; simp
    | succ k =>
      rw [List.getElem?_append_right (by simp; omega)]
      have := ih k j (by simpa using h) hj
      rw [show (k + 1) * 5 + j - r.cells.length = k * 5 + j by simp; omega]
      simpa using this
/-- A slice of links of one's own reads as its list. -/
theorem LkS.own {w : World} {base : Nat} {v : Value} {rs : List Lk} (h : w.ownsRow base 126 5 v rs.length (rs.flatMap Lk.cells)) : LkS w v rs := by
  rcases h.2 with ⟨rfl, h0⟩ | ⟨g, cap, cur, rfl, hg, hb, hle, _⟩
  · exact .inl ⟨none, 0, rfl, List.eq_nil_of_length_eq_zero h0⟩
  · refine .inr ⟨g, 0, cap, rfl, (Array.getElem?_eq_some_iff.1 hb).1, hle, fun k hk => ?_⟩
    have hc : ∀ j, j < 5 → w.cell? ⟨g, k * 5 + j, none⟩ = rs[k].cells[j]? := fun j hj => by rw [h.cellAt (k * 5 + j) (by omega), lflat_at rs k j hk hj]
    have h0 := hc 0 (by omega)
    have h1 := hc 1 (by omega)
    have h2 := hc 2 (by omega)
    have h3 := hc 3 (by omega)
    have h4 := hc 4 (by omega)
    simp only [Nat.add_zero, List.getElem?_cons_zero, List.getElem?_cons_succ] at h0 h1 h2 h3 h4
    exact ⟨by rw [Nat.zero_add]; exact h0, by rw [Nat.zero_add]; exact h1, by rw [Nat.zero_add]; exact h2, by rw [Nat.zero_add]; exact h3, by rw [Nat.zero_add]; exact h4⟩
theorem take_set5 {α : Type} (xs : List α) (k : Nat) (a b c d e : α) (h : k * 5 + 5 ≤ xs.length) : (((((xs.set (k * 5) a).set (k * 5 + 1) b).set (k * 5 + 2) c).set (k * 5 + 3) d).set (k * 5 + 4) e).take ((k + 1) * 5) = xs.take (k * 5) ++ [a, b, c, d, e] := by
  apply List.ext_getElem?
  intro i
  rw [List.getElem?_take]
  by_cases h1 : i < k * 5
  · rw [if_pos (by omega), List.getElem?_append_left (by rw [List.length_take]; omega), List.getElem?_take, if_pos h1]
    rw [List.getElem?_set_ne (by omega), List.getElem?_set_ne (by omega), List.getElem?_set_ne (by omega), List.getElem?_set_ne (by omega), List.getElem?_set_ne (by omega)]
  · by_cases h2 : i < (k + 1) * 5
    · rw [if_pos h2, List.getElem?_append_right (by rw [List.length_take]; omega)]
      have hl : (xs.take (k * 5)).length = k * 5 := by rw [List.length_take]; omega
      rw [hl]
      obtain h | h | h | h | h : i = k * 5 ∨ i = k * 5 + 1 ∨ i = k * 5 + 2 ∨ i = k * 5 + 3 ∨ i = k * 5 + 4 := by omega
      all_goals subst h
      · rw [List.getElem?_set_ne (by omega), List.getElem?_set_ne (by omega), List.getElem?_set_ne (by omega), List.getElem?_set_ne (by omega), List.getElem?_set_self (by omega)]
        simp
      · rw [List.getElem?_set_ne (by omega), List.getElem?_set_ne (by omega), List.getElem?_set_ne (by omega), List.getElem?_set_self (by simp; omega)]
        simp
      · rw [List.getElem?_set_ne (by omega), List.getElem?_set_ne (by omega), List.getElem?_set_self (by simp; omega)]
        simp
      · rw [List.getElem?_set_ne (by omega), List.getElem?_set_self (by simp; omega)]
        simp
      · rw [List.getElem?_set_self (by simp; omega)]
        simp
    · rw [if_neg h2, List.getElem?_eq_none (by rw [List.length_append, List.length_take]; simp; omega)]
theorem infoLink : (Tryz.prog.info? 126).map (fun i => (i.zero, i.size, i.bytes)) = some (some (.agg #[.string ByteArray.empty, .string ByteArray.empty, .int .i64 0, .int .i64 0, .int .i64 0]), 5, 56) := by kernel_rfl

set_option maxHeartbeats 1000000 in
theorem toLink_any (k : Lk) (w : World) :
    Calls Tryz.prog 72 #[k.val] w fun e w' => e = .returned k.val ∧ Below w.heap.size w w' := by
  go_enter Tryz.func72, Tryz.ntmps72
  go_wp2
  exact bodyPost_ret (v := k.val) (by simp [results, Tryz.results72, go_sem]) rfl ⟨rfl, (((Below.refl _ w).alloc (Nat.le_refl _) _).alloc (by simp) _).alloc (by simp; omega) _⟩

set_option maxHeartbeats 2000000 in
theorem toLinkS_any (v : Value) (rs : List Lk) (w : World) (hm : rs.length ≤ 1048576) (hr : LkS w v rs) :
    Calls Tryz.prog 36 #[v] w fun e w' => ∃ v', e = .returned v' ∧ w'.ownsRow w.heap.size 126 5 v' rs.length (rs.flatMap Lk.cells) ∧ Below w.heap.size w w' := by
  obtain ⟨a, cap, rfl⟩ := hr.len
  obtain ⟨i0, hi, hz0, hz1, hz2⟩ := info_parts infoLink
  go_enter Tryz.func36, Tryz.ntmps36
  go_wp2_with (at_make; refine wpList_make_full _ rfl _ _ 44 rfl w.heap.size 126 i0 _ 5 Tryz.underlying44 hi hz0 hz1 _ _ _ _ rs.length rfl rfl rfl rfl (by rw [hz2]; omega) (by unfold maxLen; omega) (Nat.le_refl _) ?_; intro w1 hown hgrow)
  have hB1 : Below w.heap.size w w1 := (Below.refl _ w).grown hgrow (Nat.le_refl _) (fun k e => by cases e)
  go_loopw [4] (fun i wr => ∃ k : Nat, k ≤ rs.length ∧ i = .int .i64 k ∧ ∃ xs, wr.ownsRow w.heap.size 126 5 (.slice (some ⟨w.heap.size, 0, none⟩) rs.length rs.length) rs.length xs ∧ xs.take (k * 5) = (rs.take k).flatMap Lk.cells ∧ Below w.heap.size w wr) (fun i _ => rs.length - (intOf i).toNat)
  case atStart => exact ⟨0, Nat.zero_le _, rfl, _, hown, by simp, hB1⟩
  case round =>
    obtain ⟨k, hk, rfl, xs, hrow, hx, hB⟩ := hrel
    have HX := hid hx
    clear hx
    by_cases hlt : k < rs.length
    · obtain ⟨b, off, rfl, hb, hcap, q0, q1, q2, q3, q4⟩ := (hr.below hB).at hlt
      have HT := hid (List.take_succ_eq_append_getElem hlt)
      generalize rs[k] = r at *
      go_wp2_with fail
      refine (toLink_any r _).mono ?_
      rintro e w2 ⟨rfl, hB2⟩
      have hrow2 := ownsRow_below hrow hB2
      have hB3 := below_one hB hB2
      have hlen : xs.length = rs.length * 5 := hrow2.1
      have s0 := hrow2.cellAt (k * 5) (by omega)
      have s1 := hrow2.cellAt (k * 5 + 1) (by omega)
      have s2 := hrow2.cellAt (k * 5 + 2) (by omega)
      have s3 := hrow2.cellAt (k * 5 + 3) (by omega)
      have s4 := hrow2.cellAt (k * 5 + 4) (by omega)
      rw [List.getElem?_eq_getElem (by omega)] at s0 s1 s2 s3 s4
      have t0 := hrow2.frozenAt (k * 5)
      have t1 := hrow2.frozenAt (k * 5 + 1)
      have t2 := hrow2.frozenAt (k * 5 + 2)
      have t3 := hrow2.frozenAt (k * 5 + 3)
      have t4 := hrow2.frozenAt (k * 5 + 4)
      generalize xs[k * 5] = y0 at *
      generalize xs[k * 5 + 1] = y1 at *
      generalize xs[k * 5 + 2] = y2 at *
      generalize xs[k * 5 + 3] = y3 at *
      generalize xs[k * 5 + 4] = y4 at *
      clear q0 q1 q2 q3 q4 hB2
      go_wp2_with fail
      go_roundw
      case rel =>
        refine ⟨k + 1, by omega, by go_num, _, ((((hrow2.stored (k * 5) (.string r.who)).1.stored (k * 5 + 1) (.string r.to)).1.stored (k * 5 + 2) (.int .i64 r.se)).1.stored (k * 5 + 3) (.int .i64 r.fr)).1.stored (k * 5 + 4) (.int .i64 r.un) |>.1, ?_, ((((hB3.setCell (p := ⟨w.heap.size, _, none⟩) (Nat.le_refl _) _).setCell (p := ⟨w.heap.size, _, none⟩) (Nat.le_refl _) _).setCell (p := ⟨w.heap.size, _, none⟩) (Nat.le_refl _) _).setCell (p := ⟨w.heap.size, _, none⟩) (Nat.le_refl _) _).setCell (p := ⟨w.heap.size, _, none⟩) (Nat.le_refl _) _⟩
        rw [take_set5 _ _ _ _ _ _ _ (by omega), HX.out, HT.out, List.flatMap_append]
        simp
      case measure => simp [intOf]; omega
    · obtain rfl : k = rs.length := by omega
      have HF := hid (show xs = rs.flatMap Lk.cells by have := HX.out; rw [List.take_of_length_le (by have := hrow.1; omega), List.take_length] at this; exact this)
      go_wp2
      go_ret
      exact ⟨_, rfl, by rw [← HF.out]; exact hrow, hB⟩

end Go.Proofs.YtnbojbcljfiamaaGreatDoor

namespace Go.Proofs.YtnbojbcljfiamaaGreatDoor
open Go.RowKit Go.Shelf

def Lk.same (r s : Lk) : Bool := (((((r.who.toList == s.who.toList) && (r.to.toList == s.to.toList)) && (r.se == s.se)) && (r.fr == s.fr)) && (r.un == s.un))
theorem Lk.same_refl (r : Lk) : r.same r = true := by simp [Lk.same]
theorem Lk.same_eq {r s : Lk} (h : r.same s = true) : r = s := by
  unfold Lk.same at h
  simp only [Bool.and_eq_true, beq_iff_eq, toList_data] at h
  obtain ⟨⟨⟨⟨h1, h2⟩, h3⟩, h4⟩, h5⟩ := h
  obtain ⟨a, b, c, d, e⟩ := r
  obtain ⟨a', b', c', d', e'⟩ := s
  simp only at h1 h2 h3 h4 h5
  rw [bytes_same h1, bytes_same h2, h3, h4, h5]

set_option maxHeartbeats 1000000 in
theorem eqLink_any (r s : Lk) (w : World) :
    Calls Tryz.prog 87 #[r.val, s.val] w fun e w' => e = .returned (.bool (r.same s)) ∧ Below w.heap.size w w' := by
  cases b0 : (r.who.toList == s.who.toList)
  · have e0 : (r.who.toList == s.who.toList) = false := b0
    have HR := hid (show r.same s = false by unfold Lk.same; rw [b0]; rfl)
    clear b0
    go_enter Tryz.func87, Tryz.ntmps87
    go_wp2
    go_ret
    exact ⟨ret_bool HR.out.symm, ((Below.refl _ w).alloc (Nat.le_refl _) _).alloc (by simp) _⟩
  · have e0 : (r.who.toList == s.who.toList) = true := b0
    cases b1 : (r.to.toList == s.to.toList)
    · have e1 : (r.to.toList == s.to.toList) = false := b1
      have HR := hid (show r.same s = false by unfold Lk.same; rw [b0, b1]; rfl)
      clear b0 b1
      go_enter Tryz.func87, Tryz.ntmps87
      go_wp2
      go_ret
      exact ⟨ret_bool HR.out.symm, ((Below.refl _ w).alloc (Nat.le_refl _) _).alloc (by simp) _⟩
    · have e1 : (r.to.toList == s.to.toList) = true := b1
      cases b2 : (r.se == s.se)
      · have e2 : (r.se != s.se) = true := by rw [bne, b2]; rfl
        have HR := hid (show r.same s = false by unfold Lk.same; rw [b0, b1, b2]; rfl)
        clear b0 b1 b2
        go_enter Tryz.func87, Tryz.ntmps87
        go_wp2
        go_ret
        exact ⟨ret_bool HR.out.symm, ((Below.refl _ w).alloc (Nat.le_refl _) _).alloc (by simp) _⟩
      · have e2 : (r.se != s.se) = false := by rw [bne, b2]; rfl
        cases b3 : (r.fr == s.fr)
        · have e3 : (r.fr != s.fr) = true := by rw [bne, b3]; rfl
          have HR := hid (show r.same s = false by unfold Lk.same; rw [b0, b1, b2, b3]; rfl)
          clear b0 b1 b2 b3
          go_enter Tryz.func87, Tryz.ntmps87
          go_wp2
          go_ret
          exact ⟨ret_bool HR.out.symm, ((Below.refl _ w).alloc (Nat.le_refl _) _).alloc (by simp) _⟩
        · have e3 : (r.fr != s.fr) = false := by rw [bne, b3]; rfl
          cases b4 : (r.un == s.un)
          · have e4 : (r.un != s.un) = true := by rw [bne, b4]; rfl
            have HR := hid (show r.same s = false by unfold Lk.same; rw [b0, b1, b2, b3, b4]; rfl)
            clear b0 b1 b2 b3 b4
            go_enter Tryz.func87, Tryz.ntmps87
            go_wp2
            go_ret
            exact ⟨ret_bool HR.out.symm, ((Below.refl _ w).alloc (Nat.le_refl _) _).alloc (by simp) _⟩
          · have e4 : (r.un != s.un) = false := by rw [bne, b4]; rfl
            have HR := hid (show r.same s = true by unfold Lk.same; rw [b0, b1, b2, b3, b4]; rfl)
            clear b0 b1 b2 b3 b4
            go_enter Tryz.func87, Tryz.ntmps87
            go_wp2
            go_ret
            exact ⟨ret_bool HR.out.symm, ((Below.refl _ w).alloc (Nat.le_refl _) _).alloc (by simp) _⟩

def lsTo (rs ss : List Lk) (k : Nat) : Bool := ((rs.zip ss).take k).all (fun q => q.1.same q.2)
def lsS (rs ss : List Lk) : Bool := decide (rs.length = ss.length) && (rs.zip ss).all (fun q => q.1.same q.2)
theorem lsTo_zero (rs ss : List Lk) : lsTo rs ss 0 = true := by simp [lsTo]
theorem lsTo_succ {rs ss : List Lk} {k : Nat} (h : k < rs.length) (h' : k < ss.length) : lsTo rs ss (k + 1) = (lsTo rs ss k && rs[k].same ss[k]) := by
  unfold lsTo
  rw [List.take_succ_eq_append_getElem (by rw [List.length_zip]; omega), List.all_append]
  simp
theorem ls_bad {rs ss : List Lk} {k : Nat} (hb : lsTo rs ss (k + 1) = false) : lsS rs ss = false := by
  unfold lsTo at hb
  rw [List.all_eq_false] at hb
  obtain ⟨x, hx, hn⟩ := hb
  unfold lsS
  rw [Bool.and_eq_false_iff]
  exact .inr (List.all_eq_false.2 ⟨x, List.mem_of_mem_take hx, hn⟩)
theorem ls_end {rs ss : List Lk} (h : rs.length = ss.length) : lsTo rs ss rs.length = lsS rs ss := by
  unfold lsTo lsS
  rw [List.take_of_length_le (by rw [List.length_zip]; omega), decide_eq_true h, Bool.true_and]
theorem lsS_refl (rs : List Lk) : lsS rs rs = true := by
  unfold lsS
  rw [decide_eq_true rfl, Bool.true_and, List.all_eq_true]
  intro x hx
  obtain ⟨i, hi, he⟩ := List.getElem_of_mem hx
  rw [List.getElem_zip] at he
  rw [← he]
  exact Lk.same_refl _

set_option maxHeartbeats 2000000 in
theorem eqLinkS_any (v v' : Value) (rs ss : List Lk) (w : World) (_hm : rs.length ≤ 1048577) (hm' : ss.length ≤ 1048577) (hr : LkS w v rs) (hr' : LkS w v' ss) :
    Calls Tryz.prog 45 #[v, v'] w fun e w' => e = .returned (.bool (lsS rs ss)) ∧ Below w.heap.size w w' := by
  obtain ⟨a, cap, rfl⟩ := hr.len
  obtain ⟨a', cap', rfl⟩ := hr'.len
  by_cases hl : rs.length = ss.length
  · have e0 : ((rs.length : Int) != (ss.length : Int)) = false := by simp; omega
    have hl1 : rs.length ≤ ss.length := by omega
    have HL := hid hl
    clear hl
    go_enter Tryz.func45, Tryz.ntmps45
    go_wp2
    go_loopw [5] (fun i wr => ∃ k : Nat, k ≤ rs.length ∧ i = .int .i64 k ∧ lsTo rs ss k = true ∧ Below w.heap.size w wr) (fun i _ => rs.length - (intOf i).toNat)
    case atStart => exact ⟨0, Nat.zero_le _, rfl, lsTo_zero _ _, Below.refl _ _⟩
    case round =>
      obtain ⟨k, hk, rfl, hs, hB⟩ := hrel
      have HS := hid hs
      clear hs
      by_cases hlt : k < rs.length
      · have hlt' : k < ss.length := by omega
        obtain ⟨b, off, rfl, hb, hcap, q0, q1, q2, q3, q4⟩ := (hr.below hB).at hlt
        obtain ⟨b', off', rfl, hb', hcap', p0, p1, p2, p3, p4⟩ := (hr'.below hB).at hlt'
        have HT := hid (lsTo_succ hlt hlt')
        generalize rs[k] = r at *
        generalize ss[k] = s at *
        cases hq : r.same s
        · have HR := hid (show lsS rs ss = false from ls_bad (by rw [HT.out, hq, Bool.and_false]))
          go_wp2_with fail
          go_region_with (go_at_call 87; refine (eqLink_any r s _).mono ?_; rintro e w1 ⟨rfl, hB1⟩)
          all_goals go_wp2
          all_goals go_ret
          all_goals exact ⟨ret_bool HR.out.symm, below_one hB (below_drew1 hB1)⟩
        · have HR := hid (show lsTo rs ss (k + 1) = true by rw [HT.out, HS.out, hq]; rfl)
          go_wp2_with fail
          go_region_with (go_at_call 87; refine (eqLink_any r s _).mono ?_; rintro e w1 ⟨rfl, hB1⟩)
          all_goals go_wp2
          all_goals go_roundw
          all_goals first
            | exact ⟨k + 1, by omega, by go_num, HR.out, below_one hB (below_drew1 hB1)⟩
            | (simp [intOf]; omega)
      · obtain rfl : k = rs.length := by omega
        have HR := hid (show lsS rs ss = true by rw [← ls_end HL.out]; exact HS.out)
        go_wp2
        go_ret
        exact ⟨ret_bool HR.out.symm, hB⟩
  · have e0 : ((rs.length : Int) != (ss.length : Int)) = true := by simp; omega
    have HR := hid (show lsS rs ss = false by unfold lsS; rw [decide_eq_false hl]; rfl)
    clear hl
    go_enter Tryz.func45, Tryz.ntmps45
    go_wp2
    go_ret
    exact ⟨ret_bool HR.out.symm, Below.refl _ _⟩

end Go.Proofs.YtnbojbcljfiamaaGreatDoor

namespace Go.Proofs.YtnbojbcljfiamaaGreatDoor
open Go.RowKit Go.Shelf

/-- What is left of a budget. -/
def leftK (n : Int) (s : Nat) : Int := if (s : Int) ≤ n then n - s else -1
/-- A row of one's own, in a block from base on, below top. -/
def RoO (T : TypeId) (c : Nat) (w : World) (base top : Nat) (v : Value) (n : Nat) (xs : List Value) : Prop := w.ownsRow base T c v n xs ∧ ∀ k, v.ownBlock = some k → k < top
theorem RoO.of {T : TypeId} {c : Nat} {w : World} {base : Nat} {v : Value} {n : Nat} {xs : List Value} (h : w.ownsRow base T c v n xs) : RoO T c w base w.heap.size v n xs := ⟨h, fun k hk => (h.lt k hk).2⟩
theorem RoO.len {T : TypeId} {c : Nat} {w : World} {base top : Nat} {v : Value} {n : Nat} {xs : List Value} (h : RoO T c w base top v n xs) : ∃ a cap, v = .slice a n cap := by
  rcases row_form h.1 with ⟨rfl, rfl⟩ | ⟨g, cap, rfl, _, _⟩
  · exact ⟨_, _, rfl⟩
  · exact ⟨_, _, rfl⟩
theorem RoO.mid {lo hi : Nat} {w w1 : World} {T : TypeId} {c base top : Nat} {v : Value} {n : Nat} {xs : List Value} (h : RoO T c w base top v n xs) (M : Mid lo hi w w1) (ho : hi ≤ base ∨ top ≤ lo) : RoO T c w1 base top v n xs :=
  ⟨M.row h.1 (fun k hk => by have := h.1.lt k hk; have := h.2 k hk; omega), h.2⟩
theorem RoO.below {w w1 : World} {T : TypeId} {c base top : Nat} {v : Value} {n : Nat} {xs : List Value} (h : RoO T c w base top v n xs) (hB : Below w.heap.size w w1) : RoO T c w1 base top v n xs := ⟨ownsRow_below h.1 hB, h.2⟩
theorem RoO.mono {w : World} {T : TypeId} {c base base' top top' : Nat} {v : Value} {n : Nat} {xs : List Value} (h : RoO T c w base top v n xs) (hb : base' ≤ base) (ht : top ≤ top') : RoO T c w base' top' v n xs :=
  ⟨Go.Joins.ownsRow_le h.1 hb, fun k hk => Nat.lt_of_lt_of_le (h.2 k hk) ht⟩

set_option maxRecDepth 100000 in
open Go.Deep Go.ChangeShapes Go.WideShapes Go.ChangeAt Go.Joins in
theorem openLkR {H : Type} {enc : TypeId × Value → H} {W : World} {c0 : Value} {d : DataW H × List MemPlace} {fuel : Nat} (hf : DataW.trod enc Tryz.prog W 0 (fun _ => true) true fuel 29 [c0] = some d) :
    ∃ (a : Option Addr) (n c : Nat) (rs : List Lk), c0 = .slice a n c ∧ LkS W (.slice a n c) rs ∧ rs.length = n ∧ n ≤ maxLen ∧ ∀ r ∈ rs, r.fits := by
  have hs : ∃ a n c, c0 = .slice a n c := by
    rcases open_slice Tryz.underlying29 hf with ⟨hcs, _⟩ | ⟨x, n, c, m, k, D, Pl, hcs, _⟩
    · simp at hcs; exact ⟨_, _, _, hcs⟩
    · simp at hcs; exact ⟨_, _, _, hcs⟩
  obtain ⟨a, n, c, rfl⟩ := hs
  obtain ⟨rs, h⟩ := openLkS (a := a) (n := n) (c := c) (d := d.1) (p := d.2) ⟨fuel, hf⟩
  exact ⟨a, n, c, rs, rfl, h⟩

/-- A slice reads as this list, c cells each. -/
def GsA {X : Type} (c : Nat) (A : World → List Value → X → Prop) (w : World) (v : Value) (xs : List X) : Prop :=
  (∃ a cap, v = .slice a 0 cap ∧ xs = []) ∨
  ∃ b off cap, v = .slice (some ⟨b, off, none⟩) xs.length cap ∧ b < w.heap.size ∧ xs.length ≤ cap ∧ ∀ i (h : i < xs.length), ∃ cs : List Value, cs.length = c ∧ (∀ j y, cs[j]? = some y → w.cell? ⟨b, off + i * c + j, none⟩ = some y) ∧ A w cs xs[i]
theorem GsA.below {X : Type} {c : Nat} {A : World → List Value → X → Prop} {w w' : World} {v : Value} {xs : List X} (h : GsA c A w v xs) (hA : ∀ cs x, A w cs x → A w' cs x) (hB : Below w.heap.size w w') : GsA c A w' v xs := by
  rcases h with h | ⟨b, off, cap, hv, hb, hl, hc⟩
  · exact .inl h
  · refine .inr ⟨b, off, cap, hv, Nat.lt_of_lt_of_le hb hB.size, hl, fun i hi => ?_⟩
    obtain ⟨cs, h1, h2, h3⟩ := hc i hi
    exact ⟨cs, h1, fun j y hy => (hB.cell (p := ⟨b, _, none⟩) hb).trans (h2 j y hy), hA _ _ h3⟩
theorem GsA.len {X : Type} {c : Nat} {A : World → List Value → X → Prop} {w : World} {v : Value} {xs : List X} (h : GsA c A w v xs) : ∃ a cap, v = .slice a xs.length cap := by
  rcases h with ⟨a, cap, hv, rfl⟩ | ⟨b, off, cap, hv, _⟩
  · exact ⟨a, cap, hv⟩
  · exact ⟨_, cap, hv⟩
theorem GsA.at {X : Type} {c : Nat} {A : World → List Value → X → Prop} {w : World} {a : Option Addr} {n cap : Nat} {xs : List X} (h : GsA c A w (.slice a n cap) xs) {i : Nat} (hi : i < xs.length) :
    ∃ b off cs, a = some ⟨b, off, none⟩ ∧ b < w.heap.size ∧ n ≤ cap ∧ (∀ j y, cs[j]? = some y → w.cell? ⟨b, off + i * c + j, none⟩ = some y) ∧ A w cs xs[i] := by
  rcases h with ⟨_, _, _, rfl⟩ | ⟨b, off, cap, hv, hb, hl, hc⟩
  · simp at hi
  · cases hv
    obtain ⟨cs, h1, h2, h3⟩ := hc i hi
    exact ⟨b, off, cs, rfl, hb, hl, h2, h3⟩

/-- A row of n places, of which the first k hold these, each with blocks of its own, from s i on, below t i. -/
structure GsK {X : Type} (e : TypeId) (c : Nat) (O : World → Nat → Nat → List Value → X → Prop) (w : World) (base top : Nat) (v : Value) (n : Nat) (xs : List X) (k : Nat) (ys : List Value) (cs : Nat → List Value) (s t : Nat → Nat) : Prop where
  row : w.ownsRow base e c v n ys
  rlt : ∀ g, v.ownBlock = some g → g < top
  len : ∀ i, i < k → (cs i).length = c
  cel : ∀ i, i < k → ∀ j, j < c → ys[i * c + j]? = (cs i)[j]?
  own : ∀ i (h : i < xs.length), i < k → O w (s i) (t i) (cs i) xs[i]
  lo : ∀ i, i < k → base ≤ s i
  up : ∀ i, i < k → s i ≤ t i
  ord : ∀ i j, i < j → j < k → t i ≤ s j
  hi : ∀ i, i < k → t i ≤ top
  apart : ∀ i, i < k → ∀ g, v.ownBlock = some g → g < s i ∨ t i ≤ g
/-- A list of one's own. -/
def GsO {X : Type} (e : TypeId) (c : Nat) (O : World → Nat → Nat → List Value → X → Prop) (w : World) (base top : Nat) (v : Value) (xs : List X) : Prop := ∃ ys cs s t, GsK e c O w base top v xs.length xs xs.length ys cs s t
theorem GsO.len {X : Type} {e : TypeId} {c : Nat} {O : World → Nat → Nat → List Value → X → Prop} {w : World} {base top : Nat} {v : Value} {xs : List X} (h : GsO e c O w base top v xs) : ∃ a cap, v = .slice a xs.length cap := by
  obtain ⟨ys, cs, s, t, h⟩ := h
  exact RoO.len (RoO.of h.row)
theorem GsO.a {X : Type} {e : TypeId} {c : Nat} {O : World → Nat → Nat → List Value → X → Prop} {A : World → List Value → X → Prop} {w : World} {base top : Nat} {v : Value} {xs : List X} (hA : ∀ b t cs x, O w b t cs x → A w cs x) (h : GsO e c O w base top v xs) : GsA c A w v xs := by
  obtain ⟨ys, cs, s, t, h⟩ := h
  rcases row_form h.row with ⟨rfl, h0⟩ | ⟨g, cap, rfl, hg, hcap⟩
  · exact .inl ⟨_, _, rfl, List.eq_nil_of_length_eq_zero h0⟩
  · refine .inr ⟨g, 0, cap, rfl, (h.row.lt g rfl).2, hcap, fun i hi => ⟨cs i, h.len i hi, fun j y hy => ?_, hA _ _ _ _ (h.own i hi hi)⟩⟩
    have hj : j < c := by
      have := (List.getElem?_eq_some_iff.1 hy).1
      rwa [h.len i hi] at this
    have hij : i * c + j < xs.length * c := by
      have : (i + 1) * c ≤ xs.length * c := Nat.mul_le_mul_right c hi
      rw [Nat.add_mul, Nat.one_mul] at this
      omega
    rw [Nat.zero_add, h.row.cellAt (i * c + j) hij, h.cel i hi j hj]
    exact hy
theorem GsK.mid {X : Type} {e : TypeId} {c : Nat} {O : World → Nat → Nat → List Value → X → Prop} {lo hi : Nat} {w w1 : World} {base top : Nat} {v : Value} {n : Nat} {xs : List X} {k : Nat} {ys : List Value} {cs : Nat → List Value} {s t : Nat → Nat} (h : GsK e c O w base top v n xs k ys cs s t)
    (hO : ∀ b t cs x, O w b t cs x → (hi ≤ b ∨ t ≤ lo) → O w1 b t cs x) (M : Mid lo hi w w1) (ho : hi ≤ base ∨ top ≤ lo) : GsK e c O w1 base top v n xs k ys cs s t :=
  ⟨M.row h.row (fun g hg => by have := h.row.lt g hg; have := h.rlt g hg; omega), h.rlt, h.len, h.cel, fun i hi hk => hO _ _ _ _ (h.own i hi hk) (by have := h.lo i hk; have := h.hi i hk; omega), h.lo, h.up, h.ord, h.hi, h.apart⟩
theorem GsO.mid {X : Type} {e : TypeId} {c : Nat} {O : World → Nat → Nat → List Value → X → Prop} {lo hi : Nat} {w w1 : World} {base top : Nat} {v : Value} {xs : List X} (h : GsO e c O w base top v xs)
    (hO : ∀ b t cs x, O w b t cs x → (hi ≤ b ∨ t ≤ lo) → O w1 b t cs x) (M : Mid lo hi w w1) (ho : hi ≤ base ∨ top ≤ lo) : GsO e c O w1 base top v xs := by
  obtain ⟨ys, cs, s, t, h⟩ := h
  exact ⟨ys, cs, s, t, h.mid hO M ho⟩
theorem GsO.mono {X : Type} {e : TypeId} {c : Nat} {O : World → Nat → Nat → List Value → X → Prop} {w : World} {base base' top top' : Nat} {v : Value} {xs : List X} (h : GsO e c O w base top v xs) (hb : base' ≤ base) (ht : top ≤ top') : GsO e c O w base' top' v xs := by
  obtain ⟨ys, cs, s, t, h⟩ := h
  exact ⟨ys, cs, s, t, Go.Joins.ownsRow_le h.row hb, fun g hg => Nat.lt_of_lt_of_le (h.rlt g hg) ht, h.len, h.cel, h.own, fun i hi => Nat.le_trans hb (h.lo i hi), h.up, h.ord, fun i hi => Nat.le_trans (h.hi i hi) ht, h.apart⟩
theorem GsK.start {X : Type} (e : TypeId) (c : Nat) (O : World → Nat → Nat → List Value → X → Prop) (w : World) (base top : Nat) (v : Value) (n : Nat) (xs : List X) (ys : List Value) (h : w.ownsRow base e c v n ys) (ht : ∀ g, v.ownBlock = some g → g < top) : GsK e c O w base top v n xs 0 ys (fun _ => []) (fun _ => base) (fun _ => base) :=
  ⟨h, ht, fun _ h => absurd h (Nat.not_lt_zero _), fun _ h => absurd h (Nat.not_lt_zero _), fun _ _ h => absurd h (Nat.not_lt_zero _), fun _ h => absurd h (Nat.not_lt_zero _), fun _ h => absurd h (Nat.not_lt_zero _), fun _ _ _ h => absurd h (Nat.not_lt_zero _), fun _ h => absurd h (Nat.not_lt_zero _), fun _ h => absurd h (Nat.not_lt_zero _)⟩
theorem GsO.empty {X : Type} (e : TypeId) (c : Nat) (O : World → Nat → Nat → List Value → X → Prop) (w : World) (base top : Nat) : GsO e c O w base top (.slice none 0 0) [] :=
  ⟨_, _, _, _, GsK.start e c O w base top _ _ _ [] (World.ownsRow_nil _ _ _ _) (fun _ h => by simp [Value.ownBlock] at h)⟩

/-- Cells stored one behind the other. -/
def sets (w : World) (g o : Nat) : List Value → World
  | [] => w
  | y :: ys => sets (w.setCell ⟨g, o, none⟩ y) g (o + 1) ys
def setL (xs : List Value) (o : Nat) : List Value → List Value
  | [] => xs
  | y :: ys => setL (xs.set o y) (o + 1) ys
theorem sets_size (g : Nat) (ys : List Value) : ∀ (w : World) (o : Nat), (sets w g o ys).heap.size = w.heap.size := by
  induction ys with
  | nil => intro w o; rfl
  | cons y ys ih => intro w o; show (sets _ g (o + 1) ys).heap.size = _; rw [ih, World.size_setCell]
theorem sets_mid (g : Nat) (ys : List Value) : ∀ (w : World) (o : Nat), Mid g (g + 1) w (sets w g o ys) := by
  induction ys with
  | nil => intro w o; exact Mid.of_below (Below.refl _ _)
  | cons y ys ih => intro w o; exact ((Mid.of_below (Below.refl _ _)).set (p := ⟨g, o, none⟩) (Nat.le_refl _) (Nat.lt_succ_self _) y).trans (ih _ _)
theorem sets_row {base g n cap c : Nat} {e : TypeId} (ys : List Value) : ∀ (w : World) (o : Nat) (xs : List Value), w.ownsRow base e c (.slice (some ⟨g, 0, none⟩) n cap) n xs → (sets w g o ys).ownsRow base e c (.slice (some ⟨g, 0, none⟩) n cap) n (setL xs o ys) := by
  induction ys with
  | nil => intro w o xs h; exact h
  | cons y ys ih => intro w o xs h; exact ih _ _ _ (h.stored o y).1
theorem setL_len (ys : List Value) : ∀ (xs : List Value) (o : Nat), (setL xs o ys).length = xs.length := by
  induction ys with
  | nil => intro xs o; rfl
  | cons y ys ih => intro xs o; show (setL _ (o + 1) ys).length = _; rw [ih, List.length_set]
theorem setL_other (ys : List Value) : ∀ (xs : List Value) (o j : Nat), (j < o ∨ o + ys.length ≤ j) → (setL xs o ys)[j]? = xs[j]? := by
  induction ys with
  | nil => intro xs o j _; rfl
  | cons y ys ih =>
    intro xs o j h
    rw [List.length_cons] at h
    show (setL (xs.set o y) (o + 1) ys)[j]? = _
    rw [ih _ _ _ (by omega), List.getElem?_set_ne (by omega)]
theorem setL_at (ys : List Value) : ∀ (xs : List Value) (o j : Nat), j < ys.length → o + ys.length ≤ xs.length → (setL xs o ys)[o + j]? = ys[j]? := by
  induction ys with
  | nil => intro xs o j h; simp at h
  | cons y ys ih =>
    intro xs o j h hl
    rw [List.length_cons] at h hl
    show (setL (xs.set o y) (o + 1) ys)[o + j]? = _
    cases j with
    | zero => rw [setL_other _ _ _ _ (by omega), Nat.add_zero, List.getElem?_set_self (by omega)]; rfl
    | succ j => rw [show o + (j + 1) = o + 1 + j by omega, ih _ _ _ (by omega) (by rw [List.length_set]; omega)]; rfl
/-- One more is laid into the row. -/
theorem GsK.add {X : Type} {e : TypeId} {c : Nat} {O : World → Nat → Nat → List Value → X → Prop} {w w2 : World} {base g n cap : Nat} {xs : List X} {k : Nat} {ys : List Value} {cs : Nat → List Value} {s t : Nat → Nat} {zs : List Value}
    (h : GsK e c O w base w.heap.size (.slice (some ⟨g, 0, none⟩) n cap) n xs k ys cs s t) (hb : base ≤ w.heap.size) (hB : Below w.heap.size w w2) (hk : k < xs.length) (hkn : k < n) (hz : zs.length = c)
    (hO : ∀ lo hi b t cs x (w1 : World), Mid lo hi w2 w1 → O w2 b t cs x → (hi ≤ b ∨ t ≤ lo) → O w1 b t cs x) (hBO : ∀ b t cs x, O w b t cs x → O w2 b t cs x) (hn : O w2 w.heap.size w2.heap.size zs xs[k]) :
    GsK e c O (sets w2 g (k * c) zs) base (sets w2 g (k * c) zs).heap.size (.slice (some ⟨g, 0, none⟩) n cap) n xs (k + 1) (setL ys (k * c) zs) (fun i => if i = k then zs else cs i) (fun i => if i = k then w.heap.size else s i) (fun i => if i = k then w2.heap.size else t i) := by
  have hrow := ownsRow_below h.row hB
  have hlen : ys.length = n * c := h.row.1
  have hs := hB.size
  have hgw : g < w.heap.size := h.rlt g rfl
  have hkc : (k + 1) * c ≤ n * c := Nat.mul_le_mul_right c hkn
  rw [Nat.add_mul, Nat.one_mul] at hkc
  have M := sets_mid g zs w2 (k * c)
  refine ⟨sets_row _ _ _ _ hrow, ?_, ?_, ?_, ?_, ?_, ?_, ?_, ?_, ?_⟩
  · intro g' hg'
    rw [sets_size]
    exact Nat.lt_of_lt_of_le (h.rlt g' hg') hs
  · intro i hi
    by_cases e : i = k
    · rw [if_pos e]; exact hz
    · rw [if_neg e]; exact h.len i (by omega)
  · intro i hi j hj
    by_cases e : i = k
    · subst e
      rw [if_pos rfl]
      exact setL_at _ _ _ _ (by omega) (by omega)
    · rw [if_neg e, setL_other _ _ _ _ (by
        left
        have : (i + 1) * c ≤ k * c := Nat.mul_le_mul_right c (by omega)
        rw [Nat.add_mul, Nat.one_mul] at this
        omega)]
      exact h.cel i (by omega) j hj
  · intro i hi hik
    by_cases e : i = k
    · subst e
      rw [if_pos rfl, if_pos rfl, if_pos rfl]
      exact hO _ _ _ _ _ _ _ M hn (.inl (by omega))
    · rw [if_neg e, if_neg e, if_neg e]
      refine hO _ _ _ _ _ _ _ M (hBO _ _ _ _ (h.own i hi (by omega))) ?_
      rcases h.apart i (by omega) g rfl with h1 | h1
      · exact .inl h1
      · exact .inr h1
  · intro i hi
    by_cases e : i = k
    · rw [if_pos e]; exact hb
    · rw [if_neg e]; exact h.lo i (by omega)
  · intro i hi
    by_cases e : i = k
    · rw [if_pos e, if_pos e]; exact hs
    · rw [if_neg e, if_neg e]; exact h.up i (by omega)
  · intro i j hij hj
    rw [if_neg (by omega)]
    by_cases e : j = k
    · rw [if_pos e]; exact h.hi i (by omega)
    · rw [if_neg e]; exact h.ord i j hij (by omega)
  · intro i hi
    rw [sets_size]
    by_cases e : i = k
    · rw [if_pos e]; exact Nat.le_refl _
    · rw [if_neg e]; exact Nat.le_trans (h.hi i (by omega)) hs
  · intro i hi g' hg'
    by_cases e : i = k
    · rw [if_pos e, if_pos e]
      simp [Value.ownBlock] at hg'
      exact .inl (by omega)
    · rw [if_neg e, if_neg e]
      exact h.apart i (by omega) g' hg'
/-- One more is put behind. -/
theorem GsK.app {X : Type} {e : TypeId} {c : Nat} {O : World → Nat → Nat → List Value → X → Prop} {w w2 w3 : World} {base : Nat} {v v' : Value} {xs : List X} {x : X} {ys : List Value} {cs : Nat → List Value} {s t : Nat → Nat} {zs : List Value} {tmp : Obj}
    (h : GsK e c O w base w.heap.size v xs.length xs xs.length ys cs s t) (hb : base ≤ w.heap.size) (hB : Below w.heap.size w w2) (hz : zs.length = c)
    (hO : ∀ lo hi b t cs x (w1 : World), Mid lo hi w2 w1 → O w2 b t cs x → (hi ≤ b ∨ t ≤ lo) → O w1 b t cs x) (hBO : ∀ b t cs x, O w b t cs x → O w2 b t cs x) (hn : O w2 w.heap.size w2.heap.size zs x)
    (hown : w3.ownsRow base e c v' (xs.length + 1) (ys ++ zs)) (hg : (w2.alloc tmp).grownBy w3 v.ownBlock) (hat : v'.ownBlock = v.ownBlock ∨ v'.ownBlock = some (w2.alloc tmp).heap.size) : GsO e c O w3 base w3.heap.size v' (xs ++ [x]) := by
  have hlen : ys.length = xs.length * c := h.row.1
  have hs := hB.size
  have ha : (w2.alloc tmp).heap.size = w2.heap.size + 1 := by simp
  have hg3 := hg.size
  have keep : ∀ b t cs x, O w2 b t cs x → (∀ g, v.ownBlock = some g → g < b ∨ t ≤ g) → O w3 b t cs x := by
    intro b t cs x h1 h2
    have M0 : Mid 0 0 w2 (w2.alloc tmp) := Mid.of_below ((Below.refl _ _).alloc (Nat.le_refl _) _)
    cases hv : v.ownBlock with
    | none =>
      rw [hv] at hg
      exact hO _ _ _ _ _ _ _ (M0.trans (Mid.of_grown (lo := 0) (hi := 0) hg (fun k hk => by cases hk))) h1 (.inl (Nat.zero_le _))
    | some g =>
      rw [hv] at hg
      have M1 : Mid g (g + 1) w2 (w2.alloc tmp) := Mid.of_below ((Below.refl _ _).alloc (Nat.le_refl _) _)
      exact hO _ _ _ _ _ _ _ (M1.trans (Mid.of_grown (lo := g) (hi := g + 1) hg (fun k hk => by cases hk; omega))) h1 (by have := h2 g hv; omega)
  refine ⟨ys ++ zs, fun i => if i = xs.length then zs else cs i, fun i => if i = xs.length then w.heap.size else s i, fun i => if i = xs.length then w2.heap.size else t i, ?_⟩
  have hl1 : (xs ++ [x]).length = xs.length + 1 := by simp
  rw [hl1]
  refine ⟨hown, fun g hg => (hown.lt g hg).2, ?_, ?_, ?_, ?_, ?_, ?_, ?_, ?_⟩
  · intro i hi
    by_cases e : i = xs.length
    · rw [if_pos e]; exact hz
    · rw [if_neg e]; exact h.len i (by omega)
  · intro i hi j hj
    by_cases e : i = xs.length
    · subst e
      rw [if_pos rfl, List.getElem?_append_right (by omega), hlen, Nat.add_sub_cancel_left]
    · have : (i + 1) * c ≤ xs.length * c := Nat.mul_le_mul_right c (by omega)
      rw [Nat.add_mul, Nat.one_mul] at this
      rw [if_neg e, List.getElem?_append_left (by omega)]
      exact h.cel i (by omega) j hj
  · intro i hi hik
    by_cases e : i = xs.length
    · subst e
      have e2 : (xs ++ [x])[xs.length]'hi = x := by simp
      rw [if_pos rfl, if_pos rfl, if_pos rfl, e2]
      exact keep _ _ _ _ hn (fun g hg => .inl (h.rlt g hg))
    · have hi' : i < xs.length := by omega
      have e2 : (xs ++ [x])[i]'hi = xs[i] := List.getElem_append_left hi'
      rw [if_neg e, if_neg e, if_neg e, e2]
      exact keep _ _ _ _ (hBO _ _ _ _ (h.own i hi' hi')) (h.apart i hi')
  · intro i hi
    by_cases e : i = xs.length
    · rw [if_pos e]; exact hb
    · rw [if_neg e]; exact h.lo i (by omega)
  · intro i hi
    by_cases e : i = xs.length
    · rw [if_pos e, if_pos e]; exact hs
    · rw [if_neg e, if_neg e]; exact h.up i (by omega)
  · intro i j hij hj
    rw [if_neg (by omega)]
    by_cases e : j = xs.length
    · rw [if_pos e]; exact h.hi i (by omega)
    · rw [if_neg e]; exact h.ord i j hij (by omega)
  · intro i hi
    by_cases e : i = xs.length
    · rw [if_pos e]; omega
    · rw [if_neg e]; have := h.hi i (by omega); omega
  · intro i hi g hg'
    have hcase : (v.ownBlock = some g) ∨ g = w2.heap.size + 1 := by
      rcases hat with e | e
      · exact .inl (by rw [← e]; exact hg')
      · rw [e, ha] at hg'
        exact .inr (Option.some.inj hg').symm
    by_cases e : i = xs.length
    · rw [if_pos e, if_pos e]
      rcases hcase with h1 | h1
      · exact .inl (h.rlt g h1)
      · omega
    · rw [if_neg e, if_neg e]
      rcases hcase with h1 | h1
      · exact h.apart i (by omega) g h1
      · have := h.hi i (by omega)
        omega
/-- One of them, where it lies. -/
theorem GsO.at {X : Type} {e : TypeId} {c : Nat} {O : World → Nat → Nat → List Value → X → Prop} {w : World} {base top : Nat} {a : Option Addr} {n cap : Nat} {xs : List X} (h : GsO e c O w base top (.slice a n cap) xs) {i : Nat} (hi : i < xs.length) :
    ∃ g cs lo hi, a = some ⟨g, 0, none⟩ ∧ base ≤ g ∧ g < w.heap.size ∧ n ≤ cap ∧ (∀ j y, cs[j]? = some y → w.cell? ⟨g, i * c + j, none⟩ = some y) ∧ O w lo hi cs xs[i] := by
  obtain ⟨ys, cs, s, t, h⟩ := h
  rcases row_form h.row with ⟨_, h0⟩ | ⟨g, cap', hv, hg, hcap⟩
  · omega
  · cases hv
    refine ⟨g, cs i, s i, t i, rfl, hg, (h.row.lt g rfl).2, hcap, fun j y hy => ?_, h.own i hi hi⟩
    have hj : j < c := by
      have := (List.getElem?_eq_some_iff.1 hy).1
      rwa [h.len i hi] at this
    have hij : i * c + j < xs.length * c := by
      have : (i + 1) * c ≤ xs.length * c := Nat.mul_le_mul_right c hi
      rw [Nat.add_mul, Nat.one_mul] at this
      omega
    rw [h.row.cellAt (i * c + j) hij, h.cel i hi j hj]
    exact hy

/-- How much all of a list counts. -/
def gzTo {X : Type} (f : X → Nat) (xs : List X) (n : Nat) : Nat := ((xs.take n).map f).sum
def gzAll {X : Type} (f : X → Nat) (xs : List X) : Nat := xs.length + gzTo f xs xs.length
theorem gzTo_zero {X : Type} (f : X → Nat) (xs : List X) : gzTo f xs 0 = 0 := by simp [gzTo]
theorem gzTo_succ {X : Type} {f : X → Nat} {xs : List X} {n : Nat} (h : n < xs.length) : gzTo f xs (n + 1) = gzTo f xs n + f xs[n] := by
  unfold gzTo
  rw [List.take_succ_eq_append_getElem h, List.map_append, List.sum_append]
  simp
theorem gzTo_le {X : Type} (f : X → Nat) (xs : List X) (n : Nat) : gzTo f xs n ≤ gzTo f xs xs.length := by
  unfold gzTo
  rw [List.take_length]
  conv => rhs; rw [← List.take_append_drop n xs, List.map_append, List.sum_append]
  omega
theorem gz_mem {X : Type} {f : X → Nat} {xs : List X} {x : X} (h : x ∈ xs) : f x ≤ gzTo f xs xs.length := by
  unfold gzTo
  rw [List.take_length]
  exact sum_mem (List.mem_map.2 ⟨x, h, rfl⟩)
/-- No list is longer than the laws take. -/
def gShort {X : Type} (f : X → Prop) (xs : List X) : Prop := xs.length ≤ 1048576 ∧ ∀ x ∈ xs, f x

set_option maxRecDepth 100000 in
open Go.Deep Go.ChangeShapes Go.WideShapes Go.ChangeAt Go.Joins in
/-- A list that comes in, where its elements' cells can be read. -/
theorem openGs {X : Type} [Inhabited X] {H : Type} {enc : TypeId × Value → H} {W : World} {A : World → List Value → X → Prop} {fits : X → Prop} {ts te : TypeId} {c : Nat} {c0 : Value} {d : DataW H × List MemPlace} {fuel : Nat}
    (hu : Tryz.prog.underlying ts = some (.slice te)) (hc : Tryz.prog.cellsOf te = c) (hc0 : 0 < c)
    (hE : ∀ (l : List Value) (y : DataW H × List MemPlace) (m : Nat), l.length = c → DataW.trod enc Tryz.prog W 0 (fun _ => true) true m te l = some y → ∃ x : X, A W l x ∧ fits x)
    (hf : DataW.trod enc Tryz.prog W 0 (fun _ => true) true fuel ts [c0] = some d) :
    ∃ (a : Option Addr) (n k : Nat) (xs : List X), c0 = .slice a n k ∧ GsA c A W (.slice a n k) xs ∧ xs.length = n ∧ n ≤ maxLen ∧ ∀ x ∈ xs, fits x := by
  rcases open_slice hu hf with ⟨hcs, _⟩ | ⟨x, n, cap, m, k, D, Pl, hcs, _, hl, hm, hmm, _, hx⟩
  · simp at hcs
    exact ⟨_, _, _, [], hcs, .inl ⟨_, _, rfl, rfl⟩, rfl, Nat.zero_le _, fun r hr => by cases hr⟩
  · simp at hcs
    have hlm : n ≤ m := by rw [hmm]; simpa using hl
    have each : ∀ i, i < n → ∃ s : X, (∃ cs : List Value, cs.length = c ∧ (∀ j y, cs[j]? = some y → W.cell? (x.add (i * c + j)) = some y) ∧ A W cs s) ∧ fits s := by
      intro i hi
      obtain ⟨cs', h1, h2⟩ := hx i (by omega)
      rw [hc] at h1
      obtain ⟨_, hlen, hcell⟩ := World.cells?_some h1
      obtain ⟨s, h3, h4⟩ := hE cs' _ _ hlen h2
      refine ⟨s, ⟨cs', hlen, fun j y hy => ?_, h3⟩, h4⟩
      have hj := (List.getElem?_eq_some_iff.1 hy).1
      have := hcell j (by omega)
      rw [add_add] at this
      rw [this]
      exact hy
    obtain ⟨q, hq⟩ := choose_lt each
    by_cases h0 : n = 0
    · subst h0
      exact ⟨_, _, _, [], hcs, .inl ⟨_, _, rfl, rfl⟩, rfl, Nat.zero_le _, fun r hr => by cases hr⟩
    · obtain ⟨b, off, spot⟩ := x
      obtain ⟨cs, hz0, hz1, _⟩ := (hq 0 (by omega)).1
      have hz := hz1 0 _ (List.getElem?_eq_getElem (by omega))
      have hs : spot = none := by simpa [Addr.add] using World.cell?_spot hz
      subst hs
      have hlt : b < W.heap.size := by
        rw [Addr.add_lit] at hz
        by_cases hb : b < W.heap.size
        · exact hb
        · simp only [World.cell?] at hz
          rw [Array.getElem?_eq_none (by omega)] at hz
          cases hz
      refine ⟨_, _, _, (List.range n).map q, hcs, .inr ⟨b, off, cap, by simp, hlt, by simpa using hl, fun i hi => ?_⟩, by simp, by omega, ?_⟩
      · have hi' : i < n := by simpa using hi
        obtain ⟨cs, h1, h2, h3⟩ := (hq i hi').1
        refine ⟨cs, h1, fun j y hy => ?_, by simpa using h3⟩
        have := h2 j y hy
        rw [Addr.add_lit, ← Nat.add_assoc] at this
        exact this
      · intro r hr
        obtain ⟨i, hi, rfl⟩ := List.mem_map.1 hr
        exact (hq i (List.mem_range.1 hi)).2

end Go.Proofs.YtnbojbcljfiamaaGreatDoor

namespace Go.Proofs.YtnbojbcljfiamaaGreatDoor
open Go.RowKit Go.Shelf

/-- An ask. -/
structure Ak where
  tk : List Lk
  me : ByteArray
  pa : ByteArray
/-- These cells read as this one. -/
def AkC (w : World) (cs : List Value) (a : Ak) : Prop := ∃ p0x p0z, cs = [.slice p0x a.tk.length p0z, .string a.me, .string a.pa] ∧ LkS w (.slice p0x a.tk.length p0z) a.tk
/-- .. of one's own, in blocks from base on, below top. -/
def AkO (w : World) (base top : Nat) (cs : List Value) (a : Ak) : Prop := ∃ p0x p0z, cs = [.slice p0x a.tk.length p0z, .string a.me, .string a.pa] ∧ RoO 126 5 w base top (.slice p0x a.tk.length p0z) a.tk.length (a.tk.flatMap Lk.cells)
def Ak.fits (a : Ak) : Prop := (a.tk.length ≤ maxLen ∧ ∀ k ∈ a.tk, k.fits) ∧ a.me.size ≤ maxLen ∧ a.pa.size ≤ maxLen
def Ak.size (a : Ak) : Nat := lzAll a.tk + a.me.size + a.pa.size
def Ak.short (a : Ak) : Prop := (a.tk.length ≤ 1048576 ∧ ∀ k ∈ a.tk, k.size ≤ 1048576) ∧ a.me.size ≤ 1048576 ∧ a.pa.size ≤ 1048576
theorem AkC.below {w w' : World} {cs : List Value} {a : Ak} (h : AkC w cs a) (hB : Below w.heap.size w w') : AkC w' cs a := by
  obtain ⟨p0x, p0z, rfl, h0⟩ := h
  exact ⟨_, _, rfl, h0.below hB⟩
theorem AkO.mid {lo hi : Nat} {w w1 : World} {base top : Nat} {cs : List Value} {a : Ak} (h : AkO w base top cs a) (M : Mid lo hi w w1) (ho : hi ≤ base ∨ top ≤ lo) : AkO w1 base top cs a := by
  obtain ⟨p0x, p0z, rfl, h0⟩ := h
  exact ⟨_, _, rfl, h0.mid M (by omega)⟩
theorem AkO.below {w w1 : World} {base top : Nat} {cs : List Value} {a : Ak} (h : AkO w base top cs a) (hB : Below w.heap.size w w1) : AkO w1 base top cs a := h.mid (Mid.of_below (lo := 0) (hi := 0) hB) (.inl (Nat.zero_le _))
theorem AkO.mono {w : World} {base base' top top' : Nat} {cs : List Value} {a : Ak} (h : AkO w base top cs a) (hb : base' ≤ base) (ht : top ≤ top') : AkO w base' top' cs a := by
  obtain ⟨p0x, p0z, rfl, h0⟩ := h
  exact ⟨_, _, rfl, h0.mono hb ht⟩
theorem Ak.short_of {a : Ak} (h : a.size ≤ 1048576) : a.short := by
  unfold Ak.size lzAll at h
  exact ⟨⟨by omega, fun k hk => by have := lz_mem hk; omega⟩, by omega, by omega⟩
theorem AkO.a {w : World} {base top : Nat} {cs : List Value} {a : Ak} (h : AkO w base top cs a) : AkC w cs a := by
  obtain ⟨_, _, rfl, h0⟩ := h
  exact ⟨_, _, rfl, LkS.own h0.1⟩

set_option maxRecDepth 100000 in
theorem cellsAsk : Tryz.prog.cellsOf 31 = 3 := by kernel_rfl
set_option maxRecDepth 100000 in
open Go.Deep Go.ChangeShapes Go.WideShapes Go.ChangeAt Go.Joins in
/-- The cells of an ask that comes in. -/
theorem openAkC {H : Type} {enc : TypeId × Value → H} {W : World} {l : List Value} {y : DataW H × List MemPlace} {fuel : Nat} (hsz : l.length = 3) (hf : DataW.trod enc Tryz.prog W 0 (fun _ => true) true fuel 31 l = some y) :
    ∃ a : Ak, AkC W l a ∧ a.fits := by
  obtain ⟨c0, c1, c2, rfl⟩ : ∃ c0 c1 c2, l = [c0, c1, c2] := by
    match l, hsz with
    | [c0, c1, c2], _ => exact ⟨c0, c1, c2, rfl⟩
  obtain ⟨xs, n, _, _, _, hlen, hfs⟩ := DataW.trod_struct Tryz.underlying31 hf
  obtain ⟨y0, y1, y2, rfl⟩ : ∃ y0 y1 y2, xs = [y0, y1, y2] := by
    match xs, hlen with
    | [y0, y1, y2], _ => exact ⟨y0, y1, y2, rfl⟩
  have cl : Tryz.prog.cellsOf 29 = 1 := by kernel_rfl
  have cs : Tryz.prog.cellsOf 9 = 1 := by kernel_rfl
  have h0 : DataW.trod enc Tryz.prog W 0 (fun _ => true) true n 29 [c0] = some y0 := by have := hfs 0 _ rfl; simpa [Value.cells, cl] using this
  have h1 : DataW.trod enc Tryz.prog W 0 (fun _ => true) true n 9 [c1] = some y1 := by have := hfs 1 _ rfl; simpa [Value.cells, cl, cs] using this
  have h2 : DataW.trod enc Tryz.prog W 0 (fun _ => true) true n 9 [c2] = some y2 := by have := hfs 2 _ rfl; simpa [Value.cells, cl, cs] using this
  obtain ⟨a0, n0, k0, ks, rfl, r0, rfl, l0, f0⟩ := openLkR h0
  obtain ⟨x1, f1, _, w1⟩ := DataW.trod_string Tryz.underlying9 h1
  obtain ⟨x2, f2, _, w2⟩ := DataW.trod_string Tryz.underlying9 h2
  simp at f1 f2
  subst f1 f2
  exact ⟨⟨ks, x1, x2⟩, ⟨_, _, rfl, r0⟩, ⟨l0, f0⟩, w1, w2⟩
set_option maxRecDepth 100000 in
open Go.Deep Go.ChangeShapes Go.WideShapes Go.ChangeAt Go.Joins in
/-- An ask that comes in. -/
theorem openAk {H : Type} {enc : TypeId × Value → H} {W : World} {base : Nat} {v : Value} {y : DataW H} {p : List MemPlace} (hv : Value.okWide Tryz.prog W .any base 31 v) (h : DataW.Trod enc Tryz.prog W 0 (fun _ => true) true 31 v y p) :
    ∃ (cs : List Value) (a : Ak), v = .agg cs.toArray ∧ AkC W cs a ∧ a.fits := by
  obtain ⟨cs, rfl, hsz⟩ := okWide_struct Tryz.underlying31 hv
  rw [cellsAsk] at hsz
  obtain ⟨l⟩ := cs
  obtain ⟨fuel, hf⟩ := h
  obtain ⟨a, h1, h2⟩ := openAkC hsz hf
  exact ⟨l, a, rfl, h1, h2⟩

set_option maxHeartbeats 4000000 in
set_option maxRecDepth 100000 in
theorem szAsk_any (cs : List Value) (a : Ak) (n : Int) (w : World) (h0 : 0 ≤ n) (hn : n ≤ 1048576) (hf : a.fits) (h : AkC w cs a) :
    Calls Tryz.prog 6 #[.agg cs.toArray, .int .i64 n] w fun e w' => e = .returned (.int .i64 (leftK n a.size)) ∧ Below w.heap.size w w' := by
  obtain ⟨p0x, p0z, rfl, h1⟩ := h
  obtain ⟨f0, f1, f2⟩ := hf
  have hB0 : Below w.heap.size w (w.alloc (.cells #[.slice p0x a.tk.length p0z, .string a.me, .string a.pa] 31)) := (Below.refl _ w).alloc (Nat.le_refl _) _
  have F1 := Three.new w (.slice p0x a.tk.length p0z) (.string a.me) (.string a.pa) 31
  have HI := hid (show leftK n a.size = if (a.size : Int) ≤ n then n - (a.size : Int) else (-1 : Int) from rfl)
  have HZ := hid (show a.size = lzAll a.tk + a.me.size + a.pa.size from rfl)
  obtain ⟨N0, HN0⟩ : ∃ N : Nat, Hid (N = lzAll a.tk) := ⟨_, hid rfl⟩
  obtain ⟨N1, HN1⟩ : ∃ N : Nat, Hid (N = a.me.size) := ⟨_, hid rfl⟩
  obtain ⟨N2, HN2⟩ : ∃ N : Nat, Hid (N = a.pa.size) := ⟨_, hid rfl⟩
  have HN1' := HN1.out
  have e1 : a.me.size = N1 := HN1'.symm
  have u1 : N1 ≤ 9223372036854775807 := by unfold maxLen at f1; omega
  clear HN1'
  have HN2' := HN2.out
  have e2 : a.pa.size = N2 := HN2'.symm
  have u2 : N2 ≤ 9223372036854775807 := by unfold maxLen at f2; omega
  clear HN2'
  go_enter Tryz.func6, Tryz.ntmps6
  go_wp2_with fail
  generalize w.alloc (.cells #[.slice p0x a.tk.length p0z, .string a.me, .string a.pa] 31) = W0 at *
  refine (szLinkS_any _ a.tk (n) _ (by omega) (by omega) f0.1 f0.2 (h1.below hB0)).mono ?_
  rintro e w1 ⟨rfl, hB1⟩
  replace F1 := F1.below hB1
  replace hB0 := below_one hB0 hB1
  clear hB1
  obtain ⟨a0, a1, a2⟩ := F1.c
  by_cases c0 : (N0 : Int) ≤ n
  · rw [show leftL (n) a.tk = n - (N0 : Int) from (show leftK (n) _ = _ by unfold leftK; rw [← HN0.out]; exact if_pos c0)]
    have d0 : decide (n - (N0 : Int) < 0) = false := by simp; omega
    by_cases c1 : (N1 : Int) ≤ n - (N0 : Int)
    · have d1 : decide (n - (N0 : Int) - (N1 : Int) < 0) = false := by simp; omega
      by_cases c2 : (N2 : Int) ≤ n - (N0 : Int) - (N1 : Int)
      · have d2 : decide (n - (N0 : Int) - (N1 : Int) - (N2 : Int) < 0) = false := by simp; omega
        have HR := hid (show leftK n a.size = n - (N0 : Int) - (N1 : Int) - (N2 : Int) by rw [HI.out, if_pos (by rw [HZ.out, ← HN0.out, ← HN1.out, ← HN2.out]; push_cast; omega)]; rw [HZ.out, ← HN0.out, ← HN1.out, ← HN2.out]; push_cast; omega)
        go_wp2_with fail
        go_ret
        exact ⟨ret_int HR.out.symm, hB0⟩
      · have d2 : decide (n - (N0 : Int) - (N1 : Int) - (N2 : Int) < 0) = true := by simp; omega
        have HR := hid (show leftK n a.size = -1 by rw [HI.out, if_neg (by rw [HZ.out, ← HN0.out, ← HN1.out, ← HN2.out]; push_cast; omega)])
        go_wp2_with fail
        go_ret
        exact ⟨ret_int HR.out.symm, hB0⟩
    · have d1 : decide (n - (N0 : Int) - (N1 : Int) < 0) = true := by simp; omega
      have HR := hid (show leftK n a.size = -1 by rw [HI.out, if_neg (by rw [HZ.out, ← HN0.out, ← HN1.out, ← HN2.out]; push_cast; omega)])
      go_wp2_with fail
      go_ret
      exact ⟨ret_int HR.out.symm, hB0⟩
  · rw [show leftL (n) a.tk = -1 from (show leftK (n) _ = _ by unfold leftK; rw [← HN0.out]; exact if_neg c0)]
    have HR := hid (show leftK n a.size = -1 by rw [HI.out, if_neg (by rw [HZ.out, ← HN0.out, ← HN1.out, ← HN2.out]; push_cast; omega)])
    go_wp2_with fail
    go_ret
    exact ⟨ret_int HR.out.symm, hB0⟩

set_option maxHeartbeats 4000000 in
set_option maxRecDepth 100000 in
theorem eqAsk_same (cs cs' : List Value) (a : Ak) (w : World) (hs : a.short) (h : AkC w cs a) (h' : AkC w cs' a) :
    Calls Tryz.prog 14 #[.agg cs.toArray, .agg cs'.toArray] w fun e w' => e = .returned (.bool true) ∧ Below w.heap.size w w' := by
  obtain ⟨p0x, p0z, rfl, h0⟩ := h
  obtain ⟨q0x, q0z, rfl, h0'⟩ := h'
  obtain ⟨s0, s1, s2⟩ := hs
  have hB0 : Below w.heap.size w ((w.alloc (.cells #[.slice p0x a.tk.length p0z, .string a.me, .string a.pa] 46)).alloc (.cells #[.slice q0x a.tk.length q0z, .string a.me, .string a.pa] 46)) := ((Below.refl _ w).alloc (Nat.le_refl _) _).alloc (by simp) _
  have F1 := (Three.new w (.slice p0x a.tk.length p0z) (.string a.me) (.string a.pa) 46).below ((Below.refl _ _).alloc (Nat.le_refl _) (.cells #[.slice q0x a.tk.length q0z, .string a.me, .string a.pa] 46))
  have F2 := Three.at (w.alloc (.cells #[.slice p0x a.tk.length p0z, .string a.me, .string a.pa] 46)) (.slice q0x a.tk.length q0z) (.string a.me) (.string a.pa) 46 (k := w.heap.size + 1) (by simp)
  have e1 : (a.me.toList == a.me.toList) = true := by simp
  have e2 : (a.pa.toList == a.pa.toList) = true := by simp
  go_enter Tryz.func14, Tryz.ntmps14
  go_wp2_with fail
  generalize (w.alloc (.cells #[.slice p0x a.tk.length p0z, .string a.me, .string a.pa] 46)).alloc (.cells #[.slice q0x a.tk.length q0z, .string a.me, .string a.pa] 46) = W0 at *
  refine (eqLinkS_any _ _ a.tk a.tk _ (Nat.le_succ_of_le s0.1) (Nat.le_succ_of_le s0.1) (h0.below hB0) (h0'.below hB0)).mono ?_
  rintro e w1 ⟨rfl, hB1⟩
  rw [lsS_refl]
  replace F1 := F1.below hB1
  replace F2 := F2.below hB1
  replace hB0 := below_one hB0 hB1
  clear hB1
  obtain ⟨a0, a1, a2⟩ := F1.c
  obtain ⟨c0, c1, c2⟩ := F2.c
  go_wp2_with fail
  go_ret
  exact ⟨rfl, hB0⟩

set_option maxHeartbeats 16000000 in
set_option maxRecDepth 100000 in
theorem toAsk_any (cs : List Value) (a : Ak) (w : World) (hs : a.short) (h : AkC w cs a) :
    Calls Tryz.prog 10 #[.agg cs.toArray] w fun e w' => ∃ cs', e = .returned (.agg cs'.toArray) ∧ AkO w' w.heap.size w'.heap.size cs' a ∧ Below w.heap.size w w' := by
  obtain ⟨p0x, p0z, rfl, h0⟩ := h
  obtain ⟨s0, s1, s2⟩ := hs
  have hB0 : Below w.heap.size w (((w.alloc (.cells #[.slice p0x a.tk.length p0z, .string a.me, .string a.pa] 31)).alloc (.cells #[.slice none 0 0, .string ⟨#[]⟩, .string ⟨#[]⟩] 46)).alloc (.cells #[.slice none 0 0, .string ⟨#[]⟩, .string ⟨#[]⟩] 46)) := (((Below.refl _ w).alloc (Nat.le_refl _) _).alloc (by simp) _).alloc (by simp; omega) _
  have F1 := ((Three.new w (.slice p0x a.tk.length p0z) (.string a.me) (.string a.pa) 31).below ((Below.refl _ _).alloc (Nat.le_refl _) (.cells #[.slice none 0 0, .string ⟨#[]⟩, .string ⟨#[]⟩] 46))).below ((Below.refl _ _).alloc (Nat.le_refl _) (.cells #[.slice none 0 0, .string ⟨#[]⟩, .string ⟨#[]⟩] 46))
  have F2 := (Three.at (w.alloc (.cells #[.slice p0x a.tk.length p0z, .string a.me, .string a.pa] 31)) (.slice none 0 0) (.string ⟨#[]⟩) (.string ⟨#[]⟩) 46 (k := w.heap.size + 1) (by simp)).below ((Below.refl _ _).alloc (Nat.le_refl _) (.cells #[.slice none 0 0, .string ⟨#[]⟩, .string ⟨#[]⟩] 46))
  have F3 := Three.at ((w.alloc (.cells #[.slice p0x a.tk.length p0z, .string a.me, .string a.pa] 31)).alloc (.cells #[.slice none 0 0, .string ⟨#[]⟩, .string ⟨#[]⟩] 46)) (.slice none 0 0) (.string ⟨#[]⟩) (.string ⟨#[]⟩) 46 (k := w.heap.size + 1 + 1) (by simp)
  have hK : w.heap.size + 1 + 1 < (((w.alloc (.cells #[.slice p0x a.tk.length p0z, .string a.me, .string a.pa] 31)).alloc (.cells #[.slice none 0 0, .string ⟨#[]⟩, .string ⟨#[]⟩] 46)).alloc (.cells #[.slice none 0 0, .string ⟨#[]⟩, .string ⟨#[]⟩] 46)).heap.size := F3.lt
  go_enter Tryz.func10, Tryz.ntmps10
  go_wp2_with fail
  generalize ((w.alloc (.cells #[.slice p0x a.tk.length p0z, .string a.me, .string a.pa] 31)).alloc (.cells #[.slice none 0 0, .string ⟨#[]⟩, .string ⟨#[]⟩] 46)).alloc (.cells #[.slice none 0 0, .string ⟨#[]⟩, .string ⟨#[]⟩] 46) = W0 at *
  refine (toLinkS_any _ a.tk _ s0.1 (h0.below hB0)).mono ?_
  rintro e w1 ⟨v1, rfl, o0, hB1⟩
  replace o0 := RoO.of o0
  obtain ⟨r0x, r0z, rfl⟩ := RoO.len o0
  replace F1 := F1.below hB1
  replace F2 := F2.below hB1
  replace F3 := F3.below hB1
  replace hB0 := below_one hB0 hB1
  have hs1 := hB1.size
  clear hB1
  obtain ⟨a0, a1, a2⟩ := F1.c
  obtain ⟨c0, c1, c2⟩ := F3.c
  have f0 := F3.f 0
  have f1 := F3.f 1
  have f2 := F3.f 2
  have G3 := (((F3.s0 (.slice r0x a.tk.length r0z)).s1 (.string a.me)).s2 (.string a.pa))
  have G2 := (((F2.other (k' := w.heap.size + 1 + 1) (by omega) 0 (.slice r0x a.tk.length r0z)).other (k' := w.heap.size + 1 + 1) (by omega) 1 (.string a.me)).other (k' := w.heap.size + 1 + 1) (by omega) 2 (.string a.pa))
  obtain ⟨m0, m1, m2⟩ := G3.c
  obtain ⟨t0, t1, t2⟩ := G2.c
  have g0 := G2.f 0
  have g1 := G2.f 1
  have g2 := G2.f 2
  have G := (((G2.s0 (.slice r0x a.tk.length r0z)).s1 (.string a.me)).s2 (.string a.pa))
  have M9 : Mid (w.heap.size + 1) (w.heap.size + 1 + 1 + 1) w1 ((((((w1.setCell ⟨w.heap.size + 1 + 1, 0, none⟩ (.slice r0x a.tk.length r0z)).setCell ⟨w.heap.size + 1 + 1, 1, none⟩ (.string a.me)).setCell ⟨w.heap.size + 1 + 1, 2, none⟩ (.string a.pa)).setCell ⟨w.heap.size + 1, 0, none⟩ (.slice r0x a.tk.length r0z)).setCell ⟨w.heap.size + 1, 1, none⟩ (.string a.me)).setCell ⟨w.heap.size + 1, 2, none⟩ (.string a.pa)) := (((((((Mid.of_below (Below.refl _ _)).set (p := ⟨w.heap.size + 1 + 1, 0, none⟩) (by simp) (by simp) (.slice r0x a.tk.length r0z)).set (p := ⟨w.heap.size + 1 + 1, 1, none⟩) (by simp) (by simp) (.string a.me)).set (p := ⟨w.heap.size + 1 + 1, 2, none⟩) (by simp) (by simp) (.string a.pa)).set (p := ⟨w.heap.size + 1, 0, none⟩) (by simp) (by simp) (.slice r0x a.tk.length r0z)).set (p := ⟨w.heap.size + 1, 1, none⟩) (by simp) (by simp) (.string a.me)).set (p := ⟨w.heap.size + 1, 2, none⟩) (by simp) (by simp) (.string a.pa))
  replace o0 := o0.mid M9 (.inl (by omega))
  replace hB0 := ((((((hB0.setCell (p := ⟨w.heap.size + 1 + 1, 0, none⟩) (by simp; omega) (.slice r0x a.tk.length r0z)).setCell (p := ⟨w.heap.size + 1 + 1, 1, none⟩) (by simp; omega) (.string a.me)).setCell (p := ⟨w.heap.size + 1 + 1, 2, none⟩) (by simp; omega) (.string a.pa)).setCell (p := ⟨w.heap.size + 1, 0, none⟩) (by simp) (.slice r0x a.tk.length r0z)).setCell (p := ⟨w.heap.size + 1, 1, none⟩) (by simp) (.string a.me)).setCell (p := ⟨w.heap.size + 1, 2, none⟩) (by simp) (.string a.pa))
  have hE : w1.heap.size ≤ ((((((w1.setCell ⟨w.heap.size + 1 + 1, 0, none⟩ (.slice r0x a.tk.length r0z)).setCell ⟨w.heap.size + 1 + 1, 1, none⟩ (.string a.me)).setCell ⟨w.heap.size + 1 + 1, 2, none⟩ (.string a.pa)).setCell ⟨w.heap.size + 1, 0, none⟩ (.slice r0x a.tk.length r0z)).setCell ⟨w.heap.size + 1, 1, none⟩ (.string a.me)).setCell ⟨w.heap.size + 1, 2, none⟩ (.string a.pa)).heap.size := by simp
  have hW0 : w.heap.size ≤ W0.heap.size := by omega
  clear F1 F2 F3 M9
  go_wp2_with fail
  clear a0 a1 a2 c0 c1 c2 f0 f1 f2 m0 m1 m2 t0 t1 t2 g0 g1 g2
  generalize (((((w1.setCell ⟨w.heap.size + 1 + 1, 0, none⟩ (.slice r0x a.tk.length r0z)).setCell ⟨w.heap.size + 1 + 1, 1, none⟩ (.string a.me)).setCell ⟨w.heap.size + 1 + 1, 2, none⟩ (.string a.pa)).setCell ⟨w.heap.size + 1, 0, none⟩ (.slice r0x a.tk.length r0z)).setCell ⟨w.heap.size + 1, 1, none⟩ (.string a.me)).setCell ⟨w.heap.size + 1, 2, none⟩ (.string a.pa) = WE at *
  obtain ⟨d0, d1, d2⟩ := G.c
  exact bodyPost_ret (v := .agg #[.slice r0x a.tk.length r0z, .string a.me, .string a.pa]) (by simp [results, Tryz.results10, go_sem, d0, d1, d2]) rfl ⟨_, rfl, ⟨_, _, rfl, o0.mono (by omega) (by omega)⟩, hB0⟩

end Go.Proofs.YtnbojbcljfiamaaGreatDoor

namespace Go.Proofs
open Go.Shelf
def Tryz.lays106_ren : Go.Shelf.Ren := ⟨fun | 106 => 167 | 213 => 180 | 265 => 194 | n => n, fun | 9 => 9 | 3 => 3 | n => n, fun | n => n⟩
theorem Tryz.lays106 : Go.Proofs.Lays.n106 Tryz.prog Tryz.lays106_ren := {
  mixed := by kernel_rfl
  f106 := Tryz.func167.trans (congrArg some (by kernel_rfl))
  f213 := Tryz.func180.trans (congrArg some (by kernel_rfl))
  f265 := Tryz.func194.trans (congrArg some (by kernel_rfl))
  t3 := Tryz.underlying3
  a3 := Tryz.isAgg3
  z3 := Tryz.sizeOf3
  v3 := Tryz.zeroValue3
  t9 := Tryz.underlying9
  a9 := Tryz.isAgg9
  z9 := Tryz.sizeOf9
  v9 := Tryz.zeroValue9 }
def Tryz.lays169_ren : Go.Shelf.Ren := ⟨fun | 169 => 153 | n => n, fun | 70 => 203 | 9 => 9 | 0 => 0 | 72 => 206 | 37 => 204 | 127 => 232 | 3 => 3 | 5 => 5 | n => n, fun | n => n⟩
theorem Tryz.lays169 : Go.Proofs.Lays.n169 Tryz.prog Tryz.lays169_ren := {
  mixed := by kernel_rfl
  f169 := Tryz.func153.trans (congrArg some (by kernel_rfl))
  t0 := Tryz.underlying0
  a0 := Tryz.isAgg0
  z0 := Tryz.sizeOf0
  v0 := Tryz.zeroValue0
  t3 := Tryz.underlying3
  a3 := Tryz.isAgg3
  z3 := Tryz.sizeOf3
  v3 := Tryz.zeroValue3
  t9 := Tryz.underlying9
  a9 := Tryz.isAgg9
  z9 := Tryz.sizeOf9
  v9 := Tryz.zeroValue9
  t37 := Tryz.underlying204
  a37 := Tryz.isAgg204
  z37 := Tryz.sizeOf204
  v37 := Tryz.zeroValue204
  t70 := Tryz.underlying203
  a70 := Tryz.isAgg203
  z70 := Tryz.sizeOf203
  v70 := Tryz.zeroValue203
  t72 := Tryz.underlying206
  a72 := Tryz.isAgg206
  z72 := Tryz.sizeOf206
  v72 := Tryz.zeroValue206
  t127 := Tryz.underlying232
  a127 := Tryz.isAgg232
  z127 := Tryz.sizeOf232
  v127 := Tryz.zeroValue232 }
theorem Tryz.Builder_Extra_169 : Builder.Extra Tryz.prog Tryz.lays169_ren := {
  sizeBuilder := by kernel_rfl
  liesBuilder := by kernel_rfl
  t5 := Tryz.underlying5
  a5 := Tryz.isAgg5
  z5 := Tryz.sizeOf5
  v5 := Tryz.zeroValue5
  infoByte := by kernel_rfl
  cellsByte := by kernel_rfl
  sizeByte := by kernel_rfl
  neB5 := by decide }
def Tryz.lays156_ren : Go.Shelf.Ren := ⟨fun | 156 => 151 | 165 => 175 | 166 => 150 | 169 => 153 | 240 => 174 | 241 => 183 | 276 => 182 | 277 => 199 | n => n, fun | 31 => 32 | 9 => 9 | 3 => 3 | 4 => 4 | 0 => 0 | 20 => 20 | 72 => 206 | 76 => 210 | 70 => 203 | 37 => 204 | 75 => 209 | 127 => 232 | 164 => 240 | 5 => 5 | 80 => 214 | n => n, fun | n => n⟩
theorem Tryz.lays156 : Go.Proofs.Lays.n156 Tryz.prog Tryz.lays156_ren := {
  mixed := by kernel_rfl
  f156 := Tryz.func151.trans (congrArg some (by kernel_rfl))
  f165 := Tryz.func175.trans (congrArg some (by kernel_rfl))
  f166 := Tryz.func150.trans (congrArg some (by kernel_rfl))
  f169 := Tryz.func153.trans (congrArg some (by kernel_rfl))
  f240 := Tryz.func174.trans (congrArg some (by kernel_rfl))
  f241 := Tryz.func183.trans (congrArg some (by kernel_rfl))
  f276 := Tryz.func182.trans (congrArg some (by kernel_rfl))
  f277 := Tryz.func199.trans (congrArg some (by kernel_rfl))
  t0 := Tryz.underlying0
  a0 := Tryz.isAgg0
  z0 := Tryz.sizeOf0
  v0 := Tryz.zeroValue0
  t3 := Tryz.underlying3
  a3 := Tryz.isAgg3
  z3 := Tryz.sizeOf3
  v3 := Tryz.zeroValue3
  t4 := Tryz.underlying4
  a4 := Tryz.isAgg4
  z4 := Tryz.sizeOf4
  v4 := Tryz.zeroValue4
  t9 := Tryz.underlying9
  a9 := Tryz.isAgg9
  z9 := Tryz.sizeOf9
  v9 := Tryz.zeroValue9
  t20 := Tryz.underlying20
  a20 := Tryz.isAgg20
  z20 := Tryz.sizeOf20
  v20 := Tryz.zeroValue20
  t31 := Tryz.underlying32
  a31 := Tryz.isAgg32
  z31 := Tryz.sizeOf32
  v31 := Tryz.zeroValue32
  t37 := Tryz.underlying204
  a37 := Tryz.isAgg204
  z37 := Tryz.sizeOf204
  v37 := Tryz.zeroValue204
  t70 := Tryz.underlying203
  a70 := Tryz.isAgg203
  z70 := Tryz.sizeOf203
  v70 := Tryz.zeroValue203
  t72 := Tryz.underlying206
  a72 := Tryz.isAgg206
  z72 := Tryz.sizeOf206
  v72 := Tryz.zeroValue206
  t75 := Tryz.underlying209
  a75 := Tryz.isAgg209
  z75 := Tryz.sizeOf209
  v75 := Tryz.zeroValue209
  t76 := Tryz.underlying210
  a76 := Tryz.isAgg210
  z76 := Tryz.sizeOf210
  v76 := Tryz.zeroValue210
  t127 := Tryz.underlying232
  a127 := Tryz.isAgg232
  z127 := Tryz.sizeOf232
  v127 := Tryz.zeroValue232
  t164 := Tryz.underlying240
  a164 := Tryz.isAgg240
  z164 := Tryz.sizeOf240
  v164 := Tryz.zeroValue240 }
theorem Tryz.Builder_Extra_156 : Builder.Extra Tryz.prog Tryz.lays156_ren := {
  sizeBuilder := by kernel_rfl
  liesBuilder := by kernel_rfl
  t5 := Tryz.underlying5
  a5 := Tryz.isAgg5
  z5 := Tryz.sizeOf5
  v5 := Tryz.zeroValue5
  infoByte := by kernel_rfl
  cellsByte := by kernel_rfl
  sizeByte := by kernel_rfl
  neB5 := by decide }
def Tryz.lays171_ren : Go.Shelf.Ren := ⟨fun | 171 => 149 | 243 => 173 | 246 => 181 | 283 => 195 | 284 => 196 | 285 => 197 | 286 => 198 | 129 => 193 | 317 => 205 | 318 => 206 | 319 => 207 | 320 => 208 | 337 => 210 | 338 => 211 | n => n, fun | 3 => 3 | 9 => 9 | 2 => 2 | 4 => 4 | 171 => 253 | 0 => 0 | 53 => 252 | 37 => 204 | 5 => 5 | 173 => 255 | 212 => 265 | 51 => 221 | 20 => 20 | 213 => 266 | 46 => 238 | 232 => 269 | 233 => 270 | n => n, fun | 17 => 1 | 18 => 2 | 19 => 3 | n => n⟩
theorem Tryz.lays171 : Go.Proofs.LaysM.n171 Tryz.prog Tryz.lays171_ren := {
  mixed := by kernel_rfl
  f129 := Tryz.func193.trans (congrArg some (by kernel_rfl))
  f171 := Tryz.func149.trans (congrArg some (by kernel_rfl))
  f243 := Tryz.func173.trans (congrArg some (by kernel_rfl))
  f246 := Tryz.func181.trans (congrArg some (by kernel_rfl))
  f283 := Tryz.func195.trans (congrArg some (by kernel_rfl))
  f284 := Tryz.func196.trans (congrArg some (by kernel_rfl))
  f285 := Tryz.func197.trans (congrArg some (by kernel_rfl))
  f286 := Tryz.func198.trans (congrArg some (by kernel_rfl))
  f317 := Tryz.func205.trans (congrArg some (by kernel_rfl))
  f318 := Tryz.func206.trans (congrArg some (by kernel_rfl))
  f319 := Tryz.func207.trans (congrArg some (by kernel_rfl))
  f320 := Tryz.func208.trans (congrArg some (by kernel_rfl))
  f337 := Tryz.func210.trans (congrArg some (by kernel_rfl))
  f338 := Tryz.func211.trans (congrArg some (by kernel_rfl))
  t0 := Tryz.underlying0
  a0 := Tryz.isAgg0
  z0 := Tryz.sizeOf0
  v0 := Tryz.zeroValue0
  t2 := Tryz.underlying2
  a2 := Tryz.isAgg2
  z2 := Tryz.sizeOf2
  v2 := Tryz.zeroValue2
  t3 := Tryz.underlying3
  a3 := Tryz.isAgg3
  z3 := Tryz.sizeOf3
  v3 := Tryz.zeroValue3
  t4 := Tryz.underlying4
  a4 := Tryz.isAgg4
  z4 := Tryz.sizeOf4
  v4 := Tryz.zeroValue4
  t5 := Tryz.underlying5
  a5 := Tryz.isAgg5
  z5 := Tryz.sizeOf5
  v5 := Tryz.zeroValue5
  t9 := Tryz.underlying9
  a9 := Tryz.isAgg9
  z9 := Tryz.sizeOf9
  v9 := Tryz.zeroValue9
  t20 := Tryz.underlying20
  a20 := Tryz.isAgg20
  z20 := Tryz.sizeOf20
  v20 := Tryz.zeroValue20
  t37 := Tryz.underlying204
  a37 := Tryz.isAgg204
  z37 := Tryz.sizeOf204
  v37 := Tryz.zeroValue204
  t46 := Tryz.underlying238
  a46 := Tryz.isAgg238
  z46 := Tryz.sizeOf238
  v46 := Tryz.zeroValue238
  t51 := Tryz.underlying221
  a51 := Tryz.isAgg221
  z51 := Tryz.sizeOf221
  v51 := Tryz.zeroValue221
  t53 := Tryz.underlying252
  a53 := Tryz.isAgg252
  z53 := Tryz.sizeOf252
  v53 := Tryz.zeroValue252
  t171 := Tryz.underlying253
  a171 := Tryz.isAgg253
  z171 := Tryz.sizeOf253
  v171 := Tryz.zeroValue253
  t173 := Tryz.underlying255
  a173 := Tryz.isAgg255
  z173 := Tryz.sizeOf255
  v173 := Tryz.zeroValue255
  t212 := Tryz.underlying265
  a212 := Tryz.isAgg265
  z212 := Tryz.sizeOf265
  v212 := Tryz.zeroValue265
  t213 := Tryz.underlying266
  a213 := Tryz.isAgg266
  z213 := Tryz.sizeOf266
  t232 := Tryz.underlying269
  a232 := Tryz.isAgg269
  z232 := Tryz.sizeOf269
  v232 := Tryz.zeroValue269
  t233 := Tryz.underlying270
  a233 := Tryz.isAgg270
  z233 := Tryz.sizeOf270
  v233 := Tryz.zeroValue270
  g17 := by kernel_rfl
  g18 := by kernel_rfl
  g19 := by kernel_rfl
  i0 := by kernel_rfl
  i2 := by kernel_rfl
  i3 := by kernel_rfl
  i4 := by kernel_rfl
  i5 := by kernel_rfl
  i9 := by kernel_rfl
  i20 := by kernel_rfl
  i37 := by kernel_rfl
  i46 := by kernel_rfl
  i51 := by kernel_rfl
  i53 := by kernel_rfl
  i171 := by kernel_rfl
  i173 := by kernel_rfl
  i212 := by kernel_rfl
  i232 := by kernel_rfl
  i233 := by kernel_rfl
  m17 := by kernel_rfl
  m18 := by kernel_rfl
  m19 := by kernel_rfl }
def Tryz.lays107_ren : Go.Shelf.Ren := ⟨fun | 107 => 117 | 108 => 155 | n => n, fun | 28 => 23 | 3 => 3 | 4 => 4 | 0 => 0 | n => n, fun | n => n⟩
theorem Tryz.lays107 : Go.Proofs.Lays.n107 Tryz.prog Tryz.lays107_ren := {
  mixed := by kernel_rfl
  f107 := Tryz.func117.trans (congrArg some (by kernel_rfl))
  f108 := Tryz.func155.trans (congrArg some (by kernel_rfl))
  t0 := Tryz.underlying0
  a0 := Tryz.isAgg0
  z0 := Tryz.sizeOf0
  v0 := Tryz.zeroValue0
  t3 := Tryz.underlying3
  a3 := Tryz.isAgg3
  z3 := Tryz.sizeOf3
  v3 := Tryz.zeroValue3
  t4 := Tryz.underlying4
  a4 := Tryz.isAgg4
  z4 := Tryz.sizeOf4
  v4 := Tryz.zeroValue4
  t28 := Tryz.underlying23
  a28 := Tryz.isAgg23
  z28 := Tryz.sizeOf23
  v28 := Tryz.zeroValue23 }
def Tryz.lays110_ren : Go.Shelf.Ren := ⟨fun | 110 => 116 | 109 => 154 | n => n, fun | 31 => 32 | 9 => 9 | 4 => 4 | 3 => 3 | 0 => 0 | n => n, fun | n => n⟩
theorem Tryz.lays110 : Go.Proofs.Lays.n110 Tryz.prog Tryz.lays110_ren := {
  mixed := by kernel_rfl
  f109 := Tryz.func154.trans (congrArg some (by kernel_rfl))
  f110 := Tryz.func116.trans (congrArg some (by kernel_rfl))
  t0 := Tryz.underlying0
  a0 := Tryz.isAgg0
  z0 := Tryz.sizeOf0
  v0 := Tryz.zeroValue0
  t3 := Tryz.underlying3
  a3 := Tryz.isAgg3
  z3 := Tryz.sizeOf3
  v3 := Tryz.zeroValue3
  t4 := Tryz.underlying4
  a4 := Tryz.isAgg4
  z4 := Tryz.sizeOf4
  v4 := Tryz.zeroValue4
  t9 := Tryz.underlying9
  a9 := Tryz.isAgg9
  z9 := Tryz.sizeOf9
  v9 := Tryz.zeroValue9
  t31 := Tryz.underlying32
  a31 := Tryz.isAgg32
  z31 := Tryz.sizeOf32
  v31 := Tryz.zeroValue32 }
def Tryz.equalRu_ren : Go.Shelf.Ren := ⟨fun | 8 => 138 | n => n, fun | 22 => 38 | 24 => 122 | 4 => 4 | 3 => 3 | 0 => 0 | n => n, fun | n => n⟩
theorem Tryz.equalRu : Go.Proofs.SlLaysQ.n8 Tryz.prog Tryz.equalRu_ren := {
  mixed := by kernel_rfl
  f8 := ⟨Tryz.f138.name, by decide, Tryz.func138.trans (congrArg some (by kernel_rfl))⟩
  t0 := Tryz.underlying0
  a0 := Tryz.isAgg0
  z0 := Tryz.sizeOf0
  v0 := Tryz.zeroValue0
  t3 := Tryz.underlying3
  a3 := Tryz.isAgg3
  z3 := Tryz.sizeOf3
  v3 := Tryz.zeroValue3
  t4 := Tryz.underlying4
  a4 := Tryz.isAgg4
  z4 := Tryz.sizeOf4
  v4 := Tryz.zeroValue4
  t22 := Tryz.underlying38
  a22 := Tryz.isAgg38
  z22 := Tryz.sizeOf38
  v22 := Tryz.zeroValue38 }
def Tryz.sortRu_ren : Go.Shelf.Ren := ⟨fun | 6 => 165 | 15 => 179 | 14 => 178 | 28 => 192 | 29 => 193 | 20 => 184 | 21 => 185 | 22 => 186 | 23 => 187 | 24 => 188 | 25 => 189 | 26 => 190 | 27 => 191 | 46 => 200 | 47 => 201 | 48 => 202 | 49 => 203 | 50 => 204 | 57 => 209 | n => n, fun | 22 => 38 | 24 => 122 | 25 => 230 | 3 => 3 | 39 => 238 | 0 => 0 | 53 => 221 | 55 => 252 | 4 => 4 | 46 => 244 | 45 => 243 | 50 => 248 | 5 => 5 | 9 => 9 | 66 => 258 | 70 => 262 | 76 => 267 | 77 => 36 | n => n, fun | n => n⟩
theorem Tryz.sortRu : Go.Proofs.SlLaysF0.n6 Tryz.prog Tryz.sortRu_ren := {
  mixed := by kernel_rfl
  f6 := ⟨Tryz.f165.name, by decide, Tryz.func165.trans (congrArg some (by kernel_rfl))⟩
  f14 := ⟨Tryz.f178.name, by decide, Tryz.func178.trans (congrArg some (by kernel_rfl))⟩
  f15 := Tryz.func179.trans (congrArg some (by kernel_rfl))
  f20 := ⟨Tryz.f184.name, by decide, Tryz.func184.trans (congrArg some (by kernel_rfl))⟩
  f21 := ⟨Tryz.f185.name, by decide, Tryz.func185.trans (congrArg some (by kernel_rfl))⟩
  f22 := ⟨Tryz.f186.name, by decide, Tryz.func186.trans (congrArg some (by kernel_rfl))⟩
  f23 := ⟨Tryz.f187.name, by decide, Tryz.func187.trans (congrArg some (by kernel_rfl))⟩
  f24 := ⟨Tryz.f188.name, by decide, Tryz.func188.trans (congrArg some (by kernel_rfl))⟩
  f25 := ⟨Tryz.f189.name, by decide, Tryz.func189.trans (congrArg some (by kernel_rfl))⟩
  f26 := ⟨Tryz.f190.name, by decide, Tryz.func190.trans (congrArg some (by kernel_rfl))⟩
  f27 := ⟨Tryz.f191.name, by decide, Tryz.func191.trans (congrArg some (by kernel_rfl))⟩
  f28 := Tryz.func192.trans (congrArg some (by kernel_rfl))
  f29 := Tryz.func193.trans (congrArg some (by kernel_rfl))
  f46 := ⟨Tryz.f200.name, by decide, Tryz.func200.trans (congrArg some (by kernel_rfl))⟩
  f47 := Tryz.func201.trans (congrArg some (by kernel_rfl))
  f48 := Tryz.func202.trans (congrArg some (by kernel_rfl))
  f49 := ⟨Tryz.f203.name, by decide, Tryz.func203.trans (congrArg some (by kernel_rfl))⟩
  f50 := ⟨Tryz.f204.name, by decide, Tryz.func204.trans (congrArg some (by kernel_rfl))⟩
  f57 := ⟨Tryz.f209.name, by decide, Tryz.func209.trans (congrArg some (by kernel_rfl))⟩
  t0 := Tryz.underlying0
  a0 := Tryz.isAgg0
  z0 := Tryz.sizeOf0
  v0 := Tryz.zeroValue0
  t3 := Tryz.underlying3
  a3 := Tryz.isAgg3
  z3 := Tryz.sizeOf3
  v3 := Tryz.zeroValue3
  t4 := Tryz.underlying4
  a4 := Tryz.isAgg4
  z4 := Tryz.sizeOf4
  v4 := Tryz.zeroValue4
  t5 := Tryz.underlying5
  a5 := Tryz.isAgg5
  z5 := Tryz.sizeOf5
  v5 := Tryz.zeroValue5
  t9 := Tryz.underlying9
  a9 := Tryz.isAgg9
  z9 := Tryz.sizeOf9
  v9 := Tryz.zeroValue9
  t22 := Tryz.underlying38
  a22 := Tryz.isAgg38
  z22 := Tryz.sizeOf38
  v22 := Tryz.zeroValue38
  t25 := Tryz.underlying230
  a25 := Tryz.isAgg230
  z25 := Tryz.sizeOf230
  v25 := Tryz.zeroValue230
  t39 := Tryz.underlying238
  a39 := Tryz.isAgg238
  z39 := Tryz.sizeOf238
  v39 := Tryz.zeroValue238
  t45 := Tryz.underlying243
  a45 := Tryz.isAgg243
  z45 := Tryz.sizeOf243
  v45 := Tryz.zeroValue243
  t46 := Tryz.underlying244
  a46 := Tryz.isAgg244
  z46 := Tryz.sizeOf244
  v46 := Tryz.zeroValue244
  t50 := Tryz.underlying248
  a50 := Tryz.isAgg248
  z50 := Tryz.sizeOf248
  v50 := Tryz.zeroValue248
  t53 := Tryz.underlying221
  a53 := Tryz.isAgg221
  z53 := Tryz.sizeOf221
  v53 := Tryz.zeroValue221
  t55 := Tryz.underlying252
  a55 := Tryz.isAgg252
  z55 := Tryz.sizeOf252
  v55 := Tryz.zeroValue252
  t66 := Tryz.underlying258
  a66 := Tryz.isAgg258
  z66 := Tryz.sizeOf258
  v66 := Tryz.zeroValue258
  t70 := Tryz.underlying262
  a70 := Tryz.isAgg262
  z70 := Tryz.sizeOf262
  v70 := Tryz.zeroValue262
  t76 := Tryz.underlying267
  a76 := Tryz.isAgg267
  z76 := Tryz.sizeOf267
  v76 := Tryz.zeroValue267
  t77 := Tryz.underlying36
  a77 := Tryz.isAgg36
  z77 := Tryz.sizeOf36
  v77 := Tryz.zeroValue36 }
def Tryz.cloneRu_ren : Go.Shelf.Ren := ⟨fun | 41 => 164 | n => n, fun | 22 => 38 | 23 => 122 | 4 => 4 | n => n, fun | n => n⟩
theorem Tryz.cloneRu : Go.Proofs.SlLaysE0.n41 Tryz.prog Tryz.cloneRu_ren := {
  mixed := by kernel_rfl
  f41 := ⟨Tryz.f164.name, by decide, Tryz.func164.trans (congrArg some (by kernel_rfl))⟩
  t4 := Tryz.underlying4
  a4 := Tryz.isAgg4
  z4 := Tryz.sizeOf4
  v4 := Tryz.zeroValue4
  t22 := Tryz.underlying38
  a22 := Tryz.isAgg38
  z22 := Tryz.sizeOf38
  v22 := Tryz.zeroValue38 }
end Go.Proofs

namespace Go.Proofs.YtnbojbcljfiamaaGreatDoor
open Go.RowKit Go.Shelf
attribute [local go_sem] Oper.semAt_some

theorem cell_one_at (w : World) (x : Value) (t : TypeId) (n : Nat) (hn : n = w.heap.size) : ∀ j u, [x][j]? = some u → (w.alloc (.cells #[x] t)).cell? ((⟨n, 0, none⟩ : Addr).add j) = some u := by
  subst hn
  exact cell_one_new w x t

set_option maxRecDepth 100000 in
set_option maxHeartbeats 1000000 in
theorem wordsOfPath_slash (s : ByteArray) (w : World) (h : slashB s = true) :
    Calls Tryz.prog 111 #[.string s] w fun e W' => ∃ v, e = .returned (.tuple #[v, .bool (ptBs s)]) ∧ W'.ownsRow w.heap.size 9 1 v (ptLs s).length ((ptLs s).map Value.string) ∧ Below w.heap.size w W' := by
  have h1 : (s.toList == [47]) = true := h
  have hb : ptBs s = true := by rw [ptBs_some (pathPs_slash h)]; rfl
  have HL := hid (ptLs_yes hb (pathPs_slash h))
  have HB := hid hb
  clear hb h
  refine (callsIn_wide (n := 3)).1 ?_
  refine callsIn_of_wp_marks Tryz.func111 rfl trivial ?_ rfl
  simp only [Tryz.ntmps111, List.size_toArray, List.length_cons, List.length_nil, Nat.reduceAdd, Nat.reduceSub, Array.replicate_succ, Array.replicate_zero, List.push_toArray, List.append_toArray, List.nil_append, List.cons_append]
  gi_wp2
  refine ⟨.tuple #[.slice none 0 0, .bool true], ?_, .slice none 0 0, by rw [HB.out], ?_, ((Below.refl _ w).alloc (Nat.le_refl _) _).alloc (by simp) _⟩
  · simp [results, Tryz.f111, go_sem]
  · rw [HL.out]; exact World.ownsRow_nil _ _ _ _

set_option maxRecDepth 100000 in
set_option maxHeartbeats 1000000 in
theorem wordsOfPath_empty (s : ByteArray) (w : World) (h0 : s.size = 0) :
    Calls Tryz.prog 111 #[.string s] w fun e W' => ∃ v, e = .returned (.tuple #[v, .bool (ptBs s)]) ∧ W'.ownsRow w.heap.size 9 1 v (ptLs s).length ((ptLs s).map Value.string) ∧ Below w.heap.size w W' := by
  have h2 : s.toList.isEmpty = true := by rw [size_toList]; simp [h0]
  have h : slashB s = false := by
    have : s.toList = [] := List.isEmpty_iff.1 h2
    unfold slashB
    rw [this]
    rfl
  have h1 : (s.toList == [47]) = false := h
  have hb := ptBs_none (pathPs_none h (headB_empty h0))
  have HL := hid (ptLs_no hb)
  have HB := hid hb
  clear hb h h0
  refine (callsIn_wide (n := 3)).1 ?_
  refine callsIn_of_wp_marks Tryz.func111 rfl trivial ?_ rfl
  simp only [Tryz.ntmps111, List.size_toArray, List.length_cons, List.length_nil, Nat.reduceAdd, Nat.reduceSub, Array.replicate_succ, Array.replicate_zero, List.push_toArray, List.append_toArray, List.nil_append, List.cons_append]
  gi_wp2
  refine ⟨.tuple #[.slice none 0 0, .bool false], ?_, .slice none 0 0, by rw [HB.out], ?_, ((Below.refl _ w).alloc (Nat.le_refl _) _).alloc (by simp) _⟩
  · simp [results, Tryz.f111, go_sem]
  · rw [HL.out]; exact World.ownsRow_nil _ _ _ _

set_option maxRecDepth 100000 in
set_option maxHeartbeats 1000000 in
theorem wordsOfPath_other (s : ByteArray) (w : World) (h : slashB s = false) (h0 : 0 < s.size) (hb : s[0] ≠ 47) :
    Calls Tryz.prog 111 #[.string s] w fun e W' => ∃ v, e = .returned (.tuple #[v, .bool (ptBs s)]) ∧ W'.ownsRow w.heap.size 9 1 v (ptLs s).length ((ptLs s).map Value.string) ∧ Below w.heap.size w W' := by
  have h1 : (s.toList == [47]) = false := h
  have h2 : s.toList.isEmpty = false := by rw [size_toList]; exact decide_eq_false (by omega)
  have h3 : ((s[0].toNat : Int) != 47) = true := by
    rw [bne_iff_ne]
    exact fun e => hb (byte_eq (b := 47) e)
  have hb := ptBs_none (pathPs_none h (headB_not h0 hb))
  have HL := hid (ptLs_no hb)
  have HB := hid hb
  clear hb h
  refine (callsIn_wide (n := 3)).1 ?_
  refine callsIn_of_wp_marks Tryz.func111 rfl trivial ?_ rfl
  simp only [Tryz.ntmps111, List.size_toArray, List.length_cons, List.length_nil, Nat.reduceAdd, Nat.reduceSub, Array.replicate_succ, Array.replicate_zero, List.push_toArray, List.append_toArray, List.nil_append, List.cons_append]
  gi_wp2
  refine ⟨.tuple #[.slice none 0 0, .bool false], ?_, .slice none 0 0, by rw [HB.out], ?_, ((Below.refl _ w).alloc (Nat.le_refl _) _).alloc (by simp) _⟩
  · simp [results, Tryz.f111, go_sem]
  · rw [HL.out]; exact World.ownsRow_nil _ _ _ _

set_option maxRecDepth 100000 in
set_option maxHeartbeats 2000000 in
theorem wordsOfPath_head (s : ByteArray) (w : World) (hs : s.size ≤ 1048576) (h : slashB s = false) (h0 : 0 < s.size) (hb : s[0] = 47) :
    Calls Tryz.prog 111 #[.string s] w fun e W' => ∃ v, e = .returned (.tuple #[v, .bool (ptBs s)]) ∧ W'.ownsRow w.heap.size 9 1 v (ptLs s).length ((ptLs s).map Value.string) ∧ Below w.heap.size w W' := by
  obtain ⟨i0, hi, hz0, hz1, hz2⟩ := info_parts infoStr
  have h1 : (s.toList == [47]) = false := h
  have h2 : s.toList.isEmpty = false := by rw [size_toList]; exact decide_eq_false (by omega)
  have h3 : ((s[0].toNat : Int) != 47) = false := by simp [hb]
  have HP := hid (pathPs_head h (headB_at h0 hb))
  have ht : (s.extract 1 s.size).size ≤ 1048576 := Nat.le_trans (rest_size s) hs
  clear h hb
  refine (callsIn_wide (n := 3)).1 ?_
  refine callsIn_of_wp_marks Tryz.func111 rfl trivial ?_ rfl
  simp only [Tryz.ntmps111, List.size_toArray, List.length_cons, List.length_nil, Nat.reduceAdd, Nat.reduceSub, Array.replicate_succ, Array.replicate_zero, List.push_toArray, List.append_toArray, List.nil_append, List.cons_append]
  gi_wp2_with (refine ⟨trivial, ?_⟩; gi_at_call 144; refine (pieces_in Fence.wide _ trivial rfl _ _).mono ?_; rintro e w' ⟨rfl, rfl⟩)
  have b0 := Boxed.new w 32 (.slice none 0 0)
  have b1 := Boxed.new (w.alloc (.cells #[.slice none 0 0] 32)) 4 (.bool false)
  have b2 := Boxed.new ((w.alloc (.cells #[.slice none 0 0] 32)).alloc (.cells #[.bool false] 4)) 32 (.slice none 0 0)
  have b3 := Boxed.new (((w.alloc (.cells #[.slice none 0 0] 32)).alloc (.cells #[.bool false] 4)).alloc (.cells #[.slice none 0 0] 32)) 4 (.bool false)
  have b4 := Boxed.new ((((w.alloc (.cells #[.slice none 0 0] 32)).alloc (.cells #[.bool false] 4)).alloc (.cells #[.slice none 0 0] 32)).alloc (.cells #[.bool false] 4)) 9 (.string (s.extract 1 s.size))
  simp only [World.size_alloc] at b1 b2 b3 b4
  have hB0 : Below w.heap.size w (((((w.alloc (.cells #[.slice none 0 0] 32)).alloc (.cells #[.bool false] 4)).alloc (.cells #[.slice none 0 0] 32)).alloc (.cells #[.bool false] 4)).alloc (.cells #[.string (s.extract 1 s.size)] 9)) := (((((Below.refl _ w).alloc (Nat.le_refl _) _).alloc (by simp) _).alloc (by simp; omega) _).alloc (by simp; omega) _).alloc (by simp; omega) _
  refine wpIn_rangeFunc_ownG rfl (by omega) (gf := 170) (lb := #[.pointer (some ⟨w.heap.size + 1 + 1 + 1 + 1, 0, none⟩)]) rfl trivial (enters_of Tryz.func170 (by kernel_rfl) rfl)
    (pieces_stops Fence.wide _ trivial rfl (by omega) (w.heap.size + 1 + 1 + 1 + 1) (s.extract 1 s.size) ht _ b4) keepsAt_t (fun W l o o' hl h _ _ => World.putObj_heap_other (by simp at hl; omega)) (Below.refl _ _) (fun _ => rfl)
    (fun pre W => (∃ v, Boxed W (w.heap.size + 1 + 1) 32 v ∧ W.ownsRow (w.heap.size + 1 + 1 + 1 + 1 + 1) 9 1 v pre.length (pre.map Value.string) ∧ True) ∧ (Boxed W (w.heap.size) 32 (.slice none 0 0) ∧ Boxed W (w.heap.size + 1) 4 (.bool false) ∧ Boxed W (w.heap.size + 1 + 1 + 1) 4 (.bool (endB pre)) ∧ Boxed W (w.heap.size + 1 + 1 + 1 + 1) 9 (.string (s.extract 1 s.size))) ∧ (ptSt pre = some (pre.length, endB pre)) ∧ Below w.heap.size w W)
    (fun c pre W => (c = .ret ∧ ptSt pre = none) ∧ (Boxed W (w.heap.size) 32 (.slice none 0 0) ∧ Boxed W (w.heap.size + 1) 4 (.bool false)) ∧ Below w.heap.size w W)
    (OwnFrom.and (Own.from (holdsRow_own (w.heap.size + 1 + 1 + 1 + 1 + 1) (w.heap.size + 1 + 1) 32 9 1 (fun pre : List ByteArray => pre.length) (fun pre => pre.map Value.string) (fun _ _ => True)) _) (OwnFrom.and (OwnFrom.and (Own.from (boxed_own _ _ (fun _ => _)) _) (OwnFrom.and (Own.from (boxed_own _ _ (fun _ => _)) _) (OwnFrom.and (Own.from (boxed_own _ _ (fun pre : List ByteArray => .bool (endB pre))) _) (Own.from (boxed_own _ _ (fun _ => _)) _)))) (OwnFrom.and (ownFrom_pure _ _) (ownFrom_below (Nat.le_refl _) (by simp; omega)))))
    (fun c => OwnFrom.and (ownFrom_pure _ _) (OwnFrom.and (OwnFrom.and (Own.from (boxed_own _ _ (fun _ => _)) _) (Own.from (boxed_own _ _ (fun _ => _)) _)) (ownFrom_below (Nat.le_refl _) (by simp; omega))))
    ⟨⟨_, (b2.alloc _).alloc _, World.ownsRow_nil _ _ _ _, trivial⟩, ⟨(((b0.alloc _).alloc _).alloc _).alloc _, ((b1.alloc _).alloc _).alloc _, b3.alloc _, b4⟩, ptSt_nil, hB0⟩
    (fun x => { tmps := #[.string s, undef, .pointer (some ⟨w.heap.size, 0, none⟩), .pointer (some ⟨w.heap.size + 1, 0, none⟩), .pointer (some ⟨w.heap.size + 1 + 1, 0, none⟩), .pointer (some ⟨w.heap.size + 1 + 1 + 1, 0, none⟩), .string x, .string s, .bool false, .string s, .bool false, .bool false, .string s, .int .u8 (s[0].toNat : Int), .bool false, .bool false, .string s, .string (s.extract 1 s.size), .func (.func 170) #[] #[.pointer (some ⟨w.heap.size + 1 + 1 + 1 + 1, 0, none⟩)], .string x, undef, undef, undef, undef, undef, undef, undef, undef, undef, undef, undef, undef, undef, undef, undef, undef, undef, undef, undef, undef], defers := [] }) ?assign ?body ?done ?stop
  case assign =>
    intro l x W K hK
    gi_wp2
    exact hK
  case body =>
    rintro l pre x W ⟨⟨v, hv, hrow, _⟩, ⟨r0, r1, re, rs⟩, hst, hB⟩ hlt
    obtain ⟨a, cap, rfl⟩ := ownsRow_len hrow
    have hle := pt_le hst
    have HST := hid hst
    have hcv := hv.cell
    have hc0 := r0.cell
    have hc1 := r1.cell
    have hce := re.cell
    have hf0 := r0.frozen
    have hf1 := r1.frozen
    have hfe := re.frozen
    have hsz := hB.size
    have hlt1 := rs.lt
    clear hst b0 b1 b2 b3 b4 hB0 h1 h2 h3
    cases he : endB pre
    · by_cases h6 : pre.length = 6
      · have e1 : ((pre.length : Int) == 6) = true := by simp; omega
        have HN := hid (pt_full x HST.out h6)
        clear h6
        gi_wp2
        exact ⟨((KeepsOthers.setCell _ _ _).trans (KeepsOthers.setCell _ _ _)).from _, ⟨rfl, HN.out⟩, ⟨(r0.set _).other (by omega) _, (r1.other (by omega) _).set _⟩, (hB.setCell (p := ⟨w.heap.size, 0, none⟩) (Nat.le_refl _) _).setCell (p := ⟨w.heap.size + 1, 0, none⟩) (by simp) _⟩
      · have e1 : ((pre.length : Int) == 6) = false := by simp; omega
        cases h2 : star2B x
        · have e2 : (x.toList == [42, 42]) = false := h2
          cases hx : wsB x
          · have HN := hid (pt_bad x HST.out h2 hx)
            clear h6 h2
            gi_wp2_with (refine ⟨trivial, ?_⟩; gi_at_call 145; refine (CallsIn.inRound l (callsIn_wide.2 (wordOrStar_any x _))).mono ?_; rintro e w' ⟨rfl, rfl⟩)
            exact ⟨(((KeepsOthers.setCell _ _ _).trans (KeepsOthers.setCell _ _ _)).trans (KeepsOthers.setCell _ _ _)).from _, ⟨rfl, HN.out⟩, ⟨((r0.other (by omega) _).set _).other (by omega) _, ((r1.other (by omega) _).other (by omega) _).set _⟩, ((hB.setCell (p := ⟨w.heap.size + 1 + 1 + 1, 0, none⟩) (by simp; omega) _).setCell (p := ⟨w.heap.size, 0, none⟩) (Nat.le_refl _) _).setCell (p := ⟨w.heap.size + 1, 0, none⟩) (by simp) _⟩
          · have HN := hid (pt_on x HST.out he h6 h2 hx)
            clear h6 h2
            have hv' := hv.other (B' := w.heap.size + 1 + 1 + 1) (by omega) (.bool false)
            have hrow' := hrow.kept (grownBy_setCell' W (w.heap.size + 1 + 1 + 1) (.bool false)) (.inr (ownsRow_low hrow (by omega)).symm)
            have hsz' : w.heap.size + 1 + 1 + 1 + 1 + 1 ≤ (W.setCell ⟨w.heap.size + 1 + 1 + 1, 0, none⟩ (.bool false)).heap.size := by simp; omega
            have HE := hid (endB_of HN.out)
            gi_wp2_with (first | (refine ⟨trivial, ?_⟩; gi_at_call 145; refine (CallsIn.inRound l (callsIn_wide.2 (wordOrStar_any x _))).mono ?_; rintro e w' ⟨rfl, rfl⟩) | (gi_at_builtin; refine wpListIn_append_own _ rfl _ _ 32 rfl (w.heap.size + 1 + 1 + 1 + 1 + 1) 9 i0 (.string ByteArray.empty) 1 16 Tryz.underlying32 hi hz0 hz1 hz2 rfl (by decide) _ _ _ rfl (hrow'.alloc _) ⟨_, 0, none⟩ 1 1 [.string x] rfl rfl (cell_one_at _ _ _ _ (by simp)) (by simp [Value.oneCell']) (by simp [maxLen]; omega) (by omega) (by simp; omega) ?_; intro v' w1 hown' hgrow _; obtain ⟨g', cap', rfl⟩ := ownsRow_succ hown'; obtain ⟨hv1, hv2, hr2, hk2, hb2, ho2⟩ := boxed_appended hv' (by omega) hsz' hrow' hown' hgrow; have hcv1 := hv1.cell; have hfv1 := hv1.frozen))
            refine ⟨((KeepsOthers.setCell _ _ _).trans hk2).from _, (ho2 _ (by omega) (by omega)).trans (Below.heap_setCell _ _ _ _ (by simp)), ⟨_, hv2, by simpa using hr2, trivial⟩, ⟨?_, ?_, ?_, ?_⟩, by rw [HE.out]; exact HN.out, (hB.setCell (p := ⟨w.heap.size + 1 + 1 + 1, 0, none⟩) (by simp; omega) _).trans (hb2.mono (by omega))⟩
            · exact (ho2 _ (by omega) (by omega)).trans (r0.other (by omega) _)
            · exact (ho2 _ (by omega) (by omega)).trans (r1.other (by omega) _)
            · rw [HE.out]; exact (ho2 _ (by omega) (by omega)).trans (re.set _)
            · exact (ho2 _ (by omega) (by omega)).trans (rs.other (by omega) _)
        · have e2 : (x.toList == [42, 42]) = true := h2
          have HN := hid (pt_end x HST.out he h6 h2)
          clear h6 h2
          have hv' := hv.other (B' := w.heap.size + 1 + 1 + 1) (by omega) (.bool true)
          have hrow' := hrow.kept (grownBy_setCell' W (w.heap.size + 1 + 1 + 1) (.bool true)) (.inr (ownsRow_low hrow (by omega)).symm)
          have hsz' : w.heap.size + 1 + 1 + 1 + 1 + 1 ≤ (W.setCell ⟨w.heap.size + 1 + 1 + 1, 0, none⟩ (.bool true)).heap.size := by simp; omega
          have HE := hid (endB_of HN.out)
          gi_wp2_with fail
          refine ⟨trivial, ?_⟩
          gi_wp2_with (gi_at_builtin; refine wpListIn_append_own _ rfl _ _ 32 rfl (w.heap.size + 1 + 1 + 1 + 1 + 1) 9 i0 (.string ByteArray.empty) 1 16 Tryz.underlying32 hi hz0 hz1 hz2 rfl (by decide) _ _ _ rfl (hrow'.alloc _) ⟨_, 0, none⟩ 1 1 [.string x] rfl rfl (cell_one_at _ _ _ _ (by simp)) (by simp [Value.oneCell']) (by simp [maxLen]; omega) (by omega) (by simp; omega) ?_; intro v' w1 hown' hgrow _; obtain ⟨g', cap', rfl⟩ := ownsRow_succ hown'; obtain ⟨hv1, hv2, hr2, hk2, hb2, ho2⟩ := boxed_appended hv' (by omega) hsz' hrow' hown' hgrow; have hcv1 := hv1.cell; have hfv1 := hv1.frozen)
          refine ⟨((KeepsOthers.setCell _ _ _).trans hk2).from _, (ho2 _ (by omega) (by omega)).trans (Below.heap_setCell _ _ _ _ (by simp)), ⟨_, hv2, by simpa using hr2, trivial⟩, ⟨?_, ?_, ?_, ?_⟩, by rw [HE.out]; exact HN.out, (hB.setCell (p := ⟨w.heap.size + 1 + 1 + 1, 0, none⟩) (by simp; omega) _).trans (hb2.mono (by omega))⟩
          · exact (ho2 _ (by omega) (by omega)).trans (r0.other (by omega) _)
          · exact (ho2 _ (by omega) (by omega)).trans (r1.other (by omega) _)
          · rw [HE.out]; exact (ho2 _ (by omega) (by omega)).trans (re.set _)
          · exact (ho2 _ (by omega) (by omega)).trans (rs.other (by omega) _)
    · have HN := hid (pt_ended x HST.out he)
      gi_wp2
      exact ⟨((KeepsOthers.setCell _ _ _).trans (KeepsOthers.setCell _ _ _)).from _, ⟨rfl, HN.out⟩, ⟨(r0.set _).other (by omega) _, (r1.other (by omega) _).set _⟩, (hB.setCell (p := ⟨w.heap.size, 0, none⟩) (Nat.le_refl _) _).setCell (p := ⟨w.heap.size + 1, 0, none⟩) (by simp) _⟩
  case done =>
    rintro D ys W hD hys ⟨⟨v, hv, hrow, _⟩, ⟨r0, r1, re, rs⟩, hst, hB⟩ hK
    subst hys
    obtain ⟨a, cap, rfl⟩ := ownsRow_len hrow
    have hn : ptBs s = true := by rw [ptBs_some HP.out]; exact ptB_some hst
    have HL := hid (ptLs_yes hn HP.out)
    have HN := hid hn
    have hcv := hv.cell
    have hc0 := r0.cell
    have hc1 := r1.cell
    have hf0 := r0.frozen
    have hf1 := r1.frozen
    clear hst hn b0 b1 b2 b3 b4 hB0 h1 h2 h3
    gi_wp2
    have hKX : ((W.setCell ⟨w.heap.size, 0, none⟩ (.slice a (split (s.extract 1 s.size) 47).length cap)).setCell ⟨w.heap.size + 1, 0, none⟩ (.bool true)).heap[D]? = some (.deferred (some [])) := (KeepsOthers.setCell _ _ _).same D _ ((KeepsOthers.setCell _ _ _).same D _ hK rfl) rfl
    have hc5 := cell_kept ((r0.set (.slice a (split (s.extract 1 s.size) 47).length cap)).other (B' := w.heap.size + 1) (by omega) (.bool true)).cell (grownBy_putObj' _ D (.deferred none)) (fun r e => by cases e; exact ⟨_, hKX, rfl⟩)
    have hc6 := cell_kept ((r1.other (B' := w.heap.size) (by omega) (.slice a (split (s.extract 1 s.size) 47).length cap)).set (.bool true)).cell (grownBy_putObj' _ D (.deferred none)) (fun r e => by cases e; exact ⟨_, hKX, rfl⟩)
    refine ⟨by simp, .inl ⟨_, _, rfl, run_takeDeferred hKX, ?_⟩⟩
    refine ⟨.tuple #[(.slice a (split (s.extract 1 s.size) 47).length cap), .bool true], ?_, (.slice a (split (s.extract 1 s.size) 47).length cap), by rw [HN.out], ?_, (((hB.setCell (p := ⟨w.heap.size, 0, none⟩) (Nat.le_refl _) _).setCell (p := ⟨w.heap.size + 1, 0, none⟩) (by simp) _).trans (belowK_b (w := w) (Nat.le_refl _) _ D _ _ (by simp at hD; omega) hKX rfl rfl))⟩
    · simp [results, Tryz.f111, go_sem, hc5, hc6]
    · rw [HL.out]; exact ownsRow_putObj (((ownsRow_base hrow (by omega)).kept (grownBy_setCell' _ _ _) (.inr (ownsRow_low hrow (by omega)).symm)).kept (grownBy_setCell' _ _ _) (.inr (ownsRow_low hrow (by omega)).symm)) _ hKX rfl
  case stop =>
    rintro D c pre W hD hpre ⟨⟨rfl, hst⟩, ⟨r0, r1⟩, hB⟩ hK
    have hn : ptBs s = false := by rw [ptBs_some HP.out]; exact ptB_none (ptSt_pre hpre hst)
    have HL := hid (ptLs_no hn)
    have HN := hid hn
    clear hst hn b0 b1 b2 b3 b4 hB0 h1 h2 h3
    gi_wp2
    have hKX : (W).heap[D]? = some (.deferred (some [])) := hK
    have hc5 := cell_kept (r0).cell (grownBy_putObj' _ D (.deferred none)) (fun r e => by cases e; exact ⟨_, hKX, rfl⟩)
    have hc6 := cell_kept (r1).cell (grownBy_putObj' _ D (.deferred none)) (fun r e => by cases e; exact ⟨_, hKX, rfl⟩)
    refine ⟨by simp, .inl ⟨_, _, rfl, run_takeDeferred hKX, ?_⟩⟩
    refine ⟨.tuple #[(.slice none 0 0), .bool false], ?_, (.slice none 0 0), by rw [HN.out], ?_, hB.trans (belowK_b (w := w) (Nat.le_refl _) W D _ _ (by simp at hD; omega) hKX rfl rfl)⟩
    · simp [results, Tryz.f111, go_sem, hc5, hc6]
    · rw [HL.out]; exact World.ownsRow_nil _ _ _ _

theorem wordsOfPath_any (s : ByteArray) (w : World) (hs : s.size ≤ 1048576) :
    Calls Tryz.prog 111 #[.string s] w fun e W' => ∃ v, e = .returned (.tuple #[v, .bool (ptBs s)]) ∧ W'.ownsRow w.heap.size 9 1 v (ptLs s).length ((ptLs s).map Value.string) ∧ Below w.heap.size w W' := by
  by_cases h : slashB s = true
  · exact wordsOfPath_slash s w h
  · have h' : slashB s = false := by simpa using h
    by_cases h0 : s.size = 0
    · exact wordsOfPath_empty s w h0
    · have h1 : 0 < s.size := by omega
      by_cases hb : s[0] = 47
      · exact wordsOfPath_head s w hs h' h1 hb
      · exact wordsOfPath_other s w h' h1 hb

end Go.Proofs.YtnbojbcljfiamaaGreatDoor

namespace Go.Proofs.YtnbojbcljfiamaaGreatDoor
open Go.RowKit Go.Shelf

/-- A row of texts, cell by cell. -/
theorem row_cell {w : World} {base g cap : Nat} {xs : List ByteArray} (hrow : w.ownsRow base 9 1 (.slice (some ⟨g, 0, none⟩) xs.length cap) xs.length (xs.map Value.string)) (k : Nat) (h : k < xs.length) : w.cell? ⟨g, k, none⟩ = some (.string xs[k]) := by
  rw [hrow.cellAt k (by omega)]
  simp [h]

set_option maxHeartbeats 400000 in
theorem allPlain_any (v : Value) (xs : List ByteArray) (base : Nat) (w : World) (hl : xs.length ≤ 1048577) (hrow : w.ownsRow base 9 1 v xs.length (xs.map Value.string)) :
    Calls Tryz.prog 112 #[v] w fun e w' => e = .returned (.bool (xs.all wordB)) ∧ w' = w := by
  obtain ⟨a, cap, rfl⟩ := ownsRow_len hrow
  go_enter Tryz.func112, Tryz.ntmps112
  go_wp2
  go_loop [7] (fun i => ∃ k : Nat, k ≤ xs.length ∧ i = .int .i64 k ∧ allTo xs k = true) (fun i => xs.length - (intOf i).toNat)
  case atStart => exact ⟨0, Nat.zero_le _, rfl, allTo_zero xs⟩
  case round =>
    obtain ⟨k, hk, rfl, hw⟩ := hrel
    have HW : Hid (allTo xs k = true) := hw
    clear hw
    by_cases hlt : k < xs.length
    · obtain ⟨g, rfl⟩ : ∃ g, a = some ⟨g, 0, none⟩ := by
        rcases hrow.2 with ⟨_, h0⟩ | ⟨g, _, _, hv, _⟩
        · omega
        · cases hv; exact ⟨g, rfl⟩
      have hc := row_cell hrow k hlt
      by_cases hb : wordB xs[k] = true
      · go_wp2_with (go_at_call 146; refine (plainWord_any _ _).mono ?_; rintro e w' ⟨rfl, rfl⟩)
        exact ⟨⟨k + 1, by omega, by go_num, by rw [allTo_succ xs k hlt, HW.out, hb]; rfl⟩, by simp [intOf]; omega⟩
      · have hb' : wordB xs[k] = false := by simpa using hb
        have HB : Hid (xs.all wordB = false) := all_bad xs k hlt hb'
        clear hb
        go_wp2_with (go_at_call 146; refine (plainWord_any _ _).mono ?_; rintro e w' ⟨rfl, rfl⟩)
        go_ret
        exact ⟨ret_bool HB.out.symm, rfl⟩
    · obtain rfl : k = xs.length := by omega
      go_wp2
      go_ret
      exact ⟨ret_bool (by rw [← allTo_end, HW.out]), rfl⟩

theorem gnB_two (x y : ByteArray) : gnB [x, y] = (wordB x && wordB y) := by simp [gnB]
theorem gnB_no {l : List ByteArray} (h : ¬ l.length = 2) : gnB l = false := by simp [gnB, h]
theorem gnB_nm (l : List ByteArray) (h : nmB l = true) : gnB l = l.all wordB := by
  rw [nmB_eq] at h
  simp at h
  simp [gnB, h.1]
theorem gnB_not (l : List ByteArray) (h : nmB l = false) : gnB l = false := by
  rw [nmB_eq] at h
  cases e : gnB l with
  | false => rfl
  | true =>
    simp [gnB] at e
    have : l.all wsB = true := by
      rw [List.all_eq_true]
      intro x hx
      simp [wsB, e.2 x hx]
    rw [this] at h
    simp [e.1] at h
theorem two_of {l : List ByteArray} (h : l.length = 2) : ∃ x y, l = [x, y] := by
  match l, h with
  | [x, y], _ => exact ⟨x, y, rfl⟩

/-- A row of two texts. -/
theorem row_two {w : World} {base : Nat} {v : Value} {x y : ByteArray} (hrow : w.ownsRow base 9 1 v [x, y].length ([x, y].map Value.string)) : ∃ g cap, v = .slice (some ⟨g, 0, none⟩) 2 cap ∧ w.cell? ⟨g, 0, none⟩ = some (.string x) ∧ w.cell? ⟨g, 1, none⟩ = some (.string y) := by
  obtain ⟨g, cap, rfl⟩ := ownsRow_succ hrow
  exact ⟨g, cap, rfl, row_cell (xs := [x, y]) hrow 0 (by simp), row_cell (xs := [x, y]) hrow 1 (by simp)⟩

set_option maxHeartbeats 1000000 in
theorem specGoodName_any (s : ByteArray) (w : World) (hs : s.size ≤ 1048576) :
    Calls Tryz.prog 103 #[.string s] w fun e w' => e = .returned (.bool (gnB (split s 47))) ∧ Below w.heap.size w w' := by
  by_cases h2 : (split s 47).length = 2
  · obtain ⟨x, y, he⟩ := two_of h2
    have hx : x.size ≤ 1048576 := Nat.le_trans (split_size s 47 x (by rw [he]; simp)) hs
    have hy : y.size ≤ 1048576 := Nat.le_trans (split_size s 47 y (by rw [he]; simp)) hs
    have HE : Hid (split s 47 = [x, y]) := he
    clear he h2
    by_cases hb : wordB x = true
    · have HG : Hid (gnB (split s 47) = wordB y) := by rw [HE.out, gnB_two, hb]; rfl
      go_enter Tryz.func103, Tryz.ntmps103
      go_wp2_with (first | (go_at_call 131; refine (l1Split_any s 47 47 rfl _ hs).mono ?_; rintro e w1 ⟨v, rfl, hrow, hB⟩; rw [HE.out] at hrow; obtain ⟨g, cap, rfl, hc0, hc1⟩ := row_two hrow) | (go_at_call 101; refine (l1Word_any _ _ (by first | exact hx | exact hy)).mono ?_; rintro e w' ⟨rfl, rfl⟩))
      go_ret
      exact ⟨ret_bool HG.out.symm, hB⟩
    · have hb' : wordB x = false := by simpa using hb
      have HG : Hid (gnB (split s 47) = false) := by rw [HE.out, gnB_two, hb']; rfl
      clear hb
      go_enter Tryz.func103, Tryz.ntmps103
      go_wp2_with (first | (go_at_call 131; refine (l1Split_any s 47 47 rfl _ hs).mono ?_; rintro e w1 ⟨v, rfl, hrow, hB⟩; rw [HE.out] at hrow; obtain ⟨g, cap, rfl, hc0, hc1⟩ := row_two hrow) | (go_at_call 101; refine (l1Word_any _ _ (by first | exact hx | exact hy)).mono ?_; rintro e w' ⟨rfl, rfl⟩))
      go_ret
      exact ⟨ret_bool HG.out.symm, hB⟩
  · have HG : Hid (gnB (split s 47) = false) := gnB_no h2
    have e1 : (((split s 47).length : Int) == 2) = false := by simp; omega
    clear h2
    go_enter Tryz.func103, Tryz.ntmps103
    go_wp2_with (go_at_call 131; refine (l1Split_any s 47 47 rfl _ hs).mono ?_; rintro e w1 ⟨v, rfl, hrow, hB⟩; obtain ⟨a, cap, rfl⟩ := ownsRow_len hrow)
    go_ret
    exact ⟨ret_bool HG.out.symm, hB⟩

set_option maxHeartbeats 1000000 in
theorem implGoodName_any (s : ByteArray) (w : World) (hs : s.size ≤ 1048576) :
    Calls Tryz.prog 80 #[.string s] w fun e w' => e = .returned (.bool (gnB (split s 47))) ∧ Below w.heap.size w w' := by
  have hl : (split s 47).length ≤ 1048577 := Nat.le_trans (split_len s 47) (by omega)
  by_cases hn : nmB (split s 47) = true
  · have HG : Hid (gnB (split s 47) = (nmL (split s 47)).all wordB) := by rw [nmL_yes hn]; exact gnB_nm _ hn
    have hl2 : (nmL (split s 47)).length ≤ 1048577 := by rw [nmL_yes hn]; exact hl
    clear hl
    go_enter Tryz.func80, Tryz.ntmps80
    go_wp2_with (first | (go_at_call 115; refine (wordsOfName_any s _ hs).mono ?_; rintro e w1 ⟨v, rfl, hrow, hB⟩) | (go_at_call 112; refine (allPlain_any _ _ _ _ hl2 hrow).mono ?_; rintro e w' ⟨rfl, rfl⟩))
    go_ret
    exact ⟨ret_bool HG.out.symm, hB⟩
  · have hn' : nmB (split s 47) = false := by simpa using hn
    have HG : Hid (gnB (split s 47) = false) := gnB_not _ hn'
    clear hn
    go_enter Tryz.func80, Tryz.ntmps80
    go_wp2_with (go_at_call 115; refine (wordsOfName_any s _ hs).mono ?_; rintro e w1 ⟨v, rfl, hrow, hB⟩)
    go_ret
    exact ⟨ret_bool HG.out.symm, hB⟩

set_option maxHeartbeats 1000000 in
theorem implGoodNamePattern_any (s : ByteArray) (w : World) (hs : s.size ≤ 1048576) :
    Calls Tryz.prog 142 #[.string s] w fun e w' => e = .returned (.bool (nmB (split s 47))) ∧ Below w.heap.size w w' := by
  go_enter Tryz.func142, Tryz.ntmps142
  go_wp2_with (go_at_call 115; refine (wordsOfName_any s _ hs).mono ?_; rintro e w1 ⟨v, rfl, hrow, hB⟩)
  go_ret
  exact ⟨rfl, hB⟩

end Go.Proofs.YtnbojbcljfiamaaGreatDoor

namespace Go.Proofs.YtnbojbcljfiamaaGreatDoor
open Go.RowKit Go.Shelf

set_option maxHeartbeats 1000000 in
theorem l1Words_any (s : ByteArray) (w : World) (hs : s.size ≤ 1048576) :
    Calls Tryz.prog 100 #[.string s] w fun e W' => ∃ v, e = .returned (.tuple #[v, .bool (wOk s)]) ∧ W'.ownsRow w.heap.size 9 1 v (wL s).length ((wL s).map Value.string) ∧ Below w.heap.size w W' := by
  by_cases h : slashB s = true
  · have h1 : (s.toList == [47]) = true := h
    have HL := hid (wL_some (pathPs_slash h))
    have HO := hid (wOk_some (pathPs_slash h))
    clear h
    go_enter Tryz.func100, Tryz.ntmps100
    go_wp2
    go_ret2
    exact ⟨_, by rw [HO.out]; rfl, by rw [HL.out]; exact World.ownsRow_nil _ _ _ _, Below.refl _ _⟩
  · have h' : slashB s = false := by simpa using h
    have h1 : (s.toList == [47]) = false := h'
    clear h
    by_cases h0 : s.size = 0
    · have h2 : s.toList.isEmpty = true := by rw [size_toList]; simp [h0]
      have HL := hid (wL_none (pathPs_none h' (headB_empty h0)))
      have HO := hid (wOk_none (pathPs_none h' (headB_empty h0)))
      clear h' h0
      go_enter Tryz.func100, Tryz.ntmps100
      go_wp2
      go_ret2
      exact ⟨_, by rw [HO.out]; rfl, by rw [HL.out]; exact World.ownsRow_nil _ _ _ _, Below.refl _ _⟩
    · have h0' : 0 < s.size := by omega
      have h2 : s.toList.isEmpty = false := by rw [size_toList]; exact decide_eq_false (by omega)
      clear h0
      by_cases hb : s[0] = 47
      · have h3 : ((s[0].toNat : Int) != 47) = false := by simp [hb]
        have HL := hid (wL_some (pathPs_head h' (headB_at h0' hb)))
        have HO := hid (wOk_some (pathPs_head h' (headB_at h0' hb)))
        have ht : (s.extract 1 s.size).size ≤ 1048576 := Nat.le_trans (rest_size s) hs
        clear h' hb
        go_enter Tryz.func100, Tryz.ntmps100
        go_wp2_with (go_at_call 131; refine (l1Split_any _ 47 47 rfl _ ht).mono ?_; rintro e w1 ⟨v, rfl, hrow, hB⟩; obtain ⟨a, cap, rfl⟩ := ownsRow_len hrow)
        go_ret2
        exact ⟨_, ret_two (by rw [HO.out]; exact decide_eq_decide.2 (by omega)), by rw [HL.out]; exact hrow, hB⟩
      · have h3 : ((s[0].toNat : Int) != 47) = true := by
          rw [bne_iff_ne]
          exact fun e => hb (byte_eq (b := 47) e)
        have HL := hid (wL_none (pathPs_none h' (headB_not h0' hb)))
        have HO := hid (wOk_none (pathPs_none h' (headB_not h0' hb)))
        clear h' hb
        go_enter Tryz.func100, Tryz.ntmps100
        go_wp2
        go_ret2
        exact ⟨_, by rw [HO.out]; rfl, by rw [HL.out]; exact World.ownsRow_nil _ _ _ _, Below.refl _ _⟩

set_option maxHeartbeats 1000000 in
theorem specGoodPath_any (s : ByteArray) (w : World) (hs : s.size ≤ 1048576) :
    Calls Tryz.prog 68 #[.string s] w fun e w' => e = .returned (.bool (gpB s)) ∧ Below w.heap.size w w' := by
  have hl : (wL s).length ≤ 1048577 := Nat.le_trans (wL_len s) (by omega)
  go_enter Tryz.func68, Tryz.ntmps68
  go_wp2_with (go_at_call 100; refine (l1Words_any s _ hs).mono ?_; rintro e w1 ⟨v, rfl, hrow, hB⟩; obtain ⟨a, cap, rfl⟩ := ownsRow_len hrow)
  go_loop [4, 14] (fun ok i => ∃ k : Nat, k ≤ (wL s).length ∧ i = .int .i64 k ∧ ok = .bool (gpTo s k)) (fun _ i => (wL s).length - (intOf i).toNat)
  case atStart => exact ⟨0, Nat.zero_le _, rfl, by rw [gpTo_zero]⟩
  case round =>
    obtain ⟨k, hk, rfl, rfl⟩ := hrel
    by_cases hlt : k < (wL s).length
    · obtain ⟨g, rfl⟩ : ∃ g, a = some ⟨g, 0, none⟩ := by
        rcases hrow.2 with ⟨_, h0⟩ | ⟨g, _, _, hv, _⟩
        · omega
        · cases hv; exact ⟨g, rfl⟩
      have hc := row_cell hrow k hlt
      have hx : (wL s)[k].size ≤ 1048576 := Nat.le_trans (wL_mem (List.getElem_mem hlt)) hs
      cases hg : gpTo s k
      · have HN := hid (gpTo_no hlt hg)
        go_wp2_with fail
        exact ⟨⟨k + 1, by omega, by go_num, by rw [HN.out]⟩, by simp [intOf]; omega⟩
      · have HN := hid (gpTo_yes hlt hg)
        go_wp2_with (go_at_call 101; refine (l1Word_any _ _ hx).mono ?_; rintro e w' ⟨rfl, rfl⟩)
        exact ⟨⟨k + 1, by omega, by go_num, by rw [HN.out]⟩, by simp [intOf]; omega⟩
    · obtain rfl : k = (wL s).length := by omega
      go_wp2
      go_ret
      exact ⟨ret_bool (gp_end s), hB⟩

set_option maxHeartbeats 2000000 in
theorem specGoodPathPattern_any (s : ByteArray) (w : World) (hs : s.size ≤ 1048576) :
    Calls Tryz.prog 99 #[.string s] w fun e w' => e = .returned (.bool (ptBs s)) ∧ Below w.heap.size w w' := by
  have hl : (wL s).length ≤ 1048577 := Nat.le_trans (wL_len s) (by omega)
  go_enter Tryz.func99, Tryz.ntmps99
  go_wp2_with (go_at_call 100; refine (l1Words_any s _ hs).mono ?_; rintro e w1 ⟨v, rfl, hrow, hB⟩; obtain ⟨a, cap, rfl⟩ := ownsRow_len hrow)
  go_loop [4, 14] (fun ok i => ∃ k : Nat, k ≤ (wL s).length ∧ i = .int .i64 k ∧ ok = .bool (pgTo s k)) (fun _ i => (wL s).length - (intOf i).toNat)
  case atStart => exact ⟨0, Nat.zero_le _, rfl, by rw [pgTo_zero]⟩
  case round =>
    obtain ⟨k, hk, rfl, rfl⟩ := hrel
    by_cases hlt : k < (wL s).length
    · obtain ⟨g, rfl⟩ : ∃ g, a = some ⟨g, 0, none⟩ := by
        rcases hrow.2 with ⟨_, h0⟩ | ⟨g, _, _, hv, _⟩
        · omega
        · cases hv; exact ⟨g, rfl⟩
      have hc := row_cell hrow k hlt
      have hx : (wL s)[k].size ≤ 1048576 := Nat.le_trans (wL_mem (List.getElem_mem hlt)) hs
      cases hg : pgTo s k
      · have HN := hid (pgTo_no hg)
        go_wp2_with fail
        exact ⟨⟨k + 1, by omega, by go_num, by rw [HN.out]⟩, by simp [intOf]; omega⟩
      · have HN := hid (pgTo_yes hlt hg)
        generalize hX : (wL s)[k] = x at *
        clear hX
        cases b1 : wordB x
        · cases b2 : starB x
          · have e2 : (x.toList == [42]) = false := b2
            cases b3 : star2B x
            · have e3 : (x.toList == [42, 42]) = false := b3
              have HR := hid (show pgTo s (k + 1) = false by rw [HN.out, b1, b2, b3]; rfl)
              clear b2 b3
              go_wp2_with (go_at_call 101; refine (l1Word_any _ _ hx).mono ?_; rintro e w' ⟨rfl, rfl⟩)
              exact ⟨⟨k + 1, by omega, by go_num, by rw [HR.out]⟩, by simp [intOf]; omega⟩
            · have e3 : (x.toList == [42, 42]) = true := b3
              by_cases hL : k + 1 = (wL s).length
              · have e4 : ((k : Int) == ((wL s).length : Int) - 1) = true := by simp; omega
                have HR := hid (show pgTo s (k + 1) = true by rw [HN.out, b1, b2, b3]; simp [hL])
                clear b2 b3 hL
                go_wp2_with (go_at_call 101; refine (l1Word_any _ _ hx).mono ?_; rintro e w' ⟨rfl, rfl⟩)
                exact ⟨⟨k + 1, by omega, by go_num, by rw [HR.out]⟩, by simp [intOf]; omega⟩
              · have e4 : ((k : Int) == ((wL s).length : Int) - 1) = false := by simp; omega
                have HR := hid (show pgTo s (k + 1) = false by rw [HN.out, b1, b2, b3]; simp [hL])
                clear b2 b3 hL
                go_wp2_with (go_at_call 101; refine (l1Word_any _ _ hx).mono ?_; rintro e w' ⟨rfl, rfl⟩)
                exact ⟨⟨k + 1, by omega, by go_num, by rw [HR.out]⟩, by simp [intOf]; omega⟩
          · have e2 : (x.toList == [42]) = true := b2
            have HR := hid (show pgTo s (k + 1) = true by rw [HN.out, b1, b2]; rfl)
            clear b2
            go_wp2_with (go_at_call 101; refine (l1Word_any _ _ hx).mono ?_; rintro e w' ⟨rfl, rfl⟩)
            exact ⟨⟨k + 1, by omega, by go_num, by rw [HR.out]⟩, by simp [intOf]; omega⟩
        · have HR := hid (show pgTo s (k + 1) = true by rw [HN.out, b1]; rfl)
          go_wp2_with (go_at_call 101; refine (l1Word_any _ _ hx).mono ?_; rintro e w' ⟨rfl, rfl⟩)
          exact ⟨⟨k + 1, by omega, by go_num, by rw [HR.out]⟩, by simp [intOf]; omega⟩
    · obtain rfl : k = (wL s).length := by omega
      go_wp2
      go_ret
      exact ⟨ret_bool (pg_end s), hB⟩

theorem ptLs_len (s : ByteArray) : (ptLs s).length ≤ s.size + 1 := by
  unfold ptLs
  split
  · exact wL_len s
  · simp

set_option maxHeartbeats 1000000 in
theorem implGoodPath_any (s : ByteArray) (w : World) (hs : s.size ≤ 1048576) :
    Calls Tryz.prog 77 #[.string s] w fun e w' => e = .returned (.bool (gpB s)) ∧ Below w.heap.size w w' := by
  have hl : (ptLs s).length ≤ 1048577 := Nat.le_trans (ptLs_len s) (by omega)
  cases hn : ptBs s
  · have HG := hid (show gpB s = false by unfold gpB; rw [hn]; rfl)
    go_enter Tryz.func77, Tryz.ntmps77
    go_wp2_with (go_at_call 111; refine (wordsOfPath_any s _ hs).mono ?_; rintro e w1 ⟨v, rfl, hrow, hB⟩)
    go_ret
    exact ⟨ret_bool HG.out.symm, hB⟩
  · have HG := hid (show gpB s = (ptLs s).all wordB by unfold gpB; rw [hn]; rfl)
    go_enter Tryz.func77, Tryz.ntmps77
    go_wp2_with (first | (go_at_call 111; refine (wordsOfPath_any s _ hs).mono ?_; rintro e w1 ⟨v, rfl, hrow, hB⟩) | (go_at_call 112; refine (allPlain_any _ _ _ _ hl hrow).mono ?_; rintro e w' ⟨rfl, rfl⟩))
    go_ret
    exact ⟨ret_bool HG.out.symm, hB⟩

set_option maxHeartbeats 1000000 in
theorem implGoodPathPattern_any (s : ByteArray) (w : World) (hs : s.size ≤ 1048576) :
    Calls Tryz.prog 143 #[.string s] w fun e w' => e = .returned (.bool (ptBs s)) ∧ Below w.heap.size w w' := by
  go_enter Tryz.func143, Tryz.ntmps143
  go_wp2_with (go_at_call 111; refine (wordsOfPath_any s _ hs).mono ?_; rintro e w1 ⟨v, rfl, hrow, hB⟩)
  go_ret
  exact ⟨rfl, hB⟩

end Go.Proofs.YtnbojbcljfiamaaGreatDoor

namespace Go.Proofs.YtnbojbcljfiamaaGreatDoor
open Go.RowKit Go.Shelf

set_option maxHeartbeats 2000000 in
theorem specGoodNamePattern_any (s : ByteArray) (w : World) (hs : s.size ≤ 1048576) :
    Calls Tryz.prog 98 #[.string s] w fun e w' => e = .returned (.bool (nmB (split s 47))) ∧ Below w.heap.size w w' := by
  by_cases h2 : (split s 47).length = 2
  · obtain ⟨x, y, he⟩ := two_of h2
    have hx : x.size ≤ 1048576 := Nat.le_trans (split_size s 47 x (by rw [he]; simp)) hs
    have hy : y.size ≤ 1048576 := Nat.le_trans (split_size s 47 y (by rw [he]; simp)) hs
    have HE : Hid (split s 47 = [x, y]) := he
    clear he h2
    cases bx : wordB x
    all_goals cases sx : starB x
    all_goals cases b2 : wordB y
    all_goals
      have hg : nmB (split s 47) = (wsB x && wsB y) := by rw [HE.out, nmB_two]
      have HG := hid hg
      clear hg
      have ex : (x.toList == [42]) = starB x := rfl
      rw [sx] at ex
      have SX := hid sx
      clear sx
      go_enter Tryz.func98, Tryz.ntmps98
      go_wp2_with (first | (go_at_call 131; refine (l1Split_any s 47 47 rfl _ hs).mono ?_; rintro e w1 ⟨v, rfl, hrow, hB⟩; rw [HE.out] at hrow; obtain ⟨g, cap, rfl, hc0, hc1⟩ := row_two hrow) | (go_at_call 101; refine (l1Word_any _ _ (by first | exact hx | exact hy)).mono ?_; rintro e w' ⟨rfl, rfl⟩))
      go_ret
      exact ⟨ret_bool (by rw [HG.out]; simp only [wsB, bx, SX.out, b2, Bool.or_false, Bool.or_true, Bool.and_true, Bool.true_and, Bool.false_and] <;> rfl), hB⟩
  · have HG := hid (nmB_len h2)
    have e1 : (((split s 47).length : Int) == 2) = false := by simp; omega
    clear h2
    go_enter Tryz.func98, Tryz.ntmps98
    go_wp2_with (go_at_call 131; refine (l1Split_any s 47 47 rfl _ hs).mono ?_; rintro e w1 ⟨v, rfl, hrow, hB⟩; obtain ⟨a, cap, rfl⟩ := ownsRow_len hrow)
    go_ret
    exact ⟨ret_bool HG.out.symm, hB⟩

end Go.Proofs.YtnbojbcljfiamaaGreatDoor

namespace Go.Proofs.YtnbojbcljfiamaaGreatDoor
open Go.RowKit Go.Shelf

/-- A rule, and a call. -/
structure Ru where
  deny : Bool
  who : ByteArray
  method : ByteArray
  path : ByteArray
structure Ca where
  who : ByteArray
  method : ByteArray
  path : ByteArray
def Ru.size (r : Ru) : Nat := r.who.size + r.method.size + r.path.size
def Ca.size (c : Ca) : Nat := c.who.size + c.method.size + c.path.size
abbrev Ru.val (r : Ru) : Value := .agg #[.bool r.deny, .string r.who, .string r.method, .string r.path]
abbrev Ca.val (c : Ca) : Value := .agg #[.string c.who, .string c.method, .string c.path]
/-- The methods. -/
def getB (s : ByteArray) : Bool := s.toList == [103, 101, 116]
def putB (s : ByteArray) : Bool := s.toList == [112, 117, 116]
def mthB (s : ByteArray) : Bool := getB s || putB s
def Ru.good (r : Ru) : Bool := (nmB (split r.who 47) && ptBs r.path) && (mthB r.method || starB r.method)
def Ca.good (c : Ca) : Bool := (gnB (split c.who 47) && gpB c.path) && mthB c.method


set_option maxHeartbeats 400000 in
theorem l2Method_any (s : ByteArray) (w : World) :
    Calls Tryz.prog 67 #[.string s] w fun e w' => e = .returned (.bool (mthB s)) ∧ w' = w := by
  cases b1 : getB s
  · have e1 : (s.toList == [103, 101, 116]) = false := b1
    have HR := hid (show mthB s = putB s by unfold mthB; rw [b1]; rfl)
    clear b1
    go_enter Tryz.func67, Tryz.ntmps67
    go_wp2
    go_ret
    exact ⟨ret_bool HR.out.symm, rfl⟩
  · have e1 : (s.toList == [103, 101, 116]) = true := b1
    have HR := hid (show mthB s = true by unfold mthB; rw [b1]; rfl)
    clear b1
    go_enter Tryz.func67, Tryz.ntmps67
    go_wp2
    go_ret
    exact ⟨ret_bool HR.out.symm, rfl⟩

set_option maxHeartbeats 1000000 in
theorem toRule_any (r : Ru) (w : World) :
    Calls Tryz.prog 71 #[r.val] w fun e w' => e = .returned r.val ∧ Below w.heap.size w w' := by
  go_enter Tryz.func71, Tryz.ntmps71
  go_wp2
  exact bodyPost_ret (v := r.val) (by simp [results, Tryz.results71, go_sem]) rfl ⟨rfl, (((Below.refl _ w).alloc (Nat.le_refl _) _).alloc (by simp) _).alloc (by simp; omega) _⟩

/-- What is left of a budget. -/
def left3 (n : Int) (a b c : Nat) : Int := if (a : Int) + b + c ≤ n then n - a - b - c else -1

set_option maxHeartbeats 1000000 in
theorem szRule_any (r : Ru) (n : Int) (w : World) (h0 : 0 ≤ n) (h1 : n ≤ 1048576) (ha : r.who.size ≤ maxLen) (hb : r.method.size ≤ maxLen) (hc : r.path.size ≤ maxLen) :
    Calls Tryz.prog 60 #[r.val, .int .i64 n] w fun e w' => e = .returned (.int .i64 (left3 n r.who.size r.method.size r.path.size)) ∧ Below w.heap.size w w' := by
  unfold maxLen at ha hb hc
  by_cases c1 : n < r.who.size
  · have HR := hid (show left3 n r.who.size r.method.size r.path.size = -1 from if_neg (by omega))
    go_enter Tryz.func60, Tryz.ntmps60
    go_wp2
    go_ret
    exact ⟨ret_int HR.out.symm, (Below.refl _ w).alloc (Nat.le_refl _) _⟩
  · by_cases c2 : n - r.who.size < r.method.size
    · have HR := hid (show left3 n r.who.size r.method.size r.path.size = -1 from if_neg (by omega))
      go_enter Tryz.func60, Tryz.ntmps60
      go_wp2
      go_ret
      exact ⟨ret_int HR.out.symm, (Below.refl _ w).alloc (Nat.le_refl _) _⟩
    · by_cases c3 : n - r.who.size - r.method.size < r.path.size
      · have HR := hid (show left3 n r.who.size r.method.size r.path.size = -1 from if_neg (by omega))
        go_enter Tryz.func60, Tryz.ntmps60
        go_wp2
        go_ret
        exact ⟨ret_int HR.out.symm, (Below.refl _ w).alloc (Nat.le_refl _) _⟩
      · have HR := hid (show left3 n r.who.size r.method.size r.path.size = n - r.who.size - r.method.size - r.path.size from if_pos (by omega))
        go_enter Tryz.func60, Tryz.ntmps60
        go_wp2
        go_ret
        exact ⟨ret_int HR.out.symm, (Below.refl _ w).alloc (Nat.le_refl _) _⟩

set_option maxHeartbeats 1000000 in
theorem specGoodRule_any (r : Ru) (w : World) (hs : r.who.size ≤ 1048576) (ht : r.path.size ≤ 1048576) :
    Calls Tryz.prog 65 #[r.val] w fun e w' => e = .returned (.bool r.good) ∧ Below w.heap.size w w' := by
  cases h1 : nmB (split r.who 47)
  · have HR := hid (show r.good = false by unfold Ru.good; rw [h1]; rfl)
    go_enter Tryz.func65, Tryz.ntmps65
    go_wp2_with (first | (go_at_call 98; refine (specGoodNamePattern_any _ _ hs).mono ?_; rintro e w1 ⟨rfl, hB1⟩; obtain ⟨hc1, hf1⟩ := bcell hB1; have hz : w.heap.size < w1.heap.size := (by have := hB1.size; simp at this; omega)) | (go_at_call 99; refine (specGoodPathPattern_any _ _ ht).mono ?_; rintro e w2 ⟨rfl, hB2⟩; obtain ⟨hc2, hf2⟩ := bcell hB2) | (go_at_call 67; refine (l2Method_any _ _).mono ?_; rintro e w3 ⟨rfl, rfl⟩))
    go_ret
    exact ⟨ret_bool HR.out.symm, ((Below.refl _ w).alloc (Nat.le_refl _) _).trans (hB1.mono (by simp))⟩
  · cases h2 : ptBs r.path
    · have HR := hid (show r.good = false by unfold Ru.good; rw [h1, h2]; rfl)
      go_enter Tryz.func65, Tryz.ntmps65
      go_wp2_with (first | (go_at_call 98; refine (specGoodNamePattern_any _ _ hs).mono ?_; rintro e w1 ⟨rfl, hB1⟩; obtain ⟨hc1, hf1⟩ := bcell hB1; have hz : w.heap.size < w1.heap.size := (by have := hB1.size; simp at this; omega)) | (go_at_call 99; refine (specGoodPathPattern_any _ _ ht).mono ?_; rintro e w2 ⟨rfl, hB2⟩; obtain ⟨hc2, hf2⟩ := bcell hB2) | (go_at_call 67; refine (l2Method_any _ _).mono ?_; rintro e w3 ⟨rfl, rfl⟩))
      go_ret
      exact ⟨ret_bool HR.out.symm, below_two ((Below.refl _ w).alloc (Nat.le_refl _) _) hB1 hB2⟩
    · cases h3 : mthB r.method
      · have HR := hid (show r.good = starB r.method by unfold Ru.good; rw [h1, h2, h3]; rfl)
        go_enter Tryz.func65, Tryz.ntmps65
        go_wp2_with (first | (go_at_call 98; refine (specGoodNamePattern_any _ _ hs).mono ?_; rintro e w1 ⟨rfl, hB1⟩; obtain ⟨hc1, hf1⟩ := bcell hB1; have hz : w.heap.size < w1.heap.size := (by have := hB1.size; simp at this; omega)) | (go_at_call 99; refine (specGoodPathPattern_any _ _ ht).mono ?_; rintro e w2 ⟨rfl, hB2⟩; obtain ⟨hc2, hf2⟩ := bcell hB2) | (go_at_call 67; refine (l2Method_any _ _).mono ?_; rintro e w3 ⟨rfl, rfl⟩))
        go_ret
        exact ⟨ret_bool HR.out.symm, below_two ((Below.refl _ w).alloc (Nat.le_refl _) _) hB1 hB2⟩
      · have HR := hid (show r.good = true by unfold Ru.good; rw [h1, h2, h3]; rfl)
        go_enter Tryz.func65, Tryz.ntmps65
        go_wp2_with (first | (go_at_call 98; refine (specGoodNamePattern_any _ _ hs).mono ?_; rintro e w1 ⟨rfl, hB1⟩; obtain ⟨hc1, hf1⟩ := bcell hB1; have hz : w.heap.size < w1.heap.size := (by have := hB1.size; simp at this; omega)) | (go_at_call 99; refine (specGoodPathPattern_any _ _ ht).mono ?_; rintro e w2 ⟨rfl, hB2⟩; obtain ⟨hc2, hf2⟩ := bcell hB2) | (go_at_call 67; refine (l2Method_any _ _).mono ?_; rintro e w3 ⟨rfl, rfl⟩))
        go_ret
        exact ⟨ret_bool HR.out.symm, below_two ((Below.refl _ w).alloc (Nat.le_refl _) _) hB1 hB2⟩

theorem specGoodRule_sz (r : Ru) (w : World) (hs : r.size ≤ 1048576) :
    Calls Tryz.prog 65 #[r.val] w fun e w' => e = .returned (.bool r.good) ∧ Below w.heap.size w w' :=
  specGoodRule_any r w (by unfold Ru.size at hs; omega) (by unfold Ru.size at hs; omega)

end Go.Proofs.YtnbojbcljfiamaaGreatDoor

namespace Go.Proofs.YtnbojbcljfiamaaGreatDoor
open Go.RowKit Go.Shelf

set_option maxHeartbeats 1000000 in
theorem specGoodCall_any (r : Ca) (w : World) (hs : r.who.size ≤ 1048576) (ht : r.path.size ≤ 1048576) :
    Calls Tryz.prog 105 #[r.val] w fun e w' => e = .returned (.bool r.good) ∧ Below w.heap.size w w' := by
  cases h1 : gnB (split r.who 47)
  · have HR := hid (show r.good = false by unfold Ca.good; rw [h1]; rfl)
    go_enter Tryz.func105, Tryz.ntmps105
    go_wp2_with (first | (go_at_call 103; refine (specGoodName_any _ _ hs).mono ?_; rintro e w1 ⟨rfl, hB1⟩; obtain ⟨hc1, hf1⟩ := bcell hB1; have hz : w.heap.size < w1.heap.size := (by have := hB1.size; simp at this; omega)) | (go_at_call 68; refine (specGoodPath_any _ _ ht).mono ?_; rintro e w2 ⟨rfl, hB2⟩; obtain ⟨hc2, hf2⟩ := bcell hB2) | (go_at_call 67; refine (l2Method_any _ _).mono ?_; rintro e w3 ⟨rfl, rfl⟩))
    go_ret
    exact ⟨ret_bool HR.out.symm, below_one ((Below.refl _ w).alloc (Nat.le_refl _) _) hB1⟩
  · cases h2 : gpB r.path
    · have HR := hid (show r.good = false by unfold Ca.good; rw [h1, h2]; rfl)
      go_enter Tryz.func105, Tryz.ntmps105
      go_wp2_with (first | (go_at_call 103; refine (specGoodName_any _ _ hs).mono ?_; rintro e w1 ⟨rfl, hB1⟩; obtain ⟨hc1, hf1⟩ := bcell hB1; have hz : w.heap.size < w1.heap.size := (by have := hB1.size; simp at this; omega)) | (go_at_call 68; refine (specGoodPath_any _ _ ht).mono ?_; rintro e w2 ⟨rfl, hB2⟩; obtain ⟨hc2, hf2⟩ := bcell hB2) | (go_at_call 67; refine (l2Method_any _ _).mono ?_; rintro e w3 ⟨rfl, rfl⟩))
      go_ret
      exact ⟨ret_bool HR.out.symm, below_two ((Below.refl _ w).alloc (Nat.le_refl _) _) hB1 hB2⟩
    · have HR := hid (show r.good = mthB r.method by unfold Ca.good; rw [h1, h2]; rfl)
      go_enter Tryz.func105, Tryz.ntmps105
      go_wp2_with (first | (go_at_call 103; refine (specGoodName_any _ _ hs).mono ?_; rintro e w1 ⟨rfl, hB1⟩; obtain ⟨hc1, hf1⟩ := bcell hB1; have hz : w.heap.size < w1.heap.size := (by have := hB1.size; simp at this; omega)) | (go_at_call 68; refine (specGoodPath_any _ _ ht).mono ?_; rintro e w2 ⟨rfl, hB2⟩; obtain ⟨hc2, hf2⟩ := bcell hB2) | (go_at_call 67; refine (l2Method_any _ _).mono ?_; rintro e w3 ⟨rfl, rfl⟩))
      go_ret
      exact ⟨ret_bool HR.out.symm, below_two ((Below.refl _ w).alloc (Nat.le_refl _) _) hB1 hB2⟩

/-- The text of a rule. -/
def Ru.text (r : Ru) : ByteArray := (if r.deny = true then ⟨#[100, 101, 110, 121, 32]⟩ else ⟨#[97, 108, 108, 111, 119, 32]⟩) ++ r.who ++ ⟨#[32]⟩ ++ r.method ++ ⟨#[32]⟩ ++ r.path
def Ru.textG (r : Ru) : ByteArray := if r.good = true then r.text else ⟨#[]⟩

set_option maxHeartbeats 1000000 in
theorem l2Text_any (r : Ru) (w : World) (hs : r.size ≤ 1048576) :
    Calls Tryz.prog 130 #[r.val] w fun e w' => e = .returned (.string r.text) ∧ Below w.heap.size w w' := by
  unfold Ru.size at hs
  cases hd : r.deny
  · have HR := hid (show r.text = ⟨#[97, 108, 108, 111, 119, 32]⟩ ++ r.who ++ ⟨#[32]⟩ ++ r.method ++ ⟨#[32]⟩ ++ r.path by unfold Ru.text; rw [hd]; rfl)
    go_enter Tryz.func130, Tryz.ntmps130
    go_wp2
    go_ret
    exact ⟨ret_str HR.out.symm, (Below.refl _ w).alloc (Nat.le_refl _) _⟩
  · have HR := hid (show r.text = ⟨#[100, 101, 110, 121, 32]⟩ ++ r.who ++ ⟨#[32]⟩ ++ r.method ++ ⟨#[32]⟩ ++ r.path by unfold Ru.text; rw [hd]; rfl)
    go_enter Tryz.func130, Tryz.ntmps130
    go_wp2
    go_ret
    exact ⟨ret_str HR.out.symm, (Below.refl _ w).alloc (Nat.le_refl _) _⟩

theorem specGoodCall_sz (r : Ca) (w : World) (hs : r.size ≤ 1048576) :
    Calls Tryz.prog 105 #[r.val] w fun e w' => e = .returned (.bool r.good) ∧ Below w.heap.size w w' :=
  specGoodCall_any r w (by unfold Ca.size at hs; omega) (by unfold Ca.size at hs; omega)

end Go.Proofs.YtnbojbcljfiamaaGreatDoor

namespace Go.Proofs.YtnbojbcljfiamaaGreatDoor
open Go.RowKit Go.Shelf Go.WideMaps Go.Maps

/-- The methods that a rule may have, as the program's map holds them. -/
abbrev one1 : DataW Unit := .lit (.int .i64 1)
def kD : DataW Unit := (((DataW.map []).put (.string [103, 101, 116]) one1).put (.string [112, 117, 116]) one1).put (.string [42]) one1
def rmB (s : ByteArray) : Bool := mthB s || starB s
theorem key_str (l : List UInt8) : WideAt.IsKeyLit (.string l) := by trivial
theorem ne_str {a b : List UInt8} (h : a ≠ b) : Lit.string a ≠ .string b := fun e => h (by injection e)
theorem kD_yes {s : ByteArray} (h : rmB s = true) : kD.atKey (.string s.data.toList) (.lit (.int .i64 0)) = .lit (.int .i64 1) := by
  unfold kD
  by_cases h3 : s.data.toList = [42]
  · rw [h3]; exact atKey_put_same ((isMap_empty.put _ _).put _ _) (key_str _) _ _
  · rw [atKey_put_other (ne_str h3)]
    by_cases h2 : s.data.toList = [112, 117, 116]
    · rw [h2]; exact atKey_put_same (isMap_empty.put _ _) (key_str _) _ _
    · rw [atKey_put_other (ne_str h2)]
      by_cases h1 : s.data.toList = [103, 101, 116]
      · rw [h1]; exact atKey_put_same isMap_empty (key_str _) _ _
      · simp [rmB, mthB, getB, putB, starB, toList_data, h1, h2, h3] at h
theorem kD_no {s : ByteArray} (h : rmB s = false) : kD.atKey (.string s.data.toList) (.lit (.int .i64 0)) = .lit (.int .i64 0) := by
  simp [rmB, mthB, getB, putB, starB, toList_data] at h
  obtain ⟨⟨h1, h2⟩, h3⟩ := h
  unfold kD
  rw [atKey_put_other (ne_str h3), atKey_put_other (ne_str h2), atKey_put_other (ne_str h1)]
  rfl

theorem lawStr : Keyed Tryz.prog 9 := string_keyed Tryz.underlying9
theorem zeroInt (w : World) : (zeroValue 3).run Tryz.prog w = .ok (.int .i64 0) w := by kernel_rfl
theorem good_eq (r : Ru) : r.good = ((rmB r.method && nmB (split r.who 47)) && ptBs r.path) := by
  unfold Ru.good rmB
  cases nmB (split r.who 47) <;> cases ptBs r.path <;> cases (mthB r.method || starB r.method) <;> rfl

def rmI (s : ByteArray) : Int := if rmB s = true then 1 else 0

set_option maxRecDepth 10000 in
/-- The map that GoodRule tells as a literal: laid entry by entry, and asked. -/
theorem known_map (W : World) : ∃ w1 w2 w3 : World,
    (Instr.mapUpdate 192 (.map (some W.heap.size)) (.string ⟨#[103, 101, 116]⟩) (.int .i64 1)).run Tryz.prog (W.alloc (.map #[] 0)) = .ok () w1 ∧
    (Instr.mapUpdate 192 (.map (some W.heap.size)) (.string ⟨#[112, 117, 116]⟩) (.int .i64 1)).run Tryz.prog w1 = .ok () w2 ∧
    (Instr.mapUpdate 192 (.map (some W.heap.size)) (.string ⟨#[42]⟩) (.int .i64 1)).run Tryz.prog w2 = .ok () w3 ∧
    (∀ s : ByteArray, s.size ≤ maxLen → (Instr.lookup 192 (.map (some W.heap.size)) (.string s) false).run Tryz.prog w3 = .ok (.int .i64 (rmI s)) w3) ∧
    Below W.heap.size W w3 := by
  have hk : ∀ s : ByteArray, s.size ≤ maxLen → keyOf Tryz.prog 9 (.string s) = some (.string s.data.toList) := fun s h => keyOf_string_mk Tryz.underlying9 h
  have hv : plainElem (H := Unit) Tryz.prog 3 (.int .i64 1) = some (one1, []) := plainElem_int Tryz.underlying3 (by decide)
  have h0 := World.ownsMap_made W Tryz.prog 9 (plainElem (H := Unit) Tryz.prog 3)
  obtain ⟨w1, e1, o1, g1⟩ := h0.update lawStr Tryz.underlying192 (by decide) (hk ⟨#[103, 101, 116]⟩ (by decide)) hv
  obtain ⟨w2, e2, o2, g2⟩ := o1.update lawStr Tryz.underlying192 (by decide) (hk ⟨#[112, 117, 116]⟩ (by decide)) hv
  obtain ⟨w3, e3, o3, g3⟩ := o2.update lawStr Tryz.underlying192 (by decide) (hk ⟨#[42]⟩ (by decide)) hv
  have b0 : Below W.heap.size W (W.alloc (.map #[] 0)) := (Below.refl _ W).alloc (Nat.le_refl _) _
  have b1 := b0.grown g1 b0.size (fun j hj => by cases hj; exact Nat.le_refl _)
  have b2 := b1.grown g2 b1.size (fun j hj => by cases hj; exact Nat.le_refl _)
  have b3 := b2.grown g3 b2.size (fun j hj => by cases hj; exact Nat.le_refl _)
  refine ⟨w1, w2, w3, e1, e2, e3, fun s hs => ?_, b3⟩
  obtain ⟨c, hrun, hat, _⟩ := o3.lookup_int lawStr Tryz.underlying192 Tryz.underlying3 (zeroInt _) (hk s hs)
  have hat' : kD.atKey (.string s.data.toList) (.lit (.int .i64 0)) = .lit (.int .i64 c) := hat
  rw [hrun]
  unfold rmI
  cases hb : rmB s
  · rw [kD_no hb] at hat'
    injection hat' with h1
    injection h1 with _ h2
    rw [← h2]
    rfl
  · rw [kD_yes hb] at hat'
    injection hat' with h1
    injection h1 with _ h2
    rw [← h2]
    rfl

set_option maxHeartbeats 1000000 in
theorem implGoodRule_any (r : Ru) (w : World) (hs : r.size ≤ 1048576) :
    Calls Tryz.prog 109 #[r.val] w fun e w' => e = .returned (.bool r.good) ∧ Below w.heap.size w w' := by
  have hmm := @run_makeMap Tryz.prog
  have hw : r.who.size ≤ 1048576 := by unfold Ru.size at hs; omega
  have hp : r.path.size ≤ 1048576 := by unfold Ru.size at hs; omega
  have hm : r.method.size ≤ maxLen := by unfold Ru.size at hs; unfold maxLen; omega
  obtain ⟨w1, w2, w3, e1, e2, e3, hlk, hB⟩ := known_map (w.alloc (.cells #[.bool r.deny, .string r.who, .string r.method, .string r.path] 122))
  have hz : (w.alloc (.cells #[.bool r.deny, .string r.who, .string r.method, .string r.path] 122)).heap.size = w.heap.size + 1 := by simp
  rw [hz] at e1 e2 e3 hlk hB
  replace hlk := hlk r.method hm
  have q1 : w3.cell? ⟨w.heap.size, 1, none⟩ = some (.string r.who) := (hB.cell (p := ⟨w.heap.size, 1, none⟩) (by simp)).trans (by simp)
  have q2 : w3.cell? ⟨w.heap.size, 2, none⟩ = some (.string r.method) := (hB.cell (p := ⟨w.heap.size, 2, none⟩) (by simp)).trans (by simp)
  have q3 : w3.cell? ⟨w.heap.size, 3, none⟩ = some (.string r.path) := (hB.cell (p := ⟨w.heap.size, 3, none⟩) (by simp)).trans (by simp)
  have hz3 : w.heap.size < w3.heap.size := by have := hB.size; omega
  have hB0 : Below w.heap.size w w3 := ((Below.refl _ w).alloc (Nat.le_refl _) _).trans (hB.mono (by omega))
  clear hB hz
  cases h1 : rmB r.method
  · have HR := hid (show r.good = false by rw [good_eq, h1]; rfl)
    rw [show rmI r.method = 0 by unfold rmI; rw [h1]; rfl] at hlk
    go_enter Tryz.func109, Tryz.ntmps109
    go_wp2
    go_ret
    exact ⟨ret_bool HR.out.symm, hB0⟩
  · rw [show rmI r.method = 1 by unfold rmI; rw [h1]; rfl] at hlk
    cases h2 : nmB (split r.who 47)
    · have HR := hid (show r.good = false by rw [good_eq, h1, h2]; rfl)
      go_enter Tryz.func109, Tryz.ntmps109
      go_wp2_with fail
      refine (implGoodNamePattern_any _ _ hw).mono ?_
      rintro e w4 ⟨rfl, hB4⟩
      rw [h2]
      have hBB := below_one hB0 hB4
      go_wp2_with fail
      go_ret
      exact ⟨ret_bool HR.out.symm, hBB⟩
    · have HR := hid (show r.good = ptBs r.path by rw [good_eq, h1, h2]; rfl)
      go_enter Tryz.func109, Tryz.ntmps109
      go_wp2_with fail
      refine (implGoodNamePattern_any _ _ hw).mono ?_
      rintro e w4 ⟨rfl, hB4⟩
      rw [h2]
      have hBB := below_one hB0 hB4
      have q4 := (hB4.cell (p := ⟨w.heap.size, 3, none⟩) hz3).trans q3
      clear hB4
      go_wp2_with fail
      refine (implGoodPathPattern_any _ _ hp).mono ?_
      rintro e w5 ⟨rfl, hB5⟩
      go_wp2_with fail
      go_ret
      exact ⟨ret_bool HR.out.symm, below_one hBB hB5⟩

end Go.Proofs.YtnbojbcljfiamaaGreatDoor
