/-
  Lists of texts and of numbers in memory: how they are read, handed on, held against each other, marked.
-/
import Derived.WalkKit
import Derived.ProofKit
import Derived.OpenShut
import Derived.Lib.SmallJoins
import Derived.Deep.Slices
import Derived.Test.YtepoamekeackkaaDoorMarkT
namespace Go.Proofs.YtepoamekeackkaaDoor
open Go.RowKit Go.Shelf

/-- A slice whose elements have one cell each reads as these values. -/
def VS (w : World) (v : Value) (xs : List Value) : Prop :=
  (∃ a cap, v = .slice a 0 cap ∧ xs = []) ∨
  ∃ b off cap, v = .slice (some ⟨b, off, none⟩) xs.length cap ∧ b < w.heap.size ∧ xs.length ≤ cap ∧ ∀ i (h : i < xs.length), w.cell? ⟨b, off + i, none⟩ = some xs[i]
theorem VS.below {w w' : World} {v : Value} {xs : List Value} (h : VS w v xs) (hB : Below w.heap.size w w') : VS w' v xs := by
  rcases h with h | ⟨b, off, cap, hv, hb, hl, hc⟩
  · exact .inl h
  · exact .inr ⟨b, off, cap, hv, Nat.lt_of_lt_of_le hb hB.size, hl, fun k hk => (hB.cell (p := ⟨b, off + k, none⟩) hb).trans (hc k hk)⟩
theorem VS.len {w : World} {v : Value} {xs : List Value} (h : VS w v xs) : ∃ a cap, v = .slice a xs.length cap := by
  rcases h with ⟨a, cap, hv, rfl⟩ | ⟨b, off, cap, hv, _⟩
  · exact ⟨a, cap, hv⟩
  · exact ⟨_, cap, hv⟩
theorem VS.at {w : World} {a : Option Addr} {n cap : Nat} {xs : List Value} (h : VS w (.slice a n cap) xs) {i : Nat} (hi : i < xs.length) : ∃ b off, a = some ⟨b, off, none⟩ ∧ b < w.heap.size ∧ n ≤ cap ∧ w.cell? ⟨b, off + i, none⟩ = some xs[i] := by
  rcases h with ⟨_, _, _, rfl⟩ | ⟨b, off, cap, hv, hb, hl, hc⟩
  · simp at hi
  · cases hv
    exact ⟨b, off, rfl, hb, hl, hc i hi⟩
theorem VS.own {w : World} {base : Nat} {e : TypeId} {v : Value} {xs : List Value} (h : w.ownsRow base e 1 v xs.length xs) : VS w v xs := by
  rcases h.2 with ⟨rfl, h0⟩ | ⟨g, cap, cur, rfl, hg, hb, hle, _⟩
  · exact .inl ⟨none, 0, rfl, List.eq_nil_of_length_eq_zero h0⟩
  · refine .inr ⟨g, 0, cap, rfl, (Array.getElem?_eq_some_iff.1 hb).1, hle, fun k hk => ?_⟩
    have := h.cellAt k (by omega)
    rw [List.getElem?_eq_getElem hk] at this
    rw [Nat.zero_add]
    exact this

abbrev strs (ss : List ByteArray) : List Value := ss.map Value.string
theorem VS.ownS {w : World} {base : Nat} {e : TypeId} {v : Value} {ss : List ByteArray} (h : w.ownsRow base e 1 v ss.length (ss.map Value.string)) : VS w v (ss.map Value.string) :=
  VS.own (by rw [List.length_map]; exact h)
theorem VS.ownN {w : World} {base : Nat} {e : TypeId} {v : Value} {zs : List Int} (h : w.ownsRow base e 1 v zs.length (zs.map (Value.int .i64))) : VS w v (zs.map (Value.int .i64)) :=
  VS.own (by rw [List.length_map]; exact h)
abbrev nums (zs : List Int) : List Value := zs.map (Value.int .i64)
theorem strs_len (ss : List ByteArray) : (strs ss).length = ss.length := List.length_map _
theorem nums_len (zs : List Int) : (nums zs).length = zs.length := List.length_map _
theorem VS.str {w : World} {a : Option Addr} {n cap : Nat} {ss : List ByteArray} (h : VS w (.slice a n cap) (strs ss)) {i : Nat} (hi : i < ss.length) : ∃ b off, a = some ⟨b, off, none⟩ ∧ b < w.heap.size ∧ n ≤ cap ∧ w.cell? ⟨b, off + i, none⟩ = some (.string ss[i]) := by
  obtain ⟨b, off, h1, h2, h3, h4⟩ := h.at (i := i) (by rw [strs_len]; exact hi)
  exact ⟨b, off, h1, h2, h3, by rw [h4, List.getElem_map]⟩
theorem VS.num {w : World} {a : Option Addr} {n cap : Nat} {zs : List Int} (h : VS w (.slice a n cap) (nums zs)) {i : Nat} (hi : i < zs.length) : ∃ b off, a = some ⟨b, off, none⟩ ∧ b < w.heap.size ∧ n ≤ cap ∧ w.cell? ⟨b, off + i, none⟩ = some (.int .i64 zs[i]) := by
  obtain ⟨b, off, h1, h2, h3, h4⟩ := h.at (i := i) (by rw [nums_len]; exact hi)
  exact ⟨b, off, h1, h2, h3, by rw [h4, List.getElem_map]⟩
theorem VS.strLen {w : World} {v : Value} {ss : List ByteArray} (h : VS w v (strs ss)) : ∃ a cap, v = .slice a ss.length cap := by
  have := h.len
  rwa [strs_len] at this
theorem VS.numLen {w : World} {v : Value} {zs : List Int} (h : VS w v (nums zs)) : ∃ a cap, v = .slice a zs.length cap := by
  have := h.len
  rwa [nums_len] at this

set_option maxRecDepth 100000 in
open Go.Deep Go.ChangeShapes Go.WideShapes Go.Joins in
/-- A list of texts that comes in. -/
theorem openStS {H : Type} {enc : TypeId × Value → H} {W : World} {a : Option Addr} {n c : Nat} {d : DataW H} {p : List MemPlace} (h : DataW.Trod enc Tryd.prog W 0 (fun _ => true) true 51 (.slice a n c) d p) :
    ∃ ss : List ByteArray, VS W (.slice a n c) (strs ss) ∧ ss.length = n ∧ n ≤ maxLen ∧ ∀ s ∈ ss, s.size ≤ maxLen := by
  obtain ⟨fuel, hf⟩ := h
  have c2 : Tryd.prog.cellsOf 9 = 1 := by kernel_rfl
  rcases open_slice Tryd.underlying51 hf with ⟨hcs, _⟩ | ⟨x, len, cap, m, k, D, Pl, hcs, _, hl, hm, hmm, _, hx⟩
  · simp [Value.cells] at hcs
    obtain ⟨rfl, rfl, rfl⟩ := hcs
    exact ⟨[], .inl ⟨_, _, rfl, rfl⟩, rfl, Nat.zero_le _, fun r hr => by cases hr⟩
  · simp [Value.cells] at hcs
    obtain ⟨rfl, rfl, rfl⟩ := hcs
    have hlm : n ≤ m := by rw [hmm]; simpa using hl
    have each : ∀ i, i < n → ∃ r : ByteArray, W.cell? (x.add i) = some (.string r) ∧ r.size ≤ maxLen := by
      intro i hi
      obtain ⟨cs', h1, h2⟩ := hx i (by omega)
      rw [c2, Nat.mul_one] at h1
      obtain ⟨_, hlen, hcell⟩ := World.cells?_some h1
      obtain ⟨x0, f0, _, w0⟩ := DataW.trod_string Tryd.underlying9 h2
      subst f0
      have e0 := hcell 0 (by omega)
      rw [add_add] at e0
      exact ⟨x0, by simpa using e0, w0⟩
    have hin : Inhabited ByteArray := ⟨ByteArray.empty⟩
    obtain ⟨q, hq⟩ := choose_lt each
    by_cases h0 : n = 0
    · subst h0
      exact ⟨[], .inl ⟨_, _, rfl, rfl⟩, rfl, Nat.zero_le _, fun r hr => by cases hr⟩
    · obtain ⟨b, off, spot⟩ := x
      have hs : spot = none := by simpa [Addr.add] using World.cell?_spot (hq 0 (by omega)).1
      subst hs
      have hlt : b < W.heap.size := by
        have := (hq 0 (by omega)).1
        rw [Addr.add_lit] at this
        by_cases hb : b < W.heap.size
        · exact hb
        · simp only [World.cell?] at this
          rw [Array.getElem?_eq_none (by omega)] at this
          cases this
      refine ⟨(List.range n).map q, .inr ⟨b, off, c, by simp [strs], hlt, by simpa [strs] using hl, fun k hk => ?_⟩, by simp, by omega, ?_⟩
      · have hk' : k < n := by simpa [strs] using hk
        have := (hq k hk').1
        simp only [Addr.add_lit] at this
        simpa [strs] using this
      · intro r hr
        obtain ⟨i, hi, rfl⟩ := List.mem_map.1 hr
        exact (hq i (List.mem_range.1 hi)).2

theorem take_one {α : Type} (xs : List α) (k : Nat) (a : α) (h : k < xs.length) : (xs.set k a).take (k + 1) = xs.take k ++ [a] := by
  rw [List.take_succ_eq_append_getElem (by simpa using h), List.take_set_of_le (Nat.le_refl _)]
  simp
theorem below_drewn {w W : World} (h : Below w.heap.size w W) (n : Nat) : Below w.heap.size w (W.drewN n) :=
  h.trans ⟨rfl, rfl, rfl, Nat.le_refl _, fun _ _ => rfl⟩
theorem infoString : (Tryd.prog.info? 9).map (fun i => (i.zero, i.size, i.bytes)) = some (some (.string ByteArray.empty), 1, 16) := by kernel_rfl
theorem infoInt : (Tryd.prog.info? 3).map (fun i => (i.zero, i.size, i.bytes)) = some (some (.int .i64 0), 1, 8) := by kernel_rfl

/-- Two lists of texts are alike. -/
def ssTo (xs ys : List ByteArray) (k : Nat) : Bool := ((xs.zip ys).take k).all (fun q => q.1.toList == q.2.toList)
def ssS (xs ys : List ByteArray) : Bool := decide (xs.length = ys.length) && (xs.zip ys).all (fun q => q.1.toList == q.2.toList)
theorem ssTo_zero (xs ys : List ByteArray) : ssTo xs ys 0 = true := by simp [ssTo]
theorem ssTo_succ {xs ys : List ByteArray} {k : Nat} (h : k < xs.length) (h' : k < ys.length) : ssTo xs ys (k + 1) = (ssTo xs ys k && (xs[k].toList == ys[k].toList)) := by
  unfold ssTo
  rw [List.take_succ_eq_append_getElem (by rw [List.length_zip]; omega), List.all_append]
  simp
theorem ss_end {xs ys : List ByteArray} (h : xs.length = ys.length) : ssTo xs ys xs.length = ssS xs ys := by
  unfold ssTo ssS
  rw [List.take_of_length_le (by rw [List.length_zip]; omega), decide_eq_true h, Bool.true_and]
theorem ssS_refl (xs : List ByteArray) : ssS xs xs = true := by
  unfold ssS
  rw [decide_eq_true rfl, Bool.true_and, List.all_eq_true]
  intro x hx
  obtain ⟨i, hi, he⟩ := List.getElem_of_mem hx
  rw [List.getElem_zip] at he
  rw [← he]
  simp

/-- What is left of a budget behind a list of texts. -/
def tzTo (ss : List ByteArray) (n : Nat) : Nat := ((ss.take n).map ByteArray.size).sum
def tzAll (ss : List ByteArray) : Nat := ss.length + tzTo ss ss.length
theorem tzTo_zero (ss : List ByteArray) : tzTo ss 0 = 0 := by simp [tzTo]
theorem tzTo_succ {ss : List ByteArray} {n : Nat} (h : n < ss.length) : tzTo ss (n + 1) = tzTo ss n + ss[n].size := by
  unfold tzTo
  rw [List.take_succ_eq_append_getElem h, List.map_append, List.sum_append]
  simp
theorem tzTo_le (ss : List ByteArray) (n : Nat) : tzTo ss n ≤ tzTo ss ss.length := by
  unfold tzTo
  rw [List.take_length]
  conv => rhs; rw [← List.take_append_drop n ss, List.map_append, List.sum_append]
  omega
theorem tz_mem {ss : List ByteArray} {s : ByteArray} (h : s ∈ ss) : s.size ≤ tzTo ss ss.length := by
  unfold tzTo
  rw [List.take_length]
  exact sum_mem (List.mem_map.2 ⟨s, h, rfl⟩)
def leftT (n : Int) (ss : List ByteArray) : Int := if (tzAll ss : Int) ≤ n then n - tzAll ss else -1

def mkS (k n : Nat) : List ByteArray := (List.range n).map (fun i => mkT (k + i))
theorem mkS_len (k n : Nat) : (mkS k n).length = n := by simp [mkS]
theorem mkS_succ (k n : Nat) : mkS k (n + 1) = mkS k n ++ [mkT (k + n)] := by
  unfold mkS
  rw [List.range_succ, List.map_append]
  rfl
theorem mkS_at {k n i : Nat} (h : i < (mkS k n).length) : (mkS k n)[i] = mkT (k + i) := by simp [mkS]

end Go.Proofs.YtepoamekeackkaaDoor
