/-
  Records and lists of records in memory: how those that come in are read, and what the laws measure.
-/
import Derived.WalkKit
import Derived.ProofKit
import Derived.OpenShut
import Derived.Lib.SmallJoins
import Derived.Deep.Slices
import Derived.Test.YtepoamekeackkaaDoorGen
import Derived.Test.YtepoamekeackkaaDoorListV
import Derived.Test.YtepoamekeackkaaDoorRecM
import Derived.Test.YtepoamekeackkaaDoorSumT
import Derived.Test.YtepoamekeackkaaDoorLstN
namespace Go.Proofs.YtepoamekeackkaaDoor
open Go.RowKit Go.Shelf

abbrev Rc.val (k : Rc) : Value := .agg #[.int .i64 k.num, .string k.note, .int .u32 (k.su : Int)]
def Rc.fits (k : Rc) : Prop := k.note.size ≤ maxLen ∧ k.su < 4294967296
/-- A record lies in memory. -/
def RcAt (w : World) (b o : Nat) (k : Rc) : Prop := w.cell? ⟨b, o, none⟩ = some (.int .i64 k.num) ∧ w.cell? ⟨b, o + 1, none⟩ = some (.string k.note) ∧ w.cell? ⟨b, o + 2, none⟩ = some (.int .u32 (k.su : Int))
/-- A slice reads as this list of records. -/
def RcS (w : World) (v : Value) (ks : List Rc) : Prop :=
  (∃ a cap, v = .slice a 0 cap ∧ ks = []) ∨
  ∃ b off cap, v = .slice (some ⟨b, off, none⟩) ks.length cap ∧ b < w.heap.size ∧ ks.length ≤ cap ∧ ∀ i (h : i < ks.length), RcAt w b (off + i * 3) ks[i]
theorem RcAt.below {w w' : World} {b o : Nat} {k : Rc} (h : RcAt w b o k) (hb : b < w.heap.size) (hB : Below w.heap.size w w') : RcAt w' b o k :=
  ⟨(hB.cell (p := ⟨b, o, none⟩) hb).trans h.1, (hB.cell (p := ⟨b, o + 1, none⟩) hb).trans h.2.1, (hB.cell (p := ⟨b, o + 2, none⟩) hb).trans h.2.2⟩
theorem RcS.below {w w' : World} {v : Value} {ks : List Rc} (h : RcS w v ks) (hB : Below w.heap.size w w') : RcS w' v ks := by
  rcases h with h | ⟨b, off, cap, hv, hb, hl, hc⟩
  · exact .inl h
  · exact .inr ⟨b, off, cap, hv, Nat.lt_of_lt_of_le hb hB.size, hl, fun k hk => (hc k hk).below hb hB⟩
theorem RcS.len {w : World} {v : Value} {ks : List Rc} (h : RcS w v ks) : ∃ a cap, v = .slice a ks.length cap := by
  rcases h with ⟨a, cap, hv, rfl⟩ | ⟨b, off, cap, hv, _⟩
  · exact ⟨a, cap, hv⟩
  · exact ⟨_, cap, hv⟩
theorem RcS.at {w : World} {a : Option Addr} {n cap : Nat} {ks : List Rc} (h : RcS w (.slice a n cap) ks) {i : Nat} (hi : i < ks.length) : ∃ b off, a = some ⟨b, off, none⟩ ∧ b < w.heap.size ∧ n ≤ cap ∧ RcAt w b (off + i * 3) ks[i] := by
  rcases h with ⟨_, _, _, rfl⟩ | ⟨b, off, cap, hv, hb, hl, hc⟩
  · simp at hi
  · cases hv
    exact ⟨b, off, rfl, hb, hl, hc i hi⟩

set_option maxRecDepth 100000 in
theorem cellsRecord : Tryd.prog.cellsOf 72 = 3 := by kernel_rfl
set_option maxRecDepth 100000 in
open Go.Deep Go.ChangeShapes Go.WideShapes Go.Joins in
/-- A list of records that comes in. -/
theorem openRcR {H : Type} {enc : TypeId × Value → H} {W : World} {c0 : Value} {d : DataW H × List MemPlace} {fuel : Nat} (hf : DataW.trod enc Tryd.prog W 0 (fun _ => true) true fuel 39 [c0] = some d) :
    ∃ (a : Option Addr) (n c : Nat) (ks : List Rc), c0 = .slice a n c ∧ RcS W (.slice a n c) ks ∧ ks.length = n ∧ n ≤ maxLen ∧ ∀ k ∈ ks, k.fits := by
  rcases open_slice Tryd.underlying39 hf with ⟨hcs, _⟩ | ⟨x, n, c, m, k, D, Pl, hcs, _, hl, hm, hmm, _, hx⟩
  · simp at hcs
    subst hcs
    exact ⟨_, _, _, [], rfl, .inl ⟨_, _, rfl, rfl⟩, rfl, Nat.zero_le _, fun r hr => by cases hr⟩
  · simp at hcs
    subst hcs
    have hlm : n ≤ m := by rw [hmm]; simpa using hl
    have each : ∀ i, i < n → ∃ r : Rc, (W.cell? (x.add (i * 3)) = some (.int .i64 r.num) ∧ W.cell? (x.add (i * 3 + 1)) = some (.string r.note) ∧ W.cell? (x.add (i * 3 + 2)) = some (.int .u32 (r.su : Int))) ∧ r.fits := by
      intro i hi
      obtain ⟨cs', h1, h2⟩ := hx i (by omega)
      rw [cellsRecord] at h1
      obtain ⟨_, hlen, hcell⟩ := World.cells?_some h1
      obtain ⟨xs, m', _, _, _, hxl, hfl⟩ := DataW.trod_struct Tryd.underlying72 h2
      match cs', hlen, xs, hxl with
      | [v0, v1, v2], _, [y0, y1, y2], _ =>
        have g0 := hfl 0 _ rfl
        have g1 := hfl 1 _ rfl
        have g2 := hfl 2 _ rfl
        have e0 := hcell 0 (by omega)
        have e1 := hcell 1 (by omega)
        have e2 := hcell 2 (by omega)
        rw [add_add] at e0 e1 e2
        have c1 : Tryd.prog.cellsOf 3 = 1 := by kernel_rfl
        have c2 : Tryd.prog.cellsOf 9 = 1 := by kernel_rfl
        have c3 : Tryd.prog.cellsOf 32 = 1 := by kernel_rfl
        simp [c1, c2, c3] at g0 g1 g2
        obtain ⟨x0, f0, _, _⟩ := DataW.trod_int Tryd.underlying3 g0
        obtain ⟨x1, f1, _, w1⟩ := DataW.trod_string Tryd.underlying9 g1
        obtain ⟨x2, f2, _, w2⟩ := DataW.trod_int Tryd.underlying32 g2
        simp at f0 f1 f2
        subst f0 f1 f2
        obtain ⟨u2, rfl, hu2⟩ := u32_nat w2
        exact ⟨⟨x0, x1, u2⟩, ⟨by simpa using e0, by simpa using e1, by simpa using e2⟩, w1, hu2⟩
    have hin : Inhabited Rc := ⟨⟨0, ByteArray.empty, 0⟩⟩
    obtain ⟨q, hq⟩ := choose_lt each
    by_cases h0 : n = 0
    · subst h0
      exact ⟨_, _, _, [], rfl, .inl ⟨_, _, rfl, rfl⟩, rfl, Nat.zero_le _, fun r hr => by cases hr⟩
    · obtain ⟨b, off, spot⟩ := x
      have hs : spot = none := by simpa [Addr.add] using World.cell?_spot (hq 0 (by omega)).1.1
      subst hs
      have hlt : b < W.heap.size := by
        have := (hq 0 (by omega)).1.1
        rw [Addr.add_lit] at this
        by_cases hb : b < W.heap.size
        · exact hb
        · simp only [World.cell?] at this
          rw [Array.getElem?_eq_none (by omega)] at this
          cases this
      refine ⟨_, _, _, (List.range n).map q, rfl, .inr ⟨b, off, c, by simp, hlt, by simpa using hl, fun k hk => ?_⟩, by simp, by omega, ?_⟩
      · have hk' : k < n := by simpa using hk
        have := (hq k hk').1
        simp only [Addr.add_lit, ← Nat.add_assoc] at this
        simpa [RcAt] using this
      · intro r hr
        obtain ⟨i, hi, rfl⟩ := List.mem_map.1 hr
        exact (hq i (List.mem_range.1 hi)).2

/-- A list of records that comes in, as an argument. -/
theorem openRcS {H : Type} {enc : TypeId × Value → H} {W : World} {a : Option Addr} {n c : Nat} {d : DataW H} {p : List MemPlace} (h : DataW.Trod enc Tryd.prog W 0 (fun _ => true) true 39 (.slice a n c) d p) :
    ∃ ks : List Rc, RcS W (.slice a n c) ks ∧ ks.length = n ∧ n ≤ maxLen ∧ ∀ k ∈ ks, k.fits := by
  obtain ⟨fuel, hf⟩ := h
  obtain ⟨a', n', c', ks, he, h1, h2, h3, h4⟩ := openRcR (c0 := .slice a n c) (by simpa [Value.cells] using hf)
  cases he
  exact ⟨ks, h1, h2, h3, h4⟩

def rczTo (ks : List Rc) (n : Nat) : Nat := ((ks.take n).map (fun k => k.note.size)).sum
def rczAll (ks : List Rc) : Nat := ks.length + rczTo ks ks.length
theorem rczTo_zero (ks : List Rc) : rczTo ks 0 = 0 := by simp [rczTo]
theorem rczTo_succ {ks : List Rc} {n : Nat} (h : n < ks.length) : rczTo ks (n + 1) = rczTo ks n + ks[n].note.size := by
  unfold rczTo
  rw [List.take_succ_eq_append_getElem h, List.map_append, List.sum_append]
  simp
theorem rczTo_le (ks : List Rc) (n : Nat) : rczTo ks n ≤ rczTo ks ks.length := by
  unfold rczTo
  rw [List.take_length]
  conv => rhs; rw [← List.take_append_drop n ks, List.map_append, List.sum_append]
  omega
theorem rcz_mem {ks : List Rc} {k : Rc} (h : k ∈ ks) : k.note.size ≤ rczTo ks ks.length := by
  unfold rczTo
  rw [List.take_length]
  exact sum_mem (List.mem_map.2 ⟨k, h, rfl⟩)
def leftRc (n : Int) (ks : List Rc) : Int := if (rczAll ks : Int) ≤ n then n - rczAll ks else -1

set_option maxHeartbeats 1000000 in
theorem szRecord_any (k : Rc) (n : Int) (w : World) (h0 : 0 ≤ n) (h1 : n ≤ 1048576) (ha : k.note.size ≤ maxLen) :
    Calls Tryd.prog 40 #[k.val, .int .i64 n] w fun e w' => e = .returned (.int .i64 (left1 n k.note.size)) ∧ Below w.heap.size w w' := by
  unfold maxLen at ha
  by_cases c1 : n < k.note.size
  · have HR := hid (show left1 n k.note.size = -1 from if_neg (by omega))
    go_enter Tryd.func40, Tryd.ntmps40
    go_wp2
    go_ret
    exact ⟨ret_int HR.out.symm, (Below.refl _ w).alloc (Nat.le_refl _) _⟩
  · have HR := hid (show left1 n k.note.size = n - k.note.size from if_pos (by omega))
    go_enter Tryd.func40, Tryd.ntmps40
    go_wp2
    go_ret
    exact ⟨ret_int HR.out.symm, (Below.refl _ w).alloc (Nat.le_refl _) _⟩

set_option maxHeartbeats 1000000 in
theorem szRecordS_any (v : Value) (rs : List Rc) (n : Int) (w : World) (h0 : 0 ≤ n) (h1 : n ≤ 1048576) (hm : rs.length ≤ maxLen) (hf : ∀ r ∈ rs, r.fits) (hr : RcS w v rs) :
    Calls Tryd.prog 16 #[v, .int .i64 n] w fun e w' => e = .returned (.int .i64 (leftRc n rs)) ∧ Below w.heap.size w w' := by
  obtain ⟨a, cap, rfl⟩ := hr.len
  unfold maxLen at hm
  by_cases c0 : n < rs.length
  · have HR := hid (show leftRc n rs = -1 from if_neg (by unfold rczAll; omega))
    go_enter Tryd.func16, Tryd.ntmps16
    go_wp2
    go_ret
    exact ⟨ret_int HR.out.symm, Below.refl _ _⟩
  · have d0 : decide (n - (rs.length : Int) < 0) = false := by simp; omega
    go_enter Tryd.func16, Tryd.ntmps16
    go_wp2
    go_loopw [1, 5] (fun m i wr => ∃ k : Nat, k ≤ rs.length ∧ i = .int .i64 k ∧ m = .int .i64 (n - rs.length - rczTo rs k) ∧ 0 ≤ n - rs.length - rczTo rs k ∧ Below w.heap.size w wr) (fun _ i _ => rs.length - (intOf i).toNat)
    case atStart => exact ⟨0, Nat.zero_le _, rfl, by rw [rczTo_zero]; go_num, by rw [rczTo_zero]; omega, Below.refl _ _⟩
    case round =>
      obtain ⟨k, hk, rfl, rfl, hp, hB⟩ := hrel
      by_cases hlt : k < rs.length
      · obtain ⟨b, off, rfl, hb, hcap, q0, q1, q2⟩ := (hr.below hB).at hlt
        have f1 := (hf rs[k] (List.getElem_mem hlt)).1
        have HS := hid (rczTo_succ hlt)
        have HT := hid (rczTo_le rs (k + 1))
        generalize rs[k] = r at *
        go_wp2_with fail
        refine (szRecord_any r _ _ hp (by omega) f1).mono ?_
        rintro e w1 ⟨rfl, hB1⟩
        have hB2 := below_one hB hB1
        by_cases c1 : (r.note.size : Int) ≤ n - rs.length - rczTo rs k
        · have hv : left1 (n - rs.length - rczTo rs k) r.note.size = n - rs.length - rczTo rs (k + 1) := by
            rw [HS.out]
            unfold left1
            rw [if_pos (by omega)]
            omega
          have hq : 0 ≤ n - rs.length - rczTo rs (k + 1) := by rw [HS.out]; omega
          rw [hv]
          have d1 : decide (n - (rs.length : Int) - (rczTo rs (k + 1) : Int) < 0) = false := by simp; omega
          clear hv hB1 q0 q1 q2
          go_wp2_with fail
          go_roundw
          case rel => exact ⟨k + 1, by omega, by go_num, rfl, hq, hB2⟩
          case measure => simp [intOf]; omega
        · have hv : left1 (n - rs.length - rczTo rs k) r.note.size = -1 := if_neg (by omega)
          have HR := hid (show leftRc n rs = -1 from if_neg (by have := HT.out; rw [HS.out] at this; unfold rczAll; omega))
          rw [hv]
          clear hv hB1 q0 q1 q2
          go_wp2_with fail
          go_ret
          exact ⟨ret_int HR.out.symm, hB2⟩
      · obtain rfl : k = rs.length := by omega
        have HR := hid (show leftRc n rs = n - rs.length - rczTo rs rs.length by unfold leftRc rczAll; rw [if_pos (by omega)]; omega)
        go_wp2
        go_ret
        exact ⟨ret_int HR.out.symm, hB⟩

abbrev Rc.cells (k : Rc) : List Value := [.int .i64 k.num, .string k.note, .int .u32 (k.su : Int)]
theorem rcflat_len (ks : List Rc) : (ks.flatMap Rc.cells).length = ks.length * 3 := by
  induction ks with
  | nil => rfl
  | cons r rs ih => rw [List.flatMap_cons, List.length_append, ih]; simp; omega
theorem rcflat_at (rs : List Rc) : ∀ (k j : Nat) (h : k < rs.length), j < 3 → (rs.flatMap Rc.cells)[k * 3 + j]? = rs[k].cells[j]? := by
  induction rs with
  | nil => intro k j h; simp at h
  | cons r rs ih =>
    intro k j h hj
    rw [List.flatMap_cons]
    cases k with
    | zero => rw [List.getElem?_append_left (by simp; omega)]; simp
    | succ k =>
      rw [List.getElem?_append_right (by simp; omega)]
      have := ih k j (by simpa using h) hj
      rw [show (k + 1) * 3 + j - r.cells.length = k * 3 + j by simp; omega]
      simpa using this
/-- A slice of records of one's own reads as its list. -/
theorem RcS.own {w : World} {base : Nat} {v : Value} {rs : List Rc} (h : w.ownsRow base 34 3 v rs.length (rs.flatMap Rc.cells)) : RcS w v rs := by
  rcases h.2 with ⟨rfl, h0⟩ | ⟨g, cap, cur, rfl, hg, hb, hle, _⟩
  · exact .inl ⟨none, 0, rfl, List.eq_nil_of_length_eq_zero h0⟩
  · refine .inr ⟨g, 0, cap, rfl, (Array.getElem?_eq_some_iff.1 hb).1, hle, fun k hk => ?_⟩
    have hc : ∀ j, j < 3 → w.cell? ⟨g, k * 3 + j, none⟩ = rs[k].cells[j]? := fun j hj => by rw [h.cellAt (k * 3 + j) (by omega), rcflat_at rs k j hk hj]
    have h0 := hc 0 (by omega)
    have h1 := hc 1 (by omega)
    have h2 := hc 2 (by omega)
    simp only [Nat.add_zero, List.getElem?_cons_zero, List.getElem?_cons_succ] at h0 h1 h2
    exact ⟨by rw [Nat.zero_add]; exact h0, by rw [Nat.zero_add]; exact h1, by rw [Nat.zero_add]; exact h2⟩
theorem infoRecord : (Tryd.prog.info? 34).map (fun i => (i.zero, i.size, i.bytes)) = some (some (.agg #[.int .i64 0, .string ByteArray.empty, .int .u32 0]), 3, 32) := by kernel_rfl

set_option maxHeartbeats 1000000 in
theorem toRecord_any (k : Rc) (w : World) :
    Calls Tryd.prog 43 #[k.val] w fun e w' => e = .returned k.val ∧ Below w.heap.size w w' := by
  go_enter Tryd.func43, Tryd.ntmps43
  go_wp2
  exact bodyPost_ret (v := k.val) (by simp [results, Tryd.results43, go_sem]) rfl ⟨rfl, (((Below.refl _ w).alloc (Nat.le_refl _) _).alloc (by simp) _).alloc (by simp; omega) _⟩

set_option maxHeartbeats 2000000 in
theorem toRecordS_any (v : Value) (rs : List Rc) (w : World) (hm : rs.length ≤ 1048576) (hr : RcS w v rs) :
    Calls Tryd.prog 18 #[v] w fun e w' => ∃ v', e = .returned v' ∧ w'.ownsRow w.heap.size 34 3 v' rs.length (rs.flatMap Rc.cells) ∧ Below w.heap.size w w' := by
  obtain ⟨a, cap, rfl⟩ := hr.len
  obtain ⟨i0, hi, hz0, hz1, hz2⟩ := info_parts infoRecord
  go_enter Tryd.func18, Tryd.ntmps18
  go_wp2_with (at_make; refine wpList_make_full _ rfl _ _ 23 rfl w.heap.size 34 i0 _ 3 Tryd.underlying23 hi hz0 hz1 _ _ _ _ rs.length rfl rfl rfl rfl (by rw [hz2]; omega) (by unfold maxLen; omega) (Nat.le_refl _) ?_; intro w1 hown hgrow)
  have hB1 : Below w.heap.size w w1 := (Below.refl _ w).grown hgrow (Nat.le_refl _) (fun k e => by cases e)
  go_loopw [4] (fun i wr => ∃ k : Nat, k ≤ rs.length ∧ i = .int .i64 k ∧ ∃ xs, wr.ownsRow w.heap.size 34 3 (.slice (some ⟨w.heap.size, 0, none⟩) rs.length rs.length) rs.length xs ∧ xs.take (k * 3) = (rs.take k).flatMap Rc.cells ∧ Below w.heap.size w wr) (fun i _ => rs.length - (intOf i).toNat)
  case atStart => exact ⟨0, Nat.zero_le _, rfl, _, hown, by simp, hB1⟩
  case round =>
    obtain ⟨k, hk, rfl, xs, hrow, hx, hB⟩ := hrel
    have HX := hid hx
    clear hx
    by_cases hlt : k < rs.length
    · obtain ⟨b, off, rfl, hb, hcap, q0, q1, q2⟩ := (hr.below hB).at hlt
      have HT := hid (List.take_succ_eq_append_getElem hlt)
      generalize rs[k] = r at *
      go_wp2_with fail
      refine (toRecord_any r _).mono ?_
      rintro e w2 ⟨rfl, hB2⟩
      have hrow2 := ownsRow_below hrow hB2
      have hB3 := below_one hB hB2
      have hlen : xs.length = rs.length * 3 := hrow2.1
      have s0 := hrow2.cellAt (k * 3) (by omega)
      have s1 := hrow2.cellAt (k * 3 + 1) (by omega)
      have s2 := hrow2.cellAt (k * 3 + 2) (by omega)
      rw [List.getElem?_eq_getElem (by omega)] at s0 s1 s2
      have t0 := hrow2.frozenAt (k * 3)
      have t1 := hrow2.frozenAt (k * 3 + 1)
      have t2 := hrow2.frozenAt (k * 3 + 2)
      generalize xs[k * 3] = y0 at *
      generalize xs[k * 3 + 1] = y1 at *
      generalize xs[k * 3 + 2] = y2 at *
      clear q0 q1 q2 hB2
      go_wp2_with fail
      go_roundw
      case rel =>
        refine ⟨k + 1, by omega, by go_num, _, ((hrow2.stored (k * 3) (.int .i64 r.num)).1.stored (k * 3 + 1) (.string r.note)).1.stored (k * 3 + 2) (.int .u32 (r.su : Int)) |>.1, ?_, ((hB3.setCell (p := ⟨w.heap.size, _, none⟩) (Nat.le_refl _) _).setCell (p := ⟨w.heap.size, _, none⟩) (Nat.le_refl _) _).setCell (p := ⟨w.heap.size, _, none⟩) (Nat.le_refl _) _⟩
        rw [take_set3 _ _ _ _ _ (by omega), HX.out, HT.out, List.flatMap_append]
        simp
      case measure => simp [intOf]; omega
    · obtain rfl : k = rs.length := by omega
      have HF := hid (show xs = rs.flatMap Rc.cells by have := HX.out; rw [List.take_of_length_le (by have := hrow.1; omega), List.take_length] at this; exact this)
      go_wp2
      go_ret
      exact ⟨_, rfl, by rw [← HF.out]; exact hrow, hB⟩

end Go.Proofs.YtepoamekeackkaaDoor
