/-
  Blocks of eight and ten cells that belong to one variable.
-/
import Derived.WalkKit
import Derived.ProofKit
import Derived.OpenShut
import Derived.Lib.SmallJoins
import Derived.Deep.Slices
import Derived.Test.YtnbojbcljfiamaaGreatDoorJPermittedBy0
import Derived.Test.YtnbojbcljfiamaaGreatDoorJPermittedBy2
import Derived.Deep.RegionHeld3
namespace Go.Proofs.YtnbojbcljfiamaaGreatDoor
open Go.RowKit Go.Shelf

abbrev Rc.val (k : Rc) : Value := .agg #[.int .i64 k.num, .string k.note, .int .u32 (k.su : Int)]
def Rc.fits (k : Rc) : Prop := k.note.size ≤ maxLen ∧ k.su < 4294967296
/-- A record lies in memory. -/
def RcAt (w : World) (b o : Nat) (k : Rc) : Prop := w.cell? ⟨b, o, none⟩ = some (.int .i64 k.num) ∧ w.cell? ⟨b, o + 1, none⟩ = some (.string k.note) ∧ w.cell? ⟨b, o + 2, none⟩ = some (.int .u32 (k.su : Int))
/-- A slice reads as this list of records. -/
def RcS (w : World) (v : Value) (ks : List Rc) : Prop :=
  (∃ a cap, v = .slice a 0 cap ∧ ks = []) ∨
  ∃ b off cap, v = .slice (some ⟨b, off, none⟩) ks.length cap ∧ b < w.heap.size ∧ ks.length ≤ cap ∧ ∀ i (h : i < ks.length), RcAt w b (off + i * 3) ks[i]
theorem RcAt.below {w w' : World} {b o : Nat} {k : Rc} (h : RcAt w b o k) (hb : b < w.heap.size) (hB : Below w.heap.size w w') : RcAt w' b o k :=
  ⟨(hB.cell (p := ⟨b, o, none⟩) hb).trans h.1, (hB.cell (p := ⟨b, o + 1, none⟩) hb).trans h.2.1, (hB.cell (p := ⟨b, o + 2, none⟩) hb).trans h.2.2⟩
theorem RcS.below {w w' : World} {v : Value} {ks : List Rc} (h : RcS w v ks) (hB : Below w.heap.size w w') : RcS w' v ks := by
  rcases h with h | ⟨b, off, cap, hv, hb, hl, hc⟩
  · exact .inl h
  · exact .inr ⟨b, off, cap, hv, Nat.lt_of_lt_of_le hb hB.size, hl, fun k hk => (hc k hk).below hb hB⟩
theorem RcS.len {w : World} {v : Value} {ks : List Rc} (h : RcS w v ks) : ∃ a cap, v = .slice a ks.length cap := by
  rcases h with ⟨a, cap, hv, rfl⟩ | ⟨b, off, cap, hv, _⟩
  · exact ⟨a, cap, hv⟩
  · exact ⟨_, cap, hv⟩
theorem RcS.at {w : World} {a : Option Addr} {n cap : Nat} {ks : List Rc} (h : RcS w (.slice a n cap) ks) {i : Nat} (hi : i < ks.length) : ∃ b off, a = some ⟨b, off, none⟩ ∧ b < w.heap.size ∧ n ≤ cap ∧ RcAt w b (off + i * 3) ks[i] := by
  rcases h with ⟨_, _, _, rfl⟩ | ⟨b, off, cap, hv, hb, hl, hc⟩
  · simp at hi
  · cases hv
    exact ⟨b, off, rfl, hb, hl, hc i hi⟩

set_option maxRecDepth 100000 in
theorem cellsRecord : Tryz.prog.cellsOf 223 = 3 := by kernel_rfl
set_option maxRecDepth 100000 in
open Go.Deep Go.ChangeShapes Go.WideShapes Go.Joins in
/-- A list of records that comes in. -/
theorem openRcR {H : Type} {enc : TypeId × Value → H} {W : World} {c0 : Value} {d : DataW H × List MemPlace} {fuel : Nat} (hf : DataW.trod enc Tryz.prog W 0 (fun _ => true) true fuel 148 [c0] = some d) :
    ∃ (a : Option Addr) (n c : Nat) (ks : List Rc), c0 = .slice a n c ∧ RcS W (.slice a n c) ks ∧ ks.length = n ∧ n ≤ maxLen ∧ ∀ k ∈ ks, k.fits := by
  rcases open_slice Tryz.underlying148 hf with ⟨hcs, _⟩ | ⟨x, n, c, m, k, D, Pl, hcs, _, hl, hm, hmm, _, hx⟩
  · simp at hcs
    subst hcs
    exact ⟨_, _, _, [], rfl, .inl ⟨_, _, rfl, rfl⟩, rfl, Nat.zero_le _, fun r hr => by cases hr⟩
  · simp at hcs
    subst hcs
    have hlm : n ≤ m := by rw [hmm]; simpa using hl
    have each : ∀ i, i < n → ∃ r : Rc, (W.cell? (x.add (i * 3)) = some (.int .i64 r.num) ∧ W.cell? (x.add (i * 3 + 1)) = some (.string r.note) ∧ W.cell? (x.add (i * 3 + 2)) = some (.int .u32 (r.su : Int))) ∧ r.fits := by
      intro i hi
      obtain ⟨cs', h1, h2⟩ := hx i (by omega)
      rw [cellsRecord] at h1
      obtain ⟨_, hlen, hcell⟩ := World.cells?_some h1
      obtain ⟨xs, m', _, _, _, hxl, hfl⟩ := DataW.trod_struct Tryz.underlying223 h2
      match cs', hlen, xs, hxl with
      | [v0, v1, v2], _, [y0, y1, y2], _ =>
        have g0 := hfl 0 _ rfl
        have g1 := hfl 1 _ rfl
        have g2 := hfl 2 _ rfl
        have e0 := hcell 0 (by omega)
        have e1 := hcell 1 (by omega)
        have e2 := hcell 2 (by omega)
        rw [add_add] at e0 e1 e2
        have c1 : Tryz.prog.cellsOf 3 = 1 := by kernel_rfl
        have c2 : Tryz.prog.cellsOf 9 = 1 := by kernel_rfl
        have c3 : Tryz.prog.cellsOf 221 = 1 := by kernel_rfl
        simp [c1, c2, c3] at g0 g1 g2
        obtain ⟨x0, f0, _, _⟩ := DataW.trod_int Tryz.underlying3 g0
        obtain ⟨x1, f1, _, w1⟩ := DataW.trod_string Tryz.underlying9 g1
        obtain ⟨x2, f2, _, w2⟩ := DataW.trod_int Tryz.underlying221 g2
        simp at f0 f1 f2
        subst f0 f1 f2
        obtain ⟨u2, rfl, hu2⟩ := u32_nat w2
        exact ⟨⟨x0, x1, u2⟩, ⟨by simpa using e0, by simpa using e1, by simpa using e2⟩, w1, hu2⟩
    have hin : Inhabited Rc := ⟨⟨0, ByteArray.empty, 0⟩⟩
    obtain ⟨q, hq⟩ := choose_lt each
    by_cases h0 : n = 0
    · subst h0
      exact ⟨_, _, _, [], rfl, .inl ⟨_, _, rfl, rfl⟩, rfl, Nat.zero_le _, fun r hr => by cases hr⟩
    · obtain ⟨b, off, spot⟩ := x
      have hs : spot = none := by simpa [Addr.add] using World.cell?_spot (hq 0 (by omega)).1.1
      subst hs
      have hlt : b < W.heap.size := by
        have := (hq 0 (by omega)).1.1
        rw [Addr.add_lit] at this
        by_cases hb : b < W.heap.size
        · exact hb
        · simp only [World.cell?] at this
          rw [Array.getElem?_eq_none (by omega)] at this
          cases this
      refine ⟨_, _, _, (List.range n).map q, rfl, .inr ⟨b, off, c, by simp, hlt, by simpa using hl, fun k hk => ?_⟩, by simp, by omega, ?_⟩
      · have hk' : k < n := by simpa using hk
        have := (hq k hk').1
        simp only [Addr.add_lit, ← Nat.add_assoc] at this
        simpa [RcAt] using this
      · intro r hr
        obtain ⟨i, hi, rfl⟩ := List.mem_map.1 hr
        exact (hq i (List.mem_range.1 hi)).2

/-- A list of records that comes in, as an argument. -/
theorem openRcS {H : Type} {enc : TypeId × Value → H} {W : World} {a : Option Addr} {n c : Nat} {d : DataW H} {p : List MemPlace} (h : DataW.Trod enc Tryz.prog W 0 (fun _ => true) true 148 (.slice a n c) d p) :
    ∃ ks : List Rc, RcS W (.slice a n c) ks ∧ ks.length = n ∧ n ≤ maxLen ∧ ∀ k ∈ ks, k.fits := by
  obtain ⟨fuel, hf⟩ := h
  obtain ⟨a', n', c', ks, he, h1, h2, h3, h4⟩ := openRcR (c0 := .slice a n c) (by simpa [Value.cells] using hf)
  cases he
  exact ⟨ks, h1, h2, h3, h4⟩

def rczTo (ks : List Rc) (n : Nat) : Nat := ((ks.take n).map (fun k => k.note.size)).sum
def rczAll (ks : List Rc) : Nat := ks.length + rczTo ks ks.length
theorem rczTo_zero (ks : List Rc) : rczTo ks 0 = 0 := by simp [rczTo]
theorem rczTo_succ {ks : List Rc} {n : Nat} (h : n < ks.length) : rczTo ks (n + 1) = rczTo ks n + ks[n].note.size := by
  unfold rczTo
  rw [List.take_succ_eq_append_getElem h, List.map_append, List.sum_append]
  simp
theorem rczTo_le (ks : List Rc) (n : Nat) : rczTo ks n ≤ rczTo ks ks.length := by
  unfold rczTo
  rw [List.take_length]
  conv => rhs; rw [← List.take_append_drop n ks, List.map_append, List.sum_append]
  omega
theorem rcz_mem {ks : List Rc} {k : Rc} (h : k ∈ ks) : k.note.size ≤ rczTo ks ks.length := by
  unfold rczTo
  rw [List.take_length]
  exact sum_mem (List.mem_map.2 ⟨k, h, rfl⟩)
def leftRc (n : Int) (ks : List Rc) : Int := if (rczAll ks : Int) ≤ n then n - rczAll ks else -1

set_option maxHeartbeats 1000000 in
theorem szRecord_any (k : Rc) (n : Int) (w : World) (h0 : 0 ≤ n) (h1 : n ≤ 1048576) (ha : k.note.size ≤ maxLen) :
    Calls Tryz.prog 157 #[k.val, .int .i64 n] w fun e w' => e = .returned (.int .i64 (left1 n k.note.size)) ∧ Below w.heap.size w w' := by
  unfold maxLen at ha
  by_cases c1 : n < k.note.size
  · have HR := hid (show left1 n k.note.size = -1 from if_neg (by omega))
    go_enter Tryz.func157, Tryz.ntmps157
    go_wp2
    go_ret
    exact ⟨ret_int HR.out.symm, (Below.refl _ w).alloc (Nat.le_refl _) _⟩
  · have HR := hid (show left1 n k.note.size = n - k.note.size from if_pos (by omega))
    go_enter Tryz.func157, Tryz.ntmps157
    go_wp2
    go_ret
    exact ⟨ret_int HR.out.symm, (Below.refl _ w).alloc (Nat.le_refl _) _⟩

set_option maxHeartbeats 1000000 in
theorem szRecordS_any (v : Value) (rs : List Rc) (n : Int) (w : World) (h0 : 0 ≤ n) (h1 : n ≤ 1048576) (hm : rs.length ≤ maxLen) (hf : ∀ r ∈ rs, r.fits) (hr : RcS w v rs) :
    Calls Tryz.prog 123 #[v, .int .i64 n] w fun e w' => e = .returned (.int .i64 (leftRc n rs)) ∧ Below w.heap.size w w' := by
  obtain ⟨a, cap, rfl⟩ := hr.len
  unfold maxLen at hm
  by_cases c0 : n < rs.length
  · have HR := hid (show leftRc n rs = -1 from if_neg (by unfold rczAll; omega))
    go_enter Tryz.func123, Tryz.ntmps123
    go_wp2
    go_ret
    exact ⟨ret_int HR.out.symm, Below.refl _ _⟩
  · have d0 : decide (n - (rs.length : Int) < 0) = false := by simp; omega
    go_enter Tryz.func123, Tryz.ntmps123
    go_wp2
    go_loopw [1, 5] (fun m i wr => ∃ k : Nat, k ≤ rs.length ∧ i = .int .i64 k ∧ m = .int .i64 (n - rs.length - rczTo rs k) ∧ 0 ≤ n - rs.length - rczTo rs k ∧ Below w.heap.size w wr) (fun _ i _ => rs.length - (intOf i).toNat)
    case atStart => exact ⟨0, Nat.zero_le _, rfl, by rw [rczTo_zero]; go_num, by rw [rczTo_zero]; omega, Below.refl _ _⟩
    case round =>
      obtain ⟨k, hk, rfl, rfl, hp, hB⟩ := hrel
      by_cases hlt : k < rs.length
      · obtain ⟨b, off, rfl, hb, hcap, q0, q1, q2⟩ := (hr.below hB).at hlt
        have f1 := (hf rs[k] (List.getElem_mem hlt)).1
        have HS := hid (rczTo_succ hlt)
        have HT := hid (rczTo_le rs (k + 1))
        generalize rs[k] = r at *
        go_wp2_with fail
        refine (szRecord_any r _ _ hp (by omega) f1).mono ?_
        rintro e w1 ⟨rfl, hB1⟩
        have hB2 := below_one hB hB1
        by_cases c1 : (r.note.size : Int) ≤ n - rs.length - rczTo rs k
        · have hv : left1 (n - rs.length - rczTo rs k) r.note.size = n - rs.length - rczTo rs (k + 1) := by
            rw [HS.out]
            unfold left1
            rw [if_pos (by omega)]
            omega
          have hq : 0 ≤ n - rs.length - rczTo rs (k + 1) := by rw [HS.out]; omega
          rw [hv]
          have d1 : decide (n - (rs.length : Int) - (rczTo rs (k + 1) : Int) < 0) = false := by simp; omega
          clear hv hB1 q0 q1 q2
          go_wp2_with fail
          go_roundw
          case rel => exact ⟨k + 1, by omega, by go_num, rfl, hq, hB2⟩
          case measure => simp [intOf]; omega
        · have hv : left1 (n - rs.length - rczTo rs k) r.note.size = -1 := if_neg (by omega)
          have HR := hid (show leftRc n rs = -1 from if_neg (by have := HT.out; rw [HS.out] at this; unfold rczAll; omega))
          rw [hv]
          clear hv hB1 q0 q1 q2
          go_wp2_with fail
          go_ret
          exact ⟨ret_int HR.out.symm, hB2⟩
      · obtain rfl : k = rs.length := by omega
        have HR := hid (show leftRc n rs = n - rs.length - rczTo rs rs.length by unfold leftRc rczAll; rw [if_pos (by omega)]; omega)
        go_wp2
        go_ret
        exact ⟨ret_int HR.out.symm, hB⟩

abbrev Rc.cells (k : Rc) : List Value := [.int .i64 k.num, .string k.note, .int .u32 (k.su : Int)]
theorem rcflat_len (ks : List Rc) : (ks.flatMap Rc.cells).length = ks.length * 3 := by
  induction ks with
  | nil => rfl
  | cons r rs ih => rw [List.flatMap_cons, List.length_append, ih]; simp; omega
theorem rcflat_at (rs : List Rc) : ∀ (k j : Nat) (h : k < rs.length), j < 3 → (rs.flatMap Rc.cells)[k * 3 + j]? = rs[k].cells[j]? := by
  induction rs with
  | nil => intro k j h; simp at h
  | cons r rs ih =>
    intro k j h hj
    rw [List.flatMap_cons]
    cases k with
    | zero => rw [List.getElem?_append_left (by simp; omega)]; simp
    | succ k =>
      rw [List.getElem?_append_right (by simp; omega)]
      have := ih k j (by simpa using h) hj
      rw [show (k + 1) * 3 + j - r.cells.length = k * 3 + j by simp; omega]
      simpa using this
/-- A slice of records of one's own reads as its list. -/
theorem RcS.own {w : World} {base : Nat} {v : Value} {rs : List Rc} (h : w.ownsRow base 224 3 v rs.length (rs.flatMap Rc.cells)) : RcS w v rs := by
  rcases h.2 with ⟨rfl, h0⟩ | ⟨g, cap, cur, rfl, hg, hb, hle, _⟩
  · exact .inl ⟨none, 0, rfl, List.eq_nil_of_length_eq_zero h0⟩
  · refine .inr ⟨g, 0, cap, rfl, (Array.getElem?_eq_some_iff.1 hb).1, hle, fun k hk => ?_⟩
    have hc : ∀ j, j < 3 → w.cell? ⟨g, k * 3 + j, none⟩ = rs[k].cells[j]? := fun j hj => by rw [h.cellAt (k * 3 + j) (by omega), rcflat_at rs k j hk hj]
    have h0 := hc 0 (by omega)
    have h1 := hc 1 (by omega)
    have h2 := hc 2 (by omega)
    simp only [Nat.add_zero, List.getElem?_cons_zero, List.getElem?_cons_succ] at h0 h1 h2
    exact ⟨by rw [Nat.zero_add]; exact h0, by rw [Nat.zero_add]; exact h1, by rw [Nat.zero_add]; exact h2⟩
theorem infoRecord : (Tryz.prog.info? 224).map (fun i => (i.zero, i.size, i.bytes)) = some (some (.agg #[.int .i64 0, .string ByteArray.empty, .int .u32 0]), 3, 32) := by kernel_rfl

set_option maxHeartbeats 1000000 in
theorem toRecord_any (k : Rc) (w : World) :
    Calls Tryz.prog 158 #[k.val] w fun e w' => e = .returned k.val ∧ Below w.heap.size w w' := by
  go_enter Tryz.func158, Tryz.ntmps158
  go_wp2
  exact bodyPost_ret (v := k.val) (by simp [results, Tryz.results158, go_sem]) rfl ⟨rfl, (((Below.refl _ w).alloc (Nat.le_refl _) _).alloc (by simp) _).alloc (by simp; omega) _⟩

set_option maxHeartbeats 2000000 in
theorem toRecordS_any (v : Value) (rs : List Rc) (w : World) (hm : rs.length ≤ 1048576) (hr : RcS w v rs) :
    Calls Tryz.prog 126 #[v] w fun e w' => ∃ v', e = .returned v' ∧ w'.ownsRow w.heap.size 224 3 v' rs.length (rs.flatMap Rc.cells) ∧ Below w.heap.size w w' := by
  obtain ⟨a, cap, rfl⟩ := hr.len
  obtain ⟨i0, hi, hz0, hz1, hz2⟩ := info_parts infoRecord
  go_enter Tryz.func126, Tryz.ntmps126
  go_wp2_with (at_make; refine wpList_make_full _ rfl _ _ 153 rfl w.heap.size 224 i0 _ 3 Tryz.underlying153 hi hz0 hz1 _ _ _ _ rs.length rfl rfl rfl rfl (by rw [hz2]; omega) (by unfold maxLen; omega) (Nat.le_refl _) ?_; intro w1 hown hgrow)
  have hB1 : Below w.heap.size w w1 := (Below.refl _ w).grown hgrow (Nat.le_refl _) (fun k e => by cases e)
  go_loopw [4] (fun i wr => ∃ k : Nat, k ≤ rs.length ∧ i = .int .i64 k ∧ ∃ xs, wr.ownsRow w.heap.size 224 3 (.slice (some ⟨w.heap.size, 0, none⟩) rs.length rs.length) rs.length xs ∧ xs.take (k * 3) = (rs.take k).flatMap Rc.cells ∧ Below w.heap.size w wr) (fun i _ => rs.length - (intOf i).toNat)
  case atStart => exact ⟨0, Nat.zero_le _, rfl, _, hown, by simp, hB1⟩
  case round =>
    obtain ⟨k, hk, rfl, xs, hrow, hx, hB⟩ := hrel
    have HX := hid hx
    clear hx
    by_cases hlt : k < rs.length
    · obtain ⟨b, off, rfl, hb, hcap, q0, q1, q2⟩ := (hr.below hB).at hlt
      have HT := hid (List.take_succ_eq_append_getElem hlt)
      generalize rs[k] = r at *
      go_wp2_with fail
      refine (toRecord_any r _).mono ?_
      rintro e w2 ⟨rfl, hB2⟩
      have hrow2 := ownsRow_below hrow hB2
      have hB3 := below_one hB hB2
      have hlen : xs.length = rs.length * 3 := hrow2.1
      have s0 := hrow2.cellAt (k * 3) (by omega)
      have s1 := hrow2.cellAt (k * 3 + 1) (by omega)
      have s2 := hrow2.cellAt (k * 3 + 2) (by omega)
      rw [List.getElem?_eq_getElem (by omega)] at s0 s1 s2
      have t0 := hrow2.frozenAt (k * 3)
      have t1 := hrow2.frozenAt (k * 3 + 1)
      have t2 := hrow2.frozenAt (k * 3 + 2)
      generalize xs[k * 3] = y0 at *
      generalize xs[k * 3 + 1] = y1 at *
      generalize xs[k * 3 + 2] = y2 at *
      clear q0 q1 q2 hB2
      go_wp2_with fail
      go_roundw
      case rel =>
        refine ⟨k + 1, by omega, by go_num, _, ((hrow2.stored (k * 3) (.int .i64 r.num)).1.stored (k * 3 + 1) (.string r.note)).1.stored (k * 3 + 2) (.int .u32 (r.su : Int)) |>.1, ?_, ((hB3.setCell (p := ⟨w.heap.size, _, none⟩) (Nat.le_refl _) _).setCell (p := ⟨w.heap.size, _, none⟩) (Nat.le_refl _) _).setCell (p := ⟨w.heap.size, _, none⟩) (Nat.le_refl _) _⟩
        rw [take_set3 _ _ _ _ _ (by omega), HX.out, HT.out, List.flatMap_append]
        simp
      case measure => simp [intOf]; omega
    · obtain rfl : k = rs.length := by omega
      have HF := hid (show xs = rs.flatMap Rc.cells by have := HX.out; rw [List.take_of_length_le (by have := hrow.1; omega), List.take_length] at this; exact this)
      go_wp2
      go_ret
      exact ⟨_, rfl, by rw [← HF.out]; exact hrow, hB⟩

end Go.Proofs.YtnbojbcljfiamaaGreatDoor

namespace Go.Proofs.YtnbojbcljfiamaaGreatDoor
open Go.RowKit Go.Shelf

set_option maxHeartbeats 1000000 in
theorem eqRecord_same (r : Rc) (w : World) :
    Calls Tryz.prog 159 #[r.val, r.val] w fun e w' => e = .returned (.bool true) ∧ Below w.heap.size w w' := by
  have e0 : (r.num != r.num) = false := by simp
  have e1 : (r.note.toList == r.note.toList) = true := by simp
  have e2 : ((r.su : Int) != (r.su : Int)) = false := by simp
  go_enter Tryz.func159, Tryz.ntmps159
  go_wp2
  go_ret
  exact ⟨rfl, ((Below.refl _ w).alloc (Nat.le_refl _) _).alloc (by simp) _⟩

set_option maxHeartbeats 2000000 in
/-- A list of records is like itself, wherever the two lie. -/
theorem eqRecordS_same (v v' : Value) (ks : List Rc) (w : World) (hn : ks.length ≤ 1048577) (hr : RcS w v ks) (hr' : RcS w v' ks) :
    Calls Tryz.prog 129 #[v, v'] w fun e w' => e = .returned (.bool true) ∧ Below w.heap.size w w' := by
  obtain ⟨a, cap, rfl⟩ := hr.len
  obtain ⟨a', cap', rfl⟩ := hr'.len
  have e0 : ((ks.length : Int) != (ks.length : Int)) = false := by simp
  go_enter Tryz.func129, Tryz.ntmps129
  go_wp2
  go_loopw [5] (fun i wr => ∃ j : Nat, j ≤ ks.length ∧ i = .int .i64 j ∧ Below w.heap.size w wr) (fun i _ => ks.length - (intOf i).toNat)
  case atStart => exact ⟨0, Nat.zero_le _, rfl, Below.refl _ _⟩
  case round =>
    obtain ⟨j, hj, rfl, hB⟩ := hrel
    by_cases hlt : j < ks.length
    · obtain ⟨b, off, rfl, hb, hcap, q0, q1, q2⟩ := (hr.below hB).at hlt
      obtain ⟨b', off', rfl, hb', hcap', p0, p1, p2⟩ := (hr'.below hB).at hlt
      generalize ks[j] = r at *
      go_wp2_with fail
      go_region_with (go_at_call 159; refine (eqRecord_same r _).mono ?_; rintro e w1 ⟨rfl, hB1⟩)
      all_goals go_wp2
      all_goals go_roundw
      all_goals first
        | exact ⟨j + 1, by omega, by go_num, below_one hB (below_drew1 hB1)⟩
        | (simp [intOf]; omega)
    · obtain rfl : j = ks.length := by omega
      go_wp2
      go_ret
      exact ⟨rfl, hB⟩

end Go.Proofs.YtnbojbcljfiamaaGreatDoor

namespace Go.Proofs.YtnbojbcljfiamaaGreatDoor
open Go.RowKit Go.Shelf

abbrev Lk.val (k : Lk) : Value := .agg #[.string k.who, .string k.to, .int .i64 k.se, .int .i64 k.fr, .int .i64 k.un]
/-- Its texts are no longer than a text may be. -/
def Lk.fits (k : Lk) : Prop := k.who.size ≤ maxLen ∧ k.to.size ≤ maxLen
/-- A link lies in memory. -/
def LkAt (w : World) (b o : Nat) (k : Lk) : Prop := w.cell? ⟨b, o, none⟩ = some (.string k.who) ∧ w.cell? ⟨b, o + 1, none⟩ = some (.string k.to) ∧ w.cell? ⟨b, o + 2, none⟩ = some (.int .i64 k.se) ∧ w.cell? ⟨b, o + 3, none⟩ = some (.int .i64 k.fr) ∧ w.cell? ⟨b, o + 4, none⟩ = some (.int .i64 k.un)
/-- A slice reads as this list of links. -/
def LkS (w : World) (v : Value) (ks : List Lk) : Prop :=
  (∃ a cap, v = .slice a 0 cap ∧ ks = []) ∨
  ∃ b off cap, v = .slice (some ⟨b, off, none⟩) ks.length cap ∧ b < w.heap.size ∧ ks.length ≤ cap ∧ ∀ i (h : i < ks.length), LkAt w b (off + i * 5) ks[i]
theorem LkAt.below {w w' : World} {b o : Nat} {k : Lk} (h : LkAt w b o k) (hb : b < w.heap.size) (hB : Below w.heap.size w w') : LkAt w' b o k :=
  ⟨(hB.cell (p := ⟨b, o, none⟩) hb).trans h.1, (hB.cell (p := ⟨b, o + 1, none⟩) hb).trans h.2.1, (hB.cell (p := ⟨b, o + 2, none⟩) hb).trans h.2.2.1, (hB.cell (p := ⟨b, o + 3, none⟩) hb).trans h.2.2.2.1, (hB.cell (p := ⟨b, o + 4, none⟩) hb).trans h.2.2.2.2⟩
theorem LkS.below {w w' : World} {v : Value} {ks : List Lk} (h : LkS w v ks) (hB : Below w.heap.size w w') : LkS w' v ks := by
  rcases h with h | ⟨b, off, cap, hv, hb, hl, hc⟩
  · exact .inl h
  · exact .inr ⟨b, off, cap, hv, Nat.lt_of_lt_of_le hb hB.size, hl, fun k hk => (hc k hk).below hb hB⟩
theorem LkS.len {w : World} {v : Value} {ks : List Lk} (h : LkS w v ks) : ∃ a cap, v = .slice a ks.length cap := by
  rcases h with ⟨a, cap, hv, rfl⟩ | ⟨b, off, cap, hv, _⟩
  · exact ⟨a, cap, hv⟩
  · exact ⟨_, cap, hv⟩
theorem LkS.at {w : World} {a : Option Addr} {n cap : Nat} {ks : List Lk} (h : LkS w (.slice a n cap) ks) {i : Nat} (hi : i < ks.length) : ∃ b off, a = some ⟨b, off, none⟩ ∧ b < w.heap.size ∧ n ≤ cap ∧ LkAt w b (off + i * 5) ks[i] := by
  rcases h with ⟨_, _, _, rfl⟩ | ⟨b, off, cap, hv, hb, hl, hc⟩
  · simp at hi
  · cases hv
    exact ⟨b, off, rfl, hb, hl, hc i hi⟩
/-- The first ones of a list. -/
theorem LkS.take {w : World} {b off n cap : Nat} {ks : List Lk} (h : LkS w (.slice (some ⟨b, off, none⟩) n cap) ks) (m c : Nat) (hm : m ≤ ks.length) (hc : m ≤ c) : LkS w (.slice (some ⟨b, off, none⟩) m c) (ks.take m) := by
  rcases h with ⟨_, _, hv, rfl⟩ | ⟨b', off', cap', hv, hb, hl, hat⟩
  · exact .inl ⟨_, _, by simp at hm; subst hm; rfl, by simp⟩
  · cases hv
    refine .inr ⟨b, off, c, by rw [List.length_take, Nat.min_eq_left hm], hb, by rw [List.length_take]; omega, fun i hi => ?_⟩
    rw [List.length_take] at hi
    rw [List.getElem_take]
    exact hat i (by omega)

set_option maxRecDepth 100000 in
theorem cellsLink : Tryz.prog.cellsOf 119 = 5 := by kernel_rfl
set_option maxRecDepth 100000 in
open Go.Deep Go.ChangeShapes Go.WideShapes Go.Joins in
/-- A list of links that comes in. -/
theorem openLkS {H : Type} {enc : TypeId × Value → H} {W : World} {a : Option Addr} {n c : Nat} {d : DataW H} {p : List MemPlace} (h : DataW.Trod enc Tryz.prog W 0 (fun _ => true) true 29 (.slice a n c) d p) :
    ∃ ks : List Lk, LkS W (.slice a n c) ks ∧ ks.length = n ∧ n ≤ maxLen ∧ ∀ k ∈ ks, k.fits := by
  obtain ⟨fuel, hf⟩ := h
  rcases open_slice Tryz.underlying29 hf with ⟨hcs, _⟩ | ⟨x, len, cap, m, k, D, Pl, hcs, _, hl, hm, hmm, _, hx⟩
  · simp [Value.cells] at hcs
    obtain ⟨rfl, rfl, rfl⟩ := hcs
    exact ⟨[], .inl ⟨_, _, rfl, rfl⟩, rfl, Nat.zero_le _, fun r hr => by cases hr⟩
  · simp [Value.cells] at hcs
    obtain ⟨rfl, rfl, rfl⟩ := hcs
    have hlm : n ≤ m := by rw [hmm]; simpa using hl
    have each : ∀ i, i < n → ∃ r : Lk, (W.cell? (x.add (i * 5)) = some (.string r.who) ∧ W.cell? (x.add (i * 5 + 1)) = some (.string r.to) ∧ W.cell? (x.add (i * 5 + 2)) = some (.int .i64 r.se) ∧ W.cell? (x.add (i * 5 + 3)) = some (.int .i64 r.fr) ∧ W.cell? (x.add (i * 5 + 4)) = some (.int .i64 r.un)) ∧ r.fits := by
      intro i hi
      obtain ⟨cs', h1, h2⟩ := hx i (by omega)
      rw [cellsLink] at h1
      obtain ⟨_, hlen, hcell⟩ := World.cells?_some h1
      obtain ⟨xs, m', _, _, _, hxl, hfl⟩ := DataW.trod_struct Tryz.underlying119 h2
      match cs', hlen, xs, hxl with
      | [v0, v1, v2, v3, v4], _, [y0, y1, y2, y3, y4], _ =>
        have g0 := hfl 0 _ rfl
        have g1 := hfl 1 _ rfl
        have g2 := hfl 2 _ rfl
        have g3 := hfl 3 _ rfl
        have g4 := hfl 4 _ rfl
        have e0 := hcell 0 (by omega)
        have e1 := hcell 1 (by omega)
        have e2 := hcell 2 (by omega)
        have e3 := hcell 3 (by omega)
        have e4 := hcell 4 (by omega)
        rw [add_add] at e0 e1 e2 e3 e4
        have c1 : Tryz.prog.cellsOf 3 = 1 := by kernel_rfl
        have c2 : Tryz.prog.cellsOf 9 = 1 := by kernel_rfl
        simp [c1, c2] at g0 g1 g2 g3 g4
        obtain ⟨x0, f0, _, w0⟩ := DataW.trod_string Tryz.underlying9 g0
        obtain ⟨x1, f1, _, w1⟩ := DataW.trod_string Tryz.underlying9 g1
        obtain ⟨x2, f2, _, _⟩ := DataW.trod_int Tryz.underlying3 g2
        obtain ⟨x3, f3, _, _⟩ := DataW.trod_int Tryz.underlying3 g3
        obtain ⟨x4, f4, _, _⟩ := DataW.trod_int Tryz.underlying3 g4
        simp at f0 f1 f2 f3 f4
        subst f0 f1 f2 f3 f4
        exact ⟨⟨x0, x1, x2, x3, x4⟩, ⟨by simpa using e0, by simpa using e1, by simpa using e2, by simpa using e3, by simpa using e4⟩, w0, w1⟩
    have hin : Inhabited Lk := ⟨⟨ByteArray.empty, ByteArray.empty, 0, 0, 0⟩⟩
    obtain ⟨q, hq⟩ := choose_lt each
    by_cases h0 : n = 0
    · subst h0
      exact ⟨[], .inl ⟨_, _, rfl, rfl⟩, rfl, Nat.zero_le _, fun r hr => by cases hr⟩
    · obtain ⟨b, off, spot⟩ := x
      have hs : spot = none := by simpa [Addr.add] using World.cell?_spot (hq 0 (by omega)).1.1
      subst hs
      have hlt : b < W.heap.size := by
        have := (hq 0 (by omega)).1.1
        rw [Addr.add_lit] at this
        by_cases hb : b < W.heap.size
        · exact hb
        · simp only [World.cell?] at this
          rw [Array.getElem?_eq_none (by omega)] at this
          cases this
      refine ⟨(List.range n).map q, .inr ⟨b, off, c, by simp, hlt, by simpa using hl, fun k hk => ?_⟩, by simp, by omega, ?_⟩
      · have hk' : k < n := by simpa using hk
        have := (hq k hk').1
        simp only [Addr.add_lit, ← Nat.add_assoc] at this
        simpa [LkAt] using this
      · intro r hr
        obtain ⟨i, hi, rfl⟩ := List.mem_map.1 hr
        exact (hq i (List.mem_range.1 hi)).2

def lzTo (ks : List Lk) (n : Nat) : Nat := ((ks.take n).map Lk.size).sum
def lzAll (ks : List Lk) : Nat := ks.length + lzTo ks ks.length
theorem lzTo_zero (ks : List Lk) : lzTo ks 0 = 0 := by simp [lzTo]
theorem lzTo_succ {ks : List Lk} {n : Nat} (h : n < ks.length) : lzTo ks (n + 1) = lzTo ks n + ks[n].size := by
  unfold lzTo
  rw [List.take_succ_eq_append_getElem h, List.map_append, List.sum_append]
  simp
theorem lzTo_le (ks : List Lk) (n : Nat) : lzTo ks n ≤ lzTo ks ks.length := by
  unfold lzTo
  rw [List.take_length]
  conv => rhs; rw [← List.take_append_drop n ks, List.map_append, List.sum_append]
  omega
theorem lz_mem {ks : List Lk} {k : Lk} (h : k ∈ ks) : k.size ≤ lzTo ks ks.length := by
  unfold lzTo
  rw [List.take_length]
  exact sum_mem (List.mem_map.2 ⟨k, h, rfl⟩)
/-- What is left of a budget behind a link, and behind a list. -/
def left2 (n : Int) (a b : Nat) : Int := if (a : Int) + b ≤ n then n - a - b else -1
def leftL (n : Int) (ks : List Lk) : Int := if (lzAll ks : Int) ≤ n then n - lzAll ks else -1

set_option maxHeartbeats 1000000 in
theorem szLink_any (k : Lk) (n : Int) (w : World) (h0 : 0 ≤ n) (h1 : n ≤ 1048576) (ha : k.who.size ≤ maxLen) (hb : k.to.size ≤ maxLen) :
    Calls Tryz.prog 61 #[k.val, .int .i64 n] w fun e w' => e = .returned (.int .i64 (left2 n k.who.size k.to.size)) ∧ Below w.heap.size w w' := by
  unfold maxLen at ha hb
  by_cases c1 : n < k.who.size
  · have HR := hid (show left2 n k.who.size k.to.size = -1 from if_neg (by omega))
    go_enter Tryz.func61, Tryz.ntmps61
    go_wp2
    go_ret
    exact ⟨ret_int HR.out.symm, (Below.refl _ w).alloc (Nat.le_refl _) _⟩
  · by_cases c2 : n - k.who.size < k.to.size
    · have HR := hid (show left2 n k.who.size k.to.size = -1 from if_neg (by omega))
      go_enter Tryz.func61, Tryz.ntmps61
      go_wp2
      go_ret
      exact ⟨ret_int HR.out.symm, (Below.refl _ w).alloc (Nat.le_refl _) _⟩
    · have HR := hid (show left2 n k.who.size k.to.size = n - k.who.size - k.to.size from if_pos (by omega))
      go_enter Tryz.func61, Tryz.ntmps61
      go_wp2
      go_ret
      exact ⟨ret_int HR.out.symm, (Below.refl _ w).alloc (Nat.le_refl _) _⟩

set_option maxHeartbeats 1000000 in
theorem szLinkS_any (v : Value) (rs : List Lk) (n : Int) (w : World) (h0 : 0 ≤ n) (h1 : n ≤ 1048576) (hm : rs.length ≤ maxLen) (hf : ∀ r ∈ rs, r.fits) (hr : LkS w v rs) :
    Calls Tryz.prog 28 #[v, .int .i64 n] w fun e w' => e = .returned (.int .i64 (leftL n rs)) ∧ Below w.heap.size w w' := by
  obtain ⟨a, cap, rfl⟩ := hr.len
  unfold maxLen at hm
  by_cases c0 : n < rs.length
  · have HR := hid (show leftL n rs = -1 from if_neg (by unfold lzAll; omega))
    go_enter Tryz.func28, Tryz.ntmps28
    go_wp2
    go_ret
    exact ⟨ret_int HR.out.symm, Below.refl _ _⟩
  · have d0 : decide (n - (rs.length : Int) < 0) = false := by simp; omega
    go_enter Tryz.func28, Tryz.ntmps28
    go_wp2
    go_loopw [1, 5] (fun m i wr => ∃ k : Nat, k ≤ rs.length ∧ i = .int .i64 k ∧ m = .int .i64 (n - rs.length - lzTo rs k) ∧ 0 ≤ n - rs.length - lzTo rs k ∧ Below w.heap.size w wr) (fun _ i _ => rs.length - (intOf i).toNat)
    case atStart => exact ⟨0, Nat.zero_le _, rfl, by rw [lzTo_zero]; go_num, by rw [lzTo_zero]; omega, Below.refl _ _⟩
    case round =>
      obtain ⟨k, hk, rfl, rfl, hp, hB⟩ := hrel
      by_cases hlt : k < rs.length
      · obtain ⟨b, off, rfl, hb, hcap, q0, q1, q2, q3, q4⟩ := (hr.below hB).at hlt
        obtain ⟨f1, f2⟩ := hf rs[k] (List.getElem_mem hlt)
        have HS := hid (lzTo_succ hlt)
        have HT := hid (lzTo_le rs (k + 1))
        generalize rs[k] = r at *
        go_wp2_with fail
        refine (szLink_any r _ _ hp (by omega) f1 f2).mono ?_
        rintro e w1 ⟨rfl, hB1⟩
        have hB2 := below_one hB hB1
        by_cases c1 : (r.size : Int) ≤ n - rs.length - lzTo rs k
        · have hv : left2 (n - rs.length - lzTo rs k) r.who.size r.to.size = n - rs.length - lzTo rs (k + 1) := by
            rw [HS.out]
            unfold Lk.size at *
            unfold left2
            rw [if_pos (by omega)]
            omega
          have hq : 0 ≤ n - rs.length - lzTo rs (k + 1) := by rw [HS.out]; omega
          rw [hv]
          have d1 : decide (n - (rs.length : Int) - (lzTo rs (k + 1) : Int) < 0) = false := by simp; omega
          clear hv hB1 q0 q1 q2 q3 q4
          go_wp2_with fail
          go_roundw
          case rel => exact ⟨k + 1, by omega, by go_num, rfl, hq, hB2⟩
          case measure => simp [intOf]; omega
        · have hv : left2 (n - rs.length - lzTo rs k) r.who.size r.to.size = -1 := if_neg (by unfold Lk.size at c1; omega)
          have HR := hid (show leftL n rs = -1 from if_neg (by have := HT.out; rw [HS.out] at this; unfold lzAll; omega))
          rw [hv]
          clear hv hB1 q0 q1 q2 q3 q4
          go_wp2_with fail
          go_ret
          exact ⟨ret_int HR.out.symm, hB2⟩
      · obtain rfl : k = rs.length := by omega
        have HR := hid (show leftL n rs = n - rs.length - lzTo rs rs.length by unfold leftL lzAll; rw [if_pos (by omega)]; omega)
        go_wp2
        go_ret
        exact ⟨ret_int HR.out.symm, hB⟩

abbrev Lk.cells (k : Lk) : List Value := [.string k.who, .string k.to, .int .i64 k.se, .int .i64 k.fr, .int .i64 k.un]
theorem lflat_len (ks : List Lk) : (ks.flatMap Lk.cells).length = ks.length * 5 := by
  induction ks with
  | nil => rfl
  | cons r rs ih => rw [List.flatMap_cons, List.length_append, ih]; simp; omega
theorem lflat_at (rs : List Lk) : ∀ (k j : Nat) (h : k < rs.length), j < 5 → (rs.flatMap Lk.cells)[k * 5 + j]? = rs[k].cells[j]? := by
  induction rs with
  | nil => intro k j h; simp at h
  | cons r rs ih =>
    intro k j h hj
    rw [List.flatMap_cons]
    cases k with
    | zero => rw [List.getElem?_append_left (by simp; omega)]; simp
    | succ k =>
      rw [List.getElem?_append_right (by simp; omega)]
      have := ih k j (by simpa using h) hj
      rw [show (k + 1) * 5 + j - r.cells.length = k * 5 + j by simp; omega]
      simpa using this
/-- A slice of links of one's own reads as its list. -/
theorem LkS.own {w : World} {base : Nat} {v : Value} {rs : List Lk} (h : w.ownsRow base 126 5 v rs.length (rs.flatMap Lk.cells)) : LkS w v rs := by
  rcases h.2 with ⟨rfl, h0⟩ | ⟨g, cap, cur, rfl, hg, hb, hle, _⟩
  · exact .inl ⟨none, 0, rfl, List.eq_nil_of_length_eq_zero h0⟩
  · refine .inr ⟨g, 0, cap, rfl, (Array.getElem?_eq_some_iff.1 hb).1, hle, fun k hk => ?_⟩
    have hc : ∀ j, j < 5 → w.cell? ⟨g, k * 5 + j, none⟩ = rs[k].cells[j]? := fun j hj => by rw [h.cellAt (k * 5 + j) (by omega), lflat_at rs k j hk hj]
    have h0 := hc 0 (by omega)
    have h1 := hc 1 (by omega)
    have h2 := hc 2 (by omega)
    have h3 := hc 3 (by omega)
    have h4 := hc 4 (by omega)
    simp only [Nat.add_zero, List.getElem?_cons_zero, List.getElem?_cons_succ] at h0 h1 h2 h3 h4
    exact ⟨by rw [Nat.zero_add]; exact h0, by rw [Nat.zero_add]; exact h1, by rw [Nat.zero_add]; exact h2, by rw [Nat.zero_add]; exact h3, by rw [Nat.zero_add]; exact h4⟩
theorem take_set5 {α : Type} (xs : List α) (k : Nat) (a b c d e : α) (h : k * 5 + 5 ≤ xs.length) : (((((xs.set (k * 5) a).set (k * 5 + 1) b).set (k * 5 + 2) c).set (k * 5 + 3) d).set (k * 5 + 4) e).take ((k + 1) * 5) = xs.take (k * 5) ++ [a, b, c, d, e] := by
  apply List.ext_getElem?
  intro i
  rw [List.getElem?_take]
  by_cases h1 : i < k * 5
  · rw [if_pos (by omega), List.getElem?_append_left (by rw [List.length_take]; omega), List.getElem?_take, if_pos h1]
    rw [List.getElem?_set_ne (by omega), List.getElem?_set_ne (by omega), List.getElem?_set_ne (by omega), List.getElem?_set_ne (by omega), List.getElem?_set_ne (by omega)]
  · by_cases h2 : i < (k + 1) * 5
    · rw [if_pos h2, List.getElem?_append_right (by rw [List.length_take]; omega)]
      have hl : (xs.take (k * 5)).length = k * 5 := by rw [List.length_take]; omega
      rw [hl]
      obtain h | h | h | h | h : i = k * 5 ∨ i = k * 5 + 1 ∨ i = k * 5 + 2 ∨ i = k * 5 + 3 ∨ i = k * 5 + 4 := by omega
      all_goals subst h
      · rw [List.getElem?_set_ne (by omega), List.getElem?_set_ne (by omega), List.getElem?_set_ne (by omega), List.getElem?_set_ne (by omega), List.getElem?_set_self (by omega)]
        simp
      · rw [List.getElem?_set_ne (by omega), List.getElem?_set_ne (by omega), List.getElem?_set_ne (by omega), List.getElem?_set_self (by simp; omega)]
        simp
      · rw [List.getElem?_set_ne (by omega), List.getElem?_set_ne (by omega), List.getElem?_set_self (by simp; omega)]
        simp
      · rw [List.getElem?_set_ne (by omega), List.getElem?_set_self (by simp; omega)]
        simp
      · rw [List.getElem?_set_self (by simp; omega)]
        simp
    · rw [if_neg h2, List.getElem?_eq_none (by rw [List.length_append, List.length_take]; simp; omega)]
theorem infoLink : (Tryz.prog.info? 126).map (fun i => (i.zero, i.size, i.bytes)) = some (some (.agg #[.string ByteArray.empty, .string ByteArray.empty, .int .i64 0, .int .i64 0, .int .i64 0]), 5, 56) := by kernel_rfl

set_option maxHeartbeats 1000000 in
theorem toLink_any (k : Lk) (w : World) :
    Calls Tryz.prog 72 #[k.val] w fun e w' => e = .returned k.val ∧ Below w.heap.size w w' := by
  go_enter Tryz.func72, Tryz.ntmps72
  go_wp2
  exact bodyPost_ret (v := k.val) (by simp [results, Tryz.results72, go_sem]) rfl ⟨rfl, (((Below.refl _ w).alloc (Nat.le_refl _) _).alloc (by simp) _).alloc (by simp; omega) _⟩

set_option maxHeartbeats 2000000 in
theorem toLinkS_any (v : Value) (rs : List Lk) (w : World) (hm : rs.length ≤ 1048576) (hr : LkS w v rs) :
    Calls Tryz.prog 36 #[v] w fun e w' => ∃ v', e = .returned v' ∧ w'.ownsRow w.heap.size 126 5 v' rs.length (rs.flatMap Lk.cells) ∧ Below w.heap.size w w' := by
  obtain ⟨a, cap, rfl⟩ := hr.len
  obtain ⟨i0, hi, hz0, hz1, hz2⟩ := info_parts infoLink
  go_enter Tryz.func36, Tryz.ntmps36
  go_wp2_with (at_make; refine wpList_make_full _ rfl _ _ 44 rfl w.heap.size 126 i0 _ 5 Tryz.underlying44 hi hz0 hz1 _ _ _ _ rs.length rfl rfl rfl rfl (by rw [hz2]; omega) (by unfold maxLen; omega) (Nat.le_refl _) ?_; intro w1 hown hgrow)
  have hB1 : Below w.heap.size w w1 := (Below.refl _ w).grown hgrow (Nat.le_refl _) (fun k e => by cases e)
  go_loopw [4] (fun i wr => ∃ k : Nat, k ≤ rs.length ∧ i = .int .i64 k ∧ ∃ xs, wr.ownsRow w.heap.size 126 5 (.slice (some ⟨w.heap.size, 0, none⟩) rs.length rs.length) rs.length xs ∧ xs.take (k * 5) = (rs.take k).flatMap Lk.cells ∧ Below w.heap.size w wr) (fun i _ => rs.length - (intOf i).toNat)
  case atStart => exact ⟨0, Nat.zero_le _, rfl, _, hown, by simp, hB1⟩
  case round =>
    obtain ⟨k, hk, rfl, xs, hrow, hx, hB⟩ := hrel
    have HX := hid hx
    clear hx
    by_cases hlt : k < rs.length
    · obtain ⟨b, off, rfl, hb, hcap, q0, q1, q2, q3, q4⟩ := (hr.below hB).at hlt
      have HT := hid (List.take_succ_eq_append_getElem hlt)
      generalize rs[k] = r at *
      go_wp2_with fail
      refine (toLink_any r _).mono ?_
      rintro e w2 ⟨rfl, hB2⟩
      have hrow2 := ownsRow_below hrow hB2
      have hB3 := below_one hB hB2
      have hlen : xs.length = rs.length * 5 := hrow2.1
      have s0 := hrow2.cellAt (k * 5) (by omega)
      have s1 := hrow2.cellAt (k * 5 + 1) (by omega)
      have s2 := hrow2.cellAt (k * 5 + 2) (by omega)
      have s3 := hrow2.cellAt (k * 5 + 3) (by omega)
      have s4 := hrow2.cellAt (k * 5 + 4) (by omega)
      rw [List.getElem?_eq_getElem (by omega)] at s0 s1 s2 s3 s4
      have t0 := hrow2.frozenAt (k * 5)
      have t1 := hrow2.frozenAt (k * 5 + 1)
      have t2 := hrow2.frozenAt (k * 5 + 2)
      have t3 := hrow2.frozenAt (k * 5 + 3)
      have t4 := hrow2.frozenAt (k * 5 + 4)
      generalize xs[k * 5] = y0 at *
      generalize xs[k * 5 + 1] = y1 at *
      generalize xs[k * 5 + 2] = y2 at *
      generalize xs[k * 5 + 3] = y3 at *
      generalize xs[k * 5 + 4] = y4 at *
      clear q0 q1 q2 q3 q4 hB2
      go_wp2_with fail
      go_roundw
      case rel =>
        refine ⟨k + 1, by omega, by go_num, _, ((((hrow2.stored (k * 5) (.string r.who)).1.stored (k * 5 + 1) (.string r.to)).1.stored (k * 5 + 2) (.int .i64 r.se)).1.stored (k * 5 + 3) (.int .i64 r.fr)).1.stored (k * 5 + 4) (.int .i64 r.un) |>.1, ?_, ((((hB3.setCell (p := ⟨w.heap.size, _, none⟩) (Nat.le_refl _) _).setCell (p := ⟨w.heap.size, _, none⟩) (Nat.le_refl _) _).setCell (p := ⟨w.heap.size, _, none⟩) (Nat.le_refl _) _).setCell (p := ⟨w.heap.size, _, none⟩) (Nat.le_refl _) _).setCell (p := ⟨w.heap.size, _, none⟩) (Nat.le_refl _) _⟩
        rw [take_set5 _ _ _ _ _ _ _ (by omega), HX.out, HT.out, List.flatMap_append]
        simp
      case measure => simp [intOf]; omega
    · obtain rfl : k = rs.length := by omega
      have HF := hid (show xs = rs.flatMap Lk.cells by have := HX.out; rw [List.take_of_length_le (by have := hrow.1; omega), List.take_length] at this; exact this)
      go_wp2
      go_ret
      exact ⟨_, rfl, by rw [← HF.out]; exact hrow, hB⟩

end Go.Proofs.YtnbojbcljfiamaaGreatDoor

namespace Go.Proofs.YtnbojbcljfiamaaGreatDoor
open Go.RowKit Go.Shelf

def Lk.same (r s : Lk) : Bool := (((((r.who.toList == s.who.toList) && (r.to.toList == s.to.toList)) && (r.se == s.se)) && (r.fr == s.fr)) && (r.un == s.un))
theorem Lk.same_refl (r : Lk) : r.same r = true := by simp [Lk.same]
theorem Lk.same_eq {r s : Lk} (h : r.same s = true) : r = s := by
  unfold Lk.same at h
  simp only [Bool.and_eq_true, beq_iff_eq, toList_data] at h
  obtain ⟨⟨⟨⟨h1, h2⟩, h3⟩, h4⟩, h5⟩ := h
  obtain ⟨a, b, c, d, e⟩ := r
  obtain ⟨a', b', c', d', e'⟩ := s
  simp only at h1 h2 h3 h4 h5
  rw [bytes_same h1, bytes_same h2, h3, h4, h5]

set_option maxHeartbeats 1000000 in
theorem eqLink_any (r s : Lk) (w : World) :
    Calls Tryz.prog 87 #[r.val, s.val] w fun e w' => e = .returned (.bool (r.same s)) ∧ Below w.heap.size w w' := by
  cases b0 : (r.who.toList == s.who.toList)
  · have e0 : (r.who.toList == s.who.toList) = false := b0
    have HR := hid (show r.same s = false by unfold Lk.same; rw [b0]; rfl)
    clear b0
    go_enter Tryz.func87, Tryz.ntmps87
    go_wp2
    go_ret
    exact ⟨ret_bool HR.out.symm, ((Below.refl _ w).alloc (Nat.le_refl _) _).alloc (by simp) _⟩
  · have e0 : (r.who.toList == s.who.toList) = true := b0
    cases b1 : (r.to.toList == s.to.toList)
    · have e1 : (r.to.toList == s.to.toList) = false := b1
      have HR := hid (show r.same s = false by unfold Lk.same; rw [b0, b1]; rfl)
      clear b0 b1
      go_enter Tryz.func87, Tryz.ntmps87
      go_wp2
      go_ret
      exact ⟨ret_bool HR.out.symm, ((Below.refl _ w).alloc (Nat.le_refl _) _).alloc (by simp) _⟩
    · have e1 : (r.to.toList == s.to.toList) = true := b1
      cases b2 : (r.se == s.se)
      · have e2 : (r.se != s.se) = true := by rw [bne, b2]; rfl
        have HR := hid (show r.same s = false by unfold Lk.same; rw [b0, b1, b2]; rfl)
        clear b0 b1 b2
        go_enter Tryz.func87, Tryz.ntmps87
        go_wp2
        go_ret
        exact ⟨ret_bool HR.out.symm, ((Below.refl _ w).alloc (Nat.le_refl _) _).alloc (by simp) _⟩
      · have e2 : (r.se != s.se) = false := by rw [bne, b2]; rfl
        cases b3 : (r.fr == s.fr)
        · have e3 : (r.fr != s.fr) = true := by rw [bne, b3]; rfl
          have HR := hid (show r.same s = false by unfold Lk.same; rw [b0, b1, b2, b3]; rfl)
          clear b0 b1 b2 b3
          go_enter Tryz.func87, Tryz.ntmps87
          go_wp2
          go_ret
          exact ⟨ret_bool HR.out.symm, ((Below.refl _ w).alloc (Nat.le_refl _) _).alloc (by simp) _⟩
        · have e3 : (r.fr != s.fr) = false := by rw [bne, b3]; rfl
          cases b4 : (r.un == s.un)
          · have e4 : (r.un != s.un) = true := by rw [bne, b4]; rfl
            have HR := hid (show r.same s = false by unfold Lk.same; rw [b0, b1, b2, b3, b4]; rfl)
            clear b0 b1 b2 b3 b4
            go_enter Tryz.func87, Tryz.ntmps87
            go_wp2
            go_ret
            exact ⟨ret_bool HR.out.symm, ((Below.refl _ w).alloc (Nat.le_refl _) _).alloc (by simp) _⟩
          · have e4 : (r.un != s.un) = false := by rw [bne, b4]; rfl
            have HR := hid (show r.same s = true by unfold Lk.same; rw [b0, b1, b2, b3, b4]; rfl)
            clear b0 b1 b2 b3 b4
            go_enter Tryz.func87, Tryz.ntmps87
            go_wp2
            go_ret
            exact ⟨ret_bool HR.out.symm, ((Below.refl _ w).alloc (Nat.le_refl _) _).alloc (by simp) _⟩

def lsTo (rs ss : List Lk) (k : Nat) : Bool := ((rs.zip ss).take k).all (fun q => q.1.same q.2)
def lsS (rs ss : List Lk) : Bool := decide (rs.length = ss.length) && (rs.zip ss).all (fun q => q.1.same q.2)
theorem lsTo_zero (rs ss : List Lk) : lsTo rs ss 0 = true := by simp [lsTo]
theorem lsTo_succ {rs ss : List Lk} {k : Nat} (h : k < rs.length) (h' : k < ss.length) : lsTo rs ss (k + 1) = (lsTo rs ss k && rs[k].same ss[k]) := by
  unfold lsTo
  rw [List.take_succ_eq_append_getElem (by rw [List.length_zip]; omega), List.all_append]
  simp
theorem ls_bad {rs ss : List Lk} {k : Nat} (hb : lsTo rs ss (k + 1) = false) : lsS rs ss = false := by
  unfold lsTo at hb
  rw [List.all_eq_false] at hb
  obtain ⟨x, hx, hn⟩ := hb
  unfold lsS
  rw [Bool.and_eq_false_iff]
  exact .inr (List.all_eq_false.2 ⟨x, List.mem_of_mem_take hx, hn⟩)
theorem ls_end {rs ss : List Lk} (h : rs.length = ss.length) : lsTo rs ss rs.length = lsS rs ss := by
  unfold lsTo lsS
  rw [List.take_of_length_le (by rw [List.length_zip]; omega), decide_eq_true h, Bool.true_and]
theorem lsS_refl (rs : List Lk) : lsS rs rs = true := by
  unfold lsS
  rw [decide_eq_true rfl, Bool.true_and, List.all_eq_true]
  intro x hx
  obtain ⟨i, hi, he⟩ := List.getElem_of_mem hx
  rw [List.getElem_zip] at he
  rw [← he]
  exact Lk.same_refl _

set_option maxHeartbeats 2000000 in
theorem eqLinkS_any (v v' : Value) (rs ss : List Lk) (w : World) (_hm : rs.length ≤ 1048577) (hm' : ss.length ≤ 1048577) (hr : LkS w v rs) (hr' : LkS w v' ss) :
    Calls Tryz.prog 45 #[v, v'] w fun e w' => e = .returned (.bool (lsS rs ss)) ∧ Below w.heap.size w w' := by
  obtain ⟨a, cap, rfl⟩ := hr.len
  obtain ⟨a', cap', rfl⟩ := hr'.len
  by_cases hl : rs.length = ss.length
  · have e0 : ((rs.length : Int) != (ss.length : Int)) = false := by simp; omega
    have hl1 : rs.length ≤ ss.length := by omega
    have HL := hid hl
    clear hl
    go_enter Tryz.func45, Tryz.ntmps45
    go_wp2
    go_loopw [5] (fun i wr => ∃ k : Nat, k ≤ rs.length ∧ i = .int .i64 k ∧ lsTo rs ss k = true ∧ Below w.heap.size w wr) (fun i _ => rs.length - (intOf i).toNat)
    case atStart => exact ⟨0, Nat.zero_le _, rfl, lsTo_zero _ _, Below.refl _ _⟩
    case round =>
      obtain ⟨k, hk, rfl, hs, hB⟩ := hrel
      have HS := hid hs
      clear hs
      by_cases hlt : k < rs.length
      · have hlt' : k < ss.length := by omega
        obtain ⟨b, off, rfl, hb, hcap, q0, q1, q2, q3, q4⟩ := (hr.below hB).at hlt
        obtain ⟨b', off', rfl, hb', hcap', p0, p1, p2, p3, p4⟩ := (hr'.below hB).at hlt'
        have HT := hid (lsTo_succ hlt hlt')
        generalize rs[k] = r at *
        generalize ss[k] = s at *
        cases hq : r.same s
        · have HR := hid (show lsS rs ss = false from ls_bad (by rw [HT.out, hq, Bool.and_false]))
          go_wp2_with fail
          go_region_with (go_at_call 87; refine (eqLink_any r s _).mono ?_; rintro e w1 ⟨rfl, hB1⟩)
          all_goals go_wp2
          all_goals go_ret
          all_goals exact ⟨ret_bool HR.out.symm, below_one hB (below_drew1 hB1)⟩
        · have HR := hid (show lsTo rs ss (k + 1) = true by rw [HT.out, HS.out, hq]; rfl)
          go_wp2_with fail
          go_region_with (go_at_call 87; refine (eqLink_any r s _).mono ?_; rintro e w1 ⟨rfl, hB1⟩)
          all_goals go_wp2
          all_goals go_roundw
          all_goals first
            | exact ⟨k + 1, by omega, by go_num, HR.out, below_one hB (below_drew1 hB1)⟩
            | (simp [intOf]; omega)
      · obtain rfl : k = rs.length := by omega
        have HR := hid (show lsS rs ss = true by rw [← ls_end HL.out]; exact HS.out)
        go_wp2
        go_ret
        exact ⟨ret_bool HR.out.symm, hB⟩
  · have e0 : ((rs.length : Int) != (ss.length : Int)) = true := by simp; omega
    have HR := hid (show lsS rs ss = false by unfold lsS; rw [decide_eq_false hl]; rfl)
    clear hl
    go_enter Tryz.func45, Tryz.ntmps45
    go_wp2
    go_ret
    exact ⟨ret_bool HR.out.symm, Below.refl _ _⟩

end Go.Proofs.YtnbojbcljfiamaaGreatDoor

namespace Go.Proofs.YtnbojbcljfiamaaGreatDoor
open Go.RowKit Go.Shelf

/-- What is left of a budget. -/
def leftK (n : Int) (s : Nat) : Int := if (s : Int) ≤ n then n - s else -1
/-- A row of one's own, in a block from base on, below top. -/
def RoO (T : TypeId) (c : Nat) (w : World) (base top : Nat) (v : Value) (n : Nat) (xs : List Value) : Prop := w.ownsRow base T c v n xs ∧ ∀ k, v.ownBlock = some k → k < top
theorem RoO.of {T : TypeId} {c : Nat} {w : World} {base : Nat} {v : Value} {n : Nat} {xs : List Value} (h : w.ownsRow base T c v n xs) : RoO T c w base w.heap.size v n xs := ⟨h, fun k hk => (h.lt k hk).2⟩
theorem RoO.len {T : TypeId} {c : Nat} {w : World} {base top : Nat} {v : Value} {n : Nat} {xs : List Value} (h : RoO T c w base top v n xs) : ∃ a cap, v = .slice a n cap := by
  rcases row_form h.1 with ⟨rfl, rfl⟩ | ⟨g, cap, rfl, _, _⟩
  · exact ⟨_, _, rfl⟩
  · exact ⟨_, _, rfl⟩
theorem RoO.mid {lo hi : Nat} {w w1 : World} {T : TypeId} {c base top : Nat} {v : Value} {n : Nat} {xs : List Value} (h : RoO T c w base top v n xs) (M : Mid lo hi w w1) (ho : hi ≤ base ∨ top ≤ lo) : RoO T c w1 base top v n xs :=
  ⟨M.row h.1 (fun k hk => by have := h.1.lt k hk; have := h.2 k hk; omega), h.2⟩
theorem RoO.below {w w1 : World} {T : TypeId} {c base top : Nat} {v : Value} {n : Nat} {xs : List Value} (h : RoO T c w base top v n xs) (hB : Below w.heap.size w w1) : RoO T c w1 base top v n xs := ⟨ownsRow_below h.1 hB, h.2⟩
theorem RoO.mono {w : World} {T : TypeId} {c base base' top top' : Nat} {v : Value} {n : Nat} {xs : List Value} (h : RoO T c w base top v n xs) (hb : base' ≤ base) (ht : top ≤ top') : RoO T c w base' top' v n xs :=
  ⟨Go.Joins.ownsRow_le h.1 hb, fun k hk => Nat.lt_of_lt_of_le (h.2 k hk) ht⟩

set_option maxRecDepth 100000 in
open Go.Deep Go.ChangeShapes Go.WideShapes Go.ChangeAt Go.Joins in
theorem openLkR {H : Type} {enc : TypeId × Value → H} {W : World} {c0 : Value} {d : DataW H × List MemPlace} {fuel : Nat} (hf : DataW.trod enc Tryz.prog W 0 (fun _ => true) true fuel 29 [c0] = some d) :
    ∃ (a : Option Addr) (n c : Nat) (rs : List Lk), c0 = .slice a n c ∧ LkS W (.slice a n c) rs ∧ rs.length = n ∧ n ≤ maxLen ∧ ∀ r ∈ rs, r.fits := by
  have hs : ∃ a n c, c0 = .slice a n c := by
    rcases open_slice Tryz.underlying29 hf with ⟨hcs, _⟩ | ⟨x, n, c, m, k, D, Pl, hcs, _⟩
    · simp at hcs; exact ⟨_, _, _, hcs⟩
    · simp at hcs; exact ⟨_, _, _, hcs⟩
  obtain ⟨a, n, c, rfl⟩ := hs
  obtain ⟨rs, h⟩ := openLkS (a := a) (n := n) (c := c) (d := d.1) (p := d.2) ⟨fuel, hf⟩
  exact ⟨a, n, c, rs, rfl, h⟩

/-- A slice reads as this list, c cells each. -/
def GsA {X : Type} (c : Nat) (A : World → List Value → X → Prop) (w : World) (v : Value) (xs : List X) : Prop :=
  (∃ a cap, v = .slice a 0 cap ∧ xs = []) ∨
  ∃ b off cap, v = .slice (some ⟨b, off, none⟩) xs.length cap ∧ b < w.heap.size ∧ xs.length ≤ cap ∧ ∀ i (h : i < xs.length), ∃ cs : List Value, cs.length = c ∧ (∀ j y, cs[j]? = some y → w.cell? ⟨b, off + i * c + j, none⟩ = some y) ∧ A w cs xs[i]
theorem GsA.below {X : Type} {c : Nat} {A : World → List Value → X → Prop} {w w' : World} {v : Value} {xs : List X} (h : GsA c A w v xs) (hA : ∀ cs x, A w cs x → A w' cs x) (hB : Below w.heap.size w w') : GsA c A w' v xs := by
  rcases h with h | ⟨b, off, cap, hv, hb, hl, hc⟩
  · exact .inl h
  · refine .inr ⟨b, off, cap, hv, Nat.lt_of_lt_of_le hb hB.size, hl, fun i hi => ?_⟩
    obtain ⟨cs, h1, h2, h3⟩ := hc i hi
    exact ⟨cs, h1, fun j y hy => (hB.cell (p := ⟨b, _, none⟩) hb).trans (h2 j y hy), hA _ _ h3⟩
theorem GsA.len {X : Type} {c : Nat} {A : World → List Value → X → Prop} {w : World} {v : Value} {xs : List X} (h : GsA c A w v xs) : ∃ a cap, v = .slice a xs.length cap := by
  rcases h with ⟨a, cap, hv, rfl⟩ | ⟨b, off, cap, hv, _⟩
  · exact ⟨a, cap, hv⟩
  · exact ⟨_, cap, hv⟩
theorem GsA.at {X : Type} {c : Nat} {A : World → List Value → X → Prop} {w : World} {a : Option Addr} {n cap : Nat} {xs : List X} (h : GsA c A w (.slice a n cap) xs) {i : Nat} (hi : i < xs.length) :
    ∃ b off cs, a = some ⟨b, off, none⟩ ∧ b < w.heap.size ∧ n ≤ cap ∧ (∀ j y, cs[j]? = some y → w.cell? ⟨b, off + i * c + j, none⟩ = some y) ∧ A w cs xs[i] := by
  rcases h with ⟨_, _, _, rfl⟩ | ⟨b, off, cap, hv, hb, hl, hc⟩
  · simp at hi
  · cases hv
    obtain ⟨cs, h1, h2, h3⟩ := hc i hi
    exact ⟨b, off, cs, rfl, hb, hl, h2, h3⟩

/-- A row of n places, of which the first k hold these, each with blocks of its own, from s i on, below t i. -/
structure GsK {X : Type} (e : TypeId) (c : Nat) (O : World → Nat → Nat → List Value → X → Prop) (w : World) (base top : Nat) (v : Value) (n : Nat) (xs : List X) (k : Nat) (ys : List Value) (cs : Nat → List Value) (s t : Nat → Nat) : Prop where
  row : w.ownsRow base e c v n ys
  rlt : ∀ g, v.ownBlock = some g → g < top
  len : ∀ i, i < k → (cs i).length = c
  cel : ∀ i, i < k → ∀ j, j < c → ys[i * c + j]? = (cs i)[j]?
  own : ∀ i (h : i < xs.length), i < k → O w (s i) (t i) (cs i) xs[i]
  lo : ∀ i, i < k → base ≤ s i
  up : ∀ i, i < k → s i ≤ t i
  ord : ∀ i j, i < j → j < k → t i ≤ s j
  hi : ∀ i, i < k → t i ≤ top
  apart : ∀ i, i < k → ∀ g, v.ownBlock = some g → g < s i ∨ t i ≤ g
/-- A list of one's own. -/
def GsO {X : Type} (e : TypeId) (c : Nat) (O : World → Nat → Nat → List Value → X → Prop) (w : World) (base top : Nat) (v : Value) (xs : List X) : Prop := ∃ ys cs s t, GsK e c O w base top v xs.length xs xs.length ys cs s t
theorem GsO.len {X : Type} {e : TypeId} {c : Nat} {O : World → Nat → Nat → List Value → X → Prop} {w : World} {base top : Nat} {v : Value} {xs : List X} (h : GsO e c O w base top v xs) : ∃ a cap, v = .slice a xs.length cap := by
  obtain ⟨ys, cs, s, t, h⟩ := h
  exact RoO.len (RoO.of h.row)
theorem GsO.a {X : Type} {e : TypeId} {c : Nat} {O : World → Nat → Nat → List Value → X → Prop} {A : World → List Value → X → Prop} {w : World} {base top : Nat} {v : Value} {xs : List X} (hA : ∀ b t cs x, O w b t cs x → A w cs x) (h : GsO e c O w base top v xs) : GsA c A w v xs := by
  obtain ⟨ys, cs, s, t, h⟩ := h
  rcases row_form h.row with ⟨rfl, h0⟩ | ⟨g, cap, rfl, hg, hcap⟩
  · exact .inl ⟨_, _, rfl, List.eq_nil_of_length_eq_zero h0⟩
  · refine .inr ⟨g, 0, cap, rfl, (h.row.lt g rfl).2, hcap, fun i hi => ⟨cs i, h.len i hi, fun j y hy => ?_, hA _ _ _ _ (h.own i hi hi)⟩⟩
    have hj : j < c := by
      have := (List.getElem?_eq_some_iff.1 hy).1
      rwa [h.len i hi] at this
    have hij : i * c + j < xs.length * c := by
      have : (i + 1) * c ≤ xs.length * c := Nat.mul_le_mul_right c hi
      rw [Nat.add_mul, Nat.one_mul] at this
      omega
    rw [Nat.zero_add, h.row.cellAt (i * c + j) hij, h.cel i hi j hj]
    exact hy
theorem GsK.mid {X : Type} {e : TypeId} {c : Nat} {O : World → Nat → Nat → List Value → X → Prop} {lo hi : Nat} {w w1 : World} {base top : Nat} {v : Value} {n : Nat} {xs : List X} {k : Nat} {ys : List Value} {cs : Nat → List Value} {s t : Nat → Nat} (h : GsK e c O w base top v n xs k ys cs s t)
    (hO : ∀ b t cs x, O w b t cs x → (hi ≤ b ∨ t ≤ lo) → O w1 b t cs x) (M : Mid lo hi w w1) (ho : hi ≤ base ∨ top ≤ lo) : GsK e c O w1 base top v n xs k ys cs s t :=
  ⟨M.row h.row (fun g hg => by have := h.row.lt g hg; have := h.rlt g hg; omega), h.rlt, h.len, h.cel, fun i hi hk => hO _ _ _ _ (h.own i hi hk) (by have := h.lo i hk; have := h.hi i hk; omega), h.lo, h.up, h.ord, h.hi, h.apart⟩
theorem GsO.mid {X : Type} {e : TypeId} {c : Nat} {O : World → Nat → Nat → List Value → X → Prop} {lo hi : Nat} {w w1 : World} {base top : Nat} {v : Value} {xs : List X} (h : GsO e c O w base top v xs)
    (hO : ∀ b t cs x, O w b t cs x → (hi ≤ b ∨ t ≤ lo) → O w1 b t cs x) (M : Mid lo hi w w1) (ho : hi ≤ base ∨ top ≤ lo) : GsO e c O w1 base top v xs := by
  obtain ⟨ys, cs, s, t, h⟩ := h
  exact ⟨ys, cs, s, t, h.mid hO M ho⟩
theorem GsO.mono {X : Type} {e : TypeId} {c : Nat} {O : World → Nat → Nat → List Value → X → Prop} {w : World} {base base' top top' : Nat} {v : Value} {xs : List X} (h : GsO e c O w base top v xs) (hb : base' ≤ base) (ht : top ≤ top') : GsO e c O w base' top' v xs := by
  obtain ⟨ys, cs, s, t, h⟩ := h
  exact ⟨ys, cs, s, t, Go.Joins.ownsRow_le h.row hb, fun g hg => Nat.lt_of_lt_of_le (h.rlt g hg) ht, h.len, h.cel, h.own, fun i hi => Nat.le_trans hb (h.lo i hi), h.up, h.ord, fun i hi => Nat.le_trans (h.hi i hi) ht, h.apart⟩
theorem GsK.start {X : Type} (e : TypeId) (c : Nat) (O : World → Nat → Nat → List Value → X → Prop) (w : World) (base top : Nat) (v : Value) (n : Nat) (xs : List X) (ys : List Value) (h : w.ownsRow base e c v n ys) (ht : ∀ g, v.ownBlock = some g → g < top) : GsK e c O w base top v n xs 0 ys (fun _ => []) (fun _ => base) (fun _ => base) :=
  ⟨h, ht, fun _ h => absurd h (Nat.not_lt_zero _), fun _ h => absurd h (Nat.not_lt_zero _), fun _ _ h => absurd h (Nat.not_lt_zero _), fun _ h => absurd h (Nat.not_lt_zero _), fun _ h => absurd h (Nat.not_lt_zero _), fun _ _ _ h => absurd h (Nat.not_lt_zero _), fun _ h => absurd h (Nat.not_lt_zero _), fun _ h => absurd h (Nat.not_lt_zero _)⟩
theorem GsO.empty {X : Type} (e : TypeId) (c : Nat) (O : World → Nat → Nat → List Value → X → Prop) (w : World) (base top : Nat) : GsO e c O w base top (.slice none 0 0) [] :=
  ⟨_, _, _, _, GsK.start e c O w base top _ _ _ [] (World.ownsRow_nil _ _ _ _) (fun _ h => by simp [Value.ownBlock] at h)⟩

/-- Cells stored one behind the other. -/
def sets (w : World) (g o : Nat) : List Value → World
  | [] => w
  | y :: ys => sets (w.setCell ⟨g, o, none⟩ y) g (o + 1) ys
def setL (xs : List Value) (o : Nat) : List Value → List Value
  | [] => xs
  | y :: ys => setL (xs.set o y) (o + 1) ys
theorem sets_size (g : Nat) (ys : List Value) : ∀ (w : World) (o : Nat), (sets w g o ys).heap.size = w.heap.size := by
  induction ys with
  | nil => intro w o; rfl
  | cons y ys ih => intro w o; show (sets _ g (o + 1) ys).heap.size = _; rw [ih, World.size_setCell]
theorem sets_mid (g : Nat) (ys : List Value) : ∀ (w : World) (o : Nat), Mid g (g + 1) w (sets w g o ys) := by
  induction ys with
  | nil => intro w o; exact Mid.of_below (Below.refl _ _)
  | cons y ys ih => intro w o; exact ((Mid.of_below (Below.refl _ _)).set (p := ⟨g, o, none⟩) (Nat.le_refl _) (Nat.lt_succ_self _) y).trans (ih _ _)
theorem sets_row {base g n cap c : Nat} {e : TypeId} (ys : List Value) : ∀ (w : World) (o : Nat) (xs : List Value), w.ownsRow base e c (.slice (some ⟨g, 0, none⟩) n cap) n xs → (sets w g o ys).ownsRow base e c (.slice (some ⟨g, 0, none⟩) n cap) n (setL xs o ys) := by
  induction ys with
  | nil => intro w o xs h; exact h
  | cons y ys ih => intro w o xs h; exact ih _ _ _ (h.stored o y).1
theorem setL_len (ys : List Value) : ∀ (xs : List Value) (o : Nat), (setL xs o ys).length = xs.length := by
  induction ys with
  | nil => intro xs o; rfl
  | cons y ys ih => intro xs o; show (setL _ (o + 1) ys).length = _; rw [ih, List.length_set]
theorem setL_other (ys : List Value) : ∀ (xs : List Value) (o j : Nat), (j < o ∨ o + ys.length ≤ j) → (setL xs o ys)[j]? = xs[j]? := by
  induction ys with
  | nil => intro xs o j _; rfl
  | cons y ys ih =>
    intro xs o j h
    rw [List.length_cons] at h
    show (setL (xs.set o y) (o + 1) ys)[j]? = _
    rw [ih _ _ _ (by omega), List.getElem?_set_ne (by omega)]
theorem setL_at (ys : List Value) : ∀ (xs : List Value) (o j : Nat), j < ys.length → o + ys.length ≤ xs.length → (setL xs o ys)[o + j]? = ys[j]? := by
  induction ys with
  | nil => intro xs o j h; simp at h
  | cons y ys ih =>
    intro xs o j h hl
    rw [List.length_cons] at h hl
    show (setL (xs.set o y) (o + 1) ys)[o + j]? = _
    cases j with
    | zero => rw [setL_other _ _ _ _ (by omega), Nat.add_zero, List.getElem?_set_self (by omega)]; rfl
    | succ j => rw [show o + (j + 1) = o + 1 + j by omega, ih _ _ _ (by omega) (by rw [List.length_set]; omega)]; rfl
/-- One more is laid into the row. -/
theorem GsK.add {X : Type} {e : TypeId} {c : Nat} {O : World → Nat → Nat → List Value → X → Prop} {w w2 : World} {base g n cap : Nat} {xs : List X} {k : Nat} {ys : List Value} {cs : Nat → List Value} {s t : Nat → Nat} {zs : List Value}
    (h : GsK e c O w base w.heap.size (.slice (some ⟨g, 0, none⟩) n cap) n xs k ys cs s t) (hb : base ≤ w.heap.size) (hB : Below w.heap.size w w2) (hk : k < xs.length) (hkn : k < n) (hz : zs.length = c)
    (hO : ∀ lo hi b t cs x (w1 : World), Mid lo hi w2 w1 → O w2 b t cs x → (hi ≤ b ∨ t ≤ lo) → O w1 b t cs x) (hBO : ∀ b t cs x, O w b t cs x → O w2 b t cs x) (hn : O w2 w.heap.size w2.heap.size zs xs[k]) :
    GsK e c O (sets w2 g (k * c) zs) base (sets w2 g (k * c) zs).heap.size (.slice (some ⟨g, 0, none⟩) n cap) n xs (k + 1) (setL ys (k * c) zs) (fun i => if i = k then zs else cs i) (fun i => if i = k then w.heap.size else s i) (fun i => if i = k then w2.heap.size else t i) := by
  have hrow := ownsRow_below h.row hB
  have hlen : ys.length = n * c := h.row.1
  have hs := hB.size
  have hgw : g < w.heap.size := h.rlt g rfl
  have hkc : (k + 1) * c ≤ n * c := Nat.mul_le_mul_right c hkn
  rw [Nat.add_mul, Nat.one_mul] at hkc
  have M := sets_mid g zs w2 (k * c)
  refine ⟨sets_row _ _ _ _ hrow, ?_, ?_, ?_, ?_, ?_, ?_, ?_, ?_, ?_⟩
  · intro g' hg'
    rw [sets_size]
    exact Nat.lt_of_lt_of_le (h.rlt g' hg') hs
  · intro i hi
    by_cases e : i = k
    · rw [if_pos e]; exact hz
    · rw [if_neg e]; exact h.len i (by omega)
  · intro i hi j hj
    by_cases e : i = k
    · subst e
      rw [if_pos rfl]
      exact setL_at _ _ _ _ (by omega) (by omega)
    · rw [if_neg e, setL_other _ _ _ _ (by
        left
        have : (i + 1) * c ≤ k * c := Nat.mul_le_mul_right c (by omega)
        rw [Nat.add_mul, Nat.one_mul] at this
        omega)]
      exact h.cel i (by omega) j hj
  · intro i hi hik
    by_cases e : i = k
    · subst e
      rw [if_pos rfl, if_pos rfl, if_pos rfl]
      exact hO _ _ _ _ _ _ _ M hn (.inl (by omega))
    · rw [if_neg e, if_neg e, if_neg e]
      refine hO _ _ _ _ _ _ _ M (hBO _ _ _ _ (h.own i hi (by omega))) ?_
      rcases h.apart i (by omega) g rfl with h1 | h1
      · exact .inl h1
      · exact .inr h1
  · intro i hi
    by_cases e : i = k
    · rw [if_pos e]; exact hb
    · rw [if_neg e]; exact h.lo i (by omega)
  · intro i hi
    by_cases e : i = k
    · rw [if_pos e, if_pos e]; exact hs
    · rw [if_neg e, if_neg e]; exact h.up i (by omega)
  · intro i j hij hj
    rw [if_neg (by omega)]
    by_cases e : j = k
    · rw [if_pos e]; exact h.hi i (by omega)
    · rw [if_neg e]; exact h.ord i j hij (by omega)
  · intro i hi
    rw [sets_size]
    by_cases e : i = k
    · rw [if_pos e]; exact Nat.le_refl _
    · rw [if_neg e]; exact Nat.le_trans (h.hi i (by omega)) hs
  · intro i hi g' hg'
    by_cases e : i = k
    · rw [if_pos e, if_pos e]
      simp [Value.ownBlock] at hg'
      exact .inl (by omega)
    · rw [if_neg e, if_neg e]
      exact h.apart i (by omega) g' hg'
/-- One more is put behind. -/
theorem GsK.app {X : Type} {e : TypeId} {c : Nat} {O : World → Nat → Nat → List Value → X → Prop} {w w2 w3 : World} {base : Nat} {v v' : Value} {xs : List X} {x : X} {ys : List Value} {cs : Nat → List Value} {s t : Nat → Nat} {zs : List Value} {tmp : Obj}
    (h : GsK e c O w base w.heap.size v xs.length xs xs.length ys cs s t) (hb : base ≤ w.heap.size) (hB : Below w.heap.size w w2) (hz : zs.length = c)
    (hO : ∀ lo hi b t cs x (w1 : World), Mid lo hi w2 w1 → O w2 b t cs x → (hi ≤ b ∨ t ≤ lo) → O w1 b t cs x) (hBO : ∀ b t cs x, O w b t cs x → O w2 b t cs x) (hn : O w2 w.heap.size w2.heap.size zs x)
    (hown : w3.ownsRow base e c v' (xs.length + 1) (ys ++ zs)) (hg : (w2.alloc tmp).grownBy w3 v.ownBlock) (hat : v'.ownBlock = v.ownBlock ∨ v'.ownBlock = some (w2.alloc tmp).heap.size) : GsO e c O w3 base w3.heap.size v' (xs ++ [x]) := by
  have hlen : ys.length = xs.length * c := h.row.1
  have hs := hB.size
  have ha : (w2.alloc tmp).heap.size = w2.heap.size + 1 := by simp
  have hg3 := hg.size
  have keep : ∀ b t cs x, O w2 b t cs x → (∀ g, v.ownBlock = some g → g < b ∨ t ≤ g) → O w3 b t cs x := by
    intro b t cs x h1 h2
    have M0 : Mid 0 0 w2 (w2.alloc tmp) := Mid.of_below ((Below.refl _ _).alloc (Nat.le_refl _) _)
    cases hv : v.ownBlock with
    | none =>
      rw [hv] at hg
      exact hO _ _ _ _ _ _ _ (M0.trans (Mid.of_grown (lo := 0) (hi := 0) hg (fun k hk => by cases hk))) h1 (.inl (Nat.zero_le _))
    | some g =>
      rw [hv] at hg
      have M1 : Mid g (g + 1) w2 (w2.alloc tmp) := Mid.of_below ((Below.refl _ _).alloc (Nat.le_refl _) _)
      exact hO _ _ _ _ _ _ _ (M1.trans (Mid.of_grown (lo := g) (hi := g + 1) hg (fun k hk => by cases hk; omega))) h1 (by have := h2 g hv; omega)
  refine ⟨ys ++ zs, fun i => if i = xs.length then zs else cs i, fun i => if i = xs.length then w.heap.size else s i, fun i => if i = xs.length then w2.heap.size else t i, ?_⟩
  have hl1 : (xs ++ [x]).length = xs.length + 1 := by simp
  rw [hl1]
  refine ⟨hown, fun g hg => (hown.lt g hg).2, ?_, ?_, ?_, ?_, ?_, ?_, ?_, ?_⟩
  · intro i hi
    by_cases e : i = xs.length
    · rw [if_pos e]; exact hz
    · rw [if_neg e]; exact h.len i (by omega)
  · intro i hi j hj
    by_cases e : i = xs.length
    · subst e
      rw [if_pos rfl, List.getElem?_append_right (by omega), hlen, Nat.add_sub_cancel_left]
    · have : (i + 1) * c ≤ xs.length * c := Nat.mul_le_mul_right c (by omega)
      rw [Nat.add_mul, Nat.one_mul] at this
      rw [if_neg e, List.getElem?_append_left (by omega)]
      exact h.cel i (by omega) j hj
  · intro i hi hik
    by_cases e : i = xs.length
    · subst e
      have e2 : (xs ++ [x])[xs.length]'hi = x := by simp
      rw [if_pos rfl, if_pos rfl, if_pos rfl, e2]
      exact keep _ _ _ _ hn (fun g hg => .inl (h.rlt g hg))
    · have hi' : i < xs.length := by omega
      have e2 : (xs ++ [x])[i]'hi = xs[i] := List.getElem_append_left hi'
      rw [if_neg e, if_neg e, if_neg e, e2]
      exact keep _ _ _ _ (hBO _ _ _ _ (h.own i hi' hi')) (h.apart i hi')
  · intro i hi
    by_cases e : i = xs.length
    · rw [if_pos e]; exact hb
    · rw [if_neg e]; exact h.lo i (by omega)
  · intro i hi
    by_cases e : i = xs.length
    · rw [if_pos e, if_pos e]; exact hs
    · rw [if_neg e, if_neg e]; exact h.up i (by omega)
  · intro i j hij hj
    rw [if_neg (by omega)]
    by_cases e : j = xs.length
    · rw [if_pos e]; exact h.hi i (by omega)
    · rw [if_neg e]; exact h.ord i j hij (by omega)
  · intro i hi
    by_cases e : i = xs.length
    · rw [if_pos e]; omega
    · rw [if_neg e]; have := h.hi i (by omega); omega
  · intro i hi g hg'
    have hcase : (v.ownBlock = some g) ∨ g = w2.heap.size + 1 := by
      rcases hat with e | e
      · exact .inl (by rw [← e]; exact hg')
      · rw [e, ha] at hg'
        exact .inr (Option.some.inj hg').symm
    by_cases e : i = xs.length
    · rw [if_pos e, if_pos e]
      rcases hcase with h1 | h1
      · exact .inl (h.rlt g h1)
      · omega
    · rw [if_neg e, if_neg e]
      rcases hcase with h1 | h1
      · exact h.apart i (by omega) g h1
      · have := h.hi i (by omega)
        omega
/-- One of them, where it lies. -/
theorem GsO.at {X : Type} {e : TypeId} {c : Nat} {O : World → Nat → Nat → List Value → X → Prop} {w : World} {base top : Nat} {a : Option Addr} {n cap : Nat} {xs : List X} (h : GsO e c O w base top (.slice a n cap) xs) {i : Nat} (hi : i < xs.length) :
    ∃ g cs lo hi, a = some ⟨g, 0, none⟩ ∧ base ≤ g ∧ g < w.heap.size ∧ n ≤ cap ∧ (∀ j y, cs[j]? = some y → w.cell? ⟨g, i * c + j, none⟩ = some y) ∧ O w lo hi cs xs[i] := by
  obtain ⟨ys, cs, s, t, h⟩ := h
  rcases row_form h.row with ⟨_, h0⟩ | ⟨g, cap', hv, hg, hcap⟩
  · omega
  · cases hv
    refine ⟨g, cs i, s i, t i, rfl, hg, (h.row.lt g rfl).2, hcap, fun j y hy => ?_, h.own i hi hi⟩
    have hj : j < c := by
      have := (List.getElem?_eq_some_iff.1 hy).1
      rwa [h.len i hi] at this
    have hij : i * c + j < xs.length * c := by
      have : (i + 1) * c ≤ xs.length * c := Nat.mul_le_mul_right c hi
      rw [Nat.add_mul, Nat.one_mul] at this
      omega
    rw [h.row.cellAt (i * c + j) hij, h.cel i hi j hj]
    exact hy

/-- How much all of a list counts. -/
def gzTo {X : Type} (f : X → Nat) (xs : List X) (n : Nat) : Nat := ((xs.take n).map f).sum
def gzAll {X : Type} (f : X → Nat) (xs : List X) : Nat := xs.length + gzTo f xs xs.length
theorem gzTo_zero {X : Type} (f : X → Nat) (xs : List X) : gzTo f xs 0 = 0 := by simp [gzTo]
theorem gzTo_succ {X : Type} {f : X → Nat} {xs : List X} {n : Nat} (h : n < xs.length) : gzTo f xs (n + 1) = gzTo f xs n + f xs[n] := by
  unfold gzTo
  rw [List.take_succ_eq_append_getElem h, List.map_append, List.sum_append]
  simp
theorem gzTo_le {X : Type} (f : X → Nat) (xs : List X) (n : Nat) : gzTo f xs n ≤ gzTo f xs xs.length := by
  unfold gzTo
  rw [List.take_length]
  conv => rhs; rw [← List.take_append_drop n xs, List.map_append, List.sum_append]
  omega
theorem gz_mem {X : Type} {f : X → Nat} {xs : List X} {x : X} (h : x ∈ xs) : f x ≤ gzTo f xs xs.length := by
  unfold gzTo
  rw [List.take_length]
  exact sum_mem (List.mem_map.2 ⟨x, h, rfl⟩)
/-- No list is longer than the laws take. -/
def gShort {X : Type} (f : X → Prop) (xs : List X) : Prop := xs.length ≤ 1048576 ∧ ∀ x ∈ xs, f x

set_option maxRecDepth 100000 in
open Go.Deep Go.ChangeShapes Go.WideShapes Go.ChangeAt Go.Joins in
/-- A list that comes in, where its elements' cells can be read. -/
theorem openGs {X : Type} [Inhabited X] {H : Type} {enc : TypeId × Value → H} {W : World} {A : World → List Value → X → Prop} {fits : X → Prop} {ts te : TypeId} {c : Nat} {c0 : Value} {d : DataW H × List MemPlace} {fuel : Nat}
    (hu : Tryz.prog.underlying ts = some (.slice te)) (hc : Tryz.prog.cellsOf te = c) (hc0 : 0 < c)
    (hE : ∀ (l : List Value) (y : DataW H × List MemPlace) (m : Nat), l.length = c → DataW.trod enc Tryz.prog W 0 (fun _ => true) true m te l = some y → ∃ x : X, A W l x ∧ fits x)
    (hf : DataW.trod enc Tryz.prog W 0 (fun _ => true) true fuel ts [c0] = some d) :
    ∃ (a : Option Addr) (n k : Nat) (xs : List X), c0 = .slice a n k ∧ GsA c A W (.slice a n k) xs ∧ xs.length = n ∧ n ≤ maxLen ∧ ∀ x ∈ xs, fits x := by
  rcases open_slice hu hf with ⟨hcs, _⟩ | ⟨x, n, cap, m, k, D, Pl, hcs, _, hl, hm, hmm, _, hx⟩
  · simp at hcs
    exact ⟨_, _, _, [], hcs, .inl ⟨_, _, rfl, rfl⟩, rfl, Nat.zero_le _, fun r hr => by cases hr⟩
  · simp at hcs
    have hlm : n ≤ m := by rw [hmm]; simpa using hl
    have each : ∀ i, i < n → ∃ s : X, (∃ cs : List Value, cs.length = c ∧ (∀ j y, cs[j]? = some y → W.cell? (x.add (i * c + j)) = some y) ∧ A W cs s) ∧ fits s := by
      intro i hi
      obtain ⟨cs', h1, h2⟩ := hx i (by omega)
      rw [hc] at h1
      obtain ⟨_, hlen, hcell⟩ := World.cells?_some h1
      obtain ⟨s, h3, h4⟩ := hE cs' _ _ hlen h2
      refine ⟨s, ⟨cs', hlen, fun j y hy => ?_, h3⟩, h4⟩
      have hj := (List.getElem?_eq_some_iff.1 hy).1
      have := hcell j (by omega)
      rw [add_add] at this
      rw [this]
      exact hy
    obtain ⟨q, hq⟩ := choose_lt each
    by_cases h0 : n = 0
    · subst h0
      exact ⟨_, _, _, [], hcs, .inl ⟨_, _, rfl, rfl⟩, rfl, Nat.zero_le _, fun r hr => by cases hr⟩
    · obtain ⟨b, off, spot⟩ := x
      obtain ⟨cs, hz0, hz1, _⟩ := (hq 0 (by omega)).1
      have hz := hz1 0 _ (List.getElem?_eq_getElem (by omega))
      have hs : spot = none := by simpa [Addr.add] using World.cell?_spot hz
      subst hs
      have hlt : b < W.heap.size := by
        rw [Addr.add_lit] at hz
        by_cases hb : b < W.heap.size
        · exact hb
        · simp only [World.cell?] at hz
          rw [Array.getElem?_eq_none (by omega)] at hz
          cases hz
      refine ⟨_, _, _, (List.range n).map q, hcs, .inr ⟨b, off, cap, by simp, hlt, by simpa using hl, fun i hi => ?_⟩, by simp, by omega, ?_⟩
      · have hi' : i < n := by simpa using hi
        obtain ⟨cs, h1, h2, h3⟩ := (hq i hi').1
        refine ⟨cs, h1, fun j y hy => ?_, by simpa using h3⟩
        have := h2 j y hy
        rw [Addr.add_lit, ← Nat.add_assoc] at this
        exact this
      · intro r hr
        obtain ⟨i, hi, rfl⟩ := List.mem_map.1 hr
        exact (hq i (List.mem_range.1 hi)).2

end Go.Proofs.YtnbojbcljfiamaaGreatDoor

namespace Go.Proofs.YtnbojbcljfiamaaGreatDoor
open Go.RowKit Go.Shelf

/-- An ask. -/
structure Ak where
  tk : List Lk
  me : ByteArray
  pa : ByteArray
/-- These cells read as this one. -/
def AkC (w : World) (cs : List Value) (a : Ak) : Prop := ∃ p0x p0z, cs = [.slice p0x a.tk.length p0z, .string a.me, .string a.pa] ∧ LkS w (.slice p0x a.tk.length p0z) a.tk
/-- .. of one's own, in blocks from base on, below top. -/
def AkO (w : World) (base top : Nat) (cs : List Value) (a : Ak) : Prop := ∃ p0x p0z, cs = [.slice p0x a.tk.length p0z, .string a.me, .string a.pa] ∧ RoO 126 5 w base top (.slice p0x a.tk.length p0z) a.tk.length (a.tk.flatMap Lk.cells)
def Ak.fits (a : Ak) : Prop := (a.tk.length ≤ maxLen ∧ ∀ k ∈ a.tk, k.fits) ∧ a.me.size ≤ maxLen ∧ a.pa.size ≤ maxLen
def Ak.size (a : Ak) : Nat := lzAll a.tk + a.me.size + a.pa.size
def Ak.short (a : Ak) : Prop := (a.tk.length ≤ 1048576 ∧ ∀ k ∈ a.tk, k.size ≤ 1048576) ∧ a.me.size ≤ 1048576 ∧ a.pa.size ≤ 1048576
theorem AkC.below {w w' : World} {cs : List Value} {a : Ak} (h : AkC w cs a) (hB : Below w.heap.size w w') : AkC w' cs a := by
  obtain ⟨p0x, p0z, rfl, h0⟩ := h
  exact ⟨_, _, rfl, h0.below hB⟩
theorem AkO.mid {lo hi : Nat} {w w1 : World} {base top : Nat} {cs : List Value} {a : Ak} (h : AkO w base top cs a) (M : Mid lo hi w w1) (ho : hi ≤ base ∨ top ≤ lo) : AkO w1 base top cs a := by
  obtain ⟨p0x, p0z, rfl, h0⟩ := h
  exact ⟨_, _, rfl, h0.mid M (by omega)⟩
theorem AkO.below {w w1 : World} {base top : Nat} {cs : List Value} {a : Ak} (h : AkO w base top cs a) (hB : Below w.heap.size w w1) : AkO w1 base top cs a := h.mid (Mid.of_below (lo := 0) (hi := 0) hB) (.inl (Nat.zero_le _))
theorem AkO.mono {w : World} {base base' top top' : Nat} {cs : List Value} {a : Ak} (h : AkO w base top cs a) (hb : base' ≤ base) (ht : top ≤ top') : AkO w base' top' cs a := by
  obtain ⟨p0x, p0z, rfl, h0⟩ := h
  exact ⟨_, _, rfl, h0.mono hb ht⟩
theorem Ak.short_of {a : Ak} (h : a.size ≤ 1048576) : a.short := by
  unfold Ak.size lzAll at h
  exact ⟨⟨by omega, fun k hk => by have := lz_mem hk; omega⟩, by omega, by omega⟩
theorem AkO.a {w : World} {base top : Nat} {cs : List Value} {a : Ak} (h : AkO w base top cs a) : AkC w cs a := by
  obtain ⟨_, _, rfl, h0⟩ := h
  exact ⟨_, _, rfl, LkS.own h0.1⟩

set_option maxRecDepth 100000 in
theorem cellsAsk : Tryz.prog.cellsOf 31 = 3 := by kernel_rfl
set_option maxRecDepth 100000 in
open Go.Deep Go.ChangeShapes Go.WideShapes Go.ChangeAt Go.Joins in
/-- The cells of an ask that comes in. -/
theorem openAkC {H : Type} {enc : TypeId × Value → H} {W : World} {l : List Value} {y : DataW H × List MemPlace} {fuel : Nat} (hsz : l.length = 3) (hf : DataW.trod enc Tryz.prog W 0 (fun _ => true) true fuel 31 l = some y) :
    ∃ a : Ak, AkC W l a ∧ a.fits := by
  obtain ⟨c0, c1, c2, rfl⟩ : ∃ c0 c1 c2, l = [c0, c1, c2] := by
    match l, hsz with
    | [c0, c1, c2], _ => exact ⟨c0, c1, c2, rfl⟩
  obtain ⟨xs, n, _, _, _, hlen, hfs⟩ := DataW.trod_struct Tryz.underlying31 hf
  obtain ⟨y0, y1, y2, rfl⟩ : ∃ y0 y1 y2, xs = [y0, y1, y2] := by
    match xs, hlen with
    | [y0, y1, y2], _ => exact ⟨y0, y1, y2, rfl⟩
  have cl : Tryz.prog.cellsOf 29 = 1 := by kernel_rfl
  have cs : Tryz.prog.cellsOf 9 = 1 := by kernel_rfl
  have h0 : DataW.trod enc Tryz.prog W 0 (fun _ => true) true n 29 [c0] = some y0 := by have := hfs 0 _ rfl; simpa [Value.cells, cl] using this
  have h1 : DataW.trod enc Tryz.prog W 0 (fun _ => true) true n 9 [c1] = some y1 := by have := hfs 1 _ rfl; simpa [Value.cells, cl, cs] using this
  have h2 : DataW.trod enc Tryz.prog W 0 (fun _ => true) true n 9 [c2] = some y2 := by have := hfs 2 _ rfl; simpa [Value.cells, cl, cs] using this
  obtain ⟨a0, n0, k0, ks, rfl, r0, rfl, l0, f0⟩ := openLkR h0
  obtain ⟨x1, f1, _, w1⟩ := DataW.trod_string Tryz.underlying9 h1
  obtain ⟨x2, f2, _, w2⟩ := DataW.trod_string Tryz.underlying9 h2
  simp at f1 f2
  subst f1 f2
  exact ⟨⟨ks, x1, x2⟩, ⟨_, _, rfl, r0⟩, ⟨l0, f0⟩, w1, w2⟩
set_option maxRecDepth 100000 in
open Go.Deep Go.ChangeShapes Go.WideShapes Go.ChangeAt Go.Joins in
/-- An ask that comes in. -/
theorem openAk {H : Type} {enc : TypeId × Value → H} {W : World} {base : Nat} {v : Value} {y : DataW H} {p : List MemPlace} (hv : Value.okWide Tryz.prog W .any base 31 v) (h : DataW.Trod enc Tryz.prog W 0 (fun _ => true) true 31 v y p) :
    ∃ (cs : List Value) (a : Ak), v = .agg cs.toArray ∧ AkC W cs a ∧ a.fits := by
  obtain ⟨cs, rfl, hsz⟩ := okWide_struct Tryz.underlying31 hv
  rw [cellsAsk] at hsz
  obtain ⟨l⟩ := cs
  obtain ⟨fuel, hf⟩ := h
  obtain ⟨a, h1, h2⟩ := openAkC hsz hf
  exact ⟨l, a, rfl, h1, h2⟩

set_option maxHeartbeats 4000000 in
set_option maxRecDepth 100000 in
theorem szAsk_any (cs : List Value) (a : Ak) (n : Int) (w : World) (h0 : 0 ≤ n) (hn : n ≤ 1048576) (hf : a.fits) (h : AkC w cs a) :
    Calls Tryz.prog 6 #[.agg cs.toArray, .int .i64 n] w fun e w' => e = .returned (.int .i64 (leftK n a.size)) ∧ Below w.heap.size w w' := by
  obtain ⟨p0x, p0z, rfl, h1⟩ := h
  obtain ⟨f0, f1, f2⟩ := hf
  have hB0 : Below w.heap.size w (w.alloc (.cells #[.slice p0x a.tk.length p0z, .string a.me, .string a.pa] 31)) := (Below.refl _ w).alloc (Nat.le_refl _) _
  have F1 := Three.new w (.slice p0x a.tk.length p0z) (.string a.me) (.string a.pa) 31
  have HI := hid (show leftK n a.size = if (a.size : Int) ≤ n then n - (a.size : Int) else (-1 : Int) from rfl)
  have HZ := hid (show a.size = lzAll a.tk + a.me.size + a.pa.size from rfl)
  obtain ⟨N0, HN0⟩ : ∃ N : Nat, Hid (N = lzAll a.tk) := ⟨_, hid rfl⟩
  obtain ⟨N1, HN1⟩ : ∃ N : Nat, Hid (N = a.me.size) := ⟨_, hid rfl⟩
  obtain ⟨N2, HN2⟩ : ∃ N : Nat, Hid (N = a.pa.size) := ⟨_, hid rfl⟩
  have HN1' := HN1.out
  have e1 : a.me.size = N1 := HN1'.symm
  have u1 : N1 ≤ 9223372036854775807 := by unfold maxLen at f1; omega
  clear HN1'
  have HN2' := HN2.out
  have e2 : a.pa.size = N2 := HN2'.symm
  have u2 : N2 ≤ 9223372036854775807 := by unfold maxLen at f2; omega
  clear HN2'
  go_enter Tryz.func6, Tryz.ntmps6
  go_wp2_with fail
  generalize w.alloc (.cells #[.slice p0x a.tk.length p0z, .string a.me, .string a.pa] 31) = W0 at *
  refine (szLinkS_any _ a.tk (n) _ (by omega) (by omega) f0.1 f0.2 (h1.below hB0)).mono ?_
  rintro e w1 ⟨rfl, hB1⟩
  replace F1 := F1.below hB1
  replace hB0 := below_one hB0 hB1
  clear hB1
  obtain ⟨a0, a1, a2⟩ := F1.c
  by_cases c0 : (N0 : Int) ≤ n
  · rw [show leftL (n) a.tk = n - (N0 : Int) from (show leftK (n) _ = _ by unfold leftK; rw [← HN0.out]; exact if_pos c0)]
    have d0 : decide (n - (N0 : Int) < 0) = false := by simp; omega
    by_cases c1 : (N1 : Int) ≤ n - (N0 : Int)
    · have d1 : decide (n - (N0 : Int) - (N1 : Int) < 0) = false := by simp; omega
      by_cases c2 : (N2 : Int) ≤ n - (N0 : Int) - (N1 : Int)
      · have d2 : decide (n - (N0 : Int) - (N1 : Int) - (N2 : Int) < 0) = false := by simp; omega
        have HR := hid (show leftK n a.size = n - (N0 : Int) - (N1 : Int) - (N2 : Int) by rw [HI.out, if_pos (by rw [HZ.out, ← HN0.out, ← HN1.out, ← HN2.out]; push_cast; omega)]; rw [HZ.out, ← HN0.out, ← HN1.out, ← HN2.out]; push_cast; omega)
        go_wp2_with fail
        go_ret
        exact ⟨ret_int HR.out.symm, hB0⟩
      · have d2 : decide (n - (N0 : Int) - (N1 : Int) - (N2 : Int) < 0) = true := by simp; omega
        have HR := hid (show leftK n a.size = -1 by rw [HI.out, if_neg (by rw [HZ.out, ← HN0.out, ← HN1.out, ← HN2.out]; push_cast; omega)])
        go_wp2_with fail
        go_ret
        exact ⟨ret_int HR.out.symm, hB0⟩
    · have d1 : decide (n - (N0 : Int) - (N1 : Int) < 0) = true := by simp; omega
      have HR := hid (show leftK n a.size = -1 by rw [HI.out, if_neg (by rw [HZ.out, ← HN0.out, ← HN1.out, ← HN2.out]; push_cast; omega)])
      go_wp2_with fail
      go_ret
      exact ⟨ret_int HR.out.symm, hB0⟩
  · rw [show leftL (n) a.tk = -1 from (show leftK (n) _ = _ by unfold leftK; rw [← HN0.out]; exact if_neg c0)]
    have HR := hid (show leftK n a.size = -1 by rw [HI.out, if_neg (by rw [HZ.out, ← HN0.out, ← HN1.out, ← HN2.out]; push_cast; omega)])
    go_wp2_with fail
    go_ret
    exact ⟨ret_int HR.out.symm, hB0⟩

set_option maxHeartbeats 4000000 in
set_option maxRecDepth 100000 in
theorem eqAsk_same (cs cs' : List Value) (a : Ak) (w : World) (hs : a.short) (h : AkC w cs a) (h' : AkC w cs' a) :
    Calls Tryz.prog 14 #[.agg cs.toArray, .agg cs'.toArray] w fun e w' => e = .returned (.bool true) ∧ Below w.heap.size w w' := by
  obtain ⟨p0x, p0z, rfl, h0⟩ := h
  obtain ⟨q0x, q0z, rfl, h0'⟩ := h'
  obtain ⟨s0, s1, s2⟩ := hs
  have hB0 : Below w.heap.size w ((w.alloc (.cells #[.slice p0x a.tk.length p0z, .string a.me, .string a.pa] 46)).alloc (.cells #[.slice q0x a.tk.length q0z, .string a.me, .string a.pa] 46)) := ((Below.refl _ w).alloc (Nat.le_refl _) _).alloc (by simp) _
  have F1 := (Three.new w (.slice p0x a.tk.length p0z) (.string a.me) (.string a.pa) 46).below ((Below.refl _ _).alloc (Nat.le_refl _) (.cells #[.slice q0x a.tk.length q0z, .string a.me, .string a.pa] 46))
  have F2 := Three.at (w.alloc (.cells #[.slice p0x a.tk.length p0z, .string a.me, .string a.pa] 46)) (.slice q0x a.tk.length q0z) (.string a.me) (.string a.pa) 46 (k := w.heap.size + 1) (by simp)
  have e1 : (a.me.toList == a.me.toList) = true := by simp
  have e2 : (a.pa.toList == a.pa.toList) = true := by simp
  go_enter Tryz.func14, Tryz.ntmps14
  go_wp2_with fail
  generalize (w.alloc (.cells #[.slice p0x a.tk.length p0z, .string a.me, .string a.pa] 46)).alloc (.cells #[.slice q0x a.tk.length q0z, .string a.me, .string a.pa] 46) = W0 at *
  refine (eqLinkS_any _ _ a.tk a.tk _ (Nat.le_succ_of_le s0.1) (Nat.le_succ_of_le s0.1) (h0.below hB0) (h0'.below hB0)).mono ?_
  rintro e w1 ⟨rfl, hB1⟩
  rw [lsS_refl]
  replace F1 := F1.below hB1
  replace F2 := F2.below hB1
  replace hB0 := below_one hB0 hB1
  clear hB1
  obtain ⟨a0, a1, a2⟩ := F1.c
  obtain ⟨c0, c1, c2⟩ := F2.c
  go_wp2_with fail
  go_ret
  exact ⟨rfl, hB0⟩

set_option maxHeartbeats 16000000 in
set_option maxRecDepth 100000 in
theorem toAsk_any (cs : List Value) (a : Ak) (w : World) (hs : a.short) (h : AkC w cs a) :
    Calls Tryz.prog 10 #[.agg cs.toArray] w fun e w' => ∃ cs', e = .returned (.agg cs'.toArray) ∧ AkO w' w.heap.size w'.heap.size cs' a ∧ Below w.heap.size w w' := by
  obtain ⟨p0x, p0z, rfl, h0⟩ := h
  obtain ⟨s0, s1, s2⟩ := hs
  have hB0 : Below w.heap.size w (((w.alloc (.cells #[.slice p0x a.tk.length p0z, .string a.me, .string a.pa] 31)).alloc (.cells #[.slice none 0 0, .string ⟨#[]⟩, .string ⟨#[]⟩] 46)).alloc (.cells #[.slice none 0 0, .string ⟨#[]⟩, .string ⟨#[]⟩] 46)) := (((Below.refl _ w).alloc (Nat.le_refl _) _).alloc (by simp) _).alloc (by simp; omega) _
  have F1 := ((Three.new w (.slice p0x a.tk.length p0z) (.string a.me) (.string a.pa) 31).below ((Below.refl _ _).alloc (Nat.le_refl _) (.cells #[.slice none 0 0, .string ⟨#[]⟩, .string ⟨#[]⟩] 46))).below ((Below.refl _ _).alloc (Nat.le_refl _) (.cells #[.slice none 0 0, .string ⟨#[]⟩, .string ⟨#[]⟩] 46))
  have F2 := (Three.at (w.alloc (.cells #[.slice p0x a.tk.length p0z, .string a.me, .string a.pa] 31)) (.slice none 0 0) (.string ⟨#[]⟩) (.string ⟨#[]⟩) 46 (k := w.heap.size + 1) (by simp)).below ((Below.refl _ _).alloc (Nat.le_refl _) (.cells #[.slice none 0 0, .string ⟨#[]⟩, .string ⟨#[]⟩] 46))
  have F3 := Three.at ((w.alloc (.cells #[.slice p0x a.tk.length p0z, .string a.me, .string a.pa] 31)).alloc (.cells #[.slice none 0 0, .string ⟨#[]⟩, .string ⟨#[]⟩] 46)) (.slice none 0 0) (.string ⟨#[]⟩) (.string ⟨#[]⟩) 46 (k := w.heap.size + 1 + 1) (by simp)
  have hK : w.heap.size + 1 + 1 < (((w.alloc (.cells #[.slice p0x a.tk.length p0z, .string a.me, .string a.pa] 31)).alloc (.cells #[.slice none 0 0, .string ⟨#[]⟩, .string ⟨#[]⟩] 46)).alloc (.cells #[.slice none 0 0, .string ⟨#[]⟩, .string ⟨#[]⟩] 46)).heap.size := F3.lt
  go_enter Tryz.func10, Tryz.ntmps10
  go_wp2_with fail
  generalize ((w.alloc (.cells #[.slice p0x a.tk.length p0z, .string a.me, .string a.pa] 31)).alloc (.cells #[.slice none 0 0, .string ⟨#[]⟩, .string ⟨#[]⟩] 46)).alloc (.cells #[.slice none 0 0, .string ⟨#[]⟩, .string ⟨#[]⟩] 46) = W0 at *
  refine (toLinkS_any _ a.tk _ s0.1 (h0.below hB0)).mono ?_
  rintro e w1 ⟨v1, rfl, o0, hB1⟩
  replace o0 := RoO.of o0
  obtain ⟨r0x, r0z, rfl⟩ := RoO.len o0
  replace F1 := F1.below hB1
  replace F2 := F2.below hB1
  replace F3 := F3.below hB1
  replace hB0 := below_one hB0 hB1
  have hs1 := hB1.size
  clear hB1
  obtain ⟨a0, a1, a2⟩ := F1.c
  obtain ⟨c0, c1, c2⟩ := F3.c
  have f0 := F3.f 0
  have f1 := F3.f 1
  have f2 := F3.f 2
  have G3 := (((F3.s0 (.slice r0x a.tk.length r0z)).s1 (.string a.me)).s2 (.string a.pa))
  have G2 := (((F2.other (k' := w.heap.size + 1 + 1) (by omega) 0 (.slice r0x a.tk.length r0z)).other (k' := w.heap.size + 1 + 1) (by omega) 1 (.string a.me)).other (k' := w.heap.size + 1 + 1) (by omega) 2 (.string a.pa))
  obtain ⟨m0, m1, m2⟩ := G3.c
  obtain ⟨t0, t1, t2⟩ := G2.c
  have g0 := G2.f 0
  have g1 := G2.f 1
  have g2 := G2.f 2
  have G := (((G2.s0 (.slice r0x a.tk.length r0z)).s1 (.string a.me)).s2 (.string a.pa))
  have M9 : Mid (w.heap.size + 1) (w.heap.size + 1 + 1 + 1) w1 ((((((w1.setCell ⟨w.heap.size + 1 + 1, 0, none⟩ (.slice r0x a.tk.length r0z)).setCell ⟨w.heap.size + 1 + 1, 1, none⟩ (.string a.me)).setCell ⟨w.heap.size + 1 + 1, 2, none⟩ (.string a.pa)).setCell ⟨w.heap.size + 1, 0, none⟩ (.slice r0x a.tk.length r0z)).setCell ⟨w.heap.size + 1, 1, none⟩ (.string a.me)).setCell ⟨w.heap.size + 1, 2, none⟩ (.string a.pa)) := (((((((Mid.of_below (Below.refl _ _)).set (p := ⟨w.heap.size + 1 + 1, 0, none⟩) (by simp) (by simp) (.slice r0x a.tk.length r0z)).set (p := ⟨w.heap.size + 1 + 1, 1, none⟩) (by simp) (by simp) (.string a.me)).set (p := ⟨w.heap.size + 1 + 1, 2, none⟩) (by simp) (by simp) (.string a.pa)).set (p := ⟨w.heap.size + 1, 0, none⟩) (by simp) (by simp) (.slice r0x a.tk.length r0z)).set (p := ⟨w.heap.size + 1, 1, none⟩) (by simp) (by simp) (.string a.me)).set (p := ⟨w.heap.size + 1, 2, none⟩) (by simp) (by simp) (.string a.pa))
  replace o0 := o0.mid M9 (.inl (by omega))
  replace hB0 := ((((((hB0.setCell (p := ⟨w.heap.size + 1 + 1, 0, none⟩) (by simp; omega) (.slice r0x a.tk.length r0z)).setCell (p := ⟨w.heap.size + 1 + 1, 1, none⟩) (by simp; omega) (.string a.me)).setCell (p := ⟨w.heap.size + 1 + 1, 2, none⟩) (by simp; omega) (.string a.pa)).setCell (p := ⟨w.heap.size + 1, 0, none⟩) (by simp) (.slice r0x a.tk.length r0z)).setCell (p := ⟨w.heap.size + 1, 1, none⟩) (by simp) (.string a.me)).setCell (p := ⟨w.heap.size + 1, 2, none⟩) (by simp) (.string a.pa))
  have hE : w1.heap.size ≤ ((((((w1.setCell ⟨w.heap.size + 1 + 1, 0, none⟩ (.slice r0x a.tk.length r0z)).setCell ⟨w.heap.size + 1 + 1, 1, none⟩ (.string a.me)).setCell ⟨w.heap.size + 1 + 1, 2, none⟩ (.string a.pa)).setCell ⟨w.heap.size + 1, 0, none⟩ (.slice r0x a.tk.length r0z)).setCell ⟨w.heap.size + 1, 1, none⟩ (.string a.me)).setCell ⟨w.heap.size + 1, 2, none⟩ (.string a.pa)).heap.size := by simp
  have hW0 : w.heap.size ≤ W0.heap.size := by omega
  clear F1 F2 F3 M9
  go_wp2_with fail
  clear a0 a1 a2 c0 c1 c2 f0 f1 f2 m0 m1 m2 t0 t1 t2 g0 g1 g2
  generalize (((((w1.setCell ⟨w.heap.size + 1 + 1, 0, none⟩ (.slice r0x a.tk.length r0z)).setCell ⟨w.heap.size + 1 + 1, 1, none⟩ (.string a.me)).setCell ⟨w.heap.size + 1 + 1, 2, none⟩ (.string a.pa)).setCell ⟨w.heap.size + 1, 0, none⟩ (.slice r0x a.tk.length r0z)).setCell ⟨w.heap.size + 1, 1, none⟩ (.string a.me)).setCell ⟨w.heap.size + 1, 2, none⟩ (.string a.pa) = WE at *
  obtain ⟨d0, d1, d2⟩ := G.c
  exact bodyPost_ret (v := .agg #[.slice r0x a.tk.length r0z, .string a.me, .string a.pa]) (by simp [results, Tryz.results10, go_sem, d0, d1, d2]) rfl ⟨_, rfl, ⟨_, _, rfl, o0.mono (by omega) (by omega)⟩, hB0⟩

end Go.Proofs.YtnbojbcljfiamaaGreatDoor

namespace Go.Proofs.YtnbojbcljfiamaaGreatDoor
open Go.RowKit Go.Shelf

set_option maxHeartbeats 4000000 in
theorem szAskS_any (v : Value) (rs : List Ak) (n : Int) (w : World) (h0 : 0 ≤ n) (h1 : n ≤ 1048576) (hm : rs.length ≤ maxLen) (hf : ∀ r ∈ rs, r.fits) (hr : GsA 3 AkC w v rs) :
    Calls Tryz.prog 122 #[v, .int .i64 n] w fun e w' => e = .returned (.int .i64 (leftK n (gzAll Ak.size rs))) ∧ Below w.heap.size w w' := by
  obtain ⟨a, cap, rfl⟩ := hr.len
  unfold maxLen at hm
  by_cases c0 : n < rs.length
  · have HR := hid (show leftK n (gzAll Ak.size rs) = -1 from if_neg (by unfold gzAll; omega))
    go_enter Tryz.func122, Tryz.ntmps122
    go_wp2
    go_ret
    exact ⟨ret_int HR.out.symm, Below.refl _ _⟩
  · have d0 : decide (n - (rs.length : Int) < 0) = false := by simp; omega
    go_enter Tryz.func122, Tryz.ntmps122
    go_wp2
    go_loopw [1, 5] (fun m i wr => ∃ k : Nat, k ≤ rs.length ∧ i = .int .i64 k ∧ m = .int .i64 (n - rs.length - gzTo Ak.size rs k) ∧ 0 ≤ n - rs.length - gzTo Ak.size rs k ∧ Below w.heap.size w wr) (fun _ i _ => rs.length - (intOf i).toNat)
    case atStart => exact ⟨0, Nat.zero_le _, rfl, by rw [gzTo_zero]; go_num, by rw [gzTo_zero]; omega, Below.refl _ _⟩
    case round =>
      obtain ⟨k, hk, rfl, rfl, hp, hB⟩ := hrel
      by_cases hlt : k < rs.length
      · obtain ⟨b, off, cs, rfl, hb, hcap, hq, hA⟩ := (hr.below (fun _ _ h => h.below hB) hB).at hlt
        have hA0 := hA
        obtain ⟨p0x, p0z, hcsq, g0⟩ := hA
        subst hcsq
        have q0 := hq 0 _ rfl
        have q1 := hq 1 _ rfl
        have q2 := hq 2 _ rfl
        rw [Nat.add_zero] at q0
        have f1 := hf rs[k] (List.getElem_mem hlt)
        have HS := hid (gzTo_succ (f := Ak.size) hlt)
        have HT := hid (gzTo_le Ak.size rs (k + 1))
        generalize rs[k] = r at *
        clear hq hr
        go_wp2_with fail
        refine (szAsk_any _ r _ _ hp (by omega) f1 hA0).mono ?_
        rintro e w1 ⟨rfl, hB1⟩
        have hB2 := below_one hB hB1
        by_cases c1 : (r.size : Int) ≤ n - rs.length - gzTo Ak.size rs k
        · have hv : leftK (n - rs.length - gzTo Ak.size rs k) r.size = n - rs.length - gzTo Ak.size rs (k + 1) := by
            rw [HS.out]
            unfold leftK
            rw [if_pos (by omega)]
            omega
          have hq : 0 ≤ n - rs.length - gzTo Ak.size rs (k + 1) := by rw [HS.out]; omega
          rw [hv]
          have d1 : decide (n - (rs.length : Int) - (gzTo Ak.size rs (k + 1) : Int) < 0) = false := by simp; omega
          clear hv hB1 q0 q1 q2 hA0 g0
          go_wp2_with fail
          go_roundw
          case rel => exact ⟨k + 1, by omega, by go_num, rfl, hq, hB2⟩
          case measure => simp [intOf]; omega
        · have hv : leftK (n - rs.length - gzTo Ak.size rs k) r.size = -1 := if_neg (by omega)
          have HR := hid (show leftK n (gzAll Ak.size rs) = -1 from if_neg (by have := HT.out; rw [HS.out] at this; unfold gzAll; omega))
          rw [hv]
          clear hv hB1 q0 q1 q2 hA0 g0
          go_wp2_with fail
          go_ret
          exact ⟨ret_int HR.out.symm, hB2⟩
      · obtain rfl : k = rs.length := by omega
        have HR := hid (show leftK n (gzAll Ak.size rs) = n - rs.length - gzTo Ak.size rs rs.length by unfold leftK gzAll; rw [if_pos (by omega)]; omega)
        go_wp2
        go_ret
        exact ⟨ret_int HR.out.symm, hB⟩

set_option maxHeartbeats 4000000 in
/-- A list is like itself, wherever the two lie. -/
theorem eqAskS_same (v v' : Value) (ss : List Ak) (w : World) (hn : gShort Ak.short ss) (hr : GsA 3 AkC w v ss) (hr' : GsA 3 AkC w v' ss) :
    Calls Tryz.prog 128 #[v, v'] w fun e w' => e = .returned (.bool true) ∧ Below w.heap.size w w' := by
  obtain ⟨a, cap, rfl⟩ := hr.len
  obtain ⟨a', cap', rfl⟩ := hr'.len
  have hn1 := hn.1
  have e0 : ((ss.length : Int) != (ss.length : Int)) = false := by simp
  go_enter Tryz.func128, Tryz.ntmps128
  go_wp2
  go_loopw [5] (fun i wr => ∃ j : Nat, j ≤ ss.length ∧ i = .int .i64 j ∧ Below w.heap.size w wr) (fun i _ => ss.length - (intOf i).toNat)
  case atStart => exact ⟨0, Nat.zero_le _, rfl, Below.refl _ _⟩
  case round =>
    obtain ⟨j, hj, rfl, hB⟩ := hrel
    by_cases hlt : j < ss.length
    · obtain ⟨b, off, cs, rfl, hb, hcap, hq, hA⟩ := (hr.below (fun _ _ h => h.below hB) hB).at hlt
      have hA0 := hA
      obtain ⟨p0x, p0z, hcsq, g0⟩ := hA
      subst hcsq
      have q0 := hq 0 _ rfl
      have q1 := hq 1 _ rfl
      have q2 := hq 2 _ rfl
      rw [Nat.add_zero] at q0
      obtain ⟨b', off', cs', rfl, hb', hcap', hq', hA'⟩ := (hr'.below (fun _ _ h => h.below hB) hB).at hlt
      have hA1 := hA'
      obtain ⟨q0x, q0z, hcsp, g'0⟩ := hA'
      subst hcsp
      have p0 := hq' 0 _ rfl
      have p1 := hq' 1 _ rfl
      have p2 := hq' 2 _ rfl
      rw [Nat.add_zero] at p0
      have hs := hn.2 ss[j] (List.getElem_mem hlt)
      generalize ss[j] = s at *
      clear hq hq' hr hr'
      go_wp2_with fail
      go_region_with (go_at_call 14; refine (eqAsk_same _ _ s _ hs (hA0.below (Below.refl _ _).drew) (hA1.below (Below.refl _ _).drew)).mono ?_; rintro e w1 ⟨rfl, hB1⟩)
      all_goals go_wp2
      all_goals go_roundw
      all_goals first
        | exact ⟨j + 1, by omega, by go_num, below_one hB (below_drew1 hB1)⟩
        | (simp [intOf]; omega)
    · obtain rfl : j = ss.length := by omega
      go_wp2
      go_ret
      exact ⟨rfl, hB⟩

theorem infoAsk : (Tryz.prog.info? 46).map (fun i => (i.zero, i.size, i.bytes)) = some (some (.agg #[.slice none 0 0, .string ⟨#[]⟩, .string ⟨#[]⟩]), 3, 56) := by kernel_rfl
set_option maxHeartbeats 8000000 in
theorem toAskS_any (v : Value) (ss : List Ak) (w : World) (hm : gShort Ak.short ss) (hr : GsA 3 AkC w v ss) :
    Calls Tryz.prog 125 #[v] w fun e w' => ∃ v', e = .returned v' ∧ GsO 46 3 AkO w' w.heap.size w'.heap.size v' ss ∧ Below w.heap.size w w' := by
  obtain ⟨a, cap, rfl⟩ := hr.len
  obtain ⟨i0, hi, hz0, hz1, hz2⟩ := info_parts infoAsk
  have hm1 := hm.1
  go_enter Tryz.func125, Tryz.ntmps125
  go_wp2_with (at_make; refine wpList_make_full _ rfl _ _ 152 rfl w.heap.size 46 i0 _ 3 Tryz.underlying152 hi hz0 hz1 _ _ _ _ ss.length rfl rfl rfl rfl (by rw [hz2]; omega) (by unfold maxLen; omega) (Nat.le_refl _) ?_; intro w1 hown hgrow)
  have hB1 : Below w.heap.size w w1 := (Below.refl _ w).grown hgrow (Nat.le_refl _) (fun k e => by cases e)
  go_loopw [4] (fun i wr => ∃ k : Nat, k ≤ ss.length ∧ i = .int .i64 k ∧ ∃ ys cs s t, GsK 46 3 AkO wr w.heap.size wr.heap.size (.slice (some ⟨w.heap.size, 0, none⟩) ss.length ss.length) ss.length ss k ys cs s t ∧ Below w.heap.size w wr) (fun i _ => ss.length - (intOf i).toNat)
  case atStart => exact ⟨0, Nat.zero_le _, rfl, _, _, _, _, GsK.start _ _ _ _ _ _ _ _ _ _ hown (fun j hj => (hown.lt j hj).2), hB1⟩
  case round =>
    obtain ⟨k, hk, rfl, ys, cs0, s0, t0', hK, hB⟩ := hrel
    by_cases hlt : k < ss.length
    · obtain ⟨b, off, cs, rfl, hb, hcap, hq, hA⟩ := (hr.below (fun _ _ h => h.below hB) hB).at hlt
      have hA0 := hA
      obtain ⟨p0x, p0z, hcsq, g0⟩ := hA
      subst hcsq
      have q0 := hq 0 _ rfl
      have q1 := hq 1 _ rfl
      have q2 := hq 2 _ rfl
      rw [Nat.add_zero] at q0
      have hsh := hm.2 ss[k] (List.getElem_mem hlt)
      have HA := hid (fun (w2 : World) (zs : List Value) (hB2 : Below wr.heap.size wr w2) (hz : zs.length = 3) (hn : AkO w2 wr.heap.size w2.heap.size zs ss[k]) => GsK.add (w2 := w2) (zs := zs) hK hB.size hB2 hlt hlt hz (fun _ _ _ _ _ _ _ M h ho => h.mid M ho) (fun _ _ _ _ h => h.below hB2) hn)
      clear hq hr
      go_wp2_with fail
      refine (toAsk_any _ ss[k] _ hsh hA0).mono ?_
      rintro e w2 ⟨zs, rfl, hO, hB2⟩
      have hOc := hO
      obtain ⟨o0x, o0z, hzs, o0⟩ := hO
      subst hzs
      have HK := hid (HA.out w2 _ hB2 rfl hOc)
      have hrow2 := ownsRow_below hK.row hB2
      have hB3 := below_one hB hB2
      have hlen : ys.length = ss.length * 3 := hrow2.1
      have s0 := hrow2.cellAt (k * 3) (by omega)
      have s1 := hrow2.cellAt (k * 3 + 1) (by omega)
      have s2 := hrow2.cellAt (k * 3 + 2) (by omega)
      rw [List.getElem?_eq_getElem (by omega)] at s0 s1 s2
      have t0 := hrow2.frozenAt (k * 3)
      have t1 := hrow2.frozenAt (k * 3 + 1)
      have t2 := hrow2.frozenAt (k * 3 + 2)
      generalize ys[k * 3] = z0 at *
      generalize ys[k * 3 + 1] = z1 at *
      generalize ys[k * 3 + 2] = z2 at *
      generalize ss[k] = s at *
      clear q0 q1 q2 hB2 hK HA hA0 g0 o0 hOc
      go_wp2_with fail
      go_roundw
      case rel => exact ⟨k + 1, by omega, by go_num, _, _, _, _, HK.out, (((hB3.setCell (p := ⟨w.heap.size, _, none⟩) (Nat.le_refl _) _).setCell (p := ⟨w.heap.size, _, none⟩) (Nat.le_refl _) _).setCell (p := ⟨w.heap.size, _, none⟩) (Nat.le_refl _) _)⟩
      case measure => simp [intOf]; omega
    · obtain rfl : k = ss.length := by omega
      go_wp2
      go_ret
      exact ⟨_, rfl, ⟨ys, cs0, s0, t0', hK⟩, hB⟩

instance : Inhabited Ak := ⟨⟨[], ByteArray.empty, ByteArray.empty⟩⟩
/-- A delivery. -/
structure Dv where
  at_ : ByteArray
  ak : Ak
  ver : Int
  tim : Int
instance : Inhabited Dv := ⟨⟨ByteArray.empty, default, 0, 0⟩⟩
/-- These cells read as this one. -/
def DvC (w : World) (cs : List Value) (d : Dv) : Prop := ∃ p1x p1z, cs = [.string d.at_, .slice p1x d.ak.tk.length p1z, .string d.ak.me, .string d.ak.pa, .int .i64 d.ver, .int .i64 d.tim] ∧ AkC w [.slice p1x d.ak.tk.length p1z, .string d.ak.me, .string d.ak.pa] d.ak
/-- .. of one's own, in blocks from base on, below top. -/
def DvO (w : World) (base top : Nat) (cs : List Value) (d : Dv) : Prop := ∃ p1x p1z, cs = [.string d.at_, .slice p1x d.ak.tk.length p1z, .string d.ak.me, .string d.ak.pa, .int .i64 d.ver, .int .i64 d.tim] ∧ AkO w base top [.slice p1x d.ak.tk.length p1z, .string d.ak.me, .string d.ak.pa] d.ak
def Dv.fits (d : Dv) : Prop := d.at_.size ≤ maxLen ∧ d.ak.fits
def Dv.size (d : Dv) : Nat := d.at_.size + d.ak.size
def Dv.short (d : Dv) : Prop := d.at_.size ≤ 1048576 ∧ d.ak.short
theorem DvC.below {w w' : World} {cs : List Value} {d : Dv} (h : DvC w cs d) (hB : Below w.heap.size w w') : DvC w' cs d := by
  obtain ⟨p1x, p1z, rfl, h0⟩ := h
  exact ⟨_, _, rfl, h0.below hB⟩
theorem DvO.mid {lo hi : Nat} {w w1 : World} {base top : Nat} {cs : List Value} {d : Dv} (h : DvO w base top cs d) (M : Mid lo hi w w1) (ho : hi ≤ base ∨ top ≤ lo) : DvO w1 base top cs d := by
  obtain ⟨p1x, p1z, rfl, h0⟩ := h
  exact ⟨_, _, rfl, h0.mid M (by omega)⟩
theorem DvO.below {w w1 : World} {base top : Nat} {cs : List Value} {d : Dv} (h : DvO w base top cs d) (hB : Below w.heap.size w w1) : DvO w1 base top cs d := h.mid (Mid.of_below (lo := 0) (hi := 0) hB) (.inl (Nat.zero_le _))
theorem DvO.mono {w : World} {base base' top top' : Nat} {cs : List Value} {d : Dv} (h : DvO w base top cs d) (hb : base' ≤ base) (ht : top ≤ top') : DvO w base' top' cs d := by
  obtain ⟨p1x, p1z, rfl, h0⟩ := h
  exact ⟨_, _, rfl, h0.mono hb ht⟩
theorem Dv.short_of {d : Dv} (h : d.size ≤ 1048576) : d.short := by
  unfold Dv.size at h
  exact ⟨by omega, Ak.short_of (by omega)⟩
theorem DvO.a {w : World} {base top : Nat} {cs : List Value} {d : Dv} (h : DvO w base top cs d) : DvC w cs d := by
  obtain ⟨_, _, rfl, h0⟩ := h
  exact ⟨_, _, rfl, h0.a⟩

set_option maxRecDepth 100000 in
theorem cellsDelivery : Tryz.prog.cellsOf 62 = 6 := by kernel_rfl
set_option maxRecDepth 100000 in
open Go.Deep Go.ChangeShapes Go.WideShapes Go.ChangeAt Go.Joins in
theorem openDvC {H : Type} {enc : TypeId × Value → H} {W : World} {l : List Value} {y : DataW H × List MemPlace} {fuel : Nat} (hsz : l.length = 6) (hf : DataW.trod enc Tryz.prog W 0 (fun _ => true) true fuel 62 l = some y) :
    ∃ d : Dv, DvC W l d ∧ d.fits := by
  obtain ⟨c0, c1, c2, c3, c4, c5, rfl⟩ : ∃ c0 c1 c2 c3 c4 c5, l = [c0, c1, c2, c3, c4, c5] := by
    match l, hsz with
    | [c0, c1, c2, c3, c4, c5], _ => exact ⟨c0, c1, c2, c3, c4, c5, rfl⟩
  obtain ⟨xs, n, _, _, _, hlen, hfs⟩ := DataW.trod_struct Tryz.underlying62 hf
  obtain ⟨y0, y1, y2, y3, rfl⟩ : ∃ y0 y1 y2 y3, xs = [y0, y1, y2, y3] := by
    match xs, hlen with
    | [y0, y1, y2, y3], _ => exact ⟨y0, y1, y2, y3, rfl⟩
  have ci : Tryz.prog.cellsOf 3 = 1 := by kernel_rfl
  have cs : Tryz.prog.cellsOf 9 = 1 := by kernel_rfl
  have h0 : DataW.trod enc Tryz.prog W 0 (fun _ => true) true n 9 [c0] = some y0 := by have := hfs 0 _ rfl; simpa [Value.cells, cs] using this
  have h1 : DataW.trod enc Tryz.prog W 0 (fun _ => true) true n 31 [c1, c2, c3] = some y1 := by have := hfs 1 _ rfl; simpa [Value.cells, cs, cellsAsk] using this
  have h2 : DataW.trod enc Tryz.prog W 0 (fun _ => true) true n 3 [c4] = some y2 := by have := hfs 2 _ rfl; simpa [Value.cells, cs, cellsAsk, ci] using this
  have h3 : DataW.trod enc Tryz.prog W 0 (fun _ => true) true n 3 [c5] = some y3 := by have := hfs 3 _ rfl; simpa [Value.cells, cs, cellsAsk, ci] using this
  obtain ⟨x0, f0, _, w0⟩ := DataW.trod_string Tryz.underlying9 h0
  obtain ⟨a, hA, w1⟩ := openAkC rfl h1
  obtain ⟨x2, f2, _, _⟩ := DataW.trod_int Tryz.underlying3 h2
  obtain ⟨x3, f3, _, _⟩ := DataW.trod_int Tryz.underlying3 h3
  simp at f0 f2 f3
  subst f0 f2 f3
  obtain ⟨px, pz, he, _⟩ := id hA
  cases he
  exact ⟨⟨x0, a, x2, x3⟩, ⟨_, _, rfl, hA⟩, w0, w1⟩
set_option maxRecDepth 100000 in
open Go.Deep Go.ChangeShapes Go.WideShapes Go.ChangeAt Go.Joins in
/-- A delivery that comes in. -/
theorem openDv {H : Type} {enc : TypeId × Value → H} {W : World} {base : Nat} {v : Value} {y : DataW H} {p : List MemPlace} (hv : Value.okWide Tryz.prog W .any base 62 v) (h : DataW.Trod enc Tryz.prog W 0 (fun _ => true) true 62 v y p) :
    ∃ (cs : List Value) (d : Dv), v = .agg cs.toArray ∧ DvC W cs d ∧ d.fits := by
  obtain ⟨cs, rfl, hsz⟩ := okWide_struct Tryz.underlying62 hv
  rw [cellsDelivery] at hsz
  obtain ⟨l⟩ := cs
  obtain ⟨fuel, hf⟩ := h
  obtain ⟨a, h1, h2⟩ := openDvC hsz hf
  exact ⟨l, a, rfl, h1, h2⟩

set_option maxHeartbeats 4000000 in
set_option maxRecDepth 100000 in
theorem szDelivery_any (cs : List Value) (d : Dv) (n : Int) (w : World) (h0 : 0 ≤ n) (hn : n ≤ 1048576) (hf : d.fits) (h : DvC w cs d) :
    Calls Tryz.prog 17 #[.agg cs.toArray, .int .i64 n] w fun e w' => e = .returned (.int .i64 (leftK n d.size)) ∧ Below w.heap.size w w' := by
  obtain ⟨p1x, p1z, rfl, h2⟩ := h
  obtain ⟨f0, f1⟩ := hf
  have hB0 : Below w.heap.size w (w.alloc (.cells #[.string d.at_, .slice p1x d.ak.tk.length p1z, .string d.ak.me, .string d.ak.pa, .int .i64 d.ver, .int .i64 d.tim] 62)) := (Below.refl _ w).alloc (Nat.le_refl _) _
  have F1 := Six.new w (.string d.at_) (.slice p1x d.ak.tk.length p1z) (.string d.ak.me) (.string d.ak.pa) (.int .i64 d.ver) (.int .i64 d.tim) 62
  have HI := hid (show leftK n d.size = if (d.size : Int) ≤ n then n - (d.size : Int) else (-1 : Int) from rfl)
  have HZ := hid (show d.size = d.at_.size + d.ak.size from rfl)
  obtain ⟨N0, HN0⟩ : ∃ N : Nat, Hid (N = d.at_.size) := ⟨_, hid rfl⟩
  obtain ⟨N1, HN1⟩ : ∃ N : Nat, Hid (N = d.ak.size) := ⟨_, hid rfl⟩
  have HN0' := HN0.out
  have e0 : d.at_.size = N0 := HN0'.symm
  have u0 : N0 ≤ 9223372036854775807 := by unfold maxLen at f0; omega
  clear HN0'
  go_enter Tryz.func17, Tryz.ntmps17
  by_cases c0 : (N0 : Int) ≤ n
  · have d0 : decide (n - (N0 : Int) < 0) = false := by simp; omega
    go_wp2_with fail
    generalize w.alloc (.cells #[.string d.at_, .slice p1x d.ak.tk.length p1z, .string d.ak.me, .string d.ak.pa, .int .i64 d.ver, .int .i64 d.tim] 62) = W0 at *
    refine (szAsk_any _ d.ak (n - (N0 : Int)) _ (by omega) (by omega) f1 (h2.below hB0)).mono ?_
    rintro e w2 ⟨rfl, hB2⟩
    replace F1 := F1.below hB2
    replace hB0 := below_one hB0 hB2
    clear hB2
    obtain ⟨a0, a1, a2, a3, a4, a5⟩ := F1.c
    by_cases c1 : (N1 : Int) ≤ n - (N0 : Int)
    · rw [show leftK (n - (N0 : Int)) d.ak.size = n - (N0 : Int) - (N1 : Int) from (show leftK (n - (N0 : Int)) _ = _ by unfold leftK; rw [← HN1.out]; exact if_pos c1)]
      have d1 : decide (n - (N0 : Int) - (N1 : Int) < 0) = false := by simp; omega
      have HR := hid (show leftK n d.size = n - (N0 : Int) - (N1 : Int) by rw [HI.out, if_pos (by rw [HZ.out, ← HN0.out, ← HN1.out]; push_cast; omega)]; rw [HZ.out, ← HN0.out, ← HN1.out]; push_cast; omega)
      go_wp2_with fail
      go_ret
      exact ⟨ret_int HR.out.symm, hB0⟩
    · rw [show leftK (n - (N0 : Int)) d.ak.size = -1 from (show leftK (n - (N0 : Int)) _ = _ by unfold leftK; rw [← HN1.out]; exact if_neg c1)]
      have HR := hid (show leftK n d.size = -1 by rw [HI.out, if_neg (by rw [HZ.out, ← HN0.out, ← HN1.out]; push_cast; omega)])
      go_wp2_with fail
      go_ret
      exact ⟨ret_int HR.out.symm, hB0⟩
  · have d0 : decide (n - (N0 : Int) < 0) = true := by simp; omega
    have HR := hid (show leftK n d.size = -1 by rw [HI.out, if_neg (by rw [HZ.out, ← HN0.out, ← HN1.out]; push_cast; omega)])
    go_wp2_with fail
    go_ret
    exact ⟨ret_int HR.out.symm, hB0⟩

set_option maxHeartbeats 4000000 in
set_option maxRecDepth 100000 in
theorem eqDelivery_same (cs cs' : List Value) (d : Dv) (w : World) (hs : d.short) (h : DvC w cs d) (h' : DvC w cs' d) :
    Calls Tryz.prog 23 #[.agg cs.toArray, .agg cs'.toArray] w fun e w' => e = .returned (.bool true) ∧ Below w.heap.size w w' := by
  obtain ⟨p1x, p1z, rfl, h1⟩ := h
  obtain ⟨q1x, q1z, rfl, h1'⟩ := h'
  obtain ⟨s0, s1⟩ := hs
  have hB0 : Below w.heap.size w ((w.alloc (.cells #[.string d.at_, .slice p1x d.ak.tk.length p1z, .string d.ak.me, .string d.ak.pa, .int .i64 d.ver, .int .i64 d.tim] 76)).alloc (.cells #[.string d.at_, .slice q1x d.ak.tk.length q1z, .string d.ak.me, .string d.ak.pa, .int .i64 d.ver, .int .i64 d.tim] 76)) := ((Below.refl _ w).alloc (Nat.le_refl _) _).alloc (by simp) _
  have F1 := (Six.new w (.string d.at_) (.slice p1x d.ak.tk.length p1z) (.string d.ak.me) (.string d.ak.pa) (.int .i64 d.ver) (.int .i64 d.tim) 76).below ((Below.refl _ _).alloc (Nat.le_refl _) (.cells #[.string d.at_, .slice q1x d.ak.tk.length q1z, .string d.ak.me, .string d.ak.pa, .int .i64 d.ver, .int .i64 d.tim] 76))
  have F2 := Six.at (w.alloc (.cells #[.string d.at_, .slice p1x d.ak.tk.length p1z, .string d.ak.me, .string d.ak.pa, .int .i64 d.ver, .int .i64 d.tim] 76)) (.string d.at_) (.slice q1x d.ak.tk.length q1z) (.string d.ak.me) (.string d.ak.pa) (.int .i64 d.ver) (.int .i64 d.tim) 76 (k := w.heap.size + 1) (by simp)
  have e0 : (d.at_.toList == d.at_.toList) = true := by simp
  have e2 : (d.ver != d.ver) = false := by simp
  have e3 : (d.tim != d.tim) = false := by simp
  go_enter Tryz.func23, Tryz.ntmps23
  go_wp2_with fail
  generalize (w.alloc (.cells #[.string d.at_, .slice p1x d.ak.tk.length p1z, .string d.ak.me, .string d.ak.pa, .int .i64 d.ver, .int .i64 d.tim] 76)).alloc (.cells #[.string d.at_, .slice q1x d.ak.tk.length q1z, .string d.ak.me, .string d.ak.pa, .int .i64 d.ver, .int .i64 d.tim] 76) = W0 at *
  refine (eqAsk_same _ _ d.ak _ s1 (h1.below hB0) (h1'.below hB0)).mono ?_
  rintro e w2 ⟨rfl, hB2⟩
  replace F1 := F1.below hB2
  replace F2 := F2.below hB2
  replace hB0 := below_one hB0 hB2
  clear hB2
  obtain ⟨a0, a1, a2, a3, a4, a5⟩ := F1.c
  obtain ⟨c0, c1, c2, c3, c4, c5⟩ := F2.c
  go_wp2_with fail
  go_ret
  exact ⟨rfl, hB0⟩

set_option maxHeartbeats 16000000 in
set_option maxRecDepth 100000 in
theorem toDelivery_any (cs : List Value) (d : Dv) (w : World) (hs : d.short) (h : DvC w cs d) :
    Calls Tryz.prog 20 #[.agg cs.toArray] w fun e w' => ∃ cs', e = .returned (.agg cs'.toArray) ∧ DvO w' w.heap.size w'.heap.size cs' d ∧ Below w.heap.size w w' := by
  obtain ⟨p1x, p1z, rfl, h1⟩ := h
  obtain ⟨s0, s1⟩ := hs
  have hB0 : Below w.heap.size w (((w.alloc (.cells #[.string d.at_, .slice p1x d.ak.tk.length p1z, .string d.ak.me, .string d.ak.pa, .int .i64 d.ver, .int .i64 d.tim] 62)).alloc (.cells #[.string ⟨#[]⟩, .slice none 0 0, .string ⟨#[]⟩, .string ⟨#[]⟩, .int .i64 0, .int .i64 0] 76)).alloc (.cells #[.string d.at_, .slice none 0 0, .string ⟨#[]⟩, .string ⟨#[]⟩, .int .i64 0, .int .i64 0] 76)) := (((Below.refl _ w).alloc (Nat.le_refl _) _).alloc (by simp) _).alloc (by simp; omega) _
  have F1 := ((Six.new w (.string d.at_) (.slice p1x d.ak.tk.length p1z) (.string d.ak.me) (.string d.ak.pa) (.int .i64 d.ver) (.int .i64 d.tim) 62).below ((Below.refl _ _).alloc (Nat.le_refl _) (.cells #[.string ⟨#[]⟩, .slice none 0 0, .string ⟨#[]⟩, .string ⟨#[]⟩, .int .i64 0, .int .i64 0] 76))).below ((Below.refl _ _).alloc (Nat.le_refl _) (.cells #[.string d.at_, .slice none 0 0, .string ⟨#[]⟩, .string ⟨#[]⟩, .int .i64 0, .int .i64 0] 76))
  have F2 := (Six.at (w.alloc (.cells #[.string d.at_, .slice p1x d.ak.tk.length p1z, .string d.ak.me, .string d.ak.pa, .int .i64 d.ver, .int .i64 d.tim] 62)) (.string ⟨#[]⟩) (.slice none 0 0) (.string ⟨#[]⟩) (.string ⟨#[]⟩) (.int .i64 0) (.int .i64 0) 76 (k := w.heap.size + 1) (by simp)).below ((Below.refl _ _).alloc (Nat.le_refl _) (.cells #[.string d.at_, .slice none 0 0, .string ⟨#[]⟩, .string ⟨#[]⟩, .int .i64 0, .int .i64 0] 76))
  have F3 := Six.at ((w.alloc (.cells #[.string d.at_, .slice p1x d.ak.tk.length p1z, .string d.ak.me, .string d.ak.pa, .int .i64 d.ver, .int .i64 d.tim] 62)).alloc (.cells #[.string ⟨#[]⟩, .slice none 0 0, .string ⟨#[]⟩, .string ⟨#[]⟩, .int .i64 0, .int .i64 0] 76)) (.string d.at_) (.slice none 0 0) (.string ⟨#[]⟩) (.string ⟨#[]⟩) (.int .i64 0) (.int .i64 0) 76 (k := w.heap.size + 1 + 1) (by simp)
  have hK : w.heap.size + 1 + 1 < (((w.alloc (.cells #[.string d.at_, .slice p1x d.ak.tk.length p1z, .string d.ak.me, .string d.ak.pa, .int .i64 d.ver, .int .i64 d.tim] 62)).alloc (.cells #[.string ⟨#[]⟩, .slice none 0 0, .string ⟨#[]⟩, .string ⟨#[]⟩, .int .i64 0, .int .i64 0] 76)).alloc (.cells #[.string d.at_, .slice none 0 0, .string ⟨#[]⟩, .string ⟨#[]⟩, .int .i64 0, .int .i64 0] 76)).heap.size := F3.lt
  go_enter Tryz.func20, Tryz.ntmps20
  go_wp2_with fail
  generalize ((w.alloc (.cells #[.string d.at_, .slice p1x d.ak.tk.length p1z, .string d.ak.me, .string d.ak.pa, .int .i64 d.ver, .int .i64 d.tim] 62)).alloc (.cells #[.string ⟨#[]⟩, .slice none 0 0, .string ⟨#[]⟩, .string ⟨#[]⟩, .int .i64 0, .int .i64 0] 76)).alloc (.cells #[.string d.at_, .slice none 0 0, .string ⟨#[]⟩, .string ⟨#[]⟩, .int .i64 0, .int .i64 0] 76) = W0 at *
  refine (toAsk_any _ d.ak _ s1 (h1.below hB0)).mono ?_
  rintro e w1 ⟨v1, rfl, o1, hB1⟩
  obtain ⟨r1x, r1z, rfl, _⟩ := id o1
  replace F1 := F1.below hB1
  replace F2 := F2.below hB1
  replace F3 := F3.below hB1
  replace hB0 := below_one hB0 hB1
  have hs1 := hB1.size
  clear hB1
  obtain ⟨a0, a1, a2, a3, a4, a5⟩ := F1.c
  obtain ⟨c0, c1, c2, c3, c4, c5⟩ := F3.c
  have f1 := F3.f 1
  have f2 := F3.f 2
  have f3 := F3.f 3
  have f4 := F3.f 4
  have f5 := F3.f 5
  have G3 := (((((F3.s1 (.slice r1x d.ak.tk.length r1z)).s2 (.string d.ak.me)).s3 (.string d.ak.pa)).s4 (.int .i64 d.ver)).s5 (.int .i64 d.tim))
  have G2 := (((((F2.other (k' := w.heap.size + 1 + 1) (by omega) 1 (.slice r1x d.ak.tk.length r1z)).other (k' := w.heap.size + 1 + 1) (by omega) 2 (.string d.ak.me)).other (k' := w.heap.size + 1 + 1) (by omega) 3 (.string d.ak.pa)).other (k' := w.heap.size + 1 + 1) (by omega) 4 (.int .i64 d.ver)).other (k' := w.heap.size + 1 + 1) (by omega) 5 (.int .i64 d.tim))
  obtain ⟨m0, m1, m2, m3, m4, m5⟩ := G3.c
  obtain ⟨t0, t1, t2, t3, t4, t5⟩ := G2.c
  have g0 := G2.f 0
  have g1 := G2.f 1
  have g2 := G2.f 2
  have g3 := G2.f 3
  have g4 := G2.f 4
  have g5 := G2.f 5
  have G := ((((((G2.s0 (.string d.at_)).s1 (.slice r1x d.ak.tk.length r1z)).s2 (.string d.ak.me)).s3 (.string d.ak.pa)).s4 (.int .i64 d.ver)).s5 (.int .i64 d.tim))
  have M9 : Mid (w.heap.size + 1) (w.heap.size + 1 + 1 + 1) w1 (((((((((((w1.setCell ⟨w.heap.size + 1 + 1, 1, none⟩ (.slice r1x d.ak.tk.length r1z)).setCell ⟨w.heap.size + 1 + 1, 2, none⟩ (.string d.ak.me)).setCell ⟨w.heap.size + 1 + 1, 3, none⟩ (.string d.ak.pa)).setCell ⟨w.heap.size + 1 + 1, 4, none⟩ (.int .i64 d.ver)).setCell ⟨w.heap.size + 1 + 1, 5, none⟩ (.int .i64 d.tim)).setCell ⟨w.heap.size + 1, 0, none⟩ (.string d.at_)).setCell ⟨w.heap.size + 1, 1, none⟩ (.slice r1x d.ak.tk.length r1z)).setCell ⟨w.heap.size + 1, 2, none⟩ (.string d.ak.me)).setCell ⟨w.heap.size + 1, 3, none⟩ (.string d.ak.pa)).setCell ⟨w.heap.size + 1, 4, none⟩ (.int .i64 d.ver)).setCell ⟨w.heap.size + 1, 5, none⟩ (.int .i64 d.tim)) := ((((((((((((Mid.of_below (Below.refl _ _)).set (p := ⟨w.heap.size + 1 + 1, 1, none⟩) (by simp) (by simp) (.slice r1x d.ak.tk.length r1z)).set (p := ⟨w.heap.size + 1 + 1, 2, none⟩) (by simp) (by simp) (.string d.ak.me)).set (p := ⟨w.heap.size + 1 + 1, 3, none⟩) (by simp) (by simp) (.string d.ak.pa)).set (p := ⟨w.heap.size + 1 + 1, 4, none⟩) (by simp) (by simp) (.int .i64 d.ver)).set (p := ⟨w.heap.size + 1 + 1, 5, none⟩) (by simp) (by simp) (.int .i64 d.tim)).set (p := ⟨w.heap.size + 1, 0, none⟩) (by simp) (by simp) (.string d.at_)).set (p := ⟨w.heap.size + 1, 1, none⟩) (by simp) (by simp) (.slice r1x d.ak.tk.length r1z)).set (p := ⟨w.heap.size + 1, 2, none⟩) (by simp) (by simp) (.string d.ak.me)).set (p := ⟨w.heap.size + 1, 3, none⟩) (by simp) (by simp) (.string d.ak.pa)).set (p := ⟨w.heap.size + 1, 4, none⟩) (by simp) (by simp) (.int .i64 d.ver)).set (p := ⟨w.heap.size + 1, 5, none⟩) (by simp) (by simp) (.int .i64 d.tim))
  replace o1 := o1.mid M9 (.inl (by omega))
  replace hB0 := (((((((((((hB0.setCell (p := ⟨w.heap.size + 1 + 1, 1, none⟩) (by simp; omega) (.slice r1x d.ak.tk.length r1z)).setCell (p := ⟨w.heap.size + 1 + 1, 2, none⟩) (by simp; omega) (.string d.ak.me)).setCell (p := ⟨w.heap.size + 1 + 1, 3, none⟩) (by simp; omega) (.string d.ak.pa)).setCell (p := ⟨w.heap.size + 1 + 1, 4, none⟩) (by simp; omega) (.int .i64 d.ver)).setCell (p := ⟨w.heap.size + 1 + 1, 5, none⟩) (by simp; omega) (.int .i64 d.tim)).setCell (p := ⟨w.heap.size + 1, 0, none⟩) (by simp) (.string d.at_)).setCell (p := ⟨w.heap.size + 1, 1, none⟩) (by simp) (.slice r1x d.ak.tk.length r1z)).setCell (p := ⟨w.heap.size + 1, 2, none⟩) (by simp) (.string d.ak.me)).setCell (p := ⟨w.heap.size + 1, 3, none⟩) (by simp) (.string d.ak.pa)).setCell (p := ⟨w.heap.size + 1, 4, none⟩) (by simp) (.int .i64 d.ver)).setCell (p := ⟨w.heap.size + 1, 5, none⟩) (by simp) (.int .i64 d.tim))
  have hE : w1.heap.size ≤ (((((((((((w1.setCell ⟨w.heap.size + 1 + 1, 1, none⟩ (.slice r1x d.ak.tk.length r1z)).setCell ⟨w.heap.size + 1 + 1, 2, none⟩ (.string d.ak.me)).setCell ⟨w.heap.size + 1 + 1, 3, none⟩ (.string d.ak.pa)).setCell ⟨w.heap.size + 1 + 1, 4, none⟩ (.int .i64 d.ver)).setCell ⟨w.heap.size + 1 + 1, 5, none⟩ (.int .i64 d.tim)).setCell ⟨w.heap.size + 1, 0, none⟩ (.string d.at_)).setCell ⟨w.heap.size + 1, 1, none⟩ (.slice r1x d.ak.tk.length r1z)).setCell ⟨w.heap.size + 1, 2, none⟩ (.string d.ak.me)).setCell ⟨w.heap.size + 1, 3, none⟩ (.string d.ak.pa)).setCell ⟨w.heap.size + 1, 4, none⟩ (.int .i64 d.ver)).setCell ⟨w.heap.size + 1, 5, none⟩ (.int .i64 d.tim)).heap.size := by simp
  have hW0 : w.heap.size ≤ W0.heap.size := by omega
  clear F1 F2 F3 M9
  go_wp2_with fail
  clear a0 a1 a2 a3 a4 a5 c0 c1 c2 c3 c4 c5 f1 f2 f3 f4 f5 m0 m1 m2 m3 m4 m5 t0 t1 t2 t3 t4 t5 g0 g1 g2 g3 g4 g5
  generalize ((((((((((w1.setCell ⟨w.heap.size + 1 + 1, 1, none⟩ (.slice r1x d.ak.tk.length r1z)).setCell ⟨w.heap.size + 1 + 1, 2, none⟩ (.string d.ak.me)).setCell ⟨w.heap.size + 1 + 1, 3, none⟩ (.string d.ak.pa)).setCell ⟨w.heap.size + 1 + 1, 4, none⟩ (.int .i64 d.ver)).setCell ⟨w.heap.size + 1 + 1, 5, none⟩ (.int .i64 d.tim)).setCell ⟨w.heap.size + 1, 0, none⟩ (.string d.at_)).setCell ⟨w.heap.size + 1, 1, none⟩ (.slice r1x d.ak.tk.length r1z)).setCell ⟨w.heap.size + 1, 2, none⟩ (.string d.ak.me)).setCell ⟨w.heap.size + 1, 3, none⟩ (.string d.ak.pa)).setCell ⟨w.heap.size + 1, 4, none⟩ (.int .i64 d.ver)).setCell ⟨w.heap.size + 1, 5, none⟩ (.int .i64 d.tim) = WE at *
  obtain ⟨d0, d1, d2, d3, d4, d5⟩ := G.c
  exact bodyPost_ret (v := .agg #[.string d.at_, .slice r1x d.ak.tk.length r1z, .string d.ak.me, .string d.ak.pa, .int .i64 d.ver, .int .i64 d.tim]) (by simp [results, Tryz.results20, go_sem, d0, d1, d2, d3, d4, d5]) rfl ⟨_, rfl, ⟨_, _, rfl, o1.mono (by omega) (by omega)⟩, hB0⟩

set_option maxHeartbeats 4000000 in
theorem szDeliveryS_any (v : Value) (rs : List Dv) (n : Int) (w : World) (h0 : 0 ≤ n) (h1 : n ≤ 1048576) (hm : rs.length ≤ maxLen) (hf : ∀ r ∈ rs, r.fits) (hr : GsA 6 DvC w v rs) :
    Calls Tryz.prog 49 #[v, .int .i64 n] w fun e w' => e = .returned (.int .i64 (leftK n (gzAll Dv.size rs))) ∧ Below w.heap.size w w' := by
  obtain ⟨a, cap, rfl⟩ := hr.len
  unfold maxLen at hm
  by_cases c0 : n < rs.length
  · have HR := hid (show leftK n (gzAll Dv.size rs) = -1 from if_neg (by unfold gzAll; omega))
    go_enter Tryz.func49, Tryz.ntmps49
    go_wp2
    go_ret
    exact ⟨ret_int HR.out.symm, Below.refl _ _⟩
  · have d0 : decide (n - (rs.length : Int) < 0) = false := by simp; omega
    go_enter Tryz.func49, Tryz.ntmps49
    go_wp2
    go_loopw [1, 5] (fun m i wr => ∃ k : Nat, k ≤ rs.length ∧ i = .int .i64 k ∧ m = .int .i64 (n - rs.length - gzTo Dv.size rs k) ∧ 0 ≤ n - rs.length - gzTo Dv.size rs k ∧ Below w.heap.size w wr) (fun _ i _ => rs.length - (intOf i).toNat)
    case atStart => exact ⟨0, Nat.zero_le _, rfl, by rw [gzTo_zero]; go_num, by rw [gzTo_zero]; omega, Below.refl _ _⟩
    case round =>
      obtain ⟨k, hk, rfl, rfl, hp, hB⟩ := hrel
      by_cases hlt : k < rs.length
      · obtain ⟨b, off, cs, rfl, hb, hcap, hq, hA⟩ := (hr.below (fun _ _ h => h.below hB) hB).at hlt
        have hA0 := hA
        obtain ⟨p1x, p1z, hcsq, g1⟩ := hA
        subst hcsq
        have q0 := hq 0 _ rfl
        have q1 := hq 1 _ rfl
        have q2 := hq 2 _ rfl
        have q3 := hq 3 _ rfl
        have q4 := hq 4 _ rfl
        have q5 := hq 5 _ rfl
        rw [Nat.add_zero] at q0
        have f1 := hf rs[k] (List.getElem_mem hlt)
        have HS := hid (gzTo_succ (f := Dv.size) hlt)
        have HT := hid (gzTo_le Dv.size rs (k + 1))
        generalize rs[k] = r at *
        clear hq hr
        go_wp2_with fail
        refine (szDelivery_any _ r _ _ hp (by omega) f1 hA0).mono ?_
        rintro e w1 ⟨rfl, hB1⟩
        have hB2 := below_one hB hB1
        by_cases c1 : (r.size : Int) ≤ n - rs.length - gzTo Dv.size rs k
        · have hv : leftK (n - rs.length - gzTo Dv.size rs k) r.size = n - rs.length - gzTo Dv.size rs (k + 1) := by
            rw [HS.out]
            unfold leftK
            rw [if_pos (by omega)]
            omega
          have hq : 0 ≤ n - rs.length - gzTo Dv.size rs (k + 1) := by rw [HS.out]; omega
          rw [hv]
          have d1 : decide (n - (rs.length : Int) - (gzTo Dv.size rs (k + 1) : Int) < 0) = false := by simp; omega
          clear hv hB1 q0 q1 q2 q3 q4 q5 hA0 g1
          go_wp2_with fail
          go_roundw
          case rel => exact ⟨k + 1, by omega, by go_num, rfl, hq, hB2⟩
          case measure => simp [intOf]; omega
        · have hv : leftK (n - rs.length - gzTo Dv.size rs k) r.size = -1 := if_neg (by omega)
          have HR := hid (show leftK n (gzAll Dv.size rs) = -1 from if_neg (by have := HT.out; rw [HS.out] at this; unfold gzAll; omega))
          rw [hv]
          clear hv hB1 q0 q1 q2 q3 q4 q5 hA0 g1
          go_wp2_with fail
          go_ret
          exact ⟨ret_int HR.out.symm, hB2⟩
      · obtain rfl : k = rs.length := by omega
        have HR := hid (show leftK n (gzAll Dv.size rs) = n - rs.length - gzTo Dv.size rs rs.length by unfold leftK gzAll; rw [if_pos (by omega)]; omega)
        go_wp2
        go_ret
        exact ⟨ret_int HR.out.symm, hB⟩

set_option maxHeartbeats 4000000 in
/-- A list is like itself, wherever the two lie. -/
theorem eqDeliveryS_same (v v' : Value) (ss : List Dv) (w : World) (hn : gShort Dv.short ss) (hr : GsA 6 DvC w v ss) (hr' : GsA 6 DvC w v' ss) :
    Calls Tryz.prog 59 #[v, v'] w fun e w' => e = .returned (.bool true) ∧ Below w.heap.size w w' := by
  obtain ⟨a, cap, rfl⟩ := hr.len
  obtain ⟨a', cap', rfl⟩ := hr'.len
  have hn1 := hn.1
  have e0 : ((ss.length : Int) != (ss.length : Int)) = false := by simp
  go_enter Tryz.func59, Tryz.ntmps59
  go_wp2
  go_loopw [5] (fun i wr => ∃ j : Nat, j ≤ ss.length ∧ i = .int .i64 j ∧ Below w.heap.size w wr) (fun i _ => ss.length - (intOf i).toNat)
  case atStart => exact ⟨0, Nat.zero_le _, rfl, Below.refl _ _⟩
  case round =>
    obtain ⟨j, hj, rfl, hB⟩ := hrel
    by_cases hlt : j < ss.length
    · obtain ⟨b, off, cs, rfl, hb, hcap, hq, hA⟩ := (hr.below (fun _ _ h => h.below hB) hB).at hlt
      have hA0 := hA
      obtain ⟨p1x, p1z, hcsq, g1⟩ := hA
      subst hcsq
      have q0 := hq 0 _ rfl
      have q1 := hq 1 _ rfl
      have q2 := hq 2 _ rfl
      have q3 := hq 3 _ rfl
      have q4 := hq 4 _ rfl
      have q5 := hq 5 _ rfl
      rw [Nat.add_zero] at q0
      obtain ⟨b', off', cs', rfl, hb', hcap', hq', hA'⟩ := (hr'.below (fun _ _ h => h.below hB) hB).at hlt
      have hA1 := hA'
      obtain ⟨q1x, q1z, hcsp, g'1⟩ := hA'
      subst hcsp
      have p0 := hq' 0 _ rfl
      have p1 := hq' 1 _ rfl
      have p2 := hq' 2 _ rfl
      have p3 := hq' 3 _ rfl
      have p4 := hq' 4 _ rfl
      have p5 := hq' 5 _ rfl
      rw [Nat.add_zero] at p0
      have hs := hn.2 ss[j] (List.getElem_mem hlt)
      generalize ss[j] = s at *
      clear hq hq' hr hr'
      go_wp2_with fail
      go_region_with (go_at_call 23; refine (eqDelivery_same _ _ s _ hs (hA0.below (Below.refl _ _).drew) (hA1.below (Below.refl _ _).drew)).mono ?_; rintro e w1 ⟨rfl, hB1⟩)
      all_goals go_wp2
      all_goals go_roundw
      all_goals first
        | exact ⟨j + 1, by omega, by go_num, below_one hB (below_drew1 hB1)⟩
        | (simp [intOf]; omega)
    · obtain rfl : j = ss.length := by omega
      go_wp2
      go_ret
      exact ⟨rfl, hB⟩

theorem infoDelivery : (Tryz.prog.info? 76).map (fun i => (i.zero, i.size, i.bytes)) = some (some (.agg #[.string ⟨#[]⟩, .slice none 0 0, .string ⟨#[]⟩, .string ⟨#[]⟩, .int .i64 0, .int .i64 0]), 6, 88) := by kernel_rfl
set_option maxHeartbeats 8000000 in
theorem toDeliveryS_any (v : Value) (ss : List Dv) (w : World) (hm : gShort Dv.short ss) (hr : GsA 6 DvC w v ss) :
    Calls Tryz.prog 54 #[v] w fun e w' => ∃ v', e = .returned v' ∧ GsO 76 6 DvO w' w.heap.size w'.heap.size v' ss ∧ Below w.heap.size w w' := by
  obtain ⟨a, cap, rfl⟩ := hr.len
  obtain ⟨i0, hi, hz0, hz1, hz2⟩ := info_parts infoDelivery
  have hm1 := hm.1
  go_enter Tryz.func54, Tryz.ntmps54
  go_wp2_with (at_make; refine wpList_make_full _ rfl _ _ 71 rfl w.heap.size 76 i0 _ 6 Tryz.underlying71 hi hz0 hz1 _ _ _ _ ss.length rfl rfl rfl rfl (by rw [hz2]; omega) (by unfold maxLen; omega) (Nat.le_refl _) ?_; intro w1 hown hgrow)
  have hB1 : Below w.heap.size w w1 := (Below.refl _ w).grown hgrow (Nat.le_refl _) (fun k e => by cases e)
  go_loopw [4] (fun i wr => ∃ k : Nat, k ≤ ss.length ∧ i = .int .i64 k ∧ ∃ ys cs s t, GsK 76 6 DvO wr w.heap.size wr.heap.size (.slice (some ⟨w.heap.size, 0, none⟩) ss.length ss.length) ss.length ss k ys cs s t ∧ Below w.heap.size w wr) (fun i _ => ss.length - (intOf i).toNat)
  case atStart => exact ⟨0, Nat.zero_le _, rfl, _, _, _, _, GsK.start _ _ _ _ _ _ _ _ _ _ hown (fun j hj => (hown.lt j hj).2), hB1⟩
  case round =>
    obtain ⟨k, hk, rfl, ys, cs0, s0, t0', hK, hB⟩ := hrel
    by_cases hlt : k < ss.length
    · obtain ⟨b, off, cs, rfl, hb, hcap, hq, hA⟩ := (hr.below (fun _ _ h => h.below hB) hB).at hlt
      have hA0 := hA
      obtain ⟨p1x, p1z, hcsq, g1⟩ := hA
      subst hcsq
      have q0 := hq 0 _ rfl
      have q1 := hq 1 _ rfl
      have q2 := hq 2 _ rfl
      have q3 := hq 3 _ rfl
      have q4 := hq 4 _ rfl
      have q5 := hq 5 _ rfl
      rw [Nat.add_zero] at q0
      have hsh := hm.2 ss[k] (List.getElem_mem hlt)
      have HA := hid (fun (w2 : World) (zs : List Value) (hB2 : Below wr.heap.size wr w2) (hz : zs.length = 6) (hn : DvO w2 wr.heap.size w2.heap.size zs ss[k]) => GsK.add (w2 := w2) (zs := zs) hK hB.size hB2 hlt hlt hz (fun _ _ _ _ _ _ _ M h ho => h.mid M ho) (fun _ _ _ _ h => h.below hB2) hn)
      clear hq hr
      go_wp2_with fail
      refine (toDelivery_any _ ss[k] _ hsh hA0).mono ?_
      rintro e w2 ⟨zs, rfl, hO, hB2⟩
      have hOc := hO
      obtain ⟨o1x, o1z, hzs, o0⟩ := hO
      subst hzs
      have HK := hid (HA.out w2 _ hB2 rfl hOc)
      have hrow2 := ownsRow_below hK.row hB2
      have hB3 := below_one hB hB2
      have hlen : ys.length = ss.length * 6 := hrow2.1
      have s0 := hrow2.cellAt (k * 6) (by omega)
      have s1 := hrow2.cellAt (k * 6 + 1) (by omega)
      have s2 := hrow2.cellAt (k * 6 + 2) (by omega)
      have s3 := hrow2.cellAt (k * 6 + 3) (by omega)
      have s4 := hrow2.cellAt (k * 6 + 4) (by omega)
      have s5 := hrow2.cellAt (k * 6 + 5) (by omega)
      rw [List.getElem?_eq_getElem (by omega)] at s0 s1 s2 s3 s4 s5
      have t0 := hrow2.frozenAt (k * 6)
      have t1 := hrow2.frozenAt (k * 6 + 1)
      have t2 := hrow2.frozenAt (k * 6 + 2)
      have t3 := hrow2.frozenAt (k * 6 + 3)
      have t4 := hrow2.frozenAt (k * 6 + 4)
      have t5 := hrow2.frozenAt (k * 6 + 5)
      generalize ys[k * 6] = z0 at *
      generalize ys[k * 6 + 1] = z1 at *
      generalize ys[k * 6 + 2] = z2 at *
      generalize ys[k * 6 + 3] = z3 at *
      generalize ys[k * 6 + 4] = z4 at *
      generalize ys[k * 6 + 5] = z5 at *
      generalize ss[k] = s at *
      clear q0 q1 q2 q3 q4 q5 hB2 hK HA hA0 g1 o0 hOc
      go_wp2_with fail
      go_roundw
      case rel => exact ⟨k + 1, by omega, by go_num, _, _, _, _, HK.out, ((((((hB3.setCell (p := ⟨w.heap.size, _, none⟩) (Nat.le_refl _) _).setCell (p := ⟨w.heap.size, _, none⟩) (Nat.le_refl _) _).setCell (p := ⟨w.heap.size, _, none⟩) (Nat.le_refl _) _).setCell (p := ⟨w.heap.size, _, none⟩) (Nat.le_refl _) _).setCell (p := ⟨w.heap.size, _, none⟩) (Nat.le_refl _) _).setCell (p := ⟨w.heap.size, _, none⟩) (Nat.le_refl _) _)⟩
      case measure => simp [intOf]; omega
    · obtain rfl : k = ss.length := by omega
      go_wp2
      go_ret
      exact ⟨_, rfl, ⟨ys, cs0, s0, t0', hK⟩, hB⟩

end Go.Proofs.YtnbojbcljfiamaaGreatDoor

namespace Go.Proofs.YtnbojbcljfiamaaGreatDoor
open Go.RowKit Go.Shelf

/-- 8 cells that are a block of their own. -/
def Eight (w : World) (t : TypeId) (k : Nat) (a b c d e f g p : Value) : Prop := w.ownsRow k t 8 (.slice (some ⟨k, 0, none⟩) 1 1) 1 [a, b, c, d, e, f, g, p]
theorem Eight.at (w : World) (a b c d e f g p : Value) (t : TypeId) {k : Nat} (hk : k = w.heap.size) : Eight (w.alloc (.cells #[a, b, c, d, e, f, g, p] t)) t k a b c d e f g p := by
  subst hk
  exact ⟨rfl, .inr ⟨w.heap.size, 1, #[a, b, c, d, e, f, g, p], rfl, Nat.le_refl _, by show (w.heap.push _)[w.heap.size]? = _; rw [Array.getElem?_push_size], Nat.le_refl _, by unfold maxLen; omega, rfl, rfl⟩⟩
theorem Eight.new (w : World) (a b c d e f g p : Value) (t : TypeId) : Eight (w.alloc (.cells #[a, b, c, d, e, f, g, p] t)) t w.heap.size a b c d e f g p := Eight.at w a b c d e f g p t rfl
theorem Eight.below {w' : World} {w : World} {t : TypeId} {k : Nat} {a b c d e f g p : Value} (h : Eight w t k a b c d e f g p) (hB : Below w.heap.size w w') : Eight w' t k a b c d e f g p := ownsRow_below h hB
theorem Eight.c {w : World} {t : TypeId} {k : Nat} {a b c d e f g p : Value} (h : Eight w t k a b c d e f g p) : w.cell? ⟨k, 0, none⟩ = some a ∧ w.cell? ⟨k, 1, none⟩ = some b ∧ w.cell? ⟨k, 2, none⟩ = some c ∧ w.cell? ⟨k, 3, none⟩ = some d ∧ w.cell? ⟨k, 4, none⟩ = some e ∧ w.cell? ⟨k, 5, none⟩ = some f ∧ w.cell? ⟨k, 6, none⟩ = some g ∧ w.cell? ⟨k, 7, none⟩ = some p :=
  ⟨World.ownsRow.cellAt h 0 (by omega), World.ownsRow.cellAt h 1 (by omega), World.ownsRow.cellAt h 2 (by omega), World.ownsRow.cellAt h 3 (by omega), World.ownsRow.cellAt h 4 (by omega), World.ownsRow.cellAt h 5 (by omega), World.ownsRow.cellAt h 6 (by omega), World.ownsRow.cellAt h 7 (by omega)⟩
theorem Eight.f {w : World} {t : TypeId} {k : Nat} {a b c d e f g p : Value} (h : Eight w t k a b c d e f g p) (j : Nat) : w.frozen? ⟨k, j, none⟩ = false := World.ownsRow.frozenAt h j
theorem Eight.s0 {w : World} {t : TypeId} {k : Nat} {a b c d e f g p : Value} (h : Eight w t k a b c d e f g p) (x : Value) : Eight (w.setCell ⟨k, 0, none⟩ x) t k x b c d e f g p := (World.ownsRow.stored h 0 x).1
theorem Eight.s1 {w : World} {t : TypeId} {k : Nat} {a b c d e f g p : Value} (h : Eight w t k a b c d e f g p) (x : Value) : Eight (w.setCell ⟨k, 1, none⟩ x) t k a x c d e f g p := (World.ownsRow.stored h 1 x).1
theorem Eight.s2 {w : World} {t : TypeId} {k : Nat} {a b c d e f g p : Value} (h : Eight w t k a b c d e f g p) (x : Value) : Eight (w.setCell ⟨k, 2, none⟩ x) t k a b x d e f g p := (World.ownsRow.stored h 2 x).1
theorem Eight.s3 {w : World} {t : TypeId} {k : Nat} {a b c d e f g p : Value} (h : Eight w t k a b c d e f g p) (x : Value) : Eight (w.setCell ⟨k, 3, none⟩ x) t k a b c x e f g p := (World.ownsRow.stored h 3 x).1
theorem Eight.s4 {w : World} {t : TypeId} {k : Nat} {a b c d e f g p : Value} (h : Eight w t k a b c d e f g p) (x : Value) : Eight (w.setCell ⟨k, 4, none⟩ x) t k a b c d x f g p := (World.ownsRow.stored h 4 x).1
theorem Eight.s5 {w : World} {t : TypeId} {k : Nat} {a b c d e f g p : Value} (h : Eight w t k a b c d e f g p) (x : Value) : Eight (w.setCell ⟨k, 5, none⟩ x) t k a b c d e x g p := (World.ownsRow.stored h 5 x).1
theorem Eight.s6 {w : World} {t : TypeId} {k : Nat} {a b c d e f g p : Value} (h : Eight w t k a b c d e f g p) (x : Value) : Eight (w.setCell ⟨k, 6, none⟩ x) t k a b c d e f x p := (World.ownsRow.stored h 6 x).1
theorem Eight.s7 {w : World} {t : TypeId} {k : Nat} {a b c d e f g p : Value} (h : Eight w t k a b c d e f g p) (x : Value) : Eight (w.setCell ⟨k, 7, none⟩ x) t k a b c d e f g x := (World.ownsRow.stored h 7 x).1
theorem Eight.other {w : World} {t : TypeId} {k : Nat} {a b c d e f g p : Value} (h : Eight w t k a b c d e f g p) {k' : Nat} (hk : k ≠ k') (j : Nat) (x : Value) : Eight (w.setCell ⟨k', j, none⟩ x) t k a b c d e f g p := ownsRow_setCell_other h (by simpa [Value.ownBlock] using hk) x
theorem Eight.lt {w : World} {t : TypeId} {k : Nat} {a b c d e f g p : Value} (h : Eight w t k a b c d e f g p) : k < w.heap.size := (World.ownsRow.lt h k rfl).2
theorem Mid.eight {lo hi : Nat} {w1 : World} {w : World} {t : TypeId} {k : Nat} {a b c d e f g p : Value} (h : Mid lo hi w w1) (hr : Eight w t k a b c d e f g p) (ho : k < lo ∨ hi ≤ k) : Eight w1 t k a b c d e f g p :=
  h.row hr (fun j hj => by simp [Value.ownBlock] at hj; omega)
theorem row_eight {w : World} {base : Nat} {e : TypeId} {size n : Nat} {v : Value} {xs : List Value} (h : w.ownsRow base e size v n xs) {k : Nat} (hk : k < base) (x0 x1 x2 x3 x4 x5 x6 x7 : Value) : ((((((((w.setCell ⟨k, 0, none⟩ x0).setCell ⟨k, 1, none⟩ x1).setCell ⟨k, 2, none⟩ x2).setCell ⟨k, 3, none⟩ x3).setCell ⟨k, 4, none⟩ x4).setCell ⟨k, 5, none⟩ x5).setCell ⟨k, 6, none⟩ x6).setCell ⟨k, 7, none⟩ x7).ownsRow base e size v n xs :=
  (ownsRow_setCell_below (ownsRow_setCell_below (ownsRow_setCell_below (ownsRow_setCell_below (ownsRow_setCell_below (ownsRow_setCell_below (ownsRow_setCell_below (ownsRow_setCell_below h (a := ⟨k, 0, none⟩) hk x0) (a := ⟨k, 1, none⟩) hk x1) (a := ⟨k, 2, none⟩) hk x2) (a := ⟨k, 3, none⟩) hk x3) (a := ⟨k, 4, none⟩) hk x4) (a := ⟨k, 5, none⟩) hk x5) (a := ⟨k, 6, none⟩) hk x6) (a := ⟨k, 7, none⟩) hk x7)
theorem below_eight {n k : Nat} {w W : World} (h : Below n w W) (hk : n ≤ k) (x0 x1 x2 x3 x4 x5 x6 x7 : Value) : Below n w ((((((((W.setCell ⟨k, 0, none⟩ x0).setCell ⟨k, 1, none⟩ x1).setCell ⟨k, 2, none⟩ x2).setCell ⟨k, 3, none⟩ x3).setCell ⟨k, 4, none⟩ x4).setCell ⟨k, 5, none⟩ x5).setCell ⟨k, 6, none⟩ x6).setCell ⟨k, 7, none⟩ x7) :=
  ((((((((h.setCell (p := ⟨k, 0, none⟩) hk x0).setCell (p := ⟨k, 1, none⟩) hk x1).setCell (p := ⟨k, 2, none⟩) hk x2).setCell (p := ⟨k, 3, none⟩) hk x3).setCell (p := ⟨k, 4, none⟩) hk x4).setCell (p := ⟨k, 5, none⟩) hk x5).setCell (p := ⟨k, 6, none⟩) hk x6).setCell (p := ⟨k, 7, none⟩) hk x7)

/-- 10 cells that are a block of their own. -/
def Ten (w : World) (t : TypeId) (k : Nat) (a b c d e f g p q r : Value) : Prop := w.ownsRow k t 10 (.slice (some ⟨k, 0, none⟩) 1 1) 1 [a, b, c, d, e, f, g, p, q, r]
theorem Ten.at (w : World) (a b c d e f g p q r : Value) (t : TypeId) {k : Nat} (hk : k = w.heap.size) : Ten (w.alloc (.cells #[a, b, c, d, e, f, g, p, q, r] t)) t k a b c d e f g p q r := by
  subst hk
  exact ⟨rfl, .inr ⟨w.heap.size, 1, #[a, b, c, d, e, f, g, p, q, r], rfl, Nat.le_refl _, by show (w.heap.push _)[w.heap.size]? = _; rw [Array.getElem?_push_size], Nat.le_refl _, by unfold maxLen; omega, rfl, rfl⟩⟩
theorem Ten.new (w : World) (a b c d e f g p q r : Value) (t : TypeId) : Ten (w.alloc (.cells #[a, b, c, d, e, f, g, p, q, r] t)) t w.heap.size a b c d e f g p q r := Ten.at w a b c d e f g p q r t rfl
theorem Ten.below {w' : World} {w : World} {t : TypeId} {k : Nat} {a b c d e f g p q r : Value} (h : Ten w t k a b c d e f g p q r) (hB : Below w.heap.size w w') : Ten w' t k a b c d e f g p q r := ownsRow_below h hB
theorem Ten.c {w : World} {t : TypeId} {k : Nat} {a b c d e f g p q r : Value} (h : Ten w t k a b c d e f g p q r) : w.cell? ⟨k, 0, none⟩ = some a ∧ w.cell? ⟨k, 1, none⟩ = some b ∧ w.cell? ⟨k, 2, none⟩ = some c ∧ w.cell? ⟨k, 3, none⟩ = some d ∧ w.cell? ⟨k, 4, none⟩ = some e ∧ w.cell? ⟨k, 5, none⟩ = some f ∧ w.cell? ⟨k, 6, none⟩ = some g ∧ w.cell? ⟨k, 7, none⟩ = some p ∧ w.cell? ⟨k, 8, none⟩ = some q ∧ w.cell? ⟨k, 9, none⟩ = some r :=
  ⟨World.ownsRow.cellAt h 0 (by omega), World.ownsRow.cellAt h 1 (by omega), World.ownsRow.cellAt h 2 (by omega), World.ownsRow.cellAt h 3 (by omega), World.ownsRow.cellAt h 4 (by omega), World.ownsRow.cellAt h 5 (by omega), World.ownsRow.cellAt h 6 (by omega), World.ownsRow.cellAt h 7 (by omega), World.ownsRow.cellAt h 8 (by omega), World.ownsRow.cellAt h 9 (by omega)⟩
theorem Ten.f {w : World} {t : TypeId} {k : Nat} {a b c d e f g p q r : Value} (h : Ten w t k a b c d e f g p q r) (j : Nat) : w.frozen? ⟨k, j, none⟩ = false := World.ownsRow.frozenAt h j
theorem Ten.s0 {w : World} {t : TypeId} {k : Nat} {a b c d e f g p q r : Value} (h : Ten w t k a b c d e f g p q r) (x : Value) : Ten (w.setCell ⟨k, 0, none⟩ x) t k x b c d e f g p q r := (World.ownsRow.stored h 0 x).1
theorem Ten.s1 {w : World} {t : TypeId} {k : Nat} {a b c d e f g p q r : Value} (h : Ten w t k a b c d e f g p q r) (x : Value) : Ten (w.setCell ⟨k, 1, none⟩ x) t k a x c d e f g p q r := (World.ownsRow.stored h 1 x).1
theorem Ten.s2 {w : World} {t : TypeId} {k : Nat} {a b c d e f g p q r : Value} (h : Ten w t k a b c d e f g p q r) (x : Value) : Ten (w.setCell ⟨k, 2, none⟩ x) t k a b x d e f g p q r := (World.ownsRow.stored h 2 x).1
theorem Ten.s3 {w : World} {t : TypeId} {k : Nat} {a b c d e f g p q r : Value} (h : Ten w t k a b c d e f g p q r) (x : Value) : Ten (w.setCell ⟨k, 3, none⟩ x) t k a b c x e f g p q r := (World.ownsRow.stored h 3 x).1
theorem Ten.s4 {w : World} {t : TypeId} {k : Nat} {a b c d e f g p q r : Value} (h : Ten w t k a b c d e f g p q r) (x : Value) : Ten (w.setCell ⟨k, 4, none⟩ x) t k a b c d x f g p q r := (World.ownsRow.stored h 4 x).1
theorem Ten.s5 {w : World} {t : TypeId} {k : Nat} {a b c d e f g p q r : Value} (h : Ten w t k a b c d e f g p q r) (x : Value) : Ten (w.setCell ⟨k, 5, none⟩ x) t k a b c d e x g p q r := (World.ownsRow.stored h 5 x).1
theorem Ten.s6 {w : World} {t : TypeId} {k : Nat} {a b c d e f g p q r : Value} (h : Ten w t k a b c d e f g p q r) (x : Value) : Ten (w.setCell ⟨k, 6, none⟩ x) t k a b c d e f x p q r := (World.ownsRow.stored h 6 x).1
theorem Ten.s7 {w : World} {t : TypeId} {k : Nat} {a b c d e f g p q r : Value} (h : Ten w t k a b c d e f g p q r) (x : Value) : Ten (w.setCell ⟨k, 7, none⟩ x) t k a b c d e f g x q r := (World.ownsRow.stored h 7 x).1
theorem Ten.s8 {w : World} {t : TypeId} {k : Nat} {a b c d e f g p q r : Value} (h : Ten w t k a b c d e f g p q r) (x : Value) : Ten (w.setCell ⟨k, 8, none⟩ x) t k a b c d e f g p x r := (World.ownsRow.stored h 8 x).1
theorem Ten.s9 {w : World} {t : TypeId} {k : Nat} {a b c d e f g p q r : Value} (h : Ten w t k a b c d e f g p q r) (x : Value) : Ten (w.setCell ⟨k, 9, none⟩ x) t k a b c d e f g p q x := (World.ownsRow.stored h 9 x).1
theorem Ten.other {w : World} {t : TypeId} {k : Nat} {a b c d e f g p q r : Value} (h : Ten w t k a b c d e f g p q r) {k' : Nat} (hk : k ≠ k') (j : Nat) (x : Value) : Ten (w.setCell ⟨k', j, none⟩ x) t k a b c d e f g p q r := ownsRow_setCell_other h (by simpa [Value.ownBlock] using hk) x
theorem Ten.lt {w : World} {t : TypeId} {k : Nat} {a b c d e f g p q r : Value} (h : Ten w t k a b c d e f g p q r) : k < w.heap.size := (World.ownsRow.lt h k rfl).2
theorem Mid.ten {lo hi : Nat} {w1 : World} {w : World} {t : TypeId} {k : Nat} {a b c d e f g p q r : Value} (h : Mid lo hi w w1) (hr : Ten w t k a b c d e f g p q r) (ho : k < lo ∨ hi ≤ k) : Ten w1 t k a b c d e f g p q r :=
  h.row hr (fun j hj => by simp [Value.ownBlock] at hj; omega)
theorem row_ten {w : World} {base : Nat} {e : TypeId} {size n : Nat} {v : Value} {xs : List Value} (h : w.ownsRow base e size v n xs) {k : Nat} (hk : k < base) (x0 x1 x2 x3 x4 x5 x6 x7 x8 x9 : Value) : ((((((((((w.setCell ⟨k, 0, none⟩ x0).setCell ⟨k, 1, none⟩ x1).setCell ⟨k, 2, none⟩ x2).setCell ⟨k, 3, none⟩ x3).setCell ⟨k, 4, none⟩ x4).setCell ⟨k, 5, none⟩ x5).setCell ⟨k, 6, none⟩ x6).setCell ⟨k, 7, none⟩ x7).setCell ⟨k, 8, none⟩ x8).setCell ⟨k, 9, none⟩ x9).ownsRow base e size v n xs :=
  (ownsRow_setCell_below (ownsRow_setCell_below (ownsRow_setCell_below (ownsRow_setCell_below (ownsRow_setCell_below (ownsRow_setCell_below (ownsRow_setCell_below (ownsRow_setCell_below (ownsRow_setCell_below (ownsRow_setCell_below h (a := ⟨k, 0, none⟩) hk x0) (a := ⟨k, 1, none⟩) hk x1) (a := ⟨k, 2, none⟩) hk x2) (a := ⟨k, 3, none⟩) hk x3) (a := ⟨k, 4, none⟩) hk x4) (a := ⟨k, 5, none⟩) hk x5) (a := ⟨k, 6, none⟩) hk x6) (a := ⟨k, 7, none⟩) hk x7) (a := ⟨k, 8, none⟩) hk x8) (a := ⟨k, 9, none⟩) hk x9)
theorem below_ten {n k : Nat} {w W : World} (h : Below n w W) (hk : n ≤ k) (x0 x1 x2 x3 x4 x5 x6 x7 x8 x9 : Value) : Below n w ((((((((((W.setCell ⟨k, 0, none⟩ x0).setCell ⟨k, 1, none⟩ x1).setCell ⟨k, 2, none⟩ x2).setCell ⟨k, 3, none⟩ x3).setCell ⟨k, 4, none⟩ x4).setCell ⟨k, 5, none⟩ x5).setCell ⟨k, 6, none⟩ x6).setCell ⟨k, 7, none⟩ x7).setCell ⟨k, 8, none⟩ x8).setCell ⟨k, 9, none⟩ x9) :=
  ((((((((((h.setCell (p := ⟨k, 0, none⟩) hk x0).setCell (p := ⟨k, 1, none⟩) hk x1).setCell (p := ⟨k, 2, none⟩) hk x2).setCell (p := ⟨k, 3, none⟩) hk x3).setCell (p := ⟨k, 4, none⟩) hk x4).setCell (p := ⟨k, 5, none⟩) hk x5).setCell (p := ⟨k, 6, none⟩) hk x6).setCell (p := ⟨k, 7, none⟩) hk x7).setCell (p := ⟨k, 8, none⟩) hk x8).setCell (p := ⟨k, 9, none⟩) hk x9)

end Go.Proofs.YtnbojbcljfiamaaGreatDoor
