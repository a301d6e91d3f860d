/-
  Lists of yes and no in memory: read, measured, handed on, held against each other, marked.
-/
import Derived.Deep.RegionHeld3
import Derived.Test.YthpckiobfjdckaaGreatSnV
namespace Go.Proofs.YthpckiobfjdckaaGreat
open Go.RowKit Go.Shelf

abbrev bls (bs : List Bool) : List Value := bs.map Value.bool
theorem bls_len (bs : List Bool) : (bls bs).length = bs.length := List.length_map _
theorem VS.bol {w : World} {a : Option Addr} {n cap : Nat} {bs : List Bool} (h : VS w (.slice a n cap) (bls bs)) {i : Nat} (hi : i < bs.length) : ∃ b off, a = some ⟨b, off, none⟩ ∧ b < w.heap.size ∧ n ≤ cap ∧ w.cell? ⟨b, off + i, none⟩ = some (.bool bs[i]) := by
  obtain ⟨b, off, h1, h2, h3, h4⟩ := h.at (i := i) (by rw [bls_len]; exact hi)
  exact ⟨b, off, h1, h2, h3, by rw [h4, List.getElem_map]⟩
theorem VS.bolLen {w : World} {v : Value} {bs : List Bool} (h : VS w v (bls bs)) : ∃ a cap, v = .slice a bs.length cap := by
  have := h.len
  rwa [bls_len] at this
theorem infoBool : (Tryz.prog.info? 4).map (fun i => (i.zero, i.size, i.bytes)) = some (some (.bool false), 1, 1) := by kernel_rfl
/-- A list of yes and no that can be read, by an address or none at all. -/
def BoR (w : World) (v : Value) (bs : List Bool) : Prop :=
  (v = .slice none 0 0 ∧ bs = []) ∨ ∃ b off cap, v = .slice (some ⟨b, off, none⟩) bs.length cap ∧ b < w.heap.size ∧ bs.length ≤ cap ∧ ∀ k (h : k < bs.length), w.cell? ⟨b, off + k, none⟩ = some (.bool bs[k])
theorem BoR.s {w : World} {v : Value} {bs : List Bool} (h : BoR w v bs) : VS w v (bls bs) := by
  rcases h with ⟨rfl, rfl⟩ | ⟨b, off, cap, rfl, hb, hl, hc⟩
  · exact .inl ⟨_, _, rfl, rfl⟩
  · refine .inr ⟨b, off, cap, by rw [bls_len], hb, by rw [bls_len]; exact hl, fun k hk => ?_⟩
    rw [bls_len] at hk
    rw [hc k hk]
    simp [bls]
theorem BoR.below {w w' : World} {v : Value} {bs : List Bool} (h : BoR w v bs) (hB : Below w.heap.size w w') : BoR w' v bs := by
  rcases h with h | ⟨b, off, cap, hv, hb, hl, hc⟩
  · exact .inl h
  · exact .inr ⟨b, off, cap, hv, Nat.lt_of_lt_of_le hb hB.size, hl, fun k hk => (hB.cell (p := ⟨b, off + k, none⟩) hb).trans (hc k hk)⟩
theorem BoR.own {w : World} {base : Nat} {v : Value} {bs : List Bool} (h : w.ownsRow base 4 1 v bs.length (bls bs)) : BoR w v bs := by
  rcases row_form h with ⟨rfl, h0⟩ | ⟨g, cap, rfl, _, hc⟩
  · exact .inl ⟨rfl, List.eq_nil_of_length_eq_zero h0⟩
  · refine .inr ⟨g, 0, cap, rfl, (h.lt g rfl).2, hc, fun k hk => ?_⟩
    rw [Nat.zero_add, h.cellAt k (by omega)]
    simp [bls, hk]


set_option maxRecDepth 100000 in
open Go.Deep Go.ChangeShapes Go.WideShapes Go.Joins in
/-- A list of numbers that comes in. -/
theorem openBoS {H : Type} {enc : TypeId × Value → H} {W : World} {a : Option Addr} {n c : Nat} {d : DataW H} {p : List MemPlace} (h : DataW.Trod enc Tryz.prog W 0 (fun _ => true) true 44 (.slice a n c) d p) :
    ∃ zs : List Bool, VS W (.slice a n c) (bls zs) ∧ zs.length = n ∧ n ≤ maxLen := by
  obtain ⟨fuel, hf⟩ := h
  have c2 : Tryz.prog.cellsOf 4 = 1 := by kernel_rfl
  rcases open_slice Tryz.underlying44 hf with ⟨hcs, _⟩ | ⟨x, len, cap, m, k, D, Pl, hcs, _, hl, hm, hmm, _, hx⟩
  · simp [Value.cells] at hcs
    obtain ⟨rfl, rfl, rfl⟩ := hcs
    exact ⟨[], .inl ⟨_, _, rfl, rfl⟩, rfl, Nat.zero_le _⟩
  · simp [Value.cells] at hcs
    obtain ⟨rfl, rfl, rfl⟩ := hcs
    have hlm : n ≤ m := by rw [hmm]; simpa using hl
    have each : ∀ i, i < n → ∃ r : Bool, W.cell? (x.add i) = some (.bool r) := by
      intro i hi
      obtain ⟨cs', h1, h2⟩ := hx i (by omega)
      rw [c2, Nat.mul_one] at h1
      obtain ⟨_, hlen, hcell⟩ := World.cells?_some h1
      obtain ⟨x0, f0, _⟩ := DataW.trod_bool Tryz.underlying4 h2
      subst f0
      have e0 := hcell 0 (by omega)
      rw [add_add] at e0
      exact ⟨x0, by simpa using e0⟩
    have hin : Inhabited Bool := ⟨false⟩
    obtain ⟨q, hq⟩ := choose_lt each
    by_cases h0 : n = 0
    · subst h0
      exact ⟨[], .inl ⟨_, _, rfl, rfl⟩, rfl, Nat.zero_le _⟩
    · obtain ⟨b, off, spot⟩ := x
      have hs : spot = none := by simpa [Addr.add] using World.cell?_spot (hq 0 (by omega))
      subst hs
      have hlt : b < W.heap.size := by
        have := hq 0 (by omega)
        rw [Addr.add_lit] at this
        by_cases hb : b < W.heap.size
        · exact hb
        · simp only [World.cell?] at this
          rw [Array.getElem?_eq_none (by omega)] at this
          cases this
      refine ⟨(List.range n).map q, .inr ⟨b, off, c, by simp [bls], hlt, by simpa [bls] using hl, fun k hk => ?_⟩, by simp, by omega⟩
      have hk' : k < n := by simpa [bls] using hk
      have := hq k hk'
      simp only [Addr.add_lit] at this
      simpa [bls] using this

open Go.Deep Go.ChangeShapes Go.WideShapes Go.Joins in
theorem openBoR {H : Type} {enc : TypeId × Value → H} {W : World} {c0 : Value} {d : DataW H × List MemPlace} {fuel : Nat} (hf : DataW.trod enc Tryz.prog W 0 (fun _ => true) true fuel 44 [c0] = some d) :
    ∃ (a : Option Addr) (n c : Nat) (zs : List Bool), c0 = .slice a n c ∧ VS W (.slice a n c) (bls zs) ∧ zs.length = n ∧ n ≤ maxLen := by
  have hs : ∃ a n c, c0 = .slice a n c := by
    rcases open_slice Tryz.underlying44 hf with ⟨hcs, _⟩ | ⟨x, n, c, m, k, D, Pl, hcs, _⟩
    · simp at hcs; exact ⟨_, _, _, hcs⟩
    · simp at hcs; exact ⟨_, _, _, hcs⟩
  obtain ⟨a, n, c, rfl⟩ := hs
  obtain ⟨zs, h⟩ := openBoS (a := a) (n := n) (c := c) (d := d.1) (p := d.2) ⟨fuel, hf⟩
  exact ⟨a, n, c, zs, rfl, h⟩

set_option maxHeartbeats 1000000 in
theorem szBoolS_any (v : Value) (zs : List Bool) (n : Int) (w : World) (h0 : 0 ≤ n) (h1 : n ≤ 1048576) (hm : zs.length ≤ maxLen) (hr : VS w v (bls zs)) :
    Calls Tryz.prog 48 #[v, .int .i64 n] w fun e w' => e = .returned (.int .i64 (left1 n zs.length)) ∧ Below w.heap.size w w' := by
  obtain ⟨a, cap, rfl⟩ := hr.bolLen
  unfold maxLen at hm
  by_cases c0 : n < zs.length
  · have HR := hid (show left1 n zs.length = -1 from if_neg (by omega))
    go_enter Tryz.func48, Tryz.ntmps48
    go_wp2
    go_ret
    exact ⟨ret_int HR.out.symm, Below.refl _ _⟩
  · have HR := hid (show left1 n zs.length = n - zs.length from if_pos (by omega))
    have d0 : decide (n - (zs.length : Int) < 0) = false := by simp; omega
    go_enter Tryz.func48, Tryz.ntmps48
    go_wp2
    go_ret
    exact ⟨ret_int HR.out.symm, Below.refl _ _⟩

set_option maxHeartbeats 1000000 in
/-- A list of numbers is like itself, wherever the two lie. -/
theorem eqBoolS_same (v v' : Value) (zs : List Bool) (w : World) (hn : zs.length ≤ 1048577) (hr : VS w v (bls zs)) (hr' : VS w v' (bls zs)) :
    Calls Tryz.prog 53 #[v, v'] w fun e w' => e = .returned (.bool true) ∧ Below w.heap.size w w' := by
  obtain ⟨a, cap, rfl⟩ := hr.bolLen
  obtain ⟨a', cap', rfl⟩ := hr'.bolLen
  have e0 : ((zs.length : Int) != (zs.length : Int)) = false := by simp
  go_enter Tryz.func53, Tryz.ntmps53
  go_wp2
  go_loopw [5] (fun i wr => ∃ j : Nat, j ≤ zs.length ∧ i = .int .i64 j ∧ Below w.heap.size w wr) (fun i _ => zs.length - (intOf i).toNat)
  case atStart => exact ⟨0, Nat.zero_le _, rfl, Below.refl _ _⟩
  case round =>
    obtain ⟨j, hj, rfl, hB⟩ := hrel
    by_cases hlt : j < zs.length
    · obtain ⟨b, off, rfl, hb, hcap, q0⟩ := (hr.below hB).bol hlt
      obtain ⟨b', off', rfl, hb', hcap', q1⟩ := (hr'.below hB).bol hlt
      generalize zs[j] = x at q0 q1
      go_wp2_with fail
      go_quiet (fail)
      go_wp2
      go_roundw
      case rel => first | exact ⟨j + 1, by omega, by go_num, below_drewn hB _⟩ | ((repeat apply Exists.intro); exact ⟨⟨j + 1, by omega, by go_num, below_drewn hB _⟩, rfl⟩)
      case measure => simp [intOf]; omega
    · obtain rfl : j = zs.length := by omega
      go_wp2
      go_ret
      exact ⟨rfl, hB⟩

set_option maxHeartbeats 1000000 in
theorem toBoolS_any (v : Value) (zs : List Bool) (w : World) (hm : zs.length ≤ 1048576) (hr : VS w v (bls zs)) :
    Calls Tryz.prog 51 #[v] w fun e w' => ∃ v', e = .returned v' ∧ w'.ownsRow w.heap.size 4 1 v' zs.length (bls zs) ∧ Below w.heap.size w w' := by
  obtain ⟨a, cap, rfl⟩ := hr.bolLen
  obtain ⟨i0, hi, hz0, hz1, hz2⟩ := info_parts infoBool
  go_enter Tryz.func51, Tryz.ntmps51
  go_wp2_with (at_make; refine wpList_make_full _ rfl _ _ 44 rfl w.heap.size 4 i0 _ 1 Tryz.underlying44 hi hz0 hz1 _ _ _ _ zs.length rfl rfl rfl rfl (by rw [hz2]; omega) (by unfold maxLen; omega) (Nat.le_refl _) ?_; intro w1 hown hgrow)
  have hB1 : Below w.heap.size w w1 := (Below.refl _ w).grown hgrow (Nat.le_refl _) (fun k e => by cases e)
  go_loopw [4] (fun i wr => ∃ k : Nat, k ≤ zs.length ∧ i = .int .i64 k ∧ ∃ xs, wr.ownsRow w.heap.size 4 1 (.slice (some ⟨w.heap.size, 0, none⟩) zs.length zs.length) zs.length xs ∧ xs.take k = bls (zs.take k) ∧ Below w.heap.size w wr) (fun i _ => zs.length - (intOf i).toNat)
  case atStart => exact ⟨0, Nat.zero_le _, rfl, _, hown, by simp, hB1⟩
  case round =>
    obtain ⟨k, hk, rfl, xs, hrow, hx, hB⟩ := hrel
    have HX := hid hx
    clear hx
    by_cases hlt : k < zs.length
    · obtain ⟨b, off, rfl, hb, hcap, q0⟩ := (hr.below hB).bol hlt
      have HT := hid (List.take_succ_eq_append_getElem hlt)
      generalize zs[k] = r at *
      have hlen : xs.length = zs.length := by have := hrow.1; omega
      have s0 := hrow.cellAt k (by omega)
      rw [List.getElem?_eq_getElem (by omega)] at s0
      have t0 := hrow.frozenAt k
      generalize xs[k] = y0 at *
      go_wp2
      go_roundw
      case rel =>
        refine ⟨k + 1, by omega, by go_num, _, (hrow.stored k (.bool r)).1, ?_, hB.setCell (p := ⟨w.heap.size, _, none⟩) (Nat.le_refl _) _⟩
        rw [take_one _ _ _ (by omega), HX.out, HT.out]
        simp [bls]
      case measure => simp [intOf]; omega
    · obtain rfl : k = zs.length := by omega
      have HF := hid (show xs = bls zs by have := HX.out; rw [List.take_of_length_le (by have := hrow.1; omega), List.take_length] at this; exact this)
      go_wp2
      go_ret
      exact ⟨_, rfl, by rw [← HF.out]; exact hrow, hB⟩

def mkY (k n : Nat) : List Bool := (List.range n).map (fun i => ((k + i : Nat) : Int) % 3 == 0)
theorem mkY_len (k n : Nat) : (mkY k n).length = n := by simp [mkY]
theorem mkY_succ (k n : Nat) : mkY k (n + 1) = mkY k n ++ [((k + n : Nat) : Int) % 3 == 0] := by
  unfold mkY
  rw [List.range_succ, List.map_append]
  rfl
theorem mkY_at {k n i : Nat} (h : i < (mkY k n).length) : (mkY k n)[i] = (((k + i : Nat) : Int) % 3 == 0) := by simp [mkY]

set_option maxHeartbeats 1000000 in
theorem markBoolS_to (v : Value) (n k base : Nat) (xs : List Value) (w : World) (hn : n ≤ 1048577) (hk : k + n ≤ 8000000) (hrow : w.ownsRow base 4 1 v n xs) :
    Calls Tryz.prog 54 #[v, .int .i64 k] w fun e w' => e = .returned (.int .i64 ((k + n : Nat) : Int)) ∧ w'.ownsRow base 4 1 v n (bls (mkY k n)) ∧ w.grownBy w' v.ownBlock := by
  rcases row_form hrow with ⟨rfl, rfl⟩ | ⟨g, cap, rfl, hg, hcap⟩
  · go_enter Tryz.func54, Tryz.ntmps54
    go_wp2
    refine wp_loop_rounds 1 ?_
    rw [rounds_succ]
    go_wp2
    go_ret
    exact ⟨rfl, World.ownsRow_nil _ _ _ _, grown_self _ _⟩
  · go_enter Tryz.func54, Tryz.ntmps54
    go_wp2
    go_loopw [1, 5] (fun kv i wr => ∃ (j c : Nat), j ≤ n ∧ c = k + j ∧ kv = .int .i64 c ∧ i = .int .i64 j ∧ ∃ ys, wr.ownsRow base 4 1 (.slice (some ⟨g, 0, none⟩) n cap) n ys ∧ ys.take j = bls (mkY k j) ∧ w.grownBy wr (some g)) (fun _ i _ => n - (intOf i).toNat)
    case atStart => exact ⟨0, k, Nat.zero_le _, by omega, rfl, rfl, xs, hrow, by simp [mkY], grown_self _ _⟩
    case round =>
      obtain ⟨j, c, hj, hc, rfl, rfl, ys, row0, hx, hg0⟩ := hrel
      have HX := hid hx
      have HC := hid hc
      clear hx hc hrow
      have hc9 : c ≤ 8000000 := by have := HC.out; omega
      by_cases hlt : j < n
      · have hlen : ys.length = n := by have := row0.1; omega
        have s0 := row0.cellAt j (by omega)
        rw [List.getElem?_eq_getElem (by omega)] at s0
        have t0 := row0.frozenAt j
        have P0 := row0.stored j (.bool ((c : Int) % 3 == 0))
        have HM := hid (show bls (mkY k (j + 1)) = bls (mkY k j) ++ [.bool ((c : Int) % 3 == 0)] by rw [mkY_succ, ← HC.out]; simp [bls])
        go_wp2
        go_roundw
        case rel =>
          refine ⟨j + 1, c + 1, by omega, by have := HC.out; omega, by go_num, by go_num, _, P0.1, ?_, grown_two hg0 P0.2⟩
          rw [take_one _ _ _ (by omega), HX.out, HM.out]
        case measure => simp [intOf]; omega
      · obtain rfl : j = n := by omega
        have HF := hid (show ys = bls (mkY k j) by have := HX.out; rw [List.take_of_length_le (by have := row0.1; omega)] at this; exact this)
        go_wp2
        go_ret
        exact ⟨ret_int (by rw [HC.out]), by rw [← HF.out]; exact row0, hg0⟩

set_option maxHeartbeats 1000000 in
theorem heldBoolS_to (v : Value) (n k : Nat) (w : World) (hn : n ≤ 1048577) (hk : k + n ≤ 8000000) (hr : VS w v (bls (mkY k n))) :
    Calls Tryz.prog 57 #[v, .int .i64 k] w fun e w' => e = .returned (.int .i64 ((k + n : Nat) : Int)) ∧ Below w.heap.size w w' := by
  obtain ⟨a, cap, rfl⟩ := hr.bolLen
  have hln := mkY_len k n
  rw [hln] at hr ⊢
  clear hln
  go_enter Tryz.func57, Tryz.ntmps57
  go_wp2
  go_loopw [1, 5] (fun kv i wr => ∃ (j c : Nat), j ≤ n ∧ c = k + j ∧ kv = .int .i64 c ∧ i = .int .i64 j ∧ Below w.heap.size w wr) (fun _ i _ => n - (intOf i).toNat)
  case atStart => exact ⟨0, k, Nat.zero_le _, by omega, rfl, rfl, Below.refl _ _⟩
  case round =>
    obtain ⟨j, c, hj, hc, rfl, rfl, hB⟩ := hrel
    have HC := hid hc
    clear hc
    have hc9 : c ≤ 8000000 := by have := HC.out; omega
    by_cases hlt : j < n
    · obtain ⟨b, off, rfl, hb, hcap, q0⟩ := (hr.below hB).bol (i := j) (by rw [mkY_len]; exact hlt)
      rw [mkY_at, ← HC.out] at q0
      clear hr
      cases hq : ((c : Int) % 3 == 0)
      all_goals
        rw [hq] at q0
        go_wp2
        go_roundw
        case rel => exact ⟨j + 1, c + 1, by omega, by have := HC.out; omega, by go_num, by go_num, hB⟩
        case measure => simp [intOf]; omega
    · obtain rfl : j = n := by omega
      go_wp2
      go_ret
      exact ⟨ret_int (by rw [HC.out]), hB⟩

end Go.Proofs.YthpckiobfjdckaaGreat
