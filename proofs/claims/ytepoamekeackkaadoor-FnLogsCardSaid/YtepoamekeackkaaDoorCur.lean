/-
  The cursor that the wide laws draw from: what it hands out, and that it writes into itself alone.
-/
import Derived.Deep.RegionHeld3
import Derived.Deep.QuietTactic
import Derived.BigQuiet
import Derived.WalkSmall
import Derived.RangeFuncBox
import Derived.Test.YtepoamekeackkaaDoorIter
namespace Go.Proofs.YtepoamekeackkaaDoor
open Go.RowKit Go.Shelf

/-- A slice of bytes that can be read in w. -/
structure ByS (w : World) (a : Option Addr) (n : Nat) : Prop where
  len : n ≤ 1048576
  at_ : ∀ i, i < n → ∃ (blk off : Nat) (x : Nat), a = some ⟨blk, off, none⟩ ∧ x < 256 ∧ w.cell? ⟨blk, off + i, none⟩ = some (.int .u8 x)
/-- The cursor in block b. -/
structure CurB (w : World) (b : Nat) (a : Option Addr) (n c at_ : Nat) : Prop where
  le : n ≤ c
  c0 : w.cell? ⟨b, 0, none⟩ = some (.slice a n c)
  c1 : w.cell? ⟨b, 1, none⟩ = some (.int .i64 at_)
  c2 : ∃ sd : Int, w.cell? ⟨b, 2, none⟩ = some (.int .u64 sd)
  f1 : w.frozen? ⟨b, 1, none⟩ = false
  f2 : w.frozen? ⟨b, 2, none⟩ = false
  apart : ∀ p, a = some p → p.block < b

theorem gB {w W w2 : World} {r : Option Nat} (h : w.grownBy W r) (hB : Below W.heap.size W w2) : w.grownBy w2 r :=
  ⟨hB.os.trans h.os, hB.tape.trans h.tape, hB.output.trans h.output, Nat.le_trans h.size hB.size, fun k hk hne => (hB.block k (Nat.lt_of_lt_of_le hk h.size)).trans (h.block k hk hne)⟩
theorem g2 {w W w2 : World} {r : Option Nat} (h : w.grownBy W r) (h2 : W.grownBy w2 r) : w.grownBy w2 r :=
  ⟨h2.os.trans h.os, h2.tape.trans h.tape, h2.output.trans h.output, Nat.le_trans h.size h2.size, fun k hk hne => (h2.block k (Nat.lt_of_lt_of_le hk h.size) hne).trans (h.block k hk hne)⟩
theorem gS (w : World) (r : Option Nat) : w.grownBy w r := ⟨rfl, rfl, rfl, Nat.le_refl _, fun _ _ _ => rfl⟩
theorem gD {w W : World} {r : Option Nat} (h : w.grownBy W r) (q : Nat) : w.grownBy (W.drewN q) r := gB h (below_drewN (Below.refl _ _) q)

theorem low_byte (sv : Int) (h0 : 0 ≤ sv) (h1 : sv < 18446744073709551616) : ∃ x : Nat, x < 256 ∧ wrap64 (bits BinOp.and IntKind.u64 (sv / 1099511627776) 255) = (x : Int) := by
  have h := bits_mask .u64 63 (by decide) (fun n h₀ h₁ => by rw [IntKind.wrap_u64]; omega) 8 (by decide) (sv / 1099511627776) (by omega) (by omega)
  have e : ((2 : Int) ^ 8 - 1) = 255 := by decide
  have e2 : ((2 : Int) ^ 8) = 256 := by decide
  rw [e, e2] at h
  rw [h]
  refine ⟨(sv / 1099511627776 % 256).toNat, by omega, ?_⟩
  unfold wrap64
  omega
theorem u64_range (x : Int) : 0 ≤ IntKind.u64.wrap x ∧ IntKind.u64.wrap x < 18446744073709551616 := by
  have h := wrap_within .u64 x
  have e1 : IntKind.u64.min = 0 := by decide
  have e2 : IntKind.u64.max = 18446744073709551615 := by decide
  rw [e1, e2] at h
  omega
theorem grown_setCell (w : World) (a : Addr) (u : Value) : w.grownBy (w.setCell a u) (some a.block) := ⟨rfl, rfl, rfl, by simp, fun k _ hk => Below.heap_setCell _ _ _ k (fun e => hk (by rw [e]))⟩

set_option maxHeartbeats 1000000 in
theorem next_any (b : Nat) (a : Option Addr) (n c k : Nat) (w0 : World) (hB : ByS w0 a n) (hC : CurB w0 b a n c k) (hk : k ≤ 100000000) :
    Calls Tryd.prog 60 #[.pointer (some ⟨b, 0, none⟩)] w0 fun e w' => ∃ x : Nat, x < 256 ∧ e = .returned (.int .i64 x) ∧ CurB w' b a n c (k + 1) ∧ w0.grownBy w' (some b) := by
  obtain ⟨hle, h0, h1, ⟨sd, h2⟩, f1, f2, hap⟩ := hC
  have hg := gS w0 (some b)
  by_cases hlt : k < n
  · obtain ⟨blk, off, x, rfl, hx, hcell⟩ := hB.at_ k hlt
    have hne := hap _ rfl
    have HL := hid hB.len
    have hlt2 : (k : Int) + 1 ≤ n := by omega
    clear hB
    go_enter Tryd.func60, Tryd.ntmps60
    go_wp2
    go_quiet (fail)
    replace hg := gD hg nq
    replace h0 : (w0.drewN nq).cell? _ = _ := h0
    replace h1 : (w0.drewN nq).cell? _ = _ := h1
    replace h2 : (w0.drewN nq).cell? _ = _ := h2
    replace hcell : (w0.drewN nq).cell? _ = _ := hcell
    replace f1 : (w0.drewN nq).frozen? _ = _ := f1
    replace f2 : (w0.drewN nq).frozen? _ = _ := f2
    generalize w0.drewN nq = w1 at *
    clear nq
    go_wp2
    go_quiet (fail)
    replace hg := gD hg nq
    replace h0 : (w1.drewN nq).cell? _ = _ := h0
    replace h1 : (w1.drewN nq).cell? _ = _ := h1
    replace h2 : (w1.drewN nq).cell? _ = _ := h2
    replace hcell : (w1.drewN nq).cell? _ = _ := hcell
    replace f1 : (w1.drewN nq).frozen? _ = _ := f1
    replace f2 : (w1.drewN nq).frozen? _ = _ := f2
    generalize w1.drewN nq = w2 at *
    clear nq
    go_wp2
    generalize IntKind.u64.wrap (IntKind.u64.wrap (IntKind.u64.wrap (sd * 6364136223846793005) + (x : Int)) + 1442695040888963407) = sv
    obtain ⟨W3, hW3⟩ : ∃ W3, W3 = ((w2.setCell ⟨b, 1, none⟩ (.int .i64 ((k : Int) + 1))).setCell ⟨b, 2, none⟩ (.int .u64 sv)) := ⟨_, rfl⟩
    have d0 : W3.cell? ⟨b, 0, none⟩ = some (.slice (some ⟨blk, off, none⟩) n c) := by rw [hW3, World.cell?_setCell_other _ _ _ _ (by simp), World.cell?_setCell_other _ _ _ _ (by simp)]; exact h0
    have d1 : W3.cell? ⟨b, 1, none⟩ = some (.int .i64 ((k : Int) + 1)) := by rw [hW3, World.cell?_setCell_other _ _ _ _ (by simp)]; exact World.cell?_setCell_same _ _ _ h1
    have d2 : W3.cell? ⟨b, 2, none⟩ = some (.int .u64 sv) := by rw [hW3]; exact World.cell?_setCell_same _ _ _ ((World.cell?_setCell_other _ _ _ _ (by simp)).trans h2)
    have e1 : W3.frozen? ⟨b, 1, none⟩ = false := by rw [hW3]; simp [f1]
    have e2 : W3.frozen? ⟨b, 2, none⟩ = false := by rw [hW3]; simp [f2]
    have hg3 : w0.grownBy W3 (some b) := by rw [hW3]; exact g2 (g2 hg (grown_setCell _ ⟨b, 1, none⟩ _)) (grown_setCell _ ⟨b, 2, none⟩ _)
    rw [← hW3]
    clear hW3 h0 h1 h2 f1 f2 hg
    go_quiet (fail)
    go_wp2
    go_ret
    refine ⟨x, hx, rfl, ⟨hle, d0, ?_, ⟨sv, d2⟩, e1, e2, hap⟩, gD hg3 _⟩
    rw [show ((k + 1 : Nat) : Int) = (k : Int) + 1 by omega]
    exact d1
  · have hge : n ≤ k := by omega
    have hlt2 : ¬ ((k : Int) + 1 ≤ n) := by omega
    go_enter Tryd.func60, Tryd.ntmps60
    go_wp2
    go_quiet (fail)
    replace hg := gD hg nq
    replace h0 : (w0.drewN nq).cell? _ = _ := h0
    replace h1 : (w0.drewN nq).cell? _ = _ := h1
    replace h2 : (w0.drewN nq).cell? _ = _ := h2
    replace f1 : (w0.drewN nq).frozen? _ = _ := f1
    replace f2 : (w0.drewN nq).frozen? _ = _ := f2
    generalize w0.drewN nq = w1 at *
    clear nq
    go_wp2
    have hsv := u64_range (IntKind.u64.wrap (IntKind.u64.wrap (sd * 6364136223846793005)) + 1442695040888963407)
    generalize IntKind.u64.wrap (IntKind.u64.wrap (IntKind.u64.wrap (sd * 6364136223846793005)) + 1442695040888963407) = sv at hsv ⊢
    obtain ⟨W3, hW3⟩ : ∃ W3, W3 = ((w1.setCell ⟨b, 1, none⟩ (.int .i64 ((k : Int) + 1))).setCell ⟨b, 2, none⟩ (.int .u64 sv)) := ⟨_, rfl⟩
    have d0 : W3.cell? ⟨b, 0, none⟩ = some (.slice a n c) := by rw [hW3, World.cell?_setCell_other _ _ _ _ (by simp), World.cell?_setCell_other _ _ _ _ (by simp)]; exact h0
    have d1 : W3.cell? ⟨b, 1, none⟩ = some (.int .i64 ((k : Int) + 1)) := by rw [hW3, World.cell?_setCell_other _ _ _ _ (by simp)]; exact World.cell?_setCell_same _ _ _ h1
    have d2 : W3.cell? ⟨b, 2, none⟩ = some (.int .u64 sv) := by rw [hW3]; exact World.cell?_setCell_same _ _ _ ((World.cell?_setCell_other _ _ _ _ (by simp)).trans h2)
    have e1 : W3.frozen? ⟨b, 1, none⟩ = false := by rw [hW3]; simp [f1]
    have e2 : W3.frozen? ⟨b, 2, none⟩ = false := by rw [hW3]; simp [f2]
    have hg3 : w0.grownBy W3 (some b) := by rw [hW3]; exact g2 (g2 hg (grown_setCell _ ⟨b, 1, none⟩ _)) (grown_setCell _ ⟨b, 2, none⟩ _)
    rw [← hW3]
    clear hW3 h0 h1 h2 f1 f2 hg
    go_quiet (fail)
    go_wp2
    obtain ⟨x, hx, he⟩ := low_byte sv hsv.1 hsv.2
    rw [he]
    go_ret
    refine ⟨x, hx, rfl, ⟨hle, d0, ?_, ⟨sv, d2⟩, e1, e2, hap⟩, gD hg3 _⟩
    rw [show ((k + 1 : Nat) : Int) = (k : Int) + 1 by omega]
    exact d1

theorem curB_grown {w w' : World} {b : Nat} {a : Option Addr} {n : Nat} (hB : ByS w a n) (hap : ∀ p, a = some p → p.block < b) (hb : b < w.heap.size) (hg : w.grownBy w' (some b)) : ByS w' a n :=
  ⟨hB.len, fun i hi => by
    obtain ⟨blk, off, x, ha, hx, hc⟩ := hB.at_ i hi
    have := hap _ ha
    exact ⟨blk, off, x, ha, hx, (by simp only [World.cell?]; rw [hg.block blk (by simp only at this; omega) (by simp only [ne_eq, Option.some.injEq] at this ⊢; omega)] : w'.cell? ⟨blk, off + i, none⟩ = w.cell? ⟨blk, off + i, none⟩).trans hc⟩⟩

set_option maxHeartbeats 1000000 in
theorem pick_any (b : Nat) (a : Option Addr) (n c k m : Nat) (w : World) (hm : 2 ≤ m) (hm2 : m ≤ 200) (hB : ByS w a n) (hC : CurB w b a n c k) (hk : k ≤ 100000000) :
    Calls Tryd.prog 47 #[.pointer (some ⟨b, 0, none⟩), .int .i64 m] w fun e w' => ∃ x : Nat, x < m ∧ e = .returned (.int .i64 x) ∧ CurB w' b a n c (k + 1) ∧ w.grownBy w' (some b) := by
  have d1 : decide ((m : Int) ≤ 1) = false := by simp; omega
  have d2 : decide ((m : Int) > 200) = false := by simp; omega
  go_enter Tryd.func47, Tryd.ntmps47
  go_wp2_with fail
  refine (next_any b a n c k _ hB hC hk).mono ?_
  rintro e w1 ⟨x, hx, rfl, hC1, hg1⟩
  go_wp2_with fail
  go_ret
  exact ⟨x % m, Nat.mod_lt _ (by omega), by rw [Int.natCast_emod]; rfl, hC1, hg1⟩

set_option maxHeartbeats 1000000 in
theorem one_any (b : Nat) (a : Option Addr) (n c k m : Nat) (w : World) (hm : 2 ≤ m) (hm2 : m ≤ 200) (hB : ByS w a n) (hC : CurB w b a n c k) (hk : k ≤ 100000000) :
    Calls Tryd.prog 25 #[.pointer (some ⟨b, 0, none⟩), .int .i64 m] w fun e w' => ∃ x : Bool, e = .returned (.bool x) ∧ CurB w' b a n c (k + 1) ∧ w.grownBy w' (some b) := by
  go_enter Tryd.func25, Tryd.ntmps25
  go_wp2_with fail
  refine (pick_any b a n c k m _ hm hm2 hB hC hk).mono ?_
  rintro e w1 ⟨x, hx, rfl, hC1, hg1⟩
  go_wp2_with fail
  go_ret
  exact ⟨_, rfl, hC1, hg1⟩

set_option maxHeartbeats 1000000 in
theorem of_any (b : Nat) (a : Option Addr) (n c k : Nat) (xs : List ByteArray) (base : Nat) (v : Value) (w : World) (hm : 2 ≤ xs.length) (hm2 : xs.length ≤ 200) (hbb : b < base) (hB : ByS w a n) (hC : CurB w b a n c k) (hk : k ≤ 100000000)
    (hrow : w.ownsRow base 9 1 v xs.length (xs.map Value.string)) :
    Calls Tryd.prog 24 #[.pointer (some ⟨b, 0, none⟩), v] w fun e w' => ∃ x ∈ xs, e = .returned (.string x) ∧ CurB w' b a n c (k + 1) ∧ w.grownBy w' (some b) := by
  rcases hrow.2 with ⟨_, h'⟩ | ⟨g, cap, cur, rfl, hg, _, hcap, _⟩
  · omega
  · go_enter Tryd.func24, Tryd.ntmps24
    go_wp2_with fail
    refine (pick_any b a n c k xs.length _ hm hm2 hB hC hk).mono ?_
    rintro e w1 ⟨x, hx, rfl, hC1, hg1⟩
    have hrow1 := hrow.kept hg1 (.inr (by simp [Value.ownBlock]; omega))
    have hc : w1.cell? ⟨g, x, none⟩ = some (.string xs[x]) := by
      rw [hrow1.cellAt x (by omega), List.getElem?_map, List.getElem?_eq_getElem hx]
      rfl
    go_wp2_with fail
    go_ret
    exact ⟨_, List.getElem_mem hx, rfl, hC1, hg1⟩

theorem CurB.lt {w : World} {b : Nat} {a : Option Addr} {n c k : Nat} (h : CurB w b a n c k) : b < w.heap.size := World.block_lt_of_cell? w ⟨b, 0, none⟩ h.c0
theorem CurB.below {w w' : World} {b : Nat} {a : Option Addr} {n c k : Nat} (h : CurB w b a n c k) (hB : Below w.heap.size w w') : CurB w' b a n c k := by
  have hlt := h.lt
  obtain ⟨sd, h2⟩ := h.c2
  exact ⟨h.le, (hB.cell (p := ⟨b, 0, none⟩) hlt).trans h.c0, (hB.cell (p := ⟨b, 1, none⟩) hlt).trans h.c1, ⟨sd, (hB.cell (p := ⟨b, 2, none⟩) hlt).trans h2⟩, (hB.frozen (p := ⟨b, 1, none⟩) hlt).trans h.f1, (hB.frozen (p := ⟨b, 2, none⟩) hlt).trans h.f2, h.apart⟩
theorem ByS.below {w w' : World} {a : Option Addr} {n : Nat} (h : ByS w a n) (hB : Below w.heap.size w w') : ByS w' a n :=
  ⟨h.len, fun i hi => by
    obtain ⟨blk, off, x, ha, hx, hc⟩ := h.at_ i hi
    exact ⟨blk, off, x, ha, hx, (hB.cell (p := ⟨blk, off + i, none⟩) (World.block_lt_of_cell? w ⟨blk, off + i, none⟩ hc)).trans hc⟩⟩
theorem row_new (w : World) (xs : List ByteArray) (h : xs.length ≤ maxLen) : (w.alloc (.cells (xs.map Value.string).toArray 9)).ownsRow w.heap.size 9 1 (.slice (some ⟨w.heap.size, 0, none⟩) xs.length xs.length) xs.length (xs.map Value.string) :=
  ⟨by simp, .inr ⟨w.heap.size, xs.length, (xs.map Value.string).toArray, rfl, Nat.le_refl _, by show (w.heap.push _)[w.heap.size]? = _; rw [Array.getElem?_push_size], Nat.le_refl _, h, by simp, by simp [List.take_of_length_le]⟩⟩

/-- One of the texts of a list that is made at once. -/
theorem ofNew_any (b : Nat) (a : Option Addr) (n c k : Nat) (xs : List ByteArray) (w : World) (hm : 2 ≤ xs.length) (hm2 : xs.length ≤ 200) (hB : ByS w a n) (hC : CurB w b a n c k) (hk : k ≤ 100000000) :
    Calls Tryd.prog 24 #[.pointer (some ⟨b, 0, none⟩), .slice (some ⟨w.heap.size, 0, none⟩) xs.length xs.length] (w.alloc (.cells (xs.map Value.string).toArray 9)) fun e w' => ∃ x ∈ xs, e = .returned (.string x) ∧ ByS w' a n ∧ CurB w' b a n c (k + 1) ∧ w.grownBy w' (some b) := by
  have hBl : Below w.heap.size w (w.alloc (.cells (xs.map Value.string).toArray 9)) := (Below.refl _ w).alloc (Nat.le_refl _) _
  have hC' := hC.below hBl
  refine (of_any b a n c k xs w.heap.size _ _ hm hm2 hC.lt (hB.below hBl) hC' hk (row_new w xs (by unfold maxLen; omega))).mono ?_
  rintro e w1 ⟨x, hx, rfl, hC1, hg1⟩
  exact ⟨x, hx, rfl, curB_grown (hB.below hBl) hC.apart hC'.lt hg1, hC1, g2 (gB (gS w _) hBl) hg1⟩

end Go.Proofs.YtepoamekeackkaaDoor
