/-
  Chapter 5: PutSnapshot, by the specification.
-/
import Derived.Deep.RegionHeld3
import Derived.Deep.QuietTactic
import Derived.BigQuiet
import Derived.WalkSmall
import Derived.RangeFuncBox
import Derived.Test.YtjnajdilllkpcaaGreatJTaken0
import Derived.Deep.DeepCutAuto
import Derived.Test.YtjnajdilllkpcaaGreatJTaken1
import Derived.Test.YtjnajdilllkpcaaGreatJTaken2
import Derived.Test.YtjnajdilllkpcaaGreatJTaken3
import Derived.Shelf.SlGeneric
import Derived.Ground.Names8Prog
import Derived.Shelf.Spec.SlicesGrow
import Derived.Test.YtjnajdilllkpcaaGreatProg
import Derived.Lib.RowBridge
import Derived.Shelf.Slices.CompactI
import Derived.Shelf.Slices.In.SortNone
import Derived.Shelf.Sort.Plain
import Derived.Test.YtjnajdilllkpcaaGreatJTaken4
import Derived.Laws.AppendOwn
import Derived.Deep.RegionLawGrows
namespace Go.Proofs.YtjnajdilllkpcaaGreat
open Go.RowKit Go.Shelf

/-- A slice of bytes that can be read in w. -/
structure ByS (w : World) (a : Option Addr) (n : Nat) : Prop where
  len : n ≤ 1048576
  at_ : ∀ i, i < n → ∃ (blk off : Nat) (x : Nat), a = some ⟨blk, off, none⟩ ∧ x < 256 ∧ w.cell? ⟨blk, off + i, none⟩ = some (.int .u8 x)
/-- The cursor in block b. -/
structure CurB (w : World) (b : Nat) (a : Option Addr) (n c at_ : Nat) : Prop where
  le : n ≤ c
  c0 : w.cell? ⟨b, 0, none⟩ = some (.slice a n c)
  c1 : w.cell? ⟨b, 1, none⟩ = some (.int .i64 at_)
  c2 : ∃ sd : Int, w.cell? ⟨b, 2, none⟩ = some (.int .u64 sd)
  f1 : w.frozen? ⟨b, 1, none⟩ = false
  f2 : w.frozen? ⟨b, 2, none⟩ = false
  apart : ∀ p, a = some p → p.block < b

theorem gB {w W w2 : World} {r : Option Nat} (h : w.grownBy W r) (hB : Below W.heap.size W w2) : w.grownBy w2 r :=
  ⟨hB.os.trans h.os, hB.tape.trans h.tape, hB.output.trans h.output, Nat.le_trans h.size hB.size, fun k hk hne => (hB.block k (Nat.lt_of_lt_of_le hk h.size)).trans (h.block k hk hne)⟩
theorem g2 {w W w2 : World} {r : Option Nat} (h : w.grownBy W r) (h2 : W.grownBy w2 r) : w.grownBy w2 r :=
  ⟨h2.os.trans h.os, h2.tape.trans h.tape, h2.output.trans h.output, Nat.le_trans h.size h2.size, fun k hk hne => (h2.block k (Nat.lt_of_lt_of_le hk h.size) hne).trans (h.block k hk hne)⟩
theorem gS (w : World) (r : Option Nat) : w.grownBy w r := ⟨rfl, rfl, rfl, Nat.le_refl _, fun _ _ _ => rfl⟩
theorem gD {w W : World} {r : Option Nat} (h : w.grownBy W r) (q : Nat) : w.grownBy (W.drewN q) r := gB h (below_drewN (Below.refl _ _) q)

theorem low_byte (sv : Int) (h0 : 0 ≤ sv) (h1 : sv < 18446744073709551616) : ∃ x : Nat, x < 256 ∧ wrap64 (bits BinOp.and IntKind.u64 (sv / 1099511627776) 255) = (x : Int) := by
  have h := bits_mask .u64 63 (by decide) (fun n h₀ h₁ => by rw [IntKind.wrap_u64]; omega) 8 (by decide) (sv / 1099511627776) (by omega) (by omega)
  have e : ((2 : Int) ^ 8 - 1) = 255 := by decide
  have e2 : ((2 : Int) ^ 8) = 256 := by decide
  rw [e, e2] at h
  rw [h]
  refine ⟨(sv / 1099511627776 % 256).toNat, by omega, ?_⟩
  unfold wrap64
  omega
theorem u64_range (x : Int) : 0 ≤ IntKind.u64.wrap x ∧ IntKind.u64.wrap x < 18446744073709551616 := by
  have h := wrap_within .u64 x
  have e1 : IntKind.u64.min = 0 := by decide
  have e2 : IntKind.u64.max = 18446744073709551615 := by decide
  rw [e1, e2] at h
  omega
theorem grown_setCell (w : World) (a : Addr) (u : Value) : w.grownBy (w.setCell a u) (some a.block) := ⟨rfl, rfl, rfl, by simp, fun k _ hk => Below.heap_setCell _ _ _ k (fun e => hk (by rw [e]))⟩

set_option maxHeartbeats 1000000 in
theorem next_any (b : Nat) (a : Option Addr) (n c k : Nat) (w0 : World) (hB : ByS w0 a n) (hC : CurB w0 b a n c k) (hk : k ≤ 100000000) :
    Calls Tryz.prog 29 #[.pointer (some ⟨b, 0, none⟩)] w0 fun e w' => ∃ x : Nat, x < 256 ∧ e = .returned (.int .i64 x) ∧ CurB w' b a n c (k + 1) ∧ w0.grownBy w' (some b) := by
  obtain ⟨hle, h0, h1, ⟨sd, h2⟩, f1, f2, hap⟩ := hC
  have hg := gS w0 (some b)
  by_cases hlt : k < n
  · obtain ⟨blk, off, x, rfl, hx, hcell⟩ := hB.at_ k hlt
    have hne := hap _ rfl
    have HL := hid hB.len
    have hlt2 : (k : Int) + 1 ≤ n := by omega
    clear hB
    go_enter Tryz.func29, Tryz.ntmps29
    go_wp2
    go_quiet (fail)
    replace hg := gD hg nq
    replace h0 : (w0.drewN nq).cell? _ = _ := h0
    replace h1 : (w0.drewN nq).cell? _ = _ := h1
    replace h2 : (w0.drewN nq).cell? _ = _ := h2
    replace hcell : (w0.drewN nq).cell? _ = _ := hcell
    replace f1 : (w0.drewN nq).frozen? _ = _ := f1
    replace f2 : (w0.drewN nq).frozen? _ = _ := f2
    generalize w0.drewN nq = w1 at *
    clear nq
    go_wp2
    go_quiet (fail)
    replace hg := gD hg nq
    replace h0 : (w1.drewN nq).cell? _ = _ := h0
    replace h1 : (w1.drewN nq).cell? _ = _ := h1
    replace h2 : (w1.drewN nq).cell? _ = _ := h2
    replace hcell : (w1.drewN nq).cell? _ = _ := hcell
    replace f1 : (w1.drewN nq).frozen? _ = _ := f1
    replace f2 : (w1.drewN nq).frozen? _ = _ := f2
    generalize w1.drewN nq = w2 at *
    clear nq
    go_wp2
    generalize IntKind.u64.wrap (IntKind.u64.wrap (IntKind.u64.wrap (sd * 6364136223846793005) + (x : Int)) + 1442695040888963407) = sv
    obtain ⟨W3, hW3⟩ : ∃ W3, W3 = ((w2.setCell ⟨b, 1, none⟩ (.int .i64 ((k : Int) + 1))).setCell ⟨b, 2, none⟩ (.int .u64 sv)) := ⟨_, rfl⟩
    have d0 : W3.cell? ⟨b, 0, none⟩ = some (.slice (some ⟨blk, off, none⟩) n c) := by rw [hW3, World.cell?_setCell_other _ _ _ _ (by simp), World.cell?_setCell_other _ _ _ _ (by simp)]; exact h0
    have d1 : W3.cell? ⟨b, 1, none⟩ = some (.int .i64 ((k : Int) + 1)) := by rw [hW3, World.cell?_setCell_other _ _ _ _ (by simp)]; exact World.cell?_setCell_same _ _ _ h1
    have d2 : W3.cell? ⟨b, 2, none⟩ = some (.int .u64 sv) := by rw [hW3]; exact World.cell?_setCell_same _ _ _ ((World.cell?_setCell_other _ _ _ _ (by simp)).trans h2)
    have e1 : W3.frozen? ⟨b, 1, none⟩ = false := by rw [hW3]; simp [f1]
    have e2 : W3.frozen? ⟨b, 2, none⟩ = false := by rw [hW3]; simp [f2]
    have hg3 : w0.grownBy W3 (some b) := by rw [hW3]; exact g2 (g2 hg (grown_setCell _ ⟨b, 1, none⟩ _)) (grown_setCell _ ⟨b, 2, none⟩ _)
    rw [← hW3]
    clear hW3 h0 h1 h2 f1 f2 hg
    go_quiet (fail)
    go_wp2
    go_ret
    refine ⟨x, hx, rfl, ⟨hle, d0, ?_, ⟨sv, d2⟩, e1, e2, hap⟩, gD hg3 _⟩
    rw [show ((k + 1 : Nat) : Int) = (k : Int) + 1 by omega]
    exact d1
  · have hge : n ≤ k := by omega
    have hlt2 : ¬ ((k : Int) + 1 ≤ n) := by omega
    go_enter Tryz.func29, Tryz.ntmps29
    go_wp2
    go_quiet (fail)
    replace hg := gD hg nq
    replace h0 : (w0.drewN nq).cell? _ = _ := h0
    replace h1 : (w0.drewN nq).cell? _ = _ := h1
    replace h2 : (w0.drewN nq).cell? _ = _ := h2
    replace f1 : (w0.drewN nq).frozen? _ = _ := f1
    replace f2 : (w0.drewN nq).frozen? _ = _ := f2
    generalize w0.drewN nq = w1 at *
    clear nq
    go_wp2
    have hsv := u64_range (IntKind.u64.wrap (IntKind.u64.wrap (sd * 6364136223846793005)) + 1442695040888963407)
    generalize IntKind.u64.wrap (IntKind.u64.wrap (IntKind.u64.wrap (sd * 6364136223846793005)) + 1442695040888963407) = sv at hsv ⊢
    obtain ⟨W3, hW3⟩ : ∃ W3, W3 = ((w1.setCell ⟨b, 1, none⟩ (.int .i64 ((k : Int) + 1))).setCell ⟨b, 2, none⟩ (.int .u64 sv)) := ⟨_, rfl⟩
    have d0 : W3.cell? ⟨b, 0, none⟩ = some (.slice a n c) := by rw [hW3, World.cell?_setCell_other _ _ _ _ (by simp), World.cell?_setCell_other _ _ _ _ (by simp)]; exact h0
    have d1 : W3.cell? ⟨b, 1, none⟩ = some (.int .i64 ((k : Int) + 1)) := by rw [hW3, World.cell?_setCell_other _ _ _ _ (by simp)]; exact World.cell?_setCell_same _ _ _ h1
    have d2 : W3.cell? ⟨b, 2, none⟩ = some (.int .u64 sv) := by rw [hW3]; exact World.cell?_setCell_same _ _ _ ((World.cell?_setCell_other _ _ _ _ (by simp)).trans h2)
    have e1 : W3.frozen? ⟨b, 1, none⟩ = false := by rw [hW3]; simp [f1]
    have e2 : W3.frozen? ⟨b, 2, none⟩ = false := by rw [hW3]; simp [f2]
    have hg3 : w0.grownBy W3 (some b) := by rw [hW3]; exact g2 (g2 hg (grown_setCell _ ⟨b, 1, none⟩ _)) (grown_setCell _ ⟨b, 2, none⟩ _)
    rw [← hW3]
    clear hW3 h0 h1 h2 f1 f2 hg
    go_quiet (fail)
    go_wp2
    obtain ⟨x, hx, he⟩ := low_byte sv hsv.1 hsv.2
    rw [he]
    go_ret
    refine ⟨x, hx, rfl, ⟨hle, d0, ?_, ⟨sv, d2⟩, e1, e2, hap⟩, gD hg3 _⟩
    rw [show ((k + 1 : Nat) : Int) = (k : Int) + 1 by omega]
    exact d1

theorem curB_grown {w w' : World} {b : Nat} {a : Option Addr} {n : Nat} (hB : ByS w a n) (hap : ∀ p, a = some p → p.block < b) (hb : b < w.heap.size) (hg : w.grownBy w' (some b)) : ByS w' a n :=
  ⟨hB.len, fun i hi => by
    obtain ⟨blk, off, x, ha, hx, hc⟩ := hB.at_ i hi
    have := hap _ ha
    exact ⟨blk, off, x, ha, hx, (by simp only [World.cell?]; rw [hg.block blk (by simp only at this; omega) (by simp only [ne_eq, Option.some.injEq] at this ⊢; omega)] : w'.cell? ⟨blk, off + i, none⟩ = w.cell? ⟨blk, off + i, none⟩).trans hc⟩⟩

set_option maxHeartbeats 1000000 in
theorem pick_any (b : Nat) (a : Option Addr) (n c k m : Nat) (w : World) (hm : 2 ≤ m) (hm2 : m ≤ 200) (hB : ByS w a n) (hC : CurB w b a n c k) (hk : k ≤ 100000000) :
    Calls Tryz.prog 12 #[.pointer (some ⟨b, 0, none⟩), .int .i64 m] w fun e w' => ∃ x : Nat, x < m ∧ e = .returned (.int .i64 x) ∧ CurB w' b a n c (k + 1) ∧ w.grownBy w' (some b) := by
  have d1 : decide ((m : Int) ≤ 1) = false := by simp; omega
  have d2 : decide ((m : Int) > 200) = false := by simp; omega
  go_enter Tryz.func12, Tryz.ntmps12
  go_wp2_with fail
  refine (next_any b a n c k _ hB hC hk).mono ?_
  rintro e w1 ⟨x, hx, rfl, hC1, hg1⟩
  go_wp2_with fail
  go_ret
  exact ⟨x % m, Nat.mod_lt _ (by omega), by rw [Int.natCast_emod]; rfl, hC1, hg1⟩

set_option maxHeartbeats 1000000 in
theorem one_any (b : Nat) (a : Option Addr) (n c k m : Nat) (w : World) (hm : 2 ≤ m) (hm2 : m ≤ 200) (hB : ByS w a n) (hC : CurB w b a n c k) (hk : k ≤ 100000000) :
    Calls Tryz.prog 27 #[.pointer (some ⟨b, 0, none⟩), .int .i64 m] w fun e w' => ∃ x : Bool, e = .returned (.bool x) ∧ CurB w' b a n c (k + 1) ∧ w.grownBy w' (some b) := by
  go_enter Tryz.func27, Tryz.ntmps27
  go_wp2_with fail
  refine (pick_any b a n c k m _ hm hm2 hB hC hk).mono ?_
  rintro e w1 ⟨x, hx, rfl, hC1, hg1⟩
  go_wp2_with fail
  go_ret
  exact ⟨_, rfl, hC1, hg1⟩

set_option maxHeartbeats 1000000 in
theorem of_any (b : Nat) (a : Option Addr) (n c k : Nat) (xs : List ByteArray) (base : Nat) (v : Value) (w : World) (hm : 2 ≤ xs.length) (hm2 : xs.length ≤ 200) (hbb : b < base) (hB : ByS w a n) (hC : CurB w b a n c k) (hk : k ≤ 100000000)
    (hrow : w.ownsRow base 9 1 v xs.length (xs.map Value.string)) :
    Calls Tryz.prog 31 #[.pointer (some ⟨b, 0, none⟩), v] w fun e w' => ∃ x ∈ xs, e = .returned (.string x) ∧ CurB w' b a n c (k + 1) ∧ w.grownBy w' (some b) := by
  rcases hrow.2 with ⟨_, h'⟩ | ⟨g, cap, cur, rfl, hg, _, hcap, _⟩
  · omega
  · go_enter Tryz.func31, Tryz.ntmps31
    go_wp2_with fail
    refine (pick_any b a n c k xs.length _ hm hm2 hB hC hk).mono ?_
    rintro e w1 ⟨x, hx, rfl, hC1, hg1⟩
    have hrow1 := hrow.kept hg1 (.inr (by simp [Value.ownBlock]; omega))
    have hc : w1.cell? ⟨g, x, none⟩ = some (.string xs[x]) := by
      rw [hrow1.cellAt x (by omega), List.getElem?_map, List.getElem?_eq_getElem hx]
      rfl
    go_wp2_with fail
    go_ret
    exact ⟨_, List.getElem_mem hx, rfl, hC1, hg1⟩

theorem CurB.lt {w : World} {b : Nat} {a : Option Addr} {n c k : Nat} (h : CurB w b a n c k) : b < w.heap.size := World.block_lt_of_cell? w ⟨b, 0, none⟩ h.c0
theorem CurB.below {w w' : World} {b : Nat} {a : Option Addr} {n c k : Nat} (h : CurB w b a n c k) (hB : Below w.heap.size w w') : CurB w' b a n c k := by
  have hlt := h.lt
  obtain ⟨sd, h2⟩ := h.c2
  exact ⟨h.le, (hB.cell (p := ⟨b, 0, none⟩) hlt).trans h.c0, (hB.cell (p := ⟨b, 1, none⟩) hlt).trans h.c1, ⟨sd, (hB.cell (p := ⟨b, 2, none⟩) hlt).trans h2⟩, (hB.frozen (p := ⟨b, 1, none⟩) hlt).trans h.f1, (hB.frozen (p := ⟨b, 2, none⟩) hlt).trans h.f2, h.apart⟩
theorem ByS.below {w w' : World} {a : Option Addr} {n : Nat} (h : ByS w a n) (hB : Below w.heap.size w w') : ByS w' a n :=
  ⟨h.len, fun i hi => by
    obtain ⟨blk, off, x, ha, hx, hc⟩ := h.at_ i hi
    exact ⟨blk, off, x, ha, hx, (hB.cell (p := ⟨blk, off + i, none⟩) (World.block_lt_of_cell? w ⟨blk, off + i, none⟩ hc)).trans hc⟩⟩
theorem row_new (w : World) (xs : List ByteArray) (h : xs.length ≤ maxLen) : (w.alloc (.cells (xs.map Value.string).toArray 9)).ownsRow w.heap.size 9 1 (.slice (some ⟨w.heap.size, 0, none⟩) xs.length xs.length) xs.length (xs.map Value.string) :=
  ⟨by simp, .inr ⟨w.heap.size, xs.length, (xs.map Value.string).toArray, rfl, Nat.le_refl _, by show (w.heap.push _)[w.heap.size]? = _; rw [Array.getElem?_push_size], Nat.le_refl _, h, by simp, by simp [List.take_of_length_le]⟩⟩

/-- One of the texts of a list that is made at once. -/
theorem ofNew_any (b : Nat) (a : Option Addr) (n c k : Nat) (xs : List ByteArray) (w : World) (hm : 2 ≤ xs.length) (hm2 : xs.length ≤ 200) (hB : ByS w a n) (hC : CurB w b a n c k) (hk : k ≤ 100000000) :
    Calls Tryz.prog 31 #[.pointer (some ⟨b, 0, none⟩), .slice (some ⟨w.heap.size, 0, none⟩) xs.length xs.length] (w.alloc (.cells (xs.map Value.string).toArray 9)) fun e w' => ∃ x ∈ xs, e = .returned (.string x) ∧ ByS w' a n ∧ CurB w' b a n c (k + 1) ∧ w.grownBy w' (some b) := by
  have hBl : Below w.heap.size w (w.alloc (.cells (xs.map Value.string).toArray 9)) := (Below.refl _ w).alloc (Nat.le_refl _) _
  have hC' := hC.below hBl
  refine (of_any b a n c k xs w.heap.size _ _ hm hm2 hC.lt (hB.below hBl) hC' hk (row_new w xs (by unfold maxLen; omega))).mono ?_
  rintro e w1 ⟨x, hx, rfl, hC1, hg1⟩
  exact ⟨x, hx, rfl, curB_grown (hB.below hBl) hC.apart hC'.lt hg1, hC1, g2 (gB (gS w _) hBl) hg1⟩

set_option maxHeartbeats 1000000 in
theorem word_any (b : Nat) (a : Option Addr) (n c k : Nat) (w : World) (hB : ByS w a n) (hC : CurB w b a n c k) (hk : k ≤ 100000000) :
    Calls Tryz.prog 52 #[.pointer (some ⟨b, 0, none⟩)] w fun e w' => ∃ x : ByteArray, x.size ≤ 3 ∧ e = .returned (.string x) ∧ ByS w' a n ∧ CurB w' b a n c (k + 1) ∧ w.grownBy w' (some b) := by
  go_enter Tryz.func52, Tryz.ntmps52
  go_wp2_with fail
  refine (ofNew_any b a n c k [⟨#[97]⟩, ⟨#[98]⟩, ⟨#[97, 112, 105]⟩, ⟨#[118, 49]⟩, ⟨#[119, 101, 98]⟩, ⟨#[120, 57]⟩] w (by decide) (by decide) hB hC hk).mono ?_
  rintro e w1 ⟨x, hx, rfl, hB1, hC1, hg1⟩
  have hz : x.size ≤ 3 := by
    simp only [List.mem_cons, List.mem_nil_iff, or_false] at hx
    rcases hx with rfl | rfl | rfl | rfl | rfl | rfl <;> decide
  go_wp2_with fail
  go_ret
  exact ⟨x, hz, rfl, hB1, hC1, hg1⟩

end Go.Proofs.YtjnajdilllkpcaaGreat

namespace Go.Proofs.YtjnajdilllkpcaaGreat
open Go.RowKit Go.Shelf

/-- A text that does not begin with an n. -/
def noN (x : ByteArray) : Prop := x.data.toList.head? ≠ some 110

theorem row_newI (w : World) (zs : List Int) (h : zs.length ≤ maxLen) : (w.alloc (.cells (zs.map (Value.int .i64)).toArray 3)).ownsRow w.heap.size 3 1 (.slice (some ⟨w.heap.size, 0, none⟩) zs.length zs.length) zs.length (zs.map (Value.int .i64)) :=
  ⟨by simp, .inr ⟨w.heap.size, zs.length, (zs.map (Value.int .i64)).toArray, rfl, Nat.le_refl _, by show (w.heap.push _)[w.heap.size]? = _; rw [Array.getElem?_push_size], Nat.le_refl _, h, by simp, by simp [List.take_of_length_le]⟩⟩

set_option maxHeartbeats 1000000 in
theorem among_any (b : Nat) (a : Option Addr) (n c k : Nat) (zs : List Int) (base : Nat) (v : Value) (w : World) (hm : 2 ≤ zs.length) (hm2 : zs.length ≤ 200) (hbb : b < base) (hB : ByS w a n) (hC : CurB w b a n c k) (hk : k ≤ 100000000)
    (hrow : w.ownsRow base 3 1 v zs.length (zs.map (Value.int .i64))) :
    Calls Tryz.prog 28 #[.pointer (some ⟨b, 0, none⟩), v] w fun e w' => ∃ z ∈ zs, e = .returned (.int .i64 z) ∧ CurB w' b a n c (k + 1) ∧ w.grownBy w' (some b) := by
  rcases hrow.2 with ⟨_, h'⟩ | ⟨g, cap, cur, rfl, hg, _, hcap, _⟩
  · omega
  · go_enter Tryz.func28, Tryz.ntmps28
    go_wp2_with fail
    refine (pick_any b a n c k zs.length _ hm hm2 hB hC hk).mono ?_
    rintro e w1 ⟨x, hx, rfl, hC1, hg1⟩
    have hrow1 := hrow.kept hg1 (.inr (by simp [Value.ownBlock]; omega))
    have hc : w1.cell? ⟨g, x, none⟩ = some (.int .i64 zs[x]) := by
      rw [hrow1.cellAt x (by omega), List.getElem?_map, List.getElem?_eq_getElem hx]
      rfl
    go_wp2_with fail
    go_ret
    exact ⟨_, List.getElem_mem hx, rfl, hC1, hg1⟩

/-- One of the numbers of a list that is made at once. -/
theorem amongNew_any (b : Nat) (a : Option Addr) (n c k : Nat) (zs : List Int) (w : World) (hm : 2 ≤ zs.length) (hm2 : zs.length ≤ 200) (hB : ByS w a n) (hC : CurB w b a n c k) (hk : k ≤ 100000000) :
    Calls Tryz.prog 28 #[.pointer (some ⟨b, 0, none⟩), .slice (some ⟨w.heap.size, 0, none⟩) zs.length zs.length] (w.alloc (.cells (zs.map (Value.int .i64)).toArray 3)) fun e w' => ∃ z ∈ zs, e = .returned (.int .i64 z) ∧ ByS w' a n ∧ CurB w' b a n c (k + 1) ∧ w.grownBy w' (some b) := by
  have hBl : Below w.heap.size w (w.alloc (.cells (zs.map (Value.int .i64)).toArray 3)) := (Below.refl _ w).alloc (Nat.le_refl _) _
  have hC' := hC.below hBl
  refine (among_any b a n c k zs w.heap.size _ _ hm hm2 hC.lt (hB.below hBl) hC' hk (row_newI w zs (by unfold maxLen; omega))).mono ?_
  rintro e w1 ⟨x, hx, rfl, hC1, hg1⟩
  exact ⟨x, hx, rfl, curB_grown (hB.below hBl) hC.apart hC'.lt hg1, hC1, g2 (gB (gS w _) hBl) hg1⟩

end Go.Proofs.YtjnajdilllkpcaaGreat

namespace Go.Proofs.YtjnajdilllkpcaaGreat
open Go.RowKit Go.Shelf

set_option maxHeartbeats 1000000 in
theorem drawNP_any (b : Nat) (a : Option Addr) (n c k : Nat) (w : World) (hB : ByS w a n) (hC : CurB w b a n c k) (hk : k ≤ 10000000) :
    Calls Tryz.prog 30 #[.pointer (some ⟨b, 0, none⟩)] w fun e w' => ∃ x : ByteArray, x.size ≤ 100 ∧ e = .returned (.string x) ∧ ByS w' a n ∧ (∃ k', k' ≤ k + 10 ∧ CurB w' b a n c k') ∧ w.grownBy w' (some b) := by
  go_enter Tryz.func30, Tryz.ntmps30
  go_wp2_with fail
  refine (one_any b a n c k 30 w (by omega) (by omega) hB hC (by omega)).mono ?_
  rintro e w1 ⟨z, rfl, hC1, hg1⟩
  have hB1 := curB_grown hB hC.apart hC.lt hg1
  cases z
  · go_wp2_with fail
    refine (ofNew_any b a n c (k + 1) [⟨#[112, 114, 111, 100]⟩, ⟨#[100, 101, 118]⟩, ⟨#[42]⟩] w1 (by decide) (by decide) hB1 hC1 (by omega)).mono ?_
    rintro e w2 ⟨x, hx, rfl, hB2, hC2, hg2⟩
    have hz : x.size ≤ 4 := by
      simp only [List.mem_cons, List.mem_nil_iff, or_false] at hx
      rcases hx with rfl | rfl | rfl <;> decide
    clear hx
    go_wp2_with fail
    refine (ofNew_any b a n c (k + 1 + 1) [⟨#[119, 101, 98]⟩, ⟨#[97, 112, 105]⟩, ⟨#[100, 98]⟩, ⟨#[42]⟩] w2 (by decide) (by decide) hB2 hC2 (by omega)).mono ?_
    rintro e w3 ⟨y, hy, rfl, hB3, hC3, hg3⟩
    have hy' : y.size ≤ 4 := by
      simp only [List.mem_cons, List.mem_nil_iff, or_false] at hy
      rcases hy with rfl | rfl | rfl | rfl <;> decide
    clear hy
    go_wp2_with fail
    go_ret
    exact ⟨_, by simp only [ByteArray.size_append]; show _ + 1 + _ ≤ 100; omega, rfl, hB3, ⟨_, by omega, hC3⟩, g2 (g2 hg1 hg2) hg3⟩
  · go_wp2_with fail
    refine (ofNew_any b a n c (k + 1) [⟨#[]⟩, ⟨#[42]⟩, ⟨#[42, 47, 42, 47, 42]⟩, ⟨#[42, 42, 47, 97]⟩] w1 (by decide) (by decide) hB1 hC1 (by omega)).mono ?_
    rintro e w2 ⟨x, hx, rfl, hB2, hC2, hg2⟩
    have hz : x.size ≤ 100 := by
      simp only [List.mem_cons, List.mem_nil_iff, or_false] at hx
      rcases hx with rfl | rfl | rfl | rfl <;> decide
    clear hx
    go_wp2_with fail
    go_ret
    exact ⟨x, hz, rfl, hB2, ⟨_, by omega, hC2⟩, g2 hg1 hg2⟩


end Go.Proofs.YtjnajdilllkpcaaGreat

namespace Go.Proofs.YtjnajdilllkpcaaGreat
open Go.RowKit Go.Shelf

set_option maxHeartbeats 2000000 in
theorem drawPP_any (b : Nat) (a : Option Addr) (n c k : Nat) (w : World) (hB : ByS w a n) (hC : CurB w b a n c k) (hk : k ≤ 10000000) :
    Calls Tryz.prog 32 #[.pointer (some ⟨b, 0, none⟩)] w fun e w' => ∃ x : ByteArray, x.size ≤ 100 ∧ e = .returned (.string x) ∧ ByS w' a n ∧ (∃ k', k' ≤ k + 20 ∧ CurB w' b a n c k') ∧ w.grownBy w' (some b) := by
  go_enter Tryz.func32, Tryz.ntmps32
  go_wp2_with fail
  refine (pick_any b a n c k 4 w (by omega) (by omega) hB hC (by omega)).mono ?_
  rintro e w9 ⟨m, hm, rfl, hC9, hg9⟩
  have hB9 := curB_grown hB hC.apart hC.lt hg9
  go_wp2_with fail
  go_loopw [3, 4] (fun sv nv wr => ∃ (t : ByteArray) (j q : Nat), sv = .string t ∧ nv = .int .i64 j ∧ j ≤ 4 ∧ t.size + j * 8 ≤ 32 ∧ q + 2 * j ≤ k + 9 ∧ ByS wr a n ∧ CurB wr b a n c q ∧ w.grownBy wr (some b)) (fun _ nv _ => (intOf nv).toNat)
  case atStart => exact ⟨⟨#[]⟩, m, k + 1, rfl, rfl, by omega, by show 0 + _ ≤ _; omega, by omega, hB9, hC9, hg9⟩
  case round =>
    obtain ⟨t, j, q, rfl, rfl, hj, ht, hq, hB1, hC1, hg1⟩ := hrel
    clear hB9 hC9 hg9 hB hC
    by_cases hjz : 0 < j
    · have hj0 : 0 < j := by omega
      have d0 : decide ((j : Int) > 0) = true := by simp; omega
      go_wp2_with fail
      refine (word_any b a n c q wr hB1 hC1 (by omega)).mono ?_
      rintro e w2 ⟨x, hx, rfl, hB2, hC2, hG2⟩
      have hg2 := g2 hg1 hG2
      clear hG2
      go_wp2_with fail
      refine (ofNew_any b a n c (q + 1) [x, ⟨#[42]⟩, ⟨#[97]⟩] w2 (by simp) (by simp) hB2 hC2 (by omega)).mono ?_
      rintro e w3 ⟨y, hy, rfl, hB3, hC3, hG3⟩
      have hg3 := g2 hg2 hG3
      have hy' : y.size ≤ 3 := by
        simp only [List.mem_cons, List.mem_nil_iff, or_false] at hy
        rcases hy with rfl | rfl | rfl <;> first | omega | decide
      clear hy hG3
      go_wp2
      go_roundw
      case rel =>
        refine ⟨_, j - 1, q + 1 + 1, rfl, by go_num, by omega, ?_, by omega, hB3, hC3, hg3⟩
        simp only [ByteArray.size_append]
        show _ + (1 + _) + _ ≤ 32
        omega
      case measure => simp [intOf]; omega
    · obtain rfl : j = 0 := by omega
      have d0 : decide (((0 : Nat) : Int) > 0) = false := by decide
      cases hx : t.toList.isEmpty
      · go_wp2_with fail
        refine (one_any b a n c q 3 wr (by omega) (by omega) hB1 hC1 (by omega)).mono ?_
        rintro e w2 ⟨u, rfl, hC2, hG2⟩
        have hB2 := curB_grown hB1 hC1.apart hC1.lt hG2
        have hg2 := g2 hg1 hG2
        clear hG2
        cases u
        · go_wp2_with fail
          refine (one_any b a n c (q + 1) 30 w2 (by omega) (by omega) hB2 hC2 (by omega)).mono ?_
          rintro e w3 ⟨z2, rfl, hC3, hG3⟩
          have hB3 := curB_grown hB2 hC2.apart hC2.lt hG3
          have hg3 := g2 hg2 hG3
          clear hG3
          cases z2
          · go_wp2
            go_ret
            exact ⟨_, by omega, rfl, hB3, ⟨_, by omega, hC3⟩, hg3⟩
          · go_wp2_with fail
            refine (ofNew_any b a n c ((q + 1) + 1) [⟨#[47]⟩, ⟨#[]⟩, ⟨#[47, 42, 42, 47, 97]⟩, ⟨#[47, 42, 42, 42]⟩, ⟨#[47, 97, 47, 98, 47, 97, 47, 98, 47, 97, 47, 98]⟩, ⟨#[47, 97, 47, 98, 47, 97, 47, 98, 47, 97, 47, 42, 42]⟩, ⟨#[47, 97, 47, 98, 47, 97, 47, 98, 47, 97, 47, 98, 47, 42, 42]⟩] w3 (by simp) (by simp) hB3 hC3 (by omega)).mono ?_
            rintro e w4 ⟨o, ho, rfl, hB4, hC4, hG4⟩
            have hg4 := g2 hg3 hG4
            have ho' : o.size ≤ 100 := by
              simp only [List.mem_cons, List.mem_nil_iff, or_false] at ho
              rcases ho with rfl | rfl | rfl | rfl | rfl | rfl | rfl <;> decide
            clear ho hG4
            go_wp2
            go_ret
            exact ⟨_, ho', rfl, hB4, ⟨_, by omega, hC4⟩, hg4⟩
        · go_wp2_with fail
          refine (ofNew_any b a n c (q + 1) [⟨#[47, 42, 42]⟩, ⟨#[47]⟩] w2 (by simp) (by simp) hB2 hC2 (by omega)).mono ?_
          rintro e w3 ⟨y, hy, rfl, hB3, hC3, hG3⟩
          have hg3 := g2 hg2 hG3
          have hy' : y.size ≤ 3 := by
            simp only [List.mem_cons, List.mem_nil_iff, or_false] at hy
            rcases hy with rfl | rfl <;> decide
          clear hy hG3
          go_wp2_with fail
          refine (one_any b a n c (q + 1 + 1) 30 w3 (by omega) (by omega) hB3 hC3 (by omega)).mono ?_
          rintro e w4 ⟨z3, rfl, hC4, hG4⟩
          have hB4 := curB_grown hB3 hC3.apart hC3.lt hG4
          have hg4 := g2 hg3 hG4
          clear hG4
          cases z3
          · go_wp2
            go_ret
            exact ⟨_, by simp only [ByteArray.size_append]; omega, rfl, hB4, ⟨_, by omega, hC4⟩, hg4⟩
          · go_wp2_with fail
            refine (ofNew_any b a n c ((q + 1 + 1) + 1) [⟨#[47]⟩, ⟨#[]⟩, ⟨#[47, 42, 42, 47, 97]⟩, ⟨#[47, 42, 42, 42]⟩, ⟨#[47, 97, 47, 98, 47, 97, 47, 98, 47, 97, 47, 98]⟩, ⟨#[47, 97, 47, 98, 47, 97, 47, 98, 47, 97, 47, 42, 42]⟩, ⟨#[47, 97, 47, 98, 47, 97, 47, 98, 47, 97, 47, 98, 47, 42, 42]⟩] w4 (by simp) (by simp) hB4 hC4 (by omega)).mono ?_
            rintro e w5 ⟨o, ho, rfl, hB5, hC5, hG5⟩
            have hg5 := g2 hg4 hG5
            have ho' : o.size ≤ 100 := by
              simp only [List.mem_cons, List.mem_nil_iff, or_false] at ho
              rcases ho with rfl | rfl | rfl | rfl | rfl | rfl | rfl <;> decide
            clear ho hG5
            go_wp2
            go_ret
            exact ⟨_, ho', rfl, hB5, ⟨_, by omega, hC5⟩, hg5⟩
      · go_wp2_with fail
        refine (ofNew_any b a n c q [⟨#[47, 42, 42]⟩, ⟨#[47]⟩] wr (by simp) (by simp) hB1 hC1 (by omega)).mono ?_
        rintro e w2 ⟨y, hy, rfl, hB2, hC2, hG2⟩
        have hg2 := g2 hg1 hG2
        have hy' : y.size ≤ 3 := by
          simp only [List.mem_cons, List.mem_nil_iff, or_false] at hy
          rcases hy with rfl | rfl <;> decide
        clear hy hG2
        go_wp2_with fail
        refine (one_any b a n c (q + 1) 30 w2 (by omega) (by omega) hB2 hC2 (by omega)).mono ?_
        rintro e w3 ⟨z2, rfl, hC3, hG3⟩
        have hB3 := curB_grown hB2 hC2.apart hC2.lt hG3
        have hg3 := g2 hg2 hG3
        clear hG3
        cases z2
        · go_wp2
          go_ret
          exact ⟨_, by simp only [ByteArray.size_append]; omega, rfl, hB3, ⟨_, by omega, hC3⟩, hg3⟩
        · go_wp2_with fail
          refine (ofNew_any b a n c ((q + 1) + 1) [⟨#[47]⟩, ⟨#[]⟩, ⟨#[47, 42, 42, 47, 97]⟩, ⟨#[47, 42, 42, 42]⟩, ⟨#[47, 97, 47, 98, 47, 97, 47, 98, 47, 97, 47, 98]⟩, ⟨#[47, 97, 47, 98, 47, 97, 47, 98, 47, 97, 47, 42, 42]⟩, ⟨#[47, 97, 47, 98, 47, 97, 47, 98, 47, 97, 47, 98, 47, 42, 42]⟩] w3 (by simp) (by simp) hB3 hC3 (by omega)).mono ?_
          rintro e w4 ⟨o, ho, rfl, hB4, hC4, hG4⟩
          have hg4 := g2 hg3 hG4
          have ho' : o.size ≤ 100 := by
            simp only [List.mem_cons, List.mem_nil_iff, or_false] at ho
            rcases ho with rfl | rfl | rfl | rfl | rfl | rfl | rfl <;> decide
          clear ho hG4
          go_wp2
          go_ret
          exact ⟨_, ho', rfl, hB4, ⟨_, by omega, hC4⟩, hg4⟩

end Go.Proofs.YtjnajdilllkpcaaGreat

namespace Go.Proofs.YtjnajdilllkpcaaGreat
open Go.RowKit Go.Shelf

theorem keep_cell {w w' : World} {b g : Nat} (hg : w.grownBy w' (some b)) (hlt : g < w.heap.size) (hne : g ≠ b) (o : Nat) : w'.cell? ⟨g, o, none⟩ = w.cell? ⟨g, o, none⟩ := by
  simp only [World.cell?]
  rw [hg.block g hlt (by simpa using hne)]
theorem keep_frozen {w w' : World} {b g : Nat} (hg : w.grownBy w' (some b)) (hlt : g < w.heap.size) (hne : g ≠ b) (o : Nat) : w'.frozen? ⟨g, o, none⟩ = w.frozen? ⟨g, o, none⟩ := by
  simp only [World.frozen?]
  rw [hg.block g hlt (by simpa using hne)]
theorem gN {w W : World} {r : Option Nat} (h : w.grownBy W r) {p : Addr} (hp : w.heap.size ≤ p.block) (u : Value) : w.grownBy (W.setCell p u) r :=
  ⟨h.os, h.tape, h.output, by simpa using h.size, fun k hk hne => (Below.heap_setCell _ _ _ k (fun e => by omega)).trans (h.block k hk hne)⟩
theorem CurB.other {w w' : World} {b g : Nat} {a : Option Addr} {n c k : Nat} (h : CurB w b a n c k) (hg : w.grownBy w' (some g)) (hne : b ≠ g) : CurB w' b a n c k := by
  have hlt := h.lt
  obtain ⟨sd, h2⟩ := h.c2
  exact ⟨h.le, (keep_cell hg hlt hne 0).trans h.c0, (keep_cell hg hlt hne 1).trans h.c1, ⟨sd, (keep_cell hg hlt hne 2).trans h2⟩, (keep_frozen hg hlt hne 1).trans h.f1, (keep_frozen hg hlt hne 2).trans h.f2, h.apart⟩
theorem ByS.other {w w' : World} {g : Nat} {a : Option Addr} {n : Nat} (h : ByS w a n) (hg : w.grownBy w' (some g)) (hne : ∀ p, a = some p → p.block < g) : ByS w' a n :=
  ⟨h.len, fun i hi => by
    obtain ⟨blk, off, x, ha, hx, hc⟩ := h.at_ i hi
    have := hne _ ha
    exact ⟨blk, off, x, ha, hx, (keep_cell (b := g) (g := blk) hg (World.block_lt_of_cell? w ⟨blk, off + i, none⟩ hc) (by simp only at this; omega) (off + i)).trans hc⟩⟩
theorem four_sets (w : World) (g : Nat) (u0 u1 u2 u3 : Value) : w.grownBy ((((w.setCell ⟨g, 0, none⟩ u0).setCell ⟨g, 1, none⟩ u1).setCell ⟨g, 2, none⟩ u2).setCell ⟨g, 3, none⟩ u3) (some g) :=
  g2 (g2 (g2 (grown_setCell w ⟨g, 0, none⟩ u0) (grown_setCell _ ⟨g, 1, none⟩ u1)) (grown_setCell _ ⟨g, 2, none⟩ u2)) (grown_setCell _ ⟨g, 3, none⟩ u3)
/-- A box of a rule: its cells, which may be written. -/
structure BoxR (w : World) (g : Nat) (d : Bool) (x y z : ByteArray) : Prop where
  lt : g < w.heap.size
  c0 : w.cell? ⟨g, 0, none⟩ = some (.bool d)
  c1 : w.cell? ⟨g, 1, none⟩ = some (.string x)
  c2 : w.cell? ⟨g, 2, none⟩ = some (.string y)
  c3 : w.cell? ⟨g, 3, none⟩ = some (.string z)
  f0 : w.frozen? ⟨g, 0, none⟩ = false
  f1 : w.frozen? ⟨g, 1, none⟩ = false
  f2 : w.frozen? ⟨g, 2, none⟩ = false
  f3 : w.frozen? ⟨g, 3, none⟩ = false
theorem BoxR.keep {w w' : World} {b g : Nat} {d : Bool} {x y z : ByteArray} (h : BoxR w g d x y z) (hg : w.grownBy w' (some b)) (hne : g ≠ b) : BoxR w' g d x y z :=
  ⟨Nat.lt_of_lt_of_le h.lt hg.size, (keep_cell hg h.lt hne 0).trans h.c0, (keep_cell hg h.lt hne 1).trans h.c1, (keep_cell hg h.lt hne 2).trans h.c2, (keep_cell hg h.lt hne 3).trans h.c3, (keep_frozen hg h.lt hne 0).trans h.f0, (keep_frozen hg h.lt hne 1).trans h.f1, (keep_frozen hg h.lt hne 2).trans h.f2, (keep_frozen hg h.lt hne 3).trans h.f3⟩
theorem BoxR.below {w w' : World} {g : Nat} {d : Bool} {x y z : ByteArray} (h : BoxR w g d x y z) (hB : Below w.heap.size w w') : BoxR w' g d x y z :=
  ⟨Nat.lt_of_lt_of_le h.lt hB.size, (hB.cell (p := ⟨g, 0, none⟩) h.lt).trans h.c0, (hB.cell (p := ⟨g, 1, none⟩) h.lt).trans h.c1, (hB.cell (p := ⟨g, 2, none⟩) h.lt).trans h.c2, (hB.cell (p := ⟨g, 3, none⟩) h.lt).trans h.c3, (hB.frozen (p := ⟨g, 0, none⟩) h.lt).trans h.f0, (hB.frozen (p := ⟨g, 1, none⟩) h.lt).trans h.f1, (hB.frozen (p := ⟨g, 2, none⟩) h.lt).trans h.f2, (hB.frozen (p := ⟨g, 3, none⟩) h.lt).trans h.f3⟩
theorem boxR_new (w : World) (t : TypeId) (d : Bool) (x y z : ByteArray) : BoxR (w.alloc (.cells #[.bool d, .string x, .string y, .string z] t)) w.heap.size d x y z :=
  ⟨by simp, by simp, by simp, by simp, by simp, by simp, by simp, by simp, by simp⟩

set_option maxHeartbeats 2000000 in
theorem drawRule_any (b : Nat) (a : Option Addr) (n c k : Nat) (w : World) (hB : ByS w a n) (hC : CurB w b a n c k) (hk : k ≤ 1000000) :
    Calls Tryz.prog 13 #[.pointer (some ⟨b, 0, none⟩)] w fun e w' => ∃ r : Ru, r.size ≤ 300 ∧ e = .returned r.val ∧ ByS w' a n ∧ (∃ k', k' ≤ k + 50 ∧ CurB w' b a n c k') ∧ w.grownBy w' (some b) := by
  have hbl := hC.lt
  have hBl : Below w.heap.size w (w.alloc (.cells #[.bool false, .string ⟨#[]⟩, .string ⟨#[]⟩, .string ⟨#[]⟩] 31)) := (Below.refl _ w).alloc (Nat.le_refl _) _
  have hX0 := boxR_new w 31 false ⟨#[]⟩ ⟨#[]⟩ ⟨#[]⟩
  have hC0 := hC.below hBl
  have hB0 := hB.below hBl
  have hG0 := gB (gS w (some b)) hBl
  go_enter Tryz.func13, Tryz.ntmps13
  go_wp2_with fail
  refine (one_any b a n c k 3 _ (by omega) (by omega) hB0 hC0 (by omega)).mono ?_
  rintro e w1 ⟨z, rfl, hC1, hg1⟩
  have hB1 := curB_grown hB0 hC0.apart hC0.lt hg1
  have hX1 := hX0.keep hg1 (by omega)
  have hG1 := g2 hG0 hg1
  clear hX0 hC0 hB0 hG0 hBl hg1 hB hC
  go_wp2_with fail
  refine (drawNP_any b a n c (k + 1) _ hB1 hC1 (by omega)).mono ?_
  rintro e w2 ⟨x, hx, rfl, hB2, ⟨k2, hk2, hC2⟩, hg2⟩
  have hX2 := hX1.keep hg2 (by omega)
  have hG2 := g2 hG1 hg2
  clear hX1 hC1 hB1 hG1 hg2
  go_wp2_with fail
  refine (ofNew_any b a n c k2 [⟨#[103, 101, 116]⟩, ⟨#[112, 117, 116]⟩, ⟨#[42]⟩] w2 (by decide) (by decide) hB2 hC2 (by omega)).mono ?_
  rintro e w3 ⟨m, hm, rfl, hB3, hC3, hg3⟩
  have hmz : m.size ≤ 4 := by
    simp only [List.mem_cons, List.mem_nil_iff, or_false] at hm
    rcases hm with rfl | rfl | rfl <;> decide
  have hX3 := hX2.keep hg3 (by omega)
  have hG3 := g2 hG2 hg3
  clear hm hX2 hC2 hB2 hG2 hg3
  go_wp2_with fail
  refine (drawPP_any b a n c (k2 + 1) _ hB3 hC3 (by omega)).mono ?_
  rintro e w4 ⟨p, hp, rfl, hB4, ⟨k4, hk4, hC4⟩, hg4⟩
  have hX4 := hX3.keep hg4 (by omega)
  have hG4 := g2 hG3 hg4
  clear hX3 hC3 hB3 hG3 hg4
  have hBl : Below w4.heap.size w4 (w4.alloc (.cells #[.bool z, .string x, .string m, .string p] 31)) := (Below.refl _ w4).alloc (Nat.le_refl _) _
  have hY5 := boxR_new w4 31 z x m p
  have hX5 := hX4.below hBl
  have hG5 := gB hG4 hBl
  have hC5 := hC4.below hBl
  have hB5 := hB4.below hBl
  have hlt4 := hX4.lt
  have hblt4 := hC4.lt
  clear hX4 hC4 hB4 hG4 hBl
  go_wp2_with fail
  refine (one_any b a n c k4 40 _ (by omega) (by omega) hB5 hC5 (by omega)).mono ?_
  rintro e w6 ⟨y, rfl, hC6, hg6⟩
  have hB6 := curB_grown hB5 hC5.apart hC5.lt hg6
  have hX6 := hX5.keep hg6 (by omega)
  have hY6 := hY5.keep hg6 (by omega)
  have hG6 := g2 hG5 hg6
  clear hX5 hY5 hC5 hB5 hG5 hg6
  have hne : w.heap.size ≠ w4.heap.size := by omega
  have hne' : w4.heap.size ≠ w.heap.size := by omega
  cases y
  · obtain ⟨_, x0, x1, x2, x3, xf0, xf1, xf2, xf3⟩ := hX6
    obtain ⟨_, y0, y1, y2, y3, _, _, _, _⟩ := hY6
    go_wp2
    exact bodyPost_ret (v := Ru.val ⟨z, x, m, p⟩) (by simp [results, Tryz.results13, go_sem, *]) rfl ⟨⟨z, x, m, p⟩, by unfold Ru.size; simp only; omega, rfl, hB6.other (four_sets _ _ _ _ _ _) (fun q hq => Nat.lt_trans (hC6.apart q hq) hbl), ⟨k4 + 1, by omega, hC6.other (four_sets _ _ _ _ _ _) (by omega)⟩, gN (gN (gN (gN hG6 (Nat.le_refl _) _) (Nat.le_refl _) _) (Nat.le_refl _) _) (Nat.le_refl _) _⟩
  · go_wp2_with fail
    refine (ofNew_any b a n c (k4 + 1) [⟨#[]⟩, ⟨#[112, 111, 115, 116]⟩] w6 (by decide) (by decide) hB6 hC6 (by omega)).mono ?_
    rintro e w7 ⟨m', hm', rfl, hB7, hC7, hg7⟩
    have hmz' : m'.size ≤ 4 := by
      simp only [List.mem_cons, List.mem_nil_iff, or_false] at hm'
      rcases hm' with rfl | rfl <;> decide
    have hX7 := hX6.keep hg7 (by omega)
    have hY7 := hY6.keep hg7 (by omega)
    have hG7 := g2 hG6 hg7
    clear hm' hX6 hY6 hC6 hB6 hG6 hg7
    obtain ⟨_, x0, x1, x2, x3, xf0, xf1, xf2, xf3⟩ := hX7
    obtain ⟨_, y0, y1, y2, y3, yf0, yf1, yf2, yf3⟩ := hY7
    go_wp2
    exact bodyPost_ret (v := Ru.val ⟨z, x, m', p⟩) (by simp [results, Tryz.results13, go_sem, *]) rfl ⟨⟨z, x, m', p⟩, by unfold Ru.size; simp only; omega, rfl, (hB7.other (grown_setCell _ ⟨w4.heap.size, 2, none⟩ _) (fun q hq => Nat.lt_trans (hC7.apart q hq) hblt4)).other (four_sets _ _ _ _ _ _) (fun q hq => Nat.lt_trans (hC7.apart q hq) hbl), ⟨k4 + 1 + 1, by omega, (hC7.other (grown_setCell _ ⟨w4.heap.size, 2, none⟩ _) (by simp only; omega)).other (four_sets _ _ _ _ _ _) (by omega)⟩, gN (gN (gN (gN (gN hG7 (by simp only; omega) _) (Nat.le_refl _) _) (Nat.le_refl _) _) (Nat.le_refl _) _) (Nat.le_refl _) _⟩

end Go.Proofs.YtjnajdilllkpcaaGreat

namespace Go.Proofs.YtjnajdilllkpcaaGreat
open Go.RowKit Go.Shelf

theorem cell_four_q (w : World) (r : Ru) : ∀ j u, r.cells[j]? = some u → (w.alloc (.cells #[.bool r.deny, .string r.who, .string r.method, .string r.path] 31)).cell? ((⟨w.heap.size, 0, none⟩ : Addr).add j) = some u := by
  intro j u hu
  have hj : j < 4 := by have := (List.getElem?_eq_some_iff.1 hu).1; simpa using this
  obtain h | h | h | h : j = 0 ∨ j = 1 ∨ j = 2 ∨ j = 3 := by omega
  all_goals subst h
  all_goals simp at hu
  all_goals subst hu
  all_goals simp [Addr.add]
theorem CurB.belowN {w w' : World} {b N : Nat} {a : Option Addr} {n c k : Nat} (h : CurB w b a n c k) (hB : Below N w w') (hb : b < N) : CurB w' b a n c k := by
  obtain ⟨sd, h2⟩ := h.c2
  exact ⟨h.le, (hB.cell (p := ⟨b, 0, none⟩) hb).trans h.c0, (hB.cell (p := ⟨b, 1, none⟩) hb).trans h.c1, ⟨sd, (hB.cell (p := ⟨b, 2, none⟩) hb).trans h2⟩, (hB.frozen (p := ⟨b, 1, none⟩) hb).trans h.f1, (hB.frozen (p := ⟨b, 2, none⟩) hb).trans h.f2, h.apart⟩
theorem ByS.belowN {w w' : World} {N : Nat} {a : Option Addr} {n : Nat} (h : ByS w a n) (hB : Below N w w') (ha : ∀ p, a = some p → p.block < N) : ByS w' a n :=
  ⟨h.len, fun i hi => by
    obtain ⟨blk, off, x, e, hx, hc⟩ := h.at_ i hi
    exact ⟨blk, off, x, e, hx, (hB.cell (p := ⟨blk, off + i, none⟩) (by have := ha _ e; exact this)).trans hc⟩⟩
theorem gBN {w W w2 : World} {r : Option Nat} (h : w.grownBy W r) (hB : Below w.heap.size W w2) : w.grownBy w2 r :=
  ⟨hB.os.trans h.os, hB.tape.trans h.tape, hB.output.trans h.output, Nat.le_trans h.size hB.size, fun k hk hne => (hB.block k hk).trans (h.block k hk hne)⟩
/-- A list of rules is being drawn, from the world w on. -/
structure PS (w : World) (b : Nat) (a : Option Addr) (n c : Nat) (wr : World) (v : Value) (rs : List Ru) (q : Nat) : Prop where
  row : wr.ownsRow w.heap.size 31 4 v rs.length (rs.flatMap Ru.cells)
  small : ∀ r ∈ rs, r.size ≤ 300
  by_ : ByS wr a n
  cur : CurB wr b a n c q
  gr : w.grownBy wr (some b)
theorem PS.grown {w wr w' : World} {b : Nat} {a : Option Addr} {n c q q' : Nat} {v : Value} {rs : List Ru} (h : PS w b a n c wr v rs q) (hb : b < w.heap.size) (hg : wr.grownBy w' (some b)) (hB : ByS w' a n) (hC : CurB w' b a n c q') : PS w b a n c w' v rs q' :=
  ⟨h.row.kept hg (by
    rcases h.row.2 with ⟨rfl, _⟩ | ⟨g, cap, cur, rfl, hgb, _⟩
    · exact .inl rfl
    · right
      simp only [Value.ownBlock, ne_eq, Option.some.injEq]
      omega), h.small, hB, hC, g2 h.gr hg⟩
theorem PS.below {w wr w' : World} {b : Nat} {a : Option Addr} {n c q : Nat} {v : Value} {rs : List Ru} (h : PS w b a n c wr v rs q) (hB : Below wr.heap.size wr w') : PS w b a n c w' v rs q :=
  ⟨ownsRow_below h.row hB, h.small, h.by_.below hB, h.cur.below hB, gB h.gr hB⟩
theorem PS.appended {w wr w' : World} {b : Nat} {a : Option Addr} {n c q : Nat} {v v' : Value} {rs : List Ru} {r : Ru} {tmp : Obj} (h : PS w b a n c wr v rs q) (hb : b < w.heap.size) (hr : r.size ≤ 300) (hown : w'.ownsRow w.heap.size 31 4 v' (rs.length + 1) (rs.flatMap Ru.cells ++ r.cells)) (hgrow : (wr.alloc tmp).grownBy w' v.ownBlock) : PS w b a n c w' v' (rs ++ [r]) q := by
  have hB := below_appended h.gr.size h.row hgrow
  refine ⟨by simpa using hown, fun x hx => ?_, h.by_.belowN hB (fun p hp => Nat.lt_trans (h.cur.apart p hp) hb), h.cur.belowN hB hb, gBN h.gr hB⟩
  rw [List.mem_append, List.mem_singleton] at hx
  rcases hx with hx | rfl
  · exact h.small x hx
  · exact hr

set_option maxHeartbeats 1000000 in
theorem pick1_any (b : Nat) (a : Option Addr) (n c k m : Nat) (w : World) (hm : 1 ≤ m) (hm2 : m ≤ 200) (hB : ByS w a n) (hC : CurB w b a n c k) (hk : k ≤ 100000000) :
    Calls Tryz.prog 12 #[.pointer (some ⟨b, 0, none⟩), .int .i64 m] w fun e w' => ∃ x : Nat, x < m ∧ e = .returned (.int .i64 x) ∧ ByS w' a n ∧ (∃ k', k' ≤ k + 1 ∧ CurB w' b a n c k') ∧ w.grownBy w' (some b) := by
  by_cases h2 : 2 ≤ m
  · refine (pick_any b a n c k m w h2 hm2 hB hC hk).mono ?_
    rintro e w1 ⟨x, hx, rfl, hC1, hg1⟩
    exact ⟨x, hx, rfl, curB_grown hB hC.apart hC.lt hg1, ⟨_, Nat.le_refl _, hC1⟩, hg1⟩
  · obtain rfl : m = 1 := by omega
    have d1 : decide (((1 : Nat) : Int) ≤ 1) = true := by decide
    go_enter Tryz.func12, Tryz.ntmps12
    go_wp2
    go_ret
    exact ⟨0, by omega, rfl, hB, ⟨k, by omega, hC⟩, gS _ _⟩

set_option maxHeartbeats 4000000 in
set_option maxRecDepth 100000 in
theorem drawPolicy_any (b : Nat) (a : Option Addr) (n c k : Nat) (w : World) (hB : ByS w a n) (hC : CurB w b a n c k) (hk : k ≤ 100000) :
    Calls Tryz.prog 48 #[.pointer (some ⟨b, 0, none⟩)] w fun e w' => ∃ (v : Value) (rs : List Ru) (q : Nat), e = .returned v ∧ rs.length ≤ 64 ∧ q ≤ k + 3000 ∧ PS w b a n c w' v rs q := by
  obtain ⟨i0, hi, hz0, hz1, hz2⟩ := info_parts infoRule
  have hbl := hC.lt
  go_enter Tryz.func48, Tryz.ntmps48
  go_wp2_with fail
  refine (pick_any b a n c k 6 w (by omega) (by omega) hB hC (by omega)).mono ?_
  rintro e w1 ⟨m, hm, rfl, hC1, hg1⟩
  have hB1 := curB_grown hB hC.apart hC.lt hg1
  clear hB hC
  go_wp2_with fail
  refine (one_any b a n c (k + 1) 30 w1 (by omega) (by omega) hB1 hC1 (by omega)).mono ?_
  rintro e w2 ⟨z, rfl, hC2, hg2⟩
  have hB2 := curB_grown hB1 hC1.apart hC1.lt hg2
  have hG2 := g2 hg1 hg2
  clear hB1 hC1 hg1 hg2
  go_upto_if 9 with fail
  go_cut [4] (fun nv wx => ∃ j q : Nat, nv = .int .i64 j ∧ j ≤ 31 ∧ q ≤ k + 10 ∧ ByS wx a n ∧ CurB wx b a n c q ∧ w.grownBy wx (some b))
  case first =>
    cases z
    · go_wp2_with fail
      go_meet
      exact ⟨m, k + 1 + 1, rfl, by omega, by omega, hB2, hC2, hG2⟩
    · go_wp2_with fail
      refine (pick_any b a n c (k + 1 + 1) 2 w2 (by omega) (by omega) hB2 hC2 (by omega)).mono ?_
      rintro e w3 ⟨m', hm', rfl, hC3, hg3⟩
      have hB3 := curB_grown hB2 hC2.apart hC2.lt hg3
      go_wp2_with fail
      go_meet
      exact ⟨30 + m', k + 1 + 1 + 1, by go_num, by omega, by omega, hB3, hC3, g2 hG2 hg3⟩
  case rest =>
    obtain ⟨j0, q0, rfl, hj0, hq0, hBc, hCc, hGc⟩ := hcut
    clear hB2 hC2 hG2
    go_wp2_with fail
    go_loopw [3, 4] (fun sv nv wr => ∃ (v : Value) (rs : List Ru) (j q : Nat), v = sv ∧ nv = .int .i64 j ∧ j ≤ 31 ∧ rs.length + 2 * j ≤ 64 ∧ q + 60 * j ≤ k + 2500 ∧ PS w b a n c wr v rs q) (fun _ nv _ => (intOf nv).toNat)
    case atStart => exact ⟨_, [], j0, q0, rfl, rfl, by omega, by simp; omega, by omega, World.ownsRow_nil _ _ _ _, (fun r hr => by cases hr), hBc, hCc, hGc⟩
    case round =>
      obtain ⟨v, rs, j, q, rfl, rfl, hj, hlen, hq, hP⟩ := hrel
      clear hBc hCc hGc
      by_cases hjz : 0 < j
      · have d0 : decide ((j : Int) > 0) = true := by simp; omega
        go_wp2_with fail
        refine (drawRule_any b a n c q wr hP.by_ hP.cur (by omega)).mono ?_
        rintro e w2 ⟨r, hr, rfl, hB2, ⟨q2, hq2, hC2⟩, hg2⟩
        have hP2 := hP.grown hbl hg2 hB2 hC2
        clear hP hB2 hC2 hg2
        have hX := boxR_new w2 31 r.deny r.who r.method r.path
        have hP3 := hP2.below ((Below.refl _ w2).alloc (Nat.le_refl _) (.cells #[.bool r.deny, .string r.who, .string r.method, .string r.path] 31))
        have hbl2 := hP2.cur.lt
        clear hP2
        have hw : r.who.size ≤ 1048576 := by unfold Ru.size at hr; omega
        have hp : r.path.size ≤ 1048576 := by unfold Ru.size at hr; omega
        go_upto_region 8 with fail
        go_cut [24] (fun tv wx => ∃ (z : Bool) (q' : Nat), tv = .bool z ∧ q' ≤ q2 + 1 ∧ PS w b a n c wx v rs q' ∧ BoxR wx w2.heap.size r.deny r.who r.method r.path)
        case first =>
          cases hg : r.good
          · go_wp2_with (go_at_call 39; refine (specGoodRule_any r _ hw hp).mono ?_; rintro e w3 ⟨rfl, hB3⟩; rw [hg])
            have hP4 := hP3.below hB3
            have hX4 := hX.below hB3
            refine (one_any b a n c q2 20 w3 (by omega) (by omega) hP4.by_ hP4.cur (by omega)).mono ?_
            rintro e w4 ⟨z, rfl, hC4, hg4⟩
            go_wp2_with fail
            go_meet
            exact ⟨z, q2 + 1, rfl, by omega, hP4.grown hbl hg4 (curB_grown hP4.by_ hP4.cur.apart hP4.cur.lt hg4) hC4, hX4.keep hg4 (by omega)⟩
          · go_wp2_with (go_at_call 39; refine (specGoodRule_any r _ hw hp).mono ?_; rintro e w3 ⟨rfl, hB3⟩; rw [hg])
            go_meet
            exact ⟨true, q2, rfl, by omega, hP3.below hB3, hX.below hB3⟩
        case rest =>
          obtain ⟨z, q3, rfl, hq3, hP4, hX4⟩ := hcut
          clear hP3 hX
          go_upto_if 24 with fail
          go_cut [3] (fun tv wx => ∃ (v' : Value) (rs' : List Ru), v' = tv ∧ rs'.length ≤ rs.length + 1 ∧ PS w b a n c wx v' rs' q3)
          case first =>
            obtain ⟨_, x0, x1, x2, x3, _, _, _, _⟩ := hX4
            cases z
            · go_wp2_with fail
              go_meet
              exact ⟨v, rs, rfl, by omega, hP4⟩
            · have hown := hP4.row
              have hsz4 := hP4.gr.size
              rcases row_form hown with ⟨rfl, hl0⟩ | ⟨go, capo, rfl, hg, hcapo⟩
              · obtain rfl : rs = [] := List.eq_nil_of_length_eq_zero hl0
                go_wp2_with (at_builtin; refine wpList_append_own _ rfl _ _ 23 rfl w.heap.size 31 i0 _ 4 56 Tryz.underlying23 hi hz0 hz1 hz2 rfl (by decide) _ _ _ rfl (hown.alloc _) ⟨wc.heap.size, 0, none⟩ 1 1 r.cells rfl rfl (cell_four_q wc r) (by intro u hu; simp at hu; rcases hu with rfl | rfl | rfl | rfl <;> rfl) (by unfold maxLen; first | omega | (simp <;> omega)) (by first | omega | (simp <;> omega)) (by first | omega | (simp <;> omega)) ?_; intro v' w5 hown' hgrow _)
                go_meet
                exact ⟨v', [] ++ [r], rfl, by simp, hP4.appended hbl hr hown' hgrow⟩
              · go_wp2_with (at_builtin; refine wpList_append_own _ rfl _ _ 23 rfl w.heap.size 31 i0 _ 4 56 Tryz.underlying23 hi hz0 hz1 hz2 rfl (by decide) _ _ _ rfl (hown.alloc _) ⟨wc.heap.size, 0, none⟩ 1 1 r.cells rfl rfl (cell_four_q wc r) (by intro u hu; simp at hu; rcases hu with rfl | rfl | rfl | rfl <;> rfl) (by unfold maxLen; first | omega | (simp <;> omega)) (by first | omega | (simp <;> omega)) (by first | omega | (simp <;> omega)) ?_; intro v' w5 hown' hgrow _)
                go_meet
                exact ⟨v', rs ++ [r], rfl, by simp, hP4.appended hbl hr hown' hgrow⟩
          case rest =>
            obtain ⟨v', rs', rfl, hlen', hP5⟩ := hcut
            clear hP4 hX4
            go_upto_region 10 with fail
            go_cut [35] (fun tv wx => ∃ (z : Bool) (q' : Nat), tv = .bool z ∧ q' ≤ q3 + 1 ∧ (z = true → 0 < rs'.length) ∧ PS w b a n c wx v' rs' q')
            case first =>
              obtain ⟨ao, capo, rfl⟩ := ownsRow_len hP5.row
              by_cases h0 : 0 < rs'.length
              · have d1 : decide ((rs'.length : Int) > 0) = true := decide_eq_true (by omega)
                go_wp2_with fail
                refine (one_any b a n c q3 6 _ (by omega) (by omega) hP5.by_ hP5.cur (by omega)).mono ?_
                rintro e w6 ⟨z, rfl, hC6, hg6⟩
                go_wp2_with fail
                go_meet
                exact ⟨z, q3 + 1, rfl, by omega, fun _ => h0, hP5.grown hbl hg6 (curB_grown hP5.by_ hP5.cur.apart hP5.cur.lt hg6) hC6⟩
              · have d1 : decide ((rs'.length : Int) > 0) = false := decide_eq_false (by omega)
                go_wp2_with fail
                go_meet
                exact ⟨false, q3, rfl, by omega, fun h => (by cases h), hP5⟩
            case rest =>
              obtain ⟨z, q4, rfl, hq4, hz, hP6⟩ := hcut
              clear hP5
              cases z
              · go_wp2
                go_roundw
                case rel =>
                  exact ⟨v', rs', j - 1, q4, rfl, by go_num, by omega, by omega, by omega, hP6⟩
                case measure => simp [intOf]; omega
              · have hpos := hz rfl
                rcases row_form hP6.row with ⟨_, hl0⟩ | ⟨go, capo, rfl, hg, hcapo⟩
                · omega
                · go_wp2_with fail
                  refine (pick1_any b a n c q4 rs'.length _ (by omega) (by omega) hP6.by_ hP6.cur (by omega)).mono ?_
                  rintro e w5 ⟨x, hx, rfl, hB5, ⟨q5, hq5, hC5⟩, hg5⟩
                  have hP7 := hP6.grown hbl hg5 hB5 hC5
                  have hown := hP7.row
                  have hsz7 := hP7.gr.size
                  have hr2 := hP7.small _ (List.getElem_mem hx)
                  obtain ⟨b', off', he, _, _, y0, y1, y2, y3⟩ := (RuS.own hown).at hx
                  obtain ⟨rfl, rfl⟩ : go = b' ∧ 0 = off' := by simpa using he
                  simp only [Nat.zero_add] at y0 y1 y2 y3
                  clear hP6 hB5 hC5 hg5 he
                  generalize rs'[x] = r2 at *
                  go_wp2_with (at_builtin; refine wpList_append_own _ rfl _ _ 23 rfl w.heap.size 31 i0 _ 4 56 Tryz.underlying23 hi hz0 hz1 hz2 rfl (by decide) _ _ _ rfl (hown.alloc _) ⟨w5.heap.size, 0, none⟩ 1 1 r2.cells rfl rfl (cell_four_q w5 r2) (by intro u hu; simp at hu; rcases hu with rfl | rfl | rfl | rfl <;> rfl) (by unfold maxLen; first | omega | (simp <;> omega)) (by first | omega | (simp <;> omega)) (by first | omega | (simp <;> omega)) ?_; intro v2 w6 hown' hgrow _)
                  go_roundw
                  case rel =>
                    exact ⟨v2, rs' ++ [r2], j - 1, q5, rfl, by go_num, by omega, by simp; omega, by omega, hP7.appended hbl hr2 hown' hgrow⟩
                  case measure => simp [intOf]; omega
      · obtain rfl : j = 0 := by omega
        have d0 : decide (((0 : Nat) : Int) > 0) = false := by decide
        go_wp2
        go_ret
        exact ⟨_, rs, q, rfl, by omega, by omega, hP⟩

end Go.Proofs.YtjnajdilllkpcaaGreat

namespace Go.Proofs.YtjnajdilllkpcaaGreat
open Go.RowKit Go.Shelf

theorem cell_four_w (w : World) (r : Ru) : ∀ j u, r.cells[j]? = some u → (w.alloc (.cells #[.bool r.deny, .string r.who, .string r.method, .string r.path] 31)).cell? ((⟨w.heap.size, 0, none⟩ : Addr).add j) = some u := by
  intro j u hu
  rw [Addr.add_lit, Nat.zero_add]
  have hj : j < 4 := by
    have := (List.getElem?_eq_some_iff.1 hu).1
    simpa using this
  obtain rfl | rfl | rfl | rfl : j = 0 ∨ j = 1 ∨ j = 2 ∨ j = 3 := by omega
  all_goals (simp at hu; subst hu; simp)

theorem same_comm (r s : Ru) : r.same s = s.same r := by
  cases h : r.same s
  · cases h' : s.same r
    · rfl
    · have := same_eq h'
      subst this
      rw [h'] at h
      cases h
  · have := same_eq h
    subst this
    exact h.symm
def hasRT (b : List Ru) (r : Ru) (k : Nat) : Bool := (b.take k).any (fun y => r.same y)
theorem hasRT_zero (b : List Ru) (r : Ru) : hasRT b r 0 = false := by simp [hasRT]
theorem hasRT_succ {b : List Ru} {r : Ru} {k : Nat} (h : k < b.length) : hasRT b r (k + 1) = (hasRT b r k || r.same b[k]) := by
  unfold hasRT
  rw [List.take_succ_eq_append_getElem h, List.any_append]
  simp
theorem hasR_yes {b : List Ru} {r : Ru} {k : Nat} (h : k < b.length) (he : r.same b[k] = true) : hasR b r = true := List.any_eq_true.2 ⟨b[k], List.getElem_mem h, he⟩
theorem hasR_end (b : List Ru) (r : Ru) : hasRT b r b.length = hasR b r := by unfold hasRT hasR; rw [List.take_length]

end Go.Proofs.YtjnajdilllkpcaaGreat

namespace Go.Proofs.YtjnajdilllkpcaaGreat
open Go.RowKit Go.Shelf

/-- A list of numbers is being drawn, from the world w on. -/
structure NS (w : World) (b : Nat) (a : Option Addr) (n c : Nat) (wr : World) (v : Value) (zs : List Int) (q : Nat) : Prop where
  row : wr.ownsRow w.heap.size 3 1 v zs.length (nums zs)
  by_ : ByS wr a n
  cur : CurB wr b a n c q
  gr : w.grownBy wr (some b)
theorem NS.grown {w wr w' : World} {b : Nat} {a : Option Addr} {n c q q' : Nat} {v : Value} {zs : List Int} (h : NS w b a n c wr v zs q) (hb : b < w.heap.size) (hg : wr.grownBy w' (some b)) (hB : ByS w' a n) (hC : CurB w' b a n c q') : NS w b a n c w' v zs q' :=
  ⟨h.row.kept hg (by
    rcases h.row.2 with ⟨rfl, _⟩ | ⟨g, cap, cur, rfl, hgb, _⟩
    · exact .inl rfl
    · right
      simp only [Value.ownBlock, ne_eq, Option.some.injEq]
      omega), hB, hC, g2 h.gr hg⟩
theorem NS.below {w wr w' : World} {b : Nat} {a : Option Addr} {n c q : Nat} {v : Value} {zs : List Int} (h : NS w b a n c wr v zs q) (hB : Below wr.heap.size wr w') : NS w b a n c w' v zs q :=
  ⟨ownsRow_below h.row hB, h.by_.below hB, h.cur.below hB, gB h.gr hB⟩
theorem NS.appended {w wr w' : World} {b : Nat} {a : Option Addr} {n c q : Nat} {v v' : Value} {zs : List Int} {z : Int} {tmp : Obj} (h : NS w b a n c wr v zs q) (hb : b < w.heap.size) (hown : w'.ownsRow w.heap.size 3 1 v' (zs.length + 1) (nums zs ++ [.int .i64 z])) (hgrow : (wr.alloc tmp).grownBy w' v.ownBlock) : NS w b a n c w' v' (zs ++ [z]) q := by
  have hB := below_appended h.gr.size h.row hgrow
  exact ⟨by simpa [nums] using hown, h.by_.belowN hB (fun p hp => Nat.lt_trans (h.cur.apart p hp) hb), h.cur.belowN hB hb, gBN h.gr hB⟩

set_option maxHeartbeats 2000000 in
set_option maxRecDepth 100000 in
theorem numbers_any (b : Nat) (a : Option Addr) (n c k : Nat) (w : World) (hB : ByS w a n) (hC : CurB w b a n c k) (hk : k ≤ 1000000) :
    Calls Tryz.prog 49 #[.pointer (some ⟨b, 0, none⟩)] w fun e w' => ∃ (v : Value) (zs : List Int) (q : Nat), e = .returned v ∧ zs.length ≤ 4 ∧ q ≤ k + 10 ∧ NS w b a n c w' v zs q := by
  obtain ⟨i0, hi, hz0, hz1, hz2⟩ := info_parts infoInt
  have hbl := hC.lt
  go_enter Tryz.func49, Tryz.ntmps49
  go_wp2_with fail
  refine (pick_any b a n c k 4 w (by omega) (by omega) hB hC (by omega)).mono ?_
  rintro e w1 ⟨m, hm, rfl, hC1, hg1⟩
  have hB1 := curB_grown hB hC.apart hC.lt hg1
  clear hB hC
  go_wp2_with fail
  go_loopw [3, 4] (fun sv nv wr => ∃ (v : Value) (zs : List Int) (j q : Nat), v = sv ∧ nv = .int .i64 j ∧ j ≤ 3 ∧ zs.length + j ≤ 3 ∧ q + j ≤ k + 4 ∧ NS w b a n c wr v zs q) (fun _ nv _ => (intOf nv).toNat)
  case atStart => exact ⟨_, [], m, k + 1, rfl, rfl, by omega, by simp; omega, by omega, World.ownsRow_nil _ _ _ _, hB1, hC1, hg1⟩
  case round =>
    obtain ⟨v, zs, j, q, rfl, rfl, hj, hlen, hq, hP⟩ := hrel
    clear hB1 hC1 hg1
    by_cases hjz : 0 < j
    · have d0 : decide ((j : Int) > 0) = true := by simp; omega
      go_wp2_with fail
      refine (pick_any b a n c q 20 wr (by omega) (by omega) hP.by_ hP.cur (by omega)).mono ?_
      rintro e w2 ⟨x, hx, rfl, hC2, hg2⟩
      have hP2 := hP.grown hbl hg2 (curB_grown hP.by_ hP.cur.apart hP.cur.lt hg2) hC2
      clear hP hC2 hg2
      have hown := hP2.row
      have hsz := hP2.gr.size
      rcases row_form hown with ⟨rfl, hl0⟩ | ⟨go, capo, rfl, hg, hcapo⟩
      · obtain rfl : zs = [] := List.eq_nil_of_length_eq_zero hl0
        go_wp2_with (at_builtin; refine wpList_append_own _ rfl _ _ 24 rfl w.heap.size 3 i0 (.int .i64 0) 1 8 Tryz.underlying24 hi hz0 hz1 hz2 rfl (by decide) _ _ _ rfl (hown.alloc _) ⟨w2.heap.size, 0, none⟩ 1 1 [.int .i64 (1 + (x : Int))] rfl rfl (cell_one_new _ _ _) (by intro u hu; simp at hu; rcases hu with rfl <;> rfl) (by unfold maxLen; first | omega | (simp <;> omega)) (by first | omega | (simp <;> omega)) (by first | omega | (simp <;> omega)) ?_; intro v' w5 hown' hgrow _)
        go_roundw
        case rel => exact ⟨v', [] ++ [1 + (x : Int)], j - 1, q + 1, rfl, by go_num, by omega, by simp; omega, by omega, hP2.appended hbl hown' hgrow⟩
        case measure => simp [intOf]; omega
      · go_wp2_with (at_builtin; refine wpList_append_own _ rfl _ _ 24 rfl w.heap.size 3 i0 (.int .i64 0) 1 8 Tryz.underlying24 hi hz0 hz1 hz2 rfl (by decide) _ _ _ rfl (hown.alloc _) ⟨w2.heap.size, 0, none⟩ 1 1 [.int .i64 (1 + (x : Int))] rfl rfl (cell_one_new _ _ _) (by intro u hu; simp at hu; rcases hu with rfl <;> rfl) (by unfold maxLen; first | omega | (simp <;> omega)) (by first | omega | (simp <;> omega)) (by first | omega | (simp <;> omega)) ?_; intro v' w5 hown' hgrow _)
        go_roundw
        case rel => exact ⟨v', zs ++ [1 + (x : Int)], j - 1, q + 1, rfl, by go_num, by omega, by simp; omega, by omega, hP2.appended hbl hown' hgrow⟩
        case measure => simp [intOf]; omega
    · have d0 : decide ((j : Int) > 0) = false := by simp; omega
      go_wp2_with fail
      refine (one_any b a n c q 40 wr (by omega) (by omega) hP.by_ hP.cur (by omega)).mono ?_
      rintro e w2 ⟨y, rfl, hC2, hg2⟩
      have hP2 := hP.grown hbl hg2 (curB_grown hP.by_ hP.cur.apart hP.cur.lt hg2) hC2
      clear hP hC2 hg2
      cases y
      · go_wp2_with fail
        go_ret
        exact ⟨v, zs, q + 1, rfl, by omega, by omega, hP2⟩
      · go_wp2_with fail
        refine (amongNew_any b a n c (q + 1) [0, 100000, 100001] w2 (by simp) (by simp) hP2.by_ hP2.cur (by omega)).mono ?_
        rintro e w3 ⟨y, hy, rfl, hB3, hC3, hg3⟩
        have hP3 := hP2.grown hbl hg3 hB3 hC3
        clear hP2 hB3 hC3 hg3
        have hown := hP3.row
        have hsz := hP3.gr.size
        rcases row_form hown with ⟨rfl, hl0⟩ | ⟨go, capo, rfl, hg, hcapo⟩
        · obtain rfl : zs = [] := List.eq_nil_of_length_eq_zero hl0
          go_wp2_with (at_builtin; refine wpList_append_own _ rfl _ _ 24 rfl w.heap.size 3 i0 (.int .i64 0) 1 8 Tryz.underlying24 hi hz0 hz1 hz2 rfl (by decide) _ _ _ rfl (hown.alloc _) ⟨w3.heap.size, 0, none⟩ 1 1 [.int .i64 y] rfl rfl (cell_one_new _ _ _) (by intro u hu; simp at hu; rcases hu with rfl <;> rfl) (by unfold maxLen; first | omega | (simp <;> omega)) (by first | omega | (simp <;> omega)) (by first | omega | (simp <;> omega)) ?_; intro v' w5 hown' hgrow _)
          go_ret
          exact ⟨v', [] ++ [y], q + 1 + 1, rfl, by simp, by omega, hP3.appended hbl hown' hgrow⟩
        · go_wp2_with (at_builtin; refine wpList_append_own _ rfl _ _ 24 rfl w.heap.size 3 i0 (.int .i64 0) 1 8 Tryz.underlying24 hi hz0 hz1 hz2 rfl (by decide) _ _ _ rfl (hown.alloc _) ⟨w3.heap.size, 0, none⟩ 1 1 [.int .i64 y] rfl rfl (cell_one_new _ _ _) (by intro u hu; simp at hu; rcases hu with rfl <;> rfl) (by unfold maxLen; first | omega | (simp <;> omega)) (by first | omega | (simp <;> omega)) (by first | omega | (simp <;> omega)) ?_; intro v' w5 hown' hgrow _)
          go_ret
          exact ⟨v', zs ++ [y], q + 1 + 1, rfl, by simp; omega, by omega, hP3.appended hbl hown' hgrow⟩

end Go.Proofs.YtjnajdilllkpcaaGreat

namespace Go.Proofs.YtjnajdilllkpcaaGreat
open Go.RowKit Go.Shelf

set_option maxHeartbeats 4000000 in
set_option maxRecDepth 100000 in
theorem copySnapshot_any (v : Value) (s : Sn) (w : World) (hs : s.short) (h : SnR w v s) :
    Calls Tryz.prog 21 #[v] w fun e w' => ∃ v', e = .returned v' ∧ SnO w' w.heap.size w'.heap.size v' s ∧ Below w.heap.size w w' := by
  obtain ⟨vp, vr, rfl, h1, h2⟩ := h
  obtain ⟨l1, l2, _⟩ := hs
  obtain ⟨xp, cp, rfl⟩ := h1.len
  obtain ⟨xr, cr, rfl⟩ := h2.len
  have hBB : Below w.heap.size w ((w.alloc (.cells #[.int .i64 s.num, .slice xp s.pol.length cp, .slice xr s.rv.length cr] 26)).alloc (.cells #[.int .i64 0, .slice none 0 0, .slice none 0 0] 26)) := ((Below.refl _ w).alloc (Nat.le_refl _) _).alloc (by simp) _
  have F1 := (Three.new w (.int .i64 s.num) (.slice xp s.pol.length cp) (.slice xr s.rv.length cr) 26).below ((Below.refl _ _).alloc (Nat.le_refl _) (.cells #[.int .i64 0, .slice none 0 0, .slice none 0 0] 26))
  have F2 := Three.at (w.alloc (.cells #[.int .i64 s.num, .slice xp s.pol.length cp, .slice xr s.rv.length cr] 26)) (.int .i64 0) (.slice none 0 0) (.slice none 0 0) 26 (k := w.heap.size + 1) (by simp)
  have n01 : w.heap.size ≠ w.heap.size + 1 := by omega
  have n10 : w.heap.size + 1 ≠ w.heap.size := by omega
  go_enter Tryz.func21, Tryz.ntmps21
  go_wp2_with fail
  generalize (w.alloc (.cells #[.int .i64 s.num, .slice xp s.pol.length cp, .slice xr s.rv.length cr] 26)).alloc (.cells #[.int .i64 0, .slice none 0 0, .slice none 0 0] 26) = W0 at *
  obtain ⟨a0, a1, a2⟩ := F1.c
  refine wp_region_held_drew (S := fun w' => w'.cell? ⟨w.heap.size, 0, none⟩ = some (.int .i64 s.num) ∧ w'.cell? ⟨w.heap.size, 1, none⟩ = some (.slice xp s.pol.length cp) ∧ w'.cell? ⟨w.heap.size, 2, none⟩ = some (.slice xr s.rv.length cr)) (by kernel_rfl) ?_ (fun hHeld => ?_)
  · go_keep
  refine takeW 0 (v := ?v1) rfl (by kernel_rfl) (by kernel_rfl) (by kernel_rfl) (fun _ _ _ h => h) (by rfl) (by assumption) ?hy1 ?rest1
  case hy1 => intro w' hSw; (try dsimp only at hSw); go_simp; try with_reducible rfl
  try simp only [Act.put, List.setIfInBounds_toArray, List.set_cons_zero, List.set_cons_succ]
  refine takeW 1 (v := ?v2) rfl (by kernel_rfl) (by kernel_rfl) (by kernel_rfl) (fun _ _ _ h => h) (by rfl) (by assumption) ?hy2 ?rest2
  case hy2 => intro w' hSw; (try dsimp only at hSw); go_simp; try with_reducible rfl
  try simp only [Act.put, List.setIfInBounds_toArray, List.set_cons_zero, List.set_cons_succ]
  refine takeW 2 (v := ?v3) rfl (by kernel_rfl) (by kernel_rfl) (by kernel_rfl) (fun _ _ _ h => h) (by rfl) (by assumption) ?hy3 ?rest3
  case hy3 => intro w' hSw; (try dsimp only at hSw); go_simp; try with_reducible rfl
  try simp only [Act.put, List.setIfInBounds_toArray, List.set_cons_zero, List.set_cons_succ]
  refine takeW 3 (v := ?v4) rfl (by kernel_rfl) (by kernel_rfl) (by kernel_rfl) (fun _ _ _ h => h) (by rfl) (by assumption) ?hy4 ?rest4
  case hy4 => intro w' hSw; (try dsimp only at hSw); go_simp; try with_reducible rfl
  try simp only [Act.put, List.setIfInBounds_toArray, List.set_cons_zero, List.set_cons_succ]
  refine takeW 5 (v := ?v5) rfl (by kernel_rfl) (by kernel_rfl) (by kernel_rfl) (fun _ _ _ h => h) (by rfl) (by assumption) ?hy5 ?rest5
  case hy5 => intro w' hSw; (try dsimp only at hSw); go_simp; try with_reducible rfl
  try simp only [Act.put, List.setIfInBounds_toArray, List.set_cons_zero, List.set_cons_succ]
  refine takeW 6 (v := ?v6) rfl (by kernel_rfl) (by kernel_rfl) (by kernel_rfl) (fun _ _ _ h => h) (by rfl) (by assumption) ?hy6 ?rest6
  case hy6 => intro w' hSw; (try dsimp only at hSw); go_simp; try with_reducible rfl
  try simp only [Act.put, List.setIfInBounds_toArray, List.set_cons_zero, List.set_cons_succ]
  refine takeC 4 (by kernel_rfl) rfl (fun K hK => ?_)
  go_simp
  refine (cloneRu_any _ s.pol _ (by omega) (by exact (h1.below hBB).below (Below.refl _ _).drew)).mono ?_; rintro e w4 ⟨u4, rfl, o4, _, hB4⟩; obtain ⟨x4, y4, z4, rfl⟩ := row_slice o4; have hD4 : Below W0.heap.size W0 w4 := below_drew1 hB4; have hc4 := fun o => hB4.cell (p := ⟨w.heap.size, o, none⟩) (by exact F1.lt); have G1 : Three w4 _ _ _ _ _ := F1.below hD4; have G2 : Three w4 _ _ _ _ _ := F2.below hD4; have hBB4 := below_one hBB hD4
  refine hK.out _ _ ?_ (fun hHeld => ?_)
  · go_keep
  clear hK K
  try simp only [Act.put, List.setIfInBounds_toArray, List.set_cons_zero, List.set_cons_succ]
  refine takeC 7 (by kernel_rfl) rfl (fun K hK => ?_)
  go_simp
  refine (cloneNu_any _ s.rv _ (by omega) (h2.below hBB4)).mono ?_; rintro e w5 ⟨u5, rfl, o5, hB5⟩; obtain ⟨x5, y5, z5, rfl⟩ := row_slice o5; have hc5 := fun o => hB5.cell (p := ⟨w.heap.size, o, none⟩) (by exact G1.lt); have H2 := G2.below hB5; have hBB5 := below_one hBB4 hB5; have o4' := ownsRow_below o4 hB5; obtain ⟨r0, r1, r2⟩ := H2.c; have f0 := H2.f 0; have f1 := H2.f 1; have f2 := H2.f 2
  refine hK.out _ _ ?_ (fun hHeld => ?_)
  · go_keep
  clear hK K
  try simp only [Act.put, List.setIfInBounds_toArray, List.set_cons_zero, List.set_cons_succ]
  refine takeW 8 (v := ?v7) rfl (by kernel_rfl) (by kernel_rfl) (by kernel_rfl) (fun _ _ _ h => h) (by rfl) (by assumption) ?hy7 ?rest7
  case hy7 => intro w' hSw; (try dsimp only at hSw); go_simp; try with_reducible rfl
  try simp only [Act.put, List.setIfInBounds_toArray, List.set_cons_zero, List.set_cons_succ]
  refine takeC 9 (by kernel_rfl) rfl (fun K hK => ?_)
  go_simp
  skip
  refine hK.out _ _ ?_ (fun hHeld => ?_)
  · go_keep
  clear hK K
  try simp only [Act.put, List.setIfInBounds_toArray, List.set_cons_zero, List.set_cons_succ]
  refine wpAnyH_done (by kernel_rfl) ?_ _
  have G := ((H2.s0 (.int .i64 s.num)).s1 (.slice x4 y4 z4)).s2 (.slice x5 y5 z5)
  have q4 := row_three o4' (k := w.heap.size + 1) F2.lt (.int .i64 s.num) (.slice x4 y4 z4) (.slice x5 y5 z5)
  have q5 := row_three o5 (k := w.heap.size + 1) G2.lt (.int .i64 s.num) (.slice x4 y4 z4) (.slice x5 y5 z5)
  have pB := below_three hBB5 (k := w.heap.size + 1) (by omega) (.int .i64 s.num) (.slice x4 y4 z4) (.slice x5 y5 z5)
  have s3 := hBB.size
  have s4 := hBB4.size
  go_wp2_with fail
  clear r0 r1 r2 f0 f1 f2 hHeld hc4 hc5
  generalize ((w5.setCell ⟨w.heap.size + 1, 0, none⟩ (.int .i64 s.num)).setCell ⟨w.heap.size + 1, 1, none⟩ (.slice x4 y4 z4)).setCell ⟨w.heap.size + 1, 2, none⟩ (.slice x5 y5 z5) = W9 at *
  obtain ⟨d0, d1, d2⟩ := G.c
  exact bodyPost_ret (v := .agg #[.int .i64 s.num, .slice x4 y4 z4, .slice x5 y5 z5]) (by simp [results, Tryz.results21, go_sem, d0, d1, d2]) rfl ⟨_, rfl, SnO.of (Go.Joins.ownsRow_le q4 s3) (Go.Joins.ownsRow_le q5 s4), pB⟩

end Go.Proofs.YtjnajdilllkpcaaGreat

namespace Go.Proofs.YtjnajdilllkpcaaGreat
open Go.RowKit Go.Shelf

theorem cell_three_w (w : World) (x0 x1 x2 : Value) : ∀ j u, [x0, x1, x2][j]? = some u → (w.alloc (.cells #[x0, x1, x2] 26)).cell? ((⟨w.heap.size, 0, none⟩ : Addr).add j) = some u := by
  intro j u hu
  rw [Addr.add_lit, Nat.zero_add]
  have hj : j < 3 := by
    have := (List.getElem?_eq_some_iff.1 hu).1
    simpa using this
  obtain rfl | rfl | rfl : j = 0 ∨ j = 1 ∨ j = 2 := by omega
  all_goals (simp at hu; subst hu; simp)
/-- One more version is put behind the row. -/
theorem SsK.app {w w2 w3 : World} {base : Nat} {v v' : Value} {ss : List Sn} {k : Nat} {xs : List Value} {vp vr : Nat → Value} {p r : Value} {tmp : Obj} (h : SsK w base w.heap.size v k ss k xs vp vr) (hB : Below w.heap.size w w2) (hk : k < ss.length) (hb : base ≤ w.heap.size)
    (hp : w2.ownsRow w.heap.size 31 4 p ss[k].pol.length (ss[k].pol.flatMap Ru.cells)) (hr : w2.ownsRow w.heap.size 3 1 r ss[k].rv.length (nums ss[k].rv))
    (hown : w3.ownsRow base 26 3 v' (k + 1) (xs ++ [.int .i64 ss[k].num, p, r])) (hg : (w2.alloc tmp).grownBy w3 v.ownBlock) :
    SsK w3 base w3.heap.size v' (k + 1) ss (k + 1) (xs ++ [.int .i64 ss[k].num, p, r]) (fun i => if i = k then p else vp i) (fun i => if i = k then r else vr i) := by
  have h2 := h.below hB
  have hlen : xs.length = k * 3 := h.row.1
  have hs := hB.size
  have hr2 := h2.row.alloc tmp
  have keep : ∀ {b : Nat} {e : TypeId} {s m : Nat} {u : Value} {x : List Value}, w2.ownsRow b e s u m x → e ≠ 26 → w3.ownsRow b e s u m x := fun hu hne => kept_apart (hu.alloc tmp) hg (fun j h1 h2 => row_apart (hu.alloc tmp) hr2 hne j h1 h2)
  have pk := keep hp tyR
  have rk := keep hr tyN
  refine ⟨hown, fun j hj => (hown.lt j hj).2, ?_, ?_, ?_, ?_, ?_, ?_, ?_⟩
  · intro i hi hik
    by_cases e : i = k
    · subst e
      rw [if_pos rfl, if_pos rfl]
      refine ⟨?_, ?_, ?_⟩
      · rw [List.getElem?_append_right (by omega), hlen, Nat.sub_self]; rfl
      · rw [List.getElem?_append_right (by omega), hlen, Nat.add_sub_cancel_left]; rfl
      · rw [List.getElem?_append_right (by omega), hlen, Nat.add_sub_cancel_left]; rfl
    · rw [if_neg e, if_neg e]
      obtain ⟨c0, c1, c2⟩ := h.cs i hi (by omega)
      exact ⟨by rw [List.getElem?_append_left (by omega)]; exact c0, by rw [List.getElem?_append_left (by omega)]; exact c1, by rw [List.getElem?_append_left (by omega)]; exact c2⟩
  · intro i hi hik
    by_cases e : i = k
    · subst e
      rw [if_pos rfl]
      exact Go.Joins.ownsRow_le pk hb
    · rw [if_neg e]
      exact keep (h2.pol i hi (by omega)) tyR
  · intro i hi hik
    by_cases e : i = k
    · subst e
      rw [if_pos rfl]
      exact Go.Joins.ownsRow_le rk hb
    · rw [if_neg e]
      exact keep (h2.num i hi (by omega)) tyN
  · intro i hi hik j hj
    by_cases e : i = k
    · rw [if_pos e] at hj
      exact (pk.lt j hj).2
    · rw [if_neg e] at hj
      exact ((keep (h2.pol i hi (by omega)) tyR).lt j hj).2
  · intro i hi hik j hj
    by_cases e : i = k
    · rw [if_pos e] at hj
      exact (rk.lt j hj).2
    · rw [if_neg e] at hj
      exact ((keep (h2.num i hi (by omega)) tyN).lt j hj).2
  · intro i j hi hj hik hjk hij b h1 h2'
    by_cases e : i = k
    · rw [if_pos e] at h1
      rw [if_neg (by omega)] at h2'
      have := (hp.lt b h1).1
      have := h.plt j hj (by omega) b h2'
      omega
    · rw [if_neg e] at h1
      have := h.plt i hi (by omega) b h1
      by_cases e2 : j = k
      · rw [if_pos e2] at h2'
        have := (hp.lt b h2').1
        omega
      · rw [if_neg e2] at h2'
        exact h.pap i j hi hj (by omega) (by omega) hij b h1 h2'
  · intro i j hi hj hik hjk hij b h1 h2'
    by_cases e : i = k
    · rw [if_pos e] at h1
      rw [if_neg (by omega)] at h2'
      have := (hr.lt b h1).1
      have := h.nlt j hj (by omega) b h2'
      omega
    · rw [if_neg e] at h1
      have := h.nlt i hi (by omega) b h1
      by_cases e2 : j = k
      · rw [if_pos e2] at h2'
        have := (hr.lt b h2').1
        omega
      · rw [if_neg e2] at h2'
        exact h.nap i j hi hj (by omega) (by omega) hij b h1 h2'

set_option maxHeartbeats 4000000 in
theorem l5OwnAll_any (v : Value) (ss : List Sn) (w : World) (hm : shortS ss) (hr : SsR w v ss) :
    Calls Tryz.prog 72 #[v] w fun e w' => ∃ v', e = .returned v' ∧ SsO w' w.heap.size w'.heap.size v' ss ∧ Below w.heap.size w w' := by
  obtain ⟨a, cap, rfl⟩ := hr.len
  obtain ⟨i0, hi, hz0, hz1, hz2⟩ := info_parts infoSnapshot
  have hm1 := hm.1
  go_enter Tryz.func72, Tryz.ntmps72
  go_wp2
  go_loopw [3, 8] (fun out i wr => ∃ k : Nat, k ≤ ss.length ∧ i = .int .i64 k ∧ (∃ xs vp vr, SsK wr w.heap.size wr.heap.size out k ss k xs vp vr) ∧ Below w.heap.size w wr) (fun _ i _ => ss.length - (intOf i).toNat)
  case atStart => exact ⟨0, Nat.zero_le _, rfl, ⟨[], fun _ => .nilIface, fun _ => .nilIface, World.ownsRow_nil _ _ _ _, fun _ h => by simp [Value.ownBlock] at h, fun _ _ h => absurd h (Nat.not_lt_zero _), fun _ _ h => absurd h (Nat.not_lt_zero _), fun _ _ h => absurd h (Nat.not_lt_zero _), fun _ _ h => absurd h (Nat.not_lt_zero _), fun _ _ h => absurd h (Nat.not_lt_zero _), fun _ _ _ _ h => absurd h (Nat.not_lt_zero _), fun _ _ _ _ h => absurd h (Nat.not_lt_zero _)⟩, Below.refl _ _⟩
  case round =>
    obtain ⟨k, hk, rfl, ⟨xs, vp, vr, hK⟩, hB⟩ := hrel
    by_cases hlt : k < ss.length
    · obtain ⟨b, off, xp, cp, xr, cr, rfl, hb, hcap, q0, q1, q2, y1, y2⟩ := (hr.below hB).at hlt
      have hsh := hm.2 ss[k] (List.getElem_mem hlt)
      have HA := hid (fun (w2 w3 : World) (p r v' : Value) (tmp : Obj) (hB2 : Below wr.heap.size wr w2) => SsK.app (w2 := w2) (w3 := w3) (p := p) (r := r) (v' := v') (tmp := tmp) hK hB2 hlt hB.size)
      have hrow := hK.row
      have hz := hB.size
      clear hK
      generalize ss[k] = s at *
      have hBw : Below wr.heap.size wr (wr.alloc (.cells #[.int .i64 s.num, .slice xp s.pol.length cp, .slice xr s.rv.length cr] 26)) := (Below.refl _ wr).alloc (Nat.le_refl _) _
      have z1 := y1.below hBw
      have z2 := y2.below hBw
      go_wp2_with fail
      clear q0 q1 q2
      generalize wr.alloc (.cells #[.int .i64 s.num, .slice xp s.pol.length cp, .slice xr s.rv.length cr] 26) = W1 at *
      refine (l5Own_any _ s _ hsh ⟨_, _, rfl, z1, z2⟩).mono ?_
      rintro e w2 ⟨v2, rfl, ⟨p, r, rfl, op, or', _, _⟩, hB2⟩
      obtain ⟨xa, ya, za, rfl⟩ := row_slice op
      obtain ⟨xb, yb, zb, rfl⟩ := row_slice or'
      have hBX := below_one hBw hB2
      have hrow2 := ownsRow_below hrow hBX
      have hBY := below_one hB hBX
      have hz2' := hBY.size
      have HB := hid (fun (w3 : World) (v' : Value) (tmp : Obj) => HA.out w2 w3 _ _ v' tmp hBX (Go.Joins.ownsRow_le op hBw.size) (Go.Joins.ownsRow_le or' hBw.size))
      clear HA op or' hB2 hBw y1 y2 z1 z2 hrow
      go_wp2_with (at_builtin; refine wpList_append_own _ rfl _ _ 65 rfl w.heap.size 26 i0 _ 3 56 Tryz.underlying65 hi hz0 hz1 hz2 rfl (by decide) _ _ _ rfl (hrow2.alloc _) ⟨w2.heap.size, 0, none⟩ 1 1 [.int .i64 s.num, .slice xa ya za, .slice xb yb zb] rfl rfl (cell_three_w w2 _ _ _) (by intro u hu; simp at hu; rcases hu with rfl | rfl | rfl <;> rfl) (by unfold maxLen; first | omega | (simp <;> omega)) (by first | omega | (simp <;> omega)) (by first | omega | (simp <;> omega)) ?_; intro u' w3 hown' hgrow _; obtain ⟨g', cap3, rfl⟩ := ownsRow_succ hown')
      go_roundw
      case rel => exact ⟨k + 1, by omega, by go_num, ⟨_, _, _, HB.out w3 _ _ (by simpa using hown') hgrow⟩, hBY.trans (below_appended hz2' hrow2 hgrow)⟩
      case measure => simp [intOf]; omega
    · obtain rfl : k = ss.length := by omega
      go_wp2
      go_ret
      exact ⟨_, rfl, ⟨xs, vp, vr, hK⟩, hB⟩

/-- The versions from a place on. -/
theorem SsR.drop {w : World} {b off n cap c' : Nat} {ss : List Sn} (h : SsR w (.slice (some ⟨b, off, none⟩) n cap) ss) {k : Nat} (hk : k ≤ ss.length) (hc : ss.length - k ≤ c') : SsR w (.slice (some ⟨b, off + k * 3, none⟩) (ss.length - k) c') (ss.drop k) := by
  rcases h with ⟨hv, _⟩ | ⟨b', off', cap', hv, hb, hl, hcs⟩
  · cases hv
  · cases hv
    refine .inr ⟨b, off + k * 3, c', by rw [List.length_drop], hb, by rw [List.length_drop]; exact hc, fun i hi => ?_⟩
    rw [List.length_drop] at hi
    obtain ⟨vp, vr, c0, c1, c2, h1, h2⟩ := hcs (k + i) (by omega)
    refine ⟨vp, vr, ?_, ?_, ?_, ?_, ?_⟩
    · rw [List.getElem_drop, show off + k * 3 + i * 3 = off + (k + i) * 3 by omega]; exact c0
    · rw [show off + k * 3 + i * 3 + 1 = off + (k + i) * 3 + 1 by omega]; exact c1
    · rw [show off + k * 3 + i * 3 + 2 = off + (k + i) * 3 + 2 by omega]; exact c2
    · rw [List.getElem_drop]; exact h1
    · rw [List.getElem_drop]; exact h2
theorem shortS_drop {ss : List Sn} (h : shortS ss) (k : Nat) : shortS (ss.drop k) := ⟨by rw [List.length_drop]; have := h.1; omega, fun s hs => h.2 s (List.mem_of_mem_drop hs)⟩

end Go.Proofs.YtjnajdilllkpcaaGreat

namespace Go.Proofs
open Go.Shelf
def Tryz.growIn_ren : Go.Shelf.Ren := ⟨fun | 4 => 92 | n => n, fun | 22 => 24 | 25 => 3 | 3 => 3 | 4 => 4 | 9 => 9 | 20 => 20 | 0 => 0 | n => n, fun | n => n⟩
theorem Tryz.growIn : Go.Proofs.Lays8.n4 Tryz.prog Tryz.growIn_ren := {
  mixed := by kernel_rfl
  f4 := ⟨Tryz.f92.name, by decide, Tryz.func92.trans (congrArg some (by kernel_rfl))⟩
  t0 := Tryz.underlying0
  a0 := Tryz.isAgg0
  z0 := Tryz.sizeOf0
  v0 := Tryz.zeroValue0
  t3 := Tryz.underlying3
  a3 := Tryz.isAgg3
  z3 := Tryz.sizeOf3
  v3 := Tryz.zeroValue3
  t4 := Tryz.underlying4
  a4 := Tryz.isAgg4
  z4 := Tryz.sizeOf4
  v4 := Tryz.zeroValue4
  t9 := Tryz.underlying9
  a9 := Tryz.isAgg9
  z9 := Tryz.sizeOf9
  v9 := Tryz.zeroValue9
  t20 := Tryz.underlying20
  a20 := Tryz.isAgg20
  z20 := Tryz.sizeOf20
  v20 := Tryz.zeroValue20
  t22 := Tryz.underlying24
  a22 := Tryz.isAgg24
  z22 := Tryz.sizeOf24
  v22 := Tryz.zeroValue24 }
end Go.Proofs

namespace Go.Proofs.YtjnajdilllkpcaaGreat
open Go.RowKit Go.Shelf Go.Sort

theorem put_take (cur : Array Value) (d : List Int) (k : Nat) (hk : k ≤ d.length) (hc : d.length ≤ cur.size) : (putCells (Value.int .i64) 0 d.toArray cur).toList.take k = nums (d.take k) := by
  apply List.ext_getElem?
  intro j
  by_cases hj : j < k
  · have hjc : j < cur.size := by omega
    have hjd : j < d.length := by omega
    rw [List.getElem?_take_of_lt hj, Array.getElem?_toList]
    simp [putCells, hjc, hjd, nums, hj]
  · rw [List.getElem?_take_eq_none (by omega), List.getElem?_eq_none (by simp [nums]; omega)]

theorem row_holds {w : World} {base g cap : Nat} {zs : List Int} (hrow : w.ownsRow base 3 1 (.slice (some ⟨g, 0, none⟩) zs.length cap) zs.length (nums zs)) : Holds (Value.int .i64) w g 0 zs.toArray := by
  intro j hj
  have hj' : j < zs.length := by simpa using hj
  have h1 := hrow.cellAt j (by omega)
  have h2 := hrow.frozenAt j
  refine ⟨?_, ?_⟩
  · rw [Nat.zero_add, h1]
    simp [nums, hj']
  · rw [Nat.zero_add]
    exact h2

theorem sortN_any (base g cap : Nat) (zs : List Int) (w : World) (hn : zs.length ≤ 1100000) (hrow : w.ownsRow base 3 1 (.slice (some ⟨g, 0, none⟩) zs.length cap) zs.length (nums zs)) :
    Calls Tryz.prog 80 #[.slice (some ⟨g, 0, none⟩) zs.length cap] w fun e w' => e = .returned (.tuple #[]) ∧ w'.ownsRow base 3 1 (.slice (some ⟨g, 0, none⟩) zs.length cap) zs.length (nums (zs.mergeSort fun x y => decide (x ≤ y))) ∧ w.grownBy w' (some g) := by
  have hH := row_holds hrow
  rcases hrow.2 with ⟨h, _⟩ | ⟨g', cap', cur, h, hbase, hb, h1, h2, h3, h4⟩
  · cases h
  · simp only [Value.slice.injEq, Option.some.injEq, Addr.mk.injEq, and_true, true_and] at h
    obtain ⟨rfl, rfl⟩ := h
    have hlt : g < w.heap.size := (Array.getElem?_eq_some_iff.1 hb).1
    refine (Any.slices_Sort_int Tryz.lays189 g 0 cap zs w hH hlt (by omega)).mono ?_
    rintro e w' ⟨rfl, n, os, rfl⟩
    have hsz : (zs.mergeSort fun x y => decide (x ≤ y)).length = zs.length := List.length_mergeSort _
    refine ⟨rfl, ⟨by simp [nums], .inr ⟨g, cap, putCells (Value.int .i64) 0 (zs.mergeSort fun x y => decide (x ≤ y)).toArray cur, rfl, hbase, ?_, h1, h2, by simp [putCells, h3], ?_⟩⟩, ?_⟩
    · rw [heap_grow_old _ _ (by simpa [putRow, mapBlock, Sort.ahead] using hlt)]
      simp [putRow, mapBlock, Sort.ahead, Array.getElem?_modify, hb, onCells]
    · rw [Nat.mul_one, put_take cur _ zs.length (by omega) (by omega), List.take_of_length_le (by omega)]
    · refine ⟨rfl, rfl, rfl, ?_, fun k hk hne => ?_⟩
      · simp [putRow, mapBlock, Sort.ahead]
      · rw [heap_grow_old _ _ (by simpa [putRow, mapBlock, Sort.ahead] using hk)]
        have : g ≠ k := fun e => hne (by rw [e])
        simp [putRow, mapBlock, Sort.ahead, Array.getElem?_modify, this]

theorem compactN_any (base g cap : Nat) (zs : List Int) (w : World) (hn : zs.length ≤ 1100000) (hrow : w.ownsRow base 3 1 (.slice (some ⟨g, 0, none⟩) zs.length cap) zs.length (nums zs)) :
    Calls Tryz.prog 81 #[.slice (some ⟨g, 0, none⟩) zs.length cap] w fun e w' => ∃ v', e = .returned v' ∧ w'.ownsRow base 3 1 v' (Lib.compact zs).length (nums (Lib.compact zs)) ∧ w.grownBy w' (some g) := by
  have hH := row_holds hrow
  rcases hrow.2 with ⟨h, _⟩ | ⟨g', cap', cur, h, hbase, hb, h1, h2, h3, h4⟩
  · cases h
  · simp only [Value.slice.injEq, Option.some.injEq, Addr.mk.injEq, and_true, true_and] at h
    obtain ⟨rfl, rfl⟩ := h
    have hle := Lib.compact_length_le zs
    refine (Any.slices_Compact_int Tryz.lays20 g 0 cap zs w hH (by omega) h1).mono ?_
    rintro e w' ⟨rfl, n, rfl⟩
    have hsz : (Lib.compact zs ++ List.replicate (zs.length - (Lib.compact zs).length) 0).length = zs.length := by simp; omega
    refine ⟨_, rfl, ⟨by simp [nums], .inr ⟨g, cap, putCells (Value.int .i64) 0 (Lib.compact zs ++ List.replicate (zs.length - (Lib.compact zs).length) 0).toArray cur, rfl, hbase, ?_, by omega, h2, by simp [putCells, h3], ?_⟩⟩, ?_⟩
    · simp [putRow, mapBlock, Sort.ahead, Array.getElem?_modify, hb, onCells]
    · rw [Nat.mul_one, put_take cur _ _ (by omega) (by omega), List.take_left]
    · refine ⟨rfl, rfl, rfl, ?_, fun k hk hne => ?_⟩
      · simp [putRow, mapBlock, Sort.ahead]
      · have : g ≠ k := fun e => hne (by rw [e])
        simp [putRow, mapBlock, Sort.ahead, Array.getElem?_modify, this]

/-- The first k lists, one behind another. -/
def catT (ls : List (Value × List Int)) (k : Nat) : List Int := (ls.take k).flatMap (fun p => p.2)
theorem catT_zero (ls : List (Value × List Int)) : catT ls 0 = [] := by simp [catT]
theorem catT_succ {ls : List (Value × List Int)} {k : Nat} (h : k < ls.length) : catT ls (k + 1) = catT ls k ++ ls[k].2 := by
  unfold catT
  rw [List.take_succ_eq_append_getElem h, List.flatMap_append]
  simp
theorem catT_le (ls : List (Value × List Int)) : ∀ k, k ≤ ls.length → (catT ls k).length ≤ (catT ls ls.length).length := by
  intro k hk
  unfold catT
  rw [List.take_length]
  conv => rhs; rw [← List.take_append_drop k ls, List.flatMap_append, List.length_append]
  omega
theorem grownN (w : World) (n : Nat) (hn : 0 < n) (hm : n ≤ 1100000) : (w.drew.alloc (.cells (([] : List Value).toArray ++ Builtin.zeroCells (Value.int .i64 0).cells (0 + n - 0) ++ Builtin.zeroCells (Value.int .i64 0).cells (grownCap w (0 + n) 0 3 - (0 + n))) 3)).ownsRow w.heap.size 3 1 (.slice (some ⟨w.heap.size, 0, none⟩) 0 (grownCap w (0 + n) 0 3)) 0 [] := by
  have h1 := grownCap_ge w (0 + n) 0 3
  have h2 := grownCap_le_maxLen w (0 + n) 0 3 (by unfold maxLen; omega)
  refine ⟨by simp, .inr ⟨w.heap.size, _, _, rfl, Nat.le_refl _, by show (w.heap.push _)[w.heap.size]? = _; rw [Array.getElem?_push_size], Nat.zero_le _, h2, ?_, by simp⟩⟩
  have h3 : n ≤ grownCap w n 0 3 := by simpa using h1
  simp [Builtin.zeroCells, Value.cells]
  omega

theorem growN_any (n : Nat) (w : World) (hm : n ≤ 1100000) :
    Calls Tryz.prog 92 #[.slice none 0 0, .int .i64 n] w fun e w' => ∃ v', e = .returned v' ∧ w'.ownsRow w.heap.size 3 1 v' 0 [] ∧ Below w.heap.size w w' := by
  obtain ⟨iw, hiw, hw0, hw1, hw2⟩ := info_parts infoInt
  by_cases h0 : n = 0
  · subst h0
    refine (Any8.slices_Grow_room Tryz.growIn none 0 0 0 w (Nat.le_refl _) (by omega) (by omega) (by omega)).mono ?_
    rintro e w' ⟨rfl, rfl⟩
    exact ⟨_, rfl, World.ownsRow_nil _ _ _ _, Below.refl _ _⟩
  · refine (Any8.slices_Grow_grow Tryz.growIn iw _ hiw hw0 (by omega) none 0 0 n [] w (Nat.le_refl _) (by omega) (by rw [hw2]; omega) (by omega) (by simp) (fun _ => rfl) (fun a h => by cases h)).mono ?_
    rintro e w' ⟨rfl, rfl⟩
    exact ⟨_, rfl, grownN w n (by omega) hm, ((Below.refl _ w).drew).alloc (Nat.le_refl _) _⟩

set_option maxHeartbeats 4000000 in
set_option maxRecDepth 100000 in
theorem concat_any (b : Nat) (ls : List (Value × List Int)) (w : World) (hsum : (catT ls ls.length).length ≤ 1100000) (hn : ls.length ≤ 2) (hc : ∀ j (h : j < ls.length), w.cell? ⟨b, j, none⟩ = some ls[j].1) (hb : b < w.heap.size) (hr : ∀ j (h : j < ls.length), NuR w ls[j].1 ls[j].2) :
    Calls Tryz.prog 79 #[.slice (some ⟨b, 0, none⟩) ls.length ls.length] w fun e w' => ∃ v', e = .returned v' ∧ w'.ownsRow w.heap.size 3 1 v' (catT ls ls.length).length (nums (catT ls ls.length)) ∧ Below w.heap.size w w' := by
  obtain ⟨iw, hiw, hw0, hw1, hw2⟩ := info_parts infoInt
  have HC := hid hc
  have HRR := hid hr
  clear hc hr
  go_enter Tryz.func79, Tryz.ntmps79
  go_wp2
  go_loopw [3, 11] (fun s i wr => ∃ k : Nat, k ≤ ls.length ∧ i = .int .i64 k ∧ s = .int .i64 ((catT ls k).length : Nat) ∧ wr = w) (fun _ i _ => ls.length - (intOf i).toNat)
  case atStart => exact ⟨0, Nat.zero_le _, rfl, by rw [catT_zero]; rfl, rfl⟩
  case round =>
    obtain ⟨k, hk, rfl, rfl, rfl⟩ := hrel
    by_cases hlt : k < ls.length
    · have q0 := HC.out k hlt
      obtain ⟨a, cap, hv⟩ := (HRR.out k hlt).len
      rw [hv] at q0
      have hle2 := catT_le ls (k + 1) hlt
      have HSU := hid (show (catT ls (k + 1)).length = (catT ls k).length + ls[k].2.length by rw [catT_succ hlt, List.length_append])
      have hnm : (catT ls k).length + ls[k].2.length ≤ 1100000 := by have := HSU.out; omega
      clear hle2 hv
      generalize (catT ls k).length = n at *
      generalize ls[k].2.length = m at *
      have hww : IntKind.i64.wrap ((n : Int) + (m : Int)) = (n : Int) + (m : Int) := by rw [IntKind.wrap_i64]; omega
      have hng : decide ((n : Int) + (m : Int) < 0) = false := by simp; omega
      go_wp2_with fail
      go_roundw
      case rel => exact ⟨k + 1, by omega, by go_num, by rw [HSU.out]; go_num, by trivial⟩
      case measure => simp [intOf]; omega
    · obtain rfl : k = ls.length := by omega
      clear hk hlt
      have HS := hid hsum
      obtain ⟨N, HNN⟩ : ∃ N, Hid (N = (catT ls ls.length).length) := ⟨_, hid rfl⟩
      rw [← HNN.out]
      go_wp2_with fail
      refine (growN_any N _ (by have := HS.out; have := HNN.out; omega)).mono ?_
      rintro e w6 ⟨v6, rfl, o6, hB6⟩
      obtain ⟨w0, hw0e⟩ : ∃ w0, w0 = wr := ⟨_, rfl⟩
      subst hw0e
      clear hsum
      go_wp2_with fail
      go_loopw [6, 27] (fun o i wq => ∃ k : Nat, k ≤ ls.length ∧ i = .int .i64 k ∧ wq.ownsRow w0.heap.size 3 1 o (catT ls k).length (nums (catT ls k)) ∧ Below w0.heap.size w0 wq) (fun _ i _ => ls.length - (intOf i).toNat)
      case atStart => exact ⟨0, Nat.zero_le _, rfl, by rw [catT_zero]; exact o6, hB6⟩
      case round =>
        obtain ⟨k, hk, rfl, ho, hB⟩ := hrel
        by_cases hlt : k < ls.length
        · have q0 := (hB.cell (p := ⟨b, k, none⟩) hb).trans (HC.out k hlt)
          have hnr := (HRR.out k hlt).below hB
          have HSU := hid (catT_succ hlt)
          have hle2 := catT_le ls (k + 1) hlt
          have hnm : (catT ls k).length + ls[k].2.length ≤ 1100000 := by have := congrArg List.length HSU.out; rw [List.length_append] at this; have := HS.out; omega
          clear hle2
          generalize catT ls k = l at *
          generalize ls[k].1 = u at *
          generalize ls[k].2 = zs at *
          go_wp2_with (at_builtin; refine wpList_append_read rfl _ _ 24 rfl w0.heap.size 3 iw _ 1 8 Tryz.underlying24 hiw hw0 hw1 hw2 rfl (by decide) _ _ _ _ _ _ rfl ho rfl (NuR.src hnr) ones_n (by unfold maxLen; omega) (by omega) hB.size ?_)
          intro v7 w7 o7 g7
          go_wp2_with fail
          go_roundw
          case rel => exact ⟨k + 1, by omega, by go_num, by rw [HSU.out, List.length_append]; simpa [nums] using o7, hB.grown g7 hB.size (fun k e => (ho.lt k e).1)⟩
          case measure => simp [intOf]; omega
        · obtain rfl : k = ls.length := by omega
          go_wp2_with fail
          go_ret
          exact ⟨_, rfl, ho, hB⟩

set_option maxHeartbeats 4000000 in
set_option maxRecDepth 100000 in
/-- The program's numbers of several lists, sorted, each once. -/
theorem eachOnce_any (b : Nat) (ls : List (Value × List Int)) (w : World) (hsum : (catT ls ls.length).length ≤ 1100000) (hn : ls.length ≤ 2) (hc : ∀ j (h : j < ls.length), w.cell? ⟨b, j, none⟩ = some ls[j].1) (hb : b < w.heap.size) (hr : ∀ j (h : j < ls.length), NuR w ls[j].1 ls[j].2) :
    Calls Tryz.prog 54 #[.slice (some ⟨b, 0, none⟩) ls.length ls.length] w fun e w' => ∃ v', e = .returned v' ∧ w'.ownsRow w.heap.size 3 1 v' (srN (catT ls ls.length)).length (nums (srN (catT ls ls.length))) ∧ Below w.heap.size w w' := by
  have HC := hid (concat_any b ls w hsum hn hc hb hr)
  clear hc hr
  generalize catT ls ls.length = zs at *
  go_enter Tryz.func54, Tryz.ntmps54
  go_wp2_with fail
  refine HC.out.mono ?_
  rintro e w1 ⟨v1, rfl, o1, hB1⟩
  have HZ := hid (compact_sorted zs)
  rcases row_form o1 with ⟨rfl, h0⟩ | ⟨g, cp, rfl, hg, hcp⟩
  · obtain rfl : zs = [] := List.eq_nil_of_length_eq_zero h0
    go_wp2_with fail
    refine (Any.slices_Sort_int_none Tryz.lays189 none 0 _).mono ?_
    rintro e w2 ⟨rfl, rfl⟩
    go_wp2_with fail
    refine (Any.slices_Compact_int_empty Tryz.lays20 none 0 _).mono ?_
    rintro e w3 ⟨rfl, rfl⟩
    go_wp2_with fail
    go_ret
    exact ⟨_, rfl, World.ownsRow_nil _ _ _ _, hB1⟩
  · have hms : (zs.mergeSort fun x y => decide (x ≤ y)).length = zs.length := List.length_mergeSort _
    go_wp2_with fail
    refine (sortN_any _ g cp zs _ (by omega) o1).mono ?_
    rintro e w2 ⟨rfl, o2, g2⟩
    have hB2 := hB1.grown g2 hB1.size (fun k e => by simp at e; omega)
    rw [← hms] at o2
    have HMS := hid hms
    rw [← hms]
    clear hms
    generalize (zs.mergeSort fun x y => decide (x ≤ y)) = ds at *
    go_wp2_with fail
    refine (compactN_any _ g cp ds _ (by have := HMS.out; omega) o2).mono ?_
    rintro e w3 ⟨v3, rfl, o3, g3⟩
    rw [HZ.out] at o3
    have hB3 := hB2.grown g3 hB2.size (fun k e => by simp at e; omega)
    go_wp2_with fail
    go_ret
    exact ⟨_, rfl, o3, hB3⟩

end Go.Proofs.YtjnajdilllkpcaaGreat

namespace Go.Proofs.YtjnajdilllkpcaaGreat
open Go.RowKit Go.Shelf

theorem SsK.ext {w : World} {base top : Nat} {v : Value} {n : Nat} {ss : List Sn} {k : Nat} {xs : List Value} {vp vr : Nat → Value} (h : SsK w base top v n ss k xs vp vr) (hk : k ≤ ss.length) (t : List Sn) : SsK w base top v n (ss ++ t) k xs vp vr := by
  have e : ∀ i (hi : i < (ss ++ t).length) (hik : i < k), (ss ++ t)[i] = ss[i]'(by omega) := fun i hi hik => List.getElem_append_left (by omega)
  exact ⟨h.row, h.rlt, fun i hi hik => by rw [e i hi hik]; exact h.cs i (by omega) hik, fun i hi hik => by rw [e i hi hik]; exact h.pol i (by omega) hik, fun i hi hik => by rw [e i hi hik]; exact h.num i (by omega) hik, fun i hi hik => h.plt i (by omega) hik, fun i hi hik => h.nlt i (by omega) hik, fun i j hi hj hik hjk => h.pap i j (by omega) (by omega) hik hjk, fun i j hi hj hik hjk => h.nap i j (by omega) (by omega) hik hjk⟩
/-- One more version, whose lists were there before the row, is put behind it. -/
theorem SsK.app2 {w w3 : World} {base b2 : Nat} {v v' : Value} {ss : List Sn} {k : Nat} {xs : List Value} {vp vr : Nat → Value} {p r : Value} (h : SsK w b2 w.heap.size v k ss k xs vp vr) (hk : k < ss.length) (hb : base ≤ b2)
    (hp : w.ownsRow base 31 4 p ss[k].pol.length (ss[k].pol.flatMap Ru.cells)) (hr : w.ownsRow base 3 1 r ss[k].rv.length (nums ss[k].rv)) (hpl : ∀ j, p.ownBlock = some j → j < b2) (hrl : ∀ j, r.ownBlock = some j → j < b2)
    (hown : w3.ownsRow base 26 3 v' (k + 1) (xs ++ [.int .i64 ss[k].num, p, r])) (hg : w.grownBy w3 v.ownBlock) :
    SsK w3 base w3.heap.size v' (k + 1) ss (k + 1) (xs ++ [.int .i64 ss[k].num, p, r]) (fun i => if i = k then p else vp i) (fun i => if i = k then r else vr i) := by
  have hlen : xs.length = k * 3 := h.row.1
  have keep : ∀ {b : Nat} {e : TypeId} {s m : Nat} {u : Value} {x : List Value}, w.ownsRow b e s u m x → e ≠ 26 → w3.ownsRow b e s u m x := fun hu hne => kept_apart hu hg (fun j h1 h2 => row_apart hu h.row hne j h1 h2)
  have pk := keep hp tyR
  have rk := keep hr tyN
  refine ⟨hown, fun j hj => (hown.lt j hj).2, ?_, ?_, ?_, ?_, ?_, ?_, ?_⟩
  · intro i hi hik
    by_cases e : i = k
    · subst e
      rw [if_pos rfl, if_pos rfl]
      refine ⟨?_, ?_, ?_⟩
      · rw [List.getElem?_append_right (by omega), hlen, Nat.sub_self]; rfl
      · rw [List.getElem?_append_right (by omega), hlen, Nat.add_sub_cancel_left]; rfl
      · rw [List.getElem?_append_right (by omega), hlen, Nat.add_sub_cancel_left]; rfl
    · rw [if_neg e, if_neg e]
      obtain ⟨c0, c1, c2⟩ := h.cs i hi (by omega)
      exact ⟨by rw [List.getElem?_append_left (by omega)]; exact c0, by rw [List.getElem?_append_left (by omega)]; exact c1, by rw [List.getElem?_append_left (by omega)]; exact c2⟩
  · intro i hi hik
    by_cases e : i = k
    · subst e
      rw [if_pos rfl]
      exact pk
    · rw [if_neg e]
      exact Go.Joins.ownsRow_le (keep (h.pol i hi (by omega)) tyR) hb
  · intro i hi hik
    by_cases e : i = k
    · subst e
      rw [if_pos rfl]
      exact rk
    · rw [if_neg e]
      exact Go.Joins.ownsRow_le (keep (h.num i hi (by omega)) tyN) hb
  · intro i hi hik j hj
    by_cases e : i = k
    · rw [if_pos e] at hj
      exact (pk.lt j hj).2
    · rw [if_neg e] at hj
      exact ((keep (h.pol i hi (by omega)) tyR).lt j hj).2
  · intro i hi hik j hj
    by_cases e : i = k
    · rw [if_pos e] at hj
      exact (rk.lt j hj).2
    · rw [if_neg e] at hj
      exact ((keep (h.num i hi (by omega)) tyN).lt j hj).2
  · intro i j hi hj hik hjk hij b h1 h2'
    by_cases e : i = k
    · rw [if_pos e] at h1
      rw [if_neg (by omega)] at h2'
      have := hpl b h1
      have := ((h.pol j hj (by omega)).lt b h2').1
      omega
    · rw [if_neg e] at h1
      by_cases e2 : j = k
      · rw [if_pos e2] at h2'
        have := hpl b h2'
        have := ((h.pol i hi (by omega)).lt b h1).1
        omega
      · rw [if_neg e2] at h2'
        exact h.pap i j hi hj (by omega) (by omega) hij b h1 h2'
  · intro i j hi hj hik hjk hij b h1 h2'
    by_cases e : i = k
    · rw [if_pos e] at h1
      rw [if_neg (by omega)] at h2'
      have := hrl b h1
      have := ((h.num j hj (by omega)).lt b h2').1
      omega
    · rw [if_neg e] at h1
      by_cases e2 : j = k
      · rw [if_pos e2] at h2'
        have := hrl b h2'
        have := ((h.num i hi (by omega)).lt b h1).1
        omega
      · rw [if_neg e2] at h2'
        exact h.nap i j hi hj (by omega) (by omega) hij b h1 h2'

theorem SsK.put {w w3 : World} {base b2 : Nat} {v v' : Value} {ss : List Sn} {xs : List Value} {vp vr : Nat → Value} {p r : Value} {s : Sn} (h : SsK w b2 w.heap.size v ss.length ss ss.length xs vp vr) (hb : base ≤ b2)
    (hp : w.ownsRow base 31 4 p s.pol.length (s.pol.flatMap Ru.cells)) (hr : w.ownsRow base 3 1 r s.rv.length (nums s.rv)) (hpl : ∀ j, p.ownBlock = some j → j < b2) (hrl : ∀ j, r.ownBlock = some j → j < b2)
    (hown : w3.ownsRow base 26 3 v' (ss.length + 1) (xs ++ [.int .i64 s.num, p, r])) (hg : w.grownBy w3 v.ownBlock) :
    ∃ xs' vp' vr', SsK w3 base w3.heap.size v' (ss.length + 1) (ss ++ [s]) (ss.length + 1) xs' vp' vr' := by
  have e : (ss ++ [s])[ss.length]'(by simp) = s := by simp
  exact ⟨_, _, _, (h.ext (Nat.le_refl _) [s]).app2 (by simp) hb (by rw [e]; exact hp) (by rw [e]; exact hr) hpl hrl (by rw [e]; exact hown) hg⟩

/-- A list of one's own, or such a one without its first. -/
def SsT (w : World) (base top : Nat) (v : Value) (ss : List Sn) : Prop :=
  SsO w base top v ss ∨ ∃ g n cap ss', SsO w base top (.slice (some ⟨g, 0, none⟩) n cap) ss' ∧ 1 ≤ ss'.length ∧ ss'.length ≤ cap ∧ v = .slice (some ⟨g, 3, none⟩) (ss'.length - 1) (cap - 1) ∧ ss = ss'.drop 1
theorem SsT.below {w w' : World} {base top : Nat} {v : Value} {ss : List Sn} (h : SsT w base top v ss) (hB : Below w.heap.size w w') : SsT w' base top v ss := by
  rcases h with h | ⟨g, n, cap, ss', h, h1, h2, h3, h4⟩
  · exact .inl (h.below hB)
  · exact .inr ⟨g, n, cap, ss', h.below hB, h1, h2, h3, h4⟩
theorem Mid.sst {lo hi : Nat} {w w1 : World} (hM : Mid lo hi w w1) {base top : Nat} {v : Value} {ss : List Sn} (h : SsT w base top v ss) (ho : hi ≤ base ∨ top ≤ lo) : SsT w1 base top v ss := by
  rcases h with h | ⟨g, n, cap, ss', h, h1, h2, h3, h4⟩
  · exact .inl (hM.sso h ho)
  · exact .inr ⟨g, n, cap, ss', hM.sso h ho, h1, h2, h3, h4⟩
theorem SsT.a {w : World} {base top : Nat} {v : Value} {ss : List Sn} (h : SsT w base top v ss) : SsA w v ss := by
  rcases h with h | ⟨g, n, cap, ss', h, h1, h2, rfl, rfl⟩
  · exact h.a
  · have := (h.r.drop (k := 1) (c' := cap - 1) h1 (by omega)).a
    simpa using this
theorem SsT.mono {w : World} {base base' top top' : Nat} {v : Value} {ss : List Sn} (h : SsT w base top v ss) (hb : base' ≤ base) (ht : top ≤ top') : SsT w base' top' v ss := by
  rcases h with h | ⟨g, n, cap, ss', h, h1, h2, h3, h4⟩
  · exact .inl (h.mono hb ht)
  · exact .inr ⟨g, n, cap, ss', h.mono hb ht, h1, h2, h3, h4⟩

theorem SsK.top {w : World} {base top top' : Nat} {v : Value} {n : Nat} {ss : List Sn} {k : Nat} {xs : List Value} {vp vr : Nat → Value} (h : SsK w base top v n ss k xs vp vr) (ht : top ≤ top') : SsK w base top' v n ss k xs vp vr :=
  ⟨h.row, fun j hj => Nat.lt_of_lt_of_le (h.rlt j hj) ht, h.cs, h.pol, h.num, fun i hi hik j hj => Nat.lt_of_lt_of_le (h.plt i hi hik j hj) ht, fun i hi hik j hj => Nat.lt_of_lt_of_le (h.nlt i hi hik j hj) ht, h.pap, h.nap⟩
theorem step_app_own {P : Program} {w : World} {ops : Array Oper} {o : Oper} {a : Act} {K : Act → World → Prop} {Q : Exit → Act → World → Prop} {E : Prop} (hgd : o.guard = none) (s x : Operand) (t : TypeId)
    (ho : o.op = .call { callee := .builtin .append, args := #[s, x], argTypes := #[t, t] })
    (base : Nat) (e : TypeId) (i : TypeInfo) (z : Value) (size bytes : Nat) (ht : P.underlying t = some (.slice e)) (hi : P.info? e = some i) (hz : i.zero = some z)
    (hsize : i.size = size) (hby : i.bytes = bytes) (hzs : z.cells.size = size) (hsz : 0 < size)
    (v : Value) (n : Nat) (xs : List Value) (hs : a.eval s = v) (hown : w.ownsRow base e size v n xs)
    (ad : Addr) (m c : Nat) (news : List Value) (hx : a.eval x = .slice (some ad) m c) (hl : news.length = m * size) (hnews : ∀ j u, news[j]? = some u → w.cell? (ad.add j) = some u) (h1 : ∀ u ∈ news, u.oneCell' = true)
    (h63 : n + m ≤ maxLen) (hbytes : (n + m) * bytes ≤ 140737488355328) (hbase : base ≤ w.heap.size)
    (h : ∀ v' w', w'.ownsRow base e size v' (n + m) (xs ++ news) → w.grownBy w' v.ownBlock → K (a.put o.dst v') w') :
    if Region.wanted o (yielded ops a.tmps) = true then Oper.wp P o a w K Q else E := by
  have hw : Region.wanted o (yielded ops a.tmps) = true := by simp [Region.wanted, hgd]
  rw [if_pos hw]
  exact wp_append_own w s x t ho base e i z size bytes ht hi hz hsize hby hzs hsz v n xs hs hown ad m c news hx hl hnews h1 h63 hbytes hbase (fun v' w' h1 h2 _ => h v' w' h1 h2)
theorem nwS_short {ss : List Sn} {rs : List Ru} {zs : List Int} (hp : polB rs = true) (hz : fewB zs = true) (hf : ∀ r ∈ rs, r.size ≤ 1048576) : (nwS ss rs zs).short := by
  have h30 := (pol_all hp).2
  have hl : ∀ k, k ≤ rs.length → (plTo rs k).length ≤ k := fun k => by
    induction k with
    | zero => intro _; simp [plTo]
    | succ k ih =>
      intro hk
      rw [plTo_succ (by omega)]
      have := insU_length (rs[k]'(by omega)) (plTo rs k)
      have := ih (by omega)
      omega
  have h1 := hl _ (Nat.le_refl _)
  have h2 := srN_len zs
  have h3 := fewB_len hz
  refine ⟨?_, ?_, ?_⟩
  · show (plX rs).length ≤ _
    rw [plX_yes hp]
    omega
  · show (srN zs).length ≤ _
    omega
  · intro r hr
    refine hf r ?_
    have hr' : r ∈ plX rs := hr
    rw [plX_yes hp, plTo_mem _ (Nat.le_refl _), List.take_length] at hr'
    exact hr'
theorem nxN_at {ss : List Sn} {n : Nat} (h : ss.length = n + 1) : nxN ss = (ss[n]'(by omega)).num + 1 := by
  unfold nxN
  rw [List.getLast?_eq_getElem?, show ss.length - 1 = n by omega, List.getElem?_eq_getElem (by omega)]
theorem lsB_num {ss : List Sn} (h : lsB ss = true) : ∀ s ∈ ss, 1 ≤ s.num ∧ s.num ≤ 100000 := fun s hs => by
  have := lsB_mem h s hs
  unfold snB at this
  rw [Bool.and_eq_true] at this
  exact of_decide_eq_true this.1
theorem puB_no1 {ss : List Sn} {rs : List Ru} {zs : List Int} (h : lsB ss = false) : puB ss rs zs = false := by unfold puB; rw [h]; rfl
theorem puB_no2 {ss : List Sn} {rs : List Ru} {zs : List Int} (h : polB rs = false) : puB ss rs zs = false := by unfold puB; rw [h]; simp
theorem puB_no3 {ss : List Sn} {rs : List Ru} {zs : List Int} (h : fewB zs = false) : puB ss rs zs = false := by unfold puB; rw [h]; simp
theorem puB_no4 {ss : List Sn} {rs : List Ru} {zs : List Int} (h : snB (nwS ss rs zs) = false) : puB ss rs zs = false := by unfold puB; rw [h]; simp
theorem puB_yes {ss : List Sn} {rs : List Ru} {zs : List Int} (h1 : lsB ss = true) (h2 : polB rs = true) (h3 : fewB zs = true) (h4 : snB (nwS ss rs zs) = true) : puB ss rs zs = true := by unfold puB; rw [h1, h2, h3, h4]; rfl
theorem puX_no {ss : List Sn} {rs : List Ru} {zs : List Int} (h : puB ss rs zs = false) : puX ss rs zs = [] := if_neg (by rw [h]; exact Bool.false_ne_true)
theorem puX_few {ss : List Sn} {rs : List Ru} {zs : List Int} (h : puB ss rs zs = true) (hl : ss.length ≤ 19) : puX ss rs zs = ss ++ [nwS ss rs zs] := by
  unfold puX
  rw [if_pos h, show ss.length + 1 - 20 = 0 by omega, List.drop_zero]
theorem puX_many {ss : List Sn} {rs : List Ru} {zs : List Int} (h : puB ss rs zs = true) (hl : ss.length = 20) : puX ss rs zs = (ss ++ [nwS ss rs zs]).drop 1 := by
  unfold puX
  rw [if_pos h, hl]

theorem SsR.cells {w : World} {v : Value} {ss : List Sn} (h : SsR w v ss) : ∃ xs : List Value, xs.length = ss.length * 3 ∧ (∀ i (hi : i < ss.length), ∃ vp vr, xs[i * 3]? = some (.int .i64 ss[i].num) ∧ xs[i * 3 + 1]? = some vp ∧ xs[i * 3 + 2]? = some vr ∧ RuR w vp ss[i].pol ∧ NuR w vr ss[i].rv) ∧ ∀ a n c, v = .slice a n c → ∀ b, a = some b → ∀ j u, xs[j]? = some u → w.cell? (b.add j) = some u := by
  rcases h with ⟨rfl, rfl⟩ | ⟨b, off, cap, rfl, hb, hl, hc⟩
  · exact ⟨[], rfl, fun i hi => by simp at hi, fun a n c e b hb => by cases e; cases hb⟩
  · have hg : ∀ j, j < ss.length * 3 → ((List.range (ss.length * 3)).map (fun j => (w.cell? ⟨b, off + j, none⟩).getD .nilIface))[j]? = some ((w.cell? ⟨b, off + j, none⟩).getD .nilIface) := fun j hj => by simp [hj]
    refine ⟨(List.range (ss.length * 3)).map (fun j => (w.cell? ⟨b, off + j, none⟩).getD .nilIface), by simp, fun i hi => ?_, fun a n c e b' hb' j u hu => ?_⟩
    · obtain ⟨vp, vr, c0, c1, c2, h1, h2⟩ := hc i hi
      refine ⟨vp, vr, ?_, ?_, ?_, h1, h2⟩
      · rw [hg _ (by omega), c0]; rfl
      · rw [hg _ (by omega), ← Nat.add_assoc, c1]; rfl
      · rw [hg _ (by omega), ← Nat.add_assoc, c2]; rfl
    · cases e
      cases hb'
      have hj : j < ss.length * 3 := by
        have := (List.getElem?_eq_some_iff.1 hu).1
        simpa using this
      rw [hg j hj] at hu
      rw [Addr.add_lit]
      obtain ⟨vp, vr, c0, c1, c2, _, _⟩ := hc (j / 3) (by omega)
      have hs : ∃ x, w.cell? ⟨b, off + j, none⟩ = some x := by
        obtain h3 | h3 | h3 : j = j / 3 * 3 ∨ j = j / 3 * 3 + 1 ∨ j = j / 3 * 3 + 2 := by omega
        · rw [h3]; exact ⟨_, c0⟩
        · rw [h3, ← Nat.add_assoc]; exact ⟨_, c1⟩
        · rw [h3, ← Nat.add_assoc]; exact ⟨_, c2⟩
      obtain ⟨x, hx⟩ := hs
      rw [hx] at hu ⊢
      simpa using hu
theorem SsR.put {w w' : World} {base : Nat} {v' p r : Value} {ss : List Sn} {s : Sn} {xs : List Value} (hl : xs.length = ss.length * 3) (hc : ∀ i (hi : i < ss.length), ∃ vp vr, xs[i * 3]? = some (.int .i64 ss[i].num) ∧ xs[i * 3 + 1]? = some vp ∧ xs[i * 3 + 2]? = some vr ∧ RuR w vp ss[i].pol ∧ NuR w vr ss[i].rv)
    (hp : RuR w p s.pol) (hr : NuR w r s.rv) (hown : w'.ownsRow base 26 3 v' (ss.length + 1) (xs ++ [.int .i64 s.num, p, r])) (hB : Below w.heap.size w w') : SsR w' v' (ss ++ [s]) := by
  rcases row_form hown with ⟨_, h0⟩ | ⟨g, cap, rfl, hg, hcap⟩
  · omega
  · refine .inr ⟨g, 0, cap, by simp, (hown.lt g rfl).2, by simpa using hcap, fun i hi => ?_⟩
    have hi' : i < ss.length + 1 := by simpa using hi
    have c0 := hown.cellAt (i * 3) (by omega)
    have c1 := hown.cellAt (i * 3 + 1) (by omega)
    have c2 := hown.cellAt (i * 3 + 2) (by omega)
    rw [Nat.zero_add]
    by_cases e : i < ss.length
    · obtain ⟨vp, vr, x0, x1, x2, h1, h2⟩ := hc i e
      rw [List.getElem?_append_left (by omega)] at c0 c1 c2
      rw [List.getElem_append_left e]
      exact ⟨vp, vr, c0.trans x0, c1.trans x1, c2.trans x2, h1.below hB, h2.below hB⟩
    · obtain rfl : i = ss.length := by omega
      rw [List.getElem?_append_right (by omega), hl] at c0 c1 c2
      rw [List.getElem_append_right (Nat.le_refl _)]
      simp only [Nat.sub_self, Nat.add_sub_cancel_left] at c0 c1 c2
      simp only [Nat.sub_self, List.getElem_cons_zero]
      exact ⟨p, r, c0, c1, c2, hp.below hB, hr.below hB⟩

end Go.Proofs.YtjnajdilllkpcaaGreat

namespace Go.Proofs.YtjnajdilllkpcaaGreat
open Go.RowKit Go.Shelf

set_option maxHeartbeats 8000000 in
set_option maxRecDepth 100000 in
theorem specPut_any (v vp vz : Value) (ss : List Sn) (rs : List Ru) (zs : List Int) (w : World) (hm : shortS ss) (hmr : rs.length ≤ 1048577) (hf : ∀ r ∈ rs, r.size ≤ 1048576) (hmz : zs.length ≤ 1048577) (hr : SsR w v ss) (hp : RuR w vp rs) (hz : NuR w vz zs) :
    Calls Tryz.prog 50 #[v, vp, vz] w fun e w' => ∃ v', e = .returned (.tuple #[v', .bool (puB ss rs zs)]) ∧ SsT w' w.heap.size w'.heap.size v' (puX ss rs zs) ∧ Below w.heap.size w w' := by
  obtain ⟨a, cap, rfl⟩ := hr.len
  obtain ⟨ap, cp, rfl⟩ := hp.len
  obtain ⟨az, cz, rfl⟩ := hz.len
  have hm1 := hm.1
  go_enter Tryz.func50, Tryz.ntmps50
  go_wp2_with fail
  refine (l5List_any _ ss _ hm hr.a).mono ?_
  rintro e w1 ⟨rfl, hB1⟩
  cases hg : lsB ss
  · have HT := hid (puB_no1 (rs := rs) (zs := zs) hg)
    have HX := hid (puX_no HT.out)
    go_wp2_with fail
    go_ret2
    exact ⟨_, by rw [HT.out]; rfl, by rw [HX.out]; exact .inl (SsO.none _ _ _), hB1⟩
  go_wp2_with fail
  refine (l2Good_any _ rs _ hmr hf (hp.below hB1).s).mono ?_
  rintro e w2 ⟨rfl, hB2⟩
  have hBB := below_one hB1 hB2
  clear hB1 hB2
  cases hg2 : polB rs
  · have HT := hid (puB_no2 (ss := ss) (zs := zs) hg2)
    have HX := hid (puX_no HT.out)
    go_wp2_with fail
    go_ret2
    exact ⟨_, by rw [HT.out]; rfl, by rw [HX.out]; exact .inl (SsO.none _ _ _), hBB⟩
  by_cases h200 : zs.length ≤ 200
  · have d2 : decide ((200 : Int) < (zs.length : Int)) = false := by simp; omega
    go_wp2_with fail
    go_loopw [28] (fun i wr => ∃ n : Nat, n ≤ zs.length ∧ i = .int .i64 n ∧ (∀ j (hj : j < zs.length), j < n → 1 ≤ zs[j] ∧ zs[j] < 100001) ∧ wr = w2) (fun i _ => zs.length - (intOf i).toNat)
    case atStart => exact ⟨0, Nat.zero_le _, rfl, fun _ _ h => absurd h (Nat.not_lt_zero _), rfl⟩
    case round =>
      obtain ⟨n, hn, rfl, ht, rfl⟩ := hrel
      have HT0 := hid ht
      clear ht
      by_cases hlt : n < zs.length
      · obtain ⟨b, off, rfl, hb, hcap, q0⟩ := (hz.below hBB).s.num hlt
        have HN := hid (fun h => puB_no3 (ss := ss) (rs := rs) (fewB_no2 (okN_no (nx := 100001) (zs := zs) hlt h)))
        have HS := hid (show (1 ≤ zs[n] ∧ zs[n] < 100001) → ∀ j (hj : j < zs.length), j < n + 1 → (1 ≤ zs[j] ∧ zs[j] < 100001) from fun h j hj hjn => by
          by_cases e : j = n
          · subst e; exact h
          · exact HT0.out j hj (by omega))
        generalize zs[n] = x at *
        by_cases hx : 1 ≤ x ∧ x < 100001
        · have hin : inB 1 100000 x = true := decide_eq_true (by omega)
          have HR := hid (HS.out hx)
          clear hx
          go_wp2_with (go_at_call 38; refine (l1In_any x 1 100000 _).mono ?_; rintro e w1 ⟨rfl, rfl⟩; rw [hin])
          go_roundw
          case rel => exact ⟨n + 1, by omega, by go_num, HR.out, by trivial⟩
          case measure => simp [intOf]; omega
        · have hin : inB 1 100000 x = false := decide_eq_false (by omega)
          have HT := hid (HN.out hx)
          have HX := hid (puX_no HT.out)
          clear hx
          go_wp2_with (go_at_call 38; refine (l1In_any x 1 100000 _).mono ?_; rintro e w1 ⟨rfl, rfl⟩; rw [hin])
          go_ret2
          exact ⟨_, by rw [HT.out]; rfl, by rw [HX.out]; exact .inl (SsO.none _ _ _), hBB⟩
      · obtain rfl : n = zs.length := by omega
        have hfew : fewB zs = true := fewB_yes h200 (okN_yes fun i hi => HT0.out i hi hi)
        have h30 := (pol_all hg2).2
        have hsh := nwS_short (ss := ss) hg2 hfew hf
        have HNM := hid (lsB_num hg)
        have h20l := (lsB_all hg).1
        have HPY := hid (fun h => puB_yes (zs := zs) hg hg2 hfew h)
        clear HT0 hn hlt
        go_wp2_with fail
        refine (l2Plain_any _ rs _ h30 hf (hp.below hBB).s).mono ?_
        rintro e w3 ⟨v3, rfl, o3, hB3⟩
        rw [← plX_yes hg2] at o3
        obtain ⟨x3, y3, z3, rfl⟩ := row_slice o3
        have hBB3 := below_one hBB hB3
        go_wp2_with fail
        refine (l5Sorted_any _ zs _ (by omega) (hz.s.below hBB3)).mono ?_
        rintro e w4 ⟨v4, rfl, o4, hB4⟩
        obtain ⟨x4, y4, z4, rfl⟩ := row_slice o4
        have hs0 := hBB.size
        have hs3 := hB3.size
        have hBB4 := below_one hBB3 hB4
        have hs4 := hBB4.size
        replace o3 := Go.Joins.ownsRow_le (ownsRow_below o3 hB4) hs0
        replace o4 := Go.Joins.ownsRow_le o4 hBB3.size
        clear hBB hB3 hBB3 hB4 hg hg2 h200 d2 hfew
        rcases Nat.eq_zero_or_pos ss.length with h0 | hpos
        · have HNX := hid (show (1 : Int) = nxN ss by rw [List.eq_nil_of_length_eq_zero h0]; rfl)
          have hBa : Below w4.heap.size w4 (w4.alloc (.cells #[.int .i64 1, .slice x3 y3 z3, .slice x4 y4 z4] 26)) := (Below.refl _ w4).alloc (Nat.le_refl _) _
          have FS := Three.new w4 (.int .i64 1) (.slice x3 y3 z3) (.slice x4 y4 z4) 26
          replace o3 := ownsRow_below o3 hBa
          replace o4 := ownsRow_below o4 hBa
          replace hBB4 := below_one hBB4 hBa
          clear hBa
          obtain ⟨c0, c1, c2⟩ := FS.c
          go_wp2_with fail
          clear c0 c1 c2
          rw [h0] at hr
          clear h0
          generalize w4.alloc (.cells #[.int .i64 1, .slice x3 y3 z3, .slice x4 y4 z4] 26) = W5 at *
          generalize w4.heap.size = k0 at *
          have HNV : (Value.int .i64 1) = .int .i64 (nxN ss) := by rw [← HNX.out]
          rw [HNV] at FS
          rw [HNV]
          clear HNV HNX
          refine (specGoodSnapshot_any _ (nwS ss rs zs) _ hsh ⟨_, _, rfl, (RuR.own o3).s, (NuR.own o4).s⟩).mono ?_
          rintro e w6 ⟨rfl, hB6⟩
          replace FS := FS.below hB6
          replace o3 := ownsRow_below o3 hB6
          replace o4 := ownsRow_below o4 hB6
          replace hBB4 := below_one hBB4 hB6
          clear hB6
          cases hg4 : snB (nwS ss rs zs)
          · have HT := hid (puB_no4 hg4)
            have HX := hid (puX_no HT.out)
            go_wp2_with fail
            go_ret2
            exact ⟨_, by rw [HT.out]; rfl, by rw [HX.out]; exact .inl (SsO.none _ _ _), hBB4⟩
          have HT := hid (HPY.out hg4)
          clear HPY hg4
          obtain ⟨i0, hi, hz0, hz1, hz2⟩ := info_parts infoSnapshot
          have hBd : Below w6.heap.size w6 w6.drew := (Below.refl _ _).drew
          obtain ⟨c0, c1, c2⟩ := FS.c
          go_wp2_with fail
          replace FS := FS.below hBd
          replace o3 := ownsRow_below o3 hBd
          replace o4 := ownsRow_below o4 hBd
          replace hBB4 := below_one hBB4 hBd
          have hrD := hr.below hBB4
          clear hBd
          refine wp_region_held_drew (S := fun w' => w'.cell? ⟨k0, 0, none⟩ = some (.int .i64 (nxN ss)) ∧ w'.cell? ⟨k0, 1, none⟩ = some (.slice x3 y3 z3) ∧ w'.cell? ⟨k0, 2, none⟩ = some (.slice x4 y4 z4)) (by kernel_rfl) ?_ (fun hHeld => ?_)
          · go_keep
          generalize w6.drew = Wd at *
          refine takeW 0 (v := ?v8) rfl (by kernel_rfl) (by kernel_rfl) (by kernel_rfl) (fun _ _ _ h => h) (by rfl) (by assumption) ?hy8 ?rest8
          case hy8 => intro w' hSw; (try dsimp only at hSw); go_simp; try with_reducible rfl
          try simp only [Act.put, List.setIfInBounds_toArray, List.set_cons_zero, List.set_cons_succ]
          refine takeW 2 (v := ?v9) rfl (by kernel_rfl) (by kernel_rfl) (by kernel_rfl) (fun _ _ _ h => h) (by rfl) (by assumption) ?hy9 ?rest9
          case hy9 => intro w' hSw; (try dsimp only at hSw); go_simp; try with_reducible rfl
          try simp only [Act.put, List.setIfInBounds_toArray, List.set_cons_zero, List.set_cons_succ]
          refine takeC2 1 3 (by kernel_rfl) rfl rfl (fun K hK => ?_) (fun K hK => ?_)
          · go_simp
            refine (l5OwnAll_any _ ss _ hm hrD).mono ?_; rintro e w7 ⟨v7, rfl, O7, hB7⟩; have hc7 := fun o => hB7.cell (p := ⟨k0, o, none⟩) (by exact FS.lt)
            refine hK.out _ _ ?_ (fun hHeld => ?_)
            · first | go_keep | exact FS.c
            clear hK K
            try simp only [Act.put, List.setIfInBounds_toArray, List.set_cons_zero, List.set_cons_succ]
            obtain ⟨xs7, vp7, vr7, K7⟩ := O7
            obtain ⟨s7, t7, r7, rfl⟩ := row_slice K7.row
            refine takeC 3 (by kernel_rfl) rfl (fun K hK => ?_)
            go_simp
            skip
            refine hK.out _ _ ?_ (fun hHeld => ?_)
            · first | go_keep | exact FS.c
            clear hK K
            try simp only [Act.put, List.setIfInBounds_toArray, List.set_cons_zero, List.set_cons_succ]
            have hBv : Below w7.heap.size w7 (w7.alloc (.cells #[.int .i64 (nxN ss), .slice x3 y3 z3, .slice x4 y4 z4] 26)) := (Below.refl _ w7).alloc (Nat.le_refl _) _
            have hct := cell_three_w w7 (.int .i64 (nxN ss)) (.slice x3 y3 z3) (.slice x4 y4 z4)
            have hl3 : ∀ j, (Value.slice x3 y3 z3).ownBlock = some j → j < Wd.heap.size := fun j e => (o3.lt j e).2
            have hl4 : ∀ j, (Value.slice x4 y4 z4).ownBlock = some j → j < Wd.heap.size := fun j e => (o4.lt j e).2
            have hkd : k0 < Wd.heap.size := FS.lt
            have FS7 := (FS.below hB7).below hBv
            replace K7 := (K7.below hBv).top hBv.size
            replace o3 := ownsRow_below (ownsRow_below o3 hB7) hBv
            replace o4 := ownsRow_below (ownsRow_below o4 hB7) hBv
            have hb2 : w.heap.size ≤ Wd.heap.size := hBB4.size
            have hB7w := below_one (below_one hBB4 hB7) hBv
            clear hBv hc7 FS hHeld
            generalize w7.alloc (.cells #[.int .i64 (nxN ss), .slice x3 y3 z3, .slice x4 y4 z4] 26) = W7 at *
            generalize w7.heap.size = kt at *
            refine takeC 4 (by kernel_rfl) rfl (fun K hK => ?_)
            refine step_app_own rfl _ _ 65 rfl w.heap.size 26 i0 _ 3 56 Tryz.underlying65 hi hz0 hz1 hz2 rfl (by decide) _ ss.length xs7 rfl (Go.Joins.ownsRow_le K7.row hb2) ⟨kt, 0, none⟩ 1 1 [.int .i64 (nxN ss), .slice x3 y3 z3, .slice x4 y4 z4] rfl rfl hct (by intro u hu; simp at hu; rcases hu with rfl | rfl | rfl <;> rfl) (by unfold maxLen; omega) (by omega) hB7w.size ?_; intro v8 w8 o8 g8; have FS8 : Three w8 _ _ _ _ _ := kept_apart FS7 g8 (fun k e1 e2 => by have := (K7.row.lt k e2).1; simp [Value.ownBlock] at e1; omega)
            refine hK.out _ _ ?_ (fun hHeld => ?_)
            · exact FS8.c
            clear hK K
            try simp only [Act.put, List.setIfInBounds_toArray, List.set_cons_zero, List.set_cons_succ]
            refine takeW 5 (v := ?v10) rfl (by kernel_rfl) (by kernel_rfl) (by kernel_rfl) (fun _ _ _ h => h) (by rfl) (by assumption) ?hy10 ?rest10
            case hy10 => intro w' hSw; (try dsimp only at hSw); go_simp; try with_reducible rfl
            try simp only [Act.put, List.setIfInBounds_toArray, List.set_cons_zero, List.set_cons_succ]
            refine wpAnyH_done (by kernel_rfl) ?_ _
            obtain ⟨xs8, vp8, vr8, K8⟩ := K7.put (s := nwS ss rs zs) hb2 o3 o4 hl3 hl4 o8 g8
            have hB8 := hB7w.grown g8 hB7w.size (fun k e => by have := (K7.row.lt k e).1; omega)
            clear hHeld FS8 FS7 K7 o8 g8
            rcases row_form K8.row with ⟨_, h'⟩ | ⟨g8, c8, rfl, _, hc8⟩
            · exact absurd h' (by omega)
            have hlw : ((ss ++ [nwS ss rs zs]).length : Nat) = ss.length + 1 := by simp
            by_cases h20 : ss.length = 20
            · have HX := hid (puX_many HT.out h20)
              have d20 : decide ((20 : Int) < ((ss.length : Int) + 1)) = true := by simp; omega
              have hb1 : (1 : Int) ≤ (ss.length : Int) + 1 := by omega
              have hb2 : (ss.length : Int) + 1 ≤ (c8 : Int) := by omega
              have hb3 : ¬ (c8 = 1) := by omega
              have hb4 : ((ss.length : Int) + 1).toNat = ss.length + 1 := by omega
              clear h20
              go_wp2_with fail
              go_ret2
              refine ⟨_, by rw [HT.out]; rfl, ?_, hB8⟩
              rw [HX.out]
              exact .inr ⟨g8, ss.length + 1, c8, ss ++ [nwS ss rs zs], ⟨_, _, _, by rw [hlw]; exact K8⟩, by omega, by omega, by rw [hlw]; simp, rfl⟩
            · have HX := hid (puX_few HT.out (by omega))
              have d20 : decide ((20 : Int) < ((ss.length : Int) + 1)) = false := by simp; omega
              clear h20
              go_wp2_with fail
              go_ret2
              refine ⟨_, by rw [HT.out]; rfl, ?_, hB8⟩
              rw [HX.out]
              exact .inl ⟨_, _, _, by rw [hlw]; exact K8⟩
          · go_simp
            skip
            refine hK.out _ _ ?_ (fun hHeld => ?_)
            · first | go_keep | exact FS.c
            clear hK K
            try simp only [Act.put, List.setIfInBounds_toArray, List.set_cons_zero, List.set_cons_succ]
            have hBv : Below Wd.heap.size Wd (Wd.alloc (.cells #[.int .i64 (nxN ss), .slice x3 y3 z3, .slice x4 y4 z4] 26)) := (Below.refl _ Wd).alloc (Nat.le_refl _) _
            have hct := cell_three_w Wd (.int .i64 (nxN ss)) (.slice x3 y3 z3) (.slice x4 y4 z4)
            have hkt : Wd.heap.size < (Wd.alloc (.cells #[.int .i64 (nxN ss), .slice x3 y3 z3, .slice x4 y4 z4] 26)).heap.size := by simp
            replace FS := FS.below hBv
            replace o3 := ownsRow_below o3 hBv
            replace o4 := ownsRow_below o4 hBv
            replace hBB4 := below_one hBB4 hBv
            replace hrD := hrD.below hBv
            clear hBv
            generalize Wd.alloc (.cells #[.int .i64 (nxN ss), .slice x3 y3 z3, .slice x4 y4 z4] 26) = Wa at *
            generalize Wd.heap.size = kt at *
            refine takeC 1 (by kernel_rfl) rfl (fun K hK => ?_)
            go_simp
            refine (l5OwnAll_any _ ss _ hm hrD).mono ?_; rintro e w7 ⟨v7, rfl, O7, hB7⟩; have hc7 := fun o => hB7.cell (p := ⟨k0, o, none⟩) (by exact FS.lt)
            refine hK.out _ _ ?_ (fun hHeld => ?_)
            · first | go_keep | exact FS.c
            clear hK K
            try simp only [Act.put, List.setIfInBounds_toArray, List.set_cons_zero, List.set_cons_succ]
            obtain ⟨xs7, vp7, vr7, K7⟩ := O7
            obtain ⟨s7, t7, r7, rfl⟩ := row_slice K7.row
            have hct7 : ∀ j u, [Value.int .i64 (nxN ss), .slice x3 y3 z3, .slice x4 y4 z4][j]? = some u → w7.cell? ((⟨kt, 0, none⟩ : Addr).add j) = some u := fun j u hu => by have := hct j u hu; rw [Addr.add_lit] at this ⊢; exact (hB7.cell (p := ⟨kt, 0 + j, none⟩) hkt).trans this
            have hl3 : ∀ j, (Value.slice x3 y3 z3).ownBlock = some j → j < Wa.heap.size := fun j e => (o3.lt j e).2
            have hl4 : ∀ j, (Value.slice x4 y4 z4).ownBlock = some j → j < Wa.heap.size := fun j e => (o4.lt j e).2
            have hkd : k0 < Wa.heap.size := FS.lt
            have FS7 := FS.below hB7
            replace o3 := ownsRow_below o3 hB7
            replace o4 := ownsRow_below o4 hB7
            have hb2 : w.heap.size ≤ Wa.heap.size := hBB4.size
            have hB7w := below_one hBB4 hB7
            clear hc7 FS hHeld hct
            refine takeC 4 (by kernel_rfl) rfl (fun K hK => ?_)
            refine step_app_own rfl _ _ 65 rfl w.heap.size 26 i0 _ 3 56 Tryz.underlying65 hi hz0 hz1 hz2 rfl (by decide) _ ss.length xs7 rfl (Go.Joins.ownsRow_le K7.row hb2) ⟨kt, 0, none⟩ 1 1 [.int .i64 (nxN ss), .slice x3 y3 z3, .slice x4 y4 z4] rfl rfl hct7 (by intro u hu; simp at hu; rcases hu with rfl | rfl | rfl <;> rfl) (by unfold maxLen; omega) (by omega) hB7w.size ?_; intro v8 w8 o8 g8; have FS8 : Three w8 _ _ _ _ _ := kept_apart FS7 g8 (fun k e1 e2 => by have := (K7.row.lt k e2).1; simp [Value.ownBlock] at e1; omega)
            refine hK.out _ _ ?_ (fun hHeld => ?_)
            · exact FS8.c
            clear hK K
            try simp only [Act.put, List.setIfInBounds_toArray, List.set_cons_zero, List.set_cons_succ]
            refine takeW 5 (v := ?v11) rfl (by kernel_rfl) (by kernel_rfl) (by kernel_rfl) (fun _ _ _ h => h) (by rfl) (by assumption) ?hy11 ?rest11
            case hy11 => intro w' hSw; (try dsimp only at hSw); go_simp; try with_reducible rfl
            try simp only [Act.put, List.setIfInBounds_toArray, List.set_cons_zero, List.set_cons_succ]
            refine wpAnyH_done (by kernel_rfl) ?_ _
            obtain ⟨xs8, vp8, vr8, K8⟩ := K7.put (s := nwS ss rs zs) hb2 o3 o4 hl3 hl4 o8 g8
            have hB8 := hB7w.grown g8 hB7w.size (fun k e => by have := (K7.row.lt k e).1; omega)
            clear hHeld FS8 FS7 K7 o8 g8
            rcases row_form K8.row with ⟨_, h'⟩ | ⟨g8, c8, rfl, _, hc8⟩
            · exact absurd h' (by omega)
            have hlw : ((ss ++ [nwS ss rs zs]).length : Nat) = ss.length + 1 := by simp
            by_cases h20 : ss.length = 20
            · have HX := hid (puX_many HT.out h20)
              have d20 : decide ((20 : Int) < ((ss.length : Int) + 1)) = true := by simp; omega
              have hb1 : (1 : Int) ≤ (ss.length : Int) + 1 := by omega
              have hb2 : (ss.length : Int) + 1 ≤ (c8 : Int) := by omega
              have hb3 : ¬ (c8 = 1) := by omega
              have hb4 : ((ss.length : Int) + 1).toNat = ss.length + 1 := by omega
              clear h20
              go_wp2_with fail
              go_ret2
              refine ⟨_, by rw [HT.out]; rfl, ?_, hB8⟩
              rw [HX.out]
              exact .inr ⟨g8, ss.length + 1, c8, ss ++ [nwS ss rs zs], ⟨_, _, _, by rw [hlw]; exact K8⟩, by omega, by omega, by rw [hlw]; simp, rfl⟩
            · have HX := hid (puX_few HT.out (by omega))
              have d20 : decide ((20 : Int) < ((ss.length : Int) + 1)) = false := by simp; omega
              clear h20
              go_wp2_with fail
              go_ret2
              refine ⟨_, by rw [HT.out]; rfl, ?_, hB8⟩
              rw [HX.out]
              exact .inl ⟨_, _, _, by rw [hlw]; exact K8⟩
        · obtain ⟨m, hmm⟩ : ∃ m, ss.length = m + 1 := ⟨ss.length - 1, by omega⟩
          have hml : m < ss.length := by omega
          have HNX := hid (show nxN ss = (ss[m]'hml).num + 1 from nxN_at hmm)
          have hne : ¬ ss = [] := fun e => by rw [e] at hml; simp at hml
          obtain ⟨b, off, xp, cp', xr, cr, rfl, hb, hcap, q0, q1, q2, _, _⟩ := hr.at (i := m) hml
          have hnb := HNM.out (ss[m]'hml) (List.getElem_mem _)
          have dz : decide ((0 : Int) < (ss.length : Int)) = true := decide_eq_true (by omega)
          have hw1 : IntKind.i64.wrap ((ss.length : Int) - 1) = (m : Int) := by rw [IntKind.wrap_i64]; omega
          have hl1 : (m : Int) < (ss.length : Int) := by omega
          replace q0 := (hBB4.cell (p := ⟨b, _, none⟩) hb).trans q0
          have hbk : b ≠ w4.heap.size := by omega
          have hkb : w4.heap.size ≠ b := by omega
          clear q1 q2 hmm hpos
          generalize (ss[m]'hml).num = nm at *
          have hw2 : IntKind.i64.wrap (nm + 1) = nm + 1 := by rw [IntKind.wrap_i64]; omega
          have hBa1 : Below w4.heap.size w4 (w4.alloc (.cells #[.int .i64 1, .slice x3 y3 z3, .slice x4 y4 z4] 26)) := (Below.refl _ w4).alloc (Nat.le_refl _) _
          have FS1 := Three.new w4 (.int .i64 1) (.slice x3 y3 z3) (.slice x4 y4 z4) 26
          replace q0 := (hBa1.cell (p := ⟨b, _, none⟩) (Nat.lt_of_lt_of_le hb hs4)).trans q0
          obtain ⟨c0, c1, c2⟩ := FS1.c
          have cf := FS1.f 0
          have hBa : Below w4.heap.size w4 (w4.alloc (.cells #[.int .i64 (nm + 1), .slice x3 y3 z3, .slice x4 y4 z4] 26)) := (Below.refl _ w4).alloc (Nat.le_refl _) _
          have FS := Three.new w4 (.int .i64 (nm + 1)) (.slice x3 y3 z3) (.slice x4 y4 z4) 26
          replace o3 := ownsRow_below o3 hBa
          replace o4 := ownsRow_below o4 hBa
          replace hBB4 := below_one hBB4 hBa
          clear hBa
          obtain ⟨n0, n1, n2⟩ := FS.c
          go_wp2_with fail
          clear c0 c1 c2 cf n0 n1 n2 dz FS1 q0 hne hBa1
          generalize w4.alloc (.cells #[.int .i64 (nm + 1), .slice x3 y3 z3, .slice x4 y4 z4] 26) = W5 at *
          generalize w4.heap.size = k0 at *
          rw [← HNX.out] at FS
          rw [← HNX.out]
          clear HNX hw2
          refine (specGoodSnapshot_any _ (nwS ss rs zs) _ hsh ⟨_, _, rfl, (RuR.own o3).s, (NuR.own o4).s⟩).mono ?_
          rintro e w6 ⟨rfl, hB6⟩
          replace FS := FS.below hB6
          replace o3 := ownsRow_below o3 hB6
          replace o4 := ownsRow_below o4 hB6
          replace hBB4 := below_one hBB4 hB6
          clear hB6
          cases hg4 : snB (nwS ss rs zs)
          · have HT := hid (puB_no4 hg4)
            have HX := hid (puX_no HT.out)
            go_wp2_with fail
            go_ret2
            exact ⟨_, by rw [HT.out]; rfl, by rw [HX.out]; exact .inl (SsO.none _ _ _), hBB4⟩
          have HT := hid (HPY.out hg4)
          clear HPY hg4
          obtain ⟨i0, hi, hz0, hz1, hz2⟩ := info_parts infoSnapshot
          have hBd : Below w6.heap.size w6 w6.drew := (Below.refl _ _).drew
          obtain ⟨c0, c1, c2⟩ := FS.c
          go_wp2_with fail
          replace FS := FS.below hBd
          replace o3 := ownsRow_below o3 hBd
          replace o4 := ownsRow_below o4 hBd
          replace hBB4 := below_one hBB4 hBd
          have hrD := hr.below hBB4
          clear hBd
          refine wp_region_held_drew (S := fun w' => w'.cell? ⟨k0, 0, none⟩ = some (.int .i64 (nxN ss)) ∧ w'.cell? ⟨k0, 1, none⟩ = some (.slice x3 y3 z3) ∧ w'.cell? ⟨k0, 2, none⟩ = some (.slice x4 y4 z4)) (by kernel_rfl) ?_ (fun hHeld => ?_)
          · go_keep
          generalize w6.drew = Wd at *
          refine takeW 0 (v := ?v12) rfl (by kernel_rfl) (by kernel_rfl) (by kernel_rfl) (fun _ _ _ h => h) (by rfl) (by assumption) ?hy12 ?rest12
          case hy12 => intro w' hSw; (try dsimp only at hSw); go_simp; try with_reducible rfl
          try simp only [Act.put, List.setIfInBounds_toArray, List.set_cons_zero, List.set_cons_succ]
          refine takeW 2 (v := ?v13) rfl (by kernel_rfl) (by kernel_rfl) (by kernel_rfl) (fun _ _ _ h => h) (by rfl) (by assumption) ?hy13 ?rest13
          case hy13 => intro w' hSw; (try dsimp only at hSw); go_simp; try with_reducible rfl
          try simp only [Act.put, List.setIfInBounds_toArray, List.set_cons_zero, List.set_cons_succ]
          refine takeC2 1 3 (by kernel_rfl) rfl rfl (fun K hK => ?_) (fun K hK => ?_)
          · go_simp
            refine (l5OwnAll_any _ ss _ hm hrD).mono ?_; rintro e w7 ⟨v7, rfl, O7, hB7⟩; have hc7 := fun o => hB7.cell (p := ⟨k0, o, none⟩) (by exact FS.lt)
            refine hK.out _ _ ?_ (fun hHeld => ?_)
            · first | go_keep | exact FS.c
            clear hK K
            try simp only [Act.put, List.setIfInBounds_toArray, List.set_cons_zero, List.set_cons_succ]
            obtain ⟨xs7, vp7, vr7, K7⟩ := O7
            obtain ⟨s7, t7, r7, rfl⟩ := row_slice K7.row
            refine takeC 3 (by kernel_rfl) rfl (fun K hK => ?_)
            go_simp
            skip
            refine hK.out _ _ ?_ (fun hHeld => ?_)
            · first | go_keep | exact FS.c
            clear hK K
            try simp only [Act.put, List.setIfInBounds_toArray, List.set_cons_zero, List.set_cons_succ]
            have hBv : Below w7.heap.size w7 (w7.alloc (.cells #[.int .i64 (nxN ss), .slice x3 y3 z3, .slice x4 y4 z4] 26)) := (Below.refl _ w7).alloc (Nat.le_refl _) _
            have hct := cell_three_w w7 (.int .i64 (nxN ss)) (.slice x3 y3 z3) (.slice x4 y4 z4)
            have hl3 : ∀ j, (Value.slice x3 y3 z3).ownBlock = some j → j < Wd.heap.size := fun j e => (o3.lt j e).2
            have hl4 : ∀ j, (Value.slice x4 y4 z4).ownBlock = some j → j < Wd.heap.size := fun j e => (o4.lt j e).2
            have hkd : k0 < Wd.heap.size := FS.lt
            have FS7 := (FS.below hB7).below hBv
            replace K7 := (K7.below hBv).top hBv.size
            replace o3 := ownsRow_below (ownsRow_below o3 hB7) hBv
            replace o4 := ownsRow_below (ownsRow_below o4 hB7) hBv
            have hb2 : w.heap.size ≤ Wd.heap.size := hBB4.size
            have hB7w := below_one (below_one hBB4 hB7) hBv
            clear hBv hc7 FS hHeld
            generalize w7.alloc (.cells #[.int .i64 (nxN ss), .slice x3 y3 z3, .slice x4 y4 z4] 26) = W7 at *
            generalize w7.heap.size = kt at *
            refine takeC 4 (by kernel_rfl) rfl (fun K hK => ?_)
            refine step_app_own rfl _ _ 65 rfl w.heap.size 26 i0 _ 3 56 Tryz.underlying65 hi hz0 hz1 hz2 rfl (by decide) _ ss.length xs7 rfl (Go.Joins.ownsRow_le K7.row hb2) ⟨kt, 0, none⟩ 1 1 [.int .i64 (nxN ss), .slice x3 y3 z3, .slice x4 y4 z4] rfl rfl hct (by intro u hu; simp at hu; rcases hu with rfl | rfl | rfl <;> rfl) (by unfold maxLen; omega) (by omega) hB7w.size ?_; intro v8 w8 o8 g8; have FS8 : Three w8 _ _ _ _ _ := kept_apart FS7 g8 (fun k e1 e2 => by have := (K7.row.lt k e2).1; simp [Value.ownBlock] at e1; omega)
            refine hK.out _ _ ?_ (fun hHeld => ?_)
            · exact FS8.c
            clear hK K
            try simp only [Act.put, List.setIfInBounds_toArray, List.set_cons_zero, List.set_cons_succ]
            refine takeW 5 (v := ?v14) rfl (by kernel_rfl) (by kernel_rfl) (by kernel_rfl) (fun _ _ _ h => h) (by rfl) (by assumption) ?hy14 ?rest14
            case hy14 => intro w' hSw; (try dsimp only at hSw); go_simp; try with_reducible rfl
            try simp only [Act.put, List.setIfInBounds_toArray, List.set_cons_zero, List.set_cons_succ]
            refine wpAnyH_done (by kernel_rfl) ?_ _
            obtain ⟨xs8, vp8, vr8, K8⟩ := K7.put (s := nwS ss rs zs) hb2 o3 o4 hl3 hl4 o8 g8
            have hB8 := hB7w.grown g8 hB7w.size (fun k e => by have := (K7.row.lt k e).1; omega)
            clear hHeld FS8 FS7 K7 o8 g8
            rcases row_form K8.row with ⟨_, h'⟩ | ⟨g8, c8, rfl, _, hc8⟩
            · exact absurd h' (by omega)
            have hlw : ((ss ++ [nwS ss rs zs]).length : Nat) = ss.length + 1 := by simp
            by_cases h20 : ss.length = 20
            · have HX := hid (puX_many HT.out h20)
              have d20 : decide ((20 : Int) < ((ss.length : Int) + 1)) = true := by simp; omega
              have hb1 : (1 : Int) ≤ (ss.length : Int) + 1 := by omega
              have hb2 : (ss.length : Int) + 1 ≤ (c8 : Int) := by omega
              have hb3 : ¬ (c8 = 1) := by omega
              have hb4 : ((ss.length : Int) + 1).toNat = ss.length + 1 := by omega
              clear h20
              go_wp2_with fail
              go_ret2
              refine ⟨_, by rw [HT.out]; rfl, ?_, hB8⟩
              rw [HX.out]
              exact .inr ⟨g8, ss.length + 1, c8, ss ++ [nwS ss rs zs], ⟨_, _, _, by rw [hlw]; exact K8⟩, by omega, by omega, by rw [hlw]; simp, rfl⟩
            · have HX := hid (puX_few HT.out (by omega))
              have d20 : decide ((20 : Int) < ((ss.length : Int) + 1)) = false := by simp; omega
              clear h20
              go_wp2_with fail
              go_ret2
              refine ⟨_, by rw [HT.out]; rfl, ?_, hB8⟩
              rw [HX.out]
              exact .inl ⟨_, _, _, by rw [hlw]; exact K8⟩
          · go_simp
            skip
            refine hK.out _ _ ?_ (fun hHeld => ?_)
            · first | go_keep | exact FS.c
            clear hK K
            try simp only [Act.put, List.setIfInBounds_toArray, List.set_cons_zero, List.set_cons_succ]
            have hBv : Below Wd.heap.size Wd (Wd.alloc (.cells #[.int .i64 (nxN ss), .slice x3 y3 z3, .slice x4 y4 z4] 26)) := (Below.refl _ Wd).alloc (Nat.le_refl _) _
            have hct := cell_three_w Wd (.int .i64 (nxN ss)) (.slice x3 y3 z3) (.slice x4 y4 z4)
            have hkt : Wd.heap.size < (Wd.alloc (.cells #[.int .i64 (nxN ss), .slice x3 y3 z3, .slice x4 y4 z4] 26)).heap.size := by simp
            replace FS := FS.below hBv
            replace o3 := ownsRow_below o3 hBv
            replace o4 := ownsRow_below o4 hBv
            replace hBB4 := below_one hBB4 hBv
            replace hrD := hrD.below hBv
            clear hBv
            generalize Wd.alloc (.cells #[.int .i64 (nxN ss), .slice x3 y3 z3, .slice x4 y4 z4] 26) = Wa at *
            generalize Wd.heap.size = kt at *
            refine takeC 1 (by kernel_rfl) rfl (fun K hK => ?_)
            go_simp
            refine (l5OwnAll_any _ ss _ hm hrD).mono ?_; rintro e w7 ⟨v7, rfl, O7, hB7⟩; have hc7 := fun o => hB7.cell (p := ⟨k0, o, none⟩) (by exact FS.lt)
            refine hK.out _ _ ?_ (fun hHeld => ?_)
            · first | go_keep | exact FS.c
            clear hK K
            try simp only [Act.put, List.setIfInBounds_toArray, List.set_cons_zero, List.set_cons_succ]
            obtain ⟨xs7, vp7, vr7, K7⟩ := O7
            obtain ⟨s7, t7, r7, rfl⟩ := row_slice K7.row
            have hct7 : ∀ j u, [Value.int .i64 (nxN ss), .slice x3 y3 z3, .slice x4 y4 z4][j]? = some u → w7.cell? ((⟨kt, 0, none⟩ : Addr).add j) = some u := fun j u hu => by have := hct j u hu; rw [Addr.add_lit] at this ⊢; exact (hB7.cell (p := ⟨kt, 0 + j, none⟩) hkt).trans this
            have hl3 : ∀ j, (Value.slice x3 y3 z3).ownBlock = some j → j < Wa.heap.size := fun j e => (o3.lt j e).2
            have hl4 : ∀ j, (Value.slice x4 y4 z4).ownBlock = some j → j < Wa.heap.size := fun j e => (o4.lt j e).2
            have hkd : k0 < Wa.heap.size := FS.lt
            have FS7 := FS.below hB7
            replace o3 := ownsRow_below o3 hB7
            replace o4 := ownsRow_below o4 hB7
            have hb2 : w.heap.size ≤ Wa.heap.size := hBB4.size
            have hB7w := below_one hBB4 hB7
            clear hc7 FS hHeld hct
            refine takeC 4 (by kernel_rfl) rfl (fun K hK => ?_)
            refine step_app_own rfl _ _ 65 rfl w.heap.size 26 i0 _ 3 56 Tryz.underlying65 hi hz0 hz1 hz2 rfl (by decide) _ ss.length xs7 rfl (Go.Joins.ownsRow_le K7.row hb2) ⟨kt, 0, none⟩ 1 1 [.int .i64 (nxN ss), .slice x3 y3 z3, .slice x4 y4 z4] rfl rfl hct7 (by intro u hu; simp at hu; rcases hu with rfl | rfl | rfl <;> rfl) (by unfold maxLen; omega) (by omega) hB7w.size ?_; intro v8 w8 o8 g8; have FS8 : Three w8 _ _ _ _ _ := kept_apart FS7 g8 (fun k e1 e2 => by have := (K7.row.lt k e2).1; simp [Value.ownBlock] at e1; omega)
            refine hK.out _ _ ?_ (fun hHeld => ?_)
            · exact FS8.c
            clear hK K
            try simp only [Act.put, List.setIfInBounds_toArray, List.set_cons_zero, List.set_cons_succ]
            refine takeW 5 (v := ?v15) rfl (by kernel_rfl) (by kernel_rfl) (by kernel_rfl) (fun _ _ _ h => h) (by rfl) (by assumption) ?hy15 ?rest15
            case hy15 => intro w' hSw; (try dsimp only at hSw); go_simp; try with_reducible rfl
            try simp only [Act.put, List.setIfInBounds_toArray, List.set_cons_zero, List.set_cons_succ]
            refine wpAnyH_done (by kernel_rfl) ?_ _
            obtain ⟨xs8, vp8, vr8, K8⟩ := K7.put (s := nwS ss rs zs) hb2 o3 o4 hl3 hl4 o8 g8
            have hB8 := hB7w.grown g8 hB7w.size (fun k e => by have := (K7.row.lt k e).1; omega)
            clear hHeld FS8 FS7 K7 o8 g8
            rcases row_form K8.row with ⟨_, h'⟩ | ⟨g8, c8, rfl, _, hc8⟩
            · exact absurd h' (by omega)
            have hlw : ((ss ++ [nwS ss rs zs]).length : Nat) = ss.length + 1 := by simp
            by_cases h20 : ss.length = 20
            · have HX := hid (puX_many HT.out h20)
              have d20 : decide ((20 : Int) < ((ss.length : Int) + 1)) = true := by simp; omega
              have hb1 : (1 : Int) ≤ (ss.length : Int) + 1 := by omega
              have hb2 : (ss.length : Int) + 1 ≤ (c8 : Int) := by omega
              have hb3 : ¬ (c8 = 1) := by omega
              have hb4 : ((ss.length : Int) + 1).toNat = ss.length + 1 := by omega
              clear h20
              go_wp2_with fail
              go_ret2
              refine ⟨_, by rw [HT.out]; rfl, ?_, hB8⟩
              rw [HX.out]
              exact .inr ⟨g8, ss.length + 1, c8, ss ++ [nwS ss rs zs], ⟨_, _, _, by rw [hlw]; exact K8⟩, by omega, by omega, by rw [hlw]; simp, rfl⟩
            · have HX := hid (puX_few HT.out (by omega))
              have d20 : decide ((20 : Int) < ((ss.length : Int) + 1)) = false := by simp; omega
              clear h20
              go_wp2_with fail
              go_ret2
              refine ⟨_, by rw [HT.out]; rfl, ?_, hB8⟩
              rw [HX.out]
              exact .inl ⟨_, _, _, by rw [hlw]; exact K8⟩
  · have HT := hid (puB_no3 (ss := ss) (rs := rs) (fewB_no1 h200))
    have HX := hid (puX_no HT.out)
    have d2 : decide ((200 : Int) < (zs.length : Int)) = true := by simp; omega
    go_wp2_with fail
    go_ret2
    exact ⟨_, by rw [HT.out]; rfl, by rw [HX.out]; exact .inl (SsO.none _ _ _), hBB⟩

end Go.Proofs.YtjnajdilllkpcaaGreat
