/-
  Chapter 2, the program's side: PlainPolicy.
-/
import Derived.Deep.RegionHeld3
import Derived.Test.YtnbojbcljfiamaaJNewMesh0
import Derived.WalkKit
import Derived.ProofKit
import Derived.OpenShut
import Derived.Lib.SmallJoins
import Derived.Deep.Slices
import Derived.WalkLawsBesides
import Derived.Shelf.SlGeneric
import Derived.Ground.SlgnProg
import Derived.Shelf.SlicesE.Clone
import Derived.Test.YtnbojbcljfiamaaProg
import Derived.Maps.OwnOps
import Derived.Maps.Views
import Derived.Deep.QuietTactic
import Derived.BigQuiet
import Derived.Deep.RegionWith
import Derived.WalkSmall
import Derived.Lib.SliceRun
namespace Go.Proofs.Ytnbojbcljfiamaa
open Go.RowKit Go.Shelf

def left1 (n : Int) (a : Nat) : Int := if (a : Int) ≤ n then n - a else -1

open Go.Deep Go.ChangeShapes Go.WideShapes Go.Joins in
theorem openStR {H : Type} {enc : TypeId × Value → H} {W : World} {c0 : Value} {d : DataW H × List MemPlace} {fuel : Nat} (hf : DataW.trod enc Try.prog W 0 (fun _ => true) true fuel 24 [c0] = some d) :
    ∃ (a : Option Addr) (n c : Nat) (ss : List ByteArray), c0 = .slice a n c ∧ VS W (.slice a n c) (strs ss) ∧ ss.length = n ∧ n ≤ maxLen ∧ ∀ s ∈ ss, s.size ≤ maxLen := by
  have hs : ∃ a n c, c0 = .slice a n c := by
    rcases open_slice Try.underlying24 hf with ⟨hcs, _⟩ | ⟨x, n, c, m, k, D, Pl, hcs, _⟩
    · simp at hcs; exact ⟨_, _, _, hcs⟩
    · simp at hcs; exact ⟨_, _, _, hcs⟩
  obtain ⟨a, n, c, rfl⟩ := hs
  obtain ⟨ss, h⟩ := openStS (a := a) (n := n) (c := c) (d := d.1) (p := d.2) ⟨fuel, hf⟩
  exact ⟨a, n, c, ss, rfl, h⟩
open Go.Deep Go.ChangeShapes Go.WideShapes Go.Joins in
theorem openInR {H : Type} {enc : TypeId × Value → H} {W : World} {c0 : Value} {d : DataW H × List MemPlace} {fuel : Nat} (hf : DataW.trod enc Try.prog W 0 (fun _ => true) true fuel 23 [c0] = some d) :
    ∃ (a : Option Addr) (n c : Nat) (zs : List Int), c0 = .slice a n c ∧ VS W (.slice a n c) (nums zs) ∧ zs.length = n ∧ n ≤ maxLen := by
  have hs : ∃ a n c, c0 = .slice a n c := by
    rcases open_slice Try.underlying23 hf with ⟨hcs, _⟩ | ⟨x, n, c, m, k, D, Pl, hcs, _⟩
    · simp at hcs; exact ⟨_, _, _, hcs⟩
    · simp at hcs; exact ⟨_, _, _, hcs⟩
  obtain ⟨a, n, c, rfl⟩ := hs
  obtain ⟨zs, h⟩ := openInS (a := a) (n := n) (c := c) (d := d.1) (p := d.2) ⟨fuel, hf⟩
  exact ⟨a, n, c, zs, rfl, h⟩

theorem take_set3 {α : Type} (xs : List α) (k : Nat) (a b c : α) (h : k * 3 + 3 ≤ xs.length) : (((xs.set (k * 3) a).set (k * 3 + 1) b).set (k * 3 + 2) c).take ((k + 1) * 3) = xs.take (k * 3) ++ [a, b, c] := by
  apply List.ext_getElem?
  intro i
  rw [List.getElem?_take]
  by_cases h1 : i < k * 3
  · rw [if_pos (by omega), List.getElem?_append_left (by rw [List.length_take]; omega), List.getElem?_take, if_pos h1]
    rw [List.getElem?_set_ne (by omega), List.getElem?_set_ne (by omega), List.getElem?_set_ne (by omega)]
  · by_cases h2 : i < (k + 1) * 3
    · rw [if_pos h2, List.getElem?_append_right (by rw [List.length_take]; omega)]
      have hl : (xs.take (k * 3)).length = k * 3 := by rw [List.length_take]; omega
      rw [hl]
      obtain h | h | h : i = k * 3 ∨ i = k * 3 + 1 ∨ i = k * 3 + 2 := by omega
      all_goals subst h
      · rw [List.getElem?_set_ne (by omega), List.getElem?_set_ne (by omega), List.getElem?_set_self (by omega)]
        simp
      · rw [List.getElem?_set_ne (by omega), List.getElem?_set_self (by simp; omega)]
        simp
      · rw [List.getElem?_set_self (by simp; omega)]
        simp
    · rw [if_neg h2, List.getElem?_eq_none (by rw [List.length_append, List.length_take]; simp; omega)]

/-- Four cells that are a block of their own. -/
def Four (w : World) (t : TypeId) (k : Nat) (a b c d : Value) : Prop := w.ownsRow k t 4 (.slice (some ⟨k, 0, none⟩) 1 1) 1 [a, b, c, d]
theorem Four.at (w : World) (a b c d : Value) (t : TypeId) {k : Nat} (hk : k = w.heap.size) : Four (w.alloc (.cells #[a, b, c, d] t)) t k a b c d := by
  subst hk
  exact ⟨rfl, .inr ⟨w.heap.size, 1, #[a, b, c, d], rfl, Nat.le_refl _, by show (w.heap.push _)[w.heap.size]? = _; rw [Array.getElem?_push_size], Nat.le_refl _, by unfold maxLen; omega, rfl, rfl⟩⟩
theorem Four.new (w : World) (a b c d : Value) (t : TypeId) : Four (w.alloc (.cells #[a, b, c, d] t)) t w.heap.size a b c d := Four.at w a b c d t rfl
theorem Four.below {w w' : World} {t : TypeId} {k : Nat} {a b c d : Value} (h : Four w t k a b c d) (hB : Below w.heap.size w w') : Four w' t k a b c d := ownsRow_below h hB
theorem Four.c {w : World} {t : TypeId} {k : Nat} {a b c d : Value} (h : Four w t k a b c d) : w.cell? ⟨k, 0, none⟩ = some a ∧ w.cell? ⟨k, 1, none⟩ = some b ∧ w.cell? ⟨k, 2, none⟩ = some c ∧ w.cell? ⟨k, 3, none⟩ = some d :=
  ⟨World.ownsRow.cellAt h 0 (by omega), World.ownsRow.cellAt h 1 (by omega), World.ownsRow.cellAt h 2 (by omega), World.ownsRow.cellAt h 3 (by omega)⟩
theorem Four.f {w : World} {t : TypeId} {k : Nat} {a b c d : Value} (h : Four w t k a b c d) (j : Nat) : w.frozen? ⟨k, j, none⟩ = false := World.ownsRow.frozenAt h j
theorem Four.s0 {w : World} {t : TypeId} {k : Nat} {a b c d : Value} (h : Four w t k a b c d) (x : Value) : Four (w.setCell ⟨k, 0, none⟩ x) t k x b c d := (World.ownsRow.stored h 0 x).1
theorem Four.s1 {w : World} {t : TypeId} {k : Nat} {a b c d : Value} (h : Four w t k a b c d) (x : Value) : Four (w.setCell ⟨k, 1, none⟩ x) t k a x c d := (World.ownsRow.stored h 1 x).1
theorem Four.s2 {w : World} {t : TypeId} {k : Nat} {a b c d : Value} (h : Four w t k a b c d) (x : Value) : Four (w.setCell ⟨k, 2, none⟩ x) t k a b x d := (World.ownsRow.stored h 2 x).1
theorem Four.s3 {w : World} {t : TypeId} {k : Nat} {a b c d : Value} (h : Four w t k a b c d) (x : Value) : Four (w.setCell ⟨k, 3, none⟩ x) t k a b c x := (World.ownsRow.stored h 3 x).1
theorem Four.other {w : World} {t : TypeId} {k : Nat} {a b c d : Value} (h : Four w t k a b c d) {k' : Nat} (hk : k ≠ k') (j : Nat) (x : Value) : Four (w.setCell ⟨k', j, none⟩ x) t k a b c d := ownsRow_setCell_other h (by simpa [Value.ownBlock] using hk) x
theorem Four.lt {w : World} {t : TypeId} {k : Nat} {a b c d : Value} (h : Four w t k a b c d) : k < w.heap.size := (World.ownsRow.lt h k rfl).2

set_option maxHeartbeats 1000000 in
theorem szIntS_any (v : Value) (zs : List Int) (n : Int) (w : World) (h0 : 0 ≤ n) (h1 : n ≤ 1048576) (hm : zs.length ≤ maxLen) (hr : VS w v (nums zs)) :
    Calls Try.prog 64 #[v, .int .i64 n] w fun e w' => e = .returned (.int .i64 (left1 n zs.length)) ∧ Below w.heap.size w w' := by
  obtain ⟨a, cap, rfl⟩ := hr.numLen
  unfold maxLen at hm
  by_cases c0 : n < zs.length
  · have HR := hid (show left1 n zs.length = -1 from if_neg (by omega))
    go_enter Try.func64, Try.ntmps64
    go_wp2
    go_ret
    exact ⟨ret_int HR.out.symm, Below.refl _ _⟩
  · have HR := hid (show left1 n zs.length = n - zs.length from if_pos (by omega))
    have d0 : decide (n - (zs.length : Int) < 0) = false := by simp; omega
    go_enter Try.func64, Try.ntmps64
    go_wp2
    go_ret
    exact ⟨ret_int HR.out.symm, Below.refl _ _⟩

theorem row_slice {w : World} {base : Nat} {e : TypeId} {size n : Nat} {v : Value} {xs : List Value} (h : w.ownsRow base e size v n xs) : ∃ a m c, v = .slice a m c := by
  rcases h.2 with ⟨h, _⟩ | ⟨g, cap, cur, hv, _⟩
  · exact ⟨_, _, _, h⟩
  · exact ⟨_, _, _, hv⟩

theorem row_four {w : World} {base : Nat} {e : TypeId} {size n : Nat} {v : Value} {xs : List Value} (h : w.ownsRow base e size v n xs) {k : Nat} (hk : k < base) (x0 x1 x2 x3 : Value) : ((((w.setCell ⟨k, 0, none⟩ x0).setCell ⟨k, 1, none⟩ x1).setCell ⟨k, 2, none⟩ x2).setCell ⟨k, 3, none⟩ x3).ownsRow base e size v n xs :=
  ownsRow_setCell_below (ownsRow_setCell_below (ownsRow_setCell_below (ownsRow_setCell_below h (a := ⟨k, 0, none⟩) hk x0) (a := ⟨k, 1, none⟩) hk x1) (a := ⟨k, 2, none⟩) hk x2) (a := ⟨k, 3, none⟩) hk x3
theorem below_four {n k : Nat} {w W : World} (h : Below n w W) (hk : n ≤ k) (x0 x1 x2 x3 : Value) : Below n w ((((W.setCell ⟨k, 0, none⟩ x0).setCell ⟨k, 1, none⟩ x1).setCell ⟨k, 2, none⟩ x2).setCell ⟨k, 3, none⟩ x3) :=
  (((h.setCell (p := ⟨k, 0, none⟩) hk x0).setCell (p := ⟨k, 1, none⟩) hk x1).setCell (p := ⟨k, 2, none⟩) hk x2).setCell (p := ⟨k, 3, none⟩) hk x3

def mkN (k n : Nat) : List Int := (List.range n).map (fun i => ((k + i : Nat) : Int))
theorem mkN_len (k n : Nat) : (mkN k n).length = n := by simp [mkN]
theorem mkN_succ (k n : Nat) : mkN k (n + 1) = mkN k n ++ [((k + n : Nat) : Int)] := by
  unfold mkN
  rw [List.range_succ, List.map_append]
  rfl
theorem mkN_at {k n i : Nat} (h : i < (mkN k n).length) : (mkN k n)[i] = ((k + i : Nat) : Int) := by simp [mkN]

set_option maxHeartbeats 1000000 in
theorem markIntS_to (v : Value) (n k base : Nat) (xs : List Value) (w : World) (hn : n ≤ 1048577) (hk : k + n ≤ 8000000) (hrow : w.ownsRow base 3 1 v n xs) :
    Calls Try.prog 50 #[v, .int .i64 k] w fun e w' => e = .returned (.int .i64 ((k + n : Nat) : Int)) ∧ w'.ownsRow base 3 1 v n (nums (mkN k n)) ∧ w.grownBy w' v.ownBlock := by
  rcases row_form hrow with ⟨rfl, rfl⟩ | ⟨g, cap, rfl, hg, hcap⟩
  · go_enter Try.func50, Try.ntmps50
    go_wp2
    refine wp_loop_rounds 1 ?_
    rw [rounds_succ]
    go_wp2
    go_ret
    exact ⟨rfl, World.ownsRow_nil _ _ _ _, grown_self _ _⟩
  · go_enter Try.func50, Try.ntmps50
    go_wp2
    go_loopw [1, 5] (fun kv i wr => ∃ (j c : Nat), j ≤ n ∧ c = k + j ∧ kv = .int .i64 c ∧ i = .int .i64 j ∧ ∃ ys, wr.ownsRow base 3 1 (.slice (some ⟨g, 0, none⟩) n cap) n ys ∧ ys.take j = nums (mkN k j) ∧ w.grownBy wr (some g)) (fun _ i _ => n - (intOf i).toNat)
    case atStart => exact ⟨0, k, Nat.zero_le _, by omega, rfl, rfl, xs, hrow, by simp [mkN], grown_self _ _⟩
    case round =>
      obtain ⟨j, c, hj, hc, rfl, rfl, ys, row0, hx, hg0⟩ := hrel
      have HX := hid hx
      have HC := hid hc
      clear hx hc hrow
      have hc9 : c ≤ 8000000 := by have := HC.out; omega
      by_cases hlt : j < n
      · have hlen : ys.length = n := by have := row0.1; omega
        have s0 := row0.cellAt j (by omega)
        rw [List.getElem?_eq_getElem (by omega)] at s0
        have t0 := row0.frozenAt j
        have P0 := row0.stored j (.int .i64 (c : Int))
        have HM := hid (show nums (mkN k (j + 1)) = nums (mkN k j) ++ [.int .i64 (c : Int)] by rw [mkN_succ, ← HC.out]; simp [nums])
        go_wp2
        go_roundw
        case rel =>
          refine ⟨j + 1, c + 1, by omega, by have := HC.out; omega, by go_num, by go_num, _, P0.1, ?_, grown_two hg0 P0.2⟩
          rw [take_one _ _ _ (by omega), HX.out, HM.out]
        case measure => simp [intOf]; omega
      · obtain rfl : j = n := by omega
        have HF := hid (show ys = nums (mkN k j) by have := HX.out; rw [List.take_of_length_le (by have := row0.1; omega)] at this; exact this)
        go_wp2
        go_ret
        exact ⟨ret_int (by rw [HC.out]), by rw [← HF.out]; exact row0, hg0⟩

set_option maxHeartbeats 1000000 in
theorem heldIntS_to (v : Value) (n k : Nat) (w : World) (hn : n ≤ 1048577) (hk : k + n ≤ 8000000) (hr : VS w v (nums (mkN k n))) :
    Calls Try.prog 57 #[v, .int .i64 k] w fun e w' => e = .returned (.int .i64 ((k + n : Nat) : Int)) ∧ Below w.heap.size w w' := by
  obtain ⟨a, cap, rfl⟩ := hr.numLen
  have hln := mkN_len k n
  rw [hln] at hr ⊢
  clear hln
  go_enter Try.func57, Try.ntmps57
  go_wp2
  go_loopw [1, 5] (fun kv i wr => ∃ (j c : Nat), j ≤ n ∧ c = k + j ∧ kv = .int .i64 c ∧ i = .int .i64 j ∧ Below w.heap.size w wr) (fun _ i _ => n - (intOf i).toNat)
  case atStart => exact ⟨0, k, Nat.zero_le _, by omega, rfl, rfl, Below.refl _ _⟩
  case round =>
    obtain ⟨j, c, hj, hc, rfl, rfl, hB⟩ := hrel
    have HC := hid hc
    clear hc
    have hc9 : c ≤ 8000000 := by have := HC.out; omega
    by_cases hlt : j < n
    · obtain ⟨b, off, rfl, hb, hcap, q0⟩ := (hr.below hB).num (i := j) (by rw [mkN_len]; exact hlt)
      rw [mkN_at, ← HC.out] at q0
      clear hr
      go_wp2
      go_roundw
      case rel => exact ⟨j + 1, c + 1, by omega, by have := HC.out; omega, by go_num, by go_num, hB⟩
      case measure => simp [intOf]; omega
    · obtain rfl : j = n := by omega
      go_wp2
      go_ret
      exact ⟨ret_int (by rw [HC.out]), hB⟩

/-- Only blocks from lo on, below hi, and new ones have turned. -/
structure Mid (lo hi : Nat) (w w' : World) : Prop where
  os : w'.os = w.os
  tape : w'.tape = w.tape
  output : w'.output = w.output
  size : w.heap.size ≤ w'.heap.size
  block : ∀ k, k < w.heap.size → (k < lo ∨ hi ≤ k) → w'.heap[k]? = w.heap[k]?
theorem Mid.trans {lo hi : Nat} {w w1 w2 : World} (h : Mid lo hi w w1) (h2 : Mid lo hi w1 w2) : Mid lo hi w w2 :=
  ⟨h2.os.trans h.os, h2.tape.trans h.tape, h2.output.trans h.output, Nat.le_trans h.size h2.size, fun k hk hn => (h2.block k (Nat.lt_of_lt_of_le hk h.size) hn).trans (h.block k hk hn)⟩
theorem Mid.of_below {lo hi : Nat} {w w1 : World} (h : Below w.heap.size w w1) : Mid lo hi w w1 :=
  ⟨h.os, h.tape, h.output, h.size, fun k hk _ => h.block k hk⟩
theorem Mid.of_grown {lo hi : Nat} {w w1 : World} {r : Option Nat} (h : w.grownBy w1 r) (hr : ∀ k, r = some k → lo ≤ k ∧ k < hi) : Mid lo hi w w1 :=
  ⟨h.os, h.tape, h.output, h.size, fun k hk hn => h.block k hk (fun e => by have := hr k e.symm; omega)⟩
theorem Mid.below {lo hi n : Nat} {w w1 : World} (h : Mid lo hi w w1) (hn : n ≤ lo) (hs : n ≤ w.heap.size) : Below n w w1 :=
  ⟨h.os, h.tape, h.output, h.size, fun k hk => h.block k (by omega) (.inl (by omega))⟩
theorem Mid.row {lo hi : Nat} {w w1 : World} (h : Mid lo hi w w1) {base : Nat} {e : TypeId} {size n : Nat} {v : Value} {xs : List Value} (hr : w.ownsRow base e size v n xs) (ho : ∀ k, v.ownBlock = some k → k < lo ∨ hi ≤ k) : w1.ownsRow base e size v n xs := by
  refine ⟨hr.1, ?_⟩
  rcases hr.2 with hv | ⟨g, cap, cur, rfl, hg, hb, h4⟩
  · exact .inl hv
  · exact .inr ⟨g, cap, cur, rfl, hg, (h.block g (Array.getElem?_eq_some_iff.1 hb).1 (ho g rfl)).trans hb, h4⟩

theorem Mid.four {lo hi : Nat} {w w1 : World} (h : Mid lo hi w w1) {t : TypeId} {k : Nat} {a b c d : Value} (hr : Four w t k a b c d) (ho : k < lo ∨ hi ≤ k) : Four w1 t k a b c d :=
  h.row hr (fun j hj => by simp [Value.ownBlock] at hj; omega)

theorem Mid.app {lo hi : Nat} {w w1 w2 : World} {r : Option Nat} (h : Mid lo hi w w1) (hg : w1.grownBy w2 r) (hr : ∀ k, r = some k → w.heap.size ≤ k) : Mid lo hi w w2 :=
  ⟨hg.os.trans h.os, hg.tape.trans h.tape, hg.output.trans h.output, Nat.le_trans h.size hg.size, fun k hk hn => (hg.block k (Nat.lt_of_lt_of_le hk h.size) (fun e => by have := hr k e.symm; omega)).trans (h.block k hk hn)⟩
theorem Mid.set {lo hi : Nat} {w w1 : World} (h : Mid lo hi w w1) {p : Addr} (hp : lo ≤ p.block) (hp2 : p.block < hi) (u : Value) : Mid lo hi w (w1.setCell p u) :=
  ⟨h.os, h.tape, h.output, by rw [World.size_setCell]; exact h.size, fun k hk hn => (Below.heap_setCell w1 p u k (by omega)).trans (h.block k hk hn)⟩
theorem row_kind {w : World} {B : Nat} {e : TypeId} {size : Nat} {v : Value} {n : Nat} {xs : List Value} (h : w.ownsRow B e size v n xs) : ∀ g, v.ownBlock = some g → ∃ c, w.heap[g]? = some (.cells c e (0, 0)) := by
  intro g hg
  rcases h.2 with ⟨rfl, _⟩ | ⟨g', cap, cur, rfl, _, hgg, _⟩
  · simp [Value.ownBlock] at hg
  · simp [Value.ownBlock] at hg
    subst hg
    exact ⟨cur, hgg⟩
/-- Rows of different kinds lie apart. -/
theorem row_apart {w : World} {b1 b2 : Nat} {e1 e2 : TypeId} {s1 s2 n1 n2 : Nat} {v1 v2 : Value} {x1 x2 : List Value} (h1 : w.ownsRow b1 e1 s1 v1 n1 x1) (h2 : w.ownsRow b2 e2 s2 v2 n2 x2) (hne : e1 ≠ e2) : ∀ k, v1.ownBlock = some k → v2.ownBlock = some k → False := fun k hk1 hk2 => by
  obtain ⟨c1, g1⟩ := row_kind h1 k hk1
  obtain ⟨c2, g2⟩ := row_kind h2 k hk2
  rw [g1] at g2
  injection g2 with g2
  injection g2 with _ g2 _
  exact hne g2

end Go.Proofs.Ytnbojbcljfiamaa

namespace Go.Proofs.Ytnbojbcljfiamaa
open Go.RowKit Go.Shelf

abbrev Wk.val (k : Wk) : Value := .agg #[.string k.name, .bool k.live, .int .i64 k.se]
def Wk.fits (k : Wk) : Prop := k.name.size ≤ maxLen
/-- A work lies in memory. -/
def WkAt (w : World) (b o : Nat) (k : Wk) : Prop := w.cell? ⟨b, o, none⟩ = some (.string k.name) ∧ w.cell? ⟨b, o + 1, none⟩ = some (.bool k.live) ∧ w.cell? ⟨b, o + 2, none⟩ = some (.int .i64 k.se)
/-- A slice reads as this list of works. -/
def WkS (w : World) (v : Value) (ks : List Wk) : Prop :=
  (∃ a cap, v = .slice a 0 cap ∧ ks = []) ∨
  ∃ b off cap, v = .slice (some ⟨b, off, none⟩) ks.length cap ∧ b < w.heap.size ∧ ks.length ≤ cap ∧ ∀ i (h : i < ks.length), WkAt w b (off + i * 3) ks[i]
theorem WkAt.below {w w' : World} {b o : Nat} {k : Wk} (h : WkAt w b o k) (hb : b < w.heap.size) (hB : Below w.heap.size w w') : WkAt w' b o k :=
  ⟨(hB.cell (p := ⟨b, o, none⟩) hb).trans h.1, (hB.cell (p := ⟨b, o + 1, none⟩) hb).trans h.2.1, (hB.cell (p := ⟨b, o + 2, none⟩) hb).trans h.2.2⟩
theorem WkS.below {w w' : World} {v : Value} {ks : List Wk} (h : WkS w v ks) (hB : Below w.heap.size w w') : WkS w' v ks := by
  rcases h with h | ⟨b, off, cap, hv, hb, hl, hc⟩
  · exact .inl h
  · exact .inr ⟨b, off, cap, hv, Nat.lt_of_lt_of_le hb hB.size, hl, fun k hk => (hc k hk).below hb hB⟩
theorem WkS.len {w : World} {v : Value} {ks : List Wk} (h : WkS w v ks) : ∃ a cap, v = .slice a ks.length cap := by
  rcases h with ⟨a, cap, hv, rfl⟩ | ⟨b, off, cap, hv, _⟩
  · exact ⟨a, cap, hv⟩
  · exact ⟨_, cap, hv⟩
theorem WkS.at {w : World} {a : Option Addr} {n cap : Nat} {ks : List Wk} (h : WkS w (.slice a n cap) ks) {i : Nat} (hi : i < ks.length) : ∃ b off, a = some ⟨b, off, none⟩ ∧ b < w.heap.size ∧ n ≤ cap ∧ WkAt w b (off + i * 3) ks[i] := by
  rcases h with ⟨_, _, _, rfl⟩ | ⟨b, off, cap, hv, hb, hl, hc⟩
  · simp at hi
  · cases hv
    exact ⟨b, off, rfl, hb, hl, hc i hi⟩

set_option maxRecDepth 100000 in
theorem cellsWork : Try.prog.cellsOf 140 = 3 := by kernel_rfl
set_option maxRecDepth 100000 in
open Go.Deep Go.ChangeShapes Go.WideShapes Go.Joins in
/-- A list of works that comes in. -/
theorem openWkR {H : Type} {enc : TypeId × Value → H} {W : World} {c0 : Value} {d : DataW H × List MemPlace} {fuel : Nat} (hf : DataW.trod enc Try.prog W 0 (fun _ => true) true fuel 36 [c0] = some d) :
    ∃ (a : Option Addr) (n c : Nat) (ks : List Wk), c0 = .slice a n c ∧ WkS W (.slice a n c) ks ∧ ks.length = n ∧ n ≤ maxLen ∧ ∀ k ∈ ks, k.fits := by
  rcases open_slice Try.underlying36 hf with ⟨hcs, _⟩ | ⟨x, n, c, m, k, D, Pl, hcs, _, hl, hm, hmm, _, hx⟩
  · simp at hcs
    subst hcs
    exact ⟨_, _, _, [], rfl, .inl ⟨_, _, rfl, rfl⟩, rfl, Nat.zero_le _, fun r hr => by cases hr⟩
  · simp at hcs
    subst hcs
    have hlm : n ≤ m := by rw [hmm]; simpa using hl
    have each : ∀ i, i < n → ∃ r : Wk, (W.cell? (x.add (i * 3)) = some (.string r.name) ∧ W.cell? (x.add (i * 3 + 1)) = some (.bool r.live) ∧ W.cell? (x.add (i * 3 + 2)) = some (.int .i64 r.se)) ∧ r.fits := by
      intro i hi
      obtain ⟨cs', h1, h2⟩ := hx i (by omega)
      rw [cellsWork] at h1
      obtain ⟨_, hlen, hcell⟩ := World.cells?_some h1
      obtain ⟨xs, m', _, _, _, hxl, hfl⟩ := DataW.trod_struct Try.underlying140 h2
      match cs', hlen, xs, hxl with
      | [v0, v1, v2], _, [y0, y1, y2], _ =>
        have g0 := hfl 0 _ rfl
        have g1 := hfl 1 _ rfl
        have g2 := hfl 2 _ rfl
        have e0 := hcell 0 (by omega)
        have e1 := hcell 1 (by omega)
        have e2 := hcell 2 (by omega)
        rw [add_add] at e0 e1 e2
        have c1 : Try.prog.cellsOf 3 = 1 := by kernel_rfl
        have c2 : Try.prog.cellsOf 9 = 1 := by kernel_rfl
        have c3 : Try.prog.cellsOf 4 = 1 := by kernel_rfl
        simp [c1, c2, c3] at g0 g1 g2
        obtain ⟨x0, f0, _, w0⟩ := DataW.trod_string Try.underlying9 g0
        obtain ⟨x1, f1, _⟩ := DataW.trod_bool Try.underlying4 g1
        obtain ⟨x2, f2, _, _⟩ := DataW.trod_int Try.underlying3 g2
        simp at f0 f1 f2
        subst f0 f1 f2
        exact ⟨⟨x0, x1, x2⟩, ⟨by simpa using e0, by simpa using e1, by simpa using e2⟩, w0⟩
    have hin : Inhabited Wk := ⟨⟨ByteArray.empty, false, 0⟩⟩
    obtain ⟨q, hq⟩ := choose_lt each
    by_cases h0 : n = 0
    · subst h0
      exact ⟨_, _, _, [], rfl, .inl ⟨_, _, rfl, rfl⟩, rfl, Nat.zero_le _, fun r hr => by cases hr⟩
    · obtain ⟨b, off, spot⟩ := x
      have hs : spot = none := by simpa [Addr.add] using World.cell?_spot (hq 0 (by omega)).1.1
      subst hs
      have hlt : b < W.heap.size := by
        have := (hq 0 (by omega)).1.1
        rw [Addr.add_lit] at this
        by_cases hb : b < W.heap.size
        · exact hb
        · simp only [World.cell?] at this
          rw [Array.getElem?_eq_none (by omega)] at this
          cases this
      refine ⟨_, _, _, (List.range n).map q, rfl, .inr ⟨b, off, c, by simp, hlt, by simpa using hl, fun k hk => ?_⟩, by simp, by omega, ?_⟩
      · have hk' : k < n := by simpa using hk
        have := (hq k hk').1
        simp only [Addr.add_lit, ← Nat.add_assoc] at this
        simpa [WkAt] using this
      · intro r hr
        obtain ⟨i, hi, rfl⟩ := List.mem_map.1 hr
        exact (hq i (List.mem_range.1 hi)).2

/-- An issuer in memory: its lists read as these. -/
structure IsA (w : World) (v : Value) (s : Is) : Prop where
  mk ::
  parts : ∃ vw vr vs, v = .agg #[vw, .int .i64 s.nx, vr, vs] ∧ WkS w vw s.ws ∧ VS w vr (nums s.rv) ∧ VS w vs (strs s.sg)
theorem IsA.below {w w' : World} {v : Value} {s : Is} (h : IsA w v s) (hB : Below w.heap.size w w') : IsA w' v s := by
  obtain ⟨vw, vr, vs, rfl, h1, h2, h3⟩ := h.parts
  exact ⟨_, _, _, rfl, h1.below hB, h2.below hB, h3.below hB⟩
def Is.fits (s : Is) : Prop := s.ws.length ≤ maxLen ∧ (∀ k ∈ s.ws, k.fits) ∧ s.rv.length ≤ maxLen ∧ s.sg.length ≤ maxLen ∧ ∀ x ∈ s.sg, x.size ≤ maxLen

set_option maxRecDepth 100000 in
theorem cellsIssuer : Try.prog.cellsOf 38 = 4 := by kernel_rfl
set_option maxRecDepth 100000 in
open Go.Deep Go.ChangeShapes Go.WideShapes Go.ChangeAt Go.Joins in
/-- An issuer that comes in. -/
theorem openIs {H : Type} {enc : TypeId × Value → H} {W : World} {base : Nat} {v : Value} {d : DataW H} {p : List MemPlace} (hv : Value.okWide Try.prog W .any base 38 v) (h : DataW.Trod enc Try.prog W 0 (fun _ => true) true 38 v d p) :
    ∃ s : Is, IsA W v s ∧ s.fits := by
  obtain ⟨c0, c1, c2, c3, y0, y1, y2, y3, m, rfl, _, _, h0, h1, h2, h3⟩ := open_agg4 Try.underlying38 (by kernel_rfl) cellsIssuer hv h
  obtain ⟨a0, n0, k0, ws, rfl, r0, rfl, l0, f0⟩ := openWkR h0
  obtain ⟨x1, e1, _, _⟩ := DataW.trod_int Try.underlying3 h1
  obtain ⟨a2, n2, k2, rv, rfl, r2, rfl, l2⟩ := openInR h2
  obtain ⟨a3, n3, k3, sg, rfl, r3, rfl, l3, f3⟩ := openStR h3
  simp only [List.cons.injEq, and_true] at e1
  subst e1
  exact ⟨⟨ws, x1, rv, sg⟩, ⟨_, _, _, rfl, r0, r2, r3⟩, l0, f0, l2, l3, f3⟩

def wzTo (ks : List Wk) (n : Nat) : Nat := ((ks.take n).map (fun k => k.name.size)).sum
def wzAll (ks : List Wk) : Nat := ks.length + wzTo ks ks.length
theorem wzTo_zero (ks : List Wk) : wzTo ks 0 = 0 := by simp [wzTo]
theorem wzTo_succ {ks : List Wk} {n : Nat} (h : n < ks.length) : wzTo ks (n + 1) = wzTo ks n + ks[n].name.size := by
  unfold wzTo
  rw [List.take_succ_eq_append_getElem h, List.map_append, List.sum_append]
  simp
theorem wzTo_le (ks : List Wk) (n : Nat) : wzTo ks n ≤ wzTo ks ks.length := by
  unfold wzTo
  rw [List.take_length]
  conv => rhs; rw [← List.take_append_drop n ks, List.map_append, List.sum_append]
  omega
theorem wz_mem {ks : List Wk} {k : Wk} (h : k ∈ ks) : k.name.size ≤ wzTo ks ks.length := by
  unfold wzTo
  rw [List.take_length]
  exact sum_mem (List.mem_map.2 ⟨k, h, rfl⟩)
def leftW (n : Int) (ks : List Wk) : Int := if (wzAll ks : Int) ≤ n then n - wzAll ks else -1
/-- What the laws count of an issuer. -/
def Is.size (s : Is) : Nat := wzAll s.ws + s.rv.length + tzAll s.sg
def leftI (n : Int) (s : Is) : Int := if (s.size : Int) ≤ n then n - s.size else -1

set_option maxHeartbeats 1000000 in
theorem szWork_any (k : Wk) (n : Int) (w : World) (h0 : 0 ≤ n) (h1 : n ≤ 1048576) (ha : k.name.size ≤ maxLen) :
    Calls Try.prog 81 #[k.val, .int .i64 n] w fun e w' => e = .returned (.int .i64 (left1 n k.name.size)) ∧ Below w.heap.size w w' := by
  unfold maxLen at ha
  by_cases c1 : n < k.name.size
  · have HR := hid (show left1 n k.name.size = -1 from if_neg (by omega))
    go_enter Try.func81, Try.ntmps81
    go_wp2
    go_ret
    exact ⟨ret_int HR.out.symm, (Below.refl _ w).alloc (Nat.le_refl _) _⟩
  · have HR := hid (show left1 n k.name.size = n - k.name.size from if_pos (by omega))
    go_enter Try.func81, Try.ntmps81
    go_wp2
    go_ret
    exact ⟨ret_int HR.out.symm, (Below.refl _ w).alloc (Nat.le_refl _) _⟩

set_option maxHeartbeats 1000000 in
theorem szWorkS_any (v : Value) (rs : List Wk) (n : Int) (w : World) (h0 : 0 ≤ n) (h1 : n ≤ 1048576) (hm : rs.length ≤ maxLen) (hf : ∀ r ∈ rs, r.fits) (hr : WkS w v rs) :
    Calls Try.prog 63 #[v, .int .i64 n] w fun e w' => e = .returned (.int .i64 (leftW n rs)) ∧ Below w.heap.size w w' := by
  obtain ⟨a, cap, rfl⟩ := hr.len
  unfold maxLen at hm
  by_cases c0 : n < rs.length
  · have HR := hid (show leftW n rs = -1 from if_neg (by unfold wzAll; omega))
    go_enter Try.func63, Try.ntmps63
    go_wp2
    go_ret
    exact ⟨ret_int HR.out.symm, Below.refl _ _⟩
  · have d0 : decide (n - (rs.length : Int) < 0) = false := by simp; omega
    go_enter Try.func63, Try.ntmps63
    go_wp2
    go_loopw [1, 5] (fun m i wr => ∃ k : Nat, k ≤ rs.length ∧ i = .int .i64 k ∧ m = .int .i64 (n - rs.length - wzTo rs k) ∧ 0 ≤ n - rs.length - wzTo rs k ∧ Below w.heap.size w wr) (fun _ i _ => rs.length - (intOf i).toNat)
    case atStart => exact ⟨0, Nat.zero_le _, rfl, by rw [wzTo_zero]; go_num, by rw [wzTo_zero]; omega, Below.refl _ _⟩
    case round =>
      obtain ⟨k, hk, rfl, rfl, hp, hB⟩ := hrel
      by_cases hlt : k < rs.length
      · obtain ⟨b, off, rfl, hb, hcap, q0, q1, q2⟩ := (hr.below hB).at hlt
        have f1 := hf rs[k] (List.getElem_mem hlt)
        have HS := hid (wzTo_succ hlt)
        have HT := hid (wzTo_le rs (k + 1))
        generalize rs[k] = r at *
        go_wp2_with fail
        refine (szWork_any r _ _ hp (by omega) f1).mono ?_
        rintro e w1 ⟨rfl, hB1⟩
        have hB2 := below_one hB hB1
        by_cases c1 : (r.name.size : Int) ≤ n - rs.length - wzTo rs k
        · have hv : left1 (n - rs.length - wzTo rs k) r.name.size = n - rs.length - wzTo rs (k + 1) := by
            rw [HS.out]
            unfold left1
            rw [if_pos (by omega)]
            omega
          have hq : 0 ≤ n - rs.length - wzTo rs (k + 1) := by rw [HS.out]; omega
          rw [hv]
          have d1 : decide (n - (rs.length : Int) - (wzTo rs (k + 1) : Int) < 0) = false := by simp; omega
          clear hv hB1 q0 q1 q2
          go_wp2_with fail
          go_roundw
          case rel => exact ⟨k + 1, by omega, by go_num, rfl, hq, hB2⟩
          case measure => simp [intOf]; omega
        · have hv : left1 (n - rs.length - wzTo rs k) r.name.size = -1 := if_neg (by omega)
          have HR := hid (show leftW n rs = -1 from if_neg (by have := HT.out; rw [HS.out] at this; unfold wzAll; omega))
          rw [hv]
          clear hv hB1 q0 q1 q2
          go_wp2_with fail
          go_ret
          exact ⟨ret_int HR.out.symm, hB2⟩
      · obtain rfl : k = rs.length := by omega
        have HR := hid (show leftW n rs = n - rs.length - wzTo rs rs.length by unfold leftW wzAll; rw [if_pos (by omega)]; omega)
        go_wp2
        go_ret
        exact ⟨ret_int HR.out.symm, hB⟩

abbrev Wk.cells (k : Wk) : List Value := [.string k.name, .bool k.live, .int .i64 k.se]
theorem wflat_len (ks : List Wk) : (ks.flatMap Wk.cells).length = ks.length * 3 := by
  induction ks with
  | nil => rfl
  | cons r rs ih => rw [List.flatMap_cons, List.length_append, ih]; simp; omega
theorem wflat_at (rs : List Wk) : ∀ (k j : Nat) (h : k < rs.length), j < 3 → (rs.flatMap Wk.cells)[k * 3 + j]? = rs[k].cells[j]? := by
  induction rs with
  | nil => intro k j h; simp at h
  | cons r rs ih =>
    intro k j h hj
    rw [List.flatMap_cons]
    cases k with
    | zero => rw [List.getElem?_append_left (by simp; omega)]; simp
    | succ k =>
      rw [List.getElem?_append_right (by simp; omega)]
      have := ih k j (by simpa using h) hj
      rw [show (k + 1) * 3 + j - r.cells.length = k * 3 + j by simp; omega]
      simpa using this
/-- A slice of works of one's own reads as its list. -/
theorem WkS.own {w : World} {base : Nat} {v : Value} {rs : List Wk} (h : w.ownsRow base 129 3 v rs.length (rs.flatMap Wk.cells)) : WkS w v rs := by
  rcases h.2 with ⟨rfl, h0⟩ | ⟨g, cap, cur, rfl, hg, hb, hle, _⟩
  · exact .inl ⟨none, 0, rfl, List.eq_nil_of_length_eq_zero h0⟩
  · refine .inr ⟨g, 0, cap, rfl, (Array.getElem?_eq_some_iff.1 hb).1, hle, fun k hk => ?_⟩
    have hc : ∀ j, j < 3 → w.cell? ⟨g, k * 3 + j, none⟩ = rs[k].cells[j]? := fun j hj => by rw [h.cellAt (k * 3 + j) (by omega), wflat_at rs k j hk hj]
    have h0 := hc 0 (by omega)
    have h1 := hc 1 (by omega)
    have h2 := hc 2 (by omega)
    simp only [Nat.add_zero, List.getElem?_cons_zero, List.getElem?_cons_succ] at h0 h1 h2
    exact ⟨by rw [Nat.zero_add]; exact h0, by rw [Nat.zero_add]; exact h1, by rw [Nat.zero_add]; exact h2⟩
theorem infoWork : (Try.prog.info? 129).map (fun i => (i.zero, i.size, i.bytes)) = some (some (.agg #[.string ByteArray.empty, .bool false, .int .i64 0]), 3, 32) := by kernel_rfl

set_option maxHeartbeats 1000000 in
theorem toWork_any (k : Wk) (w : World) :
    Calls Try.prog 87 #[k.val] w fun e w' => e = .returned k.val ∧ Below w.heap.size w w' := by
  go_enter Try.func87, Try.ntmps87
  go_wp2
  exact bodyPost_ret (v := k.val) (by simp [results, Try.results87, go_sem]) rfl ⟨rfl, (((Below.refl _ w).alloc (Nat.le_refl _) _).alloc (by simp) _).alloc (by simp; omega) _⟩

set_option maxHeartbeats 2000000 in
theorem toWorkS_any (v : Value) (rs : List Wk) (w : World) (hm : rs.length ≤ 1048576) (hr : WkS w v rs) :
    Calls Try.prog 69 #[v] w fun e w' => ∃ v', e = .returned v' ∧ w'.ownsRow w.heap.size 129 3 v' rs.length (rs.flatMap Wk.cells) ∧ Below w.heap.size w w' := by
  obtain ⟨a, cap, rfl⟩ := hr.len
  obtain ⟨i0, hi, hz0, hz1, hz2⟩ := info_parts infoWork
  go_enter Try.func69, Try.ntmps69
  go_wp2_with (at_make; refine wpList_make_full _ rfl _ _ 22 rfl w.heap.size 129 i0 _ 3 Try.underlying22 hi hz0 hz1 _ _ _ _ rs.length rfl rfl rfl rfl (by rw [hz2]; omega) (by unfold maxLen; omega) (Nat.le_refl _) ?_; intro w1 hown hgrow)
  have hB1 : Below w.heap.size w w1 := (Below.refl _ w).grown hgrow (Nat.le_refl _) (fun k e => by cases e)
  go_loopw [4] (fun i wr => ∃ k : Nat, k ≤ rs.length ∧ i = .int .i64 k ∧ ∃ xs, wr.ownsRow w.heap.size 129 3 (.slice (some ⟨w.heap.size, 0, none⟩) rs.length rs.length) rs.length xs ∧ xs.take (k * 3) = (rs.take k).flatMap Wk.cells ∧ Below w.heap.size w wr) (fun i _ => rs.length - (intOf i).toNat)
  case atStart => exact ⟨0, Nat.zero_le _, rfl, _, hown, by simp, hB1⟩
  case round =>
    obtain ⟨k, hk, rfl, xs, hrow, hx, hB⟩ := hrel
    have HX := hid hx
    clear hx
    by_cases hlt : k < rs.length
    · obtain ⟨b, off, rfl, hb, hcap, q0, q1, q2⟩ := (hr.below hB).at hlt
      have HT := hid (List.take_succ_eq_append_getElem hlt)
      generalize rs[k] = r at *
      go_wp2_with fail
      refine (toWork_any r _).mono ?_
      rintro e w2 ⟨rfl, hB2⟩
      have hrow2 := ownsRow_below hrow hB2
      have hB3 := below_one hB hB2
      have hlen : xs.length = rs.length * 3 := hrow2.1
      have s0 := hrow2.cellAt (k * 3) (by omega)
      have s1 := hrow2.cellAt (k * 3 + 1) (by omega)
      have s2 := hrow2.cellAt (k * 3 + 2) (by omega)
      rw [List.getElem?_eq_getElem (by omega)] at s0 s1 s2
      have t0 := hrow2.frozenAt (k * 3)
      have t1 := hrow2.frozenAt (k * 3 + 1)
      have t2 := hrow2.frozenAt (k * 3 + 2)
      generalize xs[k * 3] = y0 at *
      generalize xs[k * 3 + 1] = y1 at *
      generalize xs[k * 3 + 2] = y2 at *
      clear q0 q1 q2 hB2
      go_wp2_with fail
      go_roundw
      case rel =>
        refine ⟨k + 1, by omega, by go_num, _, ((hrow2.stored (k * 3) (.string r.name)).1.stored (k * 3 + 1) (.bool r.live)).1.stored (k * 3 + 2) (.int .i64 r.se) |>.1, ?_, ((hB3.setCell (p := ⟨w.heap.size, _, none⟩) (Nat.le_refl _) _).setCell (p := ⟨w.heap.size, _, none⟩) (Nat.le_refl _) _).setCell (p := ⟨w.heap.size, _, none⟩) (Nat.le_refl _) _⟩
        rw [take_set3 _ _ _ _ _ (by omega), HX.out, HT.out, List.flatMap_append]
        simp
      case measure => simp [intOf]; omega
    · obtain rfl : k = rs.length := by omega
      have HF := hid (show xs = rs.flatMap Wk.cells by have := HX.out; rw [List.take_of_length_le (by have := hrow.1; omega), List.take_length] at this; exact this)
      go_wp2
      go_ret
      exact ⟨_, rfl, by rw [← HF.out]; exact hrow, hB⟩

end Go.Proofs.Ytnbojbcljfiamaa

namespace Go.Proofs.Ytnbojbcljfiamaa
open Go.RowKit Go.Shelf

theorem at_drop {ops : Array Oper} {i : Nat} {o : Oper} (h : (ops.toList.drop i).head? = some o) : ops[i]? = some o := by
  rw [List.head?_drop] at h
  simpa using h
theorem takeW {P : Program} {ops : Array Oper} {Q : Exit → Act → World → Prop} {md : Region.Mode} {S : World → Prop} (i : Nat) {oi : Oper} {v : Value} {fuel : Nat} {listed : Array Bool} {a : Act} {w : World} (hi : (ops.toList.drop i).head? = some oi)
    (hs : Region.noSelect ops = true) (hf : Region.free md ops listed i = true) (hr : (Region.ready md ops listed).contains i = true)
    (hQ : ∀ c a w, Q (.panic c) (a.put oi.dst v) w → Q (.panic c) a w) (hw : Region.wanted oi (yielded ops a.tmps) = true) (hS : S w) (hy : ∀ w, S w → (execOp a.eval oi).run P w = .ok (.value v) w)
    (h : wpAnyH P md ops Q S fuel (listed.setIfInBounds i true) (a.put oi.dst v) w) : wpAnyH P md ops Q S (fuel + 1) listed a w :=
  wpAnyH_take (at_drop hi) hs hf hr hQ (Or.inl ⟨hw, hy⟩) hS h
theorem takeX {P : Program} {ops : Array Oper} {Q : Exit → Act → World → Prop} {md : Region.Mode} {S : World → Prop} (i : Nat) {oi : Oper} {fuel : Nat} {listed : Array Bool} {a : Act} {w : World} (hi : (ops.toList.drop i).head? = some oi)
    (hs : Region.noSelect ops = true) (hf : Region.free md ops listed i = true) (hr : (Region.ready md ops listed).contains i = true)
    (hQ : ∀ c a w, Q (.panic c) (a.put oi.dst undef) w → Q (.panic c) a w) (hw : Region.wanted oi (yielded ops a.tmps) = false) (hS : S w)
    (h : wpAnyH P md ops Q S fuel (listed.setIfInBounds i true) (a.put oi.dst undef) w) : wpAnyH P md ops Q S (fuel + 1) listed a w :=
  wpAnyH_take (at_drop hi) hs hf hr hQ (Or.inr ⟨hw, rfl⟩) hS h
theorem takeC {P : Program} {ops : Array Oper} {Q : Exit → Act → World → Prop} {md : Region.Mode} {S : World → Prop} (i : Nat) {oi : Oper} {fuel : Nat} {listed : Array Bool} {a : Act} {w : World} (hr : Region.ready md ops listed = [i]) (hi : (ops.toList.drop i).head? = some oi)
    (h : ∀ K' : Act → World → Prop, Shut (∀ a w, S w → (S w → wpAnyH P md ops Q S fuel (listed.setIfInBounds i true) a w) → K' a w) → if Region.wanted oi (yielded ops a.tmps) = true then Oper.wp P oi a w K' Q else K' (a.put oi.dst undef) w) : wpAnyH P md ops Q S (fuel + 1) listed a w :=
  wpAnyH_ready hr (by simp) (AllReadyH.cons (at_drop hi) h AllReadyH.nil)
/-- Two operations, either of which may come first. -/
theorem takeC2 {P : Program} {ops : Array Oper} {Q : Exit → Act → World → Prop} {md : Region.Mode} {S : World → Prop} (i j : Nat) {oi oj : Oper} {fuel : Nat} {listed : Array Bool} {a : Act} {w : World} (hr : Region.ready md ops listed = [i, j]) (hi : (ops.toList.drop i).head? = some oi) (hj : (ops.toList.drop j).head? = some oj)
    (h : ∀ K' : Act → World → Prop, Shut (∀ a w, S w → (S w → wpAnyH P md ops Q S fuel (listed.setIfInBounds i true) a w) → K' a w) → if Region.wanted oi (yielded ops a.tmps) = true then Oper.wp P oi a w K' Q else K' (a.put oi.dst undef) w)
    (h' : ∀ K' : Act → World → Prop, Shut (∀ a w, S w → (S w → wpAnyH P md ops Q S fuel (listed.setIfInBounds j true) a w) → K' a w) → if Region.wanted oj (yielded ops a.tmps) = true then Oper.wp P oj a w K' Q else K' (a.put oj.dst undef) w) : wpAnyH P md ops Q S (fuel + 1) listed a w :=
  wpAnyH_ready hr (by simp) (AllReadyH.cons (at_drop hi) h (AllReadyH.cons (at_drop hj) h' AllReadyH.nil))

def inB (lo hi n : Int) : Bool := decide (lo ≤ n ∧ n ≤ hi)

end Go.Proofs.Ytnbojbcljfiamaa

namespace Go.Proofs.Ytnbojbcljfiamaa
open Go.RowKit Go.Shelf

end Go.Proofs.Ytnbojbcljfiamaa

namespace Go.Proofs.Ytnbojbcljfiamaa
open Go.RowKit Go.Shelf


end Go.Proofs.Ytnbojbcljfiamaa

namespace Go.Proofs.Ytnbojbcljfiamaa
open Go.RowKit Go.Shelf

set_option maxHeartbeats 1000000 in
theorem eqWork_same (r : Wk) (w : World) :
    Calls Try.prog 76 #[r.val, r.val] w fun e w' => e = .returned (.bool true) ∧ Below w.heap.size w w' := by
  have e0 : (r.name.toList == r.name.toList) = true := by simp
  have e1 : (r.live != r.live) = false := by simp
  have e2 : (r.se != r.se) = false := by simp
  go_enter Try.func76, Try.ntmps76
  go_wp2
  go_ret
  exact ⟨rfl, ((Below.refl _ w).alloc (Nat.le_refl _) _).alloc (by simp) _⟩

set_option maxHeartbeats 2000000 in
/-- A list of works is like itself, wherever the two lie. -/
theorem eqWorkS_same (v v' : Value) (ks : List Wk) (w : World) (hn : ks.length ≤ 1048577) (hr : WkS w v ks) (hr' : WkS w v' ks) :
    Calls Try.prog 44 #[v, v'] w fun e w' => e = .returned (.bool true) ∧ Below w.heap.size w w' := by
  obtain ⟨a, cap, rfl⟩ := hr.len
  obtain ⟨a', cap', rfl⟩ := hr'.len
  have e0 : ((ks.length : Int) != (ks.length : Int)) = false := by simp
  go_enter Try.func44, Try.ntmps44
  go_wp2
  go_loopw [5] (fun i wr => ∃ j : Nat, j ≤ ks.length ∧ i = .int .i64 j ∧ Below w.heap.size w wr) (fun i _ => ks.length - (intOf i).toNat)
  case atStart => exact ⟨0, Nat.zero_le _, rfl, Below.refl _ _⟩
  case round =>
    obtain ⟨j, hj, rfl, hB⟩ := hrel
    by_cases hlt : j < ks.length
    · obtain ⟨b, off, rfl, hb, hcap, q0, q1, q2⟩ := (hr.below hB).at hlt
      obtain ⟨b', off', rfl, hb', hcap', p0, p1, p2⟩ := (hr'.below hB).at hlt
      generalize ks[j] = r at *
      go_wp2_with fail
      go_region_with (go_at_call 76; refine (eqWork_same r _).mono ?_; rintro e w1 ⟨rfl, hB1⟩)
      all_goals go_wp2
      all_goals go_roundw
      all_goals first
        | exact ⟨j + 1, by omega, by go_num, below_one hB (below_drew1 hB1)⟩
        | (simp [intOf]; omega)
    · obtain rfl : j = ks.length := by omega
      go_wp2
      go_ret
      exact ⟨rfl, hB⟩

/-- No list of an issuer is longer than the laws take. -/
def Is.short (s : Is) : Prop := s.ws.length ≤ 1048577 ∧ s.rv.length ≤ 1048577 ∧ s.sg.length ≤ 1048577

set_option maxHeartbeats 2000000 in
/-- An issuer is like itself, wherever the two lie. -/
theorem eqIssuer_same (v v' : Value) (s : Is) (w : World) (hs : s.short) (h : IsA w v s) (h' : IsA w v' s) :
    Calls Try.prog 19 #[v, v'] w fun e w' => e = .returned (.bool true) ∧ Below w.heap.size w w' := by
  obtain ⟨vw, vr, vs, rfl, h1, h2, h3⟩ := h.parts
  obtain ⟨vw', vr', vs', rfl, h1', h2', h3'⟩ := h'.parts
  obtain ⟨l1, l2, l3⟩ := hs
  have hB0 : Below w.heap.size w ((w.alloc (.cells #[vw, .int .i64 s.nx, vr, vs] 26)).alloc (.cells #[vw', .int .i64 s.nx, vr', vs'] 26)) := ((Below.refl _ w).alloc (Nat.le_refl _) _).alloc (by simp) _
  have F1 := (Four.new w vw (.int .i64 s.nx) vr vs 26).below ((Below.refl _ _).alloc (Nat.le_refl _) (.cells #[vw', .int .i64 s.nx, vr', vs'] 26))
  have F2 := Four.at (w.alloc (.cells #[vw, .int .i64 s.nx, vr, vs] 26)) vw' (.int .i64 s.nx) vr' vs' 26 (k := w.heap.size + 1) (by simp)
  have e1 : (s.nx != s.nx) = false := by simp
  go_enter Try.func19, Try.ntmps19
  go_wp2_with fail
  generalize (w.alloc (.cells #[vw, .int .i64 s.nx, vr, vs] 26)).alloc (.cells #[vw', .int .i64 s.nx, vr', vs'] 26) = W0 at *
  refine (eqWorkS_same vw vw' s.ws _ l1 (h1.below hB0) (h1'.below hB0)).mono ?_
  rintro e w1 ⟨rfl, hB1⟩
  replace F1 := F1.below hB1
  replace F2 := F2.below hB1
  have hBB1 := below_one hB0 hB1
  clear hB1 hB0
  obtain ⟨a0, a1, a2, a3⟩ := F1.c
  obtain ⟨c0, c1, c2, c3⟩ := F2.c
  go_wp2_with fail
  refine (eqIntS_same vr vr' s.rv _ l2 (h2.below hBB1) (h2'.below hBB1)).mono ?_
  rintro e w2 ⟨rfl, hB2⟩
  replace F1 := F1.below hB2
  replace F2 := F2.below hB2
  have hBB2 := below_one hBB1 hB2
  clear a0 a1 a2 a3 c0 c1 c2 c3 hB2
  obtain ⟨a0, a1, a2, a3⟩ := F1.c
  obtain ⟨c0, c1, c2, c3⟩ := F2.c
  go_wp2_with fail
  refine (eqStringS_any vs vs' s.sg _ l3 (h3.below hBB2) (h3'.below hBB2)).mono ?_
  rintro e w3 ⟨rfl, hB3⟩
  go_wp2_with fail
  go_ret
  exact ⟨rfl, below_one hBB2 hB3⟩

set_option maxHeartbeats 2000000 in
theorem szIssuer_any (v : Value) (s : Is) (w : World) (hf : s.fits) (h : IsA w v s) :
    Calls Try.prog 28 #[v, .int .i64 1048576] w fun e w' => e = .returned (.int .i64 (leftI 1048576 s)) ∧ Below w.heap.size w w' := by
  obtain ⟨vw, vr, vs, rfl, h1, h2, h3⟩ := h.parts
  obtain ⟨l1, f1, l2, l3, f3⟩ := hf
  have hB0 : Below w.heap.size w (w.alloc (.cells #[vw, .int .i64 s.nx, vr, vs] 38)) := (Below.refl _ w).alloc (Nat.le_refl _) _
  have F1 := Four.new w vw (.int .i64 s.nx) vr vs 38
  have HI := hid (show leftI 1048576 s = if (s.size : Int) ≤ 1048576 then (1048576 : Int) - (s.size : Int) else (-1 : Int) from rfl)
  have HZ := hid (show s.size = wzAll s.ws + s.rv.length + tzAll s.sg from rfl)
  go_enter Try.func28, Try.ntmps28
  go_wp2_with fail
  generalize w.alloc (.cells #[vw, .int .i64 s.nx, vr, vs] 38) = W0 at *
  refine (szWorkS_any vw s.ws 1048576 _ (by omega) (by omega) l1 f1 (h1.below hB0)).mono ?_
  rintro e w1 ⟨rfl, hB1⟩
  replace F1 := F1.below hB1
  have hBB1 := below_one hB0 hB1
  clear hB1 hB0
  obtain ⟨a0, a1, a2, a3⟩ := F1.c
  by_cases c1 : (wzAll s.ws : Int) ≤ 1048576
  · rw [show leftW 1048576 s.ws = 1048576 - wzAll s.ws from if_pos c1]
    have d1 : decide ((1048576 : Int) - (wzAll s.ws : Int) < 0) = false := by simp; omega
    go_wp2_with fail
    refine (szIntS_any vr s.rv _ _ (by omega) (by omega) l2 (h2.below hBB1)).mono ?_
    rintro e w2 ⟨rfl, hB2⟩
    replace F1 := F1.below hB2
    have hBB2 := below_one hBB1 hB2
    clear hB2 a0 a1 a2 a3
    obtain ⟨a0, a1, a2, a3⟩ := F1.c
    by_cases c2 : (s.rv.length : Int) ≤ 1048576 - wzAll s.ws
    · rw [show left1 (1048576 - (wzAll s.ws : Int)) s.rv.length = 1048576 - wzAll s.ws - s.rv.length from if_pos c2]
      have d2 : decide ((1048576 : Int) - (wzAll s.ws : Int) - (s.rv.length : Int) < 0) = false := by simp; omega
      go_wp2_with fail
      refine (szStringS_any vs s.sg _ _ (by omega) (by omega) l3 f3 (h3.below hBB2)).mono ?_
      rintro e w3 ⟨rfl, hB3⟩
      have hBB3 := below_one hBB2 hB3
      clear hB3 a0 a1 a2 a3
      by_cases c3 : (tzAll s.sg : Int) ≤ 1048576 - wzAll s.ws - s.rv.length
      · rw [show leftT (1048576 - (wzAll s.ws : Int) - (s.rv.length : Int)) s.sg = 1048576 - wzAll s.ws - s.rv.length - tzAll s.sg from if_pos c3]
        have d3 : decide ((1048576 : Int) - (wzAll s.ws : Int) - (s.rv.length : Int) - (tzAll s.sg : Int) < 0) = false := by simp; omega
        have HR := hid (show leftI 1048576 s = 1048576 - wzAll s.ws - s.rv.length - tzAll s.sg by rw [HI.out, if_pos (by rw [HZ.out]; push_cast; omega), HZ.out]; push_cast; omega)
        go_wp2_with fail
        go_ret
        exact ⟨ret_int HR.out.symm, hBB3⟩
      · rw [show leftT (1048576 - (wzAll s.ws : Int) - (s.rv.length : Int)) s.sg = -1 from if_neg c3]
        have HR := hid (show leftI 1048576 s = -1 by rw [HI.out, if_neg (by rw [HZ.out]; push_cast; omega)])
        go_wp2_with fail
        go_ret
        exact ⟨ret_int HR.out.symm, hBB3⟩
    · rw [show left1 (1048576 - (wzAll s.ws : Int)) s.rv.length = -1 from if_neg c2]
      have HR := hid (show leftI 1048576 s = -1 by rw [HI.out, if_neg (by rw [HZ.out]; push_cast; omega)])
      go_wp2_with fail
      go_ret
      exact ⟨ret_int HR.out.symm, hBB2⟩
  · rw [show leftW 1048576 s.ws = -1 from if_neg c1]
    have HR := hid (show leftI 1048576 s = -1 by rw [HI.out, if_neg (by rw [HZ.out]; push_cast; omega)])
    go_wp2_with fail
    go_ret
    exact ⟨ret_int HR.out.symm, hBB1⟩

/-- An issuer of one's own: its lists lie in blocks from base on, below top. -/
def IsO (w : World) (base top : Nat) (v : Value) (s : Is) : Prop :=
  ∃ vw vr vs, v = .agg #[vw, .int .i64 s.nx, vr, vs] ∧ w.ownsRow base 129 3 vw s.ws.length (s.ws.flatMap Wk.cells) ∧ w.ownsRow base 3 1 vr s.rv.length (nums s.rv) ∧ w.ownsRow base 9 1 vs s.sg.length (strs s.sg) ∧ (∀ k, vw.ownBlock = some k → k < top) ∧ (∀ k, vr.ownBlock = some k → k < top) ∧ ∀ k, vs.ownBlock = some k → k < top
theorem IsO.a {w : World} {base top : Nat} {v : Value} {s : Is} (h : IsO w base top v s) : IsA w v s := by
  obtain ⟨vw, vr, vs, rfl, h1, h2, h3, _⟩ := h
  exact ⟨vw, vr, vs, rfl, WkS.own h1, VS.ownN h2, VS.ownS h3⟩
theorem IsO.below {w w' : World} {base top : Nat} {v : Value} {s : Is} (h : IsO w base top v s) (hB : Below w.heap.size w w') : IsO w' base top v s := by
  obtain ⟨vw, vr, vs, rfl, h1, h2, h3, t1, t2, t3⟩ := h
  exact ⟨vw, vr, vs, rfl, ownsRow_below h1 hB, ownsRow_below h2 hB, ownsRow_below h3 hB, t1, t2, t3⟩
theorem IsO.of {w : World} {base : Nat} {vw vr vs : Value} {s : Is} (h1 : w.ownsRow base 129 3 vw s.ws.length (s.ws.flatMap Wk.cells)) (h2 : w.ownsRow base 3 1 vr s.rv.length (nums s.rv)) (h3 : w.ownsRow base 9 1 vs s.sg.length (strs s.sg)) : IsO w base w.heap.size (.agg #[vw, .int .i64 s.nx, vr, vs]) s :=
  ⟨vw, vr, vs, rfl, h1, h2, h3, fun k hk => (h1.lt k hk).2, fun k hk => (h2.lt k hk).2, fun k hk => (h3.lt k hk).2⟩
theorem IsO.mono {w : World} {base base' top top' : Nat} {v : Value} {s : Is} (h : IsO w base top v s) (hb : base' ≤ base) (ht : top ≤ top') : IsO w base' top' v s := by
  obtain ⟨vw, vr, vs, rfl, h1, h2, h3, t1, t2, t3⟩ := h
  exact ⟨vw, vr, vs, rfl, Go.Joins.ownsRow_le h1 hb, Go.Joins.ownsRow_le h2 hb, Go.Joins.ownsRow_le h3 hb, fun k hk => Nat.lt_of_lt_of_le (t1 k hk) ht, fun k hk => Nat.lt_of_lt_of_le (t2 k hk) ht, fun k hk => Nat.lt_of_lt_of_le (t3 k hk) ht⟩

set_option maxHeartbeats 2000000 in
theorem toIssuer_any (v : Value) (s : Is) (w : World) (hs : s.size ≤ 1048576) (h : IsA w v s) :
    Calls Try.prog 34 #[v] w fun e w' => ∃ v', e = .returned v' ∧ IsO w' w.heap.size w'.heap.size v' s ∧ Below w.heap.size w w' := by
  obtain ⟨vw, vr, vs, rfl, h1, h2, h3⟩ := h.parts
  have l1 : s.ws.length ≤ 1048576 := by unfold Is.size wzAll at hs; omega
  have l2 : s.rv.length ≤ 1048576 := by unfold Is.size at hs; omega
  have l3 : s.sg.length ≤ 1048576 := by unfold Is.size tzAll at hs; omega
  have hB0 : Below w.heap.size w (((w.alloc (.cells #[vw, .int .i64 s.nx, vr, vs] 38)).alloc (.cells #[.slice none 0 0, .int .i64 0, .slice none 0 0, .slice none 0 0] 26)).alloc (.cells #[.slice none 0 0, .int .i64 0, .slice none 0 0, .slice none 0 0] 26)) := (((Below.refl _ w).alloc (Nat.le_refl _) _).alloc (by simp) _).alloc (by simp; omega) _
  have F1 := ((Four.new w vw (.int .i64 s.nx) vr vs 38).below ((Below.refl _ _).alloc (Nat.le_refl _) (.cells #[.slice none 0 0, .int .i64 0, .slice none 0 0, .slice none 0 0] 26))).below ((Below.refl _ _).alloc (Nat.le_refl _) (.cells #[.slice none 0 0, .int .i64 0, .slice none 0 0, .slice none 0 0] 26))
  have F2 := (Four.at (w.alloc (.cells #[vw, .int .i64 s.nx, vr, vs] 38)) (.slice none 0 0) (.int .i64 0) (.slice none 0 0) (.slice none 0 0) 26 (k := w.heap.size + 1) (by simp)).below ((Below.refl _ _).alloc (Nat.le_refl _) (.cells #[.slice none 0 0, .int .i64 0, .slice none 0 0, .slice none 0 0] 26))
  have F3 := Four.at ((w.alloc (.cells #[vw, .int .i64 s.nx, vr, vs] 38)).alloc (.cells #[.slice none 0 0, .int .i64 0, .slice none 0 0, .slice none 0 0] 26)) (.slice none 0 0) (.int .i64 0) (.slice none 0 0) (.slice none 0 0) 26 (k := w.heap.size + 1 + 1) (by simp)
  have hz0 : (((w.alloc (.cells #[vw, .int .i64 s.nx, vr, vs] 38)).alloc (.cells #[.slice none 0 0, .int .i64 0, .slice none 0 0, .slice none 0 0] 26)).alloc (.cells #[.slice none 0 0, .int .i64 0, .slice none 0 0, .slice none 0 0] 26)).heap.size = w.heap.size + 1 + 1 + 1 := by simp
  have HZ := hid hz0
  clear hz0
  go_enter Try.func34, Try.ntmps34
  go_wp2_with fail
  generalize (((w.alloc (.cells #[vw, .int .i64 s.nx, vr, vs] 38)).alloc (.cells #[.slice none 0 0, .int .i64 0, .slice none 0 0, .slice none 0 0] 26)).alloc (.cells #[.slice none 0 0, .int .i64 0, .slice none 0 0, .slice none 0 0] 26)) = W0 at *
  refine (toWorkS_any vw s.ws _ l1 (h1.below hB0)).mono ?_
  rintro e w1 ⟨v1, rfl, o1, hB1⟩
  obtain ⟨a1', m1', c1', hv1⟩ := row_slice o1
  subst hv1
  replace F1 := F1.below hB1
  replace F2 := F2.below hB1
  replace F3 := F3.below hB1
  have hBB1 := below_one hB0 hB1
  clear hB1 hB0
  obtain ⟨a0, a1, a2, a3⟩ := F1.c
  obtain ⟨c0, c1, c2, c3⟩ := F3.c
  have f0 := F3.f 0
  have f1 := F3.f 1
  go_wp2_with fail
  have F1' := (F1.other (k' := w.heap.size + 1 + 1) (by omega) 0 (.slice a1' m1' c1')).other (k' := w.heap.size + 1 + 1) (by omega) 1 (.int .i64 s.nx)
  have F2' := (F2.other (k' := w.heap.size + 1 + 1) (by omega) 0 (.slice a1' m1' c1')).other (k' := w.heap.size + 1 + 1) (by omega) 1 (.int .i64 s.nx)
  have F3' := (F3.s0 (.slice a1' m1' c1')).s1 (.int .i64 s.nx)
  have hB1' := (hBB1.setCell (p := ⟨w.heap.size + 1 + 1, 0, none⟩) (by simp; omega) (.slice a1' m1' c1')).setCell (p := ⟨w.heap.size + 1 + 1, 1, none⟩) (by simp; omega) (.int .i64 s.nx)
  have o1' := ownsRow_setCell_below (ownsRow_setCell_below o1 (a := ⟨w.heap.size + 1 + 1, 0, none⟩) (by rw [HZ.out]; simp) (.slice a1' m1' c1')) (a := ⟨w.heap.size + 1 + 1, 1, none⟩) (by rw [HZ.out]; simp) (.int .i64 s.nx)
  clear F1 F2 F3 hBB1 o1 a0 a1 a2 a3 c0 c1 c2 c3 f0 f1
  generalize (w1.setCell ⟨w.heap.size + 1 + 1, 0, none⟩ (.slice a1' m1' c1')).setCell ⟨w.heap.size + 1 + 1, 1, none⟩ (.int .i64 s.nx) = W1 at *
  refine (toIntS_any vr s.rv _ l2 (h2.below hB1')).mono ?_
  rintro e w2 ⟨v2, rfl, o2, hB2⟩
  obtain ⟨a2', m2', c2', hv2⟩ := row_slice o2
  subst hv2
  have z1 := hB1'.size
  replace F1 := F1'.below hB2
  replace F2 := F2'.below hB2
  replace F3 := F3'.below hB2
  replace o1 := ownsRow_below o1' hB2
  have hBB2 := below_one hB1' hB2
  have hl3 := F3'.lt
  clear hB2 hB1' F1' F2' F3' o1'
  obtain ⟨a0, a1, a2, a3⟩ := F1.c
  obtain ⟨c0, c1, c2, c3⟩ := F3.c
  have f2 := F3.f 2
  go_wp2_with fail
  have F2' := F2.other (k' := w.heap.size + 1 + 1) (by omega) 2 (.slice a2' m2' c2')
  have F3' := F3.s2 (.slice a2' m2' c2')
  have hB2' := hBB2.setCell (p := ⟨w.heap.size + 1 + 1, 2, none⟩) (by simp; omega) (.slice a2' m2' c2')
  have o1' := ownsRow_setCell_below o1 (a := ⟨w.heap.size + 1 + 1, 2, none⟩) (by rw [HZ.out]; simp) (.slice a2' m2' c2')
  have o2' := ownsRow_setCell_below o2 (a := ⟨w.heap.size + 1 + 1, 2, none⟩) hl3 (.slice a2' m2' c2')
  clear F1 F2 F3 hBB2 o1 o2 a0 a1 a2 a3 c0 c1 c2 c3 f2
  generalize w2.setCell ⟨w.heap.size + 1 + 1, 2, none⟩ (.slice a2' m2' c2') = W2 at *
  refine (toStringS_any vs s.sg _ l3 (h3.below hB2')).mono ?_
  rintro e w3 ⟨v3, rfl, o3, hB3⟩
  obtain ⟨a3', m3', c3', hv3⟩ := row_slice o3
  subst hv3
  have z2 := hB2'.size
  replace F2 := F2'.below hB3
  replace F3 := F3'.below hB3
  replace o1 := ownsRow_below o1' hB3
  replace o2 := ownsRow_below o2' hB3
  have hBB3 := below_one hB2' hB3
  have hl4 := F3'.lt
  have hl5 := F2'.lt
  clear hB3 hB2' F2' F3' o1' o2'
  obtain ⟨b0, b1, b2, b3⟩ := F2.c
  obtain ⟨c0, c1, c2, c3⟩ := F3.c
  have f3 := F3.f 3
  have g0 := F2.f 0
  have g1 := F2.f 1
  have g2 := F2.f 2
  have g3 := F2.f 3
  have o1' := ownsRow_setCell_below o1 (a := ⟨w.heap.size + 1 + 1, 3, none⟩) (by rw [HZ.out]; simp) (.slice a3' m3' c3')
  have o2' := ownsRow_setCell_below o2 (a := ⟨w.heap.size + 1 + 1, 3, none⟩) hl3 (.slice a3' m3' c3')
  have o3' := ownsRow_setCell_below o3 (a := ⟨w.heap.size + 1 + 1, 3, none⟩) hl4 (.slice a3' m3' c3')
  have hBB' := hBB3.setCell (p := ⟨w.heap.size + 1 + 1, 3, none⟩) (by simp; omega) (.slice a3' m3' c3')
  go_wp2_with fail
  have G := ((((F2.other (k' := w.heap.size + 1 + 1) (by omega) 3 (.slice a3' m3' c3')).s0 (.slice a1' m1' c1')).s1 (.int .i64 s.nx)).s2 (.slice a2' m2' c2')).s3 (.slice a3' m3' c3')
  have p1 := row_four o1' (k := w.heap.size + 1) (by rw [HZ.out]; omega) (.slice a1' m1' c1') (.int .i64 s.nx) (.slice a2' m2' c2') (.slice a3' m3' c3')
  have p2 := row_four o2' (k := w.heap.size + 1) (by omega) (.slice a1' m1' c1') (.int .i64 s.nx) (.slice a2' m2' c2') (.slice a3' m3' c3')
  have p3 := row_four o3' (k := w.heap.size + 1) (by omega) (.slice a1' m1' c1') (.int .i64 s.nx) (.slice a2' m2' c2') (.slice a3' m3' c3')
  have pB := below_four hBB' (k := w.heap.size + 1) (by omega) (.slice a1' m1' c1') (.int .i64 s.nx) (.slice a2' m2' c2') (.slice a3' m3' c3')
  have hW0 : w.heap.size ≤ W0.heap.size := by rw [HZ.out]; omega
  generalize ((((w3.setCell ⟨w.heap.size + 1 + 1, 3, none⟩ (.slice a3' m3' c3')).setCell ⟨w.heap.size + 1, 0, none⟩ (.slice a1' m1' c1')).setCell ⟨w.heap.size + 1, 1, none⟩ (.int .i64 s.nx)).setCell ⟨w.heap.size + 1, 2, none⟩ (.slice a2' m2' c2')).setCell ⟨w.heap.size + 1, 3, none⟩ (.slice a3' m3' c3') = W4 at *
  obtain ⟨d0, d1, d2, d3⟩ := G.c
  exact bodyPost_ret (v := .agg #[(.slice a1' m1' c1'), .int .i64 s.nx, (.slice a2' m2' c2'), (.slice a3' m3' c3')]) (by simp [results, Try.results34, go_sem, d0, d1, d2, d3]) rfl ⟨_, rfl, IsO.of (Go.Joins.ownsRow_le p1 hW0) (Go.Joins.ownsRow_le p2 z1) (Go.Joins.ownsRow_le p3 z2), pB⟩

end Go.Proofs.Ytnbojbcljfiamaa

namespace Go.Proofs.Ytnbojbcljfiamaa
open Go.RowKit Go.Shelf

theorem hd_no {s : Is} (h : 20 < s.ws.length ∨ s.nx < 1 ∨ 100000 < s.nx ∨ 200 < s.sg.length) : isB s = false := by
  apply isB_no1
  cases hh : hdB s
  · rfl
  · exfalso
    unfold hdB at hh
    simp at hh
    omega
theorem hd_yes {s : Is} (h1 : ¬ 20 < s.ws.length) (h2 : ¬ s.nx < 1) (h3 : ¬ 100000 < s.nx) (h4 : ¬ 200 < s.sg.length) : hdB s = true := by
  unfold hdB
  simp
  omega
/-- The names of an issuer's works are texts that the walks take. -/
def Is.named (s : Is) : Prop := ∀ k ∈ s.ws, k.name.size ≤ 1048576
theorem wk_no1 {nx : Int} {k : Wk} (h : gnB (split k.name 47) = false) : wkOk nx k = false := by unfold wkOk nmOk; rw [h]; rfl
theorem wk_no2 {nx : Int} {k : Wk} (h : ¬ (0 ≤ k.se ∧ k.se < nx)) : wkOk nx k = false := by unfold wkOk; rw [decide_eq_false h, Bool.and_false]
theorem wk_yes {nx : Int} {k : Wk} (h : gnB (split k.name 47) = true) (h2 : 0 ≤ k.se ∧ k.se < nx) : wkOk nx k = true := by unfold wkOk nmOk; rw [h, decide_eq_true h2]; rfl
theorem cells3 (w : World) (a b c : Value) (t : TypeId) : (w.alloc (.cells #[a, b, c] t)).cell? ⟨w.heap.size, 0, none⟩ = some a ∧ (w.alloc (.cells #[a, b, c] t)).cell? ⟨w.heap.size, 1, none⟩ = some b ∧ (w.alloc (.cells #[a, b, c] t)).cell? ⟨w.heap.size, 2, none⟩ = some c := by
  refine ⟨?_, ?_, ?_⟩ <;> simp

/-- The forms of an issuer's parts. -/
theorem is_forms {w : World} {v : Value} {s : Is} (h : IsA w v s) : ∃ aw cw ar cr ag cg, v = .agg #[.slice aw s.ws.length cw, .int .i64 s.nx, .slice ar s.rv.length cr, .slice ag s.sg.length cg] := by
  obtain ⟨vw, vr, vs, rfl, h1, h2, h3⟩ := h.parts
  obtain ⟨aw, cw, rfl⟩ := h1.len
  obtain ⟨ar, cr, rfl⟩ := h2.numLen
  obtain ⟨ag, cg, rfl⟩ := h3.strLen
  exact ⟨_, _, _, _, _, _, rfl⟩
theorem is_named {s : Is} (h : s.size ≤ 1048576) : s.named := fun k hk => by
  have := wz_mem hk
  unfold Is.size wzAll at h
  omega
theorem is_short {s : Is} (h : s.size ≤ 1048576) : s.short := by
  unfold Is.size wzAll tzAll at h
  exact ⟨by omega, by omega, by omega⟩

end Go.Proofs.Ytnbojbcljfiamaa

namespace Go.Proofs.Ytnbojbcljfiamaa
open Go.RowKit Go.Shelf

/-- The work that is laid at i, from the number k on. -/
def mkW (k i : Nat) : Wk := ⟨mkT (k + 3 * i), (((k + 3 * i : Nat) : Int) + 1) % 3 == 0, ((k + 3 * i : Nat) : Int) + 2⟩
def mkWs (k n : Nat) : List Wk := (List.range n).map (mkW k)
theorem mkWs_len (k n : Nat) : (mkWs k n).length = n := by simp [mkWs]
theorem mkWs_succ (k n : Nat) : mkWs k (n + 1) = mkWs k n ++ [mkW k n] := by
  unfold mkWs
  rw [List.range_succ, List.map_append]
  rfl
theorem mkWs_at {k n i : Nat} (h : i < (mkWs k n).length) : (mkWs k n)[i] = mkW k i := by simp [mkWs]

set_option maxHeartbeats 2000000 in
set_option maxRecDepth 100000 in
theorem markWorkS_to (v : Value) (n k base : Nat) (xs : List Value) (w : World) (hn : n ≤ 1048577) (hk : k + 3 * n ≤ 8000000) (hrow : w.ownsRow base 129 3 v n xs) :
    Calls Try.prog 49 #[v, .int .i64 k] w fun e w' => e = .returned (.int .i64 ((k + 3 * n : Nat) : Int)) ∧ w'.ownsRow base 129 3 v n ((mkWs k n).flatMap Wk.cells) ∧ w.grownBy w' v.ownBlock := by
  rcases row_form hrow with ⟨rfl, rfl⟩ | ⟨g, cap, rfl, hg, hcap⟩
  · go_enter Try.func49, Try.ntmps49
    go_wp2
    refine wp_loop_rounds 1 ?_
    rw [rounds_succ]
    go_wp2
    go_ret
    exact ⟨rfl, World.ownsRow_nil _ _ _ _, ⟨rfl, rfl, rfl, Nat.le_refl _, fun _ _ _ => rfl⟩⟩
  · go_enter Try.func49, Try.ntmps49
    go_wp2
    go_loopw [1, 5] (fun kv i wr => ∃ (j c : Nat), j ≤ n ∧ c = k + 3 * j ∧ kv = .int .i64 c ∧ i = .int .i64 j ∧ ∃ ys, wr.ownsRow base 129 3 (.slice (some ⟨g, 0, none⟩) n cap) n ys ∧ ys.take (j * 3) = (mkWs k j).flatMap Wk.cells ∧ w.grownBy wr (some g)) (fun _ i _ => n - (intOf i).toNat)
    case atStart => exact ⟨0, k, Nat.zero_le _, by omega, rfl, rfl, xs, hrow, by simp [mkWs], grown_self _ _⟩
    case round =>
      obtain ⟨j, c, hj, hc, rfl, rfl, ys, row0, hx, hg0⟩ := hrel
      have HX := hid hx
      have HC := hid hc
      clear hx hc hrow
      have hc9 : c ≤ 8000000 := by have := HC.out; omega
      by_cases hlt : j < n
      · have hlen : ys.length = n * 3 := row0.1
        go_wp2_with fail
        refine (markText_at c _ _ rfl (by omega)).mono ?_
        rintro e v1 ⟨rfl, hB1⟩
        have row1 := ownsRow_below row0 hB1
        have hg1 := grown_below hg0 hB1
        clear row0 hg0 hB1
        have hl1 := row1.1
        have s0 := row1.cellAt (j * 3) (by omega)
        have s1 := row1.cellAt (j * 3 + 1) (by omega)
        have s2 := row1.cellAt (j * 3 + 2) (by omega)
        rw [List.getElem?_eq_getElem (by omega)] at s0 s1 s2
        have t0 := row1.frozenAt (j * 3)
        have t1 := row1.frozenAt (j * 3 + 1)
        have t2 := row1.frozenAt (j * 3 + 2)
        have P0 := row1.stored (j * 3) (.string (mkT c))
        have P1 := P0.1.stored (j * 3 + 1) (.bool (((c : Int) + 1) % 3 == 0))
        have P2 := P1.1.stored (j * 3 + 2) (.int .i64 ((c : Int) + 2))
        have HP0 := hid P0.2
        have HP1 := hid P1.2
        have HP2 := hid P2.2
        have HO := hid P2.1
        clear P0 P1 P2
        go_wp2_with fail
        have HM := hid (show mkWs k (j + 1) = mkWs k j ++ [⟨mkT c, ((c : Int) + 1) % 3 == 0, (c : Int) + 2⟩] by rw [mkWs_succ]; unfold mkW; rw [← HC.out])
        go_roundw
        case rel =>
          refine ⟨j + 1, c + 3, by omega, by have := HC.out; omega, by go_num, by go_num, _, HO.out, ?_, grown_two (grown_two (grown_two hg1 HP0.out) HP1.out) HP2.out⟩
          rw [take_set3 _ _ _ _ _ (by omega), HX.out, HM.out, List.flatMap_append]
          simp
        case measure => simp [intOf]; omega
      · obtain rfl : j = n := by omega
        have HF := hid (show ys = (mkWs k j).flatMap Wk.cells by have := HX.out; rw [List.take_of_length_le (by have := row0.1; omega)] at this; exact this)
        go_wp2
        go_ret
        exact ⟨ret_int (by rw [HC.out]), by rw [← HF.out]; exact row0, hg0⟩

set_option maxHeartbeats 2000000 in
set_option maxRecDepth 100000 in
theorem heldWorkS_to (v : Value) (n k : Nat) (w : World) (hn : n ≤ 1048577) (hk : k + 3 * n ≤ 8000000) (hr : WkS w v (mkWs k n)) :
    Calls Try.prog 56 #[v, .int .i64 k] w fun e w' => e = .returned (.int .i64 ((k + 3 * n : Nat) : Int)) ∧ Below w.heap.size w w' := by
  obtain ⟨a, cap, rfl⟩ := hr.len
  have hln := mkWs_len k n
  rw [hln] at hr ⊢
  clear hln
  go_enter Try.func56, Try.ntmps56
  go_wp2
  go_loopw [1, 5] (fun kv i wr => ∃ (j c : Nat), j ≤ n ∧ c = k + 3 * j ∧ kv = .int .i64 c ∧ i = .int .i64 j ∧ Below w.heap.size w wr) (fun _ i _ => n - (intOf i).toNat)
  case atStart => exact ⟨0, k, Nat.zero_le _, by omega, rfl, rfl, Below.refl _ _⟩
  case round =>
    obtain ⟨j, c, hj, hc, rfl, rfl, hB⟩ := hrel
    have HC := hid hc
    clear hc
    have hc9 : c ≤ 8000000 := by have := HC.out; omega
    by_cases hlt : j < n
    · obtain ⟨b, off, rfl, hb, hcap, q0, q1, q2⟩ := (hr.below hB).at (i := j) (by rw [mkWs_len]; exact hlt)
      rw [mkWs_at] at q0 q1 q2
      unfold mkW at q0 q1 q2
      dsimp only at q0 q1 q2
      rw [← HC.out] at q0 q1 q2
      clear hr
      cases hq : (((c : Int) + 1) % 3 == 0)
      all_goals rw [hq] at q1
      all_goals go_wp2_with fail
      all_goals go_region_held3 (fun w' => w'.cell? ⟨b, off + j * 3, none⟩ = some (.string (mkT c))) (go_keep) (first | (go_at_call 41; refine (markText_at c _ _ rfl (by omega)).mono ?_; rintro e v1 ⟨rfl, hB1⟩; have r0 := (hB1.cell (p := ⟨b, off + j * 3, none⟩) (by exact hb)).trans (by exact q0); have r1 := (hB1.cell (p := ⟨b, off + j * 3 + 1, none⟩) (by exact hb)).trans (by exact q1); have r2 := (hB1.cell (p := ⟨b, off + j * 3 + 2, none⟩) (by exact hb)).trans (by exact q2)))
      all_goals have hBB1 := below_one hB (below_drew1 hB1)
      all_goals clear hB1
      all_goals go_wp2
      all_goals go_roundw
      all_goals first
        | exact ⟨j + 1, c + 3, by omega, by have := HC.out; omega, by go_num, by go_num, hBB1⟩
        | ((repeat apply Exists.intro); exact ⟨⟨j + 1, c + 3, by omega, by have := HC.out; omega, by go_num, by go_num, hBB1⟩, rfl⟩)
        | (simp [intOf]; omega)
    · obtain rfl : j = n := by omega
      go_wp2
      go_ret
      exact ⟨ret_int (by rw [HC.out]), hB⟩

end Go.Proofs.Ytnbojbcljfiamaa

namespace Go.Proofs.Ytnbojbcljfiamaa
open Go.RowKit Go.Shelf

theorem Mid.iso {lo hi : Nat} {w w1 : World} (h : Mid lo hi w w1) {base top : Nat} {v : Value} {s : Is} (hr : IsO w base top v s) (ho : hi ≤ base ∨ top ≤ lo) : IsO w1 base top v s := by
  obtain ⟨vw, vr, vs, rfl, h1, h2, h3, t1, t2, t3⟩ := hr
  exact ⟨vw, vr, vs, rfl, h.row h1 (fun k hk => by have := h1.lt k hk; have := t1 k hk; omega), h.row h2 (fun k hk => by have := h2.lt k hk; have := t2 k hk; omega), h.row h3 (fun k hk => by have := h3.lt k hk; have := t3 k hk; omega), t1, t2, t3⟩
/-- What lies in an issuer that was marked. -/
def mkIs (k : Nat) (s : Is) : Is := ⟨mkWs k s.ws.length, s.nx, mkN (k + 3 * s.ws.length) s.rv.length, mkS (k + 3 * s.ws.length + s.rv.length) s.sg.length⟩
def Is.many (s : Is) : Nat := 3 * s.ws.length + s.rv.length + s.sg.length

set_option maxHeartbeats 2000000 in
theorem markIssuer_any (v : Value) (s : Is) (k base top : Nat) (w : World) (hs : s.short) (hk : k + s.many ≤ 8000000) (ht : top ≤ w.heap.size) (h : IsO w base top v s) :
    Calls Try.prog 22 #[v, .int .i64 k] w fun e w' => e = .returned (.int .i64 ((k + s.many : Nat) : Int)) ∧ IsO w' base top v (mkIs k s) ∧ Mid base top w w' := by
  obtain ⟨vw, vr, vs, rfl, h1, h2, h3, t1, t2, t3⟩ := h
  obtain ⟨l1, l2, l3⟩ := hs
  unfold Is.many at hk
  obtain ⟨c1, HC1⟩ : ∃ c, Hid (c = k + 3 * s.ws.length) := ⟨_, hid rfl⟩
  obtain ⟨c2, HC2⟩ : ∃ c, Hid (c = c1 + s.rv.length) := ⟨_, hid rfl⟩
  have hc1 : c1 ≤ 8000000 := by have := HC1.out; omega
  have hc2 : c2 ≤ 8000000 := by have := HC1.out; have := HC2.out; omega
  have hB0 : Below w.heap.size w (w.alloc (.cells #[vw, .int .i64 s.nx, vr, vs] 26)) := (Below.refl _ w).alloc (Nat.le_refl _) _
  have F := Four.new w vw (.int .i64 s.nx) vr vs 26
  replace h1 := ownsRow_below h1 hB0
  replace h2 := ownsRow_below h2 hB0
  replace h3 := ownsRow_below h3 hB0
  have M0 : Mid base top w (w.alloc (.cells #[vw, .int .i64 s.nx, vr, vs] 26)) := Mid.of_below hB0
  go_enter Try.func22, Try.ntmps22
  go_wp2_with fail
  clear hB0
  generalize w.alloc (.cells #[vw, .int .i64 s.nx, vr, vs] 26) = W0 at *
  refine (markWorkS_to vw s.ws.length k base _ _ l1 (by omega) h1).mono ?_
  rintro e w1 ⟨rfl, r1, g1⟩
  rw [← HC1.out]
  have M1 : Mid base top W0 w1 := Mid.of_grown g1 (fun j hj => ⟨(h1.lt j hj).1, t1 j hj⟩)
  replace h2 := kept_apart h2 g1 (row_apart h2 h1 (by decide))
  replace h3 := kept_apart h3 g1 (row_apart h3 h1 (by decide))
  replace F := M1.four F (.inr ht)
  replace M0 := M0.trans M1
  clear M1 g1
  obtain ⟨a0, a1, a2, a3⟩ := F.c
  go_wp2_with fail
  refine (markIntS_to vr s.rv.length c1 base _ _ l2 (by have := HC1.out; omega) h2).mono ?_
  rintro e w2 ⟨rfl, r2, g2⟩
  rw [← HC2.out]
  have M1 : Mid base top w1 w2 := Mid.of_grown g2 (fun j hj => ⟨(h2.lt j hj).1, t2 j hj⟩)
  replace r1 := kept_apart r1 g2 (row_apart r1 h2 (by decide))
  replace h3 := kept_apart h3 g2 (row_apart h3 h2 (by decide))
  replace F := M1.four F (.inr ht)
  replace M0 := M0.trans M1
  clear M1 g2 a0 a1 a2 a3
  obtain ⟨a0, a1, a2, a3⟩ := F.c
  go_wp2_with fail
  refine (markStringS_to vs s.sg.length c2 base _ _ l3 (by have := HC1.out; have := HC2.out; omega) h3).mono ?_
  rintro e w3 ⟨rfl, r3, g3⟩
  have HE := hid (show ((c2 + s.sg.length : Nat) : Int) = ((k + s.many : Nat) : Int) by have := HC1.out; have := HC2.out; unfold Is.many; omega)
  rw [HE.out]
  have M1 : Mid base top w2 w3 := Mid.of_grown g3 (fun j hj => ⟨(h3.lt j hj).1, t3 j hj⟩)
  replace r1 := kept_apart r1 g3 (row_apart r1 h3 (by decide))
  replace r2 := kept_apart r2 g3 (row_apart r2 h3 (by decide))
  replace M0 := M0.trans M1
  clear M1 g3 a0 a1 a2 a3
  go_wp2_with fail
  go_ret
  refine ⟨rfl, ⟨vw, vr, vs, rfl, ?_, ?_, ?_, t1, t2, t3⟩, M0⟩
  · show World.ownsRow _ _ _ _ _ (mkWs k s.ws.length).length _
    rw [mkWs_len]
    exact r1
  · show World.ownsRow _ _ _ _ _ (mkN (k + 3 * s.ws.length) s.rv.length).length (nums (mkN (k + 3 * s.ws.length) s.rv.length))
    rw [mkN_len, ← HC1.out]
    exact r2
  · show World.ownsRow _ _ _ _ _ (mkS (k + 3 * s.ws.length + s.rv.length) s.sg.length).length (strs (mkS (k + 3 * s.ws.length + s.rv.length) s.sg.length))
    rw [mkS_len, ← HC1.out, ← HC2.out]
    exact r3

set_option maxHeartbeats 2000000 in
theorem heldIssuer_any (v : Value) (s : Is) (k : Nat) (w : World) (hs : s.short) (hk : k + s.many ≤ 8000000) (h : IsA w v (mkIs k s)) :
    Calls Try.prog 25 #[v, .int .i64 k] w fun e w' => e = .returned (.int .i64 ((k + s.many : Nat) : Int)) ∧ Below w.heap.size w w' := by
  obtain ⟨vw, vr, vs, rfl, h1, h2, h3⟩ := h.parts
  obtain ⟨l1, l2, l3⟩ := hs
  unfold Is.many at hk
  obtain ⟨c1, HC1⟩ : ∃ c, Hid (c = k + 3 * s.ws.length) := ⟨_, hid rfl⟩
  obtain ⟨c2, HC2⟩ : ∃ c, Hid (c = c1 + s.rv.length) := ⟨_, hid rfl⟩
  have hc1 : c1 ≤ 8000000 := by have := HC1.out; omega
  have hc2 : c2 ≤ 8000000 := by have := HC1.out; have := HC2.out; omega
  have h1' : WkS w vw (mkWs k s.ws.length) := h1
  have h2' : VS w vr (nums (mkN c1 s.rv.length)) := by rw [HC1.out]; exact h2
  have h3' : VS w vs (strs (mkS c2 s.sg.length)) := by rw [HC2.out, HC1.out]; exact h3
  have hnx : (mkIs k s).nx = s.nx := rfl
  rw [hnx]
  clear h h1 h2 h3 hnx
  have hB0 : Below w.heap.size w (w.alloc (.cells #[vw, .int .i64 s.nx, vr, vs] 26)) := (Below.refl _ w).alloc (Nat.le_refl _) _
  have F := Four.new w vw (.int .i64 s.nx) vr vs 26
  go_enter Try.func25, Try.ntmps25
  go_wp2_with fail
  generalize w.alloc (.cells #[vw, .int .i64 s.nx, vr, vs] 26) = W0 at *
  refine (heldWorkS_to vw s.ws.length k _ l1 (by omega) (h1'.below hB0)).mono ?_
  rintro e w1 ⟨rfl, hB1⟩
  rw [← HC1.out]
  replace F := F.below hB1
  have hBB1 := below_one hB0 hB1
  clear hB0 hB1
  obtain ⟨a0, a1, a2, a3⟩ := F.c
  have d1 : decide ((c1 : Int) < 0) = false := by simp
  go_wp2_with fail
  refine (heldIntS_to vr s.rv.length c1 _ l2 (by have := HC1.out; omega) (h2'.below hBB1)).mono ?_
  rintro e w2 ⟨rfl, hB2⟩
  rw [← HC2.out]
  replace F := F.below hB2
  have hBB2 := below_one hBB1 hB2
  clear hBB1 hB2 a0 a1 a2 a3
  obtain ⟨a0, a1, a2, a3⟩ := F.c
  have d2 : decide ((c2 : Int) < 0) = false := by simp
  go_wp2_with fail
  refine (heldStringS_to vs s.sg.length c2 _ l3 (by have := HC1.out; have := HC2.out; omega) (h3'.below hBB2)).mono ?_
  rintro e w3 ⟨rfl, hB3⟩
  obtain ⟨c3, HC3⟩ : ∃ c, Hid (c = c2 + s.sg.length) := ⟨_, hid rfl⟩
  rw [← HC3.out]
  have d3 : decide ((c3 : Int) < 0) = false := by simp
  go_wp2_with fail
  go_ret
  exact ⟨ret_int (by have := HC1.out; have := HC2.out; have := HC3.out; unfold Is.many; omega), below_one hBB2 hB3⟩

end Go.Proofs.Ytnbojbcljfiamaa

namespace Go.Proofs.Ytnbojbcljfiamaa
open Go.RowKit Go.Shelf

/-- 3 cells that are a block of their own. -/
def Three (w : World) (t : TypeId) (k : Nat) (a b c : Value) : Prop := w.ownsRow k t 3 (.slice (some ⟨k, 0, none⟩) 1 1) 1 [a, b, c]
theorem Three.at (w : World) (a b c : Value) (t : TypeId) {k : Nat} (hk : k = w.heap.size) : Three (w.alloc (.cells #[a, b, c] t)) t k a b c := by
  subst hk
  exact ⟨rfl, .inr ⟨w.heap.size, 1, #[a, b, c], rfl, Nat.le_refl _, by show (w.heap.push _)[w.heap.size]? = _; rw [Array.getElem?_push_size], Nat.le_refl _, by unfold maxLen; omega, rfl, rfl⟩⟩
theorem Three.new (w : World) (a b c : Value) (t : TypeId) : Three (w.alloc (.cells #[a, b, c] t)) t w.heap.size a b c := Three.at w a b c t rfl
theorem Three.below {w' : World} {w : World} {t : TypeId} {k : Nat} {a b c : Value} (h : Three w t k a b c) (hB : Below w.heap.size w w') : Three w' t k a b c := ownsRow_below h hB
theorem Three.c {w : World} {t : TypeId} {k : Nat} {a b c : Value} (h : Three w t k a b c) : w.cell? ⟨k, 0, none⟩ = some a ∧ w.cell? ⟨k, 1, none⟩ = some b ∧ w.cell? ⟨k, 2, none⟩ = some c :=
  ⟨World.ownsRow.cellAt h 0 (by omega), World.ownsRow.cellAt h 1 (by omega), World.ownsRow.cellAt h 2 (by omega)⟩
theorem Three.f {w : World} {t : TypeId} {k : Nat} {a b c : Value} (h : Three w t k a b c) (j : Nat) : w.frozen? ⟨k, j, none⟩ = false := World.ownsRow.frozenAt h j
theorem Three.s0 {w : World} {t : TypeId} {k : Nat} {a b c : Value} (h : Three w t k a b c) (x : Value) : Three (w.setCell ⟨k, 0, none⟩ x) t k x b c := (World.ownsRow.stored h 0 x).1
theorem Three.s1 {w : World} {t : TypeId} {k : Nat} {a b c : Value} (h : Three w t k a b c) (x : Value) : Three (w.setCell ⟨k, 1, none⟩ x) t k a x c := (World.ownsRow.stored h 1 x).1
theorem Three.s2 {w : World} {t : TypeId} {k : Nat} {a b c : Value} (h : Three w t k a b c) (x : Value) : Three (w.setCell ⟨k, 2, none⟩ x) t k a b x := (World.ownsRow.stored h 2 x).1
theorem Three.other {w : World} {t : TypeId} {k : Nat} {a b c : Value} (h : Three w t k a b c) {k' : Nat} (hk : k ≠ k') (j : Nat) (x : Value) : Three (w.setCell ⟨k', j, none⟩ x) t k a b c := ownsRow_setCell_other h (by simpa [Value.ownBlock] using hk) x
theorem Three.lt {w : World} {t : TypeId} {k : Nat} {a b c : Value} (h : Three w t k a b c) : k < w.heap.size := (World.ownsRow.lt h k rfl).2
theorem Mid.three {lo hi : Nat} {w1 : World} {w : World} {t : TypeId} {k : Nat} {a b c : Value} (h : Mid lo hi w w1) (hr : Three w t k a b c) (ho : k < lo ∨ hi ≤ k) : Three w1 t k a b c :=
  h.row hr (fun j hj => by simp [Value.ownBlock] at hj; omega)
theorem row_three {w : World} {base : Nat} {e : TypeId} {size n : Nat} {v : Value} {xs : List Value} (h : w.ownsRow base e size v n xs) {k : Nat} (hk : k < base) (x0 x1 x2 : Value) : (((w.setCell ⟨k, 0, none⟩ x0).setCell ⟨k, 1, none⟩ x1).setCell ⟨k, 2, none⟩ x2).ownsRow base e size v n xs :=
  (ownsRow_setCell_below (ownsRow_setCell_below (ownsRow_setCell_below h (a := ⟨k, 0, none⟩) hk x0) (a := ⟨k, 1, none⟩) hk x1) (a := ⟨k, 2, none⟩) hk x2)
theorem below_three {n k : Nat} {w W : World} (h : Below n w W) (hk : n ≤ k) (x0 x1 x2 : Value) : Below n w (((W.setCell ⟨k, 0, none⟩ x0).setCell ⟨k, 1, none⟩ x1).setCell ⟨k, 2, none⟩ x2) :=
  (((h.setCell (p := ⟨k, 0, none⟩) hk x0).setCell (p := ⟨k, 1, none⟩) hk x1).setCell (p := ⟨k, 2, none⟩) hk x2)

/-- 5 cells that are a block of their own. -/
def Five (w : World) (t : TypeId) (k : Nat) (a b c d e : Value) : Prop := w.ownsRow k t 5 (.slice (some ⟨k, 0, none⟩) 1 1) 1 [a, b, c, d, e]
theorem Five.at (w : World) (a b c d e : Value) (t : TypeId) {k : Nat} (hk : k = w.heap.size) : Five (w.alloc (.cells #[a, b, c, d, e] t)) t k a b c d e := by
  subst hk
  exact ⟨rfl, .inr ⟨w.heap.size, 1, #[a, b, c, d, e], rfl, Nat.le_refl _, by show (w.heap.push _)[w.heap.size]? = _; rw [Array.getElem?_push_size], Nat.le_refl _, by unfold maxLen; omega, rfl, rfl⟩⟩
theorem Five.new (w : World) (a b c d e : Value) (t : TypeId) : Five (w.alloc (.cells #[a, b, c, d, e] t)) t w.heap.size a b c d e := Five.at w a b c d e t rfl
theorem Five.below {w' : World} {w : World} {t : TypeId} {k : Nat} {a b c d e : Value} (h : Five w t k a b c d e) (hB : Below w.heap.size w w') : Five w' t k a b c d e := ownsRow_below h hB
theorem Five.c {w : World} {t : TypeId} {k : Nat} {a b c d e : Value} (h : Five w t k a b c d e) : w.cell? ⟨k, 0, none⟩ = some a ∧ w.cell? ⟨k, 1, none⟩ = some b ∧ w.cell? ⟨k, 2, none⟩ = some c ∧ w.cell? ⟨k, 3, none⟩ = some d ∧ w.cell? ⟨k, 4, none⟩ = some e :=
  ⟨World.ownsRow.cellAt h 0 (by omega), World.ownsRow.cellAt h 1 (by omega), World.ownsRow.cellAt h 2 (by omega), World.ownsRow.cellAt h 3 (by omega), World.ownsRow.cellAt h 4 (by omega)⟩
theorem Five.f {w : World} {t : TypeId} {k : Nat} {a b c d e : Value} (h : Five w t k a b c d e) (j : Nat) : w.frozen? ⟨k, j, none⟩ = false := World.ownsRow.frozenAt h j
theorem Five.s0 {w : World} {t : TypeId} {k : Nat} {a b c d e : Value} (h : Five w t k a b c d e) (x : Value) : Five (w.setCell ⟨k, 0, none⟩ x) t k x b c d e := (World.ownsRow.stored h 0 x).1
theorem Five.s1 {w : World} {t : TypeId} {k : Nat} {a b c d e : Value} (h : Five w t k a b c d e) (x : Value) : Five (w.setCell ⟨k, 1, none⟩ x) t k a x c d e := (World.ownsRow.stored h 1 x).1
theorem Five.s2 {w : World} {t : TypeId} {k : Nat} {a b c d e : Value} (h : Five w t k a b c d e) (x : Value) : Five (w.setCell ⟨k, 2, none⟩ x) t k a b x d e := (World.ownsRow.stored h 2 x).1
theorem Five.s3 {w : World} {t : TypeId} {k : Nat} {a b c d e : Value} (h : Five w t k a b c d e) (x : Value) : Five (w.setCell ⟨k, 3, none⟩ x) t k a b c x e := (World.ownsRow.stored h 3 x).1
theorem Five.s4 {w : World} {t : TypeId} {k : Nat} {a b c d e : Value} (h : Five w t k a b c d e) (x : Value) : Five (w.setCell ⟨k, 4, none⟩ x) t k a b c d x := (World.ownsRow.stored h 4 x).1
theorem Five.other {w : World} {t : TypeId} {k : Nat} {a b c d e : Value} (h : Five w t k a b c d e) {k' : Nat} (hk : k ≠ k') (j : Nat) (x : Value) : Five (w.setCell ⟨k', j, none⟩ x) t k a b c d e := ownsRow_setCell_other h (by simpa [Value.ownBlock] using hk) x
theorem Five.lt {w : World} {t : TypeId} {k : Nat} {a b c d e : Value} (h : Five w t k a b c d e) : k < w.heap.size := (World.ownsRow.lt h k rfl).2
theorem Mid.five {lo hi : Nat} {w1 : World} {w : World} {t : TypeId} {k : Nat} {a b c d e : Value} (h : Mid lo hi w w1) (hr : Five w t k a b c d e) (ho : k < lo ∨ hi ≤ k) : Five w1 t k a b c d e :=
  h.row hr (fun j hj => by simp [Value.ownBlock] at hj; omega)
theorem row_five {w : World} {base : Nat} {e : TypeId} {size n : Nat} {v : Value} {xs : List Value} (h : w.ownsRow base e size v n xs) {k : Nat} (hk : k < base) (x0 x1 x2 x3 x4 : Value) : (((((w.setCell ⟨k, 0, none⟩ x0).setCell ⟨k, 1, none⟩ x1).setCell ⟨k, 2, none⟩ x2).setCell ⟨k, 3, none⟩ x3).setCell ⟨k, 4, none⟩ x4).ownsRow base e size v n xs :=
  (ownsRow_setCell_below (ownsRow_setCell_below (ownsRow_setCell_below (ownsRow_setCell_below (ownsRow_setCell_below h (a := ⟨k, 0, none⟩) hk x0) (a := ⟨k, 1, none⟩) hk x1) (a := ⟨k, 2, none⟩) hk x2) (a := ⟨k, 3, none⟩) hk x3) (a := ⟨k, 4, none⟩) hk x4)
theorem below_five {n k : Nat} {w W : World} (h : Below n w W) (hk : n ≤ k) (x0 x1 x2 x3 x4 : Value) : Below n w (((((W.setCell ⟨k, 0, none⟩ x0).setCell ⟨k, 1, none⟩ x1).setCell ⟨k, 2, none⟩ x2).setCell ⟨k, 3, none⟩ x3).setCell ⟨k, 4, none⟩ x4) :=
  (((((h.setCell (p := ⟨k, 0, none⟩) hk x0).setCell (p := ⟨k, 1, none⟩) hk x1).setCell (p := ⟨k, 2, none⟩) hk x2).setCell (p := ⟨k, 3, none⟩) hk x3).setCell (p := ⟨k, 4, none⟩) hk x4)

end Go.Proofs.Ytnbojbcljfiamaa

namespace Go.Proofs
open Go.Shelf
def Try.cloneLk_ren : Go.Shelf.Ren := ⟨fun | 41 => 39 | n => n, fun | 22 => 63 | 23 => 75 | 4 => 4 | n => n, fun | n => n⟩
theorem Try.cloneLk : Go.Proofs.SlLaysE0.n41 Try.prog Try.cloneLk_ren := {
  mixed := by kernel_rfl
  f41 := ⟨Try.f39.name, by decide, Try.func39.trans (congrArg some (by kernel_rfl))⟩
  t4 := Try.underlying4
  a4 := Try.isAgg4
  z4 := Try.sizeOf4
  v4 := Try.zeroValue4
  t22 := Try.underlying63
  a22 := Try.isAgg63
  z22 := Try.sizeOf63
  v22 := Try.zeroValue63 }
end Go.Proofs

namespace Go.Proofs.Ytnbojbcljfiamaa
open Go.RowKit Go.Shelf
attribute [local go_sem] Oper.semAt_some

theorem cell_one_at (w : World) (x : Value) (t : TypeId) (n : Nat) (hn : n = w.heap.size) : ∀ j u, [x][j]? = some u → (w.alloc (.cells #[x] t)).cell? ((⟨n, 0, none⟩ : Addr).add j) = some u := by
  subst hn
  exact cell_one_new w x t

end Go.Proofs.Ytnbojbcljfiamaa

namespace Go.Proofs.Ytnbojbcljfiamaa
open Go.RowKit Go.Shelf

theorem ptLs_len (s : ByteArray) : (ptLs s).length ≤ s.size + 1 := by
  unfold ptLs
  split
  · exact wL_len s
  · simp

end Go.Proofs.Ytnbojbcljfiamaa

namespace Go.Proofs.Ytnbojbcljfiamaa
open Go.RowKit Go.Shelf

end Go.Proofs.Ytnbojbcljfiamaa

namespace Go.Proofs.Ytnbojbcljfiamaa
open Go.RowKit Go.Shelf

/-- A rule, and a call. -/
structure Ru where
  deny : Bool
  who : ByteArray
  method : ByteArray
  path : ByteArray
structure Ca where
  who : ByteArray
  method : ByteArray
  path : ByteArray
def Ru.size (r : Ru) : Nat := r.who.size + r.method.size + r.path.size
def Ca.size (c : Ca) : Nat := c.who.size + c.method.size + c.path.size
abbrev Ru.val (r : Ru) : Value := .agg #[.bool r.deny, .string r.who, .string r.method, .string r.path]
abbrev Ca.val (c : Ca) : Value := .agg #[.string c.who, .string c.method, .string c.path]
/-- The methods. -/
def getB (s : ByteArray) : Bool := s.toList == [103, 101, 116]
def putB (s : ByteArray) : Bool := s.toList == [112, 117, 116]
def mthB (s : ByteArray) : Bool := getB s || putB s
def Ru.good (r : Ru) : Bool := (nmB (split r.who 47) && ptBs r.path) && (mthB r.method || starB r.method)
def Ca.good (c : Ca) : Bool := (gnB (split c.who 47) && gpB c.path) && mthB c.method

set_option maxHeartbeats 1000000 in
theorem toRule_any (r : Ru) (w : World) :
    Calls Try.prog 101 #[r.val] w fun e w' => e = .returned r.val ∧ Below w.heap.size w w' := by
  go_enter Try.func101, Try.ntmps101
  go_wp2
  exact bodyPost_ret (v := r.val) (by simp [results, Try.results101, go_sem]) rfl ⟨rfl, (((Below.refl _ w).alloc (Nat.le_refl _) _).alloc (by simp) _).alloc (by simp; omega) _⟩

/-- What is left of a budget. -/
def left3 (n : Int) (a b c : Nat) : Int := if (a : Int) + b + c ≤ n then n - a - b - c else -1

set_option maxHeartbeats 1000000 in
theorem szRule_any (r : Ru) (n : Int) (w : World) (h0 : 0 ≤ n) (h1 : n ≤ 1048576) (ha : r.who.size ≤ maxLen) (hb : r.method.size ≤ maxLen) (hc : r.path.size ≤ maxLen) :
    Calls Try.prog 97 #[r.val, .int .i64 n] w fun e w' => e = .returned (.int .i64 (left3 n r.who.size r.method.size r.path.size)) ∧ Below w.heap.size w w' := by
  unfold maxLen at ha hb hc
  by_cases c1 : n < r.who.size
  · have HR := hid (show left3 n r.who.size r.method.size r.path.size = -1 from if_neg (by omega))
    go_enter Try.func97, Try.ntmps97
    go_wp2
    go_ret
    exact ⟨ret_int HR.out.symm, (Below.refl _ w).alloc (Nat.le_refl _) _⟩
  · by_cases c2 : n - r.who.size < r.method.size
    · have HR := hid (show left3 n r.who.size r.method.size r.path.size = -1 from if_neg (by omega))
      go_enter Try.func97, Try.ntmps97
      go_wp2
      go_ret
      exact ⟨ret_int HR.out.symm, (Below.refl _ w).alloc (Nat.le_refl _) _⟩
    · by_cases c3 : n - r.who.size - r.method.size < r.path.size
      · have HR := hid (show left3 n r.who.size r.method.size r.path.size = -1 from if_neg (by omega))
        go_enter Try.func97, Try.ntmps97
        go_wp2
        go_ret
        exact ⟨ret_int HR.out.symm, (Below.refl _ w).alloc (Nat.le_refl _) _⟩
      · have HR := hid (show left3 n r.who.size r.method.size r.path.size = n - r.who.size - r.method.size - r.path.size from if_pos (by omega))
        go_enter Try.func97, Try.ntmps97
        go_wp2
        go_ret
        exact ⟨ret_int HR.out.symm, (Below.refl _ w).alloc (Nat.le_refl _) _⟩

end Go.Proofs.Ytnbojbcljfiamaa

namespace Go.Proofs.Ytnbojbcljfiamaa
open Go.RowKit Go.Shelf

/-- The text of a rule. -/
def Ru.text (r : Ru) : ByteArray := (if r.deny = true then ⟨#[100, 101, 110, 121, 32]⟩ else ⟨#[97, 108, 108, 111, 119, 32]⟩) ++ r.who ++ ⟨#[32]⟩ ++ r.method ++ ⟨#[32]⟩ ++ r.path
def Ru.textG (r : Ru) : ByteArray := if r.good = true then r.text else ⟨#[]⟩

end Go.Proofs.Ytnbojbcljfiamaa

namespace Go.Proofs.Ytnbojbcljfiamaa
open Go.RowKit Go.Shelf Go.WideMaps Go.Maps

/-- The methods that a rule may have, as the program's map holds them. -/
abbrev one1 : DataW Unit := .lit (.int .i64 1)
def kD : DataW Unit := (((DataW.map []).put (.string [103, 101, 116]) one1).put (.string [112, 117, 116]) one1).put (.string [42]) one1
def rmB (s : ByteArray) : Bool := mthB s || starB s
theorem key_str (l : List UInt8) : WideAt.IsKeyLit (.string l) := by trivial
theorem ne_str {a b : List UInt8} (h : a ≠ b) : Lit.string a ≠ .string b := fun e => h (by injection e)
theorem kD_yes {s : ByteArray} (h : rmB s = true) : kD.atKey (.string s.data.toList) (.lit (.int .i64 0)) = .lit (.int .i64 1) := by
  unfold kD
  by_cases h3 : s.data.toList = [42]
  · rw [h3]; exact atKey_put_same ((isMap_empty.put _ _).put _ _) (key_str _) _ _
  · rw [atKey_put_other (ne_str h3)]
    by_cases h2 : s.data.toList = [112, 117, 116]
    · rw [h2]; exact atKey_put_same (isMap_empty.put _ _) (key_str _) _ _
    · rw [atKey_put_other (ne_str h2)]
      by_cases h1 : s.data.toList = [103, 101, 116]
      · rw [h1]; exact atKey_put_same isMap_empty (key_str _) _ _
      · simp [rmB, mthB, getB, putB, starB, toList_data, h1, h2, h3] at h
theorem kD_no {s : ByteArray} (h : rmB s = false) : kD.atKey (.string s.data.toList) (.lit (.int .i64 0)) = .lit (.int .i64 0) := by
  simp [rmB, mthB, getB, putB, starB, toList_data] at h
  obtain ⟨⟨h1, h2⟩, h3⟩ := h
  unfold kD
  rw [atKey_put_other (ne_str h3), atKey_put_other (ne_str h2), atKey_put_other (ne_str h1)]
  rfl

theorem lawStr : Keyed Try.prog 9 := string_keyed Try.underlying9
theorem zeroInt (w : World) : (zeroValue 3).run Try.prog w = .ok (.int .i64 0) w := by kernel_rfl
theorem good_eq (r : Ru) : r.good = ((rmB r.method && nmB (split r.who 47)) && ptBs r.path) := by
  unfold Ru.good rmB
  cases nmB (split r.who 47) <;> cases ptBs r.path <;> cases (mthB r.method || starB r.method) <;> rfl

def rmI (s : ByteArray) : Int := if rmB s = true then 1 else 0

end Go.Proofs.Ytnbojbcljfiamaa

namespace Go.Proofs.Ytnbojbcljfiamaa
open Go.RowKit Go.Shelf

theorem cgood_eq (c : Ca) : c.good = ((mthB c.method && gnB (split c.who 47)) && gpB c.path) := by
  unfold Ca.good
  cases gnB (split c.who 47) <;> cases gpB c.path <;> cases mthB c.method <;> rfl

abbrev Ru.obj (r : Ru) : Obj := .cells #[.bool r.deny, .string r.who, .string r.method, .string r.path] 135

end Go.Proofs.Ytnbojbcljfiamaa

namespace Go.Proofs.Ytnbojbcljfiamaa
open Go.ChangeShapes Go.WideShapes Go.ChangeAt Go.RowKit Go.Joins Go.Deep

/-- Its texts are no longer than a text may be. -/
def Ru.fits (r : Ru) : Prop := r.who.size ≤ maxLen ∧ r.method.size ≤ maxLen ∧ r.path.size ≤ maxLen
def Ca.fits (r : Ca) : Prop := r.who.size ≤ maxLen ∧ r.method.size ≤ maxLen ∧ r.path.size ≤ maxLen

set_option maxRecDepth 100000 in
theorem cellsRule : Try.prog.cellsOf 157 = 4 := by kernel_rfl
set_option maxRecDepth 100000 in
theorem openRu {H : Type} {enc : TypeId × Value → H} {W : World} {base : Nat} {v : Value} {d : DataW H} {p : List MemPlace} (hv : Value.okWide Try.prog W .any base 157 v) (h : DataW.Trod enc Try.prog W 0 (fun _ => true) true 157 v d p) :
    ∃ r : Ru, v = r.val ∧ r.fits := by
  obtain ⟨c0, c1, c2, c3, y0, y1, y2, y3, m, rfl, _, _, h0, h1, h2, h3⟩ := open_agg4 Try.underlying157 (by kernel_rfl) cellsRule hv h
  obtain ⟨x0, e0, _⟩ := DataW.trod_bool Try.underlying4 h0
  obtain ⟨x1, e1, _, w1⟩ := DataW.trod_string Try.underlying9 h1
  obtain ⟨x2, e2, _, w2⟩ := DataW.trod_string Try.underlying9 h2
  obtain ⟨x3, e3, _, w3⟩ := DataW.trod_string Try.underlying9 h3
  simp only [List.cons.injEq, and_true] at e0 e1 e2 e3
  subst e0 e1 e2 e3
  exact ⟨⟨x0, x1, x2, x3⟩, rfl, w1, w2, w3⟩

end Go.Proofs.Ytnbojbcljfiamaa

namespace Go.Proofs.Ytnbojbcljfiamaa
open Go.RowKit Go.Shelf

/-- A rule lies in memory. -/
def RuAt (w : World) (b o : Nat) (r : Ru) : Prop := w.cell? ⟨b, o, none⟩ = some (.bool r.deny) ∧ w.cell? ⟨b, o + 1, none⟩ = some (.string r.who) ∧ w.cell? ⟨b, o + 2, none⟩ = some (.string r.method) ∧ w.cell? ⟨b, o + 3, none⟩ = some (.string r.path)
/-- A slice reads as this list of rules. -/
def RuS (w : World) (v : Value) (rs : List Ru) : Prop :=
  (∃ a cap, v = .slice a 0 cap ∧ rs = []) ∨
  ∃ b off cap, v = .slice (some ⟨b, off, none⟩) rs.length cap ∧ b < w.heap.size ∧ rs.length ≤ cap ∧ ∀ k (h : k < rs.length), RuAt w b (off + k * 4) rs[k]
theorem RuAt.below {w w' : World} {b o : Nat} {r : Ru} (h : RuAt w b o r) (hb : b < w.heap.size) (hB : Below w.heap.size w w') : RuAt w' b o r :=
  ⟨(hB.cell (p := ⟨b, o, none⟩) hb).trans h.1, (hB.cell (p := ⟨b, o + 1, none⟩) hb).trans h.2.1, (hB.cell (p := ⟨b, o + 2, none⟩) hb).trans h.2.2.1, (hB.cell (p := ⟨b, o + 3, none⟩) hb).trans h.2.2.2⟩
theorem RuS.below {w w' : World} {v : Value} {rs : List Ru} (h : RuS w v rs) (hB : Below w.heap.size w w') : RuS w' v rs := by
  rcases h with h | ⟨b, off, cap, hv, hb, hl, hc⟩
  · exact .inl h
  · exact .inr ⟨b, off, cap, hv, Nat.lt_of_lt_of_le hb hB.size, hl, fun k hk => (hc k hk).below hb hB⟩
theorem RuS.len {w : World} {v : Value} {rs : List Ru} (h : RuS w v rs) : ∃ a cap, v = .slice a rs.length cap := by
  rcases h with ⟨a, cap, hv, rfl⟩ | ⟨b, off, cap, hv, _⟩
  · exact ⟨a, cap, hv⟩
  · exact ⟨_, cap, hv⟩
theorem RuS.at {w : World} {a : Option Addr} {n cap : Nat} {rs : List Ru} (h : RuS w (.slice a n cap) rs) {k : Nat} (hk : k < rs.length) : ∃ b off, a = some ⟨b, off, none⟩ ∧ b < w.heap.size ∧ n ≤ cap ∧ RuAt w b (off + k * 4) rs[k] := by
  rcases h with ⟨_, _, _, rfl⟩ | ⟨b, off, cap, hv, hb, hl, hc⟩
  · simp at hk
  · cases hv
    exact ⟨b, off, rfl, hb, hl, hc k hk⟩

set_option maxRecDepth 100000 in
open Go.Deep Go.ChangeShapes Go.WideShapes Go.Joins in
/-- A list of rules that comes in. -/
theorem openRuS {H : Type} {enc : TypeId × Value → H} {W : World} {a : Option Addr} {n c : Nat} {d : DataW H} {p : List MemPlace} (h : DataW.Trod enc Try.prog W 0 (fun _ => true) true 103 (.slice a n c) d p) :
    ∃ rs : List Ru, RuS W (.slice a n c) rs ∧ rs.length = n ∧ n ≤ maxLen ∧ ∀ r ∈ rs, r.fits := by
  obtain ⟨fuel, hf⟩ := h
  rcases open_slice Try.underlying103 hf with ⟨hcs, _⟩ | ⟨x, len, cap, m, k, D, Pl, hcs, _, hl, hm, hmm, _, hx⟩
  · simp [Value.cells] at hcs
    obtain ⟨rfl, rfl, rfl⟩ := hcs
    exact ⟨[], .inl ⟨_, _, rfl, rfl⟩, rfl, Nat.zero_le _, fun r hr => by cases hr⟩
  · simp [Value.cells] at hcs
    obtain ⟨rfl, rfl, rfl⟩ := hcs
    have hlm : n ≤ m := by rw [hmm]; simpa using hl
    have each : ∀ i, i < n → ∃ r : Ru, (W.cell? (x.add (i * 4)) = some (.bool r.deny) ∧ W.cell? (x.add (i * 4 + 1)) = some (.string r.who) ∧ W.cell? (x.add (i * 4 + 2)) = some (.string r.method) ∧ W.cell? (x.add (i * 4 + 3)) = some (.string r.path)) ∧ r.fits := by
      intro i hi
      obtain ⟨cs', h1, h2⟩ := hx i (by omega)
      rw [cellsRule] at h1
      obtain ⟨_, hlen, hcell⟩ := World.cells?_some h1
      obtain ⟨y0, y1, y2, y3, m', _, _, g0, g1, g2, g3⟩ := trod_struct4 Try.underlying157 h2
      match cs', hlen with
      | [v0, v1, v2, v3], _ =>
        have e0 := hcell 0 (by omega)
        have e1 := hcell 1 (by omega)
        have e2 := hcell 2 (by omega)
        have e3 := hcell 3 (by omega)
        rw [add_add] at e0 e1 e2 e3
        obtain ⟨x0, f0, _⟩ := DataW.trod_bool Try.underlying4 g0
        obtain ⟨x1, f1, _, w1⟩ := DataW.trod_string Try.underlying9 g1
        obtain ⟨x2, f2, _, w2⟩ := DataW.trod_string Try.underlying9 g2
        obtain ⟨x3, f3, _, w3⟩ := DataW.trod_string Try.underlying9 g3
        have c1 : Try.prog.cellsOf 4 = 1 := by kernel_rfl
        have c2 : Try.prog.cellsOf 9 = 1 := by kernel_rfl
        simp [c1, c2] at f0 f1 f2 f3
        subst f0 f1 f2 f3
        exact ⟨⟨x0, x1, x2, x3⟩, ⟨by simpa using e0, by simpa using e1, by simpa using e2, by simpa using e3⟩, w1, w2, w3⟩
    have hin : Inhabited Ru := ⟨⟨false, ByteArray.empty, ByteArray.empty, ByteArray.empty⟩⟩
    obtain ⟨q, hq⟩ := choose_lt each
    by_cases h0 : n = 0
    · subst h0
      exact ⟨[], .inl ⟨_, _, rfl, rfl⟩, rfl, Nat.zero_le _, fun r hr => by cases hr⟩
    · obtain ⟨b, off, spot⟩ := x
      have hs : spot = none := by simpa [Addr.add] using World.cell?_spot (hq 0 (by omega)).1.1
      subst hs
      have hlt : b < W.heap.size := by
        have := (hq 0 (by omega)).1.1
        rw [Addr.add_lit] at this
        by_cases hb : b < W.heap.size
        · exact hb
        · simp only [World.cell?] at this
          rw [Array.getElem?_eq_none (by omega)] at this
          cases this
      refine ⟨(List.range n).map q, .inr ⟨b, off, c, by simp, hlt, by simpa using hl, fun k hk => ?_⟩, by simp, by omega, ?_⟩
      · have hk' : k < n := by simpa using hk
        have := (hq k hk').1
        simp only [Addr.add_lit, ← Nat.add_assoc] at this
        simpa [RuAt] using this
      · intro r hr
        obtain ⟨i, hi, rfl⟩ := List.mem_map.1 hr
        exact (hq i (List.mem_range.1 hi)).2

def szTo (rs : List Ru) (k : Nat) : Nat := ((rs.take k).map Ru.size).sum
def szAll (rs : List Ru) : Nat := rs.length + szTo rs rs.length
theorem szTo_zero (rs : List Ru) : szTo rs 0 = 0 := by simp [szTo]
theorem szTo_succ {rs : List Ru} {k : Nat} (h : k < rs.length) : szTo rs (k + 1) = szTo rs k + rs[k].size := by
  unfold szTo
  rw [List.take_succ_eq_append_getElem h, List.map_append, List.sum_append]
  simp
theorem szTo_le (rs : List Ru) (k : Nat) : szTo rs k ≤ szTo rs rs.length := by
  unfold szTo
  rw [List.take_length]
  conv => rhs; rw [← List.take_append_drop k rs, List.map_append, List.sum_append]
  omega
theorem sz_mem {rs : List Ru} {r : Ru} (h : r ∈ rs) : r.size ≤ szTo rs rs.length := by
  unfold szTo
  rw [List.take_length]
  exact sum_mem (List.mem_map.2 ⟨r, h, rfl⟩)
/-- What is left of a budget behind a list. -/
def leftS (n : Int) (rs : List Ru) : Int := if (szAll rs : Int) ≤ n then n - szAll rs else -1

set_option maxHeartbeats 1000000 in
theorem szRuleS_any (v : Value) (rs : List Ru) (n : Int) (w : World) (h0 : 0 ≤ n) (h1 : n ≤ 1048576) (hm : rs.length ≤ maxLen) (hf : ∀ r ∈ rs, r.fits) (hr : RuS w v rs) :
    Calls Try.prog 82 #[v, .int .i64 n] w fun e w' => e = .returned (.int .i64 (leftS n rs)) ∧ Below w.heap.size w w' := by
  obtain ⟨a, cap, rfl⟩ := hr.len
  unfold maxLen at hm
  by_cases c0 : n < rs.length
  · have HR := hid (show leftS n rs = -1 from if_neg (by unfold szAll; omega))
    go_enter Try.func82, Try.ntmps82
    go_wp2
    go_ret
    exact ⟨ret_int HR.out.symm, Below.refl _ _⟩
  · have d0 : decide (n - (rs.length : Int) < 0) = false := by simp; omega
    go_enter Try.func82, Try.ntmps82
    go_wp2
    go_loopw [1, 5] (fun m i wr => ∃ k : Nat, k ≤ rs.length ∧ i = .int .i64 k ∧ m = .int .i64 (n - rs.length - szTo rs k) ∧ 0 ≤ n - rs.length - szTo rs k ∧ Below w.heap.size w wr) (fun _ i _ => rs.length - (intOf i).toNat)
    case atStart => exact ⟨0, Nat.zero_le _, rfl, by rw [szTo_zero]; go_num, by rw [szTo_zero]; omega, Below.refl _ _⟩
    case round =>
      obtain ⟨k, hk, rfl, rfl, hp, hB⟩ := hrel
      by_cases hlt : k < rs.length
      · obtain ⟨b, off, rfl, hb, hcap, q0, q1, q2, q3⟩ := (hr.below hB).at hlt
        obtain ⟨f1, f2, f3⟩ := hf rs[k] (List.getElem_mem hlt)
        have HS := hid (szTo_succ hlt)
        have HT := hid (szTo_le rs (k + 1))
        generalize rs[k] = r at *
        go_wp2_with fail
        refine (szRule_any r _ _ hp (by omega) f1 f2 f3).mono ?_
        rintro e w1 ⟨rfl, hB1⟩
        have hB2 := below_one hB hB1
        by_cases c1 : (r.size : Int) ≤ n - rs.length - szTo rs k
        · have hv : left3 (n - rs.length - szTo rs k) r.who.size r.method.size r.path.size = n - rs.length - szTo rs (k + 1) := by
            rw [HS.out]
            unfold Ru.size at *
            unfold left3
            rw [if_pos (by omega)]
            omega
          have hq : 0 ≤ n - rs.length - szTo rs (k + 1) := by rw [HS.out]; omega
          rw [hv]
          have d1 : decide (n - (rs.length : Int) - (szTo rs (k + 1) : Int) < 0) = false := by simp; omega
          clear hv hB1 q0 q1 q2 q3
          go_wp2_with fail
          go_roundw
          case rel => exact ⟨k + 1, by omega, by go_num, rfl, hq, hB2⟩
          case measure => simp [intOf]; omega
        · have hv : left3 (n - rs.length - szTo rs k) r.who.size r.method.size r.path.size = -1 := if_neg (by unfold Ru.size at c1; omega)
          have HR := hid (show leftS n rs = -1 from if_neg (by have := HT.out; rw [HS.out] at this; unfold szAll; omega))
          rw [hv]
          clear hv hB1 q0 q1 q2 q3
          go_wp2_with fail
          go_ret
          exact ⟨ret_int HR.out.symm, hB2⟩
      · obtain rfl : k = rs.length := by omega
        have HR := hid (show leftS n rs = n - rs.length - szTo rs rs.length by unfold leftS szAll; rw [if_pos (by omega)]; omega)
        go_wp2
        go_ret
        exact ⟨ret_int HR.out.symm, hB⟩

abbrev Ru.cells (r : Ru) : List Value := [.bool r.deny, .string r.who, .string r.method, .string r.path]
theorem flat_len (rs : List Ru) : (rs.flatMap Ru.cells).length = rs.length * 4 := by
  induction rs with
  | nil => rfl
  | cons r rs ih => rw [List.flatMap_cons, List.length_append, ih]; simp; omega
theorem flat_at (rs : List Ru) : ∀ (k j : Nat) (h : k < rs.length), j < 4 → (rs.flatMap Ru.cells)[k * 4 + j]? = rs[k].cells[j]? := by
  induction rs with
  | nil => intro k j h; simp at h
  | cons r rs ih =>
    intro k j h hj
    rw [List.flatMap_cons]
    cases k with
    | zero => rw [List.getElem?_append_left (by simp; omega)]; simp
    | succ k =>
      rw [List.getElem?_append_right (by simp; omega)]
      have := ih k j (by simpa using h) hj
      rw [show (k + 1) * 4 + j - r.cells.length = k * 4 + j by simp; omega]
      simpa using this
/-- A slice of rules of one's own reads as its list. -/
theorem RuS.own {w : World} {base : Nat} {v : Value} {rs : List Ru} (h : w.ownsRow base 135 4 v rs.length (rs.flatMap Ru.cells)) : RuS w v rs := by
  rcases h.2 with ⟨rfl, h0⟩ | ⟨g, cap, cur, rfl, hg, hb, hle, _⟩
  · exact .inl ⟨none, 0, rfl, List.eq_nil_of_length_eq_zero h0⟩
  · refine .inr ⟨g, 0, cap, rfl, (Array.getElem?_eq_some_iff.1 hb).1, hle, fun k hk => ?_⟩
    have hc : ∀ j, j < 4 → w.cell? ⟨g, k * 4 + j, none⟩ = rs[k].cells[j]? := fun j hj => by rw [h.cellAt (k * 4 + j) (by omega), flat_at rs k j hk hj]
    have h0 := hc 0 (by omega)
    have h1 := hc 1 (by omega)
    have h2 := hc 2 (by omega)
    have h3 := hc 3 (by omega)
    simp only [Nat.add_zero, List.getElem?_cons_zero, List.getElem?_cons_succ] at h0 h1 h2 h3
    exact ⟨by rw [Nat.zero_add]; exact h0, by rw [Nat.zero_add]; exact h1, by rw [Nat.zero_add]; exact h2, by rw [Nat.zero_add]; exact h3⟩
theorem take_set4 {α : Type} (xs : List α) (k : Nat) (a b c d : α) (h : k * 4 + 4 ≤ xs.length) : ((((xs.set (k * 4) a).set (k * 4 + 1) b).set (k * 4 + 2) c).set (k * 4 + 3) d).take ((k + 1) * 4) = xs.take (k * 4) ++ [a, b, c, d] := by
  apply List.ext_getElem?
  intro i
  rw [List.getElem?_take]
  by_cases h1 : i < k * 4
  · rw [if_pos (by omega), List.getElem?_append_left (by rw [List.length_take]; omega), List.getElem?_take, if_pos h1]
    rw [List.getElem?_set_ne (by omega), List.getElem?_set_ne (by omega), List.getElem?_set_ne (by omega), List.getElem?_set_ne (by omega)]
  · by_cases h2 : i < (k + 1) * 4
    · rw [if_pos h2, List.getElem?_append_right (by rw [List.length_take]; omega)]
      have hl : (xs.take (k * 4)).length = k * 4 := by rw [List.length_take]; omega
      rw [hl]
      obtain h | h | h | h : i = k * 4 ∨ i = k * 4 + 1 ∨ i = k * 4 + 2 ∨ i = k * 4 + 3 := by omega
      all_goals subst h
      · rw [List.getElem?_set_ne (by omega), List.getElem?_set_ne (by omega), List.getElem?_set_ne (by omega), List.getElem?_set_self (by omega)]
        simp
      · rw [List.getElem?_set_ne (by omega), List.getElem?_set_ne (by omega), List.getElem?_set_self (by simp; omega)]
        simp
      · rw [List.getElem?_set_ne (by omega), List.getElem?_set_self (by simp; omega)]
        simp
      · rw [List.getElem?_set_self (by simp; omega)]
        simp
    · rw [if_neg h2, List.getElem?_eq_none (by rw [List.length_append, List.length_take]; simp; omega)]
theorem infoRule : (Try.prog.info? 135).map (fun i => (i.zero, i.size, i.bytes)) = some (some (.agg #[.bool false, .string ByteArray.empty, .string ByteArray.empty, .string ByteArray.empty]), 4, 56) := by kernel_rfl

set_option maxHeartbeats 1000000 in
theorem toRuleS_any (v : Value) (rs : List Ru) (w : World) (hm : rs.length ≤ 1048576) (hr : RuS w v rs) :
    Calls Try.prog 88 #[v] w fun e w' => ∃ v', e = .returned v' ∧ w'.ownsRow w.heap.size 135 4 v' rs.length (rs.flatMap Ru.cells) ∧ Below w.heap.size w w' := by
  obtain ⟨a, cap, rfl⟩ := hr.len
  obtain ⟨i0, hi, hz0, hz1, hz2⟩ := info_parts infoRule
  go_enter Try.func88, Try.ntmps88
  go_wp2_with (at_make; refine wpList_make_full _ rfl _ _ 83 rfl w.heap.size 135 i0 _ 4 Try.underlying83 hi hz0 hz1 _ _ _ _ rs.length rfl rfl rfl rfl (by rw [hz2]; omega) (by unfold maxLen; omega) (Nat.le_refl _) ?_; intro w1 hown hgrow)
  have hB1 : Below w.heap.size w w1 := (Below.refl _ w).grown hgrow (Nat.le_refl _) (fun k e => by cases e)
  go_loopw [4] (fun i wr => ∃ k : Nat, k ≤ rs.length ∧ i = .int .i64 k ∧ ∃ xs, wr.ownsRow w.heap.size 135 4 (.slice (some ⟨w.heap.size, 0, none⟩) rs.length rs.length) rs.length xs ∧ xs.take (k * 4) = (rs.take k).flatMap Ru.cells ∧ Below w.heap.size w wr) (fun i _ => rs.length - (intOf i).toNat)
  case atStart => exact ⟨0, Nat.zero_le _, rfl, _, hown, by simp, hB1⟩
  case round =>
    obtain ⟨k, hk, rfl, xs, hrow, hx, hB⟩ := hrel
    have HX := hid hx
    clear hx
    by_cases hlt : k < rs.length
    · obtain ⟨b, off, rfl, hb, hcap, q0, q1, q2, q3⟩ := (hr.below hB).at hlt
      have HT := hid (List.take_succ_eq_append_getElem hlt)
      generalize rs[k] = r at *
      go_wp2_with fail
      refine (toRule_any r _).mono ?_
      rintro e w2 ⟨rfl, hB2⟩
      have hrow2 := ownsRow_below hrow hB2
      have hB3 := below_one hB hB2
      have hlen : xs.length = rs.length * 4 := hrow2.1
      have s0 := hrow2.cellAt (k * 4) (by omega)
      have s1 := hrow2.cellAt (k * 4 + 1) (by omega)
      have s2 := hrow2.cellAt (k * 4 + 2) (by omega)
      have s3 := hrow2.cellAt (k * 4 + 3) (by omega)
      rw [List.getElem?_eq_getElem (by omega)] at s0 s1 s2 s3
      have t0 := hrow2.frozenAt (k * 4)
      have t1 := hrow2.frozenAt (k * 4 + 1)
      have t2 := hrow2.frozenAt (k * 4 + 2)
      have t3 := hrow2.frozenAt (k * 4 + 3)
      generalize xs[k * 4] = y0 at *
      generalize xs[k * 4 + 1] = y1 at *
      generalize xs[k * 4 + 2] = y2 at *
      generalize xs[k * 4 + 3] = y3 at *
      clear q0 q1 q2 q3 hB2
      go_wp2_with fail
      go_roundw
      case rel =>
        refine ⟨k + 1, by omega, by go_num, _, (((hrow2.stored (k * 4) (.bool r.deny)).1.stored (k * 4 + 1) (.string r.who)).1.stored (k * 4 + 2) (.string r.method)).1.stored (k * 4 + 3) (.string r.path) |>.1, ?_, (((hB3.setCell (p := ⟨w.heap.size, _, none⟩) (Nat.le_refl _) _).setCell (p := ⟨w.heap.size, _, none⟩) (Nat.le_refl _) _).setCell (p := ⟨w.heap.size, _, none⟩) (Nat.le_refl _) _).setCell (p := ⟨w.heap.size, _, none⟩) (Nat.le_refl _) _⟩
        rw [take_set4 _ _ _ _ _ _ (by omega), HX.out, HT.out, List.flatMap_append]
        simp
      case measure => simp [intOf]; omega
    · obtain rfl : k = rs.length := by omega
      have HF := hid (show xs = rs.flatMap Ru.cells by have := HX.out; rw [List.take_of_length_le (by have := hrow.1; omega), List.take_length] at this; exact this)
      go_wp2
      go_ret
      exact ⟨_, rfl, by rw [← HF.out]; exact hrow, hB⟩

end Go.Proofs.Ytnbojbcljfiamaa

namespace Go.Proofs.Ytnbojbcljfiamaa
open Go.RowKit Go.Shelf

theorem cell_lt {w : World} {g o : Nat} {v : Value} (h : w.cell? ⟨g, o, none⟩ = some v) : g < w.heap.size := by
  simp only [World.cell?] at h
  by_cases hl : g < w.heap.size
  · exact hl
  · rw [Array.getElem?_eq_none (by omega)] at h
    cases h
def eqB (x y : ByteArray) : Bool := x.toList == y.toList
/-- The piece x stands for y. -/
def stB (x y : ByteArray) : Bool := starB x || eqB x y
def mnB (l m : List ByteArray) : Bool := match l, m with
  | [x, y], [u, v] => stB x u && stB y v
  | _, _ => false

end Go.Proofs.Ytnbojbcljfiamaa

namespace Go.Proofs.Ytnbojbcljfiamaa
open Go.RowKit Go.Shelf

def Ru.same (r s : Ru) : Bool := ((r.deny == s.deny && eqB r.who s.who) && eqB r.method s.method) && eqB r.path s.path
theorem Ru.same_refl (r : Ru) : r.same r = true := by simp [Ru.same, eqB]

set_option maxHeartbeats 1000000 in
theorem eqRule_any (r s : Ru) (w : World) :
    Calls Try.prog 94 #[r.val, s.val] w fun e w' => e = .returned (.bool (r.same s)) ∧ Below w.heap.size w w' := by
  cases b0 : r.deny == s.deny
  · have e0 : (r.deny == s.deny) = false := b0
    have HR := hid (show r.same s = false by unfold Ru.same; rw [b0]; rfl)
    clear b0
    go_enter Try.func94, Try.ntmps94
    go_wp2
    go_ret
    exact ⟨ret_bool HR.out.symm, ((Below.refl _ w).alloc (Nat.le_refl _) _).alloc (by simp) _⟩
  · have e0 : (r.deny == s.deny) = true := b0
    cases b1 : eqB r.who s.who
    · have e1 : (r.who.toList == s.who.toList) = false := b1
      have HR := hid (show r.same s = false by unfold Ru.same; rw [b0, b1]; rfl)
      clear b0 b1
      go_enter Try.func94, Try.ntmps94
      go_wp2
      go_ret
      exact ⟨ret_bool HR.out.symm, ((Below.refl _ w).alloc (Nat.le_refl _) _).alloc (by simp) _⟩
    · have e1 : (r.who.toList == s.who.toList) = true := b1
      cases b2 : eqB r.method s.method
      · have e2 : (r.method.toList == s.method.toList) = false := b2
        have HR := hid (show r.same s = false by unfold Ru.same; rw [b0, b1, b2]; rfl)
        clear b0 b1 b2
        go_enter Try.func94, Try.ntmps94
        go_wp2
        go_ret
        exact ⟨ret_bool HR.out.symm, ((Below.refl _ w).alloc (Nat.le_refl _) _).alloc (by simp) _⟩
      · have e2 : (r.method.toList == s.method.toList) = true := b2
        cases b3 : eqB r.path s.path
        · have e3 : (r.path.toList == s.path.toList) = false := b3
          have HR := hid (show r.same s = false by unfold Ru.same; rw [b0, b1, b2, b3]; rfl)
          clear b0 b1 b2 b3
          go_enter Try.func94, Try.ntmps94
          go_wp2
          go_ret
          exact ⟨ret_bool HR.out.symm, ((Below.refl _ w).alloc (Nat.le_refl _) _).alloc (by simp) _⟩
        · have e3 : (r.path.toList == s.path.toList) = true := b3
          have HR := hid (show r.same s = true by unfold Ru.same; rw [b0, b1, b2, b3]; rfl)
          clear b0 b1 b2 b3
          go_enter Try.func94, Try.ntmps94
          go_wp2
          go_ret
          exact ⟨ret_bool HR.out.symm, ((Below.refl _ w).alloc (Nat.le_refl _) _).alloc (by simp) _⟩


def sameTo (rs ss : List Ru) (k : Nat) : Bool := ((rs.zip ss).take k).all (fun q => q.1.same q.2)
def sameS (rs ss : List Ru) : Bool := decide (rs.length = ss.length) && (rs.zip ss).all (fun q => q.1.same q.2)
theorem sameTo_zero (rs ss : List Ru) : sameTo rs ss 0 = true := by simp [sameTo]
theorem sameTo_succ {rs ss : List Ru} {k : Nat} (h : k < rs.length) (h' : k < ss.length) : sameTo rs ss (k + 1) = (sameTo rs ss k && rs[k].same ss[k]) := by
  unfold sameTo
  rw [List.take_succ_eq_append_getElem (by rw [List.length_zip]; omega), List.all_append]
  simp
theorem same_bad {rs ss : List Ru} {k : Nat} (hb : sameTo rs ss (k + 1) = false) : sameS rs ss = false := by
  unfold sameTo at hb
  rw [List.all_eq_false] at hb
  obtain ⟨x, hx, hn⟩ := hb
  unfold sameS
  rw [Bool.and_eq_false_iff]
  exact .inr (List.all_eq_false.2 ⟨x, List.mem_of_mem_take hx, hn⟩)
theorem same_end {rs ss : List Ru} (h : rs.length = ss.length) : sameTo rs ss rs.length = sameS rs ss := by
  unfold sameTo sameS
  rw [List.take_of_length_le (by rw [List.length_zip]; omega), decide_eq_true h, Bool.true_and]
theorem sameS_refl (rs : List Ru) : sameS rs rs = true := by
  unfold sameS
  rw [decide_eq_true rfl, Bool.true_and, List.all_eq_true]
  intro x hx
  have := List.of_mem_zip hx
  obtain ⟨i, hi, he⟩ := List.getElem_of_mem hx
  rw [List.getElem_zip] at he
  rw [← he]
  exact Ru.same_refl _

set_option maxHeartbeats 2000000 in
theorem eqRuleS_any (v v' : Value) (rs ss : List Ru) (w : World) (_hm : rs.length ≤ 1048577) (hm' : ss.length ≤ 1048577) (hr : RuS w v rs) (hr' : RuS w v' ss) :
    Calls Try.prog 77 #[v, v'] w fun e w' => e = .returned (.bool (sameS rs ss)) ∧ Below w.heap.size w w' := by
  obtain ⟨a, cap, rfl⟩ := hr.len
  obtain ⟨a', cap', rfl⟩ := hr'.len
  by_cases hl : rs.length = ss.length
  · have e0 : ((rs.length : Int) != (ss.length : Int)) = false := by simp; omega
    have hl1 : rs.length ≤ ss.length := by omega
    have HL := hid hl
    clear hl
    go_enter Try.func77, Try.ntmps77
    go_wp2
    go_loopw [5] (fun i wr => ∃ k : Nat, k ≤ rs.length ∧ i = .int .i64 k ∧ sameTo rs ss k = true ∧ Below w.heap.size w wr) (fun i _ => rs.length - (intOf i).toNat)
    case atStart => exact ⟨0, Nat.zero_le _, rfl, sameTo_zero _ _, Below.refl _ _⟩
    case round =>
      obtain ⟨k, hk, rfl, hs, hB⟩ := hrel
      have HS := hid hs
      clear hs
      by_cases hlt : k < rs.length
      · have hlt' : k < ss.length := by omega
        obtain ⟨b, off, rfl, hb, hcap, q0, q1, q2, q3⟩ := (hr.below hB).at hlt
        obtain ⟨b', off', rfl, hb', hcap', p0, p1, p2, p3⟩ := (hr'.below hB).at hlt'
        have HT := hid (sameTo_succ hlt hlt')
        generalize rs[k] = r at *
        generalize ss[k] = s at *
        cases hq : r.same s
        · have HR := hid (show sameS rs ss = false from same_bad (by rw [HT.out, hq, Bool.and_false]))
          go_wp2_with fail
          go_region_with (go_at_call 94; refine (eqRule_any r s _).mono ?_; rintro e w1 ⟨rfl, hB1⟩)
          all_goals go_wp2
          all_goals go_ret
          all_goals exact ⟨ret_bool HR.out.symm, below_one hB (below_drew1 hB1)⟩
        · have HR := hid (show sameTo rs ss (k + 1) = true by rw [HT.out, HS.out, hq]; rfl)
          go_wp2_with fail
          go_region_with (go_at_call 94; refine (eqRule_any r s _).mono ?_; rintro e w1 ⟨rfl, hB1⟩)
          all_goals go_wp2
          all_goals go_roundw
          all_goals first
            | exact ⟨k + 1, by omega, by go_num, HR.out, below_one hB (below_drew1 hB1)⟩
            | (simp [intOf]; omega)
      · obtain rfl : k = rs.length := by omega
        have HR := hid (show sameS rs ss = true by rw [← same_end HL.out]; exact HS.out)
        go_wp2
        go_ret
        exact ⟨ret_bool HR.out.symm, hB⟩
  · have e0 : ((rs.length : Int) != (ss.length : Int)) = true := by simp; omega
    have HR := hid (show sameS rs ss = false by unfold sameS; rw [decide_eq_false hl]; rfl)
    clear hl
    go_enter Try.func77, Try.ntmps77
    go_wp2
    go_ret
    exact ⟨ret_bool HR.out.symm, Below.refl _ _⟩

end Go.Proofs.Ytnbojbcljfiamaa

namespace Go.Proofs.Ytnbojbcljfiamaa

/-! The order of bytes. -/
theorem bl_cmp : ∀ a b : List UInt8, decide (Lib.compareBytes a b < 0) = Op.bytesLess a b
  | [], [] => rfl
  | [], _ :: _ => rfl
  | _ :: _, [] => rfl
  | x :: a, y :: b => by
    have ih := bl_cmp a b
    unfold Lib.compareBytes Op.bytesLess
    by_cases h1 : x < y
    · simp [h1]
    · by_cases h2 : y < x
      · have h3 : (x == y) = false := by
          rw [beq_eq_false_iff_ne]
          intro e
          subst e
          exact h1 h2
        simp [h1, h2, h3]
      · have h3 : x = y := UInt8.le_antisymm (UInt8.not_lt.1 h2) (UInt8.not_lt.1 h1)
        subst h3
        simp only [h1, if_false, ih]
        simp
theorem bl_irrefl : ∀ a : List UInt8, Op.bytesLess a a = false
  | [] => rfl
  | x :: a => by
    unfold Op.bytesLess
    simp [bl_irrefl a]
theorem bl_trans : ∀ a b c : List UInt8, Op.bytesLess a b = true → Op.bytesLess b c = true → Op.bytesLess a c = true
  | _, _, [], _, h2 => by simp [Op.bytesLess] at h2
  | _, [], _ :: _, h1, _ => by simp [Op.bytesLess] at h1
  | [], _ :: _, _ :: _, _, _ => rfl
  | x :: a, y :: b, z :: c, h1, h2 => by
    unfold Op.bytesLess at h1 h2 ⊢
    simp only [Bool.or_eq_true, decide_eq_true_eq, Bool.and_eq_true, beq_iff_eq] at h1 h2 ⊢
    rcases h1 with h1 | ⟨rfl, h1⟩
    · rcases h2 with h2 | ⟨rfl, h2⟩
      · exact .inl (UInt8.lt_trans h1 h2)
      · exact .inl h1
    · rcases h2 with h2 | ⟨rfl, h2⟩
      · exact .inl h2
      · exact .inr ⟨rfl, bl_trans a b c h1 h2⟩
theorem bl_total : ∀ a b : List UInt8, Op.bytesLess a b = false → Op.bytesLess b a = false → a = b
  | [], [], _, _ => rfl
  | [], _ :: _, h, _ => by simp [Op.bytesLess] at h
  | _ :: _, [], _, h => by simp [Op.bytesLess] at h
  | x :: a, y :: b, h1, h2 => by
    unfold Op.bytesLess at h1 h2
    simp only [Bool.or_eq_false_iff, decide_eq_false_iff_not, Bool.and_eq_false_iff, beq_eq_false_iff_ne] at h1 h2
    have e : x = y := UInt8.le_antisymm (UInt8.not_lt.1 h2.1) (UInt8.not_lt.1 h1.1)
    subst e
    have h3 : Op.bytesLess a b = false := by
      rcases h1.2 with h | h
      · exact absurd rfl h
      · exact h
    have h4 : Op.bytesLess b a = false := by
      rcases h2.2 with h | h
      · exact absurd rfl h
      · exact h
    rw [bl_total a b h3 h4]
theorem bl_asym {a b : List UInt8} (h : Op.bytesLess a b = true) : Op.bytesLess b a = false := by
  cases h2 : Op.bytesLess b a
  · rfl
  · have := bl_trans a b a h h2
    rw [bl_irrefl] at this
    cases this
theorem bl_ntrans {a b c : List UInt8} (h1 : Op.bytesLess a b = false) (h2 : Op.bytesLess b c = false) : Op.bytesLess a c = false := by
  cases h3 : Op.bytesLess a c
  · rfl
  · cases h4 : Op.bytesLess b a
    · have e := bl_total a b h1 h4
      subst e
      rw [h2] at h3
      cases h3
    · have := bl_trans b a c h4 h3
      rw [h2] at this
      cases this
/-- a ≤ b < c. -/
theorem bl_le_lt {a b c : List UInt8} (h1 : Op.bytesLess b a = false) (h2 : Op.bytesLess b c = true) : Op.bytesLess a c = true := by
  cases h3 : Op.bytesLess a c
  · have := bl_ntrans h1 h3
    rw [h2] at this
    cases this
  · rfl

/-! No blank in the parts of a good rule; texts tell good rules apart. -/
def nosp (s : ByteArray) : Prop := (32 : UInt8) ∉ s.data.toList
theorem nosp_ws {x : ByteArray} (h : wsB x = true) : nosp x := by
  unfold nosp
  unfold wsB at h
  rw [Bool.or_eq_true] at h
  rcases h with h | h
  · have h1 : x.data.toList = [42] := by simpa [starB, toList_data] using h
    rw [h1]
    decide
  · unfold wordB wordTo at h
    rw [Bool.and_eq_true] at h
    intro hm
    have h2 := h.1
    rw [List.take_of_length_le (by simp)] at h2
    have := List.all_eq_true.1 h2 32 hm
    revert this
    decide
theorem nosp_star2 {x : ByteArray} (h : star2B x = true) : nosp x := by
  have h1 : x.data.toList = [42, 42] := by simpa [star2B, toList_data] using h
  unfold nosp
  rw [h1]
  decide
theorem nosp_split : ∀ (n : Nat) (s : ByteArray), s.size ≤ n → (∀ x ∈ split s 47, nosp x) → nosp s := by
  intro n
  induction n with
  | zero =>
    intro s hs h
    have : s.data.toList = [] := List.eq_nil_of_length_eq_zero (by rw [show s.data.toList.length = s.size by simp]; omega)
    unfold nosp
    rw [this]
    exact List.not_mem_nil
  | succ n ih =>
    intro s hs h
    cases hf : fI s 47 with
    | none =>
      rw [split_none hf] at h
      exact h s (by simp)
    | some i =>
      rw [split_some hf] at h
      have hlt := fI_lt hf
      have h1 := h _ (List.mem_cons_self)
      have h2 := ih (s.extract (i + 1) s.size) (by rw [ByteArray.size_extract]; omega) (fun x hx => h x (List.mem_cons_of_mem _ hx))
      unfold nosp at *
      rw [data_parts s i hlt, fI_at hf, List.mem_append, List.mem_cons]
      rintro (h3 | h3 | h3)
      · exact h1 h3
      · revert h3
        decide
      · exact h2 h3
theorem nosp_pt : ∀ l : List ByteArray, ptOk l = true → ∀ x ∈ l, nosp x
  | [], _, x, hx => by cases hx
  | y :: r, h, x, hx => by
    unfold ptOk at h
    split at h
    · rename_i h2
      have hr : r = [] := by simpa using h
      subst hr
      rw [List.mem_singleton] at hx
      subst hx
      exact nosp_star2 h2
    · rw [Bool.and_eq_true] at h
      rw [List.mem_cons] at hx
      rcases hx with rfl | hx
      · exact nosp_ws h.1
      · exact nosp_pt r h.2 x hx
theorem nosp_path {s : ByteArray} (h : ptBs s = true) : nosp s := by
  cases h0 : slashB s
  · cases h1 : headB s
    · have hp : pathPs s = none := by
        unfold pathPs
        rw [h0, h1]
        rfl
      unfold ptBs at h
      rw [hp] at h
      cases h
    · unfold ptBs at h
      rw [pathPs_head h0 h1] at h
      simp only [ptB_eq, Bool.and_eq_true] at h
      have h2 := nosp_split _ (s.extract 1 s.size) (Nat.le_refl _) (nosp_pt _ h.1)
      have hs : 0 < s.size := by
        rcases Nat.eq_zero_or_pos s.size with hz | hz
        · have : s.data.toList = [] := List.eq_nil_of_length_eq_zero (by rw [show s.data.toList.length = s.size by simp]; omega)
          unfold headB at h1
          rw [this] at h1
          cases h1
        · exact hz
      have hd := data_parts s 0 hs
      have h4 : (s.extract 0 0).data.toList = [] := by
        rw [ByteArray.data_extract, Array.toList_extract, List.extract_eq_take_drop]
        simp
      rw [h4, List.nil_append] at hd
      unfold headB at h1
      rw [hd] at h1
      have h5 : s[0] = 47 := by simpa using h1
      unfold nosp at *
      rw [hd, h5, List.mem_cons]
      rintro (h6 | h6)
      · revert h6
        decide
      · exact h2 h6
  · have h1 : s.data.toList = [47] := by simpa [slashB, toList_data] using h0
    unfold nosp
    rw [h1]
    decide
theorem nosp_name {s : ByteArray} (h : nmB (split s 47) = true) : nosp s := by
  rw [nmB_eq, Bool.and_eq_true, List.all_eq_true] at h
  exact nosp_split _ s (Nat.le_refl _) (fun x hx => nosp_ws (h.2 x hx))
theorem nosp_method {s : ByteArray} (h : (mthB s || starB s) = true) : nosp s := by
  unfold mthB getB putB starB at h
  rw [toList_data] at h
  simp only [Bool.or_eq_true, beq_iff_eq] at h
  unfold nosp
  rcases h with (h | h) | h
  all_goals rw [h]; decide
theorem cut_blank : ∀ a a' b b' : List UInt8, (32 : UInt8) ∉ a → (32 : UInt8) ∉ a' → a ++ 32 :: b = a' ++ 32 :: b' → a = a' ∧ b = b'
  | [], [], b, b', _, _, h => by simpa using h
  | [], y :: a', b, b', _, h2, h => by
    simp only [List.nil_append, List.cons_append, List.cons.injEq] at h
    exact absurd (by rw [h.1]; exact List.mem_cons_self) h2
  | x :: a, [], b, b', h1, _, h => by
    simp only [List.nil_append, List.cons_append, List.cons.injEq] at h
    exact absurd (by rw [h.1]; exact List.mem_cons_self) h1
  | x :: a, y :: a', b, b', h1, h2, h => by
    simp only [List.cons_append, List.cons.injEq] at h
    obtain ⟨e1, e2⟩ := cut_blank a a' b b' (fun hm => h1 (List.mem_cons_of_mem _ hm)) (fun hm => h2 (List.mem_cons_of_mem _ hm)) h.2
    exact ⟨by rw [h.1, e1], e2⟩
theorem text_list (r : Ru) : r.text.data.toList = (if r.deny = true then [100, 101, 110, 121] else [97, 108, 108, 111, 119]) ++ 32 :: (r.who.data.toList ++ 32 :: (r.method.data.toList ++ 32 :: r.path.data.toList)) := by
  unfold Ru.text
  cases r.deny <;> simp [ByteArray.data_append]
theorem bytes_eq {a b : ByteArray} (h : a.data.toList = b.data.toList) : a = b := by
  apply ByteArray.ext
  exact Array.toList_inj.1 h
theorem text_inj {r s : Ru} (hr : r.good = true) (hs : s.good = true) (h : r.text.data.toList = s.text.data.toList) : r = s := by
  unfold Ru.good at hr hs
  simp only [Bool.and_eq_true] at hr hs
  rw [text_list, text_list] at h
  obtain ⟨h1, h2⟩ := cut_blank _ _ _ _ (by cases r.deny <;> decide) (by cases s.deny <;> decide) h
  obtain ⟨h3, h4⟩ := cut_blank _ _ _ _ (nosp_name hr.1.1) (nosp_name hs.1.1) h2
  obtain ⟨h5, h6⟩ := cut_blank _ _ _ _ (nosp_method hr.2) (nosp_method hs.2) h4
  have hd : r.deny = s.deny := by
    cases h7 : r.deny <;> cases h8 : s.deny <;> first | rfl | (rw [h7, h8] at h1; simp at h1)
  obtain ⟨d, a, b, c⟩ := r
  obtain ⟨d', a', b', c'⟩ := s
  simp only at h3 h5 h6 hd
  rw [bytes_eq h3, bytes_eq h5, bytes_eq h6, hd]


/-! Lists in the order of texts. -/
def ltR (x y : Ru) : Bool := Op.bytesLess x.text.data.toList y.text.data.toList
def SS (l : List Ru) : Prop := l.Pairwise (fun x y => ltR x y = true)
theorem same_eq {x y : Ru} (h : x.same y = true) : x = y := by
  unfold Ru.same eqB at h
  simp only [Bool.and_eq_true, beq_iff_eq, toList_data] at h
  obtain ⟨d, a, b, c⟩ := x
  obtain ⟨d', a', b', c'⟩ := y
  simp only at h
  rw [h.1.1.1, bytes_eq h.1.1.2, bytes_eq h.1.2, bytes_eq h.2]
theorem ss_unique : ∀ l l' : List Ru, SS l → SS l' → (∀ y, y ∈ l ↔ y ∈ l') → l = l'
  | [], [], _, _, _ => rfl
  | [], y :: _, _, _, h => by have := (h y).2 List.mem_cons_self; cases this
  | x :: _, [], _, _, h => by have := (h x).1 List.mem_cons_self; cases this
  | x :: xs, y :: ys, h1, h2, h => by
    unfold SS at h1 h2
    rw [List.pairwise_cons] at h1 h2
    have hxy : x = y := by
      have a1 := (h x).1 List.mem_cons_self
      have a2 := (h y).2 List.mem_cons_self
      rw [List.mem_cons] at a1 a2
      rcases a1 with a1 | a1
      · exact a1
      · rcases a2 with a2 | a2
        · exact a2.symm
        · have b1 := h2.1 x a1
          have b2 := h1.1 y a2
          unfold ltR at b1 b2
          rw [bl_asym b2] at b1
          cases b1
    subst hxy
    have ht : ∀ z, z ∈ xs ↔ z ∈ ys := fun z => by
      constructor
      · intro hz
        have := (h z).1 (List.mem_cons_of_mem _ hz)
        rw [List.mem_cons] at this
        rcases this with rfl | this
        · have := h1.1 z hz
          unfold ltR at this
          rw [bl_irrefl] at this
          cases this
        · exact this
      · intro hz
        have := (h z).2 (List.mem_cons_of_mem _ hz)
        rw [List.mem_cons] at this
        rcases this with rfl | this
        · have := h2.1 z hz
          unfold ltR at this
          rw [bl_irrefl] at this
          cases this
        · exact this
    rw [ss_unique xs ys h1.2 h2.2 ht]
/-- A rule laid in where it belongs, once. -/
def insU (r : Ru) : List Ru → List Ru
  | [] => [r]
  | x :: xs => if ltR x r = true then x :: insU r xs else if x.same r = true then x :: xs else r :: x :: xs
theorem insU_mem (r : Ru) : ∀ (l : List Ru) (y : Ru), y ∈ insU r l ↔ y = r ∨ y ∈ l
  | [], y => by simp [insU]
  | x :: xs, y => by
    unfold insU
    split
    · rw [List.mem_cons, insU_mem r xs y, List.mem_cons]
      constructor
      · rintro (h | h | h)
        · exact .inr (.inl h)
        · exact .inl h
        · exact .inr (.inr h)
      · rintro (h | h | h)
        · exact .inr (.inl h)
        · exact .inl h
        · exact .inr (.inr h)
    · split
      · rename_i h2
        have := same_eq h2
        subst this
        simp
      · simp
theorem insU_ss {r : Ru} (hr : r.good = true) : ∀ l : List Ru, (∀ x ∈ l, x.good = true) → SS l → SS (insU r l)
  | [], _, _ => by simp [insU, SS]
  | x :: xs, hg, h => by
    unfold SS at h
    rw [List.pairwise_cons] at h
    unfold insU
    split
    · rename_i h1
      unfold SS
      rw [List.pairwise_cons]
      refine ⟨fun y hy => ?_, insU_ss hr xs (fun z hz => hg z (List.mem_cons_of_mem _ hz)) h.2⟩
      rw [insU_mem] at hy
      rcases hy with rfl | hy
      · exact h1
      · exact h.1 y hy
    · rename_i h1
      split
      · unfold SS
        rw [List.pairwise_cons]
        exact h
      · rename_i h2
        have hrx : ltR r x = true := by
          cases h3 : ltR r x
          · unfold ltR at h1 h3
            have h4 : Op.bytesLess x.text.data.toList r.text.data.toList = false := by simpa using h1
            have := text_inj (hg x List.mem_cons_self) hr (bl_total _ _ h4 h3)
            subst this
            exact absurd (Ru.same_refl x) h2
          · rfl
        unfold SS
        rw [List.pairwise_cons, List.pairwise_cons]
        refine ⟨fun y hy => ?_, h⟩
        rw [List.mem_cons] at hy
        rcases hy with rfl | hy
        · exact hrx
        · exact bl_trans _ _ _ hrx (h.1 y hy)
def plTo (rs : List Ru) (k : Nat) : List Ru := (rs.take k).foldl (fun o r => insU r o) []
theorem plTo_succ {rs : List Ru} {k : Nat} (h : k < rs.length) : plTo rs (k + 1) = insU rs[k] (plTo rs k) := by
  unfold plTo
  rw [List.take_succ_eq_append_getElem h, List.foldl_append]
  rfl
theorem plTo_mem {rs : List Ru} : ∀ k, k ≤ rs.length → ∀ y, y ∈ plTo rs k ↔ y ∈ rs.take k
  | 0, _, y => by simp [plTo]
  | k + 1, hk, y => by
    rw [plTo_succ (by omega), insU_mem, plTo_mem k (by omega) y, List.take_succ_eq_append_getElem (by omega), List.mem_append, List.mem_singleton]
    exact Or.comm
theorem plTo_ss {rs : List Ru} (hg : ∀ r ∈ rs, r.good = true) : ∀ k, k ≤ rs.length → SS (plTo rs k)
  | 0, _ => by simp [plTo, SS]
  | k + 1, hk => by
    rw [plTo_succ (by omega)]
    exact insU_ss (hg _ (List.getElem_mem _)) _ (fun x hx => hg x (List.mem_of_mem_take ((plTo_mem k (by omega) x).1 hx))) (plTo_ss hg k (by omega))
/-- What stays of a list when of neighbours alike the first stays. -/
def kpB (rs : List Ru) (i : Nat) : Bool := match i, rs[i]?, rs[i - 1]? with
  | 0, _, _ => true
  | _ + 1, some x, some y => !(x.same y)
  | _ + 1, _, _ => true
def cpTo (rs : List Ru) : Nat → List Ru
  | 0 => []
  | m + 1 => if kpB rs m = true then cpTo rs m ++ rs[m]?.toList else cpTo rs m
theorem kpB_succ {rs : List Ru} {i : Nat} (h : i + 1 < rs.length) : kpB rs (i + 1) = !(rs[i + 1].same rs[i]) := by
  unfold kpB
  simp only [Nat.add_sub_cancel]
  rw [List.getElem?_eq_getElem h, List.getElem?_eq_getElem (by omega)]
theorem cpTo_yes {rs : List Ru} {m : Nat} (h : m < rs.length) (hk : kpB rs m = true) : cpTo rs (m + 1) = cpTo rs m ++ [rs[m]] := by
  rw [cpTo, if_pos hk, List.getElem?_eq_getElem h]
  rfl
theorem cpTo_no {rs : List Ru} {m : Nat} (hk : kpB rs m = false) : cpTo rs (m + 1) = cpTo rs m := by
  rw [cpTo, if_neg (by rw [hk]; exact Bool.false_ne_true)]
theorem cpTo_len (rs : List Ru) : ∀ m, (cpTo rs m).length ≤ m
  | 0 => Nat.le_refl _
  | m + 1 => by
    have ih := cpTo_len rs m
    rw [cpTo]
    split
    · rw [List.length_append]
      cases rs[m]? <;> simp <;> omega
    · omega
theorem cpTo_all {rs : List Ru} : ∀ m, m ≤ rs.length → (∀ i, i < m → kpB rs i = true) → cpTo rs m = rs.take m
  | 0, _, _ => by simp [cpTo]
  | m + 1, hm, h => by
    rw [cpTo_yes (by omega) (h m (by omega)), cpTo_all m (by omega) (fun i hi => h i (by omega)), List.take_succ_eq_append_getElem (by omega)]
theorem cpTo_ss {ds : List Ru} (hg : ∀ r ∈ ds, r.good = true) (hs : ∀ i j (hi : i < j) (hj : j < ds.length), ltR ds[j] ds[i] = false) : ∀ m, m ≤ ds.length → SS (cpTo ds m) ∧ ∀ y, y ∈ cpTo ds m ↔ y ∈ ds.take m
  | 0, _ => by simp [cpTo, SS]
  | m + 1, hm => by
    obtain ⟨h1, h2⟩ := cpTo_ss hg hs m (by omega)
    cases hk : kpB ds m
    · rw [cpTo_no hk]
      refine ⟨h1, fun y => ?_⟩
      rw [h2, List.take_succ_eq_append_getElem (by omega), List.mem_append, List.mem_singleton]
      constructor
      · exact .inl
      · rintro (h | rfl)
        · exact h
        · cases m with
          | zero => simp [kpB] at hk
          | succ i =>
            rw [kpB_succ (by omega)] at hk
            have := same_eq (by simpa using hk)
            rw [this, List.mem_take_iff_getElem]
            exact ⟨i, by omega, rfl⟩
    · rw [cpTo_yes (by omega) hk]
      refine ⟨?_, fun y => by rw [List.mem_append, h2, List.take_succ_eq_append_getElem (by omega), List.mem_append]⟩
      unfold SS at *
      rw [List.pairwise_append]
      refine ⟨h1, by simp, fun x hx y hy => ?_⟩
      rw [List.mem_singleton] at hy
      subst hy
      have hx' := (h2 x).1 hx
      rw [List.mem_take_iff_getElem] at hx'
      obtain ⟨i, hi, rfl⟩ := hx'
      cases m with
      | zero => omega
      | succ p =>
        rw [kpB_succ (by omega)] at hk
        have hlt : ltR ds[p] ds[p + 1] = true := by
          cases h3 : ltR ds[p] ds[p + 1]
          · have h4 := hs p (p + 1) (by omega) (by omega)
            unfold ltR at h3 h4
            have := text_inj (hg _ (List.getElem_mem _)) (hg _ (List.getElem_mem _)) (bl_total _ _ h3 h4)
            rw [this, Ru.same_refl] at hk
            cases hk
          · rfl
        by_cases hip : i = p
        · subst hip
          exact hlt
        · exact bl_le_lt (hs i p (by omega) (by omega)) hlt
/-- A sorted copy, neighbours alike taken away, is what the specification lays. -/
theorem plain_eq {rs ds : List Ru} (hg : ∀ r ∈ rs, r.good = true) (hp : ds.Perm rs) (hs : ∀ i j (hi : i < j) (hj : j < ds.length), ltR ds[j] ds[i] = false) : cpTo ds ds.length = plTo rs rs.length := by
  have h1 := cpTo_ss (fun r hr => hg r (hp.mem_iff.1 hr)) hs ds.length (Nat.le_refl _)
  refine ss_unique _ _ h1.1 (plTo_ss hg _ (Nat.le_refl _)) (fun y => ?_)
  rw [h1.2, plTo_mem _ (Nat.le_refl _), List.take_length, List.take_length, hp.mem_iff]

end Go.Proofs.Ytnbojbcljfiamaa

namespace Go.Proofs.Ytnbojbcljfiamaa
open Go.RowKit Go.Shelf

/-- The rule that is laid at i, from the number k on. -/
def mkR (k i : Nat) : Ru := ⟨((k + 4 * i : Nat) : Int) % 3 == 0, mkT (k + 4 * i + 1), mkT (k + 4 * i + 2), mkT (k + 4 * i + 3)⟩
def mkL (k n : Nat) : List Ru := (List.range n).map (mkR k)
theorem mkL_len (k n : Nat) : (mkL k n).length = n := by simp [mkL]
theorem mkL_succ (k n : Nat) : mkL k (n + 1) = mkL k n ++ [mkR k n] := by
  unfold mkL
  rw [List.range_succ, List.map_append]
  rfl
theorem mkL_at {k n i : Nat} (h : i < (mkL k n).length) : (mkL k n)[i] = mkR k i := by simp [mkL]




set_option maxHeartbeats 2000000 in
set_option maxRecDepth 100000 in
theorem markRuleS_to (v : Value) (n k base : Nat) (xs : List Value) (w : World) (hn : n ≤ 1048577) (hk : k + 4 * n ≤ 8000000) (hrow : w.ownsRow base 135 4 v n xs) :
    Calls Try.prog 52 #[v, .int .i64 k] w fun e w' => e = .returned (.int .i64 ((k + 4 * n : Nat) : Int)) ∧ w'.ownsRow base 135 4 v n ((mkL k n).flatMap Ru.cells) ∧ w.grownBy w' v.ownBlock := by
  rcases row_form hrow with ⟨rfl, rfl⟩ | ⟨g, cap, rfl, hg, hcap⟩
  · go_enter Try.func52, Try.ntmps52
    go_wp2
    refine wp_loop_rounds 1 ?_
    rw [rounds_succ]
    go_wp2
    go_ret
    exact ⟨rfl, World.ownsRow_nil _ _ _ _, ⟨rfl, rfl, rfl, Nat.le_refl _, fun _ _ _ => rfl⟩⟩
  · go_enter Try.func52, Try.ntmps52
    go_wp2
    go_loopw [1, 5] (fun kv i wr => ∃ (j c : Nat), j ≤ n ∧ c = k + 4 * j ∧ kv = .int .i64 c ∧ i = .int .i64 j ∧ ∃ ys, wr.ownsRow base 135 4 (.slice (some ⟨g, 0, none⟩) n cap) n ys ∧ ys.take (j * 4) = (mkL k j).flatMap Ru.cells ∧ w.grownBy wr (some g)) (fun _ i _ => n - (intOf i).toNat)
    case atStart => exact ⟨0, k, Nat.zero_le _, by omega, rfl, rfl, xs, hrow, by simp [mkL], grown_self _ _⟩
    case round =>
      obtain ⟨j, c, hj, hc, rfl, rfl, ys, row0, hx, hg0⟩ := hrel
      have HX := hid hx
      have HC := hid hc
      clear hx hc hrow
      have hc9 : c ≤ 8000000 := by have := HC.out; omega
      by_cases hlt : j < n
      · have hlen : ys.length = n * 4 := row0.1
        have s0 := row0.cellAt (j * 4) (by have := row0.1; omega)
        rw [List.getElem?_eq_getElem (by have := row0.1; omega)] at s0
        have t0 := row0.frozenAt (j * 4)
        go_wp2_with fail
        have P0 := row0.stored (j * 4) (.bool ((c : Int) % 3 == 0))
        have hg0' := grown_two hg0 P0.2
        have row0' := P0.1
        clear P0 s0 t0 row0 hg0
        generalize wr.setCell ⟨g, j * 4, none⟩ (.bool ((c : Int) % 3 == 0)) = W0 at *
        refine (markText_at (c + 1) _ _ (by push_cast; omega) (by omega)).mono ?_
        rintro e v1 ⟨rfl, hB1⟩
        have row1 := ownsRow_below row0' hB1
        have hg1 := grown_below hg0' hB1
        clear row0' hg0' hB1
        have s1 := row1.cellAt (j * 4 + 1) (by have := row1.1; omega)
        rw [List.getElem?_eq_getElem (by have := row1.1; omega)] at s1
        have t1 := row1.frozenAt (j * 4 + 1)
        go_wp2_with fail
        have P1 := row1.stored (j * 4 + 1) (.string (mkT (c + 1)))
        have hg1' := grown_two hg1 P1.2
        have row1' := P1.1
        clear P1 s1 t1 row1 hg1
        generalize v1.setCell ⟨g, j * 4 + 1, none⟩ (.string (mkT (c + 1))) = W1 at *
        refine (markText_at (c + 2) _ _ (by push_cast; omega) (by omega)).mono ?_
        rintro e v2 ⟨rfl, hB2⟩
        have row2 := ownsRow_below row1' hB2
        have hg2 := grown_below hg1' hB2
        clear row1' hg1' hB2
        have s2 := row2.cellAt (j * 4 + 2) (by have := row2.1; omega)
        rw [List.getElem?_eq_getElem (by have := row2.1; omega)] at s2
        have t2 := row2.frozenAt (j * 4 + 2)
        go_wp2_with fail
        have P2 := row2.stored (j * 4 + 2) (.string (mkT (c + 2)))
        have hg2' := grown_two hg2 P2.2
        have row2' := P2.1
        clear P2 s2 t2 row2 hg2
        generalize v2.setCell ⟨g, j * 4 + 2, none⟩ (.string (mkT (c + 2))) = W2 at *
        refine (markText_at (c + 3) _ _ (by push_cast; omega) (by omega)).mono ?_
        rintro e v3 ⟨rfl, hB3⟩
        have row3 := ownsRow_below row2' hB3
        have hg3 := grown_below hg2' hB3
        clear row2' hg2' hB3
        have s3 := row3.cellAt (j * 4 + 3) (by have := row3.1; omega)
        rw [List.getElem?_eq_getElem (by have := row3.1; omega)] at s3
        have t3 := row3.frozenAt (j * 4 + 3)
        go_wp2_with fail
        have P3 := row3.stored (j * 4 + 3) (.string (mkT (c + 3)))
        have hg3' := grown_two hg3 P3.2
        have row3' := P3.1
        clear P3 s3 t3 row3 hg3
        have HM := hid (show mkL k (j + 1) = mkL k j ++ [⟨(c : Int) % 3 == 0, mkT (c + 1), mkT (c + 2), mkT (c + 3)⟩] by rw [mkL_succ]; unfold mkR; rw [← HC.out])
        go_roundw
        case rel =>
          refine ⟨j + 1, c + 4, by omega, by have := HC.out; omega, by go_num, by go_num, _, row3', ?_, hg3'⟩
          rw [take_set4 _ _ _ _ _ _ (by omega), HX.out, HM.out, List.flatMap_append]
          simp
        case measure => simp [intOf]; omega
      · obtain rfl : j = n := by omega
        have HF := hid (show ys = (mkL k j).flatMap Ru.cells by have := HX.out; rw [List.take_of_length_le (by have := row0.1; omega)] at this; exact this)
        go_wp2
        go_ret
        exact ⟨ret_int (by rw [HC.out]), by rw [← HF.out]; exact row0, hg0⟩

theorem markRuleS_any (v : Value) (n k base : Nat) (xs : List Value) (w : World) (hn : n ≤ 1048577) (hk : k ≤ 1) (hrow : w.ownsRow base 135 4 v n xs) :
    Calls Try.prog 52 #[v, .int .i64 k] w fun e w' => e = .returned (.int .i64 ((k + 4 * n : Nat) : Int)) ∧ w'.ownsRow base 135 4 v n ((mkL k n).flatMap Ru.cells) ∧ w.grownBy w' v.ownBlock :=
  markRuleS_to v n k base xs w hn (by omega) hrow

end Go.Proofs.Ytnbojbcljfiamaa

namespace Go.Proofs.Ytnbojbcljfiamaa
open Go.RowKit Go.Shelf Go.Sort

/-- Memory that was only made, and draws: in the sort's words. -/
theorem grow_of {W w' : World} (hB : Below W.heap.size W w') (hd : W.drawn ≤ w'.drawn) : ∃ q os', w' = grow (W.drewN q) os' := by
  refine ⟨w'.drawn - W.drawn, w'.heap.extract W.heap.size w'.heap.size, ?_⟩
  have hh : w'.heap = W.heap ++ w'.heap.extract W.heap.size w'.heap.size := by
    apply Array.ext_getElem?
    intro k
    by_cases hk : k < W.heap.size
    · rw [Array.getElem?_append_left hk, hB.block k hk]
    · rw [Array.getElem?_append_right (by omega), Array.getElem?_extract]
      by_cases h2 : k < w'.heap.size
      · rw [if_pos (by omega)]
        congr 1
        omega
      · rw [if_neg (by omega), Array.getElem?_eq_none (by omega)]
  have h1 := hB.os
  have h2 := hB.tape
  have h3 := hB.output
  obtain ⟨hp, tp, dr, os, out⟩ := w'
  obtain ⟨hp0, tp0, dr0, os0, out0⟩ := W
  simp only at h1 h2 h3 hd hh
  simp only [grow, World.drewN]
  rw [← hh, h1, h2, h3, Nat.add_sub_cancel' hd]

end Go.Proofs.Ytnbojbcljfiamaa

namespace Go.Proofs.Ytnbojbcljfiamaa
open Go.RowKit Go.Shelf

theorem eql_ru (o r : Ru) (w : World) : (binOp .eql 135 o.val r.val).run Try.prog w = .ok (.bool (o.same r)) w := by
  rw [run_eql_struct]
  simp [go_sem, Try.underlying135]
  unfold Ru.same eqB
  repeat' split
  all_goals simp_all
theorem neq_ru (o r : Ru) (w : World) : (binOp .neq 135 o.val r.val).run Try.prog w = .ok (.bool (!(o.same r))) w := by
  rw [run_neq_struct]
  simp [go_sem, Try.underlying135]
  unfold Ru.same eqB
  repeat' split
  all_goals simp_all
/-- The cells of the rule at k. -/
theorem row_ru {w : World} {base g cap n : Nat} {rs : List Ru} (hrow : w.ownsRow base 135 4 (.slice (some ⟨g, 0, none⟩) n cap) n (rs.flatMap Ru.cells)) {k : Nat} (h : k < n) (hn : rs.length = n) (r : Ru) (hr : rs[k]'(by omega) = r) :
    w.cell? ⟨g, k * 4, none⟩ = some (.bool r.deny) ∧ w.cell? ⟨g, k * 4 + 1, none⟩ = some (.string r.who) ∧ w.cell? ⟨g, k * 4 + 2, none⟩ = some (.string r.method) ∧ w.cell? ⟨g, k * 4 + 3, none⟩ = some (.string r.path) := by
  subst hr
  have hc : ∀ j, j < 4 → w.cell? ⟨g, k * 4 + j, none⟩ = (rs[k]'(by omega)).cells[j]? := fun j hj => by rw [hrow.cellAt (k * 4 + j) (by omega), flat_at rs k j (by omega) hj]
  have h0 := hc 0 (by omega)
  have h1 := hc 1 (by omega)
  have h2 := hc 2 (by omega)
  have h3 := hc 3 (by omega)
  simp only [Nat.add_zero, List.getElem?_cons_zero, List.getElem?_cons_succ] at h0 h1 h2 h3
  exact ⟨h0, h1, h2, h3⟩
theorem flat_set (ys : List Ru) (k : Nat) (r : Ru) (_h : k < ys.length) : ((((ys.flatMap Ru.cells).set (k * 4) (.bool r.deny)).set (k * 4 + 1) (.string r.who)).set (k * 4 + 2) (.string r.method)).set (k * 4 + 3) (.string r.path) = (ys.set k r).flatMap Ru.cells := by
  apply List.ext_getElem?
  intro i
  have hl := flat_len ys
  by_cases hi : i < ys.length * 4
  · have e : i = i / 4 * 4 + i % 4 := by omega
    have h1 : i / 4 < ys.length := by omega
    by_cases hk : i / 4 = k
    · have h2 := flat_at (ys.set k r) (i / 4) (i % 4) (by simpa using h1) (by omega)
      rw [← e] at h2
      rw [h2, List.getElem_set, if_pos hk.symm]
      obtain h | h | h | h : i % 4 = 0 ∨ i % 4 = 1 ∨ i % 4 = 2 ∨ i % 4 = 3 := by omega
      · have ei : i = k * 4 := by omega
        rw [h, ei, List.getElem?_set_ne (by omega), List.getElem?_set_ne (by omega), List.getElem?_set_ne (by omega), List.getElem?_set_self (by omega)]
        rfl
      · have ei : i = k * 4 + 1 := by omega
        rw [h, ei, List.getElem?_set_ne (by omega), List.getElem?_set_ne (by omega), List.getElem?_set_self (by simp only [List.length_set]; omega)]
        rfl
      · have ei : i = k * 4 + 2 := by omega
        rw [h, ei, List.getElem?_set_ne (by omega), List.getElem?_set_self (by simp only [List.length_set]; omega)]
        rfl
      · have ei : i = k * 4 + 3 := by omega
        rw [h, ei, List.getElem?_set_self (by simp only [List.length_set]; omega)]
        rfl
    · have h2 := flat_at (ys.set k r) (i / 4) (i % 4) (by simpa using h1) (by omega)
      have h3 := flat_at ys (i / 4) (i % 4) h1 (by omega)
      rw [← e] at h2 h3
      rw [h2, List.getElem_set, if_neg (fun h => hk h.symm), ← h3, List.getElem?_set_ne (by omega), List.getElem?_set_ne (by omega), List.getElem?_set_ne (by omega), List.getElem?_set_ne (by omega)]
  · rw [List.getElem?_eq_none (by simp only [List.length_set]; omega), List.getElem?_eq_none (by rw [flat_len, List.length_set]; omega)]
/-- A row's first elements. -/
theorem row_short {w : World} {base g cap n k : Nat} {e : TypeId} {size : Nat} {xs : List Value} (h : w.ownsRow base e size (.slice (some ⟨g, 0, none⟩) n cap) n xs) (hk : k ≤ n) : w.ownsRow base e size (.slice (some ⟨g, 0, none⟩) k cap) k (xs.take (k * size)) := by
  have hm : k * size ≤ n * size := Nat.mul_le_mul_right _ hk
  rcases h.2 with ⟨h', _⟩ | ⟨g', cap', cur, h', hb, hg, hn, hc, hs, ht⟩
  · cases h'
  · simp only [Value.slice.injEq, Option.some.injEq, Addr.mk.injEq, and_true, true_and] at h'
    obtain ⟨rfl, rfl⟩ := h'
    refine ⟨by rw [List.length_take, h.1]; omega, .inr ⟨g, cap, cur, rfl, hb, hg, by omega, hc, hs, ?_⟩⟩
    rw [← ht, List.take_take, Nat.min_eq_left hm]
/-- Cells laid behind the first ones. -/
theorem row_behind {base g cap n k : Nat} {e : TypeId} {size : Nat} : ∀ (vs : List Value) (o : Nat) (w : World) (xs : List Value), k * size ≤ o → w.ownsRow base e size (.slice (some ⟨g, 0, none⟩) n cap) n xs →
    ∃ xs', (w.setCells g o vs).ownsRow base e size (.slice (some ⟨g, 0, none⟩) n cap) n xs' ∧ xs'.take (k * size) = xs.take (k * size) ∧ w.grownBy (w.setCells g o vs) (some g)
  | [], o, w, xs, _, h => ⟨xs, h, rfl, grown_self _ _⟩
  | v :: vs, o, w, xs, ho, h => by
    obtain ⟨h1, h2⟩ := h.stored o v
    obtain ⟨xs', a1, a2, a3⟩ := row_behind vs (o + 1) _ _ (Nat.le_succ_of_le ho) h1
    refine ⟨xs', a1, ?_, grown_two h2 a3⟩
    rw [a2, List.take_set_of_le ho]


abbrev zeroRu : Value := .agg #[.bool false, .string ⟨#[]⟩, .string ⟨#[]⟩, .string ⟨#[]⟩]
theorem clear_ru {w : World} {base g cap n : Nat} {ys : List Value} (hrow : w.ownsRow base 135 4 (.slice (some ⟨g, 0, none⟩) n cap) n ys) (k c : Nat) (hk : k < n) :
    ∀ ty, (Builtin.clear_ #[83] ty #[.slice (some ⟨g, k * 4, none⟩) (n - k) c]).run Try.prog w = .ok (.tuple #[]) (w.setCells g (k * 4) (Builtin.zeroCells zeroRu.cells (n - k)).toList) := by
  intro ty
  have hl : (Builtin.zeroCells zeroRu.cells (n - k)).toList.length = (n - k) * 4 := by simp [Builtin.zeroCells, Value.cells]
  have hst := run_storeCells_cells (P := Try.prog) g (k * 4) (Builtin.zeroCells zeroRu.cells (n - k)).toList 0 w
    (fun j hj => by
      rw [hl] at hj
      rw [Nat.add_zero, hrow.cellAt (k * 4 + j) (by omega), List.getElem?_eq_getElem (by rw [hrow.1]; omega)]
      rfl)
    (fun j _ => by rw [Nat.add_zero]; exact hrow.frozenAt _)
    (fun v hv => by
      simp only [Builtin.zeroCells, Value.cells, Array.toList_map, List.mem_map] at hv
      obtain ⟨i, _, rfl⟩ := hv
      have h4 : i % 4 = 0 ∨ i % 4 = 1 ∨ i % 4 = 2 ∨ i % 4 = 3 := by omega
      show ((#[.bool false, .string ⟨#[]⟩, .string ⟨#[]⟩, .string ⟨#[]⟩] : Array Value)[i % 4]!).oneCell' = true
      rcases h4 with h | h | h | h <;> rw [h] <;> rfl)
  simp only [Nat.add_zero] at hst
  have hv : ∀ w, (zeroValue 135).run Try.prog w = .ok zeroRu w := fun w => by kernel_rfl
  obtain ⟨m, hm⟩ : ∃ m, n - k = m + 1 := ⟨n - k - 1, by omega⟩
  rw [hm] at hst ⊢
  simp [Builtin.clear_, run_underlying Try.underlying83, hv, hst]

end Go.Proofs.Ytnbojbcljfiamaa

namespace Go.Proofs.Ytnbojbcljfiamaa
open Go.RowKit Go.Shelf

theorem row_draws {w : World} {base : Nat} {e : TypeId} {size n : Nat} {v : Value} {xs : List Value} (h : w.ownsRow base e size v n xs) (q : Nat) : (w.drewN q).ownsRow base e size v n xs := h
theorem grown_draws {w W : World} {r : Option Nat} (h : w.grownBy W r) (q : Nat) : w.grownBy (W.drewN q) r := ⟨h.os, h.tape, h.output, h.size, h.block⟩
theorem ret_slc {a : Option Addr} {n m cap : Nat} (h : n = m) : Ending.returned (.slice a n cap) = .returned (.slice a m cap) := by rw [h]
theorem flat_take : ∀ (ys : List Ru) (k : Nat), (ys.flatMap Ru.cells).take (k * 4) = (ys.take k).flatMap Ru.cells
  | [], k => by simp
  | y :: ys, 0 => by simp
  | y :: ys, k + 1 => by
    rw [List.flatMap_cons, List.take_succ_cons, List.flatMap_cons, ← flat_take ys k, show (k + 1) * 4 = k * 4 + 4 by omega]
    rfl
theorem kp_one {rs : List Ru} {j : Nat} (h : j < 0 + 1) : kpB rs j = true := by
  obtain rfl : j = 0 := by omega
  rfl
theorem kp_false {rs : List Ru} {i : Nat} (h : i + 1 < rs.length) (hs : rs[i + 1].same rs[i] = true) : kpB rs (i + 1) = false := by rw [kpB_succ h, hs]; rfl
theorem kp_true {rs : List Ru} {i : Nat} (h : i + 1 < rs.length) (hs : rs[i + 1].same rs[i] = false) : kpB rs (i + 1) = true := by rw [kpB_succ h, hs]; rfl

end Go.Proofs.Ytnbojbcljfiamaa

namespace Go.Proofs.Ytnbojbcljfiamaa
open Go.RowKit Go.Shelf

def goodTo (rs : List Ru) (k : Nat) : Bool := (rs.take k).all Ru.good
/-- A list of rules is a policy. -/
def polB (rs : List Ru) : Bool := rs.all Ru.good && decide (rs.length ≤ 30)
theorem goodTo_zero (rs : List Ru) : goodTo rs 0 = true := by simp [goodTo]
theorem goodTo_succ {rs : List Ru} {k : Nat} (h : k < rs.length) : goodTo rs (k + 1) = (goodTo rs k && rs[k].good) := by
  unfold goodTo
  rw [List.take_succ_eq_append_getElem h, List.all_append]
  simp
theorem good_bad {rs : List Ru} {k : Nat} (h : k < rs.length) (hb : rs[k].good = false) : polB rs = false := by
  unfold polB
  rw [Bool.and_eq_false_iff]
  exact .inl (List.all_eq_false.2 ⟨rs[k], List.getElem_mem h, by simp [hb]⟩)
theorem good_end {rs : List Ru} (h : goodTo rs rs.length = true) : polB rs = decide (rs.length ≤ 30) := by
  unfold goodTo at h
  rw [List.take_length] at h
  unfold polB
  rw [h, Bool.true_and]

end Go.Proofs.Ytnbojbcljfiamaa

namespace Go.Proofs.Ytnbojbcljfiamaa
open Go.RowKit Go.Shelf

/-- A method of a rule takes this one in. -/
def cmB (a b : ByteArray) : Bool := starB a || eqB a b

end Go.Proofs.Ytnbojbcljfiamaa

namespace Go.Proofs.Ytnbojbcljfiamaa
open Go.RowKit Go.Shelf Go.Sort

/-- The plain policy. -/
def plX (rs : List Ru) : List Ru := if polB rs = true then plTo rs rs.length else []
theorem plX_no {rs : List Ru} (h : polB rs = false) : plX rs = [] := if_neg (by rw [h]; exact Bool.false_ne_true)
theorem plX_yes {rs : List Ru} (h : polB rs = true) : plX rs = plTo rs rs.length := if_pos h

theorem cells_one {rs : List Ru} : ∀ u ∈ rs.flatMap Ru.cells, u.oneCell' = true := by
  intro u hu
  rw [List.mem_flatMap] at hu
  obtain ⟨r, _, hr⟩ := hu
  simp at hr
  rcases hr with rfl | rfl | rfl | rfl <;> rfl
theorem pol_all {rs : List Ru} (h : polB rs = true) : (∀ r ∈ rs, r.good = true) ∧ rs.length ≤ 30 := by
  unfold polB at h
  rw [Bool.and_eq_true, List.all_eq_true] at h
  exact ⟨h.1, of_decide_eq_true h.2⟩

end Go.Proofs.Ytnbojbcljfiamaa
