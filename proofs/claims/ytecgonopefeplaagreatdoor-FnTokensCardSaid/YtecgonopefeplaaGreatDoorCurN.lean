/-
  Names and numbers that the wide laws draw for tokens.
-/
import Derived.Test.YtecgonopefeplaaGreatDoorCur
namespace Go.Proofs.YtecgonopefeplaaGreatDoor
open Go.RowKit Go.Shelf

/-- A text that does not begin with an n. -/
def noN (x : ByteArray) : Prop := x.data.toList.head? ≠ some 110

set_option maxHeartbeats 1000000 in
theorem drawNm_any (b : Nat) (a : Option Addr) (n c k : Nat) (w : World) (hB : ByS w a n) (hC : CurB w b a n c k) (hk : k ≤ 10000000) :
    Calls Tryz.prog 44 #[.pointer (some ⟨b, 0, none⟩)] w fun e w' => ∃ x : ByteArray, (x.size ≤ 100 ∧ noN x) ∧ e = .returned (.string x) ∧ ByS w' a n ∧ (∃ k', k' ≤ k + 10 ∧ CurB w' b a n c k') ∧ w.grownBy w' (some b) := by
  go_enter Tryz.func44, Tryz.ntmps44
  go_wp2_with fail
  refine (one_any b a n c k 30 w (by omega) (by omega) hB hC (by omega)).mono ?_
  rintro e w1 ⟨z, rfl, hC1, hg1⟩
  have hB1 := curB_grown hB hC.apart hC.lt hg1
  cases z
  · go_wp2_with fail
    refine (ofNew_any b a n c (k + 1) [⟨#[112, 114, 111, 100]⟩, ⟨#[100, 101, 118]⟩] w1 (by decide) (by decide) hB1 hC1 (by omega)).mono ?_
    rintro e w2 ⟨x, hx, rfl, hB2, hC2, hg2⟩
    have HX := hid hx
    have hzx : x.size ≤ 4 := by
      simp only [List.mem_cons, List.mem_nil_iff, or_false] at hx
      rcases hx with rfl | rfl <;> decide
    clear hx
    go_wp2_with fail
    refine (ofNew_any b a n c (k + 1 + 1) [⟨#[119, 101, 98]⟩, ⟨#[97, 112, 105]⟩, ⟨#[100, 98]⟩] w2 (by decide) (by decide) hB2 hC2 (by omega)).mono ?_
    rintro e w3 ⟨y, hy, rfl, hB3, hC3, hg3⟩
    have hzy : y.size ≤ 4 := by
      simp only [List.mem_cons, List.mem_nil_iff, or_false] at hy
      rcases hy with rfl | rfl | rfl <;> decide
    have hz : (x ++ ⟨#[47]⟩ ++ y).size ≤ 100 ∧ noN (x ++ ⟨#[47]⟩ ++ y) := by
      have hx := HX.out
      simp only [List.mem_cons, List.mem_nil_iff, or_false] at hx hy
      unfold noN
      rcases hx with rfl | rfl <;> rcases hy with rfl | rfl | rfl <;> decide +kernel
    clear hy HX
    go_wp2_with fail
    go_ret
    exact ⟨_, hz, rfl, hB3, ⟨_, by omega, hC3⟩, g2 (g2 hg1 hg2) hg3⟩
  · go_wp2_with fail
    refine (ofNew_any b a n c (k + 1) [⟨#[]⟩, ⟨#[97]⟩, ⟨#[97, 47, 98, 47, 99]⟩, ⟨#[65, 47, 98]⟩, ⟨#[97, 47]⟩] w1 (by decide) (by decide) hB1 hC1 (by omega)).mono ?_
    rintro e w2 ⟨x, hx, rfl, hB2, hC2, hg2⟩
    have hz : x.size ≤ 100 ∧ noN x := by
      simp only [List.mem_cons, List.mem_nil_iff, or_false] at hx
      unfold noN
      rcases hx with rfl | rfl | rfl | rfl | rfl <;> decide +kernel
    clear hx
    go_wp2_with fail
    go_ret
    exact ⟨x, hz, rfl, hB2, ⟨_, by omega, hC2⟩, g2 hg1 hg2⟩

theorem row_newI (w : World) (zs : List Int) (h : zs.length ≤ maxLen) : (w.alloc (.cells (zs.map (Value.int .i64)).toArray 3)).ownsRow w.heap.size 3 1 (.slice (some ⟨w.heap.size, 0, none⟩) zs.length zs.length) zs.length (zs.map (Value.int .i64)) :=
  ⟨by simp, .inr ⟨w.heap.size, zs.length, (zs.map (Value.int .i64)).toArray, rfl, Nat.le_refl _, by show (w.heap.push _)[w.heap.size]? = _; rw [Array.getElem?_push_size], Nat.le_refl _, h, by simp, by simp [List.take_of_length_le]⟩⟩

set_option maxHeartbeats 1000000 in
theorem among_any (b : Nat) (a : Option Addr) (n c k : Nat) (zs : List Int) (base : Nat) (v : Value) (w : World) (hm : 2 ≤ zs.length) (hm2 : zs.length ≤ 200) (hbb : b < base) (hB : ByS w a n) (hC : CurB w b a n c k) (hk : k ≤ 100000000)
    (hrow : w.ownsRow base 3 1 v zs.length (zs.map (Value.int .i64))) :
    Calls Tryz.prog 47 #[.pointer (some ⟨b, 0, none⟩), v] w fun e w' => ∃ z ∈ zs, e = .returned (.int .i64 z) ∧ CurB w' b a n c (k + 1) ∧ w.grownBy w' (some b) := by
  rcases hrow.2 with ⟨_, h'⟩ | ⟨g, cap, cur, rfl, hg, _, hcap, _⟩
  · omega
  · go_enter Tryz.func47, Tryz.ntmps47
    go_wp2_with fail
    refine (pick_any b a n c k zs.length _ hm hm2 hB hC hk).mono ?_
    rintro e w1 ⟨x, hx, rfl, hC1, hg1⟩
    have hrow1 := hrow.kept hg1 (.inr (by simp [Value.ownBlock]; omega))
    have hc : w1.cell? ⟨g, x, none⟩ = some (.int .i64 zs[x]) := by
      rw [hrow1.cellAt x (by omega), List.getElem?_map, List.getElem?_eq_getElem hx]
      rfl
    go_wp2_with fail
    go_ret
    exact ⟨_, List.getElem_mem hx, rfl, hC1, hg1⟩

/-- One of the numbers of a list that is made at once. -/
theorem amongNew_any (b : Nat) (a : Option Addr) (n c k : Nat) (zs : List Int) (w : World) (hm : 2 ≤ zs.length) (hm2 : zs.length ≤ 200) (hB : ByS w a n) (hC : CurB w b a n c k) (hk : k ≤ 100000000) :
    Calls Tryz.prog 47 #[.pointer (some ⟨b, 0, none⟩), .slice (some ⟨w.heap.size, 0, none⟩) zs.length zs.length] (w.alloc (.cells (zs.map (Value.int .i64)).toArray 3)) fun e w' => ∃ z ∈ zs, e = .returned (.int .i64 z) ∧ ByS w' a n ∧ CurB w' b a n c (k + 1) ∧ w.grownBy w' (some b) := by
  have hBl : Below w.heap.size w (w.alloc (.cells (zs.map (Value.int .i64)).toArray 3)) := (Below.refl _ w).alloc (Nat.le_refl _) _
  have hC' := hC.below hBl
  refine (among_any b a n c k zs w.heap.size _ _ hm hm2 hC.lt (hB.below hBl) hC' hk (row_newI w zs (by unfold maxLen; omega))).mono ?_
  rintro e w1 ⟨x, hx, rfl, hC1, hg1⟩
  exact ⟨x, hx, rfl, curB_grown (hB.below hBl) hC.apart hC'.lt hg1, hC1, g2 (gB (gS w _) hBl) hg1⟩

end Go.Proofs.YtecgonopefeplaaGreatDoor
