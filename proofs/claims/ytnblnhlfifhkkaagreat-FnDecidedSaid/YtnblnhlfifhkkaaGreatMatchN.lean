/-
  Chapter 1's matching of names.
-/
import Derived.Deep.QuietTactic
import Derived.BigQuiet
import Derived.WalkSmall
import Derived.Test.YtnblnhlfifhkkaaGreatNameP
namespace Go.Proofs.YtnblnhlfifhkkaaGreat
open Go.RowKit Go.Shelf

theorem cell_lt {w : World} {g o : Nat} {v : Value} (h : w.cell? ⟨g, o, none⟩ = some v) : g < w.heap.size := by
  simp only [World.cell?] at h
  by_cases hl : g < w.heap.size
  · exact hl
  · rw [Array.getElem?_eq_none (by omega)] at h
    cases h
def eqB (x y : ByteArray) : Bool := x.toList == y.toList
/-- The piece x stands for y. -/
def stB (x y : ByteArray) : Bool := starB x || eqB x y
def mnB (l m : List ByteArray) : Bool := match l, m with
  | [x, y], [u, v] => stB x u && stB y v
  | _, _ => false

set_option maxHeartbeats 2000000 in
theorem l1MatchName_any (s t : ByteArray) (w : World) (hs : s.size ≤ 1048576) (ht : t.size ≤ 1048576) (x y u v : ByteArray) (he : split s 47 = [x, y]) (hf : split t 47 = [u, v]) :
    Calls Tryz.prog 61 #[.string s, .string t] w fun e w' => e = .returned (.bool (stB x u && stB y v)) ∧ Below w.heap.size w w' := by
  have HE := hid he
  have HF := hid hf
  clear he hf
  cases b1 : starB x
  · have e1 : (x.toList == [42]) = false := b1
    cases b2 : eqB x u
    · have e2 : (x.toList == u.toList) = false := b2
      have HR := hid (show (stB x u && stB y v) = false by unfold stB; rw [b1, b2]; rfl)
      clear b1 b2
      go_enter Tryz.func61, Tryz.ntmps61
      go_wp2_with fail
      refine (l1Split_any s 47 47 rfl _ hs).mono ?_
      rintro e w1 ⟨v1, rfl, hrow1, hB1⟩
      rw [HE.out] at hrow1
      obtain ⟨g, cap, rfl, hc0, hc1⟩ := row_two hrow1
      go_wp2_with fail
      refine (l1Split_any t 47 47 rfl _ ht).mono ?_
      rintro e w2 ⟨v2, rfl, hrow2, hB2⟩
      rw [HF.out] at hrow2
      obtain ⟨g2, cap2, rfl, hd0, hd1⟩ := row_two hrow2
      have hg : g < w1.heap.size := cell_lt hc0
      have hc0' := (hB2.cell (p := ⟨g, 0, none⟩) hg).trans hc0
      have hc1' := (hB2.cell (p := ⟨g, 1, none⟩) hg).trans hc1
      clear hc0 hc1 hrow1 hrow2
      go_wp2
      go_quiet (fail)
      go_wp2
      go_ret
      exact ⟨ret_bool HR.out.symm, below_drewN (hB1.trans (hB2.mono hB1.size)) _⟩
    · have e2 : (x.toList == u.toList) = true := b2
      cases b3 : starB y
      · have e3 : (y.toList == [42]) = false := b3
        have HR := hid (show (stB x u && stB y v) = (y.toList == v.toList) by unfold stB; rw [b1, b2, b3]; rfl)
        clear b3
        go_enter Tryz.func61, Tryz.ntmps61
        go_wp2_with fail
        refine (l1Split_any s 47 47 rfl _ hs).mono ?_
        rintro e w1 ⟨v1, rfl, hrow1, hB1⟩
        rw [HE.out] at hrow1
        obtain ⟨g, cap, rfl, hc0, hc1⟩ := row_two hrow1
        go_wp2_with fail
        refine (l1Split_any t 47 47 rfl _ ht).mono ?_
        rintro e w2 ⟨v2, rfl, hrow2, hB2⟩
        rw [HF.out] at hrow2
        obtain ⟨g2, cap2, rfl, hd0, hd1⟩ := row_two hrow2
        have hg : g < w1.heap.size := cell_lt hc0
        have hc0' := (hB2.cell (p := ⟨g, 0, none⟩) hg).trans hc0
        have hc1' := (hB2.cell (p := ⟨g, 1, none⟩) hg).trans hc1
        clear hc0 hc1 hrow1 hrow2
        go_wp2
        go_quiet (fail)
        go_wp2
        go_ret
        exact ⟨ret_bool HR.out.symm, below_drewN (hB1.trans (hB2.mono hB1.size)) _⟩
      · have e3 : (y.toList == [42]) = true := b3
        have HR := hid (show (stB x u && stB y v) = true by unfold stB; rw [b1, b2, b3]; rfl)
        clear b3
        go_enter Tryz.func61, Tryz.ntmps61
        go_wp2_with fail
        refine (l1Split_any s 47 47 rfl _ hs).mono ?_
        rintro e w1 ⟨v1, rfl, hrow1, hB1⟩
        rw [HE.out] at hrow1
        obtain ⟨g, cap, rfl, hc0, hc1⟩ := row_two hrow1
        go_wp2_with fail
        refine (l1Split_any t 47 47 rfl _ ht).mono ?_
        rintro e w2 ⟨v2, rfl, hrow2, hB2⟩
        rw [HF.out] at hrow2
        obtain ⟨g2, cap2, rfl, hd0, hd1⟩ := row_two hrow2
        have hg : g < w1.heap.size := cell_lt hc0
        have hc0' := (hB2.cell (p := ⟨g, 0, none⟩) hg).trans hc0
        have hc1' := (hB2.cell (p := ⟨g, 1, none⟩) hg).trans hc1
        clear hc0 hc1 hrow1 hrow2
        go_wp2
        go_quiet (fail)
        go_wp2
        go_ret
        exact ⟨ret_bool HR.out.symm, below_drewN (hB1.trans (hB2.mono hB1.size)) _⟩
  · have e1 : (x.toList == [42]) = true := b1
    cases b3 : starB y
    · have e3 : (y.toList == [42]) = false := b3
      have HR := hid (show (stB x u && stB y v) = (y.toList == v.toList) by unfold stB; rw [b1, b3]; rfl)
      clear b3
      go_enter Tryz.func61, Tryz.ntmps61
      go_wp2_with fail
      refine (l1Split_any s 47 47 rfl _ hs).mono ?_
      rintro e w1 ⟨v1, rfl, hrow1, hB1⟩
      rw [HE.out] at hrow1
      obtain ⟨g, cap, rfl, hc0, hc1⟩ := row_two hrow1
      go_wp2_with fail
      refine (l1Split_any t 47 47 rfl _ ht).mono ?_
      rintro e w2 ⟨v2, rfl, hrow2, hB2⟩
      rw [HF.out] at hrow2
      obtain ⟨g2, cap2, rfl, hd0, hd1⟩ := row_two hrow2
      have hg : g < w1.heap.size := cell_lt hc0
      have hc0' := (hB2.cell (p := ⟨g, 0, none⟩) hg).trans hc0
      have hc1' := (hB2.cell (p := ⟨g, 1, none⟩) hg).trans hc1
      clear hc0 hc1 hrow1 hrow2
      go_wp2
      go_quiet (fail)
      go_wp2
      go_ret
      exact ⟨ret_bool HR.out.symm, below_drewN (hB1.trans (hB2.mono hB1.size)) _⟩
    · have e3 : (y.toList == [42]) = true := b3
      have HR := hid (show (stB x u && stB y v) = true by unfold stB; rw [b1, b3]; rfl)
      clear b3
      go_enter Tryz.func61, Tryz.ntmps61
      go_wp2_with fail
      refine (l1Split_any s 47 47 rfl _ hs).mono ?_
      rintro e w1 ⟨v1, rfl, hrow1, hB1⟩
      rw [HE.out] at hrow1
      obtain ⟨g, cap, rfl, hc0, hc1⟩ := row_two hrow1
      go_wp2_with fail
      refine (l1Split_any t 47 47 rfl _ ht).mono ?_
      rintro e w2 ⟨v2, rfl, hrow2, hB2⟩
      rw [HF.out] at hrow2
      obtain ⟨g2, cap2, rfl, hd0, hd1⟩ := row_two hrow2
      have hg : g < w1.heap.size := cell_lt hc0
      have hc0' := (hB2.cell (p := ⟨g, 0, none⟩) hg).trans hc0
      have hc1' := (hB2.cell (p := ⟨g, 1, none⟩) hg).trans hc1
      clear hc0 hc1 hrow1 hrow2
      go_wp2
      go_quiet (fail)
      go_wp2
      go_ret
      exact ⟨ret_bool HR.out.symm, below_drewN (hB1.trans (hB2.mono hB1.size)) _⟩

end Go.Proofs.YtnblnhlfifhkkaaGreat
