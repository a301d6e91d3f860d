/-
  Chapter 1's covering of path patterns and matching of paths: both programs answer alike.
-/
import Derived.Test.YtnblnhlfifhkkaaGreatNameM
import Derived.Test.YtnblnhlfifhkkaaGreatSpecPath
namespace Go.Proofs.YtnblnhlfifhkkaaGreat
open Go.RowKit Go.Shelf

def cpOk (s t : ByteArray) : Bool := ptBs s && ptBs t
/-- A path pattern covers another. -/
def cpB (s t : ByteArray) : Bool := cpOk s t && cvB (ptLs s) (ptLs t)
/-- A path pattern matches a path. -/
def mtpB (s t : ByteArray) : Bool := (cpOk s t && cpB s t) && gpB t

set_option maxHeartbeats 1000000 in
theorem implCoversPath_any (s t : ByteArray) (w : World) (hs : s.size ≤ 1048576) (ht : t.size ≤ 1048576) :
    Calls Tryz.prog 116 #[.string s, .string t] w fun e w' => e = .returned (.tuple #[.bool (cpB s t), .bool (cpOk s t)]) ∧ Below w.heap.size w w' := by
  have hl : (ptLs s).length ≤ 1048577 := Nat.le_trans (ptLs_len s) (by omega)
  have hl' : (ptLs t).length ≤ 1048577 := Nat.le_trans (ptLs_len t) (by omega)
  cases h1 : ptBs s
  · have HR := hid (show cpB s t = false by unfold cpB cpOk; rw [h1]; rfl)
    have HO := hid (show cpOk s t = false by unfold cpOk; rw [h1]; rfl)
    go_enter Tryz.func116, Tryz.ntmps116
    go_wp2_with fail
    refine (wordsOfPath_any s _ hs).mono ?_
    rintro e w1 ⟨v1, rfl, hrow1, hB1⟩
    go_wp2_with fail
    refine (wordsOfPath_any t _ ht).mono ?_
    rintro e w2 ⟨v2, rfl, hrow2, hB2⟩
    go_wp2_with fail
    go_ret2
    exact ⟨ret_bools HR.out.symm HO.out.symm, hB1.trans (hB2.mono hB1.size)⟩
  · cases h2 : ptBs t
    · have HR := hid (show cpB s t = false by unfold cpB cpOk; rw [h1, h2]; rfl)
      have HO := hid (show cpOk s t = false by unfold cpOk; rw [h1, h2]; rfl)
      go_enter Tryz.func116, Tryz.ntmps116
      go_wp2_with fail
      refine (wordsOfPath_any s _ hs).mono ?_
      rintro e w1 ⟨v1, rfl, hrow1, hB1⟩
      go_wp2_with fail
      refine (wordsOfPath_any t _ ht).mono ?_
      rintro e w2 ⟨v2, rfl, hrow2, hB2⟩
      go_wp2_with fail
      go_ret2
      exact ⟨ret_bools HR.out.symm HO.out.symm, hB1.trans (hB2.mono hB1.size)⟩
    · have HR := hid (show cpB s t = cvB (ptLs s) (ptLs t) by unfold cpB cpOk; rw [h1, h2]; rfl)
      have HO := hid (show cpOk s t = true by unfold cpOk; rw [h1, h2]; rfl)
      go_enter Tryz.func116, Tryz.ntmps116
      go_wp2_with fail
      refine (wordsOfPath_any s _ hs).mono ?_
      rintro e w1 ⟨v1, rfl, hrow1, hB1⟩
      go_wp2_with fail
      refine (wordsOfPath_any t _ ht).mono ?_
      rintro e w2 ⟨v2, rfl, hrow2, hB2⟩
      go_wp2_with fail
      refine (coversWords_any _ _ _ _ _ _ _ hl hl' (ownsRow_below hrow1 hB2) hrow2).mono ?_
      rintro e w3 ⟨rfl, hB3⟩
      go_wp2_with fail
      go_ret2
      exact ⟨ret_bools HR.out.symm HO.out.symm, (hB1.trans (hB2.mono hB1.size)).trans (hB3.mono (Nat.le_trans hB1.size hB2.size))⟩

set_option maxHeartbeats 1000000 in
theorem implMatchPath_any (s t : ByteArray) (w : World) (hs : s.size ≤ 1048576) (ht : t.size ≤ 1048576) :
    Calls Tryz.prog 119 #[.string s, .string t] w fun e w' => e = .returned (.bool (mtpB s t)) ∧ Below w.heap.size w w' := by
  cases h1 : cpOk s t
  · have HR := hid (show mtpB s t = false by unfold mtpB; rw [h1]; rfl)
    go_enter Tryz.func119, Tryz.ntmps119
    go_wp2_with (go_at_call 116; refine (implCoversPath_any s t _ hs ht).mono ?_; rintro e w1 ⟨rfl, hB1⟩)
    go_ret
    exact ⟨ret_bool HR.out.symm, hB1⟩
  · cases h2 : cpB s t
    · have HR := hid (show mtpB s t = false by unfold mtpB; rw [h1, h2]; rfl)
      go_enter Tryz.func119, Tryz.ntmps119
      go_wp2_with (go_at_call 116; refine (implCoversPath_any s t _ hs ht).mono ?_; rintro e w1 ⟨rfl, hB1⟩)
      go_ret
      exact ⟨ret_bool HR.out.symm, hB1⟩
    · have HR := hid (show mtpB s t = gpB t by unfold mtpB; rw [h1, h2]; rfl)
      go_enter Tryz.func119, Tryz.ntmps119
      go_wp2_with (first | (go_at_call 116; refine (implCoversPath_any s t _ hs ht).mono ?_; rintro e w1 ⟨rfl, hB1⟩) | (go_at_call 38; refine (implGoodPath_any t _ ht).mono ?_; rintro e w2 ⟨rfl, hB2⟩))
      go_ret
      exact ⟨ret_bool HR.out.symm, hB1.trans (hB2.mono hB1.size)⟩

theorem ret_slice {a : Option Addr} {n m cap : Nat} {b c : Bool} (h : n = m) (h' : b = c) : Ending.returned (.tuple #[.slice a n cap, .bool b]) = .returned (.tuple #[.slice a m cap, .bool c]) := by rw [h, h']

/-- The end of two stars, and what stands ahead of it. -/
def opB (xs : List ByteArray) : Bool := match xs.getLast? with
  | some x => star2B x
  | none => false
def oL (xs : List ByteArray) : List ByteArray := if opB xs = true then xs.dropLast else xs
theorem opB_last {xs : List ByteArray} (h : 0 < xs.length) : opB xs = star2B (xs[xs.length - 1]'(by omega)) := by
  unfold opB
  rw [List.getLast?_eq_getElem?, List.getElem?_eq_getElem (by omega)]
theorem oL_no {xs : List ByteArray} (h : opB xs = false) : oL xs = xs := if_neg (by rw [h]; exact Bool.false_ne_true)
theorem oL_yes {xs : List ByteArray} (h : opB xs = true) : oL xs = xs.dropLast := if_pos h
theorem oL_len (xs : List ByteArray) : (oL xs).length ≤ xs.length := by
  unfold oL
  split
  · simp
  · exact Nat.le_refl _
theorem oL_at {xs : List ByteArray} {k : Nat} (h : k < (oL xs).length) : (oL xs)[k] = xs[k]'(Nat.lt_of_lt_of_le h (oL_len xs)) := by
  cases ho : opB xs
  · simp [oL_no ho]
  · simp [oL_yes ho]

set_option maxHeartbeats 1000000 in
theorem l1Open_any (a : Option Addr) (cap : Nat) (xs : List ByteArray) (base : Nat) (w : World) (hl : xs.length ≤ 1048577) (hrow : w.ownsRow base 9 1 (.slice a xs.length cap) xs.length (xs.map Value.string)) :
    Calls Tryz.prog 79 #[.slice a xs.length cap] w fun e w' => e = .returned (.tuple #[.slice a (oL xs).length cap, .bool (opB xs)]) ∧ w' = w := by
  by_cases h0 : 0 < xs.length
  · obtain ⟨g, rfl⟩ : ∃ g, a = some ⟨g, 0, none⟩ := by
      rcases hrow.2 with ⟨_, h0⟩ | ⟨g, _, _, hv, _⟩
      · omega
      · cases hv; exact ⟨g, rfl⟩
    have hc := row_cell hrow (xs.length - 1) (by omega)
    have hcap : xs.length ≤ cap := by
      rcases hrow.2 with ⟨_, h0⟩ | ⟨g, _, _, hv, _, _, hle, _⟩
      · omega
      · cases hv; exact hle
    have hb := opB_last h0
    cases ho : opB xs
    · rw [ho] at hb
      have e1 : (xs[xs.length - 1].toList == [42, 42]) = false := hb.symm
      have HL := hid (oL_no ho)
      clear hb
      go_enter Tryz.func79, Tryz.ntmps79
      go_wp2
      go_ret2
      exact ⟨ret_slice (by rw [HL.out]) rfl, rfl⟩
    · rw [ho] at hb
      have e1 : (xs[xs.length - 1].toList == [42, 42]) = true := hb.symm
      have HL := hid (oL_yes ho)
      clear hb
      go_enter Tryz.func79, Tryz.ntmps79
      go_wp2
      go_ret2
      exact ⟨ret_slice (by rw [HL.out]; simp) rfl, rfl⟩
  · have hn : xs = [] := List.eq_nil_of_length_eq_zero (by omega)
    subst hn
    go_enter Tryz.func79, Tryz.ntmps79
    go_wp2
    go_ret2
    exact ⟨rfl, rfl⟩

end Go.Proofs.YtnblnhlfifhkkaaGreat
