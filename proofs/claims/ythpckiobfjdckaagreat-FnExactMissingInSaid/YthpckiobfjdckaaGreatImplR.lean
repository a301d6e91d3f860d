/-
  Chapter 2, the program's side: rules and calls that are good, and the text of a rule.
-/
import Derived.Maps.OwnOps
import Derived.Maps.Views
import Derived.Test.YthpckiobfjdckaaGreatRuleT
namespace Go.Proofs.YthpckiobfjdckaaGreat
open Go.RowKit Go.Shelf Go.WideMaps Go.Maps

/-- The methods that a rule may have, as the program's map holds them. -/
abbrev one1 : DataW Unit := .lit (.int .i64 1)
def kD : DataW Unit := (((DataW.map []).put (.string [103, 101, 116]) one1).put (.string [112, 117, 116]) one1).put (.string [42]) one1
def rmB (s : ByteArray) : Bool := mthB s || starB s
theorem key_str (l : List UInt8) : WideAt.IsKeyLit (.string l) := by trivial
theorem ne_str {a b : List UInt8} (h : a ≠ b) : Lit.string a ≠ .string b := fun e => h (by injection e)
theorem kD_yes {s : ByteArray} (h : rmB s = true) : kD.atKey (.string s.data.toList) (.lit (.int .i64 0)) = .lit (.int .i64 1) := by
  unfold kD
  by_cases h3 : s.data.toList = [42]
  · rw [h3]; exact atKey_put_same ((isMap_empty.put _ _).put _ _) (key_str _) _ _
  · rw [atKey_put_other (ne_str h3)]
    by_cases h2 : s.data.toList = [112, 117, 116]
    · rw [h2]; exact atKey_put_same (isMap_empty.put _ _) (key_str _) _ _
    · rw [atKey_put_other (ne_str h2)]
      by_cases h1 : s.data.toList = [103, 101, 116]
      · rw [h1]; exact atKey_put_same isMap_empty (key_str _) _ _
      · simp [rmB, mthB, getB, putB, starB, toList_data, h1, h2, h3] at h
theorem kD_no {s : ByteArray} (h : rmB s = false) : kD.atKey (.string s.data.toList) (.lit (.int .i64 0)) = .lit (.int .i64 0) := by
  simp [rmB, mthB, getB, putB, starB, toList_data] at h
  obtain ⟨⟨h1, h2⟩, h3⟩ := h
  unfold kD
  rw [atKey_put_other (ne_str h3), atKey_put_other (ne_str h2), atKey_put_other (ne_str h1)]
  rfl

theorem lawStr : Keyed Tryz.prog 9 := string_keyed Tryz.underlying9
theorem zeroInt (w : World) : (zeroValue 3).run Tryz.prog w = .ok (.int .i64 0) w := by kernel_rfl
theorem good_eq (r : Ru) : r.good = ((rmB r.method && nmB (split r.who 47)) && ptBs r.path) := by
  unfold Ru.good rmB
  cases nmB (split r.who 47) <;> cases ptBs r.path <;> cases (mthB r.method || starB r.method) <;> rfl

def rmI (s : ByteArray) : Int := if rmB s = true then 1 else 0

set_option maxRecDepth 10000 in
/-- The map that GoodRule tells as a literal: laid entry by entry, and asked. -/
theorem known_map (W : World) : ∃ w1 w2 w3 : World,
    (Instr.mapUpdate 118 (.map (some W.heap.size)) (.string ⟨#[103, 101, 116]⟩) (.int .i64 1)).run Tryz.prog (W.alloc (.map #[] 0)) = .ok () w1 ∧
    (Instr.mapUpdate 118 (.map (some W.heap.size)) (.string ⟨#[112, 117, 116]⟩) (.int .i64 1)).run Tryz.prog w1 = .ok () w2 ∧
    (Instr.mapUpdate 118 (.map (some W.heap.size)) (.string ⟨#[42]⟩) (.int .i64 1)).run Tryz.prog w2 = .ok () w3 ∧
    (∀ s : ByteArray, s.size ≤ maxLen → (Instr.lookup 118 (.map (some W.heap.size)) (.string s) false).run Tryz.prog w3 = .ok (.int .i64 (rmI s)) w3) ∧
    Below W.heap.size W w3 := by
  have hk : ∀ s : ByteArray, s.size ≤ maxLen → keyOf Tryz.prog 9 (.string s) = some (.string s.data.toList) := fun s h => keyOf_string_mk Tryz.underlying9 h
  have hv : plainElem (H := Unit) Tryz.prog 3 (.int .i64 1) = some (one1, []) := plainElem_int Tryz.underlying3 (by decide)
  have h0 := World.ownsMap_made W Tryz.prog 9 (plainElem (H := Unit) Tryz.prog 3)
  obtain ⟨w1, e1, o1, g1⟩ := h0.update lawStr Tryz.underlying118 (by decide) (hk ⟨#[103, 101, 116]⟩ (by decide)) hv
  obtain ⟨w2, e2, o2, g2⟩ := o1.update lawStr Tryz.underlying118 (by decide) (hk ⟨#[112, 117, 116]⟩ (by decide)) hv
  obtain ⟨w3, e3, o3, g3⟩ := o2.update lawStr Tryz.underlying118 (by decide) (hk ⟨#[42]⟩ (by decide)) hv
  have b0 : Below W.heap.size W (W.alloc (.map #[] 0)) := (Below.refl _ W).alloc (Nat.le_refl _) _
  have b1 := b0.grown g1 b0.size (fun j hj => by cases hj; exact Nat.le_refl _)
  have b2 := b1.grown g2 b1.size (fun j hj => by cases hj; exact Nat.le_refl _)
  have b3 := b2.grown g3 b2.size (fun j hj => by cases hj; exact Nat.le_refl _)
  refine ⟨w1, w2, w3, e1, e2, e3, fun s hs => ?_, b3⟩
  obtain ⟨c, hrun, hat, _⟩ := o3.lookup_int lawStr Tryz.underlying118 Tryz.underlying3 (zeroInt _) (hk s hs)
  have hat' : kD.atKey (.string s.data.toList) (.lit (.int .i64 0)) = .lit (.int .i64 c) := hat
  rw [hrun]
  unfold rmI
  cases hb : rmB s
  · rw [kD_no hb] at hat'
    injection hat' with h1
    injection h1 with _ h2
    rw [← h2]
    rfl
  · rw [kD_yes hb] at hat'
    injection hat' with h1
    injection h1 with _ h2
    rw [← h2]
    rfl

set_option maxHeartbeats 1000000 in
theorem implGoodRule_any (r : Ru) (w : World) (hs : r.size ≤ 1048576) :
    Calls Tryz.prog 94 #[r.val] w fun e w' => e = .returned (.bool r.good) ∧ Below w.heap.size w w' := by
  have hmm := @run_makeMap Tryz.prog
  have hw : r.who.size ≤ 1048576 := by unfold Ru.size at hs; omega
  have hp : r.path.size ≤ 1048576 := by unfold Ru.size at hs; omega
  have hm : r.method.size ≤ maxLen := by unfold Ru.size at hs; unfold maxLen; omega
  obtain ⟨w1, w2, w3, e1, e2, e3, hlk, hB⟩ := known_map (w.alloc (.cells #[.bool r.deny, .string r.who, .string r.method, .string r.path] 63))
  have hz : (w.alloc (.cells #[.bool r.deny, .string r.who, .string r.method, .string r.path] 63)).heap.size = w.heap.size + 1 := by simp
  rw [hz] at e1 e2 e3 hlk hB
  replace hlk := hlk r.method hm
  have q1 : w3.cell? ⟨w.heap.size, 1, none⟩ = some (.string r.who) := (hB.cell (p := ⟨w.heap.size, 1, none⟩) (by simp)).trans (by simp)
  have q2 : w3.cell? ⟨w.heap.size, 2, none⟩ = some (.string r.method) := (hB.cell (p := ⟨w.heap.size, 2, none⟩) (by simp)).trans (by simp)
  have q3 : w3.cell? ⟨w.heap.size, 3, none⟩ = some (.string r.path) := (hB.cell (p := ⟨w.heap.size, 3, none⟩) (by simp)).trans (by simp)
  have hz3 : w.heap.size < w3.heap.size := by have := hB.size; omega
  have hB0 : Below w.heap.size w w3 := ((Below.refl _ w).alloc (Nat.le_refl _) _).trans (hB.mono (by omega))
  clear hB hz
  cases h1 : rmB r.method
  · have HR := hid (show r.good = false by rw [good_eq, h1]; rfl)
    rw [show rmI r.method = 0 by unfold rmI; rw [h1]; rfl] at hlk
    go_enter Tryz.func94, Tryz.ntmps94
    go_wp2
    go_ret
    exact ⟨ret_bool HR.out.symm, hB0⟩
  · rw [show rmI r.method = 1 by unfold rmI; rw [h1]; rfl] at hlk
    cases h2 : nmB (split r.who 47)
    · have HR := hid (show r.good = false by rw [good_eq, h1, h2]; rfl)
      go_enter Tryz.func94, Tryz.ntmps94
      go_wp2_with fail
      refine (implGoodNamePattern_any _ _ hw).mono ?_
      rintro e w4 ⟨rfl, hB4⟩
      rw [h2]
      have hBB := below_one hB0 hB4
      go_wp2_with fail
      go_ret
      exact ⟨ret_bool HR.out.symm, hBB⟩
    · have HR := hid (show r.good = ptBs r.path by rw [good_eq, h1, h2]; rfl)
      go_enter Tryz.func94, Tryz.ntmps94
      go_wp2_with fail
      refine (implGoodNamePattern_any _ _ hw).mono ?_
      rintro e w4 ⟨rfl, hB4⟩
      rw [h2]
      have hBB := below_one hB0 hB4
      have q4 := (hB4.cell (p := ⟨w.heap.size, 3, none⟩) hz3).trans q3
      clear hB4
      go_wp2_with fail
      refine (implGoodPathPattern_any _ _ hp).mono ?_
      rintro e w5 ⟨rfl, hB5⟩
      go_wp2_with fail
      go_ret
      exact ⟨ret_bool HR.out.symm, below_one hBB hB5⟩

end Go.Proofs.YthpckiobfjdckaaGreat
