/-
  Chapter 2, the program's side: calls that are good, and the text of a rule.
-/
import Derived.Deep.RegionHeld3
import Derived.Test.YtnblnhlfifhkkaaGreatImplR
namespace Go.Proofs.YtnblnhlfifhkkaaGreat
open Go.RowKit Go.Shelf

set_option maxHeartbeats 400000 in
theorem goodMethod_any (s : ByteArray) (w : World) :
    Calls Tryz.prog 36 #[.string s] w fun e w' => e = .returned (.bool (mthB s)) ∧ w' = w := by
  cases b1 : getB s
  · have e1 : (s.toList == [103, 101, 116]) = false := b1
    have HR := hid (show mthB s = putB s by unfold mthB; rw [b1]; rfl)
    clear b1
    go_enter Tryz.func36, Tryz.ntmps36
    go_wp2
    go_ret
    exact ⟨ret_bool HR.out.symm, rfl⟩
  · have e1 : (s.toList == [103, 101, 116]) = true := b1
    have HR := hid (show mthB s = true by unfold mthB; rw [b1]; rfl)
    clear b1
    go_enter Tryz.func36, Tryz.ntmps36
    go_wp2
    go_ret
    exact ⟨ret_bool HR.out.symm, rfl⟩

theorem cgood_eq (c : Ca) : c.good = ((mthB c.method && gnB (split c.who 47)) && gpB c.path) := by
  unfold Ca.good
  cases gnB (split c.who 47) <;> cases gpB c.path <;> cases mthB c.method <;> rfl

set_option maxHeartbeats 1000000 in
theorem implGoodCall_any (r : Ca) (w : World) (hs : r.size ≤ 1048576) :
    Calls Tryz.prog 13 #[r.val] w fun e w' => e = .returned (.bool r.good) ∧ Below w.heap.size w w' := by
  have hw : r.who.size ≤ 1048576 := by unfold Ca.size at hs; omega
  have hp : r.path.size ≤ 1048576 := by unfold Ca.size at hs; omega
  have hBa : Below w.heap.size w (w.alloc (.cells #[.string r.who, .string r.method, .string r.path] 25)) := (Below.refl _ w).alloc (Nat.le_refl _) _
  have b2 : (w.alloc (.cells #[.string r.who, .string r.method, .string r.path] 25)).cell? ⟨w.heap.size, 2, none⟩ = some (.string r.path) := by simp
  have hz : w.heap.size < (w.alloc (.cells #[.string r.who, .string r.method, .string r.path] 25)).heap.size := by simp
  cases h1 : mthB r.method
  · have HR := hid (show r.good = false by rw [cgood_eq, h1]; rfl)
    go_enter Tryz.func13, Tryz.ntmps13
    go_wp2_with fail
    refine (goodMethod_any _ _).mono ?_
    rintro e w1 ⟨rfl, rfl⟩
    rw [h1]
    go_wp2_with fail
    go_ret
    exact ⟨ret_bool HR.out.symm, hBa⟩
  · cases h2 : gnB (split r.who 47)
    · have HR := hid (show r.good = false by rw [cgood_eq, h1, h2]; rfl)
      go_enter Tryz.func13, Tryz.ntmps13
      go_wp2_with fail
      refine (goodMethod_any _ _).mono ?_
      rintro e w1 ⟨rfl, rfl⟩
      rw [h1]
      go_wp2_with fail
      refine (implGoodName_any _ _ hw).mono ?_
      rintro e w4 ⟨rfl, hB4⟩
      rw [h2]
      have hBB := below_one hBa hB4
      go_wp2_with fail
      go_ret
      exact ⟨ret_bool HR.out.symm, hBB⟩
    · have HR := hid (show r.good = gpB r.path by rw [cgood_eq, h1, h2]; rfl)
      go_enter Tryz.func13, Tryz.ntmps13
      go_wp2_with fail
      refine (goodMethod_any _ _).mono ?_
      rintro e w1 ⟨rfl, rfl⟩
      rw [h1]
      go_wp2_with fail
      refine (implGoodName_any _ _ hw).mono ?_
      rintro e w4 ⟨rfl, hB4⟩
      rw [h2]
      have hBB := below_one hBa hB4
      have q4 := (hB4.cell (p := ⟨w.heap.size, 2, none⟩) hz).trans b2
      clear hB4 b2
      go_wp2_with fail
      refine (implGoodPath_any _ _ hp).mono ?_
      rintro e w5 ⟨rfl, hB5⟩
      go_wp2_with fail
      go_ret
      exact ⟨ret_bool HR.out.symm, below_one hBB hB5⟩

abbrev Ru.obj (r : Ru) : Obj := .cells #[.bool r.deny, .string r.who, .string r.method, .string r.path] 52

set_option maxHeartbeats 400000 in
theorem voiceOfA_any (a b c : ByteArray) (w : World) :
    Calls Tryz.prog 27 #[.agg #[.bool false, .string a, .string b, .string c]] w fun e w' => e = .returned (.iface 77 (.agg #[.bool false, .string a, .string b, .string c])) ∧ w' = w.alloc (.cells #[.bool false, .string a, .string b, .string c] 52) := by
  go_enter Tryz.func27, Tryz.ntmps27
  go_wp2
  go_ret
  exact ⟨rfl, rfl⟩

set_option maxHeartbeats 400000 in
theorem voiceOfD_any (a b c : ByteArray) (w : World) :
    Calls Tryz.prog 27 #[.agg #[.bool true, .string a, .string b, .string c]] w fun e w' => e = .returned (.iface 76 (.agg #[.bool true, .string a, .string b, .string c])) ∧ w' = w.alloc (.cells #[.bool true, .string a, .string b, .string c] 52) := by
  go_enter Tryz.func27, Tryz.ntmps27
  go_wp2
  go_ret
  exact ⟨rfl, rfl⟩

theorem methVerbA (v : Value) (w : World) : (method 229 77 v "loop.example/g00167/impl.verb").run Tryz.prog w = .ok (126, v) w := by kernel_rfl

set_option maxHeartbeats 400000 in
/-- (Asked by function 25 alone.) -/
theorem verbA_any (a b c : ByteArray) (w : World) :
    Calls Tryz.prog 126 #[.agg #[.bool false, .string a, .string b, .string c]] w fun e w' => e = .returned (.string ⟨#[97, 108, 108, 111, 119]⟩) ∧ w' = w.alloc (.cells #[.bool false, .string a, .string b, .string c] 77) := by
  go_enter Tryz.func126, Tryz.ntmps126
  go_wp2
  go_ret
  exact ⟨rfl, rfl⟩

theorem methVerbD (v : Value) (w : World) : (method 229 76 v "loop.example/g00167/impl.verb").run Tryz.prog w = .ok (112, v) w := by kernel_rfl

set_option maxHeartbeats 400000 in
/-- (Asked by function 25 alone.) -/
theorem verbD_any (a b c : ByteArray) (w : World) :
    Calls Tryz.prog 112 #[.agg #[.bool true, .string a, .string b, .string c]] w fun e w' => e = .returned (.string ⟨#[100, 101, 110, 121]⟩) ∧ w' = w.alloc (.cells #[.bool true, .string a, .string b, .string c] 76) := by
  go_enter Tryz.func112, Tryz.ntmps112
  go_wp2
  go_ret
  exact ⟨rfl, rfl⟩

set_option maxHeartbeats 1000000 in
theorem textOfRuleA_any (a b c : ByteArray) (w : World) (hs : a.size + b.size + c.size ≤ 1048576) :
    Calls Tryz.prog 25 #[.agg #[.bool false, .string a, .string b, .string c]] w fun e w' => e = .returned (.string (Ru.text ⟨false, a, b, c⟩)) ∧ Below w.heap.size w w' ∧ w.drawn ≤ w'.drawn := by
  have q0 : (w.alloc (.cells #[.bool false, .string a, .string b, .string c] 52)).cell? ⟨w.heap.size, 0, none⟩ = some (.bool false) := by simp
  have q1 : (w.alloc (.cells #[.bool false, .string a, .string b, .string c] 52)).cell? ⟨w.heap.size, 1, none⟩ = some (.string a) := by simp
  have q2 : (w.alloc (.cells #[.bool false, .string a, .string b, .string c] 52)).cell? ⟨w.heap.size, 2, none⟩ = some (.string b) := by simp
  have q3 : (w.alloc (.cells #[.bool false, .string a, .string b, .string c] 52)).cell? ⟨w.heap.size, 3, none⟩ = some (.string c) := by simp
  have hB : Below w.heap.size w (w.alloc (.cells #[.bool false, .string a, .string b, .string c] 52)) := (Below.refl _ w).alloc (Nat.le_refl _) _
  have hD := hid (show (w.alloc (.cells #[.bool false, .string a, .string b, .string c] 52)).drawn = w.drawn from rfl)
  have HT := hid (show (⟨#[97, 108, 108, 111, 119]⟩ : ByteArray) ++ ⟨#[32]⟩ ++ a ++ ⟨#[32]⟩ ++ b ++ ⟨#[32]⟩ ++ c = Ru.text ⟨false, a, b, c⟩ by
    unfold Ru.text
    rw [show (⟨#[97, 108, 108, 111, 119]⟩ : ByteArray) ++ ⟨#[32]⟩ = ⟨#[97, 108, 108, 111, 119, 32]⟩ from rfl]
    rfl)
  have hm := methVerbA
  have g1 : ¬9223372036854775807 < 6 + a.size := by omega
  have g2 : ¬9223372036854775807 < 6 + a.size + 1 := by omega
  have g3 : ¬9223372036854775807 < 6 + a.size + 1 + b.size := by omega
  have g4 : ¬9223372036854775807 < 6 + a.size + 1 + b.size + 1 := by omega
  have g5 : ¬9223372036854775807 < 6 + a.size + 1 + b.size + 1 + c.size := by omega
  go_enter Tryz.func25, Tryz.ntmps25
  go_wp2_with fail
  generalize (w.alloc (.cells #[.bool false, .string a, .string b, .string c] 52)) = W at *
  go_region_held3 (fun w' => w'.cell? ⟨w.heap.size, 0, none⟩ = some (.bool false) ∧ w'.cell? ⟨w.heap.size, 1, none⟩ = some (.string a) ∧ w'.cell? ⟨w.heap.size, 2, none⟩ = some (.string b) ∧ w'.cell? ⟨w.heap.size, 3, none⟩ = some (.string c)) (go_keep) (first | (go_at_call 27; refine (voiceOfA_any a b c _).mono ?_; rintro e w1 ⟨rfl, rfl⟩) | (go_at_call 126; refine (verbA_any a b c _).mono ?_; rintro e w1 ⟨rfl, rfl⟩))
  all_goals go_wp2
  all_goals go_ret
  all_goals exact ⟨ret_str HT.out, ((hB.alloc hB.size _).alloc (by have := hB.size; simp; omega) _).drew, by have h := hD.out; show w.drawn ≤ W.drawn + 1; omega⟩

set_option maxHeartbeats 1000000 in
theorem textOfRuleD_any (a b c : ByteArray) (w : World) (hs : a.size + b.size + c.size ≤ 1048576) :
    Calls Tryz.prog 25 #[.agg #[.bool true, .string a, .string b, .string c]] w fun e w' => e = .returned (.string (Ru.text ⟨true, a, b, c⟩)) ∧ Below w.heap.size w w' ∧ w.drawn ≤ w'.drawn := by
  have q0 : (w.alloc (.cells #[.bool true, .string a, .string b, .string c] 52)).cell? ⟨w.heap.size, 0, none⟩ = some (.bool true) := by simp
  have q1 : (w.alloc (.cells #[.bool true, .string a, .string b, .string c] 52)).cell? ⟨w.heap.size, 1, none⟩ = some (.string a) := by simp
  have q2 : (w.alloc (.cells #[.bool true, .string a, .string b, .string c] 52)).cell? ⟨w.heap.size, 2, none⟩ = some (.string b) := by simp
  have q3 : (w.alloc (.cells #[.bool true, .string a, .string b, .string c] 52)).cell? ⟨w.heap.size, 3, none⟩ = some (.string c) := by simp
  have hB : Below w.heap.size w (w.alloc (.cells #[.bool true, .string a, .string b, .string c] 52)) := (Below.refl _ w).alloc (Nat.le_refl _) _
  have hD := hid (show (w.alloc (.cells #[.bool true, .string a, .string b, .string c] 52)).drawn = w.drawn from rfl)
  have HT := hid (show (⟨#[100, 101, 110, 121]⟩ : ByteArray) ++ ⟨#[32]⟩ ++ a ++ ⟨#[32]⟩ ++ b ++ ⟨#[32]⟩ ++ c = Ru.text ⟨true, a, b, c⟩ by
    unfold Ru.text
    rw [show (⟨#[100, 101, 110, 121]⟩ : ByteArray) ++ ⟨#[32]⟩ = ⟨#[100, 101, 110, 121, 32]⟩ from rfl]
    rfl)
  have hm := methVerbD
  have g1 : ¬9223372036854775807 < 5 + a.size := by omega
  have g2 : ¬9223372036854775807 < 5 + a.size + 1 := by omega
  have g3 : ¬9223372036854775807 < 5 + a.size + 1 + b.size := by omega
  have g4 : ¬9223372036854775807 < 5 + a.size + 1 + b.size + 1 := by omega
  have g5 : ¬9223372036854775807 < 5 + a.size + 1 + b.size + 1 + c.size := by omega
  go_enter Tryz.func25, Tryz.ntmps25
  go_wp2_with fail
  generalize (w.alloc (.cells #[.bool true, .string a, .string b, .string c] 52)) = W at *
  go_region_held3 (fun w' => w'.cell? ⟨w.heap.size, 0, none⟩ = some (.bool true) ∧ w'.cell? ⟨w.heap.size, 1, none⟩ = some (.string a) ∧ w'.cell? ⟨w.heap.size, 2, none⟩ = some (.string b) ∧ w'.cell? ⟨w.heap.size, 3, none⟩ = some (.string c)) (go_keep) (first | (go_at_call 27; refine (voiceOfD_any a b c _).mono ?_; rintro e w1 ⟨rfl, rfl⟩) | (go_at_call 112; refine (verbD_any a b c _).mono ?_; rintro e w1 ⟨rfl, rfl⟩))
  all_goals go_wp2
  all_goals go_ret
  all_goals exact ⟨ret_str HT.out, ((hB.alloc hB.size _).alloc (by have := hB.size; simp; omega) _).drew, by have h := hD.out; show w.drawn ≤ W.drawn + 1; omega⟩

theorem textOfRule_any (r : Ru) (w : World) (hs : r.size ≤ 1048576) :
    Calls Tryz.prog 25 #[r.val] w fun e w' => e = .returned (.string r.text) ∧ Below w.heap.size w w' ∧ w.drawn ≤ w'.drawn := by
  obtain ⟨d, a, b, c⟩ := r
  cases d
  · exact textOfRuleA_any a b c w hs
  · exact textOfRuleD_any a b c w hs

end Go.Proofs.YtnblnhlfifhkkaaGreat
