/-
  Chapter 2, the program's side: calls that are good, and the text of a rule.
-/
import Derived.Deep.RegionHeld3
import Derived.Test.YthpckiobfjdckaaGreatImplR
namespace Go.Proofs.YthpckiobfjdckaaGreat
open Go.RowKit Go.Shelf

theorem cgood_eq (c : Ca) : c.good = ((mthB c.method && gnB (split c.who 47)) && gpB c.path) := by
  unfold Ca.good
  cases gnB (split c.who 47) <;> cases gpB c.path <;> cases mthB c.method <;> rfl

abbrev Ru.obj (r : Ru) : Obj := .cells #[.bool r.deny, .string r.who, .string r.method, .string r.path] 63

set_option maxHeartbeats 400000 in
theorem voiceOfA_any (a b c : ByteArray) (w : World) :
    Calls Tryz.prog 98 #[.agg #[.bool false, .string a, .string b, .string c]] w fun e w' => e = .returned (.iface 132 (.agg #[.bool false, .string a, .string b, .string c])) ∧ w' = w.alloc (.cells #[.bool false, .string a, .string b, .string c] 63) := by
  go_enter Tryz.func98, Tryz.ntmps98
  go_wp2
  go_ret
  exact ⟨rfl, rfl⟩

set_option maxHeartbeats 400000 in
theorem voiceOfD_any (a b c : ByteArray) (w : World) :
    Calls Tryz.prog 98 #[.agg #[.bool true, .string a, .string b, .string c]] w fun e w' => e = .returned (.iface 131 (.agg #[.bool true, .string a, .string b, .string c])) ∧ w' = w.alloc (.cells #[.bool true, .string a, .string b, .string c] 63) := by
  go_enter Tryz.func98, Tryz.ntmps98
  go_wp2
  go_ret
  exact ⟨rfl, rfl⟩

theorem methVerbA (v : Value) (w : World) : (method 276 132 v "loop.example/g00167/impl.verb").run Tryz.prog w = .ok (171, v) w := by kernel_rfl

set_option maxHeartbeats 400000 in
/-- (Asked by function 76 alone.) -/
theorem verbA_any (a b c : ByteArray) (w : World) :
    Calls Tryz.prog 171 #[.agg #[.bool false, .string a, .string b, .string c]] w fun e w' => e = .returned (.string ⟨#[97, 108, 108, 111, 119]⟩) ∧ w' = w.alloc (.cells #[.bool false, .string a, .string b, .string c] 132) := by
  go_enter Tryz.func171, Tryz.ntmps171
  go_wp2
  go_ret
  exact ⟨rfl, rfl⟩

theorem methVerbD (v : Value) (w : World) : (method 276 131 v "loop.example/g00167/impl.verb").run Tryz.prog w = .ok (167, v) w := by kernel_rfl

set_option maxHeartbeats 400000 in
/-- (Asked by function 76 alone.) -/
theorem verbD_any (a b c : ByteArray) (w : World) :
    Calls Tryz.prog 167 #[.agg #[.bool true, .string a, .string b, .string c]] w fun e w' => e = .returned (.string ⟨#[100, 101, 110, 121]⟩) ∧ w' = w.alloc (.cells #[.bool true, .string a, .string b, .string c] 131) := by
  go_enter Tryz.func167, Tryz.ntmps167
  go_wp2
  go_ret
  exact ⟨rfl, rfl⟩

set_option maxHeartbeats 1000000 in
theorem textOfRuleA_any (a b c : ByteArray) (w : World) (hs : a.size + b.size + c.size ≤ 1048576) :
    Calls Tryz.prog 76 #[.agg #[.bool false, .string a, .string b, .string c]] w fun e w' => e = .returned (.string (Ru.text ⟨false, a, b, c⟩)) ∧ Below w.heap.size w w' ∧ w.drawn ≤ w'.drawn := by
  have q0 : (w.alloc (.cells #[.bool false, .string a, .string b, .string c] 63)).cell? ⟨w.heap.size, 0, none⟩ = some (.bool false) := by simp
  have q1 : (w.alloc (.cells #[.bool false, .string a, .string b, .string c] 63)).cell? ⟨w.heap.size, 1, none⟩ = some (.string a) := by simp
  have q2 : (w.alloc (.cells #[.bool false, .string a, .string b, .string c] 63)).cell? ⟨w.heap.size, 2, none⟩ = some (.string b) := by simp
  have q3 : (w.alloc (.cells #[.bool false, .string a, .string b, .string c] 63)).cell? ⟨w.heap.size, 3, none⟩ = some (.string c) := by simp
  have hB : Below w.heap.size w (w.alloc (.cells #[.bool false, .string a, .string b, .string c] 63)) := (Below.refl _ w).alloc (Nat.le_refl _) _
  have hD := hid (show (w.alloc (.cells #[.bool false, .string a, .string b, .string c] 63)).drawn = w.drawn from rfl)
  have HT := hid (show (⟨#[97, 108, 108, 111, 119]⟩ : ByteArray) ++ ⟨#[32]⟩ ++ a ++ ⟨#[32]⟩ ++ b ++ ⟨#[32]⟩ ++ c = Ru.text ⟨false, a, b, c⟩ by
    unfold Ru.text
    rw [show (⟨#[97, 108, 108, 111, 119]⟩ : ByteArray) ++ ⟨#[32]⟩ = ⟨#[97, 108, 108, 111, 119, 32]⟩ from rfl]
    rfl)
  have hm := methVerbA
  have g1 : ¬9223372036854775807 < 6 + a.size := by omega
  have g2 : ¬9223372036854775807 < 6 + a.size + 1 := by omega
  have g3 : ¬9223372036854775807 < 6 + a.size + 1 + b.size := by omega
  have g4 : ¬9223372036854775807 < 6 + a.size + 1 + b.size + 1 := by omega
  have g5 : ¬9223372036854775807 < 6 + a.size + 1 + b.size + 1 + c.size := by omega
  go_enter Tryz.func76, Tryz.ntmps76
  go_wp2_with fail
  generalize (w.alloc (.cells #[.bool false, .string a, .string b, .string c] 63)) = W at *
  go_region_held3 (fun w' => w'.cell? ⟨w.heap.size, 0, none⟩ = some (.bool false) ∧ w'.cell? ⟨w.heap.size, 1, none⟩ = some (.string a) ∧ w'.cell? ⟨w.heap.size, 2, none⟩ = some (.string b) ∧ w'.cell? ⟨w.heap.size, 3, none⟩ = some (.string c)) (go_keep) (first | (go_at_call 98; refine (voiceOfA_any a b c _).mono ?_; rintro e w1 ⟨rfl, rfl⟩) | (go_at_call 171; refine (verbA_any a b c _).mono ?_; rintro e w1 ⟨rfl, rfl⟩))
  all_goals go_wp2
  all_goals go_ret
  all_goals exact ⟨ret_str HT.out, ((hB.alloc hB.size _).alloc (by have := hB.size; simp; omega) _).drew, by have h := hD.out; show w.drawn ≤ W.drawn + 1; omega⟩

set_option maxHeartbeats 1000000 in
theorem textOfRuleD_any (a b c : ByteArray) (w : World) (hs : a.size + b.size + c.size ≤ 1048576) :
    Calls Tryz.prog 76 #[.agg #[.bool true, .string a, .string b, .string c]] w fun e w' => e = .returned (.string (Ru.text ⟨true, a, b, c⟩)) ∧ Below w.heap.size w w' ∧ w.drawn ≤ w'.drawn := by
  have q0 : (w.alloc (.cells #[.bool true, .string a, .string b, .string c] 63)).cell? ⟨w.heap.size, 0, none⟩ = some (.bool true) := by simp
  have q1 : (w.alloc (.cells #[.bool true, .string a, .string b, .string c] 63)).cell? ⟨w.heap.size, 1, none⟩ = some (.string a) := by simp
  have q2 : (w.alloc (.cells #[.bool true, .string a, .string b, .string c] 63)).cell? ⟨w.heap.size, 2, none⟩ = some (.string b) := by simp
  have q3 : (w.alloc (.cells #[.bool true, .string a, .string b, .string c] 63)).cell? ⟨w.heap.size, 3, none⟩ = some (.string c) := by simp
  have hB : Below w.heap.size w (w.alloc (.cells #[.bool true, .string a, .string b, .string c] 63)) := (Below.refl _ w).alloc (Nat.le_refl _) _
  have hD := hid (show (w.alloc (.cells #[.bool true, .string a, .string b, .string c] 63)).drawn = w.drawn from rfl)
  have HT := hid (show (⟨#[100, 101, 110, 121]⟩ : ByteArray) ++ ⟨#[32]⟩ ++ a ++ ⟨#[32]⟩ ++ b ++ ⟨#[32]⟩ ++ c = Ru.text ⟨true, a, b, c⟩ by
    unfold Ru.text
    rw [show (⟨#[100, 101, 110, 121]⟩ : ByteArray) ++ ⟨#[32]⟩ = ⟨#[100, 101, 110, 121, 32]⟩ from rfl]
    rfl)
  have hm := methVerbD
  have g1 : ¬9223372036854775807 < 5 + a.size := by omega
  have g2 : ¬9223372036854775807 < 5 + a.size + 1 := by omega
  have g3 : ¬9223372036854775807 < 5 + a.size + 1 + b.size := by omega
  have g4 : ¬9223372036854775807 < 5 + a.size + 1 + b.size + 1 := by omega
  have g5 : ¬9223372036854775807 < 5 + a.size + 1 + b.size + 1 + c.size := by omega
  go_enter Tryz.func76, Tryz.ntmps76
  go_wp2_with fail
  generalize (w.alloc (.cells #[.bool true, .string a, .string b, .string c] 63)) = W at *
  go_region_held3 (fun w' => w'.cell? ⟨w.heap.size, 0, none⟩ = some (.bool true) ∧ w'.cell? ⟨w.heap.size, 1, none⟩ = some (.string a) ∧ w'.cell? ⟨w.heap.size, 2, none⟩ = some (.string b) ∧ w'.cell? ⟨w.heap.size, 3, none⟩ = some (.string c)) (go_keep) (first | (go_at_call 98; refine (voiceOfD_any a b c _).mono ?_; rintro e w1 ⟨rfl, rfl⟩) | (go_at_call 167; refine (verbD_any a b c _).mono ?_; rintro e w1 ⟨rfl, rfl⟩))
  all_goals go_wp2
  all_goals go_ret
  all_goals exact ⟨ret_str HT.out, ((hB.alloc hB.size _).alloc (by have := hB.size; simp; omega) _).drew, by have h := hD.out; show w.drawn ≤ W.drawn + 1; omega⟩

theorem textOfRule_any (r : Ru) (w : World) (hs : r.size ≤ 1048576) :
    Calls Tryz.prog 76 #[r.val] w fun e w' => e = .returned (.string r.text) ∧ Below w.heap.size w w' ∧ w.drawn ≤ w'.drawn := by
  obtain ⟨d, a, b, c⟩ := r
  cases d
  · exact textOfRuleA_any a b c w hs
  · exact textOfRuleD_any a b c w hs

end Go.Proofs.YthpckiobfjdckaaGreat
