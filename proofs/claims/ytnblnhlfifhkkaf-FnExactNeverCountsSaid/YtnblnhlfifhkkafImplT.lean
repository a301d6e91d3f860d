/-
  Chapter 2, the program's side: calls that are good, and the text of a rule.
-/
import Derived.Deep.RegionHeld3
import Derived.Test.YtnblnhlfifhkkafImplR
namespace Go.Proofs.Ytnblnhlfifhkkaf
open Go.RowKit Go.Shelf

theorem cgood_eq (c : Ca) : c.good = ((mthB c.method && gnB (split c.who 47)) && gpB c.path) := by
  unfold Ca.good
  cases gnB (split c.who 47) <;> cases gpB c.path <;> cases mthB c.method <;> rfl

abbrev Ru.obj (r : Ru) : Obj := .cells #[.bool r.deny, .string r.who, .string r.method, .string r.path] 50

set_option maxHeartbeats 400000 in
theorem voiceOfA_any (a b c : ByteArray) (w : World) :
    Calls Try.prog 33 #[.agg #[.bool false, .string a, .string b, .string c]] w fun e w' => e = .returned (.iface 75 (.agg #[.bool false, .string a, .string b, .string c])) ∧ w' = w.alloc (.cells #[.bool false, .string a, .string b, .string c] 50) := by
  go_enter Try.func33, Try.ntmps33
  go_wp2
  go_ret
  exact ⟨rfl, rfl⟩

set_option maxHeartbeats 400000 in
theorem voiceOfD_any (a b c : ByteArray) (w : World) :
    Calls Try.prog 33 #[.agg #[.bool true, .string a, .string b, .string c]] w fun e w' => e = .returned (.iface 74 (.agg #[.bool true, .string a, .string b, .string c])) ∧ w' = w.alloc (.cells #[.bool true, .string a, .string b, .string c] 50) := by
  go_enter Try.func33, Try.ntmps33
  go_wp2
  go_ret
  exact ⟨rfl, rfl⟩

theorem methVerbA (v : Value) (w : World) : (method 205 75 v "loop.example/g00167/impl.verb").run Try.prog w = .ok (94, v) w := by kernel_rfl

theorem methVerbD (v : Value) (w : World) : (method 205 74 v "loop.example/g00167/impl.verb").run Try.prog w = .ok (83, v) w := by kernel_rfl

end Go.Proofs.Ytnblnhlfifhkkaf
