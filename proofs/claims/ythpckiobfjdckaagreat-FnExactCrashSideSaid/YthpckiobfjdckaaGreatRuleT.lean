/-
  Chapter 2: calls one by one, and the text of a rule by the specification.
-/
import Derived.Test.YthpckiobfjdckaaGreatRule
namespace Go.Proofs.YthpckiobfjdckaaGreat
open Go.RowKit Go.Shelf

/-- The text of a rule. -/
def Ru.text (r : Ru) : ByteArray := (if r.deny = true then ⟨#[100, 101, 110, 121, 32]⟩ else ⟨#[97, 108, 108, 111, 119, 32]⟩) ++ r.who ++ ⟨#[32]⟩ ++ r.method ++ ⟨#[32]⟩ ++ r.path
def Ru.textG (r : Ru) : ByteArray := if r.good = true then r.text else ⟨#[]⟩

set_option maxHeartbeats 1000000 in
theorem l2Text_any (r : Ru) (w : World) (hs : r.size ≤ 1048576) :
    Calls Tryz.prog 63 #[r.val] w fun e w' => e = .returned (.string r.text) ∧ Below w.heap.size w w' := by
  unfold Ru.size at hs
  cases hd : r.deny
  · have HR := hid (show r.text = ⟨#[97, 108, 108, 111, 119, 32]⟩ ++ r.who ++ ⟨#[32]⟩ ++ r.method ++ ⟨#[32]⟩ ++ r.path by unfold Ru.text; rw [hd]; rfl)
    go_enter Tryz.func63, Tryz.ntmps63
    go_wp2
    go_ret
    exact ⟨ret_str HR.out.symm, (Below.refl _ w).alloc (Nat.le_refl _) _⟩
  · have HR := hid (show r.text = ⟨#[100, 101, 110, 121, 32]⟩ ++ r.who ++ ⟨#[32]⟩ ++ r.method ++ ⟨#[32]⟩ ++ r.path by unfold Ru.text; rw [hd]; rfl)
    go_enter Tryz.func63, Tryz.ntmps63
    go_wp2
    go_ret
    exact ⟨ret_str HR.out.symm, (Below.refl _ w).alloc (Nat.le_refl _) _⟩

end Go.Proofs.YthpckiobfjdckaaGreat
