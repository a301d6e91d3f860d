/-
  Chapter 2, the program's side: which lists of rules are policies, and methods.
-/
import Derived.Test.YthpckiobfjdckaaGreatImplT
import Derived.Test.YthpckiobfjdckaaGreatPoliG
namespace Go.Proofs.YthpckiobfjdckaaGreat
open Go.RowKit Go.Shelf

set_option maxHeartbeats 1000000 in
theorem goodPolicy_any (v : Value) (rs : List Ru) (w : World) (hm : rs.length ≤ 1048577) (hf : ∀ r ∈ rs, r.size ≤ 1048576) (hr : RuS w v rs) :
    Calls Tryz.prog 71 #[v] w fun e w' => e = .returned (.bool (polB rs)) ∧ Below w.heap.size w w' := by
  obtain ⟨a, cap, rfl⟩ := hr.len
  by_cases h30 : 30 < rs.length
  · have HR := hid (show polB rs = false by unfold polB; rw [decide_eq_false (by omega), Bool.and_false])
    go_enter Tryz.func71, Tryz.ntmps71
    go_wp2
    go_ret
    exact ⟨ret_bool HR.out.symm, Below.refl _ _⟩
  · go_enter Tryz.func71, Tryz.ntmps71
    go_wp2
    go_loopw [10] (fun i wr => ∃ k : Nat, k ≤ rs.length ∧ i = .int .i64 k ∧ goodTo rs k = true ∧ Below w.heap.size w wr) (fun i _ => rs.length - (intOf i).toNat)
    case atStart => exact ⟨0, Nat.zero_le _, rfl, goodTo_zero _, Below.refl _ _⟩
    case round =>
      obtain ⟨k, hk, rfl, hs, hB⟩ := hrel
      have HS := hid hs
      clear hs
      by_cases hlt : k < rs.length
      · obtain ⟨b, off, rfl, hb, hcap, q0, q1, q2, q3⟩ := (hr.below hB).at hlt
        have hz := hf rs[k] (List.getElem_mem hlt)
        have HT := hid (goodTo_succ hlt)
        have HQ := hid (fun h => good_bad hlt h)
        generalize rs[k] = r at *
        have hBa : Below w.heap.size w (wr.alloc (.cells #[.bool r.deny, .string r.who, .string r.method, .string r.path] 63)) := hB.alloc hB.size _
        cases hg : r.good
        · have HR := hid (HQ.out hg)
          go_wp2_with (go_at_call 94; refine (implGoodRule_any r _ hz).mono ?_; rintro e w1 ⟨rfl, hB1⟩)
          go_ret
          exact ⟨ret_bool HR.out.symm, below_one hBa hB1⟩
        · have HR := hid (show goodTo rs (k + 1) = true by rw [HT.out, HS.out, hg]; rfl)
          go_wp2_with (go_at_call 94; refine (implGoodRule_any r _ hz).mono ?_; rintro e w1 ⟨rfl, hB1⟩)
          go_roundw
          case rel => exact ⟨k + 1, by omega, by go_num, HR.out, below_one hBa hB1⟩
          case measure => simp [intOf]; omega
      · obtain rfl : k = rs.length := by omega
        have HR := hid (show polB rs = true by rw [good_end HS.out]; exact decide_eq_true (by omega))
        go_wp2
        go_ret
        exact ⟨ret_bool HR.out.symm, hB⟩

/-- A method of a rule takes this one in. -/
def cmB (a b : ByteArray) : Bool := starB a || eqB a b

end Go.Proofs.YthpckiobfjdckaaGreat
