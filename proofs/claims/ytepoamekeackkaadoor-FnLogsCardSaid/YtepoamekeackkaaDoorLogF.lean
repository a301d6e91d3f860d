/-
  Chapter 7: logs as said, a record behind others, the first broken record: by the specification and by the program.
-/
import Derived.Defers
import Derived.Recover
import Derived.Laws.Pointers
import Derived.Test.YtepoamekeackkaaDoorRecV
import Derived.Test.YtepoamekeackkaaDoorNumW
import Derived.Test.YtepoamekeackkaaDoorTabT
namespace Go.Proofs.YtepoamekeackkaaDoor
open Go.RowKit Go.Shelf

/-- The notes up to k are good. -/
def lgTo (l : List Rc) (k : Nat) : Bool := (l.take k).all (fun r => ntB r.note)
theorem lgTo_zero (l : List Rc) : lgTo l 0 = true := by simp [lgTo]
theorem lgTo_succ {l : List Rc} {k : Nat} (h : k < l.length) : lgTo l (k + 1) = (lgTo l k && ntB l[k].note) := by
  unfold lgTo
  rw [List.take_succ_eq_append_getElem h, List.all_append]
  simp
theorem lgB_bad {l : List Rc} {k : Nat} (h : k < l.length) (hb : ntB l[k].note = false) : lgB l = false := by
  unfold lgB
  rw [Bool.and_eq_false_iff]
  exact .inr (List.all_eq_false.2 ⟨l[k], List.getElem_mem h, by simp [hb]⟩)
theorem lgB_end {l : List Rc} (h : lgTo l l.length = true) : lgB l = decide (l.length ≤ 60) := by
  unfold lgTo at h
  rw [List.take_length] at h
  unfold lgB
  rw [h, Bool.and_true]

set_option maxHeartbeats 1000000 in
theorem l7Log_any (v : Value) (l : List Rc) (w : World) (hm : l.length ≤ 1048577) (hf : ∀ r ∈ l, r.note.size ≤ 1048576) (hr : RcS w v l) :
    Calls Tryd.prog 41 #[v] w fun e w' => e = .returned (.bool (lgB l)) ∧ Below w.heap.size w w' := by
  obtain ⟨a, cap, rfl⟩ := hr.len
  go_enter Tryd.func41, Tryd.ntmps41
  go_wp2
  go_loopw [7] (fun i wr => ∃ k : Nat, k ≤ l.length ∧ i = .int .i64 k ∧ lgTo l k = true ∧ Below w.heap.size w wr) (fun i _ => l.length - (intOf i).toNat)
  case atStart => exact ⟨0, Nat.zero_le _, rfl, lgTo_zero l, Below.refl _ _⟩
  case round =>
    obtain ⟨k, hk, rfl, hn, hB⟩ := hrel
    have HN := hid hn
    clear hn
    by_cases hlt : k < l.length
    · obtain ⟨b, off, rfl, hb, hcap, q0, q1, q2⟩ := (hr.below hB).at hlt
      have hz := hf l[k] (List.getElem_mem hlt)
      have HS := hid (lgTo_succ hlt)
      have HD := hid (fun h => lgB_bad hlt h)
      generalize l[k] = r at *
      have hBa : Below w.heap.size w (wr.alloc (.cells #[.int .i64 r.num, .string r.note, .int .u32 (r.su : Int)] 34)) := hB.alloc hB.size _
      go_wp2_with fail
      refine (l7Note_any r.note _ hz).mono ?_
      rintro e w1 ⟨rfl, rfl⟩
      cases hc : ntB r.note
      · have HR := hid (HD.out hc)
        clear hr
        go_wp2_with fail
        go_ret
        exact ⟨ret_bool HR.out.symm, hBa⟩
      · have HR := hid (show lgTo l (k + 1) = true by rw [HS.out, HN.out, hc]; rfl)
        go_wp2_with fail
        go_roundw
        case rel => exact ⟨k + 1, by omega, by go_num, HR.out, hBa⟩
        case measure => simp [intOf]; omega
    · obtain rfl : k = l.length := by omega
      have HR := hid (lgB_end HN.out)
      go_wp2
      go_ret
      exact ⟨ret_bool (by rw [HR.out, Bool.eq_iff_iff]; simp; omega), hB⟩

set_option maxHeartbeats 1000000 in
theorem isLog_any (v : Value) (l : List Rc) (w : World) (hm : l.length ≤ 1048577) (hf : ∀ r ∈ l, r.note.size ≤ 1048576) (hr : RcS w v l) :
    Calls Tryd.prog 38 #[v] w fun e w' => e = .returned (.bool (lgB l)) ∧ Below w.heap.size w w' := by
  obtain ⟨a, cap, rfl⟩ := hr.len
  by_cases h60 : (60 : Int) < l.length
  · have HR := hid (show lgB l = false by unfold lgB; rw [decide_eq_false (by omega)]; rfl)
    go_enter Tryd.func38, Tryd.ntmps38
    go_wp2
    go_ret
    exact ⟨ret_bool HR.out.symm, Below.refl _ _⟩
  · go_enter Tryd.func38, Tryd.ntmps38
    go_wp2
    go_loopw [10] (fun i wr => ∃ k : Nat, k ≤ l.length ∧ i = .int .i64 k ∧ lgTo l k = true ∧ Below w.heap.size w wr) (fun i _ => l.length - (intOf i).toNat)
    case atStart => exact ⟨0, Nat.zero_le _, rfl, lgTo_zero l, Below.refl _ _⟩
    case round =>
      obtain ⟨k, hk, rfl, hn, hB⟩ := hrel
      have HN := hid hn
      clear hn
      by_cases hlt : k < l.length
      · obtain ⟨b, off, rfl, hb, hcap, q0, q1, q2⟩ := (hr.below hB).at hlt
        have hz := hf l[k] (List.getElem_mem hlt)
        have HS := hid (lgTo_succ hlt)
        have HD := hid (fun h => lgB_bad hlt h)
        generalize l[k] = r at *
        have hBa : Below w.heap.size w (wr.alloc (.cells #[.int .i64 r.num, .string r.note, .int .u32 (r.su : Int)] 34)) := hB.alloc hB.size _
        go_wp2_with fail
        refine (goodNote_any r.note _ hz).mono ?_
        rintro e w1 ⟨rfl, rfl⟩
        cases hc : ntB r.note
        · have HR := hid (HD.out hc)
          clear hr
          go_wp2_with fail
          go_ret
          exact ⟨ret_bool HR.out.symm, hBa⟩
        · have HR := hid (show lgTo l (k + 1) = true by rw [HS.out, HN.out, hc]; rfl)
          go_wp2_with fail
          go_roundw
          case rel => exact ⟨k + 1, by omega, by go_num, HR.out, hBa⟩
          case measure => simp [intOf]; omega
      · obtain rfl : k = l.length := by omega
        have HR := hid (show lgB l = true by rw [lgB_end HN.out]; exact decide_eq_true (by omega))
        go_wp2
        go_ret
        exact ⟨ret_bool HR.out.symm, hB⟩

end Go.Proofs.YtepoamekeackkaaDoor
