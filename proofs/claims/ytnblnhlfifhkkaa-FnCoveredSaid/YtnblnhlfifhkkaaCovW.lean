/-
  The law FnCovered, walked.
-/
import Derived.Test.YtnblnhlfifhkkaaCovT
import Derived.Test.YtnblnhlfifhkkaaCovN
import Derived.Test.YtnblnhlfifhkkaaMeet2
import Derived.Test.YtnblnhlfifhkkaaCurD
namespace Go.Proofs.Ytnblnhlfifhkkaa
open Go.RowKit Go.Shelf

theorem below_1 {w W w1 : World} (h : Below w.heap.size w W) (h1 : Below W.heap.size W w1) : Below w.heap.size w w1 := h.trans (h1.mono h.size)
theorem word_no2 {x : ByteArray} (h : wordB x = true) : star2B x = false := by
  cases hs : star2B x with
  | false => rfl
  | true =>
    have h1 : x.toList = [42, 42] := eq_of_beq hs
    rw [toList_data] at h1
    have h2 : x = ⟨#[42, 42]⟩ := ByteArray.ext (Array.toList_inj.1 h1)
    rw [h2] at h
    revert h
    decide
theorem mtp_parts {a p : ByteArray} (h : mtpB a p = true) : ptBs a = true ∧ ptBs p = true ∧ cvB (ptLs a) (ptLs p) = true ∧ gpB p = true := by
  unfold mtpB cpB cpOk at h
  simp only [Bool.and_eq_true] at h
  exact ⟨h.1.1.1, h.1.1.2, h.1.2.2, h.2⟩
theorem gp_no2 {p : ByteArray} (h : gpB p = true) : ∀ x ∈ ptLs p, star2B x = false := fun x hx => by
  unfold gpB at h
  simp only [Bool.and_eq_true, List.all_eq_true] at h
  exact word_no2 (h.2 x hx)
theorem covered_path {a b p : ByteArray} (h1 : cpB a b = true) (h2 : mtpB b p = true) : mtpB a p = true := by
  obtain ⟨_, hp, hv, hg⟩ := mtp_parts h2
  unfold cpB cpOk at h1
  simp only [Bool.and_eq_true] at h1
  unfold mtpB cpB cpOk
  simp only [Bool.and_eq_true]
  exact ⟨⟨⟨h1.1.1, hp⟩, ⟨h1.1.1, hp⟩, cv_trans _ _ _ (gp_no2 hg) h1.2 hv⟩, hg⟩
theorem met_path {a b p : ByteArray} (h1 : mtpB a p = true) (h2 : mtpB b p = true) : mpB a b = true := by
  obtain ⟨ha, _, hv, _⟩ := mtp_parts h1
  obtain ⟨hb, _, hv', _⟩ := mtp_parts h2
  unfold mpB cpOk
  simp only [Bool.and_eq_true]
  exact ⟨⟨ha, hb⟩, cv_meet _ _ _ hv hv'⟩
theorem covered_name {c d n : ByteArray} (h1 : cnB c d = true) (h2 : mtnB d n = true) : mtnB c n = true := by
  unfold mtnB cnB cnOk at h2 ⊢
  unfold cnB at h1
  simp only [Bool.and_eq_true] at h1 h2 ⊢
  have hg := h2.2
  unfold gnB at hg
  simp only [Bool.and_eq_true, List.all_eq_true] at hg
  exact ⟨⟨⟨h1.1.1, h2.1.1.2⟩, ⟨h1.1.1, h2.1.1.2⟩, cv_trans _ _ _ (fun x hx => word_no2 (hg.2 x hx)) h1.2 h2.1.2.2⟩, h2.2⟩

set_option maxHeartbeats 8000000 in
set_option maxRecDepth 100000 in
theorem coveredWalk (a a' : Option Addr) (n c n' c' : Nat) (w : World) (hle : n ≤ c) (hle' : n' ≤ c') (hn : n + n' ≤ 1048576) (hB : ByS w a n) (hB' : ByS w a' n') (hap : ∀ p, a = some p → p.block < w.heap.size) (hap' : ∀ p, a' = some p → p.block < w.heap.size) :
    Calls Try.prog 3 #[.slice a n c, .slice a' n' c'] w fun e w' => e = .returned (.bool true) ∧ Below w.heap.size w w' := by
  go_enter Try.func3, Try.ntmps3
  go_wp2_with fail
  refine (drawCP_any a n c w hle hB hap).mono ?_
  rintro e w1 ⟨x, y, hx, hy, rfl, hBB1⟩
  go_wp2_with fail
  refine (implCoversPath_any x y _ (by omega) (by omega)).mono ?_
  rintro e w2 ⟨rfl, hB2⟩
  have hBB2 := below_1 hBB1 hB2
  go_wp2_with fail
  refine (specCoversPath_any x y _ (by omega) (by omega)).mono ?_
  rintro e w3 ⟨rfl, hB3⟩
  have hBB3 := below_1 hBB2 hB3
  go_wp2_with fail
  refine (implMeetPath_any x y _ (by omega) (by omega)).mono ?_
  rintro e w4 ⟨rfl, hB4⟩
  have hBB4 := below_1 hBB3 hB4
  go_wp2_with fail
  refine (specMeetPath_any x y _ (by omega) (by omega)).mono ?_
  rintro e w5 ⟨rfl, hB5⟩
  have hBB5 := below_1 hBB4 hB5
  clear hB2 hB3 hB4 hB5 hBB1 hBB2 hBB3 hBB4
  go_wp2_with fail
  refine (drawMP_any a' n' c' w5 hle' (hB'.below hBB5) (fun p hp => Nat.lt_of_lt_of_le (hap' p hp) hBB5.size)).mono ?_
  rintro e w6 ⟨_, p, _, hp, rfl, hB6⟩
  have hBB6 := below_1 hBB5 hB6
  go_wp2_with fail
  refine (implMatchPath_any x p _ (by omega) (by omega)).mono ?_
  rintro e w7 ⟨rfl, hB7⟩
  have hBB7 := below_1 hBB6 hB7
  go_wp2_with fail
  refine (implMatchPath_any y p _ (by omega) (by omega)).mono ?_
  rintro e w8 ⟨rfl, hB8⟩
  have hBB8 := below_1 hBB7 hB8
  go_wp2_with fail
  refine (specMatchPath_any x p _ (by omega) (by omega)).mono ?_
  rintro e w9 ⟨rfl, hB9⟩
  have hBB9 := below_1 hBB8 hB9
  clear hB6 hB7 hB8 hB9 hBB5 hBB6 hBB7 hBB8
  have F1 : cpB x y = true → mtpB y p = true → mtpB x p = true := covered_path
  have F2 : mtpB x p = true → mtpB y p = true → mpB x y = true := met_path
  have hS := specMatchPath_any y p
  generalize mtpB x p = m1 at *
  generalize mtpB y p = m2 at *
  generalize cpB x y = q1 at *
  generalize mpB x y = q2 at *
  have hrest : ∀ W, Below w.heap.size w W → Calls Try.prog 12 #[.slice a n c] W fun e w' => ∃ x y : ByteArray, x.size ≤ 100 ∧ y.size ≤ 100 ∧ e = .returned (.tuple #[.string x, .string y]) ∧ Below W.heap.size W w' := fun W hW => drawCN_any a n c W hle (hB.below hW) (fun p hp => Nat.lt_of_lt_of_le (hap p hp) hW.size)
  have hrest' : ∀ W, Below w.heap.size w W → Calls Try.prog 15 #[.slice a' n' c'] W fun e w' => ∃ x y : ByteArray, x.size ≤ 100 ∧ y.size ≤ 100 ∧ e = .returned (.tuple #[.string x, .string y]) ∧ Below W.heap.size W w' := fun W hW => drawMN_any a' n' c' W hle' (hB'.below hW) (fun p hp => Nat.lt_of_lt_of_le (hap' p hp) hW.size)
  clear hB hB' hap hap'
  cases m1 <;> cases m2 <;> cases q1 <;> cases q2 <;> simp only [Bool.false_eq_true, true_implies, false_implies, imp_false, not_true_eq_false] at F1 F2
  all_goals go_wp2_with fail
  all_goals refine (hS _ (by omega) (by omega)).mono ?_
  all_goals rintro e w10 ⟨rfl, hB10⟩
  all_goals have hBB10 := below_1 hBB9 hB10
  all_goals go_wp2_with fail
  all_goals refine (hrest _ hBB10).mono ?_
  all_goals rintro e w11 ⟨u, v, hu, hv, rfl, hB11⟩
  all_goals have hBB11 := below_1 hBB10 hB11
  all_goals go_wp2_with fail
  all_goals refine (implCoversName_any u v _ (by omega) (by omega)).mono ?_
  all_goals rintro e w12 ⟨rfl, hB12⟩
  all_goals have hBB12 := below_1 hBB11 hB12
  all_goals go_wp2_with fail
  all_goals refine (specCoversName_any u v _ (by omega) (by omega)).mono ?_
  all_goals rintro e w13 ⟨rfl, hB13⟩
  all_goals have hBB13 := below_1 hBB12 hB13
  all_goals go_wp2_with fail
  all_goals refine (hrest' _ hBB13).mono ?_
  all_goals rintro e w14 ⟨_, nm, _, hnm, rfl, hB14⟩
  all_goals have hBB14 := below_1 hBB13 hB14
  all_goals have F3 : cnB u v = true → mtnB v nm = true → mtnB u nm = true := covered_name
  all_goals have hI := implMatchName_any v nm
  all_goals have hI' := implMatchName_any u nm
  all_goals generalize cnB u v = o at *
  all_goals generalize mtnB v nm = m3 at *
  all_goals generalize mtnB u nm = m4 at *
  all_goals generalize cnOk u v = gd at *
  all_goals cases o
  all_goals first
    | (go_wp2; go_ret; exact ⟨rfl, hBB14⟩)
    | (go_wp2_with fail
       refine (hI _ (by omega) (by omega)).mono ?_
       rintro e w15 ⟨rfl, hB15⟩
       have hBB15 := below_1 hBB14 hB15
       cases m3
       · go_wp2
         go_ret
         exact ⟨rfl, hBB15⟩
       · obtain rfl : m4 = true := by simpa using F3
         go_wp2_with fail
         refine (hI' _ (by omega) (by omega)).mono ?_
         rintro e w16 ⟨rfl, hB16⟩
         have hBB16 := below_1 hBB15 hB16
         go_wp2
         go_ret
         exact ⟨rfl, hBB16⟩)

end Go.Proofs.Ytnblnhlfifhkkaa
