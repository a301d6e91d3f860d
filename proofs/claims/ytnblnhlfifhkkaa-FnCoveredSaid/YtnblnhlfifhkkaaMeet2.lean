/-
  Chapter 1's meeting of path patterns by the specification.
-/
import Derived.Test.YtnblnhlfifhkkaaMeet
namespace Go.Proofs.Ytnblnhlfifhkkaa
open Go.RowKit Go.Shelf

/-- The pieces ahead of the ends meet, k of them. -/
def mtTo (p q : List ByteArray) (k : Nat) : Bool := ((p.zip q).take k).all (fun z => mtB z.1 z.2)
theorem mtTo_zero (p q : List ByteArray) : mtTo p q 0 = true := by simp [mtTo]
theorem mtTo_succ {p q : List ByteArray} {k : Nat} (h : k < p.length) (h' : k < q.length) : mtTo p q (k + 1) = (mtTo p q k && mtB p[k] q[k]) := by
  unfold mtTo
  rw [List.take_succ_eq_append_getElem (by rw [List.length_zip]; omega), List.all_append]
  simp
theorem mt_bad {p q : List ByteArray} {k : Nat} (hb : mtTo p q (k + 1) = false) : (p.zip q).all (fun z => mtB z.1 z.2) = false := by
  cases h : (p.zip q).all (fun z => mtB z.1 z.2) with
  | false => rfl
  | true =>
    unfold mtTo at hb
    rw [List.all_eq_true] at h
    rw [List.all_eq_false] at hb
    obtain ⟨x, hx, hn⟩ := hb
    exact absurd (h x (List.mem_of_mem_take hx)) hn
theorem mt_end {p q : List ByteArray} {k : Nat} (h : p.length ≤ k ∨ q.length ≤ k) : mtTo p q k = (p.zip q).all (fun z => mtB z.1 z.2) := by
  unfold mtTo
  rw [List.take_of_length_le (by rw [List.length_zip]; omega)]
def smB (ps qs : List ByteArray) : Bool := if ((oL ps).length < (oL qs).length ∧ opB ps = false) ∨ ((oL qs).length < (oL ps).length ∧ opB qs = false) then false else ((oL ps).zip (oL qs)).all (fun z => mtB z.1 z.2)
theorem sm_mw (ps : List ByteArray) : ∀ qs : List ByteArray, ptOk ps = true → ptOk qs = true → smB ps qs = mwB ps qs := by
  induction ps with
  | nil =>
    intro qs _ hq
    cases qs with
    | nil => rfl
    | cons y s =>
      cases h2 : star2B y with
      | true =>
        obtain rfl := ok_star hq h2
        have h0 : oL [y] = [] := oL_yes h2
        have : smB [] [y] = true := by
          unfold smB
          rw [h0, if_neg (by simp [oL, opB])]
          simp
        rw [this]
        exact h2.symm
      | false =>
        have : smB [] (y :: s) = false := if_pos (.inl ⟨by rw [oL_step s h2]; simp [oL, opB], rfl⟩)
        rw [this]
        exact h2.symm
  | cons x r ih =>
    intro qs ho hq
    cases hx : star2B x with
    | true =>
      obtain rfl := ok_star ho hx
      have h0 : oL [x] = [] := oL_yes hx
      have h1 : opB [x] = true := hx
      have hl : smB [x] qs = true := by
        unfold smB
        rw [h0, h1, if_neg (by simp)]
        rfl
      rw [hl]
      cases qs with
      | nil => exact hx.symm
      | cons y s => simp [mwB, hx]
    | false =>
      cases qs with
      | nil =>
        have : smB (x :: r) [] = false := if_pos (.inr ⟨by rw [oL_step r hx]; simp [oL, opB], rfl⟩)
        rw [this]
        exact hx.symm
      | cons y s =>
        cases hy : star2B y with
        | true =>
          obtain rfl := ok_star hq hy
          have h0 : oL [y] = [] := oL_yes hy
          have h1 : opB [y] = true := hy
          have : smB (x :: r) [y] = true := by
            unfold smB
            rw [h0, h1, if_neg (by simp)]
            simp
          rw [this, mwB, hx, hy]
          rfl
        | false =>
          have hs : smB (x :: r) (y :: s) = (mtB x y && smB r s) := by
            unfold smB
            rw [oL_step r hx, oL_step s hy, opB_step r hx, opB_step s hy]
            by_cases hc : ((oL r).length < (oL s).length ∧ opB r = false) ∨ ((oL s).length < (oL r).length ∧ opB s = false)
            · rw [if_pos hc, if_pos (by simpa using hc), Bool.and_false]
            · rw [if_neg hc, if_neg (by simpa using hc)]
              rfl
          rw [hs, ih s (ok_step ho hx) (ok_step hq hy), mwB, hx, hy]
          rfl
theorem mp_sm {s t : ByteArray} (h1 : ptBs s = true) (h2 : ptBs t = true) : mpB s t = smB (wL s) (wL t) := by
  obtain ⟨e1, o1, _⟩ := pt_wL h1
  obtain ⟨e2, o2, _⟩ := pt_wL h2
  rw [sm_mw _ _ o1 o2]
  unfold mpB cpOk
  rw [h1, h2, e1, e2]
  rfl
theorem below4 {w wa wb w1 w2 : World} (ha : Below w.heap.size w wa) (hb : Below wa.heap.size wa wb) (h1 : Below wb.heap.size wb w1) (h2 : Below w1.heap.size w1 w2) : Below w.heap.size w w2 := by
  have h3 := ha.trans (hb.mono ha.size)
  have h4 := h3.trans (h1.mono h3.size)
  exact h4.trans (h2.mono h4.size)

set_option maxHeartbeats 8000000 in
theorem specMeetPath_any (s t : ByteArray) (w : World) (hs : s.size ≤ 1048576) (ht : t.size ≤ 1048576) :
    Calls Try.prog 8 #[.string s, .string t] w fun e w' => e = .returned (.tuple #[.bool (mpB s t), .bool (cpOk s t)]) ∧ Below w.heap.size w w' := by
  have hl : (wL s).length ≤ 1048577 := Nat.le_trans (wL_len s) (by omega)
  have hl' : (wL t).length ≤ 1048577 := Nat.le_trans (wL_len t) (by omega)
  have hol := oL_len (wL s)
  have hol' := oL_len (wL t)
  cases h1 : ptBs s
  · have HR := hid (show mpB s t = false by unfold mpB cpOk; rw [h1]; rfl)
    have HO := hid (show cpOk s t = false by unfold cpOk; rw [h1]; rfl)
    go_enter Try.func8, Try.ntmps8
    go_wp2_with fail
    refine (specGoodPathPattern_any s _ hs).mono ?_
    rintro e w1 ⟨rfl, hB1⟩
    go_wp2_with fail
    go_ret2
    exact ⟨ret_bools HR.out.symm HO.out.symm, hB1⟩
  · cases h2 : ptBs t
    · have HR := hid (show mpB s t = false by unfold mpB cpOk; rw [h1, h2]; rfl)
      have HO := hid (show cpOk s t = false by unfold cpOk; rw [h1, h2]; rfl)
      go_enter Try.func8, Try.ntmps8
      go_wp2_with fail
      refine (specGoodPathPattern_any s _ hs).mono ?_
      rintro e w1 ⟨rfl, hB1⟩
      go_wp2_with fail
      refine (specGoodPathPattern_any t _ ht).mono ?_
      rintro e w2 ⟨rfl, hB2⟩
      go_wp2_with fail
      go_ret2
      exact ⟨ret_bools HR.out.symm HO.out.symm, hB1.trans (hB2.mono hB1.size)⟩
    · have HO := hid (show cpOk s t = true by unfold cpOk; rw [h1, h2]; rfl)
      have HM := hid (mp_sm h1 h2)
      by_cases hc : ((oL (wL s)).length < (oL (wL t)).length ∧ opB (wL s) = false) ∨ ((oL (wL t)).length < (oL (wL s)).length ∧ opB (wL t) = false)
      · have HR := hid (show mpB s t = false by rw [HM.out]; exact if_pos hc)
        rcases hc with ⟨c1, c2⟩ | ⟨c1, c2⟩
        · have d1 : decide (((oL (wL s)).length : Int) < ((oL (wL t)).length : Int)) = true := by simp; omega
          go_enter Try.func8, Try.ntmps8
          go_wp2_with fail
          refine (specGoodPathPattern_any s _ hs).mono ?_
          rintro e wa ⟨rfl, hBa⟩
          go_wp2_with fail
          refine (specGoodPathPattern_any t _ ht).mono ?_
          rintro e wb ⟨rfl, hBb⟩
          go_wp2_with fail
          refine (l1Words_any s _ hs).mono ?_
          rintro e w1 ⟨v1, rfl, hrow1, hB1⟩
          obtain ⟨a1, cap1, rfl⟩ := ownsRow_len hrow1
          go_wp2_with fail
          refine (l1Words_any t _ ht).mono ?_
          rintro e w2 ⟨v2, rfl, hrow2, hB2⟩
          obtain ⟨a2, cap2, rfl⟩ := ownsRow_len hrow2
          replace hrow1 := ownsRow_below hrow1 hB2
          go_wp2_with fail
          refine (l1Open_any _ _ (wL s) _ _ hl hrow1).mono ?_
          rintro e w3 ⟨rfl, rfl⟩
          go_wp2_with fail
          refine (l1Open_any _ _ (wL t) _ _ hl' hrow2).mono ?_
          rintro e w4 ⟨rfl, rfl⟩
          have hBz := below4 hBa hBb hB1 hB2
          clear hBa hBb hB1 hB2
          go_wp2_with fail
          go_ret2
          exact ⟨ret_bools HR.out.symm HO.out.symm, hBz⟩
        · have d1 : decide (((oL (wL s)).length : Int) < ((oL (wL t)).length : Int)) = false := by simp; omega
          have d2 : decide (((oL (wL t)).length : Int) < ((oL (wL s)).length : Int)) = true := by simp; omega
          go_enter Try.func8, Try.ntmps8
          go_wp2_with fail
          refine (specGoodPathPattern_any s _ hs).mono ?_
          rintro e wa ⟨rfl, hBa⟩
          go_wp2_with fail
          refine (specGoodPathPattern_any t _ ht).mono ?_
          rintro e wb ⟨rfl, hBb⟩
          go_wp2_with fail
          refine (l1Words_any s _ hs).mono ?_
          rintro e w1 ⟨v1, rfl, hrow1, hB1⟩
          obtain ⟨a1, cap1, rfl⟩ := ownsRow_len hrow1
          go_wp2_with fail
          refine (l1Words_any t _ ht).mono ?_
          rintro e w2 ⟨v2, rfl, hrow2, hB2⟩
          obtain ⟨a2, cap2, rfl⟩ := ownsRow_len hrow2
          replace hrow1 := ownsRow_below hrow1 hB2
          go_wp2_with fail
          refine (l1Open_any _ _ (wL s) _ _ hl hrow1).mono ?_
          rintro e w3 ⟨rfl, rfl⟩
          go_wp2_with fail
          refine (l1Open_any _ _ (wL t) _ _ hl' hrow2).mono ?_
          rintro e w4 ⟨rfl, rfl⟩
          have hBz := below4 hBa hBb hB1 hB2
          clear hBa hBb hB1 hB2
          go_wp2_with fail
          go_ret2
          exact ⟨ret_bools HR.out.symm HO.out.symm, hBz⟩
      · have HL := hid (show mpB s t = ((oL (wL s)).zip (oL (wL t))).all (fun z => mtB z.1 z.2) by rw [HM.out]; exact if_neg hc)
        by_cases c1 : (oL (wL s)).length < (oL (wL t)).length
        · have c2 : opB (wL s) = true := by
            cases h : opB (wL s) with
            | true => rfl
            | false => exact absurd (.inl ⟨c1, h⟩) hc
          have d1 : decide (((oL (wL s)).length : Int) < ((oL (wL t)).length : Int)) = true := by simp; omega
          have d2 : decide (((oL (wL t)).length : Int) < ((oL (wL s)).length : Int)) = false := by simp; omega
          clear hc
          go_enter Try.func8, Try.ntmps8
          go_wp2_with fail
          refine (specGoodPathPattern_any s _ hs).mono ?_
          rintro e wa ⟨rfl, hBa⟩
          go_wp2_with fail
          refine (specGoodPathPattern_any t _ ht).mono ?_
          rintro e wb ⟨rfl, hBb⟩
          go_wp2_with fail
          refine (l1Words_any s _ hs).mono ?_
          rintro e w1 ⟨v1, rfl, hrow1, hB1⟩
          obtain ⟨a1, cap1, rfl⟩ := ownsRow_len hrow1
          go_wp2_with fail
          refine (l1Words_any t _ ht).mono ?_
          rintro e w2 ⟨v2, rfl, hrow2, hB2⟩
          obtain ⟨a2, cap2, rfl⟩ := ownsRow_len hrow2
          replace hrow1 := ownsRow_below hrow1 hB2
          go_wp2_with fail
          refine (l1Open_any _ _ (wL s) _ _ hl hrow1).mono ?_
          rintro e w3 ⟨rfl, rfl⟩
          go_wp2_with fail
          refine (l1Open_any _ _ (wL t) _ _ hl' hrow2).mono ?_
          rintro e w4 ⟨rfl, rfl⟩
          have hBz := below4 hBa hBb hB1 hB2
          clear hBa hBb hB1 hB2
          go_wp2_with fail
          go_loopw [12] (fun i wr => ∃ k : Nat, k ≤ (oL (wL s)).length ∧ k ≤ (oL (wL t)).length ∧ i = .int .i64 k ∧ mtTo (oL (wL s)) (oL (wL t)) k = true ∧ wr.ownsRow wb.heap.size 9 1 (.slice a1 (wL s).length cap1) (wL s).length ((wL s).map Value.string) ∧ wr.ownsRow w1.heap.size 9 1 (.slice a2 (wL t).length cap2) (wL t).length ((wL t).map Value.string) ∧ Below w.heap.size w wr) (fun i _ => (oL (wL s)).length - (intOf i).toNat)
          case atStart => exact ⟨0, Nat.zero_le _, Nat.zero_le _, rfl, mtTo_zero _ _, hrow1, hrow2, hBz⟩
          case round =>
            obtain ⟨k, hk, hk2, rfl, hw, hrow1, hrow2, hB⟩ := hrel
            have HW := hid hw
            clear hw
            by_cases hlt : k < (oL (wL s)).length
            · by_cases hlt2 : k < (oL (wL t)).length
              · have hlt1 : k < (wL s).length := Nat.lt_of_lt_of_le hlt (oL_len _)
                have hlt3 : k < (wL t).length := Nat.lt_of_lt_of_le hlt2 (oL_len _)
                obtain ⟨g, rfl⟩ : ∃ g, a1 = some ⟨g, 0, none⟩ := row_some hrow1 hlt1
                obtain ⟨g2, rfl⟩ : ∃ g, a2 = some ⟨g, 0, none⟩ := row_some hrow2 hlt3
                have hc := row_cell hrow1 k hlt1
                have hc2 := row_cell hrow2 k hlt3
                have hcap := row_cap hrow1 hlt1
                have hcap2 := row_cap hrow2 hlt3
                have HS := hid (mtTo_succ hlt hlt2)
                rw [oL_at hlt, oL_at hlt2] at HS
                generalize hx : (wL s)[k] = x at *
                generalize hy : (wL t)[k] = y at *
                clear hx hy
                cases b1 : starB x
                · have e1 : (x.toList == [42]) = false := b1
                  cases b2 : starB y
                  · have e2 : (y.toList == [42]) = false := b2
                    cases b3 : eqB x y
                    · have e3 : (x.toList == y.toList) = false := b3
                      have HR := hid (show mpB s t = false by rw [HL.out]; exact mt_bad (k := k) (by rw [HS.out]; unfold mtB; rw [b1, b2, b3]; simp))
                      clear b1 b2 b3
                      go_wp2
                      go_quiet (fail)
                      go_wp2
                      go_ret2
                      exact ⟨ret_bools HR.out.symm HO.out.symm, below_drewN hB _⟩
                    · have e3 : (x.toList == y.toList) = true := b3
                      have HR := hid (show mtTo (oL (wL s)) (oL (wL t)) (k + 1) = true by rw [HS.out, HW.out]; unfold mtB; rw [b1, b2, b3]; rfl)
                      clear b1 b2 b3
                      go_wp2
                      go_quiet (fail)
                      go_wp2
                      go_roundw
                      case rel => exact ⟨k + 1, by omega, by omega, by go_num, HR.out, hrow1, hrow2, below_drewN hB _⟩
                      case measure => simp [intOf]; omega
                  · have e2 : (y.toList == [42]) = true := b2
                    have HR := hid (show mtTo (oL (wL s)) (oL (wL t)) (k + 1) = true by rw [HS.out, HW.out]; unfold mtB; rw [b1, b2]; simp)
                    clear b1 b2
                    go_wp2
                    go_quiet (fail)
                    go_wp2
                    go_roundw
                    case rel => exact ⟨k + 1, by omega, by omega, by go_num, HR.out, hrow1, hrow2, below_drewN hB _⟩
                    case measure => simp [intOf]; omega
                · have e1 : (x.toList == [42]) = true := b1
                  have HR := hid (show mtTo (oL (wL s)) (oL (wL t)) (k + 1) = true by rw [HS.out, HW.out]; unfold mtB; rw [b1]; simp)
                  clear b1
                  go_wp2
                  go_quiet (fail)
                  go_wp2
                  go_roundw
                  case rel => exact ⟨k + 1, by omega, by omega, by go_num, HR.out, hrow1, hrow2, below_drewN hB _⟩
                  case measure => simp [intOf]; omega
              · have HR := hid (show mpB s t = true by rw [HL.out, ← HW.out]; exact (mt_end (by omega)).symm)
                go_wp2
                go_ret2
                exact ⟨ret_bools HR.out.symm HO.out.symm, hB⟩
            · have HR := hid (show mpB s t = true by rw [HL.out, ← HW.out]; exact (mt_end (by omega)).symm)
              go_wp2
              go_ret2
              exact ⟨ret_bools HR.out.symm HO.out.symm, hB⟩
        · have d1 : decide (((oL (wL s)).length : Int) < ((oL (wL t)).length : Int)) = false := by simp; omega
          by_cases c3 : (oL (wL t)).length < (oL (wL s)).length
          · have c4 : opB (wL t) = true := by
              cases h : opB (wL t) with
              | true => rfl
              | false => exact absurd (.inr ⟨c3, h⟩) hc
            have d2 : decide (((oL (wL t)).length : Int) < ((oL (wL s)).length : Int)) = true := by simp; omega
            clear hc
            go_enter Try.func8, Try.ntmps8
            go_wp2_with fail
            refine (specGoodPathPattern_any s _ hs).mono ?_
            rintro e wa ⟨rfl, hBa⟩
            go_wp2_with fail
            refine (specGoodPathPattern_any t _ ht).mono ?_
            rintro e wb ⟨rfl, hBb⟩
            go_wp2_with fail
            refine (l1Words_any s _ hs).mono ?_
            rintro e w1 ⟨v1, rfl, hrow1, hB1⟩
            obtain ⟨a1, cap1, rfl⟩ := ownsRow_len hrow1
            go_wp2_with fail
            refine (l1Words_any t _ ht).mono ?_
            rintro e w2 ⟨v2, rfl, hrow2, hB2⟩
            obtain ⟨a2, cap2, rfl⟩ := ownsRow_len hrow2
            replace hrow1 := ownsRow_below hrow1 hB2
            go_wp2_with fail
            refine (l1Open_any _ _ (wL s) _ _ hl hrow1).mono ?_
            rintro e w3 ⟨rfl, rfl⟩
            go_wp2_with fail
            refine (l1Open_any _ _ (wL t) _ _ hl' hrow2).mono ?_
            rintro e w4 ⟨rfl, rfl⟩
            have hBz := below4 hBa hBb hB1 hB2
            clear hBa hBb hB1 hB2
            go_wp2_with fail
            go_loopw [12] (fun i wr => ∃ k : Nat, k ≤ (oL (wL s)).length ∧ k ≤ (oL (wL t)).length ∧ i = .int .i64 k ∧ mtTo (oL (wL s)) (oL (wL t)) k = true ∧ wr.ownsRow wb.heap.size 9 1 (.slice a1 (wL s).length cap1) (wL s).length ((wL s).map Value.string) ∧ wr.ownsRow w1.heap.size 9 1 (.slice a2 (wL t).length cap2) (wL t).length ((wL t).map Value.string) ∧ Below w.heap.size w wr) (fun i _ => (oL (wL s)).length - (intOf i).toNat)
            case atStart => exact ⟨0, Nat.zero_le _, Nat.zero_le _, rfl, mtTo_zero _ _, hrow1, hrow2, hBz⟩
            case round =>
              obtain ⟨k, hk, hk2, rfl, hw, hrow1, hrow2, hB⟩ := hrel
              have HW := hid hw
              clear hw
              by_cases hlt : k < (oL (wL s)).length
              · by_cases hlt2 : k < (oL (wL t)).length
                · have hlt1 : k < (wL s).length := Nat.lt_of_lt_of_le hlt (oL_len _)
                  have hlt3 : k < (wL t).length := Nat.lt_of_lt_of_le hlt2 (oL_len _)
                  obtain ⟨g, rfl⟩ : ∃ g, a1 = some ⟨g, 0, none⟩ := row_some hrow1 hlt1
                  obtain ⟨g2, rfl⟩ : ∃ g, a2 = some ⟨g, 0, none⟩ := row_some hrow2 hlt3
                  have hc := row_cell hrow1 k hlt1
                  have hc2 := row_cell hrow2 k hlt3
                  have hcap := row_cap hrow1 hlt1
                  have hcap2 := row_cap hrow2 hlt3
                  have HS := hid (mtTo_succ hlt hlt2)
                  rw [oL_at hlt, oL_at hlt2] at HS
                  generalize hx : (wL s)[k] = x at *
                  generalize hy : (wL t)[k] = y at *
                  clear hx hy
                  cases b1 : starB x
                  · have e1 : (x.toList == [42]) = false := b1
                    cases b2 : starB y
                    · have e2 : (y.toList == [42]) = false := b2
                      cases b3 : eqB x y
                      · have e3 : (x.toList == y.toList) = false := b3
                        have HR := hid (show mpB s t = false by rw [HL.out]; exact mt_bad (k := k) (by rw [HS.out]; unfold mtB; rw [b1, b2, b3]; simp))
                        clear b1 b2 b3
                        go_wp2
                        go_quiet (fail)
                        go_wp2
                        go_ret2
                        exact ⟨ret_bools HR.out.symm HO.out.symm, below_drewN hB _⟩
                      · have e3 : (x.toList == y.toList) = true := b3
                        have HR := hid (show mtTo (oL (wL s)) (oL (wL t)) (k + 1) = true by rw [HS.out, HW.out]; unfold mtB; rw [b1, b2, b3]; rfl)
                        clear b1 b2 b3
                        go_wp2
                        go_quiet (fail)
                        go_wp2
                        go_roundw
                        case rel => exact ⟨k + 1, by omega, by omega, by go_num, HR.out, hrow1, hrow2, below_drewN hB _⟩
                        case measure => simp [intOf]; omega
                    · have e2 : (y.toList == [42]) = true := b2
                      have HR := hid (show mtTo (oL (wL s)) (oL (wL t)) (k + 1) = true by rw [HS.out, HW.out]; unfold mtB; rw [b1, b2]; simp)
                      clear b1 b2
                      go_wp2
                      go_quiet (fail)
                      go_wp2
                      go_roundw
                      case rel => exact ⟨k + 1, by omega, by omega, by go_num, HR.out, hrow1, hrow2, below_drewN hB _⟩
                      case measure => simp [intOf]; omega
                  · have e1 : (x.toList == [42]) = true := b1
                    have HR := hid (show mtTo (oL (wL s)) (oL (wL t)) (k + 1) = true by rw [HS.out, HW.out]; unfold mtB; rw [b1]; simp)
                    clear b1
                    go_wp2
                    go_quiet (fail)
                    go_wp2
                    go_roundw
                    case rel => exact ⟨k + 1, by omega, by omega, by go_num, HR.out, hrow1, hrow2, below_drewN hB _⟩
                    case measure => simp [intOf]; omega
                · have HR := hid (show mpB s t = true by rw [HL.out, ← HW.out]; exact (mt_end (by omega)).symm)
                  go_wp2
                  go_ret2
                  exact ⟨ret_bools HR.out.symm HO.out.symm, hB⟩
              · have HR := hid (show mpB s t = true by rw [HL.out, ← HW.out]; exact (mt_end (by omega)).symm)
                go_wp2
                go_ret2
                exact ⟨ret_bools HR.out.symm HO.out.symm, hB⟩
          · have d2 : decide (((oL (wL t)).length : Int) < ((oL (wL s)).length : Int)) = false := by simp; omega
            clear hc
            go_enter Try.func8, Try.ntmps8
            go_wp2_with fail
            refine (specGoodPathPattern_any s _ hs).mono ?_
            rintro e wa ⟨rfl, hBa⟩
            go_wp2_with fail
            refine (specGoodPathPattern_any t _ ht).mono ?_
            rintro e wb ⟨rfl, hBb⟩
            go_wp2_with fail
            refine (l1Words_any s _ hs).mono ?_
            rintro e w1 ⟨v1, rfl, hrow1, hB1⟩
            obtain ⟨a1, cap1, rfl⟩ := ownsRow_len hrow1
            go_wp2_with fail
            refine (l1Words_any t _ ht).mono ?_
            rintro e w2 ⟨v2, rfl, hrow2, hB2⟩
            obtain ⟨a2, cap2, rfl⟩ := ownsRow_len hrow2
            replace hrow1 := ownsRow_below hrow1 hB2
            go_wp2_with fail
            refine (l1Open_any _ _ (wL s) _ _ hl hrow1).mono ?_
            rintro e w3 ⟨rfl, rfl⟩
            go_wp2_with fail
            refine (l1Open_any _ _ (wL t) _ _ hl' hrow2).mono ?_
            rintro e w4 ⟨rfl, rfl⟩
            have hBz := below4 hBa hBb hB1 hB2
            clear hBa hBb hB1 hB2
            go_wp2_with fail
            go_loopw [12] (fun i wr => ∃ k : Nat, k ≤ (oL (wL s)).length ∧ k ≤ (oL (wL t)).length ∧ i = .int .i64 k ∧ mtTo (oL (wL s)) (oL (wL t)) k = true ∧ wr.ownsRow wb.heap.size 9 1 (.slice a1 (wL s).length cap1) (wL s).length ((wL s).map Value.string) ∧ wr.ownsRow w1.heap.size 9 1 (.slice a2 (wL t).length cap2) (wL t).length ((wL t).map Value.string) ∧ Below w.heap.size w wr) (fun i _ => (oL (wL s)).length - (intOf i).toNat)
            case atStart => exact ⟨0, Nat.zero_le _, Nat.zero_le _, rfl, mtTo_zero _ _, hrow1, hrow2, hBz⟩
            case round =>
              obtain ⟨k, hk, hk2, rfl, hw, hrow1, hrow2, hB⟩ := hrel
              have HW := hid hw
              clear hw
              by_cases hlt : k < (oL (wL s)).length
              · by_cases hlt2 : k < (oL (wL t)).length
                · have hlt1 : k < (wL s).length := Nat.lt_of_lt_of_le hlt (oL_len _)
                  have hlt3 : k < (wL t).length := Nat.lt_of_lt_of_le hlt2 (oL_len _)
                  obtain ⟨g, rfl⟩ : ∃ g, a1 = some ⟨g, 0, none⟩ := row_some hrow1 hlt1
                  obtain ⟨g2, rfl⟩ : ∃ g, a2 = some ⟨g, 0, none⟩ := row_some hrow2 hlt3
                  have hc := row_cell hrow1 k hlt1
                  have hc2 := row_cell hrow2 k hlt3
                  have hcap := row_cap hrow1 hlt1
                  have hcap2 := row_cap hrow2 hlt3
                  have HS := hid (mtTo_succ hlt hlt2)
                  rw [oL_at hlt, oL_at hlt2] at HS
                  generalize hx : (wL s)[k] = x at *
                  generalize hy : (wL t)[k] = y at *
                  clear hx hy
                  cases b1 : starB x
                  · have e1 : (x.toList == [42]) = false := b1
                    cases b2 : starB y
                    · have e2 : (y.toList == [42]) = false := b2
                      cases b3 : eqB x y
                      · have e3 : (x.toList == y.toList) = false := b3
                        have HR := hid (show mpB s t = false by rw [HL.out]; exact mt_bad (k := k) (by rw [HS.out]; unfold mtB; rw [b1, b2, b3]; simp))
                        clear b1 b2 b3
                        go_wp2
                        go_quiet (fail)
                        go_wp2
                        go_ret2
                        exact ⟨ret_bools HR.out.symm HO.out.symm, below_drewN hB _⟩
                      · have e3 : (x.toList == y.toList) = true := b3
                        have HR := hid (show mtTo (oL (wL s)) (oL (wL t)) (k + 1) = true by rw [HS.out, HW.out]; unfold mtB; rw [b1, b2, b3]; rfl)
                        clear b1 b2 b3
                        go_wp2
                        go_quiet (fail)
                        go_wp2
                        go_roundw
                        case rel => exact ⟨k + 1, by omega, by omega, by go_num, HR.out, hrow1, hrow2, below_drewN hB _⟩
                        case measure => simp [intOf]; omega
                    · have e2 : (y.toList == [42]) = true := b2
                      have HR := hid (show mtTo (oL (wL s)) (oL (wL t)) (k + 1) = true by rw [HS.out, HW.out]; unfold mtB; rw [b1, b2]; simp)
                      clear b1 b2
                      go_wp2
                      go_quiet (fail)
                      go_wp2
                      go_roundw
                      case rel => exact ⟨k + 1, by omega, by omega, by go_num, HR.out, hrow1, hrow2, below_drewN hB _⟩
                      case measure => simp [intOf]; omega
                  · have e1 : (x.toList == [42]) = true := b1
                    have HR := hid (show mtTo (oL (wL s)) (oL (wL t)) (k + 1) = true by rw [HS.out, HW.out]; unfold mtB; rw [b1]; simp)
                    clear b1
                    go_wp2
                    go_quiet (fail)
                    go_wp2
                    go_roundw
                    case rel => exact ⟨k + 1, by omega, by omega, by go_num, HR.out, hrow1, hrow2, below_drewN hB _⟩
                    case measure => simp [intOf]; omega
                · have HR := hid (show mpB s t = true by rw [HL.out, ← HW.out]; exact (mt_end (by omega)).symm)
                  go_wp2
                  go_ret2
                  exact ⟨ret_bools HR.out.symm HO.out.symm, hB⟩
              · have HR := hid (show mpB s t = true by rw [HL.out, ← HW.out]; exact (mt_end (by omega)).symm)
                go_wp2
                go_ret2
                exact ⟨ret_bools HR.out.symm HO.out.symm, hB⟩

end Go.Proofs.Ytnblnhlfifhkkaa
