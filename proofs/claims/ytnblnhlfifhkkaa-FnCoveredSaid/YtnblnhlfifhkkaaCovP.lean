/-
  Chapter 1's covering of path patterns by the specification.
-/
import Derived.Test.YtnblnhlfifhkkaaPathM
namespace Go.Proofs.Ytnblnhlfifhkkaa
open Go.RowKit Go.Shelf

/-- What the specification says of covering, m words being the most. -/
def lcB (m : Nat) (ps qs : List ByteArray) : Bool := if (oL qs).length < (oL ps).length ∨ (opB ps = false ∧ ((oL ps).length < (oL qs).length ∨ (opB qs = true ∧ (oL ps).length < m))) then false else ((oL ps).zip (oL qs)).all (fun q => stB q.1 q.2)
theorem lcB_on {m : Nat} {ps qs : List ByteArray} (h : (oL ps).length ≤ (oL qs).length) (h' : ¬ (opB ps = false ∧ ((oL ps).length < (oL qs).length ∨ (opB qs = true ∧ (oL ps).length < m)))) : lcB m ps qs = ((oL ps).zip (oL qs)).all (fun q => stB q.1 q.2) :=
  if_neg (fun e => e.elim (fun e => by omega) h')
theorem opB_step {x : ByteArray} (r : List ByteArray) (h : star2B x = false) : opB (x :: r) = opB r := by
  cases r with
  | nil => exact h
  | cons y r => exact opB_cons x y r
theorem oL_step {x : ByteArray} (r : List ByteArray) (h : star2B x = false) : oL (x :: r) = x :: oL r := by
  cases r with
  | nil => exact oL_no h
  | cons y r => exact oL_cons x y r
theorem ok_star {x : ByteArray} {r : List ByteArray} (h : ptOk (x :: r) = true) (h2 : star2B x = true) : r = [] := by
  rw [ptOk, if_pos h2] at h
  exact List.isEmpty_iff.1 h
theorem ok_step {x : ByteArray} {r : List ByteArray} (h : ptOk (x :: r) = true) (h2 : star2B x = false) : ptOk r = true := by
  rw [ptOk, if_neg (by rw [h2]; exact Bool.false_ne_true), Bool.and_eq_true] at h
  exact h.2
theorem eq_star {x y : ByteArray} (hx : star2B x = false) (hy : star2B y = true) : eqB x y = false := by
  cases h : eqB x y with
  | false => rfl
  | true =>
    have h1 : x.toList = y.toList := eq_of_beq h
    unfold star2B at hx hy
    rw [h1, hy] at hx
    cases hx
theorem cw_two {x y : ByteArray} (hx : star2B x = false) (hy : star2B y = true) : cwB x y = false := by
  unfold cwB
  rw [eq_star hx hy, hy]
  simp
theorem cw_on {x y : ByteArray} (hy : star2B y = false) : cwB x y = stB x y := by
  unfold cwB stB
  rw [hy, Bool.not_false, Bool.and_true, Bool.or_comm]
theorem lc_cv (ps : List ByteArray) : ∀ (m : Nat) (qs : List ByteArray), ps.length ≤ m → qs.length ≤ m → ptOk ps = true → ptOk qs = true → lcB m ps qs = cvB ps qs := by
  induction ps with
  | nil =>
    intro m qs _ hm _ hq
    cases qs with
    | nil => rfl
    | cons y s =>
      simp only [List.length_cons] at hm
      refine if_pos (.inr ⟨rfl, ?_⟩)
      cases h2 : star2B y with
      | true =>
        obtain rfl := ok_star hq h2
        exact .inr ⟨h2, by show 0 < m; omega⟩
      | false => rw [oL_step s h2]; exact .inl (by simp [oL, opB])
  | cons x r ih =>
    intro m qs hp hm ho hq
    simp only [List.length_cons] at hp
    cases hx : star2B x with
    | true =>
      obtain rfl := ok_star ho hx
      have h0 : oL [x] = [] := oL_yes hx
      have h1 : opB [x] = true := hx
      have hl : lcB m [x] qs = true := by
        unfold lcB
        rw [h0, h1, if_neg (by simp)]
        rfl
      rw [hl]
      cases qs with
      | nil => exact hx.symm
      | cons y s => simp [cvB, hx]
    | false =>
      cases qs with
      | nil =>
        have : lcB m (x :: r) [] = false := if_pos (.inl (by rw [oL_step r hx]; simp [oL, opB]))
        rw [this]
        exact hx.symm
      | cons y s =>
        simp only [List.length_cons] at hm
        cases hy : star2B y with
        | true =>
          obtain rfl := ok_star hq hy
          have h0 : oL [y] = [] := oL_yes hy
          have : lcB m (x :: r) [y] = false := if_pos (.inl (by rw [oL_step r hx, h0]; simp))
          rw [this, cvB, hx, cw_two hx hy]
          rfl
        | false =>
          have hs : lcB m (x :: r) (y :: s) = (stB x y && lcB (m - 1) r s) := by
            unfold lcB
            rw [oL_step r hx, oL_step s hy, opB_step r hx, opB_step s hy]
            have he : ((y :: oL s).length < (x :: oL r).length ∨ (opB r = false ∧ ((x :: oL r).length < (y :: oL s).length ∨ (opB s = true ∧ (x :: oL r).length < m)))) ↔ ((oL s).length < (oL r).length ∨ (opB r = false ∧ ((oL r).length < (oL s).length ∨ (opB s = true ∧ (oL r).length < m - 1)))) := by
              simp only [List.length_cons, Nat.add_lt_add_iff_right]
              rw [show ((oL r).length + 1 < m) ↔ ((oL r).length < m - 1) from by omega]
            by_cases hc : (oL s).length < (oL r).length ∨ (opB r = false ∧ ((oL r).length < (oL s).length ∨ (opB s = true ∧ (oL r).length < m - 1)))
            · rw [if_pos hc, if_pos (he.2 hc), Bool.and_false]
            · rw [if_neg hc, if_neg (fun e => hc (he.1 e))]
              rfl
          rw [hs, ih (m - 1) s (by omega) (by omega) (ok_step ho hx) (ok_step hq hy), cvB, hx, Bool.false_or, cw_on hy]
theorem pt_wL {s : ByteArray} (h : ptBs s = true) : ptLs s = wL s ∧ ptOk (wL s) = true ∧ (wL s).length ≤ 6 := by
  refine ⟨by unfold ptLs; rw [if_pos h]; rfl, ?_⟩
  cases hp : pathPs s with
  | none => rw [ptBs_none hp] at h; cases h
  | some l =>
    rw [ptBs_some hp, ptB_eq, Bool.and_eq_true] at h
    rw [wL_some hp]
    exact ⟨h.1, of_decide_eq_true h.2⟩
theorem cp_lc {s t : ByteArray} (h1 : ptBs s = true) (h2 : ptBs t = true) : cpB s t = lcB 6 (wL s) (wL t) := by
  obtain ⟨e1, o1, l1⟩ := pt_wL h1
  obtain ⟨e2, o2, l2⟩ := pt_wL h2
  rw [lc_cv _ _ _ l1 l2 o1 o2]
  unfold cpB cpOk
  rw [h1, h2, e1, e2]
  rfl

set_option maxHeartbeats 4000000 in
theorem l1Covers_any (s t : ByteArray) (w : World) (hs : s.size ≤ 1048576) (ht : t.size ≤ 1048576) :
    Calls Try.prog 21 #[.string s, .string t] w fun e w' => e = .returned (.bool (lcB 6 (wL s) (wL t))) ∧ Below w.heap.size w w' := by
  have hl : (wL s).length ≤ 1048577 := Nat.le_trans (wL_len s) (by omega)
  have hl' : (wL t).length ≤ 1048577 := Nat.le_trans (wL_len t) (by omega)
  have hol := oL_len (wL s)
  have hol' := oL_len (wL t)
  by_cases hA : (oL (wL s)).length ≤ (oL (wL t)).length
  · have d1 : decide (((oL (wL t)).length : Int) < ((oL (wL s)).length : Int)) = false := by simp; omega
    cases ho : opB (wL s)
    · by_cases hC : (oL (wL s)).length < (oL (wL t)).length
      · have d2 : decide (((oL (wL s)).length : Int) < ((oL (wL t)).length : Int)) = true := by simp; omega
        have HR := hid (show lcB 6 (wL s) (wL t) = false from if_pos (.inr ⟨ho, .inl hC⟩))
        go_enter Try.func21, Try.ntmps21
        go_wp2_with fail
        refine (l1Words_any s _ hs).mono ?_
        rintro e w1 ⟨v1, rfl, hrow1, hB1⟩
        obtain ⟨a1, cap1, rfl⟩ := ownsRow_len hrow1
        go_wp2_with fail
        refine (l1Words_any t _ ht).mono ?_
        rintro e w2 ⟨v2, rfl, hrow2, hB2⟩
        obtain ⟨a2, cap2, rfl⟩ := ownsRow_len hrow2
        replace hrow1 := ownsRow_below hrow1 hB2
        go_wp2_with fail
        refine (l1Open_any _ _ (wL s) _ _ hl hrow1).mono ?_
        rintro e w3 ⟨rfl, rfl⟩
        go_wp2_with fail
        refine (l1Open_any _ _ (wL t) _ _ hl' hrow2).mono ?_
        rintro e w4 ⟨rfl, rfl⟩
        go_wp2_with fail
        go_ret
        exact ⟨ret_bool HR.out.symm, hB1.trans (hB2.mono hB1.size)⟩
      · have d2 : decide (((oL (wL s)).length : Int) < ((oL (wL t)).length : Int)) = false := by simp; omega
        cases ho2 : opB (wL t)
        · have HL := hid (show lcB 6 (wL s) (wL t) = ((oL (wL s)).zip (oL (wL t))).all (fun q => stB q.1 q.2) from lcB_on hA (by simp [ho2]; omega))
          go_enter Try.func21, Try.ntmps21
          go_wp2_with fail
          refine (l1Words_any s _ hs).mono ?_
          rintro e w1 ⟨v1, rfl, hrow1, hB1⟩
          obtain ⟨a1, cap1, rfl⟩ := ownsRow_len hrow1
          go_wp2_with fail
          refine (l1Words_any t _ ht).mono ?_
          rintro e w2 ⟨v2, rfl, hrow2, hB2⟩
          obtain ⟨a2, cap2, rfl⟩ := ownsRow_len hrow2
          replace hrow1 := ownsRow_below hrow1 hB2
          go_wp2_with fail
          refine (l1Open_any _ _ (wL s) _ _ hl hrow1).mono ?_
          rintro e w3 ⟨rfl, rfl⟩
          go_wp2_with fail
          refine (l1Open_any _ _ (wL t) _ _ hl' hrow2).mono ?_
          rintro e w4 ⟨rfl, rfl⟩
          go_wp2_with fail
          go_loop [57] (fun i => ∃ k : Nat, k ≤ (oL (wL s)).length ∧ i = .int .i64 k ∧ stTo (oL (wL s)) (oL (wL t)) k = true) (fun i => (oL (wL s)).length - (intOf i).toNat)
          case atStart => exact ⟨0, Nat.zero_le _, rfl, stTo_zero _ _⟩
          case round =>
            obtain ⟨k, hk, rfl, hw⟩ := hrel
            have HW := hid hw
            clear hw
            by_cases hlt : k < (oL (wL s)).length
            · have hlt2 : k < (oL (wL t)).length := by omega
              have hlt1 : k < (wL s).length := Nat.lt_of_lt_of_le hlt (oL_len _)
              have hlt3 : k < (wL t).length := Nat.lt_of_lt_of_le hlt2 (oL_len _)
              obtain ⟨g, rfl⟩ : ∃ g, a1 = some ⟨g, 0, none⟩ := row_some hrow1 hlt1
              obtain ⟨g2, rfl⟩ : ∃ g, a2 = some ⟨g, 0, none⟩ := row_some hrow2 hlt3
              have hc := row_cell hrow1 k hlt1
              have hc2 := row_cell hrow2 k hlt3
              have hcap := row_cap hrow1 hlt1
              have hcap2 := row_cap hrow2 hlt3
              have HS := hid (stTo_succ hlt hlt2)
              rw [oL_at hlt, oL_at hlt2] at HS
              generalize hx : (wL s)[k] = x at *
              generalize hy : (wL t)[k] = y at *
              clear hx hy
              cases b1 : starB x
              · have e1 : (x.toList == [42]) = false := b1
                cases b2 : eqB x y
                · have e2 : (x.toList == y.toList) = false := b2
                  have HR := hid (show lcB 6 (wL s) (wL t) = false by rw [HL.out]; exact st_bad hlt hlt2 (by rw [HS.out]; unfold stB; rw [b1, b2]; simp))
                  clear b1 b2
                  go_wp2
                  go_ret
                  exact ⟨ret_bool HR.out.symm, hB1.trans (hB2.mono hB1.size)⟩
                · have e2 : (x.toList == y.toList) = true := b2
                  have HR := hid (show stTo (oL (wL s)) (oL (wL t)) (k + 1) = true by rw [HS.out, HW.out]; unfold stB; rw [b1, b2]; rfl)
                  clear b1 b2
                  go_wp2
                  exact ⟨⟨k + 1, by omega, by go_num, HR.out⟩, by simp [intOf]; omega⟩
              · have e1 : (x.toList == [42]) = true := b1
                have HR := hid (show stTo (oL (wL s)) (oL (wL t)) (k + 1) = true by rw [HS.out, HW.out]; unfold stB; rw [b1]; rfl)
                clear b1
                go_wp2
                exact ⟨⟨k + 1, by omega, by go_num, HR.out⟩, by simp [intOf]; omega⟩
            · obtain rfl : k = (oL (wL s)).length := by omega
              have HR := hid (show lcB 6 (wL s) (wL t) = true by rw [HL.out, ← HW.out]; exact (st_end hA).symm)
              go_wp2
              go_ret
              exact ⟨ret_bool HR.out.symm, hB1.trans (hB2.mono hB1.size)⟩
        · by_cases h6 : (oL (wL s)).length < 6
          · have d3 : decide (((oL (wL s)).length : Int) < 6) = true := by simp; omega
            have HR := hid (show lcB 6 (wL s) (wL t) = false from if_pos (.inr ⟨ho, .inr ⟨ho2, h6⟩⟩))
            go_enter Try.func21, Try.ntmps21
            go_wp2_with fail
            refine (l1Words_any s _ hs).mono ?_
            rintro e w1 ⟨v1, rfl, hrow1, hB1⟩
            obtain ⟨a1, cap1, rfl⟩ := ownsRow_len hrow1
            go_wp2_with fail
            refine (l1Words_any t _ ht).mono ?_
            rintro e w2 ⟨v2, rfl, hrow2, hB2⟩
            obtain ⟨a2, cap2, rfl⟩ := ownsRow_len hrow2
            replace hrow1 := ownsRow_below hrow1 hB2
            go_wp2_with fail
            refine (l1Open_any _ _ (wL s) _ _ hl hrow1).mono ?_
            rintro e w3 ⟨rfl, rfl⟩
            go_wp2_with fail
            refine (l1Open_any _ _ (wL t) _ _ hl' hrow2).mono ?_
            rintro e w4 ⟨rfl, rfl⟩
            go_wp2_with fail
            go_ret
            exact ⟨ret_bool HR.out.symm, hB1.trans (hB2.mono hB1.size)⟩
          · have d3 : decide (((oL (wL s)).length : Int) < 6) = false := by simp; omega
            have HL := hid (show lcB 6 (wL s) (wL t) = ((oL (wL s)).zip (oL (wL t))).all (fun q => stB q.1 q.2) from lcB_on hA (by simp []; omega))
            go_enter Try.func21, Try.ntmps21
            go_wp2_with fail
            refine (l1Words_any s _ hs).mono ?_
            rintro e w1 ⟨v1, rfl, hrow1, hB1⟩
            obtain ⟨a1, cap1, rfl⟩ := ownsRow_len hrow1
            go_wp2_with fail
            refine (l1Words_any t _ ht).mono ?_
            rintro e w2 ⟨v2, rfl, hrow2, hB2⟩
            obtain ⟨a2, cap2, rfl⟩ := ownsRow_len hrow2
            replace hrow1 := ownsRow_below hrow1 hB2
            go_wp2_with fail
            refine (l1Open_any _ _ (wL s) _ _ hl hrow1).mono ?_
            rintro e w3 ⟨rfl, rfl⟩
            go_wp2_with fail
            refine (l1Open_any _ _ (wL t) _ _ hl' hrow2).mono ?_
            rintro e w4 ⟨rfl, rfl⟩
            go_wp2_with fail
            go_loop [57] (fun i => ∃ k : Nat, k ≤ (oL (wL s)).length ∧ i = .int .i64 k ∧ stTo (oL (wL s)) (oL (wL t)) k = true) (fun i => (oL (wL s)).length - (intOf i).toNat)
            case atStart => exact ⟨0, Nat.zero_le _, rfl, stTo_zero _ _⟩
            case round =>
              obtain ⟨k, hk, rfl, hw⟩ := hrel
              have HW := hid hw
              clear hw
              by_cases hlt : k < (oL (wL s)).length
              · have hlt2 : k < (oL (wL t)).length := by omega
                have hlt1 : k < (wL s).length := Nat.lt_of_lt_of_le hlt (oL_len _)
                have hlt3 : k < (wL t).length := Nat.lt_of_lt_of_le hlt2 (oL_len _)
                obtain ⟨g, rfl⟩ : ∃ g, a1 = some ⟨g, 0, none⟩ := row_some hrow1 hlt1
                obtain ⟨g2, rfl⟩ : ∃ g, a2 = some ⟨g, 0, none⟩ := row_some hrow2 hlt3
                have hc := row_cell hrow1 k hlt1
                have hc2 := row_cell hrow2 k hlt3
                have hcap := row_cap hrow1 hlt1
                have hcap2 := row_cap hrow2 hlt3
                have HS := hid (stTo_succ hlt hlt2)
                rw [oL_at hlt, oL_at hlt2] at HS
                generalize hx : (wL s)[k] = x at *
                generalize hy : (wL t)[k] = y at *
                clear hx hy
                cases b1 : starB x
                · have e1 : (x.toList == [42]) = false := b1
                  cases b2 : eqB x y
                  · have e2 : (x.toList == y.toList) = false := b2
                    have HR := hid (show lcB 6 (wL s) (wL t) = false by rw [HL.out]; exact st_bad hlt hlt2 (by rw [HS.out]; unfold stB; rw [b1, b2]; simp))
                    clear b1 b2
                    go_wp2
                    go_ret
                    exact ⟨ret_bool HR.out.symm, hB1.trans (hB2.mono hB1.size)⟩
                  · have e2 : (x.toList == y.toList) = true := b2
                    have HR := hid (show stTo (oL (wL s)) (oL (wL t)) (k + 1) = true by rw [HS.out, HW.out]; unfold stB; rw [b1, b2]; rfl)
                    clear b1 b2
                    go_wp2
                    exact ⟨⟨k + 1, by omega, by go_num, HR.out⟩, by simp [intOf]; omega⟩
                · have e1 : (x.toList == [42]) = true := b1
                  have HR := hid (show stTo (oL (wL s)) (oL (wL t)) (k + 1) = true by rw [HS.out, HW.out]; unfold stB; rw [b1]; rfl)
                  clear b1
                  go_wp2
                  exact ⟨⟨k + 1, by omega, by go_num, HR.out⟩, by simp [intOf]; omega⟩
              · obtain rfl : k = (oL (wL s)).length := by omega
                have HR := hid (show lcB 6 (wL s) (wL t) = true by rw [HL.out, ← HW.out]; exact (st_end hA).symm)
                go_wp2
                go_ret
                exact ⟨ret_bool HR.out.symm, hB1.trans (hB2.mono hB1.size)⟩
    · have HL := hid (show lcB 6 (wL s) (wL t) = ((oL (wL s)).zip (oL (wL t))).all (fun q => stB q.1 q.2) from lcB_on hA (by simp [ho]))
      go_enter Try.func21, Try.ntmps21
      go_wp2_with fail
      refine (l1Words_any s _ hs).mono ?_
      rintro e w1 ⟨v1, rfl, hrow1, hB1⟩
      obtain ⟨a1, cap1, rfl⟩ := ownsRow_len hrow1
      go_wp2_with fail
      refine (l1Words_any t _ ht).mono ?_
      rintro e w2 ⟨v2, rfl, hrow2, hB2⟩
      obtain ⟨a2, cap2, rfl⟩ := ownsRow_len hrow2
      replace hrow1 := ownsRow_below hrow1 hB2
      go_wp2_with fail
      refine (l1Open_any _ _ (wL s) _ _ hl hrow1).mono ?_
      rintro e w3 ⟨rfl, rfl⟩
      go_wp2_with fail
      refine (l1Open_any _ _ (wL t) _ _ hl' hrow2).mono ?_
      rintro e w4 ⟨rfl, rfl⟩
      go_wp2_with fail
      go_loop [57] (fun i => ∃ k : Nat, k ≤ (oL (wL s)).length ∧ i = .int .i64 k ∧ stTo (oL (wL s)) (oL (wL t)) k = true) (fun i => (oL (wL s)).length - (intOf i).toNat)
      case atStart => exact ⟨0, Nat.zero_le _, rfl, stTo_zero _ _⟩
      case round =>
        obtain ⟨k, hk, rfl, hw⟩ := hrel
        have HW := hid hw
        clear hw
        by_cases hlt : k < (oL (wL s)).length
        · have hlt2 : k < (oL (wL t)).length := by omega
          have hlt1 : k < (wL s).length := Nat.lt_of_lt_of_le hlt (oL_len _)
          have hlt3 : k < (wL t).length := Nat.lt_of_lt_of_le hlt2 (oL_len _)
          obtain ⟨g, rfl⟩ : ∃ g, a1 = some ⟨g, 0, none⟩ := row_some hrow1 hlt1
          obtain ⟨g2, rfl⟩ : ∃ g, a2 = some ⟨g, 0, none⟩ := row_some hrow2 hlt3
          have hc := row_cell hrow1 k hlt1
          have hc2 := row_cell hrow2 k hlt3
          have hcap := row_cap hrow1 hlt1
          have hcap2 := row_cap hrow2 hlt3
          have HS := hid (stTo_succ hlt hlt2)
          rw [oL_at hlt, oL_at hlt2] at HS
          generalize hx : (wL s)[k] = x at *
          generalize hy : (wL t)[k] = y at *
          clear hx hy
          cases b1 : starB x
          · have e1 : (x.toList == [42]) = false := b1
            cases b2 : eqB x y
            · have e2 : (x.toList == y.toList) = false := b2
              have HR := hid (show lcB 6 (wL s) (wL t) = false by rw [HL.out]; exact st_bad hlt hlt2 (by rw [HS.out]; unfold stB; rw [b1, b2]; simp))
              clear b1 b2
              go_wp2
              go_ret
              exact ⟨ret_bool HR.out.symm, hB1.trans (hB2.mono hB1.size)⟩
            · have e2 : (x.toList == y.toList) = true := b2
              have HR := hid (show stTo (oL (wL s)) (oL (wL t)) (k + 1) = true by rw [HS.out, HW.out]; unfold stB; rw [b1, b2]; rfl)
              clear b1 b2
              go_wp2
              exact ⟨⟨k + 1, by omega, by go_num, HR.out⟩, by simp [intOf]; omega⟩
          · have e1 : (x.toList == [42]) = true := b1
            have HR := hid (show stTo (oL (wL s)) (oL (wL t)) (k + 1) = true by rw [HS.out, HW.out]; unfold stB; rw [b1]; rfl)
            clear b1
            go_wp2
            exact ⟨⟨k + 1, by omega, by go_num, HR.out⟩, by simp [intOf]; omega⟩
        · obtain rfl : k = (oL (wL s)).length := by omega
          have HR := hid (show lcB 6 (wL s) (wL t) = true by rw [HL.out, ← HW.out]; exact (st_end hA).symm)
          go_wp2
          go_ret
          exact ⟨ret_bool HR.out.symm, hB1.trans (hB2.mono hB1.size)⟩
  · have d1 : decide (((oL (wL t)).length : Int) < ((oL (wL s)).length : Int)) = true := by simp; omega
    have HR := hid (show lcB 6 (wL s) (wL t) = false from if_pos (.inl (by omega)))
    go_enter Try.func21, Try.ntmps21
    go_wp2_with fail
    refine (l1Words_any s _ hs).mono ?_
    rintro e w1 ⟨v1, rfl, hrow1, hB1⟩
    obtain ⟨a1, cap1, rfl⟩ := ownsRow_len hrow1
    go_wp2_with fail
    refine (l1Words_any t _ ht).mono ?_
    rintro e w2 ⟨v2, rfl, hrow2, hB2⟩
    obtain ⟨a2, cap2, rfl⟩ := ownsRow_len hrow2
    replace hrow1 := ownsRow_below hrow1 hB2
    go_wp2_with fail
    refine (l1Open_any _ _ (wL s) _ _ hl hrow1).mono ?_
    rintro e w3 ⟨rfl, rfl⟩
    go_wp2_with fail
    refine (l1Open_any _ _ (wL t) _ _ hl' hrow2).mono ?_
    rintro e w4 ⟨rfl, rfl⟩
    go_wp2_with fail
    go_ret
    exact ⟨ret_bool HR.out.symm, hB1.trans (hB2.mono hB1.size)⟩

set_option maxHeartbeats 1000000 in
theorem specCoversPath_any (s t : ByteArray) (w : World) (hs : s.size ≤ 1048576) (ht : t.size ≤ 1048576) :
    Calls Try.prog 6 #[.string s, .string t] w fun e w' => e = .returned (.tuple #[.bool (cpB s t), .bool (cpOk s t)]) ∧ Below w.heap.size w w' := by
  cases h1 : ptBs s
  · have HR := hid (show cpB s t = false by unfold cpB cpOk; rw [h1]; rfl)
    have HO := hid (show cpOk s t = false by unfold cpOk; rw [h1]; rfl)
    go_enter Try.func6, Try.ntmps6
    go_wp2_with fail
    refine (specGoodPathPattern_any s _ hs).mono ?_
    rintro e w1 ⟨rfl, hB1⟩
    go_wp2_with fail
    go_ret2
    exact ⟨ret_bools HR.out.symm HO.out.symm, hB1⟩
  · cases h2 : ptBs t
    · have HR := hid (show cpB s t = false by unfold cpB cpOk; rw [h1, h2]; rfl)
      have HO := hid (show cpOk s t = false by unfold cpOk; rw [h1, h2]; rfl)
      go_enter Try.func6, Try.ntmps6
      go_wp2_with fail
      refine (specGoodPathPattern_any s _ hs).mono ?_
      rintro e w1 ⟨rfl, hB1⟩
      go_wp2_with fail
      refine (specGoodPathPattern_any t _ ht).mono ?_
      rintro e w2 ⟨rfl, hB2⟩
      go_wp2_with fail
      go_ret2
      exact ⟨ret_bools HR.out.symm HO.out.symm, hB1.trans (hB2.mono hB1.size)⟩
    · have HR := hid (cp_lc h1 h2)
      have HO := hid (show cpOk s t = true by unfold cpOk; rw [h1, h2]; rfl)
      go_enter Try.func6, Try.ntmps6
      go_wp2_with fail
      refine (specGoodPathPattern_any s _ hs).mono ?_
      rintro e w1 ⟨rfl, hB1⟩
      go_wp2_with fail
      refine (specGoodPathPattern_any t _ ht).mono ?_
      rintro e w2 ⟨rfl, hB2⟩
      go_wp2_with fail
      refine (l1Covers_any s t _ hs ht).mono ?_
      rintro e w3 ⟨rfl, hB3⟩
      go_wp2_with fail
      go_ret2
      exact ⟨ret_bools HR.out.symm HO.out.symm, (hB1.trans (hB2.mono hB1.size)).trans (hB3.mono (Nat.le_trans hB1.size hB2.size))⟩

end Go.Proofs.Ytnblnhlfifhkkaa
