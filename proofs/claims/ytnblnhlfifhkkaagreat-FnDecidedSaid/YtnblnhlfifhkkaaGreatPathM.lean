/-
  Chapter 1's matching of paths by the specification.
-/
import Derived.Test.YtnblnhlfifhkkaaGreatPathC
namespace Go.Proofs.YtnblnhlfifhkkaaGreat
open Go.RowKit Go.Shelf

/-- The pieces ahead of the end stand for those at their place, k of them. -/
def stTo (p ws : List ByteArray) (k : Nat) : Bool := ((p.zip ws).take k).all (fun q => stB q.1 q.2)
theorem stTo_zero (p ws : List ByteArray) : stTo p ws 0 = true := by simp [stTo]
theorem stTo_succ {p ws : List ByteArray} {k : Nat} (h : k < p.length) (h' : k < ws.length) : stTo p ws (k + 1) = (stTo p ws k && stB p[k] ws[k]) := by
  unfold stTo
  rw [List.take_succ_eq_append_getElem (by rw [List.length_zip]; omega), List.all_append]
  simp
theorem st_all (p ws : List ByteArray) (k : Nat) (h : (p.zip ws).all (fun q => stB q.1 q.2) = true) : stTo p ws k = true := by
  unfold stTo
  rw [List.all_eq_true] at *
  exact fun x hx => h x (List.mem_of_mem_take hx)
theorem st_bad {p ws : List ByteArray} {k : Nat} (_h : k < p.length) (_h' : k < ws.length) (hb : stTo p ws (k + 1) = false) : (p.zip ws).all (fun q => stB q.1 q.2) = false := by
  cases h : (p.zip ws).all (fun q => stB q.1 q.2) with
  | false => rfl
  | true => rw [st_all p ws (k + 1) h] at hb; cases hb
theorem st_end {p ws : List ByteArray} (h : p.length ≤ ws.length) : stTo p ws p.length = (p.zip ws).all (fun q => stB q.1 q.2) := by
  unfold stTo
  rw [List.take_of_length_le (by rw [List.length_zip]; omega)]
def lmB (ps ws : List ByteArray) : Bool := if ws.length < (oL ps).length ∨ ((oL ps).length < ws.length ∧ opB ps = false) then false else ((oL ps).zip ws).all (fun q => stB q.1 q.2)

theorem row_some {w : World} {base cap n k : Nat} {a : Option Addr} {e : TypeId} {xs : List Value} (hrow : w.ownsRow base e 1 (.slice a n cap) n xs) (h : k < n) : ∃ g, a = some ⟨g, 0, none⟩ := by
  rcases hrow.2 with ⟨_, h0⟩ | ⟨g, _, _, hv, _⟩
  · omega
  · cases hv; exact ⟨g, rfl⟩
theorem row_cap {w : World} {base cap n k : Nat} {a : Option Addr} {e : TypeId} {xs : List Value} (hrow : w.ownsRow base e 1 (.slice a n cap) n xs) (h : k < n) : n ≤ cap := by
  rcases hrow.2 with ⟨_, h0⟩ | ⟨g, _, _, hv, _, _, hle, _⟩
  · omega
  · cases hv; exact hle

set_option maxHeartbeats 4000000 in
theorem l1Match_any (s t : ByteArray) (w : World) (hs : s.size ≤ 1048576) (ht : t.size ≤ 1048576) :
    Calls Tryz.prog 62 #[.string s, .string t] w fun e w' => e = .returned (.bool (lmB (wL s) (wL t))) ∧ Below w.heap.size w w' := by
  have hl : (wL s).length ≤ 1048577 := Nat.le_trans (wL_len s) (by omega)
  have hl' : (wL t).length ≤ 1048577 := Nat.le_trans (wL_len t) (by omega)
  have hol := oL_len (wL s)
  by_cases hA : (oL (wL s)).length ≤ (wL t).length
  · have d1 : decide (((wL t).length : Int) < ((oL (wL s)).length : Int)) = false := by simp; omega
    by_cases hC : (oL (wL s)).length < (wL t).length
    · have d2 : decide (((oL (wL s)).length : Int) < ((wL t).length : Int)) = true := by simp; omega
      cases ho : opB (wL s)
      · have HR := hid (show lmB (wL s) (wL t) = false from if_pos (.inr ⟨hC, ho⟩))
        go_enter Tryz.func62, Tryz.ntmps62
        go_wp2_with fail
        refine (l1Words_any s _ hs).mono ?_
        rintro e w1 ⟨v1, rfl, hrow1, hB1⟩
        obtain ⟨a1, cap1, rfl⟩ := ownsRow_len hrow1
        go_wp2_with fail
        refine (l1Words_any t _ ht).mono ?_
        rintro e w2 ⟨v2, rfl, hrow2, hB2⟩
        obtain ⟨a2, cap2, rfl⟩ := ownsRow_len hrow2
        replace hrow1 := ownsRow_below hrow1 hB2
        go_wp2_with fail
        refine (l1Open_any _ _ (wL s) _ _ hl hrow1).mono ?_
        rintro e w3 ⟨rfl, rfl⟩
        go_wp2_with fail
        go_ret
        exact ⟨ret_bool HR.out.symm, hB1.trans (hB2.mono hB1.size)⟩
      · have HL := hid (show lmB (wL s) (wL t) = ((oL (wL s)).zip (wL t)).all (fun q => stB q.1 q.2) from if_neg (by simp [ho]; omega))
        go_enter Tryz.func62, Tryz.ntmps62
        go_wp2_with fail
        refine (l1Words_any s _ hs).mono ?_
        rintro e w1 ⟨v1, rfl, hrow1, hB1⟩
        obtain ⟨a1, cap1, rfl⟩ := ownsRow_len hrow1
        go_wp2_with fail
        refine (l1Words_any t _ ht).mono ?_
        rintro e w2 ⟨v2, rfl, hrow2, hB2⟩
        obtain ⟨a2, cap2, rfl⟩ := ownsRow_len hrow2
        replace hrow1 := ownsRow_below hrow1 hB2
        go_wp2_with fail
        refine (l1Open_any _ _ (wL s) _ _ hl hrow1).mono ?_
        rintro e w3 ⟨rfl, rfl⟩
        go_wp2_with fail
        go_loop [45] (fun i => ∃ k : Nat, k ≤ (oL (wL s)).length ∧ i = .int .i64 k ∧ stTo (oL (wL s)) (wL t) k = true) (fun i => (oL (wL s)).length - (intOf i).toNat)
        case atStart => exact ⟨0, Nat.zero_le _, rfl, stTo_zero _ _⟩
        case round =>
          obtain ⟨k, hk, rfl, hw⟩ := hrel
          have HW := hid hw
          clear hw
          by_cases hlt : k < (oL (wL s)).length
          · have hlt2 : k < (wL t).length := by omega
            have hlt1 : k < (wL s).length := Nat.lt_of_lt_of_le hlt (oL_len _)
            obtain ⟨g, rfl⟩ : ∃ g, a1 = some ⟨g, 0, none⟩ := row_some hrow1 hlt1
            obtain ⟨g2, rfl⟩ : ∃ g, a2 = some ⟨g, 0, none⟩ := row_some hrow2 hlt2
            have hc := row_cell hrow1 k hlt1
            have hc2 := row_cell hrow2 k hlt2
            have hcap := row_cap hrow1 hlt1
            have HS := hid (stTo_succ hlt hlt2)
            rw [oL_at hlt] at HS
            generalize hx : (wL s)[k] = x at *
            generalize hy : (wL t)[k] = y at *
            clear hx hy
            cases b1 : starB x
            · have e1 : (x.toList == [42]) = false := b1
              cases b2 : eqB x y
              · have e2 : (x.toList == y.toList) = false := b2
                have HR := hid (show lmB (wL s) (wL t) = false by rw [HL.out]; exact st_bad hlt hlt2 (by rw [HS.out]; unfold stB; rw [b1, b2]; simp))
                clear b1 b2
                go_wp2
                go_ret
                exact ⟨ret_bool HR.out.symm, hB1.trans (hB2.mono hB1.size)⟩
              · have e2 : (x.toList == y.toList) = true := b2
                have HR := hid (show stTo (oL (wL s)) (wL t) (k + 1) = true by rw [HS.out, HW.out]; unfold stB; rw [b1, b2]; rfl)
                clear b1 b2
                go_wp2
                exact ⟨⟨k + 1, by omega, by go_num, HR.out⟩, by simp [intOf]; omega⟩
            · have e1 : (x.toList == [42]) = true := b1
              have HR := hid (show stTo (oL (wL s)) (wL t) (k + 1) = true by rw [HS.out, HW.out]; unfold stB; rw [b1]; rfl)
              clear b1
              go_wp2
              exact ⟨⟨k + 1, by omega, by go_num, HR.out⟩, by simp [intOf]; omega⟩
          · obtain rfl : k = (oL (wL s)).length := by omega
            have HR := hid (show lmB (wL s) (wL t) = true by rw [HL.out, ← HW.out]; exact (st_end hA).symm)
            go_wp2
            go_ret
            exact ⟨ret_bool HR.out.symm, hB1.trans (hB2.mono hB1.size)⟩
    · have d2 : decide (((oL (wL s)).length : Int) < ((wL t).length : Int)) = false := by simp; omega
      have HL := hid (show lmB (wL s) (wL t) = ((oL (wL s)).zip (wL t)).all (fun q => stB q.1 q.2) from if_neg (by omega))
      go_enter Tryz.func62, Tryz.ntmps62
      go_wp2_with fail
      refine (l1Words_any s _ hs).mono ?_
      rintro e w1 ⟨v1, rfl, hrow1, hB1⟩
      obtain ⟨a1, cap1, rfl⟩ := ownsRow_len hrow1
      go_wp2_with fail
      refine (l1Words_any t _ ht).mono ?_
      rintro e w2 ⟨v2, rfl, hrow2, hB2⟩
      obtain ⟨a2, cap2, rfl⟩ := ownsRow_len hrow2
      replace hrow1 := ownsRow_below hrow1 hB2
      go_wp2_with fail
      refine (l1Open_any _ _ (wL s) _ _ hl hrow1).mono ?_
      rintro e w3 ⟨rfl, rfl⟩
      go_wp2_with fail
      go_loop [45] (fun i => ∃ k : Nat, k ≤ (oL (wL s)).length ∧ i = .int .i64 k ∧ stTo (oL (wL s)) (wL t) k = true) (fun i => (oL (wL s)).length - (intOf i).toNat)
      case atStart => exact ⟨0, Nat.zero_le _, rfl, stTo_zero _ _⟩
      case round =>
        obtain ⟨k, hk, rfl, hw⟩ := hrel
        have HW := hid hw
        clear hw
        by_cases hlt : k < (oL (wL s)).length
        · have hlt2 : k < (wL t).length := by omega
          have hlt1 : k < (wL s).length := Nat.lt_of_lt_of_le hlt (oL_len _)
          obtain ⟨g, rfl⟩ : ∃ g, a1 = some ⟨g, 0, none⟩ := row_some hrow1 hlt1
          obtain ⟨g2, rfl⟩ : ∃ g, a2 = some ⟨g, 0, none⟩ := row_some hrow2 hlt2
          have hc := row_cell hrow1 k hlt1
          have hc2 := row_cell hrow2 k hlt2
          have hcap := row_cap hrow1 hlt1
          have HS := hid (stTo_succ hlt hlt2)
          rw [oL_at hlt] at HS
          generalize hx : (wL s)[k] = x at *
          generalize hy : (wL t)[k] = y at *
          clear hx hy
          cases b1 : starB x
          · have e1 : (x.toList == [42]) = false := b1
            cases b2 : eqB x y
            · have e2 : (x.toList == y.toList) = false := b2
              have HR := hid (show lmB (wL s) (wL t) = false by rw [HL.out]; exact st_bad hlt hlt2 (by rw [HS.out]; unfold stB; rw [b1, b2]; simp))
              clear b1 b2
              go_wp2
              go_ret
              exact ⟨ret_bool HR.out.symm, hB1.trans (hB2.mono hB1.size)⟩
            · have e2 : (x.toList == y.toList) = true := b2
              have HR := hid (show stTo (oL (wL s)) (wL t) (k + 1) = true by rw [HS.out, HW.out]; unfold stB; rw [b1, b2]; rfl)
              clear b1 b2
              go_wp2
              exact ⟨⟨k + 1, by omega, by go_num, HR.out⟩, by simp [intOf]; omega⟩
          · have e1 : (x.toList == [42]) = true := b1
            have HR := hid (show stTo (oL (wL s)) (wL t) (k + 1) = true by rw [HS.out, HW.out]; unfold stB; rw [b1]; rfl)
            clear b1
            go_wp2
            exact ⟨⟨k + 1, by omega, by go_num, HR.out⟩, by simp [intOf]; omega⟩
        · obtain rfl : k = (oL (wL s)).length := by omega
          have HR := hid (show lmB (wL s) (wL t) = true by rw [HL.out, ← HW.out]; exact (st_end hA).symm)
          go_wp2
          go_ret
          exact ⟨ret_bool HR.out.symm, hB1.trans (hB2.mono hB1.size)⟩
  · have d1 : decide (((wL t).length : Int) < ((oL (wL s)).length : Int)) = true := by simp; omega
    have HR := hid (show lmB (wL s) (wL t) = false from if_pos (.inl (by omega)))
    go_enter Tryz.func62, Tryz.ntmps62
    go_wp2_with fail
    refine (l1Words_any s _ hs).mono ?_
    rintro e w1 ⟨v1, rfl, hrow1, hB1⟩
    obtain ⟨a1, cap1, rfl⟩ := ownsRow_len hrow1
    go_wp2_with fail
    refine (l1Words_any t _ ht).mono ?_
    rintro e w2 ⟨v2, rfl, hrow2, hB2⟩
    obtain ⟨a2, cap2, rfl⟩ := ownsRow_len hrow2
    replace hrow1 := ownsRow_below hrow1 hB2
    go_wp2_with fail
    refine (l1Open_any _ _ (wL s) _ _ hl hrow1).mono ?_
    rintro e w3 ⟨rfl, rfl⟩
    go_wp2_with fail
    go_ret
    exact ⟨ret_bool HR.out.symm, hB1.trans (hB2.mono hB1.size)⟩

theorem opB_cons (x y : ByteArray) (r : List ByteArray) : opB (x :: y :: r) = opB (y :: r) := by
  unfold opB
  rw [List.getLast?_cons_cons]
theorem oL_cons (x y : ByteArray) (r : List ByteArray) : oL (x :: y :: r) = x :: oL (y :: r) := by
  unfold oL
  rw [opB_cons]
  split <;> simp
theorem word_ws {x : ByteArray} (h : wordB x = true) : wsB x = true := by simp [wsB, h]
theorem lm_cv (xs : List ByteArray) : ∀ ys : List ByteArray, ptOk xs = true → ys.all wordB = true → lmB xs ys = cvB xs ys := by
  induction xs with
  | nil =>
    intro ys _ _
    cases ys with
    | nil => rfl
    | cons y ys => exact if_pos (.inr ⟨by simp [oL, opB], rfl⟩)
  | cons x r ih =>
    intro ys hx hy
    cases r with
    | nil =>
      cases h2 : star2B x with
      | true =>
        have ho : opB [x] = true := h2
        have hp : oL [x] = [] := oL_yes ho
        have hl : lmB [x] ys = true := by
          unfold lmB
          rw [hp, ho, if_neg (by simp)]
          rfl
        rw [hl]
        cases ys with
        | nil => exact h2.symm
        | cons y ys => simp [cvB, h2]
      | false =>
        have ho : opB [x] = false := h2
        have hp : oL [x] = [x] := oL_no ho
        unfold lmB
        rw [hp, ho]
        cases ys with
        | nil => rw [if_pos (.inl (by simp))]; exact h2.symm
        | cons y ys =>
          simp only [List.all_cons, Bool.and_eq_true] at hy
          cases ys with
          | nil => rw [if_neg (by simp)]; simp [cvB, h2, cw_st (word_ws hy.1)]
          | cons z ys => rw [if_pos (.inr ⟨by simp, rfl⟩)]; simp [cvB, h2]
    | cons z r =>
      have h2 : star2B x = false := by
        cases h : star2B x with
        | false => rfl
        | true => simp [ptOk, h] at hx
      have hx' : ptOk (z :: r) = true := by
        rw [ptOk, if_neg (by rw [h2]; exact Bool.false_ne_true), Bool.and_eq_true] at hx
        exact hx.2
      cases ys with
      | nil =>
        unfold lmB
        rw [oL_cons, if_pos (.inl (by simp))]
        exact h2.symm
      | cons y ys =>
        simp only [List.all_cons, Bool.and_eq_true] at hy
        have := ih ys hx' hy.2
        have hs : lmB (x :: z :: r) (y :: ys) = (stB x y && lmB (z :: r) ys) := by
          unfold lmB
          rw [oL_cons, opB_cons]
          by_cases hc : ys.length < (oL (z :: r)).length ∨ ((oL (z :: r)).length < ys.length ∧ opB (z :: r) = false)
          · rw [if_pos hc, if_pos (by simpa using hc), Bool.and_false]
          · rw [if_neg hc, if_neg (by simpa using hc)]
            rfl
        rw [hs, this, cvB, h2, Bool.false_or, cw_st (word_ws hy.1)]
theorem mt_lm {s t : ByteArray} (h1 : ptBs s = true) (h2 : gpB t = true) : mtpB s t = lmB (wL s) (wL t) := by
  have h3 : ptBs t = true := by unfold gpB at h2; rw [Bool.and_eq_true] at h2; exact h2.1
  have h4 : (ptLs t).all wordB = true := by unfold gpB at h2; rw [Bool.and_eq_true] at h2; exact h2.2
  have e1 : ptLs s = wL s := by unfold ptLs; rw [if_pos h1]; rfl
  have e2 : ptLs t = wL t := by unfold ptLs; rw [if_pos h3]; rfl
  have h5 : ptOk (wL s) = true := by
    cases hp : pathPs s with
    | none => rw [ptBs_none hp] at h1; cases h1
    | some l =>
      rw [ptBs_some hp, ptB_eq, Bool.and_eq_true] at h1
      rw [wL_some hp]
      exact h1.1
  rw [lm_cv (wL s) (wL t) h5 (by rw [← e2]; exact h4)]
  unfold mtpB cpB cpOk
  rw [h1, h2, h3, e1, e2]
  simp

end Go.Proofs.YtnblnhlfifhkkaaGreat
