/-
  Chapter 1's meeting of path patterns: both programs answer alike.
-/
import Derived.Test.YtnblnhlfifhkkaaCovP
namespace Go.Proofs.Ytnblnhlfifhkkaa
open Go.RowKit Go.Shelf

/-- Two words meet. -/
def mtB (x y : ByteArray) : Bool := (eqB x y || starB x) || starB y
/-- Two lists of words meet. -/
def mwB : List ByteArray → List ByteArray → Bool
  | [], [] => true
  | [], y :: _ => star2B y
  | x :: _, [] => star2B x
  | x :: xs, y :: ys => (star2B x || star2B y) || (mtB x y && mwB xs ys)
theorem mwB_rest {xs ys : List ByteArray} {k : Nat} (h : restB xs k = true) : mwB (xs.drop k) (ys.drop k) = true := by
  by_cases hk : k < xs.length
  · rw [restB_lt hk] at h
    rw [List.drop_eq_getElem_cons hk]
    cases ys.drop k with
    | nil => exact h
    | cons y r => simp [mwB, h]
  · rw [restB_ge hk] at h
    cases h
theorem mwB_rest2 {xs ys : List ByteArray} {k : Nat} (h : restB ys k = true) : mwB (xs.drop k) (ys.drop k) = true := by
  by_cases hk : k < ys.length
  · rw [restB_lt hk] at h
    rw [List.drop_eq_getElem_cons hk]
    cases xs.drop k with
    | nil => exact h
    | cons y r => simp [mwB, h]
  · rw [restB_ge hk] at h
    cases h
theorem mwB_end {xs ys : List ByteArray} {k : Nat} (hx : k ≤ xs.length) (hy : k ≤ ys.length) (h : restB xs k = false) (h' : restB ys k = false) (he : k = xs.length ∨ k = ys.length) : mwB (xs.drop k) (ys.drop k) = decide (xs.length = ys.length) := by
  by_cases hk : k < xs.length
  · obtain rfl : k = ys.length := by omega
    rw [restB_lt hk] at h
    rw [List.drop_eq_getElem_cons hk, List.drop_length, mwB, h]
    exact (decide_eq_false (by omega)).symm
  · obtain rfl : k = xs.length := by omega
    rw [List.drop_length]
    by_cases hl : xs.length < ys.length
    · rw [restB_lt hl] at h'
      rw [List.drop_eq_getElem_cons hl, mwB, h']
      exact (decide_eq_false (by omega)).symm
    · rw [List.drop_of_length_le (by omega), mwB]
      exact (decide_eq_true (by omega)).symm
theorem mwB_step {xs ys : List ByteArray} {k : Nat} (hx : k < xs.length) (hy : k < ys.length) (h : restB xs k = false) (h' : restB ys k = false) : mwB (xs.drop k) (ys.drop k) = (mtB xs[k] ys[k] && mwB (xs.drop (k + 1)) (ys.drop (k + 1))) := by
  rw [restB_lt hx] at h
  rw [restB_lt hy] at h'
  rw [List.drop_eq_getElem_cons hx, List.drop_eq_getElem_cons hy, mwB, h, h']
  rfl

set_option maxRecDepth 1000000 in
set_option maxHeartbeats 4000000 in
theorem meetWords_any (va vb : Value) (xs ys : List ByteArray) (base base' : Nat) (w : World) (hl : xs.length ≤ 1048577) (hl' : ys.length ≤ 1048577)
    (hrow : w.ownsRow base 9 1 va xs.length (xs.map Value.string)) (hrow' : w.ownsRow base' 9 1 vb ys.length (ys.map Value.string)) :
    Calls Try.prog 22 #[va, vb] w fun e w' => e = .returned (.bool (mwB xs ys)) ∧ Below w.heap.size w w' := by
  obtain ⟨a, cap, rfl⟩ := ownsRow_len hrow
  obtain ⟨a', cap', rfl⟩ := ownsRow_len hrow'
  go_enter Try.func22, Try.ntmps22
  go_wp2
  refine wp_scope_loop 0 (fun a1 w' => ∃ (k : Nat) (u6 u7 u8 u9 u10 u11 u12 u13 u14 u15 u16 u17 u18 u19 u20 u21 u22 u23 u24 u25 u26 u27 u28 u29 u30 u31 u32 u33 u34 u35 u36 u37 u38 u39 u40 u41 u42 u43 u44 u45 u46 u47 u48 u49 u50 u51 u52 u53 : Value), a1 = { tmps := #[.slice a xs.length cap, .slice a' ys.length cap', undef, undef, .bool false, .int .i64 (k : Int), u6, u7, u8, u9, u10, u11, u12, u13, u14, u15, u16, u17, u18, u19, u20, u21, u22, u23, u24, u25, u26, u27, u28, u29, u30, u31, u32, u33, u34, u35, u36, u37, u38, u39, u40, u41, u42, u43, u44, u45, u46, u47, u48, u49, u50, u51, u52, u53], defers := [] } ∧ (w'.ownsRow base 9 1 (.slice a xs.length cap) xs.length (xs.map Value.string) ∧ w'.ownsRow base' 9 1 (.slice a' ys.length cap') ys.length (ys.map Value.string) ∧ Below w.heap.size w w') ∧ k ≤ xs.length ∧ k ≤ ys.length ∧ mwB (xs.drop k) (ys.drop k) = mwB xs ys) (fun a1 _ => xs.length - (intOf (a1.tmps.getD 5 undef)).toNat) rfl ?_ ?_
  · rintro a1 w0 ⟨k, u6, u7, u8, u9, u10, u11, u12, u13, u14, u15, u16, u17, u18, u19, u20, u21, u22, u23, u24, u25, u26, u27, u28, u29, u30, u31, u32, u33, u34, u35, u36, u37, u38, u39, u40, u41, u42, u43, u44, u45, u46, u47, u48, u49, u50, u51, u52, u53, rfl, ⟨hrow, hrow', hB⟩, hk, hk', hcv⟩
    have HCV := hid hcv
    clear hcv
    cases hr : restB xs k
    · cases hr' : restB ys k
      · by_cases hx : k < xs.length
        · have e1 : ((k : Int) == (xs.length : Int)) = false := by simp; omega
          by_cases hy : k < ys.length
          · have e2 : ((k : Int) == (ys.length : Int)) = false := by simp; omega
            obtain ⟨g, rfl⟩ : ∃ g, a = some ⟨g, 0, none⟩ := row_some hrow hx
            obtain ⟨g', rfl⟩ : ∃ g, a' = some ⟨g, 0, none⟩ := row_some hrow' hy
            have hc := row_cell hrow k hx
            have hc' := row_cell hrow' k hy
            have HS := hid (mwB_step hx hy hr hr')
            generalize hX : xs[k] = x at *
            generalize hY : ys[k] = y at *
            clear hX hY
            cases b1 : eqB x y
            · have t1 : (x.toList == y.toList) = false := b1
              cases b2 : starB x
              · have t2 : (x.toList == [42]) = false := b2
                cases b3 : starB y
                · have t3 : (y.toList == [42]) = false := b3
                  have HR := hid (show mwB xs ys = false by rw [← HCV.out, HS.out]; unfold mtB; rw [b1, b2, b3]; rfl)
                  clear b1 b2 b3
                  go_wp2_with fail
                  refine (restAt_any _ xs base k _ hl hrow).mono ?_
                  rintro e w1 ⟨rfl, rfl⟩
                  go_wp2_with fail
                  refine (restAt_any _ ys base' k _ hl' hrow').mono ?_
                  rintro e w2 ⟨rfl, rfl⟩
                  go_wp2_with fail
                  go_quiet (fail)
                  go_wp2
                  simp only [Exit.jump]
                  go_ret
                  exact ⟨ret_bool HR.out.symm, below_drewN hB _⟩
                · have t3 : (y.toList == [42]) = true := b3
                  have HR := hid (show mwB (xs.drop (k + 1)) (ys.drop (k + 1)) = mwB xs ys by rw [← HCV.out, HS.out]; unfold mtB; rw [b1, b2, b3]; rfl)
                  clear b1 b2 b3
                  go_wp2_with fail
                  refine (restAt_any _ xs base k _ hl hrow).mono ?_
                  rintro e w1 ⟨rfl, rfl⟩
                  go_wp2_with fail
                  refine (restAt_any _ ys base' k _ hl' hrow').mono ?_
                  rintro e w2 ⟨rfl, rfl⟩
                  go_wp2_with fail
                  go_quiet (fail)
                  go_wp2
                  go_step3
                  refine ⟨rfl, ⟨k + 1, _, _, _, _, _, _, _, _, _, _, _, _, _, _, _, _, _, _, _, _, _, _, _, _, _, _, _, _, _, _, _, _, _, _, _, _, _, _, _, _, _, _, _, _, _, _, _, _, rfl, ⟨hrow, hrow', below_drewN hB _⟩, by omega, by omega, HR.out⟩, ?_⟩
                  simp [intOf]
                  omega
              · have t2 : (x.toList == [42]) = true := b2
                have HR := hid (show mwB (xs.drop (k + 1)) (ys.drop (k + 1)) = mwB xs ys by rw [← HCV.out, HS.out]; unfold mtB; rw [b1, b2]; rfl)
                clear b1 b2
                go_wp2_with fail
                refine (restAt_any _ xs base k _ hl hrow).mono ?_
                rintro e w1 ⟨rfl, rfl⟩
                go_wp2_with fail
                refine (restAt_any _ ys base' k _ hl' hrow').mono ?_
                rintro e w2 ⟨rfl, rfl⟩
                go_wp2_with fail
                go_quiet (fail)
                go_wp2
                go_step3
                refine ⟨rfl, ⟨k + 1, _, _, _, _, _, _, _, _, _, _, _, _, _, _, _, _, _, _, _, _, _, _, _, _, _, _, _, _, _, _, _, _, _, _, _, _, _, _, _, _, _, _, _, _, _, _, _, _, rfl, ⟨hrow, hrow', below_drewN hB _⟩, by omega, by omega, HR.out⟩, ?_⟩
                simp [intOf]
                omega
            · have t1 : (x.toList == y.toList) = true := b1
              have HR := hid (show mwB (xs.drop (k + 1)) (ys.drop (k + 1)) = mwB xs ys by rw [← HCV.out, HS.out]; unfold mtB; rw [b1]; rfl)
              clear b1
              go_wp2_with fail
              refine (restAt_any _ xs base k _ hl hrow).mono ?_
              rintro e w1 ⟨rfl, rfl⟩
              go_wp2_with fail
              refine (restAt_any _ ys base' k _ hl' hrow').mono ?_
              rintro e w2 ⟨rfl, rfl⟩
              go_wp2_with fail
              go_quiet (fail)
              go_wp2
              go_step3
              refine ⟨rfl, ⟨k + 1, _, _, _, _, _, _, _, _, _, _, _, _, _, _, _, _, _, _, _, _, _, _, _, _, _, _, _, _, _, _, _, _, _, _, _, _, _, _, _, _, _, _, _, _, _, _, _, _, rfl, ⟨hrow, hrow', below_drewN hB _⟩, by omega, by omega, HR.out⟩, ?_⟩
              simp [intOf]
              omega
          · have e2 : ((k : Int) == (ys.length : Int)) = true := by simp; omega
            have HR := hid (show mwB xs ys = decide (xs.length = ys.length) by rw [← HCV.out]; exact mwB_end hk hk' hr hr' (by omega))
            go_wp2_with fail
            refine (restAt_any _ xs base k _ hl hrow).mono ?_
            rintro e w1 ⟨rfl, rfl⟩
            go_wp2_with fail
            refine (restAt_any _ ys base' k _ hl' hrow').mono ?_
            rintro e w2 ⟨rfl, rfl⟩
            go_wp2_with fail
            simp only [Exit.jump]
            go_ret
            exact ⟨ret_bool (by rw [HR.out]; exact int_beq _ _), hB⟩
        · have e1 : ((k : Int) == (xs.length : Int)) = true := by simp; omega
          have HR := hid (show mwB xs ys = decide (xs.length = ys.length) by rw [← HCV.out]; exact mwB_end hk hk' hr hr' (by omega))
          go_wp2_with fail
          refine (restAt_any _ xs base k _ hl hrow).mono ?_
          rintro e w1 ⟨rfl, rfl⟩
          go_wp2_with fail
          refine (restAt_any _ ys base' k _ hl' hrow').mono ?_
          rintro e w2 ⟨rfl, rfl⟩
          go_wp2_with fail
          simp only [Exit.jump]
          go_ret
          exact ⟨ret_bool (by rw [HR.out]; exact int_beq _ _), hB⟩
      · have HR := hid (show mwB xs ys = true by rw [← HCV.out]; exact mwB_rest2 hr')
        go_wp2_with fail
        refine (restAt_any _ xs base k _ hl hrow).mono ?_
        rintro e w1 ⟨rfl, rfl⟩
        go_wp2_with fail
        refine (restAt_any _ ys base' k _ hl' hrow').mono ?_
        rintro e w2 ⟨rfl, rfl⟩
        go_wp2_with fail
        simp only [Exit.jump]
        go_ret
        exact ⟨ret_bool HR.out.symm, hB⟩
    · have HR := hid (show mwB xs ys = true by rw [← HCV.out]; exact mwB_rest hr)
      go_wp2_with fail
      refine (restAt_any _ xs base k _ hl hrow).mono ?_
      rintro e w1 ⟨rfl, rfl⟩
      go_wp2_with fail
      simp only [Exit.jump]
      go_ret
      exact ⟨ret_bool HR.out.symm, hB⟩
  · intro hp
    go_wp2
    go_step3
    rename_i hK
    exact hK _ _ (hp.out _ _ ⟨0, _, _, _, _, _, _, _, _, _, _, _, _, _, _, _, _, _, _, _, _, _, _, _, _, _, _, _, _, _, _, _, _, _, _, _, _, _, _, _, _, _, _, _, _, _, _, _, _, rfl, ⟨hrow, hrow', Below.refl _ _⟩, Nat.zero_le _, Nat.zero_le _, rfl⟩)

/-- Two path patterns meet. -/
def mpB (s t : ByteArray) : Bool := cpOk s t && mwB (ptLs s) (ptLs t)

set_option maxHeartbeats 1000000 in
theorem implMeetPath_any (s t : ByteArray) (w : World) (hs : s.size ≤ 1048576) (ht : t.size ≤ 1048576) :
    Calls Try.prog 7 #[.string s, .string t] w fun e w' => e = .returned (.tuple #[.bool (mpB s t), .bool (cpOk s t)]) ∧ Below w.heap.size w w' := by
  have hl : (ptLs s).length ≤ 1048577 := Nat.le_trans (ptLs_len s) (by omega)
  have hl' : (ptLs t).length ≤ 1048577 := Nat.le_trans (ptLs_len t) (by omega)
  cases h1 : ptBs s
  · have HR := hid (show mpB s t = false by unfold mpB cpOk; rw [h1]; rfl)
    have HO := hid (show cpOk s t = false by unfold cpOk; rw [h1]; rfl)
    go_enter Try.func7, Try.ntmps7
    go_wp2_with fail
    refine (wordsOfPath_any s _ hs).mono ?_
    rintro e w1 ⟨v1, rfl, hrow1, hB1⟩
    go_wp2_with fail
    refine (wordsOfPath_any t _ ht).mono ?_
    rintro e w2 ⟨v2, rfl, hrow2, hB2⟩
    go_wp2_with fail
    go_ret2
    exact ⟨ret_bools HR.out.symm HO.out.symm, hB1.trans (hB2.mono hB1.size)⟩
  · cases h2 : ptBs t
    · have HR := hid (show mpB s t = false by unfold mpB cpOk; rw [h1, h2]; rfl)
      have HO := hid (show cpOk s t = false by unfold cpOk; rw [h1, h2]; rfl)
      go_enter Try.func7, Try.ntmps7
      go_wp2_with fail
      refine (wordsOfPath_any s _ hs).mono ?_
      rintro e w1 ⟨v1, rfl, hrow1, hB1⟩
      go_wp2_with fail
      refine (wordsOfPath_any t _ ht).mono ?_
      rintro e w2 ⟨v2, rfl, hrow2, hB2⟩
      go_wp2_with fail
      go_ret2
      exact ⟨ret_bools HR.out.symm HO.out.symm, hB1.trans (hB2.mono hB1.size)⟩
    · have HR := hid (show mpB s t = mwB (ptLs s) (ptLs t) by unfold mpB cpOk; rw [h1, h2]; rfl)
      have HO := hid (show cpOk s t = true by unfold cpOk; rw [h1, h2]; rfl)
      go_enter Try.func7, Try.ntmps7
      go_wp2_with fail
      refine (wordsOfPath_any s _ hs).mono ?_
      rintro e w1 ⟨v1, rfl, hrow1, hB1⟩
      go_wp2_with fail
      refine (wordsOfPath_any t _ ht).mono ?_
      rintro e w2 ⟨v2, rfl, hrow2, hB2⟩
      go_wp2_with fail
      refine (meetWords_any _ _ _ _ _ _ _ hl hl' (ownsRow_below hrow1 hB2) hrow2).mono ?_
      rintro e w3 ⟨rfl, hB3⟩
      go_wp2_with fail
      go_ret2
      exact ⟨ret_bools HR.out.symm HO.out.symm, (hB1.trans (hB2.mono hB1.size)).trans (hB3.mono (Nat.le_trans hB1.size hB2.size))⟩

end Go.Proofs.Ytnblnhlfifhkkaa
