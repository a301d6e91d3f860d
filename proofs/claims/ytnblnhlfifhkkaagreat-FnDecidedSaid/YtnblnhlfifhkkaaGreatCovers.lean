/-
  Chapter 1's covering of words, walked by goto.
-/
import Derived.Deep.QuietTactic
import Derived.BigQuiet
import Derived.WalkSmall
import Derived.ScopeJumps
import Derived.WalkMore
import Derived.Test.YtnblnhlfifhkkaaGreatMatchN
namespace Go.Proofs.YtnblnhlfifhkkaaGreat
open Go.RowKit Go.Shelf

theorem int_beq (m n : Nat) : ((m : Int) == (n : Int)) = decide (m = n) := by
  rw [Bool.eq_iff_iff, beq_iff_eq, decide_eq_true_eq]
  omega

/-- Two stars stand at k. -/
def restB (xs : List ByteArray) (k : Nat) : Bool := match xs[k]? with
  | some x => star2B x
  | none => false
theorem restB_lt {xs : List ByteArray} {k : Nat} (h : k < xs.length) : restB xs k = star2B xs[k] := by
  unfold restB
  rw [List.getElem?_eq_getElem h]
theorem restB_ge {xs : List ByteArray} {k : Nat} (h : ¬ k < xs.length) : restB xs k = false := by
  unfold restB
  rw [List.getElem?_eq_none (by omega)]
/-- One word covers another. -/
def cwB (x y : ByteArray) : Bool := eqB x y || (starB x && !star2B y)
/-- A list of words covers another. -/
def cvB : List ByteArray → List ByteArray → Bool
  | [], [] => true
  | [], _ :: _ => false
  | x :: _, [] => star2B x
  | x :: xs, y :: ys => star2B x || (cwB x y && cvB xs ys)
theorem cvB_rest {xs ys : List ByteArray} {k : Nat} (h : restB xs k = true) : cvB (xs.drop k) (ys.drop k) = true := by
  by_cases hk : k < xs.length
  · rw [restB_lt hk] at h
    rw [List.drop_eq_getElem_cons hk]
    cases ys.drop k with
    | nil => exact h
    | cons y r => simp [cvB, h]
  · rw [restB_ge hk] at h
    cases h
theorem cvB_end {xs ys : List ByteArray} {k : Nat} (hx : k ≤ xs.length) (hy : k ≤ ys.length) (h : restB xs k = false) (he : k = xs.length ∨ k = ys.length) : cvB (xs.drop k) (ys.drop k) = decide (xs.length = ys.length) := by
  by_cases hk : k < xs.length
  · obtain rfl : k = ys.length := by omega
    rw [restB_lt hk] at h
    rw [List.drop_eq_getElem_cons hk, List.drop_length, cvB, h]
    exact (decide_eq_false (by omega)).symm
  · obtain rfl : k = xs.length := by omega
    rw [List.drop_length]
    by_cases hl : xs.length < ys.length
    · rw [List.drop_eq_getElem_cons hl, cvB]
      exact (decide_eq_false (by omega)).symm
    · rw [List.drop_of_length_le (by omega), cvB]
      exact (decide_eq_true (by omega)).symm
theorem cvB_step {xs ys : List ByteArray} {k : Nat} (hx : k < xs.length) (hy : k < ys.length) (h : restB xs k = false) : cvB (xs.drop k) (ys.drop k) = (cwB xs[k] ys[k] && cvB (xs.drop (k + 1)) (ys.drop (k + 1))) := by
  rw [restB_lt hx] at h
  rw [List.drop_eq_getElem_cons hx, List.drop_eq_getElem_cons hy, cvB, h]
  rfl

set_option maxHeartbeats 400000 in
theorem coversWord_any (x y : ByteArray) (w : World) :
    Calls Tryz.prog 122 #[.string x, .string y] w fun e w' => e = .returned (.bool (cwB x y)) ∧ w' = w := by
  cases b1 : eqB x y
  · have e1 : (x.toList == y.toList) = false := b1
    cases b2 : starB x
    · have e2 : (x.toList == [42]) = false := b2
      have HR := hid (show cwB x y = false by unfold cwB; rw [b1, b2]; rfl)
      clear b1 b2
      go_enter Tryz.func122, Tryz.ntmps122
      go_wp2
      go_ret
      exact ⟨ret_bool HR.out.symm, rfl⟩
    · have e2 : (x.toList == [42]) = true := b2
      have HR := hid (show cwB x y = !star2B y by unfold cwB; rw [b1, b2]; rfl)
      clear b1 b2
      go_enter Tryz.func122, Tryz.ntmps122
      go_wp2
      go_ret
      exact ⟨ret_bool HR.out.symm, rfl⟩
  · have e1 : (x.toList == y.toList) = true := b1
    have HR := hid (show cwB x y = true by unfold cwB; rw [b1]; rfl)
    clear b1
    go_enter Tryz.func122, Tryz.ntmps122
    go_wp2
    go_ret
    exact ⟨ret_bool HR.out.symm, rfl⟩

set_option maxHeartbeats 400000 in
theorem restAt_any (v : Value) (xs : List ByteArray) (base k : Nat) (w : World) (_hl : xs.length ≤ 1048577) (hrow : w.ownsRow base 9 1 v xs.length (xs.map Value.string)) :
    Calls Tryz.prog 121 #[v, .int .i64 (k : Int)] w fun e w' => e = .returned (.bool (restB xs k)) ∧ w' = w := by
  obtain ⟨a, cap, rfl⟩ := ownsRow_len hrow
  by_cases hlt : k < xs.length
  · obtain ⟨g, rfl⟩ : ∃ g, a = some ⟨g, 0, none⟩ := by
      rcases hrow.2 with ⟨_, h0⟩ | ⟨g, _, _, hv, _⟩
      · omega
      · cases hv; exact ⟨g, rfl⟩
    have hc := row_cell hrow k hlt
    have HR := hid (restB_lt hlt)
    go_enter Tryz.func121, Tryz.ntmps121
    go_wp2
    go_ret
    exact ⟨ret_bool HR.out.symm, rfl⟩
  · have HR := hid (restB_ge hlt)
    go_enter Tryz.func121, Tryz.ntmps121
    go_wp2
    go_ret
    exact ⟨ret_bool HR.out.symm, rfl⟩

/-- A label at which a goto comes again and again: the passes first, the way to it behind them. -/
theorem wp_scope_loop {P : Program} {a : Act} {w : World} {Q : Exit → Act → World → Prop} {c rest : Code} (l : Nat) (J : Act → World → Prop) (μ : Act → World → Nat) (hf : findLabel c l = some (Code.skip.seq rest))
    (pass : ∀ a w, J a w → rest.wp P (Exit.jump l (fun a' w' => J a' w' ∧ μ a' w' < μ a w) Q) a w)
    (first : Hid (∀ a w, J a w → rest.wp P (Exit.jump l J Q) a w) → c.wp P (Exit.jump l J Q) a w) : (Code.scope c).wp P Q a w :=
  wp_scope_jumps l J μ hf (first (fun a w hJ => Code.wp_mono (fun e a w q => by cases e <;> first | exact q | exact ⟨q.1, q.2.1⟩) (pass a w hJ))) fun a w hJ => wp_seq (wp_skip (pass a w hJ))

set_option maxRecDepth 1000000 in
set_option maxHeartbeats 2000000 in
theorem coversWords_any (va vb : Value) (xs ys : List ByteArray) (base base' : Nat) (w : World) (hl : xs.length ≤ 1048577) (_hl' : ys.length ≤ 1048577)
    (hrow : w.ownsRow base 9 1 va xs.length (xs.map Value.string)) (hrow' : w.ownsRow base' 9 1 vb ys.length (ys.map Value.string)) :
    Calls Tryz.prog 120 #[va, vb] w fun e w' => e = .returned (.bool (cvB xs ys)) ∧ Below w.heap.size w w' := by
  obtain ⟨a, cap, rfl⟩ := ownsRow_len hrow
  obtain ⟨a', cap', rfl⟩ := ownsRow_len hrow'
  go_enter Tryz.func120, Tryz.ntmps120
  go_wp2
  refine wp_scope_loop 0 (fun a1 w' => ∃ (k : Nat) (u6 u7 u8 u9 u10 u11 u12 u13 u14 u15 u16 u17 u18 u19 u20 u21 u22 u23 u24 u25 u26 u27 u28 u29 u30 u31 u32 u33 u34 u35 : Value), a1 = { tmps := #[.slice a xs.length cap, .slice a' ys.length cap', undef, undef, .bool false, .int .i64 (k : Int), u6, u7, u8, u9, u10, u11, u12, u13, u14, u15, u16, u17, u18, u19, u20, u21, u22, u23, u24, u25, u26, u27, u28, u29, u30, u31, u32, u33, u34, u35], defers := [] } ∧ (w'.ownsRow base 9 1 (.slice a xs.length cap) xs.length (xs.map Value.string) ∧ w'.ownsRow base' 9 1 (.slice a' ys.length cap') ys.length (ys.map Value.string) ∧ Below w.heap.size w w') ∧ k ≤ xs.length ∧ k ≤ ys.length ∧ cvB (xs.drop k) (ys.drop k) = cvB xs ys) (fun a1 _ => xs.length - (intOf (a1.tmps.getD 5 undef)).toNat) rfl ?_ ?_
  · rintro a1 w0 ⟨k, u6, u7, u8, u9, u10, u11, u12, u13, u14, u15, u16, u17, u18, u19, u20, u21, u22, u23, u24, u25, u26, u27, u28, u29, u30, u31, u32, u33, u34, u35, rfl, ⟨hrow, hrow', hB⟩, hk, hk', hcv⟩
    have HCV := hid hcv
    clear hcv
    cases hr : restB xs k
    · by_cases hx : k < xs.length
      · have e1 : ((k : Int) == (xs.length : Int)) = false := by simp; omega
        by_cases hy : k < ys.length
        · have e2 : ((k : Int) == (ys.length : Int)) = false := by simp; omega
          obtain ⟨g, rfl⟩ : ∃ g, a = some ⟨g, 0, none⟩ := by
            rcases hrow.2 with ⟨_, h0⟩ | ⟨g, _, _, hv, _⟩
            · omega
            · cases hv; exact ⟨g, rfl⟩
          obtain ⟨g', rfl⟩ : ∃ g, a' = some ⟨g, 0, none⟩ := by
            rcases hrow'.2 with ⟨_, h0⟩ | ⟨g, _, _, hv, _⟩
            · omega
            · cases hv; exact ⟨g, rfl⟩
          have hc := row_cell hrow k hx
          have hc' := row_cell hrow' k hy
          have HS := hid (cvB_step hx hy hr)
          cases hw : cwB xs[k] ys[k]
          · have HR := hid (show cvB xs ys = false by rw [← HCV.out, HS.out, hw]; rfl)
            go_wp2_with (go_at_call 121; refine (restAt_any _ xs base k _ hl hrow).mono ?_; rintro e w' ⟨rfl, rfl⟩)
            go_quiet ((go_at_call 122; exact Calls.quiet_of_same (coversWord_any _ _ _)))
            go_wp2
            simp only [Exit.jump]
            go_ret
            exact ⟨ret_bool HR.out.symm, below_drewN hB _⟩
          · have HR := hid (show cvB (xs.drop (k + 1)) (ys.drop (k + 1)) = cvB xs ys by rw [← HCV.out, HS.out, hw]; rfl)
            go_wp2_with (go_at_call 121; refine (restAt_any _ xs base k _ hl hrow).mono ?_; rintro e w' ⟨rfl, rfl⟩)
            go_quiet ((go_at_call 122; exact Calls.quiet_of_same (coversWord_any _ _ _)))
            go_wp2
            go_step3
            refine ⟨rfl, ⟨k + 1, _, _, _, _, _, _, _, _, _, _, _, _, _, _, _, _, _, _, _, _, _, _, _, _, _, _, _, _, _, _, rfl, ⟨hrow, hrow', below_drewN hB _⟩, by omega, by omega, HR.out⟩, ?_⟩
            simp [intOf]
            omega
        · have e2 : ((k : Int) == (ys.length : Int)) = true := by simp; omega
          have HR := hid (show cvB xs ys = decide (xs.length = ys.length) by rw [← HCV.out]; exact cvB_end hk hk' hr (by omega))
          go_wp2_with (go_at_call 121; refine (restAt_any _ xs base k _ hl hrow).mono ?_; rintro e w' ⟨rfl, rfl⟩)
          simp only [Exit.jump]
          go_ret
          exact ⟨ret_bool (by rw [HR.out]; exact int_beq _ _), hB⟩
      · have e1 : ((k : Int) == (xs.length : Int)) = true := by simp; omega
        have HR := hid (show cvB xs ys = decide (xs.length = ys.length) by rw [← HCV.out]; exact cvB_end hk hk' hr (by omega))
        go_wp2_with (go_at_call 121; refine (restAt_any _ xs base k _ hl hrow).mono ?_; rintro e w' ⟨rfl, rfl⟩)
        simp only [Exit.jump]
        go_ret
        exact ⟨ret_bool (by rw [HR.out]; exact int_beq _ _), hB⟩
    · have HR := hid (show cvB xs ys = true by rw [← HCV.out]; exact cvB_rest hr)
      go_wp2_with (go_at_call 121; refine (restAt_any _ xs base k _ hl hrow).mono ?_; rintro e w' ⟨rfl, rfl⟩)
      simp only [Exit.jump]
      go_ret
      exact ⟨ret_bool HR.out.symm, hB⟩
  · intro hp
    go_wp2
    go_step3
    rename_i hK
    exact hK _ _ (hp.out _ _ ⟨0, _, _, _, _, _, _, _, _, _, _, _, _, _, _, _, _, _, _, _, _, _, _, _, _, _, _, _, _, _, _, rfl, ⟨hrow, hrow', Below.refl _ _⟩, Nat.zero_le _, Nat.zero_le _, rfl⟩)

theorem nmL_len (s : ByteArray) : (nmL (split s 47)).length ≤ s.size + 1 := by
  unfold nmL
  split
  · exact split_len s 47
  · simp
/-- A name pattern covers another. -/
def cnB (s t : ByteArray) : Bool := (nmB (split s 47) && nmB (split t 47)) && cvB (split s 47) (split t 47)
def cnOk (s t : ByteArray) : Bool := nmB (split s 47) && nmB (split t 47)
theorem ret_bools {a b c d : Bool} (h : a = b) (h' : c = d) : Ending.returned (.tuple #[.bool a, .bool c]) = .returned (.tuple #[.bool b, .bool d]) := by rw [h, h']

set_option maxHeartbeats 1000000 in
theorem implCoversName_any (s t : ByteArray) (w : World) (hs : s.size ≤ 1048576) (ht : t.size ≤ 1048576) :
    Calls Tryz.prog 115 #[.string s, .string t] w fun e w' => e = .returned (.tuple #[.bool (cnB s t), .bool (cnOk s t)]) ∧ Below w.heap.size w w' := by
  have hl : (nmL (split s 47)).length ≤ 1048577 := Nat.le_trans (nmL_len s) (by omega)
  have hl' : (nmL (split t 47)).length ≤ 1048577 := Nat.le_trans (nmL_len t) (by omega)
  cases h1 : nmB (split s 47)
  · have HR := hid (show cnB s t = false by unfold cnB; rw [h1]; rfl)
    have HO := hid (show cnOk s t = false by unfold cnOk; rw [h1]; rfl)
    go_enter Tryz.func115, Tryz.ntmps115
    go_wp2_with fail
    refine (wordsOfName_any s _ hs).mono ?_
    rintro e w1 ⟨v1, rfl, hrow1, hB1⟩
    go_wp2_with fail
    refine (wordsOfName_any t _ ht).mono ?_
    rintro e w2 ⟨v2, rfl, hrow2, hB2⟩
    go_wp2_with fail
    go_ret2
    exact ⟨ret_bools HR.out.symm HO.out.symm, hB1.trans (hB2.mono hB1.size)⟩
  · cases h2 : nmB (split t 47)
    · have HR := hid (show cnB s t = false by unfold cnB; rw [h1, h2]; rfl)
      have HO := hid (show cnOk s t = false by unfold cnOk; rw [h1, h2]; rfl)
      go_enter Tryz.func115, Tryz.ntmps115
      go_wp2_with fail
      refine (wordsOfName_any s _ hs).mono ?_
      rintro e w1 ⟨v1, rfl, hrow1, hB1⟩
      go_wp2_with fail
      refine (wordsOfName_any t _ ht).mono ?_
      rintro e w2 ⟨v2, rfl, hrow2, hB2⟩
      go_wp2_with fail
      go_ret2
      exact ⟨ret_bools HR.out.symm HO.out.symm, hB1.trans (hB2.mono hB1.size)⟩
    · have HR := hid (show cnB s t = cvB (nmL (split s 47)) (nmL (split t 47)) by rw [nmL_yes h1, nmL_yes h2]; unfold cnB; rw [h1, h2]; rfl)
      have HO := hid (show cnOk s t = true by unfold cnOk; rw [h1, h2]; rfl)
      go_enter Tryz.func115, Tryz.ntmps115
      go_wp2_with fail
      refine (wordsOfName_any s _ hs).mono ?_
      rintro e w1 ⟨v1, rfl, hrow1, hB1⟩
      go_wp2_with fail
      refine (wordsOfName_any t _ ht).mono ?_
      rintro e w2 ⟨v2, rfl, hrow2, hB2⟩
      go_wp2_with fail
      refine (coversWords_any _ _ _ _ _ _ _ hl hl' (ownsRow_below hrow1 hB2) hrow2).mono ?_
      rintro e w3 ⟨rfl, hB3⟩
      go_wp2_with fail
      go_ret2
      exact ⟨ret_bools HR.out.symm HO.out.symm, (hB1.trans (hB2.mono hB1.size)).trans (hB3.mono (Nat.le_trans hB1.size hB2.size))⟩

end Go.Proofs.YtnblnhlfifhkkaaGreat
