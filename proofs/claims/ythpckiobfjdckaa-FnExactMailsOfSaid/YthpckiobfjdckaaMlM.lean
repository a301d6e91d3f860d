/-
  Chapter 6: mails in memory; lists of mails held against each other, marked, and held against the laws' marks.
-/
import Derived.Deep.RegionHeld3
import Derived.Test.YthpckiobfjdckaaSnV
namespace Go.Proofs.Ythpckiobfjdckaa
open Go.RowKit Go.Shelf

/-- A mail. -/
structure Ml where
  kd : Int
  ver : Int
  no : Int
  ru : Ru
  se : Int
abbrev ruZ : Ru := ⟨false, ⟨#[]⟩, ⟨#[]⟩, ⟨#[]⟩⟩
abbrev Ml.cells (m : Ml) : List Value := [.int .i64 m.kd, .int .i64 m.ver, .int .i64 m.no, .bool m.ru.deny, .string m.ru.who, .string m.ru.method, .string m.ru.path, .int .i64 m.se]
abbrev Ml.val (m : Ml) : Value := .agg #[.int .i64 m.kd, .int .i64 m.ver, .int .i64 m.no, .bool m.ru.deny, .string m.ru.who, .string m.ru.method, .string m.ru.path, .int .i64 m.se]
def MlAt (w : World) (b o : Nat) (m : Ml) : Prop := w.cell? ⟨b, o, none⟩ = some (.int .i64 m.kd) ∧ w.cell? ⟨b, o + 1, none⟩ = some (.int .i64 m.ver) ∧ w.cell? ⟨b, o + 2, none⟩ = some (.int .i64 m.no) ∧ w.cell? ⟨b, o + 3, none⟩ = some (.bool m.ru.deny) ∧ w.cell? ⟨b, o + 4, none⟩ = some (.string m.ru.who) ∧ w.cell? ⟨b, o + 5, none⟩ = some (.string m.ru.method) ∧ w.cell? ⟨b, o + 6, none⟩ = some (.string m.ru.path) ∧ w.cell? ⟨b, o + 7, none⟩ = some (.int .i64 m.se)
/-- A slice reads as this list of mails. -/
def MlS (w : World) (v : Value) (ms : List Ml) : Prop :=
  (v = .slice none 0 0 ∧ ms = []) ∨
  ∃ b off cap, v = .slice (some ⟨b, off, none⟩) ms.length cap ∧ b < w.heap.size ∧ ms.length ≤ cap ∧ ∀ i (h : i < ms.length), MlAt w b (off + i * 8) ms[i]
theorem MlAt.below {w w' : World} {b o : Nat} {m : Ml} (h : MlAt w b o m) (hb : b < w.heap.size) (hB : Below w.heap.size w w') : MlAt w' b o m :=
  ⟨(hB.cell (p := ⟨b, o, none⟩) hb).trans h.1, (hB.cell (p := ⟨b, o + 1, none⟩) hb).trans h.2.1, (hB.cell (p := ⟨b, o + 2, none⟩) hb).trans h.2.2.1, (hB.cell (p := ⟨b, o + 3, none⟩) hb).trans h.2.2.2.1, (hB.cell (p := ⟨b, o + 4, none⟩) hb).trans h.2.2.2.2.1, (hB.cell (p := ⟨b, o + 5, none⟩) hb).trans h.2.2.2.2.2.1, (hB.cell (p := ⟨b, o + 6, none⟩) hb).trans h.2.2.2.2.2.2.1, (hB.cell (p := ⟨b, o + 7, none⟩) hb).trans h.2.2.2.2.2.2.2⟩
theorem MlS.below {w w' : World} {v : Value} {ms : List Ml} (h : MlS w v ms) (hB : Below w.heap.size w w') : MlS w' v ms := by
  rcases h with h | ⟨b, off, cap, hv, hb, hl, hc⟩
  · exact .inl h
  · exact .inr ⟨b, off, cap, hv, Nat.lt_of_lt_of_le hb hB.size, hl, fun k hk => (hc k hk).below hb hB⟩
theorem MlS.len {w : World} {v : Value} {ms : List Ml} (h : MlS w v ms) : ∃ a cap, v = .slice a ms.length cap := by
  rcases h with ⟨hv, rfl⟩ | ⟨b, off, cap, hv, _⟩
  · exact ⟨_, _, hv⟩
  · exact ⟨_, cap, hv⟩
theorem MlS.at {w : World} {a : Option Addr} {n cap : Nat} {ms : List Ml} (h : MlS w (.slice a n cap) ms) {i : Nat} (hi : i < ms.length) : ∃ b off, a = some ⟨b, off, none⟩ ∧ b < w.heap.size ∧ n ≤ cap ∧ MlAt w b (off + i * 8) ms[i] := by
  rcases h with ⟨_, rfl⟩ | ⟨b, off, cap, hv, hb, hl, hc⟩
  · simp at hi
  · cases hv
    exact ⟨b, off, rfl, hb, hl, hc i hi⟩
theorem mlat_len : ∀ ms : List Ml, (ms.flatMap Ml.cells).length = ms.length * 8
  | [] => rfl
  | m :: ms => by rw [List.flatMap_cons, List.length_append, mlat_len ms]; simp; omega
theorem mlat_at : ∀ (ms : List Ml) (i j : Nat) (h : i < ms.length), j < 8 → (ms.flatMap Ml.cells)[i * 8 + j]? = ms[i].cells[j]?
  | m :: ms, 0, j, _, hj => by rw [List.flatMap_cons, List.getElem?_append_left (by simpa using hj)]; simp
  | m :: ms, i + 1, j, h, hj => by
    have e : (i + 1) * 8 + j = m.cells.length + (i * 8 + j) := by show (i + 1) * 8 + j = 8 + (i * 8 + j); omega
    rw [List.flatMap_cons, e, List.getElem?_append_right (by omega), Nat.add_sub_cancel_left, mlat_at ms i j (by simpa using h) hj]
    simp
theorem MlS.own {w : World} {base : Nat} {v : Value} {ms : List Ml} (h : w.ownsRow base 58 8 v ms.length (ms.flatMap Ml.cells)) : MlS w v ms := by
  rcases row_form h with ⟨rfl, h0⟩ | ⟨g, cap, rfl, _, hc⟩
  · exact .inl ⟨rfl, List.eq_nil_of_length_eq_zero h0⟩
  · refine .inr ⟨g, 0, cap, rfl, (h.lt g rfl).2, hc, fun k hk => ?_⟩
    rw [Nat.zero_add]
    have hl := mlat_len ms
    have a0 := (h.cellAt (k * 8) (by omega)).trans (mlat_at ms k 0 hk (by omega))
    have a1 := (h.cellAt (k * 8 + 1) (by omega)).trans (mlat_at ms k 1 hk (by omega))
    have a2 := (h.cellAt (k * 8 + 2) (by omega)).trans (mlat_at ms k 2 hk (by omega))
    have a3 := (h.cellAt (k * 8 + 3) (by omega)).trans (mlat_at ms k 3 hk (by omega))
    have a4 := (h.cellAt (k * 8 + 4) (by omega)).trans (mlat_at ms k 4 hk (by omega))
    have a5 := (h.cellAt (k * 8 + 5) (by omega)).trans (mlat_at ms k 5 hk (by omega))
    have a6 := (h.cellAt (k * 8 + 6) (by omega)).trans (mlat_at ms k 6 hk (by omega))
    have a7 := (h.cellAt (k * 8 + 7) (by omega)).trans (mlat_at ms k 7 hk (by omega))
    exact ⟨a0, a1, a2, a3, a4, a5, a6, a7⟩

def Ml.same (r s : Ml) : Bool := (r.kd == s.kd) && ((r.ver == s.ver) && ((r.no == s.no) && (r.ru.same s.ru && (r.se == s.se))))

set_option maxHeartbeats 2000000 in
/-- A mail is like itself. -/
theorem eqMail_same (m : Ml) (w : World) :
    Calls Try.prog 26 #[m.val, m.val] w fun e w' => e = .returned (.bool true) ∧ Below w.heap.size w w' := by
  have e1 : (m.kd != m.kd) = false := by simp
  have e2 : (m.ver != m.ver) = false := by simp
  have e3 : (m.no != m.no) = false := by simp
  have e4 : (m.se != m.se) = false := by simp
  have hB0 : Below w.heap.size w ((w.alloc (.cells #[.int .i64 m.kd, .int .i64 m.ver, .int .i64 m.no, .bool m.ru.deny, .string m.ru.who, .string m.ru.method, .string m.ru.path, .int .i64 m.se] 58)).alloc (.cells #[.int .i64 m.kd, .int .i64 m.ver, .int .i64 m.no, .bool m.ru.deny, .string m.ru.who, .string m.ru.method, .string m.ru.path, .int .i64 m.se] 58)) := ((Below.refl _ w).alloc (Nat.le_refl _) _).alloc (by simp) _
  have c1 : ((w.alloc (.cells #[.int .i64 m.kd, .int .i64 m.ver, .int .i64 m.no, .bool m.ru.deny, .string m.ru.who, .string m.ru.method, .string m.ru.path, .int .i64 m.se] 58)).alloc (.cells #[.int .i64 m.kd, .int .i64 m.ver, .int .i64 m.no, .bool m.ru.deny, .string m.ru.who, .string m.ru.method, .string m.ru.path, .int .i64 m.se] 58)).cell? ⟨w.heap.size, 7, none⟩ = some (.int .i64 m.se) := by simp
  have c2 : ((w.alloc (.cells #[.int .i64 m.kd, .int .i64 m.ver, .int .i64 m.no, .bool m.ru.deny, .string m.ru.who, .string m.ru.method, .string m.ru.path, .int .i64 m.se] 58)).alloc (.cells #[.int .i64 m.kd, .int .i64 m.ver, .int .i64 m.no, .bool m.ru.deny, .string m.ru.who, .string m.ru.method, .string m.ru.path, .int .i64 m.se] 58)).cell? ⟨w.heap.size + 1, 7, none⟩ = some (.int .i64 m.se) := by simp
  have k1 : w.heap.size < ((w.alloc (.cells #[.int .i64 m.kd, .int .i64 m.ver, .int .i64 m.no, .bool m.ru.deny, .string m.ru.who, .string m.ru.method, .string m.ru.path, .int .i64 m.se] 58)).alloc (.cells #[.int .i64 m.kd, .int .i64 m.ver, .int .i64 m.no, .bool m.ru.deny, .string m.ru.who, .string m.ru.method, .string m.ru.path, .int .i64 m.se] 58)).heap.size := by simp; omega
  have k2 : w.heap.size + 1 < ((w.alloc (.cells #[.int .i64 m.kd, .int .i64 m.ver, .int .i64 m.no, .bool m.ru.deny, .string m.ru.who, .string m.ru.method, .string m.ru.path, .int .i64 m.se] 58)).alloc (.cells #[.int .i64 m.kd, .int .i64 m.ver, .int .i64 m.no, .bool m.ru.deny, .string m.ru.who, .string m.ru.method, .string m.ru.path, .int .i64 m.se] 58)).heap.size := by simp
  go_enter Try.func26, Try.ntmps26
  go_wp2_with fail
  generalize (w.alloc (.cells #[.int .i64 m.kd, .int .i64 m.ver, .int .i64 m.no, .bool m.ru.deny, .string m.ru.who, .string m.ru.method, .string m.ru.path, .int .i64 m.se] 58)).alloc (.cells #[.int .i64 m.kd, .int .i64 m.ver, .int .i64 m.no, .bool m.ru.deny, .string m.ru.who, .string m.ru.method, .string m.ru.path, .int .i64 m.se] 58) = W0 at *
  refine (eqRule_any m.ru m.ru _).mono ?_
  rintro e w1 ⟨rfl, hB1⟩
  rw [Ru.same_refl]
  replace c1 := (hB1.cell (p := ⟨w.heap.size, 7, none⟩) k1).trans c1
  replace c2 := (hB1.cell (p := ⟨w.heap.size + 1, 7, none⟩) k2).trans c2
  replace hB0 := below_one hB0 hB1
  clear hB1
  go_wp2_with fail
  go_ret
  exact ⟨rfl, hB0⟩

set_option maxHeartbeats 2000000 in
theorem eqMailS_same (v v' : Value) (ms : List Ml) (w : World) (hm : ms.length ≤ 1048577) (hr : MlS w v ms) (hr' : MlS w v' ms) :
    Calls Try.prog 9 #[v, v'] w fun e w' => e = .returned (.bool true) ∧ Below w.heap.size w w' := by
  obtain ⟨a, cap, rfl⟩ := hr.len
  obtain ⟨a', cap', rfl⟩ := hr'.len
  have e0 : ((ms.length : Int) != (ms.length : Int)) = false := by simp
  go_enter Try.func9, Try.ntmps9
  go_wp2
  go_loopw [5] (fun i wr => ∃ k : Nat, k ≤ ms.length ∧ i = .int .i64 k ∧ Below w.heap.size w wr) (fun i _ => ms.length - (intOf i).toNat)
  case atStart => exact ⟨0, Nat.zero_le _, rfl, Below.refl _ _⟩
  case round =>
    obtain ⟨k, hk, rfl, hB⟩ := hrel
    by_cases hlt : k < ms.length
    · obtain ⟨b, off, rfl, hb, hcap, q0, q1, q2, q3, q4, q5, q6, q7⟩ := (hr.below hB).at hlt
      obtain ⟨b', off', rfl, hb', hcap', p0, p1, p2, p3, p4, p5, p6, p7⟩ := (hr'.below hB).at hlt
      generalize ms[k] = m at *
      go_wp2_with fail
      go_region_with (go_at_call 26; refine (eqMail_same m _).mono ?_; rintro e w1 ⟨rfl, hB1⟩)
      all_goals go_wp2
      all_goals go_roundw
      all_goals first
        | exact ⟨k + 1, by omega, by go_num, below_one hB (below_drew1 hB1)⟩
        | (simp [intOf]; omega)
    · obtain rfl : k = ms.length := by omega
      go_wp2
      go_ret
      exact ⟨rfl, hB⟩

/-- The mail that is laid at i, from the number k on. -/
def mkM (k i : Nat) : Ml := ⟨((k + 8 * i : Nat) : Int), ((k + 8 * i : Nat) : Int) + 1, ((k + 8 * i : Nat) : Int) + 1 + 1, ⟨(((k + 8 * i : Nat) : Int) + 1 + 1 + 1) % 3 == 0, mkT (k + 8 * i + 4), mkT (k + 8 * i + 5), mkT (k + 8 * i + 6)⟩, ((k + 8 * i : Nat) : Int) + 1 + 1 + 1 + 1 + 1 + 1 + 1⟩
def mkMs (k n : Nat) : List Ml := (List.range n).map (mkM k)
theorem mkMs_len (k n : Nat) : (mkMs k n).length = n := by simp [mkMs]
theorem mkMs_succ (k n : Nat) : mkMs k (n + 1) = mkMs k n ++ [mkM k n] := by
  unfold mkMs
  rw [List.range_succ, List.map_append]
  rfl
theorem mkMs_at {k n i : Nat} (h : i < (mkMs k n).length) : (mkMs k n)[i] = mkM k i := by simp [mkMs]
theorem take_set8 {α : Type} (xs : List α) (k : Nat) (a b c d e f g h : α) (hl : k * 8 + 8 ≤ xs.length) : ((((((((xs.set (k * 8) a).set (k * 8 + 1) b).set (k * 8 + 2) c).set (k * 8 + 3) d).set (k * 8 + 4) e).set (k * 8 + 5) f).set (k * 8 + 6) g).set (k * 8 + 7) h).take ((k + 1) * 8) = xs.take (k * 8) ++ [a, b, c, d, e, f, g, h] := by
  apply List.ext_getElem?
  intro i
  rw [List.getElem?_take]
  by_cases hi : i < (k + 1) * 8
  · rw [if_pos hi]
    by_cases h1 : i < k * 8
    · rw [List.getElem?_append_left (by rw [List.length_take]; omega), List.getElem?_take, if_pos h1]
      simp only [List.getElem?_set]
      repeat rw [if_neg (by omega)]
    · rw [List.getElem?_append_right (by rw [List.length_take]; omega), List.length_take, Nat.min_eq_left (by omega)]
      obtain ⟨j, rfl⟩ : ∃ j, i = k * 8 + j := ⟨i - k * 8, by omega⟩
      rw [Nat.add_sub_cancel_left]
      obtain rfl | rfl | rfl | rfl | rfl | rfl | rfl | rfl : j = 0 ∨ j = 1 ∨ j = 2 ∨ j = 3 ∨ j = 4 ∨ j = 5 ∨ j = 6 ∨ j = 7 := by omega
      all_goals (simp only [List.getElem?_set]; simp (config := { decide := true }); omega)
  · rw [if_neg hi, List.getElem?_eq_none]
    rw [List.length_append, List.length_take]
    simp
    omega

set_option maxHeartbeats 4000000 in
set_option maxRecDepth 100000 in
theorem markMailS_to (v : Value) (n k base : Nat) (xs : List Value) (w : World) (hn : n ≤ 100000) (hk : k + 8 * n ≤ 8000000) (hrow : w.ownsRow base 58 8 v n xs) :
    Calls Try.prog 12 #[v, .int .i64 k] w fun e w' => e = .returned (.int .i64 ((k + 8 * n : Nat) : Int)) ∧ w'.ownsRow base 58 8 v n ((mkMs k n).flatMap Ml.cells) ∧ w.grownBy w' v.ownBlock := by
  rcases row_form hrow with ⟨rfl, rfl⟩ | ⟨g, cap, rfl, hg, hcap⟩
  · go_enter Try.func12, Try.ntmps12
    go_wp2
    refine wp_loop_rounds 1 ?_
    rw [rounds_succ]
    go_wp2
    go_ret
    exact ⟨rfl, World.ownsRow_nil _ _ _ _, ⟨rfl, rfl, rfl, Nat.le_refl _, fun _ _ _ => rfl⟩⟩
  · go_enter Try.func12, Try.ntmps12
    go_wp2
    go_loopw [1, 5] (fun kv i wr => ∃ (j c : Nat), j ≤ n ∧ c = k + 8 * j ∧ kv = .int .i64 c ∧ i = .int .i64 j ∧ ∃ ys, wr.ownsRow base 58 8 (.slice (some ⟨g, 0, none⟩) n cap) n ys ∧ ys.take (j * 8) = (mkMs k j).flatMap Ml.cells ∧ w.grownBy wr (some g)) (fun _ i _ => n - (intOf i).toNat)
    case atStart => exact ⟨0, k, Nat.zero_le _, by omega, rfl, rfl, xs, hrow, by simp [mkMs], grown_self _ _⟩
    case round =>
      obtain ⟨j, c, hj, hc, rfl, rfl, ys, row0, hx, hg0⟩ := hrel
      have HX := hid hx
      have HC := hid hc
      clear hx hc hrow
      have hc9 : c ≤ 8000000 := by have := HC.out; omega
      by_cases hlt : j < n
      · have hlen : ys.length = n * 8 := row0.1
        have s0 := row0.cellAt (j * 8) (by have := row0.1; omega)
        rw [List.getElem?_eq_getElem (by have := row0.1; omega)] at s0
        have t0 := row0.frozenAt (j * 8)
        have s1 := row0.cellAt (j * 8 + 1) (by have := row0.1; omega)
        rw [List.getElem?_eq_getElem (by have := row0.1; omega)] at s1
        have t1 := row0.frozenAt (j * 8 + 1)
        have s2 := row0.cellAt (j * 8 + 2) (by have := row0.1; omega)
        rw [List.getElem?_eq_getElem (by have := row0.1; omega)] at s2
        have t2 := row0.frozenAt (j * 8 + 2)
        have s3 := row0.cellAt (j * 8 + 3) (by have := row0.1; omega)
        rw [List.getElem?_eq_getElem (by have := row0.1; omega)] at s3
        have t3 := row0.frozenAt (j * 8 + 3)
        have P0 := row0.stored (j * 8) (.int .i64 (c : Int))
        have P1 := P0.1.stored (j * 8 + 1) (.int .i64 ((c : Int) + 1))
        have P2 := P1.1.stored (j * 8 + 2) (.int .i64 ((c : Int) + 1 + 1))
        have P3 := P2.1.stored (j * 8 + 3) (.bool (((c : Int) + 1 + 1 + 1) % 3 == 0))
        have HG := hid (grown_two (grown_two (grown_two (grown_two hg0 P0.2) P1.2) P2.2) P3.2)
        have HO := hid P3.1
        clear P0 P1 P2 P3
        go_wp2_with fail
        clear s0 t0 s1 t1 s2 t2 s3 t3 row0 hg0
        have rowN := HO.out
        have hgN := HG.out
        clear HO HG
        generalize (((wr.setCell ⟨g, j * 8, none⟩ (.int .i64 (c : Int))).setCell ⟨g, j * 8 + 1, none⟩ (.int .i64 ((c : Int) + 1))).setCell ⟨g, j * 8 + 2, none⟩ (.int .i64 ((c : Int) + 1 + 1))).setCell ⟨g, j * 8 + 3, none⟩ (.bool (((c : Int) + 1 + 1 + 1) % 3 == 0)) = WN at *
        refine (markText_at (c + 4) _ _ (by push_cast; omega) (by omega)).mono ?_
        rintro e v4 ⟨rfl, hB4⟩
        have row1 := ownsRow_below rowN hB4
        have hg1 := grown_below hgN hB4
        clear rowN hgN hB4
        have s4 := row1.cellAt (j * 8 + 4) (by have := row1.1; omega)
        rw [List.getElem?_eq_getElem (by have := row1.1; omega)] at s4
        have t4 := row1.frozenAt (j * 8 + 4)
        have P4 := row1.stored (j * 8 + 4) (.string (mkT (c + 4)))
        have HG := hid (grown_two hg1 P4.2)
        have HO := hid P4.1
        clear P4
        go_wp2_with fail
        clear s4 t4 row1 hg1
        have rowN := HO.out
        have hgN := HG.out
        clear HO HG
        generalize v4.setCell ⟨g, j * 8 + 4, none⟩ (.string (mkT (c + 4))) = WN at *
        refine (markText_at (c + 5) _ _ (by push_cast; omega) (by omega)).mono ?_
        rintro e v5 ⟨rfl, hB5⟩
        have row1 := ownsRow_below rowN hB5
        have hg1 := grown_below hgN hB5
        clear rowN hgN hB5
        have s5 := row1.cellAt (j * 8 + 5) (by have := row1.1; omega)
        rw [List.getElem?_eq_getElem (by have := row1.1; omega)] at s5
        have t5 := row1.frozenAt (j * 8 + 5)
        have P5 := row1.stored (j * 8 + 5) (.string (mkT (c + 5)))
        have HG := hid (grown_two hg1 P5.2)
        have HO := hid P5.1
        clear P5
        go_wp2_with fail
        clear s5 t5 row1 hg1
        have rowN := HO.out
        have hgN := HG.out
        clear HO HG
        generalize v5.setCell ⟨g, j * 8 + 5, none⟩ (.string (mkT (c + 5))) = WN at *
        refine (markText_at (c + 6) _ _ (by push_cast; omega) (by omega)).mono ?_
        rintro e v6 ⟨rfl, hB6⟩
        have row1 := ownsRow_below rowN hB6
        have hg1 := grown_below hgN hB6
        clear rowN hgN hB6
        have s6 := row1.cellAt (j * 8 + 6) (by have := row1.1; omega)
        rw [List.getElem?_eq_getElem (by have := row1.1; omega)] at s6
        have t6 := row1.frozenAt (j * 8 + 6)
        have s7 := row1.cellAt (j * 8 + 7) (by have := row1.1; omega)
        rw [List.getElem?_eq_getElem (by have := row1.1; omega)] at s7
        have t7 := row1.frozenAt (j * 8 + 7)
        have P6 := row1.stored (j * 8 + 6) (.string (mkT (c + 6)))
        have P7 := P6.1.stored (j * 8 + 7) (.int .i64 ((c : Int) + 1 + 1 + 1 + 1 + 1 + 1 + 1))
        have HG := hid (grown_two (grown_two hg1 P6.2) P7.2)
        have HO := hid P7.1
        clear P6 P7
        go_wp2_with fail
        have HM := hid (show mkMs k (j + 1) = mkMs k j ++ [⟨(c : Int), (c : Int) + 1, (c : Int) + 1 + 1, ⟨((c : Int) + 1 + 1 + 1) % 3 == 0, mkT (c + 4), mkT (c + 5), mkT (c + 6)⟩, (c : Int) + 1 + 1 + 1 + 1 + 1 + 1 + 1⟩] by rw [mkMs_succ]; unfold mkM; rw [← HC.out])
        go_roundw
        case rel =>
          refine ⟨j + 1, c + 8, by omega, by have := HC.out; omega, by go_num, by go_num, _, HO.out, ?_, HG.out⟩
          rw [take_set8 _ _ _ _ _ _ _ _ _ _ (by omega), HX.out, HM.out, List.flatMap_append]
          simp
        case measure => simp [intOf]; omega
      · obtain rfl : j = n := by omega
        have HF := hid (show ys = (mkMs k j).flatMap Ml.cells by have := HX.out; rw [List.take_of_length_le (by have := row0.1; omega)] at this; exact this)
        go_wp2
        go_ret
        exact ⟨ret_int (by rw [HC.out]), by rw [← HF.out]; exact row0, hg0⟩

set_option maxHeartbeats 4000000 in
set_option maxRecDepth 100000 in
theorem heldMailS_to (v : Value) (n k : Nat) (w : World) (hn : n ≤ 100000) (hk : k + 8 * n ≤ 8000000) (hr : MlS w v (mkMs k n)) :
    Calls Try.prog 13 #[v, .int .i64 k] w fun e w' => e = .returned (.int .i64 ((k + 8 * n : Nat) : Int)) ∧ Below w.heap.size w w' := by
  obtain ⟨a, cap, rfl⟩ := hr.len
  have hln := mkMs_len k n
  rw [hln] at hr ⊢
  clear hln
  go_enter Try.func13, Try.ntmps13
  go_wp2
  go_loopw [1, 5] (fun kv i wr => ∃ (j c : Nat), j ≤ n ∧ c = k + 8 * j ∧ kv = .int .i64 c ∧ i = .int .i64 j ∧ Below w.heap.size w wr) (fun _ i _ => n - (intOf i).toNat)
  case atStart => exact ⟨0, k, Nat.zero_le _, by omega, rfl, rfl, Below.refl _ _⟩
  case round =>
    obtain ⟨j, c, hj, hc, rfl, rfl, hB⟩ := hrel
    have HC := hid hc
    clear hc
    have hc9 : c ≤ 8000000 := by have := HC.out; omega
    by_cases hlt : j < n
    · obtain ⟨b, off, rfl, hb, hcap, hat⟩ := (hr.below hB).at (i := j) (by rw [mkMs_len]; exact hlt)
      rw [mkMs_at] at hat
      unfold MlAt mkM at hat
      dsimp only at hat
      rw [← HC.out] at hat
      obtain ⟨q0, q1, q2, q3, q4, q5, q6, q7⟩ := hat
      clear hr
      have n0 : ((c : Int) != (c : Int)) = false := by simp
      have n1 : ((c : Int) + 1 != (c : Int) + 1) = false := by simp
      have n2 : ((c : Int) + 1 + 1 != (c : Int) + 1 + 1) = false := by simp
      have n7 : ((c : Int) + 1 + 1 + 1 + 1 + 1 + 1 + 1 != (c : Int) + 1 + 1 + 1 + 1 + 1 + 1 + 1) = false := by simp
      cases hq : (((c : Int) + 1 + 1 + 1) % 3 == 0)
      all_goals
        rw [hq] at q3
        go_wp2_with fail
        go_region_held3 (fun w' => w'.cell? ⟨b, off + j * 8 + 4, none⟩ = some (.string (mkT (c + 4)))) (go_keep) (first | (go_at_call 31; refine (markText_at (c + 4) _ _ (by push_cast; omega) (by omega)).mono ?_; rintro e v1 ⟨rfl, hB1⟩; have r4 := (hB1.cell (p := ⟨b, off + j * 8 + 4, none⟩) (by exact hb)).trans (by exact q4); have r5 := (hB1.cell (p := ⟨b, off + j * 8 + 5, none⟩) (by exact hb)).trans (by exact q5); have r6 := (hB1.cell (p := ⟨b, off + j * 8 + 6, none⟩) (by exact hb)).trans (by exact q6); have r7 := (hB1.cell (p := ⟨b, off + j * 8 + 7, none⟩) (by exact hb)).trans (by exact q7); have hb1 := Nat.lt_of_lt_of_le hb hB1.size))
        have hBB1 := below_one hB (below_drew1 hB1)
        clear hB1
        go_wp2_with fail
        go_region_held3 (fun w' => w'.cell? ⟨b, off + j * 8 + 5, none⟩ = some (.string (mkT (c + 5)))) (go_keep) (first | (go_at_call 31; refine (markText_at (c + 5) _ _ (by push_cast; omega) (by omega)).mono ?_; rintro e v2 ⟨rfl, hB2⟩; have s5 := (hB2.cell (p := ⟨b, off + j * 8 + 5, none⟩) (by exact hb1)).trans (by exact r5); have s6 := (hB2.cell (p := ⟨b, off + j * 8 + 6, none⟩) (by exact hb1)).trans (by exact r6); have s7 := (hB2.cell (p := ⟨b, off + j * 8 + 7, none⟩) (by exact hb1)).trans (by exact r7); have hb2 := Nat.lt_of_lt_of_le hb1 hB2.size))
        have hBB2 := below_one hBB1 (below_drew1 hB2)
        clear hB2
        go_wp2_with fail
        go_region_held3 (fun w' => w'.cell? ⟨b, off + j * 8 + 6, none⟩ = some (.string (mkT (c + 6)))) (go_keep) (first | (go_at_call 31; refine (markText_at (c + 6) _ _ (by push_cast; omega) (by omega)).mono ?_; rintro e v3 ⟨rfl, hB3⟩; have t6 := (hB3.cell (p := ⟨b, off + j * 8 + 6, none⟩) (by exact hb2)).trans (by exact s6); have t7 := (hB3.cell (p := ⟨b, off + j * 8 + 7, none⟩) (by exact hb2)).trans (by exact s7)))
        have hBB3 := below_one hBB2 (below_drew1 hB3)
        clear hB3
        go_wp2_with fail
        go_roundw
        case rel => first | exact ⟨j + 1, c + 8, by omega, by have := HC.out; omega, by go_num, by go_num, hBB3⟩ | ((repeat apply Exists.intro); exact ⟨⟨j + 1, c + 8, by omega, by have := HC.out; omega, by go_num, by go_num, hBB3⟩, rfl⟩)
        case measure => simp [intOf]; omega
    · obtain rfl : j = n := by omega
      go_wp2
      go_ret
      exact ⟨ret_int (by rw [HC.out]), hB⟩

end Go.Proofs.Ythpckiobfjdckaa
