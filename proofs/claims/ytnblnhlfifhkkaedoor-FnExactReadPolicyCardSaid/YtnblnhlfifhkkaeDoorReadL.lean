/-
  Chapter 2: a policy read from its lines by the specification.
-/
import Derived.Test.YtnblnhlfifhkkaeDoorReadS
import Derived.Test.YtnblnhlfifhkkaeDoorMarkS
namespace Go.Proofs.YtnblnhlfifhkkaeDoor
open Go.RowKit Go.Shelf

theorem word_at {w : World} {base cap k : Nat} {a : Option Addr} {xs : List ByteArray} (hrow : w.ownsRow base 9 1 (.slice a xs.length cap) xs.length (xs.map Value.string)) (h : k < xs.length) : ∃ g, a = some ⟨g, 0, none⟩ ∧ xs.length ≤ cap ∧ w.cell? ⟨g, k, none⟩ = some (.string xs[k]) := by
  rcases hrow.2 with ⟨h', h''⟩ | ⟨g, c, cur, h', _, _, hc, _⟩
  · injection h' with _ h1 _
    have : xs.length = 0 := by omega
    omega
  · injection h' with h1 _ h2
    subst h1
    subst h2
    exact ⟨g, rfl, hc, row_cell hrow k h⟩
theorem cell_four_r (w : World) (r : Ru) : ∀ j u, r.cells[j]? = some u → (w.alloc (.cells #[.bool r.deny, .string r.who, .string r.method, .string r.path] 31)).cell? ((⟨w.heap.size, 0, none⟩ : Addr).add j) = some u := by
  intro j u hu
  have hj : j < 4 := by have := (List.getElem?_eq_some_iff.1 hu).1; simpa using this
  obtain h | h | h | h : j = 0 ∨ j = 1 ∨ j = 2 ∨ j = 3 := by omega
  all_goals subst h
  all_goals simp at hu
  all_goals subst hu
  all_goals simp [Addr.add]
theorem rd_last {l : List ByteArray} {k : Nat} {acc : List Ru} (h : k + 1 = l.length) : rdL (l.drop k) k acc = if (l[k]'(by omega)).toList.isEmpty = true then (acc, 0, 0) else ([], k + 1, 2) := by
  have hk : k < l.length := by omega
  have : l.drop k = [l[k]] := by
    rw [List.drop_eq_getElem_cons hk, List.drop_eq_nil_of_le (by omega)]
  rw [this]
  rfl
theorem rd_more {l : List ByteArray} {k : Nat} {acc : List Ru} (h : k + 1 < l.length) : rdL (l.drop k) k acc = if ruOk (l[k]'(by omega)) = false then ([], k + 1, 2) else if acc.length = 30 then ([], k + 1, 3) else rdL (l.drop (k + 1)) (k + 1) (acc ++ [ruOf (l[k]'(by omega))]) := by
  have hk : k < l.length := by omega
  rw [List.drop_eq_getElem_cons hk, List.drop_eq_getElem_cons h]
  rfl
theorem ret_three {v : Value} {a b : Int} {t : List Ru × Nat × Nat} (h1 : (t.2.1 : Int) = a) (h2 : (t.2.2 : Int) = b) : Ending.returned (.tuple #[v, .int .i64 a, .int .i64 b]) = .returned (.tuple #[v, .int .i64 t.2.1, .int .i64 t.2.2]) := by rw [h1, h2]

set_option maxHeartbeats 2000000 in
set_option maxRecDepth 100000 in
theorem l2Read_any (s : ByteArray) (w : World) (hs : s.size ≤ 1048576) :
    Calls Tryd.prog 9 #[.string s] w fun e w' => ∃ v', e = .returned (.tuple #[v', .int .i64 (rdS s).2.1, .int .i64 (rdS s).2.2]) ∧ w'.ownsRow w.heap.size 31 4 v' (rdS s).1.length ((rdS s).1.flatMap Ru.cells) ∧ Below w.heap.size w w' := by
  obtain ⟨i0, hi, hz0, hz1, hz2⟩ := info_parts infoRule
  by_cases hlong : 1500 < s.size
  · have HR := hid (show rdS s = ([], 0, 1) by unfold rdS; rw [if_pos hlong])
    go_enter Tryd.func9, Tryd.ntmps9
    go_wp2
    refine bodyPost_ret (v := .tuple #[.slice none 0 0, .int .i64 0, .int .i64 1]) (by simp [results, Tryd.results9, go_sem, *]) rfl ?_
    rw [HR.out]
    exact ⟨_, rfl, World.ownsRow_nil _ _ _ _, Below.refl _ _⟩
  · have HR := hid (show rdS s = rdL (split s 10) 0 [] by unfold rdS; rw [if_neg hlong])
    have hle : s.size ≤ 1500 := by omega
    have hlen : (split s 10).length ≤ s.size + 1 := split_len s 10
    have hpos : 1 ≤ (split s 10).length := by
      obtain ⟨x, r, h⟩ := split_ne s 10
      rw [h]
      simp
    have hsz := split_size s 10
    have hlong : s.size ≤ 1500 := by omega
    go_enter Tryd.func9, Tryd.ntmps9
    go_wp2_with fail
    refine (l1Split_any s 10 10 rfl _ (by omega)).mono ?_
    rintro e w1 ⟨v1, rfl, hrow1, hB1⟩
    obtain ⟨a1, cap1, rfl⟩ := ownsRow_len hrow1
    generalize split s 10 = ls at *
    go_wp2_with fail
    go_loopw [5, 18] (fun out i wr => ∃ (k : Nat) (acc : List Ru), k < ls.length ∧ i = .int .i64 k ∧ wr.ownsRow w1.heap.size 31 4 out acc.length (acc.flatMap Ru.cells) ∧ acc.length ≤ 30 ∧ rdL (ls.drop k) k acc = rdS s ∧ Below w1.heap.size w1 wr) (fun _ i _ => ls.length - (intOf i).toNat)
    case atStart => exact ⟨0, [], hpos, rfl, World.ownsRow_nil _ _ _ _, Nat.zero_le _, HR.out.symm, Below.refl _ _⟩
    case round =>
      obtain ⟨k, acc, hlt, rfl, hrow, hacc, hrd, hB⟩ := hrel
      have hBB := below_one hB1 hB
      have hzz := hB.size
      have HRD := hid hrd
      clear HR hrd
      obtain ⟨g, rfl, hcap, hc⟩ := word_at (ownsRow_below hrow1 hB) hlt
      have hxz : ls[k].size ≤ 1500 := Nat.le_trans (hsz _ (List.getElem_mem hlt)) hle
      by_cases hlast : k + 1 = ls.length
      · have e1 : ((k : Int) == (ls.length : Int) - 1) = true := by simp; omega
        have HL := hid (rd_last (acc := acc) hlast)
        obtain ⟨ao, capo, rfl⟩ := ownsRow_len hrow
        generalize ls[k] = x at *
        cases hx : x.toList.isEmpty
        · have HT := hid (show rdS s = ([], k + 1, 2) by rw [← HRD.out, HL.out, hx]; rfl)
          go_wp2
          refine bodyPost_ret (v := .tuple #[.slice none 0 0, .int .i64 ((k : Int) + 1), .int .i64 2]) (by simp [results, Tryd.results9, go_sem, *]) rfl ?_
          rw [HT.out]
          exact ⟨_, ret_three (by simp) rfl, World.ownsRow_nil _ _ _ _, hBB⟩
        · have HT := hid (show rdS s = (acc, 0, 0) by rw [← HRD.out, HL.out, hx]; rfl)
          go_wp2
          refine bodyPost_ret (v := .tuple #[.slice ao acc.length capo, .int .i64 0, .int .i64 0]) (by simp [results, Tryd.results9, go_sem, *]) rfl ?_
          rw [HT.out]
          exact ⟨_, rfl, Go.Joins.ownsRow_le hrow hB1.size, hBB⟩
      · have e1 : ((k : Int) == (ls.length : Int) - 1) = false := by simp; omega
        have hmore : k + 1 < ls.length := by omega
        have HL := hid (rd_more (acc := acc) hmore)
        generalize ls[k] = x at *
        rcases row_form hrow with ⟨rfl, hl0⟩ | ⟨go, capo, rfl, hg, hcapo⟩
        · obtain rfl : acc = [] := List.eq_nil_of_length_eq_zero hl0
          go_wp2_with fail
          refine (l2Rule_any x _ hxz).mono ?_
          rintro e w2 ⟨r, rfl, hok, hB2⟩
          have hB2' := hB2.size
          have hrow2 := ownsRow_below hrow hB2
          have hBB2 := below_one hBB hB2
          cases ho : ruOk x
          · have HT := hid (show rdS s = ([], k + 1, 2) by rw [← HRD.out, HL.out, ho]; rfl)
            clear hok
            go_wp2
            refine bodyPost_ret (v := .tuple #[.slice none 0 0, .int .i64 ((k : Int) + 1), .int .i64 2]) (by simp [results, Tryd.results9, go_sem, *]) rfl ?_
            rw [HT.out]
            exact ⟨_, ret_three (t := ([], k + 1, 2)) (by simp) rfl, World.ownsRow_nil _ _ _ _, hBB2.alloc hBB2.size _⟩
          · have HT := hid (show rdL (ls.drop (k + 1)) (k + 1) ([] ++ [ruOf x]) = rdS s by rw [← HRD.out, HL.out, ho, if_neg (by simp), if_neg (by simp)])
            have her := hok ho
            clear hok
            rw [← her] at HT
            clear her
            have hcf : ∀ j u, r.cells[j]? = some u → ((w2.alloc (.cells #[.bool r.deny, .string r.who, .string r.method, .string r.path] 31)).alloc (.cells #[.bool r.deny, .string r.who, .string r.method, .string r.path] 31)).cell? ((⟨w2.heap.size + 1, 0, none⟩ : Addr).add j) = some u := by
              have h := cell_four_r (w2.alloc (.cells #[.bool r.deny, .string r.who, .string r.method, .string r.path] 31)) r
              rw [show (w2.alloc (.cells #[.bool r.deny, .string r.who, .string r.method, .string r.path] 31)).heap.size = w2.heap.size + 1 by simp] at h
              exact h
            go_wp2_with (at_builtin; refine wpList_append_own _ rfl _ _ 22 rfl w1.heap.size 31 i0 _ 4 56 Tryd.underlying22 hi hz0 hz1 hz2 rfl (by decide) _ _ _ rfl ((hrow2.alloc _).alloc _) ⟨w2.heap.size + 1, 0, none⟩ 1 1 r.cells rfl rfl hcf (by intro u hu; simp at hu; rcases hu with rfl | rfl | rfl | rfl <;> rfl) (by unfold maxLen; first | omega | (simp <;> omega)) (by first | omega | (simp <;> omega)) (by first | omega | (simp <;> omega)) ?_; intro v' w3 hown' hgrow _; obtain ⟨g', cap', rfl⟩ := ownsRow_len hown')
            go_roundw
            case rel =>
              refine ⟨k + 1, [] ++ [r], hmore, by go_num, ?_, by simp <;> omega, HT.out, ?_⟩
              · simpa using hown'
              · exact (below_one hB hB2).trans (((Below.refl _ w2).alloc (by omega) _).trans (below_appended (by simp; omega) (hrow2.alloc _) hgrow))
            case measure => simp [intOf]; omega
        · go_wp2_with fail
          refine (l2Rule_any x _ hxz).mono ?_
          rintro e w2 ⟨r, rfl, hok, hB2⟩
          have hB2' := hB2.size
          have hrow2 := ownsRow_below hrow hB2
          have hBB2 := below_one hBB hB2
          cases ho : ruOk x
          · have HT := hid (show rdS s = ([], k + 1, 2) by rw [← HRD.out, HL.out, ho]; rfl)
            clear hok
            go_wp2
            refine bodyPost_ret (v := .tuple #[.slice none 0 0, .int .i64 ((k : Int) + 1), .int .i64 2]) (by simp [results, Tryd.results9, go_sem, *]) rfl ?_
            rw [HT.out]
            exact ⟨_, ret_three (t := ([], k + 1, 2)) (by simp) rfl, World.ownsRow_nil _ _ _ _, hBB2.alloc hBB2.size _⟩
          · by_cases h30 : acc.length = 30
            · have HT := hid (show rdS s = ([], k + 1, 3) by rw [← HRD.out, HL.out, ho, h30]; rfl)
              clear hok
              go_wp2
              refine bodyPost_ret (v := .tuple #[.slice none 0 0, .int .i64 ((k : Int) + 1), .int .i64 3]) (by simp [results, Tryd.results9, go_sem, *]) rfl ?_
              rw [HT.out]
              exact ⟨_, ret_three (t := ([], k + 1, 3)) (by simp) rfl, World.ownsRow_nil _ _ _ _, hBB2.alloc hBB2.size _⟩
            · have HT := hid (show rdL (ls.drop (k + 1)) (k + 1) (acc ++ [ruOf x]) = rdS s by rw [← HRD.out, HL.out, ho, if_neg (by simp), if_neg h30])
              have e30 : ((acc.length : Int) == 30) = false := by simp; omega
              have her := hok ho
              clear hok
              rw [← her] at HT
              clear her
              have hcf : ∀ j u, r.cells[j]? = some u → ((w2.alloc (.cells #[.bool r.deny, .string r.who, .string r.method, .string r.path] 31)).alloc (.cells #[.bool r.deny, .string r.who, .string r.method, .string r.path] 31)).cell? ((⟨w2.heap.size + 1, 0, none⟩ : Addr).add j) = some u := by
                have h := cell_four_r (w2.alloc (.cells #[.bool r.deny, .string r.who, .string r.method, .string r.path] 31)) r
                rw [show (w2.alloc (.cells #[.bool r.deny, .string r.who, .string r.method, .string r.path] 31)).heap.size = w2.heap.size + 1 by simp] at h
                exact h
              go_wp2_with (at_builtin; refine wpList_append_own _ rfl _ _ 22 rfl w1.heap.size 31 i0 _ 4 56 Tryd.underlying22 hi hz0 hz1 hz2 rfl (by decide) _ _ _ rfl ((hrow2.alloc _).alloc _) ⟨w2.heap.size + 1, 0, none⟩ 1 1 r.cells rfl rfl hcf (by intro u hu; simp at hu; rcases hu with rfl | rfl | rfl | rfl <;> rfl) (by unfold maxLen; first | omega | (simp <;> omega)) (by first | omega | (simp <;> omega)) (by first | omega | (simp <;> omega)) ?_; intro v' w3 hown' hgrow _; obtain ⟨g', cap', rfl⟩ := ownsRow_len hown')
              go_roundw
              case rel =>
                refine ⟨k + 1, acc ++ [r], hmore, by go_num, ?_, by simp <;> omega, HT.out, ?_⟩
                · simpa using hown'
                · exact (below_one hB hB2).trans (((Below.refl _ w2).alloc (by omega) _).trans (below_appended (by simp; omega) (hrow2.alloc _) hgrow))
              case measure => simp [intOf]; omega

end Go.Proofs.YtnblnhlfifhkkaeDoor
