/-
  Chapter 2: a policy read from its lines by the program.
-/
import Derived.Test.YtnblnhlfifhkkaaDoorReadL
import Derived.Test.YtnblnhlfifhkkaaDoorCutW
namespace Go.Proofs.YtnblnhlfifhkkaaDoor
open Go.RowKit Go.Shelf

def strLen (v : Value) : Nat := match v with | .string t => t.size | _ => 0

set_option maxHeartbeats 2000000 in
set_option maxRecDepth 100000 in
theorem readPolicy_any (s : ByteArray) (m : Int) (w : World) (hs : s.size ≤ 1048576) (hm : w.cell? ⟨0, 0, none⟩ = some (.int .i64 m)) :
    Calls Tryd.prog 7 #[.string s] w fun e w' => ∃ v', e = .returned (.tuple #[v', .int .i64 (rdS s).2.1, .int .i64 (rdS s).2.2]) ∧ w'.ownsRow w.heap.size 43 4 v' (rdS s).1.length ((rdS s).1.flatMap Ru.cells) ∧ Below w.heap.size w w' := by
  obtain ⟨i0, hi, hz0, hz1', hz2⟩ := info_parts infoRule
  have h0 := ml_lt hm
  by_cases hlong : 1500 < s.size
  · have HR := hid (show rdS s = ([], 0, 1) by unfold rdS; rw [if_pos hlong])
    go_enter Tryd.func7, Tryd.ntmps7
    go_wp2
    refine bodyPost_ret (v := .tuple #[.slice none 0 0, .int .i64 0, .int .i64 1]) (by simp [results, Tryd.results7, go_sem, *]) rfl ?_
    rw [HR.out]
    exact ⟨_, rfl, World.ownsRow_nil _ _ _ _, Below.refl _ _⟩
  · have HR := hid (show rdS s = rdL (split s 10) 0 [] by unfold rdS; rw [if_neg hlong])
    have hle : s.size ≤ 1500 := by omega
    clear hlong
    go_enter Tryd.func7, Tryd.ntmps7
    go_wp2_with fail
    go_loopw [0, 5, 6] (fun sv out lv wr => ∃ (t : ByteArray) (i : Nat) (acc : List Ru), sv = .string t ∧ lv = .int .i64 ((i : Int) + 1) ∧ t.size ≤ 1500 ∧ wr.ownsRow w.heap.size 43 4 out acc.length (acc.flatMap Ru.cells) ∧ acc.length ≤ 30 ∧ i + t.size ≤ 1500 ∧ rdL (split t 10) i acc = rdS s ∧ Below w.heap.size w wr) (fun sv _ _ _ => strLen sv)
    case atStart => exact ⟨s, 0, [], rfl, rfl, hle, World.ownsRow_nil _ _ _ _, Nat.zero_le _, by omega, HR.out.symm, Below.refl _ _⟩
    case round =>
      obtain ⟨t, i, acc, rfl, rfl, hz, hrow, hacc, hit, hrd, hB⟩ := hrel
      have HRD := hid hrd
      clear HR hrd
      cases hx : t.toList.isEmpty
      · cases hf : fI t 10 with
        | none =>
          have hC := cut_none hf
          obtain ⟨ao, capo, rfl⟩ := ownsRow_len hrow
          go_wp2_with fail
          refine (stringsCut_any t 10 _ (by omega)).mono ?_
          rintro e wq ⟨rfl, nq, rfl⟩
          rw [hC.1, hC.2.1, hC.2.2]
          clear hC
          have hBn : Below wr.heap.size wr (wr.drewN nq) := below_drewN (Below.refl _ _) nq
          have hBW := below_one hB hBn
          replace hrow := ownsRow_below hrow hBn
          have hzW := hBW.size
          generalize wr.drewN nq = Wq at *
          clear hBn hB
          have hm1 : Wq.cell? ⟨0, 0, none⟩ = some (.int .i64 m) := (hBW.cell (p := ⟨0, 0, none⟩) h0).trans hm
          go_wp2_with fail
          refine (ruleOfText_any t m _ hz hm1).mono ?_
          rintro e w2 ⟨r, rfl, hok, hB2⟩
          have hB2' := hB2.size
          have hrow2 := ownsRow_below hrow hB2
          have hBB2 := below_one hBW hB2
          clear hm1
          have HT := hid (show rdS s = ([], i + 1, 2) by rw [← HRD.out, rd_open hx hf])
          clear hok
          cases ho : ruOk t
          all_goals go_wp2
          all_goals refine bodyPost_ret (v := .tuple #[.slice none 0 0, .int .i64 ((i : Int) + 1), .int .i64 2]) (by simp [results, Tryd.results7, go_sem, *]) rfl ?_
          all_goals rw [HT.out]
          all_goals exact ⟨_, ret_three (t := ([], i + 1, 2)) (by simp) rfl, World.ownsRow_nil _ _ _ _, hBB2.alloc hBB2.size _⟩
        | some q =>
          have hC := cut_some hf
          have hlt := fI_lt hf
          have hz1 : (t.extract 0 q).size ≤ 1500 := by rw [ByteArray.size_extract]; omega
          have hz2' : (t.extract (q + 1) t.size).size = t.size - (q + 1) := by rw [ByteArray.size_extract]; omega
          rcases row_form hrow with ⟨rfl, hl0⟩ | ⟨go, capo, rfl, hg, hcapo⟩
          · obtain rfl : acc = [] := List.eq_nil_of_length_eq_zero hl0
            go_wp2_with fail
            refine (stringsCut_any t 10 _ (by omega)).mono ?_
            rintro e wq ⟨rfl, nq, rfl⟩
            rw [hC.1, hC.2.1, hC.2.2]
            clear hC
            have hBn : Below wr.heap.size wr (wr.drewN nq) := below_drewN (Below.refl _ _) nq
            have hBW := below_one hB hBn
            replace hrow := ownsRow_below hrow hBn
            have hzW := hBW.size
            generalize wr.drewN nq = Wq at *
            clear hBn hB
            have hm1 : Wq.cell? ⟨0, 0, none⟩ = some (.int .i64 m) := (hBW.cell (p := ⟨0, 0, none⟩) h0).trans hm
            go_wp2_with fail
            refine (ruleOfText_any (t.extract 0 q) m _ hz1 hm1).mono ?_
            rintro e w2 ⟨r, rfl, hok, hB2⟩
            have hB2' := hB2.size
            have hrow2 := ownsRow_below hrow hB2
            have hBB2 := below_one hBW hB2
            clear hm1
            cases ho : ruOk (t.extract 0 q)
            · have HT := hid (show rdS s = ([], i + 1, 2) by rw [← HRD.out, rd_cut hf, ho]; rfl)
              clear hok
              go_wp2
              refine bodyPost_ret (v := .tuple #[.slice none 0 0, .int .i64 ((i : Int) + 1), .int .i64 2]) (by simp [results, Tryd.results7, go_sem, *]) rfl ?_
              rw [HT.out]
              exact ⟨_, ret_three (t := ([], i + 1, 2)) (by simp) rfl, World.ownsRow_nil _ _ _ _, hBB2.alloc hBB2.size _⟩
            · have HT := hid (show rdL (split (t.extract (q + 1) t.size) 10) (i + 1) ([] ++ [ruOf (t.extract 0 q)]) = rdS s by rw [← HRD.out, rd_cut hf, ho, if_neg (by simp), if_neg (by simp)])
              have her := hok ho
              clear hok
              rw [← her] at HT
              clear her
              have hcf : ∀ j u, r.cells[j]? = some u → ((w2.alloc (.cells #[.bool r.deny, .string r.who, .string r.method, .string r.path] 43)).alloc (.cells #[.bool r.deny, .string r.who, .string r.method, .string r.path] 43)).cell? ((⟨w2.heap.size + 1, 0, none⟩ : Addr).add j) = some u := by
                have h := cell_four_r (w2.alloc (.cells #[.bool r.deny, .string r.who, .string r.method, .string r.path] 43)) r
                rw [show (w2.alloc (.cells #[.bool r.deny, .string r.who, .string r.method, .string r.path] 43)).heap.size = w2.heap.size + 1 by simp] at h
                exact h
              go_wp2_with (at_builtin; refine wpList_append_own _ rfl _ _ 23 rfl w.heap.size 43 i0 _ 4 56 Tryd.underlying23 hi hz0 hz1' hz2 rfl (by decide) _ _ _ rfl ((hrow2.alloc _).alloc _) ⟨w2.heap.size + 1, 0, none⟩ 1 1 r.cells rfl rfl hcf (by intro u hu; simp at hu; rcases hu with rfl | rfl | rfl | rfl <;> rfl) (by unfold maxLen; first | omega | (simp <;> omega)) (by first | omega | (simp <;> omega)) (by first | omega | (simp <;> omega)) ?_; intro v' w3 hown' hgrow _; obtain ⟨g', cap', rfl⟩ := ownsRow_len hown')
              go_roundw
              case rel =>
                refine ⟨_, i + 1, [] ++ [r], rfl, by go_num, by omega, ?_, by simp <;> omega, by omega, HT.out, ?_⟩
                · simpa using hown'
                · exact hBB2.trans (((Below.refl _ w2).alloc (by omega) _).trans (below_appended (by simp; omega) (hrow2.alloc _) hgrow))
              case measure => simp only [strLen]; omega
          · go_wp2_with fail
            refine (stringsCut_any t 10 _ (by omega)).mono ?_
            rintro e wq ⟨rfl, nq, rfl⟩
            rw [hC.1, hC.2.1, hC.2.2]
            clear hC
            have hBn : Below wr.heap.size wr (wr.drewN nq) := below_drewN (Below.refl _ _) nq
            have hBW := below_one hB hBn
            replace hrow := ownsRow_below hrow hBn
            have hzW := hBW.size
            generalize wr.drewN nq = Wq at *
            clear hBn hB
            have hm1 : Wq.cell? ⟨0, 0, none⟩ = some (.int .i64 m) := (hBW.cell (p := ⟨0, 0, none⟩) h0).trans hm
            go_wp2_with fail
            refine (ruleOfText_any (t.extract 0 q) m _ hz1 hm1).mono ?_
            rintro e w2 ⟨r, rfl, hok, hB2⟩
            have hB2' := hB2.size
            have hrow2 := ownsRow_below hrow hB2
            have hBB2 := below_one hBW hB2
            clear hm1
            cases ho : ruOk (t.extract 0 q)
            · have HT := hid (show rdS s = ([], i + 1, 2) by rw [← HRD.out, rd_cut hf, ho]; rfl)
              clear hok
              go_wp2
              refine bodyPost_ret (v := .tuple #[.slice none 0 0, .int .i64 ((i : Int) + 1), .int .i64 2]) (by simp [results, Tryd.results7, go_sem, *]) rfl ?_
              rw [HT.out]
              exact ⟨_, ret_three (t := ([], i + 1, 2)) (by simp) rfl, World.ownsRow_nil _ _ _ _, hBB2.alloc hBB2.size _⟩
            · by_cases h30 : acc.length = 30
              · have HT := hid (show rdS s = ([], i + 1, 3) by rw [← HRD.out, rd_cut hf, ho, h30]; rfl)
                clear hok
                go_wp2
                refine bodyPost_ret (v := .tuple #[.slice none 0 0, .int .i64 ((i : Int) + 1), .int .i64 3]) (by simp [results, Tryd.results7, go_sem, *]) rfl ?_
                rw [HT.out]
                exact ⟨_, ret_three (t := ([], i + 1, 3)) (by simp) rfl, World.ownsRow_nil _ _ _ _, hBB2.alloc hBB2.size _⟩
              · have HT := hid (show rdL (split (t.extract (q + 1) t.size) 10) (i + 1) (acc ++ [ruOf (t.extract 0 q)]) = rdS s by rw [← HRD.out, rd_cut hf, ho, if_neg (by simp), if_neg h30])
                have e30 : ((acc.length : Int) == 30) = false := by simp; omega
                have her := hok ho
                clear hok
                rw [← her] at HT
                clear her
                have hcf : ∀ j u, r.cells[j]? = some u → ((w2.alloc (.cells #[.bool r.deny, .string r.who, .string r.method, .string r.path] 43)).alloc (.cells #[.bool r.deny, .string r.who, .string r.method, .string r.path] 43)).cell? ((⟨w2.heap.size + 1, 0, none⟩ : Addr).add j) = some u := by
                  have h := cell_four_r (w2.alloc (.cells #[.bool r.deny, .string r.who, .string r.method, .string r.path] 43)) r
                  rw [show (w2.alloc (.cells #[.bool r.deny, .string r.who, .string r.method, .string r.path] 43)).heap.size = w2.heap.size + 1 by simp] at h
                  exact h
                go_wp2_with (at_builtin; refine wpList_append_own _ rfl _ _ 23 rfl w.heap.size 43 i0 _ 4 56 Tryd.underlying23 hi hz0 hz1' hz2 rfl (by decide) _ _ _ rfl ((hrow2.alloc _).alloc _) ⟨w2.heap.size + 1, 0, none⟩ 1 1 r.cells rfl rfl hcf (by intro u hu; simp at hu; rcases hu with rfl | rfl | rfl | rfl <;> rfl) (by unfold maxLen; first | omega | (simp <;> omega)) (by first | omega | (simp <;> omega)) (by first | omega | (simp <;> omega)) ?_; intro v' w3 hown' hgrow _; obtain ⟨g', cap', rfl⟩ := ownsRow_len hown')
                go_roundw
                case rel =>
                  refine ⟨_, i + 1, acc ++ [r], rfl, by go_num, by omega, ?_, by simp <;> omega, by omega, HT.out, ?_⟩
                  · simpa using hown'
                  · exact hBB2.trans (((Below.refl _ w2).alloc (by omega) _).trans (below_appended (by simp; omega) (hrow2.alloc _) hgrow))
                case measure => simp only [strLen]; omega
      · have HT := hid (show rdS s = (acc, 0, 0) by rw [← HRD.out, rd_end hx])
        obtain ⟨ao, capo, rfl⟩ := ownsRow_len hrow
        go_wp2
        refine bodyPost_ret (v := .tuple #[.slice ao acc.length capo, .int .i64 0, .int .i64 0]) (by simp [results, Tryd.results7, go_sem, *]) rfl ?_
        rw [HT.out]
        exact ⟨_, rfl, hrow, hB⟩

end Go.Proofs.YtnblnhlfifhkkaaDoor
