/-
  Chapter 3: a token read from its text, by the program.
-/
import Derived.Test.YtecgonopefeplaaGreatDoorRdK
import Derived.Test.YtecgonopefeplaaGreatDoorCutW
namespace Go.Proofs.YtecgonopefeplaaGreatDoor
open Go.RowKit Go.Shelf

def strLen3 (v : Value) : Nat := match v with | .string t => t.size | _ => 0
theorem cell_five_r (w : World) (r : Lk) : ∀ j u, r.cells[j]? = some u → (w.alloc (.cells #[.string r.who, .string r.to, .int .i64 r.se, .int .i64 r.fr, .int .i64 r.un] 35)).cell? ((⟨w.heap.size, 0, none⟩ : Addr).add j) = some u := by
  intro j u hu
  have hj : j < 5 := by have := (List.getElem?_eq_some_iff.1 hu).1; simpa using this
  obtain h | h | h | h | h : j = 0 ∨ j = 1 ∨ j = 2 ∨ j = 3 ∨ j = 4 := by omega
  all_goals subst h
  all_goals simp at hu
  all_goals subst hu
  all_goals simp [Addr.add]
theorem below_drewk {w W : World} (h : Below w.heap.size w W) (n : Nat) : Below w.heap.size w (W.drewN n) :=
  h.trans ⟨rfl, rfl, rfl, Nat.le_refl _, fun _ _ => rfl⟩
theorem ret_lb {v : Value} {b c : Bool} (h : b = c) : Ending.returned (.tuple #[v, .bool b]) = .returned (.tuple #[v, .bool c]) := by rw [h]
theorem rdIm_none {s : ByteArray} (h : rdIL (split s 59) [] = none) : rdIm s = ([], false) := by
  unfold rdIm
  rw [h]
theorem rdIm_bad {s : ByteArray} {ks : List Lk} (h : rdIL (split s 59) [] = some ks) (hb : tkB ks = false) : rdIm s = ([], false) := by
  unfold rdIm
  rw [h]
  simp only
  rw [if_neg (by rw [hb]; exact Bool.false_ne_true)]
theorem rdIm_yes {s : ByteArray} {ks : List Lk} (h : rdIL (split s 59) [] = some ks) (hb : tkB ks = true) : rdIm s = (ks, true) := by
  unfold rdIm
  rw [h]
  simp only
  rw [if_pos hb]

theorem rd_size {s : ByteArray} {k : Lk} (h : rdLk numI s = some k) : k.size ≤ s.size := by
  have hb := rdLk_text h
  have hl : k.body.length = s.size := by rw [← hb]; simp
  unfold Lk.body at hl
  simp only [List.length_append, List.length_cons] at hl
  have h1 : k.who.data.toList.length = k.who.size := by simp
  have h2 : k.to.data.toList.length = k.to.size := by simp
  unfold Lk.size
  omega

set_option maxHeartbeats 4000000 in
set_option maxRecDepth 100000 in
theorem implReadToken_any (s : ByteArray) (m : Int) (w : World) (hs : s.size ≤ 1048576) (hm : w.cell? ⟨0, 0, none⟩ = some (.int .i64 m)) (hE : Errs w) (ht : Tab w) :
    Calls Tryz.prog 7 #[.string s] w fun e w' => ∃ v', e = .returned (.tuple #[v', .bool (rdIm s).2]) ∧ w'.ownsRow w.heap.size 35 5 v' (rdIm s).1.length ((rdIm s).1.flatMap Lk.cells) ∧ Below w.heap.size w w' := by
  obtain ⟨i0, hi, hz0, hz1', hz2⟩ := info_parts infoLink
  have h0 := ml_lt3 hm
  have HTB := hid ht
  have HEB := hid hE
  clear ht hE
  obtain ⟨R, hR⟩ : ∃ R, R = rdIL (split s 59) [] := ⟨_, rfl⟩
  have HNo := hid (fun h : R = none => rdIm_none (s := s) (by rw [← hR]; exact h))
  have HBad := hid (fun ks (h : R = some ks) hb => rdIm_bad (s := s) (ks := ks) (by rw [← hR]; exact h) hb)
  have HYes := hid (fun ks (h : R = some ks) hb => rdIm_yes (s := s) (ks := ks) (by rw [← hR]; exact h) hb)
  have HR := hid hR
  clear hR
  go_enter Tryz.func7, Tryz.ntmps7
  go_wp2_with fail
  go_loopw [0, 4] (fun sv out wr => ∃ (t : ByteArray) (acc : List Lk), sv = .string t ∧ t.size ≤ 1048576 ∧ wr.ownsRow w.heap.size 35 5 out acc.length (acc.flatMap Lk.cells) ∧ acc.length ≤ 6 ∧ (∀ k ∈ acc, k.size ≤ 1048576) ∧ rdIL (split t 59) acc = R ∧ Below w.heap.size w wr) (fun sv _ _ => strLen3 sv)
  case atStart => exact ⟨s, [], rfl, hs, World.ownsRow_nil _ _ _ _, Nat.zero_le _, (fun k hk => by cases hk), HR.out.symm, Below.refl _ _⟩
  case round =>
    obtain ⟨t, acc, rfl, hz, hrow, hacc, hfa, hrd, hB⟩ := hrel
    have HRD := hid hrd
    clear hrd
    cases hx : t.toList.isEmpty
    · cases hf : fI t 59 with
      | none =>
        have hC := cut_none hf
        obtain ⟨ao, capo, rfl⟩ := ownsRow_len hrow
        have HT := hid (HNo.out (by rw [← HRD.out]; exact rdIL_open hx hf))
        go_wp2_with fail
        refine (stringsCut_any t 59 _ hz).mono ?_
        rintro e wq ⟨rfl, nq, rfl⟩
        rw [hC.1, hC.2.1, hC.2.2]
        clear hC
        have hBn : Below wr.heap.size wr (wr.drewN nq) := below_drewk (Below.refl _ _) nq
        have hBW := below_one hB hBn
        generalize wr.drewN nq = Wq at *
        clear hBn hB
        have hm1 : Wq.cell? ⟨0, 0, none⟩ = some (.int .i64 m) := (hBW.cell (p := ⟨0, 0, none⟩) h0).trans hm
        go_wp2_with fail
        refine (linkOfText_any t m _ hz hm1 (HEB.out.on hBW) (HTB.out.on hBW)).mono ?_
        rintro e w2 ⟨r, rfl, hok, hB2⟩
        have hBB2 := below_one hBW hB2
        clear hm1 hok
        go_wp2
        go_ret2
        rw [HT.out]
        exact ⟨_, rfl, World.ownsRow_nil _ _ _ _, hBB2.alloc hBB2.size _⟩
      | some q =>
        have hC := cut_some hf
        have hlt := fI_lt hf
        have hz1 : (t.extract 0 q).size ≤ 1048576 := by rw [ByteArray.size_extract]; omega
        have hz2' : (t.extract (q + 1) t.size).size = t.size - (q + 1) := by rw [ByteArray.size_extract]; omega
        have HCT := hid (rdIL_cut (acc := acc) hf)
        generalize t.extract 0 q = x at *
        generalize t.extract (q + 1) t.size = y at *
        rcases row_form hrow with ⟨rfl, hl0⟩ | ⟨go, capo, rfl, hg, hcapo⟩
        · obtain rfl : acc = [] := List.eq_nil_of_length_eq_zero hl0
          go_wp2_with fail
          refine (stringsCut_any t 59 _ hz).mono ?_
          rintro e wq ⟨rfl, nq, rfl⟩
          rw [hC.1, hC.2.1, hC.2.2]
          clear hC
          have hBn : Below wr.heap.size wr (wr.drewN nq) := below_drewk (Below.refl _ _) nq
          have hBW := below_one hB hBn
          replace hrow := ownsRow_below hrow hBn
          have hzW := hBW.size
          generalize wr.drewN nq = Wq at *
          clear hBn hB
          have hm1 : Wq.cell? ⟨0, 0, none⟩ = some (.int .i64 m) := (hBW.cell (p := ⟨0, 0, none⟩) h0).trans hm
          go_wp2_with fail
          refine (linkOfText_any x m _ hz1 hm1 (HEB.out.on hBW) (HTB.out.on hBW)).mono ?_
          rintro e w2 ⟨r, rfl, hok, hB2⟩
          have hB2' := hB2.size
          have hrow2 := ownsRow_below hrow hB2
          have hBB2 := below_one hBW hB2
          clear hm1
          cases ho : (rdLk numI x).isSome
          · have hno : rdLk numI x = none := by simpa using ho
            have HT := hid (HNo.out (by rw [← HRD.out, HCT.out, hno]))
            clear hok hno
            go_wp2
            go_ret2
            rw [HT.out]
            exact ⟨_, rfl, World.ownsRow_nil _ _ _ _, hBB2.alloc hBB2.size _⟩
          · have her := hok ho
            have HT := hid (show rdIL (split y 59) ([] ++ [r]) = R by rw [← HRD.out, HCT.out, her]; simp only; rw [if_neg (by simp)])
            have hrz : r.size ≤ 1048576 := by
              have h1 := rd_size her
              omega
            clear hok her
            have hcf : ∀ j u, r.cells[j]? = some u → ((w2.alloc (.cells #[.string r.who, .string r.to, .int .i64 r.se, .int .i64 r.fr, .int .i64 r.un] 35)).alloc (.cells #[.string r.who, .string r.to, .int .i64 r.se, .int .i64 r.fr, .int .i64 r.un] 35)).cell? ((⟨w2.heap.size + 1, 0, none⟩ : Addr).add j) = some u := by
              have h := cell_five_r (w2.alloc (.cells #[.string r.who, .string r.to, .int .i64 r.se, .int .i64 r.fr, .int .i64 r.un] 35)) r
              rw [show (w2.alloc (.cells #[.string r.who, .string r.to, .int .i64 r.se, .int .i64 r.fr, .int .i64 r.un] 35)).heap.size = w2.heap.size + 1 by simp] at h
              exact h
            go_wp2_with (at_builtin; refine wpList_append_own _ rfl _ _ 23 rfl w.heap.size 35 i0 _ 5 56 Tryz.underlying23 hi hz0 hz1' hz2 rfl (by decide) _ _ _ rfl ((hrow2.alloc _).alloc _) ⟨w2.heap.size + 1, 0, none⟩ 1 1 r.cells rfl rfl hcf (by intro u hu; simp at hu; rcases hu with rfl | rfl | rfl | rfl | rfl <;> rfl) (by unfold maxLen; first | omega | (simp <;> omega)) (by first | omega | (simp <;> omega)) (by first | omega | (simp <;> omega)) ?_; intro v' w3 hown' hgrow _; obtain ⟨g', cap', rfl⟩ := ownsRow_len hown')
            go_roundw
            case rel =>
              refine ⟨_, [] ++ [r], rfl, by omega, ?_, by simp <;> omega, ?_, HT.out, ?_⟩
              · simpa using hown'
              · intro k hk
                rcases List.mem_append.1 hk with h | h
                · exact hfa k h
                · rw [List.mem_singleton.1 h]
                  exact hrz
              · exact hBB2.trans (((Below.refl _ w2).alloc (by omega) _).trans (below_appended (by simp; omega) (hrow2.alloc _) hgrow))
            case measure => simp only [strLen3]; omega
        · go_wp2_with fail
          refine (stringsCut_any t 59 _ hz).mono ?_
          rintro e wq ⟨rfl, nq, rfl⟩
          rw [hC.1, hC.2.1, hC.2.2]
          clear hC
          have hBn : Below wr.heap.size wr (wr.drewN nq) := below_drewk (Below.refl _ _) nq
          have hBW := below_one hB hBn
          replace hrow := ownsRow_below hrow hBn
          have hzW := hBW.size
          generalize wr.drewN nq = Wq at *
          clear hBn hB
          have hm1 : Wq.cell? ⟨0, 0, none⟩ = some (.int .i64 m) := (hBW.cell (p := ⟨0, 0, none⟩) h0).trans hm
          go_wp2_with fail
          refine (linkOfText_any x m _ hz1 hm1 (HEB.out.on hBW) (HTB.out.on hBW)).mono ?_
          rintro e w2 ⟨r, rfl, hok, hB2⟩
          have hB2' := hB2.size
          have hrow2 := ownsRow_below hrow hB2
          have hBB2 := below_one hBW hB2
          clear hm1
          cases ho : (rdLk numI x).isSome
          · have hno : rdLk numI x = none := by simpa using ho
            have HT := hid (HNo.out (by rw [← HRD.out, HCT.out, hno]))
            clear hok hno
            go_wp2
            go_ret2
            rw [HT.out]
            exact ⟨_, rfl, World.ownsRow_nil _ _ _ _, hBB2.alloc hBB2.size _⟩
          · by_cases h6 : acc.length = 6
            · have her := hok ho
              have HT := hid (HNo.out (by rw [← HRD.out, HCT.out, her]; simp only; rw [if_pos h6]))
              have e6 : ((acc.length : Int) == 6) = true := by simp; omega
              clear hok her h6
              go_wp2
              go_ret2
              rw [HT.out]
              exact ⟨_, rfl, World.ownsRow_nil _ _ _ _, hBB2.alloc hBB2.size _⟩
            · have e6 : ((acc.length : Int) == 6) = false := by simp; omega
              have her := hok ho
              have HT := hid (show rdIL (split y 59) (acc ++ [r]) = R by rw [← HRD.out, HCT.out, her]; simp only; rw [if_neg (by omega)])
              have hrz : r.size ≤ 1048576 := by
                have h1 := rd_size her
                omega
              clear hok her
              have hcf : ∀ j u, r.cells[j]? = some u → ((w2.alloc (.cells #[.string r.who, .string r.to, .int .i64 r.se, .int .i64 r.fr, .int .i64 r.un] 35)).alloc (.cells #[.string r.who, .string r.to, .int .i64 r.se, .int .i64 r.fr, .int .i64 r.un] 35)).cell? ((⟨w2.heap.size + 1, 0, none⟩ : Addr).add j) = some u := by
                have h := cell_five_r (w2.alloc (.cells #[.string r.who, .string r.to, .int .i64 r.se, .int .i64 r.fr, .int .i64 r.un] 35)) r
                rw [show (w2.alloc (.cells #[.string r.who, .string r.to, .int .i64 r.se, .int .i64 r.fr, .int .i64 r.un] 35)).heap.size = w2.heap.size + 1 by simp] at h
                exact h
              go_wp2_with (at_builtin; refine wpList_append_own _ rfl _ _ 23 rfl w.heap.size 35 i0 _ 5 56 Tryz.underlying23 hi hz0 hz1' hz2 rfl (by decide) _ _ _ rfl ((hrow2.alloc _).alloc _) ⟨w2.heap.size + 1, 0, none⟩ 1 1 r.cells rfl rfl hcf (by intro u hu; simp at hu; rcases hu with rfl | rfl | rfl | rfl | rfl <;> rfl) (by unfold maxLen; first | omega | (simp <;> omega)) (by first | omega | (simp <;> omega)) (by first | omega | (simp <;> omega)) ?_; intro v' w3 hown' hgrow _; obtain ⟨g', cap', rfl⟩ := ownsRow_len hown')
              go_roundw
              case rel =>
                refine ⟨_, acc ++ [r], rfl, by omega, ?_, by simp <;> omega, ?_, HT.out, ?_⟩
                · simpa using hown'
                · intro k hk
                  rcases List.mem_append.1 hk with h | h
                  · exact hfa k h
                  · rw [List.mem_singleton.1 h]
                    exact hrz
                · exact hBB2.trans (((Below.refl _ w2).alloc (by omega) _).trans (below_appended (by simp; omega) (hrow2.alloc _) hgrow))
              case measure => simp only [strLen3]; omega
    · have HE := hid (show R = some acc by rw [← HRD.out]; exact rdIL_end hx)
      obtain ⟨ao, capo, rfl⟩ := ownsRow_len hrow
      cases hb : tkB acc
      · have HT := hid (HBad.out acc HE.out hb)
        go_wp2_with fail
        refine (implGoodToken_any _ acc _ (by omega) hfa (LkS.own hrow)).mono ?_
        rintro e w2 ⟨rfl, hB2⟩
        rw [hb]
        go_wp2_with fail
        go_ret2
        rw [HT.out]
        exact ⟨_, rfl, World.ownsRow_nil _ _ _ _, below_one hB hB2⟩
      · have HT := hid (HYes.out acc HE.out hb)
        go_wp2_with fail
        refine (implGoodToken_any _ acc _ (by omega) hfa (LkS.own hrow)).mono ?_
        rintro e w2 ⟨rfl, hB2⟩
        rw [hb]
        go_wp2_with fail
        go_ret2
        rw [HT.out]
        exact ⟨_, rfl, ownsRow_below hrow hB2, below_one hB hB2⟩

end Go.Proofs.YtecgonopefeplaaGreatDoor
