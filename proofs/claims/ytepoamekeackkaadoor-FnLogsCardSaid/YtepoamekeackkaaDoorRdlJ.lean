/-
  Chapter 7: ReadLog, by the program, whole.
-/
import Derived.Deep.Onto
import Derived.Test.YtepoamekeackkaaDoorRdlI
namespace Go.Proofs.YtepoamekeackkaaDoor
open Go.RowKit Go.Shelf

/-- The length of a text in a slot. -/
def strN (v : Value) : Nat := match v with
  | .string s => s.size
  | _ => 0
theorem rdPg_end {n : Nat} {l : List Rc} {s : ByteArray} (h : (s.toList == []) = true) : rdPg (n + 1) l s = some l := by rw [rdPg, if_pos h]
theorem rdPg_no {n : Nat} {l : List Rc} {s : ByteArray} (h : (s.toList == []) = false) (hs : stB l s = false) : rdPg (n + 1) l s = none := by
  rw [rdPg, h, hs]
  rfl
theorem rdPg_go {n : Nat} {l : List Rc} {s : ByteArray} (h : (s.toList == []) = false) (hs : stB l s = true) : rdPg (n + 1) l s = rdPg n (puR l (noL (cutA s 10))) (cutB s 10) := by
  rw [rdPg, h, hs]
  rfl

set_option maxRecDepth 100000 in
set_option maxHeartbeats 4000000 in
theorem implReadLog_any (s : ByteArray) (m : Int) (w : World) (ht : Tab w ∧ Tab2 w) (hm : w.cell? ⟨0, 0, none⟩ = some (.int .i64 m)) (hs : s.size ≤ 1048576) :
    Calls Tryd.prog 12 #[.string s] w fun e w' => ∃ v', e = .returned (.tuple #[v', .bool (rdX s).isSome]) ∧ w'.ownsRow w.heap.size 34 3 v' ((rdX s).getD []).length (((rdX s).getD []).flatMap Rc.cells) ∧ Below w.heap.size w w' := by
  have HT := hid ht.1
  have HT2 := hid ht.2
  have hlt0 : 0 < w.heap.size := by
    by_cases hb : 0 < w.heap.size
    · exact hb
    · simp only [World.cell?] at hm
      rw [Array.getElem?_eq_none (by omega)] at hm
      cases hm
  have HM := hid (And.intro hlt0 hm)
  clear hlt0
  clear ht hm
  go_enter Tryd.func12, Tryd.ntmps12
  go_wp2
  go_loopw [0, 4] (fun sv lv wr => ∃ (s' : ByteArray) (l' : List Rc) (n : Nat), sv = .string s' ∧ s'.size ≤ 1048576 ∧ s'.size < n ∧ glB l' = true ∧ rdX s = rdPg n l' s' ∧ wr.ownsRow w.heap.size 34 3 lv l'.length (l'.flatMap Rc.cells) ∧ Below w.heap.size w wr) (fun sv _ _ => strN sv)
  case atStart => exact ⟨s, [], s.size + 1, rfl, hs, by omega, gl_nil, rfl, World.ownsRow_nil _ _ _ _, Below.refl _ _⟩
  case round =>
    obtain ⟨s', l', n, rfl, hs', hn, hg, hx, hrow, hB⟩ := hrel
    have HX := hid hx
    clear hx
    obtain ⟨k, rfl⟩ : ∃ k, n = k + 1 := ⟨n - 1, by omega⟩
    have h60 := (gl_log hg).1
    have hu' := gl_su hg
    have hf' : ∀ r ∈ l', r.note.size ≤ 1048576 := fun r hr => by have := lg_note (gl_lg hg) hr; omega
    have HG := hid hg
    obtain ⟨a, cap, rfl⟩ := ownsRow_len hrow
    cases h0 : (s'.toList == [])
    · have hcA := Nat.le_trans (cutA_size s' 10) hs'
      have hcB := Nat.le_trans (cutB_size s' 10) hs'
      have HC := hid (fun h => cut_size (s := s') h)
      have HST := hid (show stB l' s' = ((cutF s' 10 && apB l' (noL (cutA s' 10))) && ((rlT (rcN (pvS l' l'.length) l'.length (noL (cutA s' 10)))).toList == (cutA s' 10).toList)) from rfl)
      have HNO := hid (fun h => rdPg_no (n := k) (l := l') h0 h)
      have HGO := hid (fun h => rdPg_go (n := k) (l := l') h0 h)
      clear hg
      cases hF : cutF s' 10
      · have HE := hid (show rdX s = none by rw [HX.out]; exact HNO.out (by rw [HST.out, hF]; rfl))
        clear HC HST HNO HGO
        go_wp2_with fail
        refine (stringsCut_any s' 10 _ hs').mono ?_
        rintro e w1 ⟨rfl, nd, hw1⟩
        rw [hF]
        have hB1 : Below wr.heap.size wr w1 := by rw [hw1]; exact below_drewN (Below.refl _ _) _
        clear hw1
        have hBB1 := below_one hB hB1
        have hrow1 := ownsRow_below hrow hB1
        clear hB hB1 hrow
        generalize cutA s' 10 = cA at *
        generalize cutB s' 10 = cB at *
        go_wp2_with fail
        refine (noteOfLine_any cA m _ hcA ((hBB1.cell (p := ⟨0, 0, none⟩) HM.out.1).trans HM.out.2)).mono ?_
        rintro e w2 ⟨rfl, hB2⟩
        have hBB2 := below_one hBB1 hB2
        have hrow2 := ownsRow_below hrow1 hB2
        clear hBB1 hB2 hrow1
        go_wp2_with fail
        refine (implAppendNote_any _ l' (noL cA) _ (HT.out.on hBB2) (by omega) (by have := noL_size cA; omega) hf' hu' (RcR.own hrow2)).mono ?_
        rintro e w3 ⟨v3, rfl, hown3, hB3⟩
        have hBB3 := below_one hBB2 hB3
        have hzz := hBB2.size
        clear hB3 hrow2
        obtain ⟨a3, q3, rfl⟩ := ownsRow_len hown3
        clear hown3
        generalize apB l' (noL cA) = ab at *
        go_wp2_with fail
        go_ret2
        exact ⟨_, ret_two (by rw [HE.out]; rfl), by rw [HE.out]; exact World.ownsRow_nil _ _ _ _, hBB3⟩
      · cases hA : apB l' (noL (cutA s' 10))
        · have HE := hid (show rdX s = none by rw [HX.out]; exact HNO.out (by rw [HST.out, hA]; simp))
          clear HC HST HNO HGO
          go_wp2_with fail
          refine (stringsCut_any s' 10 _ hs').mono ?_
          rintro e w1 ⟨rfl, nd, hw1⟩
          rw [hF]
          have hB1 : Below wr.heap.size wr w1 := by rw [hw1]; exact below_drewN (Below.refl _ _) _
          clear hw1
          have hBB1 := below_one hB hB1
          have hrow1 := ownsRow_below hrow hB1
          clear hB hB1 hrow
          generalize cutA s' 10 = cA at *
          generalize cutB s' 10 = cB at *
          go_wp2_with fail
          refine (noteOfLine_any cA m _ hcA ((hBB1.cell (p := ⟨0, 0, none⟩) HM.out.1).trans HM.out.2)).mono ?_
          rintro e w2 ⟨rfl, hB2⟩
          have hBB2 := below_one hBB1 hB2
          have hrow2 := ownsRow_below hrow1 hB2
          clear hBB1 hB2 hrow1
          go_wp2_with fail
          refine (implAppendNote_any _ l' (noL cA) _ (HT.out.on hBB2) (by omega) (by have := noL_size cA; omega) hf' hu' (RcR.own hrow2)).mono ?_
          rintro e w3 ⟨v3, rfl, hown3, hB3⟩
          have hBB3 := below_one hBB2 hB3
          have hzz := hBB2.size
          clear hB3 hrow2
          obtain ⟨a3, q3, rfl⟩ := ownsRow_len hown3
          rw [hA]
          clear hown3 hA
          go_wp2_with fail
          go_ret2
          exact ⟨_, ret_two (by rw [HE.out]; rfl), by rw [HE.out]; exact World.ownsRow_nil _ _ _ _, hBB3⟩
        · have HAR := hid (show apR l' (noL (cutA s' 10)) = puR l' (noL (cutA s' 10)) by unfold apR; rw [hA]; rfl)
          have hap := hA
          unfold apB at hap
          simp only [Bool.and_eq_true, Bool.not_eq_true', beq_eq_false_iff_ne] at hap
          have h59 : l'.length < 60 := by have := hap.2; omega
          have HG2 := hid (gl_put HG.out hap.1.2 h59)
          have HCB := hid (HC.out hF)
          clear hap HC
          cases hT : ((rlT (rcN (pvS l' l'.length) l'.length (noL (cutA s' 10)))).toList == (cutA s' 10).toList)
          · have HE := hid (show rdX s = none by rw [HX.out]; exact HNO.out (by rw [HST.out, hT]; simp))
            clear HST HNO HGO
            go_wp2_with fail
            refine (stringsCut_any s' 10 _ hs').mono ?_
            rintro e w1 ⟨rfl, nd, hw1⟩
            rw [hF]
            have hB1 : Below wr.heap.size wr w1 := by rw [hw1]; exact below_drewN (Below.refl _ _) _
            clear hw1
            have hBB1 := below_one hB hB1
            have hrow1 := ownsRow_below hrow hB1
            clear hB hB1 hrow
            generalize cutA s' 10 = cA at *
            generalize cutB s' 10 = cB at *
            go_wp2_with fail
            refine (noteOfLine_any cA m _ hcA ((hBB1.cell (p := ⟨0, 0, none⟩) HM.out.1).trans HM.out.2)).mono ?_
            rintro e w2 ⟨rfl, hB2⟩
            have hBB2 := below_one hBB1 hB2
            have hrow2 := ownsRow_below hrow1 hB2
            clear hBB1 hB2 hrow1
            go_wp2_with fail
            refine (implAppendNote_any _ l' (noL cA) _ (HT.out.on hBB2) (by omega) (by have := noL_size cA; omega) hf' hu' (RcR.own hrow2)).mono ?_
            rintro e w3 ⟨v3, rfl, hown3, hB3⟩
            have hBB3 := below_one hBB2 hB3
            have hzz := hBB2.size
            clear hB3 hrow2
            rw [hA]
            rw [HAR.out, puR_len] at hown3
            have hrs := RcS.own (rs := puR l' (noL cA)) (by rw [puR_len]; exact hown3)
            obtain ⟨a3, q3, rfl⟩ := ownsRow_len hown3
            obtain ⟨b3, o3, ho3, hb3, hc3, p0, p1, p2⟩ := hrs.at (i := l'.length) (by rw [puR_len]; omega)
            have hlast : (puR l' (noL cA))[l'.length]'(by rw [puR_len]; omega) = rcN (pvS l' l'.length) l'.length (noL cA) := by simp [puR]
            rw [hlast] at p0 p1 p2
            have hwr : (rcN (pvS l' l'.length) l'.length (noL cA)).wr := by
              rw [← hlast]
              exact gl_wr HG2.out (gl_su HG2.out) _ (List.getElem_mem _)
            subst ho3
            have HO3 := hid hown3
            clear hown3 hrs hlast hA
            generalize rcN (pvS l' l'.length) l'.length (noL cA) = rc at *
            go_wp2_with fail
            refine (textOfRecord_any rc _ (HT.out.on hBB3) (HT2.out.on hBB3) hwr).mono ?_
            rintro e w4 ⟨rfl, hB4⟩
            have hBB4 := below_one hBB3 hB4
            have hown4 := ownsRow_below HO3.out hB4
            clear p0 p1 p2 hBB3 HO3
            clear hown4 hB4
            go_wp2_with fail
            go_ret2
            exact ⟨_, ret_two (by rw [HE.out]; rfl), by rw [HE.out]; exact World.ownsRow_nil _ _ _ _, hBB4⟩
          · have HE := hid (show rdX s = rdPg k (puR l' (noL (cutA s' 10))) (cutB s' 10) by rw [HX.out]; exact HGO.out (by rw [HST.out, hF, hA, hT]; rfl))
            clear HST HNO HGO
            go_wp2_with fail
            refine (stringsCut_any s' 10 _ hs').mono ?_
            rintro e w1 ⟨rfl, nd, hw1⟩
            rw [hF]
            have hB1 : Below wr.heap.size wr w1 := by rw [hw1]; exact below_drewN (Below.refl _ _) _
            clear hw1
            have hBB1 := below_one hB hB1
            have hrow1 := ownsRow_below hrow hB1
            clear hB hB1 hrow
            generalize cutA s' 10 = cA at *
            generalize cutB s' 10 = cB at *
            go_wp2_with fail
            refine (noteOfLine_any cA m _ hcA ((hBB1.cell (p := ⟨0, 0, none⟩) HM.out.1).trans HM.out.2)).mono ?_
            rintro e w2 ⟨rfl, hB2⟩
            have hBB2 := below_one hBB1 hB2
            have hrow2 := ownsRow_below hrow1 hB2
            clear hBB1 hB2 hrow1
            go_wp2_with fail
            refine (implAppendNote_any _ l' (noL cA) _ (HT.out.on hBB2) (by omega) (by have := noL_size cA; omega) hf' hu' (RcR.own hrow2)).mono ?_
            rintro e w3 ⟨v3, rfl, hown3, hB3⟩
            have hBB3 := below_one hBB2 hB3
            have hzz := hBB2.size
            clear hB3 hrow2
            rw [hA]
            rw [HAR.out, puR_len] at hown3
            have hrs := RcS.own (rs := puR l' (noL cA)) (by rw [puR_len]; exact hown3)
            obtain ⟨a3, q3, rfl⟩ := ownsRow_len hown3
            obtain ⟨b3, o3, ho3, hb3, hc3, p0, p1, p2⟩ := hrs.at (i := l'.length) (by rw [puR_len]; omega)
            have hlast : (puR l' (noL cA))[l'.length]'(by rw [puR_len]; omega) = rcN (pvS l' l'.length) l'.length (noL cA) := by simp [puR]
            rw [hlast] at p0 p1 p2
            have hwr : (rcN (pvS l' l'.length) l'.length (noL cA)).wr := by
              rw [← hlast]
              exact gl_wr HG2.out (gl_su HG2.out) _ (List.getElem_mem _)
            subst ho3
            have HO3 := hid hown3
            clear hown3 hrs hlast hA
            generalize rcN (pvS l' l'.length) l'.length (noL cA) = rc at *
            go_wp2_with fail
            refine (textOfRecord_any rc _ (HT.out.on hBB3) (HT2.out.on hBB3) hwr).mono ?_
            rintro e w4 ⟨rfl, hB4⟩
            have hBB4 := below_one hBB3 hB4
            have hown4 := ownsRow_below HO3.out hB4
            clear p0 p1 p2 hBB3 HO3
            have HO4 := hid (show w4.ownsRow w.heap.size 34 3 _ (puR l' (noL cA)).length ((puR l' (noL cA)).flatMap Rc.cells) by rw [puR_len]; exact World.ownsRow.mono hown4 hzz)
            clear hown4 hB4
            go_wp2_with fail
            go_roundw
            case rel => exact ⟨cB, puR l' (noL cA), k, rfl, hcB, by have := HCB.out; omega, HG2.out, HE.out, HO4.out, hBB4⟩
            case measure => have := HCB.out; simp only [strN]; omega
    · have HE := hid (show rdX s = some l' by rw [HX.out]; exact rdPg_end h0)
      clear hg
      go_wp2
      go_ret2
      exact ⟨_, ret_two (by rw [HE.out]; rfl), by rw [HE.out]; exact hrow, hB⟩

end Go.Proofs.YtepoamekeackkaaDoor
