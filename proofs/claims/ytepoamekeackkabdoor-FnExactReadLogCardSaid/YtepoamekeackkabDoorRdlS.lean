/-
  Chapter 7: ReadLog, by the specification.
-/
import Derived.Deep.Onto
import Derived.Test.YtepoamekeackkabDoorRdlI
namespace Go.Proofs.YtepoamekeackkabDoor
open Go.RowKit Go.Shelf

theorem blA_at {x : ByteArray} {j : Nat} (hj : j < x.size) (h : ∀ i (_ : i < j) (hi : i < x.size), x[i] ≠ 32) (hb : x[j] = 32) : blA x = j := by
  unfold blA
  cases hf : fI x 32 with
  | none => exact absurd hb (fI_none hf j hj)
  | some i =>
    show i = j
    rcases Nat.lt_trichotomy i j with h1 | h1 | h1
    · exact absurd (fI_at hf) (h i h1 (fI_lt hf))
    · exact h1
    · exact absurd hb (fI_ahead hf j h1 hj)
theorem blA_end {x : ByteArray} (h : ∀ i (hi : i < x.size), x[i] ≠ 32) : blA x = x.size := by
  unfold blA
  cases hf : fI x 32 with
  | none => rfl
  | some i => exact absurd (fI_at hf) (h i (fI_lt hf))
theorem rdLs_no {x : ByteArray} {r : List ByteArray} {l : List Rc} (h : lnB l x = false) : rdLs (x :: r) l = none := by rw [rdLs, h]; rfl
theorem rdLs_go {x : ByteArray} {r : List ByteArray} {l : List Rc} (h : lnB l x = true) : rdLs (x :: r) l = rdLs r (puR l (ntS x)) := by rw [rdLs, h]; rfl
theorem rdSl_none {s : ByteArray} (h : rdLs (split s 10).dropLast [] = none) : rdSl s = none := by unfold rdSl; rw [h]
theorem rdSl_yes {s : ByteArray} {l : List Rc} (h : rdLs (split s 10).dropLast [] = some l) (ht : ((ltT l).toList == s.toList) = true) : rdSl s = some l := by unfold rdSl; rw [h]; simp only [ht, if_true]
theorem rdSl_not {s : ByteArray} {l : List Rc} (h : rdLs (split s 10).dropLast [] = some l) (ht : ((ltT l).toList == s.toList) = false) : rdSl s = none := by unfold rdSl; rw [h]; simp [ht]

set_option maxRecDepth 100000 in
set_option maxHeartbeats 4000000 in
theorem specReadLog_any (s : ByteArray) (w : World) (hs : s.size ≤ 1048576) :
    Calls Tryd.prog 4 #[.string s] w fun e w' => ∃ v', e = .returned (.tuple #[v', .bool (rdSl s).isSome]) ∧ w'.ownsRow w.heap.size 39 3 v' ((rdSl s).getD []).length (((rdSl s).getD []).flatMap Rc.cells) ∧ Below w.heap.size w w' := by
  have HNONE := hid (fun h => rdSl_none (s := s) h)
  have HYES := hid (fun l h ht => rdSl_yes (s := s) (l := l) h ht)
  have HNOT := hid (fun l h ht => rdSl_not (s := s) (l := l) h ht)
  have hsz := split_size s 10
  have hlen := split_len s 10
  obtain ⟨x0, r0, hne⟩ := split_ne s 10
  have hpos : 1 ≤ (split s 10).length := by rw [hne]; simp
  clear hne
  have hsp := fun W => l1Split_any s 10 10 rfl W hs
  generalize split s 10 = P at *
  obtain ⟨p, hp⟩ : ∃ p, P.length = p + 1 := ⟨P.length - 1, by omega⟩
  have HDL := hid (show P.dropLast = P.take p by rw [List.dropLast_eq_take, hp]; rfl)
  go_enter Tryd.func4, Tryd.ntmps4
  go_wp2_with fail
  refine (hsp _).mono ?_
  rintro e w1 ⟨v1, rfl, hrow1, hB1⟩
  have HR1 := hid hrow1
  rw [hp] at hrow1
  obtain ⟨g, cap, rfl⟩ := ownsRow_succ hrow1
  have hcp : p + 1 ≤ cap := by
    rcases row_form hrow1 with ⟨h, _⟩ | ⟨g', cap', h, _, hc⟩
    · cases h
    · cases h
      exact hc
  clear hsp HR1
  go_wp2
  go_loopw [4, 17] (fun lv i wr => ∃ (k : Nat) (l' : List Rc), k ≤ p ∧ i = .int .i64 k ∧ glB l' = true ∧ rdLs P.dropLast [] = rdLs ((P.take p).drop k) l' ∧ wr.ownsRow w.heap.size 39 3 lv l'.length (l'.flatMap Rc.cells) ∧ wr.ownsRow w.heap.size 9 1 (.slice (some ⟨g, 0, none⟩) (p + 1) cap) (p + 1) (P.map Value.string) ∧ Below w.heap.size w wr) (fun _ i _ => p - (intOf i).toNat)
  case atStart => exact ⟨0, [], Nat.zero_le _, rfl, gl_nil, by rw [HDL.out, List.drop_zero], World.ownsRow_nil _ _ _ _, hrow1, hB1⟩
  case round =>
    obtain ⟨k, l', hk, rfl, hg, hx, hrow, hline, hB⟩ := hrel
    have HX := hid hx
    have HG := hid hg
    clear hx hg
    have h60 := (gl_log HG.out).1
    obtain ⟨a, cap', rfl⟩ := ownsRow_len hrow
    by_cases hlt : k < p
    · have hq := hline.cellAt k (by omega)
      rw [List.getElem?_map, List.getElem?_eq_getElem (by omega)] at hq
      simp only [Option.map_some] at hq
      have hxs := hsz P[k] (List.getElem_mem _)
      have HD := hid (show (P.take p).drop k = P[k] :: (P.take p).drop (k + 1) by
        rw [List.drop_eq_getElem_cons (by rw [List.length_take]; omega), List.getElem_take])
      generalize P[k] = x at *
      go_wp2
      go_loop [8] (fun a => ∃ j : Nat, j ≤ x.size ∧ a = .int .i64 j ∧ ∀ i (_ : i < j) (hi : i < x.size), x[i] ≠ 32) (fun a => x.size - (intOf a).toNat)
      case atStart => exact ⟨0, Nat.zero_le _, rfl, fun i hi => by omega⟩
      case round =>
        obtain ⟨j, hj, rfl, hn⟩ := hrel
        have HN := hid hn
        clear hn
        by_cases hjl : j < x.size
        · by_cases hb : x[j] = 32
          · have HBL := hid (blA_at hjl HN.out hb)
            have e1 : ((x[j].toNat : Int) != 32) = false := by rw [hb]; rfl
            clear hb
            by_cases c1 : x.size < j + 10
            · have HE := hid (show rdSl s = none from HNONE.out (by rw [HX.out, HD.out]; exact rdLs_no (by unfold lnB; rw [HBL.out, decide_eq_false (by omega)]; rfl)))
              have c1' : (x.size : Int) < (j : Int) + 10 := by omega
              go_wp2
              go_ret2
              exact ⟨_, ret_two (by rw [HE.out]; rfl), by rw [HE.out]; exact World.ownsRow_nil _ _ _ _, hB⟩
            · have c1' : ¬ (x.size : Int) < (j : Int) + 10 := by omega
              cases c2 : (l'.length == 60)
              · have c2' : ((l'.length : Int) == 60) = false := by simp at c2 ⊢; omega
                have HNT := hid (show ntS x = x.extract (j + 10) x.size by unfold ntS; rw [HBL.out])
                have hnz : (x.extract (j + 10) x.size).size ≤ 1048576 := by rw [ByteArray.size_extract]; omega
                have g1 : (0 : Int) ≤ (j : Int) + 10 := by omega
                have g2 : (j : Int) + 10 ≤ (x.size : Int) := by omega
                cases hnt : ntB (x.extract (j + 10) x.size)
                · have HE := hid (show rdSl s = none from HNONE.out (by rw [HX.out, HD.out]; exact rdLs_no (by unfold lnB; rw [HNT.out, hnt]; simp)))
                  clear c2
                  go_wp2_with fail
                  refine (l7Note_any (x.extract (j + 10) x.size) _ hnz).mono ?_
                  rintro e w2 ⟨rfl, hw2⟩
                  rw [hw2, hnt]
                  clear hw2 hnt
                  go_wp2_with fail
                  go_ret2
                  exact ⟨_, ret_two (by rw [HE.out]; rfl), by rw [HE.out]; exact World.ownsRow_nil _ _ _ _, hB⟩
                · have HS := hid (show rdLs P.dropLast [] = rdLs ((P.take p).drop (k + 1)) (puR l' (x.extract (j + 10) x.size)) by
                    rw [HX.out, HD.out, rdLs_go (by unfold lnB; rw [HNT.out, hnt, HBL.out, c2, decide_eq_true (by omega)]; rfl), HNT.out])
                  have HGP := hid (gl_put HG.out hnt (by have := (gl_log HG.out).1; simp at c2; omega))
                  clear c2
                  go_wp2_with fail
                  refine (l7Note_any (x.extract (j + 10) x.size) _ hnz).mono ?_
                  rintro e w2 ⟨rfl, hw2⟩
                  rw [hw2, hnt]
                  clear hw2 hnt
                  go_wp2_with fail
                  refine (l7Put_any _ l' (x.extract (j + 10) x.size) _ (by have := (gl_log HG.out).1; omega) hnz (gl_su HG.out) (RcR.own hrow)).mono ?_
                  rintro e w3 ⟨v3, rfl, hown3, hB3⟩
                  have HL3 := hid (ownsRow_below hline hB3)
                  have hBB3 := below_one hB hB3
                  have HO3 := hid (show w3.ownsRow w.heap.size 39 3 v3 (puR l' (x.extract (j + 10) x.size)).length ((puR l' (x.extract (j + 10) x.size)).flatMap Rc.cells) by rw [puR_len]; exact World.ownsRow.mono hown3 hB.size)
                  obtain ⟨a3, q3, rfl⟩ := ownsRow_len hown3
                  clear hown3 hB3 hrow hline hq
                  go_wp2_with fail
                  go_roundw
                  case rel => exact ⟨k + 1, puR l' (x.extract (j + 10) x.size), by omega, by go_num, HGP.out, HS.out, HO3.out, HL3.out, hBB3⟩
                  case measure => simp [intOf]; omega
              · have c2' : ((l'.length : Int) == 60) = true := by simp at c2 ⊢; omega
                have HE := hid (show rdSl s = none from HNONE.out (by rw [HX.out, HD.out]; exact rdLs_no (by unfold lnB; rw [c2]; simp)))
                clear c2
                go_wp2
                go_ret2
                exact ⟨_, ret_two (by rw [HE.out]; rfl), by rw [HE.out]; exact World.ownsRow_nil _ _ _ _, hB⟩
          · have e1 : ((x[j].toNat : Int) != 32) = true := by
              rw [bne_iff_ne]
              intro h
              exact hb (UInt8.toNat_inj.1 (by have : x[j].toNat = 32 := by omega
                                              rw [this]; rfl))
            have HS := hid (show ∀ i (_ : i < j + 1) (hi : i < x.size), x[i] ≠ 32 by
              intro i h1 hi
              rcases Nat.lt_or_ge i j with h2 | h2
              · exact HN.out i h2 hi
              · obtain rfl : i = j := by omega
                exact hb)
            clear hb
            go_wp2
            exact ⟨⟨j + 1, by omega, by go_num, HS.out⟩, by simp [intOf]; omega⟩
        · obtain rfl : j = x.size := by omega
          have HBL := hid (blA_end (x := x) (fun i hi => HN.out i hi hi))
          have HE := hid (show rdSl s = none from HNONE.out (by rw [HX.out, HD.out]; exact rdLs_no (by unfold lnB; rw [HBL.out, decide_eq_false (by omega)]; rfl)))
          have c1' : (x.size : Int) < (x.size : Int) + 10 := by omega
          go_wp2
          go_ret2
          exact ⟨_, ret_two (by rw [HE.out]; rfl), by rw [HE.out]; exact World.ownsRow_nil _ _ _ _, hB⟩
    · obtain rfl : k = p := by omega
      have HXE := hid (show rdLs P.dropLast [] = some l' by rw [HX.out, List.drop_of_length_le (by rw [List.length_take]; omega)]; rfl)
      cases hT : ((ltT l').toList == s.toList)
      · have HE := hid (show rdSl s = none from HNOT.out l' HXE.out hT)
        go_wp2_with fail
        refine (l7Text_any _ l' _ h60 (gl_wr HG.out (gl_su HG.out)) (RcR.own hrow).s).mono ?_
        rintro e w3 ⟨rfl, hB3⟩
        have hBB3 := below_one hB hB3
        go_wp2_with fail
        go_ret2
        exact ⟨_, ret_two (by rw [HE.out]; rfl), by rw [HE.out]; exact World.ownsRow_nil _ _ _ _, hBB3⟩
      · have HE := hid (show rdSl s = some l' from HYES.out l' HXE.out hT)
        go_wp2_with fail
        refine (l7Text_any _ l' _ h60 (gl_wr HG.out (gl_su HG.out)) (RcR.own hrow).s).mono ?_
        rintro e w3 ⟨rfl, hB3⟩
        have hBB3 := below_one hB hB3
        have hrow3 := ownsRow_below hrow hB3
        go_wp2_with fail
        go_ret2
        exact ⟨_, ret_two (by rw [HE.out]; rfl), by rw [HE.out]; exact hrow3, hBB3⟩

end Go.Proofs.YtepoamekeackkabDoor
