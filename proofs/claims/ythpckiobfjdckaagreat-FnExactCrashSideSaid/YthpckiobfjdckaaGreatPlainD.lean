/-
  The library's Compact over rules: the walk.
-/
import Derived.Test.YthpckiobfjdckaaGreatPlainC
namespace Go.Proofs.YthpckiobfjdckaaGreat
open Go.RowKit Go.Shelf

theorem row_draws {w : World} {base : Nat} {e : TypeId} {size n : Nat} {v : Value} {xs : List Value} (h : w.ownsRow base e size v n xs) (q : Nat) : (w.drewN q).ownsRow base e size v n xs := h
theorem grown_draws {w W : World} {r : Option Nat} (h : w.grownBy W r) (q : Nat) : w.grownBy (W.drewN q) r := ⟨h.os, h.tape, h.output, h.size, h.block⟩
theorem ret_slc {a : Option Addr} {n m cap : Nat} (h : n = m) : Ending.returned (.slice a n cap) = .returned (.slice a m cap) := by rw [h]
theorem flat_take : ∀ (ys : List Ru) (k : Nat), (ys.flatMap Ru.cells).take (k * 4) = (ys.take k).flatMap Ru.cells
  | [], k => by simp
  | y :: ys, 0 => by simp
  | y :: ys, k + 1 => by
    rw [List.flatMap_cons, List.take_succ_cons, List.flatMap_cons, ← flat_take ys k, show (k + 1) * 4 = k * 4 + 4 by omega]
    rfl
theorem kp_one {rs : List Ru} {j : Nat} (h : j < 0 + 1) : kpB rs j = true := by
  obtain rfl : j = 0 := by omega
  rfl
theorem kp_false {rs : List Ru} {i : Nat} (h : i + 1 < rs.length) (hs : rs[i + 1].same rs[i] = true) : kpB rs (i + 1) = false := by rw [kpB_succ h, hs]; rfl
theorem kp_true {rs : List Ru} {i : Nat} (h : i + 1 < rs.length) (hs : rs[i + 1].same rs[i] = false) : kpB rs (i + 1) = true := by rw [kpB_succ h, hs]; rfl

set_option maxHeartbeats 4000000 in
set_option maxRecDepth 100000 in
theorem compact_any (base g cap n : Nat) (rs : List Ru) (w : World) (hl : rs.length = n) (hn : n ≤ 1048577) (hrow : w.ownsRow base 63 4 (.slice (some ⟨g, 0, none⟩) n cap) n (rs.flatMap Ru.cells)) :
    Calls Tryz.prog 77 #[.slice (some ⟨g, 0, none⟩) n cap] w fun e w' => e = .returned (.slice (some ⟨g, 0, none⟩) (cpTo rs n).length cap) ∧ w'.ownsRow base 63 4 (.slice (some ⟨g, 0, none⟩) (cpTo rs n).length cap) (cpTo rs n).length ((cpTo rs n).flatMap Ru.cells) ∧ w.grownBy w' (some g) := by
  by_cases h2 : n < 2
  · have hc : cpTo rs n = rs := by
      rw [cpTo_all n (by omega) (fun i hi => kp_one (by omega)), List.take_of_length_le (by omega)]
    rw [hc, hl]
    go_enter Tryz.func77, Tryz.ntmps77
    go_wp2
    go_ret
    exact ⟨rfl, hrow, grown_self _ _⟩
  · have d2 : decide ((n : Int) < 2) = false := by simp; omega
    have hcap : n ≤ cap := by
      rcases row_form hrow with ⟨h, _⟩ | ⟨_, _, h, _, h'⟩
      · cases h
      · cases h
        exact h'
    go_enter Tryz.func77, Tryz.ntmps77
    go_wp2
    go_loopw [3] (fun i wr => ∃ p : Nat, p + 1 ≤ n ∧ i = .int .i64 ((p + 1 : Nat) : Int) ∧ (∀ j, j < p + 1 → kpB rs j = true) ∧ wr.ownsRow base 63 4 (.slice (some ⟨g, 0, none⟩) n cap) n (rs.flatMap Ru.cells) ∧ w.grownBy wr (some g)) (fun i _ => n - (intOf i).toNat)
    case atStart => exact ⟨0, by omega, rfl, fun j hj => kp_one hj, hrow, grown_self _ _⟩
    case round =>
      obtain ⟨p, hp, rfl, hkp, hrow, hg⟩ := hrel
      have HKP := hid hkp
      clear hkp
      by_cases hlt : p + 1 < n
      · obtain ⟨x0, x1, x2, x3⟩ := row_ru hrow hlt hl _ rfl
        obtain ⟨y0, y1, y2, y3⟩ := row_ru hrow (show p < n by omega) hl _ rfl
        have HS := hid (fun (h : (rs[p + 1]'(by omega)).same (rs[p]'(by omega)) = true) => kp_false (rs := rs) (i := p) (by omega) h)
        have HT := hid (fun (h : (rs[p + 1]'(by omega)).same (rs[p]'(by omega)) = false) => kp_true (rs := rs) (i := p) (by omega) h)
        generalize rs[p + 1] = x at *
        generalize rs[p] = y at *
        have dlt : decide ((p : Int) + 1 < (n : Int)) = true := by simp; omega
        have hse := eql_ru x y
        cases hsm : x.same y
        · rw [hsm] at hse
          have HK1 := hid (HT.out hsm)
          go_wp2_with fail
          go_quiet (fail)
          go_wp2
          refine ⟨⟨p + 1, by omega, by go_num, ?_, row_draws hrow _, grown_draws hg _⟩, by simp [intOf]; omega⟩
          intro j hj
          by_cases hjp : j = p + 1
          · subst hjp
            exact HK1.out
          · exact HKP.out j (by omega)
        · rw [hsm] at hse
          have hc0 : cpTo rs (p + 1 + 0 + 1) = rs.take (p + 1) := by
            rw [Nat.add_zero, cpTo_no (HS.out hsm), cpTo_all (p + 1) (by omega) HKP.out]
          have HC0 := hid hc0
          clear hc0
          go_wp2_with fail
          go_quiet (fail)
          go_wp2
          replace hrow := row_draws hrow nq
          replace hg := grown_draws hg nq
          clear x0 x1 x2 x3 y0 y1 y2 y3
          generalize wr.drewN nq = W1 at *
          go_loopw [3, 5] (fun kv i wq => ∃ (kk q : Nat) (ys : List Ru), kv = .int .i64 kk ∧ i = .int .i64 ((q + 1 : Nat) : Int) ∧ p + 1 + q + 1 ≤ n ∧ kk ≤ p + 1 + q ∧ ys.length = n ∧ (cpTo rs (p + 1 + q + 1)).length = kk ∧ ys.take kk = cpTo rs (p + 1 + q + 1) ∧ (∀ j, kk ≤ j → ys[j]? = rs[j]?) ∧ wq.ownsRow base 63 4 (.slice (some ⟨g, 0, none⟩) n cap) n (ys.flatMap Ru.cells) ∧ w.grownBy wq (some g)) (fun _ i _ => n - (intOf i).toNat)
          case atStart => exact ⟨p + 1, 0, rs, rfl, rfl, by omega, by omega, hl, by rw [HC0.out, List.length_take]; omega, HC0.out.symm, fun _ _ => rfl, hrow, hg⟩
          case round =>
            obtain ⟨kk, q, ys, rfl, rfl, hq, hkk, hyl, hcl, hct, hyr, hrowq, hgq⟩ := hrel
            have HCL := hid hcl
            have HCT := hid hct
            have HYR := hid hyr
            clear hcl hct hyr hrow hg
            by_cases hlq : p + 1 + q + 1 < n
            · have e1 : ys[p + 1 + q + 1]'(by omega) = rs[p + 1 + q + 1]'(by omega) := by
                have := HYR.out (p + 1 + q + 1) (by omega)
                rw [List.getElem?_eq_getElem (by omega), List.getElem?_eq_getElem (by omega)] at this
                exact Option.some.inj this
              have e2 : ys[p + 1 + q]'(by omega) = rs[p + 1 + q]'(by omega) := by
                have := HYR.out (p + 1 + q) (by omega)
                rw [List.getElem?_eq_getElem (by omega), List.getElem?_eq_getElem (by omega)] at this
                exact Option.some.inj this
              obtain ⟨x0, x1, x2, x3⟩ := row_ru hrowq hlq hyl _ e1
              obtain ⟨y0, y1, y2, y3⟩ := row_ru hrowq (show p + 1 + q < n by omega) hyl _ e2
              rw [show (p + 1 + q + 1) * 4 = (p + 1) * 4 + (q + 1) * 4 by omega] at x0 x1 x2 x3
              rw [show (p + 1 + q) * 4 = (p + 1) * 4 + q * 4 by omega] at y0 y1 y2 y3
              have HQ := hid (fun (h : (rs[p + 1 + q + 1]'(by omega)).same (rs[p + 1 + q]'(by omega)) = true) => cpTo_no (kp_false (rs := rs) (i := p + 1 + q) (by omega) h))
              have HW := hid (fun (h : (rs[p + 1 + q + 1]'(by omega)).same (rs[p + 1 + q]'(by omega)) = false) => cpTo_yes (m := p + 1 + q + 1) (by omega) (kp_true (rs := rs) (i := p + 1 + q) (by omega) h))
              clear e1 e2
              generalize rs[p + 1 + q + 1] = x at *
              generalize rs[p + 1 + q] = y at *
              have hne := neq_ru x y
              cases hsn : x.same y
              · rw [hsn] at hne
                have HN := hid (HW.out hsn)
                go_wp2_with fail
                go_quiet (fail)
                replace hrowq := row_draws hrowq nq
                replace hgq := grown_draws hgq nq
                replace x0 : (wr.drewN nq).cell? _ = _ := x0
                replace x1 : (wr.drewN nq).cell? _ = _ := x1
                replace x2 : (wr.drewN nq).cell? _ = _ := x2
                replace x3 : (wr.drewN nq).cell? _ = _ := x3
                clear y0 y1 y2 y3
                generalize wr.drewN nq = W2 at *
                have hlen : (ys.flatMap Ru.cells).length = n * 4 := hrowq.1
                have s0 := hrowq.cellAt (kk * 4) (by omega)
                have s1 := hrowq.cellAt (kk * 4 + 1) (by omega)
                have s2 := hrowq.cellAt (kk * 4 + 2) (by omega)
                have s3 := hrowq.cellAt (kk * 4 + 3) (by omega)
                rw [List.getElem?_eq_getElem (by omega)] at s0 s1 s2 s3
                have t0 := hrowq.frozenAt (kk * 4)
                have t1 := hrowq.frozenAt (kk * 4 + 1)
                have t2 := hrowq.frozenAt (kk * 4 + 2)
                have t3 := hrowq.frozenAt (kk * 4 + 3)
                generalize (ys.flatMap Ru.cells)[kk * 4] = z0 at s0
                generalize (ys.flatMap Ru.cells)[kk * 4 + 1] = z1 at s1
                generalize (ys.flatMap Ru.cells)[kk * 4 + 2] = z2 at s2
                generalize (ys.flatMap Ru.cells)[kk * 4 + 3] = z3 at s3
                have P0 := hrowq.stored (kk * 4) (.bool x.deny)
                have P1 := P0.1.stored (kk * 4 + 1) (.string x.who)
                have P2 := P1.1.stored (kk * 4 + 2) (.string x.method)
                have P3 := P2.1.stored (kk * 4 + 3) (.string x.path)
                have HG := hid (grown_two (grown_two (grown_two (grown_two hgq P0.2) P1.2) P2.2) P3.2)
                have HR := hid (by have := P3.1; rw [flat_set ys kk x (by omega)] at this; exact this)
                clear P0 P1 P2 P3
                go_wp2
                go_roundw
                case rel =>
                  refine ⟨kk + 1, q + 1, ys.set kk x, by go_num, by go_num, by omega, by omega, by rw [List.length_set]; exact hyl, ?_, ?_, ?_, HR.out, HG.out⟩
                  · rw [show p + 1 + (q + 1) + 1 = p + 1 + q + 1 + 1 by omega, HN.out, List.length_append, HCL.out]
                    rfl
                  · rw [show p + 1 + (q + 1) + 1 = p + 1 + q + 1 + 1 by omega, HN.out, ← HCT.out, List.take_succ_eq_append_getElem (by rw [List.length_set]; omega), List.take_set_of_le (Nat.le_refl _), List.getElem_set_self]
                  · intro j hj
                    rw [List.getElem?_set_ne (by omega)]
                    exact HYR.out j (by omega)
                case measure => simp [intOf]; omega
              · rw [hsn] at hne
                have HN := hid (HQ.out hsn)
                go_wp2_with fail
                go_quiet (fail)
                go_wp2
                go_roundw
                case rel => exact ⟨kk, q + 1, ys, rfl, by go_num, by omega, by omega, hyl, by rw [show p + 1 + (q + 1) + 1 = p + 1 + q + 1 + 1 by omega, HN.out]; exact HCL.out, by rw [show p + 1 + (q + 1) + 1 = p + 1 + q + 1 + 1 by omega, HN.out]; exact HCT.out, HYR.out, row_draws hrowq _, grown_draws hgq _⟩
                case measure => simp [intOf]; omega
            · have hkn : kk < n := by omega
              have hclr := clear_ru hrowq kk (cap - kk) hkn
              obtain ⟨xs', r1, r2, r3⟩ := row_behind (k := kk) (Builtin.zeroCells zeroRu.cells (n - kk)).toList (kk * 4) wr _ (Nat.le_refl _) hrowq
              have HF := hid (show (cpTo rs n).length = kk ∧ (cpTo rs n).flatMap Ru.cells = xs'.take (kk * 4) by
                have e : p + 1 + q + 1 = n := by omega
                have h1 := HCL.out
                have h2' := HCT.out
                rw [e] at h1 h2'
                refine ⟨h1, ?_⟩
                rw [r2, ← h2', flat_take])
              go_wp2
              go_ret
              exact ⟨ret_slc HF.out.1.symm, by rw [HF.out.1, HF.out.2]; exact row_short r1 (by omega), grown_two hgq r3⟩
      · obtain rfl : p + 1 = n := by omega
        have HF := hid (show cpTo rs (p + 1) = rs by rw [cpTo_all (p + 1) (by omega) HKP.out, List.take_of_length_le (by omega)])
        go_wp2
        go_ret
        exact ⟨ret_slc (by rw [HF.out, hl]), by rw [HF.out, hl]; exact hrow, hg⟩

end Go.Proofs.YthpckiobfjdckaaGreat
