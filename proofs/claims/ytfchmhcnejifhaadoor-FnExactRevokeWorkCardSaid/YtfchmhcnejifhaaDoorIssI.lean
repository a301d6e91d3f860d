/-
  Chapter 4: good issuers, by the program.
-/
import Derived.Test.YtfchmhcnejifhaaDoorName
import Derived.Test.YtfchmhcnejifhaaDoorIssR
import Derived.Test.YtfchmhcnejifhaaDoorWorkE
namespace Go.Proofs.YtfchmhcnejifhaaDoor
open Go.RowKit Go.Shelf

theorem hd_no {s : Is} (h : 20 < s.ws.length ∨ s.nx < 1 ∨ 100000 < s.nx ∨ 200 < s.sg.length) : isB s = false := by
  apply isB_no1
  cases hh : hdB s
  · rfl
  · exfalso
    unfold hdB at hh
    simp at hh
    omega
theorem hd_yes {s : Is} (h1 : ¬ 20 < s.ws.length) (h2 : ¬ s.nx < 1) (h3 : ¬ 100000 < s.nx) (h4 : ¬ 200 < s.sg.length) : hdB s = true := by
  unfold hdB
  simp
  omega
/-- The names of an issuer's works are texts that the walks take. -/
def Is.named (s : Is) : Prop := ∀ k ∈ s.ws, k.name.size ≤ 1048576
theorem wk_no1 {nx : Int} {k : Wk} (h : gnB (split k.name 47) = false) : wkOk nx k = false := by unfold wkOk nmOk; rw [h]; rfl
theorem wk_no2 {nx : Int} {k : Wk} (h : ¬ (0 ≤ k.se ∧ k.se < nx)) : wkOk nx k = false := by unfold wkOk; rw [decide_eq_false h, Bool.and_false]
theorem wk_yes {nx : Int} {k : Wk} (h : gnB (split k.name 47) = true) (h2 : 0 ≤ k.se ∧ k.se < nx) : wkOk nx k = true := by unfold wkOk nmOk; rw [h, decide_eq_true h2]; rfl
theorem cells3 (w : World) (a b c : Value) (t : TypeId) : (w.alloc (.cells #[a, b, c] t)).cell? ⟨w.heap.size, 0, none⟩ = some a ∧ (w.alloc (.cells #[a, b, c] t)).cell? ⟨w.heap.size, 1, none⟩ = some b ∧ (w.alloc (.cells #[a, b, c] t)).cell? ⟨w.heap.size, 2, none⟩ = some c := by
  refine ⟨?_, ?_, ?_⟩ <;> simp

set_option maxHeartbeats 4000000 in
theorem implGoodIssuer_any (v : Value) (s : Is) (w : World) (hs : s.short) (hn : s.named) (h : IsA w v s) :
    Calls Tryd.prog 49 #[v] w fun e w' => e = .returned (.bool (isB s)) ∧ Below w.heap.size w w' := by
  obtain ⟨vw, vr, vs, rfl, h1, h2, h3⟩ := h.parts
  obtain ⟨l1, l2, l3⟩ := hs
  obtain ⟨aw, cw, rfl⟩ := h1.len
  obtain ⟨ar, cr, rfl⟩ := h2.numLen
  obtain ⟨ag, cg, rfl⟩ := h3.strLen
  have hB0 : Below w.heap.size w (w.alloc (.cells #[.slice aw s.ws.length cw, .int .i64 s.nx, .slice ar s.rv.length cr, .slice ag s.sg.length cg] 30)) := (Below.refl _ w).alloc (Nat.le_refl _) _
  have F := Four.new w (.slice aw s.ws.length cw) (.int .i64 s.nx) (.slice ar s.rv.length cr) (.slice ag s.sg.length cg) 30
  by_cases c1 : s.nx < 1
  · have HR := hid (hd_no (s := s) (by omega))
    go_enter Tryd.func49, Tryd.ntmps49
    go_wp2
    go_ret
    exact ⟨ret_bool HR.out.symm, hB0⟩
  by_cases c2 : 100000 < s.nx
  · have HR := hid (hd_no (s := s) (by omega))
    go_enter Tryd.func49, Tryd.ntmps49
    go_wp2
    go_ret
    exact ⟨ret_bool HR.out.symm, hB0⟩
  by_cases c3 : 20 < s.ws.length
  · have HR := hid (hd_no (s := s) (by omega))
    go_enter Tryd.func49, Tryd.ntmps49
    go_wp2
    go_ret
    exact ⟨ret_bool HR.out.symm, hB0⟩
  by_cases c4 : 200 < s.sg.length
  · have HR := hid (hd_no (s := s) (by omega))
    go_enter Tryd.func49, Tryd.ntmps49
    go_wp2
    go_ret
    exact ⟨ret_bool HR.out.symm, hB0⟩
  have HD := hid (hd_yes c3 c1 c2 c4)
  go_enter Tryd.func49, Tryd.ntmps49
  go_wp2_with fail
  generalize w.alloc (.cells #[.slice aw s.ws.length cw, .int .i64 s.nx, .slice ar s.rv.length cr, .slice ag s.sg.length cg] 30) = W0 at *
  refine (risingW_any _ s.ws _ l1 (h1.below hB0)).mono ?_
  rintro e w1 ⟨rfl, hB1⟩
  replace F := F.below hB1
  have hBB1 := below_one hB0 hB1
  clear hB1 hB0
  obtain ⟨a0, a1, a2, a3⟩ := F.c
  cases hu : upW s.ws
  · have HR := hid (isB_no2 hu)
    go_wp2_with fail
    go_ret
    exact ⟨ret_bool HR.out.symm, hBB1⟩
  have HU := hid hu
  clear hu
  go_wp2_with fail
  refine (risingN_any _ s.rv _ l2 (h2.below hBB1)).mono ?_
  rintro e w2 ⟨rfl, hB2⟩
  replace F := F.below hB2
  have hBB2 := below_one hBB1 hB2
  clear hB2 hBB1 a0 a1 a2 a3
  obtain ⟨a0, a1, a2, a3⟩ := F.c
  cases hv : upN s.rv
  · have HR := hid (isB_no4 hv)
    go_wp2_with fail
    go_ret
    exact ⟨ret_bool HR.out.symm, hBB2⟩
  have HV := hid hv
  clear hv
  go_wp2_with fail
  clear a0 a1 a2 a3
  go_loopw [40] (fun i wr => ∃ n : Nat, n ≤ s.ws.length ∧ i = .int .i64 n ∧ (∀ j (hj : j < s.ws.length), j < n → wkOk s.nx s.ws[j] = true) ∧ Below w2.heap.size w2 wr) (fun i _ => s.ws.length - (intOf i).toNat)
  case atStart => exact ⟨0, Nat.zero_le _, rfl, fun _ _ h => absurd h (Nat.not_lt_zero _), Below.refl _ _⟩
  case round =>
    obtain ⟨n, hnl, rfl, hk, hB⟩ := hrel
    have HK := hid hk
    clear hk
    have hBr := below_one hBB2 hB
    have Fr := F.below hB
    by_cases hlt : n < s.ws.length
    · obtain ⟨b, off, rfl, hb, hcap, q0, q1, q2⟩ := (h1.below hBr).at hlt
      have hz := hn s.ws[n] (List.getElem_mem hlt)
      have HN := hid (fun h => okW_no (nx := s.nx) (ws := s.ws) hlt h)
      have HY := hid (show wkOk s.nx s.ws[n] = true → ∀ j (hj : j < s.ws.length), j < n + 1 → wkOk s.nx s.ws[j] = true from fun hh j hj hjn => (by
        by_cases e : j = n
        · subst e
          exact hh
        · exact HK.out j hj (by omega)))
      generalize s.ws[n] = k at *
      have hBa : Below wr.heap.size wr (wr.alloc (.cells #[.string k.name, .bool k.live, .int .i64 k.se] 48)) := (Below.refl _ wr).alloc (Nat.le_refl _) _
      obtain ⟨x0, x1, x2⟩ := cells3 wr (.string k.name) (.bool k.live) (.int .i64 k.se) 48
      have hzw : wr.heap.size < (wr.alloc (.cells #[.string k.name, .bool k.live, .int .i64 k.se] 48)).heap.size := by simp
      have Fa := Fr.below hBa
      have hBA := below_one hB hBa
      go_wp2_with fail
      generalize wr.alloc (.cells #[.string k.name, .bool k.live, .int .i64 k.se] 48) = Wa at *
      refine (implGoodName_any k.name _ hz).mono ?_
      rintro e w3 ⟨rfl, hB3⟩
      have y2 := (hB3.cell (p := ⟨wr.heap.size, 2, none⟩) hzw).trans x2
      have F3 := Fa.below hB3
      have hBB3 := below_one hBA hB3
      clear x0 x1 x2 q0 q1 q2 hB3 Fa hBa
      obtain ⟨a0, a1, a2, a3⟩ := F3.c
      cases hg : gnB (split k.name 47)
      · have HR := hid (isB_no3 (HN.out (wk_no1 hg)))
        go_wp2_with fail
        go_ret
        exact ⟨ret_bool HR.out.symm, below_one hBB2 hBB3⟩
      · by_cases d1 : k.se < 0
        · have HR := hid (isB_no3 (HN.out (wk_no2 (by omega))))
          go_wp2_with fail
          go_ret
          exact ⟨ret_bool HR.out.symm, below_one hBB2 hBB3⟩
        · by_cases d2 : s.nx ≤ k.se
          · have HR := hid (isB_no3 (HN.out (wk_no2 (by omega))))
            go_wp2_with fail
            go_ret
            exact ⟨ret_bool HR.out.symm, below_one hBB2 hBB3⟩
          · have HR := hid (HY.out (wk_yes hg (by omega)))
            go_wp2_with fail
            go_roundw
            case rel => exact ⟨n + 1, by omega, by go_num, HR.out, hBB3⟩
            case measure => simp [intOf]; omega
    · obtain rfl : n = s.ws.length := by omega
      have HW := hid (show okW s.nx s.ws = true from okW_yes fun i hi => HK.out i hi hi)
      obtain ⟨a0, a1, a2, a3⟩ := Fr.c
      go_wp2_with fail
      clear a0 a2 a3
      go_loopw [64] (fun i wq => ∃ n : Nat, n ≤ s.rv.length ∧ i = .int .i64 n ∧ (∀ j (hj : j < s.rv.length), j < n → 1 ≤ s.rv[j] ∧ s.rv[j] < s.nx) ∧ wq = wr) (fun i _ => s.rv.length - (intOf i).toNat)
      case atStart => exact ⟨0, Nat.zero_le _, rfl, fun _ _ h => absurd h (Nat.not_lt_zero _), rfl⟩
      case round =>
        obtain ⟨n, hnl, rfl, hk, rfl⟩ := hrel
        have HQ := hid hk
        clear hk
        by_cases hlt : n < s.rv.length
        · obtain ⟨b, off, rfl, hb, hcap, q0⟩ := (h2.below hBr).num hlt
          have HN := hid (fun h => okN_no (nx := s.nx) (zs := s.rv) hlt h)
          have HY := hid (show (1 ≤ s.rv[n] ∧ s.rv[n] < s.nx) → ∀ j (hj : j < s.rv.length), j < n + 1 → 1 ≤ s.rv[j] ∧ s.rv[j] < s.nx from fun hh j hj hjn => (by
            by_cases e : j = n
            · subst e
              exact hh
            · exact HQ.out j hj (by omega)))
          generalize s.rv[n] = z at *
          by_cases d1 : z < 1
          · have HR := hid (isB_no5 (HN.out (by omega)))
            go_wp2_with fail
            go_ret
            exact ⟨ret_bool HR.out.symm, hBr⟩
          · by_cases d2 : s.nx ≤ z
            · have HR := hid (isB_no5 (HN.out (by omega)))
              go_wp2_with fail
              go_ret
              exact ⟨ret_bool HR.out.symm, hBr⟩
            · have HR := hid (HY.out (by omega))
              go_wp2_with fail
              go_roundw
              case rel => exact ⟨n + 1, by omega, by go_num, HR.out, by trivial⟩
              case measure => simp [intOf]; omega
        · obtain rfl : n = s.rv.length := by omega
          have HR := hid (isB_yes HD.out HU.out HW.out HV.out (okN_yes fun i hi => HQ.out i hi hi))
          go_wp2_with fail
          go_ret
          exact ⟨ret_bool HR.out.symm, hBr⟩

/-- The forms of an issuer's parts. -/
theorem is_forms {w : World} {v : Value} {s : Is} (h : IsA w v s) : ∃ aw cw ar cr ag cg, v = .agg #[.slice aw s.ws.length cw, .int .i64 s.nx, .slice ar s.rv.length cr, .slice ag s.sg.length cg] := by
  obtain ⟨vw, vr, vs, rfl, h1, h2, h3⟩ := h.parts
  obtain ⟨aw, cw, rfl⟩ := h1.len
  obtain ⟨ar, cr, rfl⟩ := h2.numLen
  obtain ⟨ag, cg, rfl⟩ := h3.strLen
  exact ⟨_, _, _, _, _, _, rfl⟩
theorem is_named {s : Is} (h : s.size ≤ 1048576) : s.named := fun k hk => by
  have := wz_mem hk
  unfold Is.size wzAll at h
  omega
theorem is_short {s : Is} (h : s.size ≤ 1048576) : s.short := by
  unfold Is.size wzAll tzAll at h
  exact ⟨by omega, by omega, by omega⟩

end Go.Proofs.YtfchmhcnejifhaaDoor
