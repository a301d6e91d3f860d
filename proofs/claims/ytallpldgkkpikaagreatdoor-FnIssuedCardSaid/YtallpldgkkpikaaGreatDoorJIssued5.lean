/-
  Chapter 3: ExtendToken, by the program.
-/
import Derived.Test.YtallpldgkkpikaaGreatDoorJIssued1
import Derived.Test.YtallpldgkkpikaaGreatDoorJIssued2
import Derived.Test.YtallpldgkkpikaaGreatDoorJIssued4
import Derived.Test.YtallpldgkkpikaaGreatDoorJIssued3
import Derived.Deep.DeepCutAuto
namespace Go.Proofs.YtallpldgkkpikaaGreatDoor
open Go.RowKit Go.Shelf

set_option maxHeartbeats 8000000 in
theorem specGoodIssuer_any (v : Value) (s : Is) (w : World) (hs : s.short) (hn : s.named) (h : IsA w v s) :
    Calls Tryz.prog 19 #[v] w fun e w' => e = .returned (.bool (isB s)) ∧ Below w.heap.size w w' := by
  obtain ⟨vw, vr, vs, rfl, h1, h2, h3⟩ := h.parts
  obtain ⟨l1, l2, l3⟩ := hs
  obtain ⟨aw, cw, rfl⟩ := h1.len
  obtain ⟨ar, cr, rfl⟩ := h2.numLen
  obtain ⟨ag, cg, rfl⟩ := h3.strLen
  have hB0 : Below w.heap.size w (w.alloc (.cells #[.slice aw s.ws.length cw, .int .i64 s.nx, .slice ar s.rv.length cr, .slice ag s.sg.length cg] 27)) := (Below.refl _ w).alloc (Nat.le_refl _) _
  have F := Four.new w (.slice aw s.ws.length cw) (.int .i64 s.nx) (.slice ar s.rv.length cr) (.slice ag s.sg.length cg) 27
  by_cases c3 : 20 < s.ws.length
  · have HR := hid (hd_no (s := s) (by omega))
    go_enter Tryz.func19, Tryz.ntmps19
    go_wp2
    go_ret
    exact ⟨ret_bool HR.out.symm, hB0⟩
  by_cases c1 : 1 ≤ s.nx ∧ s.nx ≤ 100000
  · have HB := hid (show inB 1 100000 s.nx = true from decide_eq_true c1)
    by_cases c4 : 200 < s.sg.length
    · have HR := hid (hd_no (s := s) (by omega))
      go_enter Tryz.func19, Tryz.ntmps19
      go_wp2_with (go_at_call 54; refine (l1In_any s.nx 1 100000 _).mono ?_; rintro e w1 ⟨rfl, rfl⟩; rw [HB.out])
      go_ret
      exact ⟨ret_bool HR.out.symm, hB0⟩
    have HD := hid (hd_yes (s := s) c3 (by omega) (by omega) c4)
    have hw0 : IntKind.i64.wrap (s.nx - 1) = s.nx - 1 := by rw [IntKind.wrap_i64]; omega
    go_enter Tryz.func19, Tryz.ntmps19
    go_wp2_with (go_at_call 54; refine (l1In_any s.nx 1 100000 _).mono ?_; rintro e w1 ⟨rfl, rfl⟩; rw [HB.out])
    generalize w.alloc (.cells #[.slice aw s.ws.length cw, .int .i64 s.nx, .slice ar s.rv.length cr, .slice ag s.sg.length cg] 27) = W0 at *
    go_loopw [26] (fun i wr => ∃ n : Nat, n ≤ s.ws.length ∧ i = .int .i64 n ∧ (∀ j (hj : j < s.ws.length), j < n → wkOk s.nx s.ws[j] = true ∧ upB s.ws j = true) ∧ Below W0.heap.size W0 wr) (fun i _ => s.ws.length - (intOf i).toNat)
    case atStart => exact ⟨0, Nat.zero_le _, rfl, fun _ _ h => absurd h (Nat.not_lt_zero _), Below.refl _ _⟩
    case round =>
      obtain ⟨n, hnl, rfl, hk, hB⟩ := hrel
      have HK := hid hk
      clear hk
      have hBr := below_one hB0 hB
      have Fr := F.below hB
      by_cases hlt : n < s.ws.length
      · obtain ⟨b, off, rfl, hb, hcap, q0, q1, q2⟩ := (h1.below hBr).at hlt
        have hz := hn s.ws[n] (List.getElem_mem hlt)
        have HN := hid (fun h => okW_no (nx := s.nx) (ws := s.ws) hlt h)
        have HNU := hid (fun h => upW_no (ws := s.ws) hlt h)
        have HY := hid (show wkOk s.nx s.ws[n] = true → upB s.ws n = true → ∀ j (hj : j < s.ws.length), j < n + 1 → wkOk s.nx s.ws[j] = true ∧ upB s.ws j = true from fun hh hu j hj hjn => (by
          by_cases e : j = n
          · subst e
            exact ⟨hh, hu⟩
          · exact HK.out j hj (by omega)))
        have hBa : Below wr.heap.size wr (wr.alloc (.cells #[.string s.ws[n].name, .bool s.ws[n].live, .int .i64 s.ws[n].se] 64)) := (Below.refl _ wr).alloc (Nat.le_refl _) _
        obtain ⟨x0, x1, x2⟩ := cells3 wr (.string s.ws[n].name) (.bool s.ws[n].live) (.int .i64 s.ws[n].se) 64
        have hzw : wr.heap.size < (wr.alloc (.cells #[.string s.ws[n].name, .bool s.ws[n].live, .int .i64 s.ws[n].se] 64)).heap.size := by simp
        have hzs : w.heap.size < (wr.alloc (.cells #[.string s.ws[n].name, .bool s.ws[n].live, .int .i64 s.ws[n].se] 64)).heap.size := Nat.lt_of_lt_of_le Fr.lt hBa.size
        have hba : b < (wr.alloc (.cells #[.string s.ws[n].name, .bool s.ws[n].live, .int .i64 s.ws[n].se] 64)).heap.size := Nat.lt_of_lt_of_le hb hBa.size
        have Fa := Fr.below hBa
        have hBA := below_one hB hBa
        obtain ⟨a0, a1, a2, a3⟩ := Fa.c
        cases hg : gnB (split s.ws[n].name 47)
        · have HR := hid (isB_no3 (HN.out (wk_no1 hg)))
          generalize s.ws[n] = k at *
          clear HN HNU HY Fa hBa
          go_wp2_with fail
          generalize wr.alloc (.cells #[.string k.name, .bool k.live, .int .i64 k.se] 64) = Wa at *
          refine wp_region_held_drew (S := fun w' => w'.cell? ⟨wr.heap.size, 0, none⟩ = some (.string k.name) ∧ w'.cell? ⟨wr.heap.size, 1, none⟩ = some (.bool k.live) ∧ w'.cell? ⟨wr.heap.size, 2, none⟩ = some (.int .i64 k.se) ∧ w'.cell? ⟨w.heap.size, 0, none⟩ = some (.slice (some ⟨b, off, none⟩) s.ws.length cw) ∧ w'.cell? ⟨w.heap.size, 1, none⟩ = some (.int .i64 s.nx)) (by kernel_rfl) ?_ (fun hHeld => ?_)
          · go_keep
          refine takeW 0 (v := ?v1) rfl (by kernel_rfl) (by kernel_rfl) (by kernel_rfl) (fun _ _ _ h => h) (by rfl) (by assumption) ?hy1 ?rest1
          case hy1 => intro w' hSw; (try dsimp only at hSw); go_simp; try with_reducible rfl
          try simp only [Act.put, List.setIfInBounds_toArray, List.set_cons_zero, List.set_cons_succ]
          refine takeW 1 (v := ?v2) rfl (by kernel_rfl) (by kernel_rfl) (by kernel_rfl) (fun _ _ _ h => h) (by rfl) (by assumption) ?hy2 ?rest2
          case hy2 => intro w' hSw; (try dsimp only at hSw); go_simp; try with_reducible rfl
          try simp only [Act.put, List.setIfInBounds_toArray, List.set_cons_zero, List.set_cons_succ]
          refine takeC 2 (by kernel_rfl) rfl (fun K hK => ?_)
          go_simp
          refine (specGoodName_any k.name _ hz).mono ?_; rintro e w3 ⟨he1, hB3⟩; rw [hg] at he1; subst he1; have hcn := fun o => hB3.cell (p := ⟨wr.heap.size, o, none⟩) (by exact hzw); have hcs := fun o => hB3.cell (p := ⟨w.heap.size, o, none⟩) (by exact hzs); have hcb := fun o => hB3.cell (p := ⟨b, o, none⟩) (by exact hba)
          refine hK.out _ _ ?_ (fun hHeld => ?_)
          · go_keep
          clear hK K
          try simp only [Act.put, List.setIfInBounds_toArray, List.set_cons_zero, List.set_cons_succ]
          refine takeW 3 (v := ?v3) rfl (by kernel_rfl) (by kernel_rfl) (by kernel_rfl) (fun _ _ _ h => h) (by rfl) (by assumption) ?hy3 ?rest3
          case hy3 => intro w' hSw; (try dsimp only at hSw); go_simp; try with_reducible rfl
          try simp only [Act.put, List.setIfInBounds_toArray, List.set_cons_zero, List.set_cons_succ]
          refine takeW 4 (v := ?v4) rfl (by kernel_rfl) (by kernel_rfl) (by kernel_rfl) (fun _ _ _ h => h) (by rfl) (by assumption) ?hy4 ?rest4
          case hy4 => intro w' hSw; (try dsimp only at hSw); go_simp; try with_reducible rfl
          try simp only [Act.put, List.setIfInBounds_toArray, List.set_cons_zero, List.set_cons_succ]
          refine takeX 5 rfl (by kernel_rfl) (by kernel_rfl) (by kernel_rfl) (fun _ _ _ h => h) (by rfl) (by assumption) ?_
          try simp only [Act.put, List.setIfInBounds_toArray, List.set_cons_zero, List.set_cons_succ]
          refine takeX 6 rfl (by kernel_rfl) (by kernel_rfl) (by kernel_rfl) (fun _ _ _ h => h) (by rfl) (by assumption) ?_
          try simp only [Act.put, List.setIfInBounds_toArray, List.set_cons_zero, List.set_cons_succ]
          refine takeX 7 rfl (by kernel_rfl) (by kernel_rfl) (by kernel_rfl) (fun _ _ _ h => h) (by rfl) (by assumption) ?_
          try simp only [Act.put, List.setIfInBounds_toArray, List.set_cons_zero, List.set_cons_succ]
          refine takeX 8 rfl (by kernel_rfl) (by kernel_rfl) (by kernel_rfl) (fun _ _ _ h => h) (by rfl) (by assumption) ?_
          try simp only [Act.put, List.setIfInBounds_toArray, List.set_cons_zero, List.set_cons_succ]
          refine takeX 9 rfl (by kernel_rfl) (by kernel_rfl) (by kernel_rfl) (fun _ _ _ h => h) (by rfl) (by assumption) ?_
          try simp only [Act.put, List.setIfInBounds_toArray, List.set_cons_zero, List.set_cons_succ]
          refine takeX 10 rfl (by kernel_rfl) (by kernel_rfl) (by kernel_rfl) (fun _ _ _ h => h) (by rfl) (by assumption) ?_
          try simp only [Act.put, List.setIfInBounds_toArray, List.set_cons_zero, List.set_cons_succ]
          refine takeX 11 rfl (by kernel_rfl) (by kernel_rfl) (by kernel_rfl) (fun _ _ _ h => h) (by rfl) (by assumption) ?_
          try simp only [Act.put, List.setIfInBounds_toArray, List.set_cons_zero, List.set_cons_succ]
          refine takeW 12 (v := ?v5) rfl (by kernel_rfl) (by kernel_rfl) (by kernel_rfl) (fun _ _ _ h => h) (by rfl) (by assumption) ?hy5 ?rest5
          case hy5 => intro w' hSw; (try dsimp only at hSw); go_simp; try with_reducible rfl
          try simp only [Act.put, List.setIfInBounds_toArray, List.set_cons_zero, List.set_cons_succ]
          refine takeW 13 (v := ?v6) rfl (by kernel_rfl) (by kernel_rfl) (by kernel_rfl) (fun _ _ _ h => h) (by rfl) (by assumption) ?hy6 ?rest6
          case hy6 => intro w' hSw; (try dsimp only at hSw); go_simp; try with_reducible rfl
          try simp only [Act.put, List.setIfInBounds_toArray, List.set_cons_zero, List.set_cons_succ]
          refine takeX 14 rfl (by kernel_rfl) (by kernel_rfl) (by kernel_rfl) (fun _ _ _ h => h) (by rfl) (by assumption) ?_
          try simp only [Act.put, List.setIfInBounds_toArray, List.set_cons_zero, List.set_cons_succ]
          refine takeX 15 rfl (by kernel_rfl) (by kernel_rfl) (by kernel_rfl) (fun _ _ _ h => h) (by rfl) (by assumption) ?_
          try simp only [Act.put, List.setIfInBounds_toArray, List.set_cons_zero, List.set_cons_succ]
          refine takeX 16 rfl (by kernel_rfl) (by kernel_rfl) (by kernel_rfl) (fun _ _ _ h => h) (by rfl) (by assumption) ?_
          try simp only [Act.put, List.setIfInBounds_toArray, List.set_cons_zero, List.set_cons_succ]
          refine takeX 17 rfl (by kernel_rfl) (by kernel_rfl) (by kernel_rfl) (fun _ _ _ h => h) (by rfl) (by assumption) ?_
          try simp only [Act.put, List.setIfInBounds_toArray, List.set_cons_zero, List.set_cons_succ]
          refine takeX 18 rfl (by kernel_rfl) (by kernel_rfl) (by kernel_rfl) (fun _ _ _ h => h) (by rfl) (by assumption) ?_
          try simp only [Act.put, List.setIfInBounds_toArray, List.set_cons_zero, List.set_cons_succ]
          refine takeX 19 rfl (by kernel_rfl) (by kernel_rfl) (by kernel_rfl) (fun _ _ _ h => h) (by rfl) (by assumption) ?_
          try simp only [Act.put, List.setIfInBounds_toArray, List.set_cons_zero, List.set_cons_succ]
          refine takeX 20 rfl (by kernel_rfl) (by kernel_rfl) (by kernel_rfl) (fun _ _ _ h => h) (by rfl) (by assumption) ?_
          try simp only [Act.put, List.setIfInBounds_toArray, List.set_cons_zero, List.set_cons_succ]
          refine takeX 21 rfl (by kernel_rfl) (by kernel_rfl) (by kernel_rfl) (fun _ _ _ h => h) (by rfl) (by assumption) ?_
          try simp only [Act.put, List.setIfInBounds_toArray, List.set_cons_zero, List.set_cons_succ]
          refine takeX 22 rfl (by kernel_rfl) (by kernel_rfl) (by kernel_rfl) (fun _ _ _ h => h) (by rfl) (by assumption) ?_
          try simp only [Act.put, List.setIfInBounds_toArray, List.set_cons_zero, List.set_cons_succ]
          refine takeX 23 rfl (by kernel_rfl) (by kernel_rfl) (by kernel_rfl) (fun _ _ _ h => h) (by rfl) (by assumption) ?_
          try simp only [Act.put, List.setIfInBounds_toArray, List.set_cons_zero, List.set_cons_succ]
          refine takeX 24 rfl (by kernel_rfl) (by kernel_rfl) (by kernel_rfl) (fun _ _ _ h => h) (by rfl) (by assumption) ?_
          try simp only [Act.put, List.setIfInBounds_toArray, List.set_cons_zero, List.set_cons_succ]
          refine takeX 25 rfl (by kernel_rfl) (by kernel_rfl) (by kernel_rfl) (fun _ _ _ h => h) (by rfl) (by assumption) ?_
          try simp only [Act.put, List.setIfInBounds_toArray, List.set_cons_zero, List.set_cons_succ]
          refine takeX 26 rfl (by kernel_rfl) (by kernel_rfl) (by kernel_rfl) (fun _ _ _ h => h) (by rfl) (by assumption) ?_
          try simp only [Act.put, List.setIfInBounds_toArray, List.set_cons_zero, List.set_cons_succ]
          refine takeX 27 rfl (by kernel_rfl) (by kernel_rfl) (by kernel_rfl) (fun _ _ _ h => h) (by rfl) (by assumption) ?_
          try simp only [Act.put, List.setIfInBounds_toArray, List.set_cons_zero, List.set_cons_succ]
          refine takeW 28 (v := ?v7) rfl (by kernel_rfl) (by kernel_rfl) (by kernel_rfl) (fun _ _ _ h => h) (by rfl) (by assumption) ?hy7 ?rest7
          case hy7 => intro w' hSw; (try dsimp only at hSw); go_simp; try with_reducible rfl
          try simp only [Act.put, List.setIfInBounds_toArray, List.set_cons_zero, List.set_cons_succ]
          refine wpAnyH_done (by kernel_rfl) ?_ _
          have hBB3 := below_one hBA (below_drew1 hB3)
          clear hcn hcs hcb hB3 hHeld x0 x1 x2 q0 q1 q2 a0 a1 a2 a3
          go_wp2_with fail
          go_ret
          exact ⟨ret_bool HR.out.symm, below_one hB0 hBB3⟩
        · cases hin : inB 0 (s.nx - 1) s.ws[n].se
          · have HR := hid (isB_no3 (HN.out (wk_no2 (by have := of_decide_eq_false hin; omega))))
            generalize s.ws[n] = k at *
            clear HN HNU HY Fa hBa
            go_wp2_with fail
            generalize wr.alloc (.cells #[.string k.name, .bool k.live, .int .i64 k.se] 64) = Wa at *
            refine wp_region_held_drew (S := fun w' => w'.cell? ⟨wr.heap.size, 0, none⟩ = some (.string k.name) ∧ w'.cell? ⟨wr.heap.size, 1, none⟩ = some (.bool k.live) ∧ w'.cell? ⟨wr.heap.size, 2, none⟩ = some (.int .i64 k.se) ∧ w'.cell? ⟨w.heap.size, 0, none⟩ = some (.slice (some ⟨b, off, none⟩) s.ws.length cw) ∧ w'.cell? ⟨w.heap.size, 1, none⟩ = some (.int .i64 s.nx)) (by kernel_rfl) ?_ (fun hHeld => ?_)
            · go_keep
            refine takeW 0 (v := ?v8) rfl (by kernel_rfl) (by kernel_rfl) (by kernel_rfl) (fun _ _ _ h => h) (by rfl) (by assumption) ?hy8 ?rest8
            case hy8 => intro w' hSw; (try dsimp only at hSw); go_simp; try with_reducible rfl
            try simp only [Act.put, List.setIfInBounds_toArray, List.set_cons_zero, List.set_cons_succ]
            refine takeW 1 (v := ?v9) rfl (by kernel_rfl) (by kernel_rfl) (by kernel_rfl) (fun _ _ _ h => h) (by rfl) (by assumption) ?hy9 ?rest9
            case hy9 => intro w' hSw; (try dsimp only at hSw); go_simp; try with_reducible rfl
            try simp only [Act.put, List.setIfInBounds_toArray, List.set_cons_zero, List.set_cons_succ]
            refine takeC 2 (by kernel_rfl) rfl (fun K hK => ?_)
            go_simp
            refine (specGoodName_any k.name _ hz).mono ?_; rintro e w3 ⟨he1, hB3⟩; rw [hg] at he1; subst he1; have hcn := fun o => hB3.cell (p := ⟨wr.heap.size, o, none⟩) (by exact hzw); have hcs := fun o => hB3.cell (p := ⟨w.heap.size, o, none⟩) (by exact hzs); have hcb := fun o => hB3.cell (p := ⟨b, o, none⟩) (by exact hba)
            refine hK.out _ _ ?_ (fun hHeld => ?_)
            · go_keep
            clear hK K
            try simp only [Act.put, List.setIfInBounds_toArray, List.set_cons_zero, List.set_cons_succ]
            refine takeW 3 (v := ?v10) rfl (by kernel_rfl) (by kernel_rfl) (by kernel_rfl) (fun _ _ _ h => h) (by rfl) (by assumption) ?hy10 ?rest10
            case hy10 => intro w' hSw; (try dsimp only at hSw); go_simp; try with_reducible rfl
            try simp only [Act.put, List.setIfInBounds_toArray, List.set_cons_zero, List.set_cons_succ]
            refine takeW 4 (v := ?v11) rfl (by kernel_rfl) (by kernel_rfl) (by kernel_rfl) (fun _ _ _ h => h) (by rfl) (by assumption) ?hy11 ?rest11
            case hy11 => intro w' hSw; (try dsimp only at hSw); go_simp; try with_reducible rfl
            try simp only [Act.put, List.setIfInBounds_toArray, List.set_cons_zero, List.set_cons_succ]
            refine takeW 5 (v := ?v12) rfl (by kernel_rfl) (by kernel_rfl) (by kernel_rfl) (fun _ _ _ h => h) (by rfl) (by assumption) ?hy12 ?rest12
            case hy12 => intro w' hSw; (try dsimp only at hSw); go_simp; try with_reducible rfl
            try simp only [Act.put, List.setIfInBounds_toArray, List.set_cons_zero, List.set_cons_succ]
            refine takeW 6 (v := ?v13) rfl (by kernel_rfl) (by kernel_rfl) (by kernel_rfl) (fun _ _ _ h => h) (by rfl) (by assumption) ?hy13 ?rest13
            case hy13 => intro w' hSw; (try dsimp only at hSw); go_simp; try with_reducible rfl
            try simp only [Act.put, List.setIfInBounds_toArray, List.set_cons_zero, List.set_cons_succ]
            refine takeW 7 (v := ?v14) rfl (by kernel_rfl) (by kernel_rfl) (by kernel_rfl) (fun _ _ _ h => h) (by rfl) (by assumption) ?hy14 ?rest14
            case hy14 => intro w' hSw; (try dsimp only at hSw); go_simp; try with_reducible rfl
            try simp only [Act.put, List.setIfInBounds_toArray, List.set_cons_zero, List.set_cons_succ]
            refine takeW 8 (v := ?v15) rfl (by kernel_rfl) (by kernel_rfl) (by kernel_rfl) (fun _ _ _ h => h) (by rfl) (by assumption) ?hy15 ?rest15
            case hy15 => intro w' hSw; (try dsimp only at hSw); go_simp; try with_reducible rfl
            try simp only [Act.put, List.setIfInBounds_toArray, List.set_cons_zero, List.set_cons_succ]
            refine takeW 9 (v := ?v16) rfl (by kernel_rfl) (by kernel_rfl) (by kernel_rfl) (fun _ _ _ h => h) (by rfl) (by assumption) ?hy16 ?rest16
            case hy16 => intro w' hSw; (try dsimp only at hSw); go_simp; try with_reducible rfl
            try simp only [Act.put, List.setIfInBounds_toArray, List.set_cons_zero, List.set_cons_succ]
            refine takeC 10 (by kernel_rfl) rfl (fun K hK => ?_)
            go_simp
            refine (l1In_any k.se 0 (s.nx - 1) _).mono ?_; rintro e w4 ⟨he2, rfl⟩; rw [hin] at he2; subst he2
            refine hK.out _ _ ?_ (fun hHeld => ?_)
            · go_keep
            clear hK K
            try simp only [Act.put, List.setIfInBounds_toArray, List.set_cons_zero, List.set_cons_succ]
            refine takeW 11 (v := ?v17) rfl (by kernel_rfl) (by kernel_rfl) (by kernel_rfl) (fun _ _ _ h => h) (by rfl) (by assumption) ?hy17 ?rest17
            case hy17 => intro w' hSw; (try dsimp only at hSw); go_simp; try with_reducible rfl
            try simp only [Act.put, List.setIfInBounds_toArray, List.set_cons_zero, List.set_cons_succ]
            refine takeW 12 (v := ?v18) rfl (by kernel_rfl) (by kernel_rfl) (by kernel_rfl) (fun _ _ _ h => h) (by rfl) (by assumption) ?hy18 ?rest18
            case hy18 => intro w' hSw; (try dsimp only at hSw); go_simp; try with_reducible rfl
            try simp only [Act.put, List.setIfInBounds_toArray, List.set_cons_zero, List.set_cons_succ]
            refine takeW 13 (v := ?v19) rfl (by kernel_rfl) (by kernel_rfl) (by kernel_rfl) (fun _ _ _ h => h) (by rfl) (by assumption) ?hy19 ?rest19
            case hy19 => intro w' hSw; (try dsimp only at hSw); go_simp; try with_reducible rfl
            try simp only [Act.put, List.setIfInBounds_toArray, List.set_cons_zero, List.set_cons_succ]
            refine takeX 14 rfl (by kernel_rfl) (by kernel_rfl) (by kernel_rfl) (fun _ _ _ h => h) (by rfl) (by assumption) ?_
            try simp only [Act.put, List.setIfInBounds_toArray, List.set_cons_zero, List.set_cons_succ]
            refine takeX 15 rfl (by kernel_rfl) (by kernel_rfl) (by kernel_rfl) (fun _ _ _ h => h) (by rfl) (by assumption) ?_
            try simp only [Act.put, List.setIfInBounds_toArray, List.set_cons_zero, List.set_cons_succ]
            refine takeX 16 rfl (by kernel_rfl) (by kernel_rfl) (by kernel_rfl) (fun _ _ _ h => h) (by rfl) (by assumption) ?_
            try simp only [Act.put, List.setIfInBounds_toArray, List.set_cons_zero, List.set_cons_succ]
            refine takeX 17 rfl (by kernel_rfl) (by kernel_rfl) (by kernel_rfl) (fun _ _ _ h => h) (by rfl) (by assumption) ?_
            try simp only [Act.put, List.setIfInBounds_toArray, List.set_cons_zero, List.set_cons_succ]
            refine takeX 18 rfl (by kernel_rfl) (by kernel_rfl) (by kernel_rfl) (fun _ _ _ h => h) (by rfl) (by assumption) ?_
            try simp only [Act.put, List.setIfInBounds_toArray, List.set_cons_zero, List.set_cons_succ]
            refine takeX 19 rfl (by kernel_rfl) (by kernel_rfl) (by kernel_rfl) (fun _ _ _ h => h) (by rfl) (by assumption) ?_
            try simp only [Act.put, List.setIfInBounds_toArray, List.set_cons_zero, List.set_cons_succ]
            refine takeX 20 rfl (by kernel_rfl) (by kernel_rfl) (by kernel_rfl) (fun _ _ _ h => h) (by rfl) (by assumption) ?_
            try simp only [Act.put, List.setIfInBounds_toArray, List.set_cons_zero, List.set_cons_succ]
            refine takeX 21 rfl (by kernel_rfl) (by kernel_rfl) (by kernel_rfl) (fun _ _ _ h => h) (by rfl) (by assumption) ?_
            try simp only [Act.put, List.setIfInBounds_toArray, List.set_cons_zero, List.set_cons_succ]
            refine takeX 22 rfl (by kernel_rfl) (by kernel_rfl) (by kernel_rfl) (fun _ _ _ h => h) (by rfl) (by assumption) ?_
            try simp only [Act.put, List.setIfInBounds_toArray, List.set_cons_zero, List.set_cons_succ]
            refine takeX 23 rfl (by kernel_rfl) (by kernel_rfl) (by kernel_rfl) (fun _ _ _ h => h) (by rfl) (by assumption) ?_
            try simp only [Act.put, List.setIfInBounds_toArray, List.set_cons_zero, List.set_cons_succ]
            refine takeX 24 rfl (by kernel_rfl) (by kernel_rfl) (by kernel_rfl) (fun _ _ _ h => h) (by rfl) (by assumption) ?_
            try simp only [Act.put, List.setIfInBounds_toArray, List.set_cons_zero, List.set_cons_succ]
            refine takeX 25 rfl (by kernel_rfl) (by kernel_rfl) (by kernel_rfl) (fun _ _ _ h => h) (by rfl) (by assumption) ?_
            try simp only [Act.put, List.setIfInBounds_toArray, List.set_cons_zero, List.set_cons_succ]
            refine takeX 26 rfl (by kernel_rfl) (by kernel_rfl) (by kernel_rfl) (fun _ _ _ h => h) (by rfl) (by assumption) ?_
            try simp only [Act.put, List.setIfInBounds_toArray, List.set_cons_zero, List.set_cons_succ]
            refine takeX 27 rfl (by kernel_rfl) (by kernel_rfl) (by kernel_rfl) (fun _ _ _ h => h) (by rfl) (by assumption) ?_
            try simp only [Act.put, List.setIfInBounds_toArray, List.set_cons_zero, List.set_cons_succ]
            refine takeW 28 (v := ?v20) rfl (by kernel_rfl) (by kernel_rfl) (by kernel_rfl) (fun _ _ _ h => h) (by rfl) (by assumption) ?hy20 ?rest20
            case hy20 => intro w' hSw; (try dsimp only at hSw); go_simp; try with_reducible rfl
            try simp only [Act.put, List.setIfInBounds_toArray, List.set_cons_zero, List.set_cons_succ]
            refine wpAnyH_done (by kernel_rfl) ?_ _
            have hBB3 := below_one hBA (below_drew1 hB3)
            clear hcn hcs hcb hB3 hHeld x0 x1 x2 q0 q1 q2 a0 a1 a2 a3
            go_wp2_with fail
            go_ret
            exact ⟨ret_bool HR.out.symm, below_one hB0 hBB3⟩
          · have HO := hid (wk_yes (nx := s.nx) hg (by have := of_decide_eq_true hin; omega))
            by_cases hn0 : n = 0
            · have HR := hid (HY.out HO.out (by subst hn0; rfl))
              have dn : decide (0 < (n : Int)) = false := by simp; omega
              have dn2 : decide (0 < n) = false := by simp; omega
              generalize s.ws[n] = k at *
              clear HN HNU HY HO Fa hBa hn0
              go_wp2_with fail
              generalize wr.alloc (.cells #[.string k.name, .bool k.live, .int .i64 k.se] 64) = Wa at *
              refine wp_region_held_drew (S := fun w' => w'.cell? ⟨wr.heap.size, 0, none⟩ = some (.string k.name) ∧ w'.cell? ⟨wr.heap.size, 1, none⟩ = some (.bool k.live) ∧ w'.cell? ⟨wr.heap.size, 2, none⟩ = some (.int .i64 k.se) ∧ w'.cell? ⟨w.heap.size, 0, none⟩ = some (.slice (some ⟨b, off, none⟩) s.ws.length cw) ∧ w'.cell? ⟨w.heap.size, 1, none⟩ = some (.int .i64 s.nx)) (by kernel_rfl) ?_ (fun hHeld => ?_)
              · go_keep
              refine takeW 0 (v := ?v21) rfl (by kernel_rfl) (by kernel_rfl) (by kernel_rfl) (fun _ _ _ h => h) (by rfl) (by assumption) ?hy21 ?rest21
              case hy21 => intro w' hSw; (try dsimp only at hSw); go_simp; try with_reducible rfl
              try simp only [Act.put, List.setIfInBounds_toArray, List.set_cons_zero, List.set_cons_succ]
              refine takeW 1 (v := ?v22) rfl (by kernel_rfl) (by kernel_rfl) (by kernel_rfl) (fun _ _ _ h => h) (by rfl) (by assumption) ?hy22 ?rest22
              case hy22 => intro w' hSw; (try dsimp only at hSw); go_simp; try with_reducible rfl
              try simp only [Act.put, List.setIfInBounds_toArray, List.set_cons_zero, List.set_cons_succ]
              refine takeC 2 (by kernel_rfl) rfl (fun K hK => ?_)
              go_simp
              refine (specGoodName_any k.name _ hz).mono ?_; rintro e w3 ⟨he1, hB3⟩; rw [hg] at he1; subst he1; have hcn := fun o => hB3.cell (p := ⟨wr.heap.size, o, none⟩) (by exact hzw); have hcs := fun o => hB3.cell (p := ⟨w.heap.size, o, none⟩) (by exact hzs); have hcb := fun o => hB3.cell (p := ⟨b, o, none⟩) (by exact hba)
              refine hK.out _ _ ?_ (fun hHeld => ?_)
              · go_keep
              clear hK K
              try simp only [Act.put, List.setIfInBounds_toArray, List.set_cons_zero, List.set_cons_succ]
              refine takeW 3 (v := ?v23) rfl (by kernel_rfl) (by kernel_rfl) (by kernel_rfl) (fun _ _ _ h => h) (by rfl) (by assumption) ?hy23 ?rest23
              case hy23 => intro w' hSw; (try dsimp only at hSw); go_simp; try with_reducible rfl
              try simp only [Act.put, List.setIfInBounds_toArray, List.set_cons_zero, List.set_cons_succ]
              refine takeW 4 (v := ?v24) rfl (by kernel_rfl) (by kernel_rfl) (by kernel_rfl) (fun _ _ _ h => h) (by rfl) (by assumption) ?hy24 ?rest24
              case hy24 => intro w' hSw; (try dsimp only at hSw); go_simp; try with_reducible rfl
              try simp only [Act.put, List.setIfInBounds_toArray, List.set_cons_zero, List.set_cons_succ]
              refine takeW 5 (v := ?v25) rfl (by kernel_rfl) (by kernel_rfl) (by kernel_rfl) (fun _ _ _ h => h) (by rfl) (by assumption) ?hy25 ?rest25
              case hy25 => intro w' hSw; (try dsimp only at hSw); go_simp; try with_reducible rfl
              try simp only [Act.put, List.setIfInBounds_toArray, List.set_cons_zero, List.set_cons_succ]
              refine takeW 6 (v := ?v26) rfl (by kernel_rfl) (by kernel_rfl) (by kernel_rfl) (fun _ _ _ h => h) (by rfl) (by assumption) ?hy26 ?rest26
              case hy26 => intro w' hSw; (try dsimp only at hSw); go_simp; try with_reducible rfl
              try simp only [Act.put, List.setIfInBounds_toArray, List.set_cons_zero, List.set_cons_succ]
              refine takeW 7 (v := ?v27) rfl (by kernel_rfl) (by kernel_rfl) (by kernel_rfl) (fun _ _ _ h => h) (by rfl) (by assumption) ?hy27 ?rest27
              case hy27 => intro w' hSw; (try dsimp only at hSw); go_simp; try with_reducible rfl
              try simp only [Act.put, List.setIfInBounds_toArray, List.set_cons_zero, List.set_cons_succ]
              refine takeW 8 (v := ?v28) rfl (by kernel_rfl) (by kernel_rfl) (by kernel_rfl) (fun _ _ _ h => h) (by rfl) (by assumption) ?hy28 ?rest28
              case hy28 => intro w' hSw; (try dsimp only at hSw); go_simp; try with_reducible rfl
              try simp only [Act.put, List.setIfInBounds_toArray, List.set_cons_zero, List.set_cons_succ]
              refine takeW 9 (v := ?v29) rfl (by kernel_rfl) (by kernel_rfl) (by kernel_rfl) (fun _ _ _ h => h) (by rfl) (by assumption) ?hy29 ?rest29
              case hy29 => intro w' hSw; (try dsimp only at hSw); go_simp; try with_reducible rfl
              try simp only [Act.put, List.setIfInBounds_toArray, List.set_cons_zero, List.set_cons_succ]
              refine takeC 10 (by kernel_rfl) rfl (fun K hK => ?_)
              go_simp
              refine (l1In_any k.se 0 (s.nx - 1) _).mono ?_; rintro e w4 ⟨he2, rfl⟩; rw [hin] at he2; subst he2
              refine hK.out _ _ ?_ (fun hHeld => ?_)
              · go_keep
              clear hK K
              try simp only [Act.put, List.setIfInBounds_toArray, List.set_cons_zero, List.set_cons_succ]
              refine takeW 11 (v := ?v30) rfl (by kernel_rfl) (by kernel_rfl) (by kernel_rfl) (fun _ _ _ h => h) (by rfl) (by assumption) ?hy30 ?rest30
              case hy30 => intro w' hSw; (try dsimp only at hSw); go_simp; try with_reducible rfl
              try simp only [Act.put, List.setIfInBounds_toArray, List.set_cons_zero, List.set_cons_succ]
              refine takeW 12 (v := ?v31) rfl (by kernel_rfl) (by kernel_rfl) (by kernel_rfl) (fun _ _ _ h => h) (by rfl) (by assumption) ?hy31 ?rest31
              case hy31 => intro w' hSw; (try dsimp only at hSw); go_simp; try with_reducible rfl
              try simp only [Act.put, List.setIfInBounds_toArray, List.set_cons_zero, List.set_cons_succ]
              refine takeW 13 (v := ?v32) rfl (by kernel_rfl) (by kernel_rfl) (by kernel_rfl) (fun _ _ _ h => h) (by rfl) (by assumption) ?hy32 ?rest32
              case hy32 => intro w' hSw; (try dsimp only at hSw); go_simp; try with_reducible rfl
              try simp only [Act.put, List.setIfInBounds_toArray, List.set_cons_zero, List.set_cons_succ]
              refine takeW 14 (v := ?v33) rfl (by kernel_rfl) (by kernel_rfl) (by kernel_rfl) (fun _ _ _ h => h) (by rfl) (by assumption) ?hy33 ?rest33
              case hy33 => intro w' hSw; (try dsimp only at hSw); go_simp; try with_reducible rfl
              try simp only [Act.put, List.setIfInBounds_toArray, List.set_cons_zero, List.set_cons_succ]
              refine takeW 15 (v := ?v34) rfl (by kernel_rfl) (by kernel_rfl) (by kernel_rfl) (fun _ _ _ h => h) (by rfl) (by assumption) ?hy34 ?rest34
              case hy34 => intro w' hSw; (try dsimp only at hSw); go_simp; try with_reducible rfl
              try simp only [Act.put, List.setIfInBounds_toArray, List.set_cons_zero, List.set_cons_succ]
              refine takeW 16 (v := ?v35) rfl (by kernel_rfl) (by kernel_rfl) (by kernel_rfl) (fun _ _ _ h => h) (by rfl) (by assumption) ?hy35 ?rest35
              case hy35 => intro w' hSw; (try dsimp only at hSw); go_simp; try with_reducible rfl
              try simp only [Act.put, List.setIfInBounds_toArray, List.set_cons_zero, List.set_cons_succ]
              refine takeX 17 rfl (by kernel_rfl) (by kernel_rfl) (by kernel_rfl) (fun _ _ _ h => h) (by rfl) (by assumption) ?_
              try simp only [Act.put, List.setIfInBounds_toArray, List.set_cons_zero, List.set_cons_succ]
              refine takeX 18 rfl (by kernel_rfl) (by kernel_rfl) (by kernel_rfl) (fun _ _ _ h => h) (by rfl) (by assumption) ?_
              try simp only [Act.put, List.setIfInBounds_toArray, List.set_cons_zero, List.set_cons_succ]
              refine takeX 19 rfl (by kernel_rfl) (by kernel_rfl) (by kernel_rfl) (fun _ _ _ h => h) (by rfl) (by assumption) ?_
              try simp only [Act.put, List.setIfInBounds_toArray, List.set_cons_zero, List.set_cons_succ]
              refine takeX 20 rfl (by kernel_rfl) (by kernel_rfl) (by kernel_rfl) (fun _ _ _ h => h) (by rfl) (by assumption) ?_
              try simp only [Act.put, List.setIfInBounds_toArray, List.set_cons_zero, List.set_cons_succ]
              refine takeX 21 rfl (by kernel_rfl) (by kernel_rfl) (by kernel_rfl) (fun _ _ _ h => h) (by rfl) (by assumption) ?_
              try simp only [Act.put, List.setIfInBounds_toArray, List.set_cons_zero, List.set_cons_succ]
              refine takeX 22 rfl (by kernel_rfl) (by kernel_rfl) (by kernel_rfl) (fun _ _ _ h => h) (by rfl) (by assumption) ?_
              try simp only [Act.put, List.setIfInBounds_toArray, List.set_cons_zero, List.set_cons_succ]
              refine takeX 23 rfl (by kernel_rfl) (by kernel_rfl) (by kernel_rfl) (fun _ _ _ h => h) (by rfl) (by assumption) ?_
              try simp only [Act.put, List.setIfInBounds_toArray, List.set_cons_zero, List.set_cons_succ]
              refine takeX 24 rfl (by kernel_rfl) (by kernel_rfl) (by kernel_rfl) (fun _ _ _ h => h) (by rfl) (by assumption) ?_
              try simp only [Act.put, List.setIfInBounds_toArray, List.set_cons_zero, List.set_cons_succ]
              refine takeX 25 rfl (by kernel_rfl) (by kernel_rfl) (by kernel_rfl) (fun _ _ _ h => h) (by rfl) (by assumption) ?_
              try simp only [Act.put, List.setIfInBounds_toArray, List.set_cons_zero, List.set_cons_succ]
              refine takeX 26 rfl (by kernel_rfl) (by kernel_rfl) (by kernel_rfl) (fun _ _ _ h => h) (by rfl) (by assumption) ?_
              try simp only [Act.put, List.setIfInBounds_toArray, List.set_cons_zero, List.set_cons_succ]
              refine takeW 27 (v := ?v36) rfl (by kernel_rfl) (by kernel_rfl) (by kernel_rfl) (fun _ _ _ h => h) (by rfl) (by assumption) ?hy36 ?rest36
              case hy36 => intro w' hSw; (try dsimp only at hSw); go_simp; try with_reducible rfl
              try simp only [Act.put, List.setIfInBounds_toArray, List.set_cons_zero, List.set_cons_succ]
              refine takeW 28 (v := ?v37) rfl (by kernel_rfl) (by kernel_rfl) (by kernel_rfl) (fun _ _ _ h => h) (by rfl) (by assumption) ?hy37 ?rest37
              case hy37 => intro w' hSw; (try dsimp only at hSw); go_simp; try with_reducible rfl
              try simp only [Act.put, List.setIfInBounds_toArray, List.set_cons_zero, List.set_cons_succ]
              refine wpAnyH_done (by kernel_rfl) ?_ _
              have hBB3 := below_one hBA (below_drew1 hB3)
              clear hcn hcs hcb hB3 hHeld x0 x1 x2 q0 q1 q2 a0 a1 a2 a3
              go_wp2_with fail
              go_roundw
              case rel => first | exact ⟨n + 1, by omega, by go_num, HR.out, hBB3⟩ | ((repeat apply Exists.intro); exact ⟨⟨n + 1, by omega, by go_num, HR.out, hBB3⟩, rfl⟩)
              case measure => simp [intOf]; omega
            · obtain ⟨m, hm⟩ : ∃ m, n = m + 1 := ⟨n - 1, by omega⟩
              obtain ⟨b', off', hbo, _, _, p0, p1, p2⟩ := ((h1.below hBr).below hBa).at (i := m) (by omega)
              cases hbo
              have HS := hid (show upB s.ws n = blt (s.ws[m]'(by omega)).name s.ws[n].name by subst hm; exact upB_succ hlt)
              have dn : decide (0 < (n : Int)) = true := by simp; omega
              have dn2 : decide (0 < n) = true := by simp; omega
              have hw1 : IntKind.i64.wrap ((n : Int) - 1) = (m : Int) := by rw [IntKind.wrap_i64]; omega
              have hl2 : (m : Int) < (s.ws.length : Int) := by omega
              cases hc : blt (s.ws[m]'(by omega)).name s.ws[n].name
              · have HR := hid (isB_no2 (HNU.out (by rw [HS.out, hc])))
                have hc2 : Op.bytesLess (s.ws[m]'(by omega)).name.toList s.ws[n].name.toList = false := hc
                generalize s.ws[n] = k at *
                generalize s.ws[m] = p at *
                clear HN HNU HY HO Fa hBa hn0 hc HS p1 p2 hm
                go_wp2_with fail
                generalize wr.alloc (.cells #[.string k.name, .bool k.live, .int .i64 k.se] 64) = Wa at *
                refine wp_region_held_drew (S := fun w' => w'.cell? ⟨wr.heap.size, 0, none⟩ = some (.string k.name) ∧ w'.cell? ⟨wr.heap.size, 1, none⟩ = some (.bool k.live) ∧ w'.cell? ⟨wr.heap.size, 2, none⟩ = some (.int .i64 k.se) ∧ w'.cell? ⟨w.heap.size, 0, none⟩ = some (.slice (some ⟨b, off, none⟩) s.ws.length cw) ∧ w'.cell? ⟨w.heap.size, 1, none⟩ = some (.int .i64 s.nx) ∧ w'.cell? ⟨b, off + m * 3, none⟩ = some (.string p.name)) (by kernel_rfl) ?_ (fun hHeld => ?_)
                · go_keep
                refine takeW 0 (v := ?v38) rfl (by kernel_rfl) (by kernel_rfl) (by kernel_rfl) (fun _ _ _ h => h) (by rfl) (by assumption) ?hy38 ?rest38
                case hy38 => intro w' hSw; (try dsimp only at hSw); go_simp; try with_reducible rfl
                try simp only [Act.put, List.setIfInBounds_toArray, List.set_cons_zero, List.set_cons_succ]
                refine takeW 1 (v := ?v39) rfl (by kernel_rfl) (by kernel_rfl) (by kernel_rfl) (fun _ _ _ h => h) (by rfl) (by assumption) ?hy39 ?rest39
                case hy39 => intro w' hSw; (try dsimp only at hSw); go_simp; try with_reducible rfl
                try simp only [Act.put, List.setIfInBounds_toArray, List.set_cons_zero, List.set_cons_succ]
                refine takeC 2 (by kernel_rfl) rfl (fun K hK => ?_)
                go_simp
                refine (specGoodName_any k.name _ hz).mono ?_; rintro e w3 ⟨he1, hB3⟩; rw [hg] at he1; subst he1; have hcn := fun o => hB3.cell (p := ⟨wr.heap.size, o, none⟩) (by exact hzw); have hcs := fun o => hB3.cell (p := ⟨w.heap.size, o, none⟩) (by exact hzs); have hcb := fun o => hB3.cell (p := ⟨b, o, none⟩) (by exact hba)
                refine hK.out _ _ ?_ (fun hHeld => ?_)
                · go_keep
                clear hK K
                try simp only [Act.put, List.setIfInBounds_toArray, List.set_cons_zero, List.set_cons_succ]
                refine takeW 3 (v := ?v40) rfl (by kernel_rfl) (by kernel_rfl) (by kernel_rfl) (fun _ _ _ h => h) (by rfl) (by assumption) ?hy40 ?rest40
                case hy40 => intro w' hSw; (try dsimp only at hSw); go_simp; try with_reducible rfl
                try simp only [Act.put, List.setIfInBounds_toArray, List.set_cons_zero, List.set_cons_succ]
                refine takeW 4 (v := ?v41) rfl (by kernel_rfl) (by kernel_rfl) (by kernel_rfl) (fun _ _ _ h => h) (by rfl) (by assumption) ?hy41 ?rest41
                case hy41 => intro w' hSw; (try dsimp only at hSw); go_simp; try with_reducible rfl
                try simp only [Act.put, List.setIfInBounds_toArray, List.set_cons_zero, List.set_cons_succ]
                refine takeW 5 (v := ?v42) rfl (by kernel_rfl) (by kernel_rfl) (by kernel_rfl) (fun _ _ _ h => h) (by rfl) (by assumption) ?hy42 ?rest42
                case hy42 => intro w' hSw; (try dsimp only at hSw); go_simp; try with_reducible rfl
                try simp only [Act.put, List.setIfInBounds_toArray, List.set_cons_zero, List.set_cons_succ]
                refine takeW 6 (v := ?v43) rfl (by kernel_rfl) (by kernel_rfl) (by kernel_rfl) (fun _ _ _ h => h) (by rfl) (by assumption) ?hy43 ?rest43
                case hy43 => intro w' hSw; (try dsimp only at hSw); go_simp; try with_reducible rfl
                try simp only [Act.put, List.setIfInBounds_toArray, List.set_cons_zero, List.set_cons_succ]
                refine takeW 7 (v := ?v44) rfl (by kernel_rfl) (by kernel_rfl) (by kernel_rfl) (fun _ _ _ h => h) (by rfl) (by assumption) ?hy44 ?rest44
                case hy44 => intro w' hSw; (try dsimp only at hSw); go_simp; try with_reducible rfl
                try simp only [Act.put, List.setIfInBounds_toArray, List.set_cons_zero, List.set_cons_succ]
                refine takeW 8 (v := ?v45) rfl (by kernel_rfl) (by kernel_rfl) (by kernel_rfl) (fun _ _ _ h => h) (by rfl) (by assumption) ?hy45 ?rest45
                case hy45 => intro w' hSw; (try dsimp only at hSw); go_simp; try with_reducible rfl
                try simp only [Act.put, List.setIfInBounds_toArray, List.set_cons_zero, List.set_cons_succ]
                refine takeW 9 (v := ?v46) rfl (by kernel_rfl) (by kernel_rfl) (by kernel_rfl) (fun _ _ _ h => h) (by rfl) (by assumption) ?hy46 ?rest46
                case hy46 => intro w' hSw; (try dsimp only at hSw); go_simp; try with_reducible rfl
                try simp only [Act.put, List.setIfInBounds_toArray, List.set_cons_zero, List.set_cons_succ]
                refine takeC 10 (by kernel_rfl) rfl (fun K hK => ?_)
                go_simp
                refine (l1In_any k.se 0 (s.nx - 1) _).mono ?_; rintro e w4 ⟨he2, rfl⟩; rw [hin] at he2; subst he2
                refine hK.out _ _ ?_ (fun hHeld => ?_)
                · go_keep
                clear hK K
                try simp only [Act.put, List.setIfInBounds_toArray, List.set_cons_zero, List.set_cons_succ]
                refine takeW 11 (v := ?v47) rfl (by kernel_rfl) (by kernel_rfl) (by kernel_rfl) (fun _ _ _ h => h) (by rfl) (by assumption) ?hy47 ?rest47
                case hy47 => intro w' hSw; (try dsimp only at hSw); go_simp; try with_reducible rfl
                try simp only [Act.put, List.setIfInBounds_toArray, List.set_cons_zero, List.set_cons_succ]
                refine takeW 12 (v := ?v48) rfl (by kernel_rfl) (by kernel_rfl) (by kernel_rfl) (fun _ _ _ h => h) (by rfl) (by assumption) ?hy48 ?rest48
                case hy48 => intro w' hSw; (try dsimp only at hSw); go_simp; try with_reducible rfl
                try simp only [Act.put, List.setIfInBounds_toArray, List.set_cons_zero, List.set_cons_succ]
                refine takeW 13 (v := ?v49) rfl (by kernel_rfl) (by kernel_rfl) (by kernel_rfl) (fun _ _ _ h => h) (by rfl) (by assumption) ?hy49 ?rest49
                case hy49 => intro w' hSw; (try dsimp only at hSw); go_simp; try with_reducible rfl
                try simp only [Act.put, List.setIfInBounds_toArray, List.set_cons_zero, List.set_cons_succ]
                refine takeW 14 (v := ?v50) rfl (by kernel_rfl) (by kernel_rfl) (by kernel_rfl) (fun _ _ _ h => h) (by rfl) (by assumption) ?hy50 ?rest50
                case hy50 => intro w' hSw; (try dsimp only at hSw); go_simp; try with_reducible rfl
                try simp only [Act.put, List.setIfInBounds_toArray, List.set_cons_zero, List.set_cons_succ]
                refine takeW 15 (v := ?v51) rfl (by kernel_rfl) (by kernel_rfl) (by kernel_rfl) (fun _ _ _ h => h) (by rfl) (by assumption) ?hy51 ?rest51
                case hy51 => intro w' hSw; (try dsimp only at hSw); go_simp; try with_reducible rfl
                try simp only [Act.put, List.setIfInBounds_toArray, List.set_cons_zero, List.set_cons_succ]
                refine takeW 16 (v := ?v52) rfl (by kernel_rfl) (by kernel_rfl) (by kernel_rfl) (fun _ _ _ h => h) (by rfl) (by assumption) ?hy52 ?rest52
                case hy52 => intro w' hSw; (try dsimp only at hSw); go_simp; try with_reducible rfl
                try simp only [Act.put, List.setIfInBounds_toArray, List.set_cons_zero, List.set_cons_succ]
                refine takeW 17 (v := ?v53) rfl (by kernel_rfl) (by kernel_rfl) (by kernel_rfl) (fun _ _ _ h => h) (by rfl) (by assumption) ?hy53 ?rest53
                case hy53 => intro w' hSw; (try dsimp only at hSw); go_simp; try with_reducible rfl
                try simp only [Act.put, List.setIfInBounds_toArray, List.set_cons_zero, List.set_cons_succ]
                refine takeW 18 (v := ?v54) rfl (by kernel_rfl) (by kernel_rfl) (by kernel_rfl) (fun _ _ _ h => h) (by rfl) (by assumption) ?hy54 ?rest54
                case hy54 => intro w' hSw; (try dsimp only at hSw); go_simp; try with_reducible rfl
                try simp only [Act.put, List.setIfInBounds_toArray, List.set_cons_zero, List.set_cons_succ]
                refine takeW 19 (v := ?v55) rfl (by kernel_rfl) (by kernel_rfl) (by kernel_rfl) (fun _ _ _ h => h) (by rfl) (by assumption) ?hy55 ?rest55
                case hy55 => intro w' hSw; (try dsimp only at hSw); go_simp; try with_reducible rfl
                try simp only [Act.put, List.setIfInBounds_toArray, List.set_cons_zero, List.set_cons_succ]
                refine takeW 20 (v := ?v56) rfl (by kernel_rfl) (by kernel_rfl) (by kernel_rfl) (fun _ _ _ h => h) (by rfl) (by assumption) ?hy56 ?rest56
                case hy56 => intro w' hSw; (try dsimp only at hSw); go_simp; try with_reducible rfl
                try simp only [Act.put, List.setIfInBounds_toArray, List.set_cons_zero, List.set_cons_succ]
                refine takeW 21 (v := ?v57) rfl (by kernel_rfl) (by kernel_rfl) (by kernel_rfl) (fun _ _ _ h => h) (by rfl) (by assumption) ?hy57 ?rest57
                case hy57 => intro w' hSw; (try dsimp only at hSw); go_simp; try with_reducible rfl
                try simp only [Act.put, List.setIfInBounds_toArray, List.set_cons_zero, List.set_cons_succ]
                refine takeW 22 (v := ?v58) rfl (by kernel_rfl) (by kernel_rfl) (by kernel_rfl) (fun _ _ _ h => h) (by rfl) (by assumption) ?hy58 ?rest58
                case hy58 => intro w' hSw; (try dsimp only at hSw); go_simp; try with_reducible rfl
                try simp only [Act.put, List.setIfInBounds_toArray, List.set_cons_zero, List.set_cons_succ]
                refine takeW 23 (v := ?v59) rfl (by kernel_rfl) (by kernel_rfl) (by kernel_rfl) (fun _ _ _ h => h) (by rfl) (by assumption) ?hy59 ?rest59
                case hy59 => intro w' hSw; (try dsimp only at hSw); go_simp; try with_reducible rfl
                try simp only [Act.put, List.setIfInBounds_toArray, List.set_cons_zero, List.set_cons_succ]
                refine takeW 24 (v := ?v60) rfl (by kernel_rfl) (by kernel_rfl) (by kernel_rfl) (fun _ _ _ h => h) (by rfl) (by assumption) ?hy60 ?rest60
                case hy60 => intro w' hSw; (try dsimp only at hSw); go_simp; try with_reducible rfl
                try simp only [Act.put, List.setIfInBounds_toArray, List.set_cons_zero, List.set_cons_succ]
                refine takeW 25 (v := ?v61) rfl (by kernel_rfl) (by kernel_rfl) (by kernel_rfl) (fun _ _ _ h => h) (by rfl) (by assumption) ?hy61 ?rest61
                case hy61 => intro w' hSw; (try dsimp only at hSw); go_simp; try with_reducible rfl
                try simp only [Act.put, List.setIfInBounds_toArray, List.set_cons_zero, List.set_cons_succ]
                refine takeW 26 (v := ?v62) rfl (by kernel_rfl) (by kernel_rfl) (by kernel_rfl) (fun _ _ _ h => h) (by rfl) (by assumption) ?hy62 ?rest62
                case hy62 => intro w' hSw; (try dsimp only at hSw); go_simp; try with_reducible rfl
                try simp only [Act.put, List.setIfInBounds_toArray, List.set_cons_zero, List.set_cons_succ]
                refine takeW 27 (v := ?v63) rfl (by kernel_rfl) (by kernel_rfl) (by kernel_rfl) (fun _ _ _ h => h) (by rfl) (by assumption) ?hy63 ?rest63
                case hy63 => intro w' hSw; (try dsimp only at hSw); go_simp; try with_reducible rfl
                try simp only [Act.put, List.setIfInBounds_toArray, List.set_cons_zero, List.set_cons_succ]
                refine takeW 28 (v := ?v64) rfl (by kernel_rfl) (by kernel_rfl) (by kernel_rfl) (fun _ _ _ h => h) (by rfl) (by assumption) ?hy64 ?rest64
                case hy64 => intro w' hSw; (try dsimp only at hSw); go_simp; try with_reducible rfl
                try simp only [Act.put, List.setIfInBounds_toArray, List.set_cons_zero, List.set_cons_succ]
                refine wpAnyH_done (by kernel_rfl) ?_ _
                have hBB3 := below_one hBA (below_drew1 hB3)
                clear hcn hcs hcb hB3 hHeld x0 x1 x2 q0 q1 q2 a0 a1 a2 a3
                go_wp2_with fail
                go_ret
                exact ⟨ret_bool HR.out.symm, below_one hB0 hBB3⟩
              · have HR := hid (HY.out HO.out (by rw [HS.out, hc]))
                have hc2 : Op.bytesLess (s.ws[m]'(by omega)).name.toList s.ws[n].name.toList = true := hc
                generalize s.ws[n] = k at *
                generalize s.ws[m] = p at *
                clear HN HNU HY HO Fa hBa hn0 hc HS p1 p2 hm
                go_wp2_with fail
                generalize wr.alloc (.cells #[.string k.name, .bool k.live, .int .i64 k.se] 64) = Wa at *
                refine wp_region_held_drew (S := fun w' => w'.cell? ⟨wr.heap.size, 0, none⟩ = some (.string k.name) ∧ w'.cell? ⟨wr.heap.size, 1, none⟩ = some (.bool k.live) ∧ w'.cell? ⟨wr.heap.size, 2, none⟩ = some (.int .i64 k.se) ∧ w'.cell? ⟨w.heap.size, 0, none⟩ = some (.slice (some ⟨b, off, none⟩) s.ws.length cw) ∧ w'.cell? ⟨w.heap.size, 1, none⟩ = some (.int .i64 s.nx) ∧ w'.cell? ⟨b, off + m * 3, none⟩ = some (.string p.name)) (by kernel_rfl) ?_ (fun hHeld => ?_)
                · go_keep
                refine takeW 0 (v := ?v65) rfl (by kernel_rfl) (by kernel_rfl) (by kernel_rfl) (fun _ _ _ h => h) (by rfl) (by assumption) ?hy65 ?rest65
                case hy65 => intro w' hSw; (try dsimp only at hSw); go_simp; try with_reducible rfl
                try simp only [Act.put, List.setIfInBounds_toArray, List.set_cons_zero, List.set_cons_succ]
                refine takeW 1 (v := ?v66) rfl (by kernel_rfl) (by kernel_rfl) (by kernel_rfl) (fun _ _ _ h => h) (by rfl) (by assumption) ?hy66 ?rest66
                case hy66 => intro w' hSw; (try dsimp only at hSw); go_simp; try with_reducible rfl
                try simp only [Act.put, List.setIfInBounds_toArray, List.set_cons_zero, List.set_cons_succ]
                refine takeC 2 (by kernel_rfl) rfl (fun K hK => ?_)
                go_simp
                refine (specGoodName_any k.name _ hz).mono ?_; rintro e w3 ⟨he1, hB3⟩; rw [hg] at he1; subst he1; have hcn := fun o => hB3.cell (p := ⟨wr.heap.size, o, none⟩) (by exact hzw); have hcs := fun o => hB3.cell (p := ⟨w.heap.size, o, none⟩) (by exact hzs); have hcb := fun o => hB3.cell (p := ⟨b, o, none⟩) (by exact hba)
                refine hK.out _ _ ?_ (fun hHeld => ?_)
                · go_keep
                clear hK K
                try simp only [Act.put, List.setIfInBounds_toArray, List.set_cons_zero, List.set_cons_succ]
                refine takeW 3 (v := ?v67) rfl (by kernel_rfl) (by kernel_rfl) (by kernel_rfl) (fun _ _ _ h => h) (by rfl) (by assumption) ?hy67 ?rest67
                case hy67 => intro w' hSw; (try dsimp only at hSw); go_simp; try with_reducible rfl
                try simp only [Act.put, List.setIfInBounds_toArray, List.set_cons_zero, List.set_cons_succ]
                refine takeW 4 (v := ?v68) rfl (by kernel_rfl) (by kernel_rfl) (by kernel_rfl) (fun _ _ _ h => h) (by rfl) (by assumption) ?hy68 ?rest68
                case hy68 => intro w' hSw; (try dsimp only at hSw); go_simp; try with_reducible rfl
                try simp only [Act.put, List.setIfInBounds_toArray, List.set_cons_zero, List.set_cons_succ]
                refine takeW 5 (v := ?v69) rfl (by kernel_rfl) (by kernel_rfl) (by kernel_rfl) (fun _ _ _ h => h) (by rfl) (by assumption) ?hy69 ?rest69
                case hy69 => intro w' hSw; (try dsimp only at hSw); go_simp; try with_reducible rfl
                try simp only [Act.put, List.setIfInBounds_toArray, List.set_cons_zero, List.set_cons_succ]
                refine takeW 6 (v := ?v70) rfl (by kernel_rfl) (by kernel_rfl) (by kernel_rfl) (fun _ _ _ h => h) (by rfl) (by assumption) ?hy70 ?rest70
                case hy70 => intro w' hSw; (try dsimp only at hSw); go_simp; try with_reducible rfl
                try simp only [Act.put, List.setIfInBounds_toArray, List.set_cons_zero, List.set_cons_succ]
                refine takeW 7 (v := ?v71) rfl (by kernel_rfl) (by kernel_rfl) (by kernel_rfl) (fun _ _ _ h => h) (by rfl) (by assumption) ?hy71 ?rest71
                case hy71 => intro w' hSw; (try dsimp only at hSw); go_simp; try with_reducible rfl
                try simp only [Act.put, List.setIfInBounds_toArray, List.set_cons_zero, List.set_cons_succ]
                refine takeW 8 (v := ?v72) rfl (by kernel_rfl) (by kernel_rfl) (by kernel_rfl) (fun _ _ _ h => h) (by rfl) (by assumption) ?hy72 ?rest72
                case hy72 => intro w' hSw; (try dsimp only at hSw); go_simp; try with_reducible rfl
                try simp only [Act.put, List.setIfInBounds_toArray, List.set_cons_zero, List.set_cons_succ]
                refine takeW 9 (v := ?v73) rfl (by kernel_rfl) (by kernel_rfl) (by kernel_rfl) (fun _ _ _ h => h) (by rfl) (by assumption) ?hy73 ?rest73
                case hy73 => intro w' hSw; (try dsimp only at hSw); go_simp; try with_reducible rfl
                try simp only [Act.put, List.setIfInBounds_toArray, List.set_cons_zero, List.set_cons_succ]
                refine takeC 10 (by kernel_rfl) rfl (fun K hK => ?_)
                go_simp
                refine (l1In_any k.se 0 (s.nx - 1) _).mono ?_; rintro e w4 ⟨he2, rfl⟩; rw [hin] at he2; subst he2
                refine hK.out _ _ ?_ (fun hHeld => ?_)
                · go_keep
                clear hK K
                try simp only [Act.put, List.setIfInBounds_toArray, List.set_cons_zero, List.set_cons_succ]
                refine takeW 11 (v := ?v74) rfl (by kernel_rfl) (by kernel_rfl) (by kernel_rfl) (fun _ _ _ h => h) (by rfl) (by assumption) ?hy74 ?rest74
                case hy74 => intro w' hSw; (try dsimp only at hSw); go_simp; try with_reducible rfl
                try simp only [Act.put, List.setIfInBounds_toArray, List.set_cons_zero, List.set_cons_succ]
                refine takeW 12 (v := ?v75) rfl (by kernel_rfl) (by kernel_rfl) (by kernel_rfl) (fun _ _ _ h => h) (by rfl) (by assumption) ?hy75 ?rest75
                case hy75 => intro w' hSw; (try dsimp only at hSw); go_simp; try with_reducible rfl
                try simp only [Act.put, List.setIfInBounds_toArray, List.set_cons_zero, List.set_cons_succ]
                refine takeW 13 (v := ?v76) rfl (by kernel_rfl) (by kernel_rfl) (by kernel_rfl) (fun _ _ _ h => h) (by rfl) (by assumption) ?hy76 ?rest76
                case hy76 => intro w' hSw; (try dsimp only at hSw); go_simp; try with_reducible rfl
                try simp only [Act.put, List.setIfInBounds_toArray, List.set_cons_zero, List.set_cons_succ]
                refine takeW 14 (v := ?v77) rfl (by kernel_rfl) (by kernel_rfl) (by kernel_rfl) (fun _ _ _ h => h) (by rfl) (by assumption) ?hy77 ?rest77
                case hy77 => intro w' hSw; (try dsimp only at hSw); go_simp; try with_reducible rfl
                try simp only [Act.put, List.setIfInBounds_toArray, List.set_cons_zero, List.set_cons_succ]
                refine takeW 15 (v := ?v78) rfl (by kernel_rfl) (by kernel_rfl) (by kernel_rfl) (fun _ _ _ h => h) (by rfl) (by assumption) ?hy78 ?rest78
                case hy78 => intro w' hSw; (try dsimp only at hSw); go_simp; try with_reducible rfl
                try simp only [Act.put, List.setIfInBounds_toArray, List.set_cons_zero, List.set_cons_succ]
                refine takeW 16 (v := ?v79) rfl (by kernel_rfl) (by kernel_rfl) (by kernel_rfl) (fun _ _ _ h => h) (by rfl) (by assumption) ?hy79 ?rest79
                case hy79 => intro w' hSw; (try dsimp only at hSw); go_simp; try with_reducible rfl
                try simp only [Act.put, List.setIfInBounds_toArray, List.set_cons_zero, List.set_cons_succ]
                refine takeW 17 (v := ?v80) rfl (by kernel_rfl) (by kernel_rfl) (by kernel_rfl) (fun _ _ _ h => h) (by rfl) (by assumption) ?hy80 ?rest80
                case hy80 => intro w' hSw; (try dsimp only at hSw); go_simp; try with_reducible rfl
                try simp only [Act.put, List.setIfInBounds_toArray, List.set_cons_zero, List.set_cons_succ]
                refine takeW 18 (v := ?v81) rfl (by kernel_rfl) (by kernel_rfl) (by kernel_rfl) (fun _ _ _ h => h) (by rfl) (by assumption) ?hy81 ?rest81
                case hy81 => intro w' hSw; (try dsimp only at hSw); go_simp; try with_reducible rfl
                try simp only [Act.put, List.setIfInBounds_toArray, List.set_cons_zero, List.set_cons_succ]
                refine takeW 19 (v := ?v82) rfl (by kernel_rfl) (by kernel_rfl) (by kernel_rfl) (fun _ _ _ h => h) (by rfl) (by assumption) ?hy82 ?rest82
                case hy82 => intro w' hSw; (try dsimp only at hSw); go_simp; try with_reducible rfl
                try simp only [Act.put, List.setIfInBounds_toArray, List.set_cons_zero, List.set_cons_succ]
                refine takeW 20 (v := ?v83) rfl (by kernel_rfl) (by kernel_rfl) (by kernel_rfl) (fun _ _ _ h => h) (by rfl) (by assumption) ?hy83 ?rest83
                case hy83 => intro w' hSw; (try dsimp only at hSw); go_simp; try with_reducible rfl
                try simp only [Act.put, List.setIfInBounds_toArray, List.set_cons_zero, List.set_cons_succ]
                refine takeW 21 (v := ?v84) rfl (by kernel_rfl) (by kernel_rfl) (by kernel_rfl) (fun _ _ _ h => h) (by rfl) (by assumption) ?hy84 ?rest84
                case hy84 => intro w' hSw; (try dsimp only at hSw); go_simp; try with_reducible rfl
                try simp only [Act.put, List.setIfInBounds_toArray, List.set_cons_zero, List.set_cons_succ]
                refine takeW 22 (v := ?v85) rfl (by kernel_rfl) (by kernel_rfl) (by kernel_rfl) (fun _ _ _ h => h) (by rfl) (by assumption) ?hy85 ?rest85
                case hy85 => intro w' hSw; (try dsimp only at hSw); go_simp; try with_reducible rfl
                try simp only [Act.put, List.setIfInBounds_toArray, List.set_cons_zero, List.set_cons_succ]
                refine takeW 23 (v := ?v86) rfl (by kernel_rfl) (by kernel_rfl) (by kernel_rfl) (fun _ _ _ h => h) (by rfl) (by assumption) ?hy86 ?rest86
                case hy86 => intro w' hSw; (try dsimp only at hSw); go_simp; try with_reducible rfl
                try simp only [Act.put, List.setIfInBounds_toArray, List.set_cons_zero, List.set_cons_succ]
                refine takeW 24 (v := ?v87) rfl (by kernel_rfl) (by kernel_rfl) (by kernel_rfl) (fun _ _ _ h => h) (by rfl) (by assumption) ?hy87 ?rest87
                case hy87 => intro w' hSw; (try dsimp only at hSw); go_simp; try with_reducible rfl
                try simp only [Act.put, List.setIfInBounds_toArray, List.set_cons_zero, List.set_cons_succ]
                refine takeW 25 (v := ?v88) rfl (by kernel_rfl) (by kernel_rfl) (by kernel_rfl) (fun _ _ _ h => h) (by rfl) (by assumption) ?hy88 ?rest88
                case hy88 => intro w' hSw; (try dsimp only at hSw); go_simp; try with_reducible rfl
                try simp only [Act.put, List.setIfInBounds_toArray, List.set_cons_zero, List.set_cons_succ]
                refine takeW 26 (v := ?v89) rfl (by kernel_rfl) (by kernel_rfl) (by kernel_rfl) (fun _ _ _ h => h) (by rfl) (by assumption) ?hy89 ?rest89
                case hy89 => intro w' hSw; (try dsimp only at hSw); go_simp; try with_reducible rfl
                try simp only [Act.put, List.setIfInBounds_toArray, List.set_cons_zero, List.set_cons_succ]
                refine takeW 27 (v := ?v90) rfl (by kernel_rfl) (by kernel_rfl) (by kernel_rfl) (fun _ _ _ h => h) (by rfl) (by assumption) ?hy90 ?rest90
                case hy90 => intro w' hSw; (try dsimp only at hSw); go_simp; try with_reducible rfl
                try simp only [Act.put, List.setIfInBounds_toArray, List.set_cons_zero, List.set_cons_succ]
                refine takeW 28 (v := ?v91) rfl (by kernel_rfl) (by kernel_rfl) (by kernel_rfl) (fun _ _ _ h => h) (by rfl) (by assumption) ?hy91 ?rest91
                case hy91 => intro w' hSw; (try dsimp only at hSw); go_simp; try with_reducible rfl
                try simp only [Act.put, List.setIfInBounds_toArray, List.set_cons_zero, List.set_cons_succ]
                refine wpAnyH_done (by kernel_rfl) ?_ _
                have hBB3 := below_one hBA (below_drew1 hB3)
                clear hcn hcs hcb hB3 hHeld x0 x1 x2 q0 q1 q2 a0 a1 a2 a3
                go_wp2_with fail
                go_roundw
                case rel => first | exact ⟨n + 1, by omega, by go_num, HR.out, hBB3⟩ | ((repeat apply Exists.intro); exact ⟨⟨n + 1, by omega, by go_num, HR.out, hBB3⟩, rfl⟩)
                case measure => simp [intOf]; omega
      · obtain rfl : n = s.ws.length := by omega
        have HW := hid (show okW s.nx s.ws = true from okW_yes fun i hi => (HK.out i hi hi).1)
        have HU := hid (show upW s.ws = true from upW_yes fun i hi => (HK.out i hi hi).2)
        obtain ⟨a0, a1, a2, a3⟩ := Fr.c
        go_wp2_with fail
        go_loopw [64] (fun i wq => ∃ n : Nat, n ≤ s.rv.length ∧ i = .int .i64 n ∧ (∀ j (hj : j < s.rv.length), j < n → (1 ≤ s.rv[j] ∧ s.rv[j] < s.nx) ∧ upI s.rv j = true) ∧ wq = wr) (fun i _ => s.rv.length - (intOf i).toNat)
        case atStart => exact ⟨0, Nat.zero_le _, rfl, fun _ _ h => absurd h (Nat.not_lt_zero _), rfl⟩
        case round =>
          obtain ⟨n, hnl, rfl, hk, rfl⟩ := hrel
          have HQ := hid hk
          clear hk
          by_cases hlt : n < s.rv.length
          · obtain ⟨b, off, rfl, hb, hcap, q0⟩ := (h2.below hBr).num hlt
            have HN := hid (fun h => okN_no (nx := s.nx) (zs := s.rv) hlt h)
            have HNU := hid (fun h => upN_no (zs := s.rv) hlt h)
            have HY := hid (show (1 ≤ s.rv[n] ∧ s.rv[n] < s.nx) → upI s.rv n = true → ∀ j (hj : j < s.rv.length), j < n + 1 → (1 ≤ s.rv[j] ∧ s.rv[j] < s.nx) ∧ upI s.rv j = true from fun hh hu j hj hjn => (by
              by_cases e : j = n
              · subst e
                exact ⟨hh, hu⟩
              · exact HQ.out j hj (by omega)))
            cases hin : inB 1 (s.nx - 1) s.rv[n]
            · have HR := hid (isB_no5 (HN.out (by have := of_decide_eq_false hin; omega)))
              generalize s.rv[n] = z at *
              go_wp2_with (go_at_call 54; refine (l1In_any z 1 (s.nx - 1) _).mono ?_; rintro e w1 ⟨rfl, rfl⟩; rw [hin])
              go_ret
              exact ⟨ret_bool HR.out.symm, hBr⟩
            · have HO := hid (show 1 ≤ s.rv[n] ∧ s.rv[n] < s.nx by have := of_decide_eq_true hin; omega)
              by_cases hn0 : n = 0
              · have HR := hid (HY.out HO.out (by subst hn0; rfl))
                have dn : decide (0 < (n : Int)) = false := by simp; omega
                have dn2 : decide (0 < n) = false := by simp; omega
                clear HY HN HNU HO hn0
                generalize s.rv[n] = z at *
                go_wp2_with (go_at_call 54; refine (l1In_any z 1 (s.nx - 1) _).mono ?_; rintro e w1 ⟨rfl, rfl⟩; rw [hin])
                go_roundw
                case rel => exact ⟨n + 1, by omega, by go_num, HR.out, by trivial⟩
                case measure => simp [intOf]; omega
              · obtain ⟨m, hm⟩ : ∃ m, n = m + 1 := ⟨n - 1, by omega⟩
                obtain ⟨b', off', hbo, _, _, p0⟩ := (h2.below hBr).num (i := m) (by omega)
                cases hbo
                have HS := hid (show upI s.rv n = decide ((s.rv[m]'(by omega)) < s.rv[n]) by subst hm; exact upI_succ hlt)
                have dn : decide (0 < (n : Int)) = true := by simp; omega
                have dn2 : decide (0 < n) = true := by simp; omega
                have hw1 : IntKind.i64.wrap ((n : Int) - 1) = (m : Int) := by rw [IntKind.wrap_i64]; omega
                have hl2 : (m : Int) < (s.rv.length : Int) := by omega
                cases hc : decide ((s.rv[m]'(by omega)) < s.rv[n])
                · have HR := hid (isB_no4 (HNU.out (by rw [HS.out, hc])))
                  have hc1 := of_decide_eq_false hc
                  generalize s.rv[n] = z at *
                  generalize s.rv[m] = y at *
                  have dc : decide (z ≤ y) = true := decide_eq_true (by omega)
                  clear HY HN HNU HO hn0 HS hc hm
                  go_wp2_with (go_at_call 54; refine (l1In_any z 1 (s.nx - 1) _).mono ?_; rintro e w1 ⟨rfl, rfl⟩; rw [hin])
                  go_ret
                  exact ⟨ret_bool HR.out.symm, hBr⟩
                · have HR := hid (HY.out HO.out (by rw [HS.out, hc]))
                  have hc1 := of_decide_eq_true hc
                  generalize s.rv[n] = z at *
                  generalize s.rv[m] = y at *
                  have dc : decide (z ≤ y) = false := decide_eq_false (by omega)
                  clear HY HN HNU HO hn0 HS hc hm
                  go_wp2_with (go_at_call 54; refine (l1In_any z 1 (s.nx - 1) _).mono ?_; rintro e w1 ⟨rfl, rfl⟩; rw [hin])
                  go_roundw
                  case rel => exact ⟨n + 1, by omega, by go_num, HR.out, by trivial⟩
                  case measure => simp [intOf]; omega
          · obtain rfl : n = s.rv.length := by omega
            have HR := hid (isB_yes HD.out HU.out HW.out (upN_yes fun i hi => (HQ.out i hi hi).2) (okN_yes fun i hi => (HQ.out i hi hi).1))
            go_wp2_with fail
            go_ret
            exact ⟨ret_bool HR.out.symm, hBr⟩
  · have HR := hid (hd_no (s := s) (by omega))
    have HB := hid (show inB 1 100000 s.nx = false from decide_eq_false c1)
    go_enter Tryz.func19, Tryz.ntmps19
    go_wp2_with (go_at_call 54; refine (l1In_any s.nx 1 100000 _).mono ?_; rintro e w1 ⟨rfl, rfl⟩; rw [HB.out])
    go_ret
    exact ⟨ret_bool HR.out.symm, hB0⟩

end Go.Proofs.YtallpldgkkpikaaGreatDoor

namespace Go.Proofs.YtallpldgkkpikaaGreatDoor
open Go.RowKit Go.Shelf

theorem wput (ws : List Wk) (n : Nat) (k : Wk) : (ws.flatMap Wk.cells).take (n * 3) ++ k.cells ++ (ws.flatMap Wk.cells).drop (n * 3) = (ws.take n ++ k :: ws.drop n).flatMap Wk.cells := by
  rw [wflat_take, wflat_drop]
  simp

set_option maxHeartbeats 8000000 in
set_option maxRecDepth 100000 in
theorem specEnrol_any (v : Value) (s : Is) (name : ByteArray) (base top : Nat) (w : World) (hs : s.short) (hn : s.named) (hm : name.size ≤ 1048576) (h : IsO w base top v s) :
    Calls Tryz.prog 44 #[v, .string name] w fun e w' => ∃ v', e = .returned (.tuple #[v', .int .i64 (enX s name).2]) ∧ IsO w' w.heap.size w'.heap.size v' (enX s name).1 ∧ Below w.heap.size w w' := by
  obtain ⟨aw, cw, ar, cr, ag, cg, rfl⟩ := is_forms h.a
  have hB0 : Below w.heap.size w ((w.alloc (.cells #[.slice aw s.ws.length cw, .int .i64 s.nx, .slice ar s.rv.length cr, .slice ag s.sg.length cg] 27)).alloc (.cells #[.slice none 0 0, .int .i64 0, .slice none 0 0, .slice none 0 0] 27)) := ((Below.refl _ w).alloc (Nat.le_refl _) _).alloc (by simp) _
  have F1 := (Four.new w (.slice aw s.ws.length cw) (.int .i64 s.nx) (.slice ar s.rv.length cr) (.slice ag s.sg.length cg) 27).below ((Below.refl _ _).alloc (Nat.le_refl _) (.cells #[.slice none 0 0, .int .i64 0, .slice none 0 0, .slice none 0 0] 27))
  have F2 := Four.at (w.alloc (.cells #[.slice aw s.ws.length cw, .int .i64 s.nx, .slice ar s.rv.length cr, .slice ag s.sg.length cg] 27)) (.slice none 0 0) (.int .i64 0) (.slice none 0 0) (.slice none 0 0) 27 (k := w.heap.size + 1) (by simp)
  go_enter Tryz.func44, Tryz.ntmps44
  go_wp2_with fail
  generalize (w.alloc (.cells #[.slice aw s.ws.length cw, .int .i64 s.nx, .slice ar s.rv.length cr, .slice ag s.sg.length cg] 27)).alloc (.cells #[.slice none 0 0, .int .i64 0, .slice none 0 0, .slice none 0 0] 27) = Wz at *
  refine (specGoodIssuer_any _ s _ hs hn (h.a.below hB0)).mono ?_
  rintro e w1 ⟨rfl, hB1⟩
  replace F1 := F1.below hB1
  replace F2 := F2.below hB1
  have hBB := below_one hB0 hB1
  clear hB0 hB1
  obtain ⟨a0, a1, a2, a3⟩ := F1.c
  cases hg : isB s
  · have HR := hid (show enX s name = (Is.none, 1) by unfold enX; rw [hg]; rfl)
    obtain ⟨r0, r1, r2, r3⟩ := F2.c
    have f0 := F2.f 0
    have f1 := F2.f 1
    have f2 := F2.f 2
    have f3 := F2.f 3
    have G := (((F2.s0 (.slice none 0 0)).s1 (.int .i64 0)).s2 (.slice none 0 0)).s3 (.slice none 0 0)
    have pB := below_four hBB (k := w.heap.size + 1) (by omega) (.slice none 0 0) (.int .i64 0) (.slice none 0 0) (.slice none 0 0)
    go_wp2_with fail
    clear r0 r1 r2 r3 f0 f1 f2 f3
    generalize (((w1.setCell ⟨w.heap.size + 1, 0, none⟩ (.slice none 0 0)).setCell ⟨w.heap.size + 1, 1, none⟩ (.int .i64 0)).setCell ⟨w.heap.size + 1, 2, none⟩ (.slice none 0 0)).setCell ⟨w.heap.size + 1, 3, none⟩ (.slice none 0 0) = W5 at *
    obtain ⟨d0, d1, d2, d3⟩ := G.c
    exact bodyPost_ret (v := .tuple #[.agg #[(.slice none 0 0), (.int .i64 0), (.slice none 0 0), (.slice none 0 0)], .int .i64 1]) (by simp [results, Tryz.results44, go_sem, d0, d1, d2, d3]) rfl ⟨_, by rw [HR.out], by rw [HR.out]; exact none_o _ _ _, pB⟩
  go_wp2_with fail
  refine (specGoodName_any name _ hm).mono ?_
  rintro e w2 ⟨rfl, hB2⟩
  replace F1 := F1.below hB2
  replace F2 := F2.below hB2
  replace hBB := below_one hBB hB2
  clear hB2 a0 a1 a2 a3
  obtain ⟨a0, a1, a2, a3⟩ := F1.c
  cases hg2 : gnB (split name 47)
  · have HR := hid (show enX s name = (Is.none, 1) by unfold enX nmOk; rw [hg, hg2]; rfl)
    obtain ⟨r0, r1, r2, r3⟩ := F2.c
    have f0 := F2.f 0
    have f1 := F2.f 1
    have f2 := F2.f 2
    have f3 := F2.f 3
    have G := (((F2.s0 (.slice none 0 0)).s1 (.int .i64 0)).s2 (.slice none 0 0)).s3 (.slice none 0 0)
    have pB := below_four hBB (k := w.heap.size + 1) (by omega) (.slice none 0 0) (.int .i64 0) (.slice none 0 0) (.slice none 0 0)
    go_wp2_with fail
    clear r0 r1 r2 r3 f0 f1 f2 f3
    generalize (((w2.setCell ⟨w.heap.size + 1, 0, none⟩ (.slice none 0 0)).setCell ⟨w.heap.size + 1, 1, none⟩ (.int .i64 0)).setCell ⟨w.heap.size + 1, 2, none⟩ (.slice none 0 0)).setCell ⟨w.heap.size + 1, 3, none⟩ (.slice none 0 0) = W5 at *
    obtain ⟨d0, d1, d2, d3⟩ := G.c
    exact bodyPost_ret (v := .tuple #[.agg #[(.slice none 0 0), (.int .i64 0), (.slice none 0 0), (.slice none 0 0)], .int .i64 1]) (by simp [results, Tryz.results44, go_sem, d0, d1, d2, d3]) rfl ⟨_, by rw [HR.out], by rw [HR.out]; exact none_o _ _ _, pB⟩
  have HX := hid (show enX s name = if livW s.ws name = true then (s, 2) else if hasW s.ws name = true then (⟨s.ws.set (atW s.ws name) ⟨name, true, 0⟩, s.nx, s.rv, s.sg⟩, 0) else if s.ws.length = 20 then (s, 4) else (⟨s.ws.take (atW s.ws name) ++ ⟨name, true, 0⟩ :: s.ws.drop (atW s.ws name), s.nx, s.rv, s.sg⟩, 0) by unfold enX nmOk; rw [hg, hg2]; rfl)
  have hlen := (isB_hd hg).1
  clear hg hg2
  go_wp2_with fail
  refine (l4Own_any _ s base top _ hs (h.below hBB)).mono ?_
  rintro e w3 ⟨v3, rfl, ⟨vw, vr, vs, rfl, o1, o2, o3, _, _, _⟩, hB3, ⟨sa, sm, sc, sb, sd, sf, sg, se, hse⟩⟩
  obtain ⟨x1, y1, z1, rfl⟩ := row_slice o1
  have HSM := hid (show x1 ≠ none from fun e => by injection hse with hse; have := congrArg (fun a => a[0]?) hse; simp at this; rw [e] at this; simp at this)
  clear hse
  obtain ⟨x2, y2, z2, rfl⟩ := row_slice o2
  obtain ⟨x3, y3, z3, rfl⟩ := row_slice o3
  obtain rfl : y1 = s.ws.length := row_len o1
  have hk1 : w.heap.size + 1 < w2.heap.size := F2.lt
  have hk2 : w2.heap.size ≤ w3.heap.size := hB3.size
  replace F1 := F1.below hB3
  replace F2 := F2.below hB3
  replace hBB := below_one hBB hB3
  clear hB3 a0 a1 a2 a3
  obtain ⟨a0, a1, a2, a3⟩ := F1.c
  have f0 := F1.f 0
  have f1 := F1.f 1
  have f2 := F1.f 2
  have f3 := F1.f 3
  have G1 := (((F1.s0 (.slice x1 s.ws.length z1)).s1 (.int .i64 s.nx)).s2 (.slice x2 y2 z2)).s3 (.slice x3 y3 z3)
  have G2 := (((F2.other (k' := w.heap.size) (by omega) 0 (.slice x1 s.ws.length z1)).other (k' := w.heap.size) (by omega) 1 (.int .i64 s.nx)).other (k' := w.heap.size) (by omega) 2 (.slice x2 y2 z2)).other (k' := w.heap.size) (by omega) 3 (.slice x3 y3 z3)
  have q1 := row_four o1 (k := w.heap.size) (by omega) (.slice x1 s.ws.length z1) (.int .i64 s.nx) (.slice x2 y2 z2) (.slice x3 y3 z3)
  have q2 := row_four o2 (k := w.heap.size) (by omega) (.slice x1 s.ws.length z1) (.int .i64 s.nx) (.slice x2 y2 z2) (.slice x3 y3 z3)
  have q3 := row_four o3 (k := w.heap.size) (by omega) (.slice x1 s.ws.length z1) (.int .i64 s.nx) (.slice x2 y2 z2) (.slice x3 y3 z3)
  have hB4 := below_four hBB (k := w.heap.size) (Nat.le_refl _) (.slice x1 s.ws.length z1) (.int .i64 s.nx) (.slice x2 y2 z2) (.slice x3 y3 z3)
  have hk5 : w2.heap.size ≤ ((((w3.setCell ⟨w.heap.size, 0, none⟩ (.slice x1 s.ws.length z1)).setCell ⟨w.heap.size, 1, none⟩ (.int .i64 s.nx)).setCell ⟨w.heap.size, 2, none⟩ (.slice x2 y2 z2)).setCell ⟨w.heap.size, 3, none⟩ (.slice x3 y3 z3)).heap.size := by simp; exact hk2
  clear F1 F2 o1 o2 o3 hBB
  obtain ⟨n0, n1, n2, n3⟩ := G1.c
  go_wp2_with fail
  clear a0 a1 a2 a3 f0 f1 f2 f3 n0 n1 n2 n3
  generalize (((w3.setCell ⟨w.heap.size, 0, none⟩ (.slice x1 s.ws.length z1)).setCell ⟨w.heap.size, 1, none⟩ (.int .i64 s.nx)).setCell ⟨w.heap.size, 2, none⟩ (.slice x2 y2 z2)).setCell ⟨w.heap.size, 3, none⟩ (.slice x3 y3 z3) = W3 at *
  refine (l4At_any _ s name _ hs.1 (IsO.of q1 q2 q3).a).mono ?_
  rintro e w4 ⟨rfl, hB5⟩
  have F1 := G1.below hB5
  have F2 := G2.below hB5
  have o1 := ownsRow_below q1 hB5
  have o2 := ownsRow_below q2 hB5
  have o3 := ownsRow_below q3 hB5
  have hBB := below_one hB4 hB5
  have hB5s := hB5.size
  clear G1 G2 q1 q2 q3 hB4 hB5
  have hle := atW_le s.ws name
  have hk4 : w2.heap.size ≤ w4.heap.size := Nat.le_trans hk5 hB5s
  have hBk : Below w4.heap.size w4 (w4.alloc (.cells #[.string name, .bool true, .int .i64 0] 64)) := (Below.refl _ w4).alloc (Nat.le_refl _) _
  obtain ⟨m0, m1, m2⟩ := cells3 w4 (.string name) (.bool true) (.int .i64 0) 64
  have hkw : w4.heap.size < (w4.alloc (.cells #[.string name, .bool true, .int .i64 0] 64)).heap.size := by simp
  have hko : ∀ k, (Value.slice x1 s.ws.length z1).ownBlock = some k → k < w4.heap.size := fun k e => (o1.lt k e).2
  replace F1 := F1.below hBk
  replace F2 := F2.below hBk
  replace o1 := ownsRow_below o1 hBk
  replace o2 := ownsRow_below o2 hBk
  replace o3 := ownsRow_below o3 hBk
  replace hBB := below_one hBB hBk
  clear hBk
  cases hh : hasW s.ws name
  · have hli := livW_no hh
    by_cases c20 : s.ws.length = 20
    · have HR := hid (show enX s name = (s, 4) by rw [HX.out, hli, hh, if_neg (by decide), if_neg (by decide), if_pos c20])
      have d20 : ((s.ws.length : Int) == 20) = true := by simp; omega
      clear c20
      generalize atW s.ws name = n at *
      clear HX
      obtain ⟨a0, a1, a2, a3⟩ := F1.c
      obtain ⟨b0, b1, b2, b3⟩ := F1.c
      obtain ⟨r0, r1, r2, r3⟩ := F2.c
      have f0 := F2.f 0
      have f1 := F2.f 1
      have f2 := F2.f 2
      have f3 := F2.f 3
      have G := (((F2.s0 (.slice x1 s.ws.length z1)).s1 (.int .i64 s.nx)).s2 (.slice x2 y2 z2)).s3 (.slice x3 y3 z3)
      have pB := below_four hBB (k := w.heap.size + 1) (by omega) (.slice x1 s.ws.length z1) (.int .i64 s.nx) (.slice x2 y2 z2) (.slice x3 y3 z3)
      have q1 := row_four o1 (k := w.heap.size + 1) (by omega) (.slice x1 s.ws.length z1) (.int .i64 s.nx) (.slice x2 y2 z2) (.slice x3 y3 z3)
      have q2 := row_four o2 (k := w.heap.size + 1) (by omega) (.slice x1 s.ws.length z1) (.int .i64 s.nx) (.slice x2 y2 z2) (.slice x3 y3 z3)
      have q3 := row_four o3 (k := w.heap.size + 1) (by omega) (.slice x1 s.ws.length z1) (.int .i64 s.nx) (.slice x2 y2 z2) (.slice x3 y3 z3)
      go_wp2_with fail
      clear r0 r1 r2 r3 f0 f1 f2 f3 b0 b1 b2 b3
      generalize ((((w4.alloc (.cells #[.string name, .bool true, .int .i64 0] 64)).setCell ⟨w.heap.size + 1, 0, none⟩ (.slice x1 s.ws.length z1)).setCell ⟨w.heap.size + 1, 1, none⟩ (.int .i64 s.nx)).setCell ⟨w.heap.size + 1, 2, none⟩ (.slice x2 y2 z2)).setCell ⟨w.heap.size + 1, 3, none⟩ (.slice x3 y3 z3) = W5 at *
      obtain ⟨d0, d1, d2, d3⟩ := G.c
      exact bodyPost_ret (v := .tuple #[.agg #[(.slice x1 s.ws.length z1), (.int .i64 s.nx), (.slice x2 y2 z2), (.slice x3 y3 z3)], .int .i64 4]) (by simp [results, Tryz.results44, go_sem, d0, d1, d2, d3]) rfl ⟨_, by rw [HR.out], by rw [HR.out]; exact IsO.of (s := s) (Go.Joins.ownsRow_le q1 (by omega)) (Go.Joins.ownsRow_le q2 (by omega)) (Go.Joins.ownsRow_le q3 (by omega)), pB⟩
    · have HR := hid (show enX s name = (⟨s.ws.take (atW s.ws name) ++ ⟨name, true, 0⟩ :: s.ws.drop (atW s.ws name), s.nx, s.rv, s.sg⟩, 0) by rw [HX.out, hli, hh, if_neg (by decide), if_neg (by decide), if_neg c20])
      have d20 : ((s.ws.length : Int) == 20) = false := by simp; omega
      generalize atW s.ws name = n at *
      clear HX c20
      obtain ⟨iw, hiw, hw0, hw1, hw2⟩ := info_parts infoWork
      have hl5 := o1.1
      obtain ⟨a0, a1, a2, a3⟩ := F1.c
      have HW := hid (wput s.ws n ⟨name, true, 0⟩)
      have HL := hid (show n + 1 + (s.ws.length - n) = (s.ws.take n ++ (⟨name, true, 0⟩ : Wk) :: s.ws.drop n).length by simp; omega)
      have hone : ∀ u ∈ Wk.cells ⟨name, true, 0⟩, u.oneCell' = true := by intro u hu; simp at hu; rcases hu with rfl | rfl | rfl <;> rfl
      rcases row_form o1 with ⟨hx1, h0⟩ | ⟨g5, z5, hv, hg5, hz5⟩
      · exfalso
        injection hx1 with hx1 _ _
        exact HSM.out hx1
      · injection hv with hv1 _ hv3
        subst hv1 hv3
        have hn1 : (n : Int) ≤ (s.ws.length : Int) := by omega
        have hn2 : (n : Int) ≤ (z1 : Int) := by omega
        have htk : ∀ j u, ((s.ws.flatMap Wk.cells).take (n * 3))[j]? = some u → (w4.alloc (.cells #[.string name, .bool true, .int .i64 0] 64)).cell? ((⟨g5, 0, none⟩ : Addr).add j) = some u := fun j u hj => by
          rw [List.getElem?_take] at hj
          split at hj
          · exact o1.cells (g := g5) rfl j u hj
          · cases hj
        have hN := World.ownsRow_nil (w4.alloc (.cells #[.string name, .bool true, .int .i64 0] 64)) (w4.alloc (.cells #[.string name, .bool true, .int .i64 0] 64)).heap.size 64 3
        go_wp2_with (at_builtin; refine wpList_append_own _ rfl _ _ 23 rfl (w4.alloc (.cells #[.string name, .bool true, .int .i64 0] 64)).heap.size 64 iw _ 3 32 Tryz.underlying23 hiw hw0 hw1 hw2 rfl (by decide) _ _ _ rfl hN ⟨g5, 0, none⟩ n z1 ((s.ws.flatMap Wk.cells).take (n * 3)) rfl (by rw [List.length_take]; omega) htk (fun u hu => one_w u (List.mem_of_mem_take hu)) (by unfold maxLen; omega) (by omega) (Nat.le_refl _) ?_)
        intro v5 w5 o5 g5' _
        obtain ⟨x5, y5, z5, rfl⟩ := row_slice o5
        have hC5 : Below (w4.alloc (.cells #[.string name, .bool true, .int .i64 0] 64)).heap.size (w4.alloc (.cells #[.string name, .bool true, .int .i64 0] 64)) w5 := (Below.refl _ _).grown g5' (Nat.le_refl _) (fun k e => by simp [Value.ownBlock] at e)
        have e0 := (hC5.cell (p := ⟨w4.heap.size, 0, none⟩) hkw).trans m0
        have e1 := (hC5.cell (p := ⟨w4.heap.size, 1, none⟩) hkw).trans m1
        have e2 := (hC5.cell (p := ⟨w4.heap.size, 2, none⟩) hkw).trans m2
        have hsb : (w4.alloc (.cells #[.string name, .bool true, .int .i64 0] 64)).heap.size = w4.heap.size + 1 := by simp
        have HSB := hid hsb
        clear hsb g5' htk hN
        have o5a := (Go.Joins.ownsRow_le o5 (show (w4.alloc (.cells #[.string name, .bool true, .int .i64 0] 64)).heap.size ≤ w4.heap.size + 1 by rw [HSB.out]; exact Nat.le_refl _)).alloc (.cells #[.string name, .bool true, .int .i64 0] 64)
        have hC5a : Below (w4.alloc (.cells #[.string name, .bool true, .int .i64 0] 64)).heap.size (w4.alloc (.cells #[.string name, .bool true, .int .i64 0] 64)) (w5.alloc (.cells #[.string name, .bool true, .int .i64 0] 64)) := hC5.alloc hC5.size _
        have hnw : ∀ j u, (Wk.cells ⟨name, true, 0⟩)[j]? = some u → (w5.alloc (.cells #[.string name, .bool true, .int .i64 0] 64)).cell? ((⟨w5.heap.size, 0, none⟩ : Addr).add j) = some u := fun j u hj => by
          rw [Addr.add_lit, Nat.zero_add, World.cell?_alloc_at _ _ _ _ rfl]
          simpa using hj
        go_wp2_with (at_builtin; refine wpList_append_own _ rfl _ _ 23 rfl (w4.alloc (.cells #[.string name, .bool true, .int .i64 0] 64)).heap.size 64 iw _ 3 32 Tryz.underlying23 hiw hw0 hw1 hw2 rfl (by decide) _ _ _ rfl o5a ⟨w5.heap.size, 0, none⟩ 1 1 (Wk.cells ⟨name, true, 0⟩) rfl rfl hnw hone (by unfold maxLen; omega) (by omega) hC5a.size ?_)
        intro v6 w6 o6 g6 _
        obtain ⟨x6, y6, z6, rfl⟩ := row_slice o6
        have hC6 : Below (w4.alloc (.cells #[.string name, .bool true, .int .i64 0] 64)).heap.size (w4.alloc (.cells #[.string name, .bool true, .int .i64 0] 64)) w6 := hC5a.grown g6 hC5a.size (fun k e => (o5a.lt k e).1)
        clear o5 o5a g6 hnw hC5 hC5a e0 e1 e2
        obtain ⟨b0, b1, b2, b3⟩ := (F1.below hC6).c
        have hk3 : w2.heap.size ≤ w4.heap.size := hk4
        have o6a := Go.Joins.ownsRow_le o6 (show (w4.alloc (.cells #[.string name, .bool true, .int .i64 0] 64)).heap.size ≤ w4.heap.size + 1 by rw [HSB.out]; exact Nat.le_refl _)
        have o1w := ownsRow_below o1 hC6
        by_cases hnl : n < s.ws.length
        · have hz1 : ¬ (z1 = n) := by omega
          have hdr : ∀ j u, ((s.ws.flatMap Wk.cells).drop (n * 3))[j]? = some u → w6.cell? ((⟨g5, n * 3, none⟩ : Addr).add j) = some u := fun j u hj => by
            rw [List.getElem?_drop] at hj
            have := o1w.cells (g := g5) rfl _ u hj
            rw [Addr.add_lit, Nat.zero_add] at this
            rw [Addr.add_lit]
            exact this
          go_wp2_with (at_builtin; refine wpList_append_own _ rfl _ _ 23 rfl (w4.alloc (.cells #[.string name, .bool true, .int .i64 0] 64)).heap.size 64 iw _ 3 32 Tryz.underlying23 hiw hw0 hw1 hw2 rfl (by decide) _ _ _ rfl o6a ⟨g5, n * 3, none⟩ (s.ws.length - n) (z1 - n) ((s.ws.flatMap Wk.cells).drop (n * 3)) rfl (by rw [List.length_drop, hl5, Nat.sub_mul]) hdr (fun u hu => one_w u (List.mem_of_mem_drop hu)) (by unfold maxLen; omega) (by omega) hC6.size ?_)
          intro v7 w7 o7 g7 _
          replace o7 : w7.ownsRow (w4.heap.size + 1) 64 3 v7 (n + 1 + (s.ws.length - n)) ((s.ws.take n ++ ⟨name, true, 0⟩ :: s.ws.drop n).flatMap Wk.cells) := by rw [← HW.out]; simpa using o7
          clear hdr
          obtain ⟨x7, y7, z7, rfl⟩ := row_slice o7
          have hC7 : Below (w4.alloc (.cells #[.string name, .bool true, .int .i64 0] 64)).heap.size (w4.alloc (.cells #[.string name, .bool true, .int .i64 0] 64)) w7 := hC6.grown g7 hC6.size (fun k e => (o6a.lt k e).1)
          replace F1 := F1.below hC7
          replace F2 := F2.below hC7
          replace o2 := ownsRow_below o2 hC7
          replace o3 := ownsRow_below o3 hC7
          replace hBB := below_one hBB hC7
          have hb7 := HSB.out
          clear b0 b1 b2 b3 hC6 o6 o6a g7 o1w hC7 a0 a1 a2 a3
          obtain ⟨a0, a1, a2, a3⟩ := F1.c
          have bf := F1.f 0
          replace F1 := F1.s0 (.slice x7 y7 z7)
          replace F2 := F2.other (k' := w.heap.size) (by omega) 0 (.slice x7 y7 z7)
          have u1 := ownsRow_setCell_below o7 (a := ⟨w.heap.size, 0, none⟩) (by simp; have := hk3; omega) (.slice x7 y7 z7)
          have u2 := ownsRow_setCell_below o2 (a := ⟨w.heap.size, 0, none⟩) (by simp; omega) (.slice x7 y7 z7)
          have u3 := ownsRow_setCell_below o3 (a := ⟨w.heap.size, 0, none⟩) (by simp; omega) (.slice x7 y7 z7)
          replace hBB := hBB.setCell (p := ⟨w.heap.size, 0, none⟩) (by simp) (.slice x7 y7 z7)
          clear hb7
          obtain ⟨b0, b1, b2, b3⟩ := F1.c
          obtain ⟨r0, r1, r2, r3⟩ := F2.c
          have f0 := F2.f 0
          have f1 := F2.f 1
          have f2 := F2.f 2
          have f3 := F2.f 3
          have G := (((F2.s0 (.slice x7 y7 z7)).s1 (.int .i64 s.nx)).s2 (.slice x2 y2 z2)).s3 (.slice x3 y3 z3)
          have pB := below_four hBB (k := w.heap.size + 1) (by omega) (.slice x7 y7 z7) (.int .i64 s.nx) (.slice x2 y2 z2) (.slice x3 y3 z3)
          have q1 := row_four u1 (k := w.heap.size + 1) (by omega) (.slice x7 y7 z7) (.int .i64 s.nx) (.slice x2 y2 z2) (.slice x3 y3 z3)
          have q2 := row_four u2 (k := w.heap.size + 1) (by omega) (.slice x7 y7 z7) (.int .i64 s.nx) (.slice x2 y2 z2) (.slice x3 y3 z3)
          have q3 := row_four u3 (k := w.heap.size + 1) (by omega) (.slice x7 y7 z7) (.int .i64 s.nx) (.slice x2 y2 z2) (.slice x3 y3 z3)
          go_wp2_with fail
          clear r0 r1 r2 r3 f0 f1 f2 f3 b0 b1 b2 b3
          generalize ((((w7.setCell ⟨w.heap.size, 0, none⟩ (.slice x7 y7 z7)).setCell ⟨w.heap.size + 1, 0, none⟩ (.slice x7 y7 z7)).setCell ⟨w.heap.size + 1, 1, none⟩ (.int .i64 s.nx)).setCell ⟨w.heap.size + 1, 2, none⟩ (.slice x2 y2 z2)).setCell ⟨w.heap.size + 1, 3, none⟩ (.slice x3 y3 z3) = W5 at *
          obtain ⟨d0, d1, d2, d3⟩ := G.c
          exact bodyPost_ret (v := .tuple #[.agg #[(.slice x7 y7 z7), (.int .i64 s.nx), (.slice x2 y2 z2), (.slice x3 y3 z3)], .int .i64 0]) (by simp [results, Tryz.results44, go_sem, d0, d1, d2, d3]) rfl ⟨_, by rw [HR.out], by rw [HR.out]; exact IsO.of (s := ⟨s.ws.take n ++ ⟨name, true, 0⟩ :: s.ws.drop n, s.nx, s.rv, s.sg⟩) (Go.Joins.ownsRow_le (row_cast q1 HL.out) (by omega)) (Go.Joins.ownsRow_le q2 (by omega)) (Go.Joins.ownsRow_le q3 (by omega)), pB⟩
        · obtain rfl : n = s.ws.length := by omega
          by_cases hzz : z1 = s.ws.length
          all_goals go_wp2_with (at_builtin; refine wpList_append_own _ rfl _ _ 23 rfl (w4.alloc (.cells #[.string name, .bool true, .int .i64 0] 64)).heap.size 64 iw _ 3 32 Tryz.underlying23 hiw hw0 hw1 hw2 rfl (by decide) _ _ _ rfl o6a _ 0 _ [] rfl rfl (by simp) (by simp) (by unfold maxLen; omega) (by omega) hC6.size ?_)
          all_goals intro v7 w7 o7 g7 _
          all_goals replace o7 : w7.ownsRow (w4.heap.size + 1) 64 3 v7 (s.ws.length + 1 + (s.ws.length - s.ws.length)) ((s.ws.take s.ws.length ++ ⟨name, true, 0⟩ :: s.ws.drop s.ws.length).flatMap Wk.cells) := by rw [← HW.out, List.drop_of_length_le (by omega)]; exact row_cast (by simpa using o7) (by omega)
          · skip
            obtain ⟨x7, y7, z7, rfl⟩ := row_slice o7
            have hC7 : Below (w4.alloc (.cells #[.string name, .bool true, .int .i64 0] 64)).heap.size (w4.alloc (.cells #[.string name, .bool true, .int .i64 0] 64)) w7 := hC6.grown g7 hC6.size (fun k e => (o6a.lt k e).1)
            replace F1 := F1.below hC7
            replace F2 := F2.below hC7
            replace o2 := ownsRow_below o2 hC7
            replace o3 := ownsRow_below o3 hC7
            replace hBB := below_one hBB hC7
            have hb7 := HSB.out
            clear b0 b1 b2 b3 hC6 o6 o6a g7 o1w hC7 a0 a1 a2 a3
            obtain ⟨a0, a1, a2, a3⟩ := F1.c
            have bf := F1.f 0
            replace F1 := F1.s0 (.slice x7 y7 z7)
            replace F2 := F2.other (k' := w.heap.size) (by omega) 0 (.slice x7 y7 z7)
            have u1 := ownsRow_setCell_below o7 (a := ⟨w.heap.size, 0, none⟩) (by simp; have := hk3; omega) (.slice x7 y7 z7)
            have u2 := ownsRow_setCell_below o2 (a := ⟨w.heap.size, 0, none⟩) (by simp; omega) (.slice x7 y7 z7)
            have u3 := ownsRow_setCell_below o3 (a := ⟨w.heap.size, 0, none⟩) (by simp; omega) (.slice x7 y7 z7)
            replace hBB := hBB.setCell (p := ⟨w.heap.size, 0, none⟩) (by simp) (.slice x7 y7 z7)
            clear hb7
            obtain ⟨b0, b1, b2, b3⟩ := F1.c
            obtain ⟨r0, r1, r2, r3⟩ := F2.c
            have f0 := F2.f 0
            have f1 := F2.f 1
            have f2 := F2.f 2
            have f3 := F2.f 3
            have G := (((F2.s0 (.slice x7 y7 z7)).s1 (.int .i64 s.nx)).s2 (.slice x2 y2 z2)).s3 (.slice x3 y3 z3)
            have pB := below_four hBB (k := w.heap.size + 1) (by omega) (.slice x7 y7 z7) (.int .i64 s.nx) (.slice x2 y2 z2) (.slice x3 y3 z3)
            have q1 := row_four u1 (k := w.heap.size + 1) (by omega) (.slice x7 y7 z7) (.int .i64 s.nx) (.slice x2 y2 z2) (.slice x3 y3 z3)
            have q2 := row_four u2 (k := w.heap.size + 1) (by omega) (.slice x7 y7 z7) (.int .i64 s.nx) (.slice x2 y2 z2) (.slice x3 y3 z3)
            have q3 := row_four u3 (k := w.heap.size + 1) (by omega) (.slice x7 y7 z7) (.int .i64 s.nx) (.slice x2 y2 z2) (.slice x3 y3 z3)
            go_wp2_with fail
            clear r0 r1 r2 r3 f0 f1 f2 f3 b0 b1 b2 b3
            generalize ((((w7.setCell ⟨w.heap.size, 0, none⟩ (.slice x7 y7 z7)).setCell ⟨w.heap.size + 1, 0, none⟩ (.slice x7 y7 z7)).setCell ⟨w.heap.size + 1, 1, none⟩ (.int .i64 s.nx)).setCell ⟨w.heap.size + 1, 2, none⟩ (.slice x2 y2 z2)).setCell ⟨w.heap.size + 1, 3, none⟩ (.slice x3 y3 z3) = W5 at *
            obtain ⟨d0, d1, d2, d3⟩ := G.c
            exact bodyPost_ret (v := .tuple #[.agg #[(.slice x7 y7 z7), (.int .i64 s.nx), (.slice x2 y2 z2), (.slice x3 y3 z3)], .int .i64 0]) (by simp [results, Tryz.results44, go_sem, d0, d1, d2, d3]) rfl ⟨_, by rw [HR.out], by rw [HR.out]; exact IsO.of (s := ⟨s.ws.take s.ws.length ++ ⟨name, true, 0⟩ :: s.ws.drop s.ws.length, s.nx, s.rv, s.sg⟩) (Go.Joins.ownsRow_le (row_cast q1 HL.out) (by omega)) (Go.Joins.ownsRow_le q2 (by omega)) (Go.Joins.ownsRow_le q3 (by omega)), pB⟩
          · skip
            obtain ⟨x7, y7, z7, rfl⟩ := row_slice o7
            have hC7 : Below (w4.alloc (.cells #[.string name, .bool true, .int .i64 0] 64)).heap.size (w4.alloc (.cells #[.string name, .bool true, .int .i64 0] 64)) w7 := hC6.grown g7 hC6.size (fun k e => (o6a.lt k e).1)
            replace F1 := F1.below hC7
            replace F2 := F2.below hC7
            replace o2 := ownsRow_below o2 hC7
            replace o3 := ownsRow_below o3 hC7
            replace hBB := below_one hBB hC7
            have hb7 := HSB.out
            clear b0 b1 b2 b3 hC6 o6 o6a g7 o1w hC7 a0 a1 a2 a3
            obtain ⟨a0, a1, a2, a3⟩ := F1.c
            have bf := F1.f 0
            replace F1 := F1.s0 (.slice x7 y7 z7)
            replace F2 := F2.other (k' := w.heap.size) (by omega) 0 (.slice x7 y7 z7)
            have u1 := ownsRow_setCell_below o7 (a := ⟨w.heap.size, 0, none⟩) (by simp; have := hk3; omega) (.slice x7 y7 z7)
            have u2 := ownsRow_setCell_below o2 (a := ⟨w.heap.size, 0, none⟩) (by simp; omega) (.slice x7 y7 z7)
            have u3 := ownsRow_setCell_below o3 (a := ⟨w.heap.size, 0, none⟩) (by simp; omega) (.slice x7 y7 z7)
            replace hBB := hBB.setCell (p := ⟨w.heap.size, 0, none⟩) (by simp) (.slice x7 y7 z7)
            clear hb7
            obtain ⟨b0, b1, b2, b3⟩ := F1.c
            obtain ⟨r0, r1, r2, r3⟩ := F2.c
            have f0 := F2.f 0
            have f1 := F2.f 1
            have f2 := F2.f 2
            have f3 := F2.f 3
            have G := (((F2.s0 (.slice x7 y7 z7)).s1 (.int .i64 s.nx)).s2 (.slice x2 y2 z2)).s3 (.slice x3 y3 z3)
            have pB := below_four hBB (k := w.heap.size + 1) (by omega) (.slice x7 y7 z7) (.int .i64 s.nx) (.slice x2 y2 z2) (.slice x3 y3 z3)
            have q1 := row_four u1 (k := w.heap.size + 1) (by omega) (.slice x7 y7 z7) (.int .i64 s.nx) (.slice x2 y2 z2) (.slice x3 y3 z3)
            have q2 := row_four u2 (k := w.heap.size + 1) (by omega) (.slice x7 y7 z7) (.int .i64 s.nx) (.slice x2 y2 z2) (.slice x3 y3 z3)
            have q3 := row_four u3 (k := w.heap.size + 1) (by omega) (.slice x7 y7 z7) (.int .i64 s.nx) (.slice x2 y2 z2) (.slice x3 y3 z3)
            go_wp2_with fail
            clear r0 r1 r2 r3 f0 f1 f2 f3 b0 b1 b2 b3
            generalize ((((w7.setCell ⟨w.heap.size, 0, none⟩ (.slice x7 y7 z7)).setCell ⟨w.heap.size + 1, 0, none⟩ (.slice x7 y7 z7)).setCell ⟨w.heap.size + 1, 1, none⟩ (.int .i64 s.nx)).setCell ⟨w.heap.size + 1, 2, none⟩ (.slice x2 y2 z2)).setCell ⟨w.heap.size + 1, 3, none⟩ (.slice x3 y3 z3) = W5 at *
            obtain ⟨d0, d1, d2, d3⟩ := G.c
            exact bodyPost_ret (v := .tuple #[.agg #[(.slice x7 y7 z7), (.int .i64 s.nx), (.slice x2 y2 z2), (.slice x3 y3 z3)], .int .i64 0]) (by simp [results, Tryz.results44, go_sem, d0, d1, d2, d3]) rfl ⟨_, by rw [HR.out], by rw [HR.out]; exact IsO.of (s := ⟨s.ws.take s.ws.length ++ ⟨name, true, 0⟩ :: s.ws.drop s.ws.length, s.nx, s.rv, s.sg⟩) (Go.Joins.ownsRow_le (row_cast q1 HL.out) (by omega)) (Go.Joins.ownsRow_le q2 (by omega)) (Go.Joins.ownsRow_le q3 (by omega)), pB⟩
  · have hlt := hasW_lt hh
    obtain ⟨g5, hg5⟩ : ∃ g, x1 = some ⟨g, 0, none⟩ := by
      rcases row_form o1 with ⟨_, h0⟩ | ⟨g, z, hv, _, _⟩
      · omega
      · injection hv with hv _ _
        exact ⟨g, hv⟩
    subst hg5
    have HLV := hid (show livW s.ws name = s.ws[atW s.ws name].live by rw [livW_at hlt, hh]; rfl)
    have hl5 := o1.1
    have hin : ((atW s.ws name : Nat) : Int) < (s.ws.length : Int) := by omega
    have hcell := wflat_at s.ws (atW s.ws name) 1 hlt (by omega)
    have s1 := (o1.cellAt (atW s.ws name * 3 + 1) (by omega)).trans hcell
    simp only [List.getElem?_cons_succ, List.getElem?_cons_zero] at s1
    clear hcell
    cases hli : s.ws[atW s.ws name].live
    · rw [hli] at s1
      have HR := hid (show enX s name = (⟨s.ws.set (atW s.ws name) ⟨name, true, 0⟩, s.nx, s.rv, s.sg⟩, 0) by rw [HX.out, HLV.out, hli, hh, if_neg (by decide), if_pos rfl])
      clear HLV hli HX
      generalize atW s.ws name = n at *
      have hd1 : w.heap.size ≠ g5 := fun e => row_apart F1 o1 (by decide) w.heap.size rfl (by rw [e]; rfl)
      have hd2 : g5 ≠ w.heap.size := fun e => hd1 e.symm
      have hd3 : w.heap.size + 1 ≠ g5 := fun e => row_apart F2 o1 (by decide) (w.heap.size + 1) rfl (by rw [e]; rfl)
      have hd4 : g5 ≠ w.heap.size + 1 := fun e => hd3 e.symm
      have hd5 : w4.heap.size ≠ g5 := fun e => by have := hko g5 rfl; omega
      have s0 := o1.cellAt (n * 3) (by omega)
      have s2 := o1.cellAt (n * 3 + 2) (by omega)
      rw [List.getElem?_eq_getElem (by omega)] at s0 s2
      have t0 := o1.frozenAt (n * 3)
      have t1 := o1.frozenAt (n * 3 + 1)
      have t2 := o1.frozenAt (n * 3 + 2)
      have Q1 := o1.stored (n * 3) (.string name)
      have Q2 := Q1.1.stored (n * 3 + 1) (.bool true)
      have Q3 := Q2.1.stored (n * 3 + 2) (.int .i64 0)
      have hG := grown_two (grown_two Q1.2 Q2.2) Q3.2
      obtain ⟨a0, a1, a2, a3⟩ := F1.c
      replace F1 : Four ((((w4.alloc (.cells #[.string name, .bool true, .int .i64 0] 64)).setCell ⟨g5, n * 3, none⟩ (.string name)).setCell ⟨g5, n * 3 + 1, none⟩ (.bool true)).setCell ⟨g5, n * 3 + 2, none⟩ (.int .i64 0)) _ _ _ _ _ _ := World.ownsRow.kept F1 hG (.inr (by simp [Value.ownBlock]; exact hd1))
      replace F2 : Four ((((w4.alloc (.cells #[.string name, .bool true, .int .i64 0] 64)).setCell ⟨g5, n * 3, none⟩ (.string name)).setCell ⟨g5, n * 3 + 1, none⟩ (.bool true)).setCell ⟨g5, n * 3 + 2, none⟩ (.int .i64 0)) _ _ _ _ _ _ := World.ownsRow.kept F2 hG (.inr (by simp [Value.ownBlock]; exact hd3))
      have u2 := kept_apart (v2 := .slice (some ⟨g5, 0, none⟩) s.ws.length z1) o2 hG (row_apart o2 o1 (by decide))
      have u3 := kept_apart (v2 := .slice (some ⟨g5, 0, none⟩) s.ws.length z1) o3 hG (row_apart o3 o1 (by decide))
      have hB6 := hBB.grown hG hBB.size (fun k e => by simp at e; have := (o1.lt g5 rfl).1; omega)
      have u1 := Q3.1
      have HW := hid (wflat_set s.ws n ⟨name, true, 0⟩ hlt)
      rw [HW.out] at u1
      have HL := hid (show s.ws.length = (s.ws.set n ⟨name, true, 0⟩).length by simp)
      clear Q1 Q2 Q3 hG hBB
      have hBB := hB6
      obtain ⟨b0, b1, b2, b3⟩ := F1.c
      obtain ⟨r0, r1, r2, r3⟩ := F2.c
      have f0 := F2.f 0
      have f1 := F2.f 1
      have f2 := F2.f 2
      have f3 := F2.f 3
      have G := (((F2.s0 (.slice (some ⟨g5, 0, none⟩) s.ws.length z1)).s1 (.int .i64 s.nx)).s2 (.slice x2 y2 z2)).s3 (.slice x3 y3 z3)
      have pB := below_four hBB (k := w.heap.size + 1) (by omega) (.slice (some ⟨g5, 0, none⟩) s.ws.length z1) (.int .i64 s.nx) (.slice x2 y2 z2) (.slice x3 y3 z3)
      have q1 := row_four u1 (k := w.heap.size + 1) (by omega) (.slice (some ⟨g5, 0, none⟩) s.ws.length z1) (.int .i64 s.nx) (.slice x2 y2 z2) (.slice x3 y3 z3)
      have q2 := row_four u2 (k := w.heap.size + 1) (by omega) (.slice (some ⟨g5, 0, none⟩) s.ws.length z1) (.int .i64 s.nx) (.slice x2 y2 z2) (.slice x3 y3 z3)
      have q3 := row_four u3 (k := w.heap.size + 1) (by omega) (.slice (some ⟨g5, 0, none⟩) s.ws.length z1) (.int .i64 s.nx) (.slice x2 y2 z2) (.slice x3 y3 z3)
      go_wp2_with fail
      clear r0 r1 r2 r3 f0 f1 f2 f3 b0 b1 b2 b3
      generalize (((((((w4.alloc (.cells #[.string name, .bool true, .int .i64 0] 64)).setCell ⟨g5, n * 3, none⟩ (.string name)).setCell ⟨g5, n * 3 + 1, none⟩ (.bool true)).setCell ⟨g5, n * 3 + 2, none⟩ (.int .i64 0)).setCell ⟨w.heap.size + 1, 0, none⟩ (.slice (some ⟨g5, 0, none⟩) s.ws.length z1)).setCell ⟨w.heap.size + 1, 1, none⟩ (.int .i64 s.nx)).setCell ⟨w.heap.size + 1, 2, none⟩ (.slice x2 y2 z2)).setCell ⟨w.heap.size + 1, 3, none⟩ (.slice x3 y3 z3) = W5 at *
      obtain ⟨d0, d1, d2, d3⟩ := G.c
      exact bodyPost_ret (v := .tuple #[.agg #[(.slice (some ⟨g5, 0, none⟩) s.ws.length z1), (.int .i64 s.nx), (.slice x2 y2 z2), (.slice x3 y3 z3)], .int .i64 0]) (by simp [results, Tryz.results44, go_sem, d0, d1, d2, d3]) rfl ⟨_, by rw [HR.out], by rw [HR.out]; exact IsO.of (s := ⟨s.ws.set n ⟨name, true, 0⟩, s.nx, s.rv, s.sg⟩) (Go.Joins.ownsRow_le (row_cast q1 HL.out) (by omega)) (Go.Joins.ownsRow_le q2 (by omega)) (Go.Joins.ownsRow_le q3 (by omega)), pB⟩
    · rw [hli] at s1
      have HR := hid (show enX s name = (s, 2) by rw [HX.out, HLV.out, hli, if_pos rfl])
      clear HLV hli HX
      generalize atW s.ws name = n at *
      obtain ⟨a0, a1, a2, a3⟩ := F1.c
      obtain ⟨b0, b1, b2, b3⟩ := F1.c
      obtain ⟨r0, r1, r2, r3⟩ := F2.c
      have f0 := F2.f 0
      have f1 := F2.f 1
      have f2 := F2.f 2
      have f3 := F2.f 3
      have G := (((F2.s0 (.slice (some ⟨g5, 0, none⟩) s.ws.length z1)).s1 (.int .i64 s.nx)).s2 (.slice x2 y2 z2)).s3 (.slice x3 y3 z3)
      have pB := below_four hBB (k := w.heap.size + 1) (by omega) (.slice (some ⟨g5, 0, none⟩) s.ws.length z1) (.int .i64 s.nx) (.slice x2 y2 z2) (.slice x3 y3 z3)
      have q1 := row_four o1 (k := w.heap.size + 1) (by omega) (.slice (some ⟨g5, 0, none⟩) s.ws.length z1) (.int .i64 s.nx) (.slice x2 y2 z2) (.slice x3 y3 z3)
      have q2 := row_four o2 (k := w.heap.size + 1) (by omega) (.slice (some ⟨g5, 0, none⟩) s.ws.length z1) (.int .i64 s.nx) (.slice x2 y2 z2) (.slice x3 y3 z3)
      have q3 := row_four o3 (k := w.heap.size + 1) (by omega) (.slice (some ⟨g5, 0, none⟩) s.ws.length z1) (.int .i64 s.nx) (.slice x2 y2 z2) (.slice x3 y3 z3)
      go_wp2_with fail
      clear r0 r1 r2 r3 f0 f1 f2 f3 b0 b1 b2 b3
      generalize ((((w4.alloc (.cells #[.string name, .bool true, .int .i64 0] 64)).setCell ⟨w.heap.size + 1, 0, none⟩ (.slice (some ⟨g5, 0, none⟩) s.ws.length z1)).setCell ⟨w.heap.size + 1, 1, none⟩ (.int .i64 s.nx)).setCell ⟨w.heap.size + 1, 2, none⟩ (.slice x2 y2 z2)).setCell ⟨w.heap.size + 1, 3, none⟩ (.slice x3 y3 z3) = W5 at *
      obtain ⟨d0, d1, d2, d3⟩ := G.c
      exact bodyPost_ret (v := .tuple #[.agg #[(.slice (some ⟨g5, 0, none⟩) s.ws.length z1), (.int .i64 s.nx), (.slice x2 y2 z2), (.slice x3 y3 z3)], .int .i64 2]) (by simp [results, Tryz.results44, go_sem, d0, d1, d2, d3]) rfl ⟨_, by rw [HR.out], by rw [HR.out]; exact IsO.of (s := s) (Go.Joins.ownsRow_le q1 (by omega)) (Go.Joins.ownsRow_le q2 (by omega)) (Go.Joins.ownsRow_le q3 (by omega)), pB⟩

end Go.Proofs.YtallpldgkkpikaaGreatDoor

namespace Go.Proofs.YtallpldgkkpikaaGreatDoor
open Go.RowKit Go.Shelf

theorem nm_size {s : ByteArray} (h : nmOk s = true) : s.size ≤ 17 := by
  unfold nmOk gnB at h
  have h2 := Bool.and_eq_true_iff.1 h
  have hl := of_decide_eq_true h2.1
  have hj := join_split 47 s.size s (Nat.le_refl _)
  match hs : split s 47, hl with
  | [a, b], _ =>
    rw [hs] at hj h2
    have ha := List.all_eq_true.1 h2.2 a (by simp)
    have hb := List.all_eq_true.1 h2.2 b (by simp)
    unfold wordB at ha hb
    have ha' := (of_decide_eq_true (Bool.and_eq_true_iff.1 ha).2).2
    have hb' := (of_decide_eq_true (Bool.and_eq_true_iff.1 hb).2).2
    have e := congrArg List.length hj
    simp [joinL] at e
    omega
theorem hdX_at {x y : Er} {s : Is} {ks : List Lk} {who : ByteArray} (h : x = y) : hdX x s ks who = hdX y s ks who := by rw [h]
theorem it_has {s : Is} {name tq : ByteArray} {nw li : Int} (h : itE s name tq nw li = .nil) : hasW s.ws name = true := livW_has (itE_nil h).2.1

set_option maxHeartbeats 8000000 in
set_option maxRecDepth 100000 in
theorem implIssue_any (v : Value) (s : Is) (name tq : ByteArray) (nw li : Int) (p0 p1 p2 p3 : Addr) (base top : Nat) (w : World) (hs : s.short) (hn : s.named) (hm : name.size ≤ 1048576) (hm2 : tq.size ≤ 1048576) (hE : ErA w p0 p1 p2 p3) (h : IsO w base top v s) (ht : Tab w) :
    Calls Tryz.prog 5 #[v, .string name, .string tq, .int .i64 nw, .int .i64 li] w fun e w' => ∃ v' vl m, e = .returned (.tuple #[v', vl, .int .i64 (itE s name tq nw li).code]) ∧ w.heap.size ≤ m ∧ IsO w' m w'.heap.size v' (hdX (itE s name tq nw li) s [itK s name tq nw li] name) ∧ w'.ownsRow w.heap.size 38 5 vl (itL s name tq nw li).length ((itL s name tq nw li).flatMap Lk.cells) ∧ (∀ k, vl.ownBlock = some k → k < m) ∧ Below w.heap.size w w' := by
  obtain ⟨aw, cw, ar, cr, ag, cg, rfl⟩ := is_forms h.a
  have hB0 : Below w.heap.size w ((w.alloc (.cells #[.slice aw s.ws.length cw, .int .i64 s.nx, .slice ar s.rv.length cr, .slice ag s.sg.length cg] 27)).alloc (.cells #[.slice none 0 0, .int .i64 0, .slice none 0 0, .slice none 0 0] 27)) := ((Below.refl _ w).alloc (Nat.le_refl _) _).alloc (by simp) _
  have F1 := (Four.new w (.slice aw s.ws.length cw) (.int .i64 s.nx) (.slice ar s.rv.length cr) (.slice ag s.sg.length cg) 27).below ((Below.refl _ _).alloc (Nat.le_refl _) (.cells #[.slice none 0 0, .int .i64 0, .slice none 0 0, .slice none 0 0] 27))
  have F2 := Four.at (w.alloc (.cells #[.slice aw s.ws.length cw, .int .i64 s.nx, .slice ar s.rv.length cr, .slice ag s.sg.length cg] 27)) (.slice none 0 0) (.int .i64 0) (.slice none 0 0) (.slice none 0 0) 27 (k := w.heap.size + 1) (by simp)
  go_enter Tryz.func5, Tryz.ntmps5
  go_wp2_with fail
  generalize (w.alloc (.cells #[.slice aw s.ws.length cw, .int .i64 s.nx, .slice ar s.rv.length cr, .slice ag s.sg.length cg] 27)).alloc (.cells #[.slice none 0 0, .int .i64 0, .slice none 0 0, .slice none 0 0] 27) = W0 at *
  refine (firstToken_any _ s name tq nw li p0 p1 p2 p3 _ hs hn hm hm2 (hE.below hB0) (h.a.below hB0)).mono ?_
  rintro e w1 ⟨vl, rfl, rl, hvn, hB1⟩
  replace F1 := F1.below hB1
  replace F2 := F2.below hB1
  have hBB := below_one hB0 hB1
  have hb0 := hB0.size
  clear hB1
  have E1 := hE.below hBB
  have O1 := h.below hBB
  have hk1 := F2.lt
  have hbw := hBB.size
  obtain ⟨a0, a1, a2, a3⟩ := F1.c
  replace rl := Go.Joins.ownsRow_le rl hb0
  clear hB0
  cases hit : itE s name tq nw li with
  | twice => exact absurd hit (itE_not s name tq nw li)
  | bad =>
    have HI := hid hit
    have HL := hid (itL_no hit (by intro h; cases h))
    obtain rfl := hvn (by rw [hit]; intro h; cases h)
    clear hit hvn
    go_wp2_with fail
    refine (handed_bad _ s p0 p1 p2 p3 base top _ E1 O1).mono ?_
    rintro e w2 ⟨v2, rfl, O2, hB2⟩
    have HX := hid (show hdX (itE s name tq nw li) s [itK s name tq nw li] name = Is.none by rw [HI.out]; rfl)
    obtain ⟨t, HT⟩ : ∃ t, Hid (t = hdX (itE s name tq nw li) s [itK s name tq nw li] name) := ⟨_, hid rfl⟩
    rw [← HX.out, ← HT.out] at O2
    replace F2 := F2.below hB2
    replace hBB := below_one hBB hB2
    have hs2 := hB2.size
    clear hB2 a0 a1 a2 a3
    obtain ⟨x1, z1, x2, z2, x3, z3, rfl⟩ := is_forms O2.a
    obtain ⟨_, _, _, ee, o1, o2, o3, t1, t2, t3⟩ := O2
    cases ee
    obtain ⟨r0, r1, r2, r3⟩ := F2.c
    have f0 := F2.f 0
    have f1 := F2.f 1
    have f2 := F2.f 2
    have f3 := F2.f 3
    have G := (((F2.s0 (.slice x1 t.ws.length z1)).s1 (.int .i64 t.nx)).s2 (.slice x2 t.rv.length z2)).s3 (.slice x3 t.sg.length z3)
    have pB := below_four hBB (k := w.heap.size + 1) (by omega) (.slice x1 t.ws.length z1) (.int .i64 t.nx) (.slice x2 t.rv.length z2) (.slice x3 t.sg.length z3)
    have q1 := row_four o1 (k := w.heap.size + 1) hk1 (.slice x1 t.ws.length z1) (.int .i64 t.nx) (.slice x2 t.rv.length z2) (.slice x3 t.sg.length z3)
    have q2 := row_four o2 (k := w.heap.size + 1) hk1 (.slice x1 t.ws.length z1) (.int .i64 t.nx) (.slice x2 t.rv.length z2) (.slice x3 t.sg.length z3)
    have q3 := row_four o3 (k := w.heap.size + 1) hk1 (.slice x1 t.ws.length z1) (.int .i64 t.nx) (.slice x2 t.rv.length z2) (.slice x3 t.sg.length z3)
    go_wp2_with fail
    clear r0 r1 r2 r3 f0 f1 f2 f3
    generalize (((w2.setCell ⟨w.heap.size + 1, 0, none⟩ (.slice x1 t.ws.length z1)).setCell ⟨w.heap.size + 1, 1, none⟩ (.int .i64 t.nx)).setCell ⟨w.heap.size + 1, 2, none⟩ (.slice x2 t.rv.length z2)).setCell ⟨w.heap.size + 1, 3, none⟩ (.slice x3 t.sg.length z3) = W9 at *
    obtain ⟨d0, d1, d2, d3⟩ := G.c
    exact bodyPost_ret (v := .tuple #[.agg #[.slice x1 t.ws.length z1, .int .i64 t.nx, .slice x2 t.rv.length z2, .slice x3 t.sg.length z3], .slice none 0 0, .int .i64 1]) (by simp [results, Tryz.results5, go_sem, d0, d1, d2, d3]) rfl ⟨_, _, w1.heap.size, by rw [HI.out]; rfl, hbw, by rw [← HT.out]; exact IsO.of q1 q2 q3, by rw [HL.out]; exact World.ownsRow_nil _ _ _ _, fun _ h => by simp [Value.ownBlock] at h, pB⟩
  | noWork =>
    have HI := hid hit
    have HL := hid (itL_no hit (by intro h; cases h))
    obtain rfl := hvn (by rw [hit]; intro h; cases h)
    clear hit hvn
    go_wp2_with fail
    refine (handed_no _ s p0 p1 p2 p3 base top _ hs E1 O1).mono ?_
    rintro e w2 ⟨v2, rfl, O2, hB2⟩
    have HX := hid (show hdX (itE s name tq nw li) s [itK s name tq nw li] name = s by rw [HI.out]; rfl)
    obtain ⟨t, HT⟩ : ∃ t, Hid (t = hdX (itE s name tq nw li) s [itK s name tq nw li] name) := ⟨_, hid rfl⟩
    rw [← HX.out, ← HT.out] at O2
    replace F2 := F2.below hB2
    replace hBB := below_one hBB hB2
    have hs2 := hB2.size
    clear hB2 a0 a1 a2 a3
    obtain ⟨x1, z1, x2, z2, x3, z3, rfl⟩ := is_forms O2.a
    obtain ⟨_, _, _, ee, o1, o2, o3, t1, t2, t3⟩ := O2
    cases ee
    obtain ⟨r0, r1, r2, r3⟩ := F2.c
    have f0 := F2.f 0
    have f1 := F2.f 1
    have f2 := F2.f 2
    have f3 := F2.f 3
    have G := (((F2.s0 (.slice x1 t.ws.length z1)).s1 (.int .i64 t.nx)).s2 (.slice x2 t.rv.length z2)).s3 (.slice x3 t.sg.length z3)
    have pB := below_four hBB (k := w.heap.size + 1) (by omega) (.slice x1 t.ws.length z1) (.int .i64 t.nx) (.slice x2 t.rv.length z2) (.slice x3 t.sg.length z3)
    have q1 := row_four o1 (k := w.heap.size + 1) hk1 (.slice x1 t.ws.length z1) (.int .i64 t.nx) (.slice x2 t.rv.length z2) (.slice x3 t.sg.length z3)
    have q2 := row_four o2 (k := w.heap.size + 1) hk1 (.slice x1 t.ws.length z1) (.int .i64 t.nx) (.slice x2 t.rv.length z2) (.slice x3 t.sg.length z3)
    have q3 := row_four o3 (k := w.heap.size + 1) hk1 (.slice x1 t.ws.length z1) (.int .i64 t.nx) (.slice x2 t.rv.length z2) (.slice x3 t.sg.length z3)
    go_wp2_with fail
    clear r0 r1 r2 r3 f0 f1 f2 f3
    generalize (((w2.setCell ⟨w.heap.size + 1, 0, none⟩ (.slice x1 t.ws.length z1)).setCell ⟨w.heap.size + 1, 1, none⟩ (.int .i64 t.nx)).setCell ⟨w.heap.size + 1, 2, none⟩ (.slice x2 t.rv.length z2)).setCell ⟨w.heap.size + 1, 3, none⟩ (.slice x3 t.sg.length z3) = W9 at *
    obtain ⟨d0, d1, d2, d3⟩ := G.c
    exact bodyPost_ret (v := .tuple #[.agg #[.slice x1 t.ws.length z1, .int .i64 t.nx, .slice x2 t.rv.length z2, .slice x3 t.sg.length z3], .slice none 0 0, .int .i64 3]) (by simp [results, Tryz.results5, go_sem, d0, d1, d2, d3]) rfl ⟨_, _, w1.heap.size, by rw [HI.out]; rfl, hbw, by rw [← HT.out]; exact IsO.of q1 q2 q3, by rw [HL.out]; exact World.ownsRow_nil _ _ _ _, fun _ h => by simp [Value.ownBlock] at h, pB⟩
  | full =>
    have HI := hid hit
    have HL := hid (itL_no hit (by intro h; cases h))
    obtain rfl := hvn (by rw [hit]; intro h; cases h)
    clear hit hvn
    go_wp2_with fail
    refine (handed_full _ s p0 p1 p2 p3 base top _ hs E1 O1).mono ?_
    rintro e w2 ⟨v2, rfl, O2, hB2⟩
    have HX := hid (show hdX (itE s name tq nw li) s [itK s name tq nw li] name = s by rw [HI.out]; rfl)
    obtain ⟨t, HT⟩ : ∃ t, Hid (t = hdX (itE s name tq nw li) s [itK s name tq nw li] name) := ⟨_, hid rfl⟩
    rw [← HX.out, ← HT.out] at O2
    replace F2 := F2.below hB2
    replace hBB := below_one hBB hB2
    have hs2 := hB2.size
    clear hB2 a0 a1 a2 a3
    obtain ⟨x1, z1, x2, z2, x3, z3, rfl⟩ := is_forms O2.a
    obtain ⟨_, _, _, ee, o1, o2, o3, t1, t2, t3⟩ := O2
    cases ee
    obtain ⟨r0, r1, r2, r3⟩ := F2.c
    have f0 := F2.f 0
    have f1 := F2.f 1
    have f2 := F2.f 2
    have f3 := F2.f 3
    have G := (((F2.s0 (.slice x1 t.ws.length z1)).s1 (.int .i64 t.nx)).s2 (.slice x2 t.rv.length z2)).s3 (.slice x3 t.sg.length z3)
    have pB := below_four hBB (k := w.heap.size + 1) (by omega) (.slice x1 t.ws.length z1) (.int .i64 t.nx) (.slice x2 t.rv.length z2) (.slice x3 t.sg.length z3)
    have q1 := row_four o1 (k := w.heap.size + 1) hk1 (.slice x1 t.ws.length z1) (.int .i64 t.nx) (.slice x2 t.rv.length z2) (.slice x3 t.sg.length z3)
    have q2 := row_four o2 (k := w.heap.size + 1) hk1 (.slice x1 t.ws.length z1) (.int .i64 t.nx) (.slice x2 t.rv.length z2) (.slice x3 t.sg.length z3)
    have q3 := row_four o3 (k := w.heap.size + 1) hk1 (.slice x1 t.ws.length z1) (.int .i64 t.nx) (.slice x2 t.rv.length z2) (.slice x3 t.sg.length z3)
    go_wp2_with fail
    clear r0 r1 r2 r3 f0 f1 f2 f3
    generalize (((w2.setCell ⟨w.heap.size + 1, 0, none⟩ (.slice x1 t.ws.length z1)).setCell ⟨w.heap.size + 1, 1, none⟩ (.int .i64 t.nx)).setCell ⟨w.heap.size + 1, 2, none⟩ (.slice x2 t.rv.length z2)).setCell ⟨w.heap.size + 1, 3, none⟩ (.slice x3 t.sg.length z3) = W9 at *
    obtain ⟨d0, d1, d2, d3⟩ := G.c
    exact bodyPost_ret (v := .tuple #[.agg #[.slice x1 t.ws.length z1, .int .i64 t.nx, .slice x2 t.rv.length z2, .slice x3 t.sg.length z3], .slice none 0 0, .int .i64 4]) (by simp [results, Tryz.results5, go_sem, d0, d1, d2, d3]) rfl ⟨_, _, w1.heap.size, by rw [HI.out]; rfl, hbw, by rw [← HT.out]; exact IsO.of q1 q2 q3, by rw [HL.out]; exact World.ownsRow_nil _ _ _ _, fun _ h => by simp [Value.ownBlock] at h, pB⟩
  | nil =>
    have HI := hid hit
    have HL := hid (itL_yes hit)
    obtain ⟨hb, hlv, hfu⟩ := itE_nil hit
    have hgk := itK_good hb
    have hhd := isB_hd (itB_parts hb).1
    have hm3 : name.size + tq.size ≤ 1048576 := by have h1 := nm_size (itB_parts hb).2.1; have h2 := nm_size (itB_parts hb).2.2.1; omega
    have hhas := livW_has hlv
    rw [HL.out] at rl
    clear hit hvn hlv hfu hb
    obtain ⟨bl, cl, rfl⟩ : ∃ bl cl, vl = .slice (some ⟨bl, 0, none⟩) 1 cl := by
      rcases row_form rl with ⟨_, h0⟩ | ⟨g, c, hv, _, _⟩
      · simp at h0
      · exact ⟨g, c, hv⟩
    have hblt : bl < w1.heap.size := (rl.lt bl rfl).2
    go_wp2_with fail
    refine (handed_nil _ s bl 0 cl [itK s name tq nw li] name p0 p1 p2 p3 base top w.heap.size _ hs E1 O1 ⟨by omega, by omega⟩ hhd.2.2.2 hhas rfl (by simp) (by intro k hk; rw [List.mem_singleton.1 hk]; exact hgk) (by intro k hk; rw [List.mem_singleton.1 hk]; exact hm3) rfl rl (ht.on hBB)).mono ?_
    rintro e w2 ⟨v2, rfl, O2, hB2⟩
    have HX := hid (show hdX (itE s name tq nw li) s [itK s name tq nw li] name = sgX s [itK s name tq nw li] name by rw [HI.out]; rfl)
    replace rl := ownsRow_below rl hB2
    obtain ⟨t, HT⟩ : ∃ t, Hid (t = hdX (itE s name tq nw li) s [itK s name tq nw li] name) := ⟨_, hid rfl⟩
    rw [← HX.out, ← HT.out] at O2
    replace F2 := F2.below hB2
    replace hBB := below_one hBB hB2
    have hs2 := hB2.size
    clear hB2 a0 a1 a2 a3
    obtain ⟨x1, z1, x2, z2, x3, z3, rfl⟩ := is_forms O2.a
    obtain ⟨_, _, _, ee, o1, o2, o3, t1, t2, t3⟩ := O2
    cases ee
    obtain ⟨r0, r1, r2, r3⟩ := F2.c
    have f0 := F2.f 0
    have f1 := F2.f 1
    have f2 := F2.f 2
    have f3 := F2.f 3
    have G := (((F2.s0 (.slice x1 t.ws.length z1)).s1 (.int .i64 t.nx)).s2 (.slice x2 t.rv.length z2)).s3 (.slice x3 t.sg.length z3)
    have pB := below_four hBB (k := w.heap.size + 1) (by omega) (.slice x1 t.ws.length z1) (.int .i64 t.nx) (.slice x2 t.rv.length z2) (.slice x3 t.sg.length z3)
    have q1 := row_four o1 (k := w.heap.size + 1) hk1 (.slice x1 t.ws.length z1) (.int .i64 t.nx) (.slice x2 t.rv.length z2) (.slice x3 t.sg.length z3)
    have q2 := row_four o2 (k := w.heap.size + 1) hk1 (.slice x1 t.ws.length z1) (.int .i64 t.nx) (.slice x2 t.rv.length z2) (.slice x3 t.sg.length z3)
    have q3 := row_four o3 (k := w.heap.size + 1) hk1 (.slice x1 t.ws.length z1) (.int .i64 t.nx) (.slice x2 t.rv.length z2) (.slice x3 t.sg.length z3)
    have ql := rowaw rl (k := w.heap.size + 1) (fun e => row_apart rl F2 (by decide) (w.heap.size + 1) e rfl) (.slice x1 t.ws.length z1) (.int .i64 t.nx) (.slice x2 t.rv.length z2) (.slice x3 t.sg.length z3)
    go_wp2_with fail
    clear r0 r1 r2 r3 f0 f1 f2 f3
    generalize (((w2.setCell ⟨w.heap.size + 1, 0, none⟩ (.slice x1 t.ws.length z1)).setCell ⟨w.heap.size + 1, 1, none⟩ (.int .i64 t.nx)).setCell ⟨w.heap.size + 1, 2, none⟩ (.slice x2 t.rv.length z2)).setCell ⟨w.heap.size + 1, 3, none⟩ (.slice x3 t.sg.length z3) = W9 at *
    obtain ⟨d0, d1, d2, d3⟩ := G.c
    exact bodyPost_ret (v := .tuple #[.agg #[.slice x1 t.ws.length z1, .int .i64 t.nx, .slice x2 t.rv.length z2, .slice x3 t.sg.length z3], .slice (some ⟨bl, 0, none⟩) 1 cl, .int .i64 0]) (by simp [results, Tryz.results5, go_sem, d0, d1, d2, d3]) rfl ⟨_, _, w1.heap.size, by rw [HI.out]; rfl, hbw, by rw [← HT.out]; exact IsO.of q1 q2 q3, by rw [HL.out]; exact ql, fun k h => by simp [Value.ownBlock] at h; omega, pB⟩

set_option maxHeartbeats 8000000 in
set_option maxRecDepth 100000 in
theorem specIssue_any (v : Value) (s : Is) (name tq : ByteArray) (nw li : Int) (base top : Nat) (w : World) (hs : s.short) (hn : s.named) (hm : name.size ≤ 1048576) (hm2 : tq.size ≤ 1048576) (h : IsO w base top v s) :
    Calls Tryz.prog 6 #[v, .string name, .string tq, .int .i64 nw, .int .i64 li] w fun e w' => ∃ v' vl, e = .returned (.tuple #[v', vl, .int .i64 (itE s name tq nw li).code]) ∧ IsO w' w.heap.size w'.heap.size v' (hdX (itE s name tq nw li) s [itK s name tq nw li] name) ∧ w'.ownsRow w.heap.size 38 5 vl (itL s name tq nw li).length ((itL s name tq nw li).flatMap Lk.cells) ∧ Below w.heap.size w w' := by
  obtain ⟨aw, cw, ar, cr, ag, cg, rfl⟩ := is_forms h.a
  have hB0 : Below w.heap.size w ((w.alloc (.cells #[.slice aw s.ws.length cw, .int .i64 s.nx, .slice ar s.rv.length cr, .slice ag s.sg.length cg] 27)).alloc (.cells #[.slice none 0 0, .int .i64 0, .slice none 0 0, .slice none 0 0] 27)) := ((Below.refl _ w).alloc (Nat.le_refl _) _).alloc (by simp) _
  have F1 := (Four.new w (.slice aw s.ws.length cw) (.int .i64 s.nx) (.slice ar s.rv.length cr) (.slice ag s.sg.length cg) 27).below ((Below.refl _ _).alloc (Nat.le_refl _) (.cells #[.slice none 0 0, .int .i64 0, .slice none 0 0, .slice none 0 0] 27))
  have F2 := Four.at (w.alloc (.cells #[.slice aw s.ws.length cw, .int .i64 s.nx, .slice ar s.rv.length cr, .slice ag s.sg.length cg] 27)) (.slice none 0 0) (.int .i64 0) (.slice none 0 0) (.slice none 0 0) 27 (k := w.heap.size + 1) (by simp)
  go_enter Tryz.func6, Tryz.ntmps6
  go_wp2_with fail
  generalize (w.alloc (.cells #[.slice aw s.ws.length cw, .int .i64 s.nx, .slice ar s.rv.length cr, .slice ag s.sg.length cg] 27)).alloc (.cells #[.slice none 0 0, .int .i64 0, .slice none 0 0, .slice none 0 0] 27) = Wz at *
  refine (specGoodIssuer_any _ s _ hs hn (h.a.below hB0)).mono ?_
  rintro e w1 ⟨rfl, hB1⟩
  have hBB := hB0
  clear hB0
  replace F1 := F1.below hB1
  replace F2 := F2.below hB1
  replace hBB := below_one hBB hB1
  clear hB1
  cases hg : isB s
  case false =>
    have HI := hid (it_bad (s := s) (name := name) (tq := tq) (nw := nw) (li := li) (by unfold itB; rw [hg]; rfl))
    have HL := hid (itL_no HI.out (by intro h; cases h))
    have HX := hid (show hdX (itE s name tq nw li) s [itK s name tq nw li] name = Is.none by rw [HI.out]; rfl)
    obtain ⟨r0, r1, r2, r3⟩ := F2.c
    have f0 := F2.f 0
    have f1 := F2.f 1
    have f2 := F2.f 2
    have f3 := F2.f 3
    have G := (((F2.s0 (.slice none 0 0)).s1 (.int .i64 0)).s2 (.slice none 0 0)).s3 (.slice none 0 0)
    have pB := below_four hBB (k := w.heap.size + 1) (by omega) (.slice none 0 0) (.int .i64 0) (.slice none 0 0) (.slice none 0 0)
    go_wp2_with fail
    clear r0 r1 r2 r3 f0 f1 f2 f3
    generalize (((w1.setCell ⟨w.heap.size + 1, 0, none⟩ (.slice none 0 0)).setCell ⟨w.heap.size + 1, 1, none⟩ (.int .i64 0)).setCell ⟨w.heap.size + 1, 2, none⟩ (.slice none 0 0)).setCell ⟨w.heap.size + 1, 3, none⟩ (.slice none 0 0) = W9 at *
    obtain ⟨d0, d1, d2, d3⟩ := G.c
    exact bodyPost_ret (v := .tuple #[.agg #[.slice none 0 0, .int .i64 0, .slice none 0 0, .slice none 0 0], .slice none 0 0, .int .i64 1]) (by simp [results, Tryz.results6, go_sem, d0, d1, d2, d3]) rfl ⟨_, _, by rw [HI.out]; rfl, by rw [HX.out]; exact none_o _ _ _, by rw [HL.out]; exact World.ownsRow_nil _ _ _ _, pB⟩
  go_wp2_with fail
  refine (specGoodName_any name _ hm).mono ?_
  rintro e w2 ⟨rfl, hB2⟩
  replace F1 := F1.below hB2
  replace F2 := F2.below hB2
  replace hBB := below_one hBB hB2
  clear hB2
  cases hg1 : nmOk name
  case false =>
    rw [show gnB (split name 47) = false from hg1]
    have HI := hid (it_bad (s := s) (name := name) (tq := tq) (nw := nw) (li := li) (by unfold itB; rw [hg1]; simp))
    have HL := hid (itL_no HI.out (by intro h; cases h))
    have HX := hid (show hdX (itE s name tq nw li) s [itK s name tq nw li] name = Is.none by rw [HI.out]; rfl)
    obtain ⟨r0, r1, r2, r3⟩ := F2.c
    have f0 := F2.f 0
    have f1 := F2.f 1
    have f2 := F2.f 2
    have f3 := F2.f 3
    have G := (((F2.s0 (.slice none 0 0)).s1 (.int .i64 0)).s2 (.slice none 0 0)).s3 (.slice none 0 0)
    have pB := below_four hBB (k := w.heap.size + 1) (by omega) (.slice none 0 0) (.int .i64 0) (.slice none 0 0) (.slice none 0 0)
    go_wp2_with fail
    clear r0 r1 r2 r3 f0 f1 f2 f3
    generalize (((w2.setCell ⟨w.heap.size + 1, 0, none⟩ (.slice none 0 0)).setCell ⟨w.heap.size + 1, 1, none⟩ (.int .i64 0)).setCell ⟨w.heap.size + 1, 2, none⟩ (.slice none 0 0)).setCell ⟨w.heap.size + 1, 3, none⟩ (.slice none 0 0) = W9 at *
    obtain ⟨d0, d1, d2, d3⟩ := G.c
    exact bodyPost_ret (v := .tuple #[.agg #[.slice none 0 0, .int .i64 0, .slice none 0 0, .slice none 0 0], .slice none 0 0, .int .i64 1]) (by simp [results, Tryz.results6, go_sem, d0, d1, d2, d3]) rfl ⟨_, _, by rw [HI.out]; rfl, by rw [HX.out]; exact none_o _ _ _, by rw [HL.out]; exact World.ownsRow_nil _ _ _ _, pB⟩
  rw [show gnB (split name 47) = true from hg1]
  go_wp2_with fail
  refine (specGoodName_any tq _ hm2).mono ?_
  rintro e w2b ⟨rfl, hB2⟩
  replace F1 := F1.below hB2
  replace F2 := F2.below hB2
  replace hBB := below_one hBB hB2
  clear hB2
  cases hg2 : nmOk tq
  case false =>
    rw [show gnB (split tq 47) = false from hg2]
    have HI := hid (it_bad (s := s) (name := name) (tq := tq) (nw := nw) (li := li) (by unfold itB; rw [hg2]; simp))
    have HL := hid (itL_no HI.out (by intro h; cases h))
    have HX := hid (show hdX (itE s name tq nw li) s [itK s name tq nw li] name = Is.none by rw [HI.out]; rfl)
    obtain ⟨r0, r1, r2, r3⟩ := F2.c
    have f0 := F2.f 0
    have f1 := F2.f 1
    have f2 := F2.f 2
    have f3 := F2.f 3
    have G := (((F2.s0 (.slice none 0 0)).s1 (.int .i64 0)).s2 (.slice none 0 0)).s3 (.slice none 0 0)
    have pB := below_four hBB (k := w.heap.size + 1) (by omega) (.slice none 0 0) (.int .i64 0) (.slice none 0 0) (.slice none 0 0)
    go_wp2_with fail
    clear r0 r1 r2 r3 f0 f1 f2 f3
    generalize (((w2b.setCell ⟨w.heap.size + 1, 0, none⟩ (.slice none 0 0)).setCell ⟨w.heap.size + 1, 1, none⟩ (.int .i64 0)).setCell ⟨w.heap.size + 1, 2, none⟩ (.slice none 0 0)).setCell ⟨w.heap.size + 1, 3, none⟩ (.slice none 0 0) = W9 at *
    obtain ⟨d0, d1, d2, d3⟩ := G.c
    exact bodyPost_ret (v := .tuple #[.agg #[.slice none 0 0, .int .i64 0, .slice none 0 0, .slice none 0 0], .slice none 0 0, .int .i64 1]) (by simp [results, Tryz.results6, go_sem, d0, d1, d2, d3]) rfl ⟨_, _, by rw [HI.out]; rfl, by rw [HX.out]; exact none_o _ _ _, by rw [HL.out]; exact World.ownsRow_nil _ _ _ _, pB⟩
  rw [show gnB (split tq 47) = true from hg2]
  go_wp2_with fail
  refine (l3Time_any nw _).mono ?_
  rintro e w3 ⟨rfl, rfl⟩
  cases hg3 : tmB nw
  case false =>
    have HI := hid (it_bad (s := s) (name := name) (tq := tq) (nw := nw) (li := li) (by unfold itB; rw [hg3]; simp))
    have HL := hid (itL_no HI.out (by intro h; cases h))
    have HX := hid (show hdX (itE s name tq nw li) s [itK s name tq nw li] name = Is.none by rw [HI.out]; rfl)
    obtain ⟨r0, r1, r2, r3⟩ := F2.c
    have f0 := F2.f 0
    have f1 := F2.f 1
    have f2 := F2.f 2
    have f3 := F2.f 3
    have G := (((F2.s0 (.slice none 0 0)).s1 (.int .i64 0)).s2 (.slice none 0 0)).s3 (.slice none 0 0)
    have pB := below_four hBB (k := w.heap.size + 1) (by omega) (.slice none 0 0) (.int .i64 0) (.slice none 0 0) (.slice none 0 0)
    go_wp2_with fail
    clear r0 r1 r2 r3 f0 f1 f2 f3
    generalize (((w3.setCell ⟨w.heap.size + 1, 0, none⟩ (.slice none 0 0)).setCell ⟨w.heap.size + 1, 1, none⟩ (.int .i64 0)).setCell ⟨w.heap.size + 1, 2, none⟩ (.slice none 0 0)).setCell ⟨w.heap.size + 1, 3, none⟩ (.slice none 0 0) = W9 at *
    obtain ⟨d0, d1, d2, d3⟩ := G.c
    exact bodyPost_ret (v := .tuple #[.agg #[.slice none 0 0, .int .i64 0, .slice none 0 0, .slice none 0 0], .slice none 0 0, .int .i64 1]) (by simp [results, Tryz.results6, go_sem, d0, d1, d2, d3]) rfl ⟨_, _, by rw [HI.out]; rfl, by rw [HX.out]; exact none_o _ _ _, by rw [HL.out]; exact World.ownsRow_nil _ _ _ _, pB⟩
  go_wp2_with fail
  refine (l3Time_any li _).mono ?_
  rintro e w3 ⟨rfl, rfl⟩
  cases hg4 : tmB li
  case false =>
    have HI := hid (it_bad (s := s) (name := name) (tq := tq) (nw := nw) (li := li) (by unfold itB; rw [hg4]; simp))
    have HL := hid (itL_no HI.out (by intro h; cases h))
    have HX := hid (show hdX (itE s name tq nw li) s [itK s name tq nw li] name = Is.none by rw [HI.out]; rfl)
    obtain ⟨r0, r1, r2, r3⟩ := F2.c
    have f0 := F2.f 0
    have f1 := F2.f 1
    have f2 := F2.f 2
    have f3 := F2.f 3
    have G := (((F2.s0 (.slice none 0 0)).s1 (.int .i64 0)).s2 (.slice none 0 0)).s3 (.slice none 0 0)
    have pB := below_four hBB (k := w.heap.size + 1) (by omega) (.slice none 0 0) (.int .i64 0) (.slice none 0 0) (.slice none 0 0)
    go_wp2_with fail
    clear r0 r1 r2 r3 f0 f1 f2 f3
    generalize (((w3.setCell ⟨w.heap.size + 1, 0, none⟩ (.slice none 0 0)).setCell ⟨w.heap.size + 1, 1, none⟩ (.int .i64 0)).setCell ⟨w.heap.size + 1, 2, none⟩ (.slice none 0 0)).setCell ⟨w.heap.size + 1, 3, none⟩ (.slice none 0 0) = W9 at *
    obtain ⟨d0, d1, d2, d3⟩ := G.c
    exact bodyPost_ret (v := .tuple #[.agg #[.slice none 0 0, .int .i64 0, .slice none 0 0, .slice none 0 0], .slice none 0 0, .int .i64 1]) (by simp [results, Tryz.results6, go_sem, d0, d1, d2, d3]) rfl ⟨_, _, by rw [HI.out]; rfl, by rw [HX.out]; exact none_o _ _ _, by rw [HL.out]; exact World.ownsRow_nil _ _ _ _, pB⟩
  have HB := hid (show itB s name tq nw li = true by unfold itB; rw [hg, hg1, hg2, hg3, hg4]; rfl)
  have HM := hid (show itE s name tq nw li = maE s name by unfold itE; rw [if_pos HB.out])
  have hm3 : name.size + tq.size ≤ 1048576 := by have h1 := nm_size hg1; have h2 := nm_size hg2; omega
  have b3 := of_decide_eq_true hg3
  have b4 := of_decide_eq_true hg4
  have hhd := isB_hd hg
  clear hg hg1 hg2 hg3 hg4
  have hk1 : w.heap.size + 1 < w3.heap.size := F2.lt
  obtain ⟨a0, a1, a2, a3⟩ := F1.c
  go_wp2_with fail
  refine (l4Own_any _ s base top _ hs (h.below hBB)).mono ?_
  rintro e w4 ⟨v4, rfl, ⟨vw, vr, vs, rfl, o1, o2, o3, u1, u2, u3⟩, hB4, _⟩
  obtain ⟨x1, y1, z1, rfl⟩ := row_slice o1
  obtain ⟨x2, y2, z2, rfl⟩ := row_slice o2
  obtain ⟨x3, y3, z3, rfl⟩ := row_slice o3
  obtain rfl : y1 = s.ws.length := row_len o1
  obtain rfl : y2 = s.rv.length := row_len o2
  obtain rfl : y3 = s.sg.length := row_len o3
  have hk2 := hB4.size
  replace F1 := F1.below hB4
  replace F2 := F2.below hB4
  replace hBB := below_one hBB hB4
  clear hB4 a0 a1 a2 a3
  have hbo : w.heap.size ≤ w3.heap.size := by omega
  obtain ⟨a0, a1, a2, a3⟩ := F1.c
  have f0 := F1.f 0
  have f1 := F1.f 1
  have f2 := F1.f 2
  have f3 := F1.f 3
  have G1 := (((F1.s0 (.slice x1 s.ws.length z1)).s1 (.int .i64 s.nx)).s2 (.slice x2 s.rv.length z2)).s3 (.slice x3 s.sg.length z3)
  have G2 := (((F2.other (k' := w.heap.size) (by omega) 0 (.slice x1 s.ws.length z1)).other (k' := w.heap.size) (by omega) 1 (.int .i64 s.nx)).other (k' := w.heap.size) (by omega) 2 (.slice x2 s.rv.length z2)).other (k' := w.heap.size) (by omega) 3 (.slice x3 s.sg.length z3)
  have q1 := row_four o1 (k := w.heap.size) (by omega) (.slice x1 s.ws.length z1) (.int .i64 s.nx) (.slice x2 s.rv.length z2) (.slice x3 s.sg.length z3)
  have q2 := row_four o2 (k := w.heap.size) (by omega) (.slice x1 s.ws.length z1) (.int .i64 s.nx) (.slice x2 s.rv.length z2) (.slice x3 s.sg.length z3)
  have q3 := row_four o3 (k := w.heap.size) (by omega) (.slice x1 s.ws.length z1) (.int .i64 s.nx) (.slice x2 s.rv.length z2) (.slice x3 s.sg.length z3)
  have hB5 := below_four hBB (k := w.heap.size) (Nat.le_refl _) (.slice x1 s.ws.length z1) (.int .i64 s.nx) (.slice x2 s.rv.length z2) (.slice x3 s.sg.length z3)
  have hk5 : w4.heap.size ≤ ((((w4.setCell ⟨w.heap.size, 0, none⟩ (.slice x1 s.ws.length z1)).setCell ⟨w.heap.size, 1, none⟩ (.int .i64 s.nx)).setCell ⟨w.heap.size, 2, none⟩ (.slice x2 s.rv.length z2)).setCell ⟨w.heap.size, 3, none⟩ (.slice x3 s.sg.length z3)).heap.size := by simp
  clear F1 F2 o1 o2 o3 hBB
  obtain ⟨n0, n1, n2, n3⟩ := G1.c
  go_wp2_with fail
  clear a0 a1 a2 a3 f0 f1 f2 f3 n0 n1 n2 n3
  generalize (((w4.setCell ⟨w.heap.size, 0, none⟩ (.slice x1 s.ws.length z1)).setCell ⟨w.heap.size, 1, none⟩ (.int .i64 s.nx)).setCell ⟨w.heap.size, 2, none⟩ (.slice x2 s.rv.length z2)).setCell ⟨w.heap.size, 3, none⟩ (.slice x3 s.sg.length z3) = W5 at *
  have hA5 : IsA W5 (.agg #[.slice x1 s.ws.length z1, .int .i64 s.nx, .slice x2 s.rv.length z2, .slice x3 s.sg.length z3]) s := ⟨_, _, _, rfl, WkS.own q1, VS.ownN q2, VS.ownS q3⟩
  refine (l4Live_any _ s name _ hs.1 hA5).mono ?_
  rintro e w6 ⟨rfl, hB6⟩
  have F1 := G1.below hB6
  have F2 := G2.below hB6
  have o1 := ownsRow_below q1 hB6
  have o2 := ownsRow_below q2 hB6
  have o3 := ownsRow_below q3 hB6
  have hA6 := hA5.below hB6
  have hBB := below_one hB5 hB6
  have hs6 := hB6.size
  clear G1 G2 q1 q2 q3 hB5 hB6 hA5
  cases hlv : livW s.ws name
  case false =>
    have HI := hid (show itE s name tq nw li = .noWork by rw [HM.out]; exact maE_no hlv)
    have HL := hid (itL_no HI.out (by intro h; cases h))
    have HX := hid (show hdX (itE s name tq nw li) s [itK s name tq nw li] name = s by rw [HI.out]; rfl)
    obtain ⟨a0, a1, a2, a3⟩ := F1.c
    obtain ⟨r0, r1, r2, r3⟩ := F2.c
    have f0 := F2.f 0
    have f1 := F2.f 1
    have f2 := F2.f 2
    have f3 := F2.f 3
    have G := (((F2.s0 (.slice x1 s.ws.length z1)).s1 (.int .i64 s.nx)).s2 (.slice x2 s.rv.length z2)).s3 (.slice x3 s.sg.length z3)
    have pB := below_four hBB (k := w.heap.size + 1) (by omega) (.slice x1 s.ws.length z1) (.int .i64 s.nx) (.slice x2 s.rv.length z2) (.slice x3 s.sg.length z3)
    have q1 := row_four o1 (k := w.heap.size + 1) (by omega) (.slice x1 s.ws.length z1) (.int .i64 s.nx) (.slice x2 s.rv.length z2) (.slice x3 s.sg.length z3)
    have q2 := row_four o2 (k := w.heap.size + 1) (by omega) (.slice x1 s.ws.length z1) (.int .i64 s.nx) (.slice x2 s.rv.length z2) (.slice x3 s.sg.length z3)
    have q3 := row_four o3 (k := w.heap.size + 1) (by omega) (.slice x1 s.ws.length z1) (.int .i64 s.nx) (.slice x2 s.rv.length z2) (.slice x3 s.sg.length z3)
    go_wp2_with fail
    clear r0 r1 r2 r3 f0 f1 f2 f3
    generalize (((w6.setCell ⟨w.heap.size + 1, 0, none⟩ (.slice x1 s.ws.length z1)).setCell ⟨w.heap.size + 1, 1, none⟩ (.int .i64 s.nx)).setCell ⟨w.heap.size + 1, 2, none⟩ (.slice x2 s.rv.length z2)).setCell ⟨w.heap.size + 1, 3, none⟩ (.slice x3 s.sg.length z3) = W9 at *
    obtain ⟨d0, d1, d2, d3⟩ := G.c
    exact bodyPost_ret (v := .tuple #[.agg #[.slice x1 s.ws.length z1, .int .i64 s.nx, .slice x2 s.rv.length z2, .slice x3 s.sg.length z3], .slice none 0 0, .int .i64 3]) (by simp [results, Tryz.results6, go_sem, d0, d1, d2, d3]) rfl ⟨_, _, by rw [HI.out]; rfl, by rw [HX.out]; exact IsO.of (Go.Joins.ownsRow_le q1 hbo) (Go.Joins.ownsRow_le q2 hbo) (Go.Joins.ownsRow_le q3 hbo), by rw [HL.out]; exact World.ownsRow_nil _ _ _ _, pB⟩
  obtain ⟨a0, a1, a2, a3⟩ := F1.c
  go_wp2_with fail
  refine (l4Full_any _ s _ hs hA6).mono ?_
  rintro e w7 ⟨rfl, hB7⟩
  replace F1 := F1.below hB7
  replace F2 := F2.below hB7
  replace o1 := ownsRow_below o1 hB7
  replace o2 := ownsRow_below o2 hB7
  replace o3 := ownsRow_below o3 hB7
  replace hBB := below_one hBB hB7
  have hs7 := hB7.size
  clear hB7 hA6 a0 a1 a2 a3
  cases hfu : fullB s
  case true =>
    have HI := hid (show itE s name tq nw li = .full by rw [HM.out]; exact maE_full hlv hfu)
    have HL := hid (itL_no HI.out (by intro h; cases h))
    have HX := hid (show hdX (itE s name tq nw li) s [itK s name tq nw li] name = s by rw [HI.out]; rfl)
    obtain ⟨a0, a1, a2, a3⟩ := F1.c
    obtain ⟨r0, r1, r2, r3⟩ := F2.c
    have f0 := F2.f 0
    have f1 := F2.f 1
    have f2 := F2.f 2
    have f3 := F2.f 3
    have G := (((F2.s0 (.slice x1 s.ws.length z1)).s1 (.int .i64 s.nx)).s2 (.slice x2 s.rv.length z2)).s3 (.slice x3 s.sg.length z3)
    have pB := below_four hBB (k := w.heap.size + 1) (by omega) (.slice x1 s.ws.length z1) (.int .i64 s.nx) (.slice x2 s.rv.length z2) (.slice x3 s.sg.length z3)
    have q1 := row_four o1 (k := w.heap.size + 1) (by omega) (.slice x1 s.ws.length z1) (.int .i64 s.nx) (.slice x2 s.rv.length z2) (.slice x3 s.sg.length z3)
    have q2 := row_four o2 (k := w.heap.size + 1) (by omega) (.slice x1 s.ws.length z1) (.int .i64 s.nx) (.slice x2 s.rv.length z2) (.slice x3 s.sg.length z3)
    have q3 := row_four o3 (k := w.heap.size + 1) (by omega) (.slice x1 s.ws.length z1) (.int .i64 s.nx) (.slice x2 s.rv.length z2) (.slice x3 s.sg.length z3)
    go_wp2_with fail
    clear r0 r1 r2 r3 f0 f1 f2 f3
    generalize (((w7.setCell ⟨w.heap.size + 1, 0, none⟩ (.slice x1 s.ws.length z1)).setCell ⟨w.heap.size + 1, 1, none⟩ (.int .i64 s.nx)).setCell ⟨w.heap.size + 1, 2, none⟩ (.slice x2 s.rv.length z2)).setCell ⟨w.heap.size + 1, 3, none⟩ (.slice x3 s.sg.length z3) = W9 at *
    obtain ⟨d0, d1, d2, d3⟩ := G.c
    exact bodyPost_ret (v := .tuple #[.agg #[.slice x1 s.ws.length z1, .int .i64 s.nx, .slice x2 s.rv.length z2, .slice x3 s.sg.length z3], .slice none 0 0, .int .i64 4]) (by simp [results, Tryz.results6, go_sem, d0, d1, d2, d3]) rfl ⟨_, _, by rw [HI.out]; rfl, by rw [HX.out]; exact IsO.of (Go.Joins.ownsRow_le q1 hbo) (Go.Joins.ownsRow_le q2 hbo) (Go.Joins.ownsRow_le q3 hbo), by rw [HL.out]; exact World.ownsRow_nil _ _ _ _, pB⟩
  have HI := hid (show itE s name tq nw li = .nil by rw [HM.out]; exact maE_yes hlv hfu)
  have HL := hid (itL_yes HI.out)
  have hgk := itK_good HB.out
  have hhas := livW_has hlv
  obtain ⟨mm, HMM⟩ : ∃ m, Hid (m = mnI (nw + li) 100000) := ⟨_, hid rfl⟩
  have HX := hid (show hdX (itE s name tq nw li) s [itK s name tq nw li] name = sgX s [itK s name tq nw li] name by rw [HI.out]; rfl)
  clear HM hlv hfu HB
  obtain ⟨a0, a1, a2, a3⟩ := F1.c
  have hBl : Below w7.heap.size w7 (w7.alloc (.cells #[.string name, .string tq, .int .i64 s.nx, .int .i64 nw, .int .i64 mm] 38)) := (Below.refl _ w7).alloc (Nat.le_refl _) _
  have rl : (w7.alloc (.cells #[.string name, .string tq, .int .i64 s.nx, .int .i64 nw, .int .i64 mm] 38)).ownsRow w7.heap.size 38 5 (.slice (some ⟨w7.heap.size, 0, none⟩) 1 1) 1 (itK s name tq nw li).cells := by
    have q := row_five5 w7 (itK s name tq nw li)
    rw [show (itK s name tq nw li).un = mm from HMM.out.symm] at q
    exact q
  obtain ⟨b0, b1, b2, b3⟩ := (F1.below hBl).c
  replace F2 := F2.below hBl
  replace o1 := ownsRow_below o1 hBl
  replace o2 := ownsRow_below o2 hBl
  replace o3 := ownsRow_below o3 hBl
  replace hBB := below_one hBB hBl
  have hs8 := hBl.size
  by_cases hun : (100000 : Int) < nw + li
  · have du : decide ((100000 : Int) < nw + li) = true := decide_eq_true hun
    obtain rfl : mm = 100000 := by rw [HMM.out]; unfold mnI; omega
    go_wp2_with fail
    generalize w7.alloc (.cells #[.string name, .string tq, .int .i64 s.nx, .int .i64 nw, .int .i64 100000] 38) = W8 at *
    have hlk := rl
    refine (l4Sign_any s x1 x2 x3 z1 z2 z3 w7.heap.size 0 1 [itK s name tq nw li] name w3.heap.size w4.heap.size w7.heap.size _ hs (by omega) o1 o2 o3 u1 u3 ⟨by omega, by omega⟩ hhd.2.2.2 hhas rfl (by simp) (by intro k hk; rw [List.mem_singleton.1 hk]; exact hgk) (by intro k hk; rw [List.mem_singleton.1 hk]; exact hm3) rfl (by simpa using rl)).mono ?_
    rintro e w9 ⟨v9, rfl, O9, rl9, hM9⟩
    clear rl hlk o1 o2 o3 a0 a1 a2 a3 b0 b1 b2 b3
    obtain ⟨t, HT⟩ : ∃ t, Hid (t = sgX s [itK s name tq nw li] name) := ⟨_, hid rfl⟩
    rw [← HT.out] at O9
    replace F2 := hM9.four F2 (.inl (by omega))
    replace hBB := hBB.trans (hM9.below (n := w.heap.size) (by omega) hBB.size)
    obtain ⟨x4, z4, x5, z5, x6, z6, rfl⟩ := is_forms O9.a
    obtain ⟨_, _, _, ee, o1, o2, o3, t1, t2, t3⟩ := O9
    cases ee
    obtain ⟨r0, r1, r2, r3⟩ := F2.c
    have f0 := F2.f 0
    have f1 := F2.f 1
    have f2 := F2.f 2
    have f3 := F2.f 3
    have G := (((F2.s0 (.slice x4 t.ws.length z4)).s1 (.int .i64 t.nx)).s2 (.slice x5 t.rv.length z5)).s3 (.slice x6 t.sg.length z6)
    have pB := below_four hBB (k := w.heap.size + 1) (by omega) (.slice x4 t.ws.length z4) (.int .i64 t.nx) (.slice x5 t.rv.length z5) (.slice x6 t.sg.length z6)
    have q1 := row_four o1 (k := w.heap.size + 1) (by omega) (.slice x4 t.ws.length z4) (.int .i64 t.nx) (.slice x5 t.rv.length z5) (.slice x6 t.sg.length z6)
    have q2 := row_four o2 (k := w.heap.size + 1) (by omega) (.slice x4 t.ws.length z4) (.int .i64 t.nx) (.slice x5 t.rv.length z5) (.slice x6 t.sg.length z6)
    have q3 := row_four o3 (k := w.heap.size + 1) (by omega) (.slice x4 t.ws.length z4) (.int .i64 t.nx) (.slice x5 t.rv.length z5) (.slice x6 t.sg.length z6)
    have ql := rowaw rl9 (k := w.heap.size + 1) (fun e => row_apart rl9 F2 (by decide) (w.heap.size + 1) e rfl) (.slice x4 t.ws.length z4) (.int .i64 t.nx) (.slice x5 t.rv.length z5) (.slice x6 t.sg.length z6)
    go_wp2_with fail
    clear r0 r1 r2 r3 f0 f1 f2 f3
    generalize (((w9.setCell ⟨w.heap.size + 1, 0, none⟩ (.slice x4 t.ws.length z4)).setCell ⟨w.heap.size + 1, 1, none⟩ (.int .i64 t.nx)).setCell ⟨w.heap.size + 1, 2, none⟩ (.slice x5 t.rv.length z5)).setCell ⟨w.heap.size + 1, 3, none⟩ (.slice x6 t.sg.length z6) = W9 at *
    obtain ⟨d0, d1, d2, d3⟩ := G.c
    exact bodyPost_ret (v := .tuple #[.agg #[.slice x4 t.ws.length z4, .int .i64 t.nx, .slice x5 t.rv.length z5, .slice x6 t.sg.length z6], .slice (some ⟨w7.heap.size, 0, none⟩) 1 1, .int .i64 0]) (by simp [results, Tryz.results6, go_sem, d0, d1, d2, d3]) rfl ⟨_, _, by rw [HI.out]; rfl, by rw [HX.out, ← HT.out]; exact IsO.of (Go.Joins.ownsRow_le q1 hbo) (Go.Joins.ownsRow_le q2 hbo) (Go.Joins.ownsRow_le q3 hbo), by rw [HL.out]; exact Go.Joins.ownsRow_le ql (by omega), pB⟩
  · have du : decide ((100000 : Int) < nw + li) = false := decide_eq_false hun
    obtain rfl : mm = nw + li := by rw [HMM.out]; unfold mnI; omega
    go_wp2_with fail
    generalize w7.alloc (.cells #[.string name, .string tq, .int .i64 s.nx, .int .i64 nw, .int .i64 (nw + li)] 38) = W8 at *
    have hlk := rl
    refine (l4Sign_any s x1 x2 x3 z1 z2 z3 w7.heap.size 0 1 [itK s name tq nw li] name w3.heap.size w4.heap.size w7.heap.size _ hs (by omega) o1 o2 o3 u1 u3 ⟨by omega, by omega⟩ hhd.2.2.2 hhas rfl (by simp) (by intro k hk; rw [List.mem_singleton.1 hk]; exact hgk) (by intro k hk; rw [List.mem_singleton.1 hk]; exact hm3) rfl (by simpa using rl)).mono ?_
    rintro e w9 ⟨v9, rfl, O9, rl9, hM9⟩
    clear rl hlk o1 o2 o3 a0 a1 a2 a3 b0 b1 b2 b3
    obtain ⟨t, HT⟩ : ∃ t, Hid (t = sgX s [itK s name tq nw li] name) := ⟨_, hid rfl⟩
    rw [← HT.out] at O9
    replace F2 := hM9.four F2 (.inl (by omega))
    replace hBB := hBB.trans (hM9.below (n := w.heap.size) (by omega) hBB.size)
    obtain ⟨x4, z4, x5, z5, x6, z6, rfl⟩ := is_forms O9.a
    obtain ⟨_, _, _, ee, o1, o2, o3, t1, t2, t3⟩ := O9
    cases ee
    obtain ⟨r0, r1, r2, r3⟩ := F2.c
    have f0 := F2.f 0
    have f1 := F2.f 1
    have f2 := F2.f 2
    have f3 := F2.f 3
    have G := (((F2.s0 (.slice x4 t.ws.length z4)).s1 (.int .i64 t.nx)).s2 (.slice x5 t.rv.length z5)).s3 (.slice x6 t.sg.length z6)
    have pB := below_four hBB (k := w.heap.size + 1) (by omega) (.slice x4 t.ws.length z4) (.int .i64 t.nx) (.slice x5 t.rv.length z5) (.slice x6 t.sg.length z6)
    have q1 := row_four o1 (k := w.heap.size + 1) (by omega) (.slice x4 t.ws.length z4) (.int .i64 t.nx) (.slice x5 t.rv.length z5) (.slice x6 t.sg.length z6)
    have q2 := row_four o2 (k := w.heap.size + 1) (by omega) (.slice x4 t.ws.length z4) (.int .i64 t.nx) (.slice x5 t.rv.length z5) (.slice x6 t.sg.length z6)
    have q3 := row_four o3 (k := w.heap.size + 1) (by omega) (.slice x4 t.ws.length z4) (.int .i64 t.nx) (.slice x5 t.rv.length z5) (.slice x6 t.sg.length z6)
    have ql := rowaw rl9 (k := w.heap.size + 1) (fun e => row_apart rl9 F2 (by decide) (w.heap.size + 1) e rfl) (.slice x4 t.ws.length z4) (.int .i64 t.nx) (.slice x5 t.rv.length z5) (.slice x6 t.sg.length z6)
    go_wp2_with fail
    clear r0 r1 r2 r3 f0 f1 f2 f3
    generalize (((w9.setCell ⟨w.heap.size + 1, 0, none⟩ (.slice x4 t.ws.length z4)).setCell ⟨w.heap.size + 1, 1, none⟩ (.int .i64 t.nx)).setCell ⟨w.heap.size + 1, 2, none⟩ (.slice x5 t.rv.length z5)).setCell ⟨w.heap.size + 1, 3, none⟩ (.slice x6 t.sg.length z6) = W9 at *
    obtain ⟨d0, d1, d2, d3⟩ := G.c
    exact bodyPost_ret (v := .tuple #[.agg #[.slice x4 t.ws.length z4, .int .i64 t.nx, .slice x5 t.rv.length z5, .slice x6 t.sg.length z6], .slice (some ⟨w7.heap.size, 0, none⟩) 1 1, .int .i64 0]) (by simp [results, Tryz.results6, go_sem, d0, d1, d2, d3]) rfl ⟨_, _, by rw [HI.out]; rfl, by rw [HX.out, ← HT.out]; exact IsO.of (Go.Joins.ownsRow_le q1 hbo) (Go.Joins.ownsRow_le q2 hbo) (Go.Joins.ownsRow_le q3 hbo), by rw [HL.out]; exact Go.Joins.ownsRow_le ql (by omega), pB⟩

end Go.Proofs.YtallpldgkkpikaaGreatDoor

namespace Go.Proofs.YtallpldgkkpikaaGreatDoor
open Go.RowKit Go.Shelf

theorem ret_xb {v : Value} {b c : Bool} (h : b = c) : Ending.returned (.tuple #[v, .bool b]) = .returned (.tuple #[v, .bool c]) := by rw [h]
theorem ext_fit {ks : List Lk} {k : Lk} {tw : ByteArray} {se nw li : Int} (hf : ∀ k ∈ ks, k.size ≤ 1048576) (hk : k ∈ ks) (hto : tw.size ≤ 1048576) : ∀ x ∈ ks ++ [ext1 k tw se nw li], x.who.size ≤ 1048576 ∧ x.to.size ≤ 1048576 := by
  intro x hx
  have h1 := hf k hk
  rcases List.mem_append.1 hx with h | h
  · have := hf x h
    unfold Lk.size at this
    omega
  · rw [List.mem_singleton.1 h]
    unfold ext1
    unfold Lk.size at h1
    simp only
    omega

set_option maxHeartbeats 2000000 in
theorem specExtendToken_any (v : Value) (ks : List Lk) (tw : ByteArray) (se nw li : Int) (w : World) (hm : ks.length ≤ 1048577) (hf : ∀ k ∈ ks, k.size ≤ 1048576) (hto : tw.size ≤ 1048576) (hr : LkS w v ks) :
    Calls Tryz.prog 73 #[v, .string tw, .int .i64 se, .int .i64 nw, .int .i64 li] w fun e w' => ∃ v', e = .returned (.tuple #[v', .bool (extB ks tw se nw li)]) ∧ w'.ownsRow w.heap.size 38 5 v' (extL ks tw se nw li).length ((extL ks tw se nw li).flatMap Lk.cells) ∧ Below w.heap.size w w' := by
  obtain ⟨a, cap, rfl⟩ := hr.len
  cases h1 : tkB ks
  · have hno := ext_tk (ks := ks) (tw := tw) (se := se) (nw := nw) (li := li) h1
    have HB := hid hno
    have HX := hid (ext_no hno)
    clear hno
    go_enter Tryz.func73, Tryz.ntmps73
    go_wp2_with fail
    refine (specGoodToken_any _ ks _ hm hf hr).mono ?_
    rintro e w1 ⟨rfl, hB1⟩
    rw [h1]
    go_wp2_with fail
    go_ret2
    exact ⟨_, ret_xb HB.out.symm, by rw [HX.out]; exact World.ownsRow_nil _ _ _ _, hB1⟩
  · cases h2 : gnB (split tw 47)
    · have hno := ext_to (ks := ks) (tw := tw) (se := se) (nw := nw) (li := li) h2
      have HB := hid hno
      have HX := hid (ext_no hno)
      clear hno
      go_enter Tryz.func73, Tryz.ntmps73
      go_wp2_with fail
      refine (specGoodToken_any _ ks _ hm hf hr).mono ?_
      rintro e w1 ⟨rfl, hB1⟩
      rw [h1]
      go_wp2_with (first | (go_at_call 20; refine (specGoodName_any tw _ hto).mono ?_; rintro e w2 ⟨rfl, hB2⟩) | (go_at_call 96; refine (l3Serial_any _ _).mono ?_; rintro e wx ⟨rfl, rfl⟩) | (go_at_call 21; refine (l3Time_any _ _).mono ?_; rintro e wx ⟨rfl, rfl⟩))
      go_ret2
      exact ⟨_, ret_xb HB.out.symm, by rw [HX.out]; exact World.ownsRow_nil _ _ _ _, below_one hB1 hB2⟩
    · cases h3 : seB se
      · have hno := ext_se (ks := ks) (tw := tw) (se := se) (nw := nw) (li := li) h3
        have HB := hid hno
        have HX := hid (ext_no hno)
        clear hno
        go_enter Tryz.func73, Tryz.ntmps73
        go_wp2_with fail
        refine (specGoodToken_any _ ks _ hm hf hr).mono ?_
        rintro e w1 ⟨rfl, hB1⟩
        rw [h1]
        go_wp2_with (first | (go_at_call 20; refine (specGoodName_any tw _ hto).mono ?_; rintro e w2 ⟨rfl, hB2⟩) | (go_at_call 96; refine (l3Serial_any _ _).mono ?_; rintro e wx ⟨rfl, rfl⟩) | (go_at_call 21; refine (l3Time_any _ _).mono ?_; rintro e wx ⟨rfl, rfl⟩))
        go_ret2
        exact ⟨_, ret_xb HB.out.symm, by rw [HX.out]; exact World.ownsRow_nil _ _ _ _, below_one hB1 hB2⟩
      · cases h4 : tmB nw
        · have hno := ext_nw (ks := ks) (tw := tw) (se := se) (nw := nw) (li := li) h4
          have HB := hid hno
          have HX := hid (ext_no hno)
          clear hno
          go_enter Tryz.func73, Tryz.ntmps73
          go_wp2_with fail
          refine (specGoodToken_any _ ks _ hm hf hr).mono ?_
          rintro e w1 ⟨rfl, hB1⟩
          rw [h1]
          go_wp2_with (first | (go_at_call 20; refine (specGoodName_any tw _ hto).mono ?_; rintro e w2 ⟨rfl, hB2⟩) | (go_at_call 96; refine (l3Serial_any _ _).mono ?_; rintro e wx ⟨rfl, rfl⟩) | (go_at_call 21; refine (l3Time_any _ _).mono ?_; rintro e wx ⟨rfl, rfl⟩))
          go_ret2
          exact ⟨_, ret_xb HB.out.symm, by rw [HX.out]; exact World.ownsRow_nil _ _ _ _, below_one hB1 hB2⟩
        · cases h5 : tmB li
          · have hno := ext_li (ks := ks) (tw := tw) (se := se) (nw := nw) (li := li) h5
            have HB := hid hno
            have HX := hid (ext_no hno)
            clear hno
            go_enter Tryz.func73, Tryz.ntmps73
            go_wp2_with fail
            refine (specGoodToken_any _ ks _ hm hf hr).mono ?_
            rintro e w1 ⟨rfl, hB1⟩
            rw [h1]
            go_wp2_with (first | (go_at_call 20; refine (specGoodName_any tw _ hto).mono ?_; rintro e w2 ⟨rfl, hB2⟩) | (go_at_call 96; refine (l3Serial_any _ _).mono ?_; rintro e wx ⟨rfl, rfl⟩) | (go_at_call 21; refine (l3Time_any _ _).mono ?_; rintro e wx ⟨rfl, rfl⟩))
            go_ret2
            exact ⟨_, ret_xb HB.out.symm, by rw [HX.out]; exact World.ownsRow_nil _ _ _ _, below_one hB1 hB2⟩
          · obtain ⟨m, hmm⟩ : ∃ m, m = ks.length - 1 := ⟨_, rfl⟩
            have hl := tkB_len h1
            have hml : m < ks.length := by omega
            have HA := hid (ext_at hml hmm tw se nw li)
            have HY := hid (fun h => ext_yes hml hmm (tw := tw) (se := se) (nw := nw) (li := li) h)
            have hfit := ext_fit (se := se) (nw := nw) (li := li) hf (List.getElem_mem hml) hto
            have hE := fun W hW => l3Extend_any (.slice a ks.length cap) ks tw se nw li m W hl.2 hml hmm h4 h5 hW
            have hll : (ks ++ [ext1 ks[m] tw se nw li]).length ≤ 1048577 := by simp; omega
            generalize hg : ext1 ks[m] tw se nw li = x at *
            clear hg hmm
            generalize ks ++ [x] = ys at *
            cases h6 : tkB ys
            · have hno : extB ks tw se nw li = false := by rw [HA.out, h1, h4, h5, h6]; rfl
              have HB := hid hno
              have HX := hid (ext_no hno)
              clear hno
              go_enter Tryz.func73, Tryz.ntmps73
              go_wp2_with fail
              refine (specGoodToken_any _ ks _ hm hf hr).mono ?_
              rintro e w1 ⟨rfl, hB1⟩
              rw [h1]
              go_wp2_with (first | (go_at_call 20; refine (specGoodName_any tw _ hto).mono ?_; rintro e w2 ⟨rfl, hB2⟩) | (go_at_call 96; refine (l3Serial_any _ _).mono ?_; rintro e wx ⟨rfl, rfl⟩) | (go_at_call 21; refine (l3Time_any _ _).mono ?_; rintro e wx ⟨rfl, rfl⟩))
              have hB12 := below_one hB1 hB2
              refine (hE _ (hr.below hB12)).mono ?_
              rintro e w3 ⟨v3, rfl, hrow, hB3'⟩
              have hB3 := below_one hB12 hB3'
              have hz12 := hB12.size
              obtain ⟨a3, cap3, rfl⟩ := ownsRow_len hrow
              go_wp2_with fail
              refine (specGoodToken_fit _ ys _ hll hfit (LkS.own hrow)).mono ?_
              rintro e w4 ⟨rfl, hB4⟩
              rw [h6]
              go_wp2_with fail
              go_ret2
              exact ⟨_, ret_xb HB.out.symm, by rw [HX.out]; exact World.ownsRow_nil _ _ _ _, below_one hB3 hB4⟩
            · have hy : extB ks tw se nw li = true := by rw [HA.out, h1, h4, h5, h6]; rfl
              have HB := hid hy
              have HX := hid (HY.out hy)
              clear hy
              go_enter Tryz.func73, Tryz.ntmps73
              go_wp2_with fail
              refine (specGoodToken_any _ ks _ hm hf hr).mono ?_
              rintro e w1 ⟨rfl, hB1⟩
              rw [h1]
              go_wp2_with (first | (go_at_call 20; refine (specGoodName_any tw _ hto).mono ?_; rintro e w2 ⟨rfl, hB2⟩) | (go_at_call 96; refine (l3Serial_any _ _).mono ?_; rintro e wx ⟨rfl, rfl⟩) | (go_at_call 21; refine (l3Time_any _ _).mono ?_; rintro e wx ⟨rfl, rfl⟩))
              have hB12 := below_one hB1 hB2
              refine (hE _ (hr.below hB12)).mono ?_
              rintro e w3 ⟨v3, rfl, hrow, hB3'⟩
              have hB3 := below_one hB12 hB3'
              have hz12 := hB12.size
              obtain ⟨a3, cap3, rfl⟩ := ownsRow_len hrow
              go_wp2_with fail
              refine (specGoodToken_fit _ ys _ hll hfit (LkS.own hrow)).mono ?_
              rintro e w4 ⟨rfl, hB4⟩
              rw [h6]
              go_wp2_with fail
              go_ret2
              exact ⟨_, ret_xb HB.out.symm, by rw [HX.out]; exact Go.Joins.ownsRow_le (ownsRow_below hrow hB4) hz12, below_one hB3 hB4⟩

end Go.Proofs.YtallpldgkkpikaaGreatDoor

namespace Go.Proofs.YtallpldgkkpikaaGreatDoor
open Go.RowKit Go.Shelf

end Go.Proofs.YtallpldgkkpikaaGreatDoor
