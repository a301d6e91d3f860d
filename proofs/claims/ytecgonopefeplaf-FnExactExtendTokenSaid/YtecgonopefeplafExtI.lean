/-
  Chapter 3: ExtendToken, by the program.
-/
import Derived.Deep.DeepCutAuto
import Derived.Test.YtecgonopefeplafExtP
namespace Go.Proofs.Ytecgonopefeplaf
open Go.RowKit Go.Shelf

set_option maxHeartbeats 8000000 in
theorem implExtendToken_any (v : Value) (ks : List Lk) (tq : ByteArray) (se nw li : Int) (w : World) (hm : ks.length ≤ 1048577) (hf : ∀ k ∈ ks, k.size ≤ 1048576) (hto : tq.size ≤ 1048576) (hr : LkS w v ks) :
    Calls Try.prog 17 #[v, .string tq, .int .i64 se, .int .i64 nw, .int .i64 li] w fun e w' => ∃ v', e = .returned (.tuple #[v', .bool (extB ks tq se nw li)]) ∧ w'.ownsRow w.heap.size 57 5 v' (extL ks tq se nw li).length ((extL ks tq se nw li).flatMap Lk.cells) ∧ Below w.heap.size w w' := by
  obtain ⟨a, cap, rfl⟩ := hr.len
  cases h1 : tkB ks
  · have hno : extB ks tq se nw li = false := ext_tk h1
    have HB := hid hno
    have HX := hid (ext_no hno)
    clear hno
    go_enter Try.func17, Try.ntmps17
    go_wp2_with fail
    refine (implGoodToken_any _ ks _ hm hf hr).mono ?_
    rintro e w1 ⟨rfl, hB1⟩
    rw [h1]
    go_wp2_with fail
    go_ret2
    exact ⟨_, ret_xb HB.out.symm, by rw [HX.out]; exact World.ownsRow_nil _ _ _ _, hB1⟩
  · cases h2 : tmB nw
    · have hno : extB ks tq se nw li = false := ext_nw h2
      have HB := hid hno
      have HX := hid (ext_no hno)
      clear hno
      go_enter Try.func17, Try.ntmps17
      go_wp2_with fail
      refine (implGoodToken_any _ ks _ hm hf hr).mono ?_
      rintro e w1 ⟨rfl, hB1⟩
      rw [h1]
      go_wp2_with (go_at_call 39; refine (goodTime_any _ _).mono ?_; rintro e wx ⟨rfl, rfl⟩)
      go_ret2
      exact ⟨_, ret_xb HB.out.symm, by rw [HX.out]; exact World.ownsRow_nil _ _ _ _, hB1⟩
    · cases h3 : tmB li
      · have hno : extB ks tq se nw li = false := ext_li h3
        have HB := hid hno
        have HX := hid (ext_no hno)
        clear hno
        go_enter Try.func17, Try.ntmps17
        go_wp2_with fail
        refine (implGoodToken_any _ ks _ hm hf hr).mono ?_
        rintro e w1 ⟨rfl, hB1⟩
        rw [h1]
        go_wp2_with (go_at_call 39; refine (goodTime_any _ _).mono ?_; rintro e wx ⟨rfl, rfl⟩)
        go_ret2
        exact ⟨_, ret_xb HB.out.symm, by rw [HX.out]; exact World.ownsRow_nil _ _ _ _, hB1⟩
      · obtain ⟨i0, hi, hz0, hz1, hz2⟩ := info_parts infoLink
        obtain ⟨m, hmm⟩ : ∃ m, m = ks.length - 1 := ⟨_, rfl⟩
        have hl := tkB_len h1
        have hml : m < ks.length := by omega
        have HA := hid (ext_at hml hmm tq se nw li)
        have HY := hid (fun h : extB ks tq se nw li = true => ext_yes hml hmm h)
        have hfit := ext_fit (se := se) (nw := nw) (li := li) hf (List.getElem_mem hml) hto
        have hw1 : IntKind.i64.wrap ((ks.length : Int) - 1) = (m : Int) := by rw [IntKind.wrap_i64]; omega
        have hw2 : (m : Int) < (ks.length : Int) := by omega
        obtain ⟨b, off, rfl, hb, hcap, q0, q1, q2, q3, q4⟩ := hr.at hml
        generalize ks[m] = k at *
        clear hmm
        go_enter Try.func17, Try.ntmps17
        go_wp2_with fail
        refine (implGoodToken_any _ ks _ hm hf hr).mono ?_
        rintro e w1 ⟨rfl, hB1⟩
        rw [h1]
        have e0 := (hB1.cell (p := ⟨b, off + m * 5, none⟩) hb).trans q0
        have e1 := (hB1.cell (p := ⟨b, off + m * 5 + 1, none⟩) hb).trans q1
        have e2 := (hB1.cell (p := ⟨b, off + m * 5 + 2, none⟩) hb).trans q2
        have e3 := (hB1.cell (p := ⟨b, off + m * 5 + 3, none⟩) hb).trans q3
        have e4 := (hB1.cell (p := ⟨b, off + m * 5 + 4, none⟩) hb).trans q4
        clear q0 q1 q2 q3 q4
        go_wp2_with (go_at_call 39; refine (goodTime_any _ _).mono ?_; rintro e wx ⟨rfl, rfl⟩)
        refine (hopOf_any k _).mono ?_
        rintro e w2 ⟨rfl, hB2⟩
        have hB12 := below_one hB1 hB2
        clear e0 e1 e2 e3 e4
        go_upto_region 4 with fail
        have hBW : Below w.heap.size w (w2.alloc (.cells #[.string k.who, .string k.to, .int .i64 k.fr, .int .i64 k.un, .int .i64 k.se] 65)) := hB12.alloc hB12.size _
        have hgb : w2.heap.size < (w2.alloc (.cells #[.string k.who, .string k.to, .int .i64 k.fr, .int .i64 k.un, .int .i64 k.se] 65)).heap.size := by simp
        have x0 : (w2.alloc (.cells #[.string k.who, .string k.to, .int .i64 k.fr, .int .i64 k.un, .int .i64 k.se] 65)).cell? ⟨w2.heap.size, 0, none⟩ = some (.string k.who) := by simp
        have x1 : (w2.alloc (.cells #[.string k.who, .string k.to, .int .i64 k.fr, .int .i64 k.un, .int .i64 k.se] 65)).cell? ⟨w2.heap.size, 1, none⟩ = some (.string k.to) := by simp
        have x2 : (w2.alloc (.cells #[.string k.who, .string k.to, .int .i64 k.fr, .int .i64 k.un, .int .i64 k.se] 65)).cell? ⟨w2.heap.size, 2, none⟩ = some (.int .i64 k.fr) := by simp
        have x3 : (w2.alloc (.cells #[.string k.who, .string k.to, .int .i64 k.fr, .int .i64 k.un, .int .i64 k.se] 65)).cell? ⟨w2.heap.size, 3, none⟩ = some (.int .i64 k.un) := by simp
        have x4 : (w2.alloc (.cells #[.string k.who, .string k.to, .int .i64 k.fr, .int .i64 k.un, .int .i64 k.se] 65)).cell? ⟨w2.heap.size, 4, none⟩ = some (.int .i64 k.se) := by simp
        generalize w2.alloc (.cells #[.string k.who, .string k.to, .int .i64 k.fr, .int .i64 k.un, .int .i64 k.se] 65) = W at *
        generalize w2.heap.size = gb at *
        clear hB2
        go_cut [13] (fun s1 wx => ∃ N : Nat, s1 = .pointer (some ⟨N, 0, none⟩) ∧ wx.cell? ⟨N, 0, none⟩ = some (.string k.to) ∧ wx.cell? ⟨N, 1, none⟩ = some (.string tq) ∧ wx.cell? ⟨N, 2, none⟩ = some (.int .i64 nw) ∧ wx.cell? ⟨N, 3, none⟩ = some (.int .i64 (mnI (nw + li) k.un)) ∧ wx.cell? ⟨N, 4, none⟩ = some (.int .i64 se) ∧ Below w.heap.size w wx)
        case first =>
          refine wp_region_held_drew (S := fun w' => w'.cell? ⟨gb, 0, none⟩ = some (.string k.who) ∧ w'.cell? ⟨gb, 1, none⟩ = some (.string k.to) ∧ w'.cell? ⟨gb, 2, none⟩ = some (.int .i64 k.fr) ∧ w'.cell? ⟨gb, 3, none⟩ = some (.int .i64 k.un)) (by kernel_rfl) ?_ (fun hHeld => ?_)
          · go_keep
          clear hHeld
          have y0 : W.drew.cell? ⟨gb, 0, none⟩ = some (.string k.who) := x0
          have y1 : W.drew.cell? ⟨gb, 1, none⟩ = some (.string k.to) := x1
          have y2 : W.drew.cell? ⟨gb, 2, none⟩ = some (.int .i64 k.fr) := x2
          have y3 : W.drew.cell? ⟨gb, 3, none⟩ = some (.int .i64 k.un) := x3
          have hgb' : gb < W.drew.heap.size := hgb
          have hBW' : Below w.heap.size w W.drew := hBW.drew
          have hHeld : (fun w' => w'.cell? ⟨gb, 0, none⟩ = some (.string k.who) ∧ w'.cell? ⟨gb, 1, none⟩ = some (.string k.to) ∧ w'.cell? ⟨gb, 2, none⟩ = some (.int .i64 k.fr) ∧ w'.cell? ⟨gb, 3, none⟩ = some (.int .i64 k.un)) W.drew := ⟨y0, y1, y2, y3⟩
          generalize W.drew = V at *
          clear x0 x1 x2 x3 x4 hBW hgb
          have hVz := hBW'.size
          refine takeW 0 (v := ?v1) rfl (by kernel_rfl) (by kernel_rfl) (by kernel_rfl) (fun _ _ _ h => h) (by rfl) (by assumption) ?hy1 ?rest1
          case hy1 => intro w' hSw; (try dsimp only at hSw); go_simp; try with_reducible rfl
          try simp only [Act.put, List.setIfInBounds_toArray, List.set_cons_zero, List.set_cons_succ]
          refine takeW 1 (v := ?v2) rfl (by kernel_rfl) (by kernel_rfl) (by kernel_rfl) (fun _ _ _ h => h) (by rfl) (by assumption) ?hy2 ?rest2
          case hy2 => intro w' hSw; (try dsimp only at hSw); go_simp; try with_reducible rfl
          try simp only [Act.put, List.setIfInBounds_toArray, List.set_cons_zero, List.set_cons_succ]
          refine takeW 2 (v := ?v3) rfl (by kernel_rfl) (by kernel_rfl) (by kernel_rfl) (fun _ _ _ h => h) (by rfl) (by assumption) ?hy3 ?rest3
          case hy3 => intro w' hSw; (try dsimp only at hSw); go_simp; try with_reducible rfl
          try simp only [Act.put, List.setIfInBounds_toArray, List.set_cons_zero, List.set_cons_succ]
          refine takeW 4 (v := ?v4) rfl (by kernel_rfl) (by kernel_rfl) (by kernel_rfl) (fun _ _ _ h => h) (by rfl) (by assumption) ?hy4 ?rest4
          case hy4 => intro w' hSw; (try dsimp only at hSw); go_simp; try with_reducible rfl
          try simp only [Act.put, List.setIfInBounds_toArray, List.set_cons_zero, List.set_cons_succ]
          refine takeW 5 (v := ?v5) rfl (by kernel_rfl) (by kernel_rfl) (by kernel_rfl) (fun _ _ _ h => h) (by rfl) (by assumption) ?hy5 ?rest5
          case hy5 => intro w' hSw; (try dsimp only at hSw); go_simp; try with_reducible rfl
          try simp only [Act.put, List.setIfInBounds_toArray, List.set_cons_zero, List.set_cons_succ]
          refine takeW 6 (v := ?v6) rfl (by kernel_rfl) (by kernel_rfl) (by kernel_rfl) (fun _ _ _ h => h) (by rfl) (by assumption) ?hy6 ?rest6
          case hy6 => intro w' hSw; (try dsimp only at hSw); go_simp; try with_reducible rfl
          try simp only [Act.put, List.setIfInBounds_toArray, List.set_cons_zero, List.set_cons_succ]
          refine takeW 7 (v := ?v7) rfl (by kernel_rfl) (by kernel_rfl) (by kernel_rfl) (fun _ _ _ h => h) (by rfl) (by assumption) ?hy7 ?rest7
          case hy7 => intro w' hSw; (try dsimp only at hSw); go_simp; try with_reducible rfl
          try simp only [Act.put, List.setIfInBounds_toArray, List.set_cons_zero, List.set_cons_succ]
          refine takeW 9 (v := ?v8) rfl (by kernel_rfl) (by kernel_rfl) (by kernel_rfl) (fun _ _ _ h => h) (by rfl) (by assumption) ?hy8 ?rest8
          case hy8 => intro w' hSw; (try dsimp only at hSw); go_simp; try with_reducible rfl
          try simp only [Act.put, List.setIfInBounds_toArray, List.set_cons_zero, List.set_cons_succ]
          refine wpAnyH_ready (rs := [3, 11]) (by kernel_rfl) (by simp) ?_
          refine AllReadyH.cons (at_drop rfl) (fun K hK => ?_) (AllReadyH.cons (at_drop rfl) (fun K hK => ?_) AllReadyH.nil)
          · go_simp
            refine (onTo_any k.who k.to tq _).mono ?_; rintro e' u1 ⟨rfl, hA⟩; have hAx0 := hA.cell (p := ⟨gb, 0, none⟩) hgb'; have hAx1 := hA.cell (p := ⟨gb, 1, none⟩) hgb'; have hAx2 := hA.cell (p := ⟨gb, 2, none⟩) hgb'; have hAx3 := hA.cell (p := ⟨gb, 3, none⟩) hgb'; have hgA := Nat.lt_of_lt_of_le hgb' hA.size; have hBA := below_one hBW' hA; have hAz := hBA.size
            refine hK.out _ _ ?_ (fun hHeld => ?_)
            · go_keep
            clear hK K
            try simp only [Act.put, List.setIfInBounds_toArray, List.set_cons_zero, List.set_cons_succ]
            refine wpAnyH_ready (rs := [8, 11]) (by kernel_rfl) (by simp) ?_
            refine AllReadyH.cons (at_drop rfl) (fun K hK => ?_) (AllReadyH.cons (at_drop rfl) (fun K hK => ?_) AllReadyH.nil)
            · go_simp
              refine (onFrom_any k.fr k.un nw li _ h2 h3).mono ?_; rintro e' u2 ⟨rfl, hC⟩; have hCx0 := hC.cell (p := ⟨gb, 0, none⟩) hgA; have hCx1 := hC.cell (p := ⟨gb, 1, none⟩) hgA; have hCx2 := hC.cell (p := ⟨gb, 2, none⟩) hgA; have hCx3 := hC.cell (p := ⟨gb, 3, none⟩) hgA; have hgC := Nat.lt_of_lt_of_le hgA hC.size; have hBC := below_one hBA hC; have hCz := hBC.size
              refine hK.out _ _ ?_ (fun hHeld => ?_)
              · go_keep
              clear hK K
              try simp only [Act.put, List.setIfInBounds_toArray, List.set_cons_zero, List.set_cons_succ]
              refine takeW 10 (v := ?v9) rfl (by kernel_rfl) (by kernel_rfl) (by kernel_rfl) (fun _ _ _ h => h) (by rfl) (by assumption) ?hy9 ?rest9
              case hy9 => intro w' hSw; (try dsimp only at hSw); go_simp; try with_reducible rfl
              try simp only [Act.put, List.setIfInBounds_toArray, List.set_cons_zero, List.set_cons_succ]
              refine takeC 11 (by kernel_rfl) rfl (fun K hK => ?_)
              go_simp
              skip
              refine hK.out _ _ ?_ (fun hHeld => ?_)
              · go_keep
              clear hK K
              try simp only [Act.put, List.setIfInBounds_toArray, List.set_cons_zero, List.set_cons_succ]
              refine takeC 12 (by kernel_rfl) rfl (fun K hK => ?_)
              go_simp
              skip
              refine hK.out _ _ ?_ (fun hHeld => ?_)
              · go_keep
              clear hK K
              try simp only [Act.put, List.setIfInBounds_toArray, List.set_cons_zero, List.set_cons_succ]
              refine wpAnyH_done (by kernel_rfl) ?_ _
              (try go_wp2_with fail)
              go_meet
              exact ⟨u2.heap.size, rfl, by first | simp [*] | simp [go_sem, *], by first | simp [*] | simp [go_sem, *], by first | simp [*] | simp [go_sem, *], by first | simp [*] | simp [go_sem, *], by first | simp [*] | simp [go_sem, *], hBC.alloc hBC.size _⟩
            · go_simp
              have hBD : Below w.heap.size w (u1.alloc (.cells #[.string ⟨#[]⟩, .string ⟨#[]⟩, .int .i64 0, .int .i64 0, .int .i64 0] 65)) := hBA.alloc hBA.size _; have hne2 : u1.heap.size ≠ gb := by omega
              refine hK.out _ _ ?_ (fun hHeld => ?_)
              · go_keep
              clear hK K
              try simp only [Act.put, List.setIfInBounds_toArray, List.set_cons_zero, List.set_cons_succ]
              refine takeC 8 (by kernel_rfl) rfl (fun K hK => ?_)
              go_simp
              refine (onFrom_any k.fr k.un nw li _ h2 h3).mono ?_; rintro e' u2 ⟨rfl, hC⟩; have hCx0 := hC.cell (p := ⟨gb, 0, none⟩) (by simp; omega); have hCx1 := hC.cell (p := ⟨gb, 1, none⟩) (by simp; omega); have hCx2 := hC.cell (p := ⟨gb, 2, none⟩) (by simp; omega); have hCx3 := hC.cell (p := ⟨gb, 3, none⟩) (by simp; omega); have hCz0 : u2.cell? ⟨u1.heap.size, 0, none⟩ = some (.string ⟨#[]⟩) := (hC.cell (p := ⟨u1.heap.size, 0, none⟩) (by simp)).trans (by simp); have hCz1 : u2.cell? ⟨u1.heap.size, 1, none⟩ = some (.string ⟨#[]⟩) := (hC.cell (p := ⟨u1.heap.size, 1, none⟩) (by simp)).trans (by simp); have hCz2 : u2.cell? ⟨u1.heap.size, 2, none⟩ = some (.int .i64 0) := (hC.cell (p := ⟨u1.heap.size, 2, none⟩) (by simp)).trans (by simp); have hCz3 : u2.cell? ⟨u1.heap.size, 3, none⟩ = some (.int .i64 0) := (hC.cell (p := ⟨u1.heap.size, 3, none⟩) (by simp)).trans (by simp); have hCz4 : u2.cell? ⟨u1.heap.size, 4, none⟩ = some (.int .i64 0) := (hC.cell (p := ⟨u1.heap.size, 4, none⟩) (by simp)).trans (by simp); have hCf0 : u2.frozen? ⟨u1.heap.size, 0, none⟩ = false := (hC.frozen (p := ⟨u1.heap.size, 0, none⟩) (by simp)).trans (by simp); have hCf1 : u2.frozen? ⟨u1.heap.size, 1, none⟩ = false := (hC.frozen (p := ⟨u1.heap.size, 1, none⟩) (by simp)).trans (by simp); have hCf2 : u2.frozen? ⟨u1.heap.size, 2, none⟩ = false := (hC.frozen (p := ⟨u1.heap.size, 2, none⟩) (by simp)).trans (by simp); have hCf3 : u2.frozen? ⟨u1.heap.size, 3, none⟩ = false := (hC.frozen (p := ⟨u1.heap.size, 3, none⟩) (by simp)).trans (by simp); have hCf4 : u2.frozen? ⟨u1.heap.size, 4, none⟩ = false := (hC.frozen (p := ⟨u1.heap.size, 4, none⟩) (by simp)).trans (by simp); have hBC := below_one hBD hC
              refine hK.out _ _ ?_ (fun hHeld => ?_)
              · go_keep
              clear hK K
              try simp only [Act.put, List.setIfInBounds_toArray, List.set_cons_zero, List.set_cons_succ]
              refine takeW 10 (v := ?v10) rfl (by kernel_rfl) (by kernel_rfl) (by kernel_rfl) (fun _ _ _ h => h) (by rfl) (by assumption) ?hy10 ?rest10
              case hy10 => intro w' hSw; (try dsimp only at hSw); go_simp; try with_reducible rfl
              try simp only [Act.put, List.setIfInBounds_toArray, List.set_cons_zero, List.set_cons_succ]
              refine takeC 12 (by kernel_rfl) rfl (fun K hK => ?_)
              go_simp
              skip
              refine hK.out _ _ ?_ (fun hHeld => ?_)
              · go_keep
              clear hK K
              try simp only [Act.put, List.setIfInBounds_toArray, List.set_cons_zero, List.set_cons_succ]
              refine wpAnyH_done (by kernel_rfl) ?_ _
              (try go_wp2_with fail)
              go_meet
              exact ⟨u1.heap.size, rfl, by first | simp [*] | simp [go_sem, *], by first | simp [*] | simp [go_sem, *], by first | simp [*] | simp [go_sem, *], by first | simp [*] | simp [go_sem, *], by first | simp [*] | simp [go_sem, *], (((((hBC).setCell (p := ⟨u1.heap.size, 0, none⟩) (by show w.heap.size ≤ u1.heap.size; omega) _).setCell (p := ⟨u1.heap.size, 1, none⟩) (by show w.heap.size ≤ u1.heap.size; omega) _).setCell (p := ⟨u1.heap.size, 2, none⟩) (by show w.heap.size ≤ u1.heap.size; omega) _).setCell (p := ⟨u1.heap.size, 3, none⟩) (by show w.heap.size ≤ u1.heap.size; omega) _).setCell (p := ⟨u1.heap.size, 4, none⟩) (by show w.heap.size ≤ u1.heap.size; omega) _⟩
          · go_simp
            have hBD : Below w.heap.size w (V.alloc (.cells #[.string ⟨#[]⟩, .string ⟨#[]⟩, .int .i64 0, .int .i64 0, .int .i64 0] 65)) := hBW'.alloc hVz _; have hne2 : V.heap.size ≠ gb := by omega
            refine hK.out _ _ ?_ (fun hHeld => ?_)
            · go_keep
            clear hK K
            try simp only [Act.put, List.setIfInBounds_toArray, List.set_cons_zero, List.set_cons_succ]
            refine takeC 3 (by kernel_rfl) rfl (fun K hK => ?_)
            go_simp
            refine (onTo_any k.who k.to tq _).mono ?_; rintro e' u1 ⟨rfl, hA⟩; have hAx0 := hA.cell (p := ⟨gb, 0, none⟩) (by simp; omega); have hAx1 := hA.cell (p := ⟨gb, 1, none⟩) (by simp; omega); have hAx2 := hA.cell (p := ⟨gb, 2, none⟩) (by simp; omega); have hAx3 := hA.cell (p := ⟨gb, 3, none⟩) (by simp; omega); have hAz0 : u1.cell? ⟨V.heap.size, 0, none⟩ = some (.string ⟨#[]⟩) := (hA.cell (p := ⟨V.heap.size, 0, none⟩) (by simp)).trans (by simp); have hAz1 : u1.cell? ⟨V.heap.size, 1, none⟩ = some (.string ⟨#[]⟩) := (hA.cell (p := ⟨V.heap.size, 1, none⟩) (by simp)).trans (by simp); have hAz2 : u1.cell? ⟨V.heap.size, 2, none⟩ = some (.int .i64 0) := (hA.cell (p := ⟨V.heap.size, 2, none⟩) (by simp)).trans (by simp); have hAz3 : u1.cell? ⟨V.heap.size, 3, none⟩ = some (.int .i64 0) := (hA.cell (p := ⟨V.heap.size, 3, none⟩) (by simp)).trans (by simp); have hAz4 : u1.cell? ⟨V.heap.size, 4, none⟩ = some (.int .i64 0) := (hA.cell (p := ⟨V.heap.size, 4, none⟩) (by simp)).trans (by simp); have hAf0 : u1.frozen? ⟨V.heap.size, 0, none⟩ = false := (hA.frozen (p := ⟨V.heap.size, 0, none⟩) (by simp)).trans (by simp); have hAf1 : u1.frozen? ⟨V.heap.size, 1, none⟩ = false := (hA.frozen (p := ⟨V.heap.size, 1, none⟩) (by simp)).trans (by simp); have hAf2 : u1.frozen? ⟨V.heap.size, 2, none⟩ = false := (hA.frozen (p := ⟨V.heap.size, 2, none⟩) (by simp)).trans (by simp); have hAf3 : u1.frozen? ⟨V.heap.size, 3, none⟩ = false := (hA.frozen (p := ⟨V.heap.size, 3, none⟩) (by simp)).trans (by simp); have hAf4 : u1.frozen? ⟨V.heap.size, 4, none⟩ = false := (hA.frozen (p := ⟨V.heap.size, 4, none⟩) (by simp)).trans (by simp); have hBA := below_one hBD hA
            have hgA : gb < u1.heap.size := by have := hA.size; simp at this; omega
            have hVA : V.heap.size < u1.heap.size := by have := hA.size; simp at this; omega
            refine hK.out _ _ ?_ (fun hHeld => ?_)
            · go_keep
            clear hK K
            try simp only [Act.put, List.setIfInBounds_toArray, List.set_cons_zero, List.set_cons_succ]
            refine takeC 8 (by kernel_rfl) rfl (fun K hK => ?_)
            go_simp
            refine (onFrom_any k.fr k.un nw li _ h2 h3).mono ?_; rintro e' u2 ⟨rfl, hC⟩; have hCx0 := hC.cell (p := ⟨gb, 0, none⟩) hgA; have hCx1 := hC.cell (p := ⟨gb, 1, none⟩) hgA; have hCx2 := hC.cell (p := ⟨gb, 2, none⟩) hgA; have hCx3 := hC.cell (p := ⟨gb, 3, none⟩) hgA; have hCz0 := (hC.cell (p := ⟨V.heap.size, 0, none⟩) hVA).trans hAz0; have hCz1 := (hC.cell (p := ⟨V.heap.size, 1, none⟩) hVA).trans hAz1; have hCz2 := (hC.cell (p := ⟨V.heap.size, 2, none⟩) hVA).trans hAz2; have hCz3 := (hC.cell (p := ⟨V.heap.size, 3, none⟩) hVA).trans hAz3; have hCz4 := (hC.cell (p := ⟨V.heap.size, 4, none⟩) hVA).trans hAz4; have hCf0 := (hC.frozen (p := ⟨V.heap.size, 0, none⟩) hVA).trans hAf0; have hCf1 := (hC.frozen (p := ⟨V.heap.size, 1, none⟩) hVA).trans hAf1; have hCf2 := (hC.frozen (p := ⟨V.heap.size, 2, none⟩) hVA).trans hAf2; have hCf3 := (hC.frozen (p := ⟨V.heap.size, 3, none⟩) hVA).trans hAf3; have hCf4 := (hC.frozen (p := ⟨V.heap.size, 4, none⟩) hVA).trans hAf4; have hBC := below_one hBA hC
            refine hK.out _ _ ?_ (fun hHeld => ?_)
            · go_keep
            clear hK K
            try simp only [Act.put, List.setIfInBounds_toArray, List.set_cons_zero, List.set_cons_succ]
            refine takeW 10 (v := ?v11) rfl (by kernel_rfl) (by kernel_rfl) (by kernel_rfl) (fun _ _ _ h => h) (by rfl) (by assumption) ?hy11 ?rest11
            case hy11 => intro w' hSw; (try dsimp only at hSw); go_simp; try with_reducible rfl
            try simp only [Act.put, List.setIfInBounds_toArray, List.set_cons_zero, List.set_cons_succ]
            refine takeC 12 (by kernel_rfl) rfl (fun K hK => ?_)
            go_simp
            skip
            refine hK.out _ _ ?_ (fun hHeld => ?_)
            · go_keep
            clear hK K
            try simp only [Act.put, List.setIfInBounds_toArray, List.set_cons_zero, List.set_cons_succ]
            refine wpAnyH_done (by kernel_rfl) ?_ _
            (try go_wp2_with fail)
            go_meet
            exact ⟨V.heap.size, rfl, by first | simp [*] | simp [go_sem, *], by first | simp [*] | simp [go_sem, *], by first | simp [*] | simp [go_sem, *], by first | simp [*] | simp [go_sem, *], by first | simp [*] | simp [go_sem, *], (((((hBC).setCell (p := ⟨V.heap.size, 0, none⟩) (by show w.heap.size ≤ V.heap.size; omega) _).setCell (p := ⟨V.heap.size, 1, none⟩) (by show w.heap.size ≤ V.heap.size; omega) _).setCell (p := ⟨V.heap.size, 2, none⟩) (by show w.heap.size ≤ V.heap.size; omega) _).setCell (p := ⟨V.heap.size, 3, none⟩) (by show w.heap.size ≤ V.heap.size; omega) _).setCell (p := ⟨V.heap.size, 4, none⟩) (by show w.heap.size ≤ V.heap.size; omega) _⟩
        case rest =>
          obtain ⟨N, rfl, c0, c1, c2, c3, c4, hBf⟩ := hcut
          go_wp2_with fail
          refine wp_region_held_drew (S := fun w' => w'.cell? ⟨N, 0, none⟩ = some (.string k.to) ∧ w'.cell? ⟨N, 1, none⟩ = some (.string tq) ∧ w'.cell? ⟨N, 2, none⟩ = some (.int .i64 nw) ∧ w'.cell? ⟨N, 3, none⟩ = some (.int .i64 (mnI (nw + li) k.un)) ∧ w'.cell? ⟨N, 4, none⟩ = some (.int .i64 se)) (by kernel_rfl) ?_ (fun hHeld => ?_)
          · go_keep
          clear hHeld
          have y0 : wc.drew.cell? ⟨N, 0, none⟩ = some (.string k.to) := c0
          have y1 : wc.drew.cell? ⟨N, 1, none⟩ = some (.string tq) := c1
          have y2 : wc.drew.cell? ⟨N, 2, none⟩ = some (.int .i64 nw) := c2
          have y3 : wc.drew.cell? ⟨N, 3, none⟩ = some (.int .i64 (mnI (nw + li) k.un)) := c3
          have y4 : wc.drew.cell? ⟨N, 4, none⟩ = some (.int .i64 se) := c4
          have hNl : N < wc.drew.heap.size := World.block_lt_of_cell? _ ⟨N, 0, none⟩ y0
          have hBW' : Below w.heap.size w wc.drew := hBf.drew
          have hHeld : (fun w' => w'.cell? ⟨N, 0, none⟩ = some (.string k.to) ∧ w'.cell? ⟨N, 1, none⟩ = some (.string tq) ∧ w'.cell? ⟨N, 2, none⟩ = some (.int .i64 nw) ∧ w'.cell? ⟨N, 3, none⟩ = some (.int .i64 (mnI (nw + li) k.un)) ∧ w'.cell? ⟨N, 4, none⟩ = some (.int .i64 se)) wc.drew := ⟨y0, y1, y2, y3, y4⟩
          generalize wc.drew = V at *
          clear c0 c1 c2 c3 c4 hBf
          have hVz := hBW'.size
          refine takeW 0 (v := ?v12) rfl (by kernel_rfl) (by kernel_rfl) (by kernel_rfl) (fun _ _ _ h => h) (by rfl) (by assumption) ?hy12 ?rest12
          case hy12 => intro w' hSw; (try dsimp only at hSw); go_simp; try with_reducible rfl
          try simp only [Act.put, List.setIfInBounds_toArray, List.set_cons_zero, List.set_cons_succ]
          refine takeW 2 (v := ?v13) rfl (by kernel_rfl) (by kernel_rfl) (by kernel_rfl) (fun _ _ _ h => h) (by rfl) (by assumption) ?hy13 ?rest13
          case hy13 => intro w' hSw; (try dsimp only at hSw); go_simp; try with_reducible rfl
          try simp only [Act.put, List.setIfInBounds_toArray, List.set_cons_zero, List.set_cons_succ]
          refine takeC 1 (by kernel_rfl) rfl (fun K hK => ?_)
          go_simp
          refine (cloneLinks_any b off ks.length cap ks _ hm (hr.below hBW') rfl).mono ?_; rintro e' u1 ⟨vc, rfl, hrowC, _, hC⟩; have hCx0 := hC.cell (p := ⟨N, 0, none⟩) hNl; have hCx1 := hC.cell (p := ⟨N, 1, none⟩) hNl; have hCx2 := hC.cell (p := ⟨N, 2, none⟩) hNl; have hCx3 := hC.cell (p := ⟨N, 3, none⟩) hNl; have hCx4 := hC.cell (p := ⟨N, 4, none⟩) hNl; have hNC := Nat.lt_of_lt_of_le hNl hC.size; have hBC := below_one hBW' hC
          refine hK.out _ _ ?_ (fun hHeld => ?_)
          · go_keep
          clear hK K
          try simp only [Act.put, List.setIfInBounds_toArray, List.set_cons_zero, List.set_cons_succ]
          refine takeC 3 (by kernel_rfl) rfl (fun K hK => ?_)
          go_simp
          refine (link_any ⟨k.to, tq, se, nw, mnI (nw + li) k.un⟩ _).mono ?_; rintro e' u2 ⟨rfl, hD⟩; have hDx0 := hD.cell (p := ⟨N, 0, none⟩) hNC; have hDx1 := hD.cell (p := ⟨N, 1, none⟩) hNC; have hDx2 := hD.cell (p := ⟨N, 2, none⟩) hNC; have hDx3 := hD.cell (p := ⟨N, 3, none⟩) hNC; have hDx4 := hD.cell (p := ⟨N, 4, none⟩) hNC; have hND := Nat.lt_of_lt_of_le hNC hD.size; have hBD := below_one hBC hD; have hrowD := ownsRow_below hrowC hD; have hzD : V.heap.size ≤ u2.heap.size := Nat.le_trans hC.size hD.size; have hBVD : Below V.heap.size V u2 := below_one hC hD
          refine hK.out _ _ ?_ (fun hHeld => ?_)
          · go_keep
          clear hK K
          try simp only [Act.put, List.setIfInBounds_toArray, List.set_cons_zero, List.set_cons_succ]
          refine takeC 4 (by kernel_rfl) rfl (fun K hK => ?_)
          go_simp
          have hBE : Below V.heap.size V (u2.alloc (.cells #[.string k.to, .string tq, .int .i64 se, .int .i64 nw, .int .i64 (mnI (nw + li) k.un)] 57)) := hBVD.alloc hBVD.size _; have hltC := hrowD.lt
          refine hK.out _ _ ?_ (fun hHeld => ?_)
          · go_keep
          clear hK K
          try simp only [Act.put, List.setIfInBounds_toArray, List.set_cons_zero, List.set_cons_succ]
          refine takeC 5 (by kernel_rfl) rfl (fun K hK => ?_)
          refine step_append3 rfl (.tmp 47) (.tmp 50) 33 rfl V.heap.size 57 i0 _ 5 56 Try.underlying33 hi hz0 hz1 hz2 rfl (by decide) _ ks.length (ks.flatMap Lk.cells) rfl (hrowD.alloc _) ⟨u2.heap.size, 0, none⟩ 1 1 (Lk.cells ⟨k.to, tq, se, nw, mnI (nw + li) k.un⟩) rfl rfl (cell_five_k u2 ⟨k.to, tq, se, nw, mnI (nw + li) k.un⟩) (by intro u hu; simp at hu; rcases hu with rfl | rfl | rfl | rfl | rfl <;> rfl) (by unfold maxLen; omega) (by omega) hBE.size ?_; intro v' u3 hown' hgrow; have hBF := below_row3 hBE hBE.size (hrowD.alloc _) hgrow; have hFx0 := (hBF.cell (p := ⟨N, 0, none⟩) hNl).trans y0; have hFx1 := (hBF.cell (p := ⟨N, 1, none⟩) hNl).trans y1; have hFx2 := (hBF.cell (p := ⟨N, 2, none⟩) hNl).trans y2; have hFx3 := (hBF.cell (p := ⟨N, 3, none⟩) hNl).trans y3; have hFx4 := (hBF.cell (p := ⟨N, 4, none⟩) hNl).trans y4
          refine hK.out _ _ ?_ (fun hHeld => ?_)
          · go_keep
          clear hK K
          try simp only [Act.put, List.setIfInBounds_toArray, List.set_cons_zero, List.set_cons_succ]
          refine takeW 6 (v := ?v14) rfl (by kernel_rfl) (by kernel_rfl) (by kernel_rfl) (fun _ _ _ h => h) (by rfl) (by assumption) ?hy14 ?rest14
          case hy14 => intro w' hSw; (try dsimp only at hSw); go_simp; try with_reducible rfl
          try simp only [Act.put, List.setIfInBounds_toArray, List.set_cons_zero, List.set_cons_succ]
          refine wpAnyH_done (by kernel_rfl) ?_ _
          have hBZ := below_one hBW' hBF
          have hrowZ : u3.ownsRow w.heap.size 57 5 v' (ks ++ [ext1 k tq se nw li]).length ((ks ++ [ext1 k tq se nw li]).flatMap Lk.cells) := by
            have h := Go.Joins.ownsRow_le hown' hVz
            simpa [ext1] using h
          have hll : (ks ++ [ext1 k tq se nw li]).length ≤ 1048577 := by simp; omega
          obtain ⟨av, cv, rfl⟩ := ownsRow_len hrowZ
          generalize ks ++ [ext1 k tq se nw li] = ys at *
          clear hown' hgrow hBF hBE hBVD hBD hBC hHeld hltC hrowD hrowC hC hD
          cases h6 : tkB ys
          · have hno : extB ks tq se nw li = false := by rw [HA.out, h1, h2, h3, h6]; rfl
            have HB := hid hno
            have HX := hid (ext_no hno)
            clear hno
            go_wp2_with fail
            refine (implGoodToken_fit _ ys _ hll hfit (LkS.own hrowZ)).mono ?_
            rintro e' w9 ⟨rfl, hB9⟩
            rw [h6]
            go_wp2_with fail
            go_ret2
            exact ⟨_, ret_xb HB.out.symm, by rw [HX.out]; exact World.ownsRow_nil _ _ _ _, below_one hBZ hB9⟩
          · have hy : extB ks tq se nw li = true := by rw [HA.out, h1, h2, h3, h6]; rfl
            have HB := hid hy
            have HX := hid (HY.out hy)
            clear hy
            go_wp2_with fail
            refine (implGoodToken_fit _ ys _ hll hfit (LkS.own hrowZ)).mono ?_
            rintro e' w9 ⟨rfl, hB9⟩
            rw [h6]
            go_wp2_with fail
            go_ret2
            exact ⟨_, ret_xb HB.out.symm, by rw [HX.out]; exact ownsRow_below hrowZ hB9, below_one hBZ hB9⟩

end Go.Proofs.Ytecgonopefeplaf
