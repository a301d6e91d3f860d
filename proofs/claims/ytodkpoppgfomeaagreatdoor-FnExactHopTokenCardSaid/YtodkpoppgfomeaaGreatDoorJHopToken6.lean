/-
  Chapter 4: what FnExactIssueToken asks, walked.
-/
import Derived.Deep.DeepCutAuto
import Derived.Test.YtodkpoppgfomeaaGreatDoorJHopToken5
import Derived.Test.YtodkpoppgfomeaaGreatDoorJHopToken2
import Derived.Test.YtodkpoppgfomeaaGreatDoorJHopToken0
import Derived.Deep.RegionHeld3
import Derived.Test.YtodkpoppgfomeaaGreatDoorJHopToken1
namespace Go.Proofs.YtodkpoppgfomeaaGreatDoor
open Go.RowKit Go.Shelf

set_option maxHeartbeats 8000000 in
theorem implExtendToken_any (v : Value) (ks : List Lk) (tq : ByteArray) (se nw li : Int) (w : World) (hm : ks.length ≤ 1048577) (hf : ∀ k ∈ ks, k.size ≤ 1048576) (hto : tq.size ≤ 1048576) (hr : LkS w v ks) :
    Calls Tryz.prog 96 #[v, .string tq, .int .i64 se, .int .i64 nw, .int .i64 li] w fun e w' => ∃ v', e = .returned (.tuple #[v', .bool (extB ks tq se nw li)]) ∧ w'.ownsRow w.heap.size 52 5 v' (extL ks tq se nw li).length ((extL ks tq se nw li).flatMap Lk.cells) ∧ Below w.heap.size w w' := by
  obtain ⟨a, cap, rfl⟩ := hr.len
  cases h1 : tkB ks
  · have hno : extB ks tq se nw li = false := ext_tk h1
    have HB := hid hno
    have HX := hid (ext_no hno)
    clear hno
    go_enter Tryz.func96, Tryz.ntmps96
    go_wp2_with fail
    refine (implGoodToken_any _ ks _ hm hf hr).mono ?_
    rintro e w1 ⟨rfl, hB1⟩
    rw [h1]
    go_wp2_with fail
    go_ret2
    exact ⟨_, ret_xb HB.out.symm, by rw [HX.out]; exact World.ownsRow_nil _ _ _ _, hB1⟩
  · cases h2 : tmB nw
    · have hno : extB ks tq se nw li = false := ext_nw h2
      have HB := hid hno
      have HX := hid (ext_no hno)
      clear hno
      go_enter Tryz.func96, Tryz.ntmps96
      go_wp2_with fail
      refine (implGoodToken_any _ ks _ hm hf hr).mono ?_
      rintro e w1 ⟨rfl, hB1⟩
      rw [h1]
      go_wp2_with (go_at_call 69; refine (goodTime_any _ _).mono ?_; rintro e wx ⟨rfl, rfl⟩)
      go_ret2
      exact ⟨_, ret_xb HB.out.symm, by rw [HX.out]; exact World.ownsRow_nil _ _ _ _, hB1⟩
    · cases h3 : tmB li
      · have hno : extB ks tq se nw li = false := ext_li h3
        have HB := hid hno
        have HX := hid (ext_no hno)
        clear hno
        go_enter Tryz.func96, Tryz.ntmps96
        go_wp2_with fail
        refine (implGoodToken_any _ ks _ hm hf hr).mono ?_
        rintro e w1 ⟨rfl, hB1⟩
        rw [h1]
        go_wp2_with (go_at_call 69; refine (goodTime_any _ _).mono ?_; rintro e wx ⟨rfl, rfl⟩)
        go_ret2
        exact ⟨_, ret_xb HB.out.symm, by rw [HX.out]; exact World.ownsRow_nil _ _ _ _, hB1⟩
      · obtain ⟨i0, hi, hz0, hz1, hz2⟩ := info_parts infoLink
        obtain ⟨m, hmm⟩ : ∃ m, m = ks.length - 1 := ⟨_, rfl⟩
        have hl := tkB_len h1
        have hml : m < ks.length := by omega
        have HA := hid (ext_at hml hmm tq se nw li)
        have HY := hid (fun h : extB ks tq se nw li = true => ext_yes hml hmm h)
        have hfit := ext_fit (se := se) (nw := nw) (li := li) hf (List.getElem_mem hml) hto
        have hw1 : IntKind.i64.wrap ((ks.length : Int) - 1) = (m : Int) := by rw [IntKind.wrap_i64]; omega
        have hw2 : (m : Int) < (ks.length : Int) := by omega
        obtain ⟨b, off, rfl, hb, hcap, q0, q1, q2, q3, q4⟩ := hr.at hml
        generalize ks[m] = k at *
        clear hmm
        go_enter Tryz.func96, Tryz.ntmps96
        go_wp2_with fail
        refine (implGoodToken_any _ ks _ hm hf hr).mono ?_
        rintro e w1 ⟨rfl, hB1⟩
        rw [h1]
        have e0 := (hB1.cell (p := ⟨b, off + m * 5, none⟩) hb).trans q0
        have e1 := (hB1.cell (p := ⟨b, off + m * 5 + 1, none⟩) hb).trans q1
        have e2 := (hB1.cell (p := ⟨b, off + m * 5 + 2, none⟩) hb).trans q2
        have e3 := (hB1.cell (p := ⟨b, off + m * 5 + 3, none⟩) hb).trans q3
        have e4 := (hB1.cell (p := ⟨b, off + m * 5 + 4, none⟩) hb).trans q4
        clear q0 q1 q2 q3 q4
        go_wp2_with (go_at_call 69; refine (goodTime_any _ _).mono ?_; rintro e wx ⟨rfl, rfl⟩)
        refine (hopOf_any k _).mono ?_
        rintro e w2 ⟨rfl, hB2⟩
        have hB12 := below_one hB1 hB2
        clear e0 e1 e2 e3 e4
        go_upto_region 4 with fail
        have hBW : Below w.heap.size w (w2.alloc (.cells #[.string k.who, .string k.to, .int .i64 k.fr, .int .i64 k.un, .int .i64 k.se] 125)) := hB12.alloc hB12.size _
        have hgb : w2.heap.size < (w2.alloc (.cells #[.string k.who, .string k.to, .int .i64 k.fr, .int .i64 k.un, .int .i64 k.se] 125)).heap.size := by simp
        have x0 : (w2.alloc (.cells #[.string k.who, .string k.to, .int .i64 k.fr, .int .i64 k.un, .int .i64 k.se] 125)).cell? ⟨w2.heap.size, 0, none⟩ = some (.string k.who) := by simp
        have x1 : (w2.alloc (.cells #[.string k.who, .string k.to, .int .i64 k.fr, .int .i64 k.un, .int .i64 k.se] 125)).cell? ⟨w2.heap.size, 1, none⟩ = some (.string k.to) := by simp
        have x2 : (w2.alloc (.cells #[.string k.who, .string k.to, .int .i64 k.fr, .int .i64 k.un, .int .i64 k.se] 125)).cell? ⟨w2.heap.size, 2, none⟩ = some (.int .i64 k.fr) := by simp
        have x3 : (w2.alloc (.cells #[.string k.who, .string k.to, .int .i64 k.fr, .int .i64 k.un, .int .i64 k.se] 125)).cell? ⟨w2.heap.size, 3, none⟩ = some (.int .i64 k.un) := by simp
        have x4 : (w2.alloc (.cells #[.string k.who, .string k.to, .int .i64 k.fr, .int .i64 k.un, .int .i64 k.se] 125)).cell? ⟨w2.heap.size, 4, none⟩ = some (.int .i64 k.se) := by simp
        generalize w2.alloc (.cells #[.string k.who, .string k.to, .int .i64 k.fr, .int .i64 k.un, .int .i64 k.se] 125) = W at *
        generalize w2.heap.size = gb at *
        clear hB2
        go_cut [13] (fun s1 wx => ∃ N : Nat, s1 = .pointer (some ⟨N, 0, none⟩) ∧ wx.cell? ⟨N, 0, none⟩ = some (.string k.to) ∧ wx.cell? ⟨N, 1, none⟩ = some (.string tq) ∧ wx.cell? ⟨N, 2, none⟩ = some (.int .i64 nw) ∧ wx.cell? ⟨N, 3, none⟩ = some (.int .i64 (mnI (nw + li) k.un)) ∧ wx.cell? ⟨N, 4, none⟩ = some (.int .i64 se) ∧ Below w.heap.size w wx)
        case first =>
          refine wp_region_held_drew (S := fun w' => w'.cell? ⟨gb, 0, none⟩ = some (.string k.who) ∧ w'.cell? ⟨gb, 1, none⟩ = some (.string k.to) ∧ w'.cell? ⟨gb, 2, none⟩ = some (.int .i64 k.fr) ∧ w'.cell? ⟨gb, 3, none⟩ = some (.int .i64 k.un)) (by kernel_rfl) ?_ (fun hHeld => ?_)
          · go_keep
          clear hHeld
          have y0 : W.drew.cell? ⟨gb, 0, none⟩ = some (.string k.who) := x0
          have y1 : W.drew.cell? ⟨gb, 1, none⟩ = some (.string k.to) := x1
          have y2 : W.drew.cell? ⟨gb, 2, none⟩ = some (.int .i64 k.fr) := x2
          have y3 : W.drew.cell? ⟨gb, 3, none⟩ = some (.int .i64 k.un) := x3
          have hgb' : gb < W.drew.heap.size := hgb
          have hBW' : Below w.heap.size w W.drew := hBW.drew
          have hHeld : (fun w' => w'.cell? ⟨gb, 0, none⟩ = some (.string k.who) ∧ w'.cell? ⟨gb, 1, none⟩ = some (.string k.to) ∧ w'.cell? ⟨gb, 2, none⟩ = some (.int .i64 k.fr) ∧ w'.cell? ⟨gb, 3, none⟩ = some (.int .i64 k.un)) W.drew := ⟨y0, y1, y2, y3⟩
          generalize W.drew = V at *
          clear x0 x1 x2 x3 x4 hBW hgb
          have hVz := hBW'.size
          refine takeW 0 (v := ?v1) rfl (by kernel_rfl) (by kernel_rfl) (by kernel_rfl) (fun _ _ _ h => h) (by rfl) (by assumption) ?hy1 ?rest1
          case hy1 => intro w' hSw; (try dsimp only at hSw); go_simp; try with_reducible rfl
          try simp only [Act.put, List.setIfInBounds_toArray, List.set_cons_zero, List.set_cons_succ]
          refine takeW 1 (v := ?v2) rfl (by kernel_rfl) (by kernel_rfl) (by kernel_rfl) (fun _ _ _ h => h) (by rfl) (by assumption) ?hy2 ?rest2
          case hy2 => intro w' hSw; (try dsimp only at hSw); go_simp; try with_reducible rfl
          try simp only [Act.put, List.setIfInBounds_toArray, List.set_cons_zero, List.set_cons_succ]
          refine takeW 2 (v := ?v3) rfl (by kernel_rfl) (by kernel_rfl) (by kernel_rfl) (fun _ _ _ h => h) (by rfl) (by assumption) ?hy3 ?rest3
          case hy3 => intro w' hSw; (try dsimp only at hSw); go_simp; try with_reducible rfl
          try simp only [Act.put, List.setIfInBounds_toArray, List.set_cons_zero, List.set_cons_succ]
          refine takeW 4 (v := ?v4) rfl (by kernel_rfl) (by kernel_rfl) (by kernel_rfl) (fun _ _ _ h => h) (by rfl) (by assumption) ?hy4 ?rest4
          case hy4 => intro w' hSw; (try dsimp only at hSw); go_simp; try with_reducible rfl
          try simp only [Act.put, List.setIfInBounds_toArray, List.set_cons_zero, List.set_cons_succ]
          refine takeW 5 (v := ?v5) rfl (by kernel_rfl) (by kernel_rfl) (by kernel_rfl) (fun _ _ _ h => h) (by rfl) (by assumption) ?hy5 ?rest5
          case hy5 => intro w' hSw; (try dsimp only at hSw); go_simp; try with_reducible rfl
          try simp only [Act.put, List.setIfInBounds_toArray, List.set_cons_zero, List.set_cons_succ]
          refine takeW 6 (v := ?v6) rfl (by kernel_rfl) (by kernel_rfl) (by kernel_rfl) (fun _ _ _ h => h) (by rfl) (by assumption) ?hy6 ?rest6
          case hy6 => intro w' hSw; (try dsimp only at hSw); go_simp; try with_reducible rfl
          try simp only [Act.put, List.setIfInBounds_toArray, List.set_cons_zero, List.set_cons_succ]
          refine takeW 7 (v := ?v7) rfl (by kernel_rfl) (by kernel_rfl) (by kernel_rfl) (fun _ _ _ h => h) (by rfl) (by assumption) ?hy7 ?rest7
          case hy7 => intro w' hSw; (try dsimp only at hSw); go_simp; try with_reducible rfl
          try simp only [Act.put, List.setIfInBounds_toArray, List.set_cons_zero, List.set_cons_succ]
          refine takeW 9 (v := ?v8) rfl (by kernel_rfl) (by kernel_rfl) (by kernel_rfl) (fun _ _ _ h => h) (by rfl) (by assumption) ?hy8 ?rest8
          case hy8 => intro w' hSw; (try dsimp only at hSw); go_simp; try with_reducible rfl
          try simp only [Act.put, List.setIfInBounds_toArray, List.set_cons_zero, List.set_cons_succ]
          refine wpAnyH_ready (rs := [3, 11]) (by kernel_rfl) (by simp) ?_
          refine AllReadyH.cons (at_drop rfl) (fun K hK => ?_) (AllReadyH.cons (at_drop rfl) (fun K hK => ?_) AllReadyH.nil)
          · go_simp
            refine (onTo_any k.who k.to tq _).mono ?_; rintro e' u1 ⟨rfl, hA⟩; have hAx0 := hA.cell (p := ⟨gb, 0, none⟩) hgb'; have hAx1 := hA.cell (p := ⟨gb, 1, none⟩) hgb'; have hAx2 := hA.cell (p := ⟨gb, 2, none⟩) hgb'; have hAx3 := hA.cell (p := ⟨gb, 3, none⟩) hgb'; have hgA := Nat.lt_of_lt_of_le hgb' hA.size; have hBA := below_one hBW' hA; have hAz := hBA.size
            refine hK.out _ _ ?_ (fun hHeld => ?_)
            · go_keep
            clear hK K
            try simp only [Act.put, List.setIfInBounds_toArray, List.set_cons_zero, List.set_cons_succ]
            refine wpAnyH_ready (rs := [8, 11]) (by kernel_rfl) (by simp) ?_
            refine AllReadyH.cons (at_drop rfl) (fun K hK => ?_) (AllReadyH.cons (at_drop rfl) (fun K hK => ?_) AllReadyH.nil)
            · go_simp
              refine (onFrom_any k.fr k.un nw li _ h2 h3).mono ?_; rintro e' u2 ⟨rfl, hC⟩; have hCx0 := hC.cell (p := ⟨gb, 0, none⟩) hgA; have hCx1 := hC.cell (p := ⟨gb, 1, none⟩) hgA; have hCx2 := hC.cell (p := ⟨gb, 2, none⟩) hgA; have hCx3 := hC.cell (p := ⟨gb, 3, none⟩) hgA; have hgC := Nat.lt_of_lt_of_le hgA hC.size; have hBC := below_one hBA hC; have hCz := hBC.size
              refine hK.out _ _ ?_ (fun hHeld => ?_)
              · go_keep
              clear hK K
              try simp only [Act.put, List.setIfInBounds_toArray, List.set_cons_zero, List.set_cons_succ]
              refine takeW 10 (v := ?v9) rfl (by kernel_rfl) (by kernel_rfl) (by kernel_rfl) (fun _ _ _ h => h) (by rfl) (by assumption) ?hy9 ?rest9
              case hy9 => intro w' hSw; (try dsimp only at hSw); go_simp; try with_reducible rfl
              try simp only [Act.put, List.setIfInBounds_toArray, List.set_cons_zero, List.set_cons_succ]
              refine takeC 11 (by kernel_rfl) rfl (fun K hK => ?_)
              go_simp
              skip
              refine hK.out _ _ ?_ (fun hHeld => ?_)
              · go_keep
              clear hK K
              try simp only [Act.put, List.setIfInBounds_toArray, List.set_cons_zero, List.set_cons_succ]
              refine takeC 12 (by kernel_rfl) rfl (fun K hK => ?_)
              go_simp
              skip
              refine hK.out _ _ ?_ (fun hHeld => ?_)
              · go_keep
              clear hK K
              try simp only [Act.put, List.setIfInBounds_toArray, List.set_cons_zero, List.set_cons_succ]
              refine wpAnyH_done (by kernel_rfl) ?_ _
              (try go_wp2_with fail)
              go_meet
              exact ⟨u2.heap.size, rfl, by first | simp [*] | simp [go_sem, *], by first | simp [*] | simp [go_sem, *], by first | simp [*] | simp [go_sem, *], by first | simp [*] | simp [go_sem, *], by first | simp [*] | simp [go_sem, *], hBC.alloc hBC.size _⟩
            · go_simp
              have hBD : Below w.heap.size w (u1.alloc (.cells #[.string ⟨#[]⟩, .string ⟨#[]⟩, .int .i64 0, .int .i64 0, .int .i64 0] 125)) := hBA.alloc hBA.size _; have hne2 : u1.heap.size ≠ gb := by omega
              refine hK.out _ _ ?_ (fun hHeld => ?_)
              · go_keep
              clear hK K
              try simp only [Act.put, List.setIfInBounds_toArray, List.set_cons_zero, List.set_cons_succ]
              refine takeC 8 (by kernel_rfl) rfl (fun K hK => ?_)
              go_simp
              refine (onFrom_any k.fr k.un nw li _ h2 h3).mono ?_; rintro e' u2 ⟨rfl, hC⟩; have hCx0 := hC.cell (p := ⟨gb, 0, none⟩) (by simp; omega); have hCx1 := hC.cell (p := ⟨gb, 1, none⟩) (by simp; omega); have hCx2 := hC.cell (p := ⟨gb, 2, none⟩) (by simp; omega); have hCx3 := hC.cell (p := ⟨gb, 3, none⟩) (by simp; omega); have hCz0 : u2.cell? ⟨u1.heap.size, 0, none⟩ = some (.string ⟨#[]⟩) := (hC.cell (p := ⟨u1.heap.size, 0, none⟩) (by simp)).trans (by simp); have hCz1 : u2.cell? ⟨u1.heap.size, 1, none⟩ = some (.string ⟨#[]⟩) := (hC.cell (p := ⟨u1.heap.size, 1, none⟩) (by simp)).trans (by simp); have hCz2 : u2.cell? ⟨u1.heap.size, 2, none⟩ = some (.int .i64 0) := (hC.cell (p := ⟨u1.heap.size, 2, none⟩) (by simp)).trans (by simp); have hCz3 : u2.cell? ⟨u1.heap.size, 3, none⟩ = some (.int .i64 0) := (hC.cell (p := ⟨u1.heap.size, 3, none⟩) (by simp)).trans (by simp); have hCz4 : u2.cell? ⟨u1.heap.size, 4, none⟩ = some (.int .i64 0) := (hC.cell (p := ⟨u1.heap.size, 4, none⟩) (by simp)).trans (by simp); have hCf0 : u2.frozen? ⟨u1.heap.size, 0, none⟩ = false := (hC.frozen (p := ⟨u1.heap.size, 0, none⟩) (by simp)).trans (by simp); have hCf1 : u2.frozen? ⟨u1.heap.size, 1, none⟩ = false := (hC.frozen (p := ⟨u1.heap.size, 1, none⟩) (by simp)).trans (by simp); have hCf2 : u2.frozen? ⟨u1.heap.size, 2, none⟩ = false := (hC.frozen (p := ⟨u1.heap.size, 2, none⟩) (by simp)).trans (by simp); have hCf3 : u2.frozen? ⟨u1.heap.size, 3, none⟩ = false := (hC.frozen (p := ⟨u1.heap.size, 3, none⟩) (by simp)).trans (by simp); have hCf4 : u2.frozen? ⟨u1.heap.size, 4, none⟩ = false := (hC.frozen (p := ⟨u1.heap.size, 4, none⟩) (by simp)).trans (by simp); have hBC := below_one hBD hC
              refine hK.out _ _ ?_ (fun hHeld => ?_)
              · go_keep
              clear hK K
              try simp only [Act.put, List.setIfInBounds_toArray, List.set_cons_zero, List.set_cons_succ]
              refine takeW 10 (v := ?v10) rfl (by kernel_rfl) (by kernel_rfl) (by kernel_rfl) (fun _ _ _ h => h) (by rfl) (by assumption) ?hy10 ?rest10
              case hy10 => intro w' hSw; (try dsimp only at hSw); go_simp; try with_reducible rfl
              try simp only [Act.put, List.setIfInBounds_toArray, List.set_cons_zero, List.set_cons_succ]
              refine takeC 12 (by kernel_rfl) rfl (fun K hK => ?_)
              go_simp
              skip
              refine hK.out _ _ ?_ (fun hHeld => ?_)
              · go_keep
              clear hK K
              try simp only [Act.put, List.setIfInBounds_toArray, List.set_cons_zero, List.set_cons_succ]
              refine wpAnyH_done (by kernel_rfl) ?_ _
              (try go_wp2_with fail)
              go_meet
              exact ⟨u1.heap.size, rfl, by first | simp [*] | simp [go_sem, *], by first | simp [*] | simp [go_sem, *], by first | simp [*] | simp [go_sem, *], by first | simp [*] | simp [go_sem, *], by first | simp [*] | simp [go_sem, *], (((((hBC).setCell (p := ⟨u1.heap.size, 0, none⟩) (by show w.heap.size ≤ u1.heap.size; omega) _).setCell (p := ⟨u1.heap.size, 1, none⟩) (by show w.heap.size ≤ u1.heap.size; omega) _).setCell (p := ⟨u1.heap.size, 2, none⟩) (by show w.heap.size ≤ u1.heap.size; omega) _).setCell (p := ⟨u1.heap.size, 3, none⟩) (by show w.heap.size ≤ u1.heap.size; omega) _).setCell (p := ⟨u1.heap.size, 4, none⟩) (by show w.heap.size ≤ u1.heap.size; omega) _⟩
          · go_simp
            have hBD : Below w.heap.size w (V.alloc (.cells #[.string ⟨#[]⟩, .string ⟨#[]⟩, .int .i64 0, .int .i64 0, .int .i64 0] 125)) := hBW'.alloc hVz _; have hne2 : V.heap.size ≠ gb := by omega
            refine hK.out _ _ ?_ (fun hHeld => ?_)
            · go_keep
            clear hK K
            try simp only [Act.put, List.setIfInBounds_toArray, List.set_cons_zero, List.set_cons_succ]
            refine takeC 3 (by kernel_rfl) rfl (fun K hK => ?_)
            go_simp
            refine (onTo_any k.who k.to tq _).mono ?_; rintro e' u1 ⟨rfl, hA⟩; have hAx0 := hA.cell (p := ⟨gb, 0, none⟩) (by simp; omega); have hAx1 := hA.cell (p := ⟨gb, 1, none⟩) (by simp; omega); have hAx2 := hA.cell (p := ⟨gb, 2, none⟩) (by simp; omega); have hAx3 := hA.cell (p := ⟨gb, 3, none⟩) (by simp; omega); have hAz0 : u1.cell? ⟨V.heap.size, 0, none⟩ = some (.string ⟨#[]⟩) := (hA.cell (p := ⟨V.heap.size, 0, none⟩) (by simp)).trans (by simp); have hAz1 : u1.cell? ⟨V.heap.size, 1, none⟩ = some (.string ⟨#[]⟩) := (hA.cell (p := ⟨V.heap.size, 1, none⟩) (by simp)).trans (by simp); have hAz2 : u1.cell? ⟨V.heap.size, 2, none⟩ = some (.int .i64 0) := (hA.cell (p := ⟨V.heap.size, 2, none⟩) (by simp)).trans (by simp); have hAz3 : u1.cell? ⟨V.heap.size, 3, none⟩ = some (.int .i64 0) := (hA.cell (p := ⟨V.heap.size, 3, none⟩) (by simp)).trans (by simp); have hAz4 : u1.cell? ⟨V.heap.size, 4, none⟩ = some (.int .i64 0) := (hA.cell (p := ⟨V.heap.size, 4, none⟩) (by simp)).trans (by simp); have hAf0 : u1.frozen? ⟨V.heap.size, 0, none⟩ = false := (hA.frozen (p := ⟨V.heap.size, 0, none⟩) (by simp)).trans (by simp); have hAf1 : u1.frozen? ⟨V.heap.size, 1, none⟩ = false := (hA.frozen (p := ⟨V.heap.size, 1, none⟩) (by simp)).trans (by simp); have hAf2 : u1.frozen? ⟨V.heap.size, 2, none⟩ = false := (hA.frozen (p := ⟨V.heap.size, 2, none⟩) (by simp)).trans (by simp); have hAf3 : u1.frozen? ⟨V.heap.size, 3, none⟩ = false := (hA.frozen (p := ⟨V.heap.size, 3, none⟩) (by simp)).trans (by simp); have hAf4 : u1.frozen? ⟨V.heap.size, 4, none⟩ = false := (hA.frozen (p := ⟨V.heap.size, 4, none⟩) (by simp)).trans (by simp); have hBA := below_one hBD hA
            have hgA : gb < u1.heap.size := by have := hA.size; simp at this; omega
            have hVA : V.heap.size < u1.heap.size := by have := hA.size; simp at this; omega
            refine hK.out _ _ ?_ (fun hHeld => ?_)
            · go_keep
            clear hK K
            try simp only [Act.put, List.setIfInBounds_toArray, List.set_cons_zero, List.set_cons_succ]
            refine takeC 8 (by kernel_rfl) rfl (fun K hK => ?_)
            go_simp
            refine (onFrom_any k.fr k.un nw li _ h2 h3).mono ?_; rintro e' u2 ⟨rfl, hC⟩; have hCx0 := hC.cell (p := ⟨gb, 0, none⟩) hgA; have hCx1 := hC.cell (p := ⟨gb, 1, none⟩) hgA; have hCx2 := hC.cell (p := ⟨gb, 2, none⟩) hgA; have hCx3 := hC.cell (p := ⟨gb, 3, none⟩) hgA; have hCz0 := (hC.cell (p := ⟨V.heap.size, 0, none⟩) hVA).trans hAz0; have hCz1 := (hC.cell (p := ⟨V.heap.size, 1, none⟩) hVA).trans hAz1; have hCz2 := (hC.cell (p := ⟨V.heap.size, 2, none⟩) hVA).trans hAz2; have hCz3 := (hC.cell (p := ⟨V.heap.size, 3, none⟩) hVA).trans hAz3; have hCz4 := (hC.cell (p := ⟨V.heap.size, 4, none⟩) hVA).trans hAz4; have hCf0 := (hC.frozen (p := ⟨V.heap.size, 0, none⟩) hVA).trans hAf0; have hCf1 := (hC.frozen (p := ⟨V.heap.size, 1, none⟩) hVA).trans hAf1; have hCf2 := (hC.frozen (p := ⟨V.heap.size, 2, none⟩) hVA).trans hAf2; have hCf3 := (hC.frozen (p := ⟨V.heap.size, 3, none⟩) hVA).trans hAf3; have hCf4 := (hC.frozen (p := ⟨V.heap.size, 4, none⟩) hVA).trans hAf4; have hBC := below_one hBA hC
            refine hK.out _ _ ?_ (fun hHeld => ?_)
            · go_keep
            clear hK K
            try simp only [Act.put, List.setIfInBounds_toArray, List.set_cons_zero, List.set_cons_succ]
            refine takeW 10 (v := ?v11) rfl (by kernel_rfl) (by kernel_rfl) (by kernel_rfl) (fun _ _ _ h => h) (by rfl) (by assumption) ?hy11 ?rest11
            case hy11 => intro w' hSw; (try dsimp only at hSw); go_simp; try with_reducible rfl
            try simp only [Act.put, List.setIfInBounds_toArray, List.set_cons_zero, List.set_cons_succ]
            refine takeC 12 (by kernel_rfl) rfl (fun K hK => ?_)
            go_simp
            skip
            refine hK.out _ _ ?_ (fun hHeld => ?_)
            · go_keep
            clear hK K
            try simp only [Act.put, List.setIfInBounds_toArray, List.set_cons_zero, List.set_cons_succ]
            refine wpAnyH_done (by kernel_rfl) ?_ _
            (try go_wp2_with fail)
            go_meet
            exact ⟨V.heap.size, rfl, by first | simp [*] | simp [go_sem, *], by first | simp [*] | simp [go_sem, *], by first | simp [*] | simp [go_sem, *], by first | simp [*] | simp [go_sem, *], by first | simp [*] | simp [go_sem, *], (((((hBC).setCell (p := ⟨V.heap.size, 0, none⟩) (by show w.heap.size ≤ V.heap.size; omega) _).setCell (p := ⟨V.heap.size, 1, none⟩) (by show w.heap.size ≤ V.heap.size; omega) _).setCell (p := ⟨V.heap.size, 2, none⟩) (by show w.heap.size ≤ V.heap.size; omega) _).setCell (p := ⟨V.heap.size, 3, none⟩) (by show w.heap.size ≤ V.heap.size; omega) _).setCell (p := ⟨V.heap.size, 4, none⟩) (by show w.heap.size ≤ V.heap.size; omega) _⟩
        case rest =>
          obtain ⟨N, rfl, c0, c1, c2, c3, c4, hBf⟩ := hcut
          go_wp2_with fail
          refine wp_region_held_drew (S := fun w' => w'.cell? ⟨N, 0, none⟩ = some (.string k.to) ∧ w'.cell? ⟨N, 1, none⟩ = some (.string tq) ∧ w'.cell? ⟨N, 2, none⟩ = some (.int .i64 nw) ∧ w'.cell? ⟨N, 3, none⟩ = some (.int .i64 (mnI (nw + li) k.un)) ∧ w'.cell? ⟨N, 4, none⟩ = some (.int .i64 se)) (by kernel_rfl) ?_ (fun hHeld => ?_)
          · go_keep
          clear hHeld
          have y0 : wc.drew.cell? ⟨N, 0, none⟩ = some (.string k.to) := c0
          have y1 : wc.drew.cell? ⟨N, 1, none⟩ = some (.string tq) := c1
          have y2 : wc.drew.cell? ⟨N, 2, none⟩ = some (.int .i64 nw) := c2
          have y3 : wc.drew.cell? ⟨N, 3, none⟩ = some (.int .i64 (mnI (nw + li) k.un)) := c3
          have y4 : wc.drew.cell? ⟨N, 4, none⟩ = some (.int .i64 se) := c4
          have hNl : N < wc.drew.heap.size := World.block_lt_of_cell? _ ⟨N, 0, none⟩ y0
          have hBW' : Below w.heap.size w wc.drew := hBf.drew
          have hHeld : (fun w' => w'.cell? ⟨N, 0, none⟩ = some (.string k.to) ∧ w'.cell? ⟨N, 1, none⟩ = some (.string tq) ∧ w'.cell? ⟨N, 2, none⟩ = some (.int .i64 nw) ∧ w'.cell? ⟨N, 3, none⟩ = some (.int .i64 (mnI (nw + li) k.un)) ∧ w'.cell? ⟨N, 4, none⟩ = some (.int .i64 se)) wc.drew := ⟨y0, y1, y2, y3, y4⟩
          generalize wc.drew = V at *
          clear c0 c1 c2 c3 c4 hBf
          have hVz := hBW'.size
          refine takeW 0 (v := ?v12) rfl (by kernel_rfl) (by kernel_rfl) (by kernel_rfl) (fun _ _ _ h => h) (by rfl) (by assumption) ?hy12 ?rest12
          case hy12 => intro w' hSw; (try dsimp only at hSw); go_simp; try with_reducible rfl
          try simp only [Act.put, List.setIfInBounds_toArray, List.set_cons_zero, List.set_cons_succ]
          refine takeW 2 (v := ?v13) rfl (by kernel_rfl) (by kernel_rfl) (by kernel_rfl) (fun _ _ _ h => h) (by rfl) (by assumption) ?hy13 ?rest13
          case hy13 => intro w' hSw; (try dsimp only at hSw); go_simp; try with_reducible rfl
          try simp only [Act.put, List.setIfInBounds_toArray, List.set_cons_zero, List.set_cons_succ]
          refine takeC 1 (by kernel_rfl) rfl (fun K hK => ?_)
          go_simp
          refine (cloneLinks_any b off ks.length cap ks _ hm (hr.below hBW') rfl).mono ?_; rintro e' u1 ⟨vc, rfl, hrowC, _, hC⟩; have hCx0 := hC.cell (p := ⟨N, 0, none⟩) hNl; have hCx1 := hC.cell (p := ⟨N, 1, none⟩) hNl; have hCx2 := hC.cell (p := ⟨N, 2, none⟩) hNl; have hCx3 := hC.cell (p := ⟨N, 3, none⟩) hNl; have hCx4 := hC.cell (p := ⟨N, 4, none⟩) hNl; have hNC := Nat.lt_of_lt_of_le hNl hC.size; have hBC := below_one hBW' hC
          refine hK.out _ _ ?_ (fun hHeld => ?_)
          · go_keep
          clear hK K
          try simp only [Act.put, List.setIfInBounds_toArray, List.set_cons_zero, List.set_cons_succ]
          refine takeC 3 (by kernel_rfl) rfl (fun K hK => ?_)
          go_simp
          refine (link_any ⟨k.to, tq, se, nw, mnI (nw + li) k.un⟩ _).mono ?_; rintro e' u2 ⟨rfl, hD⟩; have hDx0 := hD.cell (p := ⟨N, 0, none⟩) hNC; have hDx1 := hD.cell (p := ⟨N, 1, none⟩) hNC; have hDx2 := hD.cell (p := ⟨N, 2, none⟩) hNC; have hDx3 := hD.cell (p := ⟨N, 3, none⟩) hNC; have hDx4 := hD.cell (p := ⟨N, 4, none⟩) hNC; have hND := Nat.lt_of_lt_of_le hNC hD.size; have hBD := below_one hBC hD; have hrowD := ownsRow_below hrowC hD; have hzD : V.heap.size ≤ u2.heap.size := Nat.le_trans hC.size hD.size; have hBVD : Below V.heap.size V u2 := below_one hC hD
          refine hK.out _ _ ?_ (fun hHeld => ?_)
          · go_keep
          clear hK K
          try simp only [Act.put, List.setIfInBounds_toArray, List.set_cons_zero, List.set_cons_succ]
          refine takeC 4 (by kernel_rfl) rfl (fun K hK => ?_)
          go_simp
          have hBE : Below V.heap.size V (u2.alloc (.cells #[.string k.to, .string tq, .int .i64 se, .int .i64 nw, .int .i64 (mnI (nw + li) k.un)] 52)) := hBVD.alloc hBVD.size _; have hltC := hrowD.lt
          refine hK.out _ _ ?_ (fun hHeld => ?_)
          · go_keep
          clear hK K
          try simp only [Act.put, List.setIfInBounds_toArray, List.set_cons_zero, List.set_cons_succ]
          refine takeC 5 (by kernel_rfl) rfl (fun K hK => ?_)
          refine step_append3 rfl (.tmp 47) (.tmp 50) 31 rfl V.heap.size 52 i0 _ 5 56 Tryz.underlying31 hi hz0 hz1 hz2 rfl (by decide) _ ks.length (ks.flatMap Lk.cells) rfl (hrowD.alloc _) ⟨u2.heap.size, 0, none⟩ 1 1 (Lk.cells ⟨k.to, tq, se, nw, mnI (nw + li) k.un⟩) rfl rfl (cell_five_k u2 ⟨k.to, tq, se, nw, mnI (nw + li) k.un⟩) (by intro u hu; simp at hu; rcases hu with rfl | rfl | rfl | rfl | rfl <;> rfl) (by unfold maxLen; omega) (by omega) hBE.size ?_; intro v' u3 hown' hgrow; have hBF := below_row3 hBE hBE.size (hrowD.alloc _) hgrow; have hFx0 := (hBF.cell (p := ⟨N, 0, none⟩) hNl).trans y0; have hFx1 := (hBF.cell (p := ⟨N, 1, none⟩) hNl).trans y1; have hFx2 := (hBF.cell (p := ⟨N, 2, none⟩) hNl).trans y2; have hFx3 := (hBF.cell (p := ⟨N, 3, none⟩) hNl).trans y3; have hFx4 := (hBF.cell (p := ⟨N, 4, none⟩) hNl).trans y4
          refine hK.out _ _ ?_ (fun hHeld => ?_)
          · go_keep
          clear hK K
          try simp only [Act.put, List.setIfInBounds_toArray, List.set_cons_zero, List.set_cons_succ]
          refine takeW 6 (v := ?v14) rfl (by kernel_rfl) (by kernel_rfl) (by kernel_rfl) (fun _ _ _ h => h) (by rfl) (by assumption) ?hy14 ?rest14
          case hy14 => intro w' hSw; (try dsimp only at hSw); go_simp; try with_reducible rfl
          try simp only [Act.put, List.setIfInBounds_toArray, List.set_cons_zero, List.set_cons_succ]
          refine wpAnyH_done (by kernel_rfl) ?_ _
          have hBZ := below_one hBW' hBF
          have hrowZ : u3.ownsRow w.heap.size 52 5 v' (ks ++ [ext1 k tq se nw li]).length ((ks ++ [ext1 k tq se nw li]).flatMap Lk.cells) := by
            have h := Go.Joins.ownsRow_le hown' hVz
            simpa [ext1] using h
          have hll : (ks ++ [ext1 k tq se nw li]).length ≤ 1048577 := by simp; omega
          obtain ⟨av, cv, rfl⟩ := ownsRow_len hrowZ
          generalize ks ++ [ext1 k tq se nw li] = ys at *
          clear hown' hgrow hBF hBE hBVD hBD hBC hHeld hltC hrowD hrowC hC hD
          cases h6 : tkB ys
          · have hno : extB ks tq se nw li = false := by rw [HA.out, h1, h2, h3, h6]; rfl
            have HB := hid hno
            have HX := hid (ext_no hno)
            clear hno
            go_wp2_with fail
            refine (implGoodToken_fit _ ys _ hll hfit (LkS.own hrowZ)).mono ?_
            rintro e' w9 ⟨rfl, hB9⟩
            rw [h6]
            go_wp2_with fail
            go_ret2
            exact ⟨_, ret_xb HB.out.symm, by rw [HX.out]; exact World.ownsRow_nil _ _ _ _, below_one hBZ hB9⟩
          · have hy : extB ks tq se nw li = true := by rw [HA.out, h1, h2, h3, h6]; rfl
            have HB := hid hy
            have HX := hid (HY.out hy)
            clear hy
            go_wp2_with fail
            refine (implGoodToken_fit _ ys _ hll hfit (LkS.own hrowZ)).mono ?_
            rintro e' w9 ⟨rfl, hB9⟩
            rw [h6]
            go_wp2_with fail
            go_ret2
            exact ⟨_, ret_xb HB.out.symm, by rw [HX.out]; exact ownsRow_below hrowZ hB9, below_one hBZ hB9⟩

end Go.Proofs.YtodkpoppgfomeaaGreatDoor

namespace Go.Proofs.YtodkpoppgfomeaaGreatDoor
open Go.RowKit Go.Shelf

/-- To whom a token's last link goes. -/
def hpW (ks : List Lk) : ByteArray := match ks[ks.length - 1]? with
  | some k => k.to
  | none => ByteArray.empty
def hpB (s : Is) (ks : List Lk) (tq : ByteArray) (nw li : Int) : Bool := isB s && (tkB ks && (nmOk tq && (tmB nw && tmB li)))
def hpE (s : Is) (ks : List Lk) (tq : ByteArray) (nw li : Int) : Er := if hpB s ks tq nw li = true then (match maE s (hpW ks) with
  | .nil => if extB ks tq s.nx nw li = true then .nil else .full
  | x => x) else .bad
def hpL (s : Is) (ks : List Lk) (tq : ByteArray) (nw li : Int) : List Lk := match hpE s ks tq nw li with
  | .nil => extL ks tq s.nx nw li
  | _ => []
theorem hpB_parts {s : Is} {ks : List Lk} {tq : ByteArray} {nw li : Int} (h : hpB s ks tq nw li = true) : isB s = true ∧ tkB ks = true ∧ nmOk tq = true ∧ tmB nw = true ∧ tmB li = true := by
  unfold hpB at h
  simp only [Bool.and_eq_true] at h
  exact h
theorem hp_bad {s : Is} {ks : List Lk} {tq : ByteArray} {nw li : Int} (h : hpB s ks tq nw li = false) : hpE s ks tq nw li = .bad := by unfold hpE; rw [h]; rfl
theorem hp_no {s : Is} {ks : List Lk} {tq : ByteArray} {nw li : Int} (h : hpB s ks tq nw li = true) (h2 : maE s (hpW ks) = .noWork) : hpE s ks tq nw li = .noWork := by unfold hpE; rw [if_pos h, h2]
theorem hp_full {s : Is} {ks : List Lk} {tq : ByteArray} {nw li : Int} (h : hpB s ks tq nw li = true) (h2 : maE s (hpW ks) = .full) : hpE s ks tq nw li = .full := by unfold hpE; rw [if_pos h, h2]
theorem hp_ext {s : Is} {ks : List Lk} {tq : ByteArray} {nw li : Int} (h : hpB s ks tq nw li = true) (h2 : maE s (hpW ks) = .nil) (h3 : extB ks tq s.nx nw li = false) : hpE s ks tq nw li = .full := by
  unfold hpE
  rw [if_pos h, h2]
  simp only
  rw [if_neg (by rw [h3]; exact Bool.false_ne_true)]
theorem hp_nil {s : Is} {ks : List Lk} {tq : ByteArray} {nw li : Int} (h : hpB s ks tq nw li = true) (h2 : maE s (hpW ks) = .nil) (h3 : extB ks tq s.nx nw li = true) : hpE s ks tq nw li = .nil := by
  unfold hpE
  rw [if_pos h, h2]
  simp only
  rw [if_pos h3]
theorem hp_ext2 {s : Is} {ks : List Lk} {tq : ByteArray} {nw li : Int} (h : hpB s ks tq nw li = true) (h2 : livW s.ws (hpW ks) = true) (h3 : extB ks tq s.nx nw li = false) : hpE s ks tq nw li = .full := by
  cases hf : fullB s
  · exact hp_ext h (maE_yes h2 hf) h3
  · exact hp_full h (maE_full h2 hf)
theorem hpE_not (s : Is) (ks : List Lk) (tq : ByteArray) (nw li : Int) : hpE s ks tq nw li ≠ .twice := by
  unfold hpE
  split
  · split
    · split <;> exact fun h => (by cases h)
    · exact (maE_not s (hpW ks)).2
  · exact fun h => (by cases h)
theorem hpE_nil {s : Is} {ks : List Lk} {tq : ByteArray} {nw li : Int} (h : hpE s ks tq nw li = .nil) : hpB s ks tq nw li = true ∧ livW s.ws (hpW ks) = true ∧ fullB s = false ∧ extB ks tq s.nx nw li = true := by
  cases hb : hpB s ks tq nw li
  · rw [hp_bad hb] at h
    cases h
  cases hm : maE s (hpW ks) with
  | bad => exact absurd hm (maE_not _ _).1
  | twice => exact absurd hm (maE_not _ _).2
  | noWork => rw [hp_no hb hm] at h; cases h
  | full => rw [hp_full hb hm] at h; cases h
  | nil =>
    cases hx : extB ks tq s.nx nw li
    · rw [hp_ext hb hm hx] at h
      cases h
    · exact ⟨rfl, (maE_nil hm).1, (maE_nil hm).2, rfl⟩
theorem hpL_no {s : Is} {ks : List Lk} {tq : ByteArray} {nw li : Int} {x : Er} (h : hpE s ks tq nw li = x) (hx : x ≠ .nil) : hpL s ks tq nw li = [] := by
  unfold hpL
  rw [h]
  cases x
  · exact absurd rfl hx
  all_goals rfl
theorem hpL_yes {s : Is} {ks : List Lk} {tq : ByteArray} {nw li : Int} (h : hpE s ks tq nw li = .nil) : hpL s ks tq nw li = extL ks tq s.nx nw li := by
  unfold hpL
  rw [h]
theorem hpW_at {ks : List Lk} {m : Nat} (hm : m < ks.length) (hl : m = ks.length - 1) : hpW ks = ks[m].to := by
  subst hl
  unfold hpW
  rw [List.getElem?_eq_getElem hm]
theorem good_size {k : Lk} (h : k.good = true) : k.size ≤ 1048576 := by
  have h1 := nm_size ((Lk.good_iff k).1 h).1
  have h2 := nm_size ((Lk.good_iff k).1 h).2.1
  unfold Lk.size
  omega
theorem ext_facts {ks : List Lk} {tq : ByteArray} {se nw li : Int} (h : extB ks tq se nw li = true) : (extL ks tq se nw li).length = ks.length + 1 ∧ (extL ks tq se nw li).length ≤ 6 ∧ (∀ k ∈ extL ks tq se nw li, k.good = true) ∧ (∀ k ∈ extL ks tq se nw li, k.size ≤ 1048576) ∧ ∀ hl : ks.length < (extL ks tq se nw li).length, ((extL ks tq se nw li)[ks.length]'hl).who = hpW ks := by
  obtain ⟨k, hk, hx, ht⟩ : ∃ k, ks[ks.length - 1]? = some k ∧ extL ks tq se nw li = ks ++ [ext1 k tq se nw li] ∧ tkB (ks ++ [ext1 k tq se nw li]) = true := by
    cases hk : ks[ks.length - 1]? with
    | none => unfold extB at h; rw [hk] at h; cases h
    | some k =>
      refine ⟨k, rfl, ?_, ?_⟩
      · unfold extL
        rw [hk]
        simp only
        rw [if_pos h]
      · unfold extB at h
        rw [hk] at h
        simp only [Bool.and_eq_true] at h
        exact h.2.2.2
  rw [hx]
  have hg := fun x hx => tkB_good ht x hx
  refine ⟨by simp, (tkB_len ht).2, hg, fun x hx => good_size (hg x hx), fun hl => ?_⟩
  have hw : hpW ks = k.to := by unfold hpW; rw [hk]
  rw [hw]
  simp [ext1]

set_option maxHeartbeats 8000000 in
set_option maxRecDepth 100000 in
theorem longerToken_any (v : Value) (s : Is) (vk : Value) (ks : List Lk) (tq : ByteArray) (nw li : Int) (p0 p1 p2 p3 : Addr) (w : World) (hs : s.short) (hn : s.named) (hm : ks.length ≤ 1048577) (hf : ∀ k ∈ ks, k.size ≤ 1048576) (hm2 : tq.size ≤ 1048576) (hE : ErA w p0 p1 p2 p3) (h : IsA w v s) (hr : LkS w vk ks) :
    Calls Tryz.prog 56 #[v, vk, .string tq, .int .i64 nw, .int .i64 li] w fun e w' => ∃ vl, e = .returned (.tuple #[vl, (hpE s ks tq nw li).val p0 p1 p2 p3]) ∧ w'.ownsRow w.heap.size 52 5 vl (hpL s ks tq nw li).length ((hpL s ks tq nw li).flatMap Lk.cells) ∧ (hpE s ks tq nw li ≠ .nil → vl = .slice none 0 0) ∧ Below w.heap.size w w' := by
  obtain ⟨aw, cw, ar, cr, ag, cg, rfl⟩ := is_forms h
  obtain ⟨ak, ck, rfl⟩ := hr.len
  have hBB : Below w.heap.size w (w.alloc (.cells #[.slice aw s.ws.length cw, .int .i64 s.nx, .slice ar s.rv.length cr, .slice ag s.sg.length cg] 30)) := (Below.refl _ w).alloc (Nat.le_refl _) _
  have F1 := Four.new w (.slice aw s.ws.length cw) (.int .i64 s.nx) (.slice ar s.rv.length cr) (.slice ag s.sg.length cg) 30
  obtain ⟨a0, a1, a2, a3⟩ := F1.c
  go_enter Tryz.func56, Tryz.ntmps56
  go_wp2_with fail
  generalize w.alloc (.cells #[.slice aw s.ws.length cw, .int .i64 s.nx, .slice ar s.rv.length cr, .slice ag s.sg.length cg] 30) = W0 at *
  refine (implGoodIssuer_any _ s _ hs hn (h.below hBB)).mono ?_
  rintro e w1 ⟨rfl, hB1⟩
  replace F1 := F1.below hB1
  replace hBB := below_one hBB hB1
  clear hB1 a0 a1 a2 a3
  cases hg : isB s
  case false =>
    have HR := hid (hp_bad (s := s) (ks := ks) (tq := tq) (nw := nw) (li := li) (by unfold hpB; rw [hg]; rfl))
    have HL := hid (hpL_no HR.out (by intro h; cases h))
    have g0 := (hE.below hBB).g0
    go_wp2_with fail
    go_quiet (fail)
    go_wp2
    go_ret2
    exact ⟨_, by rw [HR.out]; rfl, by rw [HL.out]; exact World.ownsRow_nil _ _ _ _, fun _ => rfl, below_drewn hBB _⟩
  go_wp2_with fail
  refine (implGoodToken_any _ ks _ hm hf (hr.below hBB)).mono ?_
  rintro e w2 ⟨rfl, hB2⟩
  replace F1 := F1.below hB2
  replace hBB := below_one hBB hB2
  clear hB2
  cases hg1 : tkB ks
  case false =>
    have HR := hid (hp_bad (s := s) (ks := ks) (tq := tq) (nw := nw) (li := li) (by unfold hpB; rw [hg1]; simp))
    have HL := hid (hpL_no HR.out (by intro h; cases h))
    have g0 := (hE.below hBB).g0
    go_wp2_with fail
    go_quiet (fail)
    go_wp2
    go_ret2
    exact ⟨_, by rw [HR.out]; rfl, by rw [HL.out]; exact World.ownsRow_nil _ _ _ _, fun _ => rfl, below_drewn hBB _⟩
  go_wp2_with fail
  refine (implGoodName_any tq _ hm2).mono ?_
  rintro e w2b ⟨rfl, hB2⟩
  replace F1 := F1.below hB2
  replace hBB := below_one hBB hB2
  clear hB2
  cases hg2 : nmOk tq
  case false =>
    rw [show gnB (split tq 47) = false from hg2]
    have HR := hid (hp_bad (s := s) (ks := ks) (tq := tq) (nw := nw) (li := li) (by unfold hpB; rw [hg2]; simp))
    have HL := hid (hpL_no HR.out (by intro h; cases h))
    have g0 := (hE.below hBB).g0
    go_wp2_with fail
    go_quiet (fail)
    go_wp2
    go_ret2
    exact ⟨_, by rw [HR.out]; rfl, by rw [HL.out]; exact World.ownsRow_nil _ _ _ _, fun _ => rfl, below_drewn hBB _⟩
  rw [show gnB (split tq 47) = true from hg2]
  go_wp2_with fail
  refine (goodTime_any nw _).mono ?_
  rintro e w3 ⟨rfl, rfl⟩
  cases hg3 : tmB nw
  case false =>
    have HR := hid (hp_bad (s := s) (ks := ks) (tq := tq) (nw := nw) (li := li) (by unfold hpB; rw [hg3]; simp))
    have HL := hid (hpL_no HR.out (by intro h; cases h))
    have g0 := (hE.below hBB).g0
    go_wp2_with fail
    go_quiet (fail)
    go_wp2
    go_ret2
    exact ⟨_, by rw [HR.out]; rfl, by rw [HL.out]; exact World.ownsRow_nil _ _ _ _, fun _ => rfl, below_drewn hBB _⟩
  go_wp2_with fail
  refine (goodTime_any li _).mono ?_
  rintro e w4 ⟨rfl, rfl⟩
  cases hg4 : tmB li
  case false =>
    have HR := hid (hp_bad (s := s) (ks := ks) (tq := tq) (nw := nw) (li := li) (by unfold hpB; rw [hg4]; simp))
    have HL := hid (hpL_no HR.out (by intro h; cases h))
    have g0 := (hE.below hBB).g0
    go_wp2_with fail
    go_quiet (fail)
    go_wp2
    go_ret2
    exact ⟨_, by rw [HR.out]; rfl, by rw [HL.out]; exact World.ownsRow_nil _ _ _ _, fun _ => rfl, below_drewn hBB _⟩
  have HB := hid (show hpB s ks tq nw li = true by unfold hpB; rw [hg, hg1, hg2, hg3, hg4]; rfl)
  have hl6 := tkB_len hg1
  obtain ⟨ml, hml⟩ : ∃ m, m + 1 = ks.length := ⟨ks.length - 1, by omega⟩
  have hmm : ml < ks.length := by omega
  have hwh := hpW_at hmm (by omega)
  go_wp2_with fail
  have hBd : Below w4.heap.size w4 w4.drew := (Below.refl _ _).drew
  replace F1 := F1.below hBd
  replace hBB := below_one hBB hBd
  clear hBd
  have hrd := hr.below hBB
  obtain ⟨bb, off, ebb, hbb, hcl, q0, q1, q2, q3, q4⟩ := hrd.at hmm
  subst ebb
  rw [← hwh] at q1
  clear hwh q0 q2 q3 q4
  have hwrap : ((ks.length : Int) - 1).toNat = ml := by omega
  have hsubi : (ks.length : Int) - 1 = (ml : Int) := by omega
  have hwm : IntKind.i64.wrap (ml : Int) = (ml : Int) := by rw [IntKind.wrap_i64]; omega
  have hmlt : (ml : Int) < (ks.length : Int) := by omega
  obtain ⟨c0, c1, c2, c3⟩ := F1.c
  refine wp_region_held_drew (S := fun w' => (w'.cell? ⟨w.heap.size, 0, none⟩ = some (.slice aw s.ws.length cw) ∧ w'.cell? ⟨w.heap.size, 1, none⟩ = some (.int .i64 s.nx) ∧ w'.cell? ⟨w.heap.size, 2, none⟩ = some (.slice ar s.rv.length cr) ∧ w'.cell? ⟨w.heap.size, 3, none⟩ = some (.slice ag s.sg.length cg)) ∧ w'.cell? ⟨bb, off + ml * 5 + 1, none⟩ = some (.string (hpW ks))) (by kernel_rfl) ?_ (fun hHeld => ?_)
  · exact ⟨⟨c0, c1, c2, c3⟩, q1⟩
  generalize w4.drew = Wd at *
  clear c0 c1 c2 c3
  refine takeW 0 (v := ?v1) rfl (by kernel_rfl) (by kernel_rfl) (by kernel_rfl) (fun _ _ _ h => h) (by rfl) (by assumption) ?hy1 ?rest1
  case hy1 => intro w' hSw; (try dsimp only at hSw); go_simp; try with_reducible rfl
  try simp only [Act.put, List.setIfInBounds_toArray, List.set_cons_zero, List.set_cons_succ]
  refine takeW 1 (v := ?v2) rfl (by kernel_rfl) (by kernel_rfl) (by kernel_rfl) (fun _ _ _ h => h) (by rfl) (by assumption) ?hy2 ?rest2
  case hy2 => intro w' hSw; (try dsimp only at hSw); go_simp; try with_reducible rfl
  try simp only [Act.put, List.setIfInBounds_toArray, List.set_cons_zero, List.set_cons_succ]
  refine takeW 2 (v := ?v3) rfl (by kernel_rfl) (by kernel_rfl) (by kernel_rfl) (fun _ _ _ h => h) (by rfl) (by assumption) ?hy3 ?rest3
  case hy3 => intro w' hSw; (try dsimp only at hSw); go_simp; try with_reducible rfl
  try simp only [Act.put, List.setIfInBounds_toArray, List.set_cons_zero, List.set_cons_succ]
  refine takeW 3 (v := ?v4) rfl (by kernel_rfl) (by kernel_rfl) (by kernel_rfl) (fun _ _ _ h => h) (by rfl) (by assumption) ?hy4 ?rest4
  case hy4 => intro w' hSw; (try dsimp only at hSw); go_simp; try with_reducible rfl
  try simp only [Act.put, List.setIfInBounds_toArray, List.set_cons_zero, List.set_cons_succ]
  refine takeW 4 (v := ?v5) rfl (by kernel_rfl) (by kernel_rfl) (by kernel_rfl) (fun _ _ _ h => h) (by rfl) (by assumption) ?hy5 ?rest5
  case hy5 => intro w' hSw; (try dsimp only at hSw); go_simp; try with_reducible rfl
  try simp only [Act.put, List.setIfInBounds_toArray, List.set_cons_zero, List.set_cons_succ]
  refine takeW 5 (v := ?v6) rfl (by kernel_rfl) (by kernel_rfl) (by kernel_rfl) (fun _ _ _ h => h) (by rfl) (by assumption) ?hy6 ?rest6
  case hy6 => intro w' hSw; (try dsimp only at hSw); go_simp; try with_reducible rfl
  try simp only [Act.put, List.setIfInBounds_toArray, List.set_cons_zero, List.set_cons_succ]
  refine takeW 6 (v := ?v7) rfl (by kernel_rfl) (by kernel_rfl) (by kernel_rfl) (fun _ _ _ h => h) (by rfl) (by assumption) ?hy7 ?rest7
  case hy7 => intro w' hSw; (try dsimp only at hSw); go_simp; try with_reducible rfl
  try simp only [Act.put, List.setIfInBounds_toArray, List.set_cons_zero, List.set_cons_succ]
  refine takeW 7 (v := ?v8) rfl (by kernel_rfl) (by kernel_rfl) (by kernel_rfl) (fun _ _ _ h => h) (by rfl) (by assumption) ?hy8 ?rest8
  case hy8 => intro w' hSw; (try dsimp only at hSw); go_simp; try with_reducible rfl
  try simp only [Act.put, List.setIfInBounds_toArray, List.set_cons_zero, List.set_cons_succ]
  refine takeC 8 (by kernel_rfl) rfl (fun K hK => ?_)
  go_simp
  refine (mayIssue_any _ s (hpW ks) p0 p1 p2 p3 _ hs (hE.below hBB) (h.below hBB)).mono ?_; rintro e w5 ⟨rfl, hB5⟩; have F14 := F1.below hB5; have q14 := (hB5.cell (p := ⟨bb, off + ml * 5 + 1, none⟩) hbb).trans q1
  refine hK.out _ _ ?_ (fun hHeld => ?_)
  · first | exact ⟨F14.c, q14⟩ | exact ⟨F1.c, q1⟩
  clear hK K
  try simp only [Act.put, List.setIfInBounds_toArray, List.set_cons_zero, List.set_cons_succ]
  refine takeW 9 (v := ?v9) rfl (by kernel_rfl) (by kernel_rfl) (by kernel_rfl) (fun _ _ _ h => h) (by rfl) (by assumption) ?hy9 ?rest9
  case hy9 => intro w' hSw; (try dsimp only at hSw); go_simp; try with_reducible rfl
  try simp only [Act.put, List.setIfInBounds_toArray, List.set_cons_zero, List.set_cons_succ]
  refine wpAnyH_done (by kernel_rfl) ?_ _
  clear hHeld
  replace F1 := F14
  replace hBB := below_one hBB hB5
  clear hB5 F14 q14 q1 hbb
  cases hma : maE s (hpW ks) with
  | bad => exact absurd hma (maE_not s (hpW ks)).1
  | twice => exact absurd hma (maE_not s (hpW ks)).2
  | noWork =>
    have HR := hid (hp_no HB.out hma)
    have HL := hid (hpL_no HR.out (by intro h; cases h))
    go_wp2_with fail
    go_ret2
    exact ⟨_, by rw [HR.out]; rfl, by rw [HL.out]; exact World.ownsRow_nil _ _ _ _, fun _ => rfl, hBB⟩
  | full =>
    have HR := hid (hp_full HB.out hma)
    have HL := hid (hpL_no HR.out (by intro h; cases h))
    go_wp2_with fail
    go_ret2
    exact ⟨_, by rw [HR.out]; rfl, by rw [HL.out]; exact World.ownsRow_nil _ _ _ _, fun _ => rfl, hBB⟩
  | nil =>
    obtain ⟨a0, a1, a2, a3⟩ := F1.c
    go_wp2_with fail
    refine (implExtendToken_any _ ks tq s.nx nw li _ hm hf hm2 (hr.below hBB)).mono ?_
    rintro e w6 ⟨vx, rfl, rx, hB6⟩
    have hb6 : w.heap.size ≤ w5.heap.size := hBB.size
    replace hBB := below_one hBB hB6
    clear hB6 a0 a1 a2 a3
    cases hx : extB ks tq s.nx nw li
    case false =>
      have HR := hid (hp_ext HB.out hma hx)
      have HL := hid (hpL_no HR.out (by intro h; cases h))
      have g2 := (hE.below hBB).g2
      go_wp2_with fail
      go_quiet (fail)
      go_wp2
      go_ret2
      exact ⟨_, by rw [HR.out]; rfl, by rw [HL.out]; exact World.ownsRow_nil _ _ _ _, fun _ => rfl, below_drewn hBB _⟩
    case true =>
      have HR := hid (hp_nil HB.out hma hx)
      have HL := hid (hpL_yes HR.out)
      go_wp2_with fail
      go_ret2
      exact ⟨_, by rw [HR.out]; rfl, by rw [HL.out]; exact Go.Joins.ownsRow_le rx hb6, fun h => absurd HR.out h, hBB⟩

end Go.Proofs.YtodkpoppgfomeaaGreatDoor

namespace Go.Proofs.YtodkpoppgfomeaaGreatDoor
open Go.RowKit Go.Shelf

set_option maxHeartbeats 8000000 in
set_option maxRecDepth 100000 in
theorem implHop_any (v : Value) (s : Is) (vk : Value) (ks : List Lk) (tq : ByteArray) (nw li : Int) (p0 p1 p2 p3 : Addr) (base top : Nat) (w : World) (hs : s.short) (hn : s.named) (hm : ks.length ≤ 1048577) (hf : ∀ k ∈ ks, k.size ≤ 1048576) (hm2 : tq.size ≤ 1048576) (hE : ErA w p0 p1 p2 p3) (h : IsO w base top v s) (hr : LkS w vk ks) (ht : Tab w) :
    Calls Tryz.prog 19 #[v, vk, .string tq, .int .i64 nw, .int .i64 li] w fun e w' => ∃ v' vl m, e = .returned (.tuple #[v', vl, .int .i64 (hpE s ks tq nw li).code]) ∧ w.heap.size ≤ m ∧ IsO w' m w'.heap.size v' (hdX (hpE s ks tq nw li) s (extL ks tq s.nx nw li) (hpW ks)) ∧ w'.ownsRow w.heap.size 52 5 vl (hpL s ks tq nw li).length ((hpL s ks tq nw li).flatMap Lk.cells) ∧ (∀ k, vl.ownBlock = some k → k < m) ∧ Below w.heap.size w w' := by
  obtain ⟨aw, cw, ar, cr, ag, cg, rfl⟩ := is_forms h.a
  obtain ⟨ak, ck, rfl⟩ := hr.len
  have hB0 : Below w.heap.size w ((w.alloc (.cells #[.slice aw s.ws.length cw, .int .i64 s.nx, .slice ar s.rv.length cr, .slice ag s.sg.length cg] 30)).alloc (.cells #[.slice none 0 0, .int .i64 0, .slice none 0 0, .slice none 0 0] 30)) := ((Below.refl _ w).alloc (Nat.le_refl _) _).alloc (by simp) _
  have F1 := (Four.new w (.slice aw s.ws.length cw) (.int .i64 s.nx) (.slice ar s.rv.length cr) (.slice ag s.sg.length cg) 30).below ((Below.refl _ _).alloc (Nat.le_refl _) (.cells #[.slice none 0 0, .int .i64 0, .slice none 0 0, .slice none 0 0] 30))
  have F2 := Four.at (w.alloc (.cells #[.slice aw s.ws.length cw, .int .i64 s.nx, .slice ar s.rv.length cr, .slice ag s.sg.length cg] 30)) (.slice none 0 0) (.int .i64 0) (.slice none 0 0) (.slice none 0 0) 30 (k := w.heap.size + 1) (by simp)
  go_enter Tryz.func19, Tryz.ntmps19
  go_wp2_with fail
  generalize (w.alloc (.cells #[.slice aw s.ws.length cw, .int .i64 s.nx, .slice ar s.rv.length cr, .slice ag s.sg.length cg] 30)).alloc (.cells #[.slice none 0 0, .int .i64 0, .slice none 0 0, .slice none 0 0] 30) = W0 at *
  refine (longerToken_any _ s _ ks tq nw li p0 p1 p2 p3 _ hs hn hm hf hm2 (hE.below hB0) (h.a.below hB0) (hr.below hB0)).mono ?_
  rintro e w1 ⟨vl, rfl, rl, hvn, hB1⟩
  replace F1 := F1.below hB1
  replace F2 := F2.below hB1
  have hBB := below_one hB0 hB1
  have hb0 := hB0.size
  clear hB1
  have E1 := hE.below hBB
  have O1 := h.below hBB
  have hk1 := F2.lt
  have hbw := hBB.size
  obtain ⟨a0, a1, a2, a3⟩ := F1.c
  replace rl := Go.Joins.ownsRow_le rl hb0
  clear hB0
  cases hit : hpE s ks tq nw li with
  | twice => exact absurd hit (hpE_not s ks tq nw li)
  | bad =>
    have HI := hid hit
    have HL := hid (hpL_no hit (by intro h; cases h))
    obtain rfl := hvn (by rw [hit]; intro h; cases h)
    clear hit hvn
    go_wp2_with fail
    refine (handed_bad _ s p0 p1 p2 p3 base top _ E1 O1).mono ?_
    rintro e w2 ⟨v2, rfl, O2, hB2⟩
    have HX := hid (show hdX (hpE s ks tq nw li) s (extL ks tq s.nx nw li) (hpW ks) = Is.none by rw [HI.out]; rfl)
    obtain ⟨t, HT⟩ : ∃ t, Hid (t = hdX (hpE s ks tq nw li) s (extL ks tq s.nx nw li) (hpW ks)) := ⟨_, hid rfl⟩
    rw [← HX.out, ← HT.out] at O2
    replace F2 := F2.below hB2
    replace hBB := below_one hBB hB2
    have hs2 := hB2.size
    clear hB2 a0 a1 a2 a3
    obtain ⟨x1, z1, x2, z2, x3, z3, rfl⟩ := is_forms O2.a
    obtain ⟨_, _, _, ee, o1, o2, o3, t1, t2, t3⟩ := O2
    cases ee
    obtain ⟨r0, r1, r2, r3⟩ := F2.c
    have f0 := F2.f 0
    have f1 := F2.f 1
    have f2 := F2.f 2
    have f3 := F2.f 3
    have G := (((F2.s0 (.slice x1 t.ws.length z1)).s1 (.int .i64 t.nx)).s2 (.slice x2 t.rv.length z2)).s3 (.slice x3 t.sg.length z3)
    have pB := below_four hBB (k := w.heap.size + 1) (by omega) (.slice x1 t.ws.length z1) (.int .i64 t.nx) (.slice x2 t.rv.length z2) (.slice x3 t.sg.length z3)
    have q1 := row_four o1 (k := w.heap.size + 1) hk1 (.slice x1 t.ws.length z1) (.int .i64 t.nx) (.slice x2 t.rv.length z2) (.slice x3 t.sg.length z3)
    have q2 := row_four o2 (k := w.heap.size + 1) hk1 (.slice x1 t.ws.length z1) (.int .i64 t.nx) (.slice x2 t.rv.length z2) (.slice x3 t.sg.length z3)
    have q3 := row_four o3 (k := w.heap.size + 1) hk1 (.slice x1 t.ws.length z1) (.int .i64 t.nx) (.slice x2 t.rv.length z2) (.slice x3 t.sg.length z3)
    go_wp2_with fail
    clear r0 r1 r2 r3 f0 f1 f2 f3
    generalize (((w2.setCell ⟨w.heap.size + 1, 0, none⟩ (.slice x1 t.ws.length z1)).setCell ⟨w.heap.size + 1, 1, none⟩ (.int .i64 t.nx)).setCell ⟨w.heap.size + 1, 2, none⟩ (.slice x2 t.rv.length z2)).setCell ⟨w.heap.size + 1, 3, none⟩ (.slice x3 t.sg.length z3) = W9 at *
    obtain ⟨d0, d1, d2, d3⟩ := G.c
    exact bodyPost_ret (v := .tuple #[.agg #[.slice x1 t.ws.length z1, .int .i64 t.nx, .slice x2 t.rv.length z2, .slice x3 t.sg.length z3], .slice none 0 0, .int .i64 1]) (by simp [results, Tryz.results19, go_sem, d0, d1, d2, d3]) rfl ⟨_, _, w1.heap.size, by rw [HI.out]; rfl, hbw, by rw [← HT.out]; exact IsO.of q1 q2 q3, by rw [HL.out]; exact World.ownsRow_nil _ _ _ _, fun _ h => by simp [Value.ownBlock] at h, pB⟩
  | noWork =>
    have HI := hid hit
    have HL := hid (hpL_no hit (by intro h; cases h))
    obtain rfl := hvn (by rw [hit]; intro h; cases h)
    clear hit hvn
    go_wp2_with fail
    refine (handed_no _ s p0 p1 p2 p3 base top _ hs E1 O1).mono ?_
    rintro e w2 ⟨v2, rfl, O2, hB2⟩
    have HX := hid (show hdX (hpE s ks tq nw li) s (extL ks tq s.nx nw li) (hpW ks) = s by rw [HI.out]; rfl)
    obtain ⟨t, HT⟩ : ∃ t, Hid (t = hdX (hpE s ks tq nw li) s (extL ks tq s.nx nw li) (hpW ks)) := ⟨_, hid rfl⟩
    rw [← HX.out, ← HT.out] at O2
    replace F2 := F2.below hB2
    replace hBB := below_one hBB hB2
    have hs2 := hB2.size
    clear hB2 a0 a1 a2 a3
    obtain ⟨x1, z1, x2, z2, x3, z3, rfl⟩ := is_forms O2.a
    obtain ⟨_, _, _, ee, o1, o2, o3, t1, t2, t3⟩ := O2
    cases ee
    obtain ⟨r0, r1, r2, r3⟩ := F2.c
    have f0 := F2.f 0
    have f1 := F2.f 1
    have f2 := F2.f 2
    have f3 := F2.f 3
    have G := (((F2.s0 (.slice x1 t.ws.length z1)).s1 (.int .i64 t.nx)).s2 (.slice x2 t.rv.length z2)).s3 (.slice x3 t.sg.length z3)
    have pB := below_four hBB (k := w.heap.size + 1) (by omega) (.slice x1 t.ws.length z1) (.int .i64 t.nx) (.slice x2 t.rv.length z2) (.slice x3 t.sg.length z3)
    have q1 := row_four o1 (k := w.heap.size + 1) hk1 (.slice x1 t.ws.length z1) (.int .i64 t.nx) (.slice x2 t.rv.length z2) (.slice x3 t.sg.length z3)
    have q2 := row_four o2 (k := w.heap.size + 1) hk1 (.slice x1 t.ws.length z1) (.int .i64 t.nx) (.slice x2 t.rv.length z2) (.slice x3 t.sg.length z3)
    have q3 := row_four o3 (k := w.heap.size + 1) hk1 (.slice x1 t.ws.length z1) (.int .i64 t.nx) (.slice x2 t.rv.length z2) (.slice x3 t.sg.length z3)
    go_wp2_with fail
    clear r0 r1 r2 r3 f0 f1 f2 f3
    generalize (((w2.setCell ⟨w.heap.size + 1, 0, none⟩ (.slice x1 t.ws.length z1)).setCell ⟨w.heap.size + 1, 1, none⟩ (.int .i64 t.nx)).setCell ⟨w.heap.size + 1, 2, none⟩ (.slice x2 t.rv.length z2)).setCell ⟨w.heap.size + 1, 3, none⟩ (.slice x3 t.sg.length z3) = W9 at *
    obtain ⟨d0, d1, d2, d3⟩ := G.c
    exact bodyPost_ret (v := .tuple #[.agg #[.slice x1 t.ws.length z1, .int .i64 t.nx, .slice x2 t.rv.length z2, .slice x3 t.sg.length z3], .slice none 0 0, .int .i64 3]) (by simp [results, Tryz.results19, go_sem, d0, d1, d2, d3]) rfl ⟨_, _, w1.heap.size, by rw [HI.out]; rfl, hbw, by rw [← HT.out]; exact IsO.of q1 q2 q3, by rw [HL.out]; exact World.ownsRow_nil _ _ _ _, fun _ h => by simp [Value.ownBlock] at h, pB⟩
  | full =>
    have HI := hid hit
    have HL := hid (hpL_no hit (by intro h; cases h))
    obtain rfl := hvn (by rw [hit]; intro h; cases h)
    clear hit hvn
    go_wp2_with fail
    refine (handed_full _ s p0 p1 p2 p3 base top _ hs E1 O1).mono ?_
    rintro e w2 ⟨v2, rfl, O2, hB2⟩
    have HX := hid (show hdX (hpE s ks tq nw li) s (extL ks tq s.nx nw li) (hpW ks) = s by rw [HI.out]; rfl)
    obtain ⟨t, HT⟩ : ∃ t, Hid (t = hdX (hpE s ks tq nw li) s (extL ks tq s.nx nw li) (hpW ks)) := ⟨_, hid rfl⟩
    rw [← HX.out, ← HT.out] at O2
    replace F2 := F2.below hB2
    replace hBB := below_one hBB hB2
    have hs2 := hB2.size
    clear hB2 a0 a1 a2 a3
    obtain ⟨x1, z1, x2, z2, x3, z3, rfl⟩ := is_forms O2.a
    obtain ⟨_, _, _, ee, o1, o2, o3, t1, t2, t3⟩ := O2
    cases ee
    obtain ⟨r0, r1, r2, r3⟩ := F2.c
    have f0 := F2.f 0
    have f1 := F2.f 1
    have f2 := F2.f 2
    have f3 := F2.f 3
    have G := (((F2.s0 (.slice x1 t.ws.length z1)).s1 (.int .i64 t.nx)).s2 (.slice x2 t.rv.length z2)).s3 (.slice x3 t.sg.length z3)
    have pB := below_four hBB (k := w.heap.size + 1) (by omega) (.slice x1 t.ws.length z1) (.int .i64 t.nx) (.slice x2 t.rv.length z2) (.slice x3 t.sg.length z3)
    have q1 := row_four o1 (k := w.heap.size + 1) hk1 (.slice x1 t.ws.length z1) (.int .i64 t.nx) (.slice x2 t.rv.length z2) (.slice x3 t.sg.length z3)
    have q2 := row_four o2 (k := w.heap.size + 1) hk1 (.slice x1 t.ws.length z1) (.int .i64 t.nx) (.slice x2 t.rv.length z2) (.slice x3 t.sg.length z3)
    have q3 := row_four o3 (k := w.heap.size + 1) hk1 (.slice x1 t.ws.length z1) (.int .i64 t.nx) (.slice x2 t.rv.length z2) (.slice x3 t.sg.length z3)
    go_wp2_with fail
    clear r0 r1 r2 r3 f0 f1 f2 f3
    generalize (((w2.setCell ⟨w.heap.size + 1, 0, none⟩ (.slice x1 t.ws.length z1)).setCell ⟨w.heap.size + 1, 1, none⟩ (.int .i64 t.nx)).setCell ⟨w.heap.size + 1, 2, none⟩ (.slice x2 t.rv.length z2)).setCell ⟨w.heap.size + 1, 3, none⟩ (.slice x3 t.sg.length z3) = W9 at *
    obtain ⟨d0, d1, d2, d3⟩ := G.c
    exact bodyPost_ret (v := .tuple #[.agg #[.slice x1 t.ws.length z1, .int .i64 t.nx, .slice x2 t.rv.length z2, .slice x3 t.sg.length z3], .slice none 0 0, .int .i64 4]) (by simp [results, Tryz.results19, go_sem, d0, d1, d2, d3]) rfl ⟨_, _, w1.heap.size, by rw [HI.out]; rfl, hbw, by rw [← HT.out]; exact IsO.of q1 q2 q3, by rw [HL.out]; exact World.ownsRow_nil _ _ _ _, fun _ h => by simp [Value.ownBlock] at h, pB⟩
  | nil =>
    have HI := hid hit
    have HL := hid (hpL_yes hit)
    obtain ⟨hb, hlv, hfu, hex⟩ := hpE_nil hit
    have hhd := isB_hd (hpB_parts hb).1
    have hhas := livW_has hlv
    have HF := hid (ext_facts hex)
    rw [HL.out] at rl
    clear hit hvn hlv hfu hb hex
    obtain ⟨bl, cl, rfl⟩ : ∃ bl cl, vl = .slice (some ⟨bl, 0, none⟩) (extL ks tq s.nx nw li).length cl := by
      rcases row_form rl with ⟨_, h0⟩ | ⟨g, c, hv, _, _⟩
      · have := HF.out.1; omega
      · exact ⟨g, c, hv⟩
    have hblt : bl < w1.heap.size := (rl.lt bl rfl).2
    go_wp2_with fail
    refine (handed_nil _ s bl ks.length cl (extL ks tq s.nx nw li) (hpW ks) p0 p1 p2 p3 base top w.heap.size _ hs E1 O1 ⟨by omega, by omega⟩ hhd.2.2.2 hhas HF.out.1.symm HF.out.2.1 HF.out.2.2.1 HF.out.2.2.2.1 (HF.out.2.2.2.2 (by have := HF.out.1; omega)) rl (ht.on hBB)).mono ?_
    rintro e w2 ⟨v2, rfl, O2, hB2⟩
    have HX := hid (show hdX (hpE s ks tq nw li) s (extL ks tq s.nx nw li) (hpW ks) = sgX s (extL ks tq s.nx nw li) (hpW ks) by rw [HI.out]; rfl)
    replace rl := ownsRow_below rl hB2
    obtain ⟨t, HT⟩ : ∃ t, Hid (t = hdX (hpE s ks tq nw li) s (extL ks tq s.nx nw li) (hpW ks)) := ⟨_, hid rfl⟩
    rw [← HX.out, ← HT.out] at O2
    replace F2 := F2.below hB2
    replace hBB := below_one hBB hB2
    have hs2 := hB2.size
    clear hB2 a0 a1 a2 a3
    obtain ⟨x1, z1, x2, z2, x3, z3, rfl⟩ := is_forms O2.a
    obtain ⟨_, _, _, ee, o1, o2, o3, t1, t2, t3⟩ := O2
    cases ee
    obtain ⟨r0, r1, r2, r3⟩ := F2.c
    have f0 := F2.f 0
    have f1 := F2.f 1
    have f2 := F2.f 2
    have f3 := F2.f 3
    have G := (((F2.s0 (.slice x1 t.ws.length z1)).s1 (.int .i64 t.nx)).s2 (.slice x2 t.rv.length z2)).s3 (.slice x3 t.sg.length z3)
    have pB := below_four hBB (k := w.heap.size + 1) (by omega) (.slice x1 t.ws.length z1) (.int .i64 t.nx) (.slice x2 t.rv.length z2) (.slice x3 t.sg.length z3)
    have q1 := row_four o1 (k := w.heap.size + 1) hk1 (.slice x1 t.ws.length z1) (.int .i64 t.nx) (.slice x2 t.rv.length z2) (.slice x3 t.sg.length z3)
    have q2 := row_four o2 (k := w.heap.size + 1) hk1 (.slice x1 t.ws.length z1) (.int .i64 t.nx) (.slice x2 t.rv.length z2) (.slice x3 t.sg.length z3)
    have q3 := row_four o3 (k := w.heap.size + 1) hk1 (.slice x1 t.ws.length z1) (.int .i64 t.nx) (.slice x2 t.rv.length z2) (.slice x3 t.sg.length z3)
    have ql := rowaw rl (k := w.heap.size + 1) (fun e => row_apart rl F2 (by decide) (w.heap.size + 1) e rfl) (.slice x1 t.ws.length z1) (.int .i64 t.nx) (.slice x2 t.rv.length z2) (.slice x3 t.sg.length z3)
    go_wp2_with fail
    clear r0 r1 r2 r3 f0 f1 f2 f3
    generalize (((w2.setCell ⟨w.heap.size + 1, 0, none⟩ (.slice x1 t.ws.length z1)).setCell ⟨w.heap.size + 1, 1, none⟩ (.int .i64 t.nx)).setCell ⟨w.heap.size + 1, 2, none⟩ (.slice x2 t.rv.length z2)).setCell ⟨w.heap.size + 1, 3, none⟩ (.slice x3 t.sg.length z3) = W9 at *
    obtain ⟨d0, d1, d2, d3⟩ := G.c
    exact bodyPost_ret (v := .tuple #[.agg #[.slice x1 t.ws.length z1, .int .i64 t.nx, .slice x2 t.rv.length z2, .slice x3 t.sg.length z3], .slice (some ⟨bl, 0, none⟩) (extL ks tq s.nx nw li).length cl, .int .i64 0]) (by simp [results, Tryz.results19, go_sem, d0, d1, d2, d3]) rfl ⟨_, _, w1.heap.size, by rw [HI.out]; rfl, hbw, by rw [← HT.out]; exact IsO.of q1 q2 q3, by rw [HL.out]; exact ql, fun k h => by simp [Value.ownBlock] at h; omega, pB⟩

set_option maxHeartbeats 8000000 in
set_option maxRecDepth 100000 in
theorem specHop_any (v : Value) (s : Is) (vk : Value) (ks : List Lk) (tq : ByteArray) (nw li : Int) (base top : Nat) (w : World) (hs : s.short) (hn : s.named) (hm : ks.length ≤ 1048577) (hf : ∀ k ∈ ks, k.size ≤ 1048576) (hm2 : tq.size ≤ 1048576) (h : IsO w base top v s) (hr : LkS w vk ks) :
    Calls Tryz.prog 17 #[v, vk, .string tq, .int .i64 nw, .int .i64 li] w fun e w' => ∃ v' vl, e = .returned (.tuple #[v', vl, .int .i64 (hpE s ks tq nw li).code]) ∧ IsO w' w.heap.size w'.heap.size v' (hdX (hpE s ks tq nw li) s (extL ks tq s.nx nw li) (hpW ks)) ∧ w'.ownsRow w.heap.size 52 5 vl (hpL s ks tq nw li).length ((hpL s ks tq nw li).flatMap Lk.cells) ∧ Below w.heap.size w w' := by
  obtain ⟨aw, cw, ar, cr, ag, cg, rfl⟩ := is_forms h.a
  obtain ⟨ak, ck, rfl⟩ := hr.len
  have hB0 : Below w.heap.size w ((w.alloc (.cells #[.slice aw s.ws.length cw, .int .i64 s.nx, .slice ar s.rv.length cr, .slice ag s.sg.length cg] 30)).alloc (.cells #[.slice none 0 0, .int .i64 0, .slice none 0 0, .slice none 0 0] 30)) := ((Below.refl _ w).alloc (Nat.le_refl _) _).alloc (by simp) _
  have F1 := (Four.new w (.slice aw s.ws.length cw) (.int .i64 s.nx) (.slice ar s.rv.length cr) (.slice ag s.sg.length cg) 30).below ((Below.refl _ _).alloc (Nat.le_refl _) (.cells #[.slice none 0 0, .int .i64 0, .slice none 0 0, .slice none 0 0] 30))
  have F2 := Four.at (w.alloc (.cells #[.slice aw s.ws.length cw, .int .i64 s.nx, .slice ar s.rv.length cr, .slice ag s.sg.length cg] 30)) (.slice none 0 0) (.int .i64 0) (.slice none 0 0) (.slice none 0 0) 30 (k := w.heap.size + 1) (by simp)
  go_enter Tryz.func17, Tryz.ntmps17
  go_wp2_with fail
  generalize (w.alloc (.cells #[.slice aw s.ws.length cw, .int .i64 s.nx, .slice ar s.rv.length cr, .slice ag s.sg.length cg] 30)).alloc (.cells #[.slice none 0 0, .int .i64 0, .slice none 0 0, .slice none 0 0] 30) = Wz at *
  refine (specGoodIssuer_any _ s _ hs hn (h.a.below hB0)).mono ?_
  rintro e w1 ⟨rfl, hB1⟩
  have hBB := hB0
  clear hB0
  replace F1 := F1.below hB1
  replace F2 := F2.below hB1
  replace hBB := below_one hBB hB1
  clear hB1
  cases hg : isB s
  case false =>
    have HI := hid (hp_bad (s := s) (ks := ks) (tq := tq) (nw := nw) (li := li) (by unfold hpB; rw [hg]; rfl))
    have HL := hid (hpL_no HI.out (by intro h; cases h))
    have HX := hid (show hdX (hpE s ks tq nw li) s (extL ks tq s.nx nw li) (hpW ks) = Is.none by rw [HI.out]; rfl)
    obtain ⟨r0, r1, r2, r3⟩ := F2.c
    have f0 := F2.f 0
    have f1 := F2.f 1
    have f2 := F2.f 2
    have f3 := F2.f 3
    have G := (((F2.s0 (.slice none 0 0)).s1 (.int .i64 0)).s2 (.slice none 0 0)).s3 (.slice none 0 0)
    have pB := below_four hBB (k := w.heap.size + 1) (by omega) (.slice none 0 0) (.int .i64 0) (.slice none 0 0) (.slice none 0 0)
    go_wp2_with fail
    clear r0 r1 r2 r3 f0 f1 f2 f3
    generalize (((w1.setCell ⟨w.heap.size + 1, 0, none⟩ (.slice none 0 0)).setCell ⟨w.heap.size + 1, 1, none⟩ (.int .i64 0)).setCell ⟨w.heap.size + 1, 2, none⟩ (.slice none 0 0)).setCell ⟨w.heap.size + 1, 3, none⟩ (.slice none 0 0) = W9 at *
    obtain ⟨d0, d1, d2, d3⟩ := G.c
    exact bodyPost_ret (v := .tuple #[.agg #[.slice none 0 0, .int .i64 0, .slice none 0 0, .slice none 0 0], .slice none 0 0, .int .i64 1]) (by simp [results, Tryz.results17, go_sem, d0, d1, d2, d3]) rfl ⟨_, _, by rw [HI.out]; rfl, by rw [HX.out]; exact none_o _ _ _, by rw [HL.out]; exact World.ownsRow_nil _ _ _ _, pB⟩
  go_wp2_with fail
  refine (specGoodToken_any _ ks _ hm hf (hr.below hBB)).mono ?_
  rintro e w2 ⟨rfl, hB2⟩
  replace F1 := F1.below hB2
  replace F2 := F2.below hB2
  replace hBB := below_one hBB hB2
  clear hB2
  cases hg1 : tkB ks
  case false =>
    have HI := hid (hp_bad (s := s) (ks := ks) (tq := tq) (nw := nw) (li := li) (by unfold hpB; rw [hg1]; simp))
    have HL := hid (hpL_no HI.out (by intro h; cases h))
    have HX := hid (show hdX (hpE s ks tq nw li) s (extL ks tq s.nx nw li) (hpW ks) = Is.none by rw [HI.out]; rfl)
    obtain ⟨r0, r1, r2, r3⟩ := F2.c
    have f0 := F2.f 0
    have f1 := F2.f 1
    have f2 := F2.f 2
    have f3 := F2.f 3
    have G := (((F2.s0 (.slice none 0 0)).s1 (.int .i64 0)).s2 (.slice none 0 0)).s3 (.slice none 0 0)
    have pB := below_four hBB (k := w.heap.size + 1) (by omega) (.slice none 0 0) (.int .i64 0) (.slice none 0 0) (.slice none 0 0)
    go_wp2_with fail
    clear r0 r1 r2 r3 f0 f1 f2 f3
    generalize (((w2.setCell ⟨w.heap.size + 1, 0, none⟩ (.slice none 0 0)).setCell ⟨w.heap.size + 1, 1, none⟩ (.int .i64 0)).setCell ⟨w.heap.size + 1, 2, none⟩ (.slice none 0 0)).setCell ⟨w.heap.size + 1, 3, none⟩ (.slice none 0 0) = W9 at *
    obtain ⟨d0, d1, d2, d3⟩ := G.c
    exact bodyPost_ret (v := .tuple #[.agg #[.slice none 0 0, .int .i64 0, .slice none 0 0, .slice none 0 0], .slice none 0 0, .int .i64 1]) (by simp [results, Tryz.results17, go_sem, d0, d1, d2, d3]) rfl ⟨_, _, by rw [HI.out]; rfl, by rw [HX.out]; exact none_o _ _ _, by rw [HL.out]; exact World.ownsRow_nil _ _ _ _, pB⟩
  go_wp2_with fail
  refine (specGoodName_any tq _ hm2).mono ?_
  rintro e w2b ⟨rfl, hB2⟩
  replace F1 := F1.below hB2
  replace F2 := F2.below hB2
  replace hBB := below_one hBB hB2
  clear hB2
  cases hg2 : nmOk tq
  case false =>
    rw [show gnB (split tq 47) = false from hg2]
    have HI := hid (hp_bad (s := s) (ks := ks) (tq := tq) (nw := nw) (li := li) (by unfold hpB; rw [hg2]; simp))
    have HL := hid (hpL_no HI.out (by intro h; cases h))
    have HX := hid (show hdX (hpE s ks tq nw li) s (extL ks tq s.nx nw li) (hpW ks) = Is.none by rw [HI.out]; rfl)
    obtain ⟨r0, r1, r2, r3⟩ := F2.c
    have f0 := F2.f 0
    have f1 := F2.f 1
    have f2 := F2.f 2
    have f3 := F2.f 3
    have G := (((F2.s0 (.slice none 0 0)).s1 (.int .i64 0)).s2 (.slice none 0 0)).s3 (.slice none 0 0)
    have pB := below_four hBB (k := w.heap.size + 1) (by omega) (.slice none 0 0) (.int .i64 0) (.slice none 0 0) (.slice none 0 0)
    go_wp2_with fail
    clear r0 r1 r2 r3 f0 f1 f2 f3
    generalize (((w2b.setCell ⟨w.heap.size + 1, 0, none⟩ (.slice none 0 0)).setCell ⟨w.heap.size + 1, 1, none⟩ (.int .i64 0)).setCell ⟨w.heap.size + 1, 2, none⟩ (.slice none 0 0)).setCell ⟨w.heap.size + 1, 3, none⟩ (.slice none 0 0) = W9 at *
    obtain ⟨d0, d1, d2, d3⟩ := G.c
    exact bodyPost_ret (v := .tuple #[.agg #[.slice none 0 0, .int .i64 0, .slice none 0 0, .slice none 0 0], .slice none 0 0, .int .i64 1]) (by simp [results, Tryz.results17, go_sem, d0, d1, d2, d3]) rfl ⟨_, _, by rw [HI.out]; rfl, by rw [HX.out]; exact none_o _ _ _, by rw [HL.out]; exact World.ownsRow_nil _ _ _ _, pB⟩
  rw [show gnB (split tq 47) = true from hg2]
  go_wp2_with fail
  refine (l3Time_any nw _).mono ?_
  rintro e w3 ⟨rfl, rfl⟩
  cases hg3 : tmB nw
  case false =>
    have HI := hid (hp_bad (s := s) (ks := ks) (tq := tq) (nw := nw) (li := li) (by unfold hpB; rw [hg3]; simp))
    have HL := hid (hpL_no HI.out (by intro h; cases h))
    have HX := hid (show hdX (hpE s ks tq nw li) s (extL ks tq s.nx nw li) (hpW ks) = Is.none by rw [HI.out]; rfl)
    obtain ⟨r0, r1, r2, r3⟩ := F2.c
    have f0 := F2.f 0
    have f1 := F2.f 1
    have f2 := F2.f 2
    have f3 := F2.f 3
    have G := (((F2.s0 (.slice none 0 0)).s1 (.int .i64 0)).s2 (.slice none 0 0)).s3 (.slice none 0 0)
    have pB := below_four hBB (k := w.heap.size + 1) (by omega) (.slice none 0 0) (.int .i64 0) (.slice none 0 0) (.slice none 0 0)
    go_wp2_with fail
    clear r0 r1 r2 r3 f0 f1 f2 f3
    generalize (((w3.setCell ⟨w.heap.size + 1, 0, none⟩ (.slice none 0 0)).setCell ⟨w.heap.size + 1, 1, none⟩ (.int .i64 0)).setCell ⟨w.heap.size + 1, 2, none⟩ (.slice none 0 0)).setCell ⟨w.heap.size + 1, 3, none⟩ (.slice none 0 0) = W9 at *
    obtain ⟨d0, d1, d2, d3⟩ := G.c
    exact bodyPost_ret (v := .tuple #[.agg #[.slice none 0 0, .int .i64 0, .slice none 0 0, .slice none 0 0], .slice none 0 0, .int .i64 1]) (by simp [results, Tryz.results17, go_sem, d0, d1, d2, d3]) rfl ⟨_, _, by rw [HI.out]; rfl, by rw [HX.out]; exact none_o _ _ _, by rw [HL.out]; exact World.ownsRow_nil _ _ _ _, pB⟩
  go_wp2_with fail
  refine (l3Time_any li _).mono ?_
  rintro e w3 ⟨rfl, rfl⟩
  cases hg4 : tmB li
  case false =>
    have HI := hid (hp_bad (s := s) (ks := ks) (tq := tq) (nw := nw) (li := li) (by unfold hpB; rw [hg4]; simp))
    have HL := hid (hpL_no HI.out (by intro h; cases h))
    have HX := hid (show hdX (hpE s ks tq nw li) s (extL ks tq s.nx nw li) (hpW ks) = Is.none by rw [HI.out]; rfl)
    obtain ⟨r0, r1, r2, r3⟩ := F2.c
    have f0 := F2.f 0
    have f1 := F2.f 1
    have f2 := F2.f 2
    have f3 := F2.f 3
    have G := (((F2.s0 (.slice none 0 0)).s1 (.int .i64 0)).s2 (.slice none 0 0)).s3 (.slice none 0 0)
    have pB := below_four hBB (k := w.heap.size + 1) (by omega) (.slice none 0 0) (.int .i64 0) (.slice none 0 0) (.slice none 0 0)
    go_wp2_with fail
    clear r0 r1 r2 r3 f0 f1 f2 f3
    generalize (((w3.setCell ⟨w.heap.size + 1, 0, none⟩ (.slice none 0 0)).setCell ⟨w.heap.size + 1, 1, none⟩ (.int .i64 0)).setCell ⟨w.heap.size + 1, 2, none⟩ (.slice none 0 0)).setCell ⟨w.heap.size + 1, 3, none⟩ (.slice none 0 0) = W9 at *
    obtain ⟨d0, d1, d2, d3⟩ := G.c
    exact bodyPost_ret (v := .tuple #[.agg #[.slice none 0 0, .int .i64 0, .slice none 0 0, .slice none 0 0], .slice none 0 0, .int .i64 1]) (by simp [results, Tryz.results17, go_sem, d0, d1, d2, d3]) rfl ⟨_, _, by rw [HI.out]; rfl, by rw [HX.out]; exact none_o _ _ _, by rw [HL.out]; exact World.ownsRow_nil _ _ _ _, pB⟩
  have HB := hid (show hpB s ks tq nw li = true by unfold hpB; rw [hg, hg1, hg2, hg3, hg4]; rfl)
  have hl6 := tkB_len hg1
  obtain ⟨ml, hml⟩ : ∃ m, m + 1 = ks.length := ⟨ks.length - 1, by omega⟩
  have hmm : ml < ks.length := by omega
  have hwh := hpW_at hmm (by omega)
  have hhd := isB_hd hg
  clear hg hg1 hg2 hg3 hg4
  have hk1 : w.heap.size + 1 < w3.heap.size := F2.lt
  obtain ⟨a0, a1, a2, a3⟩ := F1.c
  go_wp2_with fail
  refine (l4Own_any _ s base top _ hs (h.below hBB)).mono ?_
  rintro e w4 ⟨v4, rfl, ⟨vw, vr, vs, rfl, o1, o2, o3, u1, u2, u3⟩, hB4, _⟩
  obtain ⟨x1, y1, z1, rfl⟩ := row_slice o1
  obtain ⟨x2, y2, z2, rfl⟩ := row_slice o2
  obtain ⟨x3, y3, z3, rfl⟩ := row_slice o3
  obtain rfl : y1 = s.ws.length := row_len o1
  obtain rfl : y2 = s.rv.length := row_len o2
  obtain rfl : y3 = s.sg.length := row_len o3
  have hk2 := hB4.size
  replace F1 := F1.below hB4
  replace F2 := F2.below hB4
  replace hBB := below_one hBB hB4
  clear hB4 a0 a1 a2 a3
  have hbo : w.heap.size ≤ w3.heap.size := by omega
  obtain ⟨a0, a1, a2, a3⟩ := F1.c
  have f0 := F1.f 0
  have f1 := F1.f 1
  have f2 := F1.f 2
  have f3 := F1.f 3
  have G1 := (((F1.s0 (.slice x1 s.ws.length z1)).s1 (.int .i64 s.nx)).s2 (.slice x2 s.rv.length z2)).s3 (.slice x3 s.sg.length z3)
  have G2 := (((F2.other (k' := w.heap.size) (by omega) 0 (.slice x1 s.ws.length z1)).other (k' := w.heap.size) (by omega) 1 (.int .i64 s.nx)).other (k' := w.heap.size) (by omega) 2 (.slice x2 s.rv.length z2)).other (k' := w.heap.size) (by omega) 3 (.slice x3 s.sg.length z3)
  have q1 := row_four o1 (k := w.heap.size) (by omega) (.slice x1 s.ws.length z1) (.int .i64 s.nx) (.slice x2 s.rv.length z2) (.slice x3 s.sg.length z3)
  have q2 := row_four o2 (k := w.heap.size) (by omega) (.slice x1 s.ws.length z1) (.int .i64 s.nx) (.slice x2 s.rv.length z2) (.slice x3 s.sg.length z3)
  have q3 := row_four o3 (k := w.heap.size) (by omega) (.slice x1 s.ws.length z1) (.int .i64 s.nx) (.slice x2 s.rv.length z2) (.slice x3 s.sg.length z3)
  have hB5 := below_four hBB (k := w.heap.size) (Nat.le_refl _) (.slice x1 s.ws.length z1) (.int .i64 s.nx) (.slice x2 s.rv.length z2) (.slice x3 s.sg.length z3)
  have hk5 : w4.heap.size ≤ ((((w4.setCell ⟨w.heap.size, 0, none⟩ (.slice x1 s.ws.length z1)).setCell ⟨w.heap.size, 1, none⟩ (.int .i64 s.nx)).setCell ⟨w.heap.size, 2, none⟩ (.slice x2 s.rv.length z2)).setCell ⟨w.heap.size, 3, none⟩ (.slice x3 s.sg.length z3)).heap.size := by simp
  clear F1 F2 o1 o2 o3 hBB
  go_wp2_with fail
  clear a0 a1 a2 a3 f0 f1 f2 f3
  generalize (((w4.setCell ⟨w.heap.size, 0, none⟩ (.slice x1 s.ws.length z1)).setCell ⟨w.heap.size, 1, none⟩ (.int .i64 s.nx)).setCell ⟨w.heap.size, 2, none⟩ (.slice x2 s.rv.length z2)).setCell ⟨w.heap.size, 3, none⟩ (.slice x3 s.sg.length z3) = W5 at *
  have hA5 : IsA W5 (.agg #[.slice x1 s.ws.length z1, .int .i64 s.nx, .slice x2 s.rv.length z2, .slice x3 s.sg.length z3]) s := ⟨_, _, _, rfl, WkS.own q1, VS.ownN q2, VS.ownS q3⟩
  have F1 := G1
  have F2 := G2
  have o1 := q1
  have o2 := q2
  have o3 := q3
  have hBB := hB5
  clear G1 G2 q1 q2 q3 hB5
  have hBd : Below W5.heap.size W5 W5.drew := (Below.refl _ _).drew
  replace F1 := F1.below hBd
  replace F2 := F2.below hBd
  replace o1 := ownsRow_below o1 hBd
  replace o2 := ownsRow_below o2 hBd
  replace o3 := ownsRow_below o3 hBd
  replace hA5 := hA5.below hBd
  replace hBB := below_one hBB hBd
  have hsd := hBd.size
  clear hBd
  have hrd := hr.below hBB
  obtain ⟨bb, off, ebb, hbb, hcl, q0, q1, q2, q3, q4⟩ := hrd.at hmm
  subst ebb
  rw [← hwh] at q1
  clear hwh q0 q2 q3 q4
  have hwrap : ((ks.length : Int) - 1).toNat = ml := by omega
  have hsubi : (ks.length : Int) - 1 = (ml : Int) := by omega
  have hwm : IntKind.i64.wrap (ml : Int) = (ml : Int) := by rw [IntKind.wrap_i64]; omega
  have hmlt : (ml : Int) < (ks.length : Int) := by omega
  obtain ⟨c0, c1, c2, c3⟩ := F1.c
  refine wp_region_held_drew (S := fun w' => (w'.cell? ⟨w.heap.size, 0, none⟩ = some (.slice x1 s.ws.length z1) ∧ w'.cell? ⟨w.heap.size, 1, none⟩ = some (.int .i64 s.nx) ∧ w'.cell? ⟨w.heap.size, 2, none⟩ = some (.slice x2 s.rv.length z2) ∧ w'.cell? ⟨w.heap.size, 3, none⟩ = some (.slice x3 s.sg.length z3)) ∧ w'.cell? ⟨bb, off + ml * 5 + 1, none⟩ = some (.string (hpW ks))) (by kernel_rfl) ?_ (fun hHeld => ?_)
  · exact ⟨⟨c0, c1, c2, c3⟩, q1⟩
  generalize W5.drew = Wd at *
  clear c0 c1 c2 c3
  refine takeW 0 (v := ?v10) rfl (by kernel_rfl) (by kernel_rfl) (by kernel_rfl) (fun _ _ _ h => h) (by rfl) (by assumption) ?hy10 ?rest10
  case hy10 => intro w' hSw; (try dsimp only at hSw); go_simp; try with_reducible rfl
  try simp only [Act.put, List.setIfInBounds_toArray, List.set_cons_zero, List.set_cons_succ]
  refine takeW 1 (v := ?v11) rfl (by kernel_rfl) (by kernel_rfl) (by kernel_rfl) (fun _ _ _ h => h) (by rfl) (by assumption) ?hy11 ?rest11
  case hy11 => intro w' hSw; (try dsimp only at hSw); go_simp; try with_reducible rfl
  try simp only [Act.put, List.setIfInBounds_toArray, List.set_cons_zero, List.set_cons_succ]
  refine takeW 2 (v := ?v12) rfl (by kernel_rfl) (by kernel_rfl) (by kernel_rfl) (fun _ _ _ h => h) (by rfl) (by assumption) ?hy12 ?rest12
  case hy12 => intro w' hSw; (try dsimp only at hSw); go_simp; try with_reducible rfl
  try simp only [Act.put, List.setIfInBounds_toArray, List.set_cons_zero, List.set_cons_succ]
  refine takeW 3 (v := ?v13) rfl (by kernel_rfl) (by kernel_rfl) (by kernel_rfl) (fun _ _ _ h => h) (by rfl) (by assumption) ?hy13 ?rest13
  case hy13 => intro w' hSw; (try dsimp only at hSw); go_simp; try with_reducible rfl
  try simp only [Act.put, List.setIfInBounds_toArray, List.set_cons_zero, List.set_cons_succ]
  refine takeW 4 (v := ?v14) rfl (by kernel_rfl) (by kernel_rfl) (by kernel_rfl) (fun _ _ _ h => h) (by rfl) (by assumption) ?hy14 ?rest14
  case hy14 => intro w' hSw; (try dsimp only at hSw); go_simp; try with_reducible rfl
  try simp only [Act.put, List.setIfInBounds_toArray, List.set_cons_zero, List.set_cons_succ]
  refine takeW 5 (v := ?v15) rfl (by kernel_rfl) (by kernel_rfl) (by kernel_rfl) (fun _ _ _ h => h) (by rfl) (by assumption) ?hy15 ?rest15
  case hy15 => intro w' hSw; (try dsimp only at hSw); go_simp; try with_reducible rfl
  try simp only [Act.put, List.setIfInBounds_toArray, List.set_cons_zero, List.set_cons_succ]
  refine takeW 6 (v := ?v16) rfl (by kernel_rfl) (by kernel_rfl) (by kernel_rfl) (fun _ _ _ h => h) (by rfl) (by assumption) ?hy16 ?rest16
  case hy16 => intro w' hSw; (try dsimp only at hSw); go_simp; try with_reducible rfl
  try simp only [Act.put, List.setIfInBounds_toArray, List.set_cons_zero, List.set_cons_succ]
  refine takeW 7 (v := ?v17) rfl (by kernel_rfl) (by kernel_rfl) (by kernel_rfl) (fun _ _ _ h => h) (by rfl) (by assumption) ?hy17 ?rest17
  case hy17 => intro w' hSw; (try dsimp only at hSw); go_simp; try with_reducible rfl
  try simp only [Act.put, List.setIfInBounds_toArray, List.set_cons_zero, List.set_cons_succ]
  refine takeC 8 (by kernel_rfl) rfl (fun K hK => ?_)
  go_simp
  refine (l4Live_any _ s (hpW ks) _ hs.1 hA5).mono ?_; rintro e w6 ⟨rfl, hB6⟩; have F14 := F1.below hB6; have q14 := (hB6.cell (p := ⟨bb, off + ml * 5 + 1, none⟩) hbb).trans q1
  refine hK.out _ _ ?_ (fun hHeld => ?_)
  · first | exact ⟨F14.c, q14⟩ | exact ⟨F1.c, q1⟩
  clear hK K
  try simp only [Act.put, List.setIfInBounds_toArray, List.set_cons_zero, List.set_cons_succ]
  refine takeW 9 (v := ?v18) rfl (by kernel_rfl) (by kernel_rfl) (by kernel_rfl) (fun _ _ _ h => h) (by rfl) (by assumption) ?hy18 ?rest18
  case hy18 => intro w' hSw; (try dsimp only at hSw); go_simp; try with_reducible rfl
  try simp only [Act.put, List.setIfInBounds_toArray, List.set_cons_zero, List.set_cons_succ]
  refine wpAnyH_done (by kernel_rfl) ?_ _
  clear hHeld
  have hs6 := hB6.size
  clear q14 F14 q1 hbb
  replace F1 := F1.below hB6
  replace F2 := F2.below hB6
  replace o1 := ownsRow_below o1 hB6
  replace o2 := ownsRow_below o2 hB6
  replace o3 := ownsRow_below o3 hB6
  replace hA5 := hA5.below hB6
  replace hBB := below_one hBB hB6
  clear hB6
  cases hlv : livW s.ws (hpW ks)
  case false =>
    have HI := hid (hp_no HB.out (maE_no hlv))
    have HL := hid (hpL_no HI.out (by intro h; cases h))
    have HX := hid (show hdX (hpE s ks tq nw li) s (extL ks tq s.nx nw li) (hpW ks) = s by rw [HI.out]; rfl)
    obtain ⟨a0, a1, a2, a3⟩ := F1.c
    obtain ⟨r0, r1, r2, r3⟩ := F2.c
    have f0 := F2.f 0
    have f1 := F2.f 1
    have f2 := F2.f 2
    have f3 := F2.f 3
    have G := (((F2.s0 (.slice x1 s.ws.length z1)).s1 (.int .i64 s.nx)).s2 (.slice x2 s.rv.length z2)).s3 (.slice x3 s.sg.length z3)
    have pB := below_four hBB (k := w.heap.size + 1) (by omega) (.slice x1 s.ws.length z1) (.int .i64 s.nx) (.slice x2 s.rv.length z2) (.slice x3 s.sg.length z3)
    have q1 := row_four o1 (k := w.heap.size + 1) (by omega) (.slice x1 s.ws.length z1) (.int .i64 s.nx) (.slice x2 s.rv.length z2) (.slice x3 s.sg.length z3)
    have q2 := row_four o2 (k := w.heap.size + 1) (by omega) (.slice x1 s.ws.length z1) (.int .i64 s.nx) (.slice x2 s.rv.length z2) (.slice x3 s.sg.length z3)
    have q3 := row_four o3 (k := w.heap.size + 1) (by omega) (.slice x1 s.ws.length z1) (.int .i64 s.nx) (.slice x2 s.rv.length z2) (.slice x3 s.sg.length z3)
    go_wp2_with fail
    clear r0 r1 r2 r3 f0 f1 f2 f3
    generalize (((w6.setCell ⟨w.heap.size + 1, 0, none⟩ (.slice x1 s.ws.length z1)).setCell ⟨w.heap.size + 1, 1, none⟩ (.int .i64 s.nx)).setCell ⟨w.heap.size + 1, 2, none⟩ (.slice x2 s.rv.length z2)).setCell ⟨w.heap.size + 1, 3, none⟩ (.slice x3 s.sg.length z3) = W9 at *
    obtain ⟨d0, d1, d2, d3⟩ := G.c
    exact bodyPost_ret (v := .tuple #[.agg #[.slice x1 s.ws.length z1, .int .i64 s.nx, .slice x2 s.rv.length z2, .slice x3 s.sg.length z3], .slice none 0 0, .int .i64 3]) (by simp [results, Tryz.results17, go_sem, d0, d1, d2, d3]) rfl ⟨_, _, by rw [HI.out]; rfl, by rw [HX.out]; exact IsO.of (Go.Joins.ownsRow_le q1 hbo) (Go.Joins.ownsRow_le q2 hbo) (Go.Joins.ownsRow_le q3 hbo), by rw [HL.out]; exact World.ownsRow_nil _ _ _ _, pB⟩
  obtain ⟨a0, a1, a2, a3⟩ := F1.c
  go_wp2_with fail
  refine (specExtendToken_any _ ks tq s.nx nw li _ hm hf hm2 (hr.below hBB)).mono ?_
  rintro e w7 ⟨vx, rfl, rx, hB7⟩
  have hs7 := hB7.size
  clear a0 a1 a2 a3
  replace F1 := F1.below hB7
  replace F2 := F2.below hB7
  replace o1 := ownsRow_below o1 hB7
  replace o2 := ownsRow_below o2 hB7
  replace o3 := ownsRow_below o3 hB7
  replace hA5 := hA5.below hB7
  replace hBB := below_one hBB hB7
  clear hB7
  cases hx : extB ks tq s.nx nw li
  case false =>
    have HI := hid (hp_ext2 HB.out hlv hx)
    have HL := hid (hpL_no HI.out (by intro h; cases h))
    have HX := hid (show hdX (hpE s ks tq nw li) s (extL ks tq s.nx nw li) (hpW ks) = s by rw [HI.out]; rfl)
    obtain ⟨a0, a1, a2, a3⟩ := F1.c
    obtain ⟨r0, r1, r2, r3⟩ := F2.c
    have f0 := F2.f 0
    have f1 := F2.f 1
    have f2 := F2.f 2
    have f3 := F2.f 3
    have G := (((F2.s0 (.slice x1 s.ws.length z1)).s1 (.int .i64 s.nx)).s2 (.slice x2 s.rv.length z2)).s3 (.slice x3 s.sg.length z3)
    have pB := below_four hBB (k := w.heap.size + 1) (by omega) (.slice x1 s.ws.length z1) (.int .i64 s.nx) (.slice x2 s.rv.length z2) (.slice x3 s.sg.length z3)
    have q1 := row_four o1 (k := w.heap.size + 1) (by omega) (.slice x1 s.ws.length z1) (.int .i64 s.nx) (.slice x2 s.rv.length z2) (.slice x3 s.sg.length z3)
    have q2 := row_four o2 (k := w.heap.size + 1) (by omega) (.slice x1 s.ws.length z1) (.int .i64 s.nx) (.slice x2 s.rv.length z2) (.slice x3 s.sg.length z3)
    have q3 := row_four o3 (k := w.heap.size + 1) (by omega) (.slice x1 s.ws.length z1) (.int .i64 s.nx) (.slice x2 s.rv.length z2) (.slice x3 s.sg.length z3)
    go_wp2_with fail
    clear r0 r1 r2 r3 f0 f1 f2 f3
    generalize (((w7.setCell ⟨w.heap.size + 1, 0, none⟩ (.slice x1 s.ws.length z1)).setCell ⟨w.heap.size + 1, 1, none⟩ (.int .i64 s.nx)).setCell ⟨w.heap.size + 1, 2, none⟩ (.slice x2 s.rv.length z2)).setCell ⟨w.heap.size + 1, 3, none⟩ (.slice x3 s.sg.length z3) = W9 at *
    obtain ⟨d0, d1, d2, d3⟩ := G.c
    exact bodyPost_ret (v := .tuple #[.agg #[.slice x1 s.ws.length z1, .int .i64 s.nx, .slice x2 s.rv.length z2, .slice x3 s.sg.length z3], .slice none 0 0, .int .i64 4]) (by simp [results, Tryz.results17, go_sem, d0, d1, d2, d3]) rfl ⟨_, _, by rw [HI.out]; rfl, by rw [HX.out]; exact IsO.of (Go.Joins.ownsRow_le q1 hbo) (Go.Joins.ownsRow_le q2 hbo) (Go.Joins.ownsRow_le q3 hbo), by rw [HL.out]; exact World.ownsRow_nil _ _ _ _, pB⟩
  obtain ⟨a0, a1, a2, a3⟩ := F1.c
  go_wp2_with fail
  refine (l4Full_any _ s _ hs hA5).mono ?_
  rintro e w8 ⟨rfl, hB8⟩
  have hs8 := hB8.size
  replace rx := ownsRow_below rx hB8
  clear a0 a1 a2 a3
  replace F1 := F1.below hB8
  replace F2 := F2.below hB8
  replace o1 := ownsRow_below o1 hB8
  replace o2 := ownsRow_below o2 hB8
  replace o3 := ownsRow_below o3 hB8
  replace hA5 := hA5.below hB8
  replace hBB := below_one hBB hB8
  clear hB8
  cases hfu : fullB s
  case true =>
    have HI := hid (hp_full HB.out (maE_full hlv hfu))
    have HL := hid (hpL_no HI.out (by intro h; cases h))
    have HX := hid (show hdX (hpE s ks tq nw li) s (extL ks tq s.nx nw li) (hpW ks) = s by rw [HI.out]; rfl)
    obtain ⟨a0, a1, a2, a3⟩ := F1.c
    obtain ⟨r0, r1, r2, r3⟩ := F2.c
    have f0 := F2.f 0
    have f1 := F2.f 1
    have f2 := F2.f 2
    have f3 := F2.f 3
    have G := (((F2.s0 (.slice x1 s.ws.length z1)).s1 (.int .i64 s.nx)).s2 (.slice x2 s.rv.length z2)).s3 (.slice x3 s.sg.length z3)
    have pB := below_four hBB (k := w.heap.size + 1) (by omega) (.slice x1 s.ws.length z1) (.int .i64 s.nx) (.slice x2 s.rv.length z2) (.slice x3 s.sg.length z3)
    have q1 := row_four o1 (k := w.heap.size + 1) (by omega) (.slice x1 s.ws.length z1) (.int .i64 s.nx) (.slice x2 s.rv.length z2) (.slice x3 s.sg.length z3)
    have q2 := row_four o2 (k := w.heap.size + 1) (by omega) (.slice x1 s.ws.length z1) (.int .i64 s.nx) (.slice x2 s.rv.length z2) (.slice x3 s.sg.length z3)
    have q3 := row_four o3 (k := w.heap.size + 1) (by omega) (.slice x1 s.ws.length z1) (.int .i64 s.nx) (.slice x2 s.rv.length z2) (.slice x3 s.sg.length z3)
    go_wp2_with fail
    clear r0 r1 r2 r3 f0 f1 f2 f3
    generalize (((w8.setCell ⟨w.heap.size + 1, 0, none⟩ (.slice x1 s.ws.length z1)).setCell ⟨w.heap.size + 1, 1, none⟩ (.int .i64 s.nx)).setCell ⟨w.heap.size + 1, 2, none⟩ (.slice x2 s.rv.length z2)).setCell ⟨w.heap.size + 1, 3, none⟩ (.slice x3 s.sg.length z3) = W9 at *
    obtain ⟨d0, d1, d2, d3⟩ := G.c
    exact bodyPost_ret (v := .tuple #[.agg #[.slice x1 s.ws.length z1, .int .i64 s.nx, .slice x2 s.rv.length z2, .slice x3 s.sg.length z3], .slice none 0 0, .int .i64 4]) (by simp [results, Tryz.results17, go_sem, d0, d1, d2, d3]) rfl ⟨_, _, by rw [HI.out]; rfl, by rw [HX.out]; exact IsO.of (Go.Joins.ownsRow_le q1 hbo) (Go.Joins.ownsRow_le q2 hbo) (Go.Joins.ownsRow_le q3 hbo), by rw [HL.out]; exact World.ownsRow_nil _ _ _ _, pB⟩
  have HI := hid (hp_nil HB.out (maE_yes hlv hfu) hx)
  have HL := hid (hpL_yes HI.out)
  have hhas := livW_has hlv
  have HF := hid (ext_facts hx)
  have HX := hid (show hdX (hpE s ks tq nw li) s (extL ks tq s.nx nw li) (hpW ks) = sgX s (extL ks tq s.nx nw li) (hpW ks) by rw [HI.out]; rfl)
  clear hlv hfu HB hx
  obtain ⟨bl, cl, rfl⟩ : ∃ bl cl, vx = .slice (some ⟨bl, 0, none⟩) (extL ks tq s.nx nw li).length cl := by
    rcases row_form rx with ⟨_, h0⟩ | ⟨g, c, hv, _, _⟩
    · have := HF.out.1; omega
    · exact ⟨g, c, hv⟩
  obtain ⟨a0, a1, a2, a3⟩ := F1.c
  go_wp2_with fail
  refine (l4Sign_any s x1 x2 x3 z1 z2 z3 bl ks.length cl (extL ks tq s.nx nw li) (hpW ks) w3.heap.size w4.heap.size w6.heap.size _ hs (by omega) o1 o2 o3 u1 u3 ⟨by omega, by omega⟩ hhd.2.2.2 hhas HF.out.1.symm HF.out.2.1 HF.out.2.2.1 HF.out.2.2.2.1 (HF.out.2.2.2.2 (by have := HF.out.1; omega)) rx).mono ?_
  rintro e w9 ⟨v9, rfl, O9, rl9, hM9⟩
  clear rx o1 o2 o3 a0 a1 a2 a3
  obtain ⟨t, HT⟩ : ∃ t, Hid (t = sgX s (extL ks tq s.nx nw li) (hpW ks)) := ⟨_, hid rfl⟩
  rw [← HT.out] at O9
  replace F2 := hM9.four F2 (.inl (by omega))
  replace hBB := hBB.trans (hM9.below (n := w.heap.size) (by omega) hBB.size)
  obtain ⟨x4, z4, x5, z5, x6, z6, rfl⟩ := is_forms O9.a
  obtain ⟨_, _, _, ee, o1, o2, o3, t1, t2, t3⟩ := O9
  cases ee
  obtain ⟨r0, r1, r2, r3⟩ := F2.c
  have f0 := F2.f 0
  have f1 := F2.f 1
  have f2 := F2.f 2
  have f3 := F2.f 3
  have G := (((F2.s0 (.slice x4 t.ws.length z4)).s1 (.int .i64 t.nx)).s2 (.slice x5 t.rv.length z5)).s3 (.slice x6 t.sg.length z6)
  have pB := below_four hBB (k := w.heap.size + 1) (by omega) (.slice x4 t.ws.length z4) (.int .i64 t.nx) (.slice x5 t.rv.length z5) (.slice x6 t.sg.length z6)
  have q1 := row_four o1 (k := w.heap.size + 1) (by omega) (.slice x4 t.ws.length z4) (.int .i64 t.nx) (.slice x5 t.rv.length z5) (.slice x6 t.sg.length z6)
  have q2 := row_four o2 (k := w.heap.size + 1) (by omega) (.slice x4 t.ws.length z4) (.int .i64 t.nx) (.slice x5 t.rv.length z5) (.slice x6 t.sg.length z6)
  have q3 := row_four o3 (k := w.heap.size + 1) (by omega) (.slice x4 t.ws.length z4) (.int .i64 t.nx) (.slice x5 t.rv.length z5) (.slice x6 t.sg.length z6)
  have ql := rowaw rl9 (k := w.heap.size + 1) (fun e => row_apart rl9 F2 (by decide) (w.heap.size + 1) e rfl) (.slice x4 t.ws.length z4) (.int .i64 t.nx) (.slice x5 t.rv.length z5) (.slice x6 t.sg.length z6)
  go_wp2_with fail
  clear r0 r1 r2 r3 f0 f1 f2 f3
  generalize (((w9.setCell ⟨w.heap.size + 1, 0, none⟩ (.slice x4 t.ws.length z4)).setCell ⟨w.heap.size + 1, 1, none⟩ (.int .i64 t.nx)).setCell ⟨w.heap.size + 1, 2, none⟩ (.slice x5 t.rv.length z5)).setCell ⟨w.heap.size + 1, 3, none⟩ (.slice x6 t.sg.length z6) = W9 at *
  obtain ⟨d0, d1, d2, d3⟩ := G.c
  exact bodyPost_ret (v := .tuple #[.agg #[.slice x4 t.ws.length z4, .int .i64 t.nx, .slice x5 t.rv.length z5, .slice x6 t.sg.length z6], .slice (some ⟨bl, 0, none⟩) (extL ks tq s.nx nw li).length cl, .int .i64 0]) (by simp [results, Tryz.results17, go_sem, d0, d1, d2, d3]) rfl ⟨_, _, by rw [HI.out]; rfl, by rw [HX.out, ← HT.out]; exact IsO.of (Go.Joins.ownsRow_le q1 hbo) (Go.Joins.ownsRow_le q2 hbo) (Go.Joins.ownsRow_le q3 hbo), by rw [HL.out]; exact Go.Joins.ownsRow_le ql (by omega), pB⟩

end Go.Proofs.YtodkpoppgfomeaaGreatDoor

namespace Go.Proofs.YtodkpoppgfomeaaGreatDoor
open Go.RowKit Go.Shelf

def Lk.same (r s : Lk) : Bool := (((((r.who.toList == s.who.toList) && (r.to.toList == s.to.toList)) && (r.se == s.se)) && (r.fr == s.fr)) && (r.un == s.un))
theorem Lk.same_refl (r : Lk) : r.same r = true := by simp [Lk.same]
theorem Lk.same_eq {r s : Lk} (h : r.same s = true) : r = s := by
  unfold Lk.same at h
  simp only [Bool.and_eq_true, beq_iff_eq, toList_data] at h
  obtain ⟨⟨⟨⟨h1, h2⟩, h3⟩, h4⟩, h5⟩ := h
  obtain ⟨a, b, c, d, e⟩ := r
  obtain ⟨a', b', c', d', e'⟩ := s
  simp only at h1 h2 h3 h4 h5
  rw [bytes_same h1, bytes_same h2, h3, h4, h5]

set_option maxHeartbeats 1000000 in
theorem eqLink_any (r s : Lk) (w : World) :
    Calls Tryz.prog 44 #[r.val, s.val] w fun e w' => e = .returned (.bool (r.same s)) ∧ Below w.heap.size w w' := by
  cases b0 : (r.who.toList == s.who.toList)
  · have e0 : (r.who.toList == s.who.toList) = false := b0
    have HR := hid (show r.same s = false by unfold Lk.same; rw [b0]; rfl)
    clear b0
    go_enter Tryz.func44, Tryz.ntmps44
    go_wp2
    go_ret
    exact ⟨ret_bool HR.out.symm, ((Below.refl _ w).alloc (Nat.le_refl _) _).alloc (by simp) _⟩
  · have e0 : (r.who.toList == s.who.toList) = true := b0
    cases b1 : (r.to.toList == s.to.toList)
    · have e1 : (r.to.toList == s.to.toList) = false := b1
      have HR := hid (show r.same s = false by unfold Lk.same; rw [b0, b1]; rfl)
      clear b0 b1
      go_enter Tryz.func44, Tryz.ntmps44
      go_wp2
      go_ret
      exact ⟨ret_bool HR.out.symm, ((Below.refl _ w).alloc (Nat.le_refl _) _).alloc (by simp) _⟩
    · have e1 : (r.to.toList == s.to.toList) = true := b1
      cases b2 : (r.se == s.se)
      · have e2 : (r.se != s.se) = true := by rw [bne, b2]; rfl
        have HR := hid (show r.same s = false by unfold Lk.same; rw [b0, b1, b2]; rfl)
        clear b0 b1 b2
        go_enter Tryz.func44, Tryz.ntmps44
        go_wp2
        go_ret
        exact ⟨ret_bool HR.out.symm, ((Below.refl _ w).alloc (Nat.le_refl _) _).alloc (by simp) _⟩
      · have e2 : (r.se != s.se) = false := by rw [bne, b2]; rfl
        cases b3 : (r.fr == s.fr)
        · have e3 : (r.fr != s.fr) = true := by rw [bne, b3]; rfl
          have HR := hid (show r.same s = false by unfold Lk.same; rw [b0, b1, b2, b3]; rfl)
          clear b0 b1 b2 b3
          go_enter Tryz.func44, Tryz.ntmps44
          go_wp2
          go_ret
          exact ⟨ret_bool HR.out.symm, ((Below.refl _ w).alloc (Nat.le_refl _) _).alloc (by simp) _⟩
        · have e3 : (r.fr != s.fr) = false := by rw [bne, b3]; rfl
          cases b4 : (r.un == s.un)
          · have e4 : (r.un != s.un) = true := by rw [bne, b4]; rfl
            have HR := hid (show r.same s = false by unfold Lk.same; rw [b0, b1, b2, b3, b4]; rfl)
            clear b0 b1 b2 b3 b4
            go_enter Tryz.func44, Tryz.ntmps44
            go_wp2
            go_ret
            exact ⟨ret_bool HR.out.symm, ((Below.refl _ w).alloc (Nat.le_refl _) _).alloc (by simp) _⟩
          · have e4 : (r.un != s.un) = false := by rw [bne, b4]; rfl
            have HR := hid (show r.same s = true by unfold Lk.same; rw [b0, b1, b2, b3, b4]; rfl)
            clear b0 b1 b2 b3 b4
            go_enter Tryz.func44, Tryz.ntmps44
            go_wp2
            go_ret
            exact ⟨ret_bool HR.out.symm, ((Below.refl _ w).alloc (Nat.le_refl _) _).alloc (by simp) _⟩

def lsTo (rs ss : List Lk) (k : Nat) : Bool := ((rs.zip ss).take k).all (fun q => q.1.same q.2)
def lsS (rs ss : List Lk) : Bool := decide (rs.length = ss.length) && (rs.zip ss).all (fun q => q.1.same q.2)
theorem lsTo_zero (rs ss : List Lk) : lsTo rs ss 0 = true := by simp [lsTo]
theorem lsTo_succ {rs ss : List Lk} {k : Nat} (h : k < rs.length) (h' : k < ss.length) : lsTo rs ss (k + 1) = (lsTo rs ss k && rs[k].same ss[k]) := by
  unfold lsTo
  rw [List.take_succ_eq_append_getElem (by rw [List.length_zip]; omega), List.all_append]
  simp
theorem ls_bad {rs ss : List Lk} {k : Nat} (hb : lsTo rs ss (k + 1) = false) : lsS rs ss = false := by
  unfold lsTo at hb
  rw [List.all_eq_false] at hb
  obtain ⟨x, hx, hn⟩ := hb
  unfold lsS
  rw [Bool.and_eq_false_iff]
  exact .inr (List.all_eq_false.2 ⟨x, List.mem_of_mem_take hx, hn⟩)
theorem ls_end {rs ss : List Lk} (h : rs.length = ss.length) : lsTo rs ss rs.length = lsS rs ss := by
  unfold lsTo lsS
  rw [List.take_of_length_le (by rw [List.length_zip]; omega), decide_eq_true h, Bool.true_and]
theorem lsS_refl (rs : List Lk) : lsS rs rs = true := by
  unfold lsS
  rw [decide_eq_true rfl, Bool.true_and, List.all_eq_true]
  intro x hx
  obtain ⟨i, hi, he⟩ := List.getElem_of_mem hx
  rw [List.getElem_zip] at he
  rw [← he]
  exact Lk.same_refl _

set_option maxHeartbeats 2000000 in
theorem eqLinkS_any (v v' : Value) (rs ss : List Lk) (w : World) (_hm : rs.length ≤ 1048577) (hm' : ss.length ≤ 1048577) (hr : LkS w v rs) (hr' : LkS w v' ss) :
    Calls Tryz.prog 11 #[v, v'] w fun e w' => e = .returned (.bool (lsS rs ss)) ∧ Below w.heap.size w w' := by
  obtain ⟨a, cap, rfl⟩ := hr.len
  obtain ⟨a', cap', rfl⟩ := hr'.len
  by_cases hl : rs.length = ss.length
  · have e0 : ((rs.length : Int) != (ss.length : Int)) = false := by simp; omega
    have hl1 : rs.length ≤ ss.length := by omega
    have HL := hid hl
    clear hl
    go_enter Tryz.func11, Tryz.ntmps11
    go_wp2
    go_loopw [5] (fun i wr => ∃ k : Nat, k ≤ rs.length ∧ i = .int .i64 k ∧ lsTo rs ss k = true ∧ Below w.heap.size w wr) (fun i _ => rs.length - (intOf i).toNat)
    case atStart => exact ⟨0, Nat.zero_le _, rfl, lsTo_zero _ _, Below.refl _ _⟩
    case round =>
      obtain ⟨k, hk, rfl, hs, hB⟩ := hrel
      have HS := hid hs
      clear hs
      by_cases hlt : k < rs.length
      · have hlt' : k < ss.length := by omega
        obtain ⟨b, off, rfl, hb, hcap, q0, q1, q2, q3, q4⟩ := (hr.below hB).at hlt
        obtain ⟨b', off', rfl, hb', hcap', p0, p1, p2, p3, p4⟩ := (hr'.below hB).at hlt'
        have HT := hid (lsTo_succ hlt hlt')
        generalize rs[k] = r at *
        generalize ss[k] = s at *
        cases hq : r.same s
        · have HR := hid (show lsS rs ss = false from ls_bad (by rw [HT.out, hq, Bool.and_false]))
          go_wp2_with fail
          go_region_with (go_at_call 44; refine (eqLink_any r s _).mono ?_; rintro e w1 ⟨rfl, hB1⟩)
          all_goals go_wp2
          all_goals go_ret
          all_goals exact ⟨ret_bool HR.out.symm, below_one hB (below_drew1 hB1)⟩
        · have HR := hid (show lsTo rs ss (k + 1) = true by rw [HT.out, HS.out, hq]; rfl)
          go_wp2_with fail
          go_region_with (go_at_call 44; refine (eqLink_any r s _).mono ?_; rintro e w1 ⟨rfl, hB1⟩)
          all_goals go_wp2
          all_goals go_roundw
          all_goals first
            | exact ⟨k + 1, by omega, by go_num, HR.out, below_one hB (below_drew1 hB1)⟩
            | (simp [intOf]; omega)
      · obtain rfl : k = rs.length := by omega
        have HR := hid (show lsS rs ss = true by rw [← ls_end HL.out]; exact HS.out)
        go_wp2
        go_ret
        exact ⟨ret_bool HR.out.symm, hB⟩
  · have e0 : ((rs.length : Int) != (ss.length : Int)) = true := by simp; omega
    have HR := hid (show lsS rs ss = false by unfold lsS; rw [decide_eq_false hl]; rfl)
    clear hl
    go_enter Tryz.func11, Tryz.ntmps11
    go_wp2
    go_ret
    exact ⟨ret_bool HR.out.symm, Below.refl _ _⟩

end Go.Proofs.YtodkpoppgfomeaaGreatDoor

namespace Go.Proofs.YtodkpoppgfomeaaGreatDoor
open Go.RowKit Go.Shelf

/-- The link that is laid at i, from the number k on. -/
def mkK (k i : Nat) : Lk := ⟨mkT (k + 5 * i), mkT (k + 5 * i + 1), ((k + 5 * i : Nat) : Int) + 2, ((k + 5 * i : Nat) : Int) + 3, ((k + 5 * i : Nat) : Int) + 4⟩
def mkKs (k n : Nat) : List Lk := (List.range n).map (mkK k)
theorem mkKs_len (k n : Nat) : (mkKs k n).length = n := by simp [mkKs]
theorem mkKs_succ (k n : Nat) : mkKs k (n + 1) = mkKs k n ++ [mkK k n] := by
  unfold mkKs
  rw [List.range_succ, List.map_append]
  rfl
theorem mkKs_at {k n i : Nat} (h : i < (mkKs k n).length) : (mkKs k n)[i] = mkK k i := by simp [mkKs]

set_option maxHeartbeats 2000000 in
set_option maxRecDepth 100000 in
theorem markLinkS_to (v : Value) (n k base : Nat) (xs : List Value) (w : World) (hn : n ≤ 1048577) (hk : k + 5 * n ≤ 8000000) (hrow : w.ownsRow base 52 5 v n xs) :
    Calls Tryz.prog 13 #[v, .int .i64 k] w fun e w' => e = .returned (.int .i64 ((k + 5 * n : Nat) : Int)) ∧ w'.ownsRow base 52 5 v n ((mkKs k n).flatMap Lk.cells) ∧ w.grownBy w' v.ownBlock := by
  rcases row_form hrow with ⟨rfl, rfl⟩ | ⟨g, cap, rfl, hg, hcap⟩
  · go_enter Tryz.func13, Tryz.ntmps13
    go_wp2
    refine wp_loop_rounds 1 ?_
    rw [rounds_succ]
    go_wp2
    go_ret
    exact ⟨rfl, World.ownsRow_nil _ _ _ _, ⟨rfl, rfl, rfl, Nat.le_refl _, fun _ _ _ => rfl⟩⟩
  · go_enter Tryz.func13, Tryz.ntmps13
    go_wp2
    go_loopw [1, 5] (fun kv i wr => ∃ (j c : Nat), j ≤ n ∧ c = k + 5 * j ∧ kv = .int .i64 c ∧ i = .int .i64 j ∧ ∃ ys, wr.ownsRow base 52 5 (.slice (some ⟨g, 0, none⟩) n cap) n ys ∧ ys.take (j * 5) = (mkKs k j).flatMap Lk.cells ∧ w.grownBy wr (some g)) (fun _ i _ => n - (intOf i).toNat)
    case atStart => exact ⟨0, k, Nat.zero_le _, by omega, rfl, rfl, xs, hrow, by simp [mkKs], grown_self _ _⟩
    case round =>
      obtain ⟨j, c, hj, hc, rfl, rfl, ys, row0, hx, hg0⟩ := hrel
      have HX := hid hx
      have HC := hid hc
      clear hx hc hrow
      have hc9 : c ≤ 8000000 := by have := HC.out; omega
      by_cases hlt : j < n
      · have hlen : ys.length = n * 5 := row0.1
        go_wp2_with fail
        refine (markText_at c _ _ rfl (by omega)).mono ?_
        rintro e v1 ⟨rfl, hB1⟩
        have row1 := ownsRow_below row0 hB1
        have hg1 := grown_below hg0 hB1
        clear row0 hg0 hB1
        have s0 := row1.cellAt (j * 5) (by have := row1.1; omega)
        rw [List.getElem?_eq_getElem (by have := row1.1; omega)] at s0
        have t0 := row1.frozenAt (j * 5)
        go_wp2_with fail
        have P1 := row1.stored (j * 5) (.string (mkT c))
        have hg1' := grown_two hg1 P1.2
        have row1' := P1.1
        clear P1 s0 t0 row1 hg1
        generalize v1.setCell ⟨g, j * 5, none⟩ (.string (mkT c)) = W1 at *
        refine (markText_at (c + 1) _ _ (by push_cast; omega) (by omega)).mono ?_
        rintro e v2 ⟨rfl, hB2⟩
        have row2 := ownsRow_below row1' hB2
        have hg2 := grown_below hg1' hB2
        clear row1' hg1' hB2
        have hl2 := row2.1
        have s1 := row2.cellAt (j * 5 + 1) (by omega)
        have s2 := row2.cellAt (j * 5 + 2) (by omega)
        have s3 := row2.cellAt (j * 5 + 3) (by omega)
        have s4 := row2.cellAt (j * 5 + 4) (by omega)
        rw [List.getElem?_eq_getElem (by omega)] at s1 s2 s3 s4
        have t1 := row2.frozenAt (j * 5 + 1)
        have t2 := row2.frozenAt (j * 5 + 2)
        have t3 := row2.frozenAt (j * 5 + 3)
        have t4 := row2.frozenAt (j * 5 + 4)
        have P1 := row2.stored (j * 5 + 1) (.string (mkT (c + 1)))
        have P2 := P1.1.stored (j * 5 + 2) (.int .i64 ((c : Int) + 2))
        have P3 := P2.1.stored (j * 5 + 3) (.int .i64 ((c : Int) + 3))
        have P4 := P3.1.stored (j * 5 + 4) (.int .i64 ((c : Int) + 4))
        have HP1 := hid P1.2
        have HP2 := hid P2.2
        have HP3 := hid P3.2
        have HP4 := hid P4.2
        have HO := hid P4.1
        clear P1 P2 P3 P4
        go_wp2_with fail
        have HM := hid (show mkKs k (j + 1) = mkKs k j ++ [⟨mkT c, mkT (c + 1), (c : Int) + 2, (c : Int) + 3, (c : Int) + 4⟩] by rw [mkKs_succ]; unfold mkK; rw [← HC.out])
        go_roundw
        case rel =>
          refine ⟨j + 1, c + 5, by omega, by have := HC.out; omega, by go_num, by go_num, _, HO.out, ?_, grown_two (grown_two (grown_two (grown_two hg2 HP1.out) HP2.out) HP3.out) HP4.out⟩
          rw [take_set5 _ _ _ _ _ _ _ (by omega), HX.out, HM.out, List.flatMap_append]
          simp
        case measure => simp [intOf]; omega
      · obtain rfl : j = n := by omega
        have HF := hid (show ys = (mkKs k j).flatMap Lk.cells by have := HX.out; rw [List.take_of_length_le (by have := row0.1; omega)] at this; exact this)
        go_wp2
        go_ret
        exact ⟨ret_int (by rw [HC.out]), by rw [← HF.out]; exact row0, hg0⟩

theorem markLinkS_any (v : Value) (n k base : Nat) (xs : List Value) (w : World) (hn : n ≤ 1048577) (hk : k ≤ 1) (hrow : w.ownsRow base 52 5 v n xs) :
    Calls Tryz.prog 13 #[v, .int .i64 k] w fun e w' => e = .returned (.int .i64 ((k + 5 * n : Nat) : Int)) ∧ w'.ownsRow base 52 5 v n ((mkKs k n).flatMap Lk.cells) ∧ w.grownBy w' v.ownBlock :=
  markLinkS_to v n k base xs w hn (by omega) hrow

end Go.Proofs.YtodkpoppgfomeaaGreatDoor

namespace Go.Proofs.YtodkpoppgfomeaaGreatDoor
open Go.RowKit Go.Shelf

set_option maxHeartbeats 2000000 in
set_option maxRecDepth 100000 in
theorem heldLinkS_to (v : Value) (n k : Nat) (w : World) (hn : n ≤ 1048577) (hk : k + 5 * n ≤ 8000000) (hr : LkS w v (mkKs k n)) :
    Calls Tryz.prog 15 #[v, .int .i64 k] w fun e w' => e = .returned (.int .i64 ((k + 5 * n : Nat) : Int)) ∧ Below w.heap.size w w' := by
  obtain ⟨a, cap, rfl⟩ := hr.len
  have hln := mkKs_len k n
  rw [hln] at hr ⊢
  clear hln
  go_enter Tryz.func15, Tryz.ntmps15
  go_wp2
  go_loopw [1, 5] (fun kv i wr => ∃ (j c : Nat), j ≤ n ∧ c = k + 5 * j ∧ kv = .int .i64 c ∧ i = .int .i64 j ∧ Below w.heap.size w wr) (fun _ i _ => n - (intOf i).toNat)
  case atStart => exact ⟨0, k, Nat.zero_le _, by omega, rfl, rfl, Below.refl _ _⟩
  case round =>
    obtain ⟨j, c, hj, hc, rfl, rfl, hB⟩ := hrel
    have HC := hid hc
    clear hc
    have hc9 : c ≤ 8000000 := by have := HC.out; omega
    by_cases hlt : j < n
    · obtain ⟨b, off, rfl, hb, hcap, q0, q1, q2, q3, q4⟩ := (hr.below hB).at (i := j) (by rw [mkKs_len]; exact hlt)
      rw [mkKs_at] at q0 q1 q2 q3 q4
      unfold mkK at q0 q1 q2 q3 q4
      dsimp only at q0 q1 q2 q3 q4
      rw [← HC.out] at q0 q1 q2 q3 q4
      clear hr
      go_wp2_with fail
      go_region_held3 (fun w' => w'.cell? ⟨b, off + j * 5, none⟩ = some (.string (mkT c))) (go_keep) (first | (go_at_call 48; refine (markText_at c _ _ rfl (by omega)).mono ?_; rintro e v1 ⟨rfl, hB1⟩; have r0 := (hB1.cell (p := ⟨b, off + j * 5, none⟩) (by exact hb)).trans (by exact q0); have r1 := (hB1.cell (p := ⟨b, off + j * 5 + 1, none⟩) (by exact hb)).trans (by exact q1); have r2 := (hB1.cell (p := ⟨b, off + j * 5 + 2, none⟩) (by exact hb)).trans (by exact q2); have r3 := (hB1.cell (p := ⟨b, off + j * 5 + 3, none⟩) (by exact hb)).trans (by exact q3); have r4 := (hB1.cell (p := ⟨b, off + j * 5 + 4, none⟩) (by exact hb)).trans (by exact q4); have hb1 := Nat.lt_of_lt_of_le hb hB1.size))
      have hBB1 := below_one hB (below_drew1 hB1)
      clear hB1
      go_wp2_with fail
      go_region_held3 (fun w' => w'.cell? ⟨b, off + j * 5 + 1, none⟩ = some (.string (mkT (c + 1)))) (go_keep) (first | (go_at_call 48; refine (markText_at (c + 1) _ _ (by push_cast; omega) (by omega)).mono ?_; rintro e v2 ⟨rfl, hB2⟩; have t1 := (hB2.cell (p := ⟨b, off + j * 5 + 1, none⟩) (by exact hb1)).trans (by exact r1); have t2 := (hB2.cell (p := ⟨b, off + j * 5 + 2, none⟩) (by exact hb1)).trans (by exact r2); have t3 := (hB2.cell (p := ⟨b, off + j * 5 + 3, none⟩) (by exact hb1)).trans (by exact r3); have t4 := (hB2.cell (p := ⟨b, off + j * 5 + 4, none⟩) (by exact hb1)).trans (by exact r4)))
      have hBB2 := below_one hBB1 (below_drew1 hB2)
      clear hB2
      go_wp2
      go_roundw
      case rel => first | exact ⟨j + 1, c + 5, by omega, by have := HC.out; omega, by go_num, by go_num, hBB2⟩ | ((repeat apply Exists.intro); exact ⟨⟨j + 1, c + 5, by omega, by have := HC.out; omega, by go_num, by go_num, hBB2⟩, rfl⟩)
      case measure => simp [intOf]; omega
    · obtain rfl : j = n := by omega
      go_wp2
      go_ret
      exact ⟨ret_int (by rw [HC.out]), hB⟩

theorem heldLinkS_any (v : Value) (n k : Nat) (w : World) (hn : n ≤ 1048577) (hk : k ≤ 1) (hr : LkS w v (mkKs k n)) :
    Calls Tryz.prog 15 #[v, .int .i64 k] w fun e w' => e = .returned (.int .i64 ((k + 5 * n : Nat) : Int)) ∧ Below w.heap.size w w' :=
  heldLinkS_to v n k w hn (by omega) hr

end Go.Proofs.YtodkpoppgfomeaaGreatDoor

namespace Go.Proofs.YtodkpoppgfomeaaGreatDoor
open Go.RowKit Go.Shelf

theorem eqLinkS_same (v v' : Value) (ks : List Lk) (w : World) (hm : ks.length ≤ 1048577) (h : LkS w v ks) (h' : LkS w v' ks) :
    Calls Tryz.prog 11 #[v, v'] w fun e w' => e = .returned (.bool true) ∧ Below w.heap.size w w' := by
  have q := eqLinkS_any v v' ks ks w hm hm h h'
  rw [lsS_refl] at q
  exact q
theorem itL_len (s : Is) (name tq : ByteArray) (nw li : Int) : (itL s name tq nw li).length ≤ 1 := by
  unfold itL
  split <;> simp
theorem seSet_len (ws : List Wk) (a : Nat) (z : Int) : (seSet ws a z).length = ws.length := by
  unfold seSet
  split <;> simp
theorem short_sg {s : Is} {ks : List Lk} {who : ByteArray} {x : Er} (hC : s.size ≤ 1048576) : (hdX x s ks who).short := by
  have hs : s.ws.length ≤ 1048576 ∧ s.rv.length ≤ 1048576 ∧ s.sg.length ≤ 1048576 := by
    unfold Is.size wzAll tzAll at hC
    exact ⟨by omega, by omega, by omega⟩
  obtain ⟨h1, h2, h3⟩ := hs
  cases x
  case bad => exact ⟨by simp [hdX, Is.none], by simp [hdX, Is.none], by simp [hdX, Is.none]⟩
  case nil =>
    refine ⟨?_, Nat.le_succ_of_le h2, ?_⟩
    · show (seSet s.ws (atW s.ws who) s.nx).length ≤ _
      rw [seSet_len]
      omega
    · show (s.sg ++ [tkT ks]).length ≤ _
      simp
      omega
  all_goals exact ⟨Nat.le_succ_of_le h1, Nat.le_succ_of_le h2, Nat.le_succ_of_le h3⟩
theorem many_sh {s : Is} (h : s.short) : 1 + s.many + 500 ≤ 8000000 := by
  obtain ⟨h1, h2, h3⟩ := h
  unfold Is.many
  omega

set_option maxHeartbeats 8000000 in
set_option maxRecDepth 100000 in
theorem issueLaw (v : Value) (s : Is) (name tq : ByteArray) (nw li : Int) (p0 p1 p2 p3 : Addr) (w : World) (hA : IsA w v s) (hf : s.fits) (hnm : name.size ≤ maxLen) (hnt : tq.size ≤ maxLen) (hE : ErA w p0 p1 p2 p3) (ht : Tab w) :
    Calls Tryz.prog 3 #[v, .string name, .string tq, .int .i64 nw, .int .i64 li] w fun e w' => e = .returned (.bool true) ∧ Below w.heap.size w w' := by
  obtain ⟨aw, cw, ar, cr, ag, cg, rfl⟩ := is_forms hA
  have hB0 : Below w.heap.size w (w.alloc (.cells #[.slice aw s.ws.length cw, .int .i64 s.nx, .slice ar s.rv.length cr, .slice ag s.sg.length cg] 26)) := (Below.refl _ w).alloc (Nat.le_refl _) _
  have F := Four.new w (.slice aw s.ws.length cw) (.int .i64 s.nx) (.slice ar s.rv.length cr) (.slice ag s.sg.length cg) 26
  unfold maxLen at hnm hnt
  by_cases hL0 : 1048576 < name.size
  · have dl0 : decide ((1048576 : Int) < (name.size : Int)) = true := by simp; omega
    go_enter Tryz.func3, Tryz.ntmps3
    go_wp2_with fail
    go_ret
    exact ⟨rfl, hB0⟩
  have dl0 : decide ((1048576 : Int) < (name.size : Int)) = false := by simp; omega
  by_cases hL1 : 1048576 < tq.size
  · have dl1 : decide ((1048576 : Int) < (tq.size : Int)) = true := by simp; omega
    go_enter Tryz.func3, Tryz.ntmps3
    go_wp2_with fail
    go_ret
    exact ⟨rfl, hB0⟩
  have dl1 : decide ((1048576 : Int) < (tq.size : Int)) = false := by simp; omega
  by_cases hC : s.size ≤ 1048576
  · have HU := hid (show leftI 1048576 s = 1048576 - s.size from if_pos (by omega))
    have d1 : decide ((1048576 : Int) - (s.size : Int) < 0) = false := by simp; omega
    have hS := is_short hC
    have hN := is_named hC
    go_enter Tryz.func3, Tryz.ntmps3
    go_wp2_with fail
    generalize w.alloc (.cells #[.slice aw s.ws.length cw, .int .i64 s.nx, .slice ar s.rv.length cr, .slice ag s.sg.length cg] 26) = W0 at *
    refine (szIssuer_any _ s _ hf (hA.below hB0)).mono ?_
    rintro e w1 ⟨rfl, hB1⟩
    rw [HU.out]
    replace F := F.below hB1
    have hBB := below_one hB0 hB1
    clear hB1 hB0
    obtain ⟨a0, a1, a2, a3⟩ := F.c
    go_wp2_with fail
    refine (toIssuer_any _ s _ hC (hA.below hBB)).mono ?_
    rintro e w2 ⟨v2, rfl, O2, hB2⟩
    obtain ⟨i0, i1, i2, i3, i4, i5, rfl⟩ := is_forms O2.a
    replace F := F.below hB2
    replace hBB := below_one hBB hB2
    clear hB2 a0 a1 a2 a3
    go_wp2_with fail
    obtain ⟨t, HT⟩ : ∃ t, Hid (t = hdX (itE s name tq nw li) s [itK s name tq nw li] name) := ⟨_, hid rfl⟩
    obtain ⟨cd, HD⟩ : ∃ cd, Hid (cd = (itE s name tq nw li).code) := ⟨_, hid rfl⟩
    obtain ⟨ks, HK⟩ : ∃ ks, Hid (ks = itL s name tq nw li) := ⟨_, hid rfl⟩
    refine (specIssue_any _ s name tq nw li _ _ _ hS hN (by omega) (by omega) O2).mono ?_
    rintro e w3 ⟨v3, vlw, he, OW, RW, hB3⟩
    rw [← HT.out] at OW
    rw [← HD.out] at he
    rw [← HK.out] at RW
    subst he
    have hSE := short_sg hC (x := itE s name tq nw li) (ks := [itK s name tq nw li]) (who := name)
    rw [← HT.out] at hSE
    have hme := many_sh hSE
    have hms := many_sh hS
    have hkl : ks.length ≤ 1 := by rw [HK.out]; exact itL_len _ _ _ _ _
    have rwlt : ∀ k, vlw.ownBlock = some k → k < w3.heap.size := fun k hk => (RW.lt k hk).2
    obtain ⟨j0, j1, j2, j3, j4, j5, rfl⟩ := is_forms OW.a
    replace F := F.below hB3
    replace hBB := below_one hBB hB3
    clear hB3 O2
    have hBv : Below w3.heap.size w3 (w3.alloc (.cells #[.slice j0 t.ws.length j1, .int .i64 t.nx, .slice j2 t.rv.length j3, .slice j4 t.sg.length j5] 30)) := (Below.refl _ w3).alloc (Nat.le_refl _) _
    have FW := Four.new w3 (.slice j0 t.ws.length j1) (.int .i64 t.nx) (.slice j2 t.rv.length j3) (.slice j4 t.sg.length j5) 30
    replace F := F.below hBv
    replace OW := OW.below hBv
    replace RW := ownsRow_below RW hBv
    replace hBB := below_one hBB hBv
    clear hBv
    obtain ⟨a0, a1, a2, a3⟩ := F.c
    go_wp2_with fail
    generalize w3.alloc (.cells #[.slice j0 t.ws.length j1, .int .i64 t.nx, .slice j2 t.rv.length j3, .slice j4 t.sg.length j5] 30) = W3' at *
    generalize w3.heap.size = kw at *
    have hkw : kw < W3'.heap.size := FW.lt
    have hT0 : w.heap.size < W3'.heap.size := F.lt
    refine (toIssuer_any _ s _ hC (hA.below hBB)).mono ?_
    rintro e w4 ⟨v4, rfl, OX, hB4⟩
    obtain ⟨x0, x1, x2, x3, x4, x5, rfl⟩ := is_forms OX.a
    have hs4 := hB4.size
    replace F := F.below hB4
    replace FW := FW.below hB4
    replace OW := OW.below hB4
    replace RW := ownsRow_below RW hB4
    replace hBB := below_one hBB hB4
    clear hB4 a0 a1 a2 a3
    have hBv : Below w4.heap.size w4 (w4.alloc (.cells #[.slice x0 s.ws.length x1, .int .i64 s.nx, .slice x2 s.rv.length x3, .slice x4 s.sg.length x5] 30)) := (Below.refl _ w4).alloc (Nat.le_refl _) _
    have FX := Four.new w4 (.slice x0 s.ws.length x1) (.int .i64 s.nx) (.slice x2 s.rv.length x3) (.slice x4 s.sg.length x5) 30
    replace F := F.below hBv
    replace FW := FW.below hBv
    replace OW := OW.below hBv
    replace OX := OX.below hBv
    replace RW := ownsRow_below RW hBv
    replace hBB := below_one hBB hBv
    clear hBv
    go_wp2_with fail
    generalize w4.alloc (.cells #[.slice x0 s.ws.length x1, .int .i64 s.nx, .slice x2 s.rv.length x3, .slice x4 s.sg.length x5] 30) = W4' at *
    generalize w4.heap.size = kx at *
    have hkx : kx < W4'.heap.size := FX.lt
    refine (implIssue_any _ s name tq nw li p0 p1 p2 p3 _ _ _ hS hN (by omega) (by omega) (hE.below hBB) OX (ht.on hBB)).mono ?_
    rintro e w5 ⟨v5, vlg, m5, he, hm5, OG5, RG, hgm5, hB5⟩
    rw [← HT.out] at OG5
    rw [← HD.out] at he
    rw [← HK.out] at RG
    subst he
    have rglt : ∀ k, vlg.ownBlock = some k → W4'.heap.size ≤ k ∧ k < w5.heap.size := fun k hk => RG.lt k hk
    have hs5 := hB5.size
    obtain ⟨m, hm1, hm2, OG, hgm⟩ : ∃ m, W4'.heap.size ≤ m ∧ m ≤ w5.heap.size ∧ IsO w5 m w5.heap.size v5 t ∧ ∀ k, vlg.ownBlock = some k → k < m :=
      ⟨min m5 w5.heap.size, by omega, by omega, OG5.mono (by omega) (Nat.le_refl _), fun k hk => by have h1 := hgm5 k hk; have h2 := (rglt k hk).2; omega⟩
    clear OG5 hgm5 hm5
    obtain ⟨g0, g1, g2, g3, g4, g5, rfl⟩ := is_forms OG.a
    replace F := F.below hB5
    replace FW := FW.below hB5
    replace FX := FX.below hB5
    replace OW := OW.below hB5
    replace OX := OX.below hB5
    replace RW := ownsRow_below RW hB5
    replace hBB := below_one hBB hB5
    clear hB5
    have hBv : Below w5.heap.size w5 (w5.alloc (.cells #[.slice g0 t.ws.length g1, .int .i64 t.nx, .slice g2 t.rv.length g3, .slice g4 t.sg.length g5] 30)) := (Below.refl _ w5).alloc (Nat.le_refl _) _
    have FG := Four.new w5 (.slice g0 t.ws.length g1) (.int .i64 t.nx) (.slice g2 t.rv.length g3) (.slice g4 t.sg.length g5) 30
    replace F := F.below hBv
    replace FW := FW.below hBv
    replace FX := FX.below hBv
    replace OW := OW.below hBv
    replace OX := OX.below hBv
    replace OG := OG.below hBv
    replace RW := ownsRow_below RW hBv
    replace RG := ownsRow_below RG hBv
    replace hBB := below_one hBB hBv
    clear hBv
    obtain ⟨b0, b1, b2, b3⟩ := FW.c
    have ec : (cd != cd) = false := by simp
    go_wp2_with fail
    generalize w5.alloc (.cells #[.slice g0 t.ws.length g1, .int .i64 t.nx, .slice g2 t.rv.length g3, .slice g4 t.sg.length g5] 30) = W5' at *
    generalize w5.heap.size = kg at *
    have hkg : kg < W5'.heap.size := FG.lt
    refine (eqIssuer_same _ _ t _ hSE OG.a OW.a).mono ?_
    rintro e w6a ⟨rfl, hB6⟩
    replace F := F.below hB6
    replace FW := FW.below hB6
    replace FX := FX.below hB6
    replace FG := FG.below hB6
    replace OW := OW.below hB6
    replace OX := OX.below hB6
    replace OG := OG.below hB6
    replace RW := ownsRow_below RW hB6
    replace RG := ownsRow_below RG hB6
    replace hBB := below_one hBB hB6
    clear hB6 b0 b1 b2 b3
    go_wp2_with fail
    refine (eqLinkS_same _ _ ks _ (by omega) (LkS.own RG) (LkS.own RW)).mono ?_
    rintro e w6 ⟨rfl, hB6⟩
    replace F := F.below hB6
    replace FW := FW.below hB6
    replace FX := FX.below hB6
    replace FG := FG.below hB6
    replace OW := OW.below hB6
    replace OX := OX.below hB6
    replace OG := OG.below hB6
    replace RW := ownsRow_below RW hB6
    replace RG := ownsRow_below RG hB6
    replace hBB := below_one hBB hB6
    clear hB6
    obtain ⟨a0, a1, a2, a3⟩ := F.c
    obtain ⟨b0, b1, b2, b3⟩ := FX.c
    go_wp2_with fail
    refine wp_region_held_drew (S := fun w' => w'.cell? ⟨kx, 0, none⟩ = some (.slice x0 s.ws.length x1) ∧ w'.cell? ⟨kx, 1, none⟩ = some (.int .i64 s.nx) ∧ w'.cell? ⟨kx, 2, none⟩ = some (.slice x2 s.rv.length x3) ∧ w'.cell? ⟨kx, 3, none⟩ = some (.slice x4 s.sg.length x5) ∧ w'.cell? ⟨w.heap.size, 0, none⟩ = some (.slice aw s.ws.length cw) ∧ w'.cell? ⟨w.heap.size, 1, none⟩ = some (.int .i64 s.nx) ∧ w'.cell? ⟨w.heap.size, 2, none⟩ = some (.slice ar s.rv.length cr) ∧ w'.cell? ⟨w.heap.size, 3, none⟩ = some (.slice ag s.sg.length cg)) (by kernel_rfl) ?_ (fun hHeld => ?_)
    · go_keep
    refine takeW 0 (v := ?v4) rfl (by kernel_rfl) (by kernel_rfl) (by kernel_rfl) (fun _ _ _ h => h) (by rfl) (by assumption) ?hy4 ?rest4
    case hy4 => intro w' hSw; (try dsimp only at hSw); go_simp; try with_reducible rfl
    try simp only [Act.put, List.setIfInBounds_toArray, List.set_cons_zero, List.set_cons_succ]
    refine takeW 1 (v := ?v5) rfl (by kernel_rfl) (by kernel_rfl) (by kernel_rfl) (fun _ _ _ h => h) (by rfl) (by assumption) ?hy5 ?rest5
    case hy5 => intro w' hSw; (try dsimp only at hSw); go_simp; try with_reducible rfl
    try simp only [Act.put, List.setIfInBounds_toArray, List.set_cons_zero, List.set_cons_succ]
    refine takeC 2 (by kernel_rfl) rfl (fun K hK => ?_)
    go_simp
    refine (toIssuer_any _ s _ hC (by exact (hA.below hBB).below (Below.refl _ _).drew)).mono ?_; rintro e w9 ⟨v9, rfl, O9, hB9⟩; have hcx := fun o => hB9.cell (p := ⟨kx, o, none⟩) (by exact FX.lt); have hca := fun o => hB9.cell (p := ⟨w.heap.size, o, none⟩) (by exact F.lt)
    refine hK.out _ _ ?_ (fun hHeld => ?_)
    · go_keep
    clear hK K
    try simp only [Act.put, List.setIfInBounds_toArray, List.set_cons_zero, List.set_cons_succ]
    refine takeC 3 (by kernel_rfl) rfl (fun K hK => ?_)
    go_simp
    refine (eqIssuer_same _ _ s _ hS (by exact (OX.below (below_drew1 hB9)).a) O9.a).mono ?_; rintro e w10 ⟨rfl, hB10⟩; have hcx2 := fun o => hB10.cell (p := ⟨kx, o, none⟩) (by exact Nat.lt_of_lt_of_le FX.lt (below_drew1 hB9).size); have hca2 := fun o => hB10.cell (p := ⟨w.heap.size, o, none⟩) (by exact Nat.lt_of_lt_of_le F.lt (below_drew1 hB9).size)
    refine hK.out _ _ ?_ (fun hHeld => ?_)
    · go_keep
    clear hK K
    try simp only [Act.put, List.setIfInBounds_toArray, List.set_cons_zero, List.set_cons_succ]
    refine takeW 4 (v := ?v6) rfl (by kernel_rfl) (by kernel_rfl) (by kernel_rfl) (fun _ _ _ h => h) (by rfl) (by assumption) ?hy6 ?rest6
    case hy6 => intro w' hSw; (try dsimp only at hSw); go_simp; try with_reducible rfl
    try simp only [Act.put, List.setIfInBounds_toArray, List.set_cons_zero, List.set_cons_succ]
    refine wpAnyH_done (by kernel_rfl) ?_ _
    have hBd : Below w6.heap.size w6 w10 := below_one (below_drew1 hB9) hB10
    clear hcx hca hcx2 hca2 hB9 hB10 hHeld O9 a0 a1 a2 a3 b0 b1 b2 b3
    replace F := F.below hBd
    replace FW := FW.below hBd
    replace FX := FX.below hBd
    replace FG := FG.below hBd
    replace OW := OW.below hBd
    replace OX := OX.below hBd
    replace OG := OG.below hBd
    replace RW := ownsRow_below RW hBd
    replace RG := ownsRow_below RG hBd
    replace hBB := below_one hBB hBd
    have hsd := hBd.size
    clear hBd
    obtain ⟨b0, b1, b2, b3⟩ := FX.c
    go_wp2_with fail
    obtain ⟨c1, HC1⟩ : ∃ c, Hid (c = 1 + s.many) := ⟨_, hid rfl⟩
    obtain ⟨c2, HC2⟩ : ∃ c, Hid (c = 1 + t.many) := ⟨_, hid rfl⟩
    obtain ⟨c3, HC3⟩ : ∃ c, Hid (c = c2 + 5 * ks.length) := ⟨_, hid rfl⟩
    have hc3 : c2 + 5 * ks.length ≤ 8000000 := by have := HC2.out; omega
    have hlx := FX.lt
    have hlg := FG.lt
    refine (markIssuer_any _ s 1 _ _ _ hS (by omega) (by omega) OX).mono ?_
    rintro e w11 ⟨rfl, _, M1⟩
    rw [← HC1.out]
    replace F := M1.four F (.inl hT0)
    replace FW := M1.four FW (.inl hkw)
    replace FX := M1.four FX (.inr (Nat.le_refl _))
    replace FG := M1.four FG (.inr (by omega))
    replace OW := M1.iso OW (.inr (by omega))
    replace OG := M1.iso OG (.inl (by omega))
    replace RW := M1.row RW (fun k hk => .inl (by have := rwlt k hk; omega))
    replace RG := M1.row RG (fun k hk => .inr (by have := (rglt k hk).1; omega))
    replace hBB := hBB.trans (M1.below (n := w.heap.size) (by omega) hBB.size)
    clear M1 b0 b1 b2 b3 OX
    have dk : decide ((c1 : Int) < 0) = false := by simp
    obtain ⟨b0, b1, b2, b3⟩ := FW.c
    obtain ⟨n0, n1, n2, n3⟩ := FG.c
    go_wp2_with fail
    refine (eqIssuer_same _ _ t _ hSE OG.a OW.a).mono ?_
    rintro e w12a ⟨rfl, hB12⟩
    replace F := F.below hB12
    replace FW := FW.below hB12
    replace FX := FX.below hB12
    replace FG := FG.below hB12
    replace OW := OW.below hB12
    replace OG := OG.below hB12
    replace RW := ownsRow_below RW hB12
    replace RG := ownsRow_below RG hB12
    replace hBB := below_one hBB hB12
    clear hB12 b0 b1 b2 b3 n0 n1 n2 n3
    go_wp2_with fail
    refine (eqLinkS_same _ _ ks _ (by omega) (LkS.own RG) (LkS.own RW)).mono ?_
    rintro e w12 ⟨rfl, hB12⟩
    replace F := F.below hB12
    replace FW := FW.below hB12
    replace FX := FX.below hB12
    replace FG := FG.below hB12
    replace OW := OW.below hB12
    replace OG := OG.below hB12
    replace RW := ownsRow_below RW hB12
    replace RG := ownsRow_below RG hB12
    replace hBB := below_one hBB hB12
    clear hB12
    obtain ⟨n0, n1, n2, n3⟩ := FG.c
    have hlg2 := FG.lt
    go_wp2_with fail
    refine (markIssuer_any _ t 1 _ _ _ hSE (by omega) (by omega) OG).mono ?_
    rintro e w13 ⟨rfl, OG', M2⟩
    rw [← HC2.out]
    replace F := M2.four F (.inl (by omega))
    replace FW := M2.four FW (.inl (by omega))
    replace FG := M2.four FG (.inr (Nat.le_refl _))
    replace OW := M2.iso OW (.inr (by omega))
    replace RW := M2.row RW (fun k hk => .inl (by have := rwlt k hk; omega))
    replace RG := M2.row RG (fun k hk => .inl (hgm k hk))
    replace hBB := hBB.trans (M2.below (n := w.heap.size) (by omega) hBB.size)
    clear M2 n0 n1 n2 n3 OG FX
    go_wp2_with fail
    refine (markLinkS_to _ ks.length c2 _ _ _ (by omega) hc3 RG).mono ?_
    rintro e w13b ⟨rfl, RG', hg13⟩
    rw [← HC3.out]
    have M3 : Mid W4'.heap.size m _ w13b := Mid.of_grown hg13 (fun k hk => ⟨(rglt k hk).1, hgm k hk⟩)
    replace F := M3.four F (.inl (by omega))
    replace FW := M3.four FW (.inl (by omega))
    replace FG := M3.four FG (.inr (by omega))
    replace OW := M3.iso OW (.inr (by omega))
    replace OG' := M3.iso OG' (.inl (Nat.le_refl _))
    replace RW := M3.row RW (fun k hk => .inl (by have := rwlt k hk; omega))
    replace hBB := hBB.trans (M3.below (n := w.heap.size) (by omega) hBB.size)
    clear M3 hg13 RG
    obtain ⟨n0, n1, n2, n3⟩ := FG.c
    go_wp2_with fail
    refine (heldIssuer_any _ t 1 _ hSE (by omega) OG'.a).mono ?_
    rintro e w14a ⟨rfl, hB14⟩
    rw [← HC2.out]
    replace F := F.below hB14
    replace FW := FW.below hB14
    replace FG := FG.below hB14
    replace OW := OW.below hB14
    replace OG' := OG'.below hB14
    replace RW := ownsRow_below RW hB14
    replace RG' := ownsRow_below RG' hB14
    replace hBB := below_one hBB hB14
    clear hB14 n0 n1 n2 n3
    have dq : decide ((c2 : Int) < 0) = false := by simp
    go_wp2_with fail
    refine (heldLinkS_to _ ks.length c2 _ (by omega) hc3 (LkS.own (rs := mkKs c2 ks.length) (by rw [mkKs_len]; exact RG'))).mono ?_
    rintro e w14 ⟨rfl, hB14⟩
    rw [← HC3.out]
    replace F := F.below hB14
    replace FW := FW.below hB14
    replace FG := FG.below hB14
    replace OW := OW.below hB14
    replace OG' := OG'.below hB14
    replace RW := ownsRow_below RW hB14
    replace RG' := ownsRow_below RG' hB14
    replace hBB := below_one hBB hB14
    clear hB14
    have dq3 : decide ((c3 : Int) < 0) = false := by simp
    have eq3 : ((c3 : Int) != (c3 : Int)) = false := by simp
    obtain ⟨a0, a1, a2, a3⟩ := F.c
    go_wp2_with fail
    refine (toIssuer_any _ s _ hC (hA.below hBB)).mono ?_
    rintro e w15 ⟨v15, rfl, OY, hB15⟩
    obtain ⟨y0, y1, y2, y3, y4, y5, rfl⟩ := is_forms OY.a
    clear a0 a1 a2 a3 F
    replace FW := FW.below hB15
    replace FG := FG.below hB15
    replace OW := OW.below hB15
    replace OG' := OG'.below hB15
    replace RW := ownsRow_below RW hB15
    replace RG' := ownsRow_below RG' hB15
    replace hBB := below_one hBB hB15
    clear hB15
    go_wp2_with fail
    refine (implIssue_any _ s name tq nw li p0 p1 p2 p3 _ _ _ hS hN (by omega) (by omega) (hE.below hBB) OY (ht.on hBB)).mono ?_
    rintro e w16 ⟨v16, vlh, mh, he, _, OH, RH, _, hB16⟩
    rw [← HT.out] at OH
    rw [← HD.out] at he
    rw [← HK.out] at RH
    subst he
    obtain ⟨q0, q1, q2, q3, q4, q5, rfl⟩ := is_forms OH.a
    replace FW := FW.below hB16
    replace FG := FG.below hB16
    replace OW := OW.below hB16
    replace OG' := OG'.below hB16
    replace RW := ownsRow_below RW hB16
    replace RG' := ownsRow_below RG' hB16
    replace hBB := below_one hBB hB16
    clear hB16
    have hBv : Below w16.heap.size w16 (w16.alloc (.cells #[.slice q0 t.ws.length q1, .int .i64 t.nx, .slice q2 t.rv.length q3, .slice q4 t.sg.length q5] 30)) := (Below.refl _ w16).alloc (Nat.le_refl _) _
    have FH := Four.new w16 (.slice q0 t.ws.length q1) (.int .i64 t.nx) (.slice q2 t.rv.length q3) (.slice q4 t.sg.length q5) 30
    replace FW := FW.below hBv
    replace FG := FG.below hBv
    replace OW := OW.below hBv
    replace OG' := OG'.below hBv
    replace OH := OH.below hBv
    replace RW := ownsRow_below RW hBv
    replace RH := ownsRow_below RH hBv
    replace RG' := ownsRow_below RG' hBv
    replace hBB := below_one hBB hBv
    clear hBv
    obtain ⟨b0, b1, b2, b3⟩ := FW.c
    go_wp2_with fail
    generalize w16.alloc (.cells #[.slice q0 t.ws.length q1, .int .i64 t.nx, .slice q2 t.rv.length q3, .slice q4 t.sg.length q5] 30) = W16' at *
    generalize w16.heap.size = kh at *
    refine (eqIssuer_same _ _ t _ hSE OH.a OW.a).mono ?_
    rintro e w17a ⟨rfl, hB17⟩
    replace FW := FW.below hB17
    replace FG := FG.below hB17
    replace OW := OW.below hB17
    replace OG' := OG'.below hB17
    replace RW := ownsRow_below RW hB17
    replace RH := ownsRow_below RH hB17
    replace RG' := ownsRow_below RG' hB17
    replace hBB := below_one hBB hB17
    clear hB17 b0 b1 b2 b3
    go_wp2_with fail
    refine (eqLinkS_same _ _ ks _ (by omega) (LkS.own RH) (LkS.own RW)).mono ?_
    rintro e w17 ⟨rfl, hB17⟩
    replace FG := FG.below hB17
    replace OG' := OG'.below hB17
    replace RG' := ownsRow_below RG' hB17
    replace hBB := below_one hBB hB17
    clear hB17
    obtain ⟨n0, n1, n2, n3⟩ := FG.c
    go_wp2_with fail
    refine (heldIssuer_any _ t 1 _ hSE (by omega) OG'.a).mono ?_
    rintro e w18a ⟨rfl, hB18⟩
    rw [← HC2.out]
    replace RG' := ownsRow_below RG' hB18
    replace hBB := below_one hBB hB18
    clear hB18 n0 n1 n2 n3
    go_wp2_with fail
    refine (heldLinkS_to _ ks.length c2 _ (by omega) hc3 (LkS.own (rs := mkKs c2 ks.length) (by rw [mkKs_len]; exact RG'))).mono ?_
    rintro e w18 ⟨rfl, hB18⟩
    rw [← HC3.out]
    replace hBB := below_one hBB hB18
    clear hB18
    go_wp2_with fail
    go_ret
    exact ⟨rfl, hBB⟩
  · have HU := hid (show leftI 1048576 s = -1 from if_neg (by omega))
    go_enter Tryz.func3, Tryz.ntmps3
    go_wp2_with fail
    generalize w.alloc (.cells #[.slice aw s.ws.length cw, .int .i64 s.nx, .slice ar s.rv.length cr, .slice ag s.sg.length cg] 26) = W0 at *
    refine (szIssuer_any _ s _ hf (hA.below hB0)).mono ?_
    rintro e w1 ⟨rfl, hB1⟩
    rw [HU.out]
    have hBB1 := below_one hB0 hB1
    clear hB1 hB0
    go_wp2_with fail
    go_ret
    exact ⟨rfl, hBB1⟩

end Go.Proofs.YtodkpoppgfomeaaGreatDoor
