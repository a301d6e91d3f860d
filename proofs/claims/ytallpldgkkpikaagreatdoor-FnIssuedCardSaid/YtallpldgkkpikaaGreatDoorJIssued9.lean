/-
  Proved: for every slice of bytes the law FnIssued returns true, and nothing that was there is changed; the card.
-/
import Derived.Test.YtallpldgkkpikaaGreatDoorJIssued8
import Derived.Deep.RegionHeld3
import Derived.Test.YtallpldgkkpikaaGreatDoorJIssued7
import Derived.Test.YtallpldgkkpikaaGreatDoorJIssued1
import Derived.Laws.FloatArith
import Derived.WalkLawsBesides
import Derived.Shelf.Slices.Turned
import Derived.Test.YtallpldgkkpikaaGreatDoorJIssued3
import Derived.Test.YtallpldgkkpikaaGreatDoorJIssued0
import Derived.Test.YtallpldgkkpikaaGreatDoorJIssued6
import Derived.Test.YtallpldgkkpikaaGreatDoorJIssued5
import Derived.WalkKit
import Derived.ProofKit
import Derived.OpenShut
import Derived.ChangeSlices
import Derived.SizedLaws
import Derived.Test.YtallpldgkkpikaaGreatDoorCards
import Derived.Test.YtallpldgkkpikaaGreatDoorTie
import Derived.Test.YtallpldgkkpikaaGreatDoorJIssued2
import Derived.ShutString
import Derived.ChangeOld
import Derived.Below
import Derived.Lib.SmallJoins
import Derived.Deep.Slices
import Derived.Deep.DeepHandedRow
import Derived.Shelf.Vars
import Derived.Lay
import Derived.OpenVars
import Derived.Stop.LaidErr
namespace Go.Proofs.YtallpldgkkpikaaGreatDoor
open Go.RowKit Go.Shelf

set_option maxHeartbeats 4000000 in
set_option maxRecDepth 100000 in
theorem drawIT_any (a : Option Addr) (n c : Nat) (w : World) (hle : n ≤ c) (hB : ByS w a n) (hap : ∀ p, a = some p → p.block < w.heap.size) :
    Calls Tryz.prog 4 #[.slice a n c] w fun e w' => ∃ (v : Value) (s : Is) (bl tl : Nat) (nm tq : ByteArray) (nw li : Int), e = .returned (.tuple #[v, .string nm, .string tq, .int .i64 nw, .int .i64 li]) ∧ w.heap.size ≤ bl ∧ IsO w' bl tl v s ∧ s.ws.length ≤ 20 ∧ s.rv.length ≤ 20 ∧ s.sg.length ≤ 300 ∧ (∀ k ∈ s.ws, k.name.size ≤ 100) ∧ nm.size ≤ 100 ∧ (tq.size ≤ 100 ∧ noN tq) ∧ 0 ≤ nw ∧ nw < 50 ∧ -1 ≤ li ∧ li ≤ 100001 ∧ Below w.heap.size w w' := by
  obtain ⟨W, hW⟩ : ∃ W, W = w.alloc (.cells #[.slice none 0 0, .int .i64 0, .slice none 0 0, .slice none 0 0] 27) := ⟨_, rfl⟩
  have hWs : W.heap.size = w.heap.size + 1 := by rw [hW]; simp
  have hBw : Below w.heap.size w W := by rw [hW]; exact (Below.refl _ w).alloc (Nat.le_refl _) _
  have FR : Four W 27 w.heap.size (.slice none 0 0) (.int .i64 0) (.slice none 0 0) (.slice none 0 0) := by rw [hW]; exact Four.new w _ _ _ _ _
  have hBl : Below W.heap.size W (W.alloc (.cells #[.slice a n c, .int .i64 0, .int .u64 0] 46)) := (Below.refl _ W).alloc (Nat.le_refl _) _
  have hC0 : CurB (W.alloc (.cells #[.slice a n c, .int .i64 0, .int .u64 0] 46)) W.heap.size a n c 0 := ⟨hle, by simp, by simp, ⟨0, by simp⟩, by simp, by simp, fun p hp => by have := hap p hp; omega⟩
  have hB0 := (hB.below hBw).below hBl
  replace FR := FR.below hBl
  have hbc : W.heap.size < (W.alloc (.cells #[.slice a n c, .int .i64 0, .int .u64 0] 46)).heap.size := by simp
  go_enter Tryz.func4, Tryz.ntmps4
  go_upto_region 1 with fail
  rw [← hW]
  clear hW hB
  have HWS := hid hWs
  have hW1 : w.heap.size < W.heap.size := by omega
  clear hWs
  go_wp2_with fail
  refine (drawIssuer_any W.heap.size a n c 0 _ hB0 hC0 (by omega)).mono ?_
  rintro e w1 ⟨v, vl, s, bl, tl, q, rfl, hq, hbl, hI, hs1, hs2, hs3, hs4, hB1, hC1, hg1⟩
  obtain ⟨aw, cw, ar, cr, ag, cg, rfl⟩ := is_forms hI.a
  have hWs := HWS.out
  have hbb : W.heap.size < bl := Nat.lt_of_lt_of_le hbc hbl
  have hBB1 : Below w.heap.size w w1 := hBw.trans ((hBl.mono (by omega)).grown hg1 (by have := hBl.size; omega) (fun k hk => by cases hk; omega))
  have hkb : W.heap.size < w1.heap.size := Nat.lt_of_lt_of_le hbc hg1.size
  replace FR := (Mid.of_grown (lo := W.heap.size) (hi := W.heap.size + 1) hg1 (fun k hk => by cases hk; omega)).four FR (by omega)
  generalize hb : W.heap.size = b at *
  clear hB0 hC0 hg1 hBl hbl hbc hBw HWS hWs
  have hBv : Below w1.heap.size w1 (w1.alloc (.cells #[.slice aw s.ws.length cw, .int .i64 s.nx, .slice ar s.rv.length cr, .slice ag s.sg.length cg] 27)) := (Below.refl _ w1).alloc (Nat.le_refl _) _
  have FX := Four.new w1 (.slice aw s.ws.length cw) (.int .i64 s.nx) (.slice ar s.rv.length cr) (.slice ag s.sg.length cg) 27
  go_upto_region 3 with fail
  have FR1 := FR.below hBv
  have hI1 := hI.below hBv
  replace hB1 := hB1.below hBv
  replace hC1 := hC1.below hBv
  replace hBB1 := hBB1.trans (hBv.mono hBB1.size)
  generalize w1.alloc (.cells #[.slice aw s.ws.length cw, .int .i64 s.nx, .slice ar s.rv.length cr, .slice ag s.sg.length cg] 27) = W2 at *
  generalize hk4e : w1.heap.size = k4 at *
  clear hBv FR hI hk4e
  go_wp2_with fail
  refine (pick_any b a n c q 90 W2 (by omega) (by omega) hB1 hC1 (by omega)).mono ?_
  rintro e w3 ⟨x, hx, rfl, hC3, hg3⟩
  have hB3 := curB_grown hB1 hC1.apart hC1.lt hg3
  have M3 : Mid b (b + 1) W2 w3 := Mid.of_grown hg3 (fun k hk => by cases hk; omega)
  have FX3 := M3.four FX (by omega)
  have FR3 := M3.four FR1 (by omega)
  have hI3 := M3.iso hI1 (.inl (by omega))
  have hBB3 := hBB1.trans (M3.below (n := w.heap.size) (by omega) hBB1.size)
  clear hB1 hC1 hg3 M3 FX FR1 hI1 hBB1
  go_wp2_with fail
  refine (one_any b a n c (q + 1) 12 w3 (by omega) (by omega) hB3 hC3 (by omega)).mono ?_
  rintro e w4 ⟨o1, rfl, hC1, hg4⟩
  have hB1 := curB_grown hB3 hC3.apart hC3.lt hg4
  have M4 : Mid b (b + 1) w3 w4 := Mid.of_grown hg4 (fun k hk => by cases hk; omega)
  have FX := M4.four FX3 (by omega)
  have FR1 := M4.four FR3 (by omega)
  have hI1 := M4.iso hI3 (.inl (by omega))
  have hBB1 := hBB3.trans (M4.below (n := w.heap.size) (by omega) hBB3.size)
  clear hB3 hC3 hg4 M4 FX3 FR3 hI3 hBB3
  cases o1
  · skip
    have hb4 : k4 ≠ b := by omega
    have hk4 : k4 < w4.heap.size := FX.lt
    obtain ⟨x0, x1, x2, x3⟩ := FX.c
    go_wp2_with fail
    refine wp_region_held_drew (S := fun w' => w'.cell? ⟨k4, 0, none⟩ = some (.slice aw s.ws.length cw) ∧ w'.cell? ⟨k4, 1, none⟩ = some (.int .i64 s.nx) ∧ w'.cell? ⟨k4, 2, none⟩ = some (.slice ar s.rv.length cr) ∧ w'.cell? ⟨k4, 3, none⟩ = some (.slice ag s.sg.length cg)) (by kernel_rfl) ?_ (fun hHeld => ?_)
    · go_keep
    refine takeW 0 (v := ?v61) rfl (by kernel_rfl) (by kernel_rfl) (by kernel_rfl) (fun _ _ _ h => h) (by rfl) (by assumption) ?hy61 ?rest61
    case hy61 => intro w' hSw; (try dsimp only at hSw); go_simp; try with_reducible rfl
    try simp only [Act.put, List.setIfInBounds_toArray, List.set_cons_zero, List.set_cons_succ]
    refine takeW 1 (v := ?v62) rfl (by kernel_rfl) (by kernel_rfl) (by kernel_rfl) (fun _ _ _ h => h) (by rfl) (by assumption) ?hy62 ?rest62
    case hy62 => intro w' hSw; (try dsimp only at hSw); go_simp; try with_reducible rfl
    try simp only [Act.put, List.setIfInBounds_toArray, List.set_cons_zero, List.set_cons_succ]
    refine takeW 3 (v := ?v63) rfl (by kernel_rfl) (by kernel_rfl) (by kernel_rfl) (fun _ _ _ h => h) (by rfl) (by assumption) ?hy63 ?rest63
    case hy63 => intro w' hSw; (try dsimp only at hSw); go_simp; try with_reducible rfl
    try simp only [Act.put, List.setIfInBounds_toArray, List.set_cons_zero, List.set_cons_succ]
    refine takeW 5 (v := ?v64) rfl (by kernel_rfl) (by kernel_rfl) (by kernel_rfl) (fun _ _ _ h => h) (by rfl) (by assumption) ?hy64 ?rest64
    case hy64 => intro w' hSw; (try dsimp only at hSw); go_simp; try with_reducible rfl
    try simp only [Act.put, List.setIfInBounds_toArray, List.set_cons_zero, List.set_cons_succ]
    refine takeW 7 (v := ?v65) rfl (by kernel_rfl) (by kernel_rfl) (by kernel_rfl) (fun _ _ _ h => h) (by rfl) (by assumption) ?hy65 ?rest65
    case hy65 => intro w' hSw; (try dsimp only at hSw); go_simp; try with_reducible rfl
    try simp only [Act.put, List.setIfInBounds_toArray, List.set_cons_zero, List.set_cons_succ]
    refine takeC 2 (by kernel_rfl) rfl (fun K hK => ?_)
    go_simp
    refine (drawNm_any b a n c (q + 1 + 1) _ (hB1.below (Below.refl _ _).drew) (hC1.below (Below.refl _ _).drew) (by omega)).mono ?_; rintro e y1 ⟨nm, hnm, rfl, hBy1, ⟨q1, hq1, hCy1⟩, hgy1⟩; have kk1 := fun o => keep_cellU hgy1 (g := k4) (by exact hk4) hb4 o; have hk4_1 := Nat.lt_of_lt_of_le hk4 hgy1.size; have G1 : w4.grownBy y1 (some b) := g2 (gB (grown_self _ _) (Below.refl _ _).drew) hgy1
    refine hK.out _ _ ?_ (fun hHeld => ?_)
    · go_keep
    clear hK K
    try simp only [Act.put, List.setIfInBounds_toArray, List.set_cons_zero, List.set_cons_succ]
    refine takeC 4 (by kernel_rfl) rfl (fun K hK => ?_)
    go_simp
    refine (drawNm_any b a n c (q1) _ hBy1 hCy1 (by omega)).mono ?_; rintro e y2 ⟨tq, htq, rfl, hBy2, ⟨q2, hq2, hCy2⟩, hgy2⟩; have kk2 := fun o => keep_cellU hgy2 (g := k4) (by exact hk4_1) hb4 o; have hk4_2 := Nat.lt_of_lt_of_le hk4_1 hgy2.size; have G2 : w4.grownBy y2 (some b) := g2 G1 hgy2
    refine hK.out _ _ ?_ (fun hHeld => ?_)
    · go_keep
    clear hK K
    try simp only [Act.put, List.setIfInBounds_toArray, List.set_cons_zero, List.set_cons_succ]
    refine takeC 6 (by kernel_rfl) rfl (fun K hK => ?_)
    go_simp
    refine (pick_any b a n c (q2) 50 _ (by omega) (by omega) hBy2 hCy2 (by omega)).mono ?_; rintro e y3 ⟨nw, hnw, rfl, hCy3, hgy3⟩; have hBy3 := curB_grown hBy2 hCy2.apart hCy2.lt hgy3; have kk3 := fun o => keep_cellU hgy3 (g := k4) (by exact hk4_2) hb4 o; have hk4_3 := Nat.lt_of_lt_of_le hk4_2 hgy3.size; have G3 : w4.grownBy y3 (some b) := g2 G2 hgy3
    refine hK.out _ _ ?_ (fun hHeld => ?_)
    · go_keep
    clear hK K
    try simp only [Act.put, List.setIfInBounds_toArray, List.set_cons_zero, List.set_cons_succ]
    have MG : Mid b (b + 1) w4 y3 := Mid.of_grown G3 (fun k hk => by cases hk; omega)
    have FR3 := MG.four FR1 (by omega)
    have hI3 := MG.iso hI1 (.inl (by omega))
    have hBB3 := hBB1.trans (MG.below (n := w.heap.size) (by omega) hBB1.size)
    obtain ⟨e0, e1, e2, e3⟩ := FR3.c
    have g0 := FR3.f 0
    have g1 := FR3.f 1
    have g2' := FR3.f 2
    have g3 := FR3.f 3
    have m4 : k4 ≠ w.heap.size := (by omega)
    have m4' : w.heap.size ≠ k4 := (by omega)
    have M2 := four_mid y3 w.heap.size (.slice aw s.ws.length cw) (.int .i64 s.nx) (.slice ar s.rv.length cr) (.slice ag s.sg.length cg)
    have hI4 := M2.iso hI3 (.inl (by omega))
    have hBB4 := hBB3.trans (M2.below (n := w.heap.size) (Nat.le_refl _) hBB3.size)
    have G := (((FR3.s0 (.slice aw s.ws.length cw)).s1 (.int .i64 s.nx)).s2 (.slice ar s.rv.length cr)).s3 (.slice ag s.sg.length cg)
    clear M2 MG hI3 hBB3 FR3
    refine takeC 8 (by kernel_rfl) rfl (fun K hK => ?_)
    go_simp
    skip
    refine hK.out _ _ ?_ (fun hHeld => ?_)
    · go_keep
    clear hK K
    try simp only [Act.put, List.setIfInBounds_toArray, List.set_cons_zero, List.set_cons_succ]
    refine takeW 9 (v := ?v66) rfl (by kernel_rfl) (by kernel_rfl) (by kernel_rfl) (fun _ _ _ h => h) (by rfl) (by assumption) ?hy66 ?rest66
    case hy66 => intro w' hSw; (try dsimp only at hSw); go_simp; try with_reducible rfl
    try simp only [Act.put, List.setIfInBounds_toArray, List.set_cons_zero, List.set_cons_succ]
    refine takeW 10 (v := ?v67) rfl (by kernel_rfl) (by kernel_rfl) (by kernel_rfl) (fun _ _ _ h => h) (by rfl) (by assumption) ?hy67 ?rest67
    case hy67 => intro w' hSw; (try dsimp only at hSw); go_simp; try with_reducible rfl
    try simp only [Act.put, List.setIfInBounds_toArray, List.set_cons_zero, List.set_cons_succ]
    refine takeW 11 (v := ?v68) rfl (by kernel_rfl) (by kernel_rfl) (by kernel_rfl) (fun _ _ _ h => h) (by rfl) (by assumption) ?hy68 ?rest68
    case hy68 => intro w' hSw; (try dsimp only at hSw); go_simp; try with_reducible rfl
    try simp only [Act.put, List.setIfInBounds_toArray, List.set_cons_zero, List.set_cons_succ]
    refine takeW 12 (v := ?v69) rfl (by kernel_rfl) (by kernel_rfl) (by kernel_rfl) (fun _ _ _ h => h) (by rfl) (by assumption) ?hy69 ?rest69
    case hy69 => intro w' hSw; (try dsimp only at hSw); go_simp; try with_reducible rfl
    try simp only [Act.put, List.setIfInBounds_toArray, List.set_cons_zero, List.set_cons_succ]
    refine wpAnyH_done (by kernel_rfl) ?_ _
    clear e0 e1 e2 e3 g0 g1 g2' g3
    generalize (((y3.setCell ⟨w.heap.size, 0, none⟩ (.slice aw s.ws.length cw)).setCell ⟨w.heap.size, 1, none⟩ (.int .i64 s.nx)).setCell ⟨w.heap.size, 2, none⟩ (.slice ar s.rv.length cr)).setCell ⟨w.heap.size, 3, none⟩ (.slice ag s.sg.length cg) = Wx at *
    go_wp2_with fail
    obtain ⟨d0, d1, d2, d3⟩ := G.c
    exact bodyPost_ret (v := .tuple #[.agg #[.slice aw s.ws.length cw, .int .i64 s.nx, .slice ar s.rv.length cr, .slice ag s.sg.length cg], .string nm, .string tq, .int .i64 nw, .int .i64 (x : Int)]) (by simp [results, Tryz.results4, go_sem, d0, d1, d2, d3]) rfl ⟨_, s, bl, tl, nm, tq, _, _, rfl, by omega, hI4, hs1, hs2, hs3, hs4, hnm.1, htq, by omega, by omega, by omega, by omega, hBB4⟩
  · go_wp2_with fail
    refine (amongNew_any b a n c (q + 1 + 1) [-1, 100000, 100001] w4 (by decide) (by decide) hB1 hC1 (by omega)).mono ?_
    rintro e w5 ⟨z, hz, rfl, hB5, hC5, hg5⟩
    have M5 : Mid b (b + 1) w4 w5 := Mid.of_grown hg5 (fun k hk => by cases hk; omega)
    have FX5 := M5.four FX (by omega)
    have FR5 := M5.four FR1 (by omega)
    have hI5 := M5.iso hI1 (.inl (by omega))
    have hBB5 := hBB1.trans (M5.below (n := w.heap.size) (by omega) hBB1.size)
    clear hB1 hC1 hg5 M5 FX FR1 hI1 hBB1
    have hz' : z = -1 ∨ z = 100000 ∨ z = 100001 := by simpa using hz
    have hB1 := hB5
    have hC1 := hC5
    have FX := FX5
    have FR1 := FR5
    have hI1 := hI5
    have hBB1 := hBB5
    clear hB5 hC5 FX5 FR5 hI5 hBB5 hz
    have hb4 : k4 ≠ b := by omega
    have hk4 : k4 < w5.heap.size := FX.lt
    obtain ⟨x0, x1, x2, x3⟩ := FX.c
    go_wp2_with fail
    refine wp_region_held_drew (S := fun w' => w'.cell? ⟨k4, 0, none⟩ = some (.slice aw s.ws.length cw) ∧ w'.cell? ⟨k4, 1, none⟩ = some (.int .i64 s.nx) ∧ w'.cell? ⟨k4, 2, none⟩ = some (.slice ar s.rv.length cr) ∧ w'.cell? ⟨k4, 3, none⟩ = some (.slice ag s.sg.length cg)) (by kernel_rfl) ?_ (fun hHeld => ?_)
    · go_keep
    refine takeW 0 (v := ?v70) rfl (by kernel_rfl) (by kernel_rfl) (by kernel_rfl) (fun _ _ _ h => h) (by rfl) (by assumption) ?hy70 ?rest70
    case hy70 => intro w' hSw; (try dsimp only at hSw); go_simp; try with_reducible rfl
    try simp only [Act.put, List.setIfInBounds_toArray, List.set_cons_zero, List.set_cons_succ]
    refine takeW 1 (v := ?v71) rfl (by kernel_rfl) (by kernel_rfl) (by kernel_rfl) (fun _ _ _ h => h) (by rfl) (by assumption) ?hy71 ?rest71
    case hy71 => intro w' hSw; (try dsimp only at hSw); go_simp; try with_reducible rfl
    try simp only [Act.put, List.setIfInBounds_toArray, List.set_cons_zero, List.set_cons_succ]
    refine takeW 3 (v := ?v72) rfl (by kernel_rfl) (by kernel_rfl) (by kernel_rfl) (fun _ _ _ h => h) (by rfl) (by assumption) ?hy72 ?rest72
    case hy72 => intro w' hSw; (try dsimp only at hSw); go_simp; try with_reducible rfl
    try simp only [Act.put, List.setIfInBounds_toArray, List.set_cons_zero, List.set_cons_succ]
    refine takeW 5 (v := ?v73) rfl (by kernel_rfl) (by kernel_rfl) (by kernel_rfl) (fun _ _ _ h => h) (by rfl) (by assumption) ?hy73 ?rest73
    case hy73 => intro w' hSw; (try dsimp only at hSw); go_simp; try with_reducible rfl
    try simp only [Act.put, List.setIfInBounds_toArray, List.set_cons_zero, List.set_cons_succ]
    refine takeW 7 (v := ?v74) rfl (by kernel_rfl) (by kernel_rfl) (by kernel_rfl) (fun _ _ _ h => h) (by rfl) (by assumption) ?hy74 ?rest74
    case hy74 => intro w' hSw; (try dsimp only at hSw); go_simp; try with_reducible rfl
    try simp only [Act.put, List.setIfInBounds_toArray, List.set_cons_zero, List.set_cons_succ]
    refine takeC 2 (by kernel_rfl) rfl (fun K hK => ?_)
    go_simp
    refine (drawNm_any b a n c (q + 1 + 1 + 1) _ (hB1.below (Below.refl _ _).drew) (hC1.below (Below.refl _ _).drew) (by omega)).mono ?_; rintro e y1 ⟨nm, hnm, rfl, hBy1, ⟨q1, hq1, hCy1⟩, hgy1⟩; have kk1 := fun o => keep_cellU hgy1 (g := k4) (by exact hk4) hb4 o; have hk4_1 := Nat.lt_of_lt_of_le hk4 hgy1.size; have G1 : w5.grownBy y1 (some b) := g2 (gB (grown_self _ _) (Below.refl _ _).drew) hgy1
    refine hK.out _ _ ?_ (fun hHeld => ?_)
    · go_keep
    clear hK K
    try simp only [Act.put, List.setIfInBounds_toArray, List.set_cons_zero, List.set_cons_succ]
    refine takeC 4 (by kernel_rfl) rfl (fun K hK => ?_)
    go_simp
    refine (drawNm_any b a n c (q1) _ hBy1 hCy1 (by omega)).mono ?_; rintro e y2 ⟨tq, htq, rfl, hBy2, ⟨q2, hq2, hCy2⟩, hgy2⟩; have kk2 := fun o => keep_cellU hgy2 (g := k4) (by exact hk4_1) hb4 o; have hk4_2 := Nat.lt_of_lt_of_le hk4_1 hgy2.size; have G2 : w5.grownBy y2 (some b) := g2 G1 hgy2
    refine hK.out _ _ ?_ (fun hHeld => ?_)
    · go_keep
    clear hK K
    try simp only [Act.put, List.setIfInBounds_toArray, List.set_cons_zero, List.set_cons_succ]
    refine takeC 6 (by kernel_rfl) rfl (fun K hK => ?_)
    go_simp
    refine (pick_any b a n c (q2) 50 _ (by omega) (by omega) hBy2 hCy2 (by omega)).mono ?_; rintro e y3 ⟨nw, hnw, rfl, hCy3, hgy3⟩; have hBy3 := curB_grown hBy2 hCy2.apart hCy2.lt hgy3; have kk3 := fun o => keep_cellU hgy3 (g := k4) (by exact hk4_2) hb4 o; have hk4_3 := Nat.lt_of_lt_of_le hk4_2 hgy3.size; have G3 : w5.grownBy y3 (some b) := g2 G2 hgy3
    refine hK.out _ _ ?_ (fun hHeld => ?_)
    · go_keep
    clear hK K
    try simp only [Act.put, List.setIfInBounds_toArray, List.set_cons_zero, List.set_cons_succ]
    have MG : Mid b (b + 1) w5 y3 := Mid.of_grown G3 (fun k hk => by cases hk; omega)
    have FR3 := MG.four FR1 (by omega)
    have hI3 := MG.iso hI1 (.inl (by omega))
    have hBB3 := hBB1.trans (MG.below (n := w.heap.size) (by omega) hBB1.size)
    obtain ⟨e0, e1, e2, e3⟩ := FR3.c
    have g0 := FR3.f 0
    have g1 := FR3.f 1
    have g2' := FR3.f 2
    have g3 := FR3.f 3
    have m4 : k4 ≠ w.heap.size := (by omega)
    have m4' : w.heap.size ≠ k4 := (by omega)
    have M2 := four_mid y3 w.heap.size (.slice aw s.ws.length cw) (.int .i64 s.nx) (.slice ar s.rv.length cr) (.slice ag s.sg.length cg)
    have hI4 := M2.iso hI3 (.inl (by omega))
    have hBB4 := hBB3.trans (M2.below (n := w.heap.size) (Nat.le_refl _) hBB3.size)
    have G := (((FR3.s0 (.slice aw s.ws.length cw)).s1 (.int .i64 s.nx)).s2 (.slice ar s.rv.length cr)).s3 (.slice ag s.sg.length cg)
    clear M2 MG hI3 hBB3 FR3
    refine takeC 8 (by kernel_rfl) rfl (fun K hK => ?_)
    go_simp
    skip
    refine hK.out _ _ ?_ (fun hHeld => ?_)
    · go_keep
    clear hK K
    try simp only [Act.put, List.setIfInBounds_toArray, List.set_cons_zero, List.set_cons_succ]
    refine takeW 9 (v := ?v75) rfl (by kernel_rfl) (by kernel_rfl) (by kernel_rfl) (fun _ _ _ h => h) (by rfl) (by assumption) ?hy75 ?rest75
    case hy75 => intro w' hSw; (try dsimp only at hSw); go_simp; try with_reducible rfl
    try simp only [Act.put, List.setIfInBounds_toArray, List.set_cons_zero, List.set_cons_succ]
    refine takeW 10 (v := ?v76) rfl (by kernel_rfl) (by kernel_rfl) (by kernel_rfl) (fun _ _ _ h => h) (by rfl) (by assumption) ?hy76 ?rest76
    case hy76 => intro w' hSw; (try dsimp only at hSw); go_simp; try with_reducible rfl
    try simp only [Act.put, List.setIfInBounds_toArray, List.set_cons_zero, List.set_cons_succ]
    refine takeW 11 (v := ?v77) rfl (by kernel_rfl) (by kernel_rfl) (by kernel_rfl) (fun _ _ _ h => h) (by rfl) (by assumption) ?hy77 ?rest77
    case hy77 => intro w' hSw; (try dsimp only at hSw); go_simp; try with_reducible rfl
    try simp only [Act.put, List.setIfInBounds_toArray, List.set_cons_zero, List.set_cons_succ]
    refine takeW 12 (v := ?v78) rfl (by kernel_rfl) (by kernel_rfl) (by kernel_rfl) (fun _ _ _ h => h) (by rfl) (by assumption) ?hy78 ?rest78
    case hy78 => intro w' hSw; (try dsimp only at hSw); go_simp; try with_reducible rfl
    try simp only [Act.put, List.setIfInBounds_toArray, List.set_cons_zero, List.set_cons_succ]
    refine wpAnyH_done (by kernel_rfl) ?_ _
    clear e0 e1 e2 e3 g0 g1 g2' g3
    generalize (((y3.setCell ⟨w.heap.size, 0, none⟩ (.slice aw s.ws.length cw)).setCell ⟨w.heap.size, 1, none⟩ (.int .i64 s.nx)).setCell ⟨w.heap.size, 2, none⟩ (.slice ar s.rv.length cr)).setCell ⟨w.heap.size, 3, none⟩ (.slice ag s.sg.length cg) = Wx at *
    go_wp2_with fail
    obtain ⟨d0, d1, d2, d3⟩ := G.c
    exact bodyPost_ret (v := .tuple #[.agg #[.slice aw s.ws.length cw, .int .i64 s.nx, .slice ar s.rv.length cr, .slice ag s.sg.length cg], .string nm, .string tq, .int .i64 nw, .int .i64 z]) (by simp [results, Tryz.results4, go_sem, d0, d1, d2, d3]) rfl ⟨_, s, bl, tl, nm, tq, _, _, rfl, by omega, hI4, hs1, hs2, hs3, hs4, hnm.1, htq, by omega, by omega, by omega, by omega, hBB4⟩

end Go.Proofs.YtallpldgkkpikaaGreatDoor

namespace Go.Proofs.YtallpldgkkpikaaGreatDoor
open Go.RowKit Go.Shelf

theorem neq_link (k : Lk) (w : World) : (binOp .neq 38 k.val k.val).run Tryz.prog w = .ok (.bool false) w := by
  first | rw [run_neq_struct] | skip
  simp [go_sem, Tryz.underlying38]

set_option maxHeartbeats 2000000 in
theorem sameLinks_any (v v' : Value) (ks : List Lk) (w : World) (_hm : ks.length ≤ 1048577) (hr : LkS w v ks) (hr' : LkS w v' ks) :
    Calls Tryz.prog 7 #[v, v'] w fun e w' => e = .returned (.bool true) ∧ Below w.heap.size w w' := by
  obtain ⟨a, cap, rfl⟩ := hr.len
  obtain ⟨a', cap', rfl⟩ := hr'.len
  have e0 : ((ks.length : Int) != (ks.length : Int)) = false := by simp
  go_enter Tryz.func7, Tryz.ntmps7
  go_wp2
  go_loopw [13] (fun i wr => ∃ k : Nat, k ≤ ks.length ∧ i = .int .i64 k ∧ Below w.heap.size w wr) (fun i _ => ks.length - (intOf i).toNat)
  case atStart => exact ⟨0, Nat.zero_le _, rfl, Below.refl _ _⟩
  case round =>
    obtain ⟨k, hk, rfl, hB⟩ := hrel
    by_cases hlt : k < ks.length
    · obtain ⟨b, off, rfl, hb, hcap, q0, q1, q2, q3, q4⟩ := (hr.below hB).at hlt
      obtain ⟨b', off', rfl, hb', hcap', p0, p1, p2, p3, p4⟩ := (hr'.below hB).at hlt
      generalize ks[k] = r at *
      obtain ⟨rw_, rt, rse, rf, ru⟩ := r
      have hse := neq_link ⟨rw_, rt, rse, rf, ru⟩
      simp only at q0 q1 q2 q3 q4 p0 p1 p2 p3 p4
      go_wp2_with fail
      go_region
      go_wp2
      go_roundw
      case rel => exact ⟨k + 1, by omega, by go_num, hB.drew⟩
      case measure => simp [intOf]; omega
    · obtain rfl : k = ks.length := by omega
      go_wp2
      go_ret
      exact ⟨rfl, hB⟩

theorem num_step (x y : Nat) : ((31 * (x : Int) + (y : Int)) % 1000003) = (((31 * x + y) % 1000003 : Nat) : Int) := by omega

end Go.Proofs.YtallpldgkkpikaaGreatDoor

namespace Go.Proofs.YtallpldgkkpikaaGreatDoor
open Go.RowKit Go.Shelf

theorem containsS_hasT (ss : List ByteArray) (s : ByteArray) : Lib.containsS ss s = hasT ss s := by
  rw [Bool.eq_iff_iff, Lib.containsS_iff]
  unfold hasT
  rw [List.any_eq_true]
  constructor
  · intro h
    exact ⟨s, h, by simp⟩
  · rintro ⟨x, hx, he⟩
    have : x = s := bytes_same (by simpa [toList_data] using he)
    rw [← this]
    exact hx

theorem contS_any (v : Value) (ss : List ByteArray) (s : ByteArray) (w : World) (hm : ss.length ≤ 1048577) (hr : VS w v (strs ss)) :
    Calls Tryz.prog 62 #[v, .string s] w fun e w' => e = .returned (.bool (hasT ss s)) ∧ w' = w := by
  rcases hr with ⟨a, cap, rfl, h0⟩ | ⟨b, off, cap, rfl, hb, hl, hc⟩
  · have : ss = [] := by simpa [strs] using h0
    subst this
    exact Any.slices_Contains_string_empty Tryz.lays110 a cap s w
  · have h := Any.slices_Contains_string Tryz.lays110 b off ss.length cap ss s w (Nat.le_refl _) (by omega) (fun j hj => by
      have := hc j (by rw [strs_len]; exact hj)
      rw [this]
      simp [strs, hj])
    rw [List.take_length, containsS_hasT] at h
    rw [strs_len]
    exact h

set_option maxHeartbeats 1000000 in
theorem hasAll_any (v v' : Value) (ss ts : List ByteArray) (w : World) (hm : ss.length ≤ 1048577) (hm' : ts.length ≤ 1048577) (hr : VS w v (strs ss)) (hr' : VS w v' (strs ts)) :
    Calls Tryz.prog 34 #[v, v'] w fun e w' => e = .returned (.bool (allT ss ts)) ∧ w' = w := by
  obtain ⟨a, cap, rfl⟩ := hr'.strLen
  go_enter Tryz.func34, Tryz.ntmps34
  go_wp2
  go_loop [9] (fun i => ∃ n : Nat, n ≤ ts.length ∧ i = .int .i64 n ∧ allTo3 ss ts n = true) (fun i => ts.length - (intOf i).toNat)
  case atStart => exact ⟨0, Nat.zero_le _, rfl, allTo3_zero _ _⟩
  case round =>
    obtain ⟨n, hn, rfl, ht⟩ := hrel
    have HT := hid ht
    clear ht
    by_cases hlt : n < ts.length
    · obtain ⟨b, off, rfl, hb, hcap, q0⟩ := hr'.str hlt
      have HS := hid (allTo3_succ (ss := ss) hlt)
      have HY := hid (fun h => allT_no (ss := ss) hlt h)
      generalize ts[n] = x at *
      have hC := contS_any v ss x w hm hr
      cases he : hasT ss x
      · have HR := hid (HY.out he)
        rw [he] at hC
        go_wp2_with (go_at_call 62; refine hC.mono ?_; rintro e w1 ⟨rfl, rfl⟩)
        go_ret
        exact ⟨ret_bool HR.out.symm, rfl⟩
      · have HR := hid (show allTo3 ss ts (n + 1) = true by rw [HS.out, HT.out, he]; rfl)
        rw [he] at hC
        go_wp2_with (go_at_call 62; refine hC.mono ?_; rintro e w1 ⟨rfl, rfl⟩)
        exact ⟨⟨n + 1, by omega, by go_num, HR.out⟩, by simp [intOf]; omega⟩
    · obtain rfl : n = ts.length := by omega
      have HR := hid (show allT ss ts = true by rw [← allT_end, HT.out])
      go_wp2
      go_ret
      exact ⟨ret_bool HR.out.symm, rfl⟩

set_option maxHeartbeats 1000000 in
theorem anyRevoked_any (v v' : Value) (ks : List Lk) (zs : List Int) (w : World) (hm : ks.length ≤ 1048577) (hm' : zs.length ≤ 1048577) (hr : LkS w v ks) (hr' : VS w v' (nums zs)) :
    Calls Tryz.prog 37 #[v, v'] w fun e w' => e = .returned (.bool (rvB ks zs)) ∧ Below w.heap.size w w' := by
  obtain ⟨a, cap, rfl⟩ := hr.len
  go_enter Tryz.func37, Tryz.ntmps37
  go_wp2
  go_loopw [9] (fun i wr => ∃ n : Nat, n ≤ ks.length ∧ i = .int .i64 n ∧ rvTo ks zs n = false ∧ Below w.heap.size w wr) (fun i _ => ks.length - (intOf i).toNat)
  case atStart => exact ⟨0, Nat.zero_le _, rfl, rvTo_zero _ _, Below.refl _ _⟩
  case round =>
    obtain ⟨n, hn, rfl, ht, hB⟩ := hrel
    have HT := hid ht
    clear ht
    by_cases hlt : n < ks.length
    · obtain ⟨b, off, rfl, hb, hcap, q0, q1, q2, q3, q4⟩ := (hr.below hB).at hlt
      have HS := hid (rvTo_succ (zs := zs) hlt)
      have HY := hid (fun h => rvB_yes (zs := zs) hlt h)
      generalize ks[n] = k at *
      have hBw : Below wr.heap.size wr (wr.alloc (.cells #[.string k.who, .string k.to, .int .i64 k.se, .int .i64 k.fr, .int .i64 k.un] 38)) := (Below.refl _ wr).alloc (Nat.le_refl _) _
      have hBa := below_one hB hBw
      have hC := contI_any v' zs k.se _ hm' (hr'.below hBa)
      cases he : isI zs k.se
      · have HR := hid (show rvTo ks zs (n + 1) = false by rw [HS.out, HT.out, he]; rfl)
        rw [he] at hC
        go_wp2_with (go_at_call 63; refine hC.mono ?_; rintro e w1 ⟨rfl, rfl⟩)
        go_roundw
        case rel => exact ⟨n + 1, by omega, by go_num, HR.out, hBa⟩
        case measure => simp [intOf]; omega
      · have HR := hid (HY.out he)
        rw [he] at hC
        go_wp2_with (go_at_call 63; refine hC.mono ?_; rintro e w1 ⟨rfl, rfl⟩)
        go_ret
        exact ⟨ret_bool HR.out.symm, hBa⟩
    · obtain rfl : n = ks.length := by omega
      have HR := hid (show rvB ks zs = false by rw [← rvB_end, HT.out])
      go_wp2
      go_ret
      exact ⟨ret_bool HR.out.symm, hB⟩

end Go.Proofs.YtallpldgkkpikaaGreatDoor

namespace Go.Proofs.YtallpldgkkpikaaGreatDoor
open Go.RowKit Go.Shelf

/-- What is told of a token, good or not. -/
def chk0 (ks : List Lk) (ss : List ByteArray) (nw : Int) (zs : List Int) (at_ : ByteArray) : Int := if tkB ks = true then chk1 ks (sgTo ks ks.length) ss nw zs at_ else 1
theorem chk0_no {ks : List Lk} (ss : List ByteArray) (nw : Int) (zs : List Int) (at_ : ByteArray) (h : tkB ks = false) : chk0 ks ss nw zs at_ = 1 := if_neg (by rw [h]; exact Bool.false_ne_true)
theorem chk0_2 {ks : List Lk} {ss : List ByteArray} (nw : Int) (zs : List Int) (at_ : ByteArray) (h : tkB ks = true) (h2 : allT ss (sgTo ks ks.length) = false) : chk0 ks ss nw zs at_ = 2 := by
  unfold chk0 chk1
  rw [if_pos h, if_pos h2]
theorem chk0_3 {ks : List Lk} {ss : List ByteArray} {nw : Int} (zs : List Int) (at_ : ByteArray) (h : tkB ks = true) (h2 : allT ss (sgTo ks ks.length) = true) (h3 : inT ks nw = false) : chk0 ks ss nw zs at_ = 3 := by
  unfold chk0 chk1
  rw [if_pos h, if_neg (by rw [h2]; decide), if_pos h3]
theorem chk0_4 {ks : List Lk} {ss : List ByteArray} {nw : Int} {zs : List Int} (at_ : ByteArray) (h : tkB ks = true) (h2 : allT ss (sgTo ks ks.length) = true) (h3 : inT ks nw = true) (h4 : rvB ks zs = true) : chk0 ks ss nw zs at_ = 4 := by
  unfold chk0 chk1
  rw [if_pos h, if_neg (by rw [h2]; decide), if_neg (by rw [h3]; decide), if_pos h4]
theorem chk0_5 {ks : List Lk} {ss : List ByteArray} {nw : Int} {zs : List Int} {at_ : ByteArray} (h : tkB ks = true) (h2 : allT ss (sgTo ks ks.length) = true) (h3 : inT ks nw = true) (h4 : rvB ks zs = false) (h5 : toOk ks at_ = false) : chk0 ks ss nw zs at_ = 5 := by
  unfold chk0 chk1
  rw [if_pos h, if_neg (by rw [h2]; decide), if_neg (by rw [h3]; decide), if_neg (by rw [h4]; decide), if_pos h5]
theorem chk0_0 {ks : List Lk} {ss : List ByteArray} {nw : Int} {zs : List Int} {at_ : ByteArray} (h : tkB ks = true) (h2 : allT ss (sgTo ks ks.length) = true) (h3 : inT ks nw = true) (h4 : rvB ks zs = false) (h5 : toOk ks at_ = true) : chk0 ks ss nw zs at_ = 0 := by
  unfold chk0 chk1
  rw [if_pos h, if_neg (by rw [h2]; decide), if_neg (by rw [h3]; decide), if_neg (by rw [h4]; decide), if_neg (by rw [h5]; decide)]

theorem chkX_0 (ks : List Lk) (ss : List ByteArray) {nw : Int} {zs : List Int} {at_ : ByteArray} (h : argB nw at_ ss zs = true) : chkX ks (sgTo ks ks.length) ss nw zs at_ = chk0 ks ss nw zs at_ := by
  unfold chkX chk0
  rw [h, Bool.and_true]

end Go.Proofs.YtallpldgkkpikaaGreatDoor

namespace Go.Proofs.YtallpldgkkpikaaGreatDoor
open Go.RowKit Go.Shelf

theorem fN_zero : (0 : Nat) = fN 0 := by decide
theorem fN_most : (4681608360884174848 : Nat) = fN 100000 := by
  have h : Nat.log2 100000 = 16 := by decide
  rw [(fN_pos (n := 100000) (by omega) (by omega)).1, h]
theorem max_run (ts : Array TypeId) (t : TypeId) {a b : Nat} (ha : a ≤ 100000) (hb : b ≤ 100000) (W : World) : (Builtin.max_ ts t #[.float .f64 (fN a), .float .f64 (fN b)]).run Tryz.prog W = .ok (.float .f64 (fN (max a b))) W := by
  have ho := order_fN a b (by omega) (by omega)
  have hn := neg_fN a (by omega)
  rcases Nat.lt_trichotomy a b with h | h | h
  · rw [Nat.compare_eq_lt.2 h] at ho
    rw [Nat.max_eq_right (by omega)]
    simp [Builtin.max_, Builtin.max2, ho]
  · subst h
    rw [Nat.compare_eq_eq.2 rfl] at ho
    rw [Nat.max_self]
    simp [Builtin.max_, Builtin.max2, ho]
  · rw [Nat.compare_eq_gt.2 h] at ho
    rw [Nat.max_eq_left (by omega)]
    simp [Builtin.max_, Builtin.max2, ho]
theorem min_run (ts : Array TypeId) (t : TypeId) {a b : Nat} (ha : a ≤ 100000) (hb : b ≤ 100000) (W : World) : (Builtin.min_ ts t #[.float .f64 (fN a), .float .f64 (fN b)]).run Tryz.prog W = .ok (.float .f64 (fN (min a b))) W := by
  have ho := order_fN a b (by omega) (by omega)
  have hn := neg_fN a (by omega)
  rcases Nat.lt_trichotomy a b with h | h | h
  · rw [Nat.compare_eq_lt.2 h] at ho
    rw [Nat.min_eq_left (by omega)]
    simp [Builtin.min_, Builtin.min2, ho]
  · subst h
    rw [Nat.compare_eq_eq.2 rfl] at ho
    rw [Nat.min_self]
    simp [Builtin.min_, Builtin.min2, ho]
  · rw [Nat.compare_eq_gt.2 h] at ho
    rw [Nat.min_eq_right (by omega)]
    simp [Builtin.min_, Builtin.min2, ho]

set_option maxHeartbeats 1000000 in
theorem windowOf_any (v : Value) (ks : List Lk) (w : World) (hm : ks.length ≤ 1048577) (hg : ∀ k ∈ ks, k.good = true) (hr : LkS w v ks) :
    Calls Tryz.prog 36 #[v] w fun e w' => e = .returned (.complex .f64 (fN (mxF ks ks.length)) (fN (mnU ks ks.length))) ∧ Below w.heap.size w w' := by
  obtain ⟨a, cap, rfl⟩ := hr.len
  have HW := hid (fun n hn => win_le hg n hn)
  go_enter Tryz.func36, Tryz.ntmps36
  go_wp2
  go_loopw [3, 10] (fun c i wr => ∃ n : Nat, n ≤ ks.length ∧ i = .int .i64 n ∧ c = .complex .f64 (fN (mxF ks n)) (fN (mnU ks n)) ∧ Below w.heap.size w wr) (fun _ i _ => ks.length - (intOf i).toNat)
  case atStart => exact ⟨0, Nat.zero_le _, rfl, by rw [mxF_zero, mnU_zero, ← fN_zero, ← fN_most], Below.refl _ _⟩
  case round =>
    obtain ⟨n, hn, rfl, rfl, hB⟩ := hrel
    by_cases hlt : n < ks.length
    · obtain ⟨b, off, rfl, hb, hcap, q0, q1, q2, q3, q4⟩ := (hr.below hB).at hlt
      obtain ⟨_, _, _, b4, b5, _⟩ := (Lk.good_iff ks[n]).1 (hg ks[n] (List.getElem_mem hlt))
      obtain ⟨hx, hy⟩ := HW.out n hn
      have HX := hid (mxF_succ hlt)
      have HY := hid (mnU_succ hlt)
      generalize ks[n] = k at *
      generalize mxF ks n = x at *
      generalize mnU ks n = y at *
      obtain ⟨wh, tw, se, fr, un⟩ := k
      dsimp only at *
      obtain ⟨f, rfl⟩ := Int.eq_ofNat_of_zero_le b4.1
      obtain ⟨u, rfl⟩ := Int.eq_ofNat_of_zero_le b5.1
      rw [Int.toNat_natCast] at HX HY
      have hBa : Below w.heap.size w (wr.alloc (.cells #[.string wh, .string tw, .int .i64 se, .int .i64 (f : Int), .int .i64 (u : Int)] 38)) := hB.alloc hB.size _
      have c1 : floatOfInt FloatKind.f64 (f : Int) = fN f := rfl
      have c2 : floatOfInt FloatKind.f64 (u : Int) = fN u := rfl
      have m1 := fun ts t W => max_run ts t (a := x) (b := f) hx (by omega) W
      have m2 := fun ts t W => min_run ts t (a := y) (b := u) hy (by omega) W
      generalize max x f = x' at *
      generalize min y u = y' at *
      go_wp2
      go_roundw
      case rel => exact ⟨n + 1, by omega, by go_num, by rw [HX.out, HY.out], hBa⟩
      case measure => simp [intOf]; omega
    · obtain rfl : n = ks.length := by omega
      go_wp2
      go_ret
      exact ⟨rfl, hB⟩

set_option maxHeartbeats 1000000 in
theorem within_any (x y nw : Nat) (w : World) (hx : x ≤ 100000) (hy : y ≤ 100000) (hn : nw ≤ 100000) :
    Calls Tryz.prog 35 #[.complex .f64 (fN x) (fN y), .int .i64 (nw : Int)] w fun e w' => e = .returned (.bool (decide (x ≤ nw ∧ nw ≤ y))) ∧ w' = w := by
  have c1 : floatOfInt FloatKind.f64 (nw : Int) = fN nw := rfl
  have o1 := order_fN nw x (by omega) (by omega)
  have o2 := order_fN nw y (by omega) (by omega)
  have HR := hid (show decide (x ≤ nw ∧ nw ≤ y) = (decide (x ≤ nw) && decide (nw ≤ y)) from Bool.decide_and _ _)
  generalize decide (x ≤ nw ∧ nw ≤ y) = res at *
  rcases Nat.lt_trichotomy nw x with h | h | h
  · rw [Nat.compare_eq_lt.2 h] at o1
    have HQ := hid (show res = false by rw [HR.out, decide_eq_false (by omega)]; rfl)
    go_enter Tryz.func35, Tryz.ntmps35
    go_wp2
    go_ret
    exact ⟨ret_bool HQ.out.symm, rfl⟩
  · rw [Nat.compare_eq_eq.2 h] at o1
    rcases Nat.lt_trichotomy nw y with h2 | h2 | h2
    · rw [Nat.compare_eq_lt.2 h2] at o2
      have HQ := hid (show res = true by rw [HR.out, decide_eq_true (by omega), decide_eq_true (by omega)]; rfl)
      clear h h2
      go_enter Tryz.func35, Tryz.ntmps35
      go_wp2
      go_ret
      exact ⟨ret_bool HQ.out.symm, rfl⟩
    · rw [Nat.compare_eq_eq.2 h2] at o2
      have HQ := hid (show res = true by rw [HR.out, decide_eq_true (by omega), decide_eq_true (by omega)]; rfl)
      clear h h2
      go_enter Tryz.func35, Tryz.ntmps35
      go_wp2
      go_ret
      exact ⟨ret_bool HQ.out.symm, rfl⟩
    · rw [Nat.compare_eq_gt.2 h2] at o2
      have HQ := hid (show res = false by rw [HR.out, decide_eq_true (by omega), decide_eq_false (by omega)]; rfl)
      clear h h2
      go_enter Tryz.func35, Tryz.ntmps35
      go_wp2
      go_ret
      exact ⟨ret_bool HQ.out.symm, rfl⟩
  · rw [Nat.compare_eq_gt.2 h] at o1
    rcases Nat.lt_trichotomy nw y with h2 | h2 | h2
    · rw [Nat.compare_eq_lt.2 h2] at o2
      have HQ := hid (show res = true by rw [HR.out, decide_eq_true (by omega), decide_eq_true (by omega)]; rfl)
      clear h h2
      go_enter Tryz.func35, Tryz.ntmps35
      go_wp2
      go_ret
      exact ⟨ret_bool HQ.out.symm, rfl⟩
    · rw [Nat.compare_eq_eq.2 h2] at o2
      have HQ := hid (show res = true by rw [HR.out, decide_eq_true (by omega), decide_eq_true (by omega)]; rfl)
      clear h h2
      go_enter Tryz.func35, Tryz.ntmps35
      go_wp2
      go_ret
      exact ⟨ret_bool HQ.out.symm, rfl⟩
    · rw [Nat.compare_eq_gt.2 h2] at o2
      have HQ := hid (show res = false by rw [HR.out, decide_eq_true (by omega), decide_eq_false (by omega)]; rfl)
      clear h h2
      go_enter Tryz.func35, Tryz.ntmps35
      go_wp2
      go_ret
      exact ⟨ret_bool HQ.out.symm, rfl⟩

end Go.Proofs.YtallpldgkkpikaaGreatDoor

namespace Go.Proofs.YtallpldgkkpikaaGreatDoor
open Go.RowKit Go.Shelf

set_option maxHeartbeats 4000000 in
theorem implCheckToken_any (v v1 v3 : Value) (ks : List Lk) (ss : List ByteArray) (nw : Int) (zs : List Int) (at_ : ByteArray) (w : World) (hm : ks.length ≤ 1048577) (hms : ss.length ≤ 1048577) (hmz : zs.length ≤ 1048577) (hat : at_.size ≤ 1048576) (hf : ∀ k ∈ ks, k.size ≤ 1048576) (hr : LkS w v ks) (hrs : VS w v1 (strs ss)) (hrz : VS w v3 (nums zs)) (ht : Tab w) :
    Calls Tryz.prog 10 #[v, v1, .int .i64 nw, v3, .string at_] w fun e w' => e = .returned (.int .i64 (chkX ks (sgTo ks ks.length) ss nw zs at_)) ∧ Below w.heap.size w w' := by
  obtain ⟨a, cap, rfl⟩ := hr.len
  obtain ⟨a1, cap1, rfl⟩ := hrs.strLen
  obtain ⟨a3, cap3, rfl⟩ := hrz.numLen
  cases hg : tkB ks
  · have HR := hid (chkX_no1 (sgTo ks ks.length) ss nw zs at_ hg)
    go_enter Tryz.func10, Tryz.ntmps10
    go_wp2_with fail
    refine (implSignedOf_any _ ks _ hm hf hr ht).mono ?_
    rintro e w1 ⟨v1', rfl, hrow, hB1⟩
    obtain ⟨a', cap', rfl⟩ := ownsRow_len hrow
    rw [hg]
    go_wp2_with fail
    go_ret
    exact ⟨ret_int HR.out.symm, hB1⟩
  · have HG := hid hg
    have HSG := hid (sigL_yes hg)
    have hgd := tkB_good hg
    have hl := tkB_len hg
    cases h1 : tmB nw
    · have HR := hid (show chkX ks (sgTo ks ks.length) ss nw zs at_ = 1 from chkX_no2 ks _ (by unfold argB; rw [h1]; rfl))
      go_enter Tryz.func10, Tryz.ntmps10
      go_wp2_with fail
      refine (implSignedOf_any _ ks _ hm hf hr ht).mono ?_
      rintro e w1 ⟨v1', rfl, hrow, hB1⟩
      rw [HSG.out] at hrow
      obtain ⟨a', cap', rfl⟩ := ownsRow_len hrow
      rw [hg]
      go_wp2_with (first | (go_at_call 33; refine (goodTime_any _ _).mono ?_; rintro e wx ⟨rfl, rfl⟩) | (go_at_call 31; refine (implGoodName_any at_ _ hat).mono ?_; rintro e w2 ⟨rfl, hB2⟩))
      go_ret
      exact ⟨ret_int HR.out.symm, hB1⟩
    · cases h2 : gnB (split at_ 47)
      · have HR := hid (show chkX ks (sgTo ks ks.length) ss nw zs at_ = 1 from chkX_no2 ks _ (by unfold argB; rw [h1, h2]; rfl))
        go_enter Tryz.func10, Tryz.ntmps10
        go_wp2_with fail
        refine (implSignedOf_any _ ks _ hm hf hr ht).mono ?_
        rintro e w1 ⟨v1', rfl, hrow, hB1⟩
        rw [HSG.out] at hrow
        obtain ⟨a', cap', rfl⟩ := ownsRow_len hrow
        rw [hg]
        go_wp2_with (first | (go_at_call 33; refine (goodTime_any _ _).mono ?_; rintro e wx ⟨rfl, rfl⟩) | (go_at_call 31; refine (implGoodName_any at_ _ hat).mono ?_; rintro e w2 ⟨rfl, hB2⟩))
        go_ret
        exact ⟨ret_int HR.out.symm, below_one hB1 hB2⟩
      · cases h3 : decide (ss.length ≤ 200)
        · have HR := hid (show chkX ks (sgTo ks ks.length) ss nw zs at_ = 1 from chkX_no2 ks _ (by unfold argB; rw [h1, h2, h3]; rfl))
          have d3 : decide ((200 : Int) < (ss.length : Int)) = true := by have := of_decide_eq_false h3; simp; omega
          clear h3
          go_enter Tryz.func10, Tryz.ntmps10
          go_wp2_with fail
          refine (implSignedOf_any _ ks _ hm hf hr ht).mono ?_
          rintro e w1 ⟨v1', rfl, hrow, hB1⟩
          rw [HSG.out] at hrow
          obtain ⟨a', cap', rfl⟩ := ownsRow_len hrow
          rw [hg]
          go_wp2_with (first | (go_at_call 33; refine (goodTime_any _ _).mono ?_; rintro e wx ⟨rfl, rfl⟩) | (go_at_call 31; refine (implGoodName_any at_ _ hat).mono ?_; rintro e w2 ⟨rfl, hB2⟩))
          go_ret
          exact ⟨ret_int HR.out.symm, below_one hB1 hB2⟩
        · cases h4 : decide (zs.length ≤ 200)
          · have HR := hid (show chkX ks (sgTo ks ks.length) ss nw zs at_ = 1 from chkX_no2 ks _ (by unfold argB; rw [h1, h2, h3, h4]; rfl))
            have d3 : decide ((200 : Int) < (ss.length : Int)) = false := by have := of_decide_eq_true h3; simp; omega
            have d4 : decide ((200 : Int) < (zs.length : Int)) = true := by have := of_decide_eq_false h4; simp; omega
            clear h3 h4
            go_enter Tryz.func10, Tryz.ntmps10
            go_wp2_with fail
            refine (implSignedOf_any _ ks _ hm hf hr ht).mono ?_
            rintro e w1 ⟨v1', rfl, hrow, hB1⟩
            rw [HSG.out] at hrow
            obtain ⟨a', cap', rfl⟩ := ownsRow_len hrow
            rw [hg]
            go_wp2_with (first | (go_at_call 33; refine (goodTime_any _ _).mono ?_; rintro e wx ⟨rfl, rfl⟩) | (go_at_call 31; refine (implGoodName_any at_ _ hat).mono ?_; rintro e w2 ⟨rfl, hB2⟩))
            go_ret
            exact ⟨ret_int HR.out.symm, below_one hB1 hB2⟩
          · have HX := hid (show chkX ks (sgTo ks ks.length) ss nw zs at_ = chk0 ks ss nw zs at_ from chkX_0 ks ss (by unfold argB; rw [h1, h2, h3, h4]; rfl))
            have d3 : decide ((200 : Int) < (ss.length : Int)) = false := by have := of_decide_eq_true h3; simp; omega
            have d4 : decide ((200 : Int) < (zs.length : Int)) = false := by have := of_decide_eq_true h4; simp; omega
            have hnn := of_decide_eq_true h1
            obtain ⟨nn, hnn'⟩ := Int.eq_ofNat_of_zero_le hnn.1
            have hn1 : nn ≤ 100000 := by omega
            have HWI := hid (show inT ks nw = decide (mxF ks ks.length ≤ nn ∧ nn ≤ mnU ks ks.length) by rw [← inT_end, hnn']; exact win_in hgd hn1 ks.length (Nat.le_refl _))
            have HN := hid hnn'
            have hwl := win_le hgd ks.length (Nat.le_refl _)
            clear h3 h4 hnn hnn'
            have H2 := hid (fun h => chk0_2 (ks := ks) (ss := ss) nw zs at_ HG.out h)
            have H3 := hid (fun h h' => chk0_3 (ks := ks) (ss := ss) (nw := nw) zs at_ HG.out h h')
            have H4 := hid (fun h h' h4 => chk0_4 (ks := ks) (ss := ss) (nw := nw) (zs := zs) at_ HG.out h h' h4)
            have H5 := hid (fun h h' h4 h5 => chk0_5 (ks := ks) (ss := ss) (nw := nw) (zs := zs) (at_ := at_) HG.out h h' h4 h5)
            have H0 := hid (fun h h' h4 h5 => chk0_0 (ks := ks) (ss := ss) (nw := nw) (zs := zs) (at_ := at_) HG.out h h' h4 h5)
            have hsl : (sgTo ks ks.length).length ≤ 1048577 := by rw [sgTo_len]; exact hm
            obtain ⟨m, hmm⟩ : ∃ m, m = ks.length - 1 := ⟨_, rfl⟩
            have hlm : m < ks.length := by omega
            have HO := hid (toOk_at (at_ := at_) hlm hmm)
            have hw1 : IntKind.i64.wrap ((ks.length : Int) - 1) = (m : Int) := by rw [IntKind.wrap_i64]; omega
            have hw2 : (m : Int) < (ks.length : Int) := by omega
            clear hmm
            cases hA : allT ss (sgTo ks ks.length)
            · have HR := hid (HX.out.trans (H2.out hA))
              go_enter Tryz.func10, Tryz.ntmps10
              go_wp2_with fail
              refine (implSignedOf_any _ ks _ hm hf hr ht).mono ?_
              rintro e w1 ⟨v1', rfl, hrow, hB1⟩
              rw [HSG.out] at hrow
              obtain ⟨a', cap', rfl⟩ := ownsRow_len hrow
              rw [hg]
              go_wp2_with (first | (go_at_call 33; refine (goodTime_any _ _).mono ?_; rintro e wx ⟨rfl, rfl⟩) | (go_at_call 31; refine (implGoodName_any at_ _ hat).mono ?_; rintro e w2 ⟨rfl, hB2⟩))
              have hB12 := below_one hB1 hB2
              refine (hasAll_any _ _ ss (sgTo ks ks.length) _ hms hsl (hrs.below hB12) (VS.ownS (ownsRow_below hrow hB2))).mono ?_
              rintro e w3 ⟨rfl, rfl⟩
              rw [hA]
              go_wp2_with fail
              go_ret
              exact ⟨ret_int HR.out.symm, hB12⟩
            · cases hI : inT ks nw
              · have HR := hid (HX.out.trans (H3.out hA hI))
                have hI' : decide (mxF ks ks.length ≤ nn ∧ nn ≤ mnU ks ks.length) = false := by rw [← HWI.out, hI]
                go_enter Tryz.func10, Tryz.ntmps10
                go_wp2_with fail
                refine (implSignedOf_any _ ks _ hm hf hr ht).mono ?_
                rintro e w1 ⟨v1', rfl, hrow, hB1⟩
                rw [HSG.out] at hrow
                obtain ⟨a', cap', rfl⟩ := ownsRow_len hrow
                rw [hg]
                go_wp2_with (first | (go_at_call 33; refine (goodTime_any _ _).mono ?_; rintro e wx ⟨rfl, rfl⟩) | (go_at_call 31; refine (implGoodName_any at_ _ hat).mono ?_; rintro e w2 ⟨rfl, hB2⟩))
                have hB12 := below_one hB1 hB2
                refine (hasAll_any _ _ ss (sgTo ks ks.length) _ hms hsl (hrs.below hB12) (VS.ownS (ownsRow_below hrow hB2))).mono ?_
                rintro e w3 ⟨rfl, rfl⟩
                rw [hA]
                go_wp2_with fail
                refine (windowOf_any _ ks _ hm hgd (hr.below hB12)).mono ?_
                rintro e w4 ⟨rfl, hB4⟩
                have hB14 := below_one hB12 hB4
                go_wp2_with fail
                have hnx : (Value.int .i64 nw) = .int .i64 (nn : Int) := by rw [HN.out]
                rw [hnx]
                refine (within_any _ _ nn _ hwl.1 hwl.2 hn1).mono ?_
                rintro e w5 ⟨rfl, rfl⟩
                rw [hI']
                go_wp2_with fail
                go_ret
                exact ⟨ret_int HR.out.symm, hB14⟩
              · cases hV : rvB ks zs
                · obtain ⟨k, hk⟩ : ∃ k, k = ks[m] := ⟨_, rfl⟩
                  cases he : (ks[m].to.toList == at_.toList)
                  · have HR := hid (HX.out.trans (H5.out hA hI hV (by rw [HO.out, he])))
                    have hI' : decide (mxF ks ks.length ≤ nn ∧ nn ≤ mnU ks ks.length) = true := by rw [← HWI.out, hI]
                    go_enter Tryz.func10, Tryz.ntmps10
                    go_wp2_with fail
                    refine (implSignedOf_any _ ks _ hm hf hr ht).mono ?_
                    rintro e w1 ⟨v1', rfl, hrow, hB1⟩
                    rw [HSG.out] at hrow
                    obtain ⟨a', cap', rfl⟩ := ownsRow_len hrow
                    rw [hg]
                    go_wp2_with (first | (go_at_call 33; refine (goodTime_any _ _).mono ?_; rintro e wx ⟨rfl, rfl⟩) | (go_at_call 31; refine (implGoodName_any at_ _ hat).mono ?_; rintro e w2 ⟨rfl, hB2⟩))
                    have hB12 := below_one hB1 hB2
                    refine (hasAll_any _ _ ss (sgTo ks ks.length) _ hms hsl (hrs.below hB12) (VS.ownS (ownsRow_below hrow hB2))).mono ?_
                    rintro e w3 ⟨rfl, rfl⟩
                    rw [hA]
                    go_wp2_with fail
                    refine (windowOf_any _ ks _ hm hgd (hr.below hB12)).mono ?_
                    rintro e w4 ⟨rfl, hB4⟩
                    have hB14 := below_one hB12 hB4
                    go_wp2_with fail
                    have hnx : (Value.int .i64 nw) = .int .i64 (nn : Int) := by rw [HN.out]
                    rw [hnx]
                    refine (within_any _ _ nn _ hwl.1 hwl.2 hn1).mono ?_
                    rintro e w5 ⟨rfl, rfl⟩
                    rw [hI']
                    go_wp2_with fail
                    refine (anyRevoked_any _ _ ks zs _ hm hmz (hr.below hB14) (hrz.below hB14)).mono ?_
                    rintro e w6 ⟨rfl, hB6⟩
                    have hB16 := below_one hB14 hB6
                    rw [hV]
                    obtain ⟨b, off, rfl, hb, hcap, _, q1, _, _, _⟩ := (hr.below hB16).at hlm
                    rw [← hk] at q1 he
                    clear hk
                    go_wp2_with fail
                    go_ret
                    exact ⟨ret_int HR.out.symm, hB16⟩
                  · have HR := hid (HX.out.trans (H0.out hA hI hV (by rw [HO.out, he])))
                    have hI' : decide (mxF ks ks.length ≤ nn ∧ nn ≤ mnU ks ks.length) = true := by rw [← HWI.out, hI]
                    go_enter Tryz.func10, Tryz.ntmps10
                    go_wp2_with fail
                    refine (implSignedOf_any _ ks _ hm hf hr ht).mono ?_
                    rintro e w1 ⟨v1', rfl, hrow, hB1⟩
                    rw [HSG.out] at hrow
                    obtain ⟨a', cap', rfl⟩ := ownsRow_len hrow
                    rw [hg]
                    go_wp2_with (first | (go_at_call 33; refine (goodTime_any _ _).mono ?_; rintro e wx ⟨rfl, rfl⟩) | (go_at_call 31; refine (implGoodName_any at_ _ hat).mono ?_; rintro e w2 ⟨rfl, hB2⟩))
                    have hB12 := below_one hB1 hB2
                    refine (hasAll_any _ _ ss (sgTo ks ks.length) _ hms hsl (hrs.below hB12) (VS.ownS (ownsRow_below hrow hB2))).mono ?_
                    rintro e w3 ⟨rfl, rfl⟩
                    rw [hA]
                    go_wp2_with fail
                    refine (windowOf_any _ ks _ hm hgd (hr.below hB12)).mono ?_
                    rintro e w4 ⟨rfl, hB4⟩
                    have hB14 := below_one hB12 hB4
                    go_wp2_with fail
                    have hnx : (Value.int .i64 nw) = .int .i64 (nn : Int) := by rw [HN.out]
                    rw [hnx]
                    refine (within_any _ _ nn _ hwl.1 hwl.2 hn1).mono ?_
                    rintro e w5 ⟨rfl, rfl⟩
                    rw [hI']
                    go_wp2_with fail
                    refine (anyRevoked_any _ _ ks zs _ hm hmz (hr.below hB14) (hrz.below hB14)).mono ?_
                    rintro e w6 ⟨rfl, hB6⟩
                    have hB16 := below_one hB14 hB6
                    rw [hV]
                    obtain ⟨b, off, rfl, hb, hcap, _, q1, _, _, _⟩ := (hr.below hB16).at hlm
                    rw [← hk] at q1 he
                    clear hk
                    go_wp2_with fail
                    go_ret
                    exact ⟨ret_int HR.out.symm, hB16⟩
                · have HR := hid (HX.out.trans (H4.out hA hI hV))
                  have hI' : decide (mxF ks ks.length ≤ nn ∧ nn ≤ mnU ks ks.length) = true := by rw [← HWI.out, hI]
                  go_enter Tryz.func10, Tryz.ntmps10
                  go_wp2_with fail
                  refine (implSignedOf_any _ ks _ hm hf hr ht).mono ?_
                  rintro e w1 ⟨v1', rfl, hrow, hB1⟩
                  rw [HSG.out] at hrow
                  obtain ⟨a', cap', rfl⟩ := ownsRow_len hrow
                  rw [hg]
                  go_wp2_with (first | (go_at_call 33; refine (goodTime_any _ _).mono ?_; rintro e wx ⟨rfl, rfl⟩) | (go_at_call 31; refine (implGoodName_any at_ _ hat).mono ?_; rintro e w2 ⟨rfl, hB2⟩))
                  have hB12 := below_one hB1 hB2
                  refine (hasAll_any _ _ ss (sgTo ks ks.length) _ hms hsl (hrs.below hB12) (VS.ownS (ownsRow_below hrow hB2))).mono ?_
                  rintro e w3 ⟨rfl, rfl⟩
                  rw [hA]
                  go_wp2_with fail
                  refine (windowOf_any _ ks _ hm hgd (hr.below hB12)).mono ?_
                  rintro e w4 ⟨rfl, hB4⟩
                  have hB14 := below_one hB12 hB4
                  go_wp2_with fail
                  have hnx : (Value.int .i64 nw) = .int .i64 (nn : Int) := by rw [HN.out]
                  rw [hnx]
                  refine (within_any _ _ nn _ hwl.1 hwl.2 hn1).mono ?_
                  rintro e w5 ⟨rfl, rfl⟩
                  rw [hI']
                  go_wp2_with fail
                  refine (anyRevoked_any _ _ ks zs _ hm hmz (hr.below hB14) (hrz.below hB14)).mono ?_
                  rintro e w6 ⟨rfl, hB6⟩
                  have hB16 := below_one hB14 hB6
                  rw [hV]
                  go_wp2_with fail
                  go_ret
                  exact ⟨ret_int HR.out.symm, hB16⟩

end Go.Proofs.YtallpldgkkpikaaGreatDoor

namespace Go.Proofs.YtallpldgkkpikaaGreatDoor
open Go.RowKit Go.Shelf

set_option maxHeartbeats 2000000 in
theorem implSerials_any (v : Value) (s : Is) (name : ByteArray) (w : World) (hs : s.short) (hn : s.named) (h : IsA w v s) :
    Calls Tryz.prog 8 #[v, .string name] w fun e w' => e = .returned (.tuple #[.int .i64 (seX s name).1, .bool (seX s name).2]) ∧ Below w.heap.size w w' := by
  obtain ⟨aw, cw, ar, cr, ag, cg, rfl⟩ := is_forms h
  have h1 : WkS w (.slice aw s.ws.length cw) s.ws := by
    obtain ⟨vw, vr, vs, he, h1, _⟩ := h.parts
    injection he with he
    have := congrArg (fun a => a[0]?) he
    simp at this
    rw [this]
    exact h1
  have hB0 : Below w.heap.size w (w.alloc (.cells #[.slice aw s.ws.length cw, .int .i64 s.nx, .slice ar s.rv.length cr, .slice ag s.sg.length cg] 27)) := (Below.refl _ w).alloc (Nat.le_refl _) _
  have F := Four.new w (.slice aw s.ws.length cw) (.int .i64 s.nx) (.slice ar s.rv.length cr) (.slice ag s.sg.length cg) 27
  go_enter Tryz.func8, Tryz.ntmps8
  go_wp2_with fail
  generalize w.alloc (.cells #[.slice aw s.ws.length cw, .int .i64 s.nx, .slice ar s.rv.length cr, .slice ag s.sg.length cg] 27) = W0 at *
  refine (implGoodIssuer_any _ s _ hs hn (h.below hB0)).mono ?_
  rintro e w1 ⟨rfl, hB1⟩
  replace F := F.below hB1
  have hBB1 := below_one hB0 hB1
  clear hB0 hB1
  obtain ⟨a0, a1, a2, a3⟩ := F.c
  cases hg : isB s
  · have HR := hid (show seX s name = (0, false) from if_pos hg)
    go_wp2_with fail
    go_ret2
    exact ⟨ret_ib (by rw [HR.out]) (by rw [HR.out]), hBB1⟩
  · have HX := hid (show seX s name = (match s.ws[atW s.ws name]? with | some x => if hasW s.ws name = true then (x.se, true) else (0, false) | none => (0, false)) by unfold seX; rw [hg]; rfl)
    clear hg
    go_wp2_with fail
    refine (placeW_any _ s.ws name _ (by have := hs.1; omega) (h1.below hBB1)).mono ?_
    rintro e w2 ⟨rfl, hB2⟩
    replace F := F.below hB2
    have hBB2 := below_one hBB1 hB2
    clear hBB1 hB2 a0 a1 a2 a3
    obtain ⟨a0, a1, a2, a3⟩ := F.c
    cases hh : hasW s.ws name
    · have HR := hid (show seX s name = (0, false) by rw [HX.out, hh]; split <;> rfl)
      clear HX
      generalize atW s.ws name = n at *
      go_wp2_with fail
      go_ret2
      exact ⟨ret_ib (by rw [HR.out]) (by rw [HR.out]), hBB2⟩
    · have hlt := hasW_lt hh
      obtain ⟨b, off, rfl, hb, hcap, q0, q1, q2⟩ := (h1.below hBB2).at hlt
      have HR := hid (show seX s name = (s.ws[atW s.ws name].se, true) by rw [HX.out, hh, List.getElem?_eq_getElem hlt]; rfl)
      have hl2 : ((atW s.ws name : Nat) : Int) < (s.ws.length : Int) := by omega
      clear HX
      generalize s.ws[atW s.ws name] = k at *
      generalize atW s.ws name = n at *
      go_wp2_with fail
      go_ret2
      exact ⟨ret_ib (by rw [HR.out]) (by rw [HR.out]), hBB2⟩

end Go.Proofs.YtallpldgkkpikaaGreatDoor

namespace Go.Proofs.YtallpldgkkpikaaGreatDoor
open Go.RowKit Go.Shelf

theorem row_of_one {w : World} {base : Nat} {x : Option Addr} {z : Nat} {k : Lk} (h : w.ownsRow base 38 5 (.slice x [k].length z) [k].length ([k].flatMap Lk.cells)) : ∃ g, x = some ⟨g, 0, none⟩ ∧ ∀ j u, k.cells[j]? = some u → w.cell? ⟨g, j, none⟩ = some u := by
  rcases h.2 with ⟨_, h0⟩ | ⟨g, cap, cur, he, _⟩
  · simp at h0
  · cases he
    refine ⟨g, rfl, fun j u hu => ?_⟩
    have := h.cells (g := g) rfl j u (by simpa using hu)
    rwa [Addr.add_lit, Nat.zero_add] at this
theorem is_rows {w : World} {bl tl : Nat} {vw vr vs : Value} {s : Is} (h : IsO w bl tl (.agg #[vw, .int .i64 s.nx, vr, vs]) s) : VS w vr (nums s.rv) ∧ VS w vs (strs s.sg) :=
  ⟨VS.ownN h.rows.2.1, VS.ownS h.rows.2.2⟩
theorem code_nil {x : Er} (h : x ≠ .nil) : x.code ≠ 0 := by
  cases x
  · exact absurd rfl h
  all_goals decide
/-- What comes of an issue: a fault and no link; or a token that counts, till its work is revoked. -/
theorem it_facts (s : Is) (nm tq : ByteArray) (nw li : Int) (hs1 : s.ws.length ≤ 20) (hs2 : s.rv.length ≤ 20) (hs3 : s.sg.length ≤ 300) (hs4 : ∀ k ∈ s.ws, k.name.size ≤ 100) (hnm : nm.size ≤ 100) (htq : tq.size ≤ 100 ∧ noN tq) :
    ∃ (t : Is) (cd : Int) (ls : List Lk), t = hdX (itE s nm tq nw li) s [itK s nm tq nw li] nm ∧ cd = (itE s nm tq nw li).code ∧ ls = itL s nm tq nw li ∧
      ((cd ≠ 0 ∧ ls = []) ∨ (cd = 0 ∧ seX t nm = (s.nx, true) ∧ isB t = true ∧ ∃ k, ls = [k] ∧ k.se = s.nx ∧ ∃ t2, rkX t nm = (t2, ((s.rv.length + 1 : Nat) : Int), 0) ∧ isB t2 = true ∧ chkX [k] (sgTo [k] 1) t.sg nw t.rv tq = 0 ∧ chkX [k] (sgTo [k] 1) t2.sg nw t2.rv tq = 4 ∧ t.short ∧ t.named ∧ t2.short ∧ t2.named ∧ t.rv.length = s.rv.length)) ∧
      ls.length ≤ 1048577 ∧ (∀ k ∈ ls, k.size ≤ 1048576) := by
  refine ⟨_, _, _, rfl, rfl, rfl, ?_, by have := (it_drawn (s := s) (nw := nw) (li := li) hnm htq).1; omega, fun k hk => ((it_drawn (s := s) (nw := nw) (li := li) hnm htq).2 k hk).fits⟩
  by_cases hx : itE s nm tq nw li = .nil
  · obtain ⟨hB, hw, hf⟩ := itE_nil hx
    obtain ⟨hg, hn, _⟩ := itB_parts hB
    have hsm : s.small 300 := ⟨by omega, by omega, hs3, hs4⟩
    have h1 := hd_small .nil [itK s nm tq nw li] nm hsm
    have h2 := rk_small (n := nm) h1
    have hlen : s.sg.length + 1 ≤ 200 := by
      have := (isB_hd hg).2.2.2
      unfold fullB at hf
      rw [Bool.or_eq_false_iff] at hf
      have h3 := of_decide_eq_false hf.2
      omega
    have hr := sg_revoke [itK s nm tq nw li] hg hn hw hf
    have hI : isI s.rv s.nx = false := isI_all (fun x hx => (okN_mem (isB_parts hg).2.2.2.2 x hx).2)
    rw [hx]
    show _ ∨ ((0 : Int) = 0 ∧ seX (sgX s [itK s nm tq nw li] nm) nm = _ ∧ isB (sgX s [itK s nm tq nw li] nm) = true ∧ _)
    replace h1 : (sgX s [itK s nm tq nw li] nm).small 301 := h1
    replace h2 : (rkX (sgX s [itK s nm tq nw li] nm) nm).1.small 302 := h2
    refine .inr ⟨rfl, sg_serial _ hg hw hf, sg_good _ hg (livW_has hw) hf, itK s nm tq nw li, itL_yes hx, rfl, _, hr, rk_good _ hg hw hf, ?_, ?_, h1.short (by omega), h1.named, ?_, ?_, rfl⟩
    · have := chk_one hB s.sg s.rv hlen (by omega)
      rw [hI] at this
      exact this
    · have := chk_one hB s.sg (s.rv ++ [s.nx]) hlen (by simp; omega)
      rw [isI_last] at this
      exact this
    · rw [hr] at h2
      exact h2.short (by omega)
    · rw [hr] at h2
      exact h2.named
  · exact .inl ⟨code_nil hx, itL_no rfl hx⟩

set_option maxHeartbeats 1000000 in
set_option maxRecDepth 100000 in
theorem issuedLaw (a : Option Addr) (n c : Nat) (p0 p1 p2 p3 : Addr) (w : World) (hle : n ≤ c) (hn : n ≤ 1048576) (hB : ByS w a n) (hap : ∀ p, a = some p → p.block < w.heap.size) (hE : ErA w p0 p1 p2 p3) (ht : Tab w) :
    Calls Tryz.prog 3 #[.slice a n c] w fun e w' => e = .returned (.bool true) ∧ Below w.heap.size w w' := by
  have d1 : decide ((n : Int) > 1048576) = false := decide_eq_false (by omega)
  go_enter Tryz.func3, Tryz.ntmps3
  go_wp2_with fail
  refine (drawIT_any a n c _ hle hB hap).mono ?_
  rintro e w1 ⟨v, s, bl, tl, nm, tq, nw, li, rfl, hbl, O1, hs1, hs2, hs3, hs4, hnm, htq, hnw0, hnw1, hl0, hl1, hBB⟩
  have hS : s.short := ⟨by omega, by omega, by omega⟩
  have hN : s.named := fun k hk => by have := hs4 k hk; omega
  have htq1 := htq.1
  obtain ⟨aw, cw, ar, cr, ag, cg, rfl⟩ := is_forms O1.a
  replace hE := hE.below hBB
  replace ht := ht.on hBB
  clear hB
  have hBv : Below w1.heap.size w1 (w1.alloc (.cells #[.slice aw s.ws.length cw, .int .i64 s.nx, .slice ar s.rv.length cr, .slice ag s.sg.length cg] 27)) := (Below.refl _ w1).alloc (Nat.le_refl _) _
  have F3 := Four.new w1 (.slice aw s.ws.length cw) (.int .i64 s.nx) (.slice ar s.rv.length cr) (.slice ag s.sg.length cg) 27
  replace hE := hE.below hBv
  replace ht := ht.on hBv
  replace hBB := below_one hBB hBv
  replace O1 := O1.below hBv
  go_upto_region 4 with fail
  generalize w1.alloc (.cells #[.slice aw s.ws.length cw, .int .i64 s.nx, .slice ar s.rv.length cr, .slice ag s.sg.length cg] 27) = W3 at *
  generalize w1.heap.size = k3 at *
  clear hBv
  obtain ⟨a0, a1, a2, a3⟩ := F3.c
  go_wp2_with fail
  refine (implIssue_any _ s nm tq nw li p0 p1 p2 p3 bl tl W3 hS hN (by omega) (by omega) hE O1 ht).mono ?_
  rintro e w2 ⟨v2, vl, m, rfl, hm, O2, R2, hlt, hB2⟩
  clear a0 a1 a2 a3 hlt
  replace hE := hE.below hB2
  replace ht := ht.on hB2
  replace hBB := below_one hBB hB2
  replace O1 := O1.below hB2
  replace F3 := F3.below hB2
  obtain ⟨t, cd, ls, ht', hcd, hls, hF, hlsn, hdr⟩ := it_facts s nm tq nw li hs1 hs2 hs3 hs4 hnm htq
  rw [← ht'] at O2
  rw [← hls] at R2
  rw [← hcd]
  have HT := hid ht'
  have HC := hid hcd
  have HL := hid hls
  clear ht' hcd hls
  obtain ⟨aw', cw', ar', cr', ag', cg', rfl⟩ := is_forms O2.a
  obtain ⟨ak, ck, rfl⟩ := ownsRow_len R2
  clear hB2
  have hBv : Below w2.heap.size w2 (w2.alloc (.cells #[.slice aw' t.ws.length cw', .int .i64 t.nx, .slice ar' t.rv.length cr', .slice ag' t.sg.length cg'] 27)) := (Below.refl _ w2).alloc (Nat.le_refl _) _
  have F8 := Four.new w2 (.slice aw' t.ws.length cw') (.int .i64 t.nx) (.slice ar' t.rv.length cr') (.slice ag' t.sg.length cg') 27
  replace hE := hE.below hBv
  replace ht := ht.on hBv
  replace hBB := below_one hBB hBv
  replace O1 := O1.below hBv
  replace F3 := F3.below hBv
  replace O2 := O2.below hBv
  replace R2 := ownsRow_below R2 hBv
  go_upto_region 5 with fail
  generalize w2.alloc (.cells #[.slice aw' t.ws.length cw', .int .i64 t.nx, .slice ar' t.rv.length cr', .slice ag' t.sg.length cg'] 27) = W8 at *
  generalize w2.heap.size = k8 at *
  clear hBv
  obtain ⟨a0, a1, a2, a3⟩ := F3.c
  go_wp2_with fail
  refine (specIssue_any _ s nm tq nw li bl tl W8 hS hN (by omega) (by omega) O1).mono ?_
  rintro e w4 ⟨v4, vl4, rfl, O4, R4, hB4⟩
  clear a0 a1 a2 a3
  replace hE := hE.below hB4
  replace ht := ht.on hB4
  replace hBB := below_one hBB hB4
  replace O2 := O2.below hB4
  replace R2 := ownsRow_below R2 hB4
  replace F8 := F8.below hB4
  rw [← HT.out] at O4
  rw [← HL.out] at R4
  rw [← HC.out]
  obtain ⟨aw2, cw2, ar2, cr2, ag2, cg2, rfl⟩ := is_forms O4.a
  obtain ⟨ak2, ck2, rfl⟩ := ownsRow_len R4
  clear hB4 O1 F3
  have hBv : Below w4.heap.size w4 (w4.alloc (.cells #[.slice aw2 t.ws.length cw2, .int .i64 t.nx, .slice ar2 t.rv.length cr2, .slice ag2 t.sg.length cg2] 27)) := (Below.refl _ w4).alloc (Nat.le_refl _) _
  have F11 := Four.new w4 (.slice aw2 t.ws.length cw2) (.int .i64 t.nx) (.slice ar2 t.rv.length cr2) (.slice ag2 t.sg.length cg2) 27
  replace hE := hE.below hBv
  replace ht := ht.on hBv
  replace hBB := below_one hBB hBv
  replace O2 := O2.below hBv
  replace R2 := ownsRow_below R2 hBv
  replace F8 := F8.below hBv
  replace R4 := ownsRow_below R4 hBv
  go_upto_region 6 with fail
  generalize w4.alloc (.cells #[.slice aw2 t.ws.length cw2, .int .i64 t.nx, .slice ar2 t.rv.length cr2, .slice ag2 t.sg.length cg2] 27) = W11 at *
  generalize w4.heap.size = k11 at *
  clear hBv
  have d6 : (cd != cd) = false := by simp
  go_wp2_with fail
  refine (sameLinks_any _ _ ls W11 hlsn (LkS.own R2) (LkS.own R4)).mono ?_
  rintro e w6 ⟨rfl, hB6⟩
  replace hE := hE.below hB6
  replace ht := ht.on hB6
  replace hBB := below_one hBB hB6
  replace O2 := O2.below hB6
  replace R2 := ownsRow_below R2 hB6
  replace F8 := F8.below hB6
  clear hB6 R4 O4 F11
  rcases hF with ⟨hc, hl0⟩ | ⟨hc, hse, hg, k, hl1, hks, t2, hrk, hg2, hc1, hc2, hS1, hN1, hS2, hN2, hrl⟩
  · have d8 : (cd != 0) = true := by simpa using hc
    have d9 : ((ls.length : Int) == 0) = true := by rw [hl0]; rfl
    go_wp2_with fail
    go_ret
    exact ⟨rfl, hBB⟩
  · have HR := hid hrl
    have HL1 := hid hl1
    have HK := hid hks
    have d8 : (cd != 0) = false := by simp [hc]
    have H0 := hid hc
    clear hrl hl1 hks hc
    obtain ⟨a0, a1, a2, a3⟩ := F8.c
    go_wp2_with fail
    refine (implSerials_any _ t nm w6 hS1 hN1 O2.a).mono ?_
    rw [hse]
    rintro e w7 ⟨rfl, hB7⟩
    clear a0 a1 a2 a3
    replace hE := hE.below hB7
    replace ht := ht.on hB7
    replace hBB := below_one hBB hB7
    replace O2 := O2.below hB7
    replace R2 := ownsRow_below R2 hB7
    replace F8 := F8.below hB7
    clear hB7
    obtain ⟨a0, a1, a2, a3⟩ := F8.c
    go_wp2_with fail
    refine (implGoodIssuer_any _ t w7 hS1 hN1 O2.a).mono ?_
    rw [hg]
    rintro e w8 ⟨rfl, hB8⟩
    clear a0 a1 a2 a3
    replace hE := hE.below hB8
    replace ht := ht.on hB8
    replace hBB := below_one hBB hB8
    replace O2 := O2.below hB8
    replace R2 := ownsRow_below R2 hB8
    replace F8 := F8.below hB8
    clear hB8
    have hl1 := HL1.out
    subst hl1
    clear HL1
    obtain ⟨g, hge, hgc⟩ := row_of_one R2
    subst hge
    have hg2' := hgc 2 _ rfl
    rw [HK.out] at hg2'
    clear hgc
    obtain ⟨a0, a1, a2, a3⟩ := F8.c
    have hI := is_rows O2
    have d11 : (s.nx != s.nx) = false := by simp
    go_wp2_with fail
    refine (implCheckToken_any _ _ _ [k] t.sg nw t.rv tq w8 (by simp) hS1.2.2 hS1.2.1 (by omega) hdr (LkS.own R2) hI.2 hI.1 ht).mono ?_
    rw [show ([k] : List Lk).length = 1 from rfl, hc1]
    rintro e w9 ⟨rfl, hB9⟩
    clear a0 a1 a2 a3 hI hg2'
    replace hE := hE.below hB9
    replace ht := ht.on hB9
    replace hBB := below_one hBB hB9
    replace O2 := O2.below hB9
    replace R2 := ownsRow_below R2 hB9
    replace F8 := F8.below hB9
    clear hB9
    obtain ⟨a0, a1, a2, a3⟩ := F8.c
    go_wp2_with fail
    refine (implRevoke_any _ t nm p0 p1 p2 p3 _ _ w9 hS1 hN1 (by omega) hE O2).mono ?_
    rw [hrk]
    rintro e w10 ⟨v5, rfl, O5, hB10⟩
    dsimp only at O5
    clear a0 a1 a2 a3
    replace hE := hE.below hB10
    replace ht := ht.on hB10
    replace hBB := below_one hBB hB10
    replace O2 := O2.below hB10
    replace R2 := ownsRow_below R2 hB10
    replace F8 := F8.below hB10
    clear hB10
    obtain ⟨aw3, cw3, ar3, cr3, ag3, cg3, rfl⟩ := is_forms O5.a
    have hBv : Below w10.heap.size w10 (w10.alloc (.cells #[.slice aw3 t2.ws.length cw3, .int .i64 t2.nx, .slice ar3 t2.rv.length cr3, .slice ag3 t2.sg.length cg3] 27)) := (Below.refl _ w10).alloc (Nat.le_refl _) _
    have F16 := Four.new w10 (.slice aw3 t2.ws.length cw3) (.int .i64 t2.nx) (.slice ar3 t2.rv.length cr3) (.slice ag3 t2.sg.length cg3) 27
    replace hE := hE.below hBv
    replace ht := ht.on hBv
    replace hBB := below_one hBB hBv
    replace O2 := O2.below hBv
    replace R2 := ownsRow_below R2 hBv
    replace F8 := F8.below hBv
    replace O5 := O5.below hBv
    go_upto_region 14 with fail
    generalize w10.alloc (.cells #[.slice aw3 t2.ws.length cw3, .int .i64 t2.nx, .slice ar3 t2.rv.length cr3, .slice ag3 t2.sg.length cg3] 27) = W16 at *
    generalize w10.heap.size = k16 at *
    clear hBv
    obtain ⟨a0, a1, a2, a3⟩ := F8.c
    obtain ⟨b0, b1, b2, b3⟩ := F16.c
    have d14 : wrap64 ((t.rv.length : Int) + 1) = (s.rv.length : Int) + 1 := by rw [HR.out]; unfold wrap64; omega
    go_wp2_with fail
    refine (implGoodIssuer_any _ t2 W16 hS2 hN2 O5.a).mono ?_
    rw [hg2]
    rintro e w11 ⟨rfl, hB11⟩
    clear a0 a1 a2 a3 b0 b1 b2 b3
    replace hE := hE.below hB11
    replace ht := ht.on hB11
    replace hBB := below_one hBB hB11
    replace O2 := O2.below hB11
    replace R2 := ownsRow_below R2 hB11
    replace F8 := F8.below hB11
    replace O5 := O5.below hB11
    replace F16 := F16.below hB11
    clear hB11
    obtain ⟨b0, b1, b2, b3⟩ := F16.c
    have hI := is_rows O5
    go_wp2_with fail
    refine (implCheckToken_any _ _ _ [k] t2.sg nw t2.rv tq w11 (by simp) hS2.2.2 hS2.2.1 (by omega) hdr (LkS.own R2) hI.2 hI.1 ht).mono ?_
    rw [show ([k] : List Lk).length = 1 from rfl, hc2]
    rintro e w12 ⟨rfl, hB12⟩
    clear b0 b1 b2 b3
    replace hBB := below_one hBB hB12
    go_wp2_with fail
    go_ret
    exact ⟨rfl, hBB⟩

end Go.Proofs.YtallpldgkkpikaaGreatDoor

namespace Go.Proofs.YtallpldgkkpikaaGreatDoor
open Go.ChangeShapes Go.WideShapes Go.ChangeAt Go.RowKit

theorem u8_wf {x : Int} (h : (Lit.int .u8 x).wf = true) : ∃ k : Nat, k < 256 ∧ x = k := by
  have e1 : IntKind.u8.min = 0 := by decide
  have e2 : IntKind.u8.max = 255 := by decide
  simp [Lit.wf, e1, e2] at h
  exact ⟨x.toNat, by omega, by omega⟩

set_option maxRecDepth 100000 in
theorem openBy {H : Type} {enc : TypeId × Value → H} {W : World} {base : Nat} {v : Value} {d : DataW H} {p : List MemPlace} (hv : Value.okWide Tryz.prog W .any base 22 v) (h : DataW.Trod enc Tryz.prog W 0 (fun _ => true) true 22 v d p) :
    ∃ a n c, v = .slice a n c ∧ n ≤ c ∧ n ≤ maxLen ∧ (n ≤ 1048576 → ByS W a n) ∧ (∀ q, a = some q → q.block < W.heap.size) ∧ ((d = .nil ∧ n = 0) ∨ ∃ el sp, d = .slice el sp ∧ el.length + sp.length = c) := by
  obtain ⟨a, n, c, rfl⟩ := okWide_slice Tryz.underlying22 hv
  obtain ⟨fuel, hf⟩ := h
  rcases open_ints Tryz.underlying22 Tryz.underlying5 (by kernel_rfl) hf with ⟨hcs, hd⟩ | ⟨x, len, cap, zs, hcs, _, hl, hm, hz, hd, hcell, hwf⟩
  · simp [Value.cells] at hcs
    obtain ⟨rfl, rfl, rfl⟩ := hcs
    exact ⟨none, 0, 0, rfl, Nat.le_refl _, Nat.zero_le _, fun _ => ⟨by omega, fun i hi => by omega⟩, fun q hq => (by cases hq), .inl ⟨by simpa using (Prod.mk.inj hd).1, rfl⟩⟩
  · simp [Value.cells] at hcs
    obtain ⟨rfl, rfl, rfl⟩ := hcs
    have hzs : zs.length = c := hz
    have hhas : W.has Tryz.prog .any base x 5 c := by
      simp only [Value.okWide, Tryz.underlying22, Cell.okWide, Cell.ok] at hv
      exact hv.2.2
    obtain ⟨_, hs, row, cells, hsh, _⟩ := hhas
    obtain ⟨blk, off, spot⟩ := x
    obtain rfl : spot = none := hs
    refine ⟨_, n, c, rfl, hl, by omega, fun hn => ⟨hn, fun i hi => ?_⟩, fun q hq => ?_, .inr ⟨_, _, (Prod.mk.inj hd).1, by simp [lits]; omega⟩⟩
    · have h1 := hcell i (by omega)
      rw [Addr.add_lit] at h1
      obtain ⟨k, hk, hx⟩ := u8_wf (hwf (zs.getD i 0) (by rw [List.getD_eq_getElem?_getD, List.getElem?_eq_getElem (by omega)]; exact List.getElem_mem _))
      rw [hx] at h1
      exact ⟨blk, off, k, rfl, hk, h1⟩
    · cases hq
      by_cases hb : blk < W.heap.size
      · exact hb
      · simp only [World.shape?] at hsh
        rw [Array.getElem?_eq_none (by omega)] at hsh
        cases hsh

set_option maxRecDepth 100000 in
/-- No slice of bytes is longer than the machine's memory. -/
theorem reachBy {H : Type} {ts : List TypeId} {ds : List (DataW H)} {j n c : Nat} {d : DataW H} (h : (DataW.weightsEach Tryz.prog ts ds).all (· ≤ reachBytes) = true) (ht : ts[j]? = some 22) (hd : ds[j]? = some d) (hle : n ≤ c) (hs : (d = .nil ∧ n = 0) ∨ ∃ el sp, d = .slice el sp ∧ el.length + sp.length = c) : n ≤ 140737488351232 := by
  rcases hs with ⟨_, rfl⟩ | ⟨el, sp, rfl, hc⟩
  · omega
  · have h1 := sized_slice h ht hd Tryz.underlying22
    have h2 : Tryz.prog.bytesOf 5 = 1 := by kernel_rfl
    rw [h2] at h1
    unfold reachBytes at h1
    omega

end Go.Proofs.YtallpldgkkpikaaGreatDoor

namespace Go.Proofs.YtallpldgkkpikaaGreatDoor.fnIssued
open Go.ChangeShapes Go.WideShapes Go.ChangeAt Go.RowKit Go.Joins Go.Deep Go.Proofs.YtallpldgkkpikaaGreatDoor
open Go.ChangeMaps (open_string shut_string)

theorem laidOut : laidOutB Tryz.prog = true := by kernel_rfl

set_option maxHeartbeats 400000 in
theorem walk (a : Option Addr) (n c : Nat) (p0 p1 p2 p3 : Addr) (w : World) (hle : n ≤ c) (hm : n ≤ maxLen) (hB : n ≤ 1048576 → ByS w a n) (hap : ∀ p, a = some p → p.block < w.heap.size) (hE : ErA w p0 p1 p2 p3) (ht : Tab w) :
    Calls Tryz.prog 3 #[.slice a n c] w fun e w' => e = .returned (.bool true) ∧ Below w.heap.size w w' := by
  unfold maxLen at hm
  by_cases hs : n ≤ 1048576
  · exact issuedLaw a n c p0 p1 p2 p3 w hle hs (hB hs) hap hE ht
  · have d1 : decide ((n : Int) > 1048576) = true := by simp; omega
    clear hB hap hE ht
    go_enter Tryz.func3, Tryz.ntmps3
    go_wp2
    go_ret
    exact ⟨rfl, Below.refl _ _⟩

set_option maxRecDepth 100000 in
theorem contract (H : Type) (enc : TypeId × Value → H) (W : World) (base : Nat) (args : Array Value) (ds gs : List (DataW H)) (before : List MemPlace)
    (hval : ∀ (j : Nat) t v, Tryz.f3.params[j]? = some t → args[j]? = some v → Value.okWide Tryz.prog W .any base t v)
    (hW : DataW.Whole enc Tryz.prog Tryz.f3.params.toList Rows.fnIssuedSpec.vars false W args.toList ds gs before) (hL : laidMetH Tryz.prog Rows.fnIssuedRow.laid W) :
    Calls Tryz.prog 3 args W fun e W' => ∃ v, e = .returned v ∧ Rows.fnIssuedSpec.post enc Tryz.prog Tryz.f3 false true false false W args v W' := by
  have hW' := hW
  obtain ⟨p, q, hA0, hV, rfl, _, _⟩ := hW
  have hA : DataW.TrodAll enc Tryz.prog W 0 (fun _ => true) true Tryz.f3.params.toList args.toList ds p := hA0
  rw [Tryz.params3] at hA hval
  obtain ⟨v0, vs0, d0, ds0, p0, q0, hargs, rfl, rfl, h0, r0⟩ := trodAll_cons hA
  obtain ⟨rfl, rfl, rfl⟩ := trodAll_nil r0
  obtain rfl : args = #[v0] := by cases args; simp_all
  have hVN : DataW.TrodVars enc Tryz.prog W (fun _ => true) Rows.fnIssuedSpec.vars gs q := hV
  obtain ⟨b0, b1, b2, b3, rfl⟩ : ∃ b0 b1 b2 b3, gs = [b0, b1, b2, b3] := by
    clear hVN hW'
    match gs, hV with
    | [b0, b1, b2, b3], _ => exact ⟨b0, b1, b2, b3, rfl⟩
    | [], h => exact absurd h (by rintro h; exact h)
    | [b0], h => exact absurd h (by rintro ⟨_, _, _, _, _, _, _, _, _, _, h, _⟩; exact h)
    | [b0, b1], h => exact absurd h (by rintro ⟨_, _, _, _, _, _, _, _, _, _, ⟨_, _, _, _, _, _, _, _, _, _, h, _⟩, _⟩; exact h)
    | [b0, b1, b2], h => exact absurd h (by rintro ⟨_, _, _, _, _, _, _, _, _, _, ⟨_, _, _, _, _, _, _, _, _, _, ⟨_, _, _, _, _, _, _, _, _, _, h, _⟩, _⟩, _⟩; exact h)
    | b0 :: b1 :: b2 :: b3 :: _ :: _, h => exact absurd h (by rintro ⟨_, _, _, _, _, _, _, _, _, _, ⟨_, _, _, _, _, _, _, _, _, _, ⟨_, _, _, _, _, _, _, _, _, _, ⟨_, _, _, _, _, _, _, _, _, _, h, _⟩, _⟩, _⟩, _⟩; exact h)
  clear hV
  have k0 := h0
  have lt0 : ∀ x ∈ p0, x.block < W.heap.size := by obtain ⟨m, hm⟩ := k0; exact DataW.trod_lt m _ _ _ hm
  obtain ⟨a0, n0, c0, rfl, w0⟩ := openBy (hval 0 22 v0 rfl rfl) h0
  obtain ⟨⟨e0, e1, e2, e3, hE⟩, hT⟩ := fltT_of hL
  clear hA0
  refine (walk a0 n0 c0 e0 e1 e2 e3 W w0.1 w0.2.1 w0.2.2.1 w0.2.2.2.1 hE hT).mono fun e W' ⟨he, bel⟩ => ?_
  subst he
  exact ⟨_, rfl, _, _, _, [], _, _, hW', trodAll_mk1 (shut_bool Tryz.underlying4 _), (trodAll_cons_mk (Below.trod laidOut (by kernel_rfl) (of_decide_eq_true (by kernel_rfl)) k0 bel lt0) trodAll_mk0), Below.trodVars laidOut bel (by kernel_rfl) hVN, bel.frame _, fun h => by cases h⟩

set_option maxRecDepth 100000 in
theorem lifted (os : Os) (started : os.Started) (H : Type) (enc : TypeId × Value → H) (F : Stop.Interp) :
    ReturnsInHanded {} Tryz.checked os 3 .any ((OpenSpec.ofChange Rows.fnIssuedSpec).preRow enc Tryz.prog Tryz.f3 Rows.fnIssuedRow.domain false Rows.fnIssuedRow.laid) (((OpenSpec.ofChange Rows.fnIssuedSpec).at F).post enc Tryz.prog Tryz.f3 false true false false) := by
  refine returnsInHanded_of_row (C := Tryz.checked) (s := OpenSpec.ofChange Rows.fnIssuedSpec) flt_own started (by kernel_rfl) Tryz.func3
    (witness_row_at (enc := enc) (C := Tryz.checked) false (fltTWorld os) #[.slice none 0 0] (World.layVars_os _ _ _) (by kernel_rfl) (by kernel_rfl) (by kernel_rfl)
      (OpenSpec.preRow_of_B rfl 8 (by kernel_rfl) (by kernel_rfl) (fltT_met os _))) ?_
  intro W base args ds gs before hval hW _ _ _ hL _ _
  exact contract H enc W base args ds gs before hval hW hL

theorem said : Rows.FnIssuedSaid :=
  OpenClaim.holds_of_cond 3 Tryz.f3 rfl rfl rfl rfl rfl rfl rfl ⟨rfl, rfl, rfl, rfl, rfl⟩ rfl rfl rfl rfl rfl (by kernel_rfl) Tryz.func3 (by kernel_rfl)
    (of_decide_eq_true (by kernel_rfl)) (by unfold Func.isWrapper; first | (rw [if_pos (by decide +kernel)]; kernel_rfl) | (rw [if_neg (by decide +kernel)]; exact ⟨rfl, rfl⟩))
    (fun os started H enc _ F => by rw [OpenClaim.pre_eq_preRow]; exact lifted os started H enc F)

theorem plain (f : FuncId) (fn : Func) (hf : Tryz.pinned.checked.prog.funcNamed "loop.example/g00167/laws.FnIssued" = some f) (hfn : Tryz.pinned.checked.prog.funcs[f]? = some fn) :
    Rows.fnIssuedCard.stood.looks = Tryz.pinned.checked.prog.looks [] ∧ ∀ (j : Nat) t, fn.params[j]? = some t → Tryz.pinned.checked.prog.wantsStandIn t = false := by
  obtain rfl : f = 3 := Option.some.inj ((show Tryz.prog.funcNamed "loop.example/g00167/laws.FnIssued" = some 3 by kernel_rfl).symm.trans hf) |>.symm
  obtain rfl : fn = Tryz.f3 := (Option.some.inj (Tryz.func3.symm.trans hfn)).symm
  refine ⟨by kernel_rfl, fun j t ht => ?_⟩
  rw [Tryz.params3] at ht
  have hm := Array.mem_of_getElem? ht
  have hall : ∀ t, t ∈ #[22] → Tryz.prog.wantsStandIn t = false := by
    have h : (#[22] : Array TypeId).all (fun t => Tryz.prog.wantsStandIn t == false) = true := by kernel_rfl
    intro t ht
    have := (Array.all_eq_true_iff_forall_mem).1 h t ht
    simpa using this
  exact hall t hm

theorem card : Rows.FnIssuedCardSaid :=
  Claim7.holds_tied_plain_at .later [] _ _ _ _ said (fun _ h => by cases h) (by kernel_rfl) (fun _ h => by cases h) fnIssued_row_tie rfl ⟨rfl, rfl⟩ (by kernel_rfl) rfl plain (by kernel_rfl)

end Go.Proofs.YtallpldgkkpikaaGreatDoor.fnIssued
namespace Go.Proofs.YtallpldgkkpikaaGreatDoor
theorem fnIssued_holds : Rows.FnIssuedCardSaid := fnIssued.card
#print axioms fnIssued_holds
end Go.Proofs.YtallpldgkkpikaaGreatDoor
