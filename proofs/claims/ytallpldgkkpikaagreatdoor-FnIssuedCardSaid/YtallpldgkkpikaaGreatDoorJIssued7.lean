/-
  Lists of structs of one's own that are marked element by element: what stays as it was.
-/
import Derived.Test.YtallpldgkkpikaaGreatDoorJIssued5
import Derived.Test.YtallpldgkkpikaaGreatDoorJIssued6
import Derived.Deep.RegionHeld3
import Derived.Deep.QuietTactic
import Derived.BigQuiet
import Derived.WalkSmall
import Derived.RangeFuncBox
import Derived.Test.YtallpldgkkpikaaGreatDoorJIssued0
import Derived.Deep.DeepCutAuto
import Derived.Test.YtallpldgkkpikaaGreatDoorJIssued1
namespace Go.Proofs.YtallpldgkkpikaaGreatDoor
open Go.RowKit Go.Shelf

theorem isB_up {s : Is} (h : isB s = true) : upN s.rv = true := by
  unfold isB at h
  simp only [Bool.and_eq_true] at h
  exact h.2.2.2.1

set_option maxHeartbeats 8000000 in
set_option maxRecDepth 100000 in
theorem specRevoke_any (v : Value) (s : Is) (name : ByteArray) (base top : Nat) (w : World) (hs : s.short) (hn : s.named) (hm : name.size ≤ 1048576) (h : IsO w base top v s) :
    Calls Tryz.prog 46 #[v, .string name] w fun e w' => ∃ v', e = .returned (.tuple #[v', .int .i64 (rkX s name).2.1, .int .i64 (rkX s name).2.2]) ∧ IsO w' w.heap.size w'.heap.size v' (rkX s name).1 ∧ Below w.heap.size w w' := by
  obtain ⟨aw, cw, ar, cr, ag, cg, rfl⟩ := is_forms h.a
  have hB0 : Below w.heap.size w ((w.alloc (.cells #[.slice aw s.ws.length cw, .int .i64 s.nx, .slice ar s.rv.length cr, .slice ag s.sg.length cg] 27)).alloc (.cells #[.slice none 0 0, .int .i64 0, .slice none 0 0, .slice none 0 0] 27)) := ((Below.refl _ w).alloc (Nat.le_refl _) _).alloc (by simp) _
  have F1 := (Four.new w (.slice aw s.ws.length cw) (.int .i64 s.nx) (.slice ar s.rv.length cr) (.slice ag s.sg.length cg) 27).below ((Below.refl _ _).alloc (Nat.le_refl _) (.cells #[.slice none 0 0, .int .i64 0, .slice none 0 0, .slice none 0 0] 27))
  have F2 := Four.at (w.alloc (.cells #[.slice aw s.ws.length cw, .int .i64 s.nx, .slice ar s.rv.length cr, .slice ag s.sg.length cg] 27)) (.slice none 0 0) (.int .i64 0) (.slice none 0 0) (.slice none 0 0) 27 (k := w.heap.size + 1) (by simp)
  go_enter Tryz.func46, Tryz.ntmps46
  go_wp2_with fail
  generalize (w.alloc (.cells #[.slice aw s.ws.length cw, .int .i64 s.nx, .slice ar s.rv.length cr, .slice ag s.sg.length cg] 27)).alloc (.cells #[.slice none 0 0, .int .i64 0, .slice none 0 0, .slice none 0 0] 27) = Wz at *
  refine (specGoodIssuer_any _ s _ hs hn (h.a.below hB0)).mono ?_
  rintro e w1 ⟨rfl, hB1⟩
  replace F1 := F1.below hB1
  replace F2 := F2.below hB1
  have hBB := below_one hB0 hB1
  clear hB0 hB1
  obtain ⟨a0, a1, a2, a3⟩ := F1.c
  cases hg : isB s
  · have HR := hid (show rkX s name = (Is.none, 0, 1) by unfold rkX; rw [hg]; rfl)
    obtain ⟨r0, r1, r2, r3⟩ := F2.c
    have f0 := F2.f 0
    have f1 := F2.f 1
    have f2 := F2.f 2
    have f3 := F2.f 3
    have G := (((F2.s0 (.slice none 0 0)).s1 (.int .i64 0)).s2 (.slice none 0 0)).s3 (.slice none 0 0)
    have pB := below_four hBB (k := w.heap.size + 1) (by omega) (.slice none 0 0) (.int .i64 0) (.slice none 0 0) (.slice none 0 0)
    go_wp2_with fail
    clear r0 r1 r2 r3 f0 f1 f2 f3
    generalize (((w1.setCell ⟨w.heap.size + 1, 0, none⟩ (.slice none 0 0)).setCell ⟨w.heap.size + 1, 1, none⟩ (.int .i64 0)).setCell ⟨w.heap.size + 1, 2, none⟩ (.slice none 0 0)).setCell ⟨w.heap.size + 1, 3, none⟩ (.slice none 0 0) = W5 at *
    obtain ⟨d0, d1, d2, d3⟩ := G.c
    exact bodyPost_ret (v := .tuple #[.agg #[(.slice none 0 0), (.int .i64 0), (.slice none 0 0), (.slice none 0 0)], .int .i64 0, .int .i64 1]) (by simp [results, Tryz.results46, go_sem, d0, d1, d2, d3]) rfl ⟨_, by rw [HR.out], by rw [HR.out]; exact none_o _ _ _, pB⟩
  go_wp2_with fail
  refine (specGoodName_any name _ hm).mono ?_
  rintro e w2 ⟨rfl, hB2⟩
  replace F1 := F1.below hB2
  replace F2 := F2.below hB2
  replace hBB := below_one hBB hB2
  clear hB2 a0 a1 a2 a3
  obtain ⟨a0, a1, a2, a3⟩ := F1.c
  cases hg2 : gnB (split name 47)
  · have HR := hid (show rkX s name = (Is.none, 0, 1) by unfold rkX nmOk; rw [hg, hg2]; rfl)
    obtain ⟨r0, r1, r2, r3⟩ := F2.c
    have f0 := F2.f 0
    have f1 := F2.f 1
    have f2 := F2.f 2
    have f3 := F2.f 3
    have G := (((F2.s0 (.slice none 0 0)).s1 (.int .i64 0)).s2 (.slice none 0 0)).s3 (.slice none 0 0)
    have pB := below_four hBB (k := w.heap.size + 1) (by omega) (.slice none 0 0) (.int .i64 0) (.slice none 0 0) (.slice none 0 0)
    go_wp2_with fail
    clear r0 r1 r2 r3 f0 f1 f2 f3
    generalize (((w2.setCell ⟨w.heap.size + 1, 0, none⟩ (.slice none 0 0)).setCell ⟨w.heap.size + 1, 1, none⟩ (.int .i64 0)).setCell ⟨w.heap.size + 1, 2, none⟩ (.slice none 0 0)).setCell ⟨w.heap.size + 1, 3, none⟩ (.slice none 0 0) = W5 at *
    obtain ⟨d0, d1, d2, d3⟩ := G.c
    exact bodyPost_ret (v := .tuple #[.agg #[(.slice none 0 0), (.int .i64 0), (.slice none 0 0), (.slice none 0 0)], .int .i64 0, .int .i64 1]) (by simp [results, Tryz.results46, go_sem, d0, d1, d2, d3]) rfl ⟨_, by rw [HR.out], by rw [HR.out]; exact none_o _ _ _, pB⟩
  have hlen := (isB_hd hg).1
  have hup := isB_up hg
  have HX := hid (fun hl h => rk_at (n := name) hg (show nmOk name = true from hg2) hl h)
  have HN := hid (fun hl => (show rkX s name = (s, (s.rv.length : Int), 3) by unfold rkX nmOk; rw [hg, hg2, if_neg (by decide), if_pos hl]))
  clear hg hg2
  go_wp2_with fail
  refine (l4Own_any _ s base top _ hs (h.below hBB)).mono ?_
  rintro e w3 ⟨v3, rfl, ⟨vw, vr, vs, rfl, o1, o2, o3, _, _, _⟩, hB3, ⟨sa, sm, sc, sb, sd, sf, sg, se, hse⟩⟩
  obtain ⟨x1, y1, z1, rfl⟩ := row_slice o1
  have HSM := hid (show x1 ≠ none from fun e => by injection hse with hse; have := congrArg (fun a => a[0]?) hse; simp at this; rw [e] at this; simp at this)
  have HSM2 := hid (show ∀ (x : Option Addr) (y z : Nat), vr = .slice x y z → x ≠ none from fun x y z hv e => by subst hv e; injection hse with hse; have := congrArg (fun a => a[2]?) hse; simp at this)
  clear hse
  obtain ⟨x2, y2, z2, rfl⟩ := row_slice o2
  replace HSM2 := hid (HSM2.out x2 y2 z2 rfl)
  obtain ⟨x3, y3, z3, rfl⟩ := row_slice o3
  obtain rfl : y1 = s.ws.length := row_len o1
  obtain rfl : y2 = s.rv.length := row_len o2
  have hk1 : w.heap.size + 1 < w2.heap.size := F2.lt
  have hk2 : w2.heap.size ≤ w3.heap.size := hB3.size
  replace F1 := F1.below hB3
  replace F2 := F2.below hB3
  replace hBB := below_one hBB hB3
  clear hB3 a0 a1 a2 a3
  obtain ⟨a0, a1, a2, a3⟩ := F1.c
  have f0 := F1.f 0
  have f1 := F1.f 1
  have f2 := F1.f 2
  have f3 := F1.f 3
  have G1 := (((F1.s0 (.slice x1 s.ws.length z1)).s1 (.int .i64 s.nx)).s2 (.slice x2 s.rv.length z2)).s3 (.slice x3 y3 z3)
  have G2 := (((F2.other (k' := w.heap.size) (by omega) 0 (.slice x1 s.ws.length z1)).other (k' := w.heap.size) (by omega) 1 (.int .i64 s.nx)).other (k' := w.heap.size) (by omega) 2 (.slice x2 s.rv.length z2)).other (k' := w.heap.size) (by omega) 3 (.slice x3 y3 z3)
  have q1 := row_four o1 (k := w.heap.size) (by omega) (.slice x1 s.ws.length z1) (.int .i64 s.nx) (.slice x2 s.rv.length z2) (.slice x3 y3 z3)
  have q2 := row_four o2 (k := w.heap.size) (by omega) (.slice x1 s.ws.length z1) (.int .i64 s.nx) (.slice x2 s.rv.length z2) (.slice x3 y3 z3)
  have q3 := row_four o3 (k := w.heap.size) (by omega) (.slice x1 s.ws.length z1) (.int .i64 s.nx) (.slice x2 s.rv.length z2) (.slice x3 y3 z3)
  have hB4 := below_four hBB (k := w.heap.size) (Nat.le_refl _) (.slice x1 s.ws.length z1) (.int .i64 s.nx) (.slice x2 s.rv.length z2) (.slice x3 y3 z3)
  have hk5 : w2.heap.size ≤ ((((w3.setCell ⟨w.heap.size, 0, none⟩ (.slice x1 s.ws.length z1)).setCell ⟨w.heap.size, 1, none⟩ (.int .i64 s.nx)).setCell ⟨w.heap.size, 2, none⟩ (.slice x2 s.rv.length z2)).setCell ⟨w.heap.size, 3, none⟩ (.slice x3 y3 z3)).heap.size := by simp; exact hk2
  clear F1 F2 o1 o2 o3 hBB
  obtain ⟨n0, n1, n2, n3⟩ := G1.c
  go_wp2_with fail
  clear a0 a1 a2 a3 f0 f1 f2 f3 n0 n1 n2 n3
  generalize (((w3.setCell ⟨w.heap.size, 0, none⟩ (.slice x1 s.ws.length z1)).setCell ⟨w.heap.size, 1, none⟩ (.int .i64 s.nx)).setCell ⟨w.heap.size, 2, none⟩ (.slice x2 s.rv.length z2)).setCell ⟨w.heap.size, 3, none⟩ (.slice x3 y3 z3) = W3 at *
  refine (l4At_any _ s name _ hs.1 (IsO.of q1 q2 q3).a).mono ?_
  rintro e w4 ⟨rfl, hB5⟩
  have F1 := G1.below hB5
  have F2 := G2.below hB5
  have o1 := ownsRow_below q1 hB5
  have o2 := ownsRow_below q2 hB5
  have o3 := ownsRow_below q3 hB5
  have hBB := below_one hB4 hB5
  have hB5s := hB5.size
  clear G1 G2 q1 q2 q3 hB4 hB5
  have hle := atW_le s.ws name
  have hk4 : w2.heap.size ≤ w4.heap.size := Nat.le_trans hk5 hB5s
  cases hh : hasW s.ws name
  · have HR := hid (HN.out (livW_no hh))
    clear HX HN hup
    generalize atW s.ws name = n at *
    obtain ⟨a0, a1, a2, a3⟩ := F1.c
    go_wp2_with fail
    clear a0 a1 a2 a3
    have hBd : Below (w4).heap.size (w4) (w4).drew := (Below.refl _ _).drew
    have hkn : w.heap.size ≠ w.heap.size + 1 := by omega
    obtain ⟨c0, c1, c2, c3⟩ := F1.c
    replace F1 := F1.below hBd
    replace F2 := F2.below hBd
    replace o1 := ownsRow_below o1 hBd
    replace o2 := ownsRow_below o2 hBd
    replace o3 := ownsRow_below o3 hBd
    replace hBB := below_one hBB hBd
    clear hBd
    obtain ⟨r0, r1, r2, r3⟩ := F2.c
    have f0 := F2.f 0
    have f1 := F2.f 1
    have f2 := F2.f 2
    have f3 := F2.f 3
    refine wp_region_held_drew (S := fun w' => w'.cell? ⟨w.heap.size, 0, none⟩ = some (.slice x1 s.ws.length z1) ∧ w'.cell? ⟨w.heap.size, 1, none⟩ = some (.int .i64 s.nx) ∧ w'.cell? ⟨w.heap.size, 2, none⟩ = some (.slice x2 s.rv.length z2) ∧ w'.cell? ⟨w.heap.size, 3, none⟩ = some (.slice x3 y3 z3)) (by kernel_rfl) ?_ (fun hHeld => ?_)
    · first | go_keep | exact ((((F1.other hkn 0 _).other hkn 1 _).other hkn 2 _).other hkn 3 _).c
    generalize (w4).drew = Wd at *
    refine takeW 0 (v := ?v1) rfl (by kernel_rfl) (by kernel_rfl) (by kernel_rfl) (fun _ _ _ h => h) (by rfl) (by assumption) ?hy1 ?rest1
    case hy1 => intro w' hSw; (try dsimp only at hSw); go_simp; try with_reducible rfl
    try simp only [Act.put, List.setIfInBounds_toArray, List.set_cons_zero, List.set_cons_succ]
    refine takeW 1 (v := ?v2) rfl (by kernel_rfl) (by kernel_rfl) (by kernel_rfl) (fun _ _ _ h => h) (by rfl) (by assumption) ?hy2 ?rest2
    case hy2 => intro w' hSw; (try dsimp only at hSw); go_simp; try with_reducible rfl
    try simp only [Act.put, List.setIfInBounds_toArray, List.set_cons_zero, List.set_cons_succ]
    refine takeW 2 (v := ?v3) rfl (by kernel_rfl) (by kernel_rfl) (by kernel_rfl) (fun _ _ _ h => h) (by rfl) (by assumption) ?hy3 ?rest3
    case hy3 => intro w' hSw; (try dsimp only at hSw); go_simp; try with_reducible rfl
    try simp only [Act.put, List.setIfInBounds_toArray, List.set_cons_zero, List.set_cons_succ]
    refine takeW 3 (v := ?v4) rfl (by kernel_rfl) (by kernel_rfl) (by kernel_rfl) (fun _ _ _ h => h) (by rfl) (by assumption) ?hy4 ?rest4
    case hy4 => intro w' hSw; (try dsimp only at hSw); go_simp; try with_reducible rfl
    try simp only [Act.put, List.setIfInBounds_toArray, List.set_cons_zero, List.set_cons_succ]
    refine takeC 4 (by kernel_rfl) rfl (fun K hK => ?_)
    go_simp
    skip
    refine hK.out _ _ ?_ (fun hHeld => ?_)
    · first | go_keep | exact ((((F1.other hkn 0 _).other hkn 1 _).other hkn 2 _).other hkn 3 _).c
    clear hK K
    try simp only [Act.put, List.setIfInBounds_toArray, List.set_cons_zero, List.set_cons_succ]
    refine takeW 5 (v := ?v5) rfl (by kernel_rfl) (by kernel_rfl) (by kernel_rfl) (fun _ _ _ h => h) (by rfl) (by assumption) ?hy5 ?rest5
    case hy5 => intro w' hSw; (try dsimp only at hSw); go_simp; try with_reducible rfl
    try simp only [Act.put, List.setIfInBounds_toArray, List.set_cons_zero, List.set_cons_succ]
    refine takeW 6 (v := ?v6) rfl (by kernel_rfl) (by kernel_rfl) (by kernel_rfl) (fun _ _ _ h => h) (by rfl) (by assumption) ?hy6 ?rest6
    case hy6 => intro w' hSw; (try dsimp only at hSw); go_simp; try with_reducible rfl
    try simp only [Act.put, List.setIfInBounds_toArray, List.set_cons_zero, List.set_cons_succ]
    refine wpAnyH_done (by kernel_rfl) ?_ _
    have G := (((F2.s0 (.slice x1 s.ws.length z1)).s1 (.int .i64 s.nx)).s2 (.slice x2 s.rv.length z2)).s3 (.slice x3 y3 z3)
    have pB := below_four hBB (k := w.heap.size + 1) (by omega) (.slice x1 s.ws.length z1) (.int .i64 s.nx) (.slice x2 s.rv.length z2) (.slice x3 y3 z3)
    have q1 := row_four o1 (k := w.heap.size + 1) (by omega) (.slice x1 s.ws.length z1) (.int .i64 s.nx) (.slice x2 s.rv.length z2) (.slice x3 y3 z3)
    have q2 := row_four o2 (k := w.heap.size + 1) (by omega) (.slice x1 s.ws.length z1) (.int .i64 s.nx) (.slice x2 s.rv.length z2) (.slice x3 y3 z3)
    have q3 := row_four o3 (k := w.heap.size + 1) (by omega) (.slice x1 s.ws.length z1) (.int .i64 s.nx) (.slice x2 s.rv.length z2) (.slice x3 y3 z3)
    go_wp2_with fail
    clear r0 r1 r2 r3 f0 f1 f2 f3 c0 c1 c2 c3 hHeld
    generalize (((Wd.setCell ⟨w.heap.size + 1, 0, none⟩ (.slice x1 s.ws.length z1)).setCell ⟨w.heap.size + 1, 1, none⟩ (.int .i64 s.nx)).setCell ⟨w.heap.size + 1, 2, none⟩ (.slice x2 s.rv.length z2)).setCell ⟨w.heap.size + 1, 3, none⟩ (.slice x3 y3 z3) = W5 at *
    obtain ⟨d0, d1, d2, d3⟩ := G.c
    exact bodyPost_ret (v := .tuple #[.agg #[(.slice x1 s.ws.length z1), (.int .i64 s.nx), (.slice x2 s.rv.length z2), (.slice x3 y3 z3)], .int .i64 (s.rv.length : Int), .int .i64 3]) (by simp [results, Tryz.results46, go_sem, d0, d1, d2, d3]) rfl ⟨_, by rw [HR.out], by rw [HR.out]; exact IsO.of (s := s) (Go.Joins.ownsRow_le q1 (by omega)) (Go.Joins.ownsRow_le q2 (by omega)) (Go.Joins.ownsRow_le q3 (by omega)), pB⟩
  · have hlt := hasW_lt hh
    obtain ⟨g5, hg5⟩ : ∃ g, x1 = some ⟨g, 0, none⟩ := by
      rcases row_form o1 with ⟨_, h0⟩ | ⟨g, z, hv, _, _⟩
      · omega
      · injection hv with hv _ _
        exact ⟨g, hv⟩
    subst hg5
    have HLV := hid (show livW s.ws name = s.ws[atW s.ws name].live by rw [livW_at hlt, hh]; rfl)
    have hl5 := o1.1
    have hin : ((atW s.ws name : Nat) : Int) < (s.ws.length : Int) := by omega
    have hcell := wflat_at s.ws (atW s.ws name) 1 hlt (by omega)
    have s1 := (o1.cellAt (atW s.ws name * 3 + 1) (by omega)).trans hcell
    simp only [List.getElem?_cons_succ, List.getElem?_cons_zero] at s1
    clear hcell
    cases hli : s.ws[atW s.ws name].live
    · rw [hli] at s1
      have HR := hid (HN.out (HLV.out.trans hli))
      clear HLV hli HX HN hup
      generalize atW s.ws name = n at *
      obtain ⟨a0, a1, a2, a3⟩ := F1.c
      go_wp2_with fail
      clear a0 a1 a2 a3 s1
      have hBd : Below (w4).heap.size (w4) (w4).drew := (Below.refl _ _).drew
      have hkn : w.heap.size ≠ w.heap.size + 1 := by omega
      obtain ⟨c0, c1, c2, c3⟩ := F1.c
      replace F1 := F1.below hBd
      replace F2 := F2.below hBd
      replace o1 := ownsRow_below o1 hBd
      replace o2 := ownsRow_below o2 hBd
      replace o3 := ownsRow_below o3 hBd
      replace hBB := below_one hBB hBd
      clear hBd
      obtain ⟨r0, r1, r2, r3⟩ := F2.c
      have f0 := F2.f 0
      have f1 := F2.f 1
      have f2 := F2.f 2
      have f3 := F2.f 3
      refine wp_region_held_drew (S := fun w' => w'.cell? ⟨w.heap.size, 0, none⟩ = some (.slice (some ⟨g5, 0, none⟩) s.ws.length z1) ∧ w'.cell? ⟨w.heap.size, 1, none⟩ = some (.int .i64 s.nx) ∧ w'.cell? ⟨w.heap.size, 2, none⟩ = some (.slice x2 s.rv.length z2) ∧ w'.cell? ⟨w.heap.size, 3, none⟩ = some (.slice x3 y3 z3)) (by kernel_rfl) ?_ (fun hHeld => ?_)
      · first | go_keep | exact ((((F1.other hkn 0 _).other hkn 1 _).other hkn 2 _).other hkn 3 _).c
      generalize (w4).drew = Wd at *
      refine takeW 0 (v := ?v7) rfl (by kernel_rfl) (by kernel_rfl) (by kernel_rfl) (fun _ _ _ h => h) (by rfl) (by assumption) ?hy7 ?rest7
      case hy7 => intro w' hSw; (try dsimp only at hSw); go_simp; try with_reducible rfl
      try simp only [Act.put, List.setIfInBounds_toArray, List.set_cons_zero, List.set_cons_succ]
      refine takeW 1 (v := ?v8) rfl (by kernel_rfl) (by kernel_rfl) (by kernel_rfl) (fun _ _ _ h => h) (by rfl) (by assumption) ?hy8 ?rest8
      case hy8 => intro w' hSw; (try dsimp only at hSw); go_simp; try with_reducible rfl
      try simp only [Act.put, List.setIfInBounds_toArray, List.set_cons_zero, List.set_cons_succ]
      refine takeW 2 (v := ?v9) rfl (by kernel_rfl) (by kernel_rfl) (by kernel_rfl) (fun _ _ _ h => h) (by rfl) (by assumption) ?hy9 ?rest9
      case hy9 => intro w' hSw; (try dsimp only at hSw); go_simp; try with_reducible rfl
      try simp only [Act.put, List.setIfInBounds_toArray, List.set_cons_zero, List.set_cons_succ]
      refine takeW 3 (v := ?v10) rfl (by kernel_rfl) (by kernel_rfl) (by kernel_rfl) (fun _ _ _ h => h) (by rfl) (by assumption) ?hy10 ?rest10
      case hy10 => intro w' hSw; (try dsimp only at hSw); go_simp; try with_reducible rfl
      try simp only [Act.put, List.setIfInBounds_toArray, List.set_cons_zero, List.set_cons_succ]
      refine takeC 4 (by kernel_rfl) rfl (fun K hK => ?_)
      go_simp
      skip
      refine hK.out _ _ ?_ (fun hHeld => ?_)
      · first | go_keep | exact ((((F1.other hkn 0 _).other hkn 1 _).other hkn 2 _).other hkn 3 _).c
      clear hK K
      try simp only [Act.put, List.setIfInBounds_toArray, List.set_cons_zero, List.set_cons_succ]
      refine takeW 5 (v := ?v11) rfl (by kernel_rfl) (by kernel_rfl) (by kernel_rfl) (fun _ _ _ h => h) (by rfl) (by assumption) ?hy11 ?rest11
      case hy11 => intro w' hSw; (try dsimp only at hSw); go_simp; try with_reducible rfl
      try simp only [Act.put, List.setIfInBounds_toArray, List.set_cons_zero, List.set_cons_succ]
      refine takeW 6 (v := ?v12) rfl (by kernel_rfl) (by kernel_rfl) (by kernel_rfl) (fun _ _ _ h => h) (by rfl) (by assumption) ?hy12 ?rest12
      case hy12 => intro w' hSw; (try dsimp only at hSw); go_simp; try with_reducible rfl
      try simp only [Act.put, List.setIfInBounds_toArray, List.set_cons_zero, List.set_cons_succ]
      refine wpAnyH_done (by kernel_rfl) ?_ _
      have G := (((F2.s0 (.slice (some ⟨g5, 0, none⟩) s.ws.length z1)).s1 (.int .i64 s.nx)).s2 (.slice x2 s.rv.length z2)).s3 (.slice x3 y3 z3)
      have pB := below_four hBB (k := w.heap.size + 1) (by omega) (.slice (some ⟨g5, 0, none⟩) s.ws.length z1) (.int .i64 s.nx) (.slice x2 s.rv.length z2) (.slice x3 y3 z3)
      have q1 := row_four o1 (k := w.heap.size + 1) (by omega) (.slice (some ⟨g5, 0, none⟩) s.ws.length z1) (.int .i64 s.nx) (.slice x2 s.rv.length z2) (.slice x3 y3 z3)
      have q2 := row_four o2 (k := w.heap.size + 1) (by omega) (.slice (some ⟨g5, 0, none⟩) s.ws.length z1) (.int .i64 s.nx) (.slice x2 s.rv.length z2) (.slice x3 y3 z3)
      have q3 := row_four o3 (k := w.heap.size + 1) (by omega) (.slice (some ⟨g5, 0, none⟩) s.ws.length z1) (.int .i64 s.nx) (.slice x2 s.rv.length z2) (.slice x3 y3 z3)
      go_wp2_with fail
      clear r0 r1 r2 r3 f0 f1 f2 f3 c0 c1 c2 c3 hHeld
      generalize (((Wd.setCell ⟨w.heap.size + 1, 0, none⟩ (.slice (some ⟨g5, 0, none⟩) s.ws.length z1)).setCell ⟨w.heap.size + 1, 1, none⟩ (.int .i64 s.nx)).setCell ⟨w.heap.size + 1, 2, none⟩ (.slice x2 s.rv.length z2)).setCell ⟨w.heap.size + 1, 3, none⟩ (.slice x3 y3 z3) = W5 at *
      obtain ⟨d0, d1, d2, d3⟩ := G.c
      exact bodyPost_ret (v := .tuple #[.agg #[(.slice (some ⟨g5, 0, none⟩) s.ws.length z1), (.int .i64 s.nx), (.slice x2 s.rv.length z2), (.slice x3 y3 z3)], .int .i64 (s.rv.length : Int), .int .i64 3]) (by simp [results, Tryz.results46, go_sem, d0, d1, d2, d3]) rfl ⟨_, by rw [HR.out], by rw [HR.out]; exact IsO.of (s := s) (Go.Joins.ownsRow_le q1 (by omega)) (Go.Joins.ownsRow_le q2 (by omega)) (Go.Joins.ownsRow_le q3 (by omega)), pB⟩
    · rw [hli] at s1
      replace HX := hid (HX.out (HLV.out.trans hli) hlt)
      clear HLV hli HN
      have hd1 : w.heap.size ≠ g5 := fun e => row_apart F1 o1 (by decide) w.heap.size rfl (by rw [e]; rfl)
      have hd2 : g5 ≠ w.heap.size := fun e => hd1 e.symm
      have hd3 : w.heap.size + 1 ≠ g5 := fun e => row_apart F2 o1 (by decide) (w.heap.size + 1) rfl (by rw [e]; rfl)
      have hd4 : g5 ≠ w.heap.size + 1 := fun e => hd3 e.symm
      have HW := hid (wflat_live s.ws (atW s.ws name) hlt)
      have hcell := wflat_at s.ws (atW s.ws name) 2 hlt (by omega)
      simp only [List.getElem?_cons_succ, List.getElem?_cons_zero] at hcell
      obtain ⟨ze, HZ⟩ : ∃ z, Hid (z = s.ws[atW s.ws name].se) := ⟨_, hid rfl⟩
      obtain ⟨ne, HNE⟩ : ∃ z, Hid (z = s.ws[atW s.ws name].name) := ⟨_, hid rfl⟩
      rw [← HZ.out] at hcell
      have HX2 := hid (show rkX s name = (⟨s.ws.set (atW s.ws name) ⟨ne, false, ze⟩, s.nx, rvN s.rv ze, s.sg⟩, ((rvN s.rv ze).length : Int), 0) by rw [HX.out, HZ.out, HNE.out])
      replace HW := hid (show (s.ws.flatMap Wk.cells).set (atW s.ws name * 3 + 1) (.bool false) = (s.ws.set (atW s.ws name) ⟨ne, false, ze⟩).flatMap Wk.cells by rw [HW.out, HZ.out, HNE.out])
      clear HX HZ HNE
      generalize atW s.ws name = n at *
      have s2 := (o1.cellAt (n * 3 + 2) (by omega)).trans hcell
      have t1 := o1.frozenAt (n * 3 + 1)
      have Q1 := o1.stored (n * 3 + 1) (.bool false)
      have hG := Q1.2
      have e2 := (Q1.1.cellAt (n * 3 + 2) (by omega)).trans ((List.getElem?_set_ne (by omega)).trans hcell)
      obtain ⟨a0, a1, a2, a3⟩ := F1.c
      replace F1 : Four (w4.setCell ⟨g5, n * 3 + 1, none⟩ (.bool false)) _ _ _ _ _ _ := World.ownsRow.kept F1 hG (.inr (by simp [Value.ownBlock]; exact hd1))
      replace F2 : Four (w4.setCell ⟨g5, n * 3 + 1, none⟩ (.bool false)) _ _ _ _ _ _ := World.ownsRow.kept F2 hG (.inr (by simp [Value.ownBlock]; exact hd3))
      replace o2 := kept_apart (v2 := .slice (some ⟨g5, 0, none⟩) s.ws.length z1) o2 hG (row_apart o2 o1 (by decide))
      replace o3 := kept_apart (v2 := .slice (some ⟨g5, 0, none⟩) s.ws.length z1) o3 hG (row_apart o3 o1 (by decide))
      have hB6 := hBB.grown hG hBB.size (fun k e => by simp at e; have := (o1.lt g5 rfl).1; omega)
      have o6 := Q1.1
      rw [HW.out] at o6
      have HL := hid (show s.ws.length = (s.ws.set n ⟨ne, false, ze⟩).length by simp)
      clear Q1 hG hBB o1 hcell
      have o1 := o6
      have hBB := hB6
      clear o6 hB6
      have hk6 : w2.heap.size ≤ ((w4.setCell ⟨g5, n * 3 + 1, none⟩ (.bool false))).heap.size := by simp; exact hk4
      obtain ⟨b0, b1, b2, b3⟩ := F1.c
      cases hz0 : (ze != 0)
      · have HR := hid (show rkX s name = (⟨s.ws.set n ⟨ne, false, ze⟩, s.nx, s.rv, s.sg⟩, (s.rv.length : Int), 0) by rw [HX2.out]; unfold rvN; rw [hz0]; rfl)
        clear HX2 hup
        go_wp2_with fail
        clear a0 a1 a2 a3 b0 b1 b2 b3 s1 s2 t1 e2
        generalize (w4.setCell ⟨g5, n * 3 + 1, none⟩ (.bool false)) = W4 at *
        have hBd : Below (W4).heap.size (W4) (W4).drew := (Below.refl _ _).drew
        have hkn : w.heap.size ≠ w.heap.size + 1 := by omega
        obtain ⟨c0, c1, c2, c3⟩ := F1.c
        replace F1 := F1.below hBd
        replace F2 := F2.below hBd
        replace o1 := ownsRow_below o1 hBd
        replace o2 := ownsRow_below o2 hBd
        replace o3 := ownsRow_below o3 hBd
        replace hBB := below_one hBB hBd
        clear hBd
        obtain ⟨r0, r1, r2, r3⟩ := F2.c
        have f0 := F2.f 0
        have f1 := F2.f 1
        have f2 := F2.f 2
        have f3 := F2.f 3
        refine wp_region_held_drew (S := fun w' => w'.cell? ⟨w.heap.size, 0, none⟩ = some (.slice (some ⟨g5, 0, none⟩) s.ws.length z1) ∧ w'.cell? ⟨w.heap.size, 1, none⟩ = some (.int .i64 s.nx) ∧ w'.cell? ⟨w.heap.size, 2, none⟩ = some (.slice x2 s.rv.length z2) ∧ w'.cell? ⟨w.heap.size, 3, none⟩ = some (.slice x3 y3 z3)) (by kernel_rfl) ?_ (fun hHeld => ?_)
        · first | go_keep | exact ((((F1.other hkn 0 _).other hkn 1 _).other hkn 2 _).other hkn 3 _).c
        generalize (W4).drew = Wd at *
        refine takeW 0 (v := ?v13) rfl (by kernel_rfl) (by kernel_rfl) (by kernel_rfl) (fun _ _ _ h => h) (by rfl) (by assumption) ?hy13 ?rest13
        case hy13 => intro w' hSw; (try dsimp only at hSw); go_simp; try with_reducible rfl
        try simp only [Act.put, List.setIfInBounds_toArray, List.set_cons_zero, List.set_cons_succ]
        refine takeW 1 (v := ?v14) rfl (by kernel_rfl) (by kernel_rfl) (by kernel_rfl) (fun _ _ _ h => h) (by rfl) (by assumption) ?hy14 ?rest14
        case hy14 => intro w' hSw; (try dsimp only at hSw); go_simp; try with_reducible rfl
        try simp only [Act.put, List.setIfInBounds_toArray, List.set_cons_zero, List.set_cons_succ]
        refine takeW 2 (v := ?v15) rfl (by kernel_rfl) (by kernel_rfl) (by kernel_rfl) (fun _ _ _ h => h) (by rfl) (by assumption) ?hy15 ?rest15
        case hy15 => intro w' hSw; (try dsimp only at hSw); go_simp; try with_reducible rfl
        try simp only [Act.put, List.setIfInBounds_toArray, List.set_cons_zero, List.set_cons_succ]
        refine takeW 3 (v := ?v16) rfl (by kernel_rfl) (by kernel_rfl) (by kernel_rfl) (fun _ _ _ h => h) (by rfl) (by assumption) ?hy16 ?rest16
        case hy16 => intro w' hSw; (try dsimp only at hSw); go_simp; try with_reducible rfl
        try simp only [Act.put, List.setIfInBounds_toArray, List.set_cons_zero, List.set_cons_succ]
        refine takeC 4 (by kernel_rfl) rfl (fun K hK => ?_)
        go_simp
        skip
        refine hK.out _ _ ?_ (fun hHeld => ?_)
        · first | go_keep | exact ((((F1.other hkn 0 _).other hkn 1 _).other hkn 2 _).other hkn 3 _).c
        clear hK K
        try simp only [Act.put, List.setIfInBounds_toArray, List.set_cons_zero, List.set_cons_succ]
        refine takeW 5 (v := ?v17) rfl (by kernel_rfl) (by kernel_rfl) (by kernel_rfl) (fun _ _ _ h => h) (by rfl) (by assumption) ?hy17 ?rest17
        case hy17 => intro w' hSw; (try dsimp only at hSw); go_simp; try with_reducible rfl
        try simp only [Act.put, List.setIfInBounds_toArray, List.set_cons_zero, List.set_cons_succ]
        refine takeW 6 (v := ?v18) rfl (by kernel_rfl) (by kernel_rfl) (by kernel_rfl) (fun _ _ _ h => h) (by rfl) (by assumption) ?hy18 ?rest18
        case hy18 => intro w' hSw; (try dsimp only at hSw); go_simp; try with_reducible rfl
        try simp only [Act.put, List.setIfInBounds_toArray, List.set_cons_zero, List.set_cons_succ]
        refine wpAnyH_done (by kernel_rfl) ?_ _
        have G := (((F2.s0 (.slice (some ⟨g5, 0, none⟩) s.ws.length z1)).s1 (.int .i64 s.nx)).s2 (.slice x2 s.rv.length z2)).s3 (.slice x3 y3 z3)
        have pB := below_four hBB (k := w.heap.size + 1) (by omega) (.slice (some ⟨g5, 0, none⟩) s.ws.length z1) (.int .i64 s.nx) (.slice x2 s.rv.length z2) (.slice x3 y3 z3)
        have q1 := row_four o1 (k := w.heap.size + 1) (by omega) (.slice (some ⟨g5, 0, none⟩) s.ws.length z1) (.int .i64 s.nx) (.slice x2 s.rv.length z2) (.slice x3 y3 z3)
        have q2 := row_four o2 (k := w.heap.size + 1) (by omega) (.slice (some ⟨g5, 0, none⟩) s.ws.length z1) (.int .i64 s.nx) (.slice x2 s.rv.length z2) (.slice x3 y3 z3)
        have q3 := row_four o3 (k := w.heap.size + 1) (by omega) (.slice (some ⟨g5, 0, none⟩) s.ws.length z1) (.int .i64 s.nx) (.slice x2 s.rv.length z2) (.slice x3 y3 z3)
        go_wp2_with fail
        clear r0 r1 r2 r3 f0 f1 f2 f3 c0 c1 c2 c3 hHeld
        generalize (((Wd.setCell ⟨w.heap.size + 1, 0, none⟩ (.slice (some ⟨g5, 0, none⟩) s.ws.length z1)).setCell ⟨w.heap.size + 1, 1, none⟩ (.int .i64 s.nx)).setCell ⟨w.heap.size + 1, 2, none⟩ (.slice x2 s.rv.length z2)).setCell ⟨w.heap.size + 1, 3, none⟩ (.slice x3 y3 z3) = W5 at *
        obtain ⟨d0, d1, d2, d3⟩ := G.c
        exact bodyPost_ret (v := .tuple #[.agg #[(.slice (some ⟨g5, 0, none⟩) s.ws.length z1), (.int .i64 s.nx), (.slice x2 s.rv.length z2), (.slice x3 y3 z3)], .int .i64 (s.rv.length : Int), .int .i64 0]) (by simp [results, Tryz.results46, go_sem, d0, d1, d2, d3]) rfl ⟨_, by rw [HR.out], by rw [HR.out]; exact IsO.of (s := ⟨s.ws.set n ⟨ne, false, ze⟩, s.nx, s.rv, s.sg⟩) (Go.Joins.ownsRow_le (row_cast q1 HL.out) (by omega)) (Go.Joins.ownsRow_le q2 (by omega)) (Go.Joins.ownsRow_le q3 (by omega)), pB⟩
      · go_wp2_with fail
        clear a0 a1 a2 a3 b0 b1 b2 b3 s1 s2 t1 e2
        generalize (w4.setCell ⟨g5, n * 3 + 1, none⟩ (.bool false)) = W4 at *
        refine (l1Has_any _ s.rv ze _ (by have := hs.2.1; omega) (VS.ownN o2)).mono ?_
        rintro e w5 ⟨rfl, rfl⟩
        rw [isI_hasN hup]
        clear hup
        cases hz1 : hasN s.rv ze
        · have HR0 := hid (show rkX s name = (⟨s.ws.set n ⟨ne, false, ze⟩, s.nx, s.rv.take (atN s.rv ze) ++ ze :: s.rv.drop (atN s.rv ze), s.sg⟩, ((s.rv.take (atN s.rv ze) ++ ze :: s.rv.drop (atN s.rv ze)).length : Int), 0) by rw [HX2.out]; unfold rvN insN; rw [hz0, hz1]; rfl)
          clear HX2 hz1
          obtain ⟨x7, hx7⟩ : ∃ g, x2 = some ⟨g, 0, none⟩ := by
            rcases row_form o2 with ⟨hv, _⟩ | ⟨g, z, hv, _, _⟩
            · injection hv with hv _ _
              exact absurd hv HSM2.out
            · injection hv with hv _ _
              exact ⟨g, hv⟩
          subst hx7
          obtain ⟨a0, a1, a2, a3⟩ := F1.c
          have hle := atN_le s.rv ze
          have hl2 := hs.2.1
          have hrl : (nums s.rv).length = s.rv.length := by simp [nums]
          have hzc : s.rv.length ≤ z2 := by
            rcases row_form o2 with ⟨hv, _⟩ | ⟨g, z, hv, _, hz⟩
            · simp at hv
            · simp at hv
              omega
          go_wp2_with fail
          go_loopw [10] (fun i wr => ∃ k : Nat, k ≤ atN s.rv ze ∧ i = .int .i64 k ∧ wr = w5) (fun i _ => s.rv.length - (intOf i).toNat)
          case atStart => exact ⟨0, Nat.zero_le _, rfl, rfl⟩
          case round =>
            obtain ⟨m, hm0, rfl, rfl⟩ := hrel
            by_cases hlm : m < s.rv.length
            · have q0 := o2.cellAt m (by omega)
              rw [show (nums s.rv)[m]? = some (.int .i64 s.rv[m]) by simp [nums, hlm]] at q0
              have HL1 := hid (fun h => atN_lt (n := ze) hlm h)
              have HA1 := hid (fun h => atN_at (n := ze) hlm h)
              generalize s.rv[m] = kk at *
              by_cases hna : m < atN s.rv ze
              · have hc : decide (kk < ze) = true := by have := HL1.out hna; simp; omega
                go_wp2_with fail
                go_roundw
                case rel => exact ⟨m + 1, by omega, by go_num, by trivial⟩
                case measure => simp [intOf]; omega
              · have hne : m = atN s.rv ze := by omega
                have hc : decide (kk < ze) = false := by have := HA1.out hne; simp; omega
                rw [← hne] at HR0
                clear HL1 HA1 hna hm0 hle
                have HNE := hid hne
                clear hne
                have HL2 := hid (show m + 1 + (s.rv.length - m) = (s.rv.take m ++ ze :: s.rv.drop m).length by first | (simp; done) | (simp; omega))
                obtain ⟨iw, hiw, hw0, hw1, hw2⟩ := info_parts infoInt
                have hn1 : (m : Int) ≤ (s.rv.length : Int) := by omega
                have hn2 : (m : Int) ≤ (z2 : Int) := by omega
                have htk : ∀ j u, ((nums s.rv).take m)[j]? = some u → wr.cell? ((⟨x7, 0, none⟩ : Addr).add j) = some u := fun j u hj => by
                  rw [List.getElem?_take] at hj
                  split at hj
                  · exact o2.cells (g := x7) rfl j u hj
                  · cases hj
                have hN := World.ownsRow_nil wr wr.heap.size 3 1
                go_wp2_with (at_builtin; refine wpList_append_own _ rfl _ _ 24 rfl wr.heap.size 3 iw _ 1 8 Tryz.underlying24 hiw hw0 hw1 hw2 rfl (by decide) _ _ _ rfl hN ⟨x7, 0, none⟩ m z2 ((nums s.rv).take m) rfl (by rw [List.length_take]; omega) htk (fun u hu => one_n u (List.mem_of_mem_take hu)) (by unfold maxLen; omega) (by omega) (Nat.le_refl _) ?_)
                intro v5 w6 o5 g6 _
                obtain ⟨y5, y6, y7, rfl⟩ := row_slice o5
                have hC5 : Below wr.heap.size wr w6 := (Below.refl _ _).grown g6 (Nat.le_refl _) (fun k e => by simp [Value.ownBlock] at e)
                clear g6 htk hN
                have o5a := o5.alloc (.cells #[.int .i64 ze] 3)
                have hC5a : Below wr.heap.size wr (w6.alloc (.cells #[.int .i64 ze] 3)) := hC5.alloc hC5.size _
                have hnw : ∀ j u, ([Value.int .i64 ze])[j]? = some u → (w6.alloc (.cells #[.int .i64 ze] 3)).cell? ((⟨w6.heap.size, 0, none⟩ : Addr).add j) = some u := fun j u hj => by
                  rw [Addr.add_lit, Nat.zero_add, World.cell?_alloc_at _ _ _ _ rfl]
                  simpa using hj
                go_wp2_with (at_builtin; refine wpList_append_own _ rfl _ _ 24 rfl wr.heap.size 3 iw _ 1 8 Tryz.underlying24 hiw hw0 hw1 hw2 rfl (by decide) _ _ _ rfl o5a ⟨w6.heap.size, 0, none⟩ 1 1 [Value.int .i64 ze] rfl rfl hnw (by intro u hu; simp at hu; rw [hu]; rfl) (by unfold maxLen; omega) (by omega) hC5a.size ?_)
                intro v6 w7 o6 g7 _
                obtain ⟨u5, u6, u7, rfl⟩ := row_slice o6
                have hC6 : Below wr.heap.size wr w7 := hC5a.grown g7 hC5a.size (fun k e => (o5a.lt k e).1)
                clear o5 o5a g7 hnw hC5 hC5a
                obtain ⟨b0, b1, b2, b3⟩ := (F1.below hC6).c
                have o2w := ownsRow_below o2 hC6
                have hzn : ¬ (z2 = m) := by omega
                have hdr : ∀ j u, ((nums s.rv).drop m)[j]? = some u → w7.cell? ((⟨x7, m, none⟩ : Addr).add j) = some u := fun j u hj => by
                  rw [List.getElem?_drop] at hj
                  have := o2w.cells (g := x7) rfl _ u hj
                  rw [Addr.add_lit, Nat.zero_add] at this
                  rw [Addr.add_lit]
                  exact this
                go_wp2_with (at_builtin; refine wpList_append_own _ rfl _ _ 24 rfl wr.heap.size 3 iw _ 1 8 Tryz.underlying24 hiw hw0 hw1 hw2 rfl (by decide) _ _ _ rfl o6 ⟨x7, m, none⟩ (s.rv.length - m) (z2 - m) ((nums s.rv).drop m) rfl (by rw [List.length_drop]; omega) hdr (fun u hu => one_n u (List.mem_of_mem_drop hu)) (by unfold maxLen; omega) (by omega) hC6.size ?_)
                intro v7 w8 o7 g8 _
                replace o7 : w8.ownsRow wr.heap.size 3 1 v7 (m + 1 + (s.rv.length - m)) (nums (s.rv.take m ++ ze :: s.rv.drop m)) := by rw [← nput]; simpa using o7
                clear hdr
                obtain ⟨l5, l6, l7, rfl⟩ := row_slice o7
                obtain rfl : l6 = m + 1 + (s.rv.length - m) := row_len o7
                have hC7 : Below wr.heap.size wr w8 := hC6.grown g8 hC6.size (fun k e => (o6.lt k e).1)
                replace F1 := F1.below hC7
                replace F2 := F2.below hC7
                replace o1 := ownsRow_below o1 hC7
                replace o3 := ownsRow_below o3 hC7
                replace hBB := below_one hBB hC7
                clear b0 b1 b2 b3 hC6 o6 g8 o2w hC7 a0 a1 a2 a3 o2
                have o2 := o7
                clear o7
                obtain ⟨a0, a1, a2, a3⟩ := F1.c
                have bf := F1.f 2
                replace F1 := F1.s2 (.slice l5 (m + 1 + (s.rv.length - m)) l7)
                replace F2 := F2.other (k' := w.heap.size) (by omega) 2 (.slice l5 (m + 1 + (s.rv.length - m)) l7)
                replace o1 := ownsRow_setCell_below o1 (a := ⟨w.heap.size, 2, none⟩) (by simp; omega) (.slice l5 (m + 1 + (s.rv.length - m)) l7)
                replace o2 := ownsRow_setCell_below o2 (a := ⟨w.heap.size, 2, none⟩) (by simp; omega) (.slice l5 (m + 1 + (s.rv.length - m)) l7)
                replace o3 := ownsRow_setCell_below o3 (a := ⟨w.heap.size, 2, none⟩) (by simp; omega) (.slice l5 (m + 1 + (s.rv.length - m)) l7)
                replace hBB := hBB.setCell (p := ⟨w.heap.size, 2, none⟩) (by simp) (.slice l5 (m + 1 + (s.rv.length - m)) l7)
                go_wp2_with fail
                clear a0 a1 a2 a3 bf
                have HR := hid (show rkX s name = (⟨s.ws.set n ⟨ne, false, ze⟩, s.nx, s.rv.take m ++ ze :: s.rv.drop m, s.sg⟩, ((m + 1 + (s.rv.length - m) : Nat) : Int), 0) by rw [HR0.out, ← HL2.out])
                clear HR0
                generalize w8.setCell ⟨w.heap.size, 2, none⟩ (.slice l5 (m + 1 + (s.rv.length - m)) l7) = W8 at *
                have hBd : Below (W8).heap.size (W8) (W8).drew := (Below.refl _ _).drew
                have hkn : w.heap.size ≠ w.heap.size + 1 := by omega
                obtain ⟨c0, c1, c2, c3⟩ := F1.c
                replace F1 := F1.below hBd
                replace F2 := F2.below hBd
                replace o1 := ownsRow_below o1 hBd
                replace o2 := ownsRow_below o2 hBd
                replace o3 := ownsRow_below o3 hBd
                replace hBB := below_one hBB hBd
                clear hBd
                obtain ⟨r0, r1, r2, r3⟩ := F2.c
                have f0 := F2.f 0
                have f1 := F2.f 1
                have f2 := F2.f 2
                have f3 := F2.f 3
                refine wp_region_held_drew (S := fun w' => w'.cell? ⟨w.heap.size, 0, none⟩ = some (.slice (some ⟨g5, 0, none⟩) s.ws.length z1) ∧ w'.cell? ⟨w.heap.size, 1, none⟩ = some (.int .i64 s.nx) ∧ w'.cell? ⟨w.heap.size, 2, none⟩ = some (.slice l5 (m + 1 + (s.rv.length - m)) l7) ∧ w'.cell? ⟨w.heap.size, 3, none⟩ = some (.slice x3 y3 z3)) (by kernel_rfl) ?_ (fun hHeld => ?_)
                · first | go_keep | exact ((((F1.other hkn 0 _).other hkn 1 _).other hkn 2 _).other hkn 3 _).c
                generalize (W8).drew = Wd at *
                refine takeW 0 (v := ?v25) rfl (by kernel_rfl) (by kernel_rfl) (by kernel_rfl) (fun _ _ _ h => h) (by rfl) (by assumption) ?hy25 ?rest25
                case hy25 => intro w' hSw; (try dsimp only at hSw); go_simp; try with_reducible rfl
                try simp only [Act.put, List.setIfInBounds_toArray, List.set_cons_zero, List.set_cons_succ]
                refine takeW 1 (v := ?v26) rfl (by kernel_rfl) (by kernel_rfl) (by kernel_rfl) (fun _ _ _ h => h) (by rfl) (by assumption) ?hy26 ?rest26
                case hy26 => intro w' hSw; (try dsimp only at hSw); go_simp; try with_reducible rfl
                try simp only [Act.put, List.setIfInBounds_toArray, List.set_cons_zero, List.set_cons_succ]
                refine takeW 2 (v := ?v27) rfl (by kernel_rfl) (by kernel_rfl) (by kernel_rfl) (fun _ _ _ h => h) (by rfl) (by assumption) ?hy27 ?rest27
                case hy27 => intro w' hSw; (try dsimp only at hSw); go_simp; try with_reducible rfl
                try simp only [Act.put, List.setIfInBounds_toArray, List.set_cons_zero, List.set_cons_succ]
                refine takeW 3 (v := ?v28) rfl (by kernel_rfl) (by kernel_rfl) (by kernel_rfl) (fun _ _ _ h => h) (by rfl) (by assumption) ?hy28 ?rest28
                case hy28 => intro w' hSw; (try dsimp only at hSw); go_simp; try with_reducible rfl
                try simp only [Act.put, List.setIfInBounds_toArray, List.set_cons_zero, List.set_cons_succ]
                refine takeC 4 (by kernel_rfl) rfl (fun K hK => ?_)
                go_simp
                skip
                refine hK.out _ _ ?_ (fun hHeld => ?_)
                · first | go_keep | exact ((((F1.other hkn 0 _).other hkn 1 _).other hkn 2 _).other hkn 3 _).c
                clear hK K
                try simp only [Act.put, List.setIfInBounds_toArray, List.set_cons_zero, List.set_cons_succ]
                refine takeW 5 (v := ?v29) rfl (by kernel_rfl) (by kernel_rfl) (by kernel_rfl) (fun _ _ _ h => h) (by rfl) (by assumption) ?hy29 ?rest29
                case hy29 => intro w' hSw; (try dsimp only at hSw); go_simp; try with_reducible rfl
                try simp only [Act.put, List.setIfInBounds_toArray, List.set_cons_zero, List.set_cons_succ]
                refine takeW 6 (v := ?v30) rfl (by kernel_rfl) (by kernel_rfl) (by kernel_rfl) (fun _ _ _ h => h) (by rfl) (by assumption) ?hy30 ?rest30
                case hy30 => intro w' hSw; (try dsimp only at hSw); go_simp; try with_reducible rfl
                try simp only [Act.put, List.setIfInBounds_toArray, List.set_cons_zero, List.set_cons_succ]
                refine wpAnyH_done (by kernel_rfl) ?_ _
                have G := (((F2.s0 (.slice (some ⟨g5, 0, none⟩) s.ws.length z1)).s1 (.int .i64 s.nx)).s2 (.slice l5 (m + 1 + (s.rv.length - m)) l7)).s3 (.slice x3 y3 z3)
                have pB := below_four hBB (k := w.heap.size + 1) (by omega) (.slice (some ⟨g5, 0, none⟩) s.ws.length z1) (.int .i64 s.nx) (.slice l5 (m + 1 + (s.rv.length - m)) l7) (.slice x3 y3 z3)
                have q1 := row_four o1 (k := w.heap.size + 1) (by omega) (.slice (some ⟨g5, 0, none⟩) s.ws.length z1) (.int .i64 s.nx) (.slice l5 (m + 1 + (s.rv.length - m)) l7) (.slice x3 y3 z3)
                have q2 := row_four o2 (k := w.heap.size + 1) (by omega) (.slice (some ⟨g5, 0, none⟩) s.ws.length z1) (.int .i64 s.nx) (.slice l5 (m + 1 + (s.rv.length - m)) l7) (.slice x3 y3 z3)
                have q3 := row_four o3 (k := w.heap.size + 1) (by omega) (.slice (some ⟨g5, 0, none⟩) s.ws.length z1) (.int .i64 s.nx) (.slice l5 (m + 1 + (s.rv.length - m)) l7) (.slice x3 y3 z3)
                go_wp2_with fail
                clear r0 r1 r2 r3 f0 f1 f2 f3 c0 c1 c2 c3 hHeld
                generalize (((Wd.setCell ⟨w.heap.size + 1, 0, none⟩ (.slice (some ⟨g5, 0, none⟩) s.ws.length z1)).setCell ⟨w.heap.size + 1, 1, none⟩ (.int .i64 s.nx)).setCell ⟨w.heap.size + 1, 2, none⟩ (.slice l5 (m + 1 + (s.rv.length - m)) l7)).setCell ⟨w.heap.size + 1, 3, none⟩ (.slice x3 y3 z3) = W5 at *
                obtain ⟨d0, d1, d2, d3⟩ := G.c
                exact bodyPost_ret (v := .tuple #[.agg #[(.slice (some ⟨g5, 0, none⟩) s.ws.length z1), (.int .i64 s.nx), (.slice l5 (m + 1 + (s.rv.length - m)) l7), (.slice x3 y3 z3)], .int .i64 ((m + 1 + (s.rv.length - m) : Nat) : Int), .int .i64 0]) (by simp [results, Tryz.results46, go_sem, d0, d1, d2, d3]) rfl ⟨_, by rw [HR.out], by rw [HR.out]; exact IsO.of (s := ⟨s.ws.set n ⟨ne, false, ze⟩, s.nx, s.rv.take m ++ ze :: s.rv.drop m, s.sg⟩) (Go.Joins.ownsRow_le (row_cast q1 HL.out) (by omega)) (Go.Joins.ownsRow_le (row_cast q2 HL2.out) (by omega)) (Go.Joins.ownsRow_le q3 (by omega)), pB⟩
            · have hne : m = atN s.rv ze := by omega
              obtain rfl : m = s.rv.length := by omega
              rw [← hne] at HR0
              clear hm0 hle hne hlm
              have HL2 := hid (show s.rv.length + 1 = (s.rv.take s.rv.length ++ ze :: s.rv.drop s.rv.length).length by first | (simp; done) | (simp; omega))
              obtain ⟨iw, hiw, hw0, hw1, hw2⟩ := info_parts infoInt
              have hn1 : (s.rv.length : Int) ≤ (s.rv.length : Int) := by omega
              have hn2 : (s.rv.length : Int) ≤ (z2 : Int) := by omega
              have htk : ∀ j u, ((nums s.rv).take s.rv.length)[j]? = some u → wr.cell? ((⟨x7, 0, none⟩ : Addr).add j) = some u := fun j u hj => by
                rw [List.getElem?_take] at hj
                split at hj
                · exact o2.cells (g := x7) rfl j u hj
                · cases hj
              have hN := World.ownsRow_nil wr wr.heap.size 3 1
              go_wp2_with (at_builtin; refine wpList_append_own _ rfl _ _ 24 rfl wr.heap.size 3 iw _ 1 8 Tryz.underlying24 hiw hw0 hw1 hw2 rfl (by decide) _ _ _ rfl hN ⟨x7, 0, none⟩ s.rv.length z2 ((nums s.rv).take s.rv.length) rfl (by rw [List.length_take]; omega) htk (fun u hu => one_n u (List.mem_of_mem_take hu)) (by unfold maxLen; omega) (by omega) (Nat.le_refl _) ?_)
              intro v5 w6 o5 g6 _
              obtain ⟨y5, y6, y7, rfl⟩ := row_slice o5
              have hC5 : Below wr.heap.size wr w6 := (Below.refl _ _).grown g6 (Nat.le_refl _) (fun k e => by simp [Value.ownBlock] at e)
              clear g6 htk hN
              have o5a := o5.alloc (.cells #[.int .i64 ze] 3)
              have hC5a : Below wr.heap.size wr (w6.alloc (.cells #[.int .i64 ze] 3)) := hC5.alloc hC5.size _
              have hnw : ∀ j u, ([Value.int .i64 ze])[j]? = some u → (w6.alloc (.cells #[.int .i64 ze] 3)).cell? ((⟨w6.heap.size, 0, none⟩ : Addr).add j) = some u := fun j u hj => by
                rw [Addr.add_lit, Nat.zero_add, World.cell?_alloc_at _ _ _ _ rfl]
                simpa using hj
              go_wp2_with (at_builtin; refine wpList_append_own _ rfl _ _ 24 rfl wr.heap.size 3 iw _ 1 8 Tryz.underlying24 hiw hw0 hw1 hw2 rfl (by decide) _ _ _ rfl o5a ⟨w6.heap.size, 0, none⟩ 1 1 [Value.int .i64 ze] rfl rfl hnw (by intro u hu; simp at hu; rw [hu]; rfl) (by unfold maxLen; omega) (by omega) hC5a.size ?_)
              intro v6 w7 o6 g7 _
              obtain ⟨u5, u6, u7, rfl⟩ := row_slice o6
              have hC6 : Below wr.heap.size wr w7 := hC5a.grown g7 hC5a.size (fun k e => (o5a.lt k e).1)
              clear o5 o5a g7 hnw hC5 hC5a
              obtain ⟨b0, b1, b2, b3⟩ := (F1.below hC6).c
              have o2w := ownsRow_below o2 hC6
              by_cases hzz : z2 = s.rv.length
              all_goals go_wp2_with (at_builtin; refine wpList_append_own _ rfl _ _ 24 rfl wr.heap.size 3 iw _ 1 8 Tryz.underlying24 hiw hw0 hw1 hw2 rfl (by decide) _ _ _ rfl o6 _ 0 _ [] rfl rfl (by simp) (by simp) (by unfold maxLen; omega) (by omega) hC6.size ?_)
              all_goals intro v7 w8 o7 g8 _
              all_goals replace o7 : w8.ownsRow wr.heap.size 3 1 v7 (s.rv.length + 1) (nums (s.rv.take s.rv.length ++ ze :: s.rv.drop s.rv.length)) := by rw [← nput, show (nums s.rv).drop s.rv.length = [] from List.drop_of_length_le (by omega)]; simpa using o7
              · skip
                obtain ⟨l5, l6, l7, rfl⟩ := row_slice o7
                obtain rfl : l6 = s.rv.length + 1 := row_len o7
                have hC7 : Below wr.heap.size wr w8 := hC6.grown g8 hC6.size (fun k e => (o6.lt k e).1)
                replace F1 := F1.below hC7
                replace F2 := F2.below hC7
                replace o1 := ownsRow_below o1 hC7
                replace o3 := ownsRow_below o3 hC7
                replace hBB := below_one hBB hC7
                clear b0 b1 b2 b3 hC6 o6 g8 o2w hC7 a0 a1 a2 a3 o2
                have o2 := o7
                clear o7
                obtain ⟨a0, a1, a2, a3⟩ := F1.c
                have bf := F1.f 2
                replace F1 := F1.s2 (.slice l5 (s.rv.length + 1) l7)
                replace F2 := F2.other (k' := w.heap.size) (by omega) 2 (.slice l5 (s.rv.length + 1) l7)
                replace o1 := ownsRow_setCell_below o1 (a := ⟨w.heap.size, 2, none⟩) (by simp; omega) (.slice l5 (s.rv.length + 1) l7)
                replace o2 := ownsRow_setCell_below o2 (a := ⟨w.heap.size, 2, none⟩) (by simp; omega) (.slice l5 (s.rv.length + 1) l7)
                replace o3 := ownsRow_setCell_below o3 (a := ⟨w.heap.size, 2, none⟩) (by simp; omega) (.slice l5 (s.rv.length + 1) l7)
                replace hBB := hBB.setCell (p := ⟨w.heap.size, 2, none⟩) (by simp) (.slice l5 (s.rv.length + 1) l7)
                go_wp2_with fail
                clear a0 a1 a2 a3 bf
                have HR := hid (show rkX s name = (⟨s.ws.set n ⟨ne, false, ze⟩, s.nx, s.rv.take s.rv.length ++ ze :: s.rv.drop s.rv.length, s.sg⟩, ((s.rv.length + 1 : Nat) : Int), 0) by rw [HR0.out, ← HL2.out])
                clear HR0
                generalize w8.setCell ⟨w.heap.size, 2, none⟩ (.slice l5 (s.rv.length + 1) l7) = W8 at *
                have hBd : Below (W8).heap.size (W8) (W8).drew := (Below.refl _ _).drew
                have hkn : w.heap.size ≠ w.heap.size + 1 := by omega
                obtain ⟨c0, c1, c2, c3⟩ := F1.c
                replace F1 := F1.below hBd
                replace F2 := F2.below hBd
                replace o1 := ownsRow_below o1 hBd
                replace o2 := ownsRow_below o2 hBd
                replace o3 := ownsRow_below o3 hBd
                replace hBB := below_one hBB hBd
                clear hBd
                obtain ⟨r0, r1, r2, r3⟩ := F2.c
                have f0 := F2.f 0
                have f1 := F2.f 1
                have f2 := F2.f 2
                have f3 := F2.f 3
                refine wp_region_held_drew (S := fun w' => w'.cell? ⟨w.heap.size, 0, none⟩ = some (.slice (some ⟨g5, 0, none⟩) s.ws.length z1) ∧ w'.cell? ⟨w.heap.size, 1, none⟩ = some (.int .i64 s.nx) ∧ w'.cell? ⟨w.heap.size, 2, none⟩ = some (.slice l5 (s.rv.length + 1) l7) ∧ w'.cell? ⟨w.heap.size, 3, none⟩ = some (.slice x3 y3 z3)) (by kernel_rfl) ?_ (fun hHeld => ?_)
                · first | go_keep | exact ((((F1.other hkn 0 _).other hkn 1 _).other hkn 2 _).other hkn 3 _).c
                generalize (W8).drew = Wd at *
                refine takeW 0 (v := ?v31) rfl (by kernel_rfl) (by kernel_rfl) (by kernel_rfl) (fun _ _ _ h => h) (by rfl) (by assumption) ?hy31 ?rest31
                case hy31 => intro w' hSw; (try dsimp only at hSw); go_simp; try with_reducible rfl
                try simp only [Act.put, List.setIfInBounds_toArray, List.set_cons_zero, List.set_cons_succ]
                refine takeW 1 (v := ?v32) rfl (by kernel_rfl) (by kernel_rfl) (by kernel_rfl) (fun _ _ _ h => h) (by rfl) (by assumption) ?hy32 ?rest32
                case hy32 => intro w' hSw; (try dsimp only at hSw); go_simp; try with_reducible rfl
                try simp only [Act.put, List.setIfInBounds_toArray, List.set_cons_zero, List.set_cons_succ]
                refine takeW 2 (v := ?v33) rfl (by kernel_rfl) (by kernel_rfl) (by kernel_rfl) (fun _ _ _ h => h) (by rfl) (by assumption) ?hy33 ?rest33
                case hy33 => intro w' hSw; (try dsimp only at hSw); go_simp; try with_reducible rfl
                try simp only [Act.put, List.setIfInBounds_toArray, List.set_cons_zero, List.set_cons_succ]
                refine takeW 3 (v := ?v34) rfl (by kernel_rfl) (by kernel_rfl) (by kernel_rfl) (fun _ _ _ h => h) (by rfl) (by assumption) ?hy34 ?rest34
                case hy34 => intro w' hSw; (try dsimp only at hSw); go_simp; try with_reducible rfl
                try simp only [Act.put, List.setIfInBounds_toArray, List.set_cons_zero, List.set_cons_succ]
                refine takeC 4 (by kernel_rfl) rfl (fun K hK => ?_)
                go_simp
                skip
                refine hK.out _ _ ?_ (fun hHeld => ?_)
                · first | go_keep | exact ((((F1.other hkn 0 _).other hkn 1 _).other hkn 2 _).other hkn 3 _).c
                clear hK K
                try simp only [Act.put, List.setIfInBounds_toArray, List.set_cons_zero, List.set_cons_succ]
                refine takeW 5 (v := ?v35) rfl (by kernel_rfl) (by kernel_rfl) (by kernel_rfl) (fun _ _ _ h => h) (by rfl) (by assumption) ?hy35 ?rest35
                case hy35 => intro w' hSw; (try dsimp only at hSw); go_simp; try with_reducible rfl
                try simp only [Act.put, List.setIfInBounds_toArray, List.set_cons_zero, List.set_cons_succ]
                refine takeW 6 (v := ?v36) rfl (by kernel_rfl) (by kernel_rfl) (by kernel_rfl) (fun _ _ _ h => h) (by rfl) (by assumption) ?hy36 ?rest36
                case hy36 => intro w' hSw; (try dsimp only at hSw); go_simp; try with_reducible rfl
                try simp only [Act.put, List.setIfInBounds_toArray, List.set_cons_zero, List.set_cons_succ]
                refine wpAnyH_done (by kernel_rfl) ?_ _
                have G := (((F2.s0 (.slice (some ⟨g5, 0, none⟩) s.ws.length z1)).s1 (.int .i64 s.nx)).s2 (.slice l5 (s.rv.length + 1) l7)).s3 (.slice x3 y3 z3)
                have pB := below_four hBB (k := w.heap.size + 1) (by omega) (.slice (some ⟨g5, 0, none⟩) s.ws.length z1) (.int .i64 s.nx) (.slice l5 (s.rv.length + 1) l7) (.slice x3 y3 z3)
                have q1 := row_four o1 (k := w.heap.size + 1) (by omega) (.slice (some ⟨g5, 0, none⟩) s.ws.length z1) (.int .i64 s.nx) (.slice l5 (s.rv.length + 1) l7) (.slice x3 y3 z3)
                have q2 := row_four o2 (k := w.heap.size + 1) (by omega) (.slice (some ⟨g5, 0, none⟩) s.ws.length z1) (.int .i64 s.nx) (.slice l5 (s.rv.length + 1) l7) (.slice x3 y3 z3)
                have q3 := row_four o3 (k := w.heap.size + 1) (by omega) (.slice (some ⟨g5, 0, none⟩) s.ws.length z1) (.int .i64 s.nx) (.slice l5 (s.rv.length + 1) l7) (.slice x3 y3 z3)
                go_wp2_with fail
                clear r0 r1 r2 r3 f0 f1 f2 f3 c0 c1 c2 c3 hHeld
                generalize (((Wd.setCell ⟨w.heap.size + 1, 0, none⟩ (.slice (some ⟨g5, 0, none⟩) s.ws.length z1)).setCell ⟨w.heap.size + 1, 1, none⟩ (.int .i64 s.nx)).setCell ⟨w.heap.size + 1, 2, none⟩ (.slice l5 (s.rv.length + 1) l7)).setCell ⟨w.heap.size + 1, 3, none⟩ (.slice x3 y3 z3) = W5 at *
                obtain ⟨d0, d1, d2, d3⟩ := G.c
                exact bodyPost_ret (v := .tuple #[.agg #[(.slice (some ⟨g5, 0, none⟩) s.ws.length z1), (.int .i64 s.nx), (.slice l5 (s.rv.length + 1) l7), (.slice x3 y3 z3)], .int .i64 ((s.rv.length + 1 : Nat) : Int), .int .i64 0]) (by simp [results, Tryz.results46, go_sem, d0, d1, d2, d3]) rfl ⟨_, by rw [HR.out], by rw [HR.out]; exact IsO.of (s := ⟨s.ws.set n ⟨ne, false, ze⟩, s.nx, s.rv.take s.rv.length ++ ze :: s.rv.drop s.rv.length, s.sg⟩) (Go.Joins.ownsRow_le (row_cast q1 HL.out) (by omega)) (Go.Joins.ownsRow_le (row_cast q2 HL2.out) (by omega)) (Go.Joins.ownsRow_le q3 (by omega)), pB⟩
              · skip
                obtain ⟨l5, l6, l7, rfl⟩ := row_slice o7
                obtain rfl : l6 = s.rv.length + 1 := row_len o7
                have hC7 : Below wr.heap.size wr w8 := hC6.grown g8 hC6.size (fun k e => (o6.lt k e).1)
                replace F1 := F1.below hC7
                replace F2 := F2.below hC7
                replace o1 := ownsRow_below o1 hC7
                replace o3 := ownsRow_below o3 hC7
                replace hBB := below_one hBB hC7
                clear b0 b1 b2 b3 hC6 o6 g8 o2w hC7 a0 a1 a2 a3 o2
                have o2 := o7
                clear o7
                obtain ⟨a0, a1, a2, a3⟩ := F1.c
                have bf := F1.f 2
                replace F1 := F1.s2 (.slice l5 (s.rv.length + 1) l7)
                replace F2 := F2.other (k' := w.heap.size) (by omega) 2 (.slice l5 (s.rv.length + 1) l7)
                replace o1 := ownsRow_setCell_below o1 (a := ⟨w.heap.size, 2, none⟩) (by simp; omega) (.slice l5 (s.rv.length + 1) l7)
                replace o2 := ownsRow_setCell_below o2 (a := ⟨w.heap.size, 2, none⟩) (by simp; omega) (.slice l5 (s.rv.length + 1) l7)
                replace o3 := ownsRow_setCell_below o3 (a := ⟨w.heap.size, 2, none⟩) (by simp; omega) (.slice l5 (s.rv.length + 1) l7)
                replace hBB := hBB.setCell (p := ⟨w.heap.size, 2, none⟩) (by simp) (.slice l5 (s.rv.length + 1) l7)
                go_wp2_with fail
                clear a0 a1 a2 a3 bf
                have HR := hid (show rkX s name = (⟨s.ws.set n ⟨ne, false, ze⟩, s.nx, s.rv.take s.rv.length ++ ze :: s.rv.drop s.rv.length, s.sg⟩, ((s.rv.length + 1 : Nat) : Int), 0) by rw [HR0.out, ← HL2.out])
                clear HR0
                generalize w8.setCell ⟨w.heap.size, 2, none⟩ (.slice l5 (s.rv.length + 1) l7) = W8 at *
                have hBd : Below (W8).heap.size (W8) (W8).drew := (Below.refl _ _).drew
                have hkn : w.heap.size ≠ w.heap.size + 1 := by omega
                obtain ⟨c0, c1, c2, c3⟩ := F1.c
                replace F1 := F1.below hBd
                replace F2 := F2.below hBd
                replace o1 := ownsRow_below o1 hBd
                replace o2 := ownsRow_below o2 hBd
                replace o3 := ownsRow_below o3 hBd
                replace hBB := below_one hBB hBd
                clear hBd
                obtain ⟨r0, r1, r2, r3⟩ := F2.c
                have f0 := F2.f 0
                have f1 := F2.f 1
                have f2 := F2.f 2
                have f3 := F2.f 3
                refine wp_region_held_drew (S := fun w' => w'.cell? ⟨w.heap.size, 0, none⟩ = some (.slice (some ⟨g5, 0, none⟩) s.ws.length z1) ∧ w'.cell? ⟨w.heap.size, 1, none⟩ = some (.int .i64 s.nx) ∧ w'.cell? ⟨w.heap.size, 2, none⟩ = some (.slice l5 (s.rv.length + 1) l7) ∧ w'.cell? ⟨w.heap.size, 3, none⟩ = some (.slice x3 y3 z3)) (by kernel_rfl) ?_ (fun hHeld => ?_)
                · first | go_keep | exact ((((F1.other hkn 0 _).other hkn 1 _).other hkn 2 _).other hkn 3 _).c
                generalize (W8).drew = Wd at *
                refine takeW 0 (v := ?v37) rfl (by kernel_rfl) (by kernel_rfl) (by kernel_rfl) (fun _ _ _ h => h) (by rfl) (by assumption) ?hy37 ?rest37
                case hy37 => intro w' hSw; (try dsimp only at hSw); go_simp; try with_reducible rfl
                try simp only [Act.put, List.setIfInBounds_toArray, List.set_cons_zero, List.set_cons_succ]
                refine takeW 1 (v := ?v38) rfl (by kernel_rfl) (by kernel_rfl) (by kernel_rfl) (fun _ _ _ h => h) (by rfl) (by assumption) ?hy38 ?rest38
                case hy38 => intro w' hSw; (try dsimp only at hSw); go_simp; try with_reducible rfl
                try simp only [Act.put, List.setIfInBounds_toArray, List.set_cons_zero, List.set_cons_succ]
                refine takeW 2 (v := ?v39) rfl (by kernel_rfl) (by kernel_rfl) (by kernel_rfl) (fun _ _ _ h => h) (by rfl) (by assumption) ?hy39 ?rest39
                case hy39 => intro w' hSw; (try dsimp only at hSw); go_simp; try with_reducible rfl
                try simp only [Act.put, List.setIfInBounds_toArray, List.set_cons_zero, List.set_cons_succ]
                refine takeW 3 (v := ?v40) rfl (by kernel_rfl) (by kernel_rfl) (by kernel_rfl) (fun _ _ _ h => h) (by rfl) (by assumption) ?hy40 ?rest40
                case hy40 => intro w' hSw; (try dsimp only at hSw); go_simp; try with_reducible rfl
                try simp only [Act.put, List.setIfInBounds_toArray, List.set_cons_zero, List.set_cons_succ]
                refine takeC 4 (by kernel_rfl) rfl (fun K hK => ?_)
                go_simp
                skip
                refine hK.out _ _ ?_ (fun hHeld => ?_)
                · first | go_keep | exact ((((F1.other hkn 0 _).other hkn 1 _).other hkn 2 _).other hkn 3 _).c
                clear hK K
                try simp only [Act.put, List.setIfInBounds_toArray, List.set_cons_zero, List.set_cons_succ]
                refine takeW 5 (v := ?v41) rfl (by kernel_rfl) (by kernel_rfl) (by kernel_rfl) (fun _ _ _ h => h) (by rfl) (by assumption) ?hy41 ?rest41
                case hy41 => intro w' hSw; (try dsimp only at hSw); go_simp; try with_reducible rfl
                try simp only [Act.put, List.setIfInBounds_toArray, List.set_cons_zero, List.set_cons_succ]
                refine takeW 6 (v := ?v42) rfl (by kernel_rfl) (by kernel_rfl) (by kernel_rfl) (fun _ _ _ h => h) (by rfl) (by assumption) ?hy42 ?rest42
                case hy42 => intro w' hSw; (try dsimp only at hSw); go_simp; try with_reducible rfl
                try simp only [Act.put, List.setIfInBounds_toArray, List.set_cons_zero, List.set_cons_succ]
                refine wpAnyH_done (by kernel_rfl) ?_ _
                have G := (((F2.s0 (.slice (some ⟨g5, 0, none⟩) s.ws.length z1)).s1 (.int .i64 s.nx)).s2 (.slice l5 (s.rv.length + 1) l7)).s3 (.slice x3 y3 z3)
                have pB := below_four hBB (k := w.heap.size + 1) (by omega) (.slice (some ⟨g5, 0, none⟩) s.ws.length z1) (.int .i64 s.nx) (.slice l5 (s.rv.length + 1) l7) (.slice x3 y3 z3)
                have q1 := row_four o1 (k := w.heap.size + 1) (by omega) (.slice (some ⟨g5, 0, none⟩) s.ws.length z1) (.int .i64 s.nx) (.slice l5 (s.rv.length + 1) l7) (.slice x3 y3 z3)
                have q2 := row_four o2 (k := w.heap.size + 1) (by omega) (.slice (some ⟨g5, 0, none⟩) s.ws.length z1) (.int .i64 s.nx) (.slice l5 (s.rv.length + 1) l7) (.slice x3 y3 z3)
                have q3 := row_four o3 (k := w.heap.size + 1) (by omega) (.slice (some ⟨g5, 0, none⟩) s.ws.length z1) (.int .i64 s.nx) (.slice l5 (s.rv.length + 1) l7) (.slice x3 y3 z3)
                go_wp2_with fail
                clear r0 r1 r2 r3 f0 f1 f2 f3 c0 c1 c2 c3 hHeld
                generalize (((Wd.setCell ⟨w.heap.size + 1, 0, none⟩ (.slice (some ⟨g5, 0, none⟩) s.ws.length z1)).setCell ⟨w.heap.size + 1, 1, none⟩ (.int .i64 s.nx)).setCell ⟨w.heap.size + 1, 2, none⟩ (.slice l5 (s.rv.length + 1) l7)).setCell ⟨w.heap.size + 1, 3, none⟩ (.slice x3 y3 z3) = W5 at *
                obtain ⟨d0, d1, d2, d3⟩ := G.c
                exact bodyPost_ret (v := .tuple #[.agg #[(.slice (some ⟨g5, 0, none⟩) s.ws.length z1), (.int .i64 s.nx), (.slice l5 (s.rv.length + 1) l7), (.slice x3 y3 z3)], .int .i64 ((s.rv.length + 1 : Nat) : Int), .int .i64 0]) (by simp [results, Tryz.results46, go_sem, d0, d1, d2, d3]) rfl ⟨_, by rw [HR.out], by rw [HR.out]; exact IsO.of (s := ⟨s.ws.set n ⟨ne, false, ze⟩, s.nx, s.rv.take s.rv.length ++ ze :: s.rv.drop s.rv.length, s.sg⟩) (Go.Joins.ownsRow_le (row_cast q1 HL.out) (by omega)) (Go.Joins.ownsRow_le (row_cast q2 HL2.out) (by omega)) (Go.Joins.ownsRow_le q3 (by omega)), pB⟩
        · have HR := hid (show rkX s name = (⟨s.ws.set n ⟨ne, false, ze⟩, s.nx, s.rv, s.sg⟩, (s.rv.length : Int), 0) by rw [HX2.out]; unfold rvN; rw [hz0, hz1]; rfl)
          clear HX2 hz1
          go_wp2_with fail
          obtain ⟨a0, a1, a2, a3⟩ := F1.c
          clear a0 a1 a2 a3
          have hBd : Below (w5).heap.size (w5) (w5).drew := (Below.refl _ _).drew
          have hkn : w.heap.size ≠ w.heap.size + 1 := by omega
          obtain ⟨c0, c1, c2, c3⟩ := F1.c
          replace F1 := F1.below hBd
          replace F2 := F2.below hBd
          replace o1 := ownsRow_below o1 hBd
          replace o2 := ownsRow_below o2 hBd
          replace o3 := ownsRow_below o3 hBd
          replace hBB := below_one hBB hBd
          clear hBd
          obtain ⟨r0, r1, r2, r3⟩ := F2.c
          have f0 := F2.f 0
          have f1 := F2.f 1
          have f2 := F2.f 2
          have f3 := F2.f 3
          refine wp_region_held_drew (S := fun w' => w'.cell? ⟨w.heap.size, 0, none⟩ = some (.slice (some ⟨g5, 0, none⟩) s.ws.length z1) ∧ w'.cell? ⟨w.heap.size, 1, none⟩ = some (.int .i64 s.nx) ∧ w'.cell? ⟨w.heap.size, 2, none⟩ = some (.slice x2 s.rv.length z2) ∧ w'.cell? ⟨w.heap.size, 3, none⟩ = some (.slice x3 y3 z3)) (by kernel_rfl) ?_ (fun hHeld => ?_)
          · first | go_keep | exact ((((F1.other hkn 0 _).other hkn 1 _).other hkn 2 _).other hkn 3 _).c
          generalize (w5).drew = Wd at *
          refine takeW 0 (v := ?v19) rfl (by kernel_rfl) (by kernel_rfl) (by kernel_rfl) (fun _ _ _ h => h) (by rfl) (by assumption) ?hy19 ?rest19
          case hy19 => intro w' hSw; (try dsimp only at hSw); go_simp; try with_reducible rfl
          try simp only [Act.put, List.setIfInBounds_toArray, List.set_cons_zero, List.set_cons_succ]
          refine takeW 1 (v := ?v20) rfl (by kernel_rfl) (by kernel_rfl) (by kernel_rfl) (fun _ _ _ h => h) (by rfl) (by assumption) ?hy20 ?rest20
          case hy20 => intro w' hSw; (try dsimp only at hSw); go_simp; try with_reducible rfl
          try simp only [Act.put, List.setIfInBounds_toArray, List.set_cons_zero, List.set_cons_succ]
          refine takeW 2 (v := ?v21) rfl (by kernel_rfl) (by kernel_rfl) (by kernel_rfl) (fun _ _ _ h => h) (by rfl) (by assumption) ?hy21 ?rest21
          case hy21 => intro w' hSw; (try dsimp only at hSw); go_simp; try with_reducible rfl
          try simp only [Act.put, List.setIfInBounds_toArray, List.set_cons_zero, List.set_cons_succ]
          refine takeW 3 (v := ?v22) rfl (by kernel_rfl) (by kernel_rfl) (by kernel_rfl) (fun _ _ _ h => h) (by rfl) (by assumption) ?hy22 ?rest22
          case hy22 => intro w' hSw; (try dsimp only at hSw); go_simp; try with_reducible rfl
          try simp only [Act.put, List.setIfInBounds_toArray, List.set_cons_zero, List.set_cons_succ]
          refine takeC 4 (by kernel_rfl) rfl (fun K hK => ?_)
          go_simp
          skip
          refine hK.out _ _ ?_ (fun hHeld => ?_)
          · first | go_keep | exact ((((F1.other hkn 0 _).other hkn 1 _).other hkn 2 _).other hkn 3 _).c
          clear hK K
          try simp only [Act.put, List.setIfInBounds_toArray, List.set_cons_zero, List.set_cons_succ]
          refine takeW 5 (v := ?v23) rfl (by kernel_rfl) (by kernel_rfl) (by kernel_rfl) (fun _ _ _ h => h) (by rfl) (by assumption) ?hy23 ?rest23
          case hy23 => intro w' hSw; (try dsimp only at hSw); go_simp; try with_reducible rfl
          try simp only [Act.put, List.setIfInBounds_toArray, List.set_cons_zero, List.set_cons_succ]
          refine takeW 6 (v := ?v24) rfl (by kernel_rfl) (by kernel_rfl) (by kernel_rfl) (fun _ _ _ h => h) (by rfl) (by assumption) ?hy24 ?rest24
          case hy24 => intro w' hSw; (try dsimp only at hSw); go_simp; try with_reducible rfl
          try simp only [Act.put, List.setIfInBounds_toArray, List.set_cons_zero, List.set_cons_succ]
          refine wpAnyH_done (by kernel_rfl) ?_ _
          have G := (((F2.s0 (.slice (some ⟨g5, 0, none⟩) s.ws.length z1)).s1 (.int .i64 s.nx)).s2 (.slice x2 s.rv.length z2)).s3 (.slice x3 y3 z3)
          have pB := below_four hBB (k := w.heap.size + 1) (by omega) (.slice (some ⟨g5, 0, none⟩) s.ws.length z1) (.int .i64 s.nx) (.slice x2 s.rv.length z2) (.slice x3 y3 z3)
          have q1 := row_four o1 (k := w.heap.size + 1) (by omega) (.slice (some ⟨g5, 0, none⟩) s.ws.length z1) (.int .i64 s.nx) (.slice x2 s.rv.length z2) (.slice x3 y3 z3)
          have q2 := row_four o2 (k := w.heap.size + 1) (by omega) (.slice (some ⟨g5, 0, none⟩) s.ws.length z1) (.int .i64 s.nx) (.slice x2 s.rv.length z2) (.slice x3 y3 z3)
          have q3 := row_four o3 (k := w.heap.size + 1) (by omega) (.slice (some ⟨g5, 0, none⟩) s.ws.length z1) (.int .i64 s.nx) (.slice x2 s.rv.length z2) (.slice x3 y3 z3)
          go_wp2_with fail
          clear r0 r1 r2 r3 f0 f1 f2 f3 c0 c1 c2 c3 hHeld
          generalize (((Wd.setCell ⟨w.heap.size + 1, 0, none⟩ (.slice (some ⟨g5, 0, none⟩) s.ws.length z1)).setCell ⟨w.heap.size + 1, 1, none⟩ (.int .i64 s.nx)).setCell ⟨w.heap.size + 1, 2, none⟩ (.slice x2 s.rv.length z2)).setCell ⟨w.heap.size + 1, 3, none⟩ (.slice x3 y3 z3) = W5 at *
          obtain ⟨d0, d1, d2, d3⟩ := G.c
          exact bodyPost_ret (v := .tuple #[.agg #[(.slice (some ⟨g5, 0, none⟩) s.ws.length z1), (.int .i64 s.nx), (.slice x2 s.rv.length z2), (.slice x3 y3 z3)], .int .i64 (s.rv.length : Int), .int .i64 0]) (by simp [results, Tryz.results46, go_sem, d0, d1, d2, d3]) rfl ⟨_, by rw [HR.out], by rw [HR.out]; exact IsO.of (s := ⟨s.ws.set n ⟨ne, false, ze⟩, s.nx, s.rv, s.sg⟩) (Go.Joins.ownsRow_le (row_cast q1 HL.out) (by omega)) (Go.Joins.ownsRow_le q2 (by omega)) (Go.Joins.ownsRow_le q3 (by omega)), pB⟩

end Go.Proofs.YtallpldgkkpikaaGreatDoor

namespace Go.Proofs.YtallpldgkkpikaaGreatDoor
open Go.RowKit Go.Shelf

/-- A slice of bytes that can be read in w. -/
structure ByS (w : World) (a : Option Addr) (n : Nat) : Prop where
  len : n ≤ 1048576
  at_ : ∀ i, i < n → ∃ (blk off : Nat) (x : Nat), a = some ⟨blk, off, none⟩ ∧ x < 256 ∧ w.cell? ⟨blk, off + i, none⟩ = some (.int .u8 x)
/-- The cursor in block b. -/
structure CurB (w : World) (b : Nat) (a : Option Addr) (n c at_ : Nat) : Prop where
  le : n ≤ c
  c0 : w.cell? ⟨b, 0, none⟩ = some (.slice a n c)
  c1 : w.cell? ⟨b, 1, none⟩ = some (.int .i64 at_)
  c2 : ∃ sd : Int, w.cell? ⟨b, 2, none⟩ = some (.int .u64 sd)
  f1 : w.frozen? ⟨b, 1, none⟩ = false
  f2 : w.frozen? ⟨b, 2, none⟩ = false
  apart : ∀ p, a = some p → p.block < b

theorem gB {w W w2 : World} {r : Option Nat} (h : w.grownBy W r) (hB : Below W.heap.size W w2) : w.grownBy w2 r :=
  ⟨hB.os.trans h.os, hB.tape.trans h.tape, hB.output.trans h.output, Nat.le_trans h.size hB.size, fun k hk hne => (hB.block k (Nat.lt_of_lt_of_le hk h.size)).trans (h.block k hk hne)⟩
theorem g2 {w W w2 : World} {r : Option Nat} (h : w.grownBy W r) (h2 : W.grownBy w2 r) : w.grownBy w2 r :=
  ⟨h2.os.trans h.os, h2.tape.trans h.tape, h2.output.trans h.output, Nat.le_trans h.size h2.size, fun k hk hne => (h2.block k (Nat.lt_of_lt_of_le hk h.size) hne).trans (h.block k hk hne)⟩
theorem gS (w : World) (r : Option Nat) : w.grownBy w r := ⟨rfl, rfl, rfl, Nat.le_refl _, fun _ _ _ => rfl⟩
theorem gD {w W : World} {r : Option Nat} (h : w.grownBy W r) (q : Nat) : w.grownBy (W.drewN q) r := gB h (below_drewN (Below.refl _ _) q)

theorem low_byte (sv : Int) (h0 : 0 ≤ sv) (h1 : sv < 18446744073709551616) : ∃ x : Nat, x < 256 ∧ wrap64 (bits BinOp.and IntKind.u64 (sv / 1099511627776) 255) = (x : Int) := by
  have h := bits_mask .u64 63 (by decide) (fun n h₀ h₁ => by rw [IntKind.wrap_u64]; omega) 8 (by decide) (sv / 1099511627776) (by omega) (by omega)
  have e : ((2 : Int) ^ 8 - 1) = 255 := by decide
  have e2 : ((2 : Int) ^ 8) = 256 := by decide
  rw [e, e2] at h
  rw [h]
  refine ⟨(sv / 1099511627776 % 256).toNat, by omega, ?_⟩
  unfold wrap64
  omega
theorem u64_range (x : Int) : 0 ≤ IntKind.u64.wrap x ∧ IntKind.u64.wrap x < 18446744073709551616 := by
  have h := wrap_within .u64 x
  have e1 : IntKind.u64.min = 0 := by decide
  have e2 : IntKind.u64.max = 18446744073709551615 := by decide
  rw [e1, e2] at h
  omega
theorem grown_setCell (w : World) (a : Addr) (u : Value) : w.grownBy (w.setCell a u) (some a.block) := ⟨rfl, rfl, rfl, by simp, fun k _ hk => Below.heap_setCell _ _ _ k (fun e => hk (by rw [e]))⟩

set_option maxHeartbeats 1000000 in
theorem next_any (b : Nat) (a : Option Addr) (n c k : Nat) (w0 : World) (hB : ByS w0 a n) (hC : CurB w0 b a n c k) (hk : k ≤ 100000000) :
    Calls Tryz.prog 47 #[.pointer (some ⟨b, 0, none⟩)] w0 fun e w' => ∃ x : Nat, x < 256 ∧ e = .returned (.int .i64 x) ∧ CurB w' b a n c (k + 1) ∧ w0.grownBy w' (some b) := by
  obtain ⟨hle, h0, h1, ⟨sd, h2⟩, f1, f2, hap⟩ := hC
  have hg := gS w0 (some b)
  by_cases hlt : k < n
  · obtain ⟨blk, off, x, rfl, hx, hcell⟩ := hB.at_ k hlt
    have hne := hap _ rfl
    have HL := hid hB.len
    have hlt2 : (k : Int) + 1 ≤ n := by omega
    clear hB
    go_enter Tryz.func47, Tryz.ntmps47
    go_wp2
    go_quiet (fail)
    replace hg := gD hg nq
    replace h0 : (w0.drewN nq).cell? _ = _ := h0
    replace h1 : (w0.drewN nq).cell? _ = _ := h1
    replace h2 : (w0.drewN nq).cell? _ = _ := h2
    replace hcell : (w0.drewN nq).cell? _ = _ := hcell
    replace f1 : (w0.drewN nq).frozen? _ = _ := f1
    replace f2 : (w0.drewN nq).frozen? _ = _ := f2
    generalize w0.drewN nq = w1 at *
    clear nq
    go_wp2
    go_quiet (fail)
    replace hg := gD hg nq
    replace h0 : (w1.drewN nq).cell? _ = _ := h0
    replace h1 : (w1.drewN nq).cell? _ = _ := h1
    replace h2 : (w1.drewN nq).cell? _ = _ := h2
    replace hcell : (w1.drewN nq).cell? _ = _ := hcell
    replace f1 : (w1.drewN nq).frozen? _ = _ := f1
    replace f2 : (w1.drewN nq).frozen? _ = _ := f2
    generalize w1.drewN nq = w2 at *
    clear nq
    go_wp2
    generalize IntKind.u64.wrap (IntKind.u64.wrap (IntKind.u64.wrap (sd * 6364136223846793005) + (x : Int)) + 1442695040888963407) = sv
    obtain ⟨W3, hW3⟩ : ∃ W3, W3 = ((w2.setCell ⟨b, 1, none⟩ (.int .i64 ((k : Int) + 1))).setCell ⟨b, 2, none⟩ (.int .u64 sv)) := ⟨_, rfl⟩
    have d0 : W3.cell? ⟨b, 0, none⟩ = some (.slice (some ⟨blk, off, none⟩) n c) := by rw [hW3, World.cell?_setCell_other _ _ _ _ (by simp), World.cell?_setCell_other _ _ _ _ (by simp)]; exact h0
    have d1 : W3.cell? ⟨b, 1, none⟩ = some (.int .i64 ((k : Int) + 1)) := by rw [hW3, World.cell?_setCell_other _ _ _ _ (by simp)]; exact World.cell?_setCell_same _ _ _ h1
    have d2 : W3.cell? ⟨b, 2, none⟩ = some (.int .u64 sv) := by rw [hW3]; exact World.cell?_setCell_same _ _ _ ((World.cell?_setCell_other _ _ _ _ (by simp)).trans h2)
    have e1 : W3.frozen? ⟨b, 1, none⟩ = false := by rw [hW3]; simp [f1]
    have e2 : W3.frozen? ⟨b, 2, none⟩ = false := by rw [hW3]; simp [f2]
    have hg3 : w0.grownBy W3 (some b) := by rw [hW3]; exact g2 (g2 hg (grown_setCell _ ⟨b, 1, none⟩ _)) (grown_setCell _ ⟨b, 2, none⟩ _)
    rw [← hW3]
    clear hW3 h0 h1 h2 f1 f2 hg
    go_quiet (fail)
    go_wp2
    go_ret
    refine ⟨x, hx, rfl, ⟨hle, d0, ?_, ⟨sv, d2⟩, e1, e2, hap⟩, gD hg3 _⟩
    rw [show ((k + 1 : Nat) : Int) = (k : Int) + 1 by omega]
    exact d1
  · have hge : n ≤ k := by omega
    have hlt2 : ¬ ((k : Int) + 1 ≤ n) := by omega
    go_enter Tryz.func47, Tryz.ntmps47
    go_wp2
    go_quiet (fail)
    replace hg := gD hg nq
    replace h0 : (w0.drewN nq).cell? _ = _ := h0
    replace h1 : (w0.drewN nq).cell? _ = _ := h1
    replace h2 : (w0.drewN nq).cell? _ = _ := h2
    replace f1 : (w0.drewN nq).frozen? _ = _ := f1
    replace f2 : (w0.drewN nq).frozen? _ = _ := f2
    generalize w0.drewN nq = w1 at *
    clear nq
    go_wp2
    have hsv := u64_range (IntKind.u64.wrap (IntKind.u64.wrap (sd * 6364136223846793005)) + 1442695040888963407)
    generalize IntKind.u64.wrap (IntKind.u64.wrap (IntKind.u64.wrap (sd * 6364136223846793005)) + 1442695040888963407) = sv at hsv ⊢
    obtain ⟨W3, hW3⟩ : ∃ W3, W3 = ((w1.setCell ⟨b, 1, none⟩ (.int .i64 ((k : Int) + 1))).setCell ⟨b, 2, none⟩ (.int .u64 sv)) := ⟨_, rfl⟩
    have d0 : W3.cell? ⟨b, 0, none⟩ = some (.slice a n c) := by rw [hW3, World.cell?_setCell_other _ _ _ _ (by simp), World.cell?_setCell_other _ _ _ _ (by simp)]; exact h0
    have d1 : W3.cell? ⟨b, 1, none⟩ = some (.int .i64 ((k : Int) + 1)) := by rw [hW3, World.cell?_setCell_other _ _ _ _ (by simp)]; exact World.cell?_setCell_same _ _ _ h1
    have d2 : W3.cell? ⟨b, 2, none⟩ = some (.int .u64 sv) := by rw [hW3]; exact World.cell?_setCell_same _ _ _ ((World.cell?_setCell_other _ _ _ _ (by simp)).trans h2)
    have e1 : W3.frozen? ⟨b, 1, none⟩ = false := by rw [hW3]; simp [f1]
    have e2 : W3.frozen? ⟨b, 2, none⟩ = false := by rw [hW3]; simp [f2]
    have hg3 : w0.grownBy W3 (some b) := by rw [hW3]; exact g2 (g2 hg (grown_setCell _ ⟨b, 1, none⟩ _)) (grown_setCell _ ⟨b, 2, none⟩ _)
    rw [← hW3]
    clear hW3 h0 h1 h2 f1 f2 hg
    go_quiet (fail)
    go_wp2
    obtain ⟨x, hx, he⟩ := low_byte sv hsv.1 hsv.2
    rw [he]
    go_ret
    refine ⟨x, hx, rfl, ⟨hle, d0, ?_, ⟨sv, d2⟩, e1, e2, hap⟩, gD hg3 _⟩
    rw [show ((k + 1 : Nat) : Int) = (k : Int) + 1 by omega]
    exact d1

theorem curB_grown {w w' : World} {b : Nat} {a : Option Addr} {n : Nat} (hB : ByS w a n) (hap : ∀ p, a = some p → p.block < b) (hb : b < w.heap.size) (hg : w.grownBy w' (some b)) : ByS w' a n :=
  ⟨hB.len, fun i hi => by
    obtain ⟨blk, off, x, ha, hx, hc⟩ := hB.at_ i hi
    have := hap _ ha
    exact ⟨blk, off, x, ha, hx, (by simp only [World.cell?]; rw [hg.block blk (by simp only at this; omega) (by simp only [ne_eq, Option.some.injEq] at this ⊢; omega)] : w'.cell? ⟨blk, off + i, none⟩ = w.cell? ⟨blk, off + i, none⟩).trans hc⟩⟩

set_option maxHeartbeats 1000000 in
theorem pick_any (b : Nat) (a : Option Addr) (n c k m : Nat) (w : World) (hm : 2 ≤ m) (hm2 : m ≤ 200) (hB : ByS w a n) (hC : CurB w b a n c k) (hk : k ≤ 100000000) :
    Calls Tryz.prog 13 #[.pointer (some ⟨b, 0, none⟩), .int .i64 m] w fun e w' => ∃ x : Nat, x < m ∧ e = .returned (.int .i64 x) ∧ CurB w' b a n c (k + 1) ∧ w.grownBy w' (some b) := by
  have d1 : decide ((m : Int) ≤ 1) = false := by simp; omega
  have d2 : decide ((m : Int) > 200) = false := by simp; omega
  go_enter Tryz.func13, Tryz.ntmps13
  go_wp2_with fail
  refine (next_any b a n c k _ hB hC hk).mono ?_
  rintro e w1 ⟨x, hx, rfl, hC1, hg1⟩
  go_wp2_with fail
  go_ret
  exact ⟨x % m, Nat.mod_lt _ (by omega), by rw [Int.natCast_emod]; rfl, hC1, hg1⟩

set_option maxHeartbeats 1000000 in
theorem one_any (b : Nat) (a : Option Addr) (n c k m : Nat) (w : World) (hm : 2 ≤ m) (hm2 : m ≤ 200) (hB : ByS w a n) (hC : CurB w b a n c k) (hk : k ≤ 100000000) :
    Calls Tryz.prog 14 #[.pointer (some ⟨b, 0, none⟩), .int .i64 m] w fun e w' => ∃ x : Bool, e = .returned (.bool x) ∧ CurB w' b a n c (k + 1) ∧ w.grownBy w' (some b) := by
  go_enter Tryz.func14, Tryz.ntmps14
  go_wp2_with fail
  refine (pick_any b a n c k m _ hm hm2 hB hC hk).mono ?_
  rintro e w1 ⟨x, hx, rfl, hC1, hg1⟩
  go_wp2_with fail
  go_ret
  exact ⟨_, rfl, hC1, hg1⟩

set_option maxHeartbeats 1000000 in
theorem of_any (b : Nat) (a : Option Addr) (n c k : Nat) (xs : List ByteArray) (base : Nat) (v : Value) (w : World) (hm : 2 ≤ xs.length) (hm2 : xs.length ≤ 200) (hbb : b < base) (hB : ByS w a n) (hC : CurB w b a n c k) (hk : k ≤ 100000000)
    (hrow : w.ownsRow base 9 1 v xs.length (xs.map Value.string)) :
    Calls Tryz.prog 48 #[.pointer (some ⟨b, 0, none⟩), v] w fun e w' => ∃ x ∈ xs, e = .returned (.string x) ∧ CurB w' b a n c (k + 1) ∧ w.grownBy w' (some b) := by
  rcases hrow.2 with ⟨_, h'⟩ | ⟨g, cap, cur, rfl, hg, _, hcap, _⟩
  · omega
  · go_enter Tryz.func48, Tryz.ntmps48
    go_wp2_with fail
    refine (pick_any b a n c k xs.length _ hm hm2 hB hC hk).mono ?_
    rintro e w1 ⟨x, hx, rfl, hC1, hg1⟩
    have hrow1 := hrow.kept hg1 (.inr (by simp [Value.ownBlock]; omega))
    have hc : w1.cell? ⟨g, x, none⟩ = some (.string xs[x]) := by
      rw [hrow1.cellAt x (by omega), List.getElem?_map, List.getElem?_eq_getElem hx]
      rfl
    go_wp2_with fail
    go_ret
    exact ⟨_, List.getElem_mem hx, rfl, hC1, hg1⟩

theorem CurB.lt {w : World} {b : Nat} {a : Option Addr} {n c k : Nat} (h : CurB w b a n c k) : b < w.heap.size := World.block_lt_of_cell? w ⟨b, 0, none⟩ h.c0
theorem CurB.below {w w' : World} {b : Nat} {a : Option Addr} {n c k : Nat} (h : CurB w b a n c k) (hB : Below w.heap.size w w') : CurB w' b a n c k := by
  have hlt := h.lt
  obtain ⟨sd, h2⟩ := h.c2
  exact ⟨h.le, (hB.cell (p := ⟨b, 0, none⟩) hlt).trans h.c0, (hB.cell (p := ⟨b, 1, none⟩) hlt).trans h.c1, ⟨sd, (hB.cell (p := ⟨b, 2, none⟩) hlt).trans h2⟩, (hB.frozen (p := ⟨b, 1, none⟩) hlt).trans h.f1, (hB.frozen (p := ⟨b, 2, none⟩) hlt).trans h.f2, h.apart⟩
theorem ByS.below {w w' : World} {a : Option Addr} {n : Nat} (h : ByS w a n) (hB : Below w.heap.size w w') : ByS w' a n :=
  ⟨h.len, fun i hi => by
    obtain ⟨blk, off, x, ha, hx, hc⟩ := h.at_ i hi
    exact ⟨blk, off, x, ha, hx, (hB.cell (p := ⟨blk, off + i, none⟩) (World.block_lt_of_cell? w ⟨blk, off + i, none⟩ hc)).trans hc⟩⟩
theorem row_new (w : World) (xs : List ByteArray) (h : xs.length ≤ maxLen) : (w.alloc (.cells (xs.map Value.string).toArray 9)).ownsRow w.heap.size 9 1 (.slice (some ⟨w.heap.size, 0, none⟩) xs.length xs.length) xs.length (xs.map Value.string) :=
  ⟨by simp, .inr ⟨w.heap.size, xs.length, (xs.map Value.string).toArray, rfl, Nat.le_refl _, by show (w.heap.push _)[w.heap.size]? = _; rw [Array.getElem?_push_size], Nat.le_refl _, h, by simp, by simp [List.take_of_length_le]⟩⟩

/-- One of the texts of a list that is made at once. -/
theorem ofNew_any (b : Nat) (a : Option Addr) (n c k : Nat) (xs : List ByteArray) (w : World) (hm : 2 ≤ xs.length) (hm2 : xs.length ≤ 200) (hB : ByS w a n) (hC : CurB w b a n c k) (hk : k ≤ 100000000) :
    Calls Tryz.prog 48 #[.pointer (some ⟨b, 0, none⟩), .slice (some ⟨w.heap.size, 0, none⟩) xs.length xs.length] (w.alloc (.cells (xs.map Value.string).toArray 9)) fun e w' => ∃ x ∈ xs, e = .returned (.string x) ∧ ByS w' a n ∧ CurB w' b a n c (k + 1) ∧ w.grownBy w' (some b) := by
  have hBl : Below w.heap.size w (w.alloc (.cells (xs.map Value.string).toArray 9)) := (Below.refl _ w).alloc (Nat.le_refl _) _
  have hC' := hC.below hBl
  refine (of_any b a n c k xs w.heap.size _ _ hm hm2 hC.lt (hB.below hBl) hC' hk (row_new w xs (by unfold maxLen; omega))).mono ?_
  rintro e w1 ⟨x, hx, rfl, hC1, hg1⟩
  exact ⟨x, hx, rfl, curB_grown (hB.below hBl) hC.apart hC'.lt hg1, hC1, g2 (gB (gS w _) hBl) hg1⟩

end Go.Proofs.YtallpldgkkpikaaGreatDoor

namespace Go.Proofs.YtallpldgkkpikaaGreatDoor
open Go.RowKit Go.Shelf

/-- A text that does not begin with an n. -/
def noN (x : ByteArray) : Prop := x.data.toList.head? ≠ some 110

set_option maxHeartbeats 1000000 in
theorem drawNm_any (b : Nat) (a : Option Addr) (n c k : Nat) (w : World) (hB : ByS w a n) (hC : CurB w b a n c k) (hk : k ≤ 10000000) :
    Calls Tryz.prog 16 #[.pointer (some ⟨b, 0, none⟩)] w fun e w' => ∃ x : ByteArray, (x.size ≤ 100 ∧ noN x) ∧ e = .returned (.string x) ∧ ByS w' a n ∧ (∃ k', k' ≤ k + 10 ∧ CurB w' b a n c k') ∧ w.grownBy w' (some b) := by
  go_enter Tryz.func16, Tryz.ntmps16
  go_wp2_with fail
  refine (one_any b a n c k 30 w (by omega) (by omega) hB hC (by omega)).mono ?_
  rintro e w1 ⟨z, rfl, hC1, hg1⟩
  have hB1 := curB_grown hB hC.apart hC.lt hg1
  cases z
  · go_wp2_with fail
    refine (ofNew_any b a n c (k + 1) [⟨#[112, 114, 111, 100]⟩, ⟨#[100, 101, 118]⟩] w1 (by decide) (by decide) hB1 hC1 (by omega)).mono ?_
    rintro e w2 ⟨x, hx, rfl, hB2, hC2, hg2⟩
    have HX := hid hx
    have hzx : x.size ≤ 4 := by
      simp only [List.mem_cons, List.mem_nil_iff, or_false] at hx
      rcases hx with rfl | rfl <;> decide
    clear hx
    go_wp2_with fail
    refine (ofNew_any b a n c (k + 1 + 1) [⟨#[119, 101, 98]⟩, ⟨#[97, 112, 105]⟩, ⟨#[100, 98]⟩] w2 (by decide) (by decide) hB2 hC2 (by omega)).mono ?_
    rintro e w3 ⟨y, hy, rfl, hB3, hC3, hg3⟩
    have hzy : y.size ≤ 4 := by
      simp only [List.mem_cons, List.mem_nil_iff, or_false] at hy
      rcases hy with rfl | rfl | rfl <;> decide
    have hz : (x ++ ⟨#[47]⟩ ++ y).size ≤ 100 ∧ noN (x ++ ⟨#[47]⟩ ++ y) := by
      have hx := HX.out
      simp only [List.mem_cons, List.mem_nil_iff, or_false] at hx hy
      unfold noN
      rcases hx with rfl | rfl <;> rcases hy with rfl | rfl | rfl <;> decide +kernel
    clear hy HX
    go_wp2_with fail
    go_ret
    exact ⟨_, hz, rfl, hB3, ⟨_, by omega, hC3⟩, g2 (g2 hg1 hg2) hg3⟩
  · go_wp2_with fail
    refine (ofNew_any b a n c (k + 1) [⟨#[]⟩, ⟨#[97]⟩, ⟨#[97, 47, 98, 47, 99]⟩, ⟨#[65, 47, 98]⟩, ⟨#[97, 47]⟩] w1 (by decide) (by decide) hB1 hC1 (by omega)).mono ?_
    rintro e w2 ⟨x, hx, rfl, hB2, hC2, hg2⟩
    have hz : x.size ≤ 100 ∧ noN x := by
      simp only [List.mem_cons, List.mem_nil_iff, or_false] at hx
      unfold noN
      rcases hx with rfl | rfl | rfl | rfl | rfl <;> decide +kernel
    clear hx
    go_wp2_with fail
    go_ret
    exact ⟨x, hz, rfl, hB2, ⟨_, by omega, hC2⟩, g2 hg1 hg2⟩

theorem row_newI (w : World) (zs : List Int) (h : zs.length ≤ maxLen) : (w.alloc (.cells (zs.map (Value.int .i64)).toArray 3)).ownsRow w.heap.size 3 1 (.slice (some ⟨w.heap.size, 0, none⟩) zs.length zs.length) zs.length (zs.map (Value.int .i64)) :=
  ⟨by simp, .inr ⟨w.heap.size, zs.length, (zs.map (Value.int .i64)).toArray, rfl, Nat.le_refl _, by show (w.heap.push _)[w.heap.size]? = _; rw [Array.getElem?_push_size], Nat.le_refl _, h, by simp, by simp [List.take_of_length_le]⟩⟩

set_option maxHeartbeats 1000000 in
theorem among_any (b : Nat) (a : Option Addr) (n c k : Nat) (zs : List Int) (base : Nat) (v : Value) (w : World) (hm : 2 ≤ zs.length) (hm2 : zs.length ≤ 200) (hbb : b < base) (hB : ByS w a n) (hC : CurB w b a n c k) (hk : k ≤ 100000000)
    (hrow : w.ownsRow base 3 1 v zs.length (zs.map (Value.int .i64))) :
    Calls Tryz.prog 15 #[.pointer (some ⟨b, 0, none⟩), v] w fun e w' => ∃ z ∈ zs, e = .returned (.int .i64 z) ∧ CurB w' b a n c (k + 1) ∧ w.grownBy w' (some b) := by
  rcases hrow.2 with ⟨_, h'⟩ | ⟨g, cap, cur, rfl, hg, _, hcap, _⟩
  · omega
  · go_enter Tryz.func15, Tryz.ntmps15
    go_wp2_with fail
    refine (pick_any b a n c k zs.length _ hm hm2 hB hC hk).mono ?_
    rintro e w1 ⟨x, hx, rfl, hC1, hg1⟩
    have hrow1 := hrow.kept hg1 (.inr (by simp [Value.ownBlock]; omega))
    have hc : w1.cell? ⟨g, x, none⟩ = some (.int .i64 zs[x]) := by
      rw [hrow1.cellAt x (by omega), List.getElem?_map, List.getElem?_eq_getElem hx]
      rfl
    go_wp2_with fail
    go_ret
    exact ⟨_, List.getElem_mem hx, rfl, hC1, hg1⟩

/-- One of the numbers of a list that is made at once. -/
theorem amongNew_any (b : Nat) (a : Option Addr) (n c k : Nat) (zs : List Int) (w : World) (hm : 2 ≤ zs.length) (hm2 : zs.length ≤ 200) (hB : ByS w a n) (hC : CurB w b a n c k) (hk : k ≤ 100000000) :
    Calls Tryz.prog 15 #[.pointer (some ⟨b, 0, none⟩), .slice (some ⟨w.heap.size, 0, none⟩) zs.length zs.length] (w.alloc (.cells (zs.map (Value.int .i64)).toArray 3)) fun e w' => ∃ z ∈ zs, e = .returned (.int .i64 z) ∧ ByS w' a n ∧ CurB w' b a n c (k + 1) ∧ w.grownBy w' (some b) := by
  have hBl : Below w.heap.size w (w.alloc (.cells (zs.map (Value.int .i64)).toArray 3)) := (Below.refl _ w).alloc (Nat.le_refl _) _
  have hC' := hC.below hBl
  refine (among_any b a n c k zs w.heap.size _ _ hm hm2 hC.lt (hB.below hBl) hC' hk (row_newI w zs (by unfold maxLen; omega))).mono ?_
  rintro e w1 ⟨x, hx, rfl, hC1, hg1⟩
  exact ⟨x, hx, rfl, curB_grown (hB.below hBl) hC.apart hC'.lt hg1, hC1, g2 (gB (gS w _) hBl) hg1⟩

end Go.Proofs.YtallpldgkkpikaaGreatDoor

namespace Go.Proofs.YtallpldgkkpikaaGreatDoor
open Go.RowKit Go.Shelf

/-- What a drawn link's names are. -/
def Lk.drawn (k : Lk) : Prop := k.who.size ≤ 100 ∧ k.to.size ≤ 100 ∧ noN k.to
theorem Lk.drawn.fits {k : Lk} (h : k.drawn) : k.size ≤ 1048576 := by
  have h1 := h.1
  have h2 := h.2.1
  unfold Lk.size
  omega
theorem row_one5 (w : World) (k : Lk) : (w.alloc (.cells #[.string k.who, .string k.to, .int .i64 k.se, .int .i64 k.fr, .int .i64 k.un] 38)).ownsRow w.heap.size 38 5 (.slice (some ⟨w.heap.size, 0, none⟩) 1 1) 1 k.cells :=
  ⟨by simp, .inr ⟨w.heap.size, 1, #[.string k.who, .string k.to, .int .i64 k.se, .int .i64 k.fr, .int .i64 k.un], rfl, Nat.le_refl _, by show (w.heap.push _)[w.heap.size]? = _; rw [Array.getElem?_push_size], Nat.le_refl _, by unfold maxLen; omega, by simp, by simp⟩⟩
theorem CurB.belowM {w w' : World} {b N : Nat} {a : Option Addr} {n c k : Nat} (h : CurB w b a n c k) (hB : Below N w w') (hb : b < N) : CurB w' b a n c k := by
  obtain ⟨sd, h2⟩ := h.c2
  exact ⟨h.le, (hB.cell (p := ⟨b, 0, none⟩) hb).trans h.c0, (hB.cell (p := ⟨b, 1, none⟩) hb).trans h.c1, ⟨sd, (hB.cell (p := ⟨b, 2, none⟩) hb).trans h2⟩, (hB.frozen (p := ⟨b, 1, none⟩) hb).trans h.f1, (hB.frozen (p := ⟨b, 2, none⟩) hb).trans h.f2, h.apart⟩
theorem gBM {w W w2 : World} {r : Option Nat} (h : w.grownBy W r) (hB : Below w.heap.size W w2) : w.grownBy w2 r :=
  ⟨hB.os.trans h.os, hB.tape.trans h.tape, hB.output.trans h.output, Nat.le_trans h.size hB.size, fun k hk hne => (hB.block k hk).trans (h.block k hk hne)⟩
/-- A list of links is being drawn, from the world w on. -/
structure KS (w : World) (b : Nat) (a : Option Addr) (n c : Nat) (wr : World) (v : Value) (ks : List Lk) (q : Nat) : Prop where
  row : wr.ownsRow w.heap.size 38 5 v ks.length (ks.flatMap Lk.cells)
  small : ∀ k ∈ ks, k.drawn
  by_ : ByS wr a n
  cur : CurB wr b a n c q
  gr : w.grownBy wr (some b)
theorem KS.grown {w wr w' : World} {b : Nat} {a : Option Addr} {n c q q' : Nat} {v : Value} {ks : List Lk} (h : KS w b a n c wr v ks q) (hb : b < w.heap.size) (hg : wr.grownBy w' (some b)) (hB : ByS w' a n) (hC : CurB w' b a n c q') : KS w b a n c w' v ks q' :=
  ⟨h.row.kept hg (by
    rcases h.row.2 with ⟨rfl, _⟩ | ⟨g, cap, cur, rfl, hgb, _⟩
    · exact .inl rfl
    · right
      simp only [Value.ownBlock, ne_eq, Option.some.injEq]
      omega), h.small, hB, hC, g2 h.gr hg⟩
theorem KS.below {w wr w' : World} {b : Nat} {a : Option Addr} {n c q : Nat} {v : Value} {ks : List Lk} (h : KS w b a n c wr v ks q) (hB : Below wr.heap.size wr w') : KS w b a n c w' v ks q :=
  ⟨ownsRow_below h.row hB, h.small, h.by_.below hB, h.cur.below hB, gB h.gr hB⟩
theorem KS.other {w wr w' : World} {b : Nat} {a : Option Addr} {n c q : Nat} {v v' : Value} {ks ks' : List Lk} (h : KS w b a n c wr v ks q) (hB : Below wr.heap.size wr w') (hrow : w'.ownsRow wr.heap.size 38 5 v' ks'.length (ks'.flatMap Lk.cells)) (hs : ∀ k ∈ ks', k.drawn) : KS w b a n c w' v' ks' q :=
  ⟨Go.Joins.ownsRow_le hrow h.gr.size, hs, h.by_.below hB, h.cur.below hB, gB h.gr hB⟩
theorem KS.start {w wr : World} {b : Nat} {a : Option Addr} {n c q : Nat} (k : Lk) (hk : k.drawn) (hB : ByS wr a n) (hC : CurB wr b a n c q) (hg : w.grownBy wr (some b)) : KS w b a n c (wr.alloc (.cells #[.string k.who, .string k.to, .int .i64 k.se, .int .i64 k.fr, .int .i64 k.un] 38)) (.slice (some ⟨wr.heap.size, 0, none⟩) 1 1) [k] q :=
  have hA : Below wr.heap.size wr (wr.alloc (.cells #[.string k.who, .string k.to, .int .i64 k.se, .int .i64 k.fr, .int .i64 k.un] 38)) := (Below.refl _ wr).alloc (Nat.le_refl _) _
  ⟨by simpa using Go.Joins.ownsRow_le (row_one5 wr k) hg.size, fun x hx => by rw [List.mem_singleton] at hx; subst hx; exact hk, hB.below hA, hC.below hA, gB hg hA⟩
theorem ext_drawn {ks : List Lk} {t : ByteArray} {se nw li : Int} (h : ∀ k ∈ ks, k.drawn) (ht : t.size ≤ 100 ∧ noN t) : ∀ k ∈ extL ks t se nw li, k.drawn := by
  unfold extL
  cases hk : ks[ks.length - 1]? with
  | none => intro k hx; cases hx
  | some k0 =>
    simp only
    split
    · intro k hx
      rw [List.mem_append, List.mem_singleton] at hx
      rcases hx with hx | rfl
      · exact h k hx
      · exact ⟨(h k0 (List.mem_of_getElem? hk)).2.1, ht.1, ht.2⟩
    · intro k hx; cases hx
theorem ext_some {ks : List Lk} {t : ByteArray} {se nw li : Int} (h : extB ks t se nw li = true) : 1 ≤ (extL ks t se nw li).length := by
  unfold extL
  cases hk : ks[ks.length - 1]? with
  | none => unfold extB at h; rw [hk] at h; cases h
  | some k0 =>
    simp only
    rw [if_pos h]
    simp
theorem lflat_set : ∀ (ks : List Lk) (i j : Nat) (u : Value) (k : Lk) (hi : i < ks.length), j < 5 → k.cells = ks[i].cells.set j u → (ks.flatMap Lk.cells).set (i * 5 + j) u = (ks.set i k).flatMap Lk.cells
  | [], i, j, u, k, hi, _, _ => by simp at hi
  | x :: ks, 0, j, u, k, hi, hj, hu => by
    rw [List.flatMap_cons, List.set_append_left _ _ (by simp; omega), List.set_cons_zero, List.flatMap_cons, hu]
    simp
  | x :: ks, i + 1, j, u, k, hi, hj, hu => by
    rw [List.flatMap_cons, List.set_append_right _ _ (by simp; omega), List.set_cons_succ, List.flatMap_cons, ← lflat_set ks i j u k (by simpa using hi) hj (by simpa using hu)]
    congr 2
    simp
    omega
theorem set_drawn {ks : List Lk} {i : Nat} {k : Lk} (h : ∀ k ∈ ks, k.drawn) (hk : k.drawn) : ∀ x ∈ ks.set i k, x.drawn := by
  intro x hx
  rcases List.mem_or_eq_of_mem_set hx with hx | rfl
  · exact h x hx
  · exact hk

end Go.Proofs.YtallpldgkkpikaaGreatDoor

namespace Go.Proofs.YtallpldgkkpikaaGreatDoor
open Go.RowKit Go.Shelf

/-- What is left of a budget. -/
def leftK (n : Int) (s : Nat) : Int := if (s : Int) ≤ n then n - s else -1
/-- A row of one's own, in a block from base on, below top. -/
def RoO (T : TypeId) (c : Nat) (w : World) (base top : Nat) (v : Value) (n : Nat) (xs : List Value) : Prop := w.ownsRow base T c v n xs ∧ ∀ k, v.ownBlock = some k → k < top
theorem RoO.of {T : TypeId} {c : Nat} {w : World} {base : Nat} {v : Value} {n : Nat} {xs : List Value} (h : w.ownsRow base T c v n xs) : RoO T c w base w.heap.size v n xs := ⟨h, fun k hk => (h.lt k hk).2⟩
theorem RoO.len {T : TypeId} {c : Nat} {w : World} {base top : Nat} {v : Value} {n : Nat} {xs : List Value} (h : RoO T c w base top v n xs) : ∃ a cap, v = .slice a n cap := by
  rcases row_form h.1 with ⟨rfl, rfl⟩ | ⟨g, cap, rfl, _, _⟩
  · exact ⟨_, _, rfl⟩
  · exact ⟨_, _, rfl⟩
theorem RoO.mid {lo hi : Nat} {w w1 : World} {T : TypeId} {c base top : Nat} {v : Value} {n : Nat} {xs : List Value} (h : RoO T c w base top v n xs) (M : Mid lo hi w w1) (ho : hi ≤ base ∨ top ≤ lo) : RoO T c w1 base top v n xs :=
  ⟨M.row h.1 (fun k hk => by have := h.1.lt k hk; have := h.2 k hk; omega), h.2⟩
theorem RoO.below {w w1 : World} {T : TypeId} {c base top : Nat} {v : Value} {n : Nat} {xs : List Value} (h : RoO T c w base top v n xs) (hB : Below w.heap.size w w1) : RoO T c w1 base top v n xs := ⟨ownsRow_below h.1 hB, h.2⟩
theorem RoO.mono {w : World} {T : TypeId} {c base base' top top' : Nat} {v : Value} {n : Nat} {xs : List Value} (h : RoO T c w base top v n xs) (hb : base' ≤ base) (ht : top ≤ top') : RoO T c w base' top' v n xs :=
  ⟨Go.Joins.ownsRow_le h.1 hb, fun k hk => Nat.lt_of_lt_of_le (h.2 k hk) ht⟩

/-- A slice reads as this list, c cells each. -/
def GsA {X : Type} (c : Nat) (A : World → List Value → X → Prop) (w : World) (v : Value) (xs : List X) : Prop :=
  (∃ a cap, v = .slice a 0 cap ∧ xs = []) ∨
  ∃ b off cap, v = .slice (some ⟨b, off, none⟩) xs.length cap ∧ b < w.heap.size ∧ xs.length ≤ cap ∧ ∀ i (h : i < xs.length), ∃ cs : List Value, cs.length = c ∧ (∀ j y, cs[j]? = some y → w.cell? ⟨b, off + i * c + j, none⟩ = some y) ∧ A w cs xs[i]
theorem GsA.below {X : Type} {c : Nat} {A : World → List Value → X → Prop} {w w' : World} {v : Value} {xs : List X} (h : GsA c A w v xs) (hA : ∀ cs x, A w cs x → A w' cs x) (hB : Below w.heap.size w w') : GsA c A w' v xs := by
  rcases h with h | ⟨b, off, cap, hv, hb, hl, hc⟩
  · exact .inl h
  · refine .inr ⟨b, off, cap, hv, Nat.lt_of_lt_of_le hb hB.size, hl, fun i hi => ?_⟩
    obtain ⟨cs, h1, h2, h3⟩ := hc i hi
    exact ⟨cs, h1, fun j y hy => (hB.cell (p := ⟨b, _, none⟩) hb).trans (h2 j y hy), hA _ _ h3⟩
theorem GsA.len {X : Type} {c : Nat} {A : World → List Value → X → Prop} {w : World} {v : Value} {xs : List X} (h : GsA c A w v xs) : ∃ a cap, v = .slice a xs.length cap := by
  rcases h with ⟨a, cap, hv, rfl⟩ | ⟨b, off, cap, hv, _⟩
  · exact ⟨a, cap, hv⟩
  · exact ⟨_, cap, hv⟩
theorem GsA.at {X : Type} {c : Nat} {A : World → List Value → X → Prop} {w : World} {a : Option Addr} {n cap : Nat} {xs : List X} (h : GsA c A w (.slice a n cap) xs) {i : Nat} (hi : i < xs.length) :
    ∃ b off cs, a = some ⟨b, off, none⟩ ∧ b < w.heap.size ∧ n ≤ cap ∧ (∀ j y, cs[j]? = some y → w.cell? ⟨b, off + i * c + j, none⟩ = some y) ∧ A w cs xs[i] := by
  rcases h with ⟨_, _, _, rfl⟩ | ⟨b, off, cap, hv, hb, hl, hc⟩
  · simp at hi
  · cases hv
    obtain ⟨cs, h1, h2, h3⟩ := hc i hi
    exact ⟨b, off, cs, rfl, hb, hl, h2, h3⟩

/-- A row of n places, of which the first k hold these, each with blocks of its own, from s i on, below t i. -/
structure GsK {X : Type} (e : TypeId) (c : Nat) (O : World → Nat → Nat → List Value → X → Prop) (w : World) (base top : Nat) (v : Value) (n : Nat) (xs : List X) (k : Nat) (ys : List Value) (cs : Nat → List Value) (s t : Nat → Nat) : Prop where
  row : w.ownsRow base e c v n ys
  rlt : ∀ g, v.ownBlock = some g → g < top
  len : ∀ i, i < k → (cs i).length = c
  cel : ∀ i, i < k → ∀ j, j < c → ys[i * c + j]? = (cs i)[j]?
  own : ∀ i (h : i < xs.length), i < k → O w (s i) (t i) (cs i) xs[i]
  lo : ∀ i, i < k → base ≤ s i
  up : ∀ i, i < k → s i ≤ t i
  ord : ∀ i j, i < j → j < k → t i ≤ s j
  hi : ∀ i, i < k → t i ≤ top
  apart : ∀ i, i < k → ∀ g, v.ownBlock = some g → g < s i ∨ t i ≤ g
/-- A list of one's own. -/
def GsO {X : Type} (e : TypeId) (c : Nat) (O : World → Nat → Nat → List Value → X → Prop) (w : World) (base top : Nat) (v : Value) (xs : List X) : Prop := ∃ ys cs s t, GsK e c O w base top v xs.length xs xs.length ys cs s t
theorem GsO.len {X : Type} {e : TypeId} {c : Nat} {O : World → Nat → Nat → List Value → X → Prop} {w : World} {base top : Nat} {v : Value} {xs : List X} (h : GsO e c O w base top v xs) : ∃ a cap, v = .slice a xs.length cap := by
  obtain ⟨ys, cs, s, t, h⟩ := h
  exact RoO.len (RoO.of h.row)
theorem GsO.a {X : Type} {e : TypeId} {c : Nat} {O : World → Nat → Nat → List Value → X → Prop} {A : World → List Value → X → Prop} {w : World} {base top : Nat} {v : Value} {xs : List X} (hA : ∀ b t cs x, O w b t cs x → A w cs x) (h : GsO e c O w base top v xs) : GsA c A w v xs := by
  obtain ⟨ys, cs, s, t, h⟩ := h
  rcases row_form h.row with ⟨rfl, h0⟩ | ⟨g, cap, rfl, hg, hcap⟩
  · exact .inl ⟨_, _, rfl, List.eq_nil_of_length_eq_zero h0⟩
  · refine .inr ⟨g, 0, cap, rfl, (h.row.lt g rfl).2, hcap, fun i hi => ⟨cs i, h.len i hi, fun j y hy => ?_, hA _ _ _ _ (h.own i hi hi)⟩⟩
    have hj : j < c := by
      have := (List.getElem?_eq_some_iff.1 hy).1
      rwa [h.len i hi] at this
    have hij : i * c + j < xs.length * c := by
      have : (i + 1) * c ≤ xs.length * c := Nat.mul_le_mul_right c hi
      rw [Nat.add_mul, Nat.one_mul] at this
      omega
    rw [Nat.zero_add, h.row.cellAt (i * c + j) hij, h.cel i hi j hj]
    exact hy
theorem GsK.mid {X : Type} {e : TypeId} {c : Nat} {O : World → Nat → Nat → List Value → X → Prop} {lo hi : Nat} {w w1 : World} {base top : Nat} {v : Value} {n : Nat} {xs : List X} {k : Nat} {ys : List Value} {cs : Nat → List Value} {s t : Nat → Nat} (h : GsK e c O w base top v n xs k ys cs s t)
    (hO : ∀ b t cs x, O w b t cs x → (hi ≤ b ∨ t ≤ lo) → O w1 b t cs x) (M : Mid lo hi w w1) (ho : hi ≤ base ∨ top ≤ lo) : GsK e c O w1 base top v n xs k ys cs s t :=
  ⟨M.row h.row (fun g hg => by have := h.row.lt g hg; have := h.rlt g hg; omega), h.rlt, h.len, h.cel, fun i hi hk => hO _ _ _ _ (h.own i hi hk) (by have := h.lo i hk; have := h.hi i hk; omega), h.lo, h.up, h.ord, h.hi, h.apart⟩
theorem GsO.mid {X : Type} {e : TypeId} {c : Nat} {O : World → Nat → Nat → List Value → X → Prop} {lo hi : Nat} {w w1 : World} {base top : Nat} {v : Value} {xs : List X} (h : GsO e c O w base top v xs)
    (hO : ∀ b t cs x, O w b t cs x → (hi ≤ b ∨ t ≤ lo) → O w1 b t cs x) (M : Mid lo hi w w1) (ho : hi ≤ base ∨ top ≤ lo) : GsO e c O w1 base top v xs := by
  obtain ⟨ys, cs, s, t, h⟩ := h
  exact ⟨ys, cs, s, t, h.mid hO M ho⟩
theorem GsO.mono {X : Type} {e : TypeId} {c : Nat} {O : World → Nat → Nat → List Value → X → Prop} {w : World} {base base' top top' : Nat} {v : Value} {xs : List X} (h : GsO e c O w base top v xs) (hb : base' ≤ base) (ht : top ≤ top') : GsO e c O w base' top' v xs := by
  obtain ⟨ys, cs, s, t, h⟩ := h
  exact ⟨ys, cs, s, t, Go.Joins.ownsRow_le h.row hb, fun g hg => Nat.lt_of_lt_of_le (h.rlt g hg) ht, h.len, h.cel, h.own, fun i hi => Nat.le_trans hb (h.lo i hi), h.up, h.ord, fun i hi => Nat.le_trans (h.hi i hi) ht, h.apart⟩
theorem GsK.start {X : Type} (e : TypeId) (c : Nat) (O : World → Nat → Nat → List Value → X → Prop) (w : World) (base top : Nat) (v : Value) (n : Nat) (xs : List X) (ys : List Value) (h : w.ownsRow base e c v n ys) (ht : ∀ g, v.ownBlock = some g → g < top) : GsK e c O w base top v n xs 0 ys (fun _ => []) (fun _ => base) (fun _ => base) :=
  ⟨h, ht, fun _ h => absurd h (Nat.not_lt_zero _), fun _ h => absurd h (Nat.not_lt_zero _), fun _ _ h => absurd h (Nat.not_lt_zero _), fun _ h => absurd h (Nat.not_lt_zero _), fun _ h => absurd h (Nat.not_lt_zero _), fun _ _ _ h => absurd h (Nat.not_lt_zero _), fun _ h => absurd h (Nat.not_lt_zero _), fun _ h => absurd h (Nat.not_lt_zero _)⟩
theorem GsO.empty {X : Type} (e : TypeId) (c : Nat) (O : World → Nat → Nat → List Value → X → Prop) (w : World) (base top : Nat) : GsO e c O w base top (.slice none 0 0) [] :=
  ⟨_, _, _, _, GsK.start e c O w base top _ _ _ [] (World.ownsRow_nil _ _ _ _) (fun _ h => by simp [Value.ownBlock] at h)⟩

/-- Cells stored one behind the other. -/
def sets (w : World) (g o : Nat) : List Value → World
  | [] => w
  | y :: ys => sets (w.setCell ⟨g, o, none⟩ y) g (o + 1) ys
def setL (xs : List Value) (o : Nat) : List Value → List Value
  | [] => xs
  | y :: ys => setL (xs.set o y) (o + 1) ys
theorem sets_size (g : Nat) (ys : List Value) : ∀ (w : World) (o : Nat), (sets w g o ys).heap.size = w.heap.size := by
  induction ys with
  | nil => intro w o; rfl
  | cons y ys ih => intro w o; show (sets _ g (o + 1) ys).heap.size = _; rw [ih, World.size_setCell]
theorem sets_mid (g : Nat) (ys : List Value) : ∀ (w : World) (o : Nat), Mid g (g + 1) w (sets w g o ys) := by
  induction ys with
  | nil => intro w o; exact Mid.of_below (Below.refl _ _)
  | cons y ys ih => intro w o; exact ((Mid.of_below (Below.refl _ _)).set (p := ⟨g, o, none⟩) (Nat.le_refl _) (Nat.lt_succ_self _) y).trans (ih _ _)
theorem sets_row {base g n cap c : Nat} {e : TypeId} (ys : List Value) : ∀ (w : World) (o : Nat) (xs : List Value), w.ownsRow base e c (.slice (some ⟨g, 0, none⟩) n cap) n xs → (sets w g o ys).ownsRow base e c (.slice (some ⟨g, 0, none⟩) n cap) n (setL xs o ys) := by
  induction ys with
  | nil => intro w o xs h; exact h
  | cons y ys ih => intro w o xs h; exact ih _ _ _ (h.stored o y).1
theorem setL_len (ys : List Value) : ∀ (xs : List Value) (o : Nat), (setL xs o ys).length = xs.length := by
  induction ys with
  | nil => intro xs o; rfl
  | cons y ys ih => intro xs o; show (setL _ (o + 1) ys).length = _; rw [ih, List.length_set]
theorem setL_other (ys : List Value) : ∀ (xs : List Value) (o j : Nat), (j < o ∨ o + ys.length ≤ j) → (setL xs o ys)[j]? = xs[j]? := by
  induction ys with
  | nil => intro xs o j _; rfl
  | cons y ys ih =>
    intro xs o j h
    rw [List.length_cons] at h
    show (setL (xs.set o y) (o + 1) ys)[j]? = _
    rw [ih _ _ _ (by omega), List.getElem?_set_ne (by omega)]
theorem setL_at (ys : List Value) : ∀ (xs : List Value) (o j : Nat), j < ys.length → o + ys.length ≤ xs.length → (setL xs o ys)[o + j]? = ys[j]? := by
  induction ys with
  | nil => intro xs o j h; simp at h
  | cons y ys ih =>
    intro xs o j h hl
    rw [List.length_cons] at h hl
    show (setL (xs.set o y) (o + 1) ys)[o + j]? = _
    cases j with
    | zero => rw [setL_other _ _ _ _ (by omega), Nat.add_zero, List.getElem?_set_self (by omega)]; rfl
    | succ j => rw [show o + (j + 1) = o + 1 + j by omega, ih _ _ _ (by omega) (by rw [List.length_set]; omega)]; rfl
/-- One more is laid into the row. -/
theorem GsK.add {X : Type} {e : TypeId} {c : Nat} {O : World → Nat → Nat → List Value → X → Prop} {w w2 : World} {base g n cap : Nat} {xs : List X} {k : Nat} {ys : List Value} {cs : Nat → List Value} {s t : Nat → Nat} {zs : List Value}
    (h : GsK e c O w base w.heap.size (.slice (some ⟨g, 0, none⟩) n cap) n xs k ys cs s t) (hb : base ≤ w.heap.size) (hB : Below w.heap.size w w2) (hk : k < xs.length) (hkn : k < n) (hz : zs.length = c)
    (hO : ∀ lo hi b t cs x (w1 : World), Mid lo hi w2 w1 → O w2 b t cs x → (hi ≤ b ∨ t ≤ lo) → O w1 b t cs x) (hBO : ∀ b t cs x, O w b t cs x → O w2 b t cs x) (hn : O w2 w.heap.size w2.heap.size zs xs[k]) :
    GsK e c O (sets w2 g (k * c) zs) base (sets w2 g (k * c) zs).heap.size (.slice (some ⟨g, 0, none⟩) n cap) n xs (k + 1) (setL ys (k * c) zs) (fun i => if i = k then zs else cs i) (fun i => if i = k then w.heap.size else s i) (fun i => if i = k then w2.heap.size else t i) := by
  have hrow := ownsRow_below h.row hB
  have hlen : ys.length = n * c := h.row.1
  have hs := hB.size
  have hgw : g < w.heap.size := h.rlt g rfl
  have hkc : (k + 1) * c ≤ n * c := Nat.mul_le_mul_right c hkn
  rw [Nat.add_mul, Nat.one_mul] at hkc
  have M := sets_mid g zs w2 (k * c)
  refine ⟨sets_row _ _ _ _ hrow, ?_, ?_, ?_, ?_, ?_, ?_, ?_, ?_, ?_⟩
  · intro g' hg'
    rw [sets_size]
    exact Nat.lt_of_lt_of_le (h.rlt g' hg') hs
  · intro i hi
    by_cases e : i = k
    · rw [if_pos e]; exact hz
    · rw [if_neg e]; exact h.len i (by omega)
  · intro i hi j hj
    by_cases e : i = k
    · subst e
      rw [if_pos rfl]
      exact setL_at _ _ _ _ (by omega) (by omega)
    · rw [if_neg e, setL_other _ _ _ _ (by
        left
        have : (i + 1) * c ≤ k * c := Nat.mul_le_mul_right c (by omega)
        rw [Nat.add_mul, Nat.one_mul] at this
        omega)]
      exact h.cel i (by omega) j hj
  · intro i hi hik
    by_cases e : i = k
    · subst e
      rw [if_pos rfl, if_pos rfl, if_pos rfl]
      exact hO _ _ _ _ _ _ _ M hn (.inl (by omega))
    · rw [if_neg e, if_neg e, if_neg e]
      refine hO _ _ _ _ _ _ _ M (hBO _ _ _ _ (h.own i hi (by omega))) ?_
      rcases h.apart i (by omega) g rfl with h1 | h1
      · exact .inl h1
      · exact .inr h1
  · intro i hi
    by_cases e : i = k
    · rw [if_pos e]; exact hb
    · rw [if_neg e]; exact h.lo i (by omega)
  · intro i hi
    by_cases e : i = k
    · rw [if_pos e, if_pos e]; exact hs
    · rw [if_neg e, if_neg e]; exact h.up i (by omega)
  · intro i j hij hj
    rw [if_neg (by omega)]
    by_cases e : j = k
    · rw [if_pos e]; exact h.hi i (by omega)
    · rw [if_neg e]; exact h.ord i j hij (by omega)
  · intro i hi
    rw [sets_size]
    by_cases e : i = k
    · rw [if_pos e]; exact Nat.le_refl _
    · rw [if_neg e]; exact Nat.le_trans (h.hi i (by omega)) hs
  · intro i hi g' hg'
    by_cases e : i = k
    · rw [if_pos e, if_pos e]
      simp [Value.ownBlock] at hg'
      exact .inl (by omega)
    · rw [if_neg e, if_neg e]
      exact h.apart i (by omega) g' hg'
/-- One more is put behind. -/
theorem GsK.app {X : Type} {e : TypeId} {c : Nat} {O : World → Nat → Nat → List Value → X → Prop} {w w2 w3 : World} {base : Nat} {v v' : Value} {xs : List X} {x : X} {ys : List Value} {cs : Nat → List Value} {s t : Nat → Nat} {zs : List Value} {tmp : Obj}
    (h : GsK e c O w base w.heap.size v xs.length xs xs.length ys cs s t) (hb : base ≤ w.heap.size) (hB : Below w.heap.size w w2) (hz : zs.length = c)
    (hO : ∀ lo hi b t cs x (w1 : World), Mid lo hi w2 w1 → O w2 b t cs x → (hi ≤ b ∨ t ≤ lo) → O w1 b t cs x) (hBO : ∀ b t cs x, O w b t cs x → O w2 b t cs x) (hn : O w2 w.heap.size w2.heap.size zs x)
    (hown : w3.ownsRow base e c v' (xs.length + 1) (ys ++ zs)) (hg : (w2.alloc tmp).grownBy w3 v.ownBlock) (hat : v'.ownBlock = v.ownBlock ∨ v'.ownBlock = some (w2.alloc tmp).heap.size) : GsO e c O w3 base w3.heap.size v' (xs ++ [x]) := by
  have hlen : ys.length = xs.length * c := h.row.1
  have hs := hB.size
  have ha : (w2.alloc tmp).heap.size = w2.heap.size + 1 := by simp
  have hg3 := hg.size
  have keep : ∀ b t cs x, O w2 b t cs x → (∀ g, v.ownBlock = some g → g < b ∨ t ≤ g) → O w3 b t cs x := by
    intro b t cs x h1 h2
    have M0 : Mid 0 0 w2 (w2.alloc tmp) := Mid.of_below ((Below.refl _ _).alloc (Nat.le_refl _) _)
    cases hv : v.ownBlock with
    | none =>
      rw [hv] at hg
      exact hO _ _ _ _ _ _ _ (M0.trans (Mid.of_grown (lo := 0) (hi := 0) hg (fun k hk => by cases hk))) h1 (.inl (Nat.zero_le _))
    | some g =>
      rw [hv] at hg
      have M1 : Mid g (g + 1) w2 (w2.alloc tmp) := Mid.of_below ((Below.refl _ _).alloc (Nat.le_refl _) _)
      exact hO _ _ _ _ _ _ _ (M1.trans (Mid.of_grown (lo := g) (hi := g + 1) hg (fun k hk => by cases hk; omega))) h1 (by have := h2 g hv; omega)
  refine ⟨ys ++ zs, fun i => if i = xs.length then zs else cs i, fun i => if i = xs.length then w.heap.size else s i, fun i => if i = xs.length then w2.heap.size else t i, ?_⟩
  have hl1 : (xs ++ [x]).length = xs.length + 1 := by simp
  rw [hl1]
  refine ⟨hown, fun g hg => (hown.lt g hg).2, ?_, ?_, ?_, ?_, ?_, ?_, ?_, ?_⟩
  · intro i hi
    by_cases e : i = xs.length
    · rw [if_pos e]; exact hz
    · rw [if_neg e]; exact h.len i (by omega)
  · intro i hi j hj
    by_cases e : i = xs.length
    · subst e
      rw [if_pos rfl, List.getElem?_append_right (by omega), hlen, Nat.add_sub_cancel_left]
    · have : (i + 1) * c ≤ xs.length * c := Nat.mul_le_mul_right c (by omega)
      rw [Nat.add_mul, Nat.one_mul] at this
      rw [if_neg e, List.getElem?_append_left (by omega)]
      exact h.cel i (by omega) j hj
  · intro i hi hik
    by_cases e : i = xs.length
    · subst e
      have e2 : (xs ++ [x])[xs.length]'hi = x := by simp
      rw [if_pos rfl, if_pos rfl, if_pos rfl, e2]
      exact keep _ _ _ _ hn (fun g hg => .inl (h.rlt g hg))
    · have hi' : i < xs.length := by omega
      have e2 : (xs ++ [x])[i]'hi = xs[i] := List.getElem_append_left hi'
      rw [if_neg e, if_neg e, if_neg e, e2]
      exact keep _ _ _ _ (hBO _ _ _ _ (h.own i hi' hi')) (h.apart i hi')
  · intro i hi
    by_cases e : i = xs.length
    · rw [if_pos e]; exact hb
    · rw [if_neg e]; exact h.lo i (by omega)
  · intro i hi
    by_cases e : i = xs.length
    · rw [if_pos e, if_pos e]; exact hs
    · rw [if_neg e, if_neg e]; exact h.up i (by omega)
  · intro i j hij hj
    rw [if_neg (by omega)]
    by_cases e : j = xs.length
    · rw [if_pos e]; exact h.hi i (by omega)
    · rw [if_neg e]; exact h.ord i j hij (by omega)
  · intro i hi
    by_cases e : i = xs.length
    · rw [if_pos e]; omega
    · rw [if_neg e]; have := h.hi i (by omega); omega
  · intro i hi g hg'
    have hcase : (v.ownBlock = some g) ∨ g = w2.heap.size + 1 := by
      rcases hat with e | e
      · exact .inl (by rw [← e]; exact hg')
      · rw [e, ha] at hg'
        exact .inr (Option.some.inj hg').symm
    by_cases e : i = xs.length
    · rw [if_pos e, if_pos e]
      rcases hcase with h1 | h1
      · exact .inl (h.rlt g h1)
      · omega
    · rw [if_neg e, if_neg e]
      rcases hcase with h1 | h1
      · exact h.apart i (by omega) g h1
      · have := h.hi i (by omega)
        omega
/-- One of them, where it lies. -/
theorem GsO.at {X : Type} {e : TypeId} {c : Nat} {O : World → Nat → Nat → List Value → X → Prop} {w : World} {base top : Nat} {a : Option Addr} {n cap : Nat} {xs : List X} (h : GsO e c O w base top (.slice a n cap) xs) {i : Nat} (hi : i < xs.length) :
    ∃ g cs lo hi, a = some ⟨g, 0, none⟩ ∧ base ≤ g ∧ g < w.heap.size ∧ n ≤ cap ∧ (∀ j y, cs[j]? = some y → w.cell? ⟨g, i * c + j, none⟩ = some y) ∧ O w lo hi cs xs[i] := by
  obtain ⟨ys, cs, s, t, h⟩ := h
  rcases row_form h.row with ⟨_, h0⟩ | ⟨g, cap', hv, hg, hcap⟩
  · omega
  · cases hv
    refine ⟨g, cs i, s i, t i, rfl, hg, (h.row.lt g rfl).2, hcap, fun j y hy => ?_, h.own i hi hi⟩
    have hj : j < c := by
      have := (List.getElem?_eq_some_iff.1 hy).1
      rwa [h.len i hi] at this
    have hij : i * c + j < xs.length * c := by
      have : (i + 1) * c ≤ xs.length * c := Nat.mul_le_mul_right c hi
      rw [Nat.add_mul, Nat.one_mul] at this
      omega
    rw [h.row.cellAt (i * c + j) hij, h.cel i hi j hj]
    exact hy

/-- How much all of a list counts. -/
def gzTo {X : Type} (f : X → Nat) (xs : List X) (n : Nat) : Nat := ((xs.take n).map f).sum
def gzAll {X : Type} (f : X → Nat) (xs : List X) : Nat := xs.length + gzTo f xs xs.length
theorem gzTo_zero {X : Type} (f : X → Nat) (xs : List X) : gzTo f xs 0 = 0 := by simp [gzTo]
theorem gzTo_succ {X : Type} {f : X → Nat} {xs : List X} {n : Nat} (h : n < xs.length) : gzTo f xs (n + 1) = gzTo f xs n + f xs[n] := by
  unfold gzTo
  rw [List.take_succ_eq_append_getElem h, List.map_append, List.sum_append]
  simp
theorem gzTo_le {X : Type} (f : X → Nat) (xs : List X) (n : Nat) : gzTo f xs n ≤ gzTo f xs xs.length := by
  unfold gzTo
  rw [List.take_length]
  conv => rhs; rw [← List.take_append_drop n xs, List.map_append, List.sum_append]
  omega
theorem gz_mem {X : Type} {f : X → Nat} {xs : List X} {x : X} (h : x ∈ xs) : f x ≤ gzTo f xs xs.length := by
  unfold gzTo
  rw [List.take_length]
  exact sum_mem (List.mem_map.2 ⟨x, h, rfl⟩)
/-- No list is longer than the laws take. -/
def gShort {X : Type} (f : X → Prop) (xs : List X) : Prop := xs.length ≤ 1048576 ∧ ∀ x ∈ xs, f x

set_option maxRecDepth 100000 in
open Go.Deep Go.ChangeShapes Go.WideShapes Go.ChangeAt Go.Joins in
/-- A list that comes in, where its elements' cells can be read. -/
theorem openGs {X : Type} [Inhabited X] {H : Type} {enc : TypeId × Value → H} {W : World} {A : World → List Value → X → Prop} {fits : X → Prop} {ts te : TypeId} {c : Nat} {c0 : Value} {d : DataW H × List MemPlace} {fuel : Nat}
    (hu : Tryz.prog.underlying ts = some (.slice te)) (hc : Tryz.prog.cellsOf te = c) (hc0 : 0 < c)
    (hE : ∀ (l : List Value) (y : DataW H × List MemPlace) (m : Nat), l.length = c → DataW.trod enc Tryz.prog W 0 (fun _ => true) true m te l = some y → ∃ x : X, A W l x ∧ fits x)
    (hf : DataW.trod enc Tryz.prog W 0 (fun _ => true) true fuel ts [c0] = some d) :
    ∃ (a : Option Addr) (n k : Nat) (xs : List X), c0 = .slice a n k ∧ GsA c A W (.slice a n k) xs ∧ xs.length = n ∧ n ≤ maxLen ∧ ∀ x ∈ xs, fits x := by
  rcases open_slice hu hf with ⟨hcs, _⟩ | ⟨x, n, cap, m, k, D, Pl, hcs, _, hl, hm, hmm, _, hx⟩
  · simp at hcs
    exact ⟨_, _, _, [], hcs, .inl ⟨_, _, rfl, rfl⟩, rfl, Nat.zero_le _, fun r hr => by cases hr⟩
  · simp at hcs
    have hlm : n ≤ m := by rw [hmm]; simpa using hl
    have each : ∀ i, i < n → ∃ s : X, (∃ cs : List Value, cs.length = c ∧ (∀ j y, cs[j]? = some y → W.cell? (x.add (i * c + j)) = some y) ∧ A W cs s) ∧ fits s := by
      intro i hi
      obtain ⟨cs', h1, h2⟩ := hx i (by omega)
      rw [hc] at h1
      obtain ⟨_, hlen, hcell⟩ := World.cells?_some h1
      obtain ⟨s, h3, h4⟩ := hE cs' _ _ hlen h2
      refine ⟨s, ⟨cs', hlen, fun j y hy => ?_, h3⟩, h4⟩
      have hj := (List.getElem?_eq_some_iff.1 hy).1
      have := hcell j (by omega)
      rw [add_add] at this
      rw [this]
      exact hy
    obtain ⟨q, hq⟩ := choose_lt each
    by_cases h0 : n = 0
    · subst h0
      exact ⟨_, _, _, [], hcs, .inl ⟨_, _, rfl, rfl⟩, rfl, Nat.zero_le _, fun r hr => by cases hr⟩
    · obtain ⟨b, off, spot⟩ := x
      obtain ⟨cs, hz0, hz1, _⟩ := (hq 0 (by omega)).1
      have hz := hz1 0 _ (List.getElem?_eq_getElem (by omega))
      have hs : spot = none := by simpa [Addr.add] using World.cell?_spot hz
      subst hs
      have hlt : b < W.heap.size := by
        rw [Addr.add_lit] at hz
        by_cases hb : b < W.heap.size
        · exact hb
        · simp only [World.cell?] at hz
          rw [Array.getElem?_eq_none (by omega)] at hz
          cases hz
      refine ⟨_, _, _, (List.range n).map q, hcs, .inr ⟨b, off, cap, by simp, hlt, by simpa using hl, fun i hi => ?_⟩, by simp, by omega, ?_⟩
      · have hi' : i < n := by simpa using hi
        obtain ⟨cs, h1, h2, h3⟩ := (hq i hi').1
        refine ⟨cs, h1, fun j y hy => ?_, by simpa using h3⟩
        have := h2 j y hy
        rw [Addr.add_lit, ← Nat.add_assoc] at this
        exact this
      · intro r hr
        obtain ⟨i, hi, rfl⟩ := List.mem_map.1 hr
        exact (hq i (List.mem_range.1 hi)).2

end Go.Proofs.YtallpldgkkpikaaGreatDoor

namespace Go.Proofs.YtallpldgkkpikaaGreatDoor
open Go.RowKit Go.Shelf

/-- A row of structs; those whose places satisfy P are known. -/
structure GsR {X : Type} (P : Nat → Prop) (e : TypeId) (c : Nat) (O : World → Nat → Nat → List Value → X → Prop) (w : World) (base top : Nat) (v : Value) (n : Nat) (xs : List X) (ys : List Value) (cs : Nat → List Value) (s t : Nat → Nat) : Prop where
  ln : xs.length = n
  row : w.ownsRow base e c v n ys
  rlt : ∀ g, v.ownBlock = some g → g < top
  len : ∀ i, i < n → P i → (cs i).length = c
  cel : ∀ i, i < n → P i → ∀ j, j < c → ys[i * c + j]? = (cs i)[j]?
  own : ∀ i (h : i < xs.length), P i → O w (s i) (t i) (cs i) xs[i]
  lo : ∀ i, i < n → base ≤ s i
  up : ∀ i, i < n → s i ≤ t i
  ord : ∀ i j, i < j → j < n → t i ≤ s j
  hi : ∀ i, i < n → t i ≤ top
  apart : ∀ i, i < n → ∀ g, v.ownBlock = some g → g < s i ∨ t i ≤ g
theorem GsK.r {X : Type} {e : TypeId} {c : Nat} {O : World → Nat → Nat → List Value → X → Prop} {w : World} {base top : Nat} {v : Value} {xs : List X} {ys : List Value} {cs : Nat → List Value} {s t : Nat → Nat} (h : GsK e c O w base top v xs.length xs xs.length ys cs s t) : GsR (fun _ => True) e c O w base top v xs.length xs ys cs s t :=
  ⟨rfl, h.row, h.rlt, fun i hi _ => h.len i hi, fun i hi _ => h.cel i hi, fun i hi _ => h.own i hi hi, h.lo, h.up, h.ord, h.hi, h.apart⟩
theorem GsR.k {X : Type} {e : TypeId} {c : Nat} {O : World → Nat → Nat → List Value → X → Prop} {w : World} {base top : Nat} {v : Value} {xs : List X} {ys : List Value} {cs : Nat → List Value} {s t : Nat → Nat} (h : GsR (fun _ => True) e c O w base top v xs.length xs ys cs s t) : GsK e c O w base top v xs.length xs xs.length ys cs s t :=
  ⟨h.row, h.rlt, fun i hi => h.len i hi trivial, fun i hi => h.cel i hi trivial, fun i hi _ => h.own i hi trivial, h.lo, h.up, h.ord, h.hi, h.apart⟩
theorem GsR.weaken {X : Type} {P Q : Nat → Prop} {e : TypeId} {c : Nat} {O : World → Nat → Nat → List Value → X → Prop} {w : World} {base top : Nat} {v : Value} {n : Nat} {xs : List X} {ys : List Value} {cs : Nat → List Value} {s t : Nat → Nat} (h : GsR P e c O w base top v n xs ys cs s t) (hPQ : ∀ i, Q i → P i) : GsR Q e c O w base top v n xs ys cs s t :=
  ⟨h.ln, h.row, h.rlt, fun i hi hq => h.len i hi (hPQ i hq), fun i hi hq => h.cel i hi (hPQ i hq), fun i hi hq => h.own i hi (hPQ i hq), h.lo, h.up, h.ord, h.hi, h.apart⟩
/-- What a call that changes nothing old leaves. -/
theorem GsR.below {X : Type} {P : Nat → Prop} {e : TypeId} {c : Nat} {O : World → Nat → Nat → List Value → X → Prop} {w w1 : World} {base top : Nat} {v : Value} {n : Nat} {xs : List X} {ys : List Value} {cs : Nat → List Value} {s t : Nat → Nat} (h : GsR P e c O w base top v n xs ys cs s t) (hO : ∀ b t cs x, O w b t cs x → O w1 b t cs x) (hB : Below w.heap.size w w1) : GsR P e c O w1 base top v n xs ys cs s t :=
  ⟨h.ln, ownsRow_below h.row hB, h.rlt, h.len, h.cel, fun i hi hp => hO _ _ _ _ (h.own i hi hp), h.lo, h.up, h.ord, h.hi, h.apart⟩
/-- A cell of the j-th one is stored. -/
theorem GsR.store {X : Type} {P : Nat → Prop} {e : TypeId} {c : Nat} {O : World → Nat → Nat → List Value → X → Prop} {w : World} {base top g cap n : Nat} {xs : List X} {ys : List Value} {cs : Nat → List Value} {s t : Nat → Nat} (h : GsR P e c O w base top (.slice (some ⟨g, 0, none⟩) n cap) n xs ys cs s t)
    (hO : ∀ lo hi b t cs x (w1 : World), Mid lo hi w w1 → O w b t cs x → (hi ≤ b ∨ t ≤ lo) → O w1 b t cs x) {j m : Nat} (hP : ∀ i, P i → i ≠ j) (hm : m < c) (u : Value) :
    GsR P e c O (w.setCell ⟨g, j * c + m, none⟩ u) base top (.slice (some ⟨g, 0, none⟩) n cap) n xs (ys.set (j * c + m) u) cs s t := by
  have M : Mid g (g + 1) w (w.setCell ⟨g, j * c + m, none⟩ u) := (Mid.of_below (Below.refl _ _)).set (p := ⟨g, j * c + m, none⟩) (Nat.le_refl _) (Nat.lt_succ_self _) u
  refine ⟨h.ln, (h.row.stored _ u).1, h.rlt, h.len, ?_, ?_, h.lo, h.up, h.ord, h.hi, h.apart⟩
  · intro i hi hp k hk
    have hne := hP i hp
    rw [List.getElem?_set_ne]
    · exact h.cel i hi hp k hk
    · intro he
      rcases Nat.lt_or_gt_of_ne hne with h1 | h1
      · have : (i + 1) * c ≤ j * c := Nat.mul_le_mul_right c h1
        rw [Nat.add_mul, Nat.one_mul] at this
        omega
      · have : (j + 1) * c ≤ i * c := Nat.mul_le_mul_right c h1
        rw [Nat.add_mul, Nat.one_mul] at this
        omega
  · intro i hi hp
    exact hO _ _ _ _ _ _ _ M (h.own i hi hp) (by have := h.apart i (by rw [← h.ln]; exact hi) g rfl; omega)
/-- What the j-th one has of its own is marked. -/
theorem GsR.inn {X : Type} {P : Nat → Prop} {e : TypeId} {c : Nat} {O : World → Nat → Nat → List Value → X → Prop} {w w1 : World} {base top : Nat} {v : Value} {n : Nat} {xs : List X} {ys : List Value} {cs : Nat → List Value} {s t : Nat → Nat} (h : GsR P e c O w base top v n xs ys cs s t)
    (hO : ∀ lo hi b t cs x (w1 : World), Mid lo hi w w1 → O w b t cs x → (hi ≤ b ∨ t ≤ lo) → O w1 b t cs x) {j lo hi : Nat} (hj : j < n) (hP : ∀ i, P i → i ≠ j) (M : Mid lo hi w w1) (h1 : s j ≤ lo) (h2 : hi ≤ t j) : GsR P e c O w1 base top v n xs ys cs s t := by
  refine ⟨h.ln, M.row h.row (fun g hg => by have := h.apart j hj g hg; omega), h.rlt, h.len, h.cel, ?_, h.lo, h.up, h.ord, h.hi, h.apart⟩
  intro i hi' hp
  refine hO _ _ _ _ _ _ _ M (h.own i hi' hp) ?_
  rcases Nat.lt_or_gt_of_ne (hP i hp) with h3 | h3
  · have := h.ord i j h3 hj
    omega
  · have := h.ord j i h3 (by rw [← h.ln]; exact hi')
    omega
/-- The j-th one is there again. -/
theorem GsR.fill {X : Type} {e : TypeId} {c : Nat} {O : World → Nat → Nat → List Value → X → Prop} {w : World} {base top : Nat} {v : Value} {n : Nat} {xs : List X} {ys : List Value} {cs : Nat → List Value} {s t : Nat → Nat} {j : Nat} (h : GsR (fun i => i ≠ j) e c O w base top v n xs ys cs s t) (hj : j < n) {zs : List Value} {x : X}
    (hz : zs.length = c) (hc : ∀ m, m < c → ys[j * c + m]? = zs[m]?) (ho : O w (s j) (t j) zs x) : GsR (fun _ => True) e c O w base top v n (xs.set j x) ys (fun i => if i = j then zs else cs i) s t := by
  have hl : (xs.set j x).length = xs.length := List.length_set
  refine ⟨by rw [hl]; exact h.ln, h.row, h.rlt, ?_, ?_, ?_, h.lo, h.up, h.ord, h.hi, h.apart⟩
  · intro i hi _
    by_cases e : i = j
    · rw [if_pos e]; exact hz
    · rw [if_neg e]; exact h.len i hi e
  · intro i hi _ m hm
    by_cases e : i = j
    · subst e
      rw [if_pos rfl]; exact hc m hm
    · rw [if_neg e]; exact h.cel i hi e m hm
  · intro i hi _
    have hi' : i < xs.length := by rwa [hl] at hi
    by_cases e : i = j
    · subst e
      rw [if_pos rfl, List.getElem_set_self]
      exact ho
    · rw [if_neg e, List.getElem_set_ne (by omega)]
      exact h.own i hi' e
theorem GsR.at {X : Type} {P : Nat → Prop} {e : TypeId} {c : Nat} {O : World → Nat → Nat → List Value → X → Prop} {w : World} {base top g cap n : Nat} {xs : List X} {ys : List Value} {cs : Nat → List Value} {s t : Nat → Nat} (h : GsR P e c O w base top (.slice (some ⟨g, 0, none⟩) n cap) n xs ys cs s t) {i j : Nat} (hi : i < n) (hp : P i) {y : Value} (hj : (cs i)[j]? = some y) : ys[i * c + j]? = some y := by
  have := (List.getElem?_eq_some_iff.1 hj).1
  rw [h.len i hi hp] at this
  rw [h.cel i hi hp j this]
  exact hj
theorem GsR.cell {X : Type} {P : Nat → Prop} {e : TypeId} {c : Nat} {O : World → Nat → Nat → List Value → X → Prop} {w : World} {base top g cap n : Nat} {xs : List X} {ys : List Value} {cs : Nat → List Value} {s t : Nat → Nat} (h : GsR P e c O w base top (.slice (some ⟨g, 0, none⟩) n cap) n xs ys cs s t) {i j : Nat} (hi : i < n) (hj : j < c) : w.cell? ⟨g, i * c + j, none⟩ = ys[i * c + j]? ∧ w.frozen? ⟨g, i * c + j, none⟩ = false ∧ i * c + j < ys.length := by
  have hij : i * c + j < n * c := by
    have : (i + 1) * c ≤ n * c := Nat.mul_le_mul_right c hi
    rw [Nat.add_mul, Nat.one_mul] at this
    omega
  exact ⟨h.row.cellAt _ hij, h.row.frozenAt _, by rw [h.row.1]; exact hij⟩
/-- A cell that holds something. -/
theorem GsR.some {X : Type} {P : Nat → Prop} {e : TypeId} {c : Nat} {O : World → Nat → Nat → List Value → X → Prop} {w : World} {base top g cap n : Nat} {xs : List X} {ys : List Value} {cs : Nat → List Value} {s t : Nat → Nat} (h : GsR P e c O w base top (.slice (some ⟨g, 0, none⟩) n cap) n xs ys cs s t) {i j : Nat} (hi : i < n) (hj : j < c) : ∃ u, w.cell? ⟨g, i * c + j, none⟩ = Option.some u := by
  obtain ⟨h1, _, h2⟩ := h.cell hi hj
  exact ⟨_, by rw [h1, List.getElem?_eq_getElem h2]⟩

theorem Mid.wide {lo hi lo' hi' : Nat} {w w1 : World} (h : Mid lo hi w w1) (h1 : lo' ≤ lo) (h2 : hi ≤ hi') : Mid lo' hi' w w1 := ⟨h.os, h.tape, h.output, h.size, fun k hk hn => h.block k hk (by omega)⟩
/-- A row stays where one of another kind is marked. -/
theorem RoO.kept {T T2 : TypeId} {c c2 : Nat} {w w1 : World} {base base2 top : Nat} {v v2 : Value} {n n2 : Nat} {xs xs2 : List Value} (h : RoO T c w base top v n xs) (hr : w.ownsRow base2 T2 c2 v2 n2 xs2) (hne : T ≠ T2) (hg : w.grownBy w1 v2.ownBlock) : RoO T c w1 base top v n xs :=
  ⟨kept_apart h.1 hg (row_apart h.1 hr hne), h.2⟩

end Go.Proofs.YtallpldgkkpikaaGreatDoor
