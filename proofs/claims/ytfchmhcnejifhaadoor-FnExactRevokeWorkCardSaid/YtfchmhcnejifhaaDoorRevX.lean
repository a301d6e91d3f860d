/-
  Chapter 4: RevokeWork, by the specification.
-/
import Derived.Test.YtfchmhcnejifhaaDoorIssX
import Derived.Test.YtfchmhcnejifhaaDoorRevI
import Derived.Test.YtfchmhcnejifhaaDoorHasN
namespace Go.Proofs.YtfchmhcnejifhaaDoor
open Go.RowKit Go.Shelf

theorem isB_up {s : Is} (h : isB s = true) : upN s.rv = true := by
  unfold isB at h
  simp only [Bool.and_eq_true] at h
  exact h.2.2.2.1

set_option maxHeartbeats 8000000 in
set_option maxRecDepth 100000 in
theorem specRevoke_any (v : Value) (s : Is) (name : ByteArray) (base top : Nat) (w : World) (hs : s.short) (hn : s.named) (hm : name.size ≤ 1048576) (h : IsO w base top v s) :
    Calls Tryd.prog 12 #[v, .string name] w fun e w' => ∃ v', e = .returned (.tuple #[v', .int .i64 (rkX s name).2.1, .int .i64 (rkX s name).2.2]) ∧ IsO w' w.heap.size w'.heap.size v' (rkX s name).1 ∧ Below w.heap.size w w' := by
  obtain ⟨aw, cw, ar, cr, ag, cg, rfl⟩ := is_forms h.a
  have hB0 : Below w.heap.size w ((w.alloc (.cells #[.slice aw s.ws.length cw, .int .i64 s.nx, .slice ar s.rv.length cr, .slice ag s.sg.length cg] 30)).alloc (.cells #[.slice none 0 0, .int .i64 0, .slice none 0 0, .slice none 0 0] 30)) := ((Below.refl _ w).alloc (Nat.le_refl _) _).alloc (by simp) _
  have F1 := (Four.new w (.slice aw s.ws.length cw) (.int .i64 s.nx) (.slice ar s.rv.length cr) (.slice ag s.sg.length cg) 30).below ((Below.refl _ _).alloc (Nat.le_refl _) (.cells #[.slice none 0 0, .int .i64 0, .slice none 0 0, .slice none 0 0] 30))
  have F2 := Four.at (w.alloc (.cells #[.slice aw s.ws.length cw, .int .i64 s.nx, .slice ar s.rv.length cr, .slice ag s.sg.length cg] 30)) (.slice none 0 0) (.int .i64 0) (.slice none 0 0) (.slice none 0 0) 30 (k := w.heap.size + 1) (by simp)
  go_enter Tryd.func12, Tryd.ntmps12
  go_wp2_with fail
  generalize (w.alloc (.cells #[.slice aw s.ws.length cw, .int .i64 s.nx, .slice ar s.rv.length cr, .slice ag s.sg.length cg] 30)).alloc (.cells #[.slice none 0 0, .int .i64 0, .slice none 0 0, .slice none 0 0] 30) = Wz at *
  refine (specGoodIssuer_any _ s _ hs hn (h.a.below hB0)).mono ?_
  rintro e w1 ⟨rfl, hB1⟩
  replace F1 := F1.below hB1
  replace F2 := F2.below hB1
  have hBB := below_one hB0 hB1
  clear hB0 hB1
  obtain ⟨a0, a1, a2, a3⟩ := F1.c
  cases hg : isB s
  · have HR := hid (show rkX s name = (Is.none, 0, 1) by unfold rkX; rw [hg]; rfl)
    obtain ⟨r0, r1, r2, r3⟩ := F2.c
    have f0 := F2.f 0
    have f1 := F2.f 1
    have f2 := F2.f 2
    have f3 := F2.f 3
    have G := (((F2.s0 (.slice none 0 0)).s1 (.int .i64 0)).s2 (.slice none 0 0)).s3 (.slice none 0 0)
    have pB := below_four hBB (k := w.heap.size + 1) (by omega) (.slice none 0 0) (.int .i64 0) (.slice none 0 0) (.slice none 0 0)
    go_wp2_with fail
    clear r0 r1 r2 r3 f0 f1 f2 f3
    generalize (((w1.setCell ⟨w.heap.size + 1, 0, none⟩ (.slice none 0 0)).setCell ⟨w.heap.size + 1, 1, none⟩ (.int .i64 0)).setCell ⟨w.heap.size + 1, 2, none⟩ (.slice none 0 0)).setCell ⟨w.heap.size + 1, 3, none⟩ (.slice none 0 0) = W5 at *
    obtain ⟨d0, d1, d2, d3⟩ := G.c
    exact bodyPost_ret (v := .tuple #[.agg #[(.slice none 0 0), (.int .i64 0), (.slice none 0 0), (.slice none 0 0)], .int .i64 0, .int .i64 1]) (by simp [results, Tryd.results12, go_sem, d0, d1, d2, d3]) rfl ⟨_, by rw [HR.out], by rw [HR.out]; exact none_o _ _ _, pB⟩
  go_wp2_with fail
  refine (specGoodName_any name _ hm).mono ?_
  rintro e w2 ⟨rfl, hB2⟩
  replace F1 := F1.below hB2
  replace F2 := F2.below hB2
  replace hBB := below_one hBB hB2
  clear hB2 a0 a1 a2 a3
  obtain ⟨a0, a1, a2, a3⟩ := F1.c
  cases hg2 : gnB (split name 47)
  · have HR := hid (show rkX s name = (Is.none, 0, 1) by unfold rkX nmOk; rw [hg, hg2]; rfl)
    obtain ⟨r0, r1, r2, r3⟩ := F2.c
    have f0 := F2.f 0
    have f1 := F2.f 1
    have f2 := F2.f 2
    have f3 := F2.f 3
    have G := (((F2.s0 (.slice none 0 0)).s1 (.int .i64 0)).s2 (.slice none 0 0)).s3 (.slice none 0 0)
    have pB := below_four hBB (k := w.heap.size + 1) (by omega) (.slice none 0 0) (.int .i64 0) (.slice none 0 0) (.slice none 0 0)
    go_wp2_with fail
    clear r0 r1 r2 r3 f0 f1 f2 f3
    generalize (((w2.setCell ⟨w.heap.size + 1, 0, none⟩ (.slice none 0 0)).setCell ⟨w.heap.size + 1, 1, none⟩ (.int .i64 0)).setCell ⟨w.heap.size + 1, 2, none⟩ (.slice none 0 0)).setCell ⟨w.heap.size + 1, 3, none⟩ (.slice none 0 0) = W5 at *
    obtain ⟨d0, d1, d2, d3⟩ := G.c
    exact bodyPost_ret (v := .tuple #[.agg #[(.slice none 0 0), (.int .i64 0), (.slice none 0 0), (.slice none 0 0)], .int .i64 0, .int .i64 1]) (by simp [results, Tryd.results12, go_sem, d0, d1, d2, d3]) rfl ⟨_, by rw [HR.out], by rw [HR.out]; exact none_o _ _ _, pB⟩
  have hlen := (isB_hd hg).1
  have hup := isB_up hg
  have HX := hid (fun hl h => rk_at (n := name) hg (show nmOk name = true from hg2) hl h)
  have HN := hid (fun hl => (show rkX s name = (s, (s.rv.length : Int), 3) by unfold rkX nmOk; rw [hg, hg2, if_neg (by decide), if_pos hl]))
  clear hg hg2
  go_wp2_with fail
  refine (l4Own_any _ s base top _ hs (h.below hBB)).mono ?_
  rintro e w3 ⟨v3, rfl, ⟨vw, vr, vs, rfl, o1, o2, o3, _, _, _⟩, hB3, ⟨sa, sm, sc, sb, sd, sf, sg, se, hse⟩⟩
  obtain ⟨x1, y1, z1, rfl⟩ := row_slice o1
  have HSM := hid (show x1 ≠ none from fun e => by injection hse with hse; have := congrArg (fun a => a[0]?) hse; simp at this; rw [e] at this; simp at this)
  have HSM2 := hid (show ∀ (x : Option Addr) (y z : Nat), vr = .slice x y z → x ≠ none from fun x y z hv e => by subst hv e; injection hse with hse; have := congrArg (fun a => a[2]?) hse; simp at this)
  clear hse
  obtain ⟨x2, y2, z2, rfl⟩ := row_slice o2
  replace HSM2 := hid (HSM2.out x2 y2 z2 rfl)
  obtain ⟨x3, y3, z3, rfl⟩ := row_slice o3
  obtain rfl : y1 = s.ws.length := row_len o1
  obtain rfl : y2 = s.rv.length := row_len o2
  have hk1 : w.heap.size + 1 < w2.heap.size := F2.lt
  have hk2 : w2.heap.size ≤ w3.heap.size := hB3.size
  replace F1 := F1.below hB3
  replace F2 := F2.below hB3
  replace hBB := below_one hBB hB3
  clear hB3 a0 a1 a2 a3
  obtain ⟨a0, a1, a2, a3⟩ := F1.c
  have f0 := F1.f 0
  have f1 := F1.f 1
  have f2 := F1.f 2
  have f3 := F1.f 3
  have G1 := (((F1.s0 (.slice x1 s.ws.length z1)).s1 (.int .i64 s.nx)).s2 (.slice x2 s.rv.length z2)).s3 (.slice x3 y3 z3)
  have G2 := (((F2.other (k' := w.heap.size) (by omega) 0 (.slice x1 s.ws.length z1)).other (k' := w.heap.size) (by omega) 1 (.int .i64 s.nx)).other (k' := w.heap.size) (by omega) 2 (.slice x2 s.rv.length z2)).other (k' := w.heap.size) (by omega) 3 (.slice x3 y3 z3)
  have q1 := row_four o1 (k := w.heap.size) (by omega) (.slice x1 s.ws.length z1) (.int .i64 s.nx) (.slice x2 s.rv.length z2) (.slice x3 y3 z3)
  have q2 := row_four o2 (k := w.heap.size) (by omega) (.slice x1 s.ws.length z1) (.int .i64 s.nx) (.slice x2 s.rv.length z2) (.slice x3 y3 z3)
  have q3 := row_four o3 (k := w.heap.size) (by omega) (.slice x1 s.ws.length z1) (.int .i64 s.nx) (.slice x2 s.rv.length z2) (.slice x3 y3 z3)
  have hB4 := below_four hBB (k := w.heap.size) (Nat.le_refl _) (.slice x1 s.ws.length z1) (.int .i64 s.nx) (.slice x2 s.rv.length z2) (.slice x3 y3 z3)
  have hk5 : w2.heap.size ≤ ((((w3.setCell ⟨w.heap.size, 0, none⟩ (.slice x1 s.ws.length z1)).setCell ⟨w.heap.size, 1, none⟩ (.int .i64 s.nx)).setCell ⟨w.heap.size, 2, none⟩ (.slice x2 s.rv.length z2)).setCell ⟨w.heap.size, 3, none⟩ (.slice x3 y3 z3)).heap.size := by simp; exact hk2
  clear F1 F2 o1 o2 o3 hBB
  obtain ⟨n0, n1, n2, n3⟩ := G1.c
  go_wp2_with fail
  clear a0 a1 a2 a3 f0 f1 f2 f3 n0 n1 n2 n3
  generalize (((w3.setCell ⟨w.heap.size, 0, none⟩ (.slice x1 s.ws.length z1)).setCell ⟨w.heap.size, 1, none⟩ (.int .i64 s.nx)).setCell ⟨w.heap.size, 2, none⟩ (.slice x2 s.rv.length z2)).setCell ⟨w.heap.size, 3, none⟩ (.slice x3 y3 z3) = W3 at *
  refine (l4At_any _ s name _ hs.1 (IsO.of q1 q2 q3).a).mono ?_
  rintro e w4 ⟨rfl, hB5⟩
  have F1 := G1.below hB5
  have F2 := G2.below hB5
  have o1 := ownsRow_below q1 hB5
  have o2 := ownsRow_below q2 hB5
  have o3 := ownsRow_below q3 hB5
  have hBB := below_one hB4 hB5
  have hB5s := hB5.size
  clear G1 G2 q1 q2 q3 hB4 hB5
  have hle := atW_le s.ws name
  have hk4 : w2.heap.size ≤ w4.heap.size := Nat.le_trans hk5 hB5s
  cases hh : hasW s.ws name
  · have HR := hid (HN.out (livW_no hh))
    clear HX HN hup
    generalize atW s.ws name = n at *
    obtain ⟨a0, a1, a2, a3⟩ := F1.c
    go_wp2_with fail
    clear a0 a1 a2 a3
    have hBd : Below (w4).heap.size (w4) (w4).drew := (Below.refl _ _).drew
    have hkn : w.heap.size ≠ w.heap.size + 1 := by omega
    obtain ⟨c0, c1, c2, c3⟩ := F1.c
    replace F1 := F1.below hBd
    replace F2 := F2.below hBd
    replace o1 := ownsRow_below o1 hBd
    replace o2 := ownsRow_below o2 hBd
    replace o3 := ownsRow_below o3 hBd
    replace hBB := below_one hBB hBd
    clear hBd
    obtain ⟨r0, r1, r2, r3⟩ := F2.c
    have f0 := F2.f 0
    have f1 := F2.f 1
    have f2 := F2.f 2
    have f3 := F2.f 3
    refine wp_region_held_drew (S := fun w' => w'.cell? ⟨w.heap.size, 0, none⟩ = some (.slice x1 s.ws.length z1) ∧ w'.cell? ⟨w.heap.size, 1, none⟩ = some (.int .i64 s.nx) ∧ w'.cell? ⟨w.heap.size, 2, none⟩ = some (.slice x2 s.rv.length z2) ∧ w'.cell? ⟨w.heap.size, 3, none⟩ = some (.slice x3 y3 z3)) (by kernel_rfl) ?_ (fun hHeld => ?_)
    · first | go_keep | exact ((((F1.other hkn 0 _).other hkn 1 _).other hkn 2 _).other hkn 3 _).c
    generalize (w4).drew = Wd at *
    refine takeW 0 (v := ?v1) rfl (by kernel_rfl) (by kernel_rfl) (by kernel_rfl) (fun _ _ _ h => h) (by rfl) (by assumption) ?hy1 ?rest1
    case hy1 => intro w' hSw; (try dsimp only at hSw); go_simp; try with_reducible rfl
    try simp only [Act.put, List.setIfInBounds_toArray, List.set_cons_zero, List.set_cons_succ]
    refine takeW 1 (v := ?v2) rfl (by kernel_rfl) (by kernel_rfl) (by kernel_rfl) (fun _ _ _ h => h) (by rfl) (by assumption) ?hy2 ?rest2
    case hy2 => intro w' hSw; (try dsimp only at hSw); go_simp; try with_reducible rfl
    try simp only [Act.put, List.setIfInBounds_toArray, List.set_cons_zero, List.set_cons_succ]
    refine takeW 2 (v := ?v3) rfl (by kernel_rfl) (by kernel_rfl) (by kernel_rfl) (fun _ _ _ h => h) (by rfl) (by assumption) ?hy3 ?rest3
    case hy3 => intro w' hSw; (try dsimp only at hSw); go_simp; try with_reducible rfl
    try simp only [Act.put, List.setIfInBounds_toArray, List.set_cons_zero, List.set_cons_succ]
    refine takeW 3 (v := ?v4) rfl (by kernel_rfl) (by kernel_rfl) (by kernel_rfl) (fun _ _ _ h => h) (by rfl) (by assumption) ?hy4 ?rest4
    case hy4 => intro w' hSw; (try dsimp only at hSw); go_simp; try with_reducible rfl
    try simp only [Act.put, List.setIfInBounds_toArray, List.set_cons_zero, List.set_cons_succ]
    refine takeC 4 (by kernel_rfl) rfl (fun K hK => ?_)
    go_simp
    skip
    refine hK.out _ _ ?_ (fun hHeld => ?_)
    · first | go_keep | exact ((((F1.other hkn 0 _).other hkn 1 _).other hkn 2 _).other hkn 3 _).c
    clear hK K
    try simp only [Act.put, List.setIfInBounds_toArray, List.set_cons_zero, List.set_cons_succ]
    refine takeW 5 (v := ?v5) rfl (by kernel_rfl) (by kernel_rfl) (by kernel_rfl) (fun _ _ _ h => h) (by rfl) (by assumption) ?hy5 ?rest5
    case hy5 => intro w' hSw; (try dsimp only at hSw); go_simp; try with_reducible rfl
    try simp only [Act.put, List.setIfInBounds_toArray, List.set_cons_zero, List.set_cons_succ]
    refine takeW 6 (v := ?v6) rfl (by kernel_rfl) (by kernel_rfl) (by kernel_rfl) (fun _ _ _ h => h) (by rfl) (by assumption) ?hy6 ?rest6
    case hy6 => intro w' hSw; (try dsimp only at hSw); go_simp; try with_reducible rfl
    try simp only [Act.put, List.setIfInBounds_toArray, List.set_cons_zero, List.set_cons_succ]
    refine wpAnyH_done (by kernel_rfl) ?_ _
    have G := (((F2.s0 (.slice x1 s.ws.length z1)).s1 (.int .i64 s.nx)).s2 (.slice x2 s.rv.length z2)).s3 (.slice x3 y3 z3)
    have pB := below_four hBB (k := w.heap.size + 1) (by omega) (.slice x1 s.ws.length z1) (.int .i64 s.nx) (.slice x2 s.rv.length z2) (.slice x3 y3 z3)
    have q1 := row_four o1 (k := w.heap.size + 1) (by omega) (.slice x1 s.ws.length z1) (.int .i64 s.nx) (.slice x2 s.rv.length z2) (.slice x3 y3 z3)
    have q2 := row_four o2 (k := w.heap.size + 1) (by omega) (.slice x1 s.ws.length z1) (.int .i64 s.nx) (.slice x2 s.rv.length z2) (.slice x3 y3 z3)
    have q3 := row_four o3 (k := w.heap.size + 1) (by omega) (.slice x1 s.ws.length z1) (.int .i64 s.nx) (.slice x2 s.rv.length z2) (.slice x3 y3 z3)
    go_wp2_with fail
    clear r0 r1 r2 r3 f0 f1 f2 f3 c0 c1 c2 c3 hHeld
    generalize (((Wd.setCell ⟨w.heap.size + 1, 0, none⟩ (.slice x1 s.ws.length z1)).setCell ⟨w.heap.size + 1, 1, none⟩ (.int .i64 s.nx)).setCell ⟨w.heap.size + 1, 2, none⟩ (.slice x2 s.rv.length z2)).setCell ⟨w.heap.size + 1, 3, none⟩ (.slice x3 y3 z3) = W5 at *
    obtain ⟨d0, d1, d2, d3⟩ := G.c
    exact bodyPost_ret (v := .tuple #[.agg #[(.slice x1 s.ws.length z1), (.int .i64 s.nx), (.slice x2 s.rv.length z2), (.slice x3 y3 z3)], .int .i64 (s.rv.length : Int), .int .i64 3]) (by simp [results, Tryd.results12, go_sem, d0, d1, d2, d3]) rfl ⟨_, by rw [HR.out], by rw [HR.out]; exact IsO.of (s := s) (Go.Joins.ownsRow_le q1 (by omega)) (Go.Joins.ownsRow_le q2 (by omega)) (Go.Joins.ownsRow_le q3 (by omega)), pB⟩
  · have hlt := hasW_lt hh
    obtain ⟨g5, hg5⟩ : ∃ g, x1 = some ⟨g, 0, none⟩ := by
      rcases row_form o1 with ⟨_, h0⟩ | ⟨g, z, hv, _, _⟩
      · omega
      · injection hv with hv _ _
        exact ⟨g, hv⟩
    subst hg5
    have HLV := hid (show livW s.ws name = s.ws[atW s.ws name].live by rw [livW_at hlt, hh]; rfl)
    have hl5 := o1.1
    have hin : ((atW s.ws name : Nat) : Int) < (s.ws.length : Int) := by omega
    have hcell := wflat_at s.ws (atW s.ws name) 1 hlt (by omega)
    have s1 := (o1.cellAt (atW s.ws name * 3 + 1) (by omega)).trans hcell
    simp only [List.getElem?_cons_succ, List.getElem?_cons_zero] at s1
    clear hcell
    cases hli : s.ws[atW s.ws name].live
    · rw [hli] at s1
      have HR := hid (HN.out (HLV.out.trans hli))
      clear HLV hli HX HN hup
      generalize atW s.ws name = n at *
      obtain ⟨a0, a1, a2, a3⟩ := F1.c
      go_wp2_with fail
      clear a0 a1 a2 a3 s1
      have hBd : Below (w4).heap.size (w4) (w4).drew := (Below.refl _ _).drew
      have hkn : w.heap.size ≠ w.heap.size + 1 := by omega
      obtain ⟨c0, c1, c2, c3⟩ := F1.c
      replace F1 := F1.below hBd
      replace F2 := F2.below hBd
      replace o1 := ownsRow_below o1 hBd
      replace o2 := ownsRow_below o2 hBd
      replace o3 := ownsRow_below o3 hBd
      replace hBB := below_one hBB hBd
      clear hBd
      obtain ⟨r0, r1, r2, r3⟩ := F2.c
      have f0 := F2.f 0
      have f1 := F2.f 1
      have f2 := F2.f 2
      have f3 := F2.f 3
      refine wp_region_held_drew (S := fun w' => w'.cell? ⟨w.heap.size, 0, none⟩ = some (.slice (some ⟨g5, 0, none⟩) s.ws.length z1) ∧ w'.cell? ⟨w.heap.size, 1, none⟩ = some (.int .i64 s.nx) ∧ w'.cell? ⟨w.heap.size, 2, none⟩ = some (.slice x2 s.rv.length z2) ∧ w'.cell? ⟨w.heap.size, 3, none⟩ = some (.slice x3 y3 z3)) (by kernel_rfl) ?_ (fun hHeld => ?_)
      · first | go_keep | exact ((((F1.other hkn 0 _).other hkn 1 _).other hkn 2 _).other hkn 3 _).c
      generalize (w4).drew = Wd at *
      refine takeW 0 (v := ?v7) rfl (by kernel_rfl) (by kernel_rfl) (by kernel_rfl) (fun _ _ _ h => h) (by rfl) (by assumption) ?hy7 ?rest7
      case hy7 => intro w' hSw; (try dsimp only at hSw); go_simp; try with_reducible rfl
      try simp only [Act.put, List.setIfInBounds_toArray, List.set_cons_zero, List.set_cons_succ]
      refine takeW 1 (v := ?v8) rfl (by kernel_rfl) (by kernel_rfl) (by kernel_rfl) (fun _ _ _ h => h) (by rfl) (by assumption) ?hy8 ?rest8
      case hy8 => intro w' hSw; (try dsimp only at hSw); go_simp; try with_reducible rfl
      try simp only [Act.put, List.setIfInBounds_toArray, List.set_cons_zero, List.set_cons_succ]
      refine takeW 2 (v := ?v9) rfl (by kernel_rfl) (by kernel_rfl) (by kernel_rfl) (fun _ _ _ h => h) (by rfl) (by assumption) ?hy9 ?rest9
      case hy9 => intro w' hSw; (try dsimp only at hSw); go_simp; try with_reducible rfl
      try simp only [Act.put, List.setIfInBounds_toArray, List.set_cons_zero, List.set_cons_succ]
      refine takeW 3 (v := ?v10) rfl (by kernel_rfl) (by kernel_rfl) (by kernel_rfl) (fun _ _ _ h => h) (by rfl) (by assumption) ?hy10 ?rest10
      case hy10 => intro w' hSw; (try dsimp only at hSw); go_simp; try with_reducible rfl
      try simp only [Act.put, List.setIfInBounds_toArray, List.set_cons_zero, List.set_cons_succ]
      refine takeC 4 (by kernel_rfl) rfl (fun K hK => ?_)
      go_simp
      skip
      refine hK.out _ _ ?_ (fun hHeld => ?_)
      · first | go_keep | exact ((((F1.other hkn 0 _).other hkn 1 _).other hkn 2 _).other hkn 3 _).c
      clear hK K
      try simp only [Act.put, List.setIfInBounds_toArray, List.set_cons_zero, List.set_cons_succ]
      refine takeW 5 (v := ?v11) rfl (by kernel_rfl) (by kernel_rfl) (by kernel_rfl) (fun _ _ _ h => h) (by rfl) (by assumption) ?hy11 ?rest11
      case hy11 => intro w' hSw; (try dsimp only at hSw); go_simp; try with_reducible rfl
      try simp only [Act.put, List.setIfInBounds_toArray, List.set_cons_zero, List.set_cons_succ]
      refine takeW 6 (v := ?v12) rfl (by kernel_rfl) (by kernel_rfl) (by kernel_rfl) (fun _ _ _ h => h) (by rfl) (by assumption) ?hy12 ?rest12
      case hy12 => intro w' hSw; (try dsimp only at hSw); go_simp; try with_reducible rfl
      try simp only [Act.put, List.setIfInBounds_toArray, List.set_cons_zero, List.set_cons_succ]
      refine wpAnyH_done (by kernel_rfl) ?_ _
      have G := (((F2.s0 (.slice (some ⟨g5, 0, none⟩) s.ws.length z1)).s1 (.int .i64 s.nx)).s2 (.slice x2 s.rv.length z2)).s3 (.slice x3 y3 z3)
      have pB := below_four hBB (k := w.heap.size + 1) (by omega) (.slice (some ⟨g5, 0, none⟩) s.ws.length z1) (.int .i64 s.nx) (.slice x2 s.rv.length z2) (.slice x3 y3 z3)
      have q1 := row_four o1 (k := w.heap.size + 1) (by omega) (.slice (some ⟨g5, 0, none⟩) s.ws.length z1) (.int .i64 s.nx) (.slice x2 s.rv.length z2) (.slice x3 y3 z3)
      have q2 := row_four o2 (k := w.heap.size + 1) (by omega) (.slice (some ⟨g5, 0, none⟩) s.ws.length z1) (.int .i64 s.nx) (.slice x2 s.rv.length z2) (.slice x3 y3 z3)
      have q3 := row_four o3 (k := w.heap.size + 1) (by omega) (.slice (some ⟨g5, 0, none⟩) s.ws.length z1) (.int .i64 s.nx) (.slice x2 s.rv.length z2) (.slice x3 y3 z3)
      go_wp2_with fail
      clear r0 r1 r2 r3 f0 f1 f2 f3 c0 c1 c2 c3 hHeld
      generalize (((Wd.setCell ⟨w.heap.size + 1, 0, none⟩ (.slice (some ⟨g5, 0, none⟩) s.ws.length z1)).setCell ⟨w.heap.size + 1, 1, none⟩ (.int .i64 s.nx)).setCell ⟨w.heap.size + 1, 2, none⟩ (.slice x2 s.rv.length z2)).setCell ⟨w.heap.size + 1, 3, none⟩ (.slice x3 y3 z3) = W5 at *
      obtain ⟨d0, d1, d2, d3⟩ := G.c
      exact bodyPost_ret (v := .tuple #[.agg #[(.slice (some ⟨g5, 0, none⟩) s.ws.length z1), (.int .i64 s.nx), (.slice x2 s.rv.length z2), (.slice x3 y3 z3)], .int .i64 (s.rv.length : Int), .int .i64 3]) (by simp [results, Tryd.results12, go_sem, d0, d1, d2, d3]) rfl ⟨_, by rw [HR.out], by rw [HR.out]; exact IsO.of (s := s) (Go.Joins.ownsRow_le q1 (by omega)) (Go.Joins.ownsRow_le q2 (by omega)) (Go.Joins.ownsRow_le q3 (by omega)), pB⟩
    · rw [hli] at s1
      replace HX := hid (HX.out (HLV.out.trans hli) hlt)
      clear HLV hli HN
      have hd1 : w.heap.size ≠ g5 := fun e => row_apart F1 o1 (by decide) w.heap.size rfl (by rw [e]; rfl)
      have hd2 : g5 ≠ w.heap.size := fun e => hd1 e.symm
      have hd3 : w.heap.size + 1 ≠ g5 := fun e => row_apart F2 o1 (by decide) (w.heap.size + 1) rfl (by rw [e]; rfl)
      have hd4 : g5 ≠ w.heap.size + 1 := fun e => hd3 e.symm
      have HW := hid (wflat_live s.ws (atW s.ws name) hlt)
      have hcell := wflat_at s.ws (atW s.ws name) 2 hlt (by omega)
      simp only [List.getElem?_cons_succ, List.getElem?_cons_zero] at hcell
      obtain ⟨ze, HZ⟩ : ∃ z, Hid (z = s.ws[atW s.ws name].se) := ⟨_, hid rfl⟩
      obtain ⟨ne, HNE⟩ : ∃ z, Hid (z = s.ws[atW s.ws name].name) := ⟨_, hid rfl⟩
      rw [← HZ.out] at hcell
      have HX2 := hid (show rkX s name = (⟨s.ws.set (atW s.ws name) ⟨ne, false, ze⟩, s.nx, rvN s.rv ze, s.sg⟩, ((rvN s.rv ze).length : Int), 0) by rw [HX.out, HZ.out, HNE.out])
      replace HW := hid (show (s.ws.flatMap Wk.cells).set (atW s.ws name * 3 + 1) (.bool false) = (s.ws.set (atW s.ws name) ⟨ne, false, ze⟩).flatMap Wk.cells by rw [HW.out, HZ.out, HNE.out])
      clear HX HZ HNE
      generalize atW s.ws name = n at *
      have s2 := (o1.cellAt (n * 3 + 2) (by omega)).trans hcell
      have t1 := o1.frozenAt (n * 3 + 1)
      have Q1 := o1.stored (n * 3 + 1) (.bool false)
      have hG := Q1.2
      have e2 := (Q1.1.cellAt (n * 3 + 2) (by omega)).trans ((List.getElem?_set_ne (by omega)).trans hcell)
      obtain ⟨a0, a1, a2, a3⟩ := F1.c
      replace F1 : Four (w4.setCell ⟨g5, n * 3 + 1, none⟩ (.bool false)) _ _ _ _ _ _ := World.ownsRow.kept F1 hG (.inr (by simp [Value.ownBlock]; exact hd1))
      replace F2 : Four (w4.setCell ⟨g5, n * 3 + 1, none⟩ (.bool false)) _ _ _ _ _ _ := World.ownsRow.kept F2 hG (.inr (by simp [Value.ownBlock]; exact hd3))
      replace o2 := kept_apart (v2 := .slice (some ⟨g5, 0, none⟩) s.ws.length z1) o2 hG (row_apart o2 o1 (by decide))
      replace o3 := kept_apart (v2 := .slice (some ⟨g5, 0, none⟩) s.ws.length z1) o3 hG (row_apart o3 o1 (by decide))
      have hB6 := hBB.grown hG hBB.size (fun k e => by simp at e; have := (o1.lt g5 rfl).1; omega)
      have o6 := Q1.1
      rw [HW.out] at o6
      have HL := hid (show s.ws.length = (s.ws.set n ⟨ne, false, ze⟩).length by simp)
      clear Q1 hG hBB o1 hcell
      have o1 := o6
      have hBB := hB6
      clear o6 hB6
      have hk6 : w2.heap.size ≤ ((w4.setCell ⟨g5, n * 3 + 1, none⟩ (.bool false))).heap.size := by simp; exact hk4
      obtain ⟨b0, b1, b2, b3⟩ := F1.c
      cases hz0 : (ze != 0)
      · have HR := hid (show rkX s name = (⟨s.ws.set n ⟨ne, false, ze⟩, s.nx, s.rv, s.sg⟩, (s.rv.length : Int), 0) by rw [HX2.out]; unfold rvN; rw [hz0]; rfl)
        clear HX2 hup
        go_wp2_with fail
        clear a0 a1 a2 a3 b0 b1 b2 b3 s1 s2 t1 e2
        generalize (w4.setCell ⟨g5, n * 3 + 1, none⟩ (.bool false)) = W4 at *
        have hBd : Below (W4).heap.size (W4) (W4).drew := (Below.refl _ _).drew
        have hkn : w.heap.size ≠ w.heap.size + 1 := by omega
        obtain ⟨c0, c1, c2, c3⟩ := F1.c
        replace F1 := F1.below hBd
        replace F2 := F2.below hBd
        replace o1 := ownsRow_below o1 hBd
        replace o2 := ownsRow_below o2 hBd
        replace o3 := ownsRow_below o3 hBd
        replace hBB := below_one hBB hBd
        clear hBd
        obtain ⟨r0, r1, r2, r3⟩ := F2.c
        have f0 := F2.f 0
        have f1 := F2.f 1
        have f2 := F2.f 2
        have f3 := F2.f 3
        refine wp_region_held_drew (S := fun w' => w'.cell? ⟨w.heap.size, 0, none⟩ = some (.slice (some ⟨g5, 0, none⟩) s.ws.length z1) ∧ w'.cell? ⟨w.heap.size, 1, none⟩ = some (.int .i64 s.nx) ∧ w'.cell? ⟨w.heap.size, 2, none⟩ = some (.slice x2 s.rv.length z2) ∧ w'.cell? ⟨w.heap.size, 3, none⟩ = some (.slice x3 y3 z3)) (by kernel_rfl) ?_ (fun hHeld => ?_)
        · first | go_keep | exact ((((F1.other hkn 0 _).other hkn 1 _).other hkn 2 _).other hkn 3 _).c
        generalize (W4).drew = Wd at *
        refine takeW 0 (v := ?v13) rfl (by kernel_rfl) (by kernel_rfl) (by kernel_rfl) (fun _ _ _ h => h) (by rfl) (by assumption) ?hy13 ?rest13
        case hy13 => intro w' hSw; (try dsimp only at hSw); go_simp; try with_reducible rfl
        try simp only [Act.put, List.setIfInBounds_toArray, List.set_cons_zero, List.set_cons_succ]
        refine takeW 1 (v := ?v14) rfl (by kernel_rfl) (by kernel_rfl) (by kernel_rfl) (fun _ _ _ h => h) (by rfl) (by assumption) ?hy14 ?rest14
        case hy14 => intro w' hSw; (try dsimp only at hSw); go_simp; try with_reducible rfl
        try simp only [Act.put, List.setIfInBounds_toArray, List.set_cons_zero, List.set_cons_succ]
        refine takeW 2 (v := ?v15) rfl (by kernel_rfl) (by kernel_rfl) (by kernel_rfl) (fun _ _ _ h => h) (by rfl) (by assumption) ?hy15 ?rest15
        case hy15 => intro w' hSw; (try dsimp only at hSw); go_simp; try with_reducible rfl
        try simp only [Act.put, List.setIfInBounds_toArray, List.set_cons_zero, List.set_cons_succ]
        refine takeW 3 (v := ?v16) rfl (by kernel_rfl) (by kernel_rfl) (by kernel_rfl) (fun _ _ _ h => h) (by rfl) (by assumption) ?hy16 ?rest16
        case hy16 => intro w' hSw; (try dsimp only at hSw); go_simp; try with_reducible rfl
        try simp only [Act.put, List.setIfInBounds_toArray, List.set_cons_zero, List.set_cons_succ]
        refine takeC 4 (by kernel_rfl) rfl (fun K hK => ?_)
        go_simp
        skip
        refine hK.out _ _ ?_ (fun hHeld => ?_)
        · first | go_keep | exact ((((F1.other hkn 0 _).other hkn 1 _).other hkn 2 _).other hkn 3 _).c
        clear hK K
        try simp only [Act.put, List.setIfInBounds_toArray, List.set_cons_zero, List.set_cons_succ]
        refine takeW 5 (v := ?v17) rfl (by kernel_rfl) (by kernel_rfl) (by kernel_rfl) (fun _ _ _ h => h) (by rfl) (by assumption) ?hy17 ?rest17
        case hy17 => intro w' hSw; (try dsimp only at hSw); go_simp; try with_reducible rfl
        try simp only [Act.put, List.setIfInBounds_toArray, List.set_cons_zero, List.set_cons_succ]
        refine takeW 6 (v := ?v18) rfl (by kernel_rfl) (by kernel_rfl) (by kernel_rfl) (fun _ _ _ h => h) (by rfl) (by assumption) ?hy18 ?rest18
        case hy18 => intro w' hSw; (try dsimp only at hSw); go_simp; try with_reducible rfl
        try simp only [Act.put, List.setIfInBounds_toArray, List.set_cons_zero, List.set_cons_succ]
        refine wpAnyH_done (by kernel_rfl) ?_ _
        have G := (((F2.s0 (.slice (some ⟨g5, 0, none⟩) s.ws.length z1)).s1 (.int .i64 s.nx)).s2 (.slice x2 s.rv.length z2)).s3 (.slice x3 y3 z3)
        have pB := below_four hBB (k := w.heap.size + 1) (by omega) (.slice (some ⟨g5, 0, none⟩) s.ws.length z1) (.int .i64 s.nx) (.slice x2 s.rv.length z2) (.slice x3 y3 z3)
        have q1 := row_four o1 (k := w.heap.size + 1) (by omega) (.slice (some ⟨g5, 0, none⟩) s.ws.length z1) (.int .i64 s.nx) (.slice x2 s.rv.length z2) (.slice x3 y3 z3)
        have q2 := row_four o2 (k := w.heap.size + 1) (by omega) (.slice (some ⟨g5, 0, none⟩) s.ws.length z1) (.int .i64 s.nx) (.slice x2 s.rv.length z2) (.slice x3 y3 z3)
        have q3 := row_four o3 (k := w.heap.size + 1) (by omega) (.slice (some ⟨g5, 0, none⟩) s.ws.length z1) (.int .i64 s.nx) (.slice x2 s.rv.length z2) (.slice x3 y3 z3)
        go_wp2_with fail
        clear r0 r1 r2 r3 f0 f1 f2 f3 c0 c1 c2 c3 hHeld
        generalize (((Wd.setCell ⟨w.heap.size + 1, 0, none⟩ (.slice (some ⟨g5, 0, none⟩) s.ws.length z1)).setCell ⟨w.heap.size + 1, 1, none⟩ (.int .i64 s.nx)).setCell ⟨w.heap.size + 1, 2, none⟩ (.slice x2 s.rv.length z2)).setCell ⟨w.heap.size + 1, 3, none⟩ (.slice x3 y3 z3) = W5 at *
        obtain ⟨d0, d1, d2, d3⟩ := G.c
        exact bodyPost_ret (v := .tuple #[.agg #[(.slice (some ⟨g5, 0, none⟩) s.ws.length z1), (.int .i64 s.nx), (.slice x2 s.rv.length z2), (.slice x3 y3 z3)], .int .i64 (s.rv.length : Int), .int .i64 0]) (by simp [results, Tryd.results12, go_sem, d0, d1, d2, d3]) rfl ⟨_, by rw [HR.out], by rw [HR.out]; exact IsO.of (s := ⟨s.ws.set n ⟨ne, false, ze⟩, s.nx, s.rv, s.sg⟩) (Go.Joins.ownsRow_le (row_cast q1 HL.out) (by omega)) (Go.Joins.ownsRow_le q2 (by omega)) (Go.Joins.ownsRow_le q3 (by omega)), pB⟩
      · go_wp2_with fail
        clear a0 a1 a2 a3 b0 b1 b2 b3 s1 s2 t1 e2
        generalize (w4.setCell ⟨g5, n * 3 + 1, none⟩ (.bool false)) = W4 at *
        refine (l1Has_any _ s.rv ze _ (by have := hs.2.1; omega) (VS.ownN o2)).mono ?_
        rintro e w5 ⟨rfl, rfl⟩
        rw [isI_hasN hup]
        clear hup
        cases hz1 : hasN s.rv ze
        · have HR0 := hid (show rkX s name = (⟨s.ws.set n ⟨ne, false, ze⟩, s.nx, s.rv.take (atN s.rv ze) ++ ze :: s.rv.drop (atN s.rv ze), s.sg⟩, ((s.rv.take (atN s.rv ze) ++ ze :: s.rv.drop (atN s.rv ze)).length : Int), 0) by rw [HX2.out]; unfold rvN insN; rw [hz0, hz1]; rfl)
          clear HX2 hz1
          obtain ⟨x7, hx7⟩ : ∃ g, x2 = some ⟨g, 0, none⟩ := by
            rcases row_form o2 with ⟨hv, _⟩ | ⟨g, z, hv, _, _⟩
            · injection hv with hv _ _
              exact absurd hv HSM2.out
            · injection hv with hv _ _
              exact ⟨g, hv⟩
          subst hx7
          obtain ⟨a0, a1, a2, a3⟩ := F1.c
          have hle := atN_le s.rv ze
          have hl2 := hs.2.1
          have hrl : (nums s.rv).length = s.rv.length := by simp [nums]
          have hzc : s.rv.length ≤ z2 := by
            rcases row_form o2 with ⟨hv, _⟩ | ⟨g, z, hv, _, hz⟩
            · simp at hv
            · simp at hv
              omega
          go_wp2_with fail
          go_loopw [10] (fun i wr => ∃ k : Nat, k ≤ atN s.rv ze ∧ i = .int .i64 k ∧ wr = w5) (fun i _ => s.rv.length - (intOf i).toNat)
          case atStart => exact ⟨0, Nat.zero_le _, rfl, rfl⟩
          case round =>
            obtain ⟨m, hm0, rfl, rfl⟩ := hrel
            by_cases hlm : m < s.rv.length
            · have q0 := o2.cellAt m (by omega)
              rw [show (nums s.rv)[m]? = some (.int .i64 s.rv[m]) by simp [nums, hlm]] at q0
              have HL1 := hid (fun h => atN_lt (n := ze) hlm h)
              have HA1 := hid (fun h => atN_at (n := ze) hlm h)
              generalize s.rv[m] = kk at *
              by_cases hna : m < atN s.rv ze
              · have hc : decide (kk < ze) = true := by have := HL1.out hna; simp; omega
                go_wp2_with fail
                go_roundw
                case rel => exact ⟨m + 1, by omega, by go_num, by trivial⟩
                case measure => simp [intOf]; omega
              · have hne : m = atN s.rv ze := by omega
                have hc : decide (kk < ze) = false := by have := HA1.out hne; simp; omega
                rw [← hne] at HR0
                clear HL1 HA1 hna hm0 hle
                have HNE := hid hne
                clear hne
                have HL2 := hid (show m + 1 + (s.rv.length - m) = (s.rv.take m ++ ze :: s.rv.drop m).length by first | (simp; done) | (simp; omega))
                obtain ⟨iw, hiw, hw0, hw1, hw2⟩ := info_parts infoInt
                have hn1 : (m : Int) ≤ (s.rv.length : Int) := by omega
                have hn2 : (m : Int) ≤ (z2 : Int) := by omega
                have htk : ∀ j u, ((nums s.rv).take m)[j]? = some u → wr.cell? ((⟨x7, 0, none⟩ : Addr).add j) = some u := fun j u hj => by
                  rw [List.getElem?_take] at hj
                  split at hj
                  · exact o2.cells (g := x7) rfl j u hj
                  · cases hj
                have hN := World.ownsRow_nil wr wr.heap.size 3 1
                go_wp2_with (at_builtin; refine wpList_append_own _ rfl _ _ 23 rfl wr.heap.size 3 iw _ 1 8 Tryd.underlying23 hiw hw0 hw1 hw2 rfl (by decide) _ _ _ rfl hN ⟨x7, 0, none⟩ m z2 ((nums s.rv).take m) rfl (by rw [List.length_take]; omega) htk (fun u hu => one_n u (List.mem_of_mem_take hu)) (by unfold maxLen; omega) (by omega) (Nat.le_refl _) ?_)
                intro v5 w6 o5 g6 _
                obtain ⟨y5, y6, y7, rfl⟩ := row_slice o5
                have hC5 : Below wr.heap.size wr w6 := (Below.refl _ _).grown g6 (Nat.le_refl _) (fun k e => by simp [Value.ownBlock] at e)
                clear g6 htk hN
                have o5a := o5.alloc (.cells #[.int .i64 ze] 3)
                have hC5a : Below wr.heap.size wr (w6.alloc (.cells #[.int .i64 ze] 3)) := hC5.alloc hC5.size _
                have hnw : ∀ j u, ([Value.int .i64 ze])[j]? = some u → (w6.alloc (.cells #[.int .i64 ze] 3)).cell? ((⟨w6.heap.size, 0, none⟩ : Addr).add j) = some u := fun j u hj => by
                  rw [Addr.add_lit, Nat.zero_add, World.cell?_alloc_at _ _ _ _ rfl]
                  simpa using hj
                go_wp2_with (at_builtin; refine wpList_append_own _ rfl _ _ 23 rfl wr.heap.size 3 iw _ 1 8 Tryd.underlying23 hiw hw0 hw1 hw2 rfl (by decide) _ _ _ rfl o5a ⟨w6.heap.size, 0, none⟩ 1 1 [Value.int .i64 ze] rfl rfl hnw (by intro u hu; simp at hu; rw [hu]; rfl) (by unfold maxLen; omega) (by omega) hC5a.size ?_)
                intro v6 w7 o6 g7 _
                obtain ⟨u5, u6, u7, rfl⟩ := row_slice o6
                have hC6 : Below wr.heap.size wr w7 := hC5a.grown g7 hC5a.size (fun k e => (o5a.lt k e).1)
                clear o5 o5a g7 hnw hC5 hC5a
                obtain ⟨b0, b1, b2, b3⟩ := (F1.below hC6).c
                have o2w := ownsRow_below o2 hC6
                have hzn : ¬ (z2 = m) := by omega
                have hdr : ∀ j u, ((nums s.rv).drop m)[j]? = some u → w7.cell? ((⟨x7, m, none⟩ : Addr).add j) = some u := fun j u hj => by
                  rw [List.getElem?_drop] at hj
                  have := o2w.cells (g := x7) rfl _ u hj
                  rw [Addr.add_lit, Nat.zero_add] at this
                  rw [Addr.add_lit]
                  exact this
                go_wp2_with (at_builtin; refine wpList_append_own _ rfl _ _ 23 rfl wr.heap.size 3 iw _ 1 8 Tryd.underlying23 hiw hw0 hw1 hw2 rfl (by decide) _ _ _ rfl o6 ⟨x7, m, none⟩ (s.rv.length - m) (z2 - m) ((nums s.rv).drop m) rfl (by rw [List.length_drop]; omega) hdr (fun u hu => one_n u (List.mem_of_mem_drop hu)) (by unfold maxLen; omega) (by omega) hC6.size ?_)
                intro v7 w8 o7 g8 _
                replace o7 : w8.ownsRow wr.heap.size 3 1 v7 (m + 1 + (s.rv.length - m)) (nums (s.rv.take m ++ ze :: s.rv.drop m)) := by rw [← nput]; simpa using o7
                clear hdr
                obtain ⟨l5, l6, l7, rfl⟩ := row_slice o7
                obtain rfl : l6 = m + 1 + (s.rv.length - m) := row_len o7
                have hC7 : Below wr.heap.size wr w8 := hC6.grown g8 hC6.size (fun k e => (o6.lt k e).1)
                replace F1 := F1.below hC7
                replace F2 := F2.below hC7
                replace o1 := ownsRow_below o1 hC7
                replace o3 := ownsRow_below o3 hC7
                replace hBB := below_one hBB hC7
                clear b0 b1 b2 b3 hC6 o6 g8 o2w hC7 a0 a1 a2 a3 o2
                have o2 := o7
                clear o7
                obtain ⟨a0, a1, a2, a3⟩ := F1.c
                have bf := F1.f 2
                replace F1 := F1.s2 (.slice l5 (m + 1 + (s.rv.length - m)) l7)
                replace F2 := F2.other (k' := w.heap.size) (by omega) 2 (.slice l5 (m + 1 + (s.rv.length - m)) l7)
                replace o1 := ownsRow_setCell_below o1 (a := ⟨w.heap.size, 2, none⟩) (by simp; omega) (.slice l5 (m + 1 + (s.rv.length - m)) l7)
                replace o2 := ownsRow_setCell_below o2 (a := ⟨w.heap.size, 2, none⟩) (by simp; omega) (.slice l5 (m + 1 + (s.rv.length - m)) l7)
                replace o3 := ownsRow_setCell_below o3 (a := ⟨w.heap.size, 2, none⟩) (by simp; omega) (.slice l5 (m + 1 + (s.rv.length - m)) l7)
                replace hBB := hBB.setCell (p := ⟨w.heap.size, 2, none⟩) (by simp) (.slice l5 (m + 1 + (s.rv.length - m)) l7)
                go_wp2_with fail
                clear a0 a1 a2 a3 bf
                have HR := hid (show rkX s name = (⟨s.ws.set n ⟨ne, false, ze⟩, s.nx, s.rv.take m ++ ze :: s.rv.drop m, s.sg⟩, ((m + 1 + (s.rv.length - m) : Nat) : Int), 0) by rw [HR0.out, ← HL2.out])
                clear HR0
                generalize w8.setCell ⟨w.heap.size, 2, none⟩ (.slice l5 (m + 1 + (s.rv.length - m)) l7) = W8 at *
                have hBd : Below (W8).heap.size (W8) (W8).drew := (Below.refl _ _).drew
                have hkn : w.heap.size ≠ w.heap.size + 1 := by omega
                obtain ⟨c0, c1, c2, c3⟩ := F1.c
                replace F1 := F1.below hBd
                replace F2 := F2.below hBd
                replace o1 := ownsRow_below o1 hBd
                replace o2 := ownsRow_below o2 hBd
                replace o3 := ownsRow_below o3 hBd
                replace hBB := below_one hBB hBd
                clear hBd
                obtain ⟨r0, r1, r2, r3⟩ := F2.c
                have f0 := F2.f 0
                have f1 := F2.f 1
                have f2 := F2.f 2
                have f3 := F2.f 3
                refine wp_region_held_drew (S := fun w' => w'.cell? ⟨w.heap.size, 0, none⟩ = some (.slice (some ⟨g5, 0, none⟩) s.ws.length z1) ∧ w'.cell? ⟨w.heap.size, 1, none⟩ = some (.int .i64 s.nx) ∧ w'.cell? ⟨w.heap.size, 2, none⟩ = some (.slice l5 (m + 1 + (s.rv.length - m)) l7) ∧ w'.cell? ⟨w.heap.size, 3, none⟩ = some (.slice x3 y3 z3)) (by kernel_rfl) ?_ (fun hHeld => ?_)
                · first | go_keep | exact ((((F1.other hkn 0 _).other hkn 1 _).other hkn 2 _).other hkn 3 _).c
                generalize (W8).drew = Wd at *
                refine takeW 0 (v := ?v25) rfl (by kernel_rfl) (by kernel_rfl) (by kernel_rfl) (fun _ _ _ h => h) (by rfl) (by assumption) ?hy25 ?rest25
                case hy25 => intro w' hSw; (try dsimp only at hSw); go_simp; try with_reducible rfl
                try simp only [Act.put, List.setIfInBounds_toArray, List.set_cons_zero, List.set_cons_succ]
                refine takeW 1 (v := ?v26) rfl (by kernel_rfl) (by kernel_rfl) (by kernel_rfl) (fun _ _ _ h => h) (by rfl) (by assumption) ?hy26 ?rest26
                case hy26 => intro w' hSw; (try dsimp only at hSw); go_simp; try with_reducible rfl
                try simp only [Act.put, List.setIfInBounds_toArray, List.set_cons_zero, List.set_cons_succ]
                refine takeW 2 (v := ?v27) rfl (by kernel_rfl) (by kernel_rfl) (by kernel_rfl) (fun _ _ _ h => h) (by rfl) (by assumption) ?hy27 ?rest27
                case hy27 => intro w' hSw; (try dsimp only at hSw); go_simp; try with_reducible rfl
                try simp only [Act.put, List.setIfInBounds_toArray, List.set_cons_zero, List.set_cons_succ]
                refine takeW 3 (v := ?v28) rfl (by kernel_rfl) (by kernel_rfl) (by kernel_rfl) (fun _ _ _ h => h) (by rfl) (by assumption) ?hy28 ?rest28
                case hy28 => intro w' hSw; (try dsimp only at hSw); go_simp; try with_reducible rfl
                try simp only [Act.put, List.setIfInBounds_toArray, List.set_cons_zero, List.set_cons_succ]
                refine takeC 4 (by kernel_rfl) rfl (fun K hK => ?_)
                go_simp
                skip
                refine hK.out _ _ ?_ (fun hHeld => ?_)
                · first | go_keep | exact ((((F1.other hkn 0 _).other hkn 1 _).other hkn 2 _).other hkn 3 _).c
                clear hK K
                try simp only [Act.put, List.setIfInBounds_toArray, List.set_cons_zero, List.set_cons_succ]
                refine takeW 5 (v := ?v29) rfl (by kernel_rfl) (by kernel_rfl) (by kernel_rfl) (fun _ _ _ h => h) (by rfl) (by assumption) ?hy29 ?rest29
                case hy29 => intro w' hSw; (try dsimp only at hSw); go_simp; try with_reducible rfl
                try simp only [Act.put, List.setIfInBounds_toArray, List.set_cons_zero, List.set_cons_succ]
                refine takeW 6 (v := ?v30) rfl (by kernel_rfl) (by kernel_rfl) (by kernel_rfl) (fun _ _ _ h => h) (by rfl) (by assumption) ?hy30 ?rest30
                case hy30 => intro w' hSw; (try dsimp only at hSw); go_simp; try with_reducible rfl
                try simp only [Act.put, List.setIfInBounds_toArray, List.set_cons_zero, List.set_cons_succ]
                refine wpAnyH_done (by kernel_rfl) ?_ _
                have G := (((F2.s0 (.slice (some ⟨g5, 0, none⟩) s.ws.length z1)).s1 (.int .i64 s.nx)).s2 (.slice l5 (m + 1 + (s.rv.length - m)) l7)).s3 (.slice x3 y3 z3)
                have pB := below_four hBB (k := w.heap.size + 1) (by omega) (.slice (some ⟨g5, 0, none⟩) s.ws.length z1) (.int .i64 s.nx) (.slice l5 (m + 1 + (s.rv.length - m)) l7) (.slice x3 y3 z3)
                have q1 := row_four o1 (k := w.heap.size + 1) (by omega) (.slice (some ⟨g5, 0, none⟩) s.ws.length z1) (.int .i64 s.nx) (.slice l5 (m + 1 + (s.rv.length - m)) l7) (.slice x3 y3 z3)
                have q2 := row_four o2 (k := w.heap.size + 1) (by omega) (.slice (some ⟨g5, 0, none⟩) s.ws.length z1) (.int .i64 s.nx) (.slice l5 (m + 1 + (s.rv.length - m)) l7) (.slice x3 y3 z3)
                have q3 := row_four o3 (k := w.heap.size + 1) (by omega) (.slice (some ⟨g5, 0, none⟩) s.ws.length z1) (.int .i64 s.nx) (.slice l5 (m + 1 + (s.rv.length - m)) l7) (.slice x3 y3 z3)
                go_wp2_with fail
                clear r0 r1 r2 r3 f0 f1 f2 f3 c0 c1 c2 c3 hHeld
                generalize (((Wd.setCell ⟨w.heap.size + 1, 0, none⟩ (.slice (some ⟨g5, 0, none⟩) s.ws.length z1)).setCell ⟨w.heap.size + 1, 1, none⟩ (.int .i64 s.nx)).setCell ⟨w.heap.size + 1, 2, none⟩ (.slice l5 (m + 1 + (s.rv.length - m)) l7)).setCell ⟨w.heap.size + 1, 3, none⟩ (.slice x3 y3 z3) = W5 at *
                obtain ⟨d0, d1, d2, d3⟩ := G.c
                exact bodyPost_ret (v := .tuple #[.agg #[(.slice (some ⟨g5, 0, none⟩) s.ws.length z1), (.int .i64 s.nx), (.slice l5 (m + 1 + (s.rv.length - m)) l7), (.slice x3 y3 z3)], .int .i64 ((m + 1 + (s.rv.length - m) : Nat) : Int), .int .i64 0]) (by simp [results, Tryd.results12, go_sem, d0, d1, d2, d3]) rfl ⟨_, by rw [HR.out], by rw [HR.out]; exact IsO.of (s := ⟨s.ws.set n ⟨ne, false, ze⟩, s.nx, s.rv.take m ++ ze :: s.rv.drop m, s.sg⟩) (Go.Joins.ownsRow_le (row_cast q1 HL.out) (by omega)) (Go.Joins.ownsRow_le (row_cast q2 HL2.out) (by omega)) (Go.Joins.ownsRow_le q3 (by omega)), pB⟩
            · have hne : m = atN s.rv ze := by omega
              obtain rfl : m = s.rv.length := by omega
              rw [← hne] at HR0
              clear hm0 hle hne hlm
              have HL2 := hid (show s.rv.length + 1 = (s.rv.take s.rv.length ++ ze :: s.rv.drop s.rv.length).length by first | (simp; done) | (simp; omega))
              obtain ⟨iw, hiw, hw0, hw1, hw2⟩ := info_parts infoInt
              have hn1 : (s.rv.length : Int) ≤ (s.rv.length : Int) := by omega
              have hn2 : (s.rv.length : Int) ≤ (z2 : Int) := by omega
              have htk : ∀ j u, ((nums s.rv).take s.rv.length)[j]? = some u → wr.cell? ((⟨x7, 0, none⟩ : Addr).add j) = some u := fun j u hj => by
                rw [List.getElem?_take] at hj
                split at hj
                · exact o2.cells (g := x7) rfl j u hj
                · cases hj
              have hN := World.ownsRow_nil wr wr.heap.size 3 1
              go_wp2_with (at_builtin; refine wpList_append_own _ rfl _ _ 23 rfl wr.heap.size 3 iw _ 1 8 Tryd.underlying23 hiw hw0 hw1 hw2 rfl (by decide) _ _ _ rfl hN ⟨x7, 0, none⟩ s.rv.length z2 ((nums s.rv).take s.rv.length) rfl (by rw [List.length_take]; omega) htk (fun u hu => one_n u (List.mem_of_mem_take hu)) (by unfold maxLen; omega) (by omega) (Nat.le_refl _) ?_)
              intro v5 w6 o5 g6 _
              obtain ⟨y5, y6, y7, rfl⟩ := row_slice o5
              have hC5 : Below wr.heap.size wr w6 := (Below.refl _ _).grown g6 (Nat.le_refl _) (fun k e => by simp [Value.ownBlock] at e)
              clear g6 htk hN
              have o5a := o5.alloc (.cells #[.int .i64 ze] 3)
              have hC5a : Below wr.heap.size wr (w6.alloc (.cells #[.int .i64 ze] 3)) := hC5.alloc hC5.size _
              have hnw : ∀ j u, ([Value.int .i64 ze])[j]? = some u → (w6.alloc (.cells #[.int .i64 ze] 3)).cell? ((⟨w6.heap.size, 0, none⟩ : Addr).add j) = some u := fun j u hj => by
                rw [Addr.add_lit, Nat.zero_add, World.cell?_alloc_at _ _ _ _ rfl]
                simpa using hj
              go_wp2_with (at_builtin; refine wpList_append_own _ rfl _ _ 23 rfl wr.heap.size 3 iw _ 1 8 Tryd.underlying23 hiw hw0 hw1 hw2 rfl (by decide) _ _ _ rfl o5a ⟨w6.heap.size, 0, none⟩ 1 1 [Value.int .i64 ze] rfl rfl hnw (by intro u hu; simp at hu; rw [hu]; rfl) (by unfold maxLen; omega) (by omega) hC5a.size ?_)
              intro v6 w7 o6 g7 _
              obtain ⟨u5, u6, u7, rfl⟩ := row_slice o6
              have hC6 : Below wr.heap.size wr w7 := hC5a.grown g7 hC5a.size (fun k e => (o5a.lt k e).1)
              clear o5 o5a g7 hnw hC5 hC5a
              obtain ⟨b0, b1, b2, b3⟩ := (F1.below hC6).c
              have o2w := ownsRow_below o2 hC6
              by_cases hzz : z2 = s.rv.length
              all_goals go_wp2_with (at_builtin; refine wpList_append_own _ rfl _ _ 23 rfl wr.heap.size 3 iw _ 1 8 Tryd.underlying23 hiw hw0 hw1 hw2 rfl (by decide) _ _ _ rfl o6 _ 0 _ [] rfl rfl (by simp) (by simp) (by unfold maxLen; omega) (by omega) hC6.size ?_)
              all_goals intro v7 w8 o7 g8 _
              all_goals replace o7 : w8.ownsRow wr.heap.size 3 1 v7 (s.rv.length + 1) (nums (s.rv.take s.rv.length ++ ze :: s.rv.drop s.rv.length)) := by rw [← nput, show (nums s.rv).drop s.rv.length = [] from List.drop_of_length_le (by omega)]; simpa using o7
              · skip
                obtain ⟨l5, l6, l7, rfl⟩ := row_slice o7
                obtain rfl : l6 = s.rv.length + 1 := row_len o7
                have hC7 : Below wr.heap.size wr w8 := hC6.grown g8 hC6.size (fun k e => (o6.lt k e).1)
                replace F1 := F1.below hC7
                replace F2 := F2.below hC7
                replace o1 := ownsRow_below o1 hC7
                replace o3 := ownsRow_below o3 hC7
                replace hBB := below_one hBB hC7
                clear b0 b1 b2 b3 hC6 o6 g8 o2w hC7 a0 a1 a2 a3 o2
                have o2 := o7
                clear o7
                obtain ⟨a0, a1, a2, a3⟩ := F1.c
                have bf := F1.f 2
                replace F1 := F1.s2 (.slice l5 (s.rv.length + 1) l7)
                replace F2 := F2.other (k' := w.heap.size) (by omega) 2 (.slice l5 (s.rv.length + 1) l7)
                replace o1 := ownsRow_setCell_below o1 (a := ⟨w.heap.size, 2, none⟩) (by simp; omega) (.slice l5 (s.rv.length + 1) l7)
                replace o2 := ownsRow_setCell_below o2 (a := ⟨w.heap.size, 2, none⟩) (by simp; omega) (.slice l5 (s.rv.length + 1) l7)
                replace o3 := ownsRow_setCell_below o3 (a := ⟨w.heap.size, 2, none⟩) (by simp; omega) (.slice l5 (s.rv.length + 1) l7)
                replace hBB := hBB.setCell (p := ⟨w.heap.size, 2, none⟩) (by simp) (.slice l5 (s.rv.length + 1) l7)
                go_wp2_with fail
                clear a0 a1 a2 a3 bf
                have HR := hid (show rkX s name = (⟨s.ws.set n ⟨ne, false, ze⟩, s.nx, s.rv.take s.rv.length ++ ze :: s.rv.drop s.rv.length, s.sg⟩, ((s.rv.length + 1 : Nat) : Int), 0) by rw [HR0.out, ← HL2.out])
                clear HR0
                generalize w8.setCell ⟨w.heap.size, 2, none⟩ (.slice l5 (s.rv.length + 1) l7) = W8 at *
                have hBd : Below (W8).heap.size (W8) (W8).drew := (Below.refl _ _).drew
                have hkn : w.heap.size ≠ w.heap.size + 1 := by omega
                obtain ⟨c0, c1, c2, c3⟩ := F1.c
                replace F1 := F1.below hBd
                replace F2 := F2.below hBd
                replace o1 := ownsRow_below o1 hBd
                replace o2 := ownsRow_below o2 hBd
                replace o3 := ownsRow_below o3 hBd
                replace hBB := below_one hBB hBd
                clear hBd
                obtain ⟨r0, r1, r2, r3⟩ := F2.c
                have f0 := F2.f 0
                have f1 := F2.f 1
                have f2 := F2.f 2
                have f3 := F2.f 3
                refine wp_region_held_drew (S := fun w' => w'.cell? ⟨w.heap.size, 0, none⟩ = some (.slice (some ⟨g5, 0, none⟩) s.ws.length z1) ∧ w'.cell? ⟨w.heap.size, 1, none⟩ = some (.int .i64 s.nx) ∧ w'.cell? ⟨w.heap.size, 2, none⟩ = some (.slice l5 (s.rv.length + 1) l7) ∧ w'.cell? ⟨w.heap.size, 3, none⟩ = some (.slice x3 y3 z3)) (by kernel_rfl) ?_ (fun hHeld => ?_)
                · first | go_keep | exact ((((F1.other hkn 0 _).other hkn 1 _).other hkn 2 _).other hkn 3 _).c
                generalize (W8).drew = Wd at *
                refine takeW 0 (v := ?v31) rfl (by kernel_rfl) (by kernel_rfl) (by kernel_rfl) (fun _ _ _ h => h) (by rfl) (by assumption) ?hy31 ?rest31
                case hy31 => intro w' hSw; (try dsimp only at hSw); go_simp; try with_reducible rfl
                try simp only [Act.put, List.setIfInBounds_toArray, List.set_cons_zero, List.set_cons_succ]
                refine takeW 1 (v := ?v32) rfl (by kernel_rfl) (by kernel_rfl) (by kernel_rfl) (fun _ _ _ h => h) (by rfl) (by assumption) ?hy32 ?rest32
                case hy32 => intro w' hSw; (try dsimp only at hSw); go_simp; try with_reducible rfl
                try simp only [Act.put, List.setIfInBounds_toArray, List.set_cons_zero, List.set_cons_succ]
                refine takeW 2 (v := ?v33) rfl (by kernel_rfl) (by kernel_rfl) (by kernel_rfl) (fun _ _ _ h => h) (by rfl) (by assumption) ?hy33 ?rest33
                case hy33 => intro w' hSw; (try dsimp only at hSw); go_simp; try with_reducible rfl
                try simp only [Act.put, List.setIfInBounds_toArray, List.set_cons_zero, List.set_cons_succ]
                refine takeW 3 (v := ?v34) rfl (by kernel_rfl) (by kernel_rfl) (by kernel_rfl) (fun _ _ _ h => h) (by rfl) (by assumption) ?hy34 ?rest34
                case hy34 => intro w' hSw; (try dsimp only at hSw); go_simp; try with_reducible rfl
                try simp only [Act.put, List.setIfInBounds_toArray, List.set_cons_zero, List.set_cons_succ]
                refine takeC 4 (by kernel_rfl) rfl (fun K hK => ?_)
                go_simp
                skip
                refine hK.out _ _ ?_ (fun hHeld => ?_)
                · first | go_keep | exact ((((F1.other hkn 0 _).other hkn 1 _).other hkn 2 _).other hkn 3 _).c
                clear hK K
                try simp only [Act.put, List.setIfInBounds_toArray, List.set_cons_zero, List.set_cons_succ]
                refine takeW 5 (v := ?v35) rfl (by kernel_rfl) (by kernel_rfl) (by kernel_rfl) (fun _ _ _ h => h) (by rfl) (by assumption) ?hy35 ?rest35
                case hy35 => intro w' hSw; (try dsimp only at hSw); go_simp; try with_reducible rfl
                try simp only [Act.put, List.setIfInBounds_toArray, List.set_cons_zero, List.set_cons_succ]
                refine takeW 6 (v := ?v36) rfl (by kernel_rfl) (by kernel_rfl) (by kernel_rfl) (fun _ _ _ h => h) (by rfl) (by assumption) ?hy36 ?rest36
                case hy36 => intro w' hSw; (try dsimp only at hSw); go_simp; try with_reducible rfl
                try simp only [Act.put, List.setIfInBounds_toArray, List.set_cons_zero, List.set_cons_succ]
                refine wpAnyH_done (by kernel_rfl) ?_ _
                have G := (((F2.s0 (.slice (some ⟨g5, 0, none⟩) s.ws.length z1)).s1 (.int .i64 s.nx)).s2 (.slice l5 (s.rv.length + 1) l7)).s3 (.slice x3 y3 z3)
                have pB := below_four hBB (k := w.heap.size + 1) (by omega) (.slice (some ⟨g5, 0, none⟩) s.ws.length z1) (.int .i64 s.nx) (.slice l5 (s.rv.length + 1) l7) (.slice x3 y3 z3)
                have q1 := row_four o1 (k := w.heap.size + 1) (by omega) (.slice (some ⟨g5, 0, none⟩) s.ws.length z1) (.int .i64 s.nx) (.slice l5 (s.rv.length + 1) l7) (.slice x3 y3 z3)
                have q2 := row_four o2 (k := w.heap.size + 1) (by omega) (.slice (some ⟨g5, 0, none⟩) s.ws.length z1) (.int .i64 s.nx) (.slice l5 (s.rv.length + 1) l7) (.slice x3 y3 z3)
                have q3 := row_four o3 (k := w.heap.size + 1) (by omega) (.slice (some ⟨g5, 0, none⟩) s.ws.length z1) (.int .i64 s.nx) (.slice l5 (s.rv.length + 1) l7) (.slice x3 y3 z3)
                go_wp2_with fail
                clear r0 r1 r2 r3 f0 f1 f2 f3 c0 c1 c2 c3 hHeld
                generalize (((Wd.setCell ⟨w.heap.size + 1, 0, none⟩ (.slice (some ⟨g5, 0, none⟩) s.ws.length z1)).setCell ⟨w.heap.size + 1, 1, none⟩ (.int .i64 s.nx)).setCell ⟨w.heap.size + 1, 2, none⟩ (.slice l5 (s.rv.length + 1) l7)).setCell ⟨w.heap.size + 1, 3, none⟩ (.slice x3 y3 z3) = W5 at *
                obtain ⟨d0, d1, d2, d3⟩ := G.c
                exact bodyPost_ret (v := .tuple #[.agg #[(.slice (some ⟨g5, 0, none⟩) s.ws.length z1), (.int .i64 s.nx), (.slice l5 (s.rv.length + 1) l7), (.slice x3 y3 z3)], .int .i64 ((s.rv.length + 1 : Nat) : Int), .int .i64 0]) (by simp [results, Tryd.results12, go_sem, d0, d1, d2, d3]) rfl ⟨_, by rw [HR.out], by rw [HR.out]; exact IsO.of (s := ⟨s.ws.set n ⟨ne, false, ze⟩, s.nx, s.rv.take s.rv.length ++ ze :: s.rv.drop s.rv.length, s.sg⟩) (Go.Joins.ownsRow_le (row_cast q1 HL.out) (by omega)) (Go.Joins.ownsRow_le (row_cast q2 HL2.out) (by omega)) (Go.Joins.ownsRow_le q3 (by omega)), pB⟩
              · skip
                obtain ⟨l5, l6, l7, rfl⟩ := row_slice o7
                obtain rfl : l6 = s.rv.length + 1 := row_len o7
                have hC7 : Below wr.heap.size wr w8 := hC6.grown g8 hC6.size (fun k e => (o6.lt k e).1)
                replace F1 := F1.below hC7
                replace F2 := F2.below hC7
                replace o1 := ownsRow_below o1 hC7
                replace o3 := ownsRow_below o3 hC7
                replace hBB := below_one hBB hC7
                clear b0 b1 b2 b3 hC6 o6 g8 o2w hC7 a0 a1 a2 a3 o2
                have o2 := o7
                clear o7
                obtain ⟨a0, a1, a2, a3⟩ := F1.c
                have bf := F1.f 2
                replace F1 := F1.s2 (.slice l5 (s.rv.length + 1) l7)
                replace F2 := F2.other (k' := w.heap.size) (by omega) 2 (.slice l5 (s.rv.length + 1) l7)
                replace o1 := ownsRow_setCell_below o1 (a := ⟨w.heap.size, 2, none⟩) (by simp; omega) (.slice l5 (s.rv.length + 1) l7)
                replace o2 := ownsRow_setCell_below o2 (a := ⟨w.heap.size, 2, none⟩) (by simp; omega) (.slice l5 (s.rv.length + 1) l7)
                replace o3 := ownsRow_setCell_below o3 (a := ⟨w.heap.size, 2, none⟩) (by simp; omega) (.slice l5 (s.rv.length + 1) l7)
                replace hBB := hBB.setCell (p := ⟨w.heap.size, 2, none⟩) (by simp) (.slice l5 (s.rv.length + 1) l7)
                go_wp2_with fail
                clear a0 a1 a2 a3 bf
                have HR := hid (show rkX s name = (⟨s.ws.set n ⟨ne, false, ze⟩, s.nx, s.rv.take s.rv.length ++ ze :: s.rv.drop s.rv.length, s.sg⟩, ((s.rv.length + 1 : Nat) : Int), 0) by rw [HR0.out, ← HL2.out])
                clear HR0
                generalize w8.setCell ⟨w.heap.size, 2, none⟩ (.slice l5 (s.rv.length + 1) l7) = W8 at *
                have hBd : Below (W8).heap.size (W8) (W8).drew := (Below.refl _ _).drew
                have hkn : w.heap.size ≠ w.heap.size + 1 := by omega
                obtain ⟨c0, c1, c2, c3⟩ := F1.c
                replace F1 := F1.below hBd
                replace F2 := F2.below hBd
                replace o1 := ownsRow_below o1 hBd
                replace o2 := ownsRow_below o2 hBd
                replace o3 := ownsRow_below o3 hBd
                replace hBB := below_one hBB hBd
                clear hBd
                obtain ⟨r0, r1, r2, r3⟩ := F2.c
                have f0 := F2.f 0
                have f1 := F2.f 1
                have f2 := F2.f 2
                have f3 := F2.f 3
                refine wp_region_held_drew (S := fun w' => w'.cell? ⟨w.heap.size, 0, none⟩ = some (.slice (some ⟨g5, 0, none⟩) s.ws.length z1) ∧ w'.cell? ⟨w.heap.size, 1, none⟩ = some (.int .i64 s.nx) ∧ w'.cell? ⟨w.heap.size, 2, none⟩ = some (.slice l5 (s.rv.length + 1) l7) ∧ w'.cell? ⟨w.heap.size, 3, none⟩ = some (.slice x3 y3 z3)) (by kernel_rfl) ?_ (fun hHeld => ?_)
                · first | go_keep | exact ((((F1.other hkn 0 _).other hkn 1 _).other hkn 2 _).other hkn 3 _).c
                generalize (W8).drew = Wd at *
                refine takeW 0 (v := ?v37) rfl (by kernel_rfl) (by kernel_rfl) (by kernel_rfl) (fun _ _ _ h => h) (by rfl) (by assumption) ?hy37 ?rest37
                case hy37 => intro w' hSw; (try dsimp only at hSw); go_simp; try with_reducible rfl
                try simp only [Act.put, List.setIfInBounds_toArray, List.set_cons_zero, List.set_cons_succ]
                refine takeW 1 (v := ?v38) rfl (by kernel_rfl) (by kernel_rfl) (by kernel_rfl) (fun _ _ _ h => h) (by rfl) (by assumption) ?hy38 ?rest38
                case hy38 => intro w' hSw; (try dsimp only at hSw); go_simp; try with_reducible rfl
                try simp only [Act.put, List.setIfInBounds_toArray, List.set_cons_zero, List.set_cons_succ]
                refine takeW 2 (v := ?v39) rfl (by kernel_rfl) (by kernel_rfl) (by kernel_rfl) (fun _ _ _ h => h) (by rfl) (by assumption) ?hy39 ?rest39
                case hy39 => intro w' hSw; (try dsimp only at hSw); go_simp; try with_reducible rfl
                try simp only [Act.put, List.setIfInBounds_toArray, List.set_cons_zero, List.set_cons_succ]
                refine takeW 3 (v := ?v40) rfl (by kernel_rfl) (by kernel_rfl) (by kernel_rfl) (fun _ _ _ h => h) (by rfl) (by assumption) ?hy40 ?rest40
                case hy40 => intro w' hSw; (try dsimp only at hSw); go_simp; try with_reducible rfl
                try simp only [Act.put, List.setIfInBounds_toArray, List.set_cons_zero, List.set_cons_succ]
                refine takeC 4 (by kernel_rfl) rfl (fun K hK => ?_)
                go_simp
                skip
                refine hK.out _ _ ?_ (fun hHeld => ?_)
                · first | go_keep | exact ((((F1.other hkn 0 _).other hkn 1 _).other hkn 2 _).other hkn 3 _).c
                clear hK K
                try simp only [Act.put, List.setIfInBounds_toArray, List.set_cons_zero, List.set_cons_succ]
                refine takeW 5 (v := ?v41) rfl (by kernel_rfl) (by kernel_rfl) (by kernel_rfl) (fun _ _ _ h => h) (by rfl) (by assumption) ?hy41 ?rest41
                case hy41 => intro w' hSw; (try dsimp only at hSw); go_simp; try with_reducible rfl
                try simp only [Act.put, List.setIfInBounds_toArray, List.set_cons_zero, List.set_cons_succ]
                refine takeW 6 (v := ?v42) rfl (by kernel_rfl) (by kernel_rfl) (by kernel_rfl) (fun _ _ _ h => h) (by rfl) (by assumption) ?hy42 ?rest42
                case hy42 => intro w' hSw; (try dsimp only at hSw); go_simp; try with_reducible rfl
                try simp only [Act.put, List.setIfInBounds_toArray, List.set_cons_zero, List.set_cons_succ]
                refine wpAnyH_done (by kernel_rfl) ?_ _
                have G := (((F2.s0 (.slice (some ⟨g5, 0, none⟩) s.ws.length z1)).s1 (.int .i64 s.nx)).s2 (.slice l5 (s.rv.length + 1) l7)).s3 (.slice x3 y3 z3)
                have pB := below_four hBB (k := w.heap.size + 1) (by omega) (.slice (some ⟨g5, 0, none⟩) s.ws.length z1) (.int .i64 s.nx) (.slice l5 (s.rv.length + 1) l7) (.slice x3 y3 z3)
                have q1 := row_four o1 (k := w.heap.size + 1) (by omega) (.slice (some ⟨g5, 0, none⟩) s.ws.length z1) (.int .i64 s.nx) (.slice l5 (s.rv.length + 1) l7) (.slice x3 y3 z3)
                have q2 := row_four o2 (k := w.heap.size + 1) (by omega) (.slice (some ⟨g5, 0, none⟩) s.ws.length z1) (.int .i64 s.nx) (.slice l5 (s.rv.length + 1) l7) (.slice x3 y3 z3)
                have q3 := row_four o3 (k := w.heap.size + 1) (by omega) (.slice (some ⟨g5, 0, none⟩) s.ws.length z1) (.int .i64 s.nx) (.slice l5 (s.rv.length + 1) l7) (.slice x3 y3 z3)
                go_wp2_with fail
                clear r0 r1 r2 r3 f0 f1 f2 f3 c0 c1 c2 c3 hHeld
                generalize (((Wd.setCell ⟨w.heap.size + 1, 0, none⟩ (.slice (some ⟨g5, 0, none⟩) s.ws.length z1)).setCell ⟨w.heap.size + 1, 1, none⟩ (.int .i64 s.nx)).setCell ⟨w.heap.size + 1, 2, none⟩ (.slice l5 (s.rv.length + 1) l7)).setCell ⟨w.heap.size + 1, 3, none⟩ (.slice x3 y3 z3) = W5 at *
                obtain ⟨d0, d1, d2, d3⟩ := G.c
                exact bodyPost_ret (v := .tuple #[.agg #[(.slice (some ⟨g5, 0, none⟩) s.ws.length z1), (.int .i64 s.nx), (.slice l5 (s.rv.length + 1) l7), (.slice x3 y3 z3)], .int .i64 ((s.rv.length + 1 : Nat) : Int), .int .i64 0]) (by simp [results, Tryd.results12, go_sem, d0, d1, d2, d3]) rfl ⟨_, by rw [HR.out], by rw [HR.out]; exact IsO.of (s := ⟨s.ws.set n ⟨ne, false, ze⟩, s.nx, s.rv.take s.rv.length ++ ze :: s.rv.drop s.rv.length, s.sg⟩) (Go.Joins.ownsRow_le (row_cast q1 HL.out) (by omega)) (Go.Joins.ownsRow_le (row_cast q2 HL2.out) (by omega)) (Go.Joins.ownsRow_le q3 (by omega)), pB⟩
        · have HR := hid (show rkX s name = (⟨s.ws.set n ⟨ne, false, ze⟩, s.nx, s.rv, s.sg⟩, (s.rv.length : Int), 0) by rw [HX2.out]; unfold rvN; rw [hz0, hz1]; rfl)
          clear HX2 hz1
          go_wp2_with fail
          obtain ⟨a0, a1, a2, a3⟩ := F1.c
          clear a0 a1 a2 a3
          have hBd : Below (w5).heap.size (w5) (w5).drew := (Below.refl _ _).drew
          have hkn : w.heap.size ≠ w.heap.size + 1 := by omega
          obtain ⟨c0, c1, c2, c3⟩ := F1.c
          replace F1 := F1.below hBd
          replace F2 := F2.below hBd
          replace o1 := ownsRow_below o1 hBd
          replace o2 := ownsRow_below o2 hBd
          replace o3 := ownsRow_below o3 hBd
          replace hBB := below_one hBB hBd
          clear hBd
          obtain ⟨r0, r1, r2, r3⟩ := F2.c
          have f0 := F2.f 0
          have f1 := F2.f 1
          have f2 := F2.f 2
          have f3 := F2.f 3
          refine wp_region_held_drew (S := fun w' => w'.cell? ⟨w.heap.size, 0, none⟩ = some (.slice (some ⟨g5, 0, none⟩) s.ws.length z1) ∧ w'.cell? ⟨w.heap.size, 1, none⟩ = some (.int .i64 s.nx) ∧ w'.cell? ⟨w.heap.size, 2, none⟩ = some (.slice x2 s.rv.length z2) ∧ w'.cell? ⟨w.heap.size, 3, none⟩ = some (.slice x3 y3 z3)) (by kernel_rfl) ?_ (fun hHeld => ?_)
          · first | go_keep | exact ((((F1.other hkn 0 _).other hkn 1 _).other hkn 2 _).other hkn 3 _).c
          generalize (w5).drew = Wd at *
          refine takeW 0 (v := ?v19) rfl (by kernel_rfl) (by kernel_rfl) (by kernel_rfl) (fun _ _ _ h => h) (by rfl) (by assumption) ?hy19 ?rest19
          case hy19 => intro w' hSw; (try dsimp only at hSw); go_simp; try with_reducible rfl
          try simp only [Act.put, List.setIfInBounds_toArray, List.set_cons_zero, List.set_cons_succ]
          refine takeW 1 (v := ?v20) rfl (by kernel_rfl) (by kernel_rfl) (by kernel_rfl) (fun _ _ _ h => h) (by rfl) (by assumption) ?hy20 ?rest20
          case hy20 => intro w' hSw; (try dsimp only at hSw); go_simp; try with_reducible rfl
          try simp only [Act.put, List.setIfInBounds_toArray, List.set_cons_zero, List.set_cons_succ]
          refine takeW 2 (v := ?v21) rfl (by kernel_rfl) (by kernel_rfl) (by kernel_rfl) (fun _ _ _ h => h) (by rfl) (by assumption) ?hy21 ?rest21
          case hy21 => intro w' hSw; (try dsimp only at hSw); go_simp; try with_reducible rfl
          try simp only [Act.put, List.setIfInBounds_toArray, List.set_cons_zero, List.set_cons_succ]
          refine takeW 3 (v := ?v22) rfl (by kernel_rfl) (by kernel_rfl) (by kernel_rfl) (fun _ _ _ h => h) (by rfl) (by assumption) ?hy22 ?rest22
          case hy22 => intro w' hSw; (try dsimp only at hSw); go_simp; try with_reducible rfl
          try simp only [Act.put, List.setIfInBounds_toArray, List.set_cons_zero, List.set_cons_succ]
          refine takeC 4 (by kernel_rfl) rfl (fun K hK => ?_)
          go_simp
          skip
          refine hK.out _ _ ?_ (fun hHeld => ?_)
          · first | go_keep | exact ((((F1.other hkn 0 _).other hkn 1 _).other hkn 2 _).other hkn 3 _).c
          clear hK K
          try simp only [Act.put, List.setIfInBounds_toArray, List.set_cons_zero, List.set_cons_succ]
          refine takeW 5 (v := ?v23) rfl (by kernel_rfl) (by kernel_rfl) (by kernel_rfl) (fun _ _ _ h => h) (by rfl) (by assumption) ?hy23 ?rest23
          case hy23 => intro w' hSw; (try dsimp only at hSw); go_simp; try with_reducible rfl
          try simp only [Act.put, List.setIfInBounds_toArray, List.set_cons_zero, List.set_cons_succ]
          refine takeW 6 (v := ?v24) rfl (by kernel_rfl) (by kernel_rfl) (by kernel_rfl) (fun _ _ _ h => h) (by rfl) (by assumption) ?hy24 ?rest24
          case hy24 => intro w' hSw; (try dsimp only at hSw); go_simp; try with_reducible rfl
          try simp only [Act.put, List.setIfInBounds_toArray, List.set_cons_zero, List.set_cons_succ]
          refine wpAnyH_done (by kernel_rfl) ?_ _
          have G := (((F2.s0 (.slice (some ⟨g5, 0, none⟩) s.ws.length z1)).s1 (.int .i64 s.nx)).s2 (.slice x2 s.rv.length z2)).s3 (.slice x3 y3 z3)
          have pB := below_four hBB (k := w.heap.size + 1) (by omega) (.slice (some ⟨g5, 0, none⟩) s.ws.length z1) (.int .i64 s.nx) (.slice x2 s.rv.length z2) (.slice x3 y3 z3)
          have q1 := row_four o1 (k := w.heap.size + 1) (by omega) (.slice (some ⟨g5, 0, none⟩) s.ws.length z1) (.int .i64 s.nx) (.slice x2 s.rv.length z2) (.slice x3 y3 z3)
          have q2 := row_four o2 (k := w.heap.size + 1) (by omega) (.slice (some ⟨g5, 0, none⟩) s.ws.length z1) (.int .i64 s.nx) (.slice x2 s.rv.length z2) (.slice x3 y3 z3)
          have q3 := row_four o3 (k := w.heap.size + 1) (by omega) (.slice (some ⟨g5, 0, none⟩) s.ws.length z1) (.int .i64 s.nx) (.slice x2 s.rv.length z2) (.slice x3 y3 z3)
          go_wp2_with fail
          clear r0 r1 r2 r3 f0 f1 f2 f3 c0 c1 c2 c3 hHeld
          generalize (((Wd.setCell ⟨w.heap.size + 1, 0, none⟩ (.slice (some ⟨g5, 0, none⟩) s.ws.length z1)).setCell ⟨w.heap.size + 1, 1, none⟩ (.int .i64 s.nx)).setCell ⟨w.heap.size + 1, 2, none⟩ (.slice x2 s.rv.length z2)).setCell ⟨w.heap.size + 1, 3, none⟩ (.slice x3 y3 z3) = W5 at *
          obtain ⟨d0, d1, d2, d3⟩ := G.c
          exact bodyPost_ret (v := .tuple #[.agg #[(.slice (some ⟨g5, 0, none⟩) s.ws.length z1), (.int .i64 s.nx), (.slice x2 s.rv.length z2), (.slice x3 y3 z3)], .int .i64 (s.rv.length : Int), .int .i64 0]) (by simp [results, Tryd.results12, go_sem, d0, d1, d2, d3]) rfl ⟨_, by rw [HR.out], by rw [HR.out]; exact IsO.of (s := ⟨s.ws.set n ⟨ne, false, ze⟩, s.nx, s.rv, s.sg⟩) (Go.Joins.ownsRow_le (row_cast q1 HL.out) (by omega)) (Go.Joins.ownsRow_le q2 (by omega)) (Go.Joins.ownsRow_le q3 (by omega)), pB⟩

end Go.Proofs.YtfchmhcnejifhaaDoor
