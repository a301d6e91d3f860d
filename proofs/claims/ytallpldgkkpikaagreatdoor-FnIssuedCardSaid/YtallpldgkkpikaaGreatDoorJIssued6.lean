/-
  A number among others, by the specification and by the library.
-/
import Derived.Test.YtallpldgkkpikaaGreatDoorJIssued5
import Derived.Test.YtallpldgkkpikaaGreatDoorJIssued3
import Derived.Shelf.Slices.Turned
import Derived.Test.YtallpldgkkpikaaGreatDoorJIssued0
namespace Go.Proofs.YtallpldgkkpikaaGreatDoor
open Go.RowKit Go.Shelf

/-- To whom a token's last link goes. -/
def hpW (ks : List Lk) : ByteArray := match ks[ks.length - 1]? with
  | some k => k.to
  | none => ByteArray.empty
def hpB (s : Is) (ks : List Lk) (tq : ByteArray) (nw li : Int) : Bool := isB s && (tkB ks && (nmOk tq && (tmB nw && tmB li)))
def hpE (s : Is) (ks : List Lk) (tq : ByteArray) (nw li : Int) : Er := if hpB s ks tq nw li = true then (match maE s (hpW ks) with
  | .nil => if extB ks tq s.nx nw li = true then .nil else .full
  | x => x) else .bad
def hpL (s : Is) (ks : List Lk) (tq : ByteArray) (nw li : Int) : List Lk := match hpE s ks tq nw li with
  | .nil => extL ks tq s.nx nw li
  | _ => []
theorem hpB_parts {s : Is} {ks : List Lk} {tq : ByteArray} {nw li : Int} (h : hpB s ks tq nw li = true) : isB s = true ∧ tkB ks = true ∧ nmOk tq = true ∧ tmB nw = true ∧ tmB li = true := by
  unfold hpB at h
  simp only [Bool.and_eq_true] at h
  exact h
theorem hp_bad {s : Is} {ks : List Lk} {tq : ByteArray} {nw li : Int} (h : hpB s ks tq nw li = false) : hpE s ks tq nw li = .bad := by unfold hpE; rw [h]; rfl
theorem hp_no {s : Is} {ks : List Lk} {tq : ByteArray} {nw li : Int} (h : hpB s ks tq nw li = true) (h2 : maE s (hpW ks) = .noWork) : hpE s ks tq nw li = .noWork := by unfold hpE; rw [if_pos h, h2]
theorem hp_full {s : Is} {ks : List Lk} {tq : ByteArray} {nw li : Int} (h : hpB s ks tq nw li = true) (h2 : maE s (hpW ks) = .full) : hpE s ks tq nw li = .full := by unfold hpE; rw [if_pos h, h2]
theorem hp_ext {s : Is} {ks : List Lk} {tq : ByteArray} {nw li : Int} (h : hpB s ks tq nw li = true) (h2 : maE s (hpW ks) = .nil) (h3 : extB ks tq s.nx nw li = false) : hpE s ks tq nw li = .full := by
  unfold hpE
  rw [if_pos h, h2]
  simp only
  rw [if_neg (by rw [h3]; exact Bool.false_ne_true)]
theorem hp_nil {s : Is} {ks : List Lk} {tq : ByteArray} {nw li : Int} (h : hpB s ks tq nw li = true) (h2 : maE s (hpW ks) = .nil) (h3 : extB ks tq s.nx nw li = true) : hpE s ks tq nw li = .nil := by
  unfold hpE
  rw [if_pos h, h2]
  simp only
  rw [if_pos h3]
theorem hp_ext2 {s : Is} {ks : List Lk} {tq : ByteArray} {nw li : Int} (h : hpB s ks tq nw li = true) (h2 : livW s.ws (hpW ks) = true) (h3 : extB ks tq s.nx nw li = false) : hpE s ks tq nw li = .full := by
  cases hf : fullB s
  · exact hp_ext h (maE_yes h2 hf) h3
  · exact hp_full h (maE_full h2 hf)
theorem hpE_not (s : Is) (ks : List Lk) (tq : ByteArray) (nw li : Int) : hpE s ks tq nw li ≠ .twice := by
  unfold hpE
  split
  · split
    · split <;> exact fun h => (by cases h)
    · exact (maE_not s (hpW ks)).2
  · exact fun h => (by cases h)
theorem hpE_nil {s : Is} {ks : List Lk} {tq : ByteArray} {nw li : Int} (h : hpE s ks tq nw li = .nil) : hpB s ks tq nw li = true ∧ livW s.ws (hpW ks) = true ∧ fullB s = false ∧ extB ks tq s.nx nw li = true := by
  cases hb : hpB s ks tq nw li
  · rw [hp_bad hb] at h
    cases h
  cases hm : maE s (hpW ks) with
  | bad => exact absurd hm (maE_not _ _).1
  | twice => exact absurd hm (maE_not _ _).2
  | noWork => rw [hp_no hb hm] at h; cases h
  | full => rw [hp_full hb hm] at h; cases h
  | nil =>
    cases hx : extB ks tq s.nx nw li
    · rw [hp_ext hb hm hx] at h
      cases h
    · exact ⟨rfl, (maE_nil hm).1, (maE_nil hm).2, rfl⟩
theorem hpL_no {s : Is} {ks : List Lk} {tq : ByteArray} {nw li : Int} {x : Er} (h : hpE s ks tq nw li = x) (hx : x ≠ .nil) : hpL s ks tq nw li = [] := by
  unfold hpL
  rw [h]
  cases x
  · exact absurd rfl hx
  all_goals rfl
theorem hpL_yes {s : Is} {ks : List Lk} {tq : ByteArray} {nw li : Int} (h : hpE s ks tq nw li = .nil) : hpL s ks tq nw li = extL ks tq s.nx nw li := by
  unfold hpL
  rw [h]
theorem hpW_at {ks : List Lk} {m : Nat} (hm : m < ks.length) (hl : m = ks.length - 1) : hpW ks = ks[m].to := by
  subst hl
  unfold hpW
  rw [List.getElem?_eq_getElem hm]
theorem good_size {k : Lk} (h : k.good = true) : k.size ≤ 1048576 := by
  have h1 := nm_size ((Lk.good_iff k).1 h).1
  have h2 := nm_size ((Lk.good_iff k).1 h).2.1
  unfold Lk.size
  omega
theorem ext_facts {ks : List Lk} {tq : ByteArray} {se nw li : Int} (h : extB ks tq se nw li = true) : (extL ks tq se nw li).length = ks.length + 1 ∧ (extL ks tq se nw li).length ≤ 6 ∧ (∀ k ∈ extL ks tq se nw li, k.good = true) ∧ (∀ k ∈ extL ks tq se nw li, k.size ≤ 1048576) ∧ ∀ hl : ks.length < (extL ks tq se nw li).length, ((extL ks tq se nw li)[ks.length]'hl).who = hpW ks := by
  obtain ⟨k, hk, hx, ht⟩ : ∃ k, ks[ks.length - 1]? = some k ∧ extL ks tq se nw li = ks ++ [ext1 k tq se nw li] ∧ tkB (ks ++ [ext1 k tq se nw li]) = true := by
    cases hk : ks[ks.length - 1]? with
    | none => unfold extB at h; rw [hk] at h; cases h
    | some k =>
      refine ⟨k, rfl, ?_, ?_⟩
      · unfold extL
        rw [hk]
        simp only
        rw [if_pos h]
      · unfold extB at h
        rw [hk] at h
        simp only [Bool.and_eq_true] at h
        exact h.2.2.2
  rw [hx]
  have hg := fun x hx => tkB_good ht x hx
  refine ⟨by simp, (tkB_len ht).2, hg, fun x hx => good_size (hg x hx), fun hl => ?_⟩
  have hw : hpW ks = k.to := by unfold hpW; rw [hk]
  rw [hw]
  simp [ext1]

end Go.Proofs.YtallpldgkkpikaaGreatDoor

namespace Go.Proofs.YtallpldgkkpikaaGreatDoor
open Go.RowKit Go.Shelf

set_option maxHeartbeats 8000000 in
set_option maxRecDepth 100000 in
theorem specHop_any (v : Value) (s : Is) (vk : Value) (ks : List Lk) (tq : ByteArray) (nw li : Int) (base top : Nat) (w : World) (hs : s.short) (hn : s.named) (hm : ks.length ≤ 1048577) (hf : ∀ k ∈ ks, k.size ≤ 1048576) (hm2 : tq.size ≤ 1048576) (h : IsO w base top v s) (hr : LkS w vk ks) :
    Calls Tryz.prog 45 #[v, vk, .string tq, .int .i64 nw, .int .i64 li] w fun e w' => ∃ v' vl, e = .returned (.tuple #[v', vl, .int .i64 (hpE s ks tq nw li).code]) ∧ IsO w' w.heap.size w'.heap.size v' (hdX (hpE s ks tq nw li) s (extL ks tq s.nx nw li) (hpW ks)) ∧ w'.ownsRow w.heap.size 38 5 vl (hpL s ks tq nw li).length ((hpL s ks tq nw li).flatMap Lk.cells) ∧ Below w.heap.size w w' := by
  obtain ⟨aw, cw, ar, cr, ag, cg, rfl⟩ := is_forms h.a
  obtain ⟨ak, ck, rfl⟩ := hr.len
  have hB0 : Below w.heap.size w ((w.alloc (.cells #[.slice aw s.ws.length cw, .int .i64 s.nx, .slice ar s.rv.length cr, .slice ag s.sg.length cg] 27)).alloc (.cells #[.slice none 0 0, .int .i64 0, .slice none 0 0, .slice none 0 0] 27)) := ((Below.refl _ w).alloc (Nat.le_refl _) _).alloc (by simp) _
  have F1 := (Four.new w (.slice aw s.ws.length cw) (.int .i64 s.nx) (.slice ar s.rv.length cr) (.slice ag s.sg.length cg) 27).below ((Below.refl _ _).alloc (Nat.le_refl _) (.cells #[.slice none 0 0, .int .i64 0, .slice none 0 0, .slice none 0 0] 27))
  have F2 := Four.at (w.alloc (.cells #[.slice aw s.ws.length cw, .int .i64 s.nx, .slice ar s.rv.length cr, .slice ag s.sg.length cg] 27)) (.slice none 0 0) (.int .i64 0) (.slice none 0 0) (.slice none 0 0) 27 (k := w.heap.size + 1) (by simp)
  go_enter Tryz.func45, Tryz.ntmps45
  go_wp2_with fail
  generalize (w.alloc (.cells #[.slice aw s.ws.length cw, .int .i64 s.nx, .slice ar s.rv.length cr, .slice ag s.sg.length cg] 27)).alloc (.cells #[.slice none 0 0, .int .i64 0, .slice none 0 0, .slice none 0 0] 27) = Wz at *
  refine (specGoodIssuer_any _ s _ hs hn (h.a.below hB0)).mono ?_
  rintro e w1 ⟨rfl, hB1⟩
  have hBB := hB0
  clear hB0
  replace F1 := F1.below hB1
  replace F2 := F2.below hB1
  replace hBB := below_one hBB hB1
  clear hB1
  cases hg : isB s
  case false =>
    have HI := hid (hp_bad (s := s) (ks := ks) (tq := tq) (nw := nw) (li := li) (by unfold hpB; rw [hg]; rfl))
    have HL := hid (hpL_no HI.out (by intro h; cases h))
    have HX := hid (show hdX (hpE s ks tq nw li) s (extL ks tq s.nx nw li) (hpW ks) = Is.none by rw [HI.out]; rfl)
    obtain ⟨r0, r1, r2, r3⟩ := F2.c
    have f0 := F2.f 0
    have f1 := F2.f 1
    have f2 := F2.f 2
    have f3 := F2.f 3
    have G := (((F2.s0 (.slice none 0 0)).s1 (.int .i64 0)).s2 (.slice none 0 0)).s3 (.slice none 0 0)
    have pB := below_four hBB (k := w.heap.size + 1) (by omega) (.slice none 0 0) (.int .i64 0) (.slice none 0 0) (.slice none 0 0)
    go_wp2_with fail
    clear r0 r1 r2 r3 f0 f1 f2 f3
    generalize (((w1.setCell ⟨w.heap.size + 1, 0, none⟩ (.slice none 0 0)).setCell ⟨w.heap.size + 1, 1, none⟩ (.int .i64 0)).setCell ⟨w.heap.size + 1, 2, none⟩ (.slice none 0 0)).setCell ⟨w.heap.size + 1, 3, none⟩ (.slice none 0 0) = W9 at *
    obtain ⟨d0, d1, d2, d3⟩ := G.c
    exact bodyPost_ret (v := .tuple #[.agg #[.slice none 0 0, .int .i64 0, .slice none 0 0, .slice none 0 0], .slice none 0 0, .int .i64 1]) (by simp [results, Tryz.results45, go_sem, d0, d1, d2, d3]) rfl ⟨_, _, by rw [HI.out]; rfl, by rw [HX.out]; exact none_o _ _ _, by rw [HL.out]; exact World.ownsRow_nil _ _ _ _, pB⟩
  go_wp2_with fail
  refine (specGoodToken_any _ ks _ hm hf (hr.below hBB)).mono ?_
  rintro e w2 ⟨rfl, hB2⟩
  replace F1 := F1.below hB2
  replace F2 := F2.below hB2
  replace hBB := below_one hBB hB2
  clear hB2
  cases hg1 : tkB ks
  case false =>
    have HI := hid (hp_bad (s := s) (ks := ks) (tq := tq) (nw := nw) (li := li) (by unfold hpB; rw [hg1]; simp))
    have HL := hid (hpL_no HI.out (by intro h; cases h))
    have HX := hid (show hdX (hpE s ks tq nw li) s (extL ks tq s.nx nw li) (hpW ks) = Is.none by rw [HI.out]; rfl)
    obtain ⟨r0, r1, r2, r3⟩ := F2.c
    have f0 := F2.f 0
    have f1 := F2.f 1
    have f2 := F2.f 2
    have f3 := F2.f 3
    have G := (((F2.s0 (.slice none 0 0)).s1 (.int .i64 0)).s2 (.slice none 0 0)).s3 (.slice none 0 0)
    have pB := below_four hBB (k := w.heap.size + 1) (by omega) (.slice none 0 0) (.int .i64 0) (.slice none 0 0) (.slice none 0 0)
    go_wp2_with fail
    clear r0 r1 r2 r3 f0 f1 f2 f3
    generalize (((w2.setCell ⟨w.heap.size + 1, 0, none⟩ (.slice none 0 0)).setCell ⟨w.heap.size + 1, 1, none⟩ (.int .i64 0)).setCell ⟨w.heap.size + 1, 2, none⟩ (.slice none 0 0)).setCell ⟨w.heap.size + 1, 3, none⟩ (.slice none 0 0) = W9 at *
    obtain ⟨d0, d1, d2, d3⟩ := G.c
    exact bodyPost_ret (v := .tuple #[.agg #[.slice none 0 0, .int .i64 0, .slice none 0 0, .slice none 0 0], .slice none 0 0, .int .i64 1]) (by simp [results, Tryz.results45, go_sem, d0, d1, d2, d3]) rfl ⟨_, _, by rw [HI.out]; rfl, by rw [HX.out]; exact none_o _ _ _, by rw [HL.out]; exact World.ownsRow_nil _ _ _ _, pB⟩
  go_wp2_with fail
  refine (specGoodName_any tq _ hm2).mono ?_
  rintro e w2b ⟨rfl, hB2⟩
  replace F1 := F1.below hB2
  replace F2 := F2.below hB2
  replace hBB := below_one hBB hB2
  clear hB2
  cases hg2 : nmOk tq
  case false =>
    rw [show gnB (split tq 47) = false from hg2]
    have HI := hid (hp_bad (s := s) (ks := ks) (tq := tq) (nw := nw) (li := li) (by unfold hpB; rw [hg2]; simp))
    have HL := hid (hpL_no HI.out (by intro h; cases h))
    have HX := hid (show hdX (hpE s ks tq nw li) s (extL ks tq s.nx nw li) (hpW ks) = Is.none by rw [HI.out]; rfl)
    obtain ⟨r0, r1, r2, r3⟩ := F2.c
    have f0 := F2.f 0
    have f1 := F2.f 1
    have f2 := F2.f 2
    have f3 := F2.f 3
    have G := (((F2.s0 (.slice none 0 0)).s1 (.int .i64 0)).s2 (.slice none 0 0)).s3 (.slice none 0 0)
    have pB := below_four hBB (k := w.heap.size + 1) (by omega) (.slice none 0 0) (.int .i64 0) (.slice none 0 0) (.slice none 0 0)
    go_wp2_with fail
    clear r0 r1 r2 r3 f0 f1 f2 f3
    generalize (((w2b.setCell ⟨w.heap.size + 1, 0, none⟩ (.slice none 0 0)).setCell ⟨w.heap.size + 1, 1, none⟩ (.int .i64 0)).setCell ⟨w.heap.size + 1, 2, none⟩ (.slice none 0 0)).setCell ⟨w.heap.size + 1, 3, none⟩ (.slice none 0 0) = W9 at *
    obtain ⟨d0, d1, d2, d3⟩ := G.c
    exact bodyPost_ret (v := .tuple #[.agg #[.slice none 0 0, .int .i64 0, .slice none 0 0, .slice none 0 0], .slice none 0 0, .int .i64 1]) (by simp [results, Tryz.results45, go_sem, d0, d1, d2, d3]) rfl ⟨_, _, by rw [HI.out]; rfl, by rw [HX.out]; exact none_o _ _ _, by rw [HL.out]; exact World.ownsRow_nil _ _ _ _, pB⟩
  rw [show gnB (split tq 47) = true from hg2]
  go_wp2_with fail
  refine (l3Time_any nw _).mono ?_
  rintro e w3 ⟨rfl, rfl⟩
  cases hg3 : tmB nw
  case false =>
    have HI := hid (hp_bad (s := s) (ks := ks) (tq := tq) (nw := nw) (li := li) (by unfold hpB; rw [hg3]; simp))
    have HL := hid (hpL_no HI.out (by intro h; cases h))
    have HX := hid (show hdX (hpE s ks tq nw li) s (extL ks tq s.nx nw li) (hpW ks) = Is.none by rw [HI.out]; rfl)
    obtain ⟨r0, r1, r2, r3⟩ := F2.c
    have f0 := F2.f 0
    have f1 := F2.f 1
    have f2 := F2.f 2
    have f3 := F2.f 3
    have G := (((F2.s0 (.slice none 0 0)).s1 (.int .i64 0)).s2 (.slice none 0 0)).s3 (.slice none 0 0)
    have pB := below_four hBB (k := w.heap.size + 1) (by omega) (.slice none 0 0) (.int .i64 0) (.slice none 0 0) (.slice none 0 0)
    go_wp2_with fail
    clear r0 r1 r2 r3 f0 f1 f2 f3
    generalize (((w3.setCell ⟨w.heap.size + 1, 0, none⟩ (.slice none 0 0)).setCell ⟨w.heap.size + 1, 1, none⟩ (.int .i64 0)).setCell ⟨w.heap.size + 1, 2, none⟩ (.slice none 0 0)).setCell ⟨w.heap.size + 1, 3, none⟩ (.slice none 0 0) = W9 at *
    obtain ⟨d0, d1, d2, d3⟩ := G.c
    exact bodyPost_ret (v := .tuple #[.agg #[.slice none 0 0, .int .i64 0, .slice none 0 0, .slice none 0 0], .slice none 0 0, .int .i64 1]) (by simp [results, Tryz.results45, go_sem, d0, d1, d2, d3]) rfl ⟨_, _, by rw [HI.out]; rfl, by rw [HX.out]; exact none_o _ _ _, by rw [HL.out]; exact World.ownsRow_nil _ _ _ _, pB⟩
  go_wp2_with fail
  refine (l3Time_any li _).mono ?_
  rintro e w3 ⟨rfl, rfl⟩
  cases hg4 : tmB li
  case false =>
    have HI := hid (hp_bad (s := s) (ks := ks) (tq := tq) (nw := nw) (li := li) (by unfold hpB; rw [hg4]; simp))
    have HL := hid (hpL_no HI.out (by intro h; cases h))
    have HX := hid (show hdX (hpE s ks tq nw li) s (extL ks tq s.nx nw li) (hpW ks) = Is.none by rw [HI.out]; rfl)
    obtain ⟨r0, r1, r2, r3⟩ := F2.c
    have f0 := F2.f 0
    have f1 := F2.f 1
    have f2 := F2.f 2
    have f3 := F2.f 3
    have G := (((F2.s0 (.slice none 0 0)).s1 (.int .i64 0)).s2 (.slice none 0 0)).s3 (.slice none 0 0)
    have pB := below_four hBB (k := w.heap.size + 1) (by omega) (.slice none 0 0) (.int .i64 0) (.slice none 0 0) (.slice none 0 0)
    go_wp2_with fail
    clear r0 r1 r2 r3 f0 f1 f2 f3
    generalize (((w3.setCell ⟨w.heap.size + 1, 0, none⟩ (.slice none 0 0)).setCell ⟨w.heap.size + 1, 1, none⟩ (.int .i64 0)).setCell ⟨w.heap.size + 1, 2, none⟩ (.slice none 0 0)).setCell ⟨w.heap.size + 1, 3, none⟩ (.slice none 0 0) = W9 at *
    obtain ⟨d0, d1, d2, d3⟩ := G.c
    exact bodyPost_ret (v := .tuple #[.agg #[.slice none 0 0, .int .i64 0, .slice none 0 0, .slice none 0 0], .slice none 0 0, .int .i64 1]) (by simp [results, Tryz.results45, go_sem, d0, d1, d2, d3]) rfl ⟨_, _, by rw [HI.out]; rfl, by rw [HX.out]; exact none_o _ _ _, by rw [HL.out]; exact World.ownsRow_nil _ _ _ _, pB⟩
  have HB := hid (show hpB s ks tq nw li = true by unfold hpB; rw [hg, hg1, hg2, hg3, hg4]; rfl)
  have hl6 := tkB_len hg1
  obtain ⟨ml, hml⟩ : ∃ m, m + 1 = ks.length := ⟨ks.length - 1, by omega⟩
  have hmm : ml < ks.length := by omega
  have hwh := hpW_at hmm (by omega)
  have hhd := isB_hd hg
  clear hg hg1 hg2 hg3 hg4
  have hk1 : w.heap.size + 1 < w3.heap.size := F2.lt
  obtain ⟨a0, a1, a2, a3⟩ := F1.c
  go_wp2_with fail
  refine (l4Own_any _ s base top _ hs (h.below hBB)).mono ?_
  rintro e w4 ⟨v4, rfl, ⟨vw, vr, vs, rfl, o1, o2, o3, u1, u2, u3⟩, hB4, _⟩
  obtain ⟨x1, y1, z1, rfl⟩ := row_slice o1
  obtain ⟨x2, y2, z2, rfl⟩ := row_slice o2
  obtain ⟨x3, y3, z3, rfl⟩ := row_slice o3
  obtain rfl : y1 = s.ws.length := row_len o1
  obtain rfl : y2 = s.rv.length := row_len o2
  obtain rfl : y3 = s.sg.length := row_len o3
  have hk2 := hB4.size
  replace F1 := F1.below hB4
  replace F2 := F2.below hB4
  replace hBB := below_one hBB hB4
  clear hB4 a0 a1 a2 a3
  have hbo : w.heap.size ≤ w3.heap.size := by omega
  obtain ⟨a0, a1, a2, a3⟩ := F1.c
  have f0 := F1.f 0
  have f1 := F1.f 1
  have f2 := F1.f 2
  have f3 := F1.f 3
  have G1 := (((F1.s0 (.slice x1 s.ws.length z1)).s1 (.int .i64 s.nx)).s2 (.slice x2 s.rv.length z2)).s3 (.slice x3 s.sg.length z3)
  have G2 := (((F2.other (k' := w.heap.size) (by omega) 0 (.slice x1 s.ws.length z1)).other (k' := w.heap.size) (by omega) 1 (.int .i64 s.nx)).other (k' := w.heap.size) (by omega) 2 (.slice x2 s.rv.length z2)).other (k' := w.heap.size) (by omega) 3 (.slice x3 s.sg.length z3)
  have q1 := row_four o1 (k := w.heap.size) (by omega) (.slice x1 s.ws.length z1) (.int .i64 s.nx) (.slice x2 s.rv.length z2) (.slice x3 s.sg.length z3)
  have q2 := row_four o2 (k := w.heap.size) (by omega) (.slice x1 s.ws.length z1) (.int .i64 s.nx) (.slice x2 s.rv.length z2) (.slice x3 s.sg.length z3)
  have q3 := row_four o3 (k := w.heap.size) (by omega) (.slice x1 s.ws.length z1) (.int .i64 s.nx) (.slice x2 s.rv.length z2) (.slice x3 s.sg.length z3)
  have hB5 := below_four hBB (k := w.heap.size) (Nat.le_refl _) (.slice x1 s.ws.length z1) (.int .i64 s.nx) (.slice x2 s.rv.length z2) (.slice x3 s.sg.length z3)
  have hk5 : w4.heap.size ≤ ((((w4.setCell ⟨w.heap.size, 0, none⟩ (.slice x1 s.ws.length z1)).setCell ⟨w.heap.size, 1, none⟩ (.int .i64 s.nx)).setCell ⟨w.heap.size, 2, none⟩ (.slice x2 s.rv.length z2)).setCell ⟨w.heap.size, 3, none⟩ (.slice x3 s.sg.length z3)).heap.size := by simp
  clear F1 F2 o1 o2 o3 hBB
  go_wp2_with fail
  clear a0 a1 a2 a3 f0 f1 f2 f3
  generalize (((w4.setCell ⟨w.heap.size, 0, none⟩ (.slice x1 s.ws.length z1)).setCell ⟨w.heap.size, 1, none⟩ (.int .i64 s.nx)).setCell ⟨w.heap.size, 2, none⟩ (.slice x2 s.rv.length z2)).setCell ⟨w.heap.size, 3, none⟩ (.slice x3 s.sg.length z3) = W5 at *
  have hA5 : IsA W5 (.agg #[.slice x1 s.ws.length z1, .int .i64 s.nx, .slice x2 s.rv.length z2, .slice x3 s.sg.length z3]) s := ⟨_, _, _, rfl, WkS.own q1, VS.ownN q2, VS.ownS q3⟩
  have F1 := G1
  have F2 := G2
  have o1 := q1
  have o2 := q2
  have o3 := q3
  have hBB := hB5
  clear G1 G2 q1 q2 q3 hB5
  have hBd : Below W5.heap.size W5 W5.drew := (Below.refl _ _).drew
  replace F1 := F1.below hBd
  replace F2 := F2.below hBd
  replace o1 := ownsRow_below o1 hBd
  replace o2 := ownsRow_below o2 hBd
  replace o3 := ownsRow_below o3 hBd
  replace hA5 := hA5.below hBd
  replace hBB := below_one hBB hBd
  have hsd := hBd.size
  clear hBd
  have hrd := hr.below hBB
  obtain ⟨bb, off, ebb, hbb, hcl, q0, q1, q2, q3, q4⟩ := hrd.at hmm
  subst ebb
  rw [← hwh] at q1
  clear hwh q0 q2 q3 q4
  have hwrap : ((ks.length : Int) - 1).toNat = ml := by omega
  have hsubi : (ks.length : Int) - 1 = (ml : Int) := by omega
  have hwm : IntKind.i64.wrap (ml : Int) = (ml : Int) := by rw [IntKind.wrap_i64]; omega
  have hmlt : (ml : Int) < (ks.length : Int) := by omega
  obtain ⟨c0, c1, c2, c3⟩ := F1.c
  refine wp_region_held_drew (S := fun w' => (w'.cell? ⟨w.heap.size, 0, none⟩ = some (.slice x1 s.ws.length z1) ∧ w'.cell? ⟨w.heap.size, 1, none⟩ = some (.int .i64 s.nx) ∧ w'.cell? ⟨w.heap.size, 2, none⟩ = some (.slice x2 s.rv.length z2) ∧ w'.cell? ⟨w.heap.size, 3, none⟩ = some (.slice x3 s.sg.length z3)) ∧ w'.cell? ⟨bb, off + ml * 5 + 1, none⟩ = some (.string (hpW ks))) (by kernel_rfl) ?_ (fun hHeld => ?_)
  · exact ⟨⟨c0, c1, c2, c3⟩, q1⟩
  generalize W5.drew = Wd at *
  clear c0 c1 c2 c3
  refine takeW 0 (v := ?v10) rfl (by kernel_rfl) (by kernel_rfl) (by kernel_rfl) (fun _ _ _ h => h) (by rfl) (by assumption) ?hy10 ?rest10
  case hy10 => intro w' hSw; (try dsimp only at hSw); go_simp; try with_reducible rfl
  try simp only [Act.put, List.setIfInBounds_toArray, List.set_cons_zero, List.set_cons_succ]
  refine takeW 1 (v := ?v11) rfl (by kernel_rfl) (by kernel_rfl) (by kernel_rfl) (fun _ _ _ h => h) (by rfl) (by assumption) ?hy11 ?rest11
  case hy11 => intro w' hSw; (try dsimp only at hSw); go_simp; try with_reducible rfl
  try simp only [Act.put, List.setIfInBounds_toArray, List.set_cons_zero, List.set_cons_succ]
  refine takeW 2 (v := ?v12) rfl (by kernel_rfl) (by kernel_rfl) (by kernel_rfl) (fun _ _ _ h => h) (by rfl) (by assumption) ?hy12 ?rest12
  case hy12 => intro w' hSw; (try dsimp only at hSw); go_simp; try with_reducible rfl
  try simp only [Act.put, List.setIfInBounds_toArray, List.set_cons_zero, List.set_cons_succ]
  refine takeW 3 (v := ?v13) rfl (by kernel_rfl) (by kernel_rfl) (by kernel_rfl) (fun _ _ _ h => h) (by rfl) (by assumption) ?hy13 ?rest13
  case hy13 => intro w' hSw; (try dsimp only at hSw); go_simp; try with_reducible rfl
  try simp only [Act.put, List.setIfInBounds_toArray, List.set_cons_zero, List.set_cons_succ]
  refine takeW 4 (v := ?v14) rfl (by kernel_rfl) (by kernel_rfl) (by kernel_rfl) (fun _ _ _ h => h) (by rfl) (by assumption) ?hy14 ?rest14
  case hy14 => intro w' hSw; (try dsimp only at hSw); go_simp; try with_reducible rfl
  try simp only [Act.put, List.setIfInBounds_toArray, List.set_cons_zero, List.set_cons_succ]
  refine takeW 5 (v := ?v15) rfl (by kernel_rfl) (by kernel_rfl) (by kernel_rfl) (fun _ _ _ h => h) (by rfl) (by assumption) ?hy15 ?rest15
  case hy15 => intro w' hSw; (try dsimp only at hSw); go_simp; try with_reducible rfl
  try simp only [Act.put, List.setIfInBounds_toArray, List.set_cons_zero, List.set_cons_succ]
  refine takeW 6 (v := ?v16) rfl (by kernel_rfl) (by kernel_rfl) (by kernel_rfl) (fun _ _ _ h => h) (by rfl) (by assumption) ?hy16 ?rest16
  case hy16 => intro w' hSw; (try dsimp only at hSw); go_simp; try with_reducible rfl
  try simp only [Act.put, List.setIfInBounds_toArray, List.set_cons_zero, List.set_cons_succ]
  refine takeW 7 (v := ?v17) rfl (by kernel_rfl) (by kernel_rfl) (by kernel_rfl) (fun _ _ _ h => h) (by rfl) (by assumption) ?hy17 ?rest17
  case hy17 => intro w' hSw; (try dsimp only at hSw); go_simp; try with_reducible rfl
  try simp only [Act.put, List.setIfInBounds_toArray, List.set_cons_zero, List.set_cons_succ]
  refine takeC 8 (by kernel_rfl) rfl (fun K hK => ?_)
  go_simp
  refine (l4Live_any _ s (hpW ks) _ hs.1 hA5).mono ?_; rintro e w6 ⟨rfl, hB6⟩; have F14 := F1.below hB6; have q14 := (hB6.cell (p := ⟨bb, off + ml * 5 + 1, none⟩) hbb).trans q1
  refine hK.out _ _ ?_ (fun hHeld => ?_)
  · first | exact ⟨F14.c, q14⟩ | exact ⟨F1.c, q1⟩
  clear hK K
  try simp only [Act.put, List.setIfInBounds_toArray, List.set_cons_zero, List.set_cons_succ]
  refine takeW 9 (v := ?v18) rfl (by kernel_rfl) (by kernel_rfl) (by kernel_rfl) (fun _ _ _ h => h) (by rfl) (by assumption) ?hy18 ?rest18
  case hy18 => intro w' hSw; (try dsimp only at hSw); go_simp; try with_reducible rfl
  try simp only [Act.put, List.setIfInBounds_toArray, List.set_cons_zero, List.set_cons_succ]
  refine wpAnyH_done (by kernel_rfl) ?_ _
  clear hHeld
  have hs6 := hB6.size
  clear q14 F14 q1 hbb
  replace F1 := F1.below hB6
  replace F2 := F2.below hB6
  replace o1 := ownsRow_below o1 hB6
  replace o2 := ownsRow_below o2 hB6
  replace o3 := ownsRow_below o3 hB6
  replace hA5 := hA5.below hB6
  replace hBB := below_one hBB hB6
  clear hB6
  cases hlv : livW s.ws (hpW ks)
  case false =>
    have HI := hid (hp_no HB.out (maE_no hlv))
    have HL := hid (hpL_no HI.out (by intro h; cases h))
    have HX := hid (show hdX (hpE s ks tq nw li) s (extL ks tq s.nx nw li) (hpW ks) = s by rw [HI.out]; rfl)
    obtain ⟨a0, a1, a2, a3⟩ := F1.c
    obtain ⟨r0, r1, r2, r3⟩ := F2.c
    have f0 := F2.f 0
    have f1 := F2.f 1
    have f2 := F2.f 2
    have f3 := F2.f 3
    have G := (((F2.s0 (.slice x1 s.ws.length z1)).s1 (.int .i64 s.nx)).s2 (.slice x2 s.rv.length z2)).s3 (.slice x3 s.sg.length z3)
    have pB := below_four hBB (k := w.heap.size + 1) (by omega) (.slice x1 s.ws.length z1) (.int .i64 s.nx) (.slice x2 s.rv.length z2) (.slice x3 s.sg.length z3)
    have q1 := row_four o1 (k := w.heap.size + 1) (by omega) (.slice x1 s.ws.length z1) (.int .i64 s.nx) (.slice x2 s.rv.length z2) (.slice x3 s.sg.length z3)
    have q2 := row_four o2 (k := w.heap.size + 1) (by omega) (.slice x1 s.ws.length z1) (.int .i64 s.nx) (.slice x2 s.rv.length z2) (.slice x3 s.sg.length z3)
    have q3 := row_four o3 (k := w.heap.size + 1) (by omega) (.slice x1 s.ws.length z1) (.int .i64 s.nx) (.slice x2 s.rv.length z2) (.slice x3 s.sg.length z3)
    go_wp2_with fail
    clear r0 r1 r2 r3 f0 f1 f2 f3
    generalize (((w6.setCell ⟨w.heap.size + 1, 0, none⟩ (.slice x1 s.ws.length z1)).setCell ⟨w.heap.size + 1, 1, none⟩ (.int .i64 s.nx)).setCell ⟨w.heap.size + 1, 2, none⟩ (.slice x2 s.rv.length z2)).setCell ⟨w.heap.size + 1, 3, none⟩ (.slice x3 s.sg.length z3) = W9 at *
    obtain ⟨d0, d1, d2, d3⟩ := G.c
    exact bodyPost_ret (v := .tuple #[.agg #[.slice x1 s.ws.length z1, .int .i64 s.nx, .slice x2 s.rv.length z2, .slice x3 s.sg.length z3], .slice none 0 0, .int .i64 3]) (by simp [results, Tryz.results45, go_sem, d0, d1, d2, d3]) rfl ⟨_, _, by rw [HI.out]; rfl, by rw [HX.out]; exact IsO.of (Go.Joins.ownsRow_le q1 hbo) (Go.Joins.ownsRow_le q2 hbo) (Go.Joins.ownsRow_le q3 hbo), by rw [HL.out]; exact World.ownsRow_nil _ _ _ _, pB⟩
  obtain ⟨a0, a1, a2, a3⟩ := F1.c
  go_wp2_with fail
  refine (specExtendToken_any _ ks tq s.nx nw li _ hm hf hm2 (hr.below hBB)).mono ?_
  rintro e w7 ⟨vx, rfl, rx, hB7⟩
  have hs7 := hB7.size
  clear a0 a1 a2 a3
  replace F1 := F1.below hB7
  replace F2 := F2.below hB7
  replace o1 := ownsRow_below o1 hB7
  replace o2 := ownsRow_below o2 hB7
  replace o3 := ownsRow_below o3 hB7
  replace hA5 := hA5.below hB7
  replace hBB := below_one hBB hB7
  clear hB7
  cases hx : extB ks tq s.nx nw li
  case false =>
    have HI := hid (hp_ext2 HB.out hlv hx)
    have HL := hid (hpL_no HI.out (by intro h; cases h))
    have HX := hid (show hdX (hpE s ks tq nw li) s (extL ks tq s.nx nw li) (hpW ks) = s by rw [HI.out]; rfl)
    obtain ⟨a0, a1, a2, a3⟩ := F1.c
    obtain ⟨r0, r1, r2, r3⟩ := F2.c
    have f0 := F2.f 0
    have f1 := F2.f 1
    have f2 := F2.f 2
    have f3 := F2.f 3
    have G := (((F2.s0 (.slice x1 s.ws.length z1)).s1 (.int .i64 s.nx)).s2 (.slice x2 s.rv.length z2)).s3 (.slice x3 s.sg.length z3)
    have pB := below_four hBB (k := w.heap.size + 1) (by omega) (.slice x1 s.ws.length z1) (.int .i64 s.nx) (.slice x2 s.rv.length z2) (.slice x3 s.sg.length z3)
    have q1 := row_four o1 (k := w.heap.size + 1) (by omega) (.slice x1 s.ws.length z1) (.int .i64 s.nx) (.slice x2 s.rv.length z2) (.slice x3 s.sg.length z3)
    have q2 := row_four o2 (k := w.heap.size + 1) (by omega) (.slice x1 s.ws.length z1) (.int .i64 s.nx) (.slice x2 s.rv.length z2) (.slice x3 s.sg.length z3)
    have q3 := row_four o3 (k := w.heap.size + 1) (by omega) (.slice x1 s.ws.length z1) (.int .i64 s.nx) (.slice x2 s.rv.length z2) (.slice x3 s.sg.length z3)
    go_wp2_with fail
    clear r0 r1 r2 r3 f0 f1 f2 f3
    generalize (((w7.setCell ⟨w.heap.size + 1, 0, none⟩ (.slice x1 s.ws.length z1)).setCell ⟨w.heap.size + 1, 1, none⟩ (.int .i64 s.nx)).setCell ⟨w.heap.size + 1, 2, none⟩ (.slice x2 s.rv.length z2)).setCell ⟨w.heap.size + 1, 3, none⟩ (.slice x3 s.sg.length z3) = W9 at *
    obtain ⟨d0, d1, d2, d3⟩ := G.c
    exact bodyPost_ret (v := .tuple #[.agg #[.slice x1 s.ws.length z1, .int .i64 s.nx, .slice x2 s.rv.length z2, .slice x3 s.sg.length z3], .slice none 0 0, .int .i64 4]) (by simp [results, Tryz.results45, go_sem, d0, d1, d2, d3]) rfl ⟨_, _, by rw [HI.out]; rfl, by rw [HX.out]; exact IsO.of (Go.Joins.ownsRow_le q1 hbo) (Go.Joins.ownsRow_le q2 hbo) (Go.Joins.ownsRow_le q3 hbo), by rw [HL.out]; exact World.ownsRow_nil _ _ _ _, pB⟩
  obtain ⟨a0, a1, a2, a3⟩ := F1.c
  go_wp2_with fail
  refine (l4Full_any _ s _ hs hA5).mono ?_
  rintro e w8 ⟨rfl, hB8⟩
  have hs8 := hB8.size
  replace rx := ownsRow_below rx hB8
  clear a0 a1 a2 a3
  replace F1 := F1.below hB8
  replace F2 := F2.below hB8
  replace o1 := ownsRow_below o1 hB8
  replace o2 := ownsRow_below o2 hB8
  replace o3 := ownsRow_below o3 hB8
  replace hA5 := hA5.below hB8
  replace hBB := below_one hBB hB8
  clear hB8
  cases hfu : fullB s
  case true =>
    have HI := hid (hp_full HB.out (maE_full hlv hfu))
    have HL := hid (hpL_no HI.out (by intro h; cases h))
    have HX := hid (show hdX (hpE s ks tq nw li) s (extL ks tq s.nx nw li) (hpW ks) = s by rw [HI.out]; rfl)
    obtain ⟨a0, a1, a2, a3⟩ := F1.c
    obtain ⟨r0, r1, r2, r3⟩ := F2.c
    have f0 := F2.f 0
    have f1 := F2.f 1
    have f2 := F2.f 2
    have f3 := F2.f 3
    have G := (((F2.s0 (.slice x1 s.ws.length z1)).s1 (.int .i64 s.nx)).s2 (.slice x2 s.rv.length z2)).s3 (.slice x3 s.sg.length z3)
    have pB := below_four hBB (k := w.heap.size + 1) (by omega) (.slice x1 s.ws.length z1) (.int .i64 s.nx) (.slice x2 s.rv.length z2) (.slice x3 s.sg.length z3)
    have q1 := row_four o1 (k := w.heap.size + 1) (by omega) (.slice x1 s.ws.length z1) (.int .i64 s.nx) (.slice x2 s.rv.length z2) (.slice x3 s.sg.length z3)
    have q2 := row_four o2 (k := w.heap.size + 1) (by omega) (.slice x1 s.ws.length z1) (.int .i64 s.nx) (.slice x2 s.rv.length z2) (.slice x3 s.sg.length z3)
    have q3 := row_four o3 (k := w.heap.size + 1) (by omega) (.slice x1 s.ws.length z1) (.int .i64 s.nx) (.slice x2 s.rv.length z2) (.slice x3 s.sg.length z3)
    go_wp2_with fail
    clear r0 r1 r2 r3 f0 f1 f2 f3
    generalize (((w8.setCell ⟨w.heap.size + 1, 0, none⟩ (.slice x1 s.ws.length z1)).setCell ⟨w.heap.size + 1, 1, none⟩ (.int .i64 s.nx)).setCell ⟨w.heap.size + 1, 2, none⟩ (.slice x2 s.rv.length z2)).setCell ⟨w.heap.size + 1, 3, none⟩ (.slice x3 s.sg.length z3) = W9 at *
    obtain ⟨d0, d1, d2, d3⟩ := G.c
    exact bodyPost_ret (v := .tuple #[.agg #[.slice x1 s.ws.length z1, .int .i64 s.nx, .slice x2 s.rv.length z2, .slice x3 s.sg.length z3], .slice none 0 0, .int .i64 4]) (by simp [results, Tryz.results45, go_sem, d0, d1, d2, d3]) rfl ⟨_, _, by rw [HI.out]; rfl, by rw [HX.out]; exact IsO.of (Go.Joins.ownsRow_le q1 hbo) (Go.Joins.ownsRow_le q2 hbo) (Go.Joins.ownsRow_le q3 hbo), by rw [HL.out]; exact World.ownsRow_nil _ _ _ _, pB⟩
  have HI := hid (hp_nil HB.out (maE_yes hlv hfu) hx)
  have HL := hid (hpL_yes HI.out)
  have hhas := livW_has hlv
  have HF := hid (ext_facts hx)
  have HX := hid (show hdX (hpE s ks tq nw li) s (extL ks tq s.nx nw li) (hpW ks) = sgX s (extL ks tq s.nx nw li) (hpW ks) by rw [HI.out]; rfl)
  clear hlv hfu HB hx
  obtain ⟨bl, cl, rfl⟩ : ∃ bl cl, vx = .slice (some ⟨bl, 0, none⟩) (extL ks tq s.nx nw li).length cl := by
    rcases row_form rx with ⟨_, h0⟩ | ⟨g, c, hv, _, _⟩
    · have := HF.out.1; omega
    · exact ⟨g, c, hv⟩
  obtain ⟨a0, a1, a2, a3⟩ := F1.c
  go_wp2_with fail
  refine (l4Sign_any s x1 x2 x3 z1 z2 z3 bl ks.length cl (extL ks tq s.nx nw li) (hpW ks) w3.heap.size w4.heap.size w6.heap.size _ hs (by omega) o1 o2 o3 u1 u3 ⟨by omega, by omega⟩ hhd.2.2.2 hhas HF.out.1.symm HF.out.2.1 HF.out.2.2.1 HF.out.2.2.2.1 (HF.out.2.2.2.2 (by have := HF.out.1; omega)) rx).mono ?_
  rintro e w9 ⟨v9, rfl, O9, rl9, hM9⟩
  clear rx o1 o2 o3 a0 a1 a2 a3
  obtain ⟨t, HT⟩ : ∃ t, Hid (t = sgX s (extL ks tq s.nx nw li) (hpW ks)) := ⟨_, hid rfl⟩
  rw [← HT.out] at O9
  replace F2 := hM9.four F2 (.inl (by omega))
  replace hBB := hBB.trans (hM9.below (n := w.heap.size) (by omega) hBB.size)
  obtain ⟨x4, z4, x5, z5, x6, z6, rfl⟩ := is_forms O9.a
  obtain ⟨_, _, _, ee, o1, o2, o3, t1, t2, t3⟩ := O9
  cases ee
  obtain ⟨r0, r1, r2, r3⟩ := F2.c
  have f0 := F2.f 0
  have f1 := F2.f 1
  have f2 := F2.f 2
  have f3 := F2.f 3
  have G := (((F2.s0 (.slice x4 t.ws.length z4)).s1 (.int .i64 t.nx)).s2 (.slice x5 t.rv.length z5)).s3 (.slice x6 t.sg.length z6)
  have pB := below_four hBB (k := w.heap.size + 1) (by omega) (.slice x4 t.ws.length z4) (.int .i64 t.nx) (.slice x5 t.rv.length z5) (.slice x6 t.sg.length z6)
  have q1 := row_four o1 (k := w.heap.size + 1) (by omega) (.slice x4 t.ws.length z4) (.int .i64 t.nx) (.slice x5 t.rv.length z5) (.slice x6 t.sg.length z6)
  have q2 := row_four o2 (k := w.heap.size + 1) (by omega) (.slice x4 t.ws.length z4) (.int .i64 t.nx) (.slice x5 t.rv.length z5) (.slice x6 t.sg.length z6)
  have q3 := row_four o3 (k := w.heap.size + 1) (by omega) (.slice x4 t.ws.length z4) (.int .i64 t.nx) (.slice x5 t.rv.length z5) (.slice x6 t.sg.length z6)
  have ql := rowaw rl9 (k := w.heap.size + 1) (fun e => row_apart rl9 F2 (by decide) (w.heap.size + 1) e rfl) (.slice x4 t.ws.length z4) (.int .i64 t.nx) (.slice x5 t.rv.length z5) (.slice x6 t.sg.length z6)
  go_wp2_with fail
  clear r0 r1 r2 r3 f0 f1 f2 f3
  generalize (((w9.setCell ⟨w.heap.size + 1, 0, none⟩ (.slice x4 t.ws.length z4)).setCell ⟨w.heap.size + 1, 1, none⟩ (.int .i64 t.nx)).setCell ⟨w.heap.size + 1, 2, none⟩ (.slice x5 t.rv.length z5)).setCell ⟨w.heap.size + 1, 3, none⟩ (.slice x6 t.sg.length z6) = W9 at *
  obtain ⟨d0, d1, d2, d3⟩ := G.c
  exact bodyPost_ret (v := .tuple #[.agg #[.slice x4 t.ws.length z4, .int .i64 t.nx, .slice x5 t.rv.length z5, .slice x6 t.sg.length z6], .slice (some ⟨bl, 0, none⟩) (extL ks tq s.nx nw li).length cl, .int .i64 0]) (by simp [results, Tryz.results45, go_sem, d0, d1, d2, d3]) rfl ⟨_, _, by rw [HI.out]; rfl, by rw [HX.out, ← HT.out]; exact IsO.of (Go.Joins.ownsRow_le q1 hbo) (Go.Joins.ownsRow_le q2 hbo) (Go.Joins.ownsRow_le q3 hbo), by rw [HL.out]; exact Go.Joins.ownsRow_le ql (by omega), pB⟩

end Go.Proofs.YtallpldgkkpikaaGreatDoor

namespace Go.Proofs.YtallpldgkkpikaaGreatDoor
open Go.RowKit Go.Shelf Go.Lib

set_option maxHeartbeats 4000000 in
set_option maxRecDepth 100000 in
/-- At the end. -/
theorem insEnd_n (base n vb : Nat) (v : Value) (xs ks : List Value) (w : World) (hn : n ≤ 1100000) (hbase : base ≤ w.heap.size) (hks : ks.length = 1) (h1k : ∀ u ∈ ks, u.oneCell' = true)
    (hvb : w.heap[vb]? = some (.cells ks.toArray 3 (0, 0))) (h : w.ownsRow base 3 1 v n xs) :
    Calls Tryz.prog 42 #[v, .int .i64 n, .slice (some ⟨vb, 0, none⟩) 1 1] w fun e w' => ∃ v', e = .returned v' ∧ w'.ownsRow base 3 1 v' (n + 1) (xs ++ ks) ∧ w.grownBy w' v.ownBlock := by
  obtain ⟨i0, hi, hz0, hz1, hz2⟩ := info_parts infoInt
  have hnews : ∀ j u, ks[j]? = some u → w.cell? ((⟨vb, 0, none⟩ : Addr).add j) = some u := fun j u hu => by
    rw [Addr.add_lit, Nat.zero_add]
    simp only [World.cell?, hvb]
    simpa using hu
  rcases row_form h with ⟨rfl, rfl⟩ | ⟨g, cap, rfl, hg, hcap⟩
  · go_enter Tryz.func42, Tryz.ntmps42
    go_wp2_with (at_builtin; refine wpList_append_own _ rfl _ _ 24 rfl base 3 i0 _ 1 8 Tryz.underlying24 hi hz0 hz1 hz2 rfl (by decide) _ _ _ rfl h ⟨vb, 0, none⟩ 1 1 ks rfl (by rw [hks]) hnews h1k (by unfold maxLen; omega) (by omega) hbase ?_)
    intro v' w' ho hgr _
    go_wp2_with fail
    go_ret
    exact ⟨_, rfl, ho, hgr⟩
  · have hcl : (n : Int) ≤ (n : Int) := Int.le_refl _
    go_enter Tryz.func42, Tryz.ntmps42
    go_wp2_with (at_builtin; refine wpList_append_own _ rfl _ _ 24 rfl base 3 i0 _ 1 8 Tryz.underlying24 hi hz0 hz1 hz2 rfl (by decide) _ _ _ rfl h ⟨vb, 0, none⟩ 1 1 ks rfl (by rw [hks]) hnews h1k (by unfold maxLen; omega) (by omega) hbase ?_)
    all_goals intro v' w' ho hgr _
    all_goals go_wp2_with fail
    all_goals go_ret
    all_goals exact ⟨_, rfl, ho, hgr⟩

set_option maxHeartbeats 4000000 in
set_option maxRecDepth 100000 in
/-- Ahead of others, where there is room. -/
theorem insRoom_n (base n i g cap vb : Nat) (xs ks : List Value) (w : World) (hn : n ≤ 1100000) (hi : i < n) (hroom : n + 1 ≤ cap) (hks : ks.length = 1) (h1 : ∀ u ∈ xs, u.oneCell' = true) (h1k : ∀ u ∈ ks, u.oneCell' = true)
    (hvb : w.heap[vb]? = some (.cells ks.toArray 3 (0, 0))) (hne : vb ≠ g) (h : w.ownsRow base 3 1 (.slice (some ⟨g, 0, none⟩) n cap) n xs) :
    Calls Tryz.prog 42 #[.slice (some ⟨g, 0, none⟩) n cap, .int .i64 i, .slice (some ⟨vb, 0, none⟩) 1 1] w fun e w' => ∃ v', e = .returned v' ∧ w'.ownsRow base 3 1 v' (n + 1) (xs.take i ++ ks ++ xs.drop i) ∧ w.grownBy w' (some g) := by
  obtain ⟨i0, hi0, hz0, hz1, hz2⟩ := info_parts infoInt
  have hsz : (Tryz.prog.info? 3).map (·.size) = some 1 := by rw [hi0]; simp [hz1]
  obtain ⟨cur, hb, hg, hcm, hcs, htk⟩ : ∃ cur, base ≤ g ∧ w.heap[g]? = some (.cells cur 3 (0, 0)) ∧ cap ≤ maxLen ∧ cur.size = cap ∧ cur.toList.take (n) = xs := by
    rcases h.2 with ⟨h, _⟩ | ⟨g', cap', cur, hv, h1, h2, h3, h4, h5, h6⟩
    · simp at h
    · simp at hv
      obtain ⟨rfl, rfl⟩ := hv
      exact ⟨cur, h1, h2, h4, by simpa using h5, by simpa using h6⟩
  have hxl : xs.length = n := by simpa using h.1
  unfold maxLen at hcm
  have hov : ∀ (W : World), (∀ k : Nat, W.heap[k]? = w.heap[k]?) → ∀ lb cb, (callFunc 70 #[.slice (some ⟨vb, 0, none⟩) 1 1, .slice (some ⟨g, (i + 1), none⟩) lb cb]).run Tryz.prog W = .ok (.value (.bool false)) W := fun W hW lb cb => by
    rw [run_callFunc_extern Tryz.func70 (by kernel_rfl) (by kernel_rfl) (by kernel_rfl) (e := Extern.SlicesOverlaps.overlaps #[24, 24] #[4]) (by kernel_rfl),
      Lib.run_overlaps_apart W 24 4 3 Tryz.underlying24 1 Tryz.sizeOf3 ⟨vb, 0, none⟩ ⟨g, (i + 1), none⟩ 1 1 lb cb hne 3 3 1 (cap) (by simp [World.shape?, hW, hvb, hks]) (by simp [World.shape?, hW, hg, hcs]) (by omega) (by simp [World.frozen?, hW, hvb]) (by simp [World.frozen?, hW, hvb])]
    rfl
  have hov0 := hov w (fun _ => rfl)
  have mixed : Tryz.prog.follows .mixedOrders = true := by kernel_rfl
  have hz3 : ¬ ((i : Int) = (n : Int)) := by omega
  have hz4 : ¬ ((cap : Int) < (n : Int) + 1) := by omega
  have hw1 : IntKind.i64.wrap ((i : Int) + 1) = (i : Int) + 1 := by rw [IntKind.wrap_i64]; omega
  have hw2 : IntKind.i64.wrap ((n : Int) + 1) = (n : Int) + 1 := by rw [IntKind.wrap_i64]; omega
  have hb1 : (0 : Int) ≤ (i : Int) + 1 := by omega
  have hb0 : (0 : Int) ≤ (n : Int) + 1 := by omega
  have htn : ((i : Int) + 1).toNat = i + 1 := by omega
  have htn2 : ((n : Int) + 1).toNat = n + 1 := by omega
  have hb2 : ¬ (cap = i + 1) := by omega
  have hb3 : (i : Int) ≤ (n : Int) + 1 := by omega
  have hb4 : ¬ (cap = i) := by omega
  have hb5 : (i : Int) + 1 ≤ (n : Int) + 1 := by omega
  have hb6 : (n : Int) + 1 ≤ (cap : Int) := by omega
  have hb7 : (i : Int) ≤ (n : Int) := by omega
  have hdl : (xs.drop i).length = (n - i) := by rw [List.length_drop, hxl]
  have hcp1 : ∀ ty dc sc, (Builtin.copy_ #[24, 24] ty #[.slice (some ⟨g, (i + 1), none⟩) (n - i) dc, .slice (some ⟨g, i, none⟩) (n + 1 - i) sc]).run Tryz.prog w.drew = .ok (goInt (Nat.min (n + 1 - i) (n - i))) (w.drew.setRow g (cur.toList.take ((i + 1)) ++ xs.drop i ++ cur.toList.drop ((i + 1) + (xs.drop i).length)).toArray) := fun ty dc sc =>
    run_copy_k w.drew 24 24 ty 3 1 g ((i + 1)) (n - i) dc ⟨g, i, none⟩ (n + 1 - i) sc cur 3 (xs.drop i) Tryz.underlying24 hsz hg
      (by rw [hdl]; simp only [Nat.min_def]; split <;> omega)
      (fun j u hj => by
        rw [Addr.add_lit]
        rw [List.getElem?_drop] at hj
        have hlt := (List.getElem?_eq_some_iff.1 hj).1
        have hc := h.cellAt (i + j) (by omega)
        exact hc.trans hj)
      (by rw [hdl, hcs]; have : (i + 1) + (n - i) = (n + 1) := by omega
          have := Nat.mul_le_mul_right 1 hroom; omega)
      (fun u hu => h1 u (List.mem_of_mem_drop hu))
  generalize hR : cur.toList.take ((i + 1)) ++ xs.drop i ++ cur.toList.drop ((i + 1) + (xs.drop i).length) = R1 at *
  have hRl : R1.length = cap := by
    rw [← hR]
    have : (i + 1) + (n - i) = (n + 1) := by omega
    have := Nat.mul_le_mul_right 1 hroom
    simp [hdl, hcs]
    omega
  have hcp2 : ∀ (W : World), W.heap[g]? = some (.cells R1.toArray 3 (0, 0)) → (∀ j : Nat, W.cell? ⟨vb, j, none⟩ = w.cell? ⟨vb, j, none⟩) → ∀ ty dc, (Builtin.copy_ #[24, 24] ty #[.slice (some ⟨g, i, none⟩) (n + 1 - i) dc, .slice (some ⟨vb, 0, none⟩) 1 1]).run Tryz.prog W = .ok (goInt (Nat.min 1 (n + 1 - i))) (W.setRow g (R1.take i ++ ks ++ R1.drop (i + ks.length)).toArray) := fun W hWg hWv ty dc => by
    have := run_copy_k W 24 24 ty 3 1 g i (n + 1 - i) dc ⟨vb, 0, none⟩ 1 1 R1.toArray 3 ks Tryz.underlying24 hsz hWg
      (by rw [hks, show Nat.min 1 (n + 1 - i) = 1 by simp only [Nat.min_def]; split <;> omega])
      (fun j u hj => by
        rw [Addr.add_lit, Nat.zero_add, hWv]
        simp only [World.cell?, hvb]
        simpa using hj)
      (by have := Nat.mul_le_mul_right 1 hroom; have := Nat.mul_le_mul_right 1 hi; simp [hRl, hks]; omega)
      h1k
    simpa using this
  have hg1 : (w.drew.setRow g R1.toArray).heap[g]? = some (.cells R1.toArray 3 (0, 0)) := setRow_heap w.drew g cur R1.toArray 3 (0, 0) hg
  have hv1 : ∀ j : Nat, (w.drew.setRow g R1.toArray).cell? ⟨vb, j, none⟩ = w.cell? ⟨vb, j, none⟩ := fun j => cell_setRow_other w.drew g R1.toArray ⟨vb, j, none⟩ hne
  have hfin := hcp2 (w.drew.setRow g R1.toArray) hg1 hv1
  clear hcp2
  go_enter Tryz.func42, Tryz.ntmps42
  go_wp2_with (simp only [hov0])
  go_region_law_o (refine step_copy_runI rfl _ _ 24 24 rfl _ _ (by simp [Act.eval, Act.put]) (by simp [Act.eval, Act.put]) (hcp1 _ _ _) ?_)
  go_wp2_with (at_builtin; refine wpList_copy_runI _ rfl _ _ 24 24 rfl _ _ rfl rfl (hfin _ _) ?_)
  go_ret
  refine ⟨_, rfl, ⟨?_, .inr ⟨g, cap, (R1.take i ++ (ks ++ R1.drop (i + 1))).toArray, rfl, hb, setRow_heap (w.drew.setRow g R1.toArray) g R1.toArray _ 3 (0, 0) hg1, hroom, by unfold maxLen; omega, ?_, ?_⟩⟩, ?_⟩
  · have := Nat.mul_le_mul_right 1 hi
    simp [hks, hxl]
    omega
  · have := Nat.mul_le_mul_right 1 hroom
    have := Nat.mul_le_mul_right 1 hi
    simp [hRl, hks]
    omega
  · have := put_in cur.toList xs ks i 1 (n) hks (by have := Nat.mul_le_mul_right 1 hi; omega) htk (by have := Nat.mul_le_mul_right 1 hroom; simp [hcs]; omega)
    rw [hR] at this
    simpa [hks] using this
  · exact ⟨rfl, rfl, rfl, by simp, fun k _ hk => (setRow_other _ g k _ (fun e => hk (by rw [e]))).trans (setRow_other w.drew g k _ (fun e => hk (by rw [e])))⟩

set_option maxHeartbeats 4000000 in
set_option maxRecDepth 100000 in
/-- Ahead of others, where there is no room. -/
theorem insGrow_n (base n i g cap vb : Nat) (xs ks : List Value) (w : World) (hn : n ≤ 1100000) (hi : i < n) (hroom : cap < n + 1) (hbase : base ≤ w.heap.size) (hks : ks.length = 1) (h1 : ∀ u ∈ xs, u.oneCell' = true) (h1k : ∀ u ∈ ks, u.oneCell' = true)
    (hvb : w.heap[vb]? = some (.cells ks.toArray 3 (0, 0))) (h : w.ownsRow base 3 1 (.slice (some ⟨g, 0, none⟩) n cap) n xs) :
    Calls Tryz.prog 42 #[.slice (some ⟨g, 0, none⟩) n cap, .int .i64 i, .slice (some ⟨vb, 0, none⟩) 1 1] w fun e w' => ∃ v', e = .returned v' ∧ w'.ownsRow base 3 1 v' (n + 1) (xs.take i ++ ks ++ xs.drop i) ∧ w.grownBy w' (some g) := by
  obtain ⟨i0, hi0, hz0, hz1, hz2⟩ := info_parts infoInt
  have hsz : (Tryz.prog.info? 3).map (·.size) = some 1 := by rw [hi0]; simp [hz1]
  have hnc : n ≤ cap := by
    rcases row_form h with ⟨h, _⟩ | ⟨g', cap', hv, _, hc⟩
    · simp at h
    · simp at hv
      omega
  have hxl : xs.length = n := by simpa using h.1
  have hgw : g < w.heap.size := (h.lt g rfl).2
  have hvw : vb < w.heap.size := (Array.getElem?_eq_some_iff.1 hvb).1
  have hcx : ∀ j u, xs[j]? = some u → w.cell? ⟨g, j, none⟩ = some u := fun j u hu => by
    have hlt := (List.getElem?_eq_some_iff.1 hu).1
    exact (h.cellAt j (by omega)).trans hu
  have htl : (xs.take i).length = i := by rw [List.length_take]; omega
  have hold : (Builtin.firstCells i0.size i (.slice (some ⟨g, 0, none⟩) i cap)).run Tryz.prog w.drew = .ok (xs.take i).toArray w.drew := by
    rw [hz1]
    exact run_firstCells_some w.drew 1 i ⟨g, 0, none⟩ i cap (xs.take i) (by simpa using htl) (fun j u hj => by
      rw [Addr.add_lit, Nat.zero_add]
      rw [List.getElem?_take] at hj
      split at hj
      · exact hcx j u hj
      · cases hj)
  obtain ⟨G, hG⟩ : ∃ G, G = grownCap w (n + 1) cap 3 := ⟨_, rfl⟩
  have hGn : n + 1 ≤ G := by rw [hG]; exact grownCap_ge w _ _ _
  have hGm : G ≤ maxLen := by rw [hG]; exact grownCap_le_maxLen w (n + 1) cap 3 (by unfold maxLen; omega)
  have hkk : (n : Int) + 1 - (i : Int) = ((n + 1 - i : Nat) : Int) := by omega
  have hrz : ∀ ty, (Builtin.append_ #[24, 3] ty #[.slice (some ⟨g, 0, none⟩) i cap, .int .i64 ((n : Int) + 1 - (i : Int))]).run Tryz.prog w =
      .ok (.slice (some ⟨w.heap.size, 0, none⟩) (n + 1) G) (w.drew.alloc (.cells ((xs.take i).toArray ++ Builtin.zeroCells (.int .i64 0 : Value).cells (n + 1 - i) ++ Builtin.zeroCells (.int .i64 0 : Value).cells (G - (n + 1))) 3)) := fun ty => by
    have h := Lib.run_append_grow_zeros w 24 3 ty 3 i0 _ .i64 .i64 Tryz.underlying24 Tryz.underlying3 hi0 hz0 (some ⟨g, 0, none⟩) i cap (xs.take i) hold (n + 1 - i) (by omega) (by omega) (by omega) (by omega) (by rw [hz2]; omega) (by rw [hz2, show i + (n + 1 - i) = n + 1 by omega]; exact growslice_fits hroom (by omega))
    rw [show i + (n + 1 - i) = n + 1 by omega, ← hG] at h
    rw [hkk]
    exact h
  obtain ⟨ROW, hROW⟩ : ∃ ROW : Array Value, ROW = (xs.take i).toArray ++ Builtin.zeroCells (.int .i64 0 : Value).cells (n + 1 - i) ++ Builtin.zeroCells (.int .i64 0 : Value).cells (G - (n + 1)) := ⟨_, rfl⟩
  rw [← hROW] at hrz
  have hRs : ROW.size = G := by
    rw [hROW]
    simp [Builtin.zeroCells, Value.cells, htl]
    omega
  have hRt : ROW.toList.take i = xs.take i := by
    rw [hROW]
    simp only [Array.toList_append, List.append_assoc]
    rw [List.take_append_of_le_length (by simp [htl]), List.take_of_length_le (by simp [htl])]
  have hdl : (xs.drop i).length = (n - i) := by rw [List.length_drop, hxl]
  have hb : i + 1 + (n - i) = (n + 1) := by omega
  have hGS := Nat.mul_le_mul_right 1 hGn
  have hcpA : ∀ (W : World), W.heap[w.heap.size]? = some (.cells ROW 3 (0, 0)) → (∀ j : Nat, W.cell? ⟨vb, j, none⟩ = w.cell? ⟨vb, j, none⟩) → ∀ ty dc, (Builtin.copy_ #[24, 24] ty #[.slice (some ⟨w.heap.size, i, none⟩) (n + 1 - i) dc, .slice (some ⟨vb, 0, none⟩) 1 1]).run Tryz.prog W = .ok (goInt (Nat.min 1 (n + 1 - i))) (W.setRow w.heap.size (ROW.toList.take i ++ ks ++ ROW.toList.drop (i + 1)).toArray) := fun W hWg hWv ty dc => by
    have := run_copy_k W 24 24 ty 3 1 w.heap.size i (n + 1 - i) dc ⟨vb, 0, none⟩ 1 1 ROW 3 ks Tryz.underlying24 hsz hWg
      (by rw [hks, show Nat.min 1 (n + 1 - i) = 1 by simp only [Nat.min_def]; split <;> omega])
      (fun j u hj => by
        rw [Addr.add_lit, Nat.zero_add, hWv]
        simp only [World.cell?, hvb]
        simpa using hj)
      (by rw [hks, hRs]; omega) h1k
    rw [hks] at this
    exact this
  obtain ⟨R1, hR1⟩ : ∃ R1, R1 = ROW.toList.take i ++ ks ++ ROW.toList.drop (i + 1) := ⟨_, rfl⟩
  rw [← hR1] at hcpA
  have hR1l : R1.length = G := by
    rw [hR1]
    simp [hks, hRs]
    omega
  have hcpB : ∀ (W : World), W.heap[w.heap.size]? = some (.cells R1.toArray 3 (0, 0)) → (∀ j : Nat, W.cell? ⟨g, j, none⟩ = w.cell? ⟨g, j, none⟩) → ∀ ty dc sc, (Builtin.copy_ #[24, 24] ty #[.slice (some ⟨w.heap.size, (i + 1), none⟩) (n - i) dc, .slice (some ⟨g, i, none⟩) (n - i) sc]).run Tryz.prog W = .ok (goInt (Nat.min (n - i) (n - i))) (W.setRow w.heap.size (R1.take ((i + 1)) ++ xs.drop i ++ R1.drop ((i + 1) + (xs.drop i).length)).toArray) := fun W hWg hWv ty dc sc => by
    have := run_copy_k W 24 24 ty 3 1 w.heap.size ((i + 1)) (n - i) dc ⟨g, i, none⟩ (n - i) sc R1.toArray 3 (xs.drop i) Tryz.underlying24 hsz hWg
      (by rw [hdl]; simp only [Nat.min_def]; split <;> omega)
      (fun j u hj => by
        rw [Addr.add_lit, hWv]
        rw [List.getElem?_drop] at hj
        exact hcx _ u hj)
      (by rw [hdl]; simp [hR1l]; omega) (fun u hu => h1 u (List.mem_of_mem_drop hu))
    simpa using this
  have mixed : Tryz.prog.follows .mixedOrders = true := by kernel_rfl
  have hz3 : ¬ ((i : Int) = (n : Int)) := by omega
  have hz4 : (cap : Int) < (n : Int) + 1 := by omega
  have hw1 : IntKind.i64.wrap ((i : Int) + 1) = (i : Int) + 1 := by rw [IntKind.wrap_i64]; omega
  have hw2 : IntKind.i64.wrap ((n : Int) + 1) = (n : Int) + 1 := by rw [IntKind.wrap_i64]; omega
  have hw3 : IntKind.i64.wrap ((n : Int) + 1 - (i : Int)) = (n : Int) + 1 - (i : Int) := by rw [IntKind.wrap_i64]; omega
  have hb1 : (0 : Int) ≤ (i : Int) + 1 := by omega
  have htn : ((i : Int) + 1).toNat = i + 1 := by omega
  have hb3 : (i : Int) ≤ (n : Int) + 1 := by omega
  have hb5 : (i : Int) + 1 ≤ (n : Int) + 1 := by omega
  have hb7 : (i : Int) ≤ (n : Int) := by omega
  have hb8 : (i : Int) ≤ (cap : Int) := by omega
  have hGi : ¬ (G = i) := by omega
  have hGim : ¬ (G = i + 1) := by omega
  have hci : ¬ (cap = i) := by omega
  have hgA : ((w.alloc (.cells ROW 3)).drew).heap[w.heap.size]? = some (.cells ROW 3 (0, 0)) := by show (w.heap.push _)[w.heap.size]? = _; rw [Array.getElem?_push_size]
  have hvA : ∀ j : Nat, ((w.alloc (.cells ROW 3)).drew).cell? ⟨vb, j, none⟩ = w.cell? ⟨vb, j, none⟩ := fun j => World.cell?_alloc_lt w _ ⟨vb, j, none⟩ hvw
  have hA := hcpA _ hgA hvA
  have hgB : (((w.alloc (.cells ROW 3)).drew.setRow w.heap.size R1.toArray).drew).heap[w.heap.size]? = some (.cells R1.toArray 3 (0, 0)) := setRow_heap _ w.heap.size ROW R1.toArray 3 (0, 0) hgA
  have hvB : ∀ j : Nat, (((w.alloc (.cells ROW 3)).drew.setRow w.heap.size R1.toArray).drew).cell? ⟨g, j, none⟩ = w.cell? ⟨g, j, none⟩ := fun j => (cell_setRow_other _ w.heap.size R1.toArray ⟨g, j, none⟩ (by simp; omega)).trans (World.cell?_alloc_lt w _ ⟨g, j, none⟩ hgw)
  have hB := hcpB _ hgB hvB
  have HR1 := hid hR1
  have HRt := hid hRt
  have HR1l := hid hR1l
  have HRs := hid hRs
  have HDL := hid hdl
  clear hcpA hcpB hkk hold hROW hR1 hRt hG hR1l hRs hdl htl
  go_enter Tryz.func42, Tryz.ntmps42
  go_wp2_with (first
    | (at_builtin; refine Lib.wpList_append_run _ rfl _ _ _ _ rfl _ _ rfl rfl _ _ (hrz _) ?_)
    | (at_builtin; refine wpList_copy_runI _ rfl _ _ 24 24 rfl _ _ rfl rfl (hA _ _) ?_))
  go_region_law_o (refine step_copy_runI rfl _ _ 24 24 rfl _ _ (by simp [Act.eval, Act.put]) (by simp [Act.eval, Act.put]) (hB _ _ _) ?_)
  go_wp2
  go_ret
  have hdl := HDL.out
  have hR1l := HR1l.out
  have hm1 := Nat.mul_le_mul_right 1 hi
  refine ⟨_, rfl, ⟨?_, .inr ⟨w.heap.size, G, (R1.take ((i + 1)) ++ (xs.drop i ++ R1.drop (n + 1))).toArray, rfl, hbase, setRow_heap _ w.heap.size R1.toArray _ 3 (0, 0) hgB, hGn, hGm, ?_, ?_⟩⟩, ?_⟩
  · simp [hks, hxl]
    omega
  · simp [hR1l, hxl]
    omega
  · have htl : (xs.take i).length = i := by rw [List.length_take]; omega
    have := put_new ROW.toList (xs.take i) ks (xs.drop i) i 1 htl hks HRt.out
    rw [← HR1.out, List.length_drop, hxl, List.append_assoc, show i + 1 + (n - i) = n + 1 by omega] at this
    simpa using this
  · exact ⟨rfl, rfl, rfl, by simp, fun k hk _ => (setRow_other _ w.heap.size k _ (by omega)).trans ((setRow_other _ w.heap.size k _ (by omega)).trans (Below.heap_alloc w _ k hk))⟩

/-- slices.Insert of one. -/
theorem insert_n (base n i vb : Nat) (v : Value) (xs ks : List Value) (w : World) (hn : n ≤ 1100000) (hi : i ≤ n) (hbase : base ≤ w.heap.size) (hks : ks.length = 1) (h1 : ∀ u ∈ xs, u.oneCell' = true) (h1k : ∀ u ∈ ks, u.oneCell' = true)
    (hvb : w.heap[vb]? = some (.cells ks.toArray 3 (0, 0))) (hne : v.ownBlock ≠ some vb) (h : w.ownsRow base 3 1 v n xs) :
    Calls Tryz.prog 42 #[v, .int .i64 i, .slice (some ⟨vb, 0, none⟩) 1 1] w fun e w' => ∃ v', e = .returned v' ∧ w'.ownsRow base 3 1 v' (n + 1) (xs.take i ++ ks ++ xs.drop i) ∧ w.grownBy w' v.ownBlock := by
  have hxl : xs.length = n := by simpa using h.1
  by_cases he : i = n
  · subst he
    rw [List.take_of_length_le (by omega), List.drop_of_length_le (by omega), List.append_nil]
    exact insEnd_n base i vb v xs ks w hn hbase hks h1k hvb h
  · rcases row_form h with ⟨rfl, rfl⟩ | ⟨g, cap, rfl, hg, hcap⟩
    · omega
    · by_cases hr : n + 1 ≤ cap
      · exact insRoom_n base n i g cap vb xs ks w hn (by omega) hr hks h1 h1k hvb (fun e => hne (by rw [e]; rfl)) h
      · exact insGrow_n base n i g cap vb xs ks w hn (by omega) (by omega) hbase hks h1 h1k hvb h

end Go.Proofs.YtallpldgkkpikaaGreatDoor

namespace Go.Proofs.YtallpldgkkpikaaGreatDoor
open Go.RowKit Go.Shelf

theorem wflat_live : ∀ (ws : List Wk) (n : Nat) (h : n < ws.length), (ws.flatMap Wk.cells).set (n * 3 + 1) (.bool false) = (ws.set n ⟨ws[n].name, false, ws[n].se⟩).flatMap Wk.cells
  | [], n, h => by simp at h
  | x :: ws, 0, _ => rfl
  | x :: ws, n + 1, h => by
    have ih := wflat_live ws n (by simpa using h)
    simp only [List.getElem_cons_succ]
    rw [List.set_cons_succ, List.flatMap_cons, List.flatMap_cons, ← ih, show (n + 1) * 3 + 1 = n * 3 + 1 + 3 by omega]
    rfl
theorem nput (zs : List Int) (n : Nat) (z : Int) : (nums zs).take n ++ [Value.int .i64 z] ++ (nums zs).drop n = nums (zs.take n ++ z :: zs.drop n) := by
  unfold nums
  simp
theorem rk_bad {s : Is} {n : ByteArray} (h : rkE s n = .bad) : rkX s n = (Is.none, 0, 1) := by
  unfold rkE at h
  unfold rkX
  split at h
  · rename_i hb
    rw [if_pos hb]
  · split at h <;> cases h
theorem rk_no {s : Is} {n : ByteArray} (h : rkE s n = .noWork) : rkX s n = (s, (s.rv.length : Int), 3) := by
  unfold rkE at h
  unfold rkX
  split at h
  · cases h
  · rename_i h1
    rw [if_neg h1]
    split at h
    · cases h
    · rename_i h2
      rw [if_pos (by simpa using h2)]
theorem rk_at {s : Is} {n : ByteArray} (hb : isB s = true) (hg : nmOk n = true) (hl : livW s.ws n = true) (h : atW s.ws n < s.ws.length) : rkX s n = (⟨s.ws.set (atW s.ws n) ⟨s.ws[atW s.ws n].name, false, s.ws[atW s.ws n].se⟩, s.nx, rvN s.rv s.ws[atW s.ws n].se, s.sg⟩, ((rvN s.rv s.ws[atW s.ws n].se).length : Int), 0) := by
  unfold rkX
  rw [hb, hg, if_neg (by decide), hl, if_neg (by decide), List.getElem?_eq_getElem h, liSet_at h]
theorem rk_nil {s : Is} {n : ByteArray} (h : rkE s n = .nil) : isB s = true ∧ nmOk n = true ∧ livW s.ws n = true := by
  unfold rkE at h
  split at h
  · cases h
  · rename_i h1
    split at h
    · rename_i h2
      cases hb : isB s
      · rw [hb] at h1
        exact absurd rfl h1
      · cases hg : nmOk n
        · rw [hb, hg] at h1
          exact absurd rfl h1
        · exact ⟨rfl, rfl, h2⟩
    · cases h
theorem rk_not {s : Is} {n : ByteArray} : rkE s n ≠ .twice ∧ rkE s n ≠ .full := by
  unfold rkE
  split
  · exact ⟨fun h => (by cases h), fun h => (by cases h)⟩
  · split <;> exact ⟨fun h => (by cases h), fun h => (by cases h)⟩

set_option maxHeartbeats 8000000 in
set_option maxRecDepth 100000 in
theorem implRevoke_any (v : Value) (s : Is) (name : ByteArray) (p0 p1 p2 p3 : Addr) (base top : Nat) (w : World) (hs : s.short) (hn : s.named) (hm : name.size ≤ 1048576) (hE : ErA w p0 p1 p2 p3) (h : IsO w base top v s) :
    Calls Tryz.prog 11 #[v, .string name] w fun e w' => ∃ v', e = .returned (.tuple #[v', .int .i64 (rkX s name).2.1, .int .i64 (rkX s name).2.2]) ∧ IsO w' w.heap.size w'.heap.size v' (rkX s name).1 ∧ Below w.heap.size w w' := by
  obtain ⟨aw, cw, ar, cr, ag, cg, rfl⟩ := is_forms h.a
  have hB0 : Below w.heap.size w ((w.alloc (.cells #[.slice aw s.ws.length cw, .int .i64 s.nx, .slice ar s.rv.length cr, .slice ag s.sg.length cg] 27)).alloc (.cells #[.slice none 0 0, .int .i64 0, .slice none 0 0, .slice none 0 0] 27)) := ((Below.refl _ w).alloc (Nat.le_refl _) _).alloc (by simp) _
  have F1 := (Four.new w (.slice aw s.ws.length cw) (.int .i64 s.nx) (.slice ar s.rv.length cr) (.slice ag s.sg.length cg) 27).below ((Below.refl _ _).alloc (Nat.le_refl _) (.cells #[.slice none 0 0, .int .i64 0, .slice none 0 0, .slice none 0 0] 27))
  have F2 := Four.at (w.alloc (.cells #[.slice aw s.ws.length cw, .int .i64 s.nx, .slice ar s.rv.length cr, .slice ag s.sg.length cg] 27)) (.slice none 0 0) (.int .i64 0) (.slice none 0 0) (.slice none 0 0) 27 (k := w.heap.size + 1) (by simp)
  go_enter Tryz.func11, Tryz.ntmps11
  go_wp2_with fail
  generalize (w.alloc (.cells #[.slice aw s.ws.length cw, .int .i64 s.nx, .slice ar s.rv.length cr, .slice ag s.sg.length cg] 27)).alloc (.cells #[.slice none 0 0, .int .i64 0, .slice none 0 0, .slice none 0 0] 27) = Wz at *
  refine (mayRevoke_any _ s name p0 p1 p2 p3 _ hs hn hm (hE.below hB0) (h.a.below hB0)).mono ?_
  rintro e w1 ⟨rfl, hB1⟩
  replace F1 := F1.below hB1
  replace F2 := F2.below hB1
  have hBB1 := below_one hB0 hB1
  have hk0 : w.heap.size + 1 < w1.heap.size := F2.lt
  clear hB0 hB1
  obtain ⟨a0, a1, a2, a3⟩ := F1.c
  have E1 := hE.below hBB1
  have O1 := h.below hBB1
  cases he : rkE s name with
  | twice => exact absurd he rk_not.1
  | full => exact absurd he rk_not.2
  | bad =>
    have HR := hid (rk_bad he)
    clear he
    go_wp2_with fail
    refine (beside_bad _ s p0 p0 p1 p2 p3 base top _ E1 O1).mono ?_
    rintro e w2 ⟨rfl, hB2⟩
    have hBa : Below w2.heap.size w2 (w2.alloc (.cells #[(.slice none 0 0), (.int .i64 0), (.slice none 0 0), (.slice none 0 0)] 27)) := (Below.refl _ w2).alloc (Nat.le_refl _) _
    have FA := Four.new w2 (.slice none 0 0) (.int .i64 0) (.slice none 0 0) (.slice none 0 0) 27
    replace F2 := (F2.below hB2).below hBa
    have hBB3 := below_two hBB1 hB2 hBa
    have hkn : w2.heap.size ≠ w.heap.size + 1 := fun hh => by have := hB2.size; omega
    have E3 := hE.below hBB3
    go_wp2_with fail
    generalize w2.alloc (.cells #[(.slice none 0 0), (.int .i64 0), (.slice none 0 0), (.slice none 0 0)] 27) = W3 at *
    generalize w2.heap.size = k2 at *
    obtain ⟨c0, c1, c2, c3⟩ := FA.c
    refine wp_region_held_drew (S := fun w' => w'.cell? ⟨k2, 0, none⟩ = some (.slice none 0 0) ∧ w'.cell? ⟨k2, 1, none⟩ = some (.int .i64 0) ∧ w'.cell? ⟨k2, 2, none⟩ = some (.slice none 0 0) ∧ w'.cell? ⟨k2, 3, none⟩ = some (.slice none 0 0)) (by kernel_rfl) ?_ (fun hHeld => ?_)
    · first | go_keep | exact (((((FA.below (below_drew1 hB4)).other hkn 0 _).other hkn 1 _).other hkn 2 _).other hkn 3 _).c
    refine takeW 0 (v := ?v10) rfl (by kernel_rfl) (by kernel_rfl) (by kernel_rfl) (fun _ _ _ h => h) (by rfl) (by assumption) ?hy10 ?rest10
    case hy10 => intro w' hSw; (try dsimp only at hSw); go_simp; try with_reducible rfl
    try simp only [Act.put, List.setIfInBounds_toArray, List.set_cons_zero, List.set_cons_succ]
    refine takeW 1 (v := ?v11) rfl (by kernel_rfl) (by kernel_rfl) (by kernel_rfl) (fun _ _ _ h => h) (by rfl) (by assumption) ?hy11 ?rest11
    case hy11 => intro w' hSw; (try dsimp only at hSw); go_simp; try with_reducible rfl
    try simp only [Act.put, List.setIfInBounds_toArray, List.set_cons_zero, List.set_cons_succ]
    refine takeW 2 (v := ?v12) rfl (by kernel_rfl) (by kernel_rfl) (by kernel_rfl) (fun _ _ _ h => h) (by rfl) (by assumption) ?hy12 ?rest12
    case hy12 => intro w' hSw; (try dsimp only at hSw); go_simp; try with_reducible rfl
    try simp only [Act.put, List.setIfInBounds_toArray, List.set_cons_zero, List.set_cons_succ]
    refine takeW 3 (v := ?v13) rfl (by kernel_rfl) (by kernel_rfl) (by kernel_rfl) (fun _ _ _ h => h) (by rfl) (by assumption) ?hy13 ?rest13
    case hy13 => intro w' hSw; (try dsimp only at hSw); go_simp; try with_reducible rfl
    try simp only [Act.put, List.setIfInBounds_toArray, List.set_cons_zero, List.set_cons_succ]
    refine takeW 4 (v := ?v14) rfl (by kernel_rfl) (by kernel_rfl) (by kernel_rfl) (fun _ _ _ h => h) (by rfl) (by assumption) ?hy14 ?rest14
    case hy14 => intro w' hSw; (try dsimp only at hSw); go_simp; try with_reducible rfl
    try simp only [Act.put, List.setIfInBounds_toArray, List.set_cons_zero, List.set_cons_succ]
    refine takeC 5 (by kernel_rfl) rfl (fun K hK => ?_)
    go_simp
    refine (codeOf_any .bad p0 p1 p2 p3 _ (fun hh => by cases hh) (by exact E3.below (Below.refl _ _).drew)).mono ?_; rintro e w4 ⟨rfl, hB4⟩; have hc4 := fun o => hB4.cell (p := ⟨k2, o, none⟩) (by exact FA.lt); have G2 : Four w4 _ _ _ _ _ _ := F2.below (below_drew1 hB4); have hBB4 := below_one hBB3 (below_drew1 hB4); obtain ⟨r0, r1, r2, r3⟩ := G2.c; have f0 := G2.f 0; have f1 := G2.f 1; have f2 := G2.f 2; have f3 := G2.f 3
    refine hK.out _ _ ?_ (fun hHeld => ?_)
    · first | go_keep | exact (((((FA.below (below_drew1 hB4)).other hkn 0 _).other hkn 1 _).other hkn 2 _).other hkn 3 _).c
    clear hK K
    try simp only [Act.put, List.setIfInBounds_toArray, List.set_cons_zero, List.set_cons_succ]
    refine takeC 6 (by kernel_rfl) rfl (fun K hK => ?_)
    go_simp
    skip
    refine hK.out _ _ ?_ (fun hHeld => ?_)
    · first | go_keep | exact (((((FA.below (below_drew1 hB4)).other hkn 0 _).other hkn 1 _).other hkn 2 _).other hkn 3 _).c
    clear hK K
    try simp only [Act.put, List.setIfInBounds_toArray, List.set_cons_zero, List.set_cons_succ]
    refine takeW 7 (v := ?v15) rfl (by kernel_rfl) (by kernel_rfl) (by kernel_rfl) (fun _ _ _ h => h) (by rfl) (by assumption) ?hy15 ?rest15
    case hy15 => intro w' hSw; (try dsimp only at hSw); go_simp; try with_reducible rfl
    try simp only [Act.put, List.setIfInBounds_toArray, List.set_cons_zero, List.set_cons_succ]
    refine takeW 8 (v := ?v16) rfl (by kernel_rfl) (by kernel_rfl) (by kernel_rfl) (fun _ _ _ h => h) (by rfl) (by assumption) ?hy16 ?rest16
    case hy16 => intro w' hSw; (try dsimp only at hSw); go_simp; try with_reducible rfl
    try simp only [Act.put, List.setIfInBounds_toArray, List.set_cons_zero, List.set_cons_succ]
    refine wpAnyH_done (by kernel_rfl) ?_ _
    have G := (((G2.s0 (.slice none 0 0)).s1 (.int .i64 0)).s2 (.slice none 0 0)).s3 (.slice none 0 0)
    have pB := below_four hBB4 (k := w.heap.size + 1) (by omega) (.slice none 0 0) (.int .i64 0) (.slice none 0 0) (.slice none 0 0)
    have HI := none_o ((((w4.setCell ⟨w.heap.size + 1, 0, none⟩ (.slice none 0 0)).setCell ⟨w.heap.size + 1, 1, none⟩ (.int .i64 0)).setCell ⟨w.heap.size + 1, 2, none⟩ (.slice none 0 0)).setCell ⟨w.heap.size + 1, 3, none⟩ (.slice none 0 0)) w.heap.size ((((w4.setCell ⟨w.heap.size + 1, 0, none⟩ (.slice none 0 0)).setCell ⟨w.heap.size + 1, 1, none⟩ (.int .i64 0)).setCell ⟨w.heap.size + 1, 2, none⟩ (.slice none 0 0)).setCell ⟨w.heap.size + 1, 3, none⟩ (.slice none 0 0)).heap.size
    go_wp2_with fail
    clear r0 r1 r2 r3 f0 f1 f2 f3 hHeld hc4
    generalize (((w4.setCell ⟨w.heap.size + 1, 0, none⟩ (.slice none 0 0)).setCell ⟨w.heap.size + 1, 1, none⟩ (.int .i64 0)).setCell ⟨w.heap.size + 1, 2, none⟩ (.slice none 0 0)).setCell ⟨w.heap.size + 1, 3, none⟩ (.slice none 0 0) = W5 at *
    obtain ⟨d0, d1, d2, d3⟩ := G.c
    exact bodyPost_ret (v := .tuple #[.agg #[(.slice none 0 0), (.int .i64 0), (.slice none 0 0), (.slice none 0 0)], .int .i64 0, .int .i64 1]) (by simp [results, Tryz.results11, go_sem, d0, d1, d2, d3, Er.code]) rfl ⟨_, by rw [HR.out], by rw [HR.out]; exact HI, pB⟩
  | noWork =>
    have HR := hid (rk_no he)
    clear he
    go_wp2_with fail
    refine (beside_ref _ s p3 p0 p1 p2 p3 base top _ hs E1 O1).mono ?_
    rintro e w2 ⟨v2, rfl, ⟨vw, vr, vs, rfl, o1, o2, o3, _, _, _⟩, hB2⟩
    obtain ⟨x2, y2, z2, rfl⟩ := row_slice o1
    obtain ⟨x3, y3, z3, rfl⟩ := row_slice o2
    obtain ⟨x4, y4, z4, rfl⟩ := row_slice o3
    have hk1 : w.heap.size + 1 < w1.heap.size := F2.lt
    have hBs := hBB1.size
    have hlo : ∀ k, (Value.slice x2 y2 z2).ownBlock = some k → k < w2.heap.size := fun k e => (o1.lt k e).2
    obtain rfl : y3 = s.rv.length := row_len o2
    have hBa : Below w2.heap.size w2 (w2.alloc (.cells #[(.slice x2 y2 z2), (.int .i64 s.nx), (.slice x3 s.rv.length z3), (.slice x4 y4 z4)] 27)) := (Below.refl _ w2).alloc (Nat.le_refl _) _
    have FA := Four.new w2 (.slice x2 y2 z2) (.int .i64 s.nx) (.slice x3 s.rv.length z3) (.slice x4 y4 z4) 27
    replace F2 := (F2.below hB2).below hBa
    have hBB3 := below_two hBB1 hB2 hBa
    have hkn : w2.heap.size ≠ w.heap.size + 1 := fun hh => by have := hB2.size; omega
    have E3 := hE.below hBB3
    replace o1 := ownsRow_below o1 hBa
    replace o2 := ownsRow_below o2 hBa
    replace o3 := ownsRow_below o3 hBa
    go_wp2_with fail
    generalize w2.alloc (.cells #[(.slice x2 y2 z2), (.int .i64 s.nx), (.slice x3 s.rv.length z3), (.slice x4 y4 z4)] 27) = W3 at *
    generalize w2.heap.size = k2 at *
    obtain ⟨c0, c1, c2, c3⟩ := FA.c
    refine wp_region_held_drew (S := fun w' => w'.cell? ⟨k2, 0, none⟩ = some (.slice x2 y2 z2) ∧ w'.cell? ⟨k2, 1, none⟩ = some (.int .i64 s.nx) ∧ w'.cell? ⟨k2, 2, none⟩ = some (.slice x3 s.rv.length z3) ∧ w'.cell? ⟨k2, 3, none⟩ = some (.slice x4 y4 z4)) (by kernel_rfl) ?_ (fun hHeld => ?_)
    · first | go_keep | exact (((((FA.below (below_drew1 hB4)).other hkn 0 _).other hkn 1 _).other hkn 2 _).other hkn 3 _).c
    refine takeW 0 (v := ?v17) rfl (by kernel_rfl) (by kernel_rfl) (by kernel_rfl) (fun _ _ _ h => h) (by rfl) (by assumption) ?hy17 ?rest17
    case hy17 => intro w' hSw; (try dsimp only at hSw); go_simp; try with_reducible rfl
    try simp only [Act.put, List.setIfInBounds_toArray, List.set_cons_zero, List.set_cons_succ]
    refine takeW 1 (v := ?v18) rfl (by kernel_rfl) (by kernel_rfl) (by kernel_rfl) (fun _ _ _ h => h) (by rfl) (by assumption) ?hy18 ?rest18
    case hy18 => intro w' hSw; (try dsimp only at hSw); go_simp; try with_reducible rfl
    try simp only [Act.put, List.setIfInBounds_toArray, List.set_cons_zero, List.set_cons_succ]
    refine takeW 2 (v := ?v19) rfl (by kernel_rfl) (by kernel_rfl) (by kernel_rfl) (fun _ _ _ h => h) (by rfl) (by assumption) ?hy19 ?rest19
    case hy19 => intro w' hSw; (try dsimp only at hSw); go_simp; try with_reducible rfl
    try simp only [Act.put, List.setIfInBounds_toArray, List.set_cons_zero, List.set_cons_succ]
    refine takeW 3 (v := ?v20) rfl (by kernel_rfl) (by kernel_rfl) (by kernel_rfl) (fun _ _ _ h => h) (by rfl) (by assumption) ?hy20 ?rest20
    case hy20 => intro w' hSw; (try dsimp only at hSw); go_simp; try with_reducible rfl
    try simp only [Act.put, List.setIfInBounds_toArray, List.set_cons_zero, List.set_cons_succ]
    refine takeW 4 (v := ?v21) rfl (by kernel_rfl) (by kernel_rfl) (by kernel_rfl) (fun _ _ _ h => h) (by rfl) (by assumption) ?hy21 ?rest21
    case hy21 => intro w' hSw; (try dsimp only at hSw); go_simp; try with_reducible rfl
    try simp only [Act.put, List.setIfInBounds_toArray, List.set_cons_zero, List.set_cons_succ]
    refine takeC 5 (by kernel_rfl) rfl (fun K hK => ?_)
    go_simp
    refine (codeOf_any .noWork p0 p1 p2 p3 _ (fun hh => by cases hh) (by exact E3.below (Below.refl _ _).drew)).mono ?_; rintro e w4 ⟨rfl, hB4⟩; have hc4 := fun o => hB4.cell (p := ⟨k2, o, none⟩) (by exact FA.lt); have G2 : Four w4 _ _ _ _ _ _ := F2.below (below_drew1 hB4); have hBB4 := below_one hBB3 (below_drew1 hB4); obtain ⟨r0, r1, r2, r3⟩ := G2.c; have f0 := G2.f 0; have f1 := G2.f 1; have f2 := G2.f 2; have f3 := G2.f 3
    refine hK.out _ _ ?_ (fun hHeld => ?_)
    · first | go_keep | exact (((((FA.below (below_drew1 hB4)).other hkn 0 _).other hkn 1 _).other hkn 2 _).other hkn 3 _).c
    clear hK K
    try simp only [Act.put, List.setIfInBounds_toArray, List.set_cons_zero, List.set_cons_succ]
    refine takeC 6 (by kernel_rfl) rfl (fun K hK => ?_)
    go_simp
    skip
    refine hK.out _ _ ?_ (fun hHeld => ?_)
    · first | go_keep | exact (((((FA.below (below_drew1 hB4)).other hkn 0 _).other hkn 1 _).other hkn 2 _).other hkn 3 _).c
    clear hK K
    try simp only [Act.put, List.setIfInBounds_toArray, List.set_cons_zero, List.set_cons_succ]
    refine takeW 7 (v := ?v22) rfl (by kernel_rfl) (by kernel_rfl) (by kernel_rfl) (fun _ _ _ h => h) (by rfl) (by assumption) ?hy22 ?rest22
    case hy22 => intro w' hSw; (try dsimp only at hSw); go_simp; try with_reducible rfl
    try simp only [Act.put, List.setIfInBounds_toArray, List.set_cons_zero, List.set_cons_succ]
    refine takeW 8 (v := ?v23) rfl (by kernel_rfl) (by kernel_rfl) (by kernel_rfl) (fun _ _ _ h => h) (by rfl) (by assumption) ?hy23 ?rest23
    case hy23 => intro w' hSw; (try dsimp only at hSw); go_simp; try with_reducible rfl
    try simp only [Act.put, List.setIfInBounds_toArray, List.set_cons_zero, List.set_cons_succ]
    refine wpAnyH_done (by kernel_rfl) ?_ _
    have G := (((G2.s0 (.slice x2 y2 z2)).s1 (.int .i64 s.nx)).s2 (.slice x3 s.rv.length z3)).s3 (.slice x4 y4 z4)
    have pB := below_four hBB4 (k := w.heap.size + 1) (by omega) (.slice x2 y2 z2) (.int .i64 s.nx) (.slice x3 s.rv.length z3) (.slice x4 y4 z4)
    have q1 := row_four (ownsRow_below o1 (below_drew1 hB4)) (k := w.heap.size + 1) hk1 (.slice x2 y2 z2) (.int .i64 s.nx) (.slice x3 s.rv.length z3) (.slice x4 y4 z4)
    have q2 := row_four (ownsRow_below o2 (below_drew1 hB4)) (k := w.heap.size + 1) hk1 (.slice x2 y2 z2) (.int .i64 s.nx) (.slice x3 s.rv.length z3) (.slice x4 y4 z4)
    have q3 := row_four (ownsRow_below o3 (below_drew1 hB4)) (k := w.heap.size + 1) hk1 (.slice x2 y2 z2) (.int .i64 s.nx) (.slice x3 s.rv.length z3) (.slice x4 y4 z4)
    have HI := IsO.of (s := s) (Go.Joins.ownsRow_le q1 hBs) (Go.Joins.ownsRow_le q2 hBs) (Go.Joins.ownsRow_le q3 hBs)
    go_wp2_with fail
    clear r0 r1 r2 r3 f0 f1 f2 f3 hHeld hc4
    generalize (((w4.setCell ⟨w.heap.size + 1, 0, none⟩ (.slice x2 y2 z2)).setCell ⟨w.heap.size + 1, 1, none⟩ (.int .i64 s.nx)).setCell ⟨w.heap.size + 1, 2, none⟩ (.slice x3 s.rv.length z3)).setCell ⟨w.heap.size + 1, 3, none⟩ (.slice x4 y4 z4) = W5 at *
    obtain ⟨d0, d1, d2, d3⟩ := G.c
    exact bodyPost_ret (v := .tuple #[.agg #[(.slice x2 y2 z2), (.int .i64 s.nx), (.slice x3 s.rv.length z3), (.slice x4 y4 z4)], .int .i64 (s.rv.length : Int), .int .i64 3]) (by simp [results, Tryz.results11, go_sem, d0, d1, d2, d3, Er.code]) rfl ⟨_, by rw [HR.out], by rw [HR.out]; exact HI, pB⟩
  | nil =>
    obtain ⟨hg, hg2, hli⟩ := rk_nil he
    have hlt := hasW_lt (livW_has hli)
    have HX := hid (rk_at hg hg2 hli hlt)
    have hh := livW_has hli
    have hlen := (isB_hd hg).1
    clear he hg hg2 hli
    go_wp2_with fail
    refine (beside_nil _ s base top _ hs O1).mono ?_
    rintro e w2 ⟨v2, rfl, ⟨vw, vr, vs, rfl, o1, o2, o3, _, _, _⟩, hB2⟩
    obtain ⟨x2, y2, z2, rfl⟩ := row_slice o1
    obtain ⟨x3, y3, z3, rfl⟩ := row_slice o2
    obtain ⟨x4, y4, z4, rfl⟩ := row_slice o3
    have hk1 : w.heap.size + 1 < w1.heap.size := F2.lt
    have hBs := hBB1.size
    have hlo : ∀ k, (Value.slice x2 y2 z2).ownBlock = some k → k < w2.heap.size := fun k e => (o1.lt k e).2
    obtain rfl : y3 = s.rv.length := row_len o2
    have hBa : Below w2.heap.size w2 (w2.alloc (.cells #[(.slice x2 y2 z2), (.int .i64 s.nx), (.slice x3 s.rv.length z3), (.slice x4 y4 z4)] 27)) := (Below.refl _ w2).alloc (Nat.le_refl _) _
    have FA := Four.new w2 (.slice x2 y2 z2) (.int .i64 s.nx) (.slice x3 s.rv.length z3) (.slice x4 y4 z4) 27
    replace F2 := (F2.below hB2).below hBa
    have hBB3 := below_two hBB1 hB2 hBa
    have hkn : w2.heap.size ≠ w.heap.size + 1 := fun hh => by have := hB2.size; omega
    have E3 := hE.below hBB3
    replace o1 := ownsRow_below o1 hBa
    replace o2 := ownsRow_below o2 hBa
    replace o3 := ownsRow_below o3 hBa
    obtain rfl : y2 = s.ws.length := row_len o1
    have hbs1 : w1.heap.size ≤ w2.heap.size := hB2.size
    go_wp2_with fail
    generalize w2.alloc (.cells #[(.slice x2 s.ws.length z2), (.int .i64 s.nx), (.slice x3 s.rv.length z3), (.slice x4 y4 z4)] 27) = W3 at *
    generalize w2.heap.size = k2 at *
    obtain ⟨c0, c1, c2, c3⟩ := FA.c
    refine (placeW_any _ s.ws name _ (by have := hs.1; omega) (WkS.own o1)).mono ?_
    rintro e w4 ⟨rfl, hB4⟩
    replace o1 := ownsRow_below o1 hB4
    replace o2 := ownsRow_below o2 hB4
    replace o3 := ownsRow_below o3 hB4
    replace FA := FA.below hB4
    replace F2 := F2.below hB4
    have hBB4 := below_one hBB3 hB4
    have hla := FA.lt
    clear hB4 hBa hBB3 E3 c0 c1 c2 c3
    rw [hh]
    clear hh
    obtain ⟨c0, c1, c2, c3⟩ := FA.c
    obtain ⟨g5, hg5⟩ : ∃ g, x2 = some ⟨g, 0, none⟩ := by
      rcases row_form o1 with ⟨_, h0⟩ | ⟨g, z, hv, _, _⟩
      · omega
      · injection hv with hv _ _
        exact ⟨g, hv⟩
    subst hg5
    have hg5b : w1.heap.size ≤ g5 := (o1.lt g5 rfl).1
    have hd1 : k2 ≠ g5 := fun e => row_apart FA o1 (by decide) k2 rfl (by rw [e]; rfl)
    have hd2 : g5 ≠ k2 := fun e => hd1 e.symm
    have hd3 : w.heap.size + 1 ≠ g5 := fun e => row_apart F2 o1 (by decide) (w.heap.size + 1) rfl (by rw [e]; rfl)
    have hd4 : g5 ≠ w.heap.size + 1 := fun e => hd3 e.symm
    have hd5 : w.heap.size + 1 ≠ k2 := fun e => hkn e.symm
    have HW := hid (wflat_live s.ws (atW s.ws name) hlt)
    have hcell := wflat_at s.ws (atW s.ws name) 2 hlt (by omega)
    simp only [List.getElem?_cons_succ, List.getElem?_cons_zero] at hcell
    obtain ⟨ze, HZ⟩ : ∃ z, Hid (z = s.ws[atW s.ws name].se) := ⟨_, hid rfl⟩
    obtain ⟨ne, HNE⟩ : ∃ z, Hid (z = s.ws[atW s.ws name].name) := ⟨_, hid rfl⟩
    rw [← HZ.out] at hcell
    replace HX := hid (HX.out)
    have HX2 := hid (show rkX s name = (⟨s.ws.set (atW s.ws name) ⟨ne, false, ze⟩, s.nx, rvN s.rv ze, s.sg⟩, ((rvN s.rv ze).length : Int), 0) by rw [HX.out, HZ.out, HNE.out])
    replace HW := hid (show (s.ws.flatMap Wk.cells).set (atW s.ws name * 3 + 1) (.bool false) = (s.ws.set (atW s.ws name) ⟨ne, false, ze⟩).flatMap Wk.cells by rw [HW.out, HZ.out, HNE.out])
    clear HX HZ HNE
    generalize atW s.ws name = n at *
    have hl5 := o1.1
    have s1 := o1.cellAt (n * 3 + 1) (by omega)
    rw [List.getElem?_eq_getElem (by omega)] at s1
    have s2 := (o1.cellAt (n * 3 + 2) (by omega)).trans hcell
    have t1 := o1.frozenAt (n * 3 + 1)
    have Q1 := o1.stored (n * 3 + 1) (.bool false)
    have hG := Q1.2
    have e2 := (Q1.1.cellAt (n * 3 + 2) (by omega)).trans ((List.getElem?_set_ne (by omega)).trans hcell)
    replace FA : Four (w4.setCell ⟨g5, n * 3 + 1, none⟩ (.bool false)) _ _ _ _ _ _ := World.ownsRow.kept FA hG (.inr (by simp [Value.ownBlock]; exact hd1))
    replace F2 : Four (w4.setCell ⟨g5, n * 3 + 1, none⟩ (.bool false)) _ _ _ _ _ _ := World.ownsRow.kept F2 hG (.inr (by simp [Value.ownBlock]; exact hd3))
    replace o2 := kept_apart (v2 := (.slice (some ⟨g5, 0, none⟩) s.ws.length z2)) o2 hG (row_apart o2 o1 (by decide))
    replace o3 := kept_apart (v2 := (.slice (some ⟨g5, 0, none⟩) s.ws.length z2)) o3 hG (row_apart o3 o1 (by decide))
    have hBB := hBB4.grown hG hBB4.size (fun k e => by simp at e; omega)
    have o6 := Q1.1
    rw [HW.out] at o6
    have HL := hid (show s.ws.length = (s.ws.set n ⟨ne, false, ze⟩).length by simp)
    have hin : (n : Int) < (s.ws.length : Int) := by omega
    clear Q1 hG o1 hBB4 hcell
    have o1 := o6
    clear o6
    obtain ⟨e0, e1, e22, e3⟩ := FA.c
    go_wp2_with fail
    clear c0 c1 c2 c3 s1 s2 t1 e2 e0 e1 e22 e3
    generalize (w4.setCell ⟨g5, n * 3 + 1, none⟩ (.bool false)) = W4 at *
    refine (placeN_any _ s.rv ze _ (by have := hs.2.1; omega) (VS.ownN o2)).mono ?_
    rintro e w5 ⟨rfl, rfl⟩
    have hle := atN_le s.rv ze
    by_cases hins : (ze != 0 && !(hasN s.rv ze)) = true
    · have HR := hid (show rvN s.rv ze = s.rv.take (atN s.rv ze) ++ ze :: s.rv.drop (atN s.rv ze) by unfold rvN insN; rw [if_pos hins])
      obtain ⟨hz0, hz1⟩ : (ze != 0) = true ∧ hasN s.rv ze = false := by simpa using hins
      clear hins
      rw [hz1]
      clear hz1
      generalize atN s.rv ze = m at *
      obtain ⟨c0, c1, c2, c3⟩ := FA.c
      have hzw : (w5.alloc (.cells #[.int .i64 ze] 3)).heap[w5.heap.size]? = some (.cells [Value.int .i64 ze].toArray 3 (0, 0)) := by show (w5.heap.push _)[w5.heap.size]? = _; rw [Array.getElem?_push_size]
      have hBv : Below w5.heap.size w5 (w5.alloc (.cells #[.int .i64 ze] 3)) := (Below.refl _ w5).alloc (Nat.le_refl _) _
      have hob : (Value.slice x3 s.rv.length z3).ownBlock ≠ some w5.heap.size := fun e => by have := (o2.lt _ e).2; omega
      have hbv : w1.heap.size ≤ (w5.alloc (.cells #[.int .i64 ze] 3)).heap.size := by have := hBB.size; have := hBv.size; have := (o1.lt g5 rfl).2; simp; omega
      have hlo3 : ∀ k, (Value.slice x3 s.rv.length z3).ownBlock = some k → k ≠ k2 := fun k e1 e2 => row_apart FA o2 (by decide) k2 rfl (by rw [e1, e2])
      have hlo4 : ∀ k, (Value.slice x3 s.rv.length z3).ownBlock = some k → k ≠ w.heap.size + 1 := fun k e1 e2 => row_apart F2 o2 (by decide) (w.heap.size + 1) rfl (by rw [e1, e2])
      replace o1 := ownsRow_below o1 hBv
      replace o2 := ownsRow_below o2 hBv
      replace o3 := ownsRow_below o3 hBv
      replace FA := FA.below hBv
      replace F2 := F2.below hBv
      replace hBB := below_one hBB hBv
      go_wp2_with fail
      generalize w5.alloc (.cells #[.int .i64 ze] 3) = W5 at *
      refine (insert_n w1.heap.size s.rv.length m w5.heap.size _ _ [Value.int .i64 ze] _ (by have := hs.2.1; omega) hle hbv rfl one_n (by intro u hu; simp at hu; rw [hu]; rfl) hzw hob o2).mono ?_
      rintro e w6 ⟨v6, rfl, o6, hg6⟩
      obtain ⟨x7, y7, z7, rfl⟩ := row_slice o6
      obtain rfl : y7 = s.rv.length + 1 := row_len o6
      replace o1 := kept_apart o1 hg6 (row_apart o1 o2 (by decide))
      replace o3 := kept_apart o3 hg6 (row_apart o3 o2 (by decide))
      replace FA : Four w6 _ _ _ _ _ _ := kept_apart FA hg6 (fun k e1 e2 => by simp [Value.ownBlock] at e1; exact hlo3 k e2 e1.symm)
      replace F2 : Four w6 _ _ _ _ _ _ := kept_apart F2 hg6 (fun k e1 e2 => by simp [Value.ownBlock] at e1; exact hlo4 k e2 e1.symm)
      replace hBB := hBB.grown hg6 hBB.size (fun k e => by have := (o2.lt k e).1; omega)
      clear o2 hg6 hzw hob hbv hBv c0 c1 c2 c3 hlo3 hlo4
      have o2 := o6
      clear o6
      rw [nput] at o2
      have HL2 := hid (show s.rv.length + 1 = (s.rv.take m ++ ze :: s.rv.drop m).length by simp; omega)
      obtain ⟨c0, c1, c2, c3⟩ := FA.c
      have cf := FA.f 2
      have FA0 := FA
      replace FA := FA.s2 (.slice x7 (s.rv.length + 1) z7)
      replace F2 := F2.other (k' := k2) hd5 2 (.slice x7 (s.rv.length + 1) z7)
      replace o1 := ownsRow_setCell_other o1 (a := ⟨k2, 2, none⟩) (by simp [Value.ownBlock]; exact hd2) (.slice x7 (s.rv.length + 1) z7)
      replace o3 := ownsRow_setCell_other o3 (a := ⟨k2, 2, none⟩) (fun e => row_apart o3 FA0 (by decide) k2 e rfl) (.slice x7 (s.rv.length + 1) z7)
      replace o2 := ownsRow_setCell_other o2 (a := ⟨k2, 2, none⟩) (fun e => row_apart o2 FA0 (by decide) k2 e rfl) (.slice x7 (s.rv.length + 1) z7)
      replace hBB := hBB.setCell (p := ⟨k2, 2, none⟩) (by simp; omega) (.slice x7 (s.rv.length + 1) z7)
      go_wp2_with fail
      clear c0 c1 c2 c3 cf
      have HX3 := hid (show rkX s name = (⟨s.ws.set n ⟨ne, false, ze⟩, s.nx, s.rv.take m ++ ze :: s.rv.drop m, s.sg⟩, ((s.rv.length + 1 : Nat) : Int), 0) by rw [HX2.out, HR.out, ← HL2.out])
      clear HX2 HR
      generalize w6.setCell ⟨k2, 2, none⟩ (.slice x7 (s.rv.length + 1) z7) = W6 at *

      have hBd : Below (W6).heap.size (W6) (W6).drew := (Below.refl _ _).drew
      obtain ⟨c0, c1, c2, c3⟩ := FA.c
      replace FA := FA.below hBd
      replace F2 := F2.below hBd
      replace o1 := ownsRow_below o1 hBd
      replace o2 := ownsRow_below o2 hBd
      replace o3 := ownsRow_below o3 hBd
      replace hBB := below_one hBB hBd
      clear hBd
      obtain ⟨r0, r1, r2, r3⟩ := F2.c
      have f0 := F2.f 0
      have f1 := F2.f 1
      have f2 := F2.f 2
      have f3 := F2.f 3
      refine wp_region_held_drew (S := fun w' => w'.cell? ⟨k2, 0, none⟩ = some (.slice (some ⟨g5, 0, none⟩) s.ws.length z2) ∧ w'.cell? ⟨k2, 1, none⟩ = some (.int .i64 s.nx) ∧ w'.cell? ⟨k2, 2, none⟩ = some (.slice x7 (s.rv.length + 1) z7) ∧ w'.cell? ⟨k2, 3, none⟩ = some (.slice x4 y4 z4)) (by kernel_rfl) ?_ (fun hHeld => ?_)
      · first | go_keep | exact ((((FA.other hkn 0 _).other hkn 1 _).other hkn 2 _).other hkn 3 _).c
      generalize (W6).drew = Wd at *
      refine takeW 0 (v := ?v24) rfl (by kernel_rfl) (by kernel_rfl) (by kernel_rfl) (fun _ _ _ h => h) (by rfl) (by assumption) ?hy24 ?rest24
      case hy24 => intro w' hSw; (try dsimp only at hSw); go_simp; try with_reducible rfl
      try simp only [Act.put, List.setIfInBounds_toArray, List.set_cons_zero, List.set_cons_succ]
      refine takeW 1 (v := ?v25) rfl (by kernel_rfl) (by kernel_rfl) (by kernel_rfl) (fun _ _ _ h => h) (by rfl) (by assumption) ?hy25 ?rest25
      case hy25 => intro w' hSw; (try dsimp only at hSw); go_simp; try with_reducible rfl
      try simp only [Act.put, List.setIfInBounds_toArray, List.set_cons_zero, List.set_cons_succ]
      refine takeW 2 (v := ?v26) rfl (by kernel_rfl) (by kernel_rfl) (by kernel_rfl) (fun _ _ _ h => h) (by rfl) (by assumption) ?hy26 ?rest26
      case hy26 => intro w' hSw; (try dsimp only at hSw); go_simp; try with_reducible rfl
      try simp only [Act.put, List.setIfInBounds_toArray, List.set_cons_zero, List.set_cons_succ]
      refine takeW 3 (v := ?v27) rfl (by kernel_rfl) (by kernel_rfl) (by kernel_rfl) (fun _ _ _ h => h) (by rfl) (by assumption) ?hy27 ?rest27
      case hy27 => intro w' hSw; (try dsimp only at hSw); go_simp; try with_reducible rfl
      try simp only [Act.put, List.setIfInBounds_toArray, List.set_cons_zero, List.set_cons_succ]
      refine takeC 4 (by kernel_rfl) rfl (fun K hK => ?_)
      go_simp
      skip
      refine hK.out _ _ ?_ (fun hHeld => ?_)
      · first | go_keep | exact ((((FA.other hkn 0 _).other hkn 1 _).other hkn 2 _).other hkn 3 _).c
      clear hK K
      try simp only [Act.put, List.setIfInBounds_toArray, List.set_cons_zero, List.set_cons_succ]
      refine takeW 5 (v := ?v28) rfl (by kernel_rfl) (by kernel_rfl) (by kernel_rfl) (fun _ _ _ h => h) (by rfl) (by assumption) ?hy28 ?rest28
      case hy28 => intro w' hSw; (try dsimp only at hSw); go_simp; try with_reducible rfl
      try simp only [Act.put, List.setIfInBounds_toArray, List.set_cons_zero, List.set_cons_succ]
      refine takeW 6 (v := ?v29) rfl (by kernel_rfl) (by kernel_rfl) (by kernel_rfl) (fun _ _ _ h => h) (by rfl) (by assumption) ?hy29 ?rest29
      case hy29 => intro w' hSw; (try dsimp only at hSw); go_simp; try with_reducible rfl
      try simp only [Act.put, List.setIfInBounds_toArray, List.set_cons_zero, List.set_cons_succ]
      refine wpAnyH_done (by kernel_rfl) ?_ _
      have G := (((F2.s0 (.slice (some ⟨g5, 0, none⟩) s.ws.length z2)).s1 (.int .i64 s.nx)).s2 (.slice x7 (s.rv.length + 1) z7)).s3 (.slice x4 y4 z4)
      have pB := below_four hBB (k := w.heap.size + 1) (by omega) (.slice (some ⟨g5, 0, none⟩) s.ws.length z2) (.int .i64 s.nx) (.slice x7 (s.rv.length + 1) z7) (.slice x4 y4 z4)
      have q1 := row_four o1 (k := w.heap.size + 1) hk1 (.slice (some ⟨g5, 0, none⟩) s.ws.length z2) (.int .i64 s.nx) (.slice x7 (s.rv.length + 1) z7) (.slice x4 y4 z4)
      have q2 := row_four o2 (k := w.heap.size + 1) hk1 (.slice (some ⟨g5, 0, none⟩) s.ws.length z2) (.int .i64 s.nx) (.slice x7 (s.rv.length + 1) z7) (.slice x4 y4 z4)
      have q3 := row_four o3 (k := w.heap.size + 1) hk1 (.slice (some ⟨g5, 0, none⟩) s.ws.length z2) (.int .i64 s.nx) (.slice x7 (s.rv.length + 1) z7) (.slice x4 y4 z4)
      go_wp2_with fail
      clear r0 r1 r2 r3 f0 f1 f2 f3 c0 c1 c2 c3 hHeld
      generalize (((Wd.setCell ⟨w.heap.size + 1, 0, none⟩ (.slice (some ⟨g5, 0, none⟩) s.ws.length z2)).setCell ⟨w.heap.size + 1, 1, none⟩ (.int .i64 s.nx)).setCell ⟨w.heap.size + 1, 2, none⟩ (.slice x7 (s.rv.length + 1) z7)).setCell ⟨w.heap.size + 1, 3, none⟩ (.slice x4 y4 z4) = W5 at *
      obtain ⟨d0, d1, d2, d3⟩ := G.c
      exact bodyPost_ret (v := .tuple #[.agg #[(.slice (some ⟨g5, 0, none⟩) s.ws.length z2), (.int .i64 s.nx), (.slice x7 (s.rv.length + 1) z7), (.slice x4 y4 z4)], .int .i64 ((s.rv.length + 1 : Nat) : Int), .int .i64 0]) (by simp [results, Tryz.results11, go_sem, d0, d1, d2, d3]) rfl ⟨_, by rw [HX3.out], by rw [HX3.out]; exact IsO.of (s := ⟨s.ws.set n ⟨ne, false, ze⟩, s.nx, s.rv.take m ++ ze :: s.rv.drop m, s.sg⟩) (Go.Joins.ownsRow_le (row_cast q1 HL.out) hBs) (Go.Joins.ownsRow_le (row_cast q2 HL2.out) hBs) (Go.Joins.ownsRow_le q3 hBs), pB⟩
    · have HR := hid (show rvN s.rv ze = s.rv by unfold rvN; rw [if_neg hins])
      have HX3 := hid (show rkX s name = (⟨s.ws.set n ⟨ne, false, ze⟩, s.nx, s.rv, s.sg⟩, (s.rv.length : Int), 0) by rw [HX2.out, HR.out])
      clear HX2 HR
      have hins2 : (ze != 0 && !(hasN s.rv ze)) = false := by simpa using hins
      clear hins
      generalize atN s.rv ze = m at *
      generalize hasN s.rv ze = hb at *
      cases hz0 : (ze != 0)
      · clear hins2
        obtain ⟨c0, c1, c2, c3⟩ := FA.c
        go_wp2_with fail
        clear c0 c1 c2 c3
        have hBd : Below (w5).heap.size (w5) (w5).drew := (Below.refl _ _).drew
        obtain ⟨c0, c1, c2, c3⟩ := FA.c
        replace FA := FA.below hBd
        replace F2 := F2.below hBd
        replace o1 := ownsRow_below o1 hBd
        replace o2 := ownsRow_below o2 hBd
        replace o3 := ownsRow_below o3 hBd
        replace hBB := below_one hBB hBd
        clear hBd
        obtain ⟨r0, r1, r2, r3⟩ := F2.c
        have f0 := F2.f 0
        have f1 := F2.f 1
        have f2 := F2.f 2
        have f3 := F2.f 3
        refine wp_region_held_drew (S := fun w' => w'.cell? ⟨k2, 0, none⟩ = some (.slice (some ⟨g5, 0, none⟩) s.ws.length z2) ∧ w'.cell? ⟨k2, 1, none⟩ = some (.int .i64 s.nx) ∧ w'.cell? ⟨k2, 2, none⟩ = some (.slice x3 s.rv.length z3) ∧ w'.cell? ⟨k2, 3, none⟩ = some (.slice x4 y4 z4)) (by kernel_rfl) ?_ (fun hHeld => ?_)
        · first | go_keep | exact ((((FA.other hkn 0 _).other hkn 1 _).other hkn 2 _).other hkn 3 _).c
        generalize (w5).drew = Wd at *
        refine takeW 0 (v := ?v30) rfl (by kernel_rfl) (by kernel_rfl) (by kernel_rfl) (fun _ _ _ h => h) (by rfl) (by assumption) ?hy30 ?rest30
        case hy30 => intro w' hSw; (try dsimp only at hSw); go_simp; try with_reducible rfl
        try simp only [Act.put, List.setIfInBounds_toArray, List.set_cons_zero, List.set_cons_succ]
        refine takeW 1 (v := ?v31) rfl (by kernel_rfl) (by kernel_rfl) (by kernel_rfl) (fun _ _ _ h => h) (by rfl) (by assumption) ?hy31 ?rest31
        case hy31 => intro w' hSw; (try dsimp only at hSw); go_simp; try with_reducible rfl
        try simp only [Act.put, List.setIfInBounds_toArray, List.set_cons_zero, List.set_cons_succ]
        refine takeW 2 (v := ?v32) rfl (by kernel_rfl) (by kernel_rfl) (by kernel_rfl) (fun _ _ _ h => h) (by rfl) (by assumption) ?hy32 ?rest32
        case hy32 => intro w' hSw; (try dsimp only at hSw); go_simp; try with_reducible rfl
        try simp only [Act.put, List.setIfInBounds_toArray, List.set_cons_zero, List.set_cons_succ]
        refine takeW 3 (v := ?v33) rfl (by kernel_rfl) (by kernel_rfl) (by kernel_rfl) (fun _ _ _ h => h) (by rfl) (by assumption) ?hy33 ?rest33
        case hy33 => intro w' hSw; (try dsimp only at hSw); go_simp; try with_reducible rfl
        try simp only [Act.put, List.setIfInBounds_toArray, List.set_cons_zero, List.set_cons_succ]
        refine takeC 4 (by kernel_rfl) rfl (fun K hK => ?_)
        go_simp
        skip
        refine hK.out _ _ ?_ (fun hHeld => ?_)
        · first | go_keep | exact ((((FA.other hkn 0 _).other hkn 1 _).other hkn 2 _).other hkn 3 _).c
        clear hK K
        try simp only [Act.put, List.setIfInBounds_toArray, List.set_cons_zero, List.set_cons_succ]
        refine takeW 5 (v := ?v34) rfl (by kernel_rfl) (by kernel_rfl) (by kernel_rfl) (fun _ _ _ h => h) (by rfl) (by assumption) ?hy34 ?rest34
        case hy34 => intro w' hSw; (try dsimp only at hSw); go_simp; try with_reducible rfl
        try simp only [Act.put, List.setIfInBounds_toArray, List.set_cons_zero, List.set_cons_succ]
        refine takeW 6 (v := ?v35) rfl (by kernel_rfl) (by kernel_rfl) (by kernel_rfl) (fun _ _ _ h => h) (by rfl) (by assumption) ?hy35 ?rest35
        case hy35 => intro w' hSw; (try dsimp only at hSw); go_simp; try with_reducible rfl
        try simp only [Act.put, List.setIfInBounds_toArray, List.set_cons_zero, List.set_cons_succ]
        refine wpAnyH_done (by kernel_rfl) ?_ _
        have G := (((F2.s0 (.slice (some ⟨g5, 0, none⟩) s.ws.length z2)).s1 (.int .i64 s.nx)).s2 (.slice x3 s.rv.length z3)).s3 (.slice x4 y4 z4)
        have pB := below_four hBB (k := w.heap.size + 1) (by omega) (.slice (some ⟨g5, 0, none⟩) s.ws.length z2) (.int .i64 s.nx) (.slice x3 s.rv.length z3) (.slice x4 y4 z4)
        have q1 := row_four o1 (k := w.heap.size + 1) hk1 (.slice (some ⟨g5, 0, none⟩) s.ws.length z2) (.int .i64 s.nx) (.slice x3 s.rv.length z3) (.slice x4 y4 z4)
        have q2 := row_four o2 (k := w.heap.size + 1) hk1 (.slice (some ⟨g5, 0, none⟩) s.ws.length z2) (.int .i64 s.nx) (.slice x3 s.rv.length z3) (.slice x4 y4 z4)
        have q3 := row_four o3 (k := w.heap.size + 1) hk1 (.slice (some ⟨g5, 0, none⟩) s.ws.length z2) (.int .i64 s.nx) (.slice x3 s.rv.length z3) (.slice x4 y4 z4)
        go_wp2_with fail
        clear r0 r1 r2 r3 f0 f1 f2 f3 c0 c1 c2 c3 hHeld
        generalize (((Wd.setCell ⟨w.heap.size + 1, 0, none⟩ (.slice (some ⟨g5, 0, none⟩) s.ws.length z2)).setCell ⟨w.heap.size + 1, 1, none⟩ (.int .i64 s.nx)).setCell ⟨w.heap.size + 1, 2, none⟩ (.slice x3 s.rv.length z3)).setCell ⟨w.heap.size + 1, 3, none⟩ (.slice x4 y4 z4) = W5 at *
        obtain ⟨d0, d1, d2, d3⟩ := G.c
        exact bodyPost_ret (v := .tuple #[.agg #[(.slice (some ⟨g5, 0, none⟩) s.ws.length z2), (.int .i64 s.nx), (.slice x3 s.rv.length z3), (.slice x4 y4 z4)], .int .i64 (s.rv.length : Int), .int .i64 0]) (by simp [results, Tryz.results11, go_sem, d0, d1, d2, d3]) rfl ⟨_, by rw [HX3.out], by rw [HX3.out]; exact IsO.of (s := ⟨s.ws.set n ⟨ne, false, ze⟩, s.nx, s.rv, s.sg⟩) (Go.Joins.ownsRow_le (row_cast q1 HL.out) hBs) (Go.Joins.ownsRow_le q2 hBs) (Go.Joins.ownsRow_le q3 hBs), pB⟩
      · rw [hz0] at hins2
        cases hb
        · simp at hins2
        · clear hins2
          obtain ⟨c0, c1, c2, c3⟩ := FA.c
          go_wp2_with fail
          clear c0 c1 c2 c3
          have hBd : Below (w5).heap.size (w5) (w5).drew := (Below.refl _ _).drew
          obtain ⟨c0, c1, c2, c3⟩ := FA.c
          replace FA := FA.below hBd
          replace F2 := F2.below hBd
          replace o1 := ownsRow_below o1 hBd
          replace o2 := ownsRow_below o2 hBd
          replace o3 := ownsRow_below o3 hBd
          replace hBB := below_one hBB hBd
          clear hBd
          obtain ⟨r0, r1, r2, r3⟩ := F2.c
          have f0 := F2.f 0
          have f1 := F2.f 1
          have f2 := F2.f 2
          have f3 := F2.f 3
          refine wp_region_held_drew (S := fun w' => w'.cell? ⟨k2, 0, none⟩ = some (.slice (some ⟨g5, 0, none⟩) s.ws.length z2) ∧ w'.cell? ⟨k2, 1, none⟩ = some (.int .i64 s.nx) ∧ w'.cell? ⟨k2, 2, none⟩ = some (.slice x3 s.rv.length z3) ∧ w'.cell? ⟨k2, 3, none⟩ = some (.slice x4 y4 z4)) (by kernel_rfl) ?_ (fun hHeld => ?_)
          · first | go_keep | exact ((((FA.other hkn 0 _).other hkn 1 _).other hkn 2 _).other hkn 3 _).c
          generalize (w5).drew = Wd at *
          refine takeW 0 (v := ?v36) rfl (by kernel_rfl) (by kernel_rfl) (by kernel_rfl) (fun _ _ _ h => h) (by rfl) (by assumption) ?hy36 ?rest36
          case hy36 => intro w' hSw; (try dsimp only at hSw); go_simp; try with_reducible rfl
          try simp only [Act.put, List.setIfInBounds_toArray, List.set_cons_zero, List.set_cons_succ]
          refine takeW 1 (v := ?v37) rfl (by kernel_rfl) (by kernel_rfl) (by kernel_rfl) (fun _ _ _ h => h) (by rfl) (by assumption) ?hy37 ?rest37
          case hy37 => intro w' hSw; (try dsimp only at hSw); go_simp; try with_reducible rfl
          try simp only [Act.put, List.setIfInBounds_toArray, List.set_cons_zero, List.set_cons_succ]
          refine takeW 2 (v := ?v38) rfl (by kernel_rfl) (by kernel_rfl) (by kernel_rfl) (fun _ _ _ h => h) (by rfl) (by assumption) ?hy38 ?rest38
          case hy38 => intro w' hSw; (try dsimp only at hSw); go_simp; try with_reducible rfl
          try simp only [Act.put, List.setIfInBounds_toArray, List.set_cons_zero, List.set_cons_succ]
          refine takeW 3 (v := ?v39) rfl (by kernel_rfl) (by kernel_rfl) (by kernel_rfl) (fun _ _ _ h => h) (by rfl) (by assumption) ?hy39 ?rest39
          case hy39 => intro w' hSw; (try dsimp only at hSw); go_simp; try with_reducible rfl
          try simp only [Act.put, List.setIfInBounds_toArray, List.set_cons_zero, List.set_cons_succ]
          refine takeC 4 (by kernel_rfl) rfl (fun K hK => ?_)
          go_simp
          skip
          refine hK.out _ _ ?_ (fun hHeld => ?_)
          · first | go_keep | exact ((((FA.other hkn 0 _).other hkn 1 _).other hkn 2 _).other hkn 3 _).c
          clear hK K
          try simp only [Act.put, List.setIfInBounds_toArray, List.set_cons_zero, List.set_cons_succ]
          refine takeW 5 (v := ?v40) rfl (by kernel_rfl) (by kernel_rfl) (by kernel_rfl) (fun _ _ _ h => h) (by rfl) (by assumption) ?hy40 ?rest40
          case hy40 => intro w' hSw; (try dsimp only at hSw); go_simp; try with_reducible rfl
          try simp only [Act.put, List.setIfInBounds_toArray, List.set_cons_zero, List.set_cons_succ]
          refine takeW 6 (v := ?v41) rfl (by kernel_rfl) (by kernel_rfl) (by kernel_rfl) (fun _ _ _ h => h) (by rfl) (by assumption) ?hy41 ?rest41
          case hy41 => intro w' hSw; (try dsimp only at hSw); go_simp; try with_reducible rfl
          try simp only [Act.put, List.setIfInBounds_toArray, List.set_cons_zero, List.set_cons_succ]
          refine wpAnyH_done (by kernel_rfl) ?_ _
          have G := (((F2.s0 (.slice (some ⟨g5, 0, none⟩) s.ws.length z2)).s1 (.int .i64 s.nx)).s2 (.slice x3 s.rv.length z3)).s3 (.slice x4 y4 z4)
          have pB := below_four hBB (k := w.heap.size + 1) (by omega) (.slice (some ⟨g5, 0, none⟩) s.ws.length z2) (.int .i64 s.nx) (.slice x3 s.rv.length z3) (.slice x4 y4 z4)
          have q1 := row_four o1 (k := w.heap.size + 1) hk1 (.slice (some ⟨g5, 0, none⟩) s.ws.length z2) (.int .i64 s.nx) (.slice x3 s.rv.length z3) (.slice x4 y4 z4)
          have q2 := row_four o2 (k := w.heap.size + 1) hk1 (.slice (some ⟨g5, 0, none⟩) s.ws.length z2) (.int .i64 s.nx) (.slice x3 s.rv.length z3) (.slice x4 y4 z4)
          have q3 := row_four o3 (k := w.heap.size + 1) hk1 (.slice (some ⟨g5, 0, none⟩) s.ws.length z2) (.int .i64 s.nx) (.slice x3 s.rv.length z3) (.slice x4 y4 z4)
          go_wp2_with fail
          clear r0 r1 r2 r3 f0 f1 f2 f3 c0 c1 c2 c3 hHeld
          generalize (((Wd.setCell ⟨w.heap.size + 1, 0, none⟩ (.slice (some ⟨g5, 0, none⟩) s.ws.length z2)).setCell ⟨w.heap.size + 1, 1, none⟩ (.int .i64 s.nx)).setCell ⟨w.heap.size + 1, 2, none⟩ (.slice x3 s.rv.length z3)).setCell ⟨w.heap.size + 1, 3, none⟩ (.slice x4 y4 z4) = W5 at *
          obtain ⟨d0, d1, d2, d3⟩ := G.c
          exact bodyPost_ret (v := .tuple #[.agg #[(.slice (some ⟨g5, 0, none⟩) s.ws.length z2), (.int .i64 s.nx), (.slice x3 s.rv.length z3), (.slice x4 y4 z4)], .int .i64 (s.rv.length : Int), .int .i64 0]) (by simp [results, Tryz.results11, go_sem, d0, d1, d2, d3]) rfl ⟨_, by rw [HX3.out], by rw [HX3.out]; exact IsO.of (s := ⟨s.ws.set n ⟨ne, false, ze⟩, s.nx, s.rv, s.sg⟩) (Go.Joins.ownsRow_le (row_cast q1 HL.out) hBs) (Go.Joins.ownsRow_le q2 hBs) (Go.Joins.ownsRow_le q3 hBs), pB⟩

end Go.Proofs.YtallpldgkkpikaaGreatDoor

namespace Go.Proofs.YtallpldgkkpikaaGreatDoor
open Go.RowKit Go.Shelf

set_option maxHeartbeats 1000000 in
theorem l1Has_any (v : Value) (zs : List Int) (z : Int) (w : World) (hm : zs.length ≤ 1048577) (hr : VS w v (nums zs)) :
    Calls Tryz.prog 74 #[v, .int .i64 z] w fun e w' => e = .returned (.bool (isI zs z)) ∧ w' = w := by
  obtain ⟨a, cap, rfl⟩ := hr.numLen
  go_enter Tryz.func74, Tryz.ntmps74
  go_wp2
  go_loop [9] (fun i => ∃ n : Nat, n ≤ zs.length ∧ i = .int .i64 n ∧ isTo zs z n = false) (fun i => zs.length - (intOf i).toNat)
  case atStart => exact ⟨0, Nat.zero_le _, rfl, isTo_zero _ _⟩
  case round =>
    obtain ⟨n, hn, rfl, ht⟩ := hrel
    have HT := hid ht
    clear ht
    by_cases hlt : n < zs.length
    · obtain ⟨b, off, rfl, hb, hcap, q0⟩ := hr.num hlt
      have HS := hid (isTo_succ (z := z) hlt)
      have HY := hid (fun h => isI_yes (z := z) hlt h)
      generalize zs[n] = x at *
      cases he : (x == z)
      · have HR := hid (show isTo zs z (n + 1) = false by rw [HS.out, HT.out, he]; rfl)
        go_wp2
        exact ⟨⟨n + 1, by omega, by go_num, HR.out⟩, by simp [intOf]; omega⟩
      · have HR := hid (HY.out he)
        go_wp2
        go_ret
        exact ⟨ret_bool HR.out.symm, rfl⟩
    · obtain rfl : n = zs.length := by omega
      have HR := hid (show isI zs z = false by rw [← isI_end, HT.out])
      go_wp2
      go_ret
      exact ⟨ret_bool HR.out.symm, rfl⟩

theorem contains_isI (zs : List Int) (z : Int) : zs.contains z = isI zs z := by
  rw [Bool.eq_iff_iff]
  unfold isI
  rw [List.any_eq_true, List.contains_iff_mem]
  constructor
  · intro h
    exact ⟨z, h, by simp⟩
  · rintro ⟨x, hx, he⟩
    have : x = z := by simpa using he
    rw [← this]
    exact hx

theorem contI_any (v : Value) (zs : List Int) (z : Int) (w : World) (hm : zs.length ≤ 1048577) (hr : VS w v (nums zs)) :
    Calls Tryz.prog 63 #[v, .int .i64 z] w fun e w' => e = .returned (.bool (isI zs z)) ∧ w' = w := by
  rcases hr with ⟨a, cap, rfl, h0⟩ | ⟨b, off, cap, rfl, hb, hl, hc⟩
  · have : zs = [] := by simpa [nums] using h0
    subst this
    exact Any.slices_Contains_int_empty Tryz.lays107 a cap z w
  · have h := Any.slices_Contains_int Tryz.lays107 b off zs.length cap zs z w (Nat.le_refl _) (by omega) (fun j hj => by
      have := hc j (by rw [nums_len]; exact hj)
      rw [this]
      simp [nums, hj])
    rw [List.take_length, contains_isI] at h
    rw [nums_len]
    exact h

end Go.Proofs.YtallpldgkkpikaaGreatDoor
