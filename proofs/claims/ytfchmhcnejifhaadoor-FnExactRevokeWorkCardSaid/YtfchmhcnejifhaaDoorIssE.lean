/-
  Chapter 4: whether a work may be enrolled or revoked.
-/
import Derived.Test.YtfchmhcnejifhaaDoorIssP
import Derived.Test.YtfchmhcnejifhaaDoorCloI
namespace Go.Proofs.YtfchmhcnejifhaaDoor
open Go.RowKit Go.Shelf

def enE (s : Is) (n : ByteArray) : Er :=
  if (isB s && nmOk n) = false then .bad
  else if livW s.ws n = true then .twice
  else if hasW s.ws n = true then .nil
  else if s.ws.length = 20 then .full
  else .nil
def rkE (s : Is) (n : ByteArray) : Er :=
  if (isB s && nmOk n) = false then .bad
  else if livW s.ws n = true then .nil
  else .noWork
theorem ret_er {x y : Er} {p0 p1 p2 p3 : Addr} (h : y = x) : Ending.returned (x.val p0 p1 p2 p3) = .returned (y.val p0 p1 p2 p3) := by rw [h]

set_option maxHeartbeats 4000000 in
theorem mayEnrol_any (v : Value) (s : Is) (name : ByteArray) (p0 p1 p2 p3 : Addr) (w : World) (hs : s.short) (hn : s.named) (hm : name.size ≤ 1048576) (hE : ErA w p0 p1 p2 p3) (h : IsA w v s) :
    Calls Tryd.prog 24 #[v, .string name] w fun e w' => e = .returned ((enE s name).val p0 p1 p2 p3) ∧ Below w.heap.size w w' := by
  obtain ⟨aw, cw, ar, cr, ag, cg, rfl⟩ := is_forms h
  have h1 : WkS w (.slice aw s.ws.length cw) s.ws := by
    obtain ⟨vw, vr, vs, he, h1, _⟩ := h.parts
    injection he with he
    have := congrArg (fun a => a[0]?) he
    simp at this
    rw [this]
    exact h1
  have hB0 : Below w.heap.size w (w.alloc (.cells #[.slice aw s.ws.length cw, .int .i64 s.nx, .slice ar s.rv.length cr, .slice ag s.sg.length cg] 30)) := (Below.refl _ w).alloc (Nat.le_refl _) _
  have F := Four.new w (.slice aw s.ws.length cw) (.int .i64 s.nx) (.slice ar s.rv.length cr) (.slice ag s.sg.length cg) 30
  go_enter Tryd.func24, Tryd.ntmps24
  go_wp2_with fail
  generalize w.alloc (.cells #[.slice aw s.ws.length cw, .int .i64 s.nx, .slice ar s.rv.length cr, .slice ag s.sg.length cg] 30) = W0 at *
  refine (implGoodIssuer_any _ s _ hs hn (h.below hB0)).mono ?_
  rintro e w1 ⟨rfl, hB1⟩
  replace F := F.below hB1
  have hBB1 := below_one hB0 hB1
  clear hB0 hB1
  obtain ⟨a0, a1, a2, a3⟩ := F.c
  cases hg : isB s
  · have HR := hid (show enE s name = .bad by unfold enE; rw [hg]; rfl)
    have g0 := (hE.below hBB1).g0
    go_wp2_with fail
    go_ret
    exact ⟨ret_er (x := .bad) HR.out, hBB1⟩
  go_wp2_with fail
  refine (implGoodName_any name _ hm).mono ?_
  rintro e w2 ⟨rfl, hB2⟩
  replace F := F.below hB2
  have hBB2 := below_one hBB1 hB2
  clear hB2 hBB1 a0 a1 a2 a3
  obtain ⟨a0, a1, a2, a3⟩ := F.c
  cases hg2 : gnB (split name 47)
  · have HR := hid (show enE s name = .bad by unfold enE nmOk; rw [hg, hg2]; rfl)
    have g0 := (hE.below hBB2).g0
    go_wp2_with fail
    go_ret
    exact ⟨ret_er (x := .bad) HR.out, hBB2⟩
  have HX := hid (show enE s name = if livW s.ws name = true then .twice else if hasW s.ws name = true then .nil else if s.ws.length = 20 then .full else .nil by unfold enE nmOk; rw [hg, hg2]; rfl)
  clear hg hg2
  go_wp2_with fail
  refine (placeW_any _ s.ws name _ hs.1 (h1.below hBB2)).mono ?_
  rintro e w3 ⟨rfl, hB3⟩
  replace F := F.below hB3
  have hBB3 := below_one hBB2 hB3
  clear hB3 hBB2 a0 a1 a2 a3
  obtain ⟨a0, a1, a2, a3⟩ := F.c
  generalize atW s.ws name = n at *
  go_wp2_with fail
  refine (isLive_any _ s name _ hs.1 (h.below hBB3)).mono ?_
  rintro e w4 ⟨rfl, hB4⟩
  replace F := F.below hB4
  have hBB4 := below_one hBB3 hB4
  have E4 := hE.below hBB4
  have g1 := E4.g1
  have g2 := E4.g2
  clear hB4 hBB3 a0 a1 a2 a3
  obtain ⟨a0, a1, a2, a3⟩ := F.c
  cases hl : livW s.ws name
  · rw [hl] at HX
    cases hh : hasW s.ws name
    · rw [hh] at HX
      by_cases c20 : s.ws.length = 20
      · have HR := hid (show enE s name = .full by rw [HX.out, if_neg (by decide), if_neg (by decide), if_pos c20])
        have d20 : ((s.ws.length : Int) == 20) = true := by simp; omega
        go_wp2_with fail
        go_ret
        exact ⟨ret_er (x := .full) HR.out, hBB4⟩
      · have HR := hid (show enE s name = .nil by rw [HX.out, if_neg (by decide), if_neg (by decide), if_neg c20])
        have d20 : ((s.ws.length : Int) == 20) = false := by simp; omega
        go_wp2_with fail
        go_ret
        exact ⟨ret_er (x := .nil) HR.out, hBB4⟩
    · have HR := hid (show enE s name = .nil by rw [HX.out, hh]; rfl)
      go_wp2_with fail
      go_ret
      exact ⟨ret_er (x := .nil) HR.out, hBB4⟩
  · have HR := hid (show enE s name = .twice by rw [HX.out, hl]; rfl)
    go_wp2_with fail
    go_ret
    exact ⟨ret_er (x := .twice) HR.out, hBB4⟩

set_option maxHeartbeats 4000000 in
theorem mayRevoke_any (v : Value) (s : Is) (name : ByteArray) (p0 p1 p2 p3 : Addr) (w : World) (hs : s.short) (hn : s.named) (hm : name.size ≤ 1048576) (hE : ErA w p0 p1 p2 p3) (h : IsA w v s) :
    Calls Tryd.prog 40 #[v, .string name] w fun e w' => e = .returned ((rkE s name).val p0 p1 p2 p3) ∧ Below w.heap.size w w' := by
  obtain ⟨aw, cw, ar, cr, ag, cg, rfl⟩ := is_forms h
  have hB0 : Below w.heap.size w (w.alloc (.cells #[.slice aw s.ws.length cw, .int .i64 s.nx, .slice ar s.rv.length cr, .slice ag s.sg.length cg] 30)) := (Below.refl _ w).alloc (Nat.le_refl _) _
  have F := Four.new w (.slice aw s.ws.length cw) (.int .i64 s.nx) (.slice ar s.rv.length cr) (.slice ag s.sg.length cg) 30
  go_enter Tryd.func40, Tryd.ntmps40
  go_wp2_with fail
  generalize w.alloc (.cells #[.slice aw s.ws.length cw, .int .i64 s.nx, .slice ar s.rv.length cr, .slice ag s.sg.length cg] 30) = W0 at *
  refine (implGoodIssuer_any _ s _ hs hn (h.below hB0)).mono ?_
  rintro e w1 ⟨rfl, hB1⟩
  replace F := F.below hB1
  have hBB1 := below_one hB0 hB1
  clear hB0 hB1
  obtain ⟨a0, a1, a2, a3⟩ := F.c
  cases hg : isB s
  · have HR := hid (show rkE s name = .bad by unfold rkE; rw [hg]; rfl)
    have g0 := (hE.below hBB1).g0
    go_wp2_with fail
    go_ret
    exact ⟨ret_er (x := .bad) HR.out, hBB1⟩
  go_wp2_with fail
  refine (implGoodName_any name _ hm).mono ?_
  rintro e w2 ⟨rfl, hB2⟩
  replace F := F.below hB2
  have hBB2 := below_one hBB1 hB2
  clear hB2 hBB1 a0 a1 a2 a3
  obtain ⟨a0, a1, a2, a3⟩ := F.c
  cases hg2 : gnB (split name 47)
  · have HR := hid (show rkE s name = .bad by unfold rkE nmOk; rw [hg, hg2]; rfl)
    have g0 := (hE.below hBB2).g0
    go_wp2_with fail
    go_ret
    exact ⟨ret_er (x := .bad) HR.out, hBB2⟩
  have HX := hid (show rkE s name = if livW s.ws name = true then .nil else .noWork by unfold rkE nmOk; rw [hg, hg2]; rfl)
  clear hg hg2
  go_wp2_with fail
  refine (isLive_any _ s name _ hs.1 (h.below hBB2)).mono ?_
  rintro e w4 ⟨rfl, hB4⟩
  replace F := F.below hB4
  have hBB4 := below_one hBB2 hB4
  have g3 := (hE.below hBB4).g3
  cases hl : livW s.ws name
  · have HR := hid (show rkE s name = .noWork by rw [HX.out, hl]; rfl)
    go_wp2_with fail
    go_ret
    exact ⟨ret_er (x := .noWork) HR.out, hBB4⟩
  · have HR := hid (show rkE s name = .nil by rw [HX.out, hl]; rfl)
    go_wp2_with fail
    go_ret
    exact ⟨ret_er (x := .nil) HR.out, hBB4⟩

end Go.Proofs.YtfchmhcnejifhaaDoor
