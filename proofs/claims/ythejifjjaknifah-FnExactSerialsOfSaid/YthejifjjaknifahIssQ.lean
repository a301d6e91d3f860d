/-
  Chapter 4: SerialsOf, by both.
-/
import Derived.Test.YthejifjjaknifahIssS
import Derived.Test.YthejifjjaknifahIssP
namespace Go.Proofs.Ythejifjjaknifah
open Go.RowKit Go.Shelf

set_option maxHeartbeats 2000000 in
theorem specSerials_any (v : Value) (s : Is) (name : ByteArray) (w : World) (hs : s.short) (hn : s.named) (h : IsA w v s) :
    Calls Try.prog 5 #[v, .string name] w fun e w' => e = .returned (.tuple #[.int .i64 (seX s name).1, .bool (seX s name).2]) ∧ Below w.heap.size w w' := by
  obtain ⟨aw, cw, ar, cr, ag, cg, rfl⟩ := is_forms h
  have h1 : WkS w (.slice aw s.ws.length cw) s.ws := by
    obtain ⟨vw, vr, vs, he, h1, _⟩ := h.parts
    injection he with he
    have := congrArg (fun a => a[0]?) he
    simp at this
    rw [this]
    exact h1
  have hB0 : Below w.heap.size w (w.alloc (.cells #[.slice aw s.ws.length cw, .int .i64 s.nx, .slice ar s.rv.length cr, .slice ag s.sg.length cg] 32)) := (Below.refl _ w).alloc (Nat.le_refl _) _
  have F := Four.new w (.slice aw s.ws.length cw) (.int .i64 s.nx) (.slice ar s.rv.length cr) (.slice ag s.sg.length cg) 32
  go_enter Try.func5, Try.ntmps5
  go_wp2_with fail
  generalize w.alloc (.cells #[.slice aw s.ws.length cw, .int .i64 s.nx, .slice ar s.rv.length cr, .slice ag s.sg.length cg] 32) = W0 at *
  refine (specGoodIssuer_any _ s _ hs hn (h.below hB0)).mono ?_
  rintro e w1 ⟨rfl, hB1⟩
  replace F := F.below hB1
  have hBB1 := below_one hB0 hB1
  clear hB0 hB1
  obtain ⟨a0, a1, a2, a3⟩ := F.c
  cases hg : isB s
  · have HR := hid (show seX s name = (0, false) from if_pos hg)
    go_wp2_with fail
    go_ret2
    exact ⟨ret_ib (by rw [HR.out]) (by rw [HR.out]), hBB1⟩
  · have HX := hid (show seX s name = (match s.ws[atW s.ws name]? with | some x => if hasW s.ws name = true then (x.se, true) else (0, false) | none => (0, false)) by unfold seX; rw [hg]; rfl)
    clear hg
    go_wp2_with fail
    refine (l4At_any _ s name _ hs.1 (h.below hBB1)).mono ?_
    rintro e w2 ⟨rfl, hB2⟩
    replace F := F.below hB2
    have hBB2 := below_one hBB1 hB2
    clear hBB1 hB2 a0 a1 a2 a3
    obtain ⟨a0, a1, a2, a3⟩ := F.c
    cases hh : hasW s.ws name
    · have HR := hid (show seX s name = (0, false) by rw [HX.out, hh]; split <;> rfl)
      clear HX
      generalize atW s.ws name = n at *
      go_wp2_with fail
      go_ret2
      exact ⟨ret_ib (by rw [HR.out]) (by rw [HR.out]), hBB2⟩
    · have hlt := hasW_lt hh
      obtain ⟨b, off, rfl, hb, hcap, q0, q1, q2⟩ := (h1.below hBB2).at hlt
      have HR := hid (show seX s name = (s.ws[atW s.ws name].se, true) by rw [HX.out, hh, List.getElem?_eq_getElem hlt]; rfl)
      have hl2 : ((atW s.ws name : Nat) : Int) < (s.ws.length : Int) := by omega
      clear HX
      generalize s.ws[atW s.ws name] = k at *
      generalize atW s.ws name = n at *
      go_wp2_with fail
      go_ret2
      exact ⟨ret_ib (by rw [HR.out]) (by rw [HR.out]), hBB2⟩

set_option maxHeartbeats 2000000 in
theorem implSerials_any (v : Value) (s : Is) (name : ByteArray) (w : World) (hs : s.short) (hn : s.named) (h : IsA w v s) :
    Calls Try.prog 7 #[v, .string name] w fun e w' => e = .returned (.tuple #[.int .i64 (seX s name).1, .bool (seX s name).2]) ∧ Below w.heap.size w w' := by
  obtain ⟨aw, cw, ar, cr, ag, cg, rfl⟩ := is_forms h
  have h1 : WkS w (.slice aw s.ws.length cw) s.ws := by
    obtain ⟨vw, vr, vs, he, h1, _⟩ := h.parts
    injection he with he
    have := congrArg (fun a => a[0]?) he
    simp at this
    rw [this]
    exact h1
  have hB0 : Below w.heap.size w (w.alloc (.cells #[.slice aw s.ws.length cw, .int .i64 s.nx, .slice ar s.rv.length cr, .slice ag s.sg.length cg] 32)) := (Below.refl _ w).alloc (Nat.le_refl _) _
  have F := Four.new w (.slice aw s.ws.length cw) (.int .i64 s.nx) (.slice ar s.rv.length cr) (.slice ag s.sg.length cg) 32
  go_enter Try.func7, Try.ntmps7
  go_wp2_with fail
  generalize w.alloc (.cells #[.slice aw s.ws.length cw, .int .i64 s.nx, .slice ar s.rv.length cr, .slice ag s.sg.length cg] 32) = W0 at *
  refine (implGoodIssuer_any _ s _ hs hn (h.below hB0)).mono ?_
  rintro e w1 ⟨rfl, hB1⟩
  replace F := F.below hB1
  have hBB1 := below_one hB0 hB1
  clear hB0 hB1
  obtain ⟨a0, a1, a2, a3⟩ := F.c
  cases hg : isB s
  · have HR := hid (show seX s name = (0, false) from if_pos hg)
    go_wp2_with fail
    go_ret2
    exact ⟨ret_ib (by rw [HR.out]) (by rw [HR.out]), hBB1⟩
  · have HX := hid (show seX s name = (match s.ws[atW s.ws name]? with | some x => if hasW s.ws name = true then (x.se, true) else (0, false) | none => (0, false)) by unfold seX; rw [hg]; rfl)
    clear hg
    go_wp2_with fail
    refine (placeW_any _ s.ws name _ (by have := hs.1; omega) (h1.below hBB1)).mono ?_
    rintro e w2 ⟨rfl, hB2⟩
    replace F := F.below hB2
    have hBB2 := below_one hBB1 hB2
    clear hBB1 hB2 a0 a1 a2 a3
    obtain ⟨a0, a1, a2, a3⟩ := F.c
    cases hh : hasW s.ws name
    · have HR := hid (show seX s name = (0, false) by rw [HX.out, hh]; split <;> rfl)
      clear HX
      generalize atW s.ws name = n at *
      go_wp2_with fail
      go_ret2
      exact ⟨ret_ib (by rw [HR.out]) (by rw [HR.out]), hBB2⟩
    · have hlt := hasW_lt hh
      obtain ⟨b, off, rfl, hb, hcap, q0, q1, q2⟩ := (h1.below hBB2).at hlt
      have HR := hid (show seX s name = (s.ws[atW s.ws name].se, true) by rw [HX.out, hh, List.getElem?_eq_getElem hlt]; rfl)
      have hl2 : ((atW s.ws name : Nat) : Int) < (s.ws.length : Int) := by omega
      clear HX
      generalize s.ws[atW s.ws name] = k at *
      generalize atW s.ws name = n at *
      go_wp2_with fail
      go_ret2
      exact ⟨ret_ib (by rw [HR.out]) (by rw [HR.out]), hBB2⟩

end Go.Proofs.Ythejifjjaknifah
