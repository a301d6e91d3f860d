/-
  Chapter 3: ExtendToken, by the specification.
-/
import Derived.Test.YtallpldgkkpikaaGreatDoorJIssued2
import Derived.Test.YtallpldgkkpikaaGreatDoorJIssued1
import Derived.Shelf.SlicesE.Clone
import Derived.Test.YtallpldgkkpikaaGreatDoorJIssued0
import Derived.Laws.CopyRow
import Derived.Laws.IdiomCopy
import Derived.Lib.Overlaps
import Derived.Lib.AppendZerosOnto
import Derived.Shelf.Spec.SlicesInsert
namespace Go.Proofs.YtallpldgkkpikaaGreatDoor
open Go.RowKit Go.Shelf

theorem ret_ib {a b : Int} {c d : Bool} (h : a = b) (h' : c = d) : Ending.returned (.tuple #[.int .i64 a, .bool c]) = .returned (.tuple #[.int .i64 b, .bool d]) := by rw [h, h']

set_option maxHeartbeats 2000000 in
set_option maxRecDepth 100000 in
theorem placeW_any (v : Value) (ws : List Wk) (name : ByteArray) (w : World) (hm : ws.length ≤ 1048577) (hr : WkS w v ws) :
    Calls Tryz.prog 26 #[v, .func (.func 27) #[] #[], .string name] w fun e w' => e = .returned (.tuple #[.int .i64 (atW ws name : Nat), .bool (hasW ws name)]) ∧ Below w.heap.size w w' := by
  obtain ⟨a, cap, rfl⟩ := hr.len
  have hle := atW_le ws name
  go_enter Tryz.func26, Tryz.ntmps26
  go_wp2
  go_loopw [13] (fun i wr => ∃ n : Nat, n ≤ atW ws name ∧ i = .int .i64 n ∧ Below w.heap.size w wr) (fun i _ => ws.length - (intOf i).toNat)
  case atStart => exact ⟨0, Nat.zero_le _, rfl, Below.refl _ _⟩
  case round =>
    obtain ⟨n, hn, rfl, hB⟩ := hrel
    by_cases hlt : n < ws.length
    · obtain ⟨b, off, rfl, hb, hcap, q0, q1, q2⟩ := (hr.below hB).at hlt
      have HL := hid (fun h => atW_lt (n := name) hlt h)
      have HA := hid (fun h => atW_at (n := name) hlt h)
      have HW := hid (fun (h : n = atW ws name) => (show hasW ws name = (ws[n].name.toList == name.toList) by subst h; exact hasW_at hlt))
      generalize ws[n] = k at *
      have hBa : Below wr.heap.size wr (wr.alloc (.cells #[.string k.name, .bool k.live, .int .i64 k.se] 64)) := (Below.refl _ wr).alloc (Nat.le_refl _) _
      have hBA := below_one hB hBa
      go_wp2_with fail
      generalize wr.alloc (.cells #[.string k.name, .bool k.live, .int .i64 k.se] 64) = Wa at *
      refine (nameOfWork_any k _).mono ?_
      rintro e w1 ⟨rfl, hB1⟩
      have hBB := below_one hBA hB1
      clear hB1 hBA hBa q0 q1 q2
      by_cases hna : n < atW ws name
      · have hc : Op.bytesLess k.name.toList name.toList = true := HL.out hna
        go_wp2_with fail
        go_roundw
        case rel => exact ⟨n + 1, by omega, by go_num, hBB⟩
        case measure => simp [intOf]; omega
      · have hne : n = atW ws name := by omega
        have hc : Op.bytesLess k.name.toList name.toList = false := HA.out hne
        have HR := hid (HW.out hne)
        have HN := hid hne
        clear hne hna HL HA HW
        go_wp2_with fail
        go_ret2
        exact ⟨ret_ib (by rw [HN.out]) (by rw [HR.out]), hBB⟩
    · have hne : ws.length = atW ws name := by omega
      have HR := hid (hasW_end (ws := ws) (n := name) (by omega))
      have HN := hid hne
      clear hne
      go_wp2_with fail
      go_ret2
      exact ⟨ret_ib (by rw [HN.out]) (by rw [HR.out]), hB⟩

set_option maxHeartbeats 2000000 in
set_option maxRecDepth 100000 in
theorem placeN_any (v : Value) (zs : List Int) (z : Int) (w : World) (hm : zs.length ≤ 1048577) (hr : VS w v (nums zs)) :
    Calls Tryz.prog 41 #[v, .func (.func 30) #[] #[], .int .i64 z] w fun e w' => e = .returned (.tuple #[.int .i64 (atN zs z : Nat), .bool (hasN zs z)]) ∧ w' = w := by
  obtain ⟨a, cap, rfl⟩ := hr.numLen
  have hle := atN_le zs z
  go_enter Tryz.func41, Tryz.ntmps41
  go_wp2
  go_loopw [13] (fun i wr => ∃ n : Nat, n ≤ atN zs z ∧ i = .int .i64 n ∧ wr = w) (fun i _ => zs.length - (intOf i).toNat)
  case atStart => exact ⟨0, Nat.zero_le _, rfl, rfl⟩
  case round =>
    obtain ⟨n, hn, rfl, rfl⟩ := hrel
    by_cases hlt : n < zs.length
    · obtain ⟨b, off, rfl, hb, hcap, q0⟩ := hr.num hlt
      have HL := hid (fun h => atN_lt (n := z) hlt h)
      have HA := hid (fun h => atN_at (n := z) hlt h)
      have HW := hid (fun (h : n = atN zs z) => (show hasN zs z = (zs[n] == z) by subst h; exact hasN_at hlt))
      generalize zs[n] = k at *
      by_cases hna : n < atN zs z
      · have hc : decide (z ≤ k) = false := by have := HL.out hna; simp; omega
        go_wp2_with (go_at_call 30; refine (itself_any k _).mono ?_; rintro e w1 ⟨rfl, rfl⟩)
        go_roundw
        case rel => exact ⟨n + 1, by omega, by go_num, by trivial⟩
        case measure => simp [intOf]; omega
      · have hne : n = atN zs z := by omega
        have hc : decide (z ≤ k) = true := by have := HA.out hne; simp; omega
        have HR := hid (HW.out hne)
        have HN := hid hne
        clear hne hna HL HA HW
        go_wp2_with (go_at_call 30; refine (itself_any k _).mono ?_; rintro e w1 ⟨rfl, rfl⟩)
        go_ret2
        exact ⟨ret_ib (by rw [HN.out]) (by rw [HR.out]), rfl⟩
    · have hne : zs.length = atN zs z := by omega
      have HR := hid (hasN_end (zs := zs) (n := z) (by omega))
      have HN := hid hne
      clear hne
      go_wp2_with fail
      go_ret2
      exact ⟨ret_ib (by rw [HN.out]) (by rw [HR.out]), rfl⟩

set_option maxHeartbeats 2000000 in
set_option maxRecDepth 100000 in
theorem l4At_any (v : Value) (s : Is) (name : ByteArray) (w : World) (hm : s.ws.length ≤ 1048577) (h : IsA w v s) :
    Calls Tryz.prog 57 #[v, .string name] w fun e w' => e = .returned (.tuple #[.int .i64 (atW s.ws name : Nat), .bool (hasW s.ws name)]) ∧ Below w.heap.size w w' := by
  obtain ⟨vw, vr, vs, rfl, h1, h2, h3⟩ := h.parts
  obtain ⟨aw, cw, rfl⟩ := h1.len
  have hle := atW_le s.ws name
  have hB0 : Below w.heap.size w (w.alloc (.cells #[.slice aw s.ws.length cw, .int .i64 s.nx, vr, vs] 27)) := (Below.refl _ w).alloc (Nat.le_refl _) _
  have F := Four.new w (.slice aw s.ws.length cw) (.int .i64 s.nx) vr vs 27
  go_enter Tryz.func57, Tryz.ntmps57
  go_wp2
  generalize w.alloc (.cells #[.slice aw s.ws.length cw, .int .i64 s.nx, vr, vs] 27) = W0 at *
  obtain ⟨a0, a1, a2, a3⟩ := F.c
  go_loopw [6] (fun i wr => ∃ n : Nat, n ≤ atW s.ws name ∧ i = .int .i64 n ∧ wr = W0) (fun i _ => s.ws.length - (intOf i).toNat)
  case atStart => exact ⟨0, Nat.zero_le _, rfl, rfl⟩
  case round =>
    obtain ⟨n, hn, rfl, rfl⟩ := hrel
    by_cases hlt : n < s.ws.length
    · obtain ⟨b, off, rfl, hb, hcap, q0, q1, q2⟩ := (h1.below hB0).at hlt
      have HL := hid (fun h => atW_lt (n := name) hlt h)
      have HA := hid (fun h => atW_at (n := name) hlt h)
      have HW := hid (fun (h : n = atW s.ws name) => (show hasW s.ws name = (s.ws[n].name.toList == name.toList) by subst h; exact hasW_at hlt))
      generalize s.ws[n] = k at *
      have dl : decide ((n : Int) < (s.ws.length : Int)) = true := by simp; omega
      by_cases hna : n < atW s.ws name
      · have hc : Op.bytesLess k.name.toList name.toList = true := HL.out hna
        go_wp2_with fail
        go_roundw
        case rel => exact ⟨n + 1, by omega, by go_num, by trivial⟩
        case measure => simp [intOf]; omega
      · have hne : n = atW s.ws name := by omega
        have hc : Op.bytesLess k.name.toList name.toList = false := HA.out hne
        have HR := hid (HW.out hne)
        have HN := hid hne
        clear hne hna HL HA HW
        go_wp2_with fail
        go_quiet (fail)
        go_wp2_with fail
        go_ret2
        exact ⟨ret_ib (by rw [HN.out]) (by rw [HR.out]), below_drewn hB0 _⟩
    · have hne : n = atW s.ws name := by omega
      have HR := hid (hasW_end (ws := s.ws) (n := name) (by omega))
      have HN := hid hne
      have dl : decide ((n : Int) < (s.ws.length : Int)) = false := by simp; omega
      clear hne
      go_wp2_with fail
      go_quiet (fail)
      go_wp2_with fail
      go_ret2
      exact ⟨ret_ib (by rw [HN.out]) (by rw [HR.out]), below_drewn hB0 _⟩

set_option maxHeartbeats 2000000 in
theorem isLive_any (v : Value) (s : Is) (name : ByteArray) (w : World) (hm : s.ws.length ≤ 1048577) (h : IsA w v s) :
    Calls Tryz.prog 64 #[v, .string name] w fun e w' => e = .returned (.bool (livW s.ws name)) ∧ Below w.heap.size w w' := by
  obtain ⟨vw, vr, vs, rfl, h1, h2, h3⟩ := h.parts
  obtain ⟨aw, cw, rfl⟩ := h1.len
  have hB0 : Below w.heap.size w (w.alloc (.cells #[.slice aw s.ws.length cw, .int .i64 s.nx, vr, vs] 27)) := (Below.refl _ w).alloc (Nat.le_refl _) _
  have F := Four.new w (.slice aw s.ws.length cw) (.int .i64 s.nx) vr vs 27
  go_enter Tryz.func64, Tryz.ntmps64
  go_wp2_with fail
  generalize w.alloc (.cells #[.slice aw s.ws.length cw, .int .i64 s.nx, vr, vs] 27) = W0 at *
  refine (placeW_any _ s.ws name _ hm (h1.below hB0)).mono ?_
  rintro e w1 ⟨rfl, hB1⟩
  replace F := F.below hB1
  have hBB := below_one hB0 hB1
  clear hB0 hB1
  obtain ⟨a0, a1, a2, a3⟩ := F.c
  cases hh : hasW s.ws name
  · have HR := hid (livW_no hh)
    go_wp2_with fail
    go_ret
    exact ⟨ret_bool HR.out.symm, hBB⟩
  · have hlt := hasW_lt hh
    obtain ⟨b, off, rfl, hb, hcap, q0, q1, q2⟩ := (h1.below hBB).at hlt
    have HR := hid (show livW s.ws name = s.ws[atW s.ws name].live by rw [livW_at hlt, hh]; rfl)
    have hl2 : ((atW s.ws name : Nat) : Int) < (s.ws.length : Int) := by omega
    generalize s.ws[atW s.ws name] = k at *
    generalize atW s.ws name = n at *
    go_wp2_with fail
    go_ret
    exact ⟨ret_bool HR.out.symm, hBB⟩

set_option maxHeartbeats 2000000 in
theorem l4Live_any (v : Value) (s : Is) (name : ByteArray) (w : World) (hm : s.ws.length ≤ 1048577) (h : IsA w v s) :
    Calls Tryz.prog 23 #[v, .string name] w fun e w' => e = .returned (.bool (livW s.ws name)) ∧ Below w.heap.size w w' := by
  obtain ⟨vw, vr, vs, rfl, h1, h2, h3⟩ := h.parts
  obtain ⟨aw, cw, rfl⟩ := h1.len
  have hB0 : Below w.heap.size w (w.alloc (.cells #[.slice aw s.ws.length cw, .int .i64 s.nx, vr, vs] 27)) := (Below.refl _ w).alloc (Nat.le_refl _) _
  have F := Four.new w (.slice aw s.ws.length cw) (.int .i64 s.nx) vr vs 27
  go_enter Tryz.func23, Tryz.ntmps23
  go_wp2_with fail
  generalize w.alloc (.cells #[.slice aw s.ws.length cw, .int .i64 s.nx, vr, vs] 27) = W0 at *
  refine (l4At_any _ s name _ hm (h.below hB0)).mono ?_
  rintro e w1 ⟨rfl, hB1⟩
  replace F := F.below hB1
  have hBB := below_one hB0 hB1
  clear hB0 hB1
  obtain ⟨a0, a1, a2, a3⟩ := F.c
  cases hh : hasW s.ws name
  · have HR := hid (livW_no hh)
    go_wp2_with fail
    go_ret
    exact ⟨ret_bool HR.out.symm, hBB⟩
  · have hlt := hasW_lt hh
    obtain ⟨b, off, rfl, hb, hcap, q0, q1, q2⟩ := (h1.below hBB).at hlt
    have HR := hid (show livW s.ws name = s.ws[atW s.ws name].live by rw [livW_at hlt, hh]; rfl)
    have hl2 : ((atW s.ws name : Nat) : Int) < (s.ws.length : Int) := by omega
    generalize s.ws[atW s.ws name] = k at *
    generalize atW s.ws name = n at *
    go_wp2_with fail
    go_ret
    exact ⟨ret_bool HR.out.symm, hBB⟩

end Go.Proofs.YtallpldgkkpikaaGreatDoor

namespace Go.Proofs.YtallpldgkkpikaaGreatDoor
open Go.RowKit Go.Shelf

def enE (s : Is) (n : ByteArray) : Er :=
  if (isB s && nmOk n) = false then .bad
  else if livW s.ws n = true then .twice
  else if hasW s.ws n = true then .nil
  else if s.ws.length = 20 then .full
  else .nil
def rkE (s : Is) (n : ByteArray) : Er :=
  if (isB s && nmOk n) = false then .bad
  else if livW s.ws n = true then .nil
  else .noWork
theorem ret_er {x y : Er} {p0 p1 p2 p3 : Addr} (h : y = x) : Ending.returned (x.val p0 p1 p2 p3) = .returned (y.val p0 p1 p2 p3) := by rw [h]

set_option maxHeartbeats 4000000 in
theorem mayRevoke_any (v : Value) (s : Is) (name : ByteArray) (p0 p1 p2 p3 : Addr) (w : World) (hs : s.short) (hn : s.named) (hm : name.size ≤ 1048576) (hE : ErA w p0 p1 p2 p3) (h : IsA w v s) :
    Calls Tryz.prog 38 #[v, .string name] w fun e w' => e = .returned ((rkE s name).val p0 p1 p2 p3) ∧ Below w.heap.size w w' := by
  obtain ⟨aw, cw, ar, cr, ag, cg, rfl⟩ := is_forms h
  have hB0 : Below w.heap.size w (w.alloc (.cells #[.slice aw s.ws.length cw, .int .i64 s.nx, .slice ar s.rv.length cr, .slice ag s.sg.length cg] 27)) := (Below.refl _ w).alloc (Nat.le_refl _) _
  have F := Four.new w (.slice aw s.ws.length cw) (.int .i64 s.nx) (.slice ar s.rv.length cr) (.slice ag s.sg.length cg) 27
  go_enter Tryz.func38, Tryz.ntmps38
  go_wp2_with fail
  generalize w.alloc (.cells #[.slice aw s.ws.length cw, .int .i64 s.nx, .slice ar s.rv.length cr, .slice ag s.sg.length cg] 27) = W0 at *
  refine (implGoodIssuer_any _ s _ hs hn (h.below hB0)).mono ?_
  rintro e w1 ⟨rfl, hB1⟩
  replace F := F.below hB1
  have hBB1 := below_one hB0 hB1
  clear hB0 hB1
  obtain ⟨a0, a1, a2, a3⟩ := F.c
  cases hg : isB s
  · have HR := hid (show rkE s name = .bad by unfold rkE; rw [hg]; rfl)
    have g0 := (hE.below hBB1).g0
    go_wp2_with fail
    go_ret
    exact ⟨ret_er (x := .bad) HR.out, hBB1⟩
  go_wp2_with fail
  refine (implGoodName_any name _ hm).mono ?_
  rintro e w2 ⟨rfl, hB2⟩
  replace F := F.below hB2
  have hBB2 := below_one hBB1 hB2
  clear hB2 hBB1 a0 a1 a2 a3
  obtain ⟨a0, a1, a2, a3⟩ := F.c
  cases hg2 : gnB (split name 47)
  · have HR := hid (show rkE s name = .bad by unfold rkE nmOk; rw [hg, hg2]; rfl)
    have g0 := (hE.below hBB2).g0
    go_wp2_with fail
    go_ret
    exact ⟨ret_er (x := .bad) HR.out, hBB2⟩
  have HX := hid (show rkE s name = if livW s.ws name = true then .nil else .noWork by unfold rkE nmOk; rw [hg, hg2]; rfl)
  clear hg hg2
  go_wp2_with fail
  refine (isLive_any _ s name _ hs.1 (h.below hBB2)).mono ?_
  rintro e w4 ⟨rfl, hB4⟩
  replace F := F.below hB4
  have hBB4 := below_one hBB2 hB4
  have g3 := (hE.below hBB4).g3
  cases hl : livW s.ws name
  · have HR := hid (show rkE s name = .noWork by rw [HX.out, hl]; rfl)
    go_wp2_with fail
    go_ret
    exact ⟨ret_er (x := .noWork) HR.out, hBB4⟩
  · have HR := hid (show rkE s name = .nil by rw [HX.out, hl]; rfl)
    go_wp2_with fail
    go_ret
    exact ⟨ret_er (x := .nil) HR.out, hBB4⟩

end Go.Proofs.YtallpldgkkpikaaGreatDoor

namespace Go.Proofs.YtallpldgkkpikaaGreatDoor
open Go.RowKit Go.Shelf

/-- The lesser of two. -/
def mnI (a b : Int) : Int := min a b
theorem mnI_lt {a b : Int} (h : b < a) : mnI a b = b := by unfold mnI; omega
theorem mnI_ge {a b : Int} (h : ¬ b < a) : mnI a b = a := by unfold mnI; omega
/-- The link that comes next. -/
def ext1 (k : Lk) (tw : ByteArray) (se nw li : Int) : Lk := ⟨k.to, tw, se, nw, mnI (nw + li) k.un⟩
def extB (ks : List Lk) (tw : ByteArray) (se nw li : Int) : Bool := match ks[ks.length - 1]? with
  | some k => tkB ks && (tmB nw && (tmB li && tkB (ks ++ [ext1 k tw se nw li])))
  | none => false
def extL (ks : List Lk) (tw : ByteArray) (se nw li : Int) : List Lk := match ks[ks.length - 1]? with
  | some k => if extB ks tw se nw li = true then ks ++ [ext1 k tw se nw li] else []
  | none => []
theorem extL_le (ks : List Lk) (tw : ByteArray) (se nw li : Int) : (extL ks tw se nw li).length ≤ ks.length + 1 := by
  unfold extL
  split
  · split
    · simp
    · exact Nat.zero_le _
  · exact Nat.zero_le _
theorem ext_no {ks : List Lk} {tw : ByteArray} {se nw li : Int} (h : extB ks tw se nw li = false) : extL ks tw se nw li = [] := by
  unfold extL
  split
  · rw [if_neg (by rw [h]; exact Bool.false_ne_true)]
  · rfl
theorem ext_at {ks : List Lk} {m : Nat} (hm : m < ks.length) (hl : m = ks.length - 1) (tw : ByteArray) (se nw li : Int) : extB ks tw se nw li = (tkB ks && (tmB nw && (tmB li && tkB (ks ++ [ext1 ks[m] tw se nw li])))) := by
  unfold extB
  rw [← hl, List.getElem?_eq_getElem hm]
theorem ext_yes {ks : List Lk} {m : Nat} (hm : m < ks.length) (hl : m = ks.length - 1) {tw : ByteArray} {se nw li : Int} (h : extB ks tw se nw li = true) : extL ks tw se nw li = ks ++ [ext1 ks[m] tw se nw li] := by
  unfold extL
  rw [← hl, List.getElem?_eq_getElem hm]
  simp only
  rw [if_pos h]
theorem ext_tk {ks : List Lk} {tw : ByteArray} {se nw li : Int} (h : tkB ks = false) : extB ks tw se nw li = false := by
  unfold extB
  split
  · rw [h]
    rfl
  · rfl
theorem ext_nw {ks : List Lk} {tw : ByteArray} {se nw li : Int} (h : tmB nw = false) : extB ks tw se nw li = false := by
  unfold extB
  split
  · rw [h, Bool.false_and, Bool.and_false]
  · rfl
theorem ext_li {ks : List Lk} {tw : ByteArray} {se nw li : Int} (h : tmB li = false) : extB ks tw se nw li = false := by
  unfold extB
  split
  · rw [h, Bool.false_and, Bool.and_false, Bool.and_false]
  · rfl
theorem last_good {ks : List Lk} {k : Lk} (h : tkB (ks ++ [k]) = true) : k.good = true := tkB_good h k (by simp)
theorem ext_to {ks : List Lk} {tw : ByteArray} {se nw li : Int} (h : gnB (split tw 47) = false) : extB ks tw se nw li = false := by
  unfold extB
  split
  · rename_i k _
    cases ht : tkB (ks ++ [ext1 k tw se nw li])
    · rw [Bool.and_false, Bool.and_false, Bool.and_false]
    · have := ((Lk.good_iff _).1 (last_good ht)).2.1
      unfold nmOk ext1 at this
      simp only at this
      rw [h] at this
      cases this
  · rfl
theorem ext_se {ks : List Lk} {tw : ByteArray} {se nw li : Int} (h : seB se = false) : extB ks tw se nw li = false := by
  unfold extB
  split
  · rename_i k _
    cases ht : tkB (ks ++ [ext1 k tw se nw li])
    · rw [Bool.and_false, Bool.and_false, Bool.and_false]
    · have := ((Lk.good_iff _).1 (last_good ht)).2.2.1
      unfold seB at h
      simp only [ext1] at this
      exact absurd this (of_decide_eq_false h)
  · rfl
theorem lks_cells {w : World} {b off n c : Nat} {ks : List Lk} (h : LkS w (.slice (some ⟨b, off, none⟩) n c) ks) : ∀ j u, (ks.flatMap Lk.cells)[j]? = some u → w.cell? ((⟨b, off, none⟩ : Addr).add j) = some u := by
  intro j u hu
  have hj : j < (ks.flatMap Lk.cells).length := (List.getElem?_eq_some_iff.1 hu).1
  rw [lflat_len] at hj
  have hi : j / 5 < ks.length := by omega
  obtain ⟨b', off', he, _, _, q0, q1, q2, q3, q4⟩ := h.at hi
  cases he
  have hr : j = j / 5 * 5 + j % 5 := by omega
  have hm : j % 5 < 5 := Nat.mod_lt _ (by decide)
  rw [hr, lflat_at ks (j / 5) (j % 5) hi hm] at hu
  rw [Addr.add_lit]
  have hx : off + j = off + j / 5 * 5 + j % 5 := by omega
  rw [hx]
  obtain h0 | h0 | h0 | h0 | h0 : j % 5 = 0 ∨ j % 5 = 1 ∨ j % 5 = 2 ∨ j % 5 = 3 ∨ j % 5 = 4 := by omega
  all_goals rw [h0] at hu ⊢
  all_goals simp at hu
  all_goals subst hu
  all_goals first | exact q0 | exact q1 | exact q2 | exact q3 | exact q4
theorem cells_one3 {ks : List Lk} : ∀ u ∈ ks.flatMap Lk.cells, u.oneCell' = true := by
  intro u hu
  rw [List.mem_flatMap] at hu
  obtain ⟨r, _, hr⟩ := hu
  simp at hr
  rcases hr with rfl | rfl | rfl | rfl | rfl <;> rfl

set_option maxHeartbeats 1000000 in
theorem onFrom_any (f u nw li : Int) (w : World) (h1 : tmB nw = true) (h2 : tmB li = true) :
    Calls Tryz.prog 51 #[.agg #[.int .i64 f, .int .i64 u], .int .i64 nw, .int .i64 li] w fun e w' => e = .returned (.agg #[.int .i64 nw, .int .i64 (mnI (nw + li) u)]) ∧ Below w.heap.size w w' := by
  have b1 := of_decide_eq_true h1
  have b2 := of_decide_eq_true h2
  have hw : IntKind.i64.wrap (nw + li) = nw + li := by rw [IntKind.wrap_i64]; omega
  go_enter Tryz.func51, Tryz.ntmps51
  go_wp2
  refine bodyPost_ret (v := .agg #[.int .i64 nw, .int .i64 (mnI (nw + li) u)]) (by simp [results, Tryz.results51, go_sem, mnI, *]) rfl ⟨rfl, ((Below.refl _ w).alloc (Nat.le_refl _) _).alloc (by simp) _⟩

end Go.Proofs.YtallpldgkkpikaaGreatDoor

namespace Go.Proofs.YtallpldgkkpikaaGreatDoor
open Go.RowKit Go.Shelf

/-- 3 cells that are a block of their own. -/
def Three (w : World) (t : TypeId) (k : Nat) (a b c : Value) : Prop := w.ownsRow k t 3 (.slice (some ⟨k, 0, none⟩) 1 1) 1 [a, b, c]
theorem Three.at (w : World) (a b c : Value) (t : TypeId) {k : Nat} (hk : k = w.heap.size) : Three (w.alloc (.cells #[a, b, c] t)) t k a b c := by
  subst hk
  exact ⟨rfl, .inr ⟨w.heap.size, 1, #[a, b, c], rfl, Nat.le_refl _, by show (w.heap.push _)[w.heap.size]? = _; rw [Array.getElem?_push_size], Nat.le_refl _, by unfold maxLen; omega, rfl, rfl⟩⟩
theorem Three.new (w : World) (a b c : Value) (t : TypeId) : Three (w.alloc (.cells #[a, b, c] t)) t w.heap.size a b c := Three.at w a b c t rfl
theorem Three.below {w' : World} {w : World} {t : TypeId} {k : Nat} {a b c : Value} (h : Three w t k a b c) (hB : Below w.heap.size w w') : Three w' t k a b c := ownsRow_below h hB
theorem Three.c {w : World} {t : TypeId} {k : Nat} {a b c : Value} (h : Three w t k a b c) : w.cell? ⟨k, 0, none⟩ = some a ∧ w.cell? ⟨k, 1, none⟩ = some b ∧ w.cell? ⟨k, 2, none⟩ = some c :=
  ⟨World.ownsRow.cellAt h 0 (by omega), World.ownsRow.cellAt h 1 (by omega), World.ownsRow.cellAt h 2 (by omega)⟩
theorem Three.f {w : World} {t : TypeId} {k : Nat} {a b c : Value} (h : Three w t k a b c) (j : Nat) : w.frozen? ⟨k, j, none⟩ = false := World.ownsRow.frozenAt h j
theorem Three.s0 {w : World} {t : TypeId} {k : Nat} {a b c : Value} (h : Three w t k a b c) (x : Value) : Three (w.setCell ⟨k, 0, none⟩ x) t k x b c := (World.ownsRow.stored h 0 x).1
theorem Three.s1 {w : World} {t : TypeId} {k : Nat} {a b c : Value} (h : Three w t k a b c) (x : Value) : Three (w.setCell ⟨k, 1, none⟩ x) t k a x c := (World.ownsRow.stored h 1 x).1
theorem Three.s2 {w : World} {t : TypeId} {k : Nat} {a b c : Value} (h : Three w t k a b c) (x : Value) : Three (w.setCell ⟨k, 2, none⟩ x) t k a b x := (World.ownsRow.stored h 2 x).1
theorem Three.other {w : World} {t : TypeId} {k : Nat} {a b c : Value} (h : Three w t k a b c) {k' : Nat} (hk : k ≠ k') (j : Nat) (x : Value) : Three (w.setCell ⟨k', j, none⟩ x) t k a b c := ownsRow_setCell_other h (by simpa [Value.ownBlock] using hk) x
theorem Three.lt {w : World} {t : TypeId} {k : Nat} {a b c : Value} (h : Three w t k a b c) : k < w.heap.size := (World.ownsRow.lt h k rfl).2
theorem Mid.three {lo hi : Nat} {w1 : World} {w : World} {t : TypeId} {k : Nat} {a b c : Value} (h : Mid lo hi w w1) (hr : Three w t k a b c) (ho : k < lo ∨ hi ≤ k) : Three w1 t k a b c :=
  h.row hr (fun j hj => by simp [Value.ownBlock] at hj; omega)
theorem row_three {w : World} {base : Nat} {e : TypeId} {size n : Nat} {v : Value} {xs : List Value} (h : w.ownsRow base e size v n xs) {k : Nat} (hk : k < base) (x0 x1 x2 : Value) : (((w.setCell ⟨k, 0, none⟩ x0).setCell ⟨k, 1, none⟩ x1).setCell ⟨k, 2, none⟩ x2).ownsRow base e size v n xs :=
  (ownsRow_setCell_below (ownsRow_setCell_below (ownsRow_setCell_below h (a := ⟨k, 0, none⟩) hk x0) (a := ⟨k, 1, none⟩) hk x1) (a := ⟨k, 2, none⟩) hk x2)
theorem below_three {n k : Nat} {w W : World} (h : Below n w W) (hk : n ≤ k) (x0 x1 x2 : Value) : Below n w (((W.setCell ⟨k, 0, none⟩ x0).setCell ⟨k, 1, none⟩ x1).setCell ⟨k, 2, none⟩ x2) :=
  (((h.setCell (p := ⟨k, 0, none⟩) hk x0).setCell (p := ⟨k, 1, none⟩) hk x1).setCell (p := ⟨k, 2, none⟩) hk x2)

/-- 5 cells that are a block of their own. -/
def Five (w : World) (t : TypeId) (k : Nat) (a b c d e : Value) : Prop := w.ownsRow k t 5 (.slice (some ⟨k, 0, none⟩) 1 1) 1 [a, b, c, d, e]
theorem Five.at (w : World) (a b c d e : Value) (t : TypeId) {k : Nat} (hk : k = w.heap.size) : Five (w.alloc (.cells #[a, b, c, d, e] t)) t k a b c d e := by
  subst hk
  exact ⟨rfl, .inr ⟨w.heap.size, 1, #[a, b, c, d, e], rfl, Nat.le_refl _, by show (w.heap.push _)[w.heap.size]? = _; rw [Array.getElem?_push_size], Nat.le_refl _, by unfold maxLen; omega, rfl, rfl⟩⟩
theorem Five.new (w : World) (a b c d e : Value) (t : TypeId) : Five (w.alloc (.cells #[a, b, c, d, e] t)) t w.heap.size a b c d e := Five.at w a b c d e t rfl
theorem Five.below {w' : World} {w : World} {t : TypeId} {k : Nat} {a b c d e : Value} (h : Five w t k a b c d e) (hB : Below w.heap.size w w') : Five w' t k a b c d e := ownsRow_below h hB
theorem Five.c {w : World} {t : TypeId} {k : Nat} {a b c d e : Value} (h : Five w t k a b c d e) : w.cell? ⟨k, 0, none⟩ = some a ∧ w.cell? ⟨k, 1, none⟩ = some b ∧ w.cell? ⟨k, 2, none⟩ = some c ∧ w.cell? ⟨k, 3, none⟩ = some d ∧ w.cell? ⟨k, 4, none⟩ = some e :=
  ⟨World.ownsRow.cellAt h 0 (by omega), World.ownsRow.cellAt h 1 (by omega), World.ownsRow.cellAt h 2 (by omega), World.ownsRow.cellAt h 3 (by omega), World.ownsRow.cellAt h 4 (by omega)⟩
theorem Five.f {w : World} {t : TypeId} {k : Nat} {a b c d e : Value} (h : Five w t k a b c d e) (j : Nat) : w.frozen? ⟨k, j, none⟩ = false := World.ownsRow.frozenAt h j
theorem Five.s0 {w : World} {t : TypeId} {k : Nat} {a b c d e : Value} (h : Five w t k a b c d e) (x : Value) : Five (w.setCell ⟨k, 0, none⟩ x) t k x b c d e := (World.ownsRow.stored h 0 x).1
theorem Five.s1 {w : World} {t : TypeId} {k : Nat} {a b c d e : Value} (h : Five w t k a b c d e) (x : Value) : Five (w.setCell ⟨k, 1, none⟩ x) t k a x c d e := (World.ownsRow.stored h 1 x).1
theorem Five.s2 {w : World} {t : TypeId} {k : Nat} {a b c d e : Value} (h : Five w t k a b c d e) (x : Value) : Five (w.setCell ⟨k, 2, none⟩ x) t k a b x d e := (World.ownsRow.stored h 2 x).1
theorem Five.s3 {w : World} {t : TypeId} {k : Nat} {a b c d e : Value} (h : Five w t k a b c d e) (x : Value) : Five (w.setCell ⟨k, 3, none⟩ x) t k a b c x e := (World.ownsRow.stored h 3 x).1
theorem Five.s4 {w : World} {t : TypeId} {k : Nat} {a b c d e : Value} (h : Five w t k a b c d e) (x : Value) : Five (w.setCell ⟨k, 4, none⟩ x) t k a b c d x := (World.ownsRow.stored h 4 x).1
theorem Five.other {w : World} {t : TypeId} {k : Nat} {a b c d e : Value} (h : Five w t k a b c d e) {k' : Nat} (hk : k ≠ k') (j : Nat) (x : Value) : Five (w.setCell ⟨k', j, none⟩ x) t k a b c d e := ownsRow_setCell_other h (by simpa [Value.ownBlock] using hk) x
theorem Five.lt {w : World} {t : TypeId} {k : Nat} {a b c d e : Value} (h : Five w t k a b c d e) : k < w.heap.size := (World.ownsRow.lt h k rfl).2
theorem Mid.five {lo hi : Nat} {w1 : World} {w : World} {t : TypeId} {k : Nat} {a b c d e : Value} (h : Mid lo hi w w1) (hr : Five w t k a b c d e) (ho : k < lo ∨ hi ≤ k) : Five w1 t k a b c d e :=
  h.row hr (fun j hj => by simp [Value.ownBlock] at hj; omega)
theorem row_five {w : World} {base : Nat} {e : TypeId} {size n : Nat} {v : Value} {xs : List Value} (h : w.ownsRow base e size v n xs) {k : Nat} (hk : k < base) (x0 x1 x2 x3 x4 : Value) : (((((w.setCell ⟨k, 0, none⟩ x0).setCell ⟨k, 1, none⟩ x1).setCell ⟨k, 2, none⟩ x2).setCell ⟨k, 3, none⟩ x3).setCell ⟨k, 4, none⟩ x4).ownsRow base e size v n xs :=
  (ownsRow_setCell_below (ownsRow_setCell_below (ownsRow_setCell_below (ownsRow_setCell_below (ownsRow_setCell_below h (a := ⟨k, 0, none⟩) hk x0) (a := ⟨k, 1, none⟩) hk x1) (a := ⟨k, 2, none⟩) hk x2) (a := ⟨k, 3, none⟩) hk x3) (a := ⟨k, 4, none⟩) hk x4)
theorem below_five {n k : Nat} {w W : World} (h : Below n w W) (hk : n ≤ k) (x0 x1 x2 x3 x4 : Value) : Below n w (((((W.setCell ⟨k, 0, none⟩ x0).setCell ⟨k, 1, none⟩ x1).setCell ⟨k, 2, none⟩ x2).setCell ⟨k, 3, none⟩ x3).setCell ⟨k, 4, none⟩ x4) :=
  (((((h.setCell (p := ⟨k, 0, none⟩) hk x0).setCell (p := ⟨k, 1, none⟩) hk x1).setCell (p := ⟨k, 2, none⟩) hk x2).setCell (p := ⟨k, 3, none⟩) hk x3).setCell (p := ⟨k, 4, none⟩) hk x4)

end Go.Proofs.YtallpldgkkpikaaGreatDoor

namespace Go.Proofs.YtallpldgkkpikaaGreatDoor
open Go.RowKit Go.Shelf

/-- Whether a token may be issued to a work. -/
def maE (s : Is) (name : ByteArray) : Er := if livW s.ws name = true then (if fullB s = true then .full else .nil) else .noWork
def itB (s : Is) (name tq : ByteArray) (nw li : Int) : Bool := isB s && ((nmOk name && nmOk tq) && (tmB nw && tmB li))
def itE (s : Is) (name tq : ByteArray) (nw li : Int) : Er := if itB s name tq nw li = true then maE s name else .bad
def itK (s : Is) (name tq : ByteArray) (nw li : Int) : Lk := ⟨name, tq, s.nx, nw, mnI (nw + li) 100000⟩
def itL (s : Is) (name tq : ByteArray) (nw li : Int) : List Lk := match itE s name tq nw li with
  | .nil => [itK s name tq nw li]
  | _ => []
/-- What is handed out beside what was found. -/
def hdX (x : Er) (s : Is) (ks : List Lk) (who : ByteArray) : Is := match x with
  | .bad => Is.none
  | .nil => sgX s ks who
  | _ => s
theorem maE_no {s : Is} {name : ByteArray} (h : livW s.ws name = false) : maE s name = .noWork := by unfold maE; rw [h]; rfl
theorem maE_full {s : Is} {name : ByteArray} (h : livW s.ws name = true) (h2 : fullB s = true) : maE s name = .full := by unfold maE; rw [if_pos h, if_pos h2]
theorem maE_yes {s : Is} {name : ByteArray} (h : livW s.ws name = true) (h2 : fullB s = false) : maE s name = .nil := by unfold maE; rw [if_pos h, if_neg (by rw [h2]; exact Bool.false_ne_true)]
theorem full1 {s : Is} (h : (s.nx == 100000) = true) : fullB s = true := by unfold fullB; rw [h]; rfl
theorem full2 {s : Is} (h : ((s.sg.length : Int) == 200) = true) : fullB s = true := by
  unfold fullB
  rw [decide_eq_true (p := s.sg.length = 200) (by have := eq_of_beq h; omega)]
  simp
theorem full3 {s : Is} (h : (s.nx == 100000) = false) (h2 : ((s.sg.length : Int) == 200) = false) : fullB s = false := by
  unfold fullB
  rw [h, decide_eq_false (p := s.sg.length = 200) (by have := ne_of_beq_false h2; omega)]
  rfl
theorem maE_nil {s : Is} {name : ByteArray} (h : maE s name = .nil) : livW s.ws name = true ∧ fullB s = false := by
  unfold maE at h
  split at h
  · rename_i h1
    split at h
    · cases h
    · rename_i h2
      exact ⟨h1, by simpa using h2⟩
  · cases h
theorem maE_not (s : Is) (name : ByteArray) : maE s name ≠ .bad ∧ maE s name ≠ .twice := by
  unfold maE
  split
  · split <;> exact ⟨fun h => (by cases h), fun h => (by cases h)⟩
  · exact ⟨fun h => (by cases h), fun h => (by cases h)⟩
theorem itE_nil {s : Is} {name tq : ByteArray} {nw li : Int} (h : itE s name tq nw li = .nil) : itB s name tq nw li = true ∧ livW s.ws name = true ∧ fullB s = false := by
  unfold itE at h
  split at h
  · rename_i h1
    exact ⟨h1, maE_nil h⟩
  · cases h
theorem itE_not (s : Is) (name tq : ByteArray) (nw li : Int) : itE s name tq nw li ≠ .twice := by
  unfold itE
  split
  · exact (maE_not s name).2
  · exact fun h => (by cases h)
theorem itB_parts {s : Is} {name tq : ByteArray} {nw li : Int} (h : itB s name tq nw li = true) : isB s = true ∧ nmOk name = true ∧ nmOk tq = true ∧ tmB nw = true ∧ tmB li = true := by
  unfold itB at h
  simp only [Bool.and_eq_true] at h
  exact ⟨h.1, h.2.1.1, h.2.1.2, h.2.2.1, h.2.2.2⟩
/-- A link that is issued is good. -/
theorem itK_good {s : Is} {name tq : ByteArray} {nw li : Int} (h : itB s name tq nw li = true) : (itK s name tq nw li).good = true := by
  obtain ⟨h1, h2, h3, h4, h5⟩ := itB_parts h
  have a1 := isB_hd h1
  have a4 := of_decide_eq_true h4
  have a5 := of_decide_eq_true h5
  rw [Lk.good_iff]
  have hm : nw ≤ mnI (nw + li) 100000 ∧ mnI (nw + li) 100000 ≤ 100000 := by unfold mnI; omega
  exact ⟨h2, h3, ⟨a1.2.1, a1.2.2.1⟩, a4, ⟨by show 0 ≤ mnI (nw + li) 100000; omega, hm.2⟩, hm.1⟩

/-- 2 cells that are a block of their own. -/
def Two (w : World) (t : TypeId) (k : Nat) (a b : Value) : Prop := w.ownsRow k t 2 (.slice (some ⟨k, 0, none⟩) 1 1) 1 [a, b]
theorem Two.at (w : World) (a b : Value) (t : TypeId) {k : Nat} (hk : k = w.heap.size) : Two (w.alloc (.cells #[a, b] t)) t k a b := by
  subst hk
  exact ⟨rfl, .inr ⟨w.heap.size, 1, #[a, b], rfl, Nat.le_refl _, by show (w.heap.push _)[w.heap.size]? = _; rw [Array.getElem?_push_size], Nat.le_refl _, by unfold maxLen; omega, rfl, rfl⟩⟩
theorem Two.new (w : World) (a b : Value) (t : TypeId) : Two (w.alloc (.cells #[a, b] t)) t w.heap.size a b := Two.at w a b t rfl
theorem Two.below {w' : World} {w : World} {t : TypeId} {k : Nat} {a b : Value} (h : Two w t k a b) (hB : Below w.heap.size w w') : Two w' t k a b := ownsRow_below h hB
theorem Two.c {w : World} {t : TypeId} {k : Nat} {a b : Value} (h : Two w t k a b) : w.cell? ⟨k, 0, none⟩ = some a ∧ w.cell? ⟨k, 1, none⟩ = some b :=
  ⟨World.ownsRow.cellAt h 0 (by omega), World.ownsRow.cellAt h 1 (by omega)⟩
theorem Two.f {w : World} {t : TypeId} {k : Nat} {a b : Value} (h : Two w t k a b) (j : Nat) : w.frozen? ⟨k, j, none⟩ = false := World.ownsRow.frozenAt h j
theorem Two.s0 {w : World} {t : TypeId} {k : Nat} {a b : Value} (h : Two w t k a b) (x : Value) : Two (w.setCell ⟨k, 0, none⟩ x) t k x b := (World.ownsRow.stored h 0 x).1
theorem Two.s1 {w : World} {t : TypeId} {k : Nat} {a b : Value} (h : Two w t k a b) (x : Value) : Two (w.setCell ⟨k, 1, none⟩ x) t k a x := (World.ownsRow.stored h 1 x).1
theorem Two.other {w : World} {t : TypeId} {k : Nat} {a b : Value} (h : Two w t k a b) {k' : Nat} (hk : k ≠ k') (j : Nat) (x : Value) : Two (w.setCell ⟨k', j, none⟩ x) t k a b := ownsRow_setCell_other h (by simpa [Value.ownBlock] using hk) x
theorem Two.lt {w : World} {t : TypeId} {k : Nat} {a b : Value} (h : Two w t k a b) : k < w.heap.size := (World.ownsRow.lt h k rfl).2
theorem Mid.two {lo hi : Nat} {w1 : World} {w : World} {t : TypeId} {k : Nat} {a b : Value} (h : Mid lo hi w w1) (hr : Two w t k a b) (ho : k < lo ∨ hi ≤ k) : Two w1 t k a b :=
  h.row hr (fun j hj => by simp [Value.ownBlock] at hj; omega)

end Go.Proofs.YtallpldgkkpikaaGreatDoor

namespace Go.Proofs.YtallpldgkkpikaaGreatDoor
open Go.RowKit Go.Shelf

/-- The texts of the first links. -/
def sgTo (ks : List Lk) (n : Nat) : List ByteArray := (List.range n).map (fun i => tkT (ks.take (i + 1)))
theorem sgTo_succ (ks : List Lk) (n : Nat) : sgTo ks (n + 1) = sgTo ks n ++ [tkT (ks.take (n + 1))] := by
  unfold sgTo
  rw [List.range_succ, List.map_append]
  rfl
theorem sgTo_len (ks : List Lk) (n : Nat) : (sgTo ks n).length = n := by simp [sgTo]
/-- What is signed of a token. -/
def sigL (ks : List Lk) : List ByteArray := if tkB ks = true then sgTo ks ks.length else []
theorem sigL_yes {ks : List Lk} (h : tkB ks = true) : sigL ks = sgTo ks ks.length := if_pos h
theorem sigL_no {ks : List Lk} (h : tkB ks = false) : sigL ks = [] := if_neg (by rw [h]; exact Bool.false_ne_true)
theorem sigL_le (ks : List Lk) : (sigL ks).length ≤ ks.length := by
  unfold sigL
  split
  · rw [sgTo_len]
    exact Nat.le_refl _
  · exact Nat.zero_le _
theorem row_base3 {w : World} {base base' : Nat} {e : TypeId} {size n : Nat} {v : Value} {xs : List Value} (hb : base' ≤ base) (h : w.ownsRow base e size v n xs) : w.ownsRow base' e size v n xs := by
  refine ⟨h.1, h.2.imp id ?_⟩
  rintro ⟨g, cap, cur, hv, hg, hrest⟩
  exact ⟨g, cap, cur, hv, Nat.le_trans hb hg, hrest⟩

set_option maxHeartbeats 2000000 in
theorem implSignedOf_any (v : Value) (ks : List Lk) (w : World) (hm : ks.length ≤ 1048577) (hf : ∀ k ∈ ks, k.size ≤ 1048576) (hr : LkS w v ks) (ht : Tab w) :
    Calls Tryz.prog 32 #[v] w fun e w' => ∃ v', e = .returned (.tuple #[v', .bool (tkB ks)]) ∧ w'.ownsRow w.heap.size 9 1 v' (sigL ks).length (strs (sigL ks)) ∧ Below w.heap.size w w' := by
  obtain ⟨a, cap, rfl⟩ := hr.len
  obtain ⟨i0, hi, hz0, hz1, hz2⟩ := info_parts infoStr
  have HTB := hid ht
  clear ht
  cases hg : tkB ks
  · have HC := hid (sigL_no hg)
    go_enter Tryz.func32, Tryz.ntmps32
    go_wp2_with fail
    refine (implGoodToken_any _ ks _ hm hf hr).mono ?_
    rintro e w1 ⟨rfl, hB1⟩
    rw [hg]
    go_wp2_with fail
    go_ret2
    exact ⟨_, rfl, by rw [HC.out]; exact World.ownsRow_nil _ _ _ _, hB1⟩
  · have HC := hid (sigL_yes hg)
    have hgd := tkB_good hg
    go_enter Tryz.func32, Tryz.ntmps32
    go_wp2_with fail
    refine (implGoodToken_any _ ks _ hm hf hr).mono ?_
    rintro e w1 ⟨rfl, hB1⟩
    rw [hg]
    have hr1 := hr.below hB1
    clear hr
    go_wp2_with fail
    go_loopw [4, 11] (fun out i wr => ∃ n : Nat, n ≤ ks.length ∧ i = .int .i64 n ∧ wr.ownsRow w1.heap.size 9 1 out (sgTo ks n).length (strs (sgTo ks n)) ∧ Below w1.heap.size w1 wr) (fun _ i _ => ks.length - (intOf i).toNat)
    case atStart => exact ⟨0, Nat.zero_le _, rfl, World.ownsRow_nil _ _ _ _, Below.refl _ _⟩
    case round =>
      obtain ⟨n, hn, rfl, hrow, hB⟩ := hrel
      by_cases hlt : n < ks.length
      · have hrB := hr1.below hB
        obtain ⟨b, off, rfl, hb, hcap, q0, q1, q2, q3, q4⟩ := hrB.at hlt
        have HT := hid (sgTo_succ ks n)
        have hln := sgTo_len ks n
        have hrT := hrB.take (n + 1) cap (by omega) (by omega)
        have hgT : ∀ k ∈ ks.take (n + 1), k.good = true := fun k hk => hgd k (List.mem_of_mem_take hk)
        have hfT : ∀ k ∈ ks.take (n + 1), k.size ≤ 1048576 := fun k hk => hf k (List.mem_of_mem_take hk)
        have hmT : (ks.take (n + 1)).length ≤ 1048577 := by rw [List.length_take]; omega
        have hc1 : (n : Int) + 1 ≤ (cap : Int) := by omega
        clear q0 q1 q2 q3 q4
        go_wp2_with fail
        refine (textOfToken_any _ (ks.take (n + 1)) _ hmT hgT hfT hrT (HTB.out.on (below_one hB1 hB))).mono ?_
        rintro e w2 ⟨rfl, hB2⟩
        have hrow2 := ownsRow_below hrow hB2
        have hBB := below_one hB hB2
        have hz3 := hBB.size
        generalize tkT (ks.take (n + 1)) = x at *
        clear hrow hB hB2 hrB hrT hgT hfT hmT
        go_wp2_with (at_builtin; refine wpList_append_own _ rfl _ _ 25 rfl w1.heap.size 9 i0 (.string ByteArray.empty) 1 16 Tryz.underlying25 hi hz0 hz1 hz2 rfl (by decide) _ _ _ rfl (hrow2.alloc _) ⟨w2.heap.size, 0, none⟩ 1 1 [.string x] rfl rfl (cell_one_new _ _ _) (by simp [Value.oneCell']) (by simp [maxLen]; omega) (by omega) (by simp; omega) ?_; intro v' w3 hown' hgrow _; obtain ⟨g', cap', rfl⟩ := ownsRow_succ hown')
        go_roundw
        case rel =>
          refine ⟨n + 1, by omega, by go_num, ?_, hBB.trans (below_appended hz3 hrow2 hgrow)⟩
          rw [HT.out]
          simpa [strs, hln] using hown'
        case measure => simp [intOf]; omega
      · obtain rfl : n = ks.length := by omega
        go_wp2
        go_ret2
        exact ⟨_, rfl, by rw [HC.out]; exact row_base3 hB1.size hrow, below_one hB1 hB⟩

end Go.Proofs.YtallpldgkkpikaaGreatDoor

namespace Go.Proofs.YtallpldgkkpikaaGreatDoor

theorem atN_all : ∀ {zs : List Int} {z : Int}, (∀ x ∈ zs, x < z) → atN zs z = zs.length
  | [], _, _ => rfl
  | x :: r, z, h => by
    unfold atN
    rw [if_pos (h x (by simp)), atN_all (zs := r) (fun y hy => h y (by simp [hy])), List.length_cons]
theorem okN_mem {nx : Int} {zs : List Int} (h : okN nx zs = true) : ∀ x ∈ zs, 1 ≤ x ∧ x < nx := fun x hx => of_decide_eq_true (List.all_eq_true.1 h x hx)
theorem isI_all {zs : List Int} {z : Int} (h : ∀ x ∈ zs, x < z) : isI zs z = false := by
  unfold isI
  rw [List.any_eq_false]
  intro x hx
  have := h x hx
  simp
  omega
theorem rvN_new {zs : List Int} {z : Int} (h : ∀ x ∈ zs, x < z) (hz : 1 ≤ z) : rvN zs z = zs ++ [z] := by
  have h1 : hasN zs z = false := hasN_end (by rw [atN_all h]; omega)
  have h2 : (z != 0 && !(hasN zs z)) = true := by
    rw [h1, bne_iff_ne.2 (by omega)]
    rfl
  unfold rvN insN
  rw [if_pos h2, atN_all h, List.take_length, List.drop_length]
theorem upN_app {zs : List Int} {z : Int} (hu : upN zs = true) (h : ∀ x ∈ zs, x < z) : upN (zs ++ [z]) = true := by
  refine upN_yes fun i hi => ?_
  cases i with
  | zero => rfl
  | succ i =>
    rw [upI_succ hi]
    rw [List.length_append, List.length_singleton] at hi
    apply decide_eq_true
    rw [List.getElem_append_left (by omega)]
    rcases Nat.lt_or_ge (i + 1) zs.length with h1 | h1
    · rw [List.getElem_append_left h1]
      exact up_lt hu i (i + 1) (by omega) h1
    · rw [List.getElem_append_right h1]
      simp only [List.getElem_singleton]
      exact h _ (List.getElem_mem (by omega))
theorem okN_app {nx z : Int} {zs : List Int} (h : okN nx zs = true) (hz : 1 ≤ z) (hx : nx ≤ z) : okN (z + 1) (zs ++ [z]) = true := by
  refine List.all_eq_true.2 fun x hm => decide_eq_true ?_
  rcases List.mem_append.1 hm with h1 | h1
  · have := okN_mem h x h1
    omega
  · rw [List.mem_singleton] at h1
    omega
theorem okN_up {nx : Int} {zs : List Int} (h : okN nx zs = true) : okN (nx + 1) zs = true :=
  List.all_eq_true.2 fun x hm => decide_eq_true (by have := okN_mem h x hm; omega)

/-! Works whose names stay. -/
theorem atW_names : ∀ {ws us : List Wk} (n : ByteArray), ws.map Wk.name = us.map Wk.name → atW ws n = atW us n
  | [], [], _, _ => rfl
  | [], _ :: _, _, h => by simp at h
  | _ :: _, [], _, h => by simp at h
  | x :: r, y :: t, n, h => by
    rw [List.map_cons, List.map_cons, List.cons.injEq] at h
    unfold atW
    rw [h.1, atW_names (ws := r) (us := t) n h.2]
def upM (l : List ByteArray) (i : Nat) : Bool := match i with
  | 0 => true
  | i + 1 => match l[i]?, l[i + 1]? with
    | some a, some b => blt a b
    | _, _ => true
theorem upB_map (ws : List Wk) (i : Nat) : upB ws i = upM (ws.map Wk.name) i := by
  cases i with
  | zero => rfl
  | succ i =>
    unfold upB upM
    simp only [List.getElem?_map]
    cases ws[i]? <;> cases ws[i + 1]? <;> rfl
theorem upW_names {ws us : List Wk} (h : ws.map Wk.name = us.map Wk.name) : upW ws = upW us := by
  have hl : ws.length = us.length := by simpa using congrArg List.length h
  unfold upW
  rw [hl]
  congr 1
  funext i
  rw [upB_map, upB_map, h]
theorem set_names {ws : List Wk} {a : Nat} (h : a < ws.length) (b : Bool) (z : Int) : (ws.set a ⟨ws[a].name, b, z⟩).map Wk.name = ws.map Wk.name := by
  rw [List.map_set]
  exact List.ext_getElem (by simp) (fun i h1 h2 => by
    rw [List.getElem_set]
    split
    · rename_i e
      subst e
      simp
    · rfl)
theorem okW_mem {nx : Int} {ws : List Wk} (h : okW nx ws = true) : ∀ x ∈ ws, nmOk x.name = true ∧ 0 ≤ x.se ∧ x.se < nx := fun x hx => by
  have := List.all_eq_true.1 h x hx
  unfold wkOk at this
  rw [Bool.and_eq_true, decide_eq_true_eq] at this
  exact this
theorem okW_set {nx ny : Int} {ws : List Wk} {a : Nat} (h : okW nx ws = true) (ha : a < ws.length) (b : Bool) {z : Int} (hn : nx ≤ ny) (hz : 0 ≤ z ∧ z < ny) : okW ny (ws.set a ⟨ws[a].name, b, z⟩) = true := by
  refine List.all_eq_true.2 fun x hx => ?_
  unfold wkOk
  rw [Bool.and_eq_true, decide_eq_true_eq]
  rcases List.mem_or_eq_of_mem_set hx with h1 | rfl
  · have := okW_mem h x h1
    exact ⟨this.1, this.2.1, by omega⟩
  · exact ⟨(okW_mem h ws[a] (List.getElem_mem ha)).1, hz⟩
theorem hasW_set {ws : List Wk} {n : ByteArray} (h : hasW ws n = true) (b : Bool) (z : Int) : ∃ ha : atW ws n < ws.length, atW (ws.set (atW ws n) ⟨ws[atW ws n].name, b, z⟩) n = atW ws n ∧ (ws.set (atW ws n) ⟨ws[atW ws n].name, b, z⟩)[atW ws n]? = some ⟨n, b, z⟩ := by
  have ha := hasW_lt h
  refine ⟨ha, atW_names n (set_names ha b z), ?_⟩
  rw [List.getElem?_set_self ha, hasW_name h ha]

/-- Behind a token that was issued the issuer is good. -/
theorem sg_good {s : Is} {who : ByteArray} (ks : List Lk) (h : isB s = true) (hw : hasW s.ws who = true) (hf : fullB s = false) : isB (sgX s ks who) = true := by
  obtain ⟨h1, h2, h3, h4, h5⟩ := isB_parts h
  obtain ⟨a1, a2, a3, a4⟩ := isB_hd h
  have ha := hasW_lt hw
  unfold fullB at hf
  rw [Bool.or_eq_false_iff] at hf
  have f1 : s.nx ≠ 100000 := ne_of_beq_false hf.1
  have f2 : s.sg.length ≠ 200 := of_decide_eq_false hf.2
  unfold sgX
  rw [seSet_at ha]
  refine isB_yes ?_ ?_ ?_ h4 (okN_up h5)
  · unfold hdB
    rw [Bool.and_eq_true, Bool.and_eq_true, decide_eq_true_eq, decide_eq_true_eq, decide_eq_true_eq]
    refine ⟨by rw [List.length_set]; exact a1, ⟨by show 1 ≤ s.nx + 1; omega, by show s.nx + 1 ≤ 100000; omega⟩, by simp; omega⟩
  · rw [upW_names (set_names ha _ _)]
    exact h2
  · exact okW_set h3 ha _ (by show s.nx ≤ s.nx + 1; omega) ⟨by omega, by show s.nx < s.nx + 1; omega⟩
theorem sg_has {s : Is} {who : ByteArray} (ks : List Lk) (hw : livW s.ws who = true) : (sgX s ks who).ws[atW (sgX s ks who).ws who]? = some ⟨who, true, s.nx⟩ := by
  have h1 := livW_has hw
  have ha := hasW_lt h1
  have hl : s.ws[atW s.ws who].live = true := by
    rw [livW_at ha, h1] at hw
    simpa using hw
  obtain ⟨_, h2, h3⟩ := hasW_set h1 true s.nx
  show (seSet s.ws (atW s.ws who) s.nx)[atW (seSet s.ws (atW s.ws who) s.nx) who]? = _
  rw [seSet_at ha, hl, h2, h3]
theorem sg_live {s : Is} {who : ByteArray} (ks : List Lk) (hw : livW s.ws who = true) : livW (sgX s ks who).ws who = true := by
  unfold livW
  rw [sg_has ks hw]
  simp
theorem sg_hasW {s : Is} {who : ByteArray} (ks : List Lk) (hw : livW s.ws who = true) : hasW (sgX s ks who).ws who = true := livW_has (sg_live ks hw)
/-- .. its work has the serial that was told. -/
theorem sg_serial {s : Is} {who : ByteArray} (ks : List Lk) (h : isB s = true) (hw : livW s.ws who = true) (hf : fullB s = false) : seX (sgX s ks who) who = (s.nx, true) := by
  unfold seX
  rw [sg_good ks h (livW_has hw) hf, if_neg (by decide), sg_has ks hw]
  show (if hasW (sgX s ks who).ws who = true then (s.nx, true) else (0, false)) = _
  rw [if_pos (sg_hasW ks hw)]
/-- .. and who has it can be revoked. -/
theorem sg_revoke {s : Is} {who : ByteArray} (ks : List Lk) (h : isB s = true) (hn : nmOk who = true) (hw : livW s.ws who = true) (hf : fullB s = false) :
    rkX (sgX s ks who) who = (⟨liSet (sgX s ks who).ws (atW (sgX s ks who).ws who) false, s.nx + 1, s.rv ++ [s.nx], s.sg ++ [tkT ks]⟩, ((s.rv.length + 1 : Nat) : Int), 0) := by
  have hg := sg_good ks h (livW_has hw) hf
  have h5 := (isB_parts h).2.2.2.2
  have hr : rvN s.rv s.nx = s.rv ++ [s.nx] := rvN_new (fun x hx => (okN_mem h5 x hx).2) (isB_hd h).2.1
  unfold rkX
  rw [hg, hn, if_neg (by decide), if_neg (by rw [sg_live ks hw]; decide), sg_has ks hw]
  show ((⟨_, s.nx + 1, rvN s.rv s.nx, s.sg ++ [tkT ks]⟩ : Is), ((rvN s.rv s.nx).length : Int), (0 : Int)) = _
  rw [hr, List.length_append, List.length_singleton]
theorem rk_good {s : Is} {who : ByteArray} (ks : List Lk) (h : isB s = true) (hw : livW s.ws who = true) (hf : fullB s = false) : isB ⟨liSet (sgX s ks who).ws (atW (sgX s ks who).ws who) false, s.nx + 1, s.rv ++ [s.nx], s.sg ++ [tkT ks]⟩ = true := by
  have hg := sg_good ks h (livW_has hw) hf
  have h5 := (isB_parts h).2.2.2.2
  have hlt := fun x hx => (okN_mem h5 x hx).2
  have h1 := (isB_hd h).2.1
  obtain ⟨g1, g2, g3, g4, g5⟩ := isB_parts hg
  have ha : atW (sgX s ks who).ws who < (sgX s ks who).ws.length := hasW_lt (sg_hasW ks hw)
  have hse : (sgX s ks who).ws[atW (sgX s ks who).ws who].se = s.nx := by
    have := sg_has ks hw
    rw [List.getElem?_eq_getElem ha] at this
    rw [Option.some.inj this]
  rw [liSet_at ha]
  refine isB_yes ?_ ?_ ?_ (upN_app (isB_parts h).2.2.2.1 hlt) (okN_app h5 h1 (Int.le_refl _))
  · unfold hdB at g1 ⊢
    rw [Bool.and_eq_true, Bool.and_eq_true, decide_eq_true_eq, decide_eq_true_eq, decide_eq_true_eq] at g1 ⊢
    exact ⟨by rw [List.length_set]; exact g1.1, g1.2.1, g1.2.2⟩
  · rw [upW_names (set_names ha _ _)]
    exact g2
  · exact okW_set g3 ha _ (Int.le_refl _) (by rw [hse]; exact ⟨by omega, by show s.nx < s.nx + 1; omega⟩)

theorem tk_one (k : Lk) : tkB [k] = k.good := by
  unfold tkB
  rw [List.length_singleton, tkTo_succ, tkTo_zero, lkAt_zero (by simp)]
  simp
theorem sgTo_one (k : Lk) : sgTo [k] 1 = [tkT [k]] := by simp [sgTo]
/-- What is told of a token of one link that was signed last. -/
theorem chk_one {s : Is} {name tq : ByteArray} {nw li : Int} (hB : itB s name tq nw li = true) (sg : List ByteArray) (rv : List Int) (hs : sg.length + 1 ≤ 200) (hr : rv.length ≤ 200) :
    chkX [itK s name tq nw li] (sgTo [itK s name tq nw li] 1) (sg ++ [tkT [itK s name tq nw li]]) nw rv tq = if isI rv s.nx = true then 4 else 0 := by
  obtain ⟨h1, h2, h3, h4, h5⟩ := itB_parts hB
  have a4 := of_decide_eq_true h4
  have a5 := of_decide_eq_true h5
  have hg := itK_good hB
  have ht : tkB [itK s name tq nw li] = true := by rw [tk_one]; exact hg
  have ha : argB nw tq (sg ++ [tkT [itK s name tq nw li]]) rv = true := by
    unfold argB
    rw [h4, show gnB (split tq 47) = true from h3, decide_eq_true (by simpa using hs), decide_eq_true hr]
    rfl
  rw [chkX_yes _ ht ha, sgTo_one]
  have e1 : allT (sg ++ [tkT [itK s name tq nw li]]) [tkT [itK s name tq nw li]] = true := by
    unfold allT hasT
    simp
  have e2 : inT [itK s name tq nw li] nw = true := by
    unfold inT tmIn
    simp only [List.all_cons, List.all_nil, Bool.and_true, decide_eq_true_eq]
    exact ⟨Int.le_refl _, by show nw ≤ mnI (nw + li) 100000; unfold mnI; omega⟩
  have e3 : rvB [itK s name tq nw li] rv = isI rv s.nx := by
    unfold rvB
    simp only [List.any_cons, List.any_nil, Bool.or_false]
    rfl
  have e4 : toOk [itK s name tq nw li] tq = true := by
    unfold toOk
    show ((itK s name tq nw li).to.toList == tq.toList) = true
    exact beq_self_eq_true _
  unfold chk1
  rw [e1, e2, e3, e4, if_neg (by decide), if_neg (by decide), if_neg (by decide : ¬ (true = false))]
theorem isI_last (rv : List Int) (z : Int) : isI (rv ++ [z]) z = true := by simp [isI]

end Go.Proofs.YtallpldgkkpikaaGreatDoor

namespace Go.Proofs.YtallpldgkkpikaaGreatDoor
open Go.RowKit Go.Shelf

set_option maxHeartbeats 2000000 in
theorem mayIssue_any (v : Value) (s : Is) (name : ByteArray) (p0 p1 p2 p3 : Addr) (w : World) (hs : s.short) (hE : ErA w p0 p1 p2 p3) (h : IsA w v s) :
    Calls Tryz.prog 50 #[v, .string name] w fun e w' => e = .returned ((maE s name).val p0 p1 p2 p3) ∧ Below w.heap.size w w' := by
  obtain ⟨aw, cw, ar, cr, ag, cg, rfl⟩ := is_forms h
  have l3 := hs.2.2
  have hB0 : Below w.heap.size w (w.alloc (.cells #[.slice aw s.ws.length cw, .int .i64 s.nx, .slice ar s.rv.length cr, .slice ag s.sg.length cg] 27)) := (Below.refl _ w).alloc (Nat.le_refl _) _
  have F := Four.new w (.slice aw s.ws.length cw) (.int .i64 s.nx) (.slice ar s.rv.length cr) (.slice ag s.sg.length cg) 27
  go_enter Tryz.func50, Tryz.ntmps50
  go_wp2_with fail
  generalize w.alloc (.cells #[.slice aw s.ws.length cw, .int .i64 s.nx, .slice ar s.rv.length cr, .slice ag s.sg.length cg] 27) = W0 at *
  refine (isLive_any _ s name _ hs.1 (h.below hB0)).mono ?_
  rintro e w1 ⟨rfl, hB1⟩
  replace F := F.below hB1
  replace hB0 := below_one hB0 hB1
  clear hB1
  have E1 := hE.below hB0
  have g2 := E1.g2
  have g3 := E1.g3
  obtain ⟨a0, a1, a2, a3⟩ := F.c
  cases hl : livW s.ws name
  · have HR := hid (maE_no hl)
    go_wp2_with fail
    go_ret
    exact ⟨ret_er (x := .noWork) HR.out, hB0⟩
  cases e1 : (s.nx == 100000)
  · cases e2 : ((s.sg.length : Int) == 200)
    · have HR := hid (maE_yes hl (full3 e1 e2))
      go_wp2_with fail
      go_ret
      exact ⟨ret_er (x := .nil) HR.out, hB0⟩
    · have HR := hid (maE_full hl (full2 e2))
      go_wp2_with fail
      go_ret
      exact ⟨ret_er (x := .full) HR.out, hB0⟩
  · have HR := hid (maE_full hl (full1 e1))
    go_wp2_with fail
    go_ret
    exact ⟨ret_er (x := .full) HR.out, hB0⟩

theorem itL_no {s : Is} {name tq : ByteArray} {nw li : Int} {x : Er} (h : itE s name tq nw li = x) (hx : x ≠ .nil) : itL s name tq nw li = [] := by
  unfold itL
  rw [h]
  cases x
  · exact absurd rfl hx
  all_goals rfl
theorem itL_yes {s : Is} {name tq : ByteArray} {nw li : Int} (h : itE s name tq nw li = .nil) : itL s name tq nw li = [itK s name tq nw li] := by
  unfold itL
  rw [h]
theorem it_bad {s : Is} {name tq : ByteArray} {nw li : Int} (h : itB s name tq nw li = false) : itE s name tq nw li = .bad := by unfold itE; rw [h]; rfl
theorem row_five5 (W : World) (k : Lk) : (W.alloc (.cells #[.string k.who, .string k.to, .int .i64 k.se, .int .i64 k.fr, .int .i64 k.un] 38)).ownsRow W.heap.size 38 5 (.slice (some ⟨W.heap.size, 0, none⟩) 1 1) 1 k.cells :=
  ⟨rfl, .inr ⟨W.heap.size, 1, #[.string k.who, .string k.to, .int .i64 k.se, .int .i64 k.fr, .int .i64 k.un], rfl, Nat.le_refl _, by show (W.heap.push _)[W.heap.size]? = _; rw [Array.getElem?_push_size], Nat.le_refl _, by unfold maxLen; omega, rfl, rfl⟩⟩

set_option maxHeartbeats 8000000 in
set_option maxRecDepth 100000 in
theorem firstToken_any (v : Value) (s : Is) (name tq : ByteArray) (nw li : Int) (p0 p1 p2 p3 : Addr) (w : World) (hs : s.short) (hn : s.named) (hm : name.size ≤ 1048576) (hm2 : tq.size ≤ 1048576) (hE : ErA w p0 p1 p2 p3) (h : IsA w v s) :
    Calls Tryz.prog 17 #[v, .string name, .string tq, .int .i64 nw, .int .i64 li] w fun e w' => ∃ vl, e = .returned (.tuple #[vl, (itE s name tq nw li).val p0 p1 p2 p3]) ∧ w'.ownsRow w.heap.size 38 5 vl (itL s name tq nw li).length ((itL s name tq nw li).flatMap Lk.cells) ∧ (itE s name tq nw li ≠ .nil → vl = .slice none 0 0) ∧ Below w.heap.size w w' := by
  obtain ⟨aw, cw, ar, cr, ag, cg, rfl⟩ := is_forms h
  have hBB : Below w.heap.size w ((w.alloc (.cells #[.slice aw s.ws.length cw, .int .i64 s.nx, .slice ar s.rv.length cr, .slice ag s.sg.length cg] 27)).alloc (.cells #[.string name, .string tq] 87)) := ((Below.refl _ w).alloc (Nat.le_refl _) _).alloc (by simp) _
  have F1 := (Four.new w (.slice aw s.ws.length cw) (.int .i64 s.nx) (.slice ar s.rv.length cr) (.slice ag s.sg.length cg) 27).below ((Below.refl _ _).alloc (Nat.le_refl _) (.cells #[.string name, .string tq] 87))
  have F2 := Two.at (w.alloc (.cells #[.slice aw s.ws.length cw, .int .i64 s.nx, .slice ar s.rv.length cr, .slice ag s.sg.length cg] 27)) (.string name) (.string tq) 87 (k := w.heap.size + 1) (by simp)
  obtain ⟨a0, a1, a2, a3⟩ := F1.c
  go_enter Tryz.func17, Tryz.ntmps17
  go_wp2_with fail
  generalize (w.alloc (.cells #[.slice aw s.ws.length cw, .int .i64 s.nx, .slice ar s.rv.length cr, .slice ag s.sg.length cg] 27)).alloc (.cells #[.string name, .string tq] 87) = W0 at *
  refine (implGoodIssuer_any _ s _ hs hn (h.below hBB)).mono ?_
  rintro e w1 ⟨rfl, hB1⟩
  replace F1 := F1.below hB1
  replace F2 := F2.below hB1
  replace hBB := below_one hBB hB1
  clear hB1 a0 a1 a2 a3
  obtain ⟨b0, b1⟩ := F2.c
  cases hg : isB s
  case false =>
    have HR := hid (it_bad (s := s) (name := name) (tq := tq) (nw := nw) (li := li) (by unfold itB; rw [hg]; rfl))
    have HL := hid (itL_no HR.out (by intro h; cases h))
    have g0 := (hE.below hBB).g0
    go_wp2_with fail
    go_quiet (fail)
    go_wp2
    go_ret2
    exact ⟨_, by rw [HR.out]; rfl, by rw [HL.out]; exact World.ownsRow_nil _ _ _ _, fun _ => rfl, below_drewn hBB _⟩
  go_wp2_with fail
  refine (named_any name tq _ hm hm2).mono ?_
  rintro e w2 ⟨rfl, hB2⟩
  replace F1 := F1.below hB2
  replace F2 := F2.below hB2
  replace hBB := below_one hBB hB2
  clear hB2 b0 b1
  cases hg2 : (nmOk name && nmOk tq)
  case false =>
    have HR := hid (it_bad (s := s) (name := name) (tq := tq) (nw := nw) (li := li) (by unfold itB; rw [hg2]; simp))
    have HL := hid (itL_no HR.out (by intro h; cases h))
    have g0 := (hE.below hBB).g0
    go_wp2_with fail
    go_quiet (fail)
    go_wp2
    go_ret2
    exact ⟨_, by rw [HR.out]; rfl, by rw [HL.out]; exact World.ownsRow_nil _ _ _ _, fun _ => rfl, below_drewn hBB _⟩
  go_wp2_with fail
  refine (goodTime_any nw _).mono ?_
  rintro e w3 ⟨rfl, rfl⟩
  cases hg3 : tmB nw
  case false =>
    have HR := hid (it_bad (s := s) (name := name) (tq := tq) (nw := nw) (li := li) (by unfold itB; rw [hg3]; simp))
    have HL := hid (itL_no HR.out (by intro h; cases h))
    have g0 := (hE.below hBB).g0
    go_wp2_with fail
    go_quiet (fail)
    go_wp2
    go_ret2
    exact ⟨_, by rw [HR.out]; rfl, by rw [HL.out]; exact World.ownsRow_nil _ _ _ _, fun _ => rfl, below_drewn hBB _⟩
  go_wp2_with fail
  refine (goodTime_any li _).mono ?_
  rintro e w4 ⟨rfl, rfl⟩
  cases hg4 : tmB li
  case false =>
    have HR := hid (it_bad (s := s) (name := name) (tq := tq) (nw := nw) (li := li) (by unfold itB; rw [hg4]; simp))
    have HL := hid (itL_no HR.out (by intro h; cases h))
    have g0 := (hE.below hBB).g0
    go_wp2_with fail
    go_quiet (fail)
    go_wp2
    go_ret2
    exact ⟨_, by rw [HR.out]; rfl, by rw [HL.out]; exact World.ownsRow_nil _ _ _ _, fun _ => rfl, below_drewn hBB _⟩
  have HB := hid (show itB s name tq nw li = true by unfold itB; rw [hg, hg2, hg3, hg4]; rfl)
  have HM := hid (show itE s name tq nw li = maE s name by unfold itE; rw [if_pos HB.out])
  obtain ⟨a0, a1, a2, a3⟩ := F1.c
  go_wp2_with fail
  refine (mayIssue_any _ s name p0 p1 p2 p3 _ hs (hE.below hBB) (h.below hBB)).mono ?_
  rintro e w5 ⟨rfl, hB5⟩
  replace F1 := F1.below hB5
  replace F2 := F2.below hB5
  replace hBB := below_one hBB hB5
  clear hB5 a0 a1 a2 a3
  cases hma : maE s name with
  | bad => exact absurd hma (maE_not s name).1
  | twice => exact absurd hma (maE_not s name).2
  | noWork =>
    have HR := hid (show itE s name tq nw li = .noWork by rw [HM.out, hma])
    have HL := hid (itL_no HR.out (by intro h; cases h))
    go_wp2_with fail
    go_ret2
    exact ⟨_, by rw [HR.out]; rfl, by rw [HL.out]; exact World.ownsRow_nil _ _ _ _, fun _ => rfl, hBB⟩
  | full =>
    have HR := hid (show itE s name tq nw li = .full by rw [HM.out, hma])
    have HL := hid (itL_no HR.out (by intro h; cases h))
    go_wp2_with fail
    go_ret2
    exact ⟨_, by rw [HR.out]; rfl, by rw [HL.out]; exact World.ownsRow_nil _ _ _ _, fun _ => rfl, hBB⟩
  | nil =>
    have HR := hid (show itE s name tq nw li = .nil by rw [HM.out, hma])
    have HL := hid (itL_yes HR.out)
    obtain ⟨mm, HMM⟩ : ∃ m, Hid (m = mnI (nw + li) 100000) := ⟨_, hid rfl⟩
    have hBs : Below w5.heap.size w5 (w5.alloc (.cells #[.int .i64 0, .int .i64 100000] 90)) := (Below.refl _ w5).alloc (Nat.le_refl _) _
    have F3 := Two.new w5 (.int .i64 0) (.int .i64 100000) 90
    replace F1 := F1.below hBs
    replace F2 := F2.below hBs
    replace hBB := below_one hBB hBs
    have hk2 := F2.lt
    clear hBs hma HM
    go_wp2_with fail
    generalize w5.alloc (.cells #[.int .i64 0, .int .i64 100000] 90) = W6 at *
    generalize w5.heap.size = ks at *
    have hBd : Below W6.heap.size W6 W6.drew := (Below.refl _ _).drew
    replace F1 := F1.below hBd
    replace F2 := F2.below hBd
    replace F3 := F3.below hBd
    replace hBB := below_one hBB hBd
    clear hBd
    obtain ⟨a0, a1, a2, a3⟩ := F1.c
    obtain ⟨b0, b1⟩ := F2.c
    obtain ⟨c0, c1⟩ := F3.c
    refine wp_region_held_drew (S := fun w' => w'.cell? ⟨w.heap.size + 1, 0, none⟩ = some (.string name) ∧ w'.cell? ⟨w.heap.size + 1, 1, none⟩ = some (.string tq) ∧ w'.cell? ⟨ks, 0, none⟩ = some (.int .i64 0) ∧ w'.cell? ⟨ks, 1, none⟩ = some (.int .i64 100000) ∧ w'.cell? ⟨w.heap.size, 1, none⟩ = some (.int .i64 s.nx)) (by kernel_rfl) ?_ (fun hHeld => ?_)
    · exact ⟨b0, b1, c0, c1, a1⟩
    generalize W6.drew = Wd at *
    clear a0 a1 a2 a3 b0 b1 c0 c1
    have hBz : Below Wd.heap.size Wd (Wd.alloc (.cells #[.string ⟨#[]⟩, .string ⟨#[]⟩, .int .i64 0, .int .i64 0, .int .i64 0] 93)) := (Below.refl _ Wd).alloc (Nat.le_refl _) _
    have Z1 := F1.below hBz
    have Z2 := F2.below hBz
    have Z3 := F3.below hBz
    refine takeW 0 (v := ?v1) rfl (by kernel_rfl) (by kernel_rfl) (by kernel_rfl) (fun _ _ _ h => h) (by rfl) (by assumption) ?hy1 ?rest1
    case hy1 => intro w' hSw; (try dsimp only at hSw); go_simp; try with_reducible rfl
    try simp only [Act.put, List.setIfInBounds_toArray, List.set_cons_zero, List.set_cons_succ]
    refine takeW 1 (v := ?v2) rfl (by kernel_rfl) (by kernel_rfl) (by kernel_rfl) (fun _ _ _ h => h) (by rfl) (by assumption) ?hy2 ?rest2
    case hy2 => intro w' hSw; (try dsimp only at hSw); go_simp; try with_reducible rfl
    try simp only [Act.put, List.setIfInBounds_toArray, List.set_cons_zero, List.set_cons_succ]
    refine takeW 2 (v := ?v3) rfl (by kernel_rfl) (by kernel_rfl) (by kernel_rfl) (fun _ _ _ h => h) (by rfl) (by assumption) ?hy3 ?rest3
    case hy3 => intro w' hSw; (try dsimp only at hSw); go_simp; try with_reducible rfl
    try simp only [Act.put, List.setIfInBounds_toArray, List.set_cons_zero, List.set_cons_succ]
    refine takeW 3 (v := ?v4) rfl (by kernel_rfl) (by kernel_rfl) (by kernel_rfl) (fun _ _ _ h => h) (by rfl) (by assumption) ?hy4 ?rest4
    case hy4 => intro w' hSw; (try dsimp only at hSw); go_simp; try with_reducible rfl
    try simp only [Act.put, List.setIfInBounds_toArray, List.set_cons_zero, List.set_cons_succ]
    refine takeW 5 (v := ?v5) rfl (by kernel_rfl) (by kernel_rfl) (by kernel_rfl) (fun _ _ _ h => h) (by rfl) (by assumption) ?hy5 ?rest5
    case hy5 => intro w' hSw; (try dsimp only at hSw); go_simp; try with_reducible rfl
    try simp only [Act.put, List.setIfInBounds_toArray, List.set_cons_zero, List.set_cons_succ]
    refine takeW 6 (v := ?v6) rfl (by kernel_rfl) (by kernel_rfl) (by kernel_rfl) (fun _ _ _ h => h) (by rfl) (by assumption) ?hy6 ?rest6
    case hy6 => intro w' hSw; (try dsimp only at hSw); go_simp; try with_reducible rfl
    try simp only [Act.put, List.setIfInBounds_toArray, List.set_cons_zero, List.set_cons_succ]
    refine takeC2 4 8 (by kernel_rfl) rfl rfl (fun K hK => ?_) (fun K hK => ?_)
    · go_simp
      refine (onFrom_any 0 100000 nw li _ hg3 hg4).mono ?_; rintro e w7 ⟨rfl, hB7⟩; have G1 := F1.below hB7; have G2 := F2.below hB7; have G3 := F3.below hB7
      refine hK.out _ _ ?_ (fun hHeld => ?_)
      · exact ⟨G2.c.1, G2.c.2, G3.c.1, G3.c.2, G1.c.2.1⟩
      clear hK K
      try simp only [Act.put, List.setIfInBounds_toArray, List.set_cons_zero, List.set_cons_succ]
      rw [← HMM.out]
      have hBh : Below w7.heap.size w7 (w7.alloc (.cells #[.string name, .string tq, .int .i64 nw, .int .i64 mm, .int .i64 s.nx] 93)) := (Below.refl _ w7).alloc (Nat.le_refl _) _
      have H1 := G1.below hBh
      have H2 := G2.below hBh
      have H3 := G3.below hBh
      have hBy : Below w7.heap.size w7 (w7.alloc (.cells #[.string ⟨#[]⟩, .string ⟨#[]⟩, .int .i64 0, .int .i64 0, .int .i64 0] 93)) := (Below.refl _ w7).alloc (Nat.le_refl _) _
      have Y1 := G1.below hBy
      have Y2 := G2.below hBy
      have Y3 := G3.below hBy
      clear hBy
      refine takeW 7 (v := ?v7) rfl (by kernel_rfl) (by kernel_rfl) (by kernel_rfl) (fun _ _ _ h => h) (by rfl) (by assumption) ?hy7 ?rest7
      case hy7 => intro w' hSw; (try dsimp only at hSw); go_simp; try with_reducible rfl
      try simp only [Act.put, List.setIfInBounds_toArray, List.set_cons_zero, List.set_cons_succ]
      refine takeC 8 (by kernel_rfl) rfl (fun K hK => ?_)
      go_simp
      skip
      refine hK.out _ _ ?_ (fun hHeld => ?_)
      · exact ⟨Y2.c.1, Y2.c.2, Y3.c.1, Y3.c.2, Y1.c.2.1⟩
      clear hK K
      try simp only [Act.put, List.setIfInBounds_toArray, List.set_cons_zero, List.set_cons_succ]
      refine takeC 9 (by kernel_rfl) rfl (fun K hK => ?_)
      go_simp
      skip
      refine hK.out _ _ ?_ (fun hHeld => ?_)
      · exact ⟨H2.c.1, H2.c.2, H3.c.1, H3.c.2, H1.c.2.1⟩
      clear hK K
      try simp only [Act.put, List.setIfInBounds_toArray, List.set_cons_zero, List.set_cons_succ]
      refine wpAnyH_done (by kernel_rfl) ?_ _
      have F4 := Five.new w7 (.string name) (.string tq) (.int .i64 nw) (.int .i64 mm) (.int .i64 s.nx) 93
      replace hBB := below_one (below_one hBB hB7) hBh
      clear hHeld H1 H2 H3 G1 G2 G3 Y1 Y2 Y3 hBh hB7 F1 F2 F3 hBz Z1 Z2 Z3
      generalize w7.alloc (.cells #[.string name, .string tq, .int .i64 nw, .int .i64 mm, .int .i64 s.nx] 93) = W8 at *
      generalize w7.heap.size = kh at *
      rw [HMM.out] at F4
      obtain ⟨e0, e1, e2, e3, e4⟩ := F4.c
      go_wp2_with fail
      refine (link_any (itK s name tq nw li) _).mono ?_
      rintro e w8 ⟨rfl, hB8⟩
      clear e0 e1 e2 e3 e4
      have hb8 := below_one hBB hB8
      have hbz := hb8.size
      go_wp2_with fail
      go_ret2
      exact ⟨_, by rw [HR.out]; rfl, by rw [HL.out]; exact Go.Joins.ownsRow_le (by simpa using row_five5 w8 (itK s name tq nw li)) hbz, fun h => absurd HR.out h, hb8.alloc hbz _⟩
    · go_simp
      skip
      refine hK.out _ _ ?_ (fun hHeld => ?_)
      · exact ⟨Z2.c.1, Z2.c.2, Z3.c.1, Z3.c.2, Z1.c.2.1⟩
      clear hK K
      try simp only [Act.put, List.setIfInBounds_toArray, List.set_cons_zero, List.set_cons_succ]
      have F4 := Five.new Wd (.string ⟨#[]⟩) (.string ⟨#[]⟩) (.int .i64 0) (.int .i64 0) (.int .i64 0) 93
      replace hBB := below_one hBB hBz
      have hkd : w.heap.size + 1 < Wd.heap.size := F2.lt
      have hkd3 := F3.lt
      clear F1 F2 F3 hBz
      generalize Wd.alloc (.cells #[.string ⟨#[]⟩, .string ⟨#[]⟩, .int .i64 0, .int .i64 0, .int .i64 0] 93) = We at *
      generalize Wd.heap.size = kh at *
      have F1 := Z1
      have F2 := Z2
      have F3 := Z3
      clear Z1 Z2 Z3
      refine takeC 4 (by kernel_rfl) rfl (fun K hK => ?_)
      go_simp
      refine (onFrom_any 0 100000 nw li _ hg3 hg4).mono ?_; rintro e w7 ⟨rfl, hB7⟩; have G1 := F1.below hB7; have G2 := F2.below hB7; have G3 := F3.below hB7
      refine hK.out _ _ ?_ (fun hHeld => ?_)
      · exact ⟨G2.c.1, G2.c.2, G3.c.1, G3.c.2, G1.c.2.1⟩
      clear hK K
      try simp only [Act.put, List.setIfInBounds_toArray, List.set_cons_zero, List.set_cons_succ]
      rw [← HMM.out]
      replace F4 := F4.below hB7
      obtain ⟨e0, e1, e2, e3, e4⟩ := F4.c
      have f0 := F4.f 0
      have f1 := F4.f 1
      have f2 := F4.f 2
      have f3 := F4.f 3
      have f4 := F4.f 4
      have n1 : w.heap.size ≠ kh := by omega
      have n2 : w.heap.size + 1 ≠ kh := by omega
      have n3 : ks ≠ kh := by omega
      have H1 := ((((G1.other n1 0 (.string name)).other n1 1 (.string tq)).other n1 2 (.int .i64 nw)).other n1 3 (.int .i64 mm)).other n1 4 (.int .i64 s.nx)
      have H2 := ((((G2.other n2 0 (.string name)).other n2 1 (.string tq)).other n2 2 (.int .i64 nw)).other n2 3 (.int .i64 mm)).other n2 4 (.int .i64 s.nx)
      have H3 := ((((G3.other n3 0 (.string name)).other n3 1 (.string tq)).other n3 2 (.int .i64 nw)).other n3 3 (.int .i64 mm)).other n3 4 (.int .i64 s.nx)
      refine takeW 7 (v := ?v8) rfl (by kernel_rfl) (by kernel_rfl) (by kernel_rfl) (fun _ _ _ h => h) (by rfl) (by assumption) ?hy8 ?rest8
      case hy8 => intro w' hSw; (try dsimp only at hSw); go_simp; try with_reducible rfl
      try simp only [Act.put, List.setIfInBounds_toArray, List.set_cons_zero, List.set_cons_succ]
      refine takeC 9 (by kernel_rfl) rfl (fun K hK => ?_)
      go_simp
      skip
      refine hK.out _ _ ?_ (fun hHeld => ?_)
      · exact ⟨H2.c.1, H2.c.2, H3.c.1, H3.c.2, H1.c.2.1⟩
      clear hK K
      try simp only [Act.put, List.setIfInBounds_toArray, List.set_cons_zero, List.set_cons_succ]
      refine wpAnyH_done (by kernel_rfl) ?_ _
      replace F4 := ((((F4.s0 (.string name)).s1 (.string tq)).s2 (.int .i64 nw)).s3 (.int .i64 mm)).s4 (.int .i64 s.nx)
      replace hBB := below_five (below_one hBB hB7) (k := kh) (by omega) (.string name) (.string tq) (.int .i64 nw) (.int .i64 mm) (.int .i64 s.nx)
      clear hHeld H1 H2 H3 G1 G2 G3 hB7 F1 F2 F3 e0 e1 e2 e3 e4 f0 f1 f2 f3 f4
      generalize ((((w7.setCell ⟨kh, 0, none⟩ (.string name)).setCell ⟨kh, 1, none⟩ (.string tq)).setCell ⟨kh, 2, none⟩ (.int .i64 nw)).setCell ⟨kh, 3, none⟩ (.int .i64 mm)).setCell ⟨kh, 4, none⟩ (.int .i64 s.nx) = W8 at *
      rw [HMM.out] at F4
      obtain ⟨e0, e1, e2, e3, e4⟩ := F4.c
      go_wp2_with fail
      refine (link_any (itK s name tq nw li) _).mono ?_
      rintro e w8 ⟨rfl, hB8⟩
      clear e0 e1 e2 e3 e4
      have hb8 := below_one hBB hB8
      have hbz := hb8.size
      go_wp2_with fail
      go_ret2
      exact ⟨_, by rw [HR.out]; rfl, by rw [HL.out]; exact Go.Joins.ownsRow_le (by simpa using row_five5 w8 (itK s name tq nw li)) hbz, fun h => absurd HR.out h, hb8.alloc hbz _⟩

end Go.Proofs.YtallpldgkkpikaaGreatDoor

namespace Go.Proofs.YtallpldgkkpikaaGreatDoor
open Go.RowKit Go.Shelf

theorem row_len {w : World} {base : Nat} {e : TypeId} {size n m c : Nat} {a : Option Addr} {xs : List Value} (h : w.ownsRow base e size (.slice a m c) n xs) : m = n := by
  rcases h.2 with ⟨hv, h0⟩ | ⟨g, cap, cur, hv, _⟩
  · injection hv with _ h2 _
    omega
  · injection hv
theorem one_w {ws : List Wk} : ∀ u ∈ ws.flatMap Wk.cells, u.oneCell' = true := by
  intro u hu
  rw [List.mem_flatMap] at hu
  obtain ⟨r, _, hr⟩ := hu
  simp at hr
  rcases hr with rfl | rfl | rfl <;> rfl
theorem one_n {zs : List Int} : ∀ u ∈ nums zs, u.oneCell' = true := by
  intro u hu
  obtain ⟨z, _, rfl⟩ := List.mem_map.1 hu
  rfl
theorem one_s {ss : List ByteArray} : ∀ u ∈ strs ss, u.oneCell' = true := by
  intro u hu
  obtain ⟨z, _, rfl⟩ := List.mem_map.1 hu
  rfl

set_option maxHeartbeats 4000000 in
set_option maxRecDepth 100000 in
theorem beside_nil (v : Value) (s : Is) (base top : Nat) (w : World) (hs : s.short) (h : IsO w base top v s) :
    Calls Tryz.prog 39 #[v, .nilIface] w fun e w' => ∃ v', e = .returned v' ∧ IsO w' w.heap.size w'.heap.size v' s ∧ Below w.heap.size w w' := by
  obtain ⟨vw, vr, vs, rfl, h1, h2, h3, t1, t2, t3⟩ := h
  obtain ⟨l1, l2, l3⟩ := hs
  obtain ⟨aw, nw, cw, rfl⟩ := row_slice h1
  obtain ⟨ar, nr, cr, rfl⟩ := row_slice h2
  obtain ⟨ag, ng, cg, rfl⟩ := row_slice h3
  obtain rfl : nw = s.ws.length := row_len h1
  obtain rfl : nr = s.rv.length := row_len h2
  obtain rfl : ng = s.sg.length := row_len h3
  have one3 : ∀ u ∈ s.ws.flatMap Wk.cells, u.oneCell' = true := one_w
  have oneN : ∀ u ∈ nums s.rv, u.oneCell' = true := one_n
  have oneS : ∀ u ∈ strs s.sg, u.oneCell' = true := one_s
  have hB0 : Below w.heap.size w (((w.alloc (.cells #[.slice aw s.ws.length cw, .int .i64 s.nx, .slice ar s.rv.length cr, .slice ag s.sg.length cg] 27)).alloc (.cells #[.slice none 0 0, .int .i64 0, .slice none 0 0, .slice none 0 0] 27)).alloc (.cells #[.nilIface] 105)) := (((Below.refl _ w).alloc (Nat.le_refl _) _).alloc (by simp) _).alloc (by simp; omega) _
  have F1 := ((Four.new w (.slice aw s.ws.length cw) (.int .i64 s.nx) (.slice ar s.rv.length cr) (.slice ag s.sg.length cg) 27).below ((Below.refl _ _).alloc (Nat.le_refl _) (.cells #[.slice none 0 0, .int .i64 0, .slice none 0 0, .slice none 0 0] 27))).below ((Below.refl _ _).alloc (Nat.le_refl _) (.cells #[.nilIface] 105))
  have F2 := (Four.at (w.alloc (.cells #[.slice aw s.ws.length cw, .int .i64 s.nx, .slice ar s.rv.length cr, .slice ag s.sg.length cg] 27)) (.slice none 0 0) (.int .i64 0) (.slice none 0 0) (.slice none 0 0) 27 (k := w.heap.size + 1) (by simp)).below ((Below.refl _ _).alloc (Nat.le_refl _) (.cells #[.nilIface] 105))
  go_enter Tryz.func39, Tryz.ntmps39
  go_wp2_with fail
  have hBB1 := hB0
  have h1' := ownsRow_below h1 hB0
  have h2' := ownsRow_below h2 hB0
  have h3' := ownsRow_below h3 hB0
  clear hB0
  generalize ((w.alloc (.cells #[.slice aw s.ws.length cw, .int .i64 s.nx, .slice ar s.rv.length cr, .slice ag s.sg.length cg] 27)).alloc (.cells #[.slice none 0 0, .int .i64 0, .slice none 0 0, .slice none 0 0] 27)).alloc (.cells #[.nilIface] 105) = W1 at *
  obtain ⟨a0, a1, a2, a3⟩ := F1.c
  refine wp_region_held_drew (S := fun w' => w'.cell? ⟨w.heap.size, 0, none⟩ = some (.slice aw s.ws.length cw) ∧ w'.cell? ⟨w.heap.size, 1, none⟩ = some (.int .i64 s.nx) ∧ w'.cell? ⟨w.heap.size, 2, none⟩ = some (.slice ar s.rv.length cr) ∧ w'.cell? ⟨w.heap.size, 3, none⟩ = some (.slice ag s.sg.length cg)) (by kernel_rfl) ?_ (fun hHeld => ?_)
  · go_keep
  refine takeW 0 (v := ?v1) rfl (by kernel_rfl) (by kernel_rfl) (by kernel_rfl) (fun _ _ _ h => h) (by rfl) (by assumption) ?hy1 ?rest1
  case hy1 => intro w' hSw; (try dsimp only at hSw); go_simp; try with_reducible rfl
  try simp only [Act.put, List.setIfInBounds_toArray, List.set_cons_zero, List.set_cons_succ]
  refine takeW 1 (v := ?v2) rfl (by kernel_rfl) (by kernel_rfl) (by kernel_rfl) (fun _ _ _ h => h) (by rfl) (by assumption) ?hy2 ?rest2
  case hy2 => intro w' hSw; (try dsimp only at hSw); go_simp; try with_reducible rfl
  try simp only [Act.put, List.setIfInBounds_toArray, List.set_cons_zero, List.set_cons_succ]
  refine takeW 3 (v := ?v3) rfl (by kernel_rfl) (by kernel_rfl) (by kernel_rfl) (fun _ _ _ h => h) (by rfl) (by assumption) ?hy3 ?rest3
  case hy3 => intro w' hSw; (try dsimp only at hSw); go_simp; try with_reducible rfl
  try simp only [Act.put, List.setIfInBounds_toArray, List.set_cons_zero, List.set_cons_succ]
  refine takeW 4 (v := ?v4) rfl (by kernel_rfl) (by kernel_rfl) (by kernel_rfl) (fun _ _ _ h => h) (by rfl) (by assumption) ?hy4 ?rest4
  case hy4 => intro w' hSw; (try dsimp only at hSw); go_simp; try with_reducible rfl
  try simp only [Act.put, List.setIfInBounds_toArray, List.set_cons_zero, List.set_cons_succ]
  refine takeW 5 (v := ?v5) rfl (by kernel_rfl) (by kernel_rfl) (by kernel_rfl) (fun _ _ _ h => h) (by rfl) (by assumption) ?hy5 ?rest5
  case hy5 => intro w' hSw; (try dsimp only at hSw); go_simp; try with_reducible rfl
  try simp only [Act.put, List.setIfInBounds_toArray, List.set_cons_zero, List.set_cons_succ]
  refine takeW 6 (v := ?v6) rfl (by kernel_rfl) (by kernel_rfl) (by kernel_rfl) (fun _ _ _ h => h) (by rfl) (by assumption) ?hy6 ?rest6
  case hy6 => intro w' hSw; (try dsimp only at hSw); go_simp; try with_reducible rfl
  try simp only [Act.put, List.setIfInBounds_toArray, List.set_cons_zero, List.set_cons_succ]
  refine takeW 8 (v := ?v7) rfl (by kernel_rfl) (by kernel_rfl) (by kernel_rfl) (fun _ _ _ h => h) (by rfl) (by assumption) ?hy7 ?rest7
  case hy7 => intro w' hSw; (try dsimp only at hSw); go_simp; try with_reducible rfl
  try simp only [Act.put, List.setIfInBounds_toArray, List.set_cons_zero, List.set_cons_succ]
  refine takeW 9 (v := ?v8) rfl (by kernel_rfl) (by kernel_rfl) (by kernel_rfl) (fun _ _ _ h => h) (by rfl) (by assumption) ?hy8 ?rest8
  case hy8 => intro w' hSw; (try dsimp only at hSw); go_simp; try with_reducible rfl
  try simp only [Act.put, List.setIfInBounds_toArray, List.set_cons_zero, List.set_cons_succ]
  refine takeC 2 (by kernel_rfl) rfl (fun K hK => ?_)
  go_simp
  refine (cloneW_any _ base _ _ _ l1 one3 (by exact h1')).mono ?_; rintro e w2 ⟨v2, rfl, o2, hB2⟩; obtain ⟨x2, y2, z2, rfl⟩ := row_slice o2; have hc2 := fun o => hB2.cell (p := ⟨w.heap.size, o, none⟩) (by exact F1.lt); have G1 : Four w2 _ _ _ _ _ _ := F1.below (below_drew1 hB2); have G2 : Four w2 _ _ _ _ _ _ := F2.below (below_drew1 hB2); have hBB2 := below_one hBB1 (below_drew1 hB2); have h2'' := ownsRow_below h2' (below_drew1 hB2); have h3'' := ownsRow_below h3' (below_drew1 hB2)
  refine hK.out _ _ ?_ (fun hHeld => ?_)
  · go_keep
  clear hK K
  try simp only [Act.put, List.setIfInBounds_toArray, List.set_cons_zero, List.set_cons_succ]
  refine takeC 7 (by kernel_rfl) rfl (fun K hK => ?_)
  go_simp
  refine (cloneN_any _ base _ _ _ l2 oneN (by exact h2'')).mono ?_; rintro e w3 ⟨v3, rfl, o3, hB3⟩; obtain ⟨x3, y3, z3, rfl⟩ := row_slice o3; have hc3 := fun o => hB3.cell (p := ⟨w.heap.size, o, none⟩) (by exact G1.lt); have I1 := G1.below hB3; have I2 := G2.below hB3; have hBB3 := below_one hBB2 hB3; have h3''' := ownsRow_below h3'' hB3; have o2' := ownsRow_below o2 hB3
  refine hK.out _ _ ?_ (fun hHeld => ?_)
  · go_keep
  clear hK K
  try simp only [Act.put, List.setIfInBounds_toArray, List.set_cons_zero, List.set_cons_succ]
  refine takeC 10 (by kernel_rfl) rfl (fun K hK => ?_)
  go_simp
  refine (cloneS_any _ base _ _ _ l3 oneS (by exact h3''')).mono ?_; rintro e w4 ⟨v4, rfl, o4, hB4⟩; obtain ⟨x4, y4, z4, rfl⟩ := row_slice o4; have hc4 := fun o => hB4.cell (p := ⟨w.heap.size, o, none⟩) (by exact I1.lt); have J2 := I2.below hB4; have hBB4 := below_one hBB3 hB4; have o2'' := ownsRow_below o2' hB4; have o3' := ownsRow_below o3 hB4; obtain ⟨r0, r1, r2, r3⟩ := J2.c; have f0 := J2.f 0; have f1 := J2.f 1; have f2 := J2.f 2; have f3 := J2.f 3
  refine hK.out _ _ ?_ (fun hHeld => ?_)
  · go_keep
  clear hK K
  try simp only [Act.put, List.setIfInBounds_toArray, List.set_cons_zero, List.set_cons_succ]
  refine takeW 11 (v := ?v9) rfl (by kernel_rfl) (by kernel_rfl) (by kernel_rfl) (fun _ _ _ h => h) (by rfl) (by assumption) ?hy9 ?rest9
  case hy9 => intro w' hSw; (try dsimp only at hSw); go_simp; try with_reducible rfl
  try simp only [Act.put, List.setIfInBounds_toArray, List.set_cons_zero, List.set_cons_succ]
  refine takeC 12 (by kernel_rfl) rfl (fun K hK => ?_)
  go_simp
  skip
  refine hK.out _ _ ?_ (fun hHeld => ?_)
  · go_keep
  clear hK K
  try simp only [Act.put, List.setIfInBounds_toArray, List.set_cons_zero, List.set_cons_succ]
  refine wpAnyH_done (by kernel_rfl) ?_ _
  have G := (((J2.s0 (.slice x2 y2 z2)).s1 (.int .i64 s.nx)).s2 (.slice x3 y3 z3)).s3 (.slice x4 y4 z4)
  have p1 := row_four o2'' (k := w.heap.size + 1) (by exact F2.lt) (.slice x2 y2 z2) (.int .i64 s.nx) (.slice x3 y3 z3) (.slice x4 y4 z4)
  have p2 := row_four o3' (k := w.heap.size + 1) G2.lt (.slice x2 y2 z2) (.int .i64 s.nx) (.slice x3 y3 z3) (.slice x4 y4 z4)
  have p3 := row_four o4 (k := w.heap.size + 1) I2.lt (.slice x2 y2 z2) (.int .i64 s.nx) (.slice x3 y3 z3) (.slice x4 y4 z4)
  have pB := below_four hBB4 (k := w.heap.size + 1) (by omega) (.slice x2 y2 z2) (.int .i64 s.nx) (.slice x3 y3 z3) (.slice x4 y4 z4)
  go_wp2_with fail
  have s1 := hBB1.size
  have s2 := hBB2.size
  have s3 := hBB3.size
  clear r0 r1 r2 r3 f0 f1 f2 f3 hHeld hc2 hc3 hc4
  generalize (((w4.setCell ⟨w.heap.size + 1, 0, none⟩ (.slice x2 y2 z2)).setCell ⟨w.heap.size + 1, 1, none⟩ (.int .i64 s.nx)).setCell ⟨w.heap.size + 1, 2, none⟩ (.slice x3 y3 z3)).setCell ⟨w.heap.size + 1, 3, none⟩ (.slice x4 y4 z4) = W5 at *
  obtain ⟨d0, d1, d2, d3⟩ := G.c
  exact bodyPost_ret (v := .agg #[(.slice x2 y2 z2), .int .i64 s.nx, (.slice x3 y3 z3), (.slice x4 y4 z4)]) (by simp [results, Tryz.results39, go_sem, d0, d1, d2, d3]) rfl ⟨_, rfl, IsO.of (Go.Joins.ownsRow_le p1 s1) (Go.Joins.ownsRow_le p2 s2) (Go.Joins.ownsRow_le p3 s3), pB⟩

set_option maxHeartbeats 4000000 in
set_option maxRecDepth 100000 in
theorem beside_ref (v : Value) (s : Is) (p p0 p1 p2 p3 : Addr) (base top : Nat) (w : World) (hs : s.short) (hE : ErA w p0 p1 p2 p3) (h : IsO w base top v s) :
    Calls Tryz.prog 39 #[v, rV p] w fun e w' => ∃ v', e = .returned v' ∧ IsO w' w.heap.size w'.heap.size v' s ∧ Below w.heap.size w w' := by
  obtain ⟨vw, vr, vs, rfl, h1, h2, h3, t1, t2, t3⟩ := h
  obtain ⟨l1, l2, l3⟩ := hs
  obtain ⟨aw, nw, cw, rfl⟩ := row_slice h1
  obtain ⟨ar, nr, cr, rfl⟩ := row_slice h2
  obtain ⟨ag, ng, cg, rfl⟩ := row_slice h3
  obtain rfl : nw = s.ws.length := row_len h1
  obtain rfl : nr = s.rv.length := row_len h2
  obtain rfl : ng = s.sg.length := row_len h3
  have one3 : ∀ u ∈ s.ws.flatMap Wk.cells, u.oneCell' = true := one_w
  have oneN : ∀ u ∈ nums s.rv, u.oneCell' = true := one_n
  have oneS : ∀ u ∈ strs s.sg, u.oneCell' = true := one_s
  have hB0 : Below w.heap.size w (((w.alloc (.cells #[.slice aw s.ws.length cw, .int .i64 s.nx, .slice ar s.rv.length cr, .slice ag s.sg.length cg] 27)).alloc (.cells #[.slice none 0 0, .int .i64 0, .slice none 0 0, .slice none 0 0] 27)).alloc (.cells #[.nilIface] 105)) := (((Below.refl _ w).alloc (Nat.le_refl _) _).alloc (by simp) _).alloc (by simp; omega) _
  have F1 := ((Four.new w (.slice aw s.ws.length cw) (.int .i64 s.nx) (.slice ar s.rv.length cr) (.slice ag s.sg.length cg) 27).below ((Below.refl _ _).alloc (Nat.le_refl _) (.cells #[.slice none 0 0, .int .i64 0, .slice none 0 0, .slice none 0 0] 27))).below ((Below.refl _ _).alloc (Nat.le_refl _) (.cells #[.nilIface] 105))
  have F2 := (Four.at (w.alloc (.cells #[.slice aw s.ws.length cw, .int .i64 s.nx, .slice ar s.rv.length cr, .slice ag s.sg.length cg] 27)) (.slice none 0 0) (.int .i64 0) (.slice none 0 0) (.slice none 0 0) 27 (k := w.heap.size + 1) (by simp)).below ((Below.refl _ _).alloc (Nat.le_refl _) (.cells #[.nilIface] 105))
  have E0 := hE.below hB0
  have ht0 : (((w.alloc (.cells #[.slice aw s.ws.length cw, .int .i64 s.nx, .slice ar s.rv.length cr, .slice ag s.sg.length cg] 27)).alloc (.cells #[.slice none 0 0, .int .i64 0, .slice none 0 0, .slice none 0 0] 27)).alloc (.cells #[.nilIface] 105)).cell? ⟨w.heap.size + 1 + 1, 0, none⟩ = some .nilIface := by rw [World.cell?_alloc_at _ _ _ _ (by simp)]; rfl
  have hf0 : (((w.alloc (.cells #[.slice aw s.ws.length cw, .int .i64 s.nx, .slice ar s.rv.length cr, .slice ag s.sg.length cg] 27)).alloc (.cells #[.slice none 0 0, .int .i64 0, .slice none 0 0, .slice none 0 0] 27)).alloc (.cells #[.nilIface] 105)).frozen? ⟨w.heap.size + 1 + 1, 0, none⟩ = false := World.frozen?_alloc_at _ _ _ _ (by simp)
  go_enter Tryz.func39, Tryz.ntmps39
  go_wp2_with fail
  generalize ((w.alloc (.cells #[.slice aw s.ws.length cw, .int .i64 s.nx, .slice ar s.rv.length cr, .slice ag s.sg.length cg] 27)).alloc (.cells #[.slice none 0 0, .int .i64 0, .slice none 0 0, .slice none 0 0] 27)).alloc (.cells #[.nilIface] 105) = Wz at *
  refine (as_hit p ⟨w.heap.size + 1 + 1, 0, none⟩ .nilIface _ E0.gt ht0 hf0).mono ?_
  rintro e W1 ⟨rfl, hg1⟩
  have hBB1 : Below w.heap.size w W1 := hB0.grown hg1 hB0.size (fun k hk => by simp at hk; omega)
  replace F1 : Four W1 _ _ _ _ _ _ := World.ownsRow.kept F1 hg1 (.inr (by simp [Value.ownBlock] <;> omega))
  replace F2 : Four W1 _ _ _ _ _ _ := World.ownsRow.kept F2 hg1 (.inr (by simp [Value.ownBlock] <;> omega))
  have h1' := ownsRow_below h1 hBB1
  have h2' := ownsRow_below h2 hBB1
  have h3' := ownsRow_below h3 hBB1
  clear hB0 hg1 ht0 hf0
  obtain ⟨a0, a1, a2, a3⟩ := F1.c
  go_wp2_with fail
  refine wp_region_held_drew (S := fun w' => w'.cell? ⟨w.heap.size, 0, none⟩ = some (.slice aw s.ws.length cw) ∧ w'.cell? ⟨w.heap.size, 1, none⟩ = some (.int .i64 s.nx) ∧ w'.cell? ⟨w.heap.size, 2, none⟩ = some (.slice ar s.rv.length cr) ∧ w'.cell? ⟨w.heap.size, 3, none⟩ = some (.slice ag s.sg.length cg)) (by kernel_rfl) ?_ (fun hHeld => ?_)
  · go_keep
  refine takeW 0 (v := ?v10) rfl (by kernel_rfl) (by kernel_rfl) (by kernel_rfl) (fun _ _ _ h => h) (by rfl) (by assumption) ?hy10 ?rest10
  case hy10 => intro w' hSw; (try dsimp only at hSw); go_simp; try with_reducible rfl
  try simp only [Act.put, List.setIfInBounds_toArray, List.set_cons_zero, List.set_cons_succ]
  refine takeW 1 (v := ?v11) rfl (by kernel_rfl) (by kernel_rfl) (by kernel_rfl) (fun _ _ _ h => h) (by rfl) (by assumption) ?hy11 ?rest11
  case hy11 => intro w' hSw; (try dsimp only at hSw); go_simp; try with_reducible rfl
  try simp only [Act.put, List.setIfInBounds_toArray, List.set_cons_zero, List.set_cons_succ]
  refine takeW 3 (v := ?v12) rfl (by kernel_rfl) (by kernel_rfl) (by kernel_rfl) (fun _ _ _ h => h) (by rfl) (by assumption) ?hy12 ?rest12
  case hy12 => intro w' hSw; (try dsimp only at hSw); go_simp; try with_reducible rfl
  try simp only [Act.put, List.setIfInBounds_toArray, List.set_cons_zero, List.set_cons_succ]
  refine takeW 4 (v := ?v13) rfl (by kernel_rfl) (by kernel_rfl) (by kernel_rfl) (fun _ _ _ h => h) (by rfl) (by assumption) ?hy13 ?rest13
  case hy13 => intro w' hSw; (try dsimp only at hSw); go_simp; try with_reducible rfl
  try simp only [Act.put, List.setIfInBounds_toArray, List.set_cons_zero, List.set_cons_succ]
  refine takeW 5 (v := ?v14) rfl (by kernel_rfl) (by kernel_rfl) (by kernel_rfl) (fun _ _ _ h => h) (by rfl) (by assumption) ?hy14 ?rest14
  case hy14 => intro w' hSw; (try dsimp only at hSw); go_simp; try with_reducible rfl
  try simp only [Act.put, List.setIfInBounds_toArray, List.set_cons_zero, List.set_cons_succ]
  refine takeW 6 (v := ?v15) rfl (by kernel_rfl) (by kernel_rfl) (by kernel_rfl) (fun _ _ _ h => h) (by rfl) (by assumption) ?hy15 ?rest15
  case hy15 => intro w' hSw; (try dsimp only at hSw); go_simp; try with_reducible rfl
  try simp only [Act.put, List.setIfInBounds_toArray, List.set_cons_zero, List.set_cons_succ]
  refine takeW 8 (v := ?v16) rfl (by kernel_rfl) (by kernel_rfl) (by kernel_rfl) (fun _ _ _ h => h) (by rfl) (by assumption) ?hy16 ?rest16
  case hy16 => intro w' hSw; (try dsimp only at hSw); go_simp; try with_reducible rfl
  try simp only [Act.put, List.setIfInBounds_toArray, List.set_cons_zero, List.set_cons_succ]
  refine takeW 9 (v := ?v17) rfl (by kernel_rfl) (by kernel_rfl) (by kernel_rfl) (fun _ _ _ h => h) (by rfl) (by assumption) ?hy17 ?rest17
  case hy17 => intro w' hSw; (try dsimp only at hSw); go_simp; try with_reducible rfl
  try simp only [Act.put, List.setIfInBounds_toArray, List.set_cons_zero, List.set_cons_succ]
  refine takeC 2 (by kernel_rfl) rfl (fun K hK => ?_)
  go_simp
  refine (cloneW_any _ base _ _ _ l1 one3 (by exact h1')).mono ?_; rintro e w2 ⟨v2, rfl, o2, hB2⟩; obtain ⟨x2, y2, z2, rfl⟩ := row_slice o2; have hc2 := fun o => hB2.cell (p := ⟨w.heap.size, o, none⟩) (by exact F1.lt); have G1 : Four w2 _ _ _ _ _ _ := F1.below (below_drew1 hB2); have G2 : Four w2 _ _ _ _ _ _ := F2.below (below_drew1 hB2); have hBB2 := below_one hBB1 (below_drew1 hB2); have h2'' := ownsRow_below h2' (below_drew1 hB2); have h3'' := ownsRow_below h3' (below_drew1 hB2)
  refine hK.out _ _ ?_ (fun hHeld => ?_)
  · go_keep
  clear hK K
  try simp only [Act.put, List.setIfInBounds_toArray, List.set_cons_zero, List.set_cons_succ]
  refine takeC 7 (by kernel_rfl) rfl (fun K hK => ?_)
  go_simp
  refine (cloneN_any _ base _ _ _ l2 oneN (by exact h2'')).mono ?_; rintro e w3 ⟨v3, rfl, o3, hB3⟩; obtain ⟨x3, y3, z3, rfl⟩ := row_slice o3; have hc3 := fun o => hB3.cell (p := ⟨w.heap.size, o, none⟩) (by exact G1.lt); have I1 := G1.below hB3; have I2 := G2.below hB3; have hBB3 := below_one hBB2 hB3; have h3''' := ownsRow_below h3'' hB3; have o2' := ownsRow_below o2 hB3
  refine hK.out _ _ ?_ (fun hHeld => ?_)
  · go_keep
  clear hK K
  try simp only [Act.put, List.setIfInBounds_toArray, List.set_cons_zero, List.set_cons_succ]
  refine takeC 10 (by kernel_rfl) rfl (fun K hK => ?_)
  go_simp
  refine (cloneS_any _ base _ _ _ l3 oneS (by exact h3''')).mono ?_; rintro e w4 ⟨v4, rfl, o4, hB4⟩; obtain ⟨x4, y4, z4, rfl⟩ := row_slice o4; have hc4 := fun o => hB4.cell (p := ⟨w.heap.size, o, none⟩) (by exact I1.lt); have J2 := I2.below hB4; have hBB4 := below_one hBB3 hB4; have o2'' := ownsRow_below o2' hB4; have o3' := ownsRow_below o3 hB4; obtain ⟨r0, r1, r2, r3⟩ := J2.c; have f0 := J2.f 0; have f1 := J2.f 1; have f2 := J2.f 2; have f3 := J2.f 3
  refine hK.out _ _ ?_ (fun hHeld => ?_)
  · go_keep
  clear hK K
  try simp only [Act.put, List.setIfInBounds_toArray, List.set_cons_zero, List.set_cons_succ]
  refine takeW 11 (v := ?v18) rfl (by kernel_rfl) (by kernel_rfl) (by kernel_rfl) (fun _ _ _ h => h) (by rfl) (by assumption) ?hy18 ?rest18
  case hy18 => intro w' hSw; (try dsimp only at hSw); go_simp; try with_reducible rfl
  try simp only [Act.put, List.setIfInBounds_toArray, List.set_cons_zero, List.set_cons_succ]
  refine takeC 12 (by kernel_rfl) rfl (fun K hK => ?_)
  go_simp
  skip
  refine hK.out _ _ ?_ (fun hHeld => ?_)
  · go_keep
  clear hK K
  try simp only [Act.put, List.setIfInBounds_toArray, List.set_cons_zero, List.set_cons_succ]
  refine wpAnyH_done (by kernel_rfl) ?_ _
  have G := (((J2.s0 (.slice x2 y2 z2)).s1 (.int .i64 s.nx)).s2 (.slice x3 y3 z3)).s3 (.slice x4 y4 z4)
  have p1 := row_four o2'' (k := w.heap.size + 1) (by exact F2.lt) (.slice x2 y2 z2) (.int .i64 s.nx) (.slice x3 y3 z3) (.slice x4 y4 z4)
  have p2 := row_four o3' (k := w.heap.size + 1) G2.lt (.slice x2 y2 z2) (.int .i64 s.nx) (.slice x3 y3 z3) (.slice x4 y4 z4)
  have p3 := row_four o4 (k := w.heap.size + 1) I2.lt (.slice x2 y2 z2) (.int .i64 s.nx) (.slice x3 y3 z3) (.slice x4 y4 z4)
  have pB := below_four hBB4 (k := w.heap.size + 1) (by omega) (.slice x2 y2 z2) (.int .i64 s.nx) (.slice x3 y3 z3) (.slice x4 y4 z4)
  go_wp2_with fail
  have s1 := hBB1.size
  have s2 := hBB2.size
  have s3 := hBB3.size
  clear r0 r1 r2 r3 f0 f1 f2 f3 hHeld hc2 hc3 hc4
  generalize (((w4.setCell ⟨w.heap.size + 1, 0, none⟩ (.slice x2 y2 z2)).setCell ⟨w.heap.size + 1, 1, none⟩ (.int .i64 s.nx)).setCell ⟨w.heap.size + 1, 2, none⟩ (.slice x3 y3 z3)).setCell ⟨w.heap.size + 1, 3, none⟩ (.slice x4 y4 z4) = W5 at *
  obtain ⟨d0, d1, d2, d3⟩ := G.c
  exact bodyPost_ret (v := .agg #[(.slice x2 y2 z2), .int .i64 s.nx, (.slice x3 y3 z3), (.slice x4 y4 z4)]) (by simp [results, Tryz.results39, go_sem, d0, d1, d2, d3]) rfl ⟨_, rfl, IsO.of (Go.Joins.ownsRow_le p1 s1) (Go.Joins.ownsRow_le p2 s2) (Go.Joins.ownsRow_le p3 s3), pB⟩

set_option maxHeartbeats 4000000 in
theorem beside_bad (v : Value) (s : Is) (p p0 p1 p2 p3 : Addr) (base top : Nat) (w : World) (hE : ErA w p0 p1 p2 p3) (h : IsO w base top v s) :
    Calls Tryz.prog 39 #[v, eV p] w fun e w' => e = .returned (.agg #[.slice none 0 0, .int .i64 0, .slice none 0 0, .slice none 0 0]) ∧ Below w.heap.size w w' := by
  obtain ⟨vw, vr, vs, rfl, h1, h2, h3, t1, t2, t3⟩ := h
  obtain ⟨aw, nw, cw, rfl⟩ := row_slice h1
  obtain ⟨ar, nr, cr, rfl⟩ := row_slice h2
  obtain ⟨ag, ng, cg, rfl⟩ := row_slice h3
  obtain rfl : nw = s.ws.length := row_len h1
  obtain rfl : nr = s.rv.length := row_len h2
  obtain rfl : ng = s.sg.length := row_len h3
  have one3 : ∀ u ∈ s.ws.flatMap Wk.cells, u.oneCell' = true := one_w
  have oneN : ∀ u ∈ nums s.rv, u.oneCell' = true := one_n
  have oneS : ∀ u ∈ strs s.sg, u.oneCell' = true := one_s
  have hB0 : Below w.heap.size w (((w.alloc (.cells #[.slice aw s.ws.length cw, .int .i64 s.nx, .slice ar s.rv.length cr, .slice ag s.sg.length cg] 27)).alloc (.cells #[.slice none 0 0, .int .i64 0, .slice none 0 0, .slice none 0 0] 27)).alloc (.cells #[.nilIface] 105)) := (((Below.refl _ w).alloc (Nat.le_refl _) _).alloc (by simp) _).alloc (by simp; omega) _
  have F1 := ((Four.new w (.slice aw s.ws.length cw) (.int .i64 s.nx) (.slice ar s.rv.length cr) (.slice ag s.sg.length cg) 27).below ((Below.refl _ _).alloc (Nat.le_refl _) (.cells #[.slice none 0 0, .int .i64 0, .slice none 0 0, .slice none 0 0] 27))).below ((Below.refl _ _).alloc (Nat.le_refl _) (.cells #[.nilIface] 105))
  have F2 := (Four.at (w.alloc (.cells #[.slice aw s.ws.length cw, .int .i64 s.nx, .slice ar s.rv.length cr, .slice ag s.sg.length cg] 27)) (.slice none 0 0) (.int .i64 0) (.slice none 0 0) (.slice none 0 0) 27 (k := w.heap.size + 1) (by simp)).below ((Below.refl _ _).alloc (Nat.le_refl _) (.cells #[.nilIface] 105))
  have E0 := hE.below hB0
  go_enter Tryz.func39, Tryz.ntmps39
  go_wp2_with fail
  generalize ((w.alloc (.cells #[.slice aw s.ws.length cw, .int .i64 s.nx, .slice ar s.rv.length cr, .slice ag s.sg.length cg] 27)).alloc (.cells #[.slice none 0 0, .int .i64 0, .slice none 0 0, .slice none 0 0] 27)).alloc (.cells #[.nilIface] 105) = Wz at *
  refine (as_miss p ⟨w.heap.size + 1 + 1, 0, none⟩ _ E0.gt).mono ?_
  rintro e W1 ⟨rfl, hB1⟩
  have hBB1 := below_one hB0 hB1
  replace F2 := F2.below hB1
  obtain ⟨r0, r1, r2, r3⟩ := F2.c
  have f0 := F2.f 0
  have f1 := F2.f 1
  have f2 := F2.f 2
  have f3 := F2.f 3
  have G := (((F2.s0 (.slice none 0 0)).s1 (.int .i64 0)).s2 (.slice none 0 0)).s3 (.slice none 0 0)
  have pB := below_four hBB1 (k := w.heap.size + 1) (by omega) (.slice none 0 0) (.int .i64 0) (.slice none 0 0) (.slice none 0 0)
  go_wp2_with fail
  clear r0 r1 r2 r3 f0 f1 f2 f3
  generalize (((W1.setCell ⟨w.heap.size + 1, 0, none⟩ (.slice none 0 0)).setCell ⟨w.heap.size + 1, 1, none⟩ (.int .i64 0)).setCell ⟨w.heap.size + 1, 2, none⟩ (.slice none 0 0)).setCell ⟨w.heap.size + 1, 3, none⟩ (.slice none 0 0) = W5 at *
  obtain ⟨d0, d1, d2, d3⟩ := G.c
  exact bodyPost_ret (v := .agg #[.slice none 0 0, .int .i64 0, .slice none 0 0, .slice none 0 0]) (by simp [results, Tryz.results39, go_sem, d0, d1, d2, d3]) rfl ⟨rfl, pB⟩

end Go.Proofs.YtallpldgkkpikaaGreatDoor

namespace Go.Proofs.YtallpldgkkpikaaGreatDoor
open Go.RowKit Go.Shelf Go.Lib

theorem run_copy_k {P : Program} (w : World) (dT sT ty elem : TypeId) (size g o dLen dCap : Nat) (a : Addr) (sLen sCap : Nat) (cur : Array Value) (t : TypeId) (cs : List Value)
    (hu : P.underlying dT = some (.slice elem)) (hs : (P.info? elem).map (·.size) = some size)
    (hg : w.heap[g]? = some (.cells cur t (0, 0))) (hn : cs.length = Nat.min sLen dLen * size)
    (hsrc : ∀ j v, cs[j]? = some v → w.cell? (a.add j) = some v) (hfit : o + cs.length ≤ cur.size) (h1 : ∀ v ∈ cs, v.oneCell' = true) :
    (Builtin.copy_ #[dT, sT] ty #[.slice (some ⟨g, o, none⟩) dLen dCap, .slice (some a) sLen sCap]).run P w =
      .ok (goInt (Nat.min sLen dLen)) (w.setRow g (cur.toList.take o ++ cs ++ cur.toList.drop (o + cs.length)).toArray) := by
  have hl := run_loadCells_list (P := P) w a cs hsrc
  have hst := run_storeCells_at P g o t cs 0 cur w hg (by simpa using hfit) h1
  cases hq : P.info? elem with
  | none => simp [hq] at hs
  | some i =>
    have hi : i.size = size := by simpa [hq] using hs
    simp [Builtin.copy_, run_underlying hu, Builtin.lenOf, Builtin.firstCells, sizeOf, typeInfo, hq, hi, ← hn, hl, hst]
/-- Two copies that put something in. -/
theorem put_in {α : Type} (cur xs ks : List α) (p q m : Nat) (hq : ks.length = q) (hp : p ≤ m) (hm : cur.take m = xs) (hl : m + q ≤ cur.length) :
    (((cur.take (p + q) ++ xs.drop p ++ cur.drop (p + q + (xs.drop p).length)).take p ++ ks ++ (cur.take (p + q) ++ xs.drop p ++ cur.drop (p + q + (xs.drop p).length)).drop (p + q)).take (m + q)) = xs.take p ++ ks ++ xs.drop p := by
  have hx : xs.length = m := by rw [← hm, List.length_take]; omega
  have hd : (xs.drop p).length = m - p := by rw [List.length_drop, hx]
  have e1 : (cur.take (p + q) ++ xs.drop p ++ cur.drop (p + q + (xs.drop p).length)).take p = xs.take p := by
    rw [List.append_assoc, List.take_append_of_le_length (by rw [List.length_take]; omega), List.take_take, ← hm, List.take_take]
    congr 1
    omega
  have e2 : (cur.take (p + q) ++ xs.drop p ++ cur.drop (p + q + (xs.drop p).length)).drop (p + q) = xs.drop p ++ cur.drop (p + q + (xs.drop p).length) := by
    rw [List.append_assoc, List.drop_append_of_le_length (by rw [List.length_take]; omega), List.drop_of_length_le (by rw [List.length_take]; omega), List.nil_append]
  rw [e1, e2, ← List.append_assoc, List.take_append_of_le_length (by simp [hx, hq]; omega), List.take_of_length_le (by simp [hx, hq]; omega)]
/-- Two copies into a new row. -/
theorem put_new {α : Type} (R A ks D : List α) (p q : Nat) (hA : A.length = p) (hq : ks.length = q) (hR : R.take p = A) :
    (((R.take p ++ ks ++ R.drop (p + q)).take (p + q) ++ D ++ (R.take p ++ ks ++ R.drop (p + q)).drop (p + q + D.length)).take (p + q + D.length)) = A ++ ks ++ D := by
  rw [hR]
  have e1 : (A ++ ks ++ R.drop (p + q)).take (p + q) = A ++ ks := by
    rw [List.take_append_of_le_length (by simp [hA, hq]), List.take_of_length_le (by simp [hA, hq])]
  rw [e1, List.take_append_of_le_length (by simp [hA, hq]; omega), List.take_of_length_le (by simp [hA, hq]; omega)]

end Go.Proofs.YtallpldgkkpikaaGreatDoor

namespace Go.Proofs.YtallpldgkkpikaaGreatDoor
open Go.RowKit Go.Shelf Go.Lib

end Go.Proofs.YtallpldgkkpikaaGreatDoor

namespace Go.Proofs.YtallpldgkkpikaaGreatDoor
open Go.RowKit Go.Shelf

theorem none_o (w : World) (base top : Nat) : IsO w base top (.agg #[.slice none 0 0, .int .i64 0, .slice none 0 0, .slice none 0 0]) Is.none :=
  ⟨_, _, _, rfl, World.ownsRow_nil _ _ _ _, World.ownsRow_nil _ _ _ _, World.ownsRow_nil _ _ _ _, fun _ h => by simp [Value.ownBlock] at h, fun _ h => by simp [Value.ownBlock] at h, fun _ h => by simp [Value.ownBlock] at h⟩
theorem row_cast {w : World} {base : Nat} {e : TypeId} {size n m : Nat} {v : Value} {xs : List Value} (h : w.ownsRow base e size v n xs) (hm : n = m) : w.ownsRow base e size v m xs := by
  subst hm
  exact h
theorem wflat_set : ∀ (ws : List Wk) (n : Nat) (k : Wk), n < ws.length → (((ws.flatMap Wk.cells).set (n * 3) (.string k.name)).set (n * 3 + 1) (.bool k.live)).set (n * 3 + 2) (.int .i64 k.se) = (ws.set n k).flatMap Wk.cells
  | [], n, k, h => by simp at h
  | x :: ws, 0, k, _ => rfl
  | x :: ws, n + 1, k, h => by
    have ih := wflat_set ws n k (by simpa using h)
    rw [List.set_cons_succ, List.flatMap_cons, List.flatMap_cons, ← ih, show (n + 1) * 3 = n * 3 + 3 by omega]
    rfl
theorem wflat_take : ∀ (ys : List Wk) (k : Nat), (ys.flatMap Wk.cells).take (k * 3) = (ys.take k).flatMap Wk.cells
  | [], k => by simp
  | y :: ys, 0 => by simp
  | y :: ys, k + 1 => by
    rw [List.flatMap_cons, List.take_succ_cons, List.flatMap_cons, ← wflat_take ys k, show (k + 1) * 3 = k * 3 + 3 by omega]
    rfl
theorem wflat_drop : ∀ (ys : List Wk) (k : Nat), (ys.flatMap Wk.cells).drop (k * 3) = (ys.drop k).flatMap Wk.cells
  | [], k => by simp
  | y :: ys, 0 => by simp
  | y :: ys, k + 1 => by
    rw [List.flatMap_cons, List.drop_succ_cons, ← wflat_drop ys k, show (k + 1) * 3 = k * 3 + 3 by omega]
    rfl
theorem wflat_put (ws : List Wk) (n : Nat) (x k : Wk) (h : n ≤ ws.length) : ((((ws.flatMap Wk.cells).take (n * 3) ++ x.cells ++ (ws.flatMap Wk.cells).drop (n * 3)).set (n * 3) (.string k.name)).set (n * 3 + 1) (.bool k.live)).set (n * 3 + 2) (.int .i64 k.se) = (ws.take n ++ k :: ws.drop n).flatMap Wk.cells := by
  have e : (ws.flatMap Wk.cells).take (n * 3) ++ x.cells ++ (ws.flatMap Wk.cells).drop (n * 3) = (ws.take n ++ x :: ws.drop n).flatMap Wk.cells := by
    rw [wflat_take, wflat_drop]
    simp
  rw [e, wflat_set _ n k (by simp; omega)]
  congr 1
  rw [List.set_append_right _ _ (by rw [List.length_take]; omega), List.length_take, Nat.min_eq_left h, Nat.sub_self]
  rfl
theorem en_bad {s : Is} {n : ByteArray} (h : enE s n = .bad) : enX s n = (Is.none, 1) := by
  unfold enE at h
  unfold enX
  split at h
  · rename_i hb
    rw [if_pos hb]
  · split at h
    · cases h
    · split at h
      · cases h
      · split at h <;> cases h
theorem en_twice {s : Is} {n : ByteArray} (h : enE s n = .twice) : enX s n = (s, 2) := by
  unfold enE at h
  unfold enX
  split at h
  · cases h
  · rename_i h1
    rw [if_neg h1]
    split at h
    · rename_i h2
      rw [if_pos h2]
    · split at h
      · cases h
      · split at h <;> cases h
theorem en_full {s : Is} {n : ByteArray} (h : enE s n = .full) : enX s n = (s, 4) := by
  unfold enE at h
  unfold enX
  split at h
  · cases h
  · rename_i h1
    rw [if_neg h1]
    split at h
    · cases h
    · rename_i h2
      rw [if_neg h2]
      split at h
      · cases h
      · rename_i h3
        rw [if_neg h3]
        split at h
        · rename_i h4
          rw [if_pos h4]
        · cases h
theorem en_nil {s : Is} {n : ByteArray} (h : enE s n = .nil) : isB s = true ∧ (hasW s.ws n = true → enX s n = (⟨s.ws.set (atW s.ws n) ⟨n, true, 0⟩, s.nx, s.rv, s.sg⟩, 0)) ∧ (hasW s.ws n = false → s.ws.length < 20 ∧ enX s n = (⟨s.ws.take (atW s.ws n) ++ ⟨n, true, 0⟩ :: s.ws.drop (atW s.ws n), s.nx, s.rv, s.sg⟩, 0)) := by
  unfold enE at h
  unfold enX
  split at h
  · cases h
  · rename_i h1
    have hb : isB s = true := by
      cases hb : isB s
      · rw [hb] at h1
        exact absurd rfl h1
      · rfl
    split at h
    · cases h
    · rename_i h2
      refine ⟨hb, fun h3 => by rw [if_neg h1, if_neg h2, if_pos h3], fun h3 => ?_⟩
      rw [h3] at h
      simp at h
      have h4 : ¬ s.ws.length = 20 := h
      have := (isB_hd hb).1
      exact ⟨by omega, by rw [if_neg h1, if_neg h2, if_neg (by rw [h3]; decide), if_neg h4]⟩

end Go.Proofs.YtallpldgkkpikaaGreatDoor

namespace Go.Proofs.YtallpldgkkpikaaGreatDoor
open Go.RowKit Go.Shelf

theorem step_append3 {P : Program} {w : World} {ops : Array Oper} {o : Oper} {a : Act} {K : Act → World → Prop} {Q : Exit → Act → World → Prop} {E : Prop} (hgd : o.guard = none) (s x : Operand) (t : TypeId)
    (ho : o.op = .call { callee := .builtin .append, args := #[s, x], argTypes := #[t, t] })
    (base : Nat) (e : TypeId) (i : TypeInfo) (z : Value) (size bytes : Nat) (ht : P.underlying t = some (.slice e)) (hi : P.info? e = some i) (hz : i.zero = some z)
    (hsize : i.size = size) (hby : i.bytes = bytes) (hzs : z.cells.size = size) (hsz : 0 < size)
    (v : Value) (n : Nat) (xs : List Value) (hs : a.eval s = v) (hown : w.ownsRow base e size v n xs)
    (ad : Addr) (m c : Nat) (news : List Value) (hx : a.eval x = .slice (some ad) m c) (hl : news.length = m * size) (hnews : ∀ j u, news[j]? = some u → w.cell? (ad.add j) = some u) (h1 : ∀ u ∈ news, u.oneCell' = true)
    (h63 : n + m ≤ maxLen) (hbytes : (n + m) * bytes ≤ 140737488355328) (hbase : base ≤ w.heap.size)
    (h : ∀ v' w', w'.ownsRow base e size v' (n + m) (xs ++ news) → w.grownBy w' v.ownBlock → K (a.put o.dst v') w') :
    if Region.wanted o (yielded ops a.tmps) = true then Oper.wp P o a w K Q else E := by
  have hw : Region.wanted o (yielded ops a.tmps) = true := by simp [Region.wanted, hgd]
  rw [if_pos hw]
  exact wp_append_own w s x t ho base e i z size bytes ht hi hz hsize hby hzs hsz v n xs hs hown ad m c news hx hl hnews h1 h63 hbytes hbase (fun v' w' h1 h2 _ => h v' w' h1 h2)
theorem grown_cell {w w' : World} {r : Option Nat} (h : w.grownBy w' r) {b o : Nat} (hb : b < w.heap.size) (hne : r ≠ some b) : w'.cell? ⟨b, o, none⟩ = w.cell? ⟨b, o, none⟩ := by
  simp only [World.cell?]
  rw [h.block b hb hne.symm]
theorem below_row3 {n₀ : Nat} {w W w1 : World} {e : TypeId} {size k : Nat} {v : Value} {xs : List Value} (hB : Below n₀ w W) (hs : n₀ ≤ W.heap.size) (hrow : W.ownsRow n₀ e size v k xs) (hg : W.grownBy w1 v.ownBlock) : Below n₀ w w1 := by
  refine hB.grown hg hs fun j ej => ?_
  rcases hrow.2 with ⟨rfl, _⟩ | ⟨g, cap, cur, rfl, hb, _, _⟩
  · simp [Value.ownBlock] at ej
  · obtain rfl : g = j := by simpa [Value.ownBlock] using ej
    exact hb
theorem cell_five_k (w : World) (r : Lk) : ∀ j u, r.cells[j]? = some u → (w.alloc (.cells #[.string r.who, .string r.to, .int .i64 r.se, .int .i64 r.fr, .int .i64 r.un] 38)).cell? ((⟨w.heap.size, 0, none⟩ : Addr).add j) = some u := by
  intro j u hu
  have hj : j < 5 := by have := (List.getElem?_eq_some_iff.1 hu).1; simpa using this
  obtain h | h | h | h | h : j = 0 ∨ j = 1 ∨ j = 2 ∨ j = 3 ∨ j = 4 := by omega
  all_goals subst h
  all_goals simp at hu
  all_goals subst hu
  all_goals simp [Addr.add]
theorem cell_five_n (w : World) (r : Lk) (n : Nat) (hn : n = w.heap.size) : ∀ j u, r.cells[j]? = some u → (w.alloc (.cells #[.string r.who, .string r.to, .int .i64 r.se, .int .i64 r.fr, .int .i64 r.un] 38)).cell? ((⟨n, 0, none⟩ : Addr).add j) = some u := by
  subst hn
  exact cell_five_k w r
theorem oldf5 {w : World} {o : Obj} {b : Nat} {r : Lk} (h : ∀ j u, r.cells[j]? = some u → w.cell? ((⟨b, 0, none⟩ : Addr).add j) = some u) (hb : b < w.heap.size) : ∀ j u, r.cells[j]? = some u → (w.alloc o).cell? ((⟨b, 0, none⟩ : Addr).add j) = some u := fun j u hu => by
  have := h j u hu
  rw [Addr.add_lit] at this ⊢
  exact (((Below.refl w.heap.size w).alloc (Nat.le_refl _) o).cell (p := ⟨b, 0 + j, none⟩) hb).trans this
theorem kept5 {w w' : World} {q : Option Nat} (hg : w.grownBy w' q) {b : Nat} {r : Lk} (h : ∀ j u, r.cells[j]? = some u → w.cell? ((⟨b, 0, none⟩ : Addr).add j) = some u) (hb : b < w.heap.size) (hne : q ≠ some b) : ∀ j u, r.cells[j]? = some u → w'.cell? ((⟨b, 0, none⟩ : Addr).add j) = some u := fun j u hu => by
  have := h j u hu
  rw [Addr.add_lit] at this ⊢
  exact (grown_cell hg hb hne).trans this
theorem rowE (w : World) {n : Nat} (hn : n = w.heap.size) : (w.alloc (.cells #[] 38)).ownsRow w.heap.size 38 5 (.slice (some ⟨n, 0, none⟩) 0 0) 0 [] := by
  subst hn
  exact ⟨rfl, .inr ⟨w.heap.size, 0, #[], rfl, Nat.le_refl _, by show (w.heap.push _)[w.heap.size]? = _; rw [Array.getElem?_push_size], Nat.le_refl _, by unfold maxLen; omega, by simp, by simp⟩⟩
theorem rowE2 (w : World) (n : Nat) {base : Nat} (hn : n = w.heap.size) (hb : base ≤ w.heap.size) : (w.alloc (.cells #[] 38)).ownsRow base 38 5 (.slice (some ⟨n, 0, none⟩) 0 0) 0 [] := by
  subst hn
  exact ⟨rfl, .inr ⟨w.heap.size, 0, #[], rfl, hb, by show (w.heap.push _)[w.heap.size]? = _; rw [Array.getElem?_push_size], Nat.le_refl _, by unfold maxLen; omega, by simp, by simp⟩⟩
theorem belE (w : World) : Below w.heap.size w (w.alloc (.cells #[] 38)) := (Below.refl _ w).alloc (Nat.le_refl _) _

set_option maxHeartbeats 4000000 in
theorem l3Extend_any (v : Value) (ks : List Lk) (tw : ByteArray) (se nw li : Int) (m : Nat) (w : World) (h6 : ks.length ≤ 6) (hm : m < ks.length) (hl : m = ks.length - 1) (h1 : tmB nw = true) (h2 : tmB li = true) (hr : LkS w v ks) :
    Calls Tryz.prog 97 #[v, .string tw, .int .i64 se, .int .i64 nw, .int .i64 li] w fun e w' => ∃ v', e = .returned v' ∧ w'.ownsRow w.heap.size 38 5 v' (ks ++ [ext1 ks[m] tw se nw li]).length ((ks ++ [ext1 ks[m] tw se nw li]).flatMap Lk.cells) ∧ Below w.heap.size w w' := by
  obtain ⟨a, cap, rfl⟩ := hr.len
  obtain ⟨i0, hi, hz0, hz1, hz2⟩ := info_parts infoLink
  have b1 := of_decide_eq_true h1
  have b2 := of_decide_eq_true h2
  obtain ⟨b, off, rfl, hb, hcap, q0, q1, q2, q3, q4⟩ := hr.at hm
  have hw1 : IntKind.i64.wrap ((ks.length : Int) - 1) = (m : Int) := by rw [IntKind.wrap_i64]; omega
  have hw2 : (m : Int) < (ks.length : Int) := by omega
  have hw3 : IntKind.i64.wrap (nw + li) = nw + li := by rw [IntKind.wrap_i64]; omega
  generalize hk : ks[m] = k at *
  clear hk hl
  have hB0 : Below w.heap.size w (w.alloc (.cells #[.string k.who, .string k.to, .int .i64 k.se, .int .i64 k.fr, .int .i64 k.un] 38)) := (Below.refl _ w).alloc (Nat.le_refl _) _
  by_cases hc : k.un < nw + li
  · have HE := hid (show ext1 k tw se nw li = ⟨k.to, tw, se, nw, k.un⟩ by unfold ext1; rw [mnI_lt hc])
    have hfin : ∀ {W : World} {base : Nat} {v' : Value}, W.ownsRow base 38 5 v' (0 + ks.length + 1) ([] ++ ks.flatMap Lk.cells ++ Lk.cells ⟨k.to, tw, se, nw, k.un⟩) → base = w.heap.size + 1 → W.ownsRow w.heap.size 38 5 v' (ks ++ [ext1 k tw se nw li]).length ((ks ++ [ext1 k tw se nw li]).flatMap Lk.cells) := fun {W base v'} h hb => by
      rw [HE.out]
      have := Go.Joins.ownsRow_le h (show w.heap.size ≤ base by omega)
      simpa using this
    go_enter Tryz.func97, Tryz.ntmps97
    go_wp2_with fail
    have hx1 : (w.alloc (.cells #[.string k.who, .string k.to, .int .i64 k.se, .int .i64 k.fr, .int .i64 k.un] 38)).drew.cell? ⟨w.heap.size, 1, none⟩ = some (.string k.to) := by simp
    have hW1s : (w.alloc (.cells #[.string k.who, .string k.to, .int .i64 k.se, .int .i64 k.fr, .int .i64 k.un] 38)).drew.heap.size = w.heap.size + 1 := by simp
    have hBw : Below w.heap.size w (w.alloc (.cells #[.string k.who, .string k.to, .int .i64 k.se, .int .i64 k.fr, .int .i64 k.un] 38)).drew := hB0.drew
    have hrW := hr.below hBw
    have hbx : w.heap.size < (w.alloc (.cells #[.string k.who, .string k.to, .int .i64 k.se, .int .i64 k.fr, .int .i64 k.un] 38)).drew.heap.size := by simp
    generalize w.alloc (.cells #[.string k.who, .string k.to, .int .i64 k.se, .int .i64 k.fr, .int .i64 k.un] 38) = Wb at *
    have HWs := hid hW1s
    clear hB0 q0 q1 q2 q3 q4 hW1s
    refine wp_region_held_drew (S := fun w' => w'.cell? ⟨w.heap.size, 1, none⟩ = some (.string k.to)) (by kernel_rfl) ?_ (fun hHeld => ?_)
    · exact hx1
    clear hHeld
    generalize Wb.drew = W1 at *
    have hHeld := hx1
    refine takeW 1 (v := ?v1) rfl (by kernel_rfl) (by kernel_rfl) (by kernel_rfl) (fun _ _ _ h => h) (by rfl) (by assumption) ?hy1 ?rest1
    case hy1 => intro w' hSw; (try dsimp only at hSw); go_simp; try with_reducible rfl
    try simp only [Act.put, List.setIfInBounds_toArray, List.set_cons_zero, List.set_cons_succ]
    refine takeW 3 (v := ?v2) rfl (by kernel_rfl) (by kernel_rfl) (by kernel_rfl) (fun _ _ _ h => h) (by rfl) (by assumption) ?hy2 ?rest2
    case hy2 => intro w' hSw; (try dsimp only at hSw); go_simp; try with_reducible rfl
    try simp only [Act.put, List.setIfInBounds_toArray, List.set_cons_zero, List.set_cons_succ]
    refine takeW 4 (v := ?v3) rfl (by kernel_rfl) (by kernel_rfl) (by kernel_rfl) (fun _ _ _ h => h) (by rfl) (by assumption) ?hy3 ?rest3
    case hy3 => intro w' hSw; (try dsimp only at hSw); go_simp; try with_reducible rfl
    try simp only [Act.put, List.setIfInBounds_toArray, List.set_cons_zero, List.set_cons_succ]
    refine takeW 5 (v := ?v4) rfl (by kernel_rfl) (by kernel_rfl) (by kernel_rfl) (fun _ _ _ h => h) (by rfl) (by assumption) ?hy4 ?rest4
    case hy4 => intro w' hSw; (try dsimp only at hSw); go_simp; try with_reducible rfl
    try simp only [Act.put, List.setIfInBounds_toArray, List.set_cons_zero, List.set_cons_succ]
    refine takeW 6 (v := ?v5) rfl (by kernel_rfl) (by kernel_rfl) (by kernel_rfl) (fun _ _ _ h => h) (by rfl) (by assumption) ?hy5 ?rest5
    case hy5 => intro w' hSw; (try dsimp only at hSw); go_simp; try with_reducible rfl
    try simp only [Act.put, List.setIfInBounds_toArray, List.set_cons_zero, List.set_cons_succ]
    refine takeW 7 (v := ?v6) rfl (by kernel_rfl) (by kernel_rfl) (by kernel_rfl) (fun _ _ _ h => h) (by rfl) (by assumption) ?hy6 ?rest6
    case hy6 => intro w' hSw; (try dsimp only at hSw); go_simp; try with_reducible rfl
    try simp only [Act.put, List.setIfInBounds_toArray, List.set_cons_zero, List.set_cons_succ]
    refine takeW 8 (v := ?v7) rfl (by kernel_rfl) (by kernel_rfl) (by kernel_rfl) (fun _ _ _ h => h) (by rfl) (by assumption) ?hy7 ?rest7
    case hy7 => intro w' hSw; (try dsimp only at hSw); go_simp; try with_reducible rfl
    try simp only [Act.put, List.setIfInBounds_toArray, List.set_cons_zero, List.set_cons_succ]
    refine takeW 9 (v := ?v8) rfl (by kernel_rfl) (by kernel_rfl) (by kernel_rfl) (fun _ _ _ h => h) (by rfl) (by assumption) ?hy8 ?rest8
    case hy8 => intro w' hSw; (try dsimp only at hSw); go_simp; try with_reducible rfl
    try simp only [Act.put, List.setIfInBounds_toArray, List.set_cons_zero, List.set_cons_succ]
    refine wpAnyH_ready (rs := [0, 10]) (by kernel_rfl) (by simp) ?_
    refine AllReadyH.cons (at_drop rfl) (fun K hK => ?_) (AllReadyH.cons (at_drop rfl) (fun K hK => ?_) AllReadyH.nil)
    · go_simp
      skip
      refine hK.out _ _ ?_ (fun hHeld => ?_)
      · go_keep
      clear hK K
      try simp only [Act.put, List.setIfInBounds_toArray, List.set_cons_zero, List.set_cons_succ]
      refine wpAnyH_ready (rs := [2, 10]) (by kernel_rfl) (by simp) ?_
      refine AllReadyH.cons (at_drop rfl) (fun K hK => ?_) (AllReadyH.cons (at_drop rfl) (fun K hK => ?_) AllReadyH.nil)
      · refine step_append3 rfl (.tmp 28) (.tmp 29) 30 rfl W1.heap.size 38 i0 _ 5 56 Tryz.underlying30 hi hz0 hz1 hz2 rfl (by decide) _ 0 [] rfl (rowE W1 rfl) ⟨b, off, none⟩ ks.length cap (ks.flatMap Lk.cells) rfl (by rw [lflat_len]) (lks_cells (hrW.below (belE W1))) cells_one3 (by unfold maxLen; omega) (by omega) (by simp <;> omega) ?_; intro v1 w3 hown1 hgrow1; have hC3 := below_row3 (belE W1) (by simp) (rowE W1 rfl) hgrow1; have x3 := (hC3.cell (p := ⟨w.heap.size, 1, none⟩) hbx).trans hx1
        refine hK.out _ _ ?_ (fun hHeld => ?_)
        · go_keep
        clear hK K
        try simp only [Act.put, List.setIfInBounds_toArray, List.set_cons_zero, List.set_cons_succ]
        refine takeC 10 (by kernel_rfl) rfl (fun K hK => ?_)
        go_simp
        have hC4 : Below W1.heap.size W1 (w3.alloc (.cells #[.string k.to, .string tw, .int .i64 se, .int .i64 nw, .int .i64 (k.un)] 38)) := hC3.alloc hC3.size _
        refine hK.out _ _ ?_ (fun hHeld => ?_)
        · go_keep
        clear hK K
        try simp only [Act.put, List.setIfInBounds_toArray, List.set_cons_zero, List.set_cons_succ]
        refine takeC 11 (by kernel_rfl) rfl (fun K hK => ?_)
        refine step_append3 rfl (.tmp 30) (.tmp 38) 30 rfl W1.heap.size 38 i0 _ 5 56 Tryz.underlying30 hi hz0 hz1 hz2 rfl (by decide) _ (0 + ks.length) _ rfl (hown1.alloc _) ⟨w3.heap.size, 0, none⟩ 1 1 (Lk.cells ⟨k.to, tw, se, nw, k.un⟩) rfl rfl (cell_five_k w3 ⟨k.to, tw, se, nw, k.un⟩) (by intro u hu; simp at hu; rcases hu with rfl | rfl | rfl | rfl | rfl <;> rfl) (by unfold maxLen; omega) (by omega) (by have := hC3.size; simp; omega) ?_; intro v2 w5 hown2 hgrow2; have hC5 := below_row3 hC4 hC4.size (hown1.alloc _) hgrow2; have x5 := (hC5.cell (p := ⟨w.heap.size, 1, none⟩) hbx).trans hx1
        refine hK.out _ _ ?_ (fun hHeld => ?_)
        · go_keep
        clear hK K
        try simp only [Act.put, List.setIfInBounds_toArray, List.set_cons_zero, List.set_cons_succ]
        refine takeW 12 (v := ?v9) rfl (by kernel_rfl) (by kernel_rfl) (by kernel_rfl) (fun _ _ _ h => h) (by rfl) (by assumption) ?hy9 ?rest9
        case hy9 => intro w' hSw; (try dsimp only at hSw); go_simp; try with_reducible rfl
        try simp only [Act.put, List.setIfInBounds_toArray, List.set_cons_zero, List.set_cons_succ]
        refine wpAnyH_done (by kernel_rfl) ?_ _
        go_wp2
        go_ret
        exact ⟨_, rfl, hfin hown2 HWs.out, below_one hBw hC5⟩
      · go_simp
        have hC3 : Below W1.heap.size W1 ((W1.alloc (.cells #[] 38)).alloc (.cells #[.string k.to, .string tw, .int .i64 se, .int .i64 nw, .int .i64 (k.un)] 38)) := (belE W1).alloc (belE W1).size _
        refine hK.out _ _ ?_ (fun hHeld => ?_)
        · go_keep
        clear hK K
        try simp only [Act.put, List.setIfInBounds_toArray, List.set_cons_zero, List.set_cons_succ]
        refine takeC 2 (by kernel_rfl) rfl (fun K hK => ?_)
        refine step_append3 rfl (.tmp 28) (.tmp 29) 30 rfl W1.heap.size 38 i0 _ 5 56 Tryz.underlying30 hi hz0 hz1 hz2 rfl (by decide) _ 0 [] rfl ((rowE W1 rfl).alloc _) ⟨b, off, none⟩ ks.length cap (ks.flatMap Lk.cells) rfl (by rw [lflat_len]) (lks_cells (hrW.below hC3)) cells_one3 (by unfold maxLen; omega) (by omega) (by simp <;> omega) ?_; intro v1 w3 hown1 hgrow1; have hC4 := below_row3 hC3 hC3.size ((rowE W1 rfl).alloc _) hgrow1; have x4 := (hC4.cell (p := ⟨w.heap.size, 1, none⟩) hbx).trans hx1
        refine hK.out _ _ ?_ (fun hHeld => ?_)
        · go_keep
        clear hK K
        try simp only [Act.put, List.setIfInBounds_toArray, List.set_cons_zero, List.set_cons_succ]
        refine takeC 11 (by kernel_rfl) rfl (fun K hK => ?_)
        refine step_append3 rfl (.tmp 30) (.tmp 38) 30 rfl W1.heap.size 38 i0 _ 5 56 Tryz.underlying30 hi hz0 hz1 hz2 rfl (by decide) _ (0 + ks.length) _ rfl hown1 ⟨W1.heap.size + 1, 0, none⟩ 1 1 (Lk.cells ⟨k.to, tw, se, nw, k.un⟩) rfl rfl (kept5 hgrow1 (cell_five_n (W1.alloc (.cells #[] 38)) ⟨k.to, tw, se, nw, k.un⟩ (W1.heap.size + 1) (by simp)) (by simp) (show (Value.slice (some ⟨W1.heap.size, 0, none⟩) 0 0).ownBlock ≠ some (W1.heap.size + 1) from by simp [Value.ownBlock])) (by intro u hu; simp at hu; rcases hu with rfl | rfl | rfl | rfl | rfl <;> rfl) (by unfold maxLen; omega) (by omega) hC4.size ?_; intro v2 w5 hown2 hgrow2; have hC5 := below_row3 hC4 hC4.size hown1 hgrow2; have x5 := (hC5.cell (p := ⟨w.heap.size, 1, none⟩) hbx).trans hx1
        refine hK.out _ _ ?_ (fun hHeld => ?_)
        · go_keep
        clear hK K
        try simp only [Act.put, List.setIfInBounds_toArray, List.set_cons_zero, List.set_cons_succ]
        refine takeW 12 (v := ?v10) rfl (by kernel_rfl) (by kernel_rfl) (by kernel_rfl) (fun _ _ _ h => h) (by rfl) (by assumption) ?hy10 ?rest10
        case hy10 => intro w' hSw; (try dsimp only at hSw); go_simp; try with_reducible rfl
        try simp only [Act.put, List.setIfInBounds_toArray, List.set_cons_zero, List.set_cons_succ]
        refine wpAnyH_done (by kernel_rfl) ?_ _
        go_wp2
        go_ret
        exact ⟨_, rfl, hfin hown2 HWs.out, below_one hBw hC5⟩
    · go_simp
      have hC2 : Below W1.heap.size W1 (W1.alloc (.cells #[.string k.to, .string tw, .int .i64 se, .int .i64 nw, .int .i64 (k.un)] 38)) := (Below.refl _ W1).alloc (Nat.le_refl _) _
      refine hK.out _ _ ?_ (fun hHeld => ?_)
      · go_keep
      clear hK K
      try simp only [Act.put, List.setIfInBounds_toArray, List.set_cons_zero, List.set_cons_succ]
      refine takeC 0 (by kernel_rfl) rfl (fun K hK => ?_)
      go_simp
      have hC3 : Below W1.heap.size W1 ((W1.alloc (.cells #[.string k.to, .string tw, .int .i64 se, .int .i64 nw, .int .i64 (k.un)] 38)).alloc (.cells #[] 38)) := hC2.alloc hC2.size _
      refine hK.out _ _ ?_ (fun hHeld => ?_)
      · go_keep
      clear hK K
      try simp only [Act.put, List.setIfInBounds_toArray, List.set_cons_zero, List.set_cons_succ]
      refine takeC 2 (by kernel_rfl) rfl (fun K hK => ?_)
      refine step_append3 rfl (.tmp 28) (.tmp 29) 30 rfl W1.heap.size 38 i0 _ 5 56 Tryz.underlying30 hi hz0 hz1 hz2 rfl (by decide) _ 0 [] rfl (rowE2 (W1.alloc (.cells #[.string k.to, .string tw, .int .i64 se, .int .i64 nw, .int .i64 (k.un)] 38)) (W1.heap.size + 1) (by simp) (by simp)) ⟨b, off, none⟩ ks.length cap (ks.flatMap Lk.cells) rfl (by rw [lflat_len]) (lks_cells (hrW.below hC3)) cells_one3 (by unfold maxLen; omega) (by omega) (by simp <;> omega) ?_; intro v1 w3 hown1 hgrow1; have hC4 := below_row3 hC3 hC3.size (rowE2 (W1.alloc (.cells #[.string k.to, .string tw, .int .i64 se, .int .i64 nw, .int .i64 (k.un)] 38)) (W1.heap.size + 1) (by simp) (by simp)) hgrow1; have x4 := (hC4.cell (p := ⟨w.heap.size, 1, none⟩) hbx).trans hx1
      refine hK.out _ _ ?_ (fun hHeld => ?_)
      · go_keep
      clear hK K
      try simp only [Act.put, List.setIfInBounds_toArray, List.set_cons_zero, List.set_cons_succ]
      refine takeC 11 (by kernel_rfl) rfl (fun K hK => ?_)
      refine step_append3 rfl (.tmp 30) (.tmp 38) 30 rfl W1.heap.size 38 i0 _ 5 56 Tryz.underlying30 hi hz0 hz1 hz2 rfl (by decide) _ (0 + ks.length) _ rfl hown1 ⟨W1.heap.size, 0, none⟩ 1 1 (Lk.cells ⟨k.to, tw, se, nw, k.un⟩) rfl rfl (kept5 hgrow1 (oldf5 (cell_five_n W1 ⟨k.to, tw, se, nw, k.un⟩ W1.heap.size rfl) (by simp)) (by simp; omega) (show (Value.slice (some ⟨W1.heap.size + 1, 0, none⟩) 0 0).ownBlock ≠ some W1.heap.size from by simp [Value.ownBlock])) (by intro u hu; simp at hu; rcases hu with rfl | rfl | rfl | rfl | rfl <;> rfl) (by unfold maxLen; omega) (by omega) hC4.size ?_; intro v2 w5 hown2 hgrow2; have hC5 := below_row3 hC4 hC4.size hown1 hgrow2; have x5 := (hC5.cell (p := ⟨w.heap.size, 1, none⟩) hbx).trans hx1
      refine hK.out _ _ ?_ (fun hHeld => ?_)
      · go_keep
      clear hK K
      try simp only [Act.put, List.setIfInBounds_toArray, List.set_cons_zero, List.set_cons_succ]
      refine takeW 12 (v := ?v11) rfl (by kernel_rfl) (by kernel_rfl) (by kernel_rfl) (fun _ _ _ h => h) (by rfl) (by assumption) ?hy11 ?rest11
      case hy11 => intro w' hSw; (try dsimp only at hSw); go_simp; try with_reducible rfl
      try simp only [Act.put, List.setIfInBounds_toArray, List.set_cons_zero, List.set_cons_succ]
      refine wpAnyH_done (by kernel_rfl) ?_ _
      go_wp2
      go_ret
      exact ⟨_, rfl, hfin hown2 HWs.out, below_one hBw hC5⟩
  · have HE := hid (show ext1 k tw se nw li = ⟨k.to, tw, se, nw, nw + li⟩ by unfold ext1; rw [mnI_ge hc])
    have hfin : ∀ {W : World} {base : Nat} {v' : Value}, W.ownsRow base 38 5 v' (0 + ks.length + 1) ([] ++ ks.flatMap Lk.cells ++ Lk.cells ⟨k.to, tw, se, nw, nw + li⟩) → base = w.heap.size + 1 → W.ownsRow w.heap.size 38 5 v' (ks ++ [ext1 k tw se nw li]).length ((ks ++ [ext1 k tw se nw li]).flatMap Lk.cells) := fun {W base v'} h hb => by
      rw [HE.out]
      have := Go.Joins.ownsRow_le h (show w.heap.size ≤ base by omega)
      simpa using this
    go_enter Tryz.func97, Tryz.ntmps97
    go_wp2_with fail
    have hx1 : (w.alloc (.cells #[.string k.who, .string k.to, .int .i64 k.se, .int .i64 k.fr, .int .i64 k.un] 38)).drew.cell? ⟨w.heap.size, 1, none⟩ = some (.string k.to) := by simp
    have hW1s : (w.alloc (.cells #[.string k.who, .string k.to, .int .i64 k.se, .int .i64 k.fr, .int .i64 k.un] 38)).drew.heap.size = w.heap.size + 1 := by simp
    have hBw : Below w.heap.size w (w.alloc (.cells #[.string k.who, .string k.to, .int .i64 k.se, .int .i64 k.fr, .int .i64 k.un] 38)).drew := hB0.drew
    have hrW := hr.below hBw
    have hbx : w.heap.size < (w.alloc (.cells #[.string k.who, .string k.to, .int .i64 k.se, .int .i64 k.fr, .int .i64 k.un] 38)).drew.heap.size := by simp
    generalize w.alloc (.cells #[.string k.who, .string k.to, .int .i64 k.se, .int .i64 k.fr, .int .i64 k.un] 38) = Wb at *
    have HWs := hid hW1s
    clear hB0 q0 q1 q2 q3 q4 hW1s
    refine wp_region_held_drew (S := fun w' => w'.cell? ⟨w.heap.size, 1, none⟩ = some (.string k.to)) (by kernel_rfl) ?_ (fun hHeld => ?_)
    · exact hx1
    clear hHeld
    generalize Wb.drew = W1 at *
    have hHeld := hx1
    refine takeW 1 (v := ?v12) rfl (by kernel_rfl) (by kernel_rfl) (by kernel_rfl) (fun _ _ _ h => h) (by rfl) (by assumption) ?hy12 ?rest12
    case hy12 => intro w' hSw; (try dsimp only at hSw); go_simp; try with_reducible rfl
    try simp only [Act.put, List.setIfInBounds_toArray, List.set_cons_zero, List.set_cons_succ]
    refine takeW 3 (v := ?v13) rfl (by kernel_rfl) (by kernel_rfl) (by kernel_rfl) (fun _ _ _ h => h) (by rfl) (by assumption) ?hy13 ?rest13
    case hy13 => intro w' hSw; (try dsimp only at hSw); go_simp; try with_reducible rfl
    try simp only [Act.put, List.setIfInBounds_toArray, List.set_cons_zero, List.set_cons_succ]
    refine takeW 4 (v := ?v14) rfl (by kernel_rfl) (by kernel_rfl) (by kernel_rfl) (fun _ _ _ h => h) (by rfl) (by assumption) ?hy14 ?rest14
    case hy14 => intro w' hSw; (try dsimp only at hSw); go_simp; try with_reducible rfl
    try simp only [Act.put, List.setIfInBounds_toArray, List.set_cons_zero, List.set_cons_succ]
    refine takeW 5 (v := ?v15) rfl (by kernel_rfl) (by kernel_rfl) (by kernel_rfl) (fun _ _ _ h => h) (by rfl) (by assumption) ?hy15 ?rest15
    case hy15 => intro w' hSw; (try dsimp only at hSw); go_simp; try with_reducible rfl
    try simp only [Act.put, List.setIfInBounds_toArray, List.set_cons_zero, List.set_cons_succ]
    refine takeW 6 (v := ?v16) rfl (by kernel_rfl) (by kernel_rfl) (by kernel_rfl) (fun _ _ _ h => h) (by rfl) (by assumption) ?hy16 ?rest16
    case hy16 => intro w' hSw; (try dsimp only at hSw); go_simp; try with_reducible rfl
    try simp only [Act.put, List.setIfInBounds_toArray, List.set_cons_zero, List.set_cons_succ]
    refine takeW 7 (v := ?v17) rfl (by kernel_rfl) (by kernel_rfl) (by kernel_rfl) (fun _ _ _ h => h) (by rfl) (by assumption) ?hy17 ?rest17
    case hy17 => intro w' hSw; (try dsimp only at hSw); go_simp; try with_reducible rfl
    try simp only [Act.put, List.setIfInBounds_toArray, List.set_cons_zero, List.set_cons_succ]
    refine takeW 8 (v := ?v18) rfl (by kernel_rfl) (by kernel_rfl) (by kernel_rfl) (fun _ _ _ h => h) (by rfl) (by assumption) ?hy18 ?rest18
    case hy18 => intro w' hSw; (try dsimp only at hSw); go_simp; try with_reducible rfl
    try simp only [Act.put, List.setIfInBounds_toArray, List.set_cons_zero, List.set_cons_succ]
    refine takeW 9 (v := ?v19) rfl (by kernel_rfl) (by kernel_rfl) (by kernel_rfl) (fun _ _ _ h => h) (by rfl) (by assumption) ?hy19 ?rest19
    case hy19 => intro w' hSw; (try dsimp only at hSw); go_simp; try with_reducible rfl
    try simp only [Act.put, List.setIfInBounds_toArray, List.set_cons_zero, List.set_cons_succ]
    refine wpAnyH_ready (rs := [0, 10]) (by kernel_rfl) (by simp) ?_
    refine AllReadyH.cons (at_drop rfl) (fun K hK => ?_) (AllReadyH.cons (at_drop rfl) (fun K hK => ?_) AllReadyH.nil)
    · go_simp
      skip
      refine hK.out _ _ ?_ (fun hHeld => ?_)
      · go_keep
      clear hK K
      try simp only [Act.put, List.setIfInBounds_toArray, List.set_cons_zero, List.set_cons_succ]
      refine wpAnyH_ready (rs := [2, 10]) (by kernel_rfl) (by simp) ?_
      refine AllReadyH.cons (at_drop rfl) (fun K hK => ?_) (AllReadyH.cons (at_drop rfl) (fun K hK => ?_) AllReadyH.nil)
      · refine step_append3 rfl (.tmp 28) (.tmp 29) 30 rfl W1.heap.size 38 i0 _ 5 56 Tryz.underlying30 hi hz0 hz1 hz2 rfl (by decide) _ 0 [] rfl (rowE W1 rfl) ⟨b, off, none⟩ ks.length cap (ks.flatMap Lk.cells) rfl (by rw [lflat_len]) (lks_cells (hrW.below (belE W1))) cells_one3 (by unfold maxLen; omega) (by omega) (by simp <;> omega) ?_; intro v1 w3 hown1 hgrow1; have hC3 := below_row3 (belE W1) (by simp) (rowE W1 rfl) hgrow1; have x3 := (hC3.cell (p := ⟨w.heap.size, 1, none⟩) hbx).trans hx1
        refine hK.out _ _ ?_ (fun hHeld => ?_)
        · go_keep
        clear hK K
        try simp only [Act.put, List.setIfInBounds_toArray, List.set_cons_zero, List.set_cons_succ]
        refine takeC 10 (by kernel_rfl) rfl (fun K hK => ?_)
        go_simp
        have hC4 : Below W1.heap.size W1 (w3.alloc (.cells #[.string k.to, .string tw, .int .i64 se, .int .i64 nw, .int .i64 (nw + li)] 38)) := hC3.alloc hC3.size _
        refine hK.out _ _ ?_ (fun hHeld => ?_)
        · go_keep
        clear hK K
        try simp only [Act.put, List.setIfInBounds_toArray, List.set_cons_zero, List.set_cons_succ]
        refine takeC 11 (by kernel_rfl) rfl (fun K hK => ?_)
        refine step_append3 rfl (.tmp 30) (.tmp 38) 30 rfl W1.heap.size 38 i0 _ 5 56 Tryz.underlying30 hi hz0 hz1 hz2 rfl (by decide) _ (0 + ks.length) _ rfl (hown1.alloc _) ⟨w3.heap.size, 0, none⟩ 1 1 (Lk.cells ⟨k.to, tw, se, nw, nw + li⟩) rfl rfl (cell_five_k w3 ⟨k.to, tw, se, nw, nw + li⟩) (by intro u hu; simp at hu; rcases hu with rfl | rfl | rfl | rfl | rfl <;> rfl) (by unfold maxLen; omega) (by omega) (by have := hC3.size; simp; omega) ?_; intro v2 w5 hown2 hgrow2; have hC5 := below_row3 hC4 hC4.size (hown1.alloc _) hgrow2; have x5 := (hC5.cell (p := ⟨w.heap.size, 1, none⟩) hbx).trans hx1
        refine hK.out _ _ ?_ (fun hHeld => ?_)
        · go_keep
        clear hK K
        try simp only [Act.put, List.setIfInBounds_toArray, List.set_cons_zero, List.set_cons_succ]
        refine takeW 12 (v := ?v20) rfl (by kernel_rfl) (by kernel_rfl) (by kernel_rfl) (fun _ _ _ h => h) (by rfl) (by assumption) ?hy20 ?rest20
        case hy20 => intro w' hSw; (try dsimp only at hSw); go_simp; try with_reducible rfl
        try simp only [Act.put, List.setIfInBounds_toArray, List.set_cons_zero, List.set_cons_succ]
        refine wpAnyH_done (by kernel_rfl) ?_ _
        go_wp2
        go_ret
        exact ⟨_, rfl, hfin hown2 HWs.out, below_one hBw hC5⟩
      · go_simp
        have hC3 : Below W1.heap.size W1 ((W1.alloc (.cells #[] 38)).alloc (.cells #[.string k.to, .string tw, .int .i64 se, .int .i64 nw, .int .i64 (nw + li)] 38)) := (belE W1).alloc (belE W1).size _
        refine hK.out _ _ ?_ (fun hHeld => ?_)
        · go_keep
        clear hK K
        try simp only [Act.put, List.setIfInBounds_toArray, List.set_cons_zero, List.set_cons_succ]
        refine takeC 2 (by kernel_rfl) rfl (fun K hK => ?_)
        refine step_append3 rfl (.tmp 28) (.tmp 29) 30 rfl W1.heap.size 38 i0 _ 5 56 Tryz.underlying30 hi hz0 hz1 hz2 rfl (by decide) _ 0 [] rfl ((rowE W1 rfl).alloc _) ⟨b, off, none⟩ ks.length cap (ks.flatMap Lk.cells) rfl (by rw [lflat_len]) (lks_cells (hrW.below hC3)) cells_one3 (by unfold maxLen; omega) (by omega) (by simp <;> omega) ?_; intro v1 w3 hown1 hgrow1; have hC4 := below_row3 hC3 hC3.size ((rowE W1 rfl).alloc _) hgrow1; have x4 := (hC4.cell (p := ⟨w.heap.size, 1, none⟩) hbx).trans hx1
        refine hK.out _ _ ?_ (fun hHeld => ?_)
        · go_keep
        clear hK K
        try simp only [Act.put, List.setIfInBounds_toArray, List.set_cons_zero, List.set_cons_succ]
        refine takeC 11 (by kernel_rfl) rfl (fun K hK => ?_)
        refine step_append3 rfl (.tmp 30) (.tmp 38) 30 rfl W1.heap.size 38 i0 _ 5 56 Tryz.underlying30 hi hz0 hz1 hz2 rfl (by decide) _ (0 + ks.length) _ rfl hown1 ⟨W1.heap.size + 1, 0, none⟩ 1 1 (Lk.cells ⟨k.to, tw, se, nw, nw + li⟩) rfl rfl (kept5 hgrow1 (cell_five_n (W1.alloc (.cells #[] 38)) ⟨k.to, tw, se, nw, nw + li⟩ (W1.heap.size + 1) (by simp)) (by simp) (show (Value.slice (some ⟨W1.heap.size, 0, none⟩) 0 0).ownBlock ≠ some (W1.heap.size + 1) from by simp [Value.ownBlock])) (by intro u hu; simp at hu; rcases hu with rfl | rfl | rfl | rfl | rfl <;> rfl) (by unfold maxLen; omega) (by omega) hC4.size ?_; intro v2 w5 hown2 hgrow2; have hC5 := below_row3 hC4 hC4.size hown1 hgrow2; have x5 := (hC5.cell (p := ⟨w.heap.size, 1, none⟩) hbx).trans hx1
        refine hK.out _ _ ?_ (fun hHeld => ?_)
        · go_keep
        clear hK K
        try simp only [Act.put, List.setIfInBounds_toArray, List.set_cons_zero, List.set_cons_succ]
        refine takeW 12 (v := ?v21) rfl (by kernel_rfl) (by kernel_rfl) (by kernel_rfl) (fun _ _ _ h => h) (by rfl) (by assumption) ?hy21 ?rest21
        case hy21 => intro w' hSw; (try dsimp only at hSw); go_simp; try with_reducible rfl
        try simp only [Act.put, List.setIfInBounds_toArray, List.set_cons_zero, List.set_cons_succ]
        refine wpAnyH_done (by kernel_rfl) ?_ _
        go_wp2
        go_ret
        exact ⟨_, rfl, hfin hown2 HWs.out, below_one hBw hC5⟩
    · go_simp
      have hC2 : Below W1.heap.size W1 (W1.alloc (.cells #[.string k.to, .string tw, .int .i64 se, .int .i64 nw, .int .i64 (nw + li)] 38)) := (Below.refl _ W1).alloc (Nat.le_refl _) _
      refine hK.out _ _ ?_ (fun hHeld => ?_)
      · go_keep
      clear hK K
      try simp only [Act.put, List.setIfInBounds_toArray, List.set_cons_zero, List.set_cons_succ]
      refine takeC 0 (by kernel_rfl) rfl (fun K hK => ?_)
      go_simp
      have hC3 : Below W1.heap.size W1 ((W1.alloc (.cells #[.string k.to, .string tw, .int .i64 se, .int .i64 nw, .int .i64 (nw + li)] 38)).alloc (.cells #[] 38)) := hC2.alloc hC2.size _
      refine hK.out _ _ ?_ (fun hHeld => ?_)
      · go_keep
      clear hK K
      try simp only [Act.put, List.setIfInBounds_toArray, List.set_cons_zero, List.set_cons_succ]
      refine takeC 2 (by kernel_rfl) rfl (fun K hK => ?_)
      refine step_append3 rfl (.tmp 28) (.tmp 29) 30 rfl W1.heap.size 38 i0 _ 5 56 Tryz.underlying30 hi hz0 hz1 hz2 rfl (by decide) _ 0 [] rfl (rowE2 (W1.alloc (.cells #[.string k.to, .string tw, .int .i64 se, .int .i64 nw, .int .i64 (nw + li)] 38)) (W1.heap.size + 1) (by simp) (by simp)) ⟨b, off, none⟩ ks.length cap (ks.flatMap Lk.cells) rfl (by rw [lflat_len]) (lks_cells (hrW.below hC3)) cells_one3 (by unfold maxLen; omega) (by omega) (by simp <;> omega) ?_; intro v1 w3 hown1 hgrow1; have hC4 := below_row3 hC3 hC3.size (rowE2 (W1.alloc (.cells #[.string k.to, .string tw, .int .i64 se, .int .i64 nw, .int .i64 (nw + li)] 38)) (W1.heap.size + 1) (by simp) (by simp)) hgrow1; have x4 := (hC4.cell (p := ⟨w.heap.size, 1, none⟩) hbx).trans hx1
      refine hK.out _ _ ?_ (fun hHeld => ?_)
      · go_keep
      clear hK K
      try simp only [Act.put, List.setIfInBounds_toArray, List.set_cons_zero, List.set_cons_succ]
      refine takeC 11 (by kernel_rfl) rfl (fun K hK => ?_)
      refine step_append3 rfl (.tmp 30) (.tmp 38) 30 rfl W1.heap.size 38 i0 _ 5 56 Tryz.underlying30 hi hz0 hz1 hz2 rfl (by decide) _ (0 + ks.length) _ rfl hown1 ⟨W1.heap.size, 0, none⟩ 1 1 (Lk.cells ⟨k.to, tw, se, nw, nw + li⟩) rfl rfl (kept5 hgrow1 (oldf5 (cell_five_n W1 ⟨k.to, tw, se, nw, nw + li⟩ W1.heap.size rfl) (by simp)) (by simp; omega) (show (Value.slice (some ⟨W1.heap.size + 1, 0, none⟩) 0 0).ownBlock ≠ some W1.heap.size from by simp [Value.ownBlock])) (by intro u hu; simp at hu; rcases hu with rfl | rfl | rfl | rfl | rfl <;> rfl) (by unfold maxLen; omega) (by omega) hC4.size ?_; intro v2 w5 hown2 hgrow2; have hC5 := below_row3 hC4 hC4.size hown1 hgrow2; have x5 := (hC5.cell (p := ⟨w.heap.size, 1, none⟩) hbx).trans hx1
      refine hK.out _ _ ?_ (fun hHeld => ?_)
      · go_keep
      clear hK K
      try simp only [Act.put, List.setIfInBounds_toArray, List.set_cons_zero, List.set_cons_succ]
      refine takeW 12 (v := ?v22) rfl (by kernel_rfl) (by kernel_rfl) (by kernel_rfl) (fun _ _ _ h => h) (by rfl) (by assumption) ?hy22 ?rest22
      case hy22 => intro w' hSw; (try dsimp only at hSw); go_simp; try with_reducible rfl
      try simp only [Act.put, List.setIfInBounds_toArray, List.set_cons_zero, List.set_cons_succ]
      refine wpAnyH_done (by kernel_rfl) ?_ _
      go_wp2
      go_ret
      exact ⟨_, rfl, hfin hown2 HWs.out, below_one hBw hC5⟩

end Go.Proofs.YtallpldgkkpikaaGreatDoor
