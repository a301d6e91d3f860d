/-
  Chapter 4: where a work stands, by both.
-/
import Derived.Test.YtfchmhcnejifhaaDoorIssI
namespace Go.Proofs.YtfchmhcnejifhaaDoor
open Go.RowKit Go.Shelf

theorem ret_ib {a b : Int} {c d : Bool} (h : a = b) (h' : c = d) : Ending.returned (.tuple #[.int .i64 a, .bool c]) = .returned (.tuple #[.int .i64 b, .bool d]) := by rw [h, h']

set_option maxHeartbeats 2000000 in
set_option maxRecDepth 100000 in
theorem placeW_any (v : Value) (ws : List Wk) (name : ByteArray) (w : World) (hm : ws.length ≤ 1048577) (hr : WkS w v ws) :
    Calls Tryd.prog 27 #[v, .func (.func 28) #[] #[], .string name] w fun e w' => e = .returned (.tuple #[.int .i64 (atW ws name : Nat), .bool (hasW ws name)]) ∧ Below w.heap.size w w' := by
  obtain ⟨a, cap, rfl⟩ := hr.len
  have hle := atW_le ws name
  go_enter Tryd.func27, Tryd.ntmps27
  go_wp2
  go_loopw [13] (fun i wr => ∃ n : Nat, n ≤ atW ws name ∧ i = .int .i64 n ∧ Below w.heap.size w wr) (fun i _ => ws.length - (intOf i).toNat)
  case atStart => exact ⟨0, Nat.zero_le _, rfl, Below.refl _ _⟩
  case round =>
    obtain ⟨n, hn, rfl, hB⟩ := hrel
    by_cases hlt : n < ws.length
    · obtain ⟨b, off, rfl, hb, hcap, q0, q1, q2⟩ := (hr.below hB).at hlt
      have HL := hid (fun h => atW_lt (n := name) hlt h)
      have HA := hid (fun h => atW_at (n := name) hlt h)
      have HW := hid (fun (h : n = atW ws name) => (show hasW ws name = (ws[n].name.toList == name.toList) by subst h; exact hasW_at hlt))
      generalize ws[n] = k at *
      have hBa : Below wr.heap.size wr (wr.alloc (.cells #[.string k.name, .bool k.live, .int .i64 k.se] 48)) := (Below.refl _ wr).alloc (Nat.le_refl _) _
      have hBA := below_one hB hBa
      go_wp2_with fail
      generalize wr.alloc (.cells #[.string k.name, .bool k.live, .int .i64 k.se] 48) = Wa at *
      refine (nameOfWork_any k _).mono ?_
      rintro e w1 ⟨rfl, hB1⟩
      have hBB := below_one hBA hB1
      clear hB1 hBA hBa q0 q1 q2
      by_cases hna : n < atW ws name
      · have hc : Op.bytesLess k.name.toList name.toList = true := HL.out hna
        go_wp2_with fail
        go_roundw
        case rel => exact ⟨n + 1, by omega, by go_num, hBB⟩
        case measure => simp [intOf]; omega
      · have hne : n = atW ws name := by omega
        have hc : Op.bytesLess k.name.toList name.toList = false := HA.out hne
        have HR := hid (HW.out hne)
        have HN := hid hne
        clear hne hna HL HA HW
        go_wp2_with fail
        go_ret2
        exact ⟨ret_ib (by rw [HN.out]) (by rw [HR.out]), hBB⟩
    · have hne : ws.length = atW ws name := by omega
      have HR := hid (hasW_end (ws := ws) (n := name) (by omega))
      have HN := hid hne
      clear hne
      go_wp2_with fail
      go_ret2
      exact ⟨ret_ib (by rw [HN.out]) (by rw [HR.out]), hB⟩

set_option maxHeartbeats 2000000 in
set_option maxRecDepth 100000 in
theorem placeN_any (v : Value) (zs : List Int) (z : Int) (w : World) (hm : zs.length ≤ 1048577) (hr : VS w v (nums zs)) :
    Calls Tryd.prog 41 #[v, .func (.func 42) #[] #[], .int .i64 z] w fun e w' => e = .returned (.tuple #[.int .i64 (atN zs z : Nat), .bool (hasN zs z)]) ∧ w' = w := by
  obtain ⟨a, cap, rfl⟩ := hr.numLen
  have hle := atN_le zs z
  go_enter Tryd.func41, Tryd.ntmps41
  go_wp2
  go_loopw [13] (fun i wr => ∃ n : Nat, n ≤ atN zs z ∧ i = .int .i64 n ∧ wr = w) (fun i _ => zs.length - (intOf i).toNat)
  case atStart => exact ⟨0, Nat.zero_le _, rfl, rfl⟩
  case round =>
    obtain ⟨n, hn, rfl, rfl⟩ := hrel
    by_cases hlt : n < zs.length
    · obtain ⟨b, off, rfl, hb, hcap, q0⟩ := hr.num hlt
      have HL := hid (fun h => atN_lt (n := z) hlt h)
      have HA := hid (fun h => atN_at (n := z) hlt h)
      have HW := hid (fun (h : n = atN zs z) => (show hasN zs z = (zs[n] == z) by subst h; exact hasN_at hlt))
      generalize zs[n] = k at *
      by_cases hna : n < atN zs z
      · have hc : decide (z ≤ k) = false := by have := HL.out hna; simp; omega
        go_wp2_with (go_at_call 42; refine (itself_any k _).mono ?_; rintro e w1 ⟨rfl, rfl⟩)
        go_roundw
        case rel => exact ⟨n + 1, by omega, by go_num, by trivial⟩
        case measure => simp [intOf]; omega
      · have hne : n = atN zs z := by omega
        have hc : decide (z ≤ k) = true := by have := HA.out hne; simp; omega
        have HR := hid (HW.out hne)
        have HN := hid hne
        clear hne hna HL HA HW
        go_wp2_with (go_at_call 42; refine (itself_any k _).mono ?_; rintro e w1 ⟨rfl, rfl⟩)
        go_ret2
        exact ⟨ret_ib (by rw [HN.out]) (by rw [HR.out]), rfl⟩
    · have hne : zs.length = atN zs z := by omega
      have HR := hid (hasN_end (zs := zs) (n := z) (by omega))
      have HN := hid hne
      clear hne
      go_wp2_with fail
      go_ret2
      exact ⟨ret_ib (by rw [HN.out]) (by rw [HR.out]), rfl⟩

set_option maxHeartbeats 2000000 in
set_option maxRecDepth 100000 in
theorem l4At_any (v : Value) (s : Is) (name : ByteArray) (w : World) (hm : s.ws.length ≤ 1048577) (h : IsA w v s) :
    Calls Tryd.prog 20 #[v, .string name] w fun e w' => e = .returned (.tuple #[.int .i64 (atW s.ws name : Nat), .bool (hasW s.ws name)]) ∧ Below w.heap.size w w' := by
  obtain ⟨vw, vr, vs, rfl, h1, h2, h3⟩ := h.parts
  obtain ⟨aw, cw, rfl⟩ := h1.len
  have hle := atW_le s.ws name
  have hB0 : Below w.heap.size w (w.alloc (.cells #[.slice aw s.ws.length cw, .int .i64 s.nx, vr, vs] 30)) := (Below.refl _ w).alloc (Nat.le_refl _) _
  have F := Four.new w (.slice aw s.ws.length cw) (.int .i64 s.nx) vr vs 30
  go_enter Tryd.func20, Tryd.ntmps20
  go_wp2
  generalize w.alloc (.cells #[.slice aw s.ws.length cw, .int .i64 s.nx, vr, vs] 30) = W0 at *
  obtain ⟨a0, a1, a2, a3⟩ := F.c
  go_loopw [6] (fun i wr => ∃ n : Nat, n ≤ atW s.ws name ∧ i = .int .i64 n ∧ wr = W0) (fun i _ => s.ws.length - (intOf i).toNat)
  case atStart => exact ⟨0, Nat.zero_le _, rfl, rfl⟩
  case round =>
    obtain ⟨n, hn, rfl, rfl⟩ := hrel
    by_cases hlt : n < s.ws.length
    · obtain ⟨b, off, rfl, hb, hcap, q0, q1, q2⟩ := (h1.below hB0).at hlt
      have HL := hid (fun h => atW_lt (n := name) hlt h)
      have HA := hid (fun h => atW_at (n := name) hlt h)
      have HW := hid (fun (h : n = atW s.ws name) => (show hasW s.ws name = (s.ws[n].name.toList == name.toList) by subst h; exact hasW_at hlt))
      generalize s.ws[n] = k at *
      have dl : decide ((n : Int) < (s.ws.length : Int)) = true := by simp; omega
      by_cases hna : n < atW s.ws name
      · have hc : Op.bytesLess k.name.toList name.toList = true := HL.out hna
        go_wp2_with fail
        go_roundw
        case rel => exact ⟨n + 1, by omega, by go_num, by trivial⟩
        case measure => simp [intOf]; omega
      · have hne : n = atW s.ws name := by omega
        have hc : Op.bytesLess k.name.toList name.toList = false := HA.out hne
        have HR := hid (HW.out hne)
        have HN := hid hne
        clear hne hna HL HA HW
        go_wp2_with fail
        go_quiet (fail)
        go_wp2_with fail
        go_ret2
        exact ⟨ret_ib (by rw [HN.out]) (by rw [HR.out]), below_drewn hB0 _⟩
    · have hne : n = atW s.ws name := by omega
      have HR := hid (hasW_end (ws := s.ws) (n := name) (by omega))
      have HN := hid hne
      have dl : decide ((n : Int) < (s.ws.length : Int)) = false := by simp; omega
      clear hne
      go_wp2_with fail
      go_quiet (fail)
      go_wp2_with fail
      go_ret2
      exact ⟨ret_ib (by rw [HN.out]) (by rw [HR.out]), below_drewn hB0 _⟩

set_option maxHeartbeats 2000000 in
theorem isLive_any (v : Value) (s : Is) (name : ByteArray) (w : World) (hm : s.ws.length ≤ 1048577) (h : IsA w v s) :
    Calls Tryd.prog 51 #[v, .string name] w fun e w' => e = .returned (.bool (livW s.ws name)) ∧ Below w.heap.size w w' := by
  obtain ⟨vw, vr, vs, rfl, h1, h2, h3⟩ := h.parts
  obtain ⟨aw, cw, rfl⟩ := h1.len
  have hB0 : Below w.heap.size w (w.alloc (.cells #[.slice aw s.ws.length cw, .int .i64 s.nx, vr, vs] 30)) := (Below.refl _ w).alloc (Nat.le_refl _) _
  have F := Four.new w (.slice aw s.ws.length cw) (.int .i64 s.nx) vr vs 30
  go_enter Tryd.func51, Tryd.ntmps51
  go_wp2_with fail
  generalize w.alloc (.cells #[.slice aw s.ws.length cw, .int .i64 s.nx, vr, vs] 30) = W0 at *
  refine (placeW_any _ s.ws name _ hm (h1.below hB0)).mono ?_
  rintro e w1 ⟨rfl, hB1⟩
  replace F := F.below hB1
  have hBB := below_one hB0 hB1
  clear hB0 hB1
  obtain ⟨a0, a1, a2, a3⟩ := F.c
  cases hh : hasW s.ws name
  · have HR := hid (livW_no hh)
    go_wp2_with fail
    go_ret
    exact ⟨ret_bool HR.out.symm, hBB⟩
  · have hlt := hasW_lt hh
    obtain ⟨b, off, rfl, hb, hcap, q0, q1, q2⟩ := (h1.below hBB).at hlt
    have HR := hid (show livW s.ws name = s.ws[atW s.ws name].live by rw [livW_at hlt, hh]; rfl)
    have hl2 : ((atW s.ws name : Nat) : Int) < (s.ws.length : Int) := by omega
    generalize s.ws[atW s.ws name] = k at *
    generalize atW s.ws name = n at *
    go_wp2_with fail
    go_ret
    exact ⟨ret_bool HR.out.symm, hBB⟩

end Go.Proofs.YtfchmhcnejifhaaDoor
