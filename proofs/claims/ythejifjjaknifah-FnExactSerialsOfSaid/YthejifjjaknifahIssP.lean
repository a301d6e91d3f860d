/-
  Chapter 4: where a work stands, by both.
-/
import Derived.Test.YthejifjjaknifahIssI
namespace Go.Proofs.Ythejifjjaknifah
open Go.RowKit Go.Shelf

theorem ret_ib {a b : Int} {c d : Bool} (h : a = b) (h' : c = d) : Ending.returned (.tuple #[.int .i64 a, .bool c]) = .returned (.tuple #[.int .i64 b, .bool d]) := by rw [h, h']

set_option maxHeartbeats 2000000 in
set_option maxRecDepth 100000 in
theorem placeW_any (v : Value) (ws : List Wk) (name : ByteArray) (w : World) (hm : ws.length ≤ 1048577) (hr : WkS w v ws) :
    Calls Try.prog 18 #[v, .func (.func 19) #[] #[], .string name] w fun e w' => e = .returned (.tuple #[.int .i64 (atW ws name : Nat), .bool (hasW ws name)]) ∧ Below w.heap.size w w' := by
  obtain ⟨a, cap, rfl⟩ := hr.len
  have hle := atW_le ws name
  go_enter Try.func18, Try.ntmps18
  go_wp2
  go_loopw [13] (fun i wr => ∃ n : Nat, n ≤ atW ws name ∧ i = .int .i64 n ∧ Below w.heap.size w wr) (fun i _ => ws.length - (intOf i).toNat)
  case atStart => exact ⟨0, Nat.zero_le _, rfl, Below.refl _ _⟩
  case round =>
    obtain ⟨n, hn, rfl, hB⟩ := hrel
    by_cases hlt : n < ws.length
    · obtain ⟨b, off, rfl, hb, hcap, q0, q1, q2⟩ := (hr.below hB).at hlt
      have HL := hid (fun h => atW_lt (n := name) hlt h)
      have HA := hid (fun h => atW_at (n := name) hlt h)
      have HW := hid (fun (h : n = atW ws name) => (show hasW ws name = (ws[n].name.toList == name.toList) by subst h; exact hasW_at hlt))
      generalize ws[n] = k at *
      have hBa : Below wr.heap.size wr (wr.alloc (.cells #[.string k.name, .bool k.live, .int .i64 k.se] 41)) := (Below.refl _ wr).alloc (Nat.le_refl _) _
      have hBA := below_one hB hBa
      go_wp2_with fail
      generalize wr.alloc (.cells #[.string k.name, .bool k.live, .int .i64 k.se] 41) = Wa at *
      refine (nameOfWork_any k _).mono ?_
      rintro e w1 ⟨rfl, hB1⟩
      have hBB := below_one hBA hB1
      clear hB1 hBA hBa q0 q1 q2
      by_cases hna : n < atW ws name
      · have hc : Op.bytesLess k.name.toList name.toList = true := HL.out hna
        go_wp2_with fail
        go_roundw
        case rel => exact ⟨n + 1, by omega, by go_num, hBB⟩
        case measure => simp [intOf]; omega
      · have hne : n = atW ws name := by omega
        have hc : Op.bytesLess k.name.toList name.toList = false := HA.out hne
        have HR := hid (HW.out hne)
        have HN := hid hne
        clear hne hna HL HA HW
        go_wp2_with fail
        go_ret2
        exact ⟨ret_ib (by rw [HN.out]) (by rw [HR.out]), hBB⟩
    · have hne : ws.length = atW ws name := by omega
      have HR := hid (hasW_end (ws := ws) (n := name) (by omega))
      have HN := hid hne
      clear hne
      go_wp2_with fail
      go_ret2
      exact ⟨ret_ib (by rw [HN.out]) (by rw [HR.out]), hB⟩

set_option maxHeartbeats 2000000 in
set_option maxRecDepth 100000 in
theorem l4At_any (v : Value) (s : Is) (name : ByteArray) (w : World) (hm : s.ws.length ≤ 1048577) (h : IsA w v s) :
    Calls Try.prog 13 #[v, .string name] w fun e w' => e = .returned (.tuple #[.int .i64 (atW s.ws name : Nat), .bool (hasW s.ws name)]) ∧ Below w.heap.size w w' := by
  obtain ⟨vw, vr, vs, rfl, h1, h2, h3⟩ := h.parts
  obtain ⟨aw, cw, rfl⟩ := h1.len
  have hle := atW_le s.ws name
  have hB0 : Below w.heap.size w (w.alloc (.cells #[.slice aw s.ws.length cw, .int .i64 s.nx, vr, vs] 32)) := (Below.refl _ w).alloc (Nat.le_refl _) _
  have F := Four.new w (.slice aw s.ws.length cw) (.int .i64 s.nx) vr vs 32
  go_enter Try.func13, Try.ntmps13
  go_wp2
  generalize w.alloc (.cells #[.slice aw s.ws.length cw, .int .i64 s.nx, vr, vs] 32) = W0 at *
  obtain ⟨a0, a1, a2, a3⟩ := F.c
  go_loopw [6] (fun i wr => ∃ n : Nat, n ≤ atW s.ws name ∧ i = .int .i64 n ∧ wr = W0) (fun i _ => s.ws.length - (intOf i).toNat)
  case atStart => exact ⟨0, Nat.zero_le _, rfl, rfl⟩
  case round =>
    obtain ⟨n, hn, rfl, rfl⟩ := hrel
    by_cases hlt : n < s.ws.length
    · obtain ⟨b, off, rfl, hb, hcap, q0, q1, q2⟩ := (h1.below hB0).at hlt
      have HL := hid (fun h => atW_lt (n := name) hlt h)
      have HA := hid (fun h => atW_at (n := name) hlt h)
      have HW := hid (fun (h : n = atW s.ws name) => (show hasW s.ws name = (s.ws[n].name.toList == name.toList) by subst h; exact hasW_at hlt))
      generalize s.ws[n] = k at *
      have dl : decide ((n : Int) < (s.ws.length : Int)) = true := by simp; omega
      by_cases hna : n < atW s.ws name
      · have hc : Op.bytesLess k.name.toList name.toList = true := HL.out hna
        go_wp2_with fail
        go_roundw
        case rel => exact ⟨n + 1, by omega, by go_num, by trivial⟩
        case measure => simp [intOf]; omega
      · have hne : n = atW s.ws name := by omega
        have hc : Op.bytesLess k.name.toList name.toList = false := HA.out hne
        have HR := hid (HW.out hne)
        have HN := hid hne
        clear hne hna HL HA HW
        go_wp2_with fail
        go_quiet (fail)
        go_wp2_with fail
        go_ret2
        exact ⟨ret_ib (by rw [HN.out]) (by rw [HR.out]), below_drewn hB0 _⟩
    · have hne : n = atW s.ws name := by omega
      have HR := hid (hasW_end (ws := s.ws) (n := name) (by omega))
      have HN := hid hne
      have dl : decide ((n : Int) < (s.ws.length : Int)) = false := by simp; omega
      clear hne
      go_wp2_with fail
      go_quiet (fail)
      go_wp2_with fail
      go_ret2
      exact ⟨ret_ib (by rw [HN.out]) (by rw [HR.out]), below_drewn hB0 _⟩

end Go.Proofs.Ythejifjjaknifah
