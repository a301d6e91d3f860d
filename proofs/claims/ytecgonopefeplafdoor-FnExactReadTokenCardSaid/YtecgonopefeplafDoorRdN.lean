/-
  Chapter 3: numbers read from texts, by the specification and by the program.
-/
import Derived.Shelf.Strconv.ErrVarAll
import Derived.Test.YtecgonopefeplafDoorTextT
namespace Go.Proofs.YtecgonopefeplafDoor
open Go.RowKit Go.Shelf

theorem numR_len {s : ByteArray} (h : ¬ (1 ≤ s.size ∧ s.size ≤ 6)) : numR s = -1 := by
  unfold numR
  rw [decide_eq_false h]
  rfl
theorem head_at {s : ByteArray} (h : 0 < s.size) : s.data.toList.head? = some s[0] := by
  rw [List.head?_eq_getElem?, List.getElem?_eq_getElem (by simpa using h)]
  simp
  rfl
theorem numR_nought {s : ByteArray} (h : 1 < s.size) (h0 : s[0] = 48) : numR s = -1 := by
  unfold numR
  rw [head_at (by omega), h0, decide_eq_true h]
  simp
theorem numR_go {s : ByteArray} (hl : 1 ≤ s.size ∧ s.size ≤ 6) (h : ¬ (s[0] = 48 ∧ 1 < s.size)) : numR s = (match Lib.decFrom 0 s.data.toList with
    | some n => (n : Int)
    | none => -1) := by
  unfold numR
  rw [head_at (by omega), decide_eq_true hl]
  have : (some s[0] == some 48 && decide (1 < s.size)) = false := by
    by_cases h0 : s[0] = 48
    · have : ¬ 1 < s.size := fun h1 => h ⟨h0, h1⟩
      rw [decide_eq_false this, Bool.and_false]
    · have : (some s[0] == some (48 : UInt8)) = false := by simpa using h0
      rw [this, Bool.false_and]
  rw [this]
  rfl
theorem byte_get {s : ByteArray} {k : Nat} (h : k < s.size) : s.data.toList[k]? = some s[k] := by
  rw [List.getElem?_eq_getElem (by simpa using h)]
  simp
  rfl
theorem dec_step {s : ByteArray} {k acc : Nat} (h : k < s.size) (ha : Lib.decFrom 0 (s.data.toList.take k) = some acc) (h1 : 48 ≤ s[k].toNat) (h2 : s[k].toNat ≤ 57) : Lib.decFrom 0 (s.data.toList.take (k + 1)) = some (acc * 10 + (s[k].toNat - 48)) :=
  Lib.decFrom_take _ k 0 acc s[k] _ ha (byte_get h) (by unfold Lib.digitVal; rw [if_pos ⟨h1, h2⟩])
theorem dec_bad {s : ByteArray} {k : Nat} (h : k < s.size) (hb : ¬ (48 ≤ s[k].toNat ∧ s[k].toNat ≤ 57)) : Lib.decFrom 0 s.data.toList = none := by
  cases hd : Lib.decFrom 0 s.data.toList with
  | none => rfl
  | some n =>
    obtain ⟨d, hd'⟩ := Lib.digit_of_decFrom _ _ _ hd k s[k] (byte_get h)
    exact absurd (Lib.digitVal_eq hd').1 (fun h1 => hb ⟨h1, (Lib.digitVal_eq hd').2.1⟩)
theorem dec_small {s : ByteArray} {k acc : Nat} (hk : k ≤ 5) (ha : Lib.decFrom 0 (s.data.toList.take k) = some acc) : acc < 100000 := by
  have h := Lib.decFrom_lt _ _ _ ha
  have hl : (s.data.toList.take k).length ≤ 5 := by rw [List.length_take]; omega
  have hp : 10 ^ (s.data.toList.take k).length ≤ 10 ^ 5 := Nat.pow_le_pow_right (by decide) hl
  omega

set_option maxHeartbeats 2000000 in
theorem l3Number_any (s : ByteArray) (w : World) (hs : s.size ≤ 1048576) :
    Calls Tryd.prog 54 #[.string s] w fun e w' => e = .returned (.int .i64 (numR s)) ∧ w' = w := by
  have hC := fun W => l1In_any (s.size : Int) 1 6 W
  by_cases hl : 1 ≤ s.size ∧ s.size ≤ 6
  · have hI : inB 1 6 (s.size : Int) = true := decide_eq_true (by omega)
    rw [hI] at hC
    have h0 : 0 < s.size := by omega
    obtain ⟨l1, l6⟩ := hl
    have HGo := hid (fun h => numR_go ⟨l1, l6⟩ h)
    have HNo := hid (fun h h' => numR_nought (s := s) h h')
    by_cases c0 : s[0] = 48
    · have e0 : ((s[0].toNat : Int) == 48) = true := by rw [c0]; rfl
      by_cases c1 : 1 < s.size
      · have HR := hid (HNo.out c1 c0)
        have d1 : decide ((1 : Int) < (s.size : Int)) = true := by simp; omega
        clear c0
        go_enter Tryd.func54, Tryd.ntmps54
        go_wp2_with (go_at_call 44; refine (hC _).mono ?_; rintro e w1 ⟨rfl, rfl⟩)
        go_ret
        exact ⟨ret_int HR.out.symm, rfl⟩
      · have HR := hid (HGo.out (fun h => c1 h.2))
        have d1 : decide ((1 : Int) < (s.size : Int)) = false := by simp; omega
        clear c0
        go_enter Tryd.func54, Tryd.ntmps54
        go_wp2_with (go_at_call 44; refine (hC _).mono ?_; rintro e w1 ⟨rfl, rfl⟩)
        go_loop [3, 4] (fun nv i => ∃ (k acc : Nat), k ≤ s.size ∧ i = .int .i64 k ∧ nv = .int .i64 acc ∧ Lib.decFrom 0 (s.data.toList.take k) = some acc) (fun _ i => s.size - (intOf i).toNat)
        case atStart => exact ⟨0, 0, Nat.zero_le _, rfl, rfl, rfl⟩
        case round =>
          obtain ⟨k, acc, hk, rfl, rfl, ha⟩ := hrel
          by_cases hlt : k < s.size
          · have hsm := dec_small (by omega) ha
            have HST := hid (fun h1 h2 => dec_step hlt ha h1 h2)
            have HBD := hid (fun h => dec_bad (s := s) hlt h)
            clear ha
            by_cases b1 : 48 ≤ s[k].toNat
            · by_cases b2 : s[k].toNat ≤ 57
              · have HX := hid (HST.out b1 b2)
                have e1 : decide ((s[k].toNat : Int) < 48) = false := by simp; omega
                have e2 : decide ((57 : Int) < (s[k].toNat : Int)) = false := by simp; omega
                have e3 : IntKind.u8.wrap ((s[k].toNat : Int) - 48) = (s[k].toNat : Int) - 48 := by rw [IntKind.wrap_u8]; omega
                have e4 : ((s[k].toNat - 48 : Nat) : Int) = (s[k].toNat : Int) - 48 := by omega
                go_wp2
                exact ⟨⟨k + 1, acc * 10 + (s[k].toNat - 48), by omega, by go_num, by push_cast; rw [e4]; go_num, HX.out⟩, by simp [intOf]; omega⟩
              · have HX := hid (show numR s = -1 by rw [HR.out, HBD.out (fun h => b2 h.2)])
                have e1 : decide ((s[k].toNat : Int) < 48) = false := by simp; omega
                have e2 : decide ((57 : Int) < (s[k].toNat : Int)) = true := by simp; omega
                go_wp2
                go_ret
                exact ⟨ret_int HX.out.symm, rfl⟩
            · have HX := hid (show numR s = -1 by rw [HR.out, HBD.out (fun h => b1 h.1)])
              have e1 : decide ((s[k].toNat : Int) < 48) = true := by simp; omega
              go_wp2
              go_ret
              exact ⟨ret_int HX.out.symm, rfl⟩
          · obtain rfl : k = s.size := by omega
            have HX := hid (show numR s = (acc : Int) by rw [List.take_of_length_le (by simp)] at ha; rw [HR.out, ha])
            clear ha
            go_wp2
            go_ret
            exact ⟨ret_int HX.out.symm, rfl⟩
    · have e0 : ((s[0].toNat : Int) == 48) = false := by
        rw [beq_eq_false_iff_ne]
        intro h
        exact c0 (byte_eq (b := 48) h)
      have HR := hid (HGo.out (fun h => c0 h.1))
      clear c0
      go_enter Tryd.func54, Tryd.ntmps54
      go_wp2_with (go_at_call 44; refine (hC _).mono ?_; rintro e w1 ⟨rfl, rfl⟩)
      go_loop [3, 4] (fun nv i => ∃ (k acc : Nat), k ≤ s.size ∧ i = .int .i64 k ∧ nv = .int .i64 acc ∧ Lib.decFrom 0 (s.data.toList.take k) = some acc) (fun _ i => s.size - (intOf i).toNat)
      case atStart => exact ⟨0, 0, Nat.zero_le _, rfl, rfl, rfl⟩
      case round =>
        obtain ⟨k, acc, hk, rfl, rfl, ha⟩ := hrel
        by_cases hlt : k < s.size
        · have hsm := dec_small (by omega) ha
          have HST := hid (fun h1 h2 => dec_step hlt ha h1 h2)
          have HBD := hid (fun h => dec_bad (s := s) hlt h)
          clear ha
          by_cases b1 : 48 ≤ s[k].toNat
          · by_cases b2 : s[k].toNat ≤ 57
            · have HX := hid (HST.out b1 b2)
              have e1 : decide ((s[k].toNat : Int) < 48) = false := by simp; omega
              have e2 : decide ((57 : Int) < (s[k].toNat : Int)) = false := by simp; omega
              have e3 : IntKind.u8.wrap ((s[k].toNat : Int) - 48) = (s[k].toNat : Int) - 48 := by rw [IntKind.wrap_u8]; omega
              have e4 : ((s[k].toNat - 48 : Nat) : Int) = (s[k].toNat : Int) - 48 := by omega
              go_wp2
              exact ⟨⟨k + 1, acc * 10 + (s[k].toNat - 48), by omega, by go_num, by push_cast; rw [e4]; go_num, HX.out⟩, by simp [intOf]; omega⟩
            · have HX := hid (show numR s = -1 by rw [HR.out, HBD.out (fun h => b2 h.2)])
              have e1 : decide ((s[k].toNat : Int) < 48) = false := by simp; omega
              have e2 : decide ((57 : Int) < (s[k].toNat : Int)) = true := by simp; omega
              go_wp2
              go_ret
              exact ⟨ret_int HX.out.symm, rfl⟩
          · have HX := hid (show numR s = -1 by rw [HR.out, HBD.out (fun h => b1 h.1)])
            have e1 : decide ((s[k].toNat : Int) < 48) = true := by simp; omega
            go_wp2
            go_ret
            exact ⟨ret_int HX.out.symm, rfl⟩
        · obtain rfl : k = s.size := by omega
          have HX := hid (show numR s = (acc : Int) by rw [List.take_of_length_le (by simp)] at ha; rw [HR.out, ha])
          clear ha
          go_wp2
          go_ret
          exact ⟨ret_int HX.out.symm, rfl⟩
  · have hI : inB 1 6 (s.size : Int) = false := decide_eq_false (by omega)
    rw [hI] at hC
    have HR := hid (numR_len hl)
    go_enter Tryd.func54, Tryd.ntmps54
    go_wp2_with (go_at_call 44; refine (hC _).mono ?_; rintro e w1 ⟨rfl, rfl⟩)
    go_ret
    exact ⟨ret_int HR.out.symm, rfl⟩

end Go.Proofs.YtecgonopefeplafDoor
