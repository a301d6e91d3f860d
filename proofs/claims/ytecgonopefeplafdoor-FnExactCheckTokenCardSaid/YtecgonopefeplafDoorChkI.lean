/-
  Chapter 3: what CheckToken asks, piece by piece: lists, times, revoked ones.
-/
import Derived.Laws.FloatArith
import Derived.WalkLawsBesides
import Derived.Shelf.Slices.Turned
import Derived.Test.YtecgonopefeplafDoorChkM
import Derived.Test.YtecgonopefeplafDoorSignT
import Derived.Test.YtecgonopefeplafDoorShelf
namespace Go.Proofs.YtecgonopefeplafDoor
open Go.RowKit Go.Shelf

set_option maxHeartbeats 1000000 in
theorem l3HasText_any (v : Value) (ss : List ByteArray) (s : ByteArray) (w : World) (hm : ss.length ≤ 1048577) (hr : VS w v (strs ss)) :
    Calls Tryd.prog 60 #[v, .string s] w fun e w' => e = .returned (.bool (hasT ss s)) ∧ w' = w := by
  obtain ⟨a, cap, rfl⟩ := hr.strLen
  go_enter Tryd.func60, Tryd.ntmps60
  go_wp2
  go_loop [9] (fun i => ∃ n : Nat, n ≤ ss.length ∧ i = .int .i64 n ∧ hasTo ss s n = false) (fun i => ss.length - (intOf i).toNat)
  case atStart => exact ⟨0, Nat.zero_le _, rfl, hasTo_zero _ _⟩
  case round =>
    obtain ⟨n, hn, rfl, ht⟩ := hrel
    have HT := hid ht
    clear ht
    by_cases hlt : n < ss.length
    · obtain ⟨b, off, rfl, hb, hcap, q0⟩ := hr.str hlt
      have HS := hid (hasTo_succ (s := s) hlt)
      have HY := hid (fun h => hasT_yes (s := s) hlt h)
      generalize ss[n] = x at *
      cases he : (x.toList == s.toList)
      · have HR := hid (show hasTo ss s (n + 1) = false by rw [HS.out, HT.out, he]; rfl)
        go_wp2
        exact ⟨⟨n + 1, by omega, by go_num, HR.out⟩, by simp [intOf]; omega⟩
      · have HR := hid (HY.out he)
        go_wp2
        go_ret
        exact ⟨ret_bool HR.out.symm, rfl⟩
    · obtain rfl : n = ss.length := by omega
      have HR := hid (show hasT ss s = false by rw [← hasT_end, HT.out])
      go_wp2
      go_ret
      exact ⟨ret_bool HR.out.symm, rfl⟩

set_option maxHeartbeats 1000000 in
theorem l1Has_any (v : Value) (zs : List Int) (z : Int) (w : World) (hm : zs.length ≤ 1048577) (hr : VS w v (nums zs)) :
    Calls Tryd.prog 61 #[v, .int .i64 z] w fun e w' => e = .returned (.bool (isI zs z)) ∧ w' = w := by
  obtain ⟨a, cap, rfl⟩ := hr.numLen
  go_enter Tryd.func61, Tryd.ntmps61
  go_wp2
  go_loop [9] (fun i => ∃ n : Nat, n ≤ zs.length ∧ i = .int .i64 n ∧ isTo zs z n = false) (fun i => zs.length - (intOf i).toNat)
  case atStart => exact ⟨0, Nat.zero_le _, rfl, isTo_zero _ _⟩
  case round =>
    obtain ⟨n, hn, rfl, ht⟩ := hrel
    have HT := hid ht
    clear ht
    by_cases hlt : n < zs.length
    · obtain ⟨b, off, rfl, hb, hcap, q0⟩ := hr.num hlt
      have HS := hid (isTo_succ (z := z) hlt)
      have HY := hid (fun h => isI_yes (z := z) hlt h)
      generalize zs[n] = x at *
      cases he : (x == z)
      · have HR := hid (show isTo zs z (n + 1) = false by rw [HS.out, HT.out, he]; rfl)
        go_wp2
        exact ⟨⟨n + 1, by omega, by go_num, HR.out⟩, by simp [intOf]; omega⟩
      · have HR := hid (HY.out he)
        go_wp2
        go_ret
        exact ⟨ret_bool HR.out.symm, rfl⟩
    · obtain rfl : n = zs.length := by omega
      have HR := hid (show isI zs z = false by rw [← isI_end, HT.out])
      go_wp2
      go_ret
      exact ⟨ret_bool HR.out.symm, rfl⟩

theorem containsS_hasT (ss : List ByteArray) (s : ByteArray) : Lib.containsS ss s = hasT ss s := by
  rw [Bool.eq_iff_iff, Lib.containsS_iff]
  unfold hasT
  rw [List.any_eq_true]
  constructor
  · intro h
    exact ⟨s, h, by simp⟩
  · rintro ⟨x, hx, he⟩
    have : x = s := bytes_same (by simpa [toList_data] using he)
    rw [← this]
    exact hx
theorem contains_isI (zs : List Int) (z : Int) : zs.contains z = isI zs z := by
  rw [Bool.eq_iff_iff]
  unfold isI
  rw [List.any_eq_true, List.contains_iff_mem]
  constructor
  · intro h
    exact ⟨z, h, by simp⟩
  · rintro ⟨x, hx, he⟩
    have : x = z := by simpa using he
    rw [← this]
    exact hx

theorem contS_any (v : Value) (ss : List ByteArray) (s : ByteArray) (w : World) (hm : ss.length ≤ 1048577) (hr : VS w v (strs ss)) :
    Calls Tryd.prog 64 #[v, .string s] w fun e w' => e = .returned (.bool (hasT ss s)) ∧ w' = w := by
  rcases hr with ⟨a, cap, rfl, h0⟩ | ⟨b, off, cap, rfl, hb, hl, hc⟩
  · have : ss = [] := by simpa [strs] using h0
    subst this
    exact Any.slices_Contains_string_empty Tryd.lays110 a cap s w
  · have h := Any.slices_Contains_string Tryd.lays110 b off ss.length cap ss s w (Nat.le_refl _) (by omega) (fun j hj => by
      have := hc j (by rw [strs_len]; exact hj)
      rw [this]
      simp [strs, hj])
    rw [List.take_length, containsS_hasT] at h
    rw [strs_len]
    exact h

theorem contI_any (v : Value) (zs : List Int) (z : Int) (w : World) (hm : zs.length ≤ 1048577) (hr : VS w v (nums zs)) :
    Calls Tryd.prog 65 #[v, .int .i64 z] w fun e w' => e = .returned (.bool (isI zs z)) ∧ w' = w := by
  rcases hr with ⟨a, cap, rfl, h0⟩ | ⟨b, off, cap, rfl, hb, hl, hc⟩
  · have : zs = [] := by simpa [nums] using h0
    subst this
    exact Any.slices_Contains_int_empty Tryd.lays107 a cap z w
  · have h := Any.slices_Contains_int Tryd.lays107 b off zs.length cap zs z w (Nat.le_refl _) (by omega) (fun j hj => by
      have := hc j (by rw [nums_len]; exact hj)
      rw [this]
      simp [nums, hj])
    rw [List.take_length, contains_isI] at h
    rw [nums_len]
    exact h

set_option maxHeartbeats 1000000 in
theorem hasAll_any (v v' : Value) (ss ts : List ByteArray) (w : World) (hm : ss.length ≤ 1048577) (hm' : ts.length ≤ 1048577) (hr : VS w v (strs ss)) (hr' : VS w v' (strs ts)) :
    Calls Tryd.prog 39 #[v, v'] w fun e w' => e = .returned (.bool (allT ss ts)) ∧ w' = w := by
  obtain ⟨a, cap, rfl⟩ := hr'.strLen
  go_enter Tryd.func39, Tryd.ntmps39
  go_wp2
  go_loop [9] (fun i => ∃ n : Nat, n ≤ ts.length ∧ i = .int .i64 n ∧ allTo3 ss ts n = true) (fun i => ts.length - (intOf i).toNat)
  case atStart => exact ⟨0, Nat.zero_le _, rfl, allTo3_zero _ _⟩
  case round =>
    obtain ⟨n, hn, rfl, ht⟩ := hrel
    have HT := hid ht
    clear ht
    by_cases hlt : n < ts.length
    · obtain ⟨b, off, rfl, hb, hcap, q0⟩ := hr'.str hlt
      have HS := hid (allTo3_succ (ss := ss) hlt)
      have HY := hid (fun h => allT_no (ss := ss) hlt h)
      generalize ts[n] = x at *
      have hC := contS_any v ss x w hm hr
      cases he : hasT ss x
      · have HR := hid (HY.out he)
        rw [he] at hC
        go_wp2_with (go_at_call 64; refine hC.mono ?_; rintro e w1 ⟨rfl, rfl⟩)
        go_ret
        exact ⟨ret_bool HR.out.symm, rfl⟩
      · have HR := hid (show allTo3 ss ts (n + 1) = true by rw [HS.out, HT.out, he]; rfl)
        rw [he] at hC
        go_wp2_with (go_at_call 64; refine hC.mono ?_; rintro e w1 ⟨rfl, rfl⟩)
        exact ⟨⟨n + 1, by omega, by go_num, HR.out⟩, by simp [intOf]; omega⟩
    · obtain rfl : n = ts.length := by omega
      have HR := hid (show allT ss ts = true by rw [← allT_end, HT.out])
      go_wp2
      go_ret
      exact ⟨ret_bool HR.out.symm, rfl⟩

set_option maxHeartbeats 1000000 in
theorem anyRevoked_any (v v' : Value) (ks : List Lk) (zs : List Int) (w : World) (hm : ks.length ≤ 1048577) (hm' : zs.length ≤ 1048577) (hr : LkS w v ks) (hr' : VS w v' (nums zs)) :
    Calls Tryd.prog 42 #[v, v'] w fun e w' => e = .returned (.bool (rvB ks zs)) ∧ Below w.heap.size w w' := by
  obtain ⟨a, cap, rfl⟩ := hr.len
  go_enter Tryd.func42, Tryd.ntmps42
  go_wp2
  go_loopw [9] (fun i wr => ∃ n : Nat, n ≤ ks.length ∧ i = .int .i64 n ∧ rvTo ks zs n = false ∧ Below w.heap.size w wr) (fun i _ => ks.length - (intOf i).toNat)
  case atStart => exact ⟨0, Nat.zero_le _, rfl, rvTo_zero _ _, Below.refl _ _⟩
  case round =>
    obtain ⟨n, hn, rfl, ht, hB⟩ := hrel
    have HT := hid ht
    clear ht
    by_cases hlt : n < ks.length
    · obtain ⟨b, off, rfl, hb, hcap, q0, q1, q2, q3, q4⟩ := (hr.below hB).at hlt
      have HS := hid (rvTo_succ (zs := zs) hlt)
      have HY := hid (fun h => rvB_yes (zs := zs) hlt h)
      generalize ks[n] = k at *
      have hBw : Below wr.heap.size wr (wr.alloc (.cells #[.string k.who, .string k.to, .int .i64 k.se, .int .i64 k.fr, .int .i64 k.un] 48)) := (Below.refl _ wr).alloc (Nat.le_refl _) _
      have hBa := below_one hB hBw
      have hC := contI_any v' zs k.se _ hm' (hr'.below hBa)
      cases he : isI zs k.se
      · have HR := hid (show rvTo ks zs (n + 1) = false by rw [HS.out, HT.out, he]; rfl)
        rw [he] at hC
        go_wp2_with (go_at_call 65; refine hC.mono ?_; rintro e w1 ⟨rfl, rfl⟩)
        go_roundw
        case rel => exact ⟨n + 1, by omega, by go_num, HR.out, hBa⟩
        case measure => simp [intOf]; omega
      · have HR := hid (HY.out he)
        rw [he] at hC
        go_wp2_with (go_at_call 65; refine hC.mono ?_; rintro e w1 ⟨rfl, rfl⟩)
        go_ret
        exact ⟨ret_bool HR.out.symm, hBa⟩
    · obtain rfl : n = ks.length := by omega
      have HR := hid (show rvB ks zs = false by rw [← rvB_end, HT.out])
      go_wp2
      go_ret
      exact ⟨ret_bool HR.out.symm, hB⟩

end Go.Proofs.YtecgonopefeplafDoor
