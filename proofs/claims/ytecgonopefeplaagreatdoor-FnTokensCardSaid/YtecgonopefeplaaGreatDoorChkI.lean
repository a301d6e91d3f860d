/-
  Chapter 3: what CheckToken asks, piece by piece: lists, times, revoked ones.
-/
import Derived.Laws.FloatArith
import Derived.WalkLawsBesides
import Derived.Shelf.Slices.Turned
import Derived.Test.YtecgonopefeplaaGreatDoorChkM
import Derived.Test.YtecgonopefeplaaGreatDoorSignT
import Derived.Test.YtecgonopefeplaaGreatDoorShelf
namespace Go.Proofs.YtecgonopefeplaaGreatDoor
open Go.RowKit Go.Shelf

theorem containsS_hasT (ss : List ByteArray) (s : ByteArray) : Lib.containsS ss s = hasT ss s := by
  rw [Bool.eq_iff_iff, Lib.containsS_iff]
  unfold hasT
  rw [List.any_eq_true]
  constructor
  · intro h
    exact ⟨s, h, by simp⟩
  · rintro ⟨x, hx, he⟩
    have : x = s := bytes_same (by simpa [toList_data] using he)
    rw [← this]
    exact hx
theorem contains_isI (zs : List Int) (z : Int) : zs.contains z = isI zs z := by
  rw [Bool.eq_iff_iff]
  unfold isI
  rw [List.any_eq_true, List.contains_iff_mem]
  constructor
  · intro h
    exact ⟨z, h, by simp⟩
  · rintro ⟨x, hx, he⟩
    have : x = z := by simpa using he
    rw [← this]
    exact hx

theorem contS_any (v : Value) (ss : List ByteArray) (s : ByteArray) (w : World) (hm : ss.length ≤ 1048577) (hr : VS w v (strs ss)) :
    Calls Tryz.prog 42 #[v, .string s] w fun e w' => e = .returned (.bool (hasT ss s)) ∧ w' = w := by
  rcases hr with ⟨a, cap, rfl, h0⟩ | ⟨b, off, cap, rfl, hb, hl, hc⟩
  · have : ss = [] := by simpa [strs] using h0
    subst this
    exact Any.slices_Contains_string_empty Tryz.lays110 a cap s w
  · have h := Any.slices_Contains_string Tryz.lays110 b off ss.length cap ss s w (Nat.le_refl _) (by omega) (fun j hj => by
      have := hc j (by rw [strs_len]; exact hj)
      rw [this]
      simp [strs, hj])
    rw [List.take_length, containsS_hasT] at h
    rw [strs_len]
    exact h

theorem contI_any (v : Value) (zs : List Int) (z : Int) (w : World) (hm : zs.length ≤ 1048577) (hr : VS w v (nums zs)) :
    Calls Tryz.prog 43 #[v, .int .i64 z] w fun e w' => e = .returned (.bool (isI zs z)) ∧ w' = w := by
  rcases hr with ⟨a, cap, rfl, h0⟩ | ⟨b, off, cap, rfl, hb, hl, hc⟩
  · have : zs = [] := by simpa [nums] using h0
    subst this
    exact Any.slices_Contains_int_empty Tryz.lays107 a cap z w
  · have h := Any.slices_Contains_int Tryz.lays107 b off zs.length cap zs z w (Nat.le_refl _) (by omega) (fun j hj => by
      have := hc j (by rw [nums_len]; exact hj)
      rw [this]
      simp [nums, hj])
    rw [List.take_length, contains_isI] at h
    rw [nums_len]
    exact h

set_option maxHeartbeats 1000000 in
theorem hasAll_any (v v' : Value) (ss ts : List ByteArray) (w : World) (hm : ss.length ≤ 1048577) (hm' : ts.length ≤ 1048577) (hr : VS w v (strs ss)) (hr' : VS w v' (strs ts)) :
    Calls Tryz.prog 22 #[v, v'] w fun e w' => e = .returned (.bool (allT ss ts)) ∧ w' = w := by
  obtain ⟨a, cap, rfl⟩ := hr'.strLen
  go_enter Tryz.func22, Tryz.ntmps22
  go_wp2
  go_loop [9] (fun i => ∃ n : Nat, n ≤ ts.length ∧ i = .int .i64 n ∧ allTo3 ss ts n = true) (fun i => ts.length - (intOf i).toNat)
  case atStart => exact ⟨0, Nat.zero_le _, rfl, allTo3_zero _ _⟩
  case round =>
    obtain ⟨n, hn, rfl, ht⟩ := hrel
    have HT := hid ht
    clear ht
    by_cases hlt : n < ts.length
    · obtain ⟨b, off, rfl, hb, hcap, q0⟩ := hr'.str hlt
      have HS := hid (allTo3_succ (ss := ss) hlt)
      have HY := hid (fun h => allT_no (ss := ss) hlt h)
      generalize ts[n] = x at *
      have hC := contS_any v ss x w hm hr
      cases he : hasT ss x
      · have HR := hid (HY.out he)
        rw [he] at hC
        go_wp2_with (go_at_call 42; refine hC.mono ?_; rintro e w1 ⟨rfl, rfl⟩)
        go_ret
        exact ⟨ret_bool HR.out.symm, rfl⟩
      · have HR := hid (show allTo3 ss ts (n + 1) = true by rw [HS.out, HT.out, he]; rfl)
        rw [he] at hC
        go_wp2_with (go_at_call 42; refine hC.mono ?_; rintro e w1 ⟨rfl, rfl⟩)
        exact ⟨⟨n + 1, by omega, by go_num, HR.out⟩, by simp [intOf]; omega⟩
    · obtain rfl : n = ts.length := by omega
      have HR := hid (show allT ss ts = true by rw [← allT_end, HT.out])
      go_wp2
      go_ret
      exact ⟨ret_bool HR.out.symm, rfl⟩

set_option maxHeartbeats 1000000 in
theorem anyRevoked_any (v v' : Value) (ks : List Lk) (zs : List Int) (w : World) (hm : ks.length ≤ 1048577) (hm' : zs.length ≤ 1048577) (hr : LkS w v ks) (hr' : VS w v' (nums zs)) :
    Calls Tryz.prog 25 #[v, v'] w fun e w' => e = .returned (.bool (rvB ks zs)) ∧ Below w.heap.size w w' := by
  obtain ⟨a, cap, rfl⟩ := hr.len
  go_enter Tryz.func25, Tryz.ntmps25
  go_wp2
  go_loopw [9] (fun i wr => ∃ n : Nat, n ≤ ks.length ∧ i = .int .i64 n ∧ rvTo ks zs n = false ∧ Below w.heap.size w wr) (fun i _ => ks.length - (intOf i).toNat)
  case atStart => exact ⟨0, Nat.zero_le _, rfl, rvTo_zero _ _, Below.refl _ _⟩
  case round =>
    obtain ⟨n, hn, rfl, ht, hB⟩ := hrel
    have HT := hid ht
    clear ht
    by_cases hlt : n < ks.length
    · obtain ⟨b, off, rfl, hb, hcap, q0, q1, q2, q3, q4⟩ := (hr.below hB).at hlt
      have HS := hid (rvTo_succ (zs := zs) hlt)
      have HY := hid (fun h => rvB_yes (zs := zs) hlt h)
      generalize ks[n] = k at *
      have hBw : Below wr.heap.size wr (wr.alloc (.cells #[.string k.who, .string k.to, .int .i64 k.se, .int .i64 k.fr, .int .i64 k.un] 35)) := (Below.refl _ wr).alloc (Nat.le_refl _) _
      have hBa := below_one hB hBw
      have hC := contI_any v' zs k.se _ hm' (hr'.below hBa)
      cases he : isI zs k.se
      · have HR := hid (show rvTo ks zs (n + 1) = false by rw [HS.out, HT.out, he]; rfl)
        rw [he] at hC
        go_wp2_with (go_at_call 43; refine hC.mono ?_; rintro e w1 ⟨rfl, rfl⟩)
        go_roundw
        case rel => exact ⟨n + 1, by omega, by go_num, HR.out, hBa⟩
        case measure => simp [intOf]; omega
      · have HR := hid (HY.out he)
        rw [he] at hC
        go_wp2_with (go_at_call 43; refine hC.mono ?_; rintro e w1 ⟨rfl, rfl⟩)
        go_ret
        exact ⟨ret_bool HR.out.symm, hBa⟩
    · obtain rfl : n = ks.length := by omega
      have HR := hid (show rvB ks zs = false by rw [← rvB_end, HT.out])
      go_wp2
      go_ret
      exact ⟨ret_bool HR.out.symm, hB⟩

end Go.Proofs.YtecgonopefeplaaGreatDoor
