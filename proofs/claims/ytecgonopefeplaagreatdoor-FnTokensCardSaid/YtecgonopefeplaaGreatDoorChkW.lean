/-
  Chapter 3: the window of times, as a pair of floats.
-/
import Derived.Test.YtecgonopefeplaaGreatDoorChkI
namespace Go.Proofs.YtecgonopefeplaaGreatDoor
open Go.RowKit Go.Shelf

theorem fN_zero : (0 : Nat) = fN 0 := by decide
theorem fN_most : (4681608360884174848 : Nat) = fN 100000 := by
  have h : Nat.log2 100000 = 16 := by decide
  rw [(fN_pos (n := 100000) (by omega) (by omega)).1, h]
theorem max_run (ts : Array TypeId) (t : TypeId) {a b : Nat} (ha : a ≤ 100000) (hb : b ≤ 100000) (W : World) : (Builtin.max_ ts t #[.float .f64 (fN a), .float .f64 (fN b)]).run Tryz.prog W = .ok (.float .f64 (fN (max a b))) W := by
  have ho := order_fN a b (by omega) (by omega)
  have hn := neg_fN a (by omega)
  rcases Nat.lt_trichotomy a b with h | h | h
  · rw [Nat.compare_eq_lt.2 h] at ho
    rw [Nat.max_eq_right (by omega)]
    simp [Builtin.max_, Builtin.max2, ho]
  · subst h
    rw [Nat.compare_eq_eq.2 rfl] at ho
    rw [Nat.max_self]
    simp [Builtin.max_, Builtin.max2, ho]
  · rw [Nat.compare_eq_gt.2 h] at ho
    rw [Nat.max_eq_left (by omega)]
    simp [Builtin.max_, Builtin.max2, ho]
theorem min_run (ts : Array TypeId) (t : TypeId) {a b : Nat} (ha : a ≤ 100000) (hb : b ≤ 100000) (W : World) : (Builtin.min_ ts t #[.float .f64 (fN a), .float .f64 (fN b)]).run Tryz.prog W = .ok (.float .f64 (fN (min a b))) W := by
  have ho := order_fN a b (by omega) (by omega)
  have hn := neg_fN a (by omega)
  rcases Nat.lt_trichotomy a b with h | h | h
  · rw [Nat.compare_eq_lt.2 h] at ho
    rw [Nat.min_eq_left (by omega)]
    simp [Builtin.min_, Builtin.min2, ho]
  · subst h
    rw [Nat.compare_eq_eq.2 rfl] at ho
    rw [Nat.min_self]
    simp [Builtin.min_, Builtin.min2, ho]
  · rw [Nat.compare_eq_gt.2 h] at ho
    rw [Nat.min_eq_right (by omega)]
    simp [Builtin.min_, Builtin.min2, ho]

set_option maxHeartbeats 1000000 in
theorem windowOf_any (v : Value) (ks : List Lk) (w : World) (hm : ks.length ≤ 1048577) (hg : ∀ k ∈ ks, k.good = true) (hr : LkS w v ks) :
    Calls Tryz.prog 24 #[v] w fun e w' => e = .returned (.complex .f64 (fN (mxF ks ks.length)) (fN (mnU ks ks.length))) ∧ Below w.heap.size w w' := by
  obtain ⟨a, cap, rfl⟩ := hr.len
  have HW := hid (fun n hn => win_le hg n hn)
  go_enter Tryz.func24, Tryz.ntmps24
  go_wp2
  go_loopw [3, 10] (fun c i wr => ∃ n : Nat, n ≤ ks.length ∧ i = .int .i64 n ∧ c = .complex .f64 (fN (mxF ks n)) (fN (mnU ks n)) ∧ Below w.heap.size w wr) (fun _ i _ => ks.length - (intOf i).toNat)
  case atStart => exact ⟨0, Nat.zero_le _, rfl, by rw [mxF_zero, mnU_zero, ← fN_zero, ← fN_most], Below.refl _ _⟩
  case round =>
    obtain ⟨n, hn, rfl, rfl, hB⟩ := hrel
    by_cases hlt : n < ks.length
    · obtain ⟨b, off, rfl, hb, hcap, q0, q1, q2, q3, q4⟩ := (hr.below hB).at hlt
      obtain ⟨_, _, _, b4, b5, _⟩ := (Lk.good_iff ks[n]).1 (hg ks[n] (List.getElem_mem hlt))
      obtain ⟨hx, hy⟩ := HW.out n hn
      have HX := hid (mxF_succ hlt)
      have HY := hid (mnU_succ hlt)
      generalize ks[n] = k at *
      generalize mxF ks n = x at *
      generalize mnU ks n = y at *
      obtain ⟨wh, to, se, fr, un⟩ := k
      dsimp only at *
      obtain ⟨f, rfl⟩ := Int.eq_ofNat_of_zero_le b4.1
      obtain ⟨u, rfl⟩ := Int.eq_ofNat_of_zero_le b5.1
      rw [Int.toNat_natCast] at HX HY
      have hBa : Below w.heap.size w (wr.alloc (.cells #[.string wh, .string to, .int .i64 se, .int .i64 (f : Int), .int .i64 (u : Int)] 35)) := hB.alloc hB.size _
      have c1 : floatOfInt FloatKind.f64 (f : Int) = fN f := rfl
      have c2 : floatOfInt FloatKind.f64 (u : Int) = fN u := rfl
      have m1 := fun ts t W => max_run ts t (a := x) (b := f) hx (by omega) W
      have m2 := fun ts t W => min_run ts t (a := y) (b := u) hy (by omega) W
      generalize max x f = x' at *
      generalize min y u = y' at *
      go_wp2
      go_roundw
      case rel => exact ⟨n + 1, by omega, by go_num, by rw [HX.out, HY.out], hBa⟩
      case measure => simp [intOf]; omega
    · obtain rfl : n = ks.length := by omega
      go_wp2
      go_ret
      exact ⟨rfl, hB⟩

set_option maxHeartbeats 1000000 in
theorem within_any (x y nw : Nat) (w : World) (hx : x ≤ 100000) (hy : y ≤ 100000) (hn : nw ≤ 100000) :
    Calls Tryz.prog 23 #[.complex .f64 (fN x) (fN y), .int .i64 (nw : Int)] w fun e w' => e = .returned (.bool (decide (x ≤ nw ∧ nw ≤ y))) ∧ w' = w := by
  have c1 : floatOfInt FloatKind.f64 (nw : Int) = fN nw := rfl
  have o1 := order_fN nw x (by omega) (by omega)
  have o2 := order_fN nw y (by omega) (by omega)
  have HR := hid (show decide (x ≤ nw ∧ nw ≤ y) = (decide (x ≤ nw) && decide (nw ≤ y)) from Bool.decide_and _ _)
  generalize decide (x ≤ nw ∧ nw ≤ y) = res at *
  rcases Nat.lt_trichotomy nw x with h | h | h
  · rw [Nat.compare_eq_lt.2 h] at o1
    have HQ := hid (show res = false by rw [HR.out, decide_eq_false (by omega)]; rfl)
    go_enter Tryz.func23, Tryz.ntmps23
    go_wp2
    go_ret
    exact ⟨ret_bool HQ.out.symm, rfl⟩
  · rw [Nat.compare_eq_eq.2 h] at o1
    rcases Nat.lt_trichotomy nw y with h2 | h2 | h2
    · rw [Nat.compare_eq_lt.2 h2] at o2
      have HQ := hid (show res = true by rw [HR.out, decide_eq_true (by omega), decide_eq_true (by omega)]; rfl)
      clear h h2
      go_enter Tryz.func23, Tryz.ntmps23
      go_wp2
      go_ret
      exact ⟨ret_bool HQ.out.symm, rfl⟩
    · rw [Nat.compare_eq_eq.2 h2] at o2
      have HQ := hid (show res = true by rw [HR.out, decide_eq_true (by omega), decide_eq_true (by omega)]; rfl)
      clear h h2
      go_enter Tryz.func23, Tryz.ntmps23
      go_wp2
      go_ret
      exact ⟨ret_bool HQ.out.symm, rfl⟩
    · rw [Nat.compare_eq_gt.2 h2] at o2
      have HQ := hid (show res = false by rw [HR.out, decide_eq_true (by omega), decide_eq_false (by omega)]; rfl)
      clear h h2
      go_enter Tryz.func23, Tryz.ntmps23
      go_wp2
      go_ret
      exact ⟨ret_bool HQ.out.symm, rfl⟩
  · rw [Nat.compare_eq_gt.2 h] at o1
    rcases Nat.lt_trichotomy nw y with h2 | h2 | h2
    · rw [Nat.compare_eq_lt.2 h2] at o2
      have HQ := hid (show res = true by rw [HR.out, decide_eq_true (by omega), decide_eq_true (by omega)]; rfl)
      clear h h2
      go_enter Tryz.func23, Tryz.ntmps23
      go_wp2
      go_ret
      exact ⟨ret_bool HQ.out.symm, rfl⟩
    · rw [Nat.compare_eq_eq.2 h2] at o2
      have HQ := hid (show res = true by rw [HR.out, decide_eq_true (by omega), decide_eq_true (by omega)]; rfl)
      clear h h2
      go_enter Tryz.func23, Tryz.ntmps23
      go_wp2
      go_ret
      exact ⟨ret_bool HQ.out.symm, rfl⟩
    · rw [Nat.compare_eq_gt.2 h2] at o2
      have HQ := hid (show res = false by rw [HR.out, decide_eq_true (by omega), decide_eq_false (by omega)]; rfl)
      clear h h2
      go_enter Tryz.func23, Tryz.ntmps23
      go_wp2
      go_ret
      exact ⟨ret_bool HQ.out.symm, rfl⟩

end Go.Proofs.YtecgonopefeplaaGreatDoor
