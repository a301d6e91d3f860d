/-
  Chapter 3: a link read from its text, by the program.
-/
import Derived.Deep.RegionHeld3
import Derived.Test.YtecgonopefeplaaGreatDoorRdI
namespace Go.Proofs.YtecgonopefeplaaGreatDoor
open Go.RowKit Go.Shelf

theorem ret_kb {r : Value} {b c : Bool} (h : b = c) : Ending.returned (.tuple #[r, .bool b]) = .returned (.tuple #[r, .bool c]) := by rw [h]

set_option maxHeartbeats 4000000 in
set_option maxRecDepth 100000 in
theorem linkOfText_any (s : ByteArray) (m : Int) (w : World) (hs : s.size ≤ 1048576) (hm : w.cell? ⟨0, 0, none⟩ = some (.int .i64 m)) (hE : Errs w) (ht : Tab w) :
    Calls Tryz.prog 19 #[.string s] w fun e w' => ∃ k : Lk, e = .returned (.tuple #[k.val, .bool (rdLk numI s).isSome]) ∧ ((rdLk numI s).isSome = true → rdLk numI s = some k) ∧ Below w.heap.size w w' := by
  have h0 := ml_lt3 hm
  have hBr : Below w.heap.size w (w.alloc (.cells #[.string ⟨#[]⟩, .string ⟨#[]⟩, .int .i64 0, .int .i64 0, .int .i64 0] 35)) := (Below.refl _ w).alloc (Nat.le_refl _) _
  have hm1 : (w.alloc (.cells #[.string ⟨#[]⟩, .string ⟨#[]⟩, .int .i64 0, .int .i64 0, .int .i64 0] 35)).cell? ⟨0, 0, none⟩ = some (.int .i64 m) := (hBr.cell (p := ⟨0, 0, none⟩) h0).trans hm
  have hS := split32_any s m (w.alloc (.cells #[.string ⟨#[]⟩, .string ⟨#[]⟩, .int .i64 0, .int .i64 0, .int .i64 0] 35)) hs hm1
  have HTB := hid ht
  have HEB := hid hE
  clear ht hE hm1 hm
  by_cases hl : (split s 32).length = 5
  · obtain ⟨a, b, c, d, e, he⟩ := five hl
    have HF := hid he
    have hzc : c.size ≤ 1048576 := Nat.le_trans (split_size s 32 c (by rw [he]; simp)) hs
    have hzd : d.size ≤ 1048576 := Nat.le_trans (split_size s 32 d (by rw [he]; simp)) hs
    have hze : e.size ≤ 1048576 := Nat.le_trans (split_size s 32 e (by rw [he]; simp)) hs
    have hS5 : Calls Tryz.prog 38 #[.string s, .string ⟨#[32]⟩] (w.alloc (.cells #[.string ⟨#[]⟩, .string ⟨#[]⟩, .int .i64 0, .int .i64 0, .int .i64 0] 35)) fun e' w' => e' = .returned (.slice (some ⟨w.heap.size + 1, 0, none⟩) 5 5) ∧ w' = ((w.alloc (.cells #[.string ⟨#[]⟩, .string ⟨#[]⟩, .int .i64 0, .int .i64 0, .int .i64 0] 35)).alloc (.cells #[.string a, .string b, .string c, .string d, .string e] 9)) := by
      rw [he] at hS
      simpa using hS
    clear hS hl he
    have hB0 : Below w.heap.size w ((w.alloc (.cells #[.string ⟨#[]⟩, .string ⟨#[]⟩, .int .i64 0, .int .i64 0, .int .i64 0] 35)).alloc (.cells #[.string a, .string b, .string c, .string d, .string e] 9)) := hBr.alloc hBr.size _
    obtain ⟨W, hW⟩ : ∃ W, W = ((w.alloc (.cells #[.string ⟨#[]⟩, .string ⟨#[]⟩, .int .i64 0, .int .i64 0, .int .i64 0] 35)).alloc (.cells #[.string a, .string b, .string c, .string d, .string e] 9)) := ⟨_, rfl⟩
    have hWs : W.heap.size = w.heap.size + 2 := by rw [hW]; simp
    have q0 : W.cell? ⟨w.heap.size + 1, 0, none⟩ = some (.string a) := by rw [hW]; simp
    have q1 : W.cell? ⟨w.heap.size + 1, 1, none⟩ = some (.string b) := by rw [hW]; simp
    have q2 : W.cell? ⟨w.heap.size + 1, 2, none⟩ = some (.string c) := by rw [hW]; simp
    have q3 : W.cell? ⟨w.heap.size + 1, 3, none⟩ = some (.string d) := by rw [hW]; simp
    have q4 : W.cell? ⟨w.heap.size + 1, 4, none⟩ = some (.string e) := by rw [hW]; simp
    have z0 : W.cell? ⟨w.heap.size, 0, none⟩ = some (.string ⟨#[]⟩) := by rw [hW]; simp
    have z1 : W.cell? ⟨w.heap.size, 1, none⟩ = some (.string ⟨#[]⟩) := by rw [hW]; simp
    have z2 : W.cell? ⟨w.heap.size, 2, none⟩ = some (.int .i64 0) := by rw [hW]; simp
    have z3 : W.cell? ⟨w.heap.size, 3, none⟩ = some (.int .i64 0) := by rw [hW]; simp
    have z4 : W.cell? ⟨w.heap.size, 4, none⟩ = some (.int .i64 0) := by rw [hW]; simp
    have f0 : W.frozen? ⟨w.heap.size, 0, none⟩ = false := by rw [hW]; simp
    have f1 : W.frozen? ⟨w.heap.size, 1, none⟩ = false := by rw [hW]; simp
    have f2 : W.frozen? ⟨w.heap.size, 2, none⟩ = false := by rw [hW]; simp
    have f3 : W.frozen? ⟨w.heap.size, 3, none⟩ = false := by rw [hW]; simp
    have f4 : W.frozen? ⟨w.heap.size, 4, none⟩ = false := by rw [hW]; simp
    rw [← hW] at hS5 hB0
    clear hW hBr
    go_enter Tryz.func19, Tryz.ntmps19
    go_wp2_with fail
    refine hS5.mono ?_
    rintro e' w1 ⟨rfl, rfl⟩
    clear hS5
    go_wp2_with fail
    refine (numberOfText_any c _ hzc (HEB.out.on hB0) (HTB.out.on hB0)).mono ?_
    rintro e' W1 ⟨rfl, hX0⟩
    have hB1 := below_one hB0 hX0
    have hzW1 : w.heap.size + 2 ≤ W1.heap.size := by have := hX0.size; omega
    replace q0 := (hX0.cell (p := ⟨w.heap.size + 1, 0, none⟩) (by show w.heap.size + 1 < _; omega)).trans q0
    replace q1 := (hX0.cell (p := ⟨w.heap.size + 1, 1, none⟩) (by show w.heap.size + 1 < _; omega)).trans q1
    replace q2 := (hX0.cell (p := ⟨w.heap.size + 1, 2, none⟩) (by show w.heap.size + 1 < _; omega)).trans q2
    replace q3 := (hX0.cell (p := ⟨w.heap.size + 1, 3, none⟩) (by show w.heap.size + 1 < _; omega)).trans q3
    replace q4 := (hX0.cell (p := ⟨w.heap.size + 1, 4, none⟩) (by show w.heap.size + 1 < _; omega)).trans q4
    replace z0 := (hX0.cell (p := ⟨w.heap.size, 0, none⟩) (by show w.heap.size < _; omega)).trans z0
    replace z1 := (hX0.cell (p := ⟨w.heap.size, 1, none⟩) (by show w.heap.size < _; omega)).trans z1
    replace z2 := (hX0.cell (p := ⟨w.heap.size, 2, none⟩) (by show w.heap.size < _; omega)).trans z2
    replace z3 := (hX0.cell (p := ⟨w.heap.size, 3, none⟩) (by show w.heap.size < _; omega)).trans z3
    replace z4 := (hX0.cell (p := ⟨w.heap.size, 4, none⟩) (by show w.heap.size < _; omega)).trans z4
    replace f0 := (hX0.frozen (p := ⟨w.heap.size, 0, none⟩) (by show w.heap.size < _; omega)).trans f0
    replace f1 := (hX0.frozen (p := ⟨w.heap.size, 1, none⟩) (by show w.heap.size < _; omega)).trans f1
    replace f2 := (hX0.frozen (p := ⟨w.heap.size, 2, none⟩) (by show w.heap.size < _; omega)).trans f2
    replace f3 := (hX0.frozen (p := ⟨w.heap.size, 3, none⟩) (by show w.heap.size < _; omega)).trans f3
    replace f4 := (hX0.frozen (p := ⟨w.heap.size, 4, none⟩) (by show w.heap.size < _; omega)).trans f4
    clear hX0 hWs
    go_wp2_with fail
    refine (numberOfText_any d _ hzd (HEB.out.on hB1) (HTB.out.on hB1)).mono ?_
    rintro e' W2 ⟨rfl, hX1⟩
    have hB2 := below_one hB1 hX1
    have hzW2 : w.heap.size + 2 ≤ W2.heap.size := by have := hX1.size; omega
    replace q0 := (hX1.cell (p := ⟨w.heap.size + 1, 0, none⟩) (by show w.heap.size + 1 < _; omega)).trans q0
    replace q1 := (hX1.cell (p := ⟨w.heap.size + 1, 1, none⟩) (by show w.heap.size + 1 < _; omega)).trans q1
    replace q2 := (hX1.cell (p := ⟨w.heap.size + 1, 2, none⟩) (by show w.heap.size + 1 < _; omega)).trans q2
    replace q3 := (hX1.cell (p := ⟨w.heap.size + 1, 3, none⟩) (by show w.heap.size + 1 < _; omega)).trans q3
    replace q4 := (hX1.cell (p := ⟨w.heap.size + 1, 4, none⟩) (by show w.heap.size + 1 < _; omega)).trans q4
    replace z0 := (hX1.cell (p := ⟨w.heap.size, 0, none⟩) (by show w.heap.size < _; omega)).trans z0
    replace z1 := (hX1.cell (p := ⟨w.heap.size, 1, none⟩) (by show w.heap.size < _; omega)).trans z1
    replace z2 := (hX1.cell (p := ⟨w.heap.size, 2, none⟩) (by show w.heap.size < _; omega)).trans z2
    replace z3 := (hX1.cell (p := ⟨w.heap.size, 3, none⟩) (by show w.heap.size < _; omega)).trans z3
    replace z4 := (hX1.cell (p := ⟨w.heap.size, 4, none⟩) (by show w.heap.size < _; omega)).trans z4
    replace f0 := (hX1.frozen (p := ⟨w.heap.size, 0, none⟩) (by show w.heap.size < _; omega)).trans f0
    replace f1 := (hX1.frozen (p := ⟨w.heap.size, 1, none⟩) (by show w.heap.size < _; omega)).trans f1
    replace f2 := (hX1.frozen (p := ⟨w.heap.size, 2, none⟩) (by show w.heap.size < _; omega)).trans f2
    replace f3 := (hX1.frozen (p := ⟨w.heap.size, 3, none⟩) (by show w.heap.size < _; omega)).trans f3
    replace f4 := (hX1.frozen (p := ⟨w.heap.size, 4, none⟩) (by show w.heap.size < _; omega)).trans f4
    clear hX1 hzW1
    go_wp2_with fail
    refine (numberOfText_any e _ hze (HEB.out.on hB2) (HTB.out.on hB2)).mono ?_
    rintro e' W3 ⟨rfl, hX2⟩
    have hB3 := below_one hB2 hX2
    have hzW3 : w.heap.size + 2 ≤ W3.heap.size := by have := hX2.size; omega
    replace q0 := (hX2.cell (p := ⟨w.heap.size + 1, 0, none⟩) (by show w.heap.size + 1 < _; omega)).trans q0
    replace q1 := (hX2.cell (p := ⟨w.heap.size + 1, 1, none⟩) (by show w.heap.size + 1 < _; omega)).trans q1
    replace q2 := (hX2.cell (p := ⟨w.heap.size + 1, 2, none⟩) (by show w.heap.size + 1 < _; omega)).trans q2
    replace q3 := (hX2.cell (p := ⟨w.heap.size + 1, 3, none⟩) (by show w.heap.size + 1 < _; omega)).trans q3
    replace q4 := (hX2.cell (p := ⟨w.heap.size + 1, 4, none⟩) (by show w.heap.size + 1 < _; omega)).trans q4
    replace z0 := (hX2.cell (p := ⟨w.heap.size, 0, none⟩) (by show w.heap.size < _; omega)).trans z0
    replace z1 := (hX2.cell (p := ⟨w.heap.size, 1, none⟩) (by show w.heap.size < _; omega)).trans z1
    replace z2 := (hX2.cell (p := ⟨w.heap.size, 2, none⟩) (by show w.heap.size < _; omega)).trans z2
    replace z3 := (hX2.cell (p := ⟨w.heap.size, 3, none⟩) (by show w.heap.size < _; omega)).trans z3
    replace z4 := (hX2.cell (p := ⟨w.heap.size, 4, none⟩) (by show w.heap.size < _; omega)).trans z4
    replace f0 := (hX2.frozen (p := ⟨w.heap.size, 0, none⟩) (by show w.heap.size < _; omega)).trans f0
    replace f1 := (hX2.frozen (p := ⟨w.heap.size, 1, none⟩) (by show w.heap.size < _; omega)).trans f1
    replace f2 := (hX2.frozen (p := ⟨w.heap.size, 2, none⟩) (by show w.heap.size < _; omega)).trans f2
    replace f3 := (hX2.frozen (p := ⟨w.heap.size, 3, none⟩) (by show w.heap.size < _; omega)).trans f3
    replace f4 := (hX2.frozen (p := ⟨w.heap.size, 4, none⟩) (by show w.heap.size < _; omega)).trans f4
    clear hX2 hzW2
    cases hc : numB c
    · have HN := hid (rd_nonum HF.out (.inl hc))
      go_wp2_with fail
      exact bodyPost_ret (v := .tuple #[zLk.val, .bool false]) (by simp [results, Tryz.results19, go_sem, *]) rfl ⟨zLk, ret_kb (by rw [HN.out]; rfl), (fun h => by rw [HN.out] at h; cases h), (((((hB3.setCell (p := ⟨w.heap.size, 0, none⟩) (Nat.le_refl _) _).setCell (p := ⟨w.heap.size, 1, none⟩) (Nat.le_refl _) _).setCell (p := ⟨w.heap.size, 2, none⟩) (Nat.le_refl _) _).setCell (p := ⟨w.heap.size, 3, none⟩) (Nat.le_refl _) _).setCell (p := ⟨w.heap.size, 4, none⟩) (Nat.le_refl _) _)⟩
    · cases hd : numB d
      · have HN := hid (rd_nonum HF.out (.inr (.inl hd)))
        go_wp2_with fail
        exact bodyPost_ret (v := .tuple #[zLk.val, .bool false]) (by simp [results, Tryz.results19, go_sem, *]) rfl ⟨zLk, ret_kb (by rw [HN.out]; rfl), (fun h => by rw [HN.out] at h; cases h), (((((hB3.setCell (p := ⟨w.heap.size, 0, none⟩) (Nat.le_refl _) _).setCell (p := ⟨w.heap.size, 1, none⟩) (Nat.le_refl _) _).setCell (p := ⟨w.heap.size, 2, none⟩) (Nat.le_refl _) _).setCell (p := ⟨w.heap.size, 3, none⟩) (Nat.le_refl _) _).setCell (p := ⟨w.heap.size, 4, none⟩) (Nat.le_refl _) _)⟩
      · cases hee : numB e
        · have HN := hid (rd_nonum HF.out (.inr (.inr hee)))
          go_wp2_with fail
          exact bodyPost_ret (v := .tuple #[zLk.val, .bool false]) (by simp [results, Tryz.results19, go_sem, *]) rfl ⟨zLk, ret_kb (by rw [HN.out]; rfl), (fun h => by rw [HN.out] at h; cases h), (((((hB3.setCell (p := ⟨w.heap.size, 0, none⟩) (Nat.le_refl _) _).setCell (p := ⟨w.heap.size, 1, none⟩) (Nat.le_refl _) _).setCell (p := ⟨w.heap.size, 2, none⟩) (Nat.le_refl _) _).setCell (p := ⟨w.heap.size, 3, none⟩) (Nat.le_refl _) _).setCell (p := ⟨w.heap.size, 4, none⟩) (Nat.le_refl _) _)⟩
        · have HN := hid (rd_num HF.out hc hd hee)
          have hne : w.heap.size ≠ w.heap.size + 1 := by omega
          go_wp2_with fail
          go_region_held3 (fun w' => w'.cell? ⟨w.heap.size + 1, 0, none⟩ = some (.string a) ∧ w'.cell? ⟨w.heap.size + 1, 1, none⟩ = some (.string b)) (go_keep) (first | fail)
          all_goals go_wp2
          all_goals exact bodyPost_ret (v := .tuple #[Lk.val ⟨a, b, numV c, numV d, numV e⟩, .bool true]) (by simp [results, Tryz.results19, go_sem, *]) rfl ⟨⟨a, b, numV c, numV d, numV e⟩, ret_kb (by rw [HN.out]; rfl), (fun _ => HN.out), ((((((hB3.drew).setCell (p := ⟨w.heap.size, 0, none⟩) (Nat.le_refl _) _).setCell (p := ⟨w.heap.size, 1, none⟩) (Nat.le_refl _) _).setCell (p := ⟨w.heap.size, 2, none⟩) (Nat.le_refl _) _).setCell (p := ⟨w.heap.size, 3, none⟩) (Nat.le_refl _) _).setCell (p := ⟨w.heap.size, 4, none⟩) (Nat.le_refl _) _)⟩
  · have HN := hid (rdLk_other (f := numI) hl)
    have e5 : (((split s 32).length : Int) != 5) = true := by simp; omega
    have hB0 : Below w.heap.size w ((w.alloc (.cells #[.string ⟨#[]⟩, .string ⟨#[]⟩, .int .i64 0, .int .i64 0, .int .i64 0] 35)).alloc (.cells ((split s 32).map Value.string).toArray 9)) := hBr.alloc hBr.size _
    obtain ⟨W, hW⟩ : ∃ W, W = ((w.alloc (.cells #[.string ⟨#[]⟩, .string ⟨#[]⟩, .int .i64 0, .int .i64 0, .int .i64 0] 35)).alloc (.cells ((split s 32).map Value.string).toArray 9)) := ⟨_, rfl⟩
    have z0 : W.cell? ⟨w.heap.size, 0, none⟩ = some (.string ⟨#[]⟩) := by rw [hW]; simp
    have z1 : W.cell? ⟨w.heap.size, 1, none⟩ = some (.string ⟨#[]⟩) := by rw [hW]; simp
    have z2 : W.cell? ⟨w.heap.size, 2, none⟩ = some (.int .i64 0) := by rw [hW]; simp
    have z3 : W.cell? ⟨w.heap.size, 3, none⟩ = some (.int .i64 0) := by rw [hW]; simp
    have z4 : W.cell? ⟨w.heap.size, 4, none⟩ = some (.int .i64 0) := by rw [hW]; simp
    have f0 : W.frozen? ⟨w.heap.size, 0, none⟩ = false := by rw [hW]; simp
    have f1 : W.frozen? ⟨w.heap.size, 1, none⟩ = false := by rw [hW]; simp
    have f2 : W.frozen? ⟨w.heap.size, 2, none⟩ = false := by rw [hW]; simp
    have f3 : W.frozen? ⟨w.heap.size, 3, none⟩ = false := by rw [hW]; simp
    have f4 : W.frozen? ⟨w.heap.size, 4, none⟩ = false := by rw [hW]; simp
    rw [← hW] at hS hB0
    clear hW hBr hl
    go_enter Tryz.func19, Tryz.ntmps19
    go_wp2_with fail
    refine hS.mono ?_
    rintro e' w1 ⟨rfl, rfl⟩
    go_wp2_with fail
    exact bodyPost_ret (v := .tuple #[zLk.val, .bool false]) (by simp [results, Tryz.results19, go_sem, *]) rfl ⟨zLk, ret_kb (by rw [HN.out]; rfl), (fun h => by rw [HN.out] at h; cases h), (((((hB0.setCell (p := ⟨w.heap.size, 0, none⟩) (Nat.le_refl _) _).setCell (p := ⟨w.heap.size, 1, none⟩) (Nat.le_refl _) _).setCell (p := ⟨w.heap.size, 2, none⟩) (Nat.le_refl _) _).setCell (p := ⟨w.heap.size, 3, none⟩) (Nat.le_refl _) _).setCell (p := ⟨w.heap.size, 4, none⟩) (Nat.le_refl _) _)⟩

end Go.Proofs.YtecgonopefeplaaGreatDoor
