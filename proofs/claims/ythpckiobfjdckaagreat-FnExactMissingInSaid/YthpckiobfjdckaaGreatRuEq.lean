/-
  The library's Equal and Contains over rules and numbers, and its Clone of lists that can be read.
-/
import Derived.Shelf.SlicesQ.Equal
import Derived.Shelf.SlicesQ.Contains
import Derived.Shelf.SlicesE.Clone
import Derived.Test.YthpckiobfjdckaaGreatShelf
import Derived.Test.YthpckiobfjdckaaGreatSnV
import Derived.Test.YthpckiobfjdckaaGreatHasN
namespace Go.Proofs.YthpckiobfjdckaaGreat
open Go.RowKit Go.Shelf

instance : Inhabited Ru := ⟨⟨false, ByteArray.empty, ByteArray.empty, ByteArray.empty⟩⟩
theorem eqAt_ru : EqlAt Tryz.prog 63 (fun r : Ru => .agg r.cells.toArray) Ru.same := ⟨fun x y w => eql_ru x y w, GuardAt.agg _ (by kernel_rfl)⟩
theorem neAt_ru : NeqAt Tryz.prog 63 (fun r : Ru => .agg r.cells.toArray) Ru.same := ⟨fun x y w => neq_ru x y w, GuardAt.agg _ (by kernel_rfl)⟩
theorem allEq_same : ∀ rs ss : List Ru, Lib.allEq Ru.same rs ss = sameS rs ss
  | [], [] => rfl
  | [], s :: ss => by simp [Lib.allEq, sameS]
  | r :: rs, [] => by simp [Lib.allEq, sameS]
  | r :: rs, s :: ss => by
    rw [Lib.allEq, allEq_same rs ss]
    unfold sameS
    simp only [List.length_cons, List.zip_cons_cons, List.all_cons]
    by_cases h : rs.length = ss.length
    · rw [decide_eq_true h, decide_eq_true (by omega)]
      simp
    · rw [decide_eq_false h, decide_eq_false (by omega)]
      simp
theorem cells_at {w : World} {b off : Nat} {rs : List Ru} (hc : ∀ k (h : k < rs.length), RuAt w b (off + k * 4) rs[k]) : ∀ j, j < rs.length → ∀ i v, (Ru.cells rs[j]!)[i]? = some v → w.cell? ⟨b, off + j * 4 + i, none⟩ = some v := by
  intro j hj i v hv
  have e : rs[j]! = rs[j] := by simp [getElem!_def, List.getElem?_eq_getElem hj]
  rw [e] at hv
  obtain ⟨h0, h1, h2, h3⟩ := hc j hj
  have hi : i < 4 := by
    have := (List.getElem?_eq_some_iff.1 hv).1
    simpa using this
  obtain rfl | rfl | rfl | rfl : i = 0 ∨ i = 1 ∨ i = 2 ∨ i = 3 := by omega
  · simp at hv; rw [← hv]; exact h0
  · simp at hv; rw [← hv]; exact h1
  · simp at hv; rw [← hv]; exact h2
  · simp at hv; rw [← hv]; exact h3
theorem same_len {rs ss : List Ru} (h : rs.length ≠ ss.length) : sameS rs ss = false := by
  unfold sameS
  rw [decide_eq_false h]
  rfl

set_option maxHeartbeats 1000000 in
/-- No rules, held against some: by their number alone. -/
theorem equalRu_nil (a a' : Option Addr) (n c c' : Nat) (w : World) (hn : n ≤ 1048577) :
    Calls Tryz.prog 67 #[.slice a 0 c, .slice a' n c'] w fun e w' => e = .returned (.bool (decide (n = 0))) ∧ w' = w := by
  by_cases h : n = 0
  · subst h
    go_enter Tryz.func67, Tryz.ntmps67
    go_wp2
    refine wp_loop_rounds 1 ?_
    rw [rounds_succ]
    go_wp2
    go_ret
    exact ⟨rfl, rfl⟩
  · have e0 : ((0 : Int) != (n : Int)) = true := by simp; omega
    go_enter Tryz.func67, Tryz.ntmps67
    go_wp2
    go_ret
    exact ⟨by simp [h], rfl⟩

set_option maxHeartbeats 1000000 in
theorem equalRu_other (a a' : Option Addr) (n m c c' : Nat) (w : World) (_hn : n ≤ 1048577) (_hm : m ≤ 1048577) (hne : n ≠ m) :
    Calls Tryz.prog 67 #[.slice a n c, .slice a' m c'] w fun e w' => e = .returned (.bool false) ∧ w' = w := by
  have e0 : ((n : Int) != (m : Int)) = true := by simp; omega
  go_enter Tryz.func67, Tryz.ntmps67
  go_wp2
  go_ret
  exact ⟨rfl, rfl⟩

theorem equalRu_any (v v' : Value) (rs ss : List Ru) (w : World) (hm : rs.length ≤ 1048577) (hm' : ss.length ≤ 1048577) (hr : RuR w v rs) (hr' : RuR w v' ss) :
    Calls Tryz.prog 67 #[v, v'] w fun e w' => e = .returned (.bool (sameS rs ss)) ∧ Below w.heap.size w w' := by
  by_cases hl : rs.length = ss.length
  · rcases hr with ⟨rfl, rfl⟩ | ⟨b, off, cap, rfl, hb, hle, hc⟩
    · have h0 : ss = [] := List.eq_nil_of_length_eq_zero hl.symm
      subst h0
      obtain ⟨a', c', rfl⟩ := hr'.len
      refine (equalRu_nil none a' 0 0 c' w (by omega)).mono ?_
      rintro e w1 ⟨rfl, rfl⟩
      exact ⟨rfl, Below.refl _ _⟩
    · rcases hr' with ⟨rfl, rfl⟩ | ⟨b', off', cap', rfl, hb', hle', hc'⟩
      · have h0 : rs = [] := List.eq_nil_of_length_eq_zero hl
        subst h0
        refine (equalRu_nil _ none 0 cap 0 w (by omega)).mono ?_
        rintro e w1 ⟨rfl, rfl⟩
        exact ⟨rfl, Below.refl _ _⟩
      · have h := AnyQ.slices_Equal Tryz.equalRu 4 Tryz.isAgg63 Tryz.sizeOf63 Ru.cells (fun _ => rfl) Ru.same neAt_ru b off rs.length cap b' off' ss.length cap' rs ss w (Nat.le_refl _) (Nat.le_refl _) (by omega) (by omega) (cells_at hc) (cells_at hc')
        refine h.mono ?_
        rintro e w1 ⟨rfl, q, rfl⟩
        rw [List.take_length, List.take_length, allEq_same]
        exact ⟨rfl, below_drewn (Below.refl _ _) q⟩
  · obtain ⟨a, c, rfl⟩ := hr.len
    obtain ⟨a', c', rfl⟩ := hr'.len
    refine (equalRu_other a a' _ _ c c' w hm hm' hl).mono ?_
    rintro e w1 ⟨rfl, rfl⟩
    rw [same_len hl]
    exact ⟨rfl, Below.refl _ _⟩

set_option maxHeartbeats 1000000 in
theorem indexRu_nil (a : Option Addr) (c : Nat) (r : Ru) (w : World) :
    Calls Tryz.prog 99 #[.slice a 0 c, r.val] w fun e w' => e = .returned (.int .i64 (-1)) ∧ Below w.heap.size w w' := by
  go_enter Tryz.func99, Tryz.ntmps99
  go_wp2
  refine wp_loop_rounds 1 ?_
  rw [rounds_succ]
  go_wp2
  go_ret
  exact ⟨rfl, (Below.refl _ w).alloc (Nat.le_refl _) _⟩

set_option maxHeartbeats 1000000 in
theorem contRu_nil (a : Option Addr) (c : Nat) (r : Ru) (w : World) :
    Calls Tryz.prog 78 #[.slice a 0 c, r.val] w fun e w' => e = .returned (.bool false) ∧ Below w.heap.size w w' := by
  have hB0 : Below w.heap.size w (w.alloc (.cells #[.bool r.deny, .string r.who, .string r.method, .string r.path] 63)) := (Below.refl _ w).alloc (Nat.le_refl _) _
  go_enter Tryz.func78, Tryz.ntmps78
  go_wp2_with fail
  refine (indexRu_nil a c r _).mono ?_
  rintro e w1 ⟨rfl, hB1⟩
  go_wp2_with fail
  go_ret
  exact ⟨rfl, below_one hB0 hB1⟩

theorem contRu_any (v : Value) (rs : List Ru) (r : Ru) (w : World) (hm : rs.length ≤ 1048577) (hr : RuR w v rs) :
    Calls Tryz.prog 78 #[v, r.val] w fun e w' => e = .returned (.bool (hasR rs r)) ∧ Below w.heap.size w w' := by
  rcases hr with ⟨rfl, rfl⟩ | ⟨b, off, cap, rfl, hb, hle, hc⟩
  · exact contRu_nil none 0 r w
  · have h := AnyQ.slices_Contains Tryz.contRu 4 Tryz.isAgg63 Tryz.sizeOf63 Ru.cells (fun _ => rfl) Ru.same eqAt_ru b off rs.length cap rs r w (Nat.le_refl _) (by omega) (cells_at hc)
    rw [List.take_length] at h
    exact h

theorem cloneRu_any (v : Value) (rs : List Ru) (w : World) (hm : rs.length ≤ 1048577) (hr : RuR w v rs) :
    Calls Tryz.prog 72 #[v] w fun e w' => ∃ v', e = .returned v' ∧ w'.ownsRow w.heap.size 63 4 v' rs.length (rs.flatMap Ru.cells) ∧ (v = .slice none 0 0 ∨ v' ≠ .slice none 0 0) ∧ Below w.heap.size w w' := by
  rcases hr with ⟨rfl, rfl⟩ | ⟨b, off, cap, rfl, hb, hle, hc⟩
  · refine (cloneRules_nil 0 0 w).mono ?_
    rintro e w1 ⟨rfl, rfl⟩
    exact ⟨_, rfl, World.ownsRow_nil _ _ _ _, .inl rfl, Below.refl _ _⟩
  · obtain ⟨i0, hi, hz0, hz1, hz2⟩ := info_parts infoRule
    refine (AnyE.slices_Clone Tryz.cloneRu i0 _ 4 56 hi hz0 hz1 hz2 rfl (by decide) Tryz.sizeOf63 b off rs.length cap (rs.flatMap Ru.cells) w (flat_len rs) (by unfold maxLen; omega) (by omega) (RuR.flat hc) cells_one).mono ?_
    rintro e w1 ⟨v', rfl, h1, h2, h3⟩
    exact ⟨v', rfl, h1, .inr h2, h3⟩

theorem cloneNu_any (v : Value) (zs : List Int) (w : World) (hm : zs.length ≤ 1048577) (hr : NuR w v zs) :
    Calls Tryz.prog 92 #[v] w fun e w' => ∃ v', e = .returned v' ∧ w'.ownsRow w.heap.size 3 1 v' zs.length (nums zs) ∧ Below w.heap.size w w' := by
  rcases hr with ⟨rfl, rfl⟩ | ⟨b, off, cap, rfl, hb, hle, hc⟩
  · refine (AnyE.slices_Clone_nil Tryz.cloneIn 0 0 w).mono ?_
    rintro e w1 ⟨rfl, rfl⟩
    exact ⟨_, rfl, World.ownsRow_nil _ _ _ _, Below.refl _ _⟩
  · obtain ⟨i0, hi, hz0, hz1, hz2⟩ := info_parts infoInt
    refine (AnyE.slices_Clone Tryz.cloneIn i0 _ 1 8 hi hz0 hz1 hz2 rfl (by decide) Tryz.sizeOf3 b off zs.length cap (nums zs) w (by rw [nums_len]; omega) (by unfold maxLen; omega) (by omega) (fun j u hu => by
        have hj : j < zs.length := by rw [← nums_len]; exact (List.getElem?_eq_some_iff.1 hu).1
        rw [hc j hj]
        simpa [nums, hj] using hu) (fun u hu => by
        obtain ⟨z, _, rfl⟩ := List.mem_map.1 hu
        rfl)).mono ?_
    rintro e w1 ⟨v', rfl, h1, _, h3⟩
    exact ⟨v', rfl, h1, h3⟩

end Go.Proofs.YthpckiobfjdckaaGreat
