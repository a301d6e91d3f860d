/-
  Chapter 1's paths as the specification tells them, and both programs' answers on which texts are paths and which are patterns of paths.
-/
import Derived.Test.YthpckiobfjdckaaGreatPath
import Derived.Test.YthpckiobfjdckaaGreatName
namespace Go.Proofs.YthpckiobfjdckaaGreat
open Go.RowKit Go.Shelf

set_option maxHeartbeats 1000000 in
theorem l1Words_any (s : ByteArray) (w : World) (hs : s.size ≤ 1048576) :
    Calls Tryz.prog 131 #[.string s] w fun e W' => ∃ v, e = .returned (.tuple #[v, .bool (wOk s)]) ∧ W'.ownsRow w.heap.size 9 1 v (wL s).length ((wL s).map Value.string) ∧ Below w.heap.size w W' := by
  by_cases h : slashB s = true
  · have h1 : (s.toList == [47]) = true := h
    have HL := hid (wL_some (pathPs_slash h))
    have HO := hid (wOk_some (pathPs_slash h))
    clear h
    go_enter Tryz.func131, Tryz.ntmps131
    go_wp2
    go_ret2
    exact ⟨_, by rw [HO.out]; rfl, by rw [HL.out]; exact World.ownsRow_nil _ _ _ _, Below.refl _ _⟩
  · have h' : slashB s = false := by simpa using h
    have h1 : (s.toList == [47]) = false := h'
    clear h
    by_cases h0 : s.size = 0
    · have h2 : s.toList.isEmpty = true := by rw [size_toList]; simp [h0]
      have HL := hid (wL_none (pathPs_none h' (headB_empty h0)))
      have HO := hid (wOk_none (pathPs_none h' (headB_empty h0)))
      clear h' h0
      go_enter Tryz.func131, Tryz.ntmps131
      go_wp2
      go_ret2
      exact ⟨_, by rw [HO.out]; rfl, by rw [HL.out]; exact World.ownsRow_nil _ _ _ _, Below.refl _ _⟩
    · have h0' : 0 < s.size := by omega
      have h2 : s.toList.isEmpty = false := by rw [size_toList]; exact decide_eq_false (by omega)
      clear h0
      by_cases hb : s[0] = 47
      · have h3 : ((s[0].toNat : Int) != 47) = false := by simp [hb]
        have HL := hid (wL_some (pathPs_head h' (headB_at h0' hb)))
        have HO := hid (wOk_some (pathPs_head h' (headB_at h0' hb)))
        have ht : (s.extract 1 s.size).size ≤ 1048576 := Nat.le_trans (rest_size s) hs
        clear h' hb
        go_enter Tryz.func131, Tryz.ntmps131
        go_wp2_with (go_at_call 129; refine (l1Split_any _ 47 47 rfl _ ht).mono ?_; rintro e w1 ⟨v, rfl, hrow, hB⟩; obtain ⟨a, cap, rfl⟩ := ownsRow_len hrow)
        go_ret2
        exact ⟨_, ret_two (by rw [HO.out]; exact decide_eq_decide.2 (by omega)), by rw [HL.out]; exact hrow, hB⟩
      · have h3 : ((s[0].toNat : Int) != 47) = true := by
          rw [bne_iff_ne]
          exact fun e => hb (byte_eq (b := 47) e)
        have HL := hid (wL_none (pathPs_none h' (headB_not h0' hb)))
        have HO := hid (wOk_none (pathPs_none h' (headB_not h0' hb)))
        clear h' hb
        go_enter Tryz.func131, Tryz.ntmps131
        go_wp2
        go_ret2
        exact ⟨_, by rw [HO.out]; rfl, by rw [HL.out]; exact World.ownsRow_nil _ _ _ _, Below.refl _ _⟩

set_option maxHeartbeats 2000000 in
theorem specGoodPathPattern_any (s : ByteArray) (w : World) (hs : s.size ≤ 1048576) :
    Calls Tryz.prog 104 #[.string s] w fun e w' => e = .returned (.bool (ptBs s)) ∧ Below w.heap.size w w' := by
  have hl : (wL s).length ≤ 1048577 := Nat.le_trans (wL_len s) (by omega)
  go_enter Tryz.func104, Tryz.ntmps104
  go_wp2_with (go_at_call 131; refine (l1Words_any s _ hs).mono ?_; rintro e w1 ⟨v, rfl, hrow, hB⟩; obtain ⟨a, cap, rfl⟩ := ownsRow_len hrow)
  go_loop [4, 14] (fun ok i => ∃ k : Nat, k ≤ (wL s).length ∧ i = .int .i64 k ∧ ok = .bool (pgTo s k)) (fun _ i => (wL s).length - (intOf i).toNat)
  case atStart => exact ⟨0, Nat.zero_le _, rfl, by rw [pgTo_zero]⟩
  case round =>
    obtain ⟨k, hk, rfl, rfl⟩ := hrel
    by_cases hlt : k < (wL s).length
    · obtain ⟨g, rfl⟩ : ∃ g, a = some ⟨g, 0, none⟩ := by
        rcases hrow.2 with ⟨_, h0⟩ | ⟨g, _, _, hv, _⟩
        · omega
        · cases hv; exact ⟨g, rfl⟩
      have hc := row_cell hrow k hlt
      have hx : (wL s)[k].size ≤ 1048576 := Nat.le_trans (wL_mem (List.getElem_mem hlt)) hs
      cases hg : pgTo s k
      · have HN := hid (pgTo_no hg)
        go_wp2_with fail
        exact ⟨⟨k + 1, by omega, by go_num, by rw [HN.out]⟩, by simp [intOf]; omega⟩
      · have HN := hid (pgTo_yes hlt hg)
        generalize hX : (wL s)[k] = x at *
        clear hX
        cases b1 : wordB x
        · cases b2 : starB x
          · have e2 : (x.toList == [42]) = false := b2
            cases b3 : star2B x
            · have e3 : (x.toList == [42, 42]) = false := b3
              have HR := hid (show pgTo s (k + 1) = false by rw [HN.out, b1, b2, b3]; rfl)
              clear b2 b3
              go_wp2_with (go_at_call 130; refine (l1Word_any _ _ hx).mono ?_; rintro e w' ⟨rfl, rfl⟩)
              exact ⟨⟨k + 1, by omega, by go_num, by rw [HR.out]⟩, by simp [intOf]; omega⟩
            · have e3 : (x.toList == [42, 42]) = true := b3
              by_cases hL : k + 1 = (wL s).length
              · have e4 : ((k : Int) == ((wL s).length : Int) - 1) = true := by simp; omega
                have HR := hid (show pgTo s (k + 1) = true by rw [HN.out, b1, b2, b3]; simp [hL])
                clear b2 b3 hL
                go_wp2_with (go_at_call 130; refine (l1Word_any _ _ hx).mono ?_; rintro e w' ⟨rfl, rfl⟩)
                exact ⟨⟨k + 1, by omega, by go_num, by rw [HR.out]⟩, by simp [intOf]; omega⟩
              · have e4 : ((k : Int) == ((wL s).length : Int) - 1) = false := by simp; omega
                have HR := hid (show pgTo s (k + 1) = false by rw [HN.out, b1, b2, b3]; simp [hL])
                clear b2 b3 hL
                go_wp2_with (go_at_call 130; refine (l1Word_any _ _ hx).mono ?_; rintro e w' ⟨rfl, rfl⟩)
                exact ⟨⟨k + 1, by omega, by go_num, by rw [HR.out]⟩, by simp [intOf]; omega⟩
          · have e2 : (x.toList == [42]) = true := b2
            have HR := hid (show pgTo s (k + 1) = true by rw [HN.out, b1, b2]; rfl)
            clear b2
            go_wp2_with (go_at_call 130; refine (l1Word_any _ _ hx).mono ?_; rintro e w' ⟨rfl, rfl⟩)
            exact ⟨⟨k + 1, by omega, by go_num, by rw [HR.out]⟩, by simp [intOf]; omega⟩
        · have HR := hid (show pgTo s (k + 1) = true by rw [HN.out, b1]; rfl)
          go_wp2_with (go_at_call 130; refine (l1Word_any _ _ hx).mono ?_; rintro e w' ⟨rfl, rfl⟩)
          exact ⟨⟨k + 1, by omega, by go_num, by rw [HR.out]⟩, by simp [intOf]; omega⟩
    · obtain rfl : k = (wL s).length := by omega
      go_wp2
      go_ret
      exact ⟨ret_bool (pg_end s), hB⟩

theorem ptLs_len (s : ByteArray) : (ptLs s).length ≤ s.size + 1 := by
  unfold ptLs
  split
  · exact wL_len s
  · simp

set_option maxHeartbeats 1000000 in
theorem implGoodPathPattern_any (s : ByteArray) (w : World) (hs : s.size ≤ 1048576) :
    Calls Tryz.prog 107 #[.string s] w fun e w' => e = .returned (.bool (ptBs s)) ∧ Below w.heap.size w w' := by
  go_enter Tryz.func107, Tryz.ntmps107
  go_wp2_with (go_at_call 133; refine (wordsOfPath_any s _ hs).mono ?_; rintro e w1 ⟨v, rfl, hrow, hB⟩)
  go_ret
  exact ⟨rfl, hB⟩

end Go.Proofs.YthpckiobfjdckaaGreat
