/-
  Chapter 5: numbers sorted, each once, by the specification.
-/
import Derived.Test.YtmmjiocmldnamaaGreatSrtM
import Derived.Test.YtmmjiocmldnamaaGreatLstN
namespace Go.Proofs.YtmmjiocmldnamaaGreat
open Go.RowKit Go.Shelf

theorem one_nn {zs : List Int} : ∀ u ∈ nums zs, u.oneCell' = true := by
  intro u hu
  simp [nums] at hu
  obtain ⟨z, _, rfl⟩ := hu
  rfl
theorem nputN (zs : List Int) (n : Nat) (z : Int) : (nums zs).take n ++ [Value.int .i64 z] ++ (nums zs).drop n = nums (zs.take n ++ z :: zs.drop n) := by
  unfold nums
  simp
theorem row_castN {w : World} {base : Nat} {e : TypeId} {size n m : Nat} {v : Value} {xs : List Value} (h : w.ownsRow base e size v n xs) (hm : n = m) : w.ownsRow base e size v m xs := by
  subst hm
  exact h

set_option maxHeartbeats 4000000 in
set_option maxRecDepth 100000 in
theorem l5Sorted_any (v : Value) (zs : List Int) (w : World) (hm : zs.length ≤ 1000) (hr : VS w v (nums zs)) :
    Calls Tryz.prog 38 #[v] w fun e w' => ∃ v', e = .returned v' ∧ w'.ownsRow w.heap.size 3 1 v' (srN zs).length (nums (srN zs)) ∧ Below w.heap.size w w' := by
  obtain ⟨a, cap, rfl⟩ := hr.numLen
  obtain ⟨iw, hiw, hw0, hw1, hw2⟩ := info_parts infoInt
  go_enter Tryz.func38, Tryz.ntmps38
  go_wp2
  go_loopw [3, 10] (fun o i wr => ∃ k : Nat, k ≤ zs.length ∧ i = .int .i64 k ∧ wr.ownsRow w.heap.size 3 1 o (srT zs k).length (nums (srT zs k)) ∧ Below w.heap.size w wr) (fun _ i _ => zs.length - (intOf i).toNat)
  case atStart => exact ⟨0, Nat.zero_le _, rfl, by rw [srT_zero]; exact World.ownsRow_nil _ _ _ _, Below.refl _ _⟩
  case round =>
    obtain ⟨k, hk, rfl, ho, hB⟩ := hrel
    by_cases hlt : k < zs.length
    · obtain ⟨b, off, rfl, hb, hcap, q0⟩ := (hr.below hB).num hlt
      have HSU := hid (srT_succ hlt)
      have hlk := srT_len (zs := zs) k hk
      generalize zs[k] = z at *
      generalize srT zs k = l at *
      rcases row_form ho with ⟨rfl, h0⟩ | ⟨g, cp, rfl, hg, hcp⟩
      · obtain rfl : l = [] := List.eq_nil_of_length_eq_zero h0
        have HIN := hid (show srT zs (k + 1) = [z] by rw [HSU.out]; rfl)
        clear h0 hlk
        have hnw : ∀ j u, ([Value.int .i64 z])[j]? = some u → (wr.alloc (.cells #[.int .i64 z] 3)).cell? ((⟨wr.heap.size, 0, none⟩ : Addr).add j) = some u := fun j u hj => by
          rw [Addr.add_lit, Nat.zero_add, World.cell?_alloc_at _ _ _ _ rfl]
          simpa using hj
        go_wp2
        refine wp_loop_rounds 1 ?_
        rw [rounds_succ]
        go_wp2_with (at_builtin; refine wpList_append_own _ rfl _ _ 24 rfl wr.heap.size 3 iw _ 1 8 Tryz.underlying24 hiw hw0 hw1 hw2 rfl (by decide) _ _ _ rfl ((World.ownsRow_nil wr wr.heap.size 3 1).alloc _) ⟨wr.heap.size, 0, none⟩ 1 1 [Value.int .i64 z] rfl rfl hnw (by intro u hu; simp at hu; rw [hu]; rfl) (by unfold maxLen; omega) (by omega) (by simp) ?_)
        intro v2 w2 hown2 hgrow2 _
        have hb2 : Below wr.heap.size wr w2 := ((Below.refl _ wr).alloc (Nat.le_refl _) _).grown hgrow2 (by simp) (fun k e => by simp [Value.ownBlock] at e)
        rcases row_form hown2 with ⟨_, h'⟩ | ⟨g2, cp2, rfl, _, hcp⟩
        · exact absurd h' (by omega)
        · clear hgrow2
          go_wp2
          go_roundw
          case rel => exact ⟨k + 1, by omega, by go_num, by rw [HIN.out]; exact Go.Joins.ownsRow_le hown2 hB.size, below_one hB hb2⟩
          case measure => simp [intOf]; omega
      · go_wp2
        go_loopw [6] (fun i wq => ∃ m : Nat, m ≤ l.length ∧ i = .int .i64 m ∧ (∀ j (h : j < l.length), j < m → l[j] < z) ∧ wq = wr) (fun i _ => l.length - (intOf i).toNat)
        case atStart => exact ⟨0, Nat.zero_le _, rfl, fun _ _ h => absurd h (Nat.not_lt_zero _), rfl⟩
        case round =>
          obtain ⟨m, hml, rfl, hlts, rfl⟩ := hrel
          have HL := hid hlts
          clear hlts
          by_cases hlm : m < l.length
          · have x0 := ho.cellAt m (by omega)
            rw [show (nums l)[m]? = some (.int .i64 l[m]) by simp [nums, hlm]] at x0
            have HST := hid (fun (h : l[m] < z) => (fun j (hj : j < l.length) (hjm : j < m + 1) => (show l[j] < z by
              by_cases e : j = m
              · subst e
                exact h
              · exact HL.out j hj (by omega)) : ∀ j (hj : j < l.length), j < m + 1 → l[j] < z))
            have HKE := hid (fun he => insZ_keep (z := z) hlm HL.out he)
            have HNE := hid (fun h2 he => insZ_new (z := z) hlm HL.out h2 he)
            generalize l[m] = x at *
            by_cases c1 : x < z
            · have d1 : decide (x < z) = true := by simp; omega
              have HS1 := hid (HST.out c1)
              clear c1 HKE HNE HST HSU
              go_wp2_with fail
              go_roundw
              case rel => exact ⟨m + 1, by omega, by go_num, HS1.out, by trivial⟩
              case measure => simp [intOf]; omega
            · have d1 : decide (x < z) = false := by simp; omega
              by_cases c2 : x = z
              · have HIN := hid (show srT zs (k + 1) = l by rw [HSU.out]; exact HKE.out c2)
                have d2 : (x == z) = true := by simp; exact c2
                clear c1 c2 HKE HNE HST HSU
                go_wp2_with fail
                go_roundw
                case rel => exact ⟨k + 1, by omega, by go_num, by rw [HIN.out]; exact ho, hB⟩
                case measure => simp [intOf]; omega
              · have HIN := hid (show srT zs (k + 1) = l.take m ++ z :: l.drop m by rw [HSU.out]; exact HNE.out c1 c2)
                have d2 : (x == z) = false := by simp; exact c2
                clear c1 c2 HKE HNE HST HSU
                have hrl : (nums l).length = l.length := by simp [nums]
                have HLL := hid (show m + 1 + (l.length - m) = (l.take m ++ z :: l.drop m).length by first | (simp; done) | (simp; omega))
                have hn1 : (m : Int) ≤ (l.length : Int) := by omega
                have hn2 : (m : Int) ≤ (cp : Int) := by omega
                have htk : ∀ j u, ((nums l).take m)[j]? = some u → wr.cell? ((⟨g, 0, none⟩ : Addr).add j) = some u := fun j u hj => by
                  rw [List.getElem?_take] at hj
                  split at hj
                  · exact ho.cells (g := g) rfl j u hj
                  · cases hj
                have hN := World.ownsRow_nil wr wr.heap.size 3 1
                go_wp2_with (at_builtin; refine wpList_append_own _ rfl _ _ 24 rfl wr.heap.size 3 iw _ 1 8 Tryz.underlying24 hiw hw0 hw1 hw2 rfl (by decide) _ _ _ rfl hN ⟨g, 0, none⟩ m cp ((nums l).take m) rfl (by rw [List.length_take]; omega) htk (fun u hu => one_nn u (List.mem_of_mem_take hu)) (by unfold maxLen; omega) (by omega) (Nat.le_refl _) ?_)
                intro v5 w6 o5 g6 _
                obtain ⟨y5, y6, y7, rfl⟩ := row_slice o5
                have hC5 : Below wr.heap.size wr w6 := (Below.refl _ _).grown g6 (Nat.le_refl _) (fun k e => by simp [Value.ownBlock] at e)
                clear g6 htk hN
                have o5a := o5.alloc (.cells #[.int .i64 z] 3)
                have hC5a : Below wr.heap.size wr (w6.alloc (.cells #[.int .i64 z] 3)) := hC5.alloc hC5.size _
                have hnw : ∀ j u, ([Value.int .i64 z])[j]? = some u → (w6.alloc (.cells #[.int .i64 z] 3)).cell? ((⟨w6.heap.size, 0, none⟩ : Addr).add j) = some u := fun j u hj => by
                  rw [Addr.add_lit, Nat.zero_add, World.cell?_alloc_at _ _ _ _ rfl]
                  simpa using hj
                go_wp2_with (at_builtin; refine wpList_append_own _ rfl _ _ 24 rfl wr.heap.size 3 iw _ 1 8 Tryz.underlying24 hiw hw0 hw1 hw2 rfl (by decide) _ _ _ rfl o5a ⟨w6.heap.size, 0, none⟩ 1 1 [Value.int .i64 z] rfl rfl hnw (by intro u hu; simp at hu; rw [hu]; rfl) (by unfold maxLen; omega) (by omega) hC5a.size ?_)
                intro v6 w7 o6 g7 _
                obtain ⟨u5, u6, u7, rfl⟩ := row_slice o6
                have hC6 : Below wr.heap.size wr w7 := hC5a.grown g7 hC5a.size (fun k e => (o5a.lt k e).1)
                clear o5 o5a g7 hnw hC5 hC5a
                have ow := ownsRow_below ho hC6
                have hzn : ¬ (cp = m) := by omega
                have hdr : ∀ j u, ((nums l).drop m)[j]? = some u → w7.cell? ((⟨g, m, none⟩ : Addr).add j) = some u := fun j u hj => by
                  rw [List.getElem?_drop] at hj
                  have := ow.cells (g := g) rfl _ u hj
                  rw [Addr.add_lit, Nat.zero_add] at this
                  rw [Addr.add_lit]
                  exact this
                go_wp2_with (at_builtin; refine wpList_append_own _ rfl _ _ 24 rfl wr.heap.size 3 iw _ 1 8 Tryz.underlying24 hiw hw0 hw1 hw2 rfl (by decide) _ _ _ rfl o6 ⟨g, m, none⟩ (l.length - m) (cp - m) ((nums l).drop m) rfl (by rw [List.length_drop]; omega) hdr (fun u hu => one_nn u (List.mem_of_mem_drop hu)) (by unfold maxLen; omega) (by omega) hC6.size ?_)
                intro v7 w8 o7 g8 _
                replace o7 : w8.ownsRow wr.heap.size 3 1 v7 (m + 1 + (l.length - m)) (nums (l.take m ++ z :: l.drop m)) := by rw [← nputN]; simpa using o7
                have hC7 : Below wr.heap.size wr w8 := hC6.grown g8 hC6.size (fun k e => (o6.lt k e).1)
                obtain ⟨y5, y6, y7, rfl⟩ := row_slice o7
                go_wp2
                go_roundw
                case rel => exact ⟨k + 1, by omega, by go_num, by rw [HIN.out]; exact row_castN (Go.Joins.ownsRow_le o7 hB.size) HLL.out, below_one hB hC7⟩
                case measure => simp [intOf]; omega
          · have hme : m = l.length := by omega
            subst hme
            have HIN := hid (show srT zs (k + 1) = l.take l.length ++ z :: l.drop l.length by
              rw [HSU.out, insZ_end HL.out]
              simp)
            clear HSU hml hlm
            have hrl : (nums l).length = l.length := by simp [nums]
            have HLL := hid (show l.length + 1 = (l.take l.length ++ z :: l.drop l.length).length by first | (simp; done) | (simp; omega))
            have hn1 : (l.length : Int) ≤ (l.length : Int) := by omega
            have hn2 : (l.length : Int) ≤ (cp : Int) := by omega
            have htk : ∀ j u, ((nums l).take l.length)[j]? = some u → wr.cell? ((⟨g, 0, none⟩ : Addr).add j) = some u := fun j u hj => by
              rw [List.getElem?_take] at hj
              split at hj
              · exact ho.cells (g := g) rfl j u hj
              · cases hj
            have hN := World.ownsRow_nil wr wr.heap.size 3 1
            go_wp2_with (at_builtin; refine wpList_append_own _ rfl _ _ 24 rfl wr.heap.size 3 iw _ 1 8 Tryz.underlying24 hiw hw0 hw1 hw2 rfl (by decide) _ _ _ rfl hN ⟨g, 0, none⟩ l.length cp ((nums l).take l.length) rfl (by rw [List.length_take]; omega) htk (fun u hu => one_nn u (List.mem_of_mem_take hu)) (by unfold maxLen; omega) (by omega) (Nat.le_refl _) ?_)
            intro v5 w6 o5 g6 _
            obtain ⟨y5, y6, y7, rfl⟩ := row_slice o5
            have hC5 : Below wr.heap.size wr w6 := (Below.refl _ _).grown g6 (Nat.le_refl _) (fun k e => by simp [Value.ownBlock] at e)
            clear g6 htk hN
            have o5a := o5.alloc (.cells #[.int .i64 z] 3)
            have hC5a : Below wr.heap.size wr (w6.alloc (.cells #[.int .i64 z] 3)) := hC5.alloc hC5.size _
            have hnw : ∀ j u, ([Value.int .i64 z])[j]? = some u → (w6.alloc (.cells #[.int .i64 z] 3)).cell? ((⟨w6.heap.size, 0, none⟩ : Addr).add j) = some u := fun j u hj => by
              rw [Addr.add_lit, Nat.zero_add, World.cell?_alloc_at _ _ _ _ rfl]
              simpa using hj
            go_wp2_with (at_builtin; refine wpList_append_own _ rfl _ _ 24 rfl wr.heap.size 3 iw _ 1 8 Tryz.underlying24 hiw hw0 hw1 hw2 rfl (by decide) _ _ _ rfl o5a ⟨w6.heap.size, 0, none⟩ 1 1 [Value.int .i64 z] rfl rfl hnw (by intro u hu; simp at hu; rw [hu]; rfl) (by unfold maxLen; omega) (by omega) hC5a.size ?_)
            intro v6 w7 o6 g7 _
            obtain ⟨u5, u6, u7, rfl⟩ := row_slice o6
            have hC6 : Below wr.heap.size wr w7 := hC5a.grown g7 hC5a.size (fun k e => (o5a.lt k e).1)
            clear o5 o5a g7 hnw hC5 hC5a
            have ow := ownsRow_below ho hC6
            by_cases hzz : cp = l.length
            all_goals go_wp2_with (at_builtin; refine wpList_append_own _ rfl _ _ 24 rfl wr.heap.size 3 iw _ 1 8 Tryz.underlying24 hiw hw0 hw1 hw2 rfl (by decide) _ _ _ rfl o6 _ 0 _ [] rfl rfl (by simp) (by simp) (by unfold maxLen; omega) (by omega) hC6.size ?_)
            all_goals intro v7 w8 o7 g8 _
            all_goals replace o7 : w8.ownsRow wr.heap.size 3 1 v7 (l.length + 1) (nums (l.take l.length ++ z :: l.drop l.length)) := by rw [← nputN, show (nums l).drop l.length = [] from List.drop_of_length_le (by omega)]; simpa using o7
            all_goals have hC7 : Below wr.heap.size wr w8 := hC6.grown g8 hC6.size (fun k e => (o6.lt k e).1)
            · obtain ⟨y5, y6, y7, rfl⟩ := row_slice o7
              go_wp2
              go_roundw
              case rel => exact ⟨k + 1, by omega, by go_num, by rw [HIN.out]; exact row_castN (Go.Joins.ownsRow_le o7 hB.size) HLL.out, below_one hB hC7⟩
              case measure => simp [intOf]; omega
            · obtain ⟨y5, y6, y7, rfl⟩ := row_slice o7
              go_wp2
              go_roundw
              case rel => exact ⟨k + 1, by omega, by go_num, by rw [HIN.out]; exact row_castN (Go.Joins.ownsRow_le o7 hB.size) HLL.out, below_one hB hC7⟩
              case measure => simp [intOf]; omega
    · have hke : k = zs.length := by omega
      have HE := hid hke
      clear hke
      obtain ⟨y5, y6, y7, rfl⟩ := row_slice ho
      go_wp2
      go_ret
      exact ⟨_, rfl, by unfold srN; rw [← HE.out]; exact ho, hB⟩

end Go.Proofs.YtmmjiocmldnamaaGreat
