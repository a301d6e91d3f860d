/-
  Chapter 5: the difference leads from the earlier version to the later one.
-/
import Derived.Test.YtoaeckcenobfcaaGreatJDiffs2
import Derived.Test.YtoaeckcenobfcaaGreatJDiffs1
import Derived.Lib.RowBridge
import Derived.Shelf.Slices.CompactI
import Derived.Shelf.Slices.In.SortNone
import Derived.Shelf.Sort.Plain
import Derived.Test.YtoaeckcenobfcaaGreatJDiffs3
import Derived.Laws.AppendOwn
import Derived.Deep.RegionLawGrows
import Derived.Deep.DeepCutAuto
import Derived.Maps.AppendAt
import Derived.Laws.AppendOwnNone
import Derived.Deep.RegionHeld3
namespace Go.Proofs.YtoaeckcenobfcaaGreat
open Go.RowKit Go.Shelf

theorem one_nn {zs : List Int} : ∀ u ∈ nums zs, u.oneCell' = true := by
  intro u hu
  simp [nums] at hu
  obtain ⟨z, _, rfl⟩ := hu
  rfl
theorem nputN (zs : List Int) (n : Nat) (z : Int) : (nums zs).take n ++ [Value.int .i64 z] ++ (nums zs).drop n = nums (zs.take n ++ z :: zs.drop n) := by
  unfold nums
  simp
theorem row_castN {w : World} {base : Nat} {e : TypeId} {size n m : Nat} {v : Value} {xs : List Value} (h : w.ownsRow base e size v n xs) (hm : n = m) : w.ownsRow base e size v m xs := by
  subst hm
  exact h

set_option maxHeartbeats 4000000 in
set_option maxRecDepth 100000 in
theorem l5Sorted_any (v : Value) (zs : List Int) (w : World) (hm : zs.length ≤ 1000) (hr : VS w v (nums zs)) :
    Calls Tryz.prog 21 #[v] w fun e w' => ∃ v', e = .returned v' ∧ w'.ownsRow w.heap.size 3 1 v' (srN zs).length (nums (srN zs)) ∧ Below w.heap.size w w' := by
  obtain ⟨a, cap, rfl⟩ := hr.numLen
  obtain ⟨iw, hiw, hw0, hw1, hw2⟩ := info_parts infoInt
  go_enter Tryz.func21, Tryz.ntmps21
  go_wp2
  go_loopw [3, 10] (fun o i wr => ∃ k : Nat, k ≤ zs.length ∧ i = .int .i64 k ∧ wr.ownsRow w.heap.size 3 1 o (srT zs k).length (nums (srT zs k)) ∧ Below w.heap.size w wr) (fun _ i _ => zs.length - (intOf i).toNat)
  case atStart => exact ⟨0, Nat.zero_le _, rfl, by rw [srT_zero]; exact World.ownsRow_nil _ _ _ _, Below.refl _ _⟩
  case round =>
    obtain ⟨k, hk, rfl, ho, hB⟩ := hrel
    by_cases hlt : k < zs.length
    · obtain ⟨b, off, rfl, hb, hcap, q0⟩ := (hr.below hB).num hlt
      have HSU := hid (srT_succ hlt)
      have hlk := srT_len (zs := zs) k hk
      generalize zs[k] = z at *
      generalize srT zs k = l at *
      rcases row_form ho with ⟨rfl, h0⟩ | ⟨g, cp, rfl, hg, hcp⟩
      · obtain rfl : l = [] := List.eq_nil_of_length_eq_zero h0
        have HIN := hid (show srT zs (k + 1) = [z] by rw [HSU.out]; rfl)
        clear h0 hlk
        have hnw : ∀ j u, ([Value.int .i64 z])[j]? = some u → (wr.alloc (.cells #[.int .i64 z] 3)).cell? ((⟨wr.heap.size, 0, none⟩ : Addr).add j) = some u := fun j u hj => by
          rw [Addr.add_lit, Nat.zero_add, World.cell?_alloc_at _ _ _ _ rfl]
          simpa using hj
        go_wp2
        refine wp_loop_rounds 1 ?_
        rw [rounds_succ]
        go_wp2_with (at_builtin; refine wpList_append_own _ rfl _ _ 24 rfl wr.heap.size 3 iw _ 1 8 Tryz.underlying24 hiw hw0 hw1 hw2 rfl (by decide) _ _ _ rfl ((World.ownsRow_nil wr wr.heap.size 3 1).alloc _) ⟨wr.heap.size, 0, none⟩ 1 1 [Value.int .i64 z] rfl rfl hnw (by intro u hu; simp at hu; rw [hu]; rfl) (by unfold maxLen; omega) (by omega) (by simp) ?_)
        intro v2 w2 hown2 hgrow2 _
        have hb2 : Below wr.heap.size wr w2 := ((Below.refl _ wr).alloc (Nat.le_refl _) _).grown hgrow2 (by simp) (fun k e => by simp [Value.ownBlock] at e)
        rcases row_form hown2 with ⟨_, h'⟩ | ⟨g2, cp2, rfl, _, hcp⟩
        · exact absurd h' (by omega)
        · clear hgrow2
          go_wp2
          go_roundw
          case rel => exact ⟨k + 1, by omega, by go_num, by rw [HIN.out]; exact Go.Joins.ownsRow_le hown2 hB.size, below_one hB hb2⟩
          case measure => simp [intOf]; omega
      · go_wp2
        go_loopw [6] (fun i wq => ∃ m : Nat, m ≤ l.length ∧ i = .int .i64 m ∧ (∀ j (h : j < l.length), j < m → l[j] < z) ∧ wq = wr) (fun i _ => l.length - (intOf i).toNat)
        case atStart => exact ⟨0, Nat.zero_le _, rfl, fun _ _ h => absurd h (Nat.not_lt_zero _), rfl⟩
        case round =>
          obtain ⟨m, hml, rfl, hlts, rfl⟩ := hrel
          have HL := hid hlts
          clear hlts
          by_cases hlm : m < l.length
          · have x0 := ho.cellAt m (by omega)
            rw [show (nums l)[m]? = some (.int .i64 l[m]) by simp [nums, hlm]] at x0
            have HST := hid (fun (h : l[m] < z) => (fun j (hj : j < l.length) (hjm : j < m + 1) => (show l[j] < z by
              by_cases e : j = m
              · subst e
                exact h
              · exact HL.out j hj (by omega)) : ∀ j (hj : j < l.length), j < m + 1 → l[j] < z))
            have HKE := hid (fun he => insZ_keep (z := z) hlm HL.out he)
            have HNE := hid (fun h2 he => insZ_new (z := z) hlm HL.out h2 he)
            generalize l[m] = x at *
            by_cases c1 : x < z
            · have d1 : decide (x < z) = true := by simp; omega
              have HS1 := hid (HST.out c1)
              clear c1 HKE HNE HST HSU
              go_wp2_with fail
              go_roundw
              case rel => exact ⟨m + 1, by omega, by go_num, HS1.out, by trivial⟩
              case measure => simp [intOf]; omega
            · have d1 : decide (x < z) = false := by simp; omega
              by_cases c2 : x = z
              · have HIN := hid (show srT zs (k + 1) = l by rw [HSU.out]; exact HKE.out c2)
                have d2 : (x == z) = true := by simp; exact c2
                clear c1 c2 HKE HNE HST HSU
                go_wp2_with fail
                go_roundw
                case rel => exact ⟨k + 1, by omega, by go_num, by rw [HIN.out]; exact ho, hB⟩
                case measure => simp [intOf]; omega
              · have HIN := hid (show srT zs (k + 1) = l.take m ++ z :: l.drop m by rw [HSU.out]; exact HNE.out c1 c2)
                have d2 : (x == z) = false := by simp; exact c2
                clear c1 c2 HKE HNE HST HSU
                have hrl : (nums l).length = l.length := by simp [nums]
                have HLL := hid (show m + 1 + (l.length - m) = (l.take m ++ z :: l.drop m).length by first | (simp; done) | (simp; omega))
                have hn1 : (m : Int) ≤ (l.length : Int) := by omega
                have hn2 : (m : Int) ≤ (cp : Int) := by omega
                have htk : ∀ j u, ((nums l).take m)[j]? = some u → wr.cell? ((⟨g, 0, none⟩ : Addr).add j) = some u := fun j u hj => by
                  rw [List.getElem?_take] at hj
                  split at hj
                  · exact ho.cells (g := g) rfl j u hj
                  · cases hj
                have hN := World.ownsRow_nil wr wr.heap.size 3 1
                go_wp2_with (at_builtin; refine wpList_append_own _ rfl _ _ 24 rfl wr.heap.size 3 iw _ 1 8 Tryz.underlying24 hiw hw0 hw1 hw2 rfl (by decide) _ _ _ rfl hN ⟨g, 0, none⟩ m cp ((nums l).take m) rfl (by rw [List.length_take]; omega) htk (fun u hu => one_nn u (List.mem_of_mem_take hu)) (by unfold maxLen; omega) (by omega) (Nat.le_refl _) ?_)
                intro v5 w6 o5 g6 _
                obtain ⟨y5, y6, y7, rfl⟩ := row_slice o5
                have hC5 : Below wr.heap.size wr w6 := (Below.refl _ _).grown g6 (Nat.le_refl _) (fun k e => by simp [Value.ownBlock] at e)
                clear g6 htk hN
                have o5a := o5.alloc (.cells #[.int .i64 z] 3)
                have hC5a : Below wr.heap.size wr (w6.alloc (.cells #[.int .i64 z] 3)) := hC5.alloc hC5.size _
                have hnw : ∀ j u, ([Value.int .i64 z])[j]? = some u → (w6.alloc (.cells #[.int .i64 z] 3)).cell? ((⟨w6.heap.size, 0, none⟩ : Addr).add j) = some u := fun j u hj => by
                  rw [Addr.add_lit, Nat.zero_add, World.cell?_alloc_at _ _ _ _ rfl]
                  simpa using hj
                go_wp2_with (at_builtin; refine wpList_append_own _ rfl _ _ 24 rfl wr.heap.size 3 iw _ 1 8 Tryz.underlying24 hiw hw0 hw1 hw2 rfl (by decide) _ _ _ rfl o5a ⟨w6.heap.size, 0, none⟩ 1 1 [Value.int .i64 z] rfl rfl hnw (by intro u hu; simp at hu; rw [hu]; rfl) (by unfold maxLen; omega) (by omega) hC5a.size ?_)
                intro v6 w7 o6 g7 _
                obtain ⟨u5, u6, u7, rfl⟩ := row_slice o6
                have hC6 : Below wr.heap.size wr w7 := hC5a.grown g7 hC5a.size (fun k e => (o5a.lt k e).1)
                clear o5 o5a g7 hnw hC5 hC5a
                have ow := ownsRow_below ho hC6
                have hzn : ¬ (cp = m) := by omega
                have hdr : ∀ j u, ((nums l).drop m)[j]? = some u → w7.cell? ((⟨g, m, none⟩ : Addr).add j) = some u := fun j u hj => by
                  rw [List.getElem?_drop] at hj
                  have := ow.cells (g := g) rfl _ u hj
                  rw [Addr.add_lit, Nat.zero_add] at this
                  rw [Addr.add_lit]
                  exact this
                go_wp2_with (at_builtin; refine wpList_append_own _ rfl _ _ 24 rfl wr.heap.size 3 iw _ 1 8 Tryz.underlying24 hiw hw0 hw1 hw2 rfl (by decide) _ _ _ rfl o6 ⟨g, m, none⟩ (l.length - m) (cp - m) ((nums l).drop m) rfl (by rw [List.length_drop]; omega) hdr (fun u hu => one_nn u (List.mem_of_mem_drop hu)) (by unfold maxLen; omega) (by omega) hC6.size ?_)
                intro v7 w8 o7 g8 _
                replace o7 : w8.ownsRow wr.heap.size 3 1 v7 (m + 1 + (l.length - m)) (nums (l.take m ++ z :: l.drop m)) := by rw [← nputN]; simpa using o7
                have hC7 : Below wr.heap.size wr w8 := hC6.grown g8 hC6.size (fun k e => (o6.lt k e).1)
                obtain ⟨y5, y6, y7, rfl⟩ := row_slice o7
                go_wp2
                go_roundw
                case rel => exact ⟨k + 1, by omega, by go_num, by rw [HIN.out]; exact row_castN (Go.Joins.ownsRow_le o7 hB.size) HLL.out, below_one hB hC7⟩
                case measure => simp [intOf]; omega
          · have hme : m = l.length := by omega
            subst hme
            have HIN := hid (show srT zs (k + 1) = l.take l.length ++ z :: l.drop l.length by
              rw [HSU.out, insZ_end HL.out]
              simp)
            clear HSU hml hlm
            have hrl : (nums l).length = l.length := by simp [nums]
            have HLL := hid (show l.length + 1 = (l.take l.length ++ z :: l.drop l.length).length by first | (simp; done) | (simp; omega))
            have hn1 : (l.length : Int) ≤ (l.length : Int) := by omega
            have hn2 : (l.length : Int) ≤ (cp : Int) := by omega
            have htk : ∀ j u, ((nums l).take l.length)[j]? = some u → wr.cell? ((⟨g, 0, none⟩ : Addr).add j) = some u := fun j u hj => by
              rw [List.getElem?_take] at hj
              split at hj
              · exact ho.cells (g := g) rfl j u hj
              · cases hj
            have hN := World.ownsRow_nil wr wr.heap.size 3 1
            go_wp2_with (at_builtin; refine wpList_append_own _ rfl _ _ 24 rfl wr.heap.size 3 iw _ 1 8 Tryz.underlying24 hiw hw0 hw1 hw2 rfl (by decide) _ _ _ rfl hN ⟨g, 0, none⟩ l.length cp ((nums l).take l.length) rfl (by rw [List.length_take]; omega) htk (fun u hu => one_nn u (List.mem_of_mem_take hu)) (by unfold maxLen; omega) (by omega) (Nat.le_refl _) ?_)
            intro v5 w6 o5 g6 _
            obtain ⟨y5, y6, y7, rfl⟩ := row_slice o5
            have hC5 : Below wr.heap.size wr w6 := (Below.refl _ _).grown g6 (Nat.le_refl _) (fun k e => by simp [Value.ownBlock] at e)
            clear g6 htk hN
            have o5a := o5.alloc (.cells #[.int .i64 z] 3)
            have hC5a : Below wr.heap.size wr (w6.alloc (.cells #[.int .i64 z] 3)) := hC5.alloc hC5.size _
            have hnw : ∀ j u, ([Value.int .i64 z])[j]? = some u → (w6.alloc (.cells #[.int .i64 z] 3)).cell? ((⟨w6.heap.size, 0, none⟩ : Addr).add j) = some u := fun j u hj => by
              rw [Addr.add_lit, Nat.zero_add, World.cell?_alloc_at _ _ _ _ rfl]
              simpa using hj
            go_wp2_with (at_builtin; refine wpList_append_own _ rfl _ _ 24 rfl wr.heap.size 3 iw _ 1 8 Tryz.underlying24 hiw hw0 hw1 hw2 rfl (by decide) _ _ _ rfl o5a ⟨w6.heap.size, 0, none⟩ 1 1 [Value.int .i64 z] rfl rfl hnw (by intro u hu; simp at hu; rw [hu]; rfl) (by unfold maxLen; omega) (by omega) hC5a.size ?_)
            intro v6 w7 o6 g7 _
            obtain ⟨u5, u6, u7, rfl⟩ := row_slice o6
            have hC6 : Below wr.heap.size wr w7 := hC5a.grown g7 hC5a.size (fun k e => (o5a.lt k e).1)
            clear o5 o5a g7 hnw hC5 hC5a
            have ow := ownsRow_below ho hC6
            by_cases hzz : cp = l.length
            all_goals go_wp2_with (at_builtin; refine wpList_append_own _ rfl _ _ 24 rfl wr.heap.size 3 iw _ 1 8 Tryz.underlying24 hiw hw0 hw1 hw2 rfl (by decide) _ _ _ rfl o6 _ 0 _ [] rfl rfl (by simp) (by simp) (by unfold maxLen; omega) (by omega) hC6.size ?_)
            all_goals intro v7 w8 o7 g8 _
            all_goals replace o7 : w8.ownsRow wr.heap.size 3 1 v7 (l.length + 1) (nums (l.take l.length ++ z :: l.drop l.length)) := by rw [← nputN, show (nums l).drop l.length = [] from List.drop_of_length_le (by omega)]; simpa using o7
            all_goals have hC7 : Below wr.heap.size wr w8 := hC6.grown g8 hC6.size (fun k e => (o6.lt k e).1)
            · obtain ⟨y5, y6, y7, rfl⟩ := row_slice o7
              go_wp2
              go_roundw
              case rel => exact ⟨k + 1, by omega, by go_num, by rw [HIN.out]; exact row_castN (Go.Joins.ownsRow_le o7 hB.size) HLL.out, below_one hB hC7⟩
              case measure => simp [intOf]; omega
            · obtain ⟨y5, y6, y7, rfl⟩ := row_slice o7
              go_wp2
              go_roundw
              case rel => exact ⟨k + 1, by omega, by go_num, by rw [HIN.out]; exact row_castN (Go.Joins.ownsRow_le o7 hB.size) HLL.out, below_one hB hC7⟩
              case measure => simp [intOf]; omega
    · have hke : k = zs.length := by omega
      have HE := hid hke
      clear hke
      obtain ⟨y5, y6, y7, rfl⟩ := row_slice ho
      go_wp2
      go_ret
      exact ⟨_, rfl, by unfold srN; rw [← HE.out]; exact ho, hB⟩

end Go.Proofs.YtoaeckcenobfcaaGreat

namespace Go.Proofs.YtoaeckcenobfcaaGreat
open Go.RowKit Go.Shelf Go.Sort

theorem put_take (cur : Array Value) (d : List Int) (k : Nat) (hk : k ≤ d.length) (hc : d.length ≤ cur.size) : (putCells (Value.int .i64) 0 d.toArray cur).toList.take k = nums (d.take k) := by
  apply List.ext_getElem?
  intro j
  by_cases hj : j < k
  · have hjc : j < cur.size := by omega
    have hjd : j < d.length := by omega
    rw [List.getElem?_take_of_lt hj, Array.getElem?_toList]
    simp [putCells, hjc, hjd, nums, hj]
  · rw [List.getElem?_take_eq_none (by omega), List.getElem?_eq_none (by simp [nums]; omega)]

theorem row_holds {w : World} {base g cap : Nat} {zs : List Int} (hrow : w.ownsRow base 3 1 (.slice (some ⟨g, 0, none⟩) zs.length cap) zs.length (nums zs)) : Holds (Value.int .i64) w g 0 zs.toArray := by
  intro j hj
  have hj' : j < zs.length := by simpa using hj
  have h1 := hrow.cellAt j (by omega)
  have h2 := hrow.frozenAt j
  refine ⟨?_, ?_⟩
  · rw [Nat.zero_add, h1]
    simp [nums, hj']
  · rw [Nat.zero_add]
    exact h2

theorem sortN_any (base g cap : Nat) (zs : List Int) (w : World) (hn : zs.length ≤ 1100000) (hrow : w.ownsRow base 3 1 (.slice (some ⟨g, 0, none⟩) zs.length cap) zs.length (nums zs)) :
    Calls Tryz.prog 70 #[.slice (some ⟨g, 0, none⟩) zs.length cap] w fun e w' => e = .returned (.tuple #[]) ∧ w'.ownsRow base 3 1 (.slice (some ⟨g, 0, none⟩) zs.length cap) zs.length (nums (zs.mergeSort fun x y => decide (x ≤ y))) ∧ w.grownBy w' (some g) := by
  have hH := row_holds hrow
  rcases hrow.2 with ⟨h, _⟩ | ⟨g', cap', cur, h, hbase, hb, h1, h2, h3, h4⟩
  · cases h
  · simp only [Value.slice.injEq, Option.some.injEq, Addr.mk.injEq, and_true, true_and] at h
    obtain ⟨rfl, rfl⟩ := h
    have hlt : g < w.heap.size := (Array.getElem?_eq_some_iff.1 hb).1
    refine (Any.slices_Sort_int Tryz.lays189 g 0 cap zs w hH hlt (by omega)).mono ?_
    rintro e w' ⟨rfl, n, os, rfl⟩
    have hsz : (zs.mergeSort fun x y => decide (x ≤ y)).length = zs.length := List.length_mergeSort _
    refine ⟨rfl, ⟨by simp [nums], .inr ⟨g, cap, putCells (Value.int .i64) 0 (zs.mergeSort fun x y => decide (x ≤ y)).toArray cur, rfl, hbase, ?_, h1, h2, by simp [putCells, h3], ?_⟩⟩, ?_⟩
    · rw [heap_grow_old _ _ (by simpa [putRow, mapBlock, Sort.ahead] using hlt)]
      simp [putRow, mapBlock, Sort.ahead, Array.getElem?_modify, hb, onCells]
    · rw [Nat.mul_one, put_take cur _ zs.length (by omega) (by omega), List.take_of_length_le (by omega)]
    · refine ⟨rfl, rfl, rfl, ?_, fun k hk hne => ?_⟩
      · simp [putRow, mapBlock, Sort.ahead]
      · rw [heap_grow_old _ _ (by simpa [putRow, mapBlock, Sort.ahead] using hk)]
        have : g ≠ k := fun e => hne (by rw [e])
        simp [putRow, mapBlock, Sort.ahead, Array.getElem?_modify, this]

theorem compactN_any (base g cap : Nat) (zs : List Int) (w : World) (hn : zs.length ≤ 1100000) (hrow : w.ownsRow base 3 1 (.slice (some ⟨g, 0, none⟩) zs.length cap) zs.length (nums zs)) :
    Calls Tryz.prog 71 #[.slice (some ⟨g, 0, none⟩) zs.length cap] w fun e w' => ∃ v', e = .returned v' ∧ w'.ownsRow base 3 1 v' (Lib.compact zs).length (nums (Lib.compact zs)) ∧ w.grownBy w' (some g) := by
  have hH := row_holds hrow
  rcases hrow.2 with ⟨h, _⟩ | ⟨g', cap', cur, h, hbase, hb, h1, h2, h3, h4⟩
  · cases h
  · simp only [Value.slice.injEq, Option.some.injEq, Addr.mk.injEq, and_true, true_and] at h
    obtain ⟨rfl, rfl⟩ := h
    have hle := Lib.compact_length_le zs
    refine (Any.slices_Compact_int Tryz.lays20 g 0 cap zs w hH (by omega) h1).mono ?_
    rintro e w' ⟨rfl, n, rfl⟩
    have hsz : (Lib.compact zs ++ List.replicate (zs.length - (Lib.compact zs).length) 0).length = zs.length := by simp; omega
    refine ⟨_, rfl, ⟨by simp [nums], .inr ⟨g, cap, putCells (Value.int .i64) 0 (Lib.compact zs ++ List.replicate (zs.length - (Lib.compact zs).length) 0).toArray cur, rfl, hbase, ?_, by omega, h2, by simp [putCells, h3], ?_⟩⟩, ?_⟩
    · simp [putRow, mapBlock, Sort.ahead, Array.getElem?_modify, hb, onCells]
    · rw [Nat.mul_one, put_take cur _ _ (by omega) (by omega), List.take_left]
    · refine ⟨rfl, rfl, rfl, ?_, fun k hk hne => ?_⟩
      · simp [putRow, mapBlock, Sort.ahead]
      · have : g ≠ k := fun e => hne (by rw [e])
        simp [putRow, mapBlock, Sort.ahead, Array.getElem?_modify, this]

/-- The first k lists, one behind another. -/
def catT (ls : List (Value × List Int)) (k : Nat) : List Int := (ls.take k).flatMap (fun p => p.2)
theorem catT_zero (ls : List (Value × List Int)) : catT ls 0 = [] := by simp [catT]
theorem catT_succ {ls : List (Value × List Int)} {k : Nat} (h : k < ls.length) : catT ls (k + 1) = catT ls k ++ ls[k].2 := by
  unfold catT
  rw [List.take_succ_eq_append_getElem h, List.flatMap_append]
  simp
theorem catT_le (ls : List (Value × List Int)) : ∀ k, k ≤ ls.length → (catT ls k).length ≤ (catT ls ls.length).length := by
  intro k hk
  unfold catT
  rw [List.take_length]
  conv => rhs; rw [← List.take_append_drop k ls, List.flatMap_append, List.length_append]
  omega
theorem grownN (w : World) (n : Nat) (hn : 0 < n) (hm : n ≤ 1100000) : (w.drew.alloc (.cells (([] : List Value).toArray ++ Builtin.zeroCells (Value.int .i64 0).cells (0 + n - 0) ++ Builtin.zeroCells (Value.int .i64 0).cells (grownCap w (0 + n) 0 3 - (0 + n))) 3)).ownsRow w.heap.size 3 1 (.slice (some ⟨w.heap.size, 0, none⟩) 0 (grownCap w (0 + n) 0 3)) 0 [] := by
  have h1 := grownCap_ge w (0 + n) 0 3
  have h2 := grownCap_le_maxLen w (0 + n) 0 3 (by unfold maxLen; omega)
  refine ⟨by simp, .inr ⟨w.heap.size, _, _, rfl, Nat.le_refl _, by show (w.heap.push _)[w.heap.size]? = _; rw [Array.getElem?_push_size], Nat.zero_le _, h2, ?_, by simp⟩⟩
  have h3 : n ≤ grownCap w n 0 3 := by simpa using h1
  simp [Builtin.zeroCells, Value.cells]
  omega

theorem growN_any (n : Nat) (w : World) (hm : n ≤ 1100000) :
    Calls Tryz.prog 98 #[.slice none 0 0, .int .i64 n] w fun e w' => ∃ v', e = .returned v' ∧ w'.ownsRow w.heap.size 3 1 v' 0 [] ∧ Below w.heap.size w w' := by
  obtain ⟨iw, hiw, hw0, hw1, hw2⟩ := info_parts infoInt
  by_cases h0 : n = 0
  · subst h0
    refine (Any8.slices_Grow_room Tryz.growIn none 0 0 0 w (Nat.le_refl _) (by omega) (by omega) (by omega)).mono ?_
    rintro e w' ⟨rfl, rfl⟩
    exact ⟨_, rfl, World.ownsRow_nil _ _ _ _, Below.refl _ _⟩
  · refine (Any8.slices_Grow_grow Tryz.growIn iw _ hiw hw0 (by omega) none 0 0 n [] w (Nat.le_refl _) (by omega) (by rw [hw2]; omega) (by omega) (by simp) (fun _ => rfl) (fun a h => by cases h)).mono ?_
    rintro e w' ⟨rfl, rfl⟩
    exact ⟨_, rfl, grownN w n (by omega) hm, ((Below.refl _ w).drew).alloc (Nat.le_refl _) _⟩

set_option maxHeartbeats 4000000 in
set_option maxRecDepth 100000 in
theorem concat_any (b : Nat) (ls : List (Value × List Int)) (w : World) (hsum : (catT ls ls.length).length ≤ 1100000) (hn : ls.length ≤ 2) (hc : ∀ j (h : j < ls.length), w.cell? ⟨b, j, none⟩ = some ls[j].1) (hb : b < w.heap.size) (hr : ∀ j (h : j < ls.length), NuR w ls[j].1 ls[j].2) :
    Calls Tryz.prog 69 #[.slice (some ⟨b, 0, none⟩) ls.length ls.length] w fun e w' => ∃ v', e = .returned v' ∧ w'.ownsRow w.heap.size 3 1 v' (catT ls ls.length).length (nums (catT ls ls.length)) ∧ Below w.heap.size w w' := by
  obtain ⟨iw, hiw, hw0, hw1, hw2⟩ := info_parts infoInt
  have HC := hid hc
  have HRR := hid hr
  clear hc hr
  go_enter Tryz.func69, Tryz.ntmps69
  go_wp2
  go_loopw [3, 11] (fun s i wr => ∃ k : Nat, k ≤ ls.length ∧ i = .int .i64 k ∧ s = .int .i64 ((catT ls k).length : Nat) ∧ wr = w) (fun _ i _ => ls.length - (intOf i).toNat)
  case atStart => exact ⟨0, Nat.zero_le _, rfl, by rw [catT_zero]; rfl, rfl⟩
  case round =>
    obtain ⟨k, hk, rfl, rfl, rfl⟩ := hrel
    by_cases hlt : k < ls.length
    · have q0 := HC.out k hlt
      obtain ⟨a, cap, hv⟩ := (HRR.out k hlt).len
      rw [hv] at q0
      have hle2 := catT_le ls (k + 1) hlt
      have HSU := hid (show (catT ls (k + 1)).length = (catT ls k).length + ls[k].2.length by rw [catT_succ hlt, List.length_append])
      have hnm : (catT ls k).length + ls[k].2.length ≤ 1100000 := by have := HSU.out; omega
      clear hle2 hv
      generalize (catT ls k).length = n at *
      generalize ls[k].2.length = m at *
      have hww : IntKind.i64.wrap ((n : Int) + (m : Int)) = (n : Int) + (m : Int) := by rw [IntKind.wrap_i64]; omega
      have hng : decide ((n : Int) + (m : Int) < 0) = false := by simp; omega
      go_wp2_with fail
      go_roundw
      case rel => exact ⟨k + 1, by omega, by go_num, by rw [HSU.out]; go_num, by trivial⟩
      case measure => simp [intOf]; omega
    · obtain rfl : k = ls.length := by omega
      clear hk hlt
      have HS := hid hsum
      obtain ⟨N, HNN⟩ : ∃ N, Hid (N = (catT ls ls.length).length) := ⟨_, hid rfl⟩
      rw [← HNN.out]
      go_wp2_with fail
      refine (growN_any N _ (by have := HS.out; have := HNN.out; omega)).mono ?_
      rintro e w6 ⟨v6, rfl, o6, hB6⟩
      obtain ⟨w0, hw0e⟩ : ∃ w0, w0 = wr := ⟨_, rfl⟩
      subst hw0e
      clear hsum
      go_wp2_with fail
      go_loopw [6, 27] (fun o i wq => ∃ k : Nat, k ≤ ls.length ∧ i = .int .i64 k ∧ wq.ownsRow w0.heap.size 3 1 o (catT ls k).length (nums (catT ls k)) ∧ Below w0.heap.size w0 wq) (fun _ i _ => ls.length - (intOf i).toNat)
      case atStart => exact ⟨0, Nat.zero_le _, rfl, by rw [catT_zero]; exact o6, hB6⟩
      case round =>
        obtain ⟨k, hk, rfl, ho, hB⟩ := hrel
        by_cases hlt : k < ls.length
        · have q0 := (hB.cell (p := ⟨b, k, none⟩) hb).trans (HC.out k hlt)
          have hnr := (HRR.out k hlt).below hB
          have HSU := hid (catT_succ hlt)
          have hle2 := catT_le ls (k + 1) hlt
          have hnm : (catT ls k).length + ls[k].2.length ≤ 1100000 := by have := congrArg List.length HSU.out; rw [List.length_append] at this; have := HS.out; omega
          clear hle2
          generalize catT ls k = l at *
          generalize ls[k].1 = u at *
          generalize ls[k].2 = zs at *
          go_wp2_with (at_builtin; refine wpList_append_read rfl _ _ 24 rfl w0.heap.size 3 iw _ 1 8 Tryz.underlying24 hiw hw0 hw1 hw2 rfl (by decide) _ _ _ _ _ _ rfl ho rfl (NuR.src hnr) ones_n (by unfold maxLen; omega) (by omega) hB.size ?_)
          intro v7 w7 o7 g7
          go_wp2_with fail
          go_roundw
          case rel => exact ⟨k + 1, by omega, by go_num, by rw [HSU.out, List.length_append]; simpa [nums] using o7, hB.grown g7 hB.size (fun k e => (ho.lt k e).1)⟩
          case measure => simp [intOf]; omega
        · obtain rfl : k = ls.length := by omega
          go_wp2_with fail
          go_ret
          exact ⟨_, rfl, ho, hB⟩

set_option maxHeartbeats 4000000 in
set_option maxRecDepth 100000 in
/-- The program's numbers of several lists, sorted, each once. -/
theorem eachOnce_any (b : Nat) (ls : List (Value × List Int)) (w : World) (hsum : (catT ls ls.length).length ≤ 1100000) (hn : ls.length ≤ 2) (hc : ∀ j (h : j < ls.length), w.cell? ⟨b, j, none⟩ = some ls[j].1) (hb : b < w.heap.size) (hr : ∀ j (h : j < ls.length), NuR w ls[j].1 ls[j].2) :
    Calls Tryz.prog 31 #[.slice (some ⟨b, 0, none⟩) ls.length ls.length] w fun e w' => ∃ v', e = .returned v' ∧ w'.ownsRow w.heap.size 3 1 v' (srN (catT ls ls.length)).length (nums (srN (catT ls ls.length))) ∧ Below w.heap.size w w' := by
  have HC := hid (concat_any b ls w hsum hn hc hb hr)
  clear hc hr
  generalize catT ls ls.length = zs at *
  go_enter Tryz.func31, Tryz.ntmps31
  go_wp2_with fail
  refine HC.out.mono ?_
  rintro e w1 ⟨v1, rfl, o1, hB1⟩
  have HZ := hid (compact_sorted zs)
  rcases row_form o1 with ⟨rfl, h0⟩ | ⟨g, cp, rfl, hg, hcp⟩
  · obtain rfl : zs = [] := List.eq_nil_of_length_eq_zero h0
    go_wp2_with fail
    refine (Any.slices_Sort_int_none Tryz.lays189 none 0 _).mono ?_
    rintro e w2 ⟨rfl, rfl⟩
    go_wp2_with fail
    refine (Any.slices_Compact_int_empty Tryz.lays20 none 0 _).mono ?_
    rintro e w3 ⟨rfl, rfl⟩
    go_wp2_with fail
    go_ret
    exact ⟨_, rfl, World.ownsRow_nil _ _ _ _, hB1⟩
  · have hms : (zs.mergeSort fun x y => decide (x ≤ y)).length = zs.length := List.length_mergeSort _
    go_wp2_with fail
    refine (sortN_any _ g cp zs _ (by omega) o1).mono ?_
    rintro e w2 ⟨rfl, o2, g2⟩
    have hB2 := hB1.grown g2 hB1.size (fun k e => by simp at e; omega)
    rw [← hms] at o2
    have HMS := hid hms
    rw [← hms]
    clear hms
    generalize (zs.mergeSort fun x y => decide (x ≤ y)) = ds at *
    go_wp2_with fail
    refine (compactN_any _ g cp ds _ (by have := HMS.out; omega) o2).mono ?_
    rintro e w3 ⟨v3, rfl, o3, g3⟩
    rw [HZ.out] at o3
    have hB3 := hB2.grown g3 hB2.size (fun k e => by simp at e; omega)
    go_wp2_with fail
    go_ret
    exact ⟨_, rfl, o3, hB3⟩

end Go.Proofs.YtoaeckcenobfcaaGreat

namespace Go.Proofs.YtoaeckcenobfcaaGreat
open Go.RowKit Go.Shelf

theorem SsK.ext {w : World} {base top : Nat} {v : Value} {n : Nat} {ss : List Sn} {k : Nat} {xs : List Value} {vp vr : Nat → Value} (h : SsK w base top v n ss k xs vp vr) (hk : k ≤ ss.length) (t : List Sn) : SsK w base top v n (ss ++ t) k xs vp vr := by
  have e : ∀ i (hi : i < (ss ++ t).length) (hik : i < k), (ss ++ t)[i] = ss[i]'(by omega) := fun i hi hik => List.getElem_append_left (by omega)
  exact ⟨h.row, h.rlt, fun i hi hik => by rw [e i hi hik]; exact h.cs i (by omega) hik, fun i hi hik => by rw [e i hi hik]; exact h.pol i (by omega) hik, fun i hi hik => by rw [e i hi hik]; exact h.num i (by omega) hik, fun i hi hik => h.plt i (by omega) hik, fun i hi hik => h.nlt i (by omega) hik, fun i j hi hj hik hjk => h.pap i j (by omega) (by omega) hik hjk, fun i j hi hj hik hjk => h.nap i j (by omega) (by omega) hik hjk⟩
/-- One more version, whose lists were there before the row, is put behind it. -/
theorem SsK.app2 {w w3 : World} {base b2 : Nat} {v v' : Value} {ss : List Sn} {k : Nat} {xs : List Value} {vp vr : Nat → Value} {p r : Value} (h : SsK w b2 w.heap.size v k ss k xs vp vr) (hk : k < ss.length) (hb : base ≤ b2)
    (hp : w.ownsRow base 41 4 p ss[k].pol.length (ss[k].pol.flatMap Ru.cells)) (hr : w.ownsRow base 3 1 r ss[k].rv.length (nums ss[k].rv)) (hpl : ∀ j, p.ownBlock = some j → j < b2) (hrl : ∀ j, r.ownBlock = some j → j < b2)
    (hown : w3.ownsRow base 26 3 v' (k + 1) (xs ++ [.int .i64 ss[k].num, p, r])) (hg : w.grownBy w3 v.ownBlock) :
    SsK w3 base w3.heap.size v' (k + 1) ss (k + 1) (xs ++ [.int .i64 ss[k].num, p, r]) (fun i => if i = k then p else vp i) (fun i => if i = k then r else vr i) := by
  have hlen : xs.length = k * 3 := h.row.1
  have keep : ∀ {b : Nat} {e : TypeId} {s m : Nat} {u : Value} {x : List Value}, w.ownsRow b e s u m x → e ≠ 26 → w3.ownsRow b e s u m x := fun hu hne => kept_apart hu hg (fun j h1 h2 => row_apart hu h.row hne j h1 h2)
  have pk := keep hp tyR
  have rk := keep hr tyN
  refine ⟨hown, fun j hj => (hown.lt j hj).2, ?_, ?_, ?_, ?_, ?_, ?_, ?_⟩
  · intro i hi hik
    by_cases e : i = k
    · subst e
      rw [if_pos rfl, if_pos rfl]
      refine ⟨?_, ?_, ?_⟩
      · rw [List.getElem?_append_right (by omega), hlen, Nat.sub_self]; rfl
      · rw [List.getElem?_append_right (by omega), hlen, Nat.add_sub_cancel_left]; rfl
      · rw [List.getElem?_append_right (by omega), hlen, Nat.add_sub_cancel_left]; rfl
    · rw [if_neg e, if_neg e]
      obtain ⟨c0, c1, c2⟩ := h.cs i hi (by omega)
      exact ⟨by rw [List.getElem?_append_left (by omega)]; exact c0, by rw [List.getElem?_append_left (by omega)]; exact c1, by rw [List.getElem?_append_left (by omega)]; exact c2⟩
  · intro i hi hik
    by_cases e : i = k
    · subst e
      rw [if_pos rfl]
      exact pk
    · rw [if_neg e]
      exact Go.Joins.ownsRow_le (keep (h.pol i hi (by omega)) tyR) hb
  · intro i hi hik
    by_cases e : i = k
    · subst e
      rw [if_pos rfl]
      exact rk
    · rw [if_neg e]
      exact Go.Joins.ownsRow_le (keep (h.num i hi (by omega)) tyN) hb
  · intro i hi hik j hj
    by_cases e : i = k
    · rw [if_pos e] at hj
      exact (pk.lt j hj).2
    · rw [if_neg e] at hj
      exact ((keep (h.pol i hi (by omega)) tyR).lt j hj).2
  · intro i hi hik j hj
    by_cases e : i = k
    · rw [if_pos e] at hj
      exact (rk.lt j hj).2
    · rw [if_neg e] at hj
      exact ((keep (h.num i hi (by omega)) tyN).lt j hj).2
  · intro i j hi hj hik hjk hij b h1 h2'
    by_cases e : i = k
    · rw [if_pos e] at h1
      rw [if_neg (by omega)] at h2'
      have := hpl b h1
      have := ((h.pol j hj (by omega)).lt b h2').1
      omega
    · rw [if_neg e] at h1
      by_cases e2 : j = k
      · rw [if_pos e2] at h2'
        have := hpl b h2'
        have := ((h.pol i hi (by omega)).lt b h1).1
        omega
      · rw [if_neg e2] at h2'
        exact h.pap i j hi hj (by omega) (by omega) hij b h1 h2'
  · intro i j hi hj hik hjk hij b h1 h2'
    by_cases e : i = k
    · rw [if_pos e] at h1
      rw [if_neg (by omega)] at h2'
      have := hrl b h1
      have := ((h.num j hj (by omega)).lt b h2').1
      omega
    · rw [if_neg e] at h1
      by_cases e2 : j = k
      · rw [if_pos e2] at h2'
        have := hrl b h2'
        have := ((h.num i hi (by omega)).lt b h1).1
        omega
      · rw [if_neg e2] at h2'
        exact h.nap i j hi hj (by omega) (by omega) hij b h1 h2'

theorem SsK.put {w w3 : World} {base b2 : Nat} {v v' : Value} {ss : List Sn} {xs : List Value} {vp vr : Nat → Value} {p r : Value} {s : Sn} (h : SsK w b2 w.heap.size v ss.length ss ss.length xs vp vr) (hb : base ≤ b2)
    (hp : w.ownsRow base 41 4 p s.pol.length (s.pol.flatMap Ru.cells)) (hr : w.ownsRow base 3 1 r s.rv.length (nums s.rv)) (hpl : ∀ j, p.ownBlock = some j → j < b2) (hrl : ∀ j, r.ownBlock = some j → j < b2)
    (hown : w3.ownsRow base 26 3 v' (ss.length + 1) (xs ++ [.int .i64 s.num, p, r])) (hg : w.grownBy w3 v.ownBlock) :
    ∃ xs' vp' vr', SsK w3 base w3.heap.size v' (ss.length + 1) (ss ++ [s]) (ss.length + 1) xs' vp' vr' := by
  have e : (ss ++ [s])[ss.length]'(by simp) = s := by simp
  exact ⟨_, _, _, (h.ext (Nat.le_refl _) [s]).app2 (by simp) hb (by rw [e]; exact hp) (by rw [e]; exact hr) hpl hrl (by rw [e]; exact hown) hg⟩

/-- A list of one's own, or such a one without its first. -/
def SsT (w : World) (base top : Nat) (v : Value) (ss : List Sn) : Prop :=
  SsO w base top v ss ∨ ∃ g n cap ss', SsO w base top (.slice (some ⟨g, 0, none⟩) n cap) ss' ∧ 1 ≤ ss'.length ∧ ss'.length ≤ cap ∧ v = .slice (some ⟨g, 3, none⟩) (ss'.length - 1) (cap - 1) ∧ ss = ss'.drop 1
theorem SsT.below {w w' : World} {base top : Nat} {v : Value} {ss : List Sn} (h : SsT w base top v ss) (hB : Below w.heap.size w w') : SsT w' base top v ss := by
  rcases h with h | ⟨g, n, cap, ss', h, h1, h2, h3, h4⟩
  · exact .inl (h.below hB)
  · exact .inr ⟨g, n, cap, ss', h.below hB, h1, h2, h3, h4⟩
theorem Mid.sst {lo hi : Nat} {w w1 : World} (hM : Mid lo hi w w1) {base top : Nat} {v : Value} {ss : List Sn} (h : SsT w base top v ss) (ho : hi ≤ base ∨ top ≤ lo) : SsT w1 base top v ss := by
  rcases h with h | ⟨g, n, cap, ss', h, h1, h2, h3, h4⟩
  · exact .inl (hM.sso h ho)
  · exact .inr ⟨g, n, cap, ss', hM.sso h ho, h1, h2, h3, h4⟩
theorem SsT.a {w : World} {base top : Nat} {v : Value} {ss : List Sn} (h : SsT w base top v ss) : SsA w v ss := by
  rcases h with h | ⟨g, n, cap, ss', h, h1, h2, rfl, rfl⟩
  · exact h.a
  · have := (h.r.drop (k := 1) (c' := cap - 1) h1 (by omega)).a
    simpa using this
theorem SsT.mono {w : World} {base base' top top' : Nat} {v : Value} {ss : List Sn} (h : SsT w base top v ss) (hb : base' ≤ base) (ht : top ≤ top') : SsT w base' top' v ss := by
  rcases h with h | ⟨g, n, cap, ss', h, h1, h2, h3, h4⟩
  · exact .inl (h.mono hb ht)
  · exact .inr ⟨g, n, cap, ss', h.mono hb ht, h1, h2, h3, h4⟩

theorem SsK.top {w : World} {base top top' : Nat} {v : Value} {n : Nat} {ss : List Sn} {k : Nat} {xs : List Value} {vp vr : Nat → Value} (h : SsK w base top v n ss k xs vp vr) (ht : top ≤ top') : SsK w base top' v n ss k xs vp vr :=
  ⟨h.row, fun j hj => Nat.lt_of_lt_of_le (h.rlt j hj) ht, h.cs, h.pol, h.num, fun i hi hik j hj => Nat.lt_of_lt_of_le (h.plt i hi hik j hj) ht, fun i hi hik j hj => Nat.lt_of_lt_of_le (h.nlt i hi hik j hj) ht, h.pap, h.nap⟩
theorem step_app_own {P : Program} {w : World} {ops : Array Oper} {o : Oper} {a : Act} {K : Act → World → Prop} {Q : Exit → Act → World → Prop} {E : Prop} (hgd : o.guard = none) (s x : Operand) (t : TypeId)
    (ho : o.op = .call { callee := .builtin .append, args := #[s, x], argTypes := #[t, t] })
    (base : Nat) (e : TypeId) (i : TypeInfo) (z : Value) (size bytes : Nat) (ht : P.underlying t = some (.slice e)) (hi : P.info? e = some i) (hz : i.zero = some z)
    (hsize : i.size = size) (hby : i.bytes = bytes) (hzs : z.cells.size = size) (hsz : 0 < size)
    (v : Value) (n : Nat) (xs : List Value) (hs : a.eval s = v) (hown : w.ownsRow base e size v n xs)
    (ad : Addr) (m c : Nat) (news : List Value) (hx : a.eval x = .slice (some ad) m c) (hl : news.length = m * size) (hnews : ∀ j u, news[j]? = some u → w.cell? (ad.add j) = some u) (h1 : ∀ u ∈ news, u.oneCell' = true)
    (h63 : n + m ≤ maxLen) (hbytes : (n + m) * bytes ≤ 140737488355328) (hbase : base ≤ w.heap.size)
    (h : ∀ v' w', w'.ownsRow base e size v' (n + m) (xs ++ news) → w.grownBy w' v.ownBlock → K (a.put o.dst v') w') :
    if Region.wanted o (yielded ops a.tmps) = true then Oper.wp P o a w K Q else E := by
  have hw : Region.wanted o (yielded ops a.tmps) = true := by simp [Region.wanted, hgd]
  rw [if_pos hw]
  exact wp_append_own w s x t ho base e i z size bytes ht hi hz hsize hby hzs hsz v n xs hs hown ad m c news hx hl hnews h1 h63 hbytes hbase (fun v' w' h1 h2 _ => h v' w' h1 h2)
theorem nwS_short {ss : List Sn} {rs : List Ru} {zs : List Int} (hp : polB rs = true) (hz : fewB zs = true) (hf : ∀ r ∈ rs, r.size ≤ 1048576) : (nwS ss rs zs).short := by
  have h30 := (pol_all hp).2
  have hl : ∀ k, k ≤ rs.length → (plTo rs k).length ≤ k := fun k => by
    induction k with
    | zero => intro _; simp [plTo]
    | succ k ih =>
      intro hk
      rw [plTo_succ (by omega)]
      have := insU_length (rs[k]'(by omega)) (plTo rs k)
      have := ih (by omega)
      omega
  have h1 := hl _ (Nat.le_refl _)
  have h2 := srN_len zs
  have h3 := fewB_len hz
  refine ⟨?_, ?_, ?_⟩
  · show (plX rs).length ≤ _
    rw [plX_yes hp]
    omega
  · show (srN zs).length ≤ _
    omega
  · intro r hr
    refine hf r ?_
    have hr' : r ∈ plX rs := hr
    rw [plX_yes hp, plTo_mem _ (Nat.le_refl _), List.take_length] at hr'
    exact hr'
theorem nxN_at {ss : List Sn} {n : Nat} (h : ss.length = n + 1) : nxN ss = (ss[n]'(by omega)).num + 1 := by
  unfold nxN
  rw [List.getLast?_eq_getElem?, show ss.length - 1 = n by omega, List.getElem?_eq_getElem (by omega)]
theorem lsB_num {ss : List Sn} (h : lsB ss = true) : ∀ s ∈ ss, 1 ≤ s.num ∧ s.num ≤ 100000 := fun s hs => by
  have := lsB_mem h s hs
  unfold snB at this
  rw [Bool.and_eq_true] at this
  exact of_decide_eq_true this.1
theorem puB_no1 {ss : List Sn} {rs : List Ru} {zs : List Int} (h : lsB ss = false) : puB ss rs zs = false := by unfold puB; rw [h]; rfl
theorem puB_no2 {ss : List Sn} {rs : List Ru} {zs : List Int} (h : polB rs = false) : puB ss rs zs = false := by unfold puB; rw [h]; simp
theorem puB_no3 {ss : List Sn} {rs : List Ru} {zs : List Int} (h : fewB zs = false) : puB ss rs zs = false := by unfold puB; rw [h]; simp
theorem puB_no4 {ss : List Sn} {rs : List Ru} {zs : List Int} (h : snB (nwS ss rs zs) = false) : puB ss rs zs = false := by unfold puB; rw [h]; simp
theorem puB_yes {ss : List Sn} {rs : List Ru} {zs : List Int} (h1 : lsB ss = true) (h2 : polB rs = true) (h3 : fewB zs = true) (h4 : snB (nwS ss rs zs) = true) : puB ss rs zs = true := by unfold puB; rw [h1, h2, h3, h4]; rfl
theorem puX_no {ss : List Sn} {rs : List Ru} {zs : List Int} (h : puB ss rs zs = false) : puX ss rs zs = [] := if_neg (by rw [h]; exact Bool.false_ne_true)
theorem puX_few {ss : List Sn} {rs : List Ru} {zs : List Int} (h : puB ss rs zs = true) (hl : ss.length ≤ 19) : puX ss rs zs = ss ++ [nwS ss rs zs] := by
  unfold puX
  rw [if_pos h, show ss.length + 1 - 20 = 0 by omega, List.drop_zero]
theorem puX_many {ss : List Sn} {rs : List Ru} {zs : List Int} (h : puB ss rs zs = true) (hl : ss.length = 20) : puX ss rs zs = (ss ++ [nwS ss rs zs]).drop 1 := by
  unfold puX
  rw [if_pos h, hl]

theorem SsR.cells {w : World} {v : Value} {ss : List Sn} (h : SsR w v ss) : ∃ xs : List Value, xs.length = ss.length * 3 ∧ (∀ i (hi : i < ss.length), ∃ vp vr, xs[i * 3]? = some (.int .i64 ss[i].num) ∧ xs[i * 3 + 1]? = some vp ∧ xs[i * 3 + 2]? = some vr ∧ RuR w vp ss[i].pol ∧ NuR w vr ss[i].rv) ∧ ∀ a n c, v = .slice a n c → ∀ b, a = some b → ∀ j u, xs[j]? = some u → w.cell? (b.add j) = some u := by
  rcases h with ⟨rfl, rfl⟩ | ⟨b, off, cap, rfl, hb, hl, hc⟩
  · exact ⟨[], rfl, fun i hi => by simp at hi, fun a n c e b hb => by cases e; cases hb⟩
  · have hg : ∀ j, j < ss.length * 3 → ((List.range (ss.length * 3)).map (fun j => (w.cell? ⟨b, off + j, none⟩).getD .nilIface))[j]? = some ((w.cell? ⟨b, off + j, none⟩).getD .nilIface) := fun j hj => by simp [hj]
    refine ⟨(List.range (ss.length * 3)).map (fun j => (w.cell? ⟨b, off + j, none⟩).getD .nilIface), by simp, fun i hi => ?_, fun a n c e b' hb' j u hu => ?_⟩
    · obtain ⟨vp, vr, c0, c1, c2, h1, h2⟩ := hc i hi
      refine ⟨vp, vr, ?_, ?_, ?_, h1, h2⟩
      · rw [hg _ (by omega), c0]; rfl
      · rw [hg _ (by omega), ← Nat.add_assoc, c1]; rfl
      · rw [hg _ (by omega), ← Nat.add_assoc, c2]; rfl
    · cases e
      cases hb'
      have hj : j < ss.length * 3 := by
        have := (List.getElem?_eq_some_iff.1 hu).1
        simpa using this
      rw [hg j hj] at hu
      rw [Addr.add_lit]
      obtain ⟨vp, vr, c0, c1, c2, _, _⟩ := hc (j / 3) (by omega)
      have hs : ∃ x, w.cell? ⟨b, off + j, none⟩ = some x := by
        obtain h3 | h3 | h3 : j = j / 3 * 3 ∨ j = j / 3 * 3 + 1 ∨ j = j / 3 * 3 + 2 := by omega
        · rw [h3]; exact ⟨_, c0⟩
        · rw [h3, ← Nat.add_assoc]; exact ⟨_, c1⟩
        · rw [h3, ← Nat.add_assoc]; exact ⟨_, c2⟩
      obtain ⟨x, hx⟩ := hs
      rw [hx] at hu ⊢
      simpa using hu
theorem SsR.put {w w' : World} {base : Nat} {v' p r : Value} {ss : List Sn} {s : Sn} {xs : List Value} (hl : xs.length = ss.length * 3) (hc : ∀ i (hi : i < ss.length), ∃ vp vr, xs[i * 3]? = some (.int .i64 ss[i].num) ∧ xs[i * 3 + 1]? = some vp ∧ xs[i * 3 + 2]? = some vr ∧ RuR w vp ss[i].pol ∧ NuR w vr ss[i].rv)
    (hp : RuR w p s.pol) (hr : NuR w r s.rv) (hown : w'.ownsRow base 26 3 v' (ss.length + 1) (xs ++ [.int .i64 s.num, p, r])) (hB : Below w.heap.size w w') : SsR w' v' (ss ++ [s]) := by
  rcases row_form hown with ⟨_, h0⟩ | ⟨g, cap, rfl, hg, hcap⟩
  · omega
  · refine .inr ⟨g, 0, cap, by simp, (hown.lt g rfl).2, by simpa using hcap, fun i hi => ?_⟩
    have hi' : i < ss.length + 1 := by simpa using hi
    have c0 := hown.cellAt (i * 3) (by omega)
    have c1 := hown.cellAt (i * 3 + 1) (by omega)
    have c2 := hown.cellAt (i * 3 + 2) (by omega)
    rw [Nat.zero_add]
    by_cases e : i < ss.length
    · obtain ⟨vp, vr, x0, x1, x2, h1, h2⟩ := hc i e
      rw [List.getElem?_append_left (by omega)] at c0 c1 c2
      rw [List.getElem_append_left e]
      exact ⟨vp, vr, c0.trans x0, c1.trans x1, c2.trans x2, h1.below hB, h2.below hB⟩
    · obtain rfl : i = ss.length := by omega
      rw [List.getElem?_append_right (by omega), hl] at c0 c1 c2
      rw [List.getElem_append_right (Nat.le_refl _)]
      simp only [Nat.sub_self, Nat.add_sub_cancel_left] at c0 c1 c2
      simp only [Nat.sub_self, List.getElem_cons_zero]
      exact ⟨p, r, c0, c1, c2, hp.below hB, hr.below hB⟩

end Go.Proofs.YtoaeckcenobfcaaGreat

namespace Go.Proofs.YtoaeckcenobfcaaGreat
open Go.RowKit Go.Shelf

set_option maxHeartbeats 8000000 in
set_option maxRecDepth 100000 in
theorem specPut_any (v vp vz : Value) (ss : List Sn) (rs : List Ru) (zs : List Int) (w : World) (hm : shortS ss) (hmr : rs.length ≤ 1048577) (hf : ∀ r ∈ rs, r.size ≤ 1048576) (hmz : zs.length ≤ 1048577) (hr : SsR w v ss) (hp : RuR w vp rs) (hz : NuR w vz zs) :
    Calls Tryz.prog 46 #[v, vp, vz] w fun e w' => ∃ v', e = .returned (.tuple #[v', .bool (puB ss rs zs)]) ∧ SsT w' w.heap.size w'.heap.size v' (puX ss rs zs) ∧ Below w.heap.size w w' := by
  obtain ⟨a, cap, rfl⟩ := hr.len
  obtain ⟨ap, cp, rfl⟩ := hp.len
  obtain ⟨az, cz, rfl⟩ := hz.len
  have hm1 := hm.1
  go_enter Tryz.func46, Tryz.ntmps46
  go_wp2_with fail
  refine (l5List_any _ ss _ hm hr.a).mono ?_
  rintro e w1 ⟨rfl, hB1⟩
  cases hg : lsB ss
  · have HT := hid (puB_no1 (rs := rs) (zs := zs) hg)
    have HX := hid (puX_no HT.out)
    go_wp2_with fail
    go_ret2
    exact ⟨_, by rw [HT.out]; rfl, by rw [HX.out]; exact .inl (SsO.none _ _ _), hB1⟩
  go_wp2_with fail
  refine (l2Good_any _ rs _ hmr hf (hp.below hB1).s).mono ?_
  rintro e w2 ⟨rfl, hB2⟩
  have hBB := below_one hB1 hB2
  clear hB1 hB2
  cases hg2 : polB rs
  · have HT := hid (puB_no2 (ss := ss) (zs := zs) hg2)
    have HX := hid (puX_no HT.out)
    go_wp2_with fail
    go_ret2
    exact ⟨_, by rw [HT.out]; rfl, by rw [HX.out]; exact .inl (SsO.none _ _ _), hBB⟩
  by_cases h200 : zs.length ≤ 200
  · have d2 : decide ((200 : Int) < (zs.length : Int)) = false := by simp; omega
    go_wp2_with fail
    go_loopw [28] (fun i wr => ∃ n : Nat, n ≤ zs.length ∧ i = .int .i64 n ∧ (∀ j (hj : j < zs.length), j < n → 1 ≤ zs[j] ∧ zs[j] < 100001) ∧ wr = w2) (fun i _ => zs.length - (intOf i).toNat)
    case atStart => exact ⟨0, Nat.zero_le _, rfl, fun _ _ h => absurd h (Nat.not_lt_zero _), rfl⟩
    case round =>
      obtain ⟨n, hn, rfl, ht, rfl⟩ := hrel
      have HT0 := hid ht
      clear ht
      by_cases hlt : n < zs.length
      · obtain ⟨b, off, rfl, hb, hcap, q0⟩ := (hz.below hBB).s.num hlt
        have HN := hid (fun h => puB_no3 (ss := ss) (rs := rs) (fewB_no2 (okN_no (nx := 100001) (zs := zs) hlt h)))
        have HS := hid (show (1 ≤ zs[n] ∧ zs[n] < 100001) → ∀ j (hj : j < zs.length), j < n + 1 → (1 ≤ zs[j] ∧ zs[j] < 100001) from fun h j hj hjn => by
          by_cases e : j = n
          · subst e; exact h
          · exact HT0.out j hj (by omega))
        generalize zs[n] = x at *
        by_cases hx : 1 ≤ x ∧ x < 100001
        · have hin : inB 1 100000 x = true := decide_eq_true (by omega)
          have HR := hid (HS.out hx)
          clear hx
          go_wp2_with (go_at_call 57; refine (l1In_any x 1 100000 _).mono ?_; rintro e w1 ⟨rfl, rfl⟩; rw [hin])
          go_roundw
          case rel => exact ⟨n + 1, by omega, by go_num, HR.out, by trivial⟩
          case measure => simp [intOf]; omega
        · have hin : inB 1 100000 x = false := decide_eq_false (by omega)
          have HT := hid (HN.out hx)
          have HX := hid (puX_no HT.out)
          clear hx
          go_wp2_with (go_at_call 57; refine (l1In_any x 1 100000 _).mono ?_; rintro e w1 ⟨rfl, rfl⟩; rw [hin])
          go_ret2
          exact ⟨_, by rw [HT.out]; rfl, by rw [HX.out]; exact .inl (SsO.none _ _ _), hBB⟩
      · obtain rfl : n = zs.length := by omega
        have hfew : fewB zs = true := fewB_yes h200 (okN_yes fun i hi => HT0.out i hi hi)
        have h30 := (pol_all hg2).2
        have hsh := nwS_short (ss := ss) hg2 hfew hf
        have HNM := hid (lsB_num hg)
        have h20l := (lsB_all hg).1
        have HPY := hid (fun h => puB_yes (zs := zs) hg hg2 hfew h)
        clear HT0 hn hlt
        go_wp2_with fail
        refine (l2Plain_any _ rs _ h30 hf (hp.below hBB).s).mono ?_
        rintro e w3 ⟨v3, rfl, o3, hB3⟩
        rw [← plX_yes hg2] at o3
        obtain ⟨x3, y3, z3, rfl⟩ := row_slice o3
        have hBB3 := below_one hBB hB3
        go_wp2_with fail
        refine (l5Sorted_any _ zs _ (by omega) (hz.s.below hBB3)).mono ?_
        rintro e w4 ⟨v4, rfl, o4, hB4⟩
        obtain ⟨x4, y4, z4, rfl⟩ := row_slice o4
        have hs0 := hBB.size
        have hs3 := hB3.size
        have hBB4 := below_one hBB3 hB4
        have hs4 := hBB4.size
        replace o3 := Go.Joins.ownsRow_le (ownsRow_below o3 hB4) hs0
        replace o4 := Go.Joins.ownsRow_le o4 hBB3.size
        clear hBB hB3 hBB3 hB4 hg hg2 h200 d2 hfew
        rcases Nat.eq_zero_or_pos ss.length with h0 | hpos
        · have HNX := hid (show (1 : Int) = nxN ss by rw [List.eq_nil_of_length_eq_zero h0]; rfl)
          have hBa : Below w4.heap.size w4 (w4.alloc (.cells #[.int .i64 1, .slice x3 y3 z3, .slice x4 y4 z4] 26)) := (Below.refl _ w4).alloc (Nat.le_refl _) _
          have FS := Three.new w4 (.int .i64 1) (.slice x3 y3 z3) (.slice x4 y4 z4) 26
          replace o3 := ownsRow_below o3 hBa
          replace o4 := ownsRow_below o4 hBa
          replace hBB4 := below_one hBB4 hBa
          clear hBa
          obtain ⟨c0, c1, c2⟩ := FS.c
          go_wp2_with fail
          clear c0 c1 c2
          rw [h0] at hr
          clear h0
          generalize w4.alloc (.cells #[.int .i64 1, .slice x3 y3 z3, .slice x4 y4 z4] 26) = W5 at *
          generalize w4.heap.size = k0 at *
          have HNV : (Value.int .i64 1) = .int .i64 (nxN ss) := by rw [← HNX.out]
          rw [HNV] at FS
          rw [HNV]
          clear HNV HNX
          refine (specGoodSnapshot_any _ (nwS ss rs zs) _ hsh ⟨_, _, rfl, (RuR.own o3).s, (NuR.own o4).s⟩).mono ?_
          rintro e w6 ⟨rfl, hB6⟩
          replace FS := FS.below hB6
          replace o3 := ownsRow_below o3 hB6
          replace o4 := ownsRow_below o4 hB6
          replace hBB4 := below_one hBB4 hB6
          clear hB6
          cases hg4 : snB (nwS ss rs zs)
          · have HT := hid (puB_no4 hg4)
            have HX := hid (puX_no HT.out)
            go_wp2_with fail
            go_ret2
            exact ⟨_, by rw [HT.out]; rfl, by rw [HX.out]; exact .inl (SsO.none _ _ _), hBB4⟩
          have HT := hid (HPY.out hg4)
          clear HPY hg4
          obtain ⟨i0, hi, hz0, hz1, hz2⟩ := info_parts infoSnapshot
          have hBd : Below w6.heap.size w6 w6.drew := (Below.refl _ _).drew
          obtain ⟨c0, c1, c2⟩ := FS.c
          go_wp2_with fail
          replace FS := FS.below hBd
          replace o3 := ownsRow_below o3 hBd
          replace o4 := ownsRow_below o4 hBd
          replace hBB4 := below_one hBB4 hBd
          have hrD := hr.below hBB4
          clear hBd
          refine wp_region_held_drew (S := fun w' => w'.cell? ⟨k0, 0, none⟩ = some (.int .i64 (nxN ss)) ∧ w'.cell? ⟨k0, 1, none⟩ = some (.slice x3 y3 z3) ∧ w'.cell? ⟨k0, 2, none⟩ = some (.slice x4 y4 z4)) (by kernel_rfl) ?_ (fun hHeld => ?_)
          · go_keep
          generalize w6.drew = Wd at *
          refine takeW 0 (v := ?v8) rfl (by kernel_rfl) (by kernel_rfl) (by kernel_rfl) (fun _ _ _ h => h) (by rfl) (by assumption) ?hy8 ?rest8
          case hy8 => intro w' hSw; (try dsimp only at hSw); go_simp; try with_reducible rfl
          try simp only [Act.put, List.setIfInBounds_toArray, List.set_cons_zero, List.set_cons_succ]
          refine takeW 2 (v := ?v9) rfl (by kernel_rfl) (by kernel_rfl) (by kernel_rfl) (fun _ _ _ h => h) (by rfl) (by assumption) ?hy9 ?rest9
          case hy9 => intro w' hSw; (try dsimp only at hSw); go_simp; try with_reducible rfl
          try simp only [Act.put, List.setIfInBounds_toArray, List.set_cons_zero, List.set_cons_succ]
          refine takeC2 1 3 (by kernel_rfl) rfl rfl (fun K hK => ?_) (fun K hK => ?_)
          · go_simp
            refine (l5OwnAll_any _ ss _ hm hrD).mono ?_; rintro e w7 ⟨v7, rfl, O7, hB7⟩; have hc7 := fun o => hB7.cell (p := ⟨k0, o, none⟩) (by exact FS.lt)
            refine hK.out _ _ ?_ (fun hHeld => ?_)
            · first | go_keep | exact FS.c
            clear hK K
            try simp only [Act.put, List.setIfInBounds_toArray, List.set_cons_zero, List.set_cons_succ]
            obtain ⟨xs7, vp7, vr7, K7⟩ := O7
            obtain ⟨s7, t7, r7, rfl⟩ := row_slice K7.row
            refine takeC 3 (by kernel_rfl) rfl (fun K hK => ?_)
            go_simp
            skip
            refine hK.out _ _ ?_ (fun hHeld => ?_)
            · first | go_keep | exact FS.c
            clear hK K
            try simp only [Act.put, List.setIfInBounds_toArray, List.set_cons_zero, List.set_cons_succ]
            have hBv : Below w7.heap.size w7 (w7.alloc (.cells #[.int .i64 (nxN ss), .slice x3 y3 z3, .slice x4 y4 z4] 26)) := (Below.refl _ w7).alloc (Nat.le_refl _) _
            have hct := cell_three_w w7 (.int .i64 (nxN ss)) (.slice x3 y3 z3) (.slice x4 y4 z4)
            have hl3 : ∀ j, (Value.slice x3 y3 z3).ownBlock = some j → j < Wd.heap.size := fun j e => (o3.lt j e).2
            have hl4 : ∀ j, (Value.slice x4 y4 z4).ownBlock = some j → j < Wd.heap.size := fun j e => (o4.lt j e).2
            have hkd : k0 < Wd.heap.size := FS.lt
            have FS7 := (FS.below hB7).below hBv
            replace K7 := (K7.below hBv).top hBv.size
            replace o3 := ownsRow_below (ownsRow_below o3 hB7) hBv
            replace o4 := ownsRow_below (ownsRow_below o4 hB7) hBv
            have hb2 : w.heap.size ≤ Wd.heap.size := hBB4.size
            have hB7w := below_one (below_one hBB4 hB7) hBv
            clear hBv hc7 FS hHeld
            generalize w7.alloc (.cells #[.int .i64 (nxN ss), .slice x3 y3 z3, .slice x4 y4 z4] 26) = W7 at *
            generalize w7.heap.size = kt at *
            refine takeC 4 (by kernel_rfl) rfl (fun K hK => ?_)
            refine step_app_own rfl _ _ 56 rfl w.heap.size 26 i0 _ 3 56 Tryz.underlying56 hi hz0 hz1 hz2 rfl (by decide) _ ss.length xs7 rfl (Go.Joins.ownsRow_le K7.row hb2) ⟨kt, 0, none⟩ 1 1 [.int .i64 (nxN ss), .slice x3 y3 z3, .slice x4 y4 z4] rfl rfl hct (by intro u hu; simp at hu; rcases hu with rfl | rfl | rfl <;> rfl) (by unfold maxLen; omega) (by omega) hB7w.size ?_; intro v8 w8 o8 g8; have FS8 : Three w8 _ _ _ _ _ := kept_apart FS7 g8 (fun k e1 e2 => by have := (K7.row.lt k e2).1; simp [Value.ownBlock] at e1; omega)
            refine hK.out _ _ ?_ (fun hHeld => ?_)
            · exact FS8.c
            clear hK K
            try simp only [Act.put, List.setIfInBounds_toArray, List.set_cons_zero, List.set_cons_succ]
            refine takeW 5 (v := ?v10) rfl (by kernel_rfl) (by kernel_rfl) (by kernel_rfl) (fun _ _ _ h => h) (by rfl) (by assumption) ?hy10 ?rest10
            case hy10 => intro w' hSw; (try dsimp only at hSw); go_simp; try with_reducible rfl
            try simp only [Act.put, List.setIfInBounds_toArray, List.set_cons_zero, List.set_cons_succ]
            refine wpAnyH_done (by kernel_rfl) ?_ _
            obtain ⟨xs8, vp8, vr8, K8⟩ := K7.put (s := nwS ss rs zs) hb2 o3 o4 hl3 hl4 o8 g8
            have hB8 := hB7w.grown g8 hB7w.size (fun k e => by have := (K7.row.lt k e).1; omega)
            clear hHeld FS8 FS7 K7 o8 g8
            rcases row_form K8.row with ⟨_, h'⟩ | ⟨g8, c8, rfl, _, hc8⟩
            · exact absurd h' (by omega)
            have hlw : ((ss ++ [nwS ss rs zs]).length : Nat) = ss.length + 1 := by simp
            by_cases h20 : ss.length = 20
            · have HX := hid (puX_many HT.out h20)
              have d20 : decide ((20 : Int) < ((ss.length : Int) + 1)) = true := by simp; omega
              have hb1 : (1 : Int) ≤ (ss.length : Int) + 1 := by omega
              have hb2 : (ss.length : Int) + 1 ≤ (c8 : Int) := by omega
              have hb3 : ¬ (c8 = 1) := by omega
              have hb4 : ((ss.length : Int) + 1).toNat = ss.length + 1 := by omega
              clear h20
              go_wp2_with fail
              go_ret2
              refine ⟨_, by rw [HT.out]; rfl, ?_, hB8⟩
              rw [HX.out]
              exact .inr ⟨g8, ss.length + 1, c8, ss ++ [nwS ss rs zs], ⟨_, _, _, by rw [hlw]; exact K8⟩, by omega, by omega, by rw [hlw]; simp, rfl⟩
            · have HX := hid (puX_few HT.out (by omega))
              have d20 : decide ((20 : Int) < ((ss.length : Int) + 1)) = false := by simp; omega
              clear h20
              go_wp2_with fail
              go_ret2
              refine ⟨_, by rw [HT.out]; rfl, ?_, hB8⟩
              rw [HX.out]
              exact .inl ⟨_, _, _, by rw [hlw]; exact K8⟩
          · go_simp
            skip
            refine hK.out _ _ ?_ (fun hHeld => ?_)
            · first | go_keep | exact FS.c
            clear hK K
            try simp only [Act.put, List.setIfInBounds_toArray, List.set_cons_zero, List.set_cons_succ]
            have hBv : Below Wd.heap.size Wd (Wd.alloc (.cells #[.int .i64 (nxN ss), .slice x3 y3 z3, .slice x4 y4 z4] 26)) := (Below.refl _ Wd).alloc (Nat.le_refl _) _
            have hct := cell_three_w Wd (.int .i64 (nxN ss)) (.slice x3 y3 z3) (.slice x4 y4 z4)
            have hkt : Wd.heap.size < (Wd.alloc (.cells #[.int .i64 (nxN ss), .slice x3 y3 z3, .slice x4 y4 z4] 26)).heap.size := by simp
            replace FS := FS.below hBv
            replace o3 := ownsRow_below o3 hBv
            replace o4 := ownsRow_below o4 hBv
            replace hBB4 := below_one hBB4 hBv
            replace hrD := hrD.below hBv
            clear hBv
            generalize Wd.alloc (.cells #[.int .i64 (nxN ss), .slice x3 y3 z3, .slice x4 y4 z4] 26) = Wa at *
            generalize Wd.heap.size = kt at *
            refine takeC 1 (by kernel_rfl) rfl (fun K hK => ?_)
            go_simp
            refine (l5OwnAll_any _ ss _ hm hrD).mono ?_; rintro e w7 ⟨v7, rfl, O7, hB7⟩; have hc7 := fun o => hB7.cell (p := ⟨k0, o, none⟩) (by exact FS.lt)
            refine hK.out _ _ ?_ (fun hHeld => ?_)
            · first | go_keep | exact FS.c
            clear hK K
            try simp only [Act.put, List.setIfInBounds_toArray, List.set_cons_zero, List.set_cons_succ]
            obtain ⟨xs7, vp7, vr7, K7⟩ := O7
            obtain ⟨s7, t7, r7, rfl⟩ := row_slice K7.row
            have hct7 : ∀ j u, [Value.int .i64 (nxN ss), .slice x3 y3 z3, .slice x4 y4 z4][j]? = some u → w7.cell? ((⟨kt, 0, none⟩ : Addr).add j) = some u := fun j u hu => by have := hct j u hu; rw [Addr.add_lit] at this ⊢; exact (hB7.cell (p := ⟨kt, 0 + j, none⟩) hkt).trans this
            have hl3 : ∀ j, (Value.slice x3 y3 z3).ownBlock = some j → j < Wa.heap.size := fun j e => (o3.lt j e).2
            have hl4 : ∀ j, (Value.slice x4 y4 z4).ownBlock = some j → j < Wa.heap.size := fun j e => (o4.lt j e).2
            have hkd : k0 < Wa.heap.size := FS.lt
            have FS7 := FS.below hB7
            replace o3 := ownsRow_below o3 hB7
            replace o4 := ownsRow_below o4 hB7
            have hb2 : w.heap.size ≤ Wa.heap.size := hBB4.size
            have hB7w := below_one hBB4 hB7
            clear hc7 FS hHeld hct
            refine takeC 4 (by kernel_rfl) rfl (fun K hK => ?_)
            refine step_app_own rfl _ _ 56 rfl w.heap.size 26 i0 _ 3 56 Tryz.underlying56 hi hz0 hz1 hz2 rfl (by decide) _ ss.length xs7 rfl (Go.Joins.ownsRow_le K7.row hb2) ⟨kt, 0, none⟩ 1 1 [.int .i64 (nxN ss), .slice x3 y3 z3, .slice x4 y4 z4] rfl rfl hct7 (by intro u hu; simp at hu; rcases hu with rfl | rfl | rfl <;> rfl) (by unfold maxLen; omega) (by omega) hB7w.size ?_; intro v8 w8 o8 g8; have FS8 : Three w8 _ _ _ _ _ := kept_apart FS7 g8 (fun k e1 e2 => by have := (K7.row.lt k e2).1; simp [Value.ownBlock] at e1; omega)
            refine hK.out _ _ ?_ (fun hHeld => ?_)
            · exact FS8.c
            clear hK K
            try simp only [Act.put, List.setIfInBounds_toArray, List.set_cons_zero, List.set_cons_succ]
            refine takeW 5 (v := ?v11) rfl (by kernel_rfl) (by kernel_rfl) (by kernel_rfl) (fun _ _ _ h => h) (by rfl) (by assumption) ?hy11 ?rest11
            case hy11 => intro w' hSw; (try dsimp only at hSw); go_simp; try with_reducible rfl
            try simp only [Act.put, List.setIfInBounds_toArray, List.set_cons_zero, List.set_cons_succ]
            refine wpAnyH_done (by kernel_rfl) ?_ _
            obtain ⟨xs8, vp8, vr8, K8⟩ := K7.put (s := nwS ss rs zs) hb2 o3 o4 hl3 hl4 o8 g8
            have hB8 := hB7w.grown g8 hB7w.size (fun k e => by have := (K7.row.lt k e).1; omega)
            clear hHeld FS8 FS7 K7 o8 g8
            rcases row_form K8.row with ⟨_, h'⟩ | ⟨g8, c8, rfl, _, hc8⟩
            · exact absurd h' (by omega)
            have hlw : ((ss ++ [nwS ss rs zs]).length : Nat) = ss.length + 1 := by simp
            by_cases h20 : ss.length = 20
            · have HX := hid (puX_many HT.out h20)
              have d20 : decide ((20 : Int) < ((ss.length : Int) + 1)) = true := by simp; omega
              have hb1 : (1 : Int) ≤ (ss.length : Int) + 1 := by omega
              have hb2 : (ss.length : Int) + 1 ≤ (c8 : Int) := by omega
              have hb3 : ¬ (c8 = 1) := by omega
              have hb4 : ((ss.length : Int) + 1).toNat = ss.length + 1 := by omega
              clear h20
              go_wp2_with fail
              go_ret2
              refine ⟨_, by rw [HT.out]; rfl, ?_, hB8⟩
              rw [HX.out]
              exact .inr ⟨g8, ss.length + 1, c8, ss ++ [nwS ss rs zs], ⟨_, _, _, by rw [hlw]; exact K8⟩, by omega, by omega, by rw [hlw]; simp, rfl⟩
            · have HX := hid (puX_few HT.out (by omega))
              have d20 : decide ((20 : Int) < ((ss.length : Int) + 1)) = false := by simp; omega
              clear h20
              go_wp2_with fail
              go_ret2
              refine ⟨_, by rw [HT.out]; rfl, ?_, hB8⟩
              rw [HX.out]
              exact .inl ⟨_, _, _, by rw [hlw]; exact K8⟩
        · obtain ⟨m, hmm⟩ : ∃ m, ss.length = m + 1 := ⟨ss.length - 1, by omega⟩
          have hml : m < ss.length := by omega
          have HNX := hid (show nxN ss = (ss[m]'hml).num + 1 from nxN_at hmm)
          have hne : ¬ ss = [] := fun e => by rw [e] at hml; simp at hml
          obtain ⟨b, off, xp, cp', xr, cr, rfl, hb, hcap, q0, q1, q2, _, _⟩ := hr.at (i := m) hml
          have hnb := HNM.out (ss[m]'hml) (List.getElem_mem _)
          have dz : decide ((0 : Int) < (ss.length : Int)) = true := decide_eq_true (by omega)
          have hw1 : IntKind.i64.wrap ((ss.length : Int) - 1) = (m : Int) := by rw [IntKind.wrap_i64]; omega
          have hl1 : (m : Int) < (ss.length : Int) := by omega
          replace q0 := (hBB4.cell (p := ⟨b, _, none⟩) hb).trans q0
          have hbk : b ≠ w4.heap.size := by omega
          have hkb : w4.heap.size ≠ b := by omega
          clear q1 q2 hmm hpos
          generalize (ss[m]'hml).num = nm at *
          have hw2 : IntKind.i64.wrap (nm + 1) = nm + 1 := by rw [IntKind.wrap_i64]; omega
          have hBa1 : Below w4.heap.size w4 (w4.alloc (.cells #[.int .i64 1, .slice x3 y3 z3, .slice x4 y4 z4] 26)) := (Below.refl _ w4).alloc (Nat.le_refl _) _
          have FS1 := Three.new w4 (.int .i64 1) (.slice x3 y3 z3) (.slice x4 y4 z4) 26
          replace q0 := (hBa1.cell (p := ⟨b, _, none⟩) (Nat.lt_of_lt_of_le hb hs4)).trans q0
          obtain ⟨c0, c1, c2⟩ := FS1.c
          have cf := FS1.f 0
          have hBa : Below w4.heap.size w4 (w4.alloc (.cells #[.int .i64 (nm + 1), .slice x3 y3 z3, .slice x4 y4 z4] 26)) := (Below.refl _ w4).alloc (Nat.le_refl _) _
          have FS := Three.new w4 (.int .i64 (nm + 1)) (.slice x3 y3 z3) (.slice x4 y4 z4) 26
          replace o3 := ownsRow_below o3 hBa
          replace o4 := ownsRow_below o4 hBa
          replace hBB4 := below_one hBB4 hBa
          clear hBa
          obtain ⟨n0, n1, n2⟩ := FS.c
          go_wp2_with fail
          clear c0 c1 c2 cf n0 n1 n2 dz FS1 q0 hne hBa1
          generalize w4.alloc (.cells #[.int .i64 (nm + 1), .slice x3 y3 z3, .slice x4 y4 z4] 26) = W5 at *
          generalize w4.heap.size = k0 at *
          rw [← HNX.out] at FS
          rw [← HNX.out]
          clear HNX hw2
          refine (specGoodSnapshot_any _ (nwS ss rs zs) _ hsh ⟨_, _, rfl, (RuR.own o3).s, (NuR.own o4).s⟩).mono ?_
          rintro e w6 ⟨rfl, hB6⟩
          replace FS := FS.below hB6
          replace o3 := ownsRow_below o3 hB6
          replace o4 := ownsRow_below o4 hB6
          replace hBB4 := below_one hBB4 hB6
          clear hB6
          cases hg4 : snB (nwS ss rs zs)
          · have HT := hid (puB_no4 hg4)
            have HX := hid (puX_no HT.out)
            go_wp2_with fail
            go_ret2
            exact ⟨_, by rw [HT.out]; rfl, by rw [HX.out]; exact .inl (SsO.none _ _ _), hBB4⟩
          have HT := hid (HPY.out hg4)
          clear HPY hg4
          obtain ⟨i0, hi, hz0, hz1, hz2⟩ := info_parts infoSnapshot
          have hBd : Below w6.heap.size w6 w6.drew := (Below.refl _ _).drew
          obtain ⟨c0, c1, c2⟩ := FS.c
          go_wp2_with fail
          replace FS := FS.below hBd
          replace o3 := ownsRow_below o3 hBd
          replace o4 := ownsRow_below o4 hBd
          replace hBB4 := below_one hBB4 hBd
          have hrD := hr.below hBB4
          clear hBd
          refine wp_region_held_drew (S := fun w' => w'.cell? ⟨k0, 0, none⟩ = some (.int .i64 (nxN ss)) ∧ w'.cell? ⟨k0, 1, none⟩ = some (.slice x3 y3 z3) ∧ w'.cell? ⟨k0, 2, none⟩ = some (.slice x4 y4 z4)) (by kernel_rfl) ?_ (fun hHeld => ?_)
          · go_keep
          generalize w6.drew = Wd at *
          refine takeW 0 (v := ?v12) rfl (by kernel_rfl) (by kernel_rfl) (by kernel_rfl) (fun _ _ _ h => h) (by rfl) (by assumption) ?hy12 ?rest12
          case hy12 => intro w' hSw; (try dsimp only at hSw); go_simp; try with_reducible rfl
          try simp only [Act.put, List.setIfInBounds_toArray, List.set_cons_zero, List.set_cons_succ]
          refine takeW 2 (v := ?v13) rfl (by kernel_rfl) (by kernel_rfl) (by kernel_rfl) (fun _ _ _ h => h) (by rfl) (by assumption) ?hy13 ?rest13
          case hy13 => intro w' hSw; (try dsimp only at hSw); go_simp; try with_reducible rfl
          try simp only [Act.put, List.setIfInBounds_toArray, List.set_cons_zero, List.set_cons_succ]
          refine takeC2 1 3 (by kernel_rfl) rfl rfl (fun K hK => ?_) (fun K hK => ?_)
          · go_simp
            refine (l5OwnAll_any _ ss _ hm hrD).mono ?_; rintro e w7 ⟨v7, rfl, O7, hB7⟩; have hc7 := fun o => hB7.cell (p := ⟨k0, o, none⟩) (by exact FS.lt)
            refine hK.out _ _ ?_ (fun hHeld => ?_)
            · first | go_keep | exact FS.c
            clear hK K
            try simp only [Act.put, List.setIfInBounds_toArray, List.set_cons_zero, List.set_cons_succ]
            obtain ⟨xs7, vp7, vr7, K7⟩ := O7
            obtain ⟨s7, t7, r7, rfl⟩ := row_slice K7.row
            refine takeC 3 (by kernel_rfl) rfl (fun K hK => ?_)
            go_simp
            skip
            refine hK.out _ _ ?_ (fun hHeld => ?_)
            · first | go_keep | exact FS.c
            clear hK K
            try simp only [Act.put, List.setIfInBounds_toArray, List.set_cons_zero, List.set_cons_succ]
            have hBv : Below w7.heap.size w7 (w7.alloc (.cells #[.int .i64 (nxN ss), .slice x3 y3 z3, .slice x4 y4 z4] 26)) := (Below.refl _ w7).alloc (Nat.le_refl _) _
            have hct := cell_three_w w7 (.int .i64 (nxN ss)) (.slice x3 y3 z3) (.slice x4 y4 z4)
            have hl3 : ∀ j, (Value.slice x3 y3 z3).ownBlock = some j → j < Wd.heap.size := fun j e => (o3.lt j e).2
            have hl4 : ∀ j, (Value.slice x4 y4 z4).ownBlock = some j → j < Wd.heap.size := fun j e => (o4.lt j e).2
            have hkd : k0 < Wd.heap.size := FS.lt
            have FS7 := (FS.below hB7).below hBv
            replace K7 := (K7.below hBv).top hBv.size
            replace o3 := ownsRow_below (ownsRow_below o3 hB7) hBv
            replace o4 := ownsRow_below (ownsRow_below o4 hB7) hBv
            have hb2 : w.heap.size ≤ Wd.heap.size := hBB4.size
            have hB7w := below_one (below_one hBB4 hB7) hBv
            clear hBv hc7 FS hHeld
            generalize w7.alloc (.cells #[.int .i64 (nxN ss), .slice x3 y3 z3, .slice x4 y4 z4] 26) = W7 at *
            generalize w7.heap.size = kt at *
            refine takeC 4 (by kernel_rfl) rfl (fun K hK => ?_)
            refine step_app_own rfl _ _ 56 rfl w.heap.size 26 i0 _ 3 56 Tryz.underlying56 hi hz0 hz1 hz2 rfl (by decide) _ ss.length xs7 rfl (Go.Joins.ownsRow_le K7.row hb2) ⟨kt, 0, none⟩ 1 1 [.int .i64 (nxN ss), .slice x3 y3 z3, .slice x4 y4 z4] rfl rfl hct (by intro u hu; simp at hu; rcases hu with rfl | rfl | rfl <;> rfl) (by unfold maxLen; omega) (by omega) hB7w.size ?_; intro v8 w8 o8 g8; have FS8 : Three w8 _ _ _ _ _ := kept_apart FS7 g8 (fun k e1 e2 => by have := (K7.row.lt k e2).1; simp [Value.ownBlock] at e1; omega)
            refine hK.out _ _ ?_ (fun hHeld => ?_)
            · exact FS8.c
            clear hK K
            try simp only [Act.put, List.setIfInBounds_toArray, List.set_cons_zero, List.set_cons_succ]
            refine takeW 5 (v := ?v14) rfl (by kernel_rfl) (by kernel_rfl) (by kernel_rfl) (fun _ _ _ h => h) (by rfl) (by assumption) ?hy14 ?rest14
            case hy14 => intro w' hSw; (try dsimp only at hSw); go_simp; try with_reducible rfl
            try simp only [Act.put, List.setIfInBounds_toArray, List.set_cons_zero, List.set_cons_succ]
            refine wpAnyH_done (by kernel_rfl) ?_ _
            obtain ⟨xs8, vp8, vr8, K8⟩ := K7.put (s := nwS ss rs zs) hb2 o3 o4 hl3 hl4 o8 g8
            have hB8 := hB7w.grown g8 hB7w.size (fun k e => by have := (K7.row.lt k e).1; omega)
            clear hHeld FS8 FS7 K7 o8 g8
            rcases row_form K8.row with ⟨_, h'⟩ | ⟨g8, c8, rfl, _, hc8⟩
            · exact absurd h' (by omega)
            have hlw : ((ss ++ [nwS ss rs zs]).length : Nat) = ss.length + 1 := by simp
            by_cases h20 : ss.length = 20
            · have HX := hid (puX_many HT.out h20)
              have d20 : decide ((20 : Int) < ((ss.length : Int) + 1)) = true := by simp; omega
              have hb1 : (1 : Int) ≤ (ss.length : Int) + 1 := by omega
              have hb2 : (ss.length : Int) + 1 ≤ (c8 : Int) := by omega
              have hb3 : ¬ (c8 = 1) := by omega
              have hb4 : ((ss.length : Int) + 1).toNat = ss.length + 1 := by omega
              clear h20
              go_wp2_with fail
              go_ret2
              refine ⟨_, by rw [HT.out]; rfl, ?_, hB8⟩
              rw [HX.out]
              exact .inr ⟨g8, ss.length + 1, c8, ss ++ [nwS ss rs zs], ⟨_, _, _, by rw [hlw]; exact K8⟩, by omega, by omega, by rw [hlw]; simp, rfl⟩
            · have HX := hid (puX_few HT.out (by omega))
              have d20 : decide ((20 : Int) < ((ss.length : Int) + 1)) = false := by simp; omega
              clear h20
              go_wp2_with fail
              go_ret2
              refine ⟨_, by rw [HT.out]; rfl, ?_, hB8⟩
              rw [HX.out]
              exact .inl ⟨_, _, _, by rw [hlw]; exact K8⟩
          · go_simp
            skip
            refine hK.out _ _ ?_ (fun hHeld => ?_)
            · first | go_keep | exact FS.c
            clear hK K
            try simp only [Act.put, List.setIfInBounds_toArray, List.set_cons_zero, List.set_cons_succ]
            have hBv : Below Wd.heap.size Wd (Wd.alloc (.cells #[.int .i64 (nxN ss), .slice x3 y3 z3, .slice x4 y4 z4] 26)) := (Below.refl _ Wd).alloc (Nat.le_refl _) _
            have hct := cell_three_w Wd (.int .i64 (nxN ss)) (.slice x3 y3 z3) (.slice x4 y4 z4)
            have hkt : Wd.heap.size < (Wd.alloc (.cells #[.int .i64 (nxN ss), .slice x3 y3 z3, .slice x4 y4 z4] 26)).heap.size := by simp
            replace FS := FS.below hBv
            replace o3 := ownsRow_below o3 hBv
            replace o4 := ownsRow_below o4 hBv
            replace hBB4 := below_one hBB4 hBv
            replace hrD := hrD.below hBv
            clear hBv
            generalize Wd.alloc (.cells #[.int .i64 (nxN ss), .slice x3 y3 z3, .slice x4 y4 z4] 26) = Wa at *
            generalize Wd.heap.size = kt at *
            refine takeC 1 (by kernel_rfl) rfl (fun K hK => ?_)
            go_simp
            refine (l5OwnAll_any _ ss _ hm hrD).mono ?_; rintro e w7 ⟨v7, rfl, O7, hB7⟩; have hc7 := fun o => hB7.cell (p := ⟨k0, o, none⟩) (by exact FS.lt)
            refine hK.out _ _ ?_ (fun hHeld => ?_)
            · first | go_keep | exact FS.c
            clear hK K
            try simp only [Act.put, List.setIfInBounds_toArray, List.set_cons_zero, List.set_cons_succ]
            obtain ⟨xs7, vp7, vr7, K7⟩ := O7
            obtain ⟨s7, t7, r7, rfl⟩ := row_slice K7.row
            have hct7 : ∀ j u, [Value.int .i64 (nxN ss), .slice x3 y3 z3, .slice x4 y4 z4][j]? = some u → w7.cell? ((⟨kt, 0, none⟩ : Addr).add j) = some u := fun j u hu => by have := hct j u hu; rw [Addr.add_lit] at this ⊢; exact (hB7.cell (p := ⟨kt, 0 + j, none⟩) hkt).trans this
            have hl3 : ∀ j, (Value.slice x3 y3 z3).ownBlock = some j → j < Wa.heap.size := fun j e => (o3.lt j e).2
            have hl4 : ∀ j, (Value.slice x4 y4 z4).ownBlock = some j → j < Wa.heap.size := fun j e => (o4.lt j e).2
            have hkd : k0 < Wa.heap.size := FS.lt
            have FS7 := FS.below hB7
            replace o3 := ownsRow_below o3 hB7
            replace o4 := ownsRow_below o4 hB7
            have hb2 : w.heap.size ≤ Wa.heap.size := hBB4.size
            have hB7w := below_one hBB4 hB7
            clear hc7 FS hHeld hct
            refine takeC 4 (by kernel_rfl) rfl (fun K hK => ?_)
            refine step_app_own rfl _ _ 56 rfl w.heap.size 26 i0 _ 3 56 Tryz.underlying56 hi hz0 hz1 hz2 rfl (by decide) _ ss.length xs7 rfl (Go.Joins.ownsRow_le K7.row hb2) ⟨kt, 0, none⟩ 1 1 [.int .i64 (nxN ss), .slice x3 y3 z3, .slice x4 y4 z4] rfl rfl hct7 (by intro u hu; simp at hu; rcases hu with rfl | rfl | rfl <;> rfl) (by unfold maxLen; omega) (by omega) hB7w.size ?_; intro v8 w8 o8 g8; have FS8 : Three w8 _ _ _ _ _ := kept_apart FS7 g8 (fun k e1 e2 => by have := (K7.row.lt k e2).1; simp [Value.ownBlock] at e1; omega)
            refine hK.out _ _ ?_ (fun hHeld => ?_)
            · exact FS8.c
            clear hK K
            try simp only [Act.put, List.setIfInBounds_toArray, List.set_cons_zero, List.set_cons_succ]
            refine takeW 5 (v := ?v15) rfl (by kernel_rfl) (by kernel_rfl) (by kernel_rfl) (fun _ _ _ h => h) (by rfl) (by assumption) ?hy15 ?rest15
            case hy15 => intro w' hSw; (try dsimp only at hSw); go_simp; try with_reducible rfl
            try simp only [Act.put, List.setIfInBounds_toArray, List.set_cons_zero, List.set_cons_succ]
            refine wpAnyH_done (by kernel_rfl) ?_ _
            obtain ⟨xs8, vp8, vr8, K8⟩ := K7.put (s := nwS ss rs zs) hb2 o3 o4 hl3 hl4 o8 g8
            have hB8 := hB7w.grown g8 hB7w.size (fun k e => by have := (K7.row.lt k e).1; omega)
            clear hHeld FS8 FS7 K7 o8 g8
            rcases row_form K8.row with ⟨_, h'⟩ | ⟨g8, c8, rfl, _, hc8⟩
            · exact absurd h' (by omega)
            have hlw : ((ss ++ [nwS ss rs zs]).length : Nat) = ss.length + 1 := by simp
            by_cases h20 : ss.length = 20
            · have HX := hid (puX_many HT.out h20)
              have d20 : decide ((20 : Int) < ((ss.length : Int) + 1)) = true := by simp; omega
              have hb1 : (1 : Int) ≤ (ss.length : Int) + 1 := by omega
              have hb2 : (ss.length : Int) + 1 ≤ (c8 : Int) := by omega
              have hb3 : ¬ (c8 = 1) := by omega
              have hb4 : ((ss.length : Int) + 1).toNat = ss.length + 1 := by omega
              clear h20
              go_wp2_with fail
              go_ret2
              refine ⟨_, by rw [HT.out]; rfl, ?_, hB8⟩
              rw [HX.out]
              exact .inr ⟨g8, ss.length + 1, c8, ss ++ [nwS ss rs zs], ⟨_, _, _, by rw [hlw]; exact K8⟩, by omega, by omega, by rw [hlw]; simp, rfl⟩
            · have HX := hid (puX_few HT.out (by omega))
              have d20 : decide ((20 : Int) < ((ss.length : Int) + 1)) = false := by simp; omega
              clear h20
              go_wp2_with fail
              go_ret2
              refine ⟨_, by rw [HT.out]; rfl, ?_, hB8⟩
              rw [HX.out]
              exact .inl ⟨_, _, _, by rw [hlw]; exact K8⟩
  · have HT := hid (puB_no3 (ss := ss) (rs := rs) (fewB_no1 h200))
    have HX := hid (puX_no HT.out)
    have d2 : decide ((200 : Int) < (zs.length : Int)) = true := by simp; omega
    go_wp2_with fail
    go_ret2
    exact ⟨_, by rw [HT.out]; rfl, by rw [HX.out]; exact .inl (SsO.none _ _ _), hBB⟩

end Go.Proofs.YtoaeckcenobfcaaGreat

namespace Go.Proofs.YtoaeckcenobfcaaGreat
open Go.RowKit Go.Shelf

theorem pu_short2 {ss : List Sn} {rs : List Ru} {zs : List Int} (h : shortS ss) (hf : ∀ r ∈ rs, r.size ≤ 1048576) : shortS (puX ss rs zs) ∧ (puX ss rs zs).length ≤ 20 := by
  unfold puX
  split
  · rename_i hb
    have hb' := hb
    unfold puB lsB at hb'
    simp only [Bool.and_eq_true, decide_eq_true_eq] at hb'
    refine ⟨⟨by simp; omega, fun s hs => ?_⟩, by simp; omega⟩
    have hs' := List.mem_of_mem_drop hs
    rw [List.mem_append, List.mem_singleton] at hs'
    rcases hs' with hs' | rfl
    · exact h.2 s hs'
    · exact nwS_short hb'.1.2.1 hb'.1.2.2 hf
  · exact ⟨⟨by simp, fun s hs => by cases hs⟩, by simp⟩
theorem SsT.r {w : World} {base top : Nat} {v : Value} {ss : List Sn} (h : SsT w base top v ss) : SsR w v ss := by
  rcases h with h | ⟨g, n, cap, ss', h, h1, h2, rfl, rfl⟩
  · exact h.r
  · have hr := h.r
    obtain ⟨a, c, hv⟩ := hr.len
    cases hv
    have := SsR.drop hr (k := 1) (c' := cap - 1) h1 (by omega)
    simpa using this
theorem sso_sn {w : World} {base top : Nat} {v : Value} {ss : List Sn} (h : SsO w base top v ss) {i : Nat} (hi : i < ss.length) : ∃ g cap vp vr, v = .slice (some ⟨g, 0, none⟩) ss.length cap ∧ base ≤ g ∧ g < w.heap.size ∧ ss.length ≤ cap ∧ w.cell? ⟨g, i * 3, none⟩ = some (.int .i64 ss[i].num) ∧ w.cell? ⟨g, i * 3 + 1, none⟩ = some vp ∧ w.cell? ⟨g, i * 3 + 2, none⟩ = some vr ∧ SnO w base top (.agg #[.int .i64 ss[i].num, vp, vr]) ss[i] := by
  obtain ⟨xs, vp, vr, h⟩ := h
  rcases row_form h.row with ⟨_, hz⟩ | ⟨g, cap', hv, hg, hcap⟩
  · omega
  · subst hv
    have hc := h.cs i hi hi
    have c0 := h.row.cellAt (i * 3) (by omega)
    have c1 := h.row.cellAt (i * 3 + 1) (by omega)
    have c2 := h.row.cellAt (i * 3 + 2) (by omega)
    rw [hc.1] at c0
    rw [hc.2.1] at c1
    rw [hc.2.2] at c2
    exact ⟨g, cap', vp i, vr i, rfl, hg, (h.row.lt g rfl).2, hcap, c0, c1, c2, _, _, rfl, h.pol i hi hi, h.num i hi hi, h.plt i hi hi, h.nlt i hi hi⟩
/-- A version of the list. -/
theorem SsT.sn {w : World} {base top : Nat} {a : Option Addr} {m cap : Nat} {ss : List Sn} (h : SsT w base top (.slice a m cap) ss) {i : Nat} (hi : i < ss.length) : ∃ g off ap cp ar cr, a = some ⟨g, off, none⟩ ∧ base ≤ g ∧ g < w.heap.size ∧ m ≤ cap ∧ w.cell? ⟨g, off + i * 3, none⟩ = some (.int .i64 ss[i].num) ∧ w.cell? ⟨g, off + i * 3 + 1, none⟩ = some (.slice ap ss[i].pol.length cp) ∧ w.cell? ⟨g, off + i * 3 + 2, none⟩ = some (.slice ar ss[i].rv.length cr) ∧ SnO w base top (.agg #[.int .i64 ss[i].num, .slice ap ss[i].pol.length cp, .slice ar ss[i].rv.length cr]) ss[i] := by
  rcases h with h | ⟨g, n', cap', ss', h, h1, h2, hv, rfl⟩
  · obtain ⟨g, cap', vp, vr, hv, hg, hlt, hcap, c0, c1, c2, hs⟩ := sso_sn h hi
    cases hv
    obtain ⟨ap, cp, ar, cr, he⟩ := sn_forms hs.a
    simp only [Value.agg.injEq, Array.mk.injEq, List.cons.injEq, and_true, true_and] at he
    obtain ⟨rfl, rfl⟩ := he
    exact ⟨g, 0, ap, cp, ar, cr, rfl, hg, hlt, hcap, by rw [Nat.zero_add]; exact c0, by rw [Nat.zero_add]; exact c1, by rw [Nat.zero_add]; exact c2, hs⟩
  · simp only [Value.slice.injEq] at hv
    obtain ⟨rfl, rfl, rfl⟩ := hv
    have hi' : 1 + i < ss'.length := by rw [List.length_drop] at hi; omega
    obtain ⟨g', cap2, vp, vr, hv, hg, hlt, hcap, c0, c1, c2, hs⟩ := sso_sn h hi'
    cases hv
    obtain ⟨ap, cp, ar, cr, he⟩ := sn_forms hs.a
    simp only [Value.agg.injEq, Array.mk.injEq, List.cons.injEq, and_true, true_and] at he
    obtain ⟨rfl, rfl⟩ := he
    have e : (ss'.drop 1)[i] = ss'[1 + i] := List.getElem_drop
    rw [e]
    exact ⟨g, 3, ap, cp, ar, cr, rfl, hg, hlt, by omega, by rw [show 3 + i * 3 = (1 + i) * 3 by omega]; exact c0, by rw [show 3 + i * 3 = (1 + i) * 3 by omega]; exact c1, by rw [show 3 + i * 3 = (1 + i) * 3 by omega]; exact c2, hs⟩
/-- A list of versions is being drawn, with a policy and numbers beside it. -/
structure VD (w : World) (b : Nat) (a : Option Addr) (n c : Nat) (wr : World) (lv pv zv : Value) (ss : List Sn) (rs : List Ru) (zs : List Int) (bl tl q : Nat) : Prop where
  lst : SsT wr bl tl lv ss
  pol : wr.ownsRow w.heap.size 41 4 pv rs.length (rs.flatMap Ru.cells)
  num : wr.ownsRow w.heap.size 3 1 zv zs.length (nums zs)
  pap : ∀ k, pv.ownBlock = some k → k < bl ∨ tl ≤ k
  zap : ∀ k, zv.ownBlock = some k → k < bl ∨ tl ≤ k
  lo : w.heap.size ≤ bl
  hi : tl ≤ wr.heap.size
  small : ∀ r ∈ rs, r.size ≤ 300
  sh : shortS ss
  len : ss.length ≤ 20
  by_ : ByS wr a n
  cur : CurB wr b a n c q
  gr : w.grownBy wr (some b)
theorem VD.grown {w wr w' : World} {b : Nat} {a : Option Addr} {n c q q' bl tl : Nat} {lv pv zv : Value} {ss : List Sn} {rs : List Ru} {zs : List Int} (h : VD w b a n c wr lv pv zv ss rs zs bl tl q) (hb : b < w.heap.size) (hg : wr.grownBy w' (some b)) (hB : ByS w' a n) (hC : CurB w' b a n c q') : VD w b a n c w' lv pv zv ss rs zs bl tl q' :=
  ⟨(Mid.of_grown (lo := b) (hi := b + 1) hg (fun k hk => by cases hk; omega)).sst h.lst (.inl (by have := h.lo; omega)),
   kept_apart (v2 := .slice (some ⟨b, 0, none⟩) 0 0) h.pol hg (fun k h1 h2 => by have := (h.pol.lt k h1).1; have h3 : some b = some k := h2; have := Option.some.inj h3; omega),
   kept_apart (v2 := .slice (some ⟨b, 0, none⟩) 0 0) h.num hg (fun k h1 h2 => by have := (h.num.lt k h1).1; have h3 : some b = some k := h2; have := Option.some.inj h3; omega),
   h.pap, h.zap, h.lo, Nat.le_trans h.hi hg.size, h.small, h.sh, h.len, hB, hC, g2 h.gr hg⟩
theorem VD.below {w wr w' : World} {b : Nat} {a : Option Addr} {n c q bl tl : Nat} {lv pv zv : Value} {ss : List Sn} {rs : List Ru} {zs : List Int} (h : VD w b a n c wr lv pv zv ss rs zs bl tl q) (hB : Below wr.heap.size wr w') : VD w b a n c w' lv pv zv ss rs zs bl tl q :=
  ⟨h.lst.below hB, ownsRow_below h.pol hB, ownsRow_below h.num hB, h.pap, h.zap, h.lo, Nat.le_trans h.hi hB.size, h.small, h.sh, h.len, h.by_.below hB, h.cur.below hB, gB h.gr hB⟩
theorem grown_low {w wr w' : World} {v : Value} {base : Nat} {e : TypeId} {size n : Nat} {xs : List Value} (hrow : wr.ownsRow base e size v n xs) (hb : w.heap.size ≤ base) (hs : w.heap.size ≤ wr.heap.size) (hg : wr.grownBy w' v.ownBlock) : Below w.heap.size wr w' :=
  (Below.refl _ wr).grown hg hs (fun k hk => Nat.le_trans hb (hrow.lt k hk).1)
theorem sst_grown {wr w' : World} {v lv : Value} {ss : List Sn} {bl tl : Nat} (h : SsT wr bl tl lv ss) (hap : ∀ k, v.ownBlock = some k → k < bl ∨ tl ≤ k) (hg : wr.grownBy w' v.ownBlock) : SsT w' bl tl lv ss := by
  cases hv : v.ownBlock with
  | none =>
    rw [hv] at hg
    exact (Mid.of_grown (lo := 0) (hi := 0) hg (fun k hk => by cases hk)).sst h (.inl (Nat.zero_le _))
  | some k =>
    rw [hv] at hg
    have := hap k hv
    refine (Mid.of_grown (lo := k) (hi := k + 1) hg (fun j hj => by cases hj; omega)).sst h ?_
    omega
/-- The policy grows. -/
theorem VD.polApp {w wr wa w' : World} {b : Nat} {a : Option Addr} {n c q bl tl : Nat} {lv pv pv' zv : Value} {ss : List Sn} {rs rs' : List Ru} {zs : List Int} (h : VD w b a n c wr lv pv zv ss rs zs bl tl q) (hb : b < w.heap.size) (hA : Below wr.heap.size wr wa) (hg : wa.grownBy w' pv.ownBlock)
    (hown : w'.ownsRow w.heap.size 41 4 pv' rs'.length (rs'.flatMap Ru.cells)) (hat : pv'.ownBlock = pv.ownBlock ∨ pv'.ownBlock = some wa.heap.size) (hs : ∀ r ∈ rs', r.size ≤ 300) : VD w b a n c w' lv pv' zv ss rs' zs bl tl q := by
  have ha := h.below hA
  have hL := grown_low ha.pol (Nat.le_refl _) ha.gr.size hg
  refine ⟨sst_grown ha.lst ha.pap hg, hown, kept_apart ha.num hg (row_apart ha.num ha.pol tyRN.symm), fun k hk => ?_, ha.zap, ha.lo, Nat.le_trans ha.hi hg.size, hs, ha.sh, ha.len, ha.by_.belowN hL (fun p hp => Nat.lt_trans (ha.cur.apart p hp) hb), ha.cur.belowN hL hb, gBN ha.gr hL⟩
  rcases hat with e | e
  · exact ha.pap k (by rw [← e]; exact hk)
  · rw [e] at hk
    cases hk
    exact .inr ha.hi
/-- The numbers grow. -/
theorem VD.numApp {w wr wa w' : World} {b : Nat} {a : Option Addr} {n c q bl tl : Nat} {lv pv zv zv' : Value} {ss : List Sn} {rs : List Ru} {zs zs' : List Int} (h : VD w b a n c wr lv pv zv ss rs zs bl tl q) (hb : b < w.heap.size) (hA : Below wr.heap.size wr wa) (hg : wa.grownBy w' zv.ownBlock)
    (hown : w'.ownsRow w.heap.size 3 1 zv' zs'.length (nums zs')) (hat : zv'.ownBlock = zv.ownBlock ∨ zv'.ownBlock = some wa.heap.size) : VD w b a n c w' lv pv zv' ss rs zs' bl tl q := by
  have ha := h.below hA
  have hL := grown_low ha.num (Nat.le_refl _) ha.gr.size hg
  refine ⟨sst_grown ha.lst ha.zap hg, kept_apart ha.pol hg (row_apart ha.pol ha.num tyRN), hown, ha.pap, fun k hk => ?_, ha.lo, Nat.le_trans ha.hi hg.size, ha.small, ha.sh, ha.len, ha.by_.belowN hL (fun p hp => Nat.lt_trans (ha.cur.apart p hp) hb), ha.cur.belowN hL hb, gBN ha.gr hL⟩
  rcases hat with e | e
  · exact ha.zap k (by rw [← e]; exact hk)
  · rw [e] at hk
    cases hk
    exact .inr ha.hi
/-- A policy that was drawn anew. -/
theorem VD.polNew {w wr w' : World} {b : Nat} {a : Option Addr} {n c q q' bl tl : Nat} {lv pv pv' zv : Value} {ss : List Sn} {rs rs' : List Ru} {zs : List Int} (h : VD w b a n c wr lv pv zv ss rs zs bl tl q) (hb : b < w.heap.size) (hP : PS wr b a n c w' pv' rs' q') : VD w b a n c w' lv pv' zv ss rs' zs bl tl q' := by
  have h2 := h.grown hb hP.gr hP.by_ hP.cur
  exact ⟨h2.lst, Go.Joins.ownsRow_le hP.row h.gr.size, h2.num, fun k hk => .inr (Nat.le_trans h.hi (hP.row.lt k hk).1), h2.zap, h2.lo, h2.hi, hP.small, h2.sh, h2.len, h2.by_, h2.cur, h2.gr⟩
theorem VD.polNil {w wr : World} {b : Nat} {a : Option Addr} {n c q bl tl : Nat} {lv pv zv : Value} {ss : List Sn} {rs : List Ru} {zs : List Int} (h : VD w b a n c wr lv pv zv ss rs zs bl tl q) : VD w b a n c wr lv (.slice none 0 0) zv ss [] zs bl tl q :=
  ⟨h.lst, World.ownsRow_nil _ _ _ _, h.num, (fun k hk => by cases hk), h.zap, h.lo, h.hi, (fun r hr => by cases hr), h.sh, h.len, h.by_, h.cur, h.gr⟩
/-- A version was put behind. -/
theorem VD.put {w wr w' : World} {b : Nat} {a : Option Addr} {n c q bl tl : Nat} {lv lv' pv zv : Value} {ss ss' : List Sn} {rs : List Ru} {zs : List Int} (h : VD w b a n c wr lv pv zv ss rs zs bl tl q) (hB : Below wr.heap.size wr w') (hT : SsT w' wr.heap.size w'.heap.size lv' ss') (hs : shortS ss') (hl : ss'.length ≤ 20) : VD w b a n c w' lv' pv zv ss' rs zs wr.heap.size w'.heap.size q := by
  have h2 := h.below hB
  exact ⟨hT, h2.pol, h2.num, fun k hk => .inl (h.pol.lt k hk).2, fun k hk => .inl (h.num.lt k hk).2, h.gr.size, Nat.le_refl _, h2.small, hs, hl, h2.by_, h2.cur, h2.gr⟩

/-- append(v, u...), both rows of one's own; where the new row lies. -/
theorem wpList_append_row_at {P : Program} {w : World} {ops : Array Oper} {rest : List Oper} {o : Oper} {a : Act} {Q : Exit → Act → World → Prop} (hgd : o.guard = none) (s x : Operand) (t : TypeId)
    (ho : o.op = .call { callee := .builtin .append, args := #[s, x], argTypes := #[t, t] })
    (base b2 : Nat) (e : TypeId) (i : TypeInfo) (z : Value) (size bytes : Nat) (ht : P.underlying t = some (.slice e)) (hi : P.info? e = some i) (hz : i.zero = some z)
    (hsize : i.size = size) (hby : i.bytes = bytes) (hzs : z.cells.size = size) (hsz : 0 < size)
    (v u : Value) (n m : Nat) (xs ys : List Value) (hs : a.eval s = v) (hown : w.ownsRow base e size v n xs) (hx : a.eval x = u) (hsrc : w.ownsRow b2 e size u m ys) (h1 : ∀ y ∈ ys, y.oneCell' = true)
    (h63 : n + m ≤ maxLen) (hbytes : (n + m) * bytes ≤ 140737488355328) (hbase : base ≤ w.heap.size)
    (h : ∀ v' w', w'.ownsRow base e size v' (n + m) (xs ++ ys) → w.grownBy w' v.ownBlock → (v'.ownBlock = v.ownBlock ∨ v'.ownBlock = some w.heap.size) → wpList P ops Q rest (a.put o.dst v') w') : wpList P ops Q (o :: rest) a w := by
  rcases row_form hsrc with ⟨rfl, rfl⟩ | ⟨g, cap, rfl, _, _⟩
  · have hy : ys = [] := List.eq_nil_of_length_eq_zero (by have := hsrc.1; omega)
    subst hy
    exact wpList_append_own_none hgd s x t ho base e i size ht hi v n xs hs hown hx (h v w (by simpa using hown) (grown_self _ _) (.inl rfl))
  · exact wpList_append_own_at _ hgd s x t ho base e i z size bytes ht hi hz hsize hby hzs hsz v n xs hs hown ⟨g, 0, none⟩ m cap ys hx hsrc.1 (fun j y hj => hsrc.cells (g := g) rfl j y hj) h1 h63 hbytes hbase (fun v' w' h1 h2 _ h4 => h v' w' h1 h2 h4)
theorem num_ones {zs : List Int} : ∀ y ∈ nums zs, y.oneCell' = true := by
  intro y hy
  unfold nums at hy
  obtain ⟨z, _, rfl⟩ := List.mem_map.1 hy
  rfl
theorem nums_app (a b : List Int) : nums (a ++ b) = nums a ++ nums b := by simp [nums]
/-- The first version's number may be set. -/
theorem SsT.set0 {w : World} {bl tl : Nat} {a : Option Addr} {m cap : Nat} {ss : List Sn} (h : SsT w bl tl (.slice a m cap) ss) (h0 : 0 < ss.length) : ∃ g off, a = some ⟨g, off, none⟩ ∧ bl ≤ g ∧ g < w.heap.size ∧ w.frozen? ⟨g, off, none⟩ = false ∧ (∃ u, w.cell? ⟨g, off, none⟩ = some u) ∧ ∀ z : Int, SsT (w.setCell ⟨g, off, none⟩ (.int .i64 z)) bl tl (.slice a m cap) (ss.set 0 ⟨z, ss[0].pol, ss[0].rv⟩) := by
  rcases h with ⟨xs, vp, vr, h⟩ | ⟨g, n', cap', ss', ⟨xs, vp, vr, h⟩, h1, h2, hv, rfl⟩
  · rcases row_form h.row with ⟨_, hz⟩ | ⟨g, cap', hv, hg, _⟩
    · omega
    · cases hv
      have hc := h.row.cellAt (0 * 3) (by omega)
      rw [(h.cs 0 h0 h0).1] at hc
      rw [Nat.zero_mul] at hc
      refine ⟨g, 0, rfl, hg, (h.row.lt g rfl).2, by have := h.row.frozenAt (0 * 3); rwa [Nat.zero_mul] at this, ⟨_, hc⟩, fun z => .inl ?_⟩
      have hs := h.setNum rfl h0 z
      rw [Nat.zero_mul] at hs
      have hl : (ss.set 0 ⟨z, ss[0].pol, ss[0].rv⟩).length = ss.length := List.length_set
      exact ⟨_, _, _, by rw [hl]; exact hs⟩
  · simp only [Value.slice.injEq] at hv
    obtain ⟨rfl, rfl, rfl⟩ := hv
    have hn' : n' = ss'.length := by
      rcases row_form h.row with ⟨hv, _⟩ | ⟨_, _, hv, _, _⟩
      · cases hv
      · cases hv
        rfl
    subst hn'
    have h2' : 2 ≤ ss'.length := by rw [List.length_drop] at h0; omega
    have hj : 1 < ss'.length := h2'
    have hc := h.row.cellAt (1 * 3) (by omega)
    rw [(h.cs 1 hj hj).1] at hc
    refine ⟨g, 3, rfl, (h.row.lt g rfl).1, (h.row.lt g rfl).2, h.row.frozenAt (1 * 3), ⟨_, hc⟩, fun z => .inr ?_⟩
    have hs := h.setNum rfl hj z
    have hl : (ss'.set 1 ⟨z, ss'[1].pol, ss'[1].rv⟩).length = ss'.length := List.length_set
    have e : (ss'.set 1 ⟨z, ss'[1].pol, ss'[1].rv⟩).drop 1 = (ss'.drop 1).set 0 ⟨z, (ss'.drop 1)[0].pol, (ss'.drop 1)[0].rv⟩ := by
      rw [List.drop_set]
      simp
    exact ⟨g, ss'.length, cap', ss'.set 1 ⟨z, ss'[1].pol, ss'[1].rv⟩, ⟨_, _, _, by rw [hl]; exact hs⟩, by rw [hl]; omega, by rw [hl]; omega, by rw [hl], e.symm⟩

set_option maxHeartbeats 8000000 in
set_option maxRecDepth 100000 in
theorem drawSnaps_any (b : Nat) (a : Option Addr) (n c k : Nat) (w : World) (hB : ByS w a n) (hC : CurB w b a n c k) (hk : k ≤ 1000) :
    Calls Tryz.prog 16 #[.pointer (some ⟨b, 0, none⟩)] w fun e w' => ∃ (v : Value) (ss : List Sn) (q : Nat), e = .returned v ∧ ss.length ≤ 20 ∧ shortS ss ∧ q ≤ k + 90000 ∧ (∃ bl tl, w.heap.size ≤ bl ∧ SsT w' bl tl v ss) ∧ ByS w' a n ∧ CurB w' b a n c q ∧ w.grownBy w' (some b) := by
  obtain ⟨ir, hir, hr0, hr1, hr2⟩ := info_parts infoRule
  obtain ⟨ii, hii, hi0, hi1, hi2⟩ := info_parts infoInt
  have hbl := hC.lt
  go_enter Tryz.func16, Tryz.ntmps16
  go_wp2_with fail
  refine (pick_any b a n c k 6 w (by omega) (by omega) hB hC (by omega)).mono ?_
  rintro e w1 ⟨p1, hp1, rfl, hC1, hg1⟩
  have hB1 := curB_grown hB hC.apart hC.lt hg1
  clear hB hC
  go_wp2_with fail
  refine (one_any b a n c (k + 1) 20 w1 (by omega) (by omega) hB1 hC1 (by omega)).mono ?_
  rintro e w2 ⟨o1, rfl, hC2, hg2⟩
  have hB2 := curB_grown hB1 hC1.apart hC1.lt hg2
  have hG2 := g2 hg1 hg2
  clear hB1 hC1 hg1 hg2
  have hK0 : VD w b a n c w2 (.slice none 0 0) (.slice none 0 0) (.slice none 0 0) [] [] [] w.heap.size w.heap.size (k + 1 + 1) :=
    ⟨.inl (SsO.none _ _ _), World.ownsRow_nil _ _ _ _, World.ownsRow_nil _ _ _ _, (fun k hk => by cases hk), (fun k hk => by cases hk), Nat.le_refl _, hG2.size, (fun r hr => by cases hr), ⟨by simp, fun s hs => by cases hs⟩, by simp, hB2, hC2, hG2⟩
  clear hB2 hC2 hG2
  go_upto_if 12 with fail
  go_cut [6] (fun s6 wx => w2 = wx ∧ ∃ N : Nat, N ≤ 22 ∧ s6 = .int .i64 (N : Int))
  case first =>
    cases o1
    · go_wp2
      go_meet
      exact ⟨rfl, p1, by omega, rfl⟩
    · go_wp2
      go_meet
      exact ⟨rfl, 22, by omega, rfl⟩
  case rest =>
  obtain ⟨rfl, N, hN, rfl⟩ := hcut
  go_wp2_with fail
  go_loopw [3, 4, 5, 6] (fun sl sp sz nv wr => ∃ (lv pv zv : Value) (ss : List Sn) (rs : List Ru) (zs : List Int) (bl tl j q : Nat), lv = sl ∧ pv = sp ∧ zv = sz ∧ nv = .int .i64 j ∧ j ≤ 22 ∧ rs.length + j ≤ 86 ∧ zs.length + 4 * j ≤ 88 ∧ q + 3500 * j ≤ k + 78000 ∧ VD w b a n c wr lv pv zv ss rs zs bl tl q) (fun _ _ _ nv _ => (intOf nv).toNat)
  case atStart => exact ⟨_, _, _, _, _, _, _, _, N, _, rfl, rfl, rfl, rfl, by omega, by simp; omega, by simp; omega, by omega, hK0⟩
  case round =>
    obtain ⟨lv, pv, zv, ss, rs, zs, bl, tl, j, q, rfl, rfl, rfl, rfl, hj, hrl, hzl, hq, hK⟩ := hrel
    clear hK0
    obtain ⟨al, cl, rfl⟩ := hK.lst.r.len
    obtain ⟨ap, cp, rfl⟩ := ownsRow_len hK.pol
    obtain ⟨az, cz, rfl⟩ := ownsRow_len hK.num
    by_cases hjz : 0 < j
    · have d0 : decide ((j : Int) > 0) = true := by simp; omega
      go_wp2_with fail
      refine (drawRule_any b a n c q wr hK.by_ hK.cur (by omega)).mono ?_
      rintro e u1 ⟨r, hr, rfl, hB1, ⟨q1, hq1, hC1⟩, hg1⟩
      have hK1 := hK.grown hbl hg1 hB1 hC1
      clear hK hB1 hC1 hg1
      have hsz1 := hK1.gr.size
      go_wp2_with (at_builtin; refine wpList_append_own_at _ rfl _ _ 23 rfl w.heap.size 41 ir _ 4 56 Tryz.underlying23 hir hr0 hr1 hr2 rfl (by decide) _ _ _ rfl (hK1.pol.alloc _) ⟨u1.heap.size, 0, none⟩ 1 1 r.cells rfl rfl (cell_four_q u1 r) (by intro u hu; simp at hu; rcases hu with rfl | rfl | rfl | rfl <;> rfl) (by unfold maxLen; omega) (by omega) (by simp; omega) ?_; intro pv2 u2 hown2 hg2 _ hat2)
      have hK2 : VD w b a n c u2 _ pv2 _ ss (rs ++ [r]) zs bl tl q1 := hK1.polApp hbl ((Below.refl _ u1).alloc (Nat.le_refl _) _) hg2 (by simpa using hown2) hat2 (fun x hx => by
        rw [List.mem_append, List.mem_singleton] at hx
        rcases hx with hx | rfl
        · exact hK1.small x hx
        · exact hr)
      have hrl2 : (rs ++ [r]).length + j ≤ 87 := by simp; omega
      clear hK1 hg2 hat2
      generalize rs ++ [r] = rs2 at *
      obtain ⟨ap2, cp2, rfl⟩ := ownsRow_len hown2
      clear hown2
      go_wp2_with fail
      refine (one_any b a n c q1 3 u2 (by omega) (by omega) hK2.by_ hK2.cur (by omega)).mono ?_
      rintro e u3 ⟨o2, rfl, hC3, hg3⟩
      have hK3 := hK2.grown hbl hg3 (curB_grown hK2.by_ hK2.cur.apart hK2.cur.lt hg3) hC3
      clear hK2 hC3 hg3
      go_upto_if 23 with fail
      go_cut [4] (fun s4 wx => ∃ (pv3 : Value) (rs3 : List Ru) (q3 : Nat), pv3 = s4 ∧ rs3.length + j ≤ 87 ∧ q3 ≤ q + 3200 ∧ VD w b a n c wx (.slice al ss.length cl) pv3 (.slice az zs.length cz) ss rs3 zs bl tl q3)
      case first =>
        cases o2
        · go_wp2
          go_meet
          exact ⟨_, rs2, _, rfl, hrl2, by omega, hK3⟩
        · go_wp2_with fail
          refine (drawPolicy_any b a n c (q1 + 1) u3 hK3.by_ hK3.cur (by omega)).mono ?_
          rintro e u4 ⟨pv4, rs4, q4, rfl, hl4, hq4, hP⟩
          have hK4 := hK3.polNew hbl hP
          obtain ⟨ap4, cp4, rfl⟩ := ownsRow_len hP.row
          clear hK3 hP
          go_wp2
          go_meet
          exact ⟨_, rs4, q4, rfl, by omega, by omega, hK4⟩
      case rest =>
      obtain ⟨pv3, rs3, q3, rfl, hrl3, hq3, hK4⟩ := hcut
      clear hK3
      obtain ⟨ap3, cp3, rfl⟩ := ownsRow_len hK4.pol
      go_wp2_with fail
      refine (numbers_any b a n c q3 _ hK4.by_ hK4.cur (by omega)).mono ?_
      rintro e u5 ⟨zv5, zs5, q5, rfl, hl5, hq5, hN5⟩
      have hK5 := hK4.grown hbl hN5.gr hN5.by_ hN5.cur
      have hrow5 := hN5.row
      have hsz5 := hK5.gr.size
      clear hK4 hN5
      obtain ⟨a5, c5, rfl⟩ := ownsRow_len hrow5
      go_wp2_with (at_builtin; refine wpList_append_row_at rfl _ _ 24 rfl w.heap.size _ 3 ii _ 1 8 Tryz.underlying24 hii hi0 hi1 hi2 rfl (by decide) _ _ _ _ _ _ rfl hK5.num rfl hrow5 num_ones (by unfold maxLen; omega) (by omega) hsz5 ?_; intro zv6 u6 hown6 hg6 hat6)
      rw [← nums_app] at hown6
      have hK6 := hK5.numApp (zs' := zs ++ zs5) hbl (Below.refl _ _) hg6 (by rw [List.length_append]; exact hown6) hat6
      have hzl6 : (zs ++ zs5).length + 4 * (j - 1) ≤ 88 := by rw [List.length_append]; omega
      clear hK5 hg6 hat6 hrow5
      rw [← List.length_append] at hown6
      generalize zs ++ zs5 = zs6 at *
      obtain ⟨az6, cz6, rfl⟩ := ownsRow_len hown6
      clear hown6
      go_wp2_with fail
      refine (specPut_any _ _ _ ss rs3 zs6 u6 hK6.sh (by omega) (fun r h => by have := hK6.small r h; omega) (by omega) hK6.lst.r (RuR.own hK6.pol) (NuR.own hK6.num)).mono ?_
      rintro e u7 ⟨lv7, rfl, hT7, hB7⟩
      have HS := hid (pu_short2 (ss := ss) (rs := rs3) (zs := zs6) hK6.sh (fun r h => by have := hK6.small r h; omega))
      obtain ⟨a7, c7, rfl⟩ := hT7.r.len
      cases hPB : puB ss rs3 zs6
      · have hK7 := (hK6.below hB7).polNil
        clear hK6 hT7 hB7
        go_wp2_with fail
        go_roundw
        case rel => exact ⟨_, _, _, ss, [], zs6, bl, tl, j - 1, q5, rfl, rfl, rfl, by go_num, by omega, by simp; omega, by omega, by omega, hK7⟩
        case measure => simp [intOf]; omega
      · have hK7 := hK6.put hB7 hT7 HS.out.1 HS.out.2
        clear hK6 hT7
        go_wp2_with fail
        go_roundw
        case rel => exact ⟨_, _, _, puX ss rs3 zs6, rs3, zs6, _, _, j - 1, q5, rfl, rfl, rfl, by go_num, by omega, by omega, by omega, by omega, hK7⟩
        case measure => simp [intOf]; omega
    · obtain rfl : j = 0 := by omega
      have d0 : decide (((0 : Nat) : Int) > 0) = false := by decide
      go_wp2_with fail
      refine (one_any b a n c q 30 wr (by omega) (by omega) hK.by_ hK.cur (by omega)).mono ?_
      rintro e u1 ⟨o3, rfl, hC1, hg1⟩
      have hK1 := hK.grown hbl hg1 (curB_grown hK.by_ hK.cur.apart hK.cur.lt hg1) hC1
      clear hK hC1 hg1
      cases o3
      · go_wp2_with fail
        go_ret
        exact ⟨_, ss, _, rfl, hK1.len, hK1.sh, by omega, ⟨bl, tl, hK1.lo, hK1.lst⟩, hK1.by_, hK1.cur, hK1.gr⟩
      · by_cases hl0 : 0 < ss.length
        · have hp0 : (0 : Int) < (ss.length : Int) := by omega
          go_wp2_with fail
          refine (amongNew_any b a n c (q + 1) [0, 1, 100000] u1 (by decide) (by decide) hK1.by_ hK1.cur (by omega)).mono ?_
          rintro e u2 ⟨z, _, rfl, hB2, hC2, hg2⟩
          have hK2 := hK1.grown hbl hg2 hB2 hC2
          clear hK1 hB2 hC2 hg2
          obtain ⟨g, off, hal, hg, hglt, hfz, ⟨u, hu⟩, hset⟩ := hK2.lst.set0 hl0
          subst hal
          have hR := hset z
          have hL : Below w.heap.size u2 (u2.setCell ⟨g, off, none⟩ (.int .i64 z)) := (Below.refl _ u2).setCell (p := ⟨g, off, none⟩) (Nat.le_trans hK2.lo hg) _
          have hby := hK2.by_.belowN hL (fun p hp => Nat.lt_trans (hK2.cur.apart p hp) hbl)
          have hcu := hK2.cur.belowN hL hbl
          have hgr := gBN hK2.gr hL
          have hsh : shortS (ss.set 0 ⟨z, ss[0].pol, ss[0].rv⟩) := by
            refine ⟨by rw [List.length_set]; exact hK2.sh.1, fun s hs => ?_⟩
            rcases List.mem_or_eq_of_mem_set hs with hs | rfl
            · exact hK2.sh.2 s hs
            · exact hK2.sh.2 ss[0] (List.getElem_mem hl0)
          have hlen : (ss.set 0 ⟨z, ss[0].pol, ss[0].rv⟩).length ≤ 20 := by rw [List.length_set]; exact hK2.len
          have HR := hid hR
          have hlo := hK2.lo
          clear hR hset hK2
          generalize ss.set 0 ⟨z, ss[0].pol, ss[0].rv⟩ = ss2 at *
          go_wp2_with fail
          go_ret
          exact ⟨_, ss2, _, rfl, hlen, hsh, by omega, ⟨bl, tl, hlo, HR.out⟩, hby, hcu, hgr⟩
        · have hp0 : ¬ (0 : Int) < (ss.length : Int) := by omega
          go_wp2_with fail
          go_ret
          exact ⟨_, ss, _, rfl, hK1.len, hK1.sh, by omega, ⟨bl, tl, hK1.lo, hK1.lst⟩, hK1.by_, hK1.cur, hK1.gr⟩

end Go.Proofs.YtoaeckcenobfcaaGreat

namespace Go.Proofs.YtoaeckcenobfcaaGreat
open Go.RowKit Go.Shelf

theorem sno_grown {w w' : World} {b base top : Nat} {v : Value} {s : Sn} (h : SnO w base top v s) (hb : b < base) (hg : w.grownBy w' (some b)) : SnO w' base top v s :=
  (Mid.of_grown (lo := b) (hi := b + 1) hg (fun k hk => by cases hk; omega)).sno h (.inl (by omega))
theorem sstc_grown {w w' : World} {b base top : Nat} {v : Value} {ss : List Sn} (h : SsT w base top v ss) (hb : b < base) (hg : w.grownBy w' (some b)) : SsT w' base top v ss :=
  (Mid.of_grown (lo := b) (hi := b + 1) hg (fun k hk => by cases hk; omega)).sst h (.inl (by omega))
theorem three_grown {w w' : World} {t : TypeId} {k b : Nat} {x y z : Value} (h : Three w t k x y z) (hb : k ≠ b) (hg : w.grownBy w' (some b)) : Three w' t k x y z :=
  (Mid.of_grown (lo := b) (hi := b + 1) hg (fun j hj => by cases hj; omega)).three h (by omega)
theorem sno_three {w : World} {base top : Nat} {v : Value} {s : Sn} (h : SnO w base top v s) {k : Nat} (hk : k < base) (x0 x1 x2 : Value) : SnO (((w.setCell ⟨k, 0, none⟩ x0).setCell ⟨k, 1, none⟩ x1).setCell ⟨k, 2, none⟩ x2) base top v s := by
  obtain ⟨vp, vr, rfl, h1, h2, t1, t2⟩ := h
  exact ⟨vp, vr, rfl, row_three h1 hk x0 x1 x2, row_three h2 hk x0 x1 x2, t1, t2⟩

set_option maxHeartbeats 4000000 in
set_option maxRecDepth 100000 in
theorem drawGoodSnap_any (a : Option Addr) (n c : Nat) (w : World) (hle : n ≤ c) (hB : ByS w a n) (hap : ∀ p, a = some p → p.block < w.heap.size) :
    Calls Tryz.prog 18 #[.slice a n c] w fun e w' => ∃ (v : Value) (s : Sn) (tl : Nat), e = .returned v ∧ s.short ∧ SnO w' w.heap.size tl v s ∧ Below w.heap.size w w' := by
  obtain ⟨W, hW⟩ : ∃ W, W = w.alloc (.cells #[.int .i64 0, .slice none 0 0, .slice none 0 0] 26) := ⟨_, rfl⟩
  have hWs : W.heap.size = w.heap.size + 1 := by rw [hW]; simp
  have hBw : Below w.heap.size w W := by rw [hW]; exact (Below.refl _ w).alloc (Nat.le_refl _) _
  have hX : Three W 26 w.heap.size (.int .i64 0) (.slice none 0 0) (.slice none 0 0) := by rw [hW]; exact Three.new w _ _ _ _
  have hBl : Below W.heap.size W (W.alloc (.cells #[.slice a n c, .int .i64 0, .int .u64 0] 55)) := (Below.refl _ W).alloc (Nat.le_refl _) _
  have hC0 : CurB (W.alloc (.cells #[.slice a n c, .int .i64 0, .int .u64 0] 55)) W.heap.size a n c 0 := ⟨hle, by simp, by simp, ⟨0, by simp⟩, by simp, by simp, fun p hp => by have := hap p hp; omega⟩
  have hB0 := (hB.below hBw).below hBl
  have hX0 := hX.below hBl
  have hbc : W.heap.size < (W.alloc (.cells #[.slice a n c, .int .i64 0, .int .u64 0] 55)).heap.size := by simp
  go_enter Tryz.func18, Tryz.ntmps18
  go_upto_region 1 with fail
  rw [← hW]
  clear hX hW hB
  have HWS := hid hWs
  have hW1 : w.heap.size < W.heap.size := by omega
  clear hWs
  go_wp2_with fail
  refine (drawSnaps_any W.heap.size a n c 0 _ hB0 hC0 (by omega)).mono ?_
  rintro e w1 ⟨v, ss, q, rfl, hlen, hsh, hq, ⟨bl, tl, hbl, hT⟩, hB1, hC1, hg1⟩
  have hX1 := three_grown hX0 (by omega) hg1
  have hBB1 : Below w.heap.size w w1 := hBw.trans ((hBl.mono (by omega)).grown hg1 (by have := hBl.size; omega) (fun k hk => by cases hk; omega))
  have hWs := HWS.out
  have hbb : W.heap.size < bl := Nat.lt_of_lt_of_le hbc hbl
  generalize hb : W.heap.size = b at *
  clear hX0 hB0 hC0 hg1 hBl hbl hbc hBw HWS hWs
  obtain ⟨al, cl, rfl⟩ := hT.r.len
  go_upto_region 3 with fail
  go_cut [16] (fun s16 wx => ∃ (o : Bool) (q2 : Nat), s16 = .bool o ∧ (o = false → 0 < ss.length) ∧ q2 ≤ q + 1 ∧ CurB wx b a n c q2 ∧ ByS wx a n ∧ SsT wx bl tl (.slice al ss.length cl) ss ∧ Three wx 26 w.heap.size (.int .i64 0) (.slice none 0 0) (.slice none 0 0) ∧ Below w.heap.size w wx)
  case first =>
    by_cases h0 : ss.length = 0
    · have d0 : ((ss.length : Int) == 0) = true := by simp [h0]
      go_wp2_with fail
      go_meet
      exact ⟨true, q, rfl, (fun h => by cases h), by omega, hC1, hB1, hT, hX1, hBB1⟩
    · have d0 : ((ss.length : Int) == 0) = false := by simp only [beq_eq_false_iff_ne, ne_eq]; omega
      go_wp2_with fail
      refine (one_any b a n c q 4 w1 (by omega) (by omega) hB1 hC1 (by omega)).mono ?_
      rintro e w2 ⟨o1, rfl, hC2, hg2⟩
      have hB2 := curB_grown hB1 hC1.apart hC1.lt hg2
      have hT2 := sstc_grown hT hbb hg2
      have hX2 := three_grown hX1 (by omega) hg2
      have hBB2 := hBB1.grown hg2 hBB1.size (fun k hk => by cases hk; omega)
      go_wp2_with fail
      go_meet
      exact ⟨o1, q + 1, rfl, (fun _ => by omega), by omega, hC2, hB2, hT2, hX2, hBB2⟩
  case rest =>
  obtain ⟨o, q2, rfl, ho, hq2, hC2, hB2, hT2, hX2, hBB2⟩ := hcut
  clear hC1 hB1 hT hX1 hBB1
  cases o
  · have hpos := ho rfl
    go_wp2_with fail
    refine (pick1_any b a n c q2 ss.length _ (by omega) (by omega) hB2 hC2 (by omega)).mono ?_
    rintro e w3 ⟨x, hx, rfl, hB3, ⟨q3, hq3, hC3⟩, hg3⟩
    have hT3 := sstc_grown hT2 hbb hg3
    have hX3 := three_grown hX2 (by omega) hg3
    have hBB3 := hBB2.grown hg3 hBB2.size (fun k hk => by cases hk; omega)
    clear hT2 hX2 hBB2 hB2 hC2 hg3
    obtain ⟨g, off, ap, cp, ar, cr, rfl, hg, hglt, hcap, c0, c1, c2, hS⟩ := hT3.sn hx
    have hshx := hsh.2 ss[x] (List.getElem_mem hx)
    clear hT3 hsh
    generalize ss[x] = s at *
    obtain ⟨r0, r1, r2⟩ := hX3.c
    have f0 := hX3.f 0
    have f1 := hX3.f 1
    have f2 := hX3.f 2
    have G := ((hX3.s0 (.int .i64 s.num)).s1 (.slice ap s.pol.length cp)).s2 (.slice ar s.rv.length cr)
    have pB := below_three hBB3 (k := w.heap.size) (Nat.le_refl _) (.int .i64 s.num) (.slice ap s.pol.length cp) (.slice ar s.rv.length cr)
    have pS := sno_three hS (k := w.heap.size) (by omega) (.int .i64 s.num) (.slice ap s.pol.length cp) (.slice ar s.rv.length cr)
    go_wp2_with fail
    clear r0 r1 r2 f0 f1 f2 c0 c1 c2
    generalize ((w3.setCell ⟨w.heap.size, 0, none⟩ (.int .i64 s.num)).setCell ⟨w.heap.size, 1, none⟩ (.slice ap s.pol.length cp)).setCell ⟨w.heap.size, 2, none⟩ (.slice ar s.rv.length cr) = W9 at *
    obtain ⟨d0, d1, d2⟩ := G.c
    exact bodyPost_ret (v := .agg #[.int .i64 s.num, .slice ap s.pol.length cp, .slice ar s.rv.length cr]) (by simp [results, Tryz.results18, go_sem, d0, d1, d2]) rfl ⟨_, s, tl, rfl, hshx, pS.mono (by omega) (Nat.le_refl _), pB⟩
  · go_wp2_with fail
    refine (pick_any b a n c q2 3 _ (by omega) (by omega) hB2 hC2 (by omega)).mono ?_
    rintro e w3 ⟨x, hx, rfl, hC3, hg3⟩
    have hB3 := curB_grown hB2 hC2.apart hC2.lt hg3
    have hX3 := three_grown hX2 (by omega) hg3
    have hBB3 := hBB2.grown hg3 hBB2.size (fun k hk => by cases hk; omega)
    clear hT2 hX2 hBB2 hB2 hC2 hg3
    go_wp2_with fail
    refine (drawPolicy_any b a n c (q2 + 1) _ hB3 hC3 (by omega)).mono ?_
    rintro e w4 ⟨vp, rs, q4, rfl, hl4, hq4, hP⟩
    have hX4 := three_grown hX3 (by omega) hP.gr
    have hBB4 := hBB3.grown hP.gr hBB3.size (fun k hk => by cases hk; omega)
    have hb3 : b < w3.heap.size := hC3.lt
    have hs3 := hBB3.size
    have hx3 := hX3.lt
    clear hB3 hC3 hX3
    go_wp2_with fail
    refine (numbers_any b a n c q4 _ hP.by_ hP.cur (by omega)).mono ?_
    rintro e w5 ⟨vr, zs, q5, rfl, hl5, hq5, hN⟩
    have hX5 := three_grown hX4 (by omega) hN.gr
    have hBB5 := hBB4.grown hN.gr hBB4.size (fun k hk => by cases hk; omega)
    have hs4 := hP.gr.size
    have hP5 := hP.grown hb3 hN.gr hN.by_ hN.cur
    have hS : SnO w5 (w.heap.size + 1) w5.heap.size (.agg #[.int .i64 (x : Int), vp, vr]) ⟨(x : Int), rs, zs⟩ := SnO.of (s := ⟨(x : Int), rs, zs⟩) (Go.Joins.ownsRow_le hP5.row (by omega)) (Go.Joins.ownsRow_le hN.row (by omega))
    have hsh2 : Sn.short ⟨(x : Int), rs, zs⟩ := ⟨by simp; omega, by simp; omega, fun r hr => by have := hP.small r hr; omega⟩
    obtain ⟨ap, cp, rfl⟩ := ownsRow_len hP5.row
    obtain ⟨ar, cr, rfl⟩ := ownsRow_len hN.row
    clear hX4 hBB4 hP hP5 hN hBB3
    obtain ⟨r0, r1, r2⟩ := hX5.c
    have f0 := hX5.f 0
    have f1 := hX5.f 1
    have f2 := hX5.f 2
    have G := ((hX5.s0 (.int .i64 (x : Int))).s1 (.slice ap rs.length cp)).s2 (.slice ar zs.length cr)
    have pB := below_three hBB5 (k := w.heap.size) (Nat.le_refl _) (.int .i64 (x : Int)) (.slice ap rs.length cp) (.slice ar zs.length cr)
    have pS := sno_three hS (k := w.heap.size) (by omega) (.int .i64 (x : Int)) (.slice ap rs.length cp) (.slice ar zs.length cr)
    go_wp2_with fail
    clear r0 r1 r2 f0 f1 f2
    generalize ((w5.setCell ⟨w.heap.size, 0, none⟩ (.int .i64 (x : Int))).setCell ⟨w.heap.size, 1, none⟩ (.slice ap rs.length cp)).setCell ⟨w.heap.size, 2, none⟩ (.slice ar zs.length cr) = W9 at *
    obtain ⟨d0, d1, d2⟩ := G.c
    exact bodyPost_ret (v := .agg #[.int .i64 (x : Int), .slice ap rs.length cp, .slice ar zs.length cr]) (by simp [results, Tryz.results18, go_sem, d0, d1, d2]) rfl ⟨_, ⟨(x : Int), rs, zs⟩, _, rfl, hsh2, pS.mono (by omega) (Nat.le_refl _), pB⟩

end Go.Proofs.YtoaeckcenobfcaaGreat

namespace Go.Proofs.YtoaeckcenobfcaaGreat
open Go.RowKit Go.Shelf

theorem cell_far1 {w : World} {g k : Nat} (h : g ≠ k) (o i : Nat) (x : Value) : (w.setCell ⟨k, i, none⟩ x).cell? ⟨g, o, none⟩ = w.cell? ⟨g, o, none⟩ :=
  World.cell?_setCell_far _ _ _ _ (Ne.symm h)
theorem cell_far3 {w : World} {g k : Nat} (h : g ≠ k) (o : Nat) (x0 x1 x2 : Value) : (((w.setCell ⟨k, 0, none⟩ x0).setCell ⟨k, 1, none⟩ x1).setCell ⟨k, 2, none⟩ x2).cell? ⟨g, o, none⟩ = w.cell? ⟨g, o, none⟩ := by
  rw [cell_far1 h, cell_far1 h, cell_far1 h]

set_option maxHeartbeats 4000000 in
set_option maxRecDepth 100000 in
theorem drawDiffOf_any (a : Option Addr) (n c : Nat) (w : World) (hle : n ≤ c) (hB : ByS w a n) (hap : ∀ p, a = some p → p.block < w.heap.size) :
    Calls Tryz.prog 5 #[.slice a n c] w fun e w' => ∃ (v1 v2 : Value) (s1 s2 : Sn), e = .returned (.tuple #[v1, v2]) ∧ s1.short ∧ s2.short ∧ SnR w' v1 s1 ∧ SnR w' v2 s2 ∧ Below w.heap.size w w' := by
  obtain ⟨V, hV⟩ : ∃ V, V = w.alloc (.cells #[.int .i64 0, .slice none 0 0, .slice none 0 0] 26) := ⟨_, rfl⟩
  have hVs : V.heap.size = w.heap.size + 1 := by rw [hV]; simp
  have hBv : Below w.heap.size w V := by rw [hV]; exact (Below.refl _ w).alloc (Nat.le_refl _) _
  have hXv : Three V 26 w.heap.size (.int .i64 0) (.slice none 0 0) (.slice none 0 0) := by rw [hV]; exact Three.new w _ _ _ _
  obtain ⟨W, hW⟩ : ∃ W, W = V.alloc (.cells #[.int .i64 0, .slice none 0 0, .slice none 0 0] 26) := ⟨_, rfl⟩
  have hWs : W.heap.size = w.heap.size + 2 := by rw [hW]; simp [hVs]
  have hVW : Below V.heap.size V W := by rw [hW]; exact (Below.refl _ V).alloc (Nat.le_refl _) _
  have hBw : Below w.heap.size w W := below_one hBv hVW
  have hX : Three W 26 w.heap.size (.int .i64 0) (.slice none 0 0) (.slice none 0 0) := hXv.below hVW
  have hY : Three W 26 (w.heap.size + 1) (.int .i64 0) (.slice none 0 0) (.slice none 0 0) := by rw [hW]; exact Three.at V _ _ _ _ hVs.symm
  have hBl : Below W.heap.size W (W.alloc (.cells #[.slice a n c, .int .i64 0, .int .u64 0] 55)) := (Below.refl _ W).alloc (Nat.le_refl _) _
  have hC0 : CurB (W.alloc (.cells #[.slice a n c, .int .i64 0, .int .u64 0] 55)) W.heap.size a n c 0 := ⟨hle, by simp, by simp, ⟨0, by simp⟩, by simp, by simp, fun p hp => by have := hap p hp; omega⟩
  have hB0 := (hB.below hBw).below hBl
  have hX0 := hX.below hBl
  have hY0 := hY.below hBl
  have hbc : W.heap.size < (W.alloc (.cells #[.slice a n c, .int .i64 0, .int .u64 0] 55)).heap.size := by simp
  clear hX hY hXv hVW hBv
  go_enter Tryz.func5, Tryz.ntmps5
  go_upto_region 1 with fail
  rw [← hV, ← hW]
  clear hV hW hB hVs
  have HWS := hid hWs
  have hW1 : w.heap.size + 1 < W.heap.size := by omega
  clear hWs
  go_wp2_with fail
  refine (drawSnaps_any W.heap.size a n c 0 _ hB0 hC0 (by omega)).mono ?_
  rintro e w1 ⟨v, ss, q, rfl, hlen, hsh, hq, ⟨bl, tl, hbl, hT⟩, hB1, hC1, hg1⟩
  have hX1 := three_grown hX0 (by omega) hg1
  have hY1 := three_grown hY0 (by omega) hg1
  have hBB1 : Below w.heap.size w w1 := hBw.trans ((hBl.mono (by omega)).grown hg1 (by have := hBl.size; omega) (fun k hk => by cases hk; omega))
  have hbb : W.heap.size < bl := Nat.lt_of_lt_of_le hbc hbl
  generalize hb : W.heap.size = b at *
  clear hX0 hY0 hB0 hC0 hg1 hBl hbl hbc hBw HWS hb
  obtain ⟨al, cl, rfl⟩ := hT.r.len
  go_upto_region 3 with fail
  go_cut [18] (fun s18 wx => ∃ (o : Bool) (q2 : Nat), s18 = .bool o ∧ (o = false → 2 ≤ ss.length) ∧ q2 ≤ q + 1 ∧ CurB wx b a n c q2 ∧ ByS wx a n ∧ SsT wx bl tl (.slice al ss.length cl) ss ∧ Three wx 26 w.heap.size (.int .i64 0) (.slice none 0 0) (.slice none 0 0) ∧ Three wx 26 (w.heap.size + 1) (.int .i64 0) (.slice none 0 0) (.slice none 0 0) ∧ Below w.heap.size w wx)
  case first =>
    by_cases h0 : ss.length < 2
    · have d0 : decide ((ss.length : Int) < 2) = true := by simp; omega
      go_wp2_with fail
      go_meet
      exact ⟨true, q, rfl, (fun h => by cases h), by omega, hC1, hB1, hT, hX1, hY1, hBB1⟩
    · have d0 : decide ((ss.length : Int) < 2) = false := by simp; omega
      go_wp2_with fail
      refine (one_any b a n c q 8 w1 (by omega) (by omega) hB1 hC1 (by omega)).mono ?_
      rintro e w2 ⟨o1, rfl, hC2, hg2⟩
      have hB2 := curB_grown hB1 hC1.apart hC1.lt hg2
      have hT2 := sstc_grown hT hbb hg2
      have hX2 := three_grown hX1 (by omega) hg2
      have hY2 := three_grown hY1 (by omega) hg2
      have hBB2 := hBB1.grown hg2 hBB1.size (fun k hk => by cases hk; omega)
      go_wp2_with fail
      go_meet
      exact ⟨o1, q + 1, rfl, (fun _ => by omega), by omega, hC2, hB2, hT2, hX2, hY2, hBB2⟩
  case rest =>
  obtain ⟨o, q2, rfl, ho, hq2, hC2, hB2, hT2, hX2, hY2, hBB2⟩ := hcut
  clear hC1 hB1 hT hX1 hY1 hBB1
  cases o
  · have hpos := ho rfl
    obtain ⟨m, hm⟩ : ∃ m, ss.length = m + 1 := ⟨ss.length - 1, by omega⟩
    have hsub : IntKind.i64.wrap ((ss.length : Int) - 1) = (m : Int) := by rw [IntKind.wrap_i64]; omega
    have HM := hid hm
    have hmm : 1 ≤ m := by omega
    have hmn : m ≤ 200 := by omega
    clear hm
    go_wp2_with fail
    refine (pick1_any b a n c q2 m _ hmm hmn hB2 hC2 (by omega)).mono ?_
    rintro e w3 ⟨x, hx, rfl, hB3, ⟨q3, hq3, hC3⟩, hg3⟩
    have hT3 := sstc_grown hT2 hbb hg3
    have hX3 := three_grown hX2 (by omega) hg3
    have hY3 := three_grown hY2 (by omega) hg3
    have hBB3 := hBB2.grown hg3 hBB2.size (fun k hk => by cases hk; omega)
    clear hT2 hX2 hY2 hBB2 hB2 hC2 hg3 hsub
    have hx1 : x < ss.length := by have := HM.out; omega
    obtain ⟨g, off, ap, cp, ar, cr, rfl, hg, hglt, hcap, c0, c1, c2, hS⟩ := hT3.sn hx1
    have hsh1 := hsh.2 ss[x] (List.getElem_mem hx1)
    obtain ⟨s, hs⟩ : ∃ s, s = ss[x] := ⟨_, rfl⟩
    rw [← hs] at c0 c1 c2 hS hsh1
    clear hs
    obtain ⟨F0, hF0⟩ : ∃ F0 : Nat → Value, ∀ i, i < ss.length → w3.cell? ⟨g, off + i * 3, none⟩ = some (F0 i) := ⟨fun i => (w3.cell? ⟨g, off + i * 3, none⟩).getD .nilIface, fun i hi => by
      obtain ⟨_, _, _, _, _, _, he, _, _, _, c0, _⟩ := hT3.sn hi
      cases he
      dsimp only
      rw [c0]
      rfl⟩
    obtain ⟨F1, hF1⟩ : ∃ F1 : Nat → Value, ∀ i, i < ss.length → w3.cell? ⟨g, off + i * 3 + 1, none⟩ = some (F1 i) := ⟨fun i => (w3.cell? ⟨g, off + i * 3 + 1, none⟩).getD .nilIface, fun i hi => by
      obtain ⟨_, _, _, _, _, _, he, _, _, _, _, c0, _⟩ := hT3.sn hi
      cases he
      dsimp only
      rw [c0]
      rfl⟩
    obtain ⟨F2, hF2⟩ : ∃ F2 : Nat → Value, ∀ i, i < ss.length → w3.cell? ⟨g, off + i * 3 + 2, none⟩ = some (F2 i) := ⟨fun i => (w3.cell? ⟨g, off + i * 3 + 2, none⟩).getD .nilIface, fun i hi => by
      obtain ⟨_, _, _, _, _, _, he, _, _, _, _, _, c0, _⟩ := hT3.sn hi
      cases he
      dsimp only
      rw [c0]
      rfl⟩
    obtain ⟨m2, hm2⟩ : ∃ m2, ss.length = x + 1 + m2 := ⟨ss.length - (x + 1), by omega⟩
    have hgk1 : g ≠ w.heap.size := by omega
    have hgk2 : g ≠ w.heap.size + 1 := by omega
    have hgb : g ≠ b := by omega
    have hBd : Below w3.heap.size w3 w3.drew := (Below.refl _ w3).drew
    have hTd := hT3.below hBd
    have hXd := hX3.below hBd
    have hYd := hY3.below hBd
    have hBBd := below_one hBB3 hBd
    have hBy := hB3.below hBd
    have hCd := hC3.below hBd
    have hSd := hS.below hBd
    have e0 := (hBd.cell (p := ⟨g, off + x * 3, none⟩) hglt).trans c0
    have e1 := (hBd.cell (p := ⟨g, off + x * 3 + 1, none⟩) hglt).trans c1
    have e2 := (hBd.cell (p := ⟨g, off + x * 3 + 2, none⟩) hglt).trans c2
    have E0 : ∀ i, i < ss.length → w3.drew.cell? ⟨g, off + i * 3, none⟩ = some (F0 i) := fun i hi => (hBd.cell (p := ⟨g, off + i * 3, none⟩) hglt).trans (hF0 i hi)
    have E1 : ∀ i, i < ss.length → w3.drew.cell? ⟨g, off + i * 3 + 1, none⟩ = some (F1 i) := fun i hi => (hBd.cell (p := ⟨g, off + i * 3 + 1, none⟩) hglt).trans (hF1 i hi)
    have E2 : ∀ i, i < ss.length → w3.drew.cell? ⟨g, off + i * 3 + 2, none⟩ = some (F2 i) := fun i hi => (hBd.cell (p := ⟨g, off + i * 3 + 2, none⟩) hglt).trans (hF2 i hi)
    have hgd : g < w3.drew.heap.size := Nat.lt_of_lt_of_le hglt hBd.size
    clear hT3 hX3 hY3 hBB3 hB3 hC3 hS
    have hs1 : IntKind.i64.wrap ((x : Int) + 1) = (x : Int) + 1 := by rw [IntKind.wrap_i64]; omega
    have hs2 : IntKind.i64.wrap ((ss.length : Int) - (x : Int)) = (ss.length : Int) - (x : Int) := by rw [IntKind.wrap_i64]; omega
    have hs3 : IntKind.i64.wrap ((ss.length : Int) - (x : Int) - 1) = (m2 : Int) := by rw [IntKind.wrap_i64]; omega
    have hz1 : (0 : Int) ≤ (x : Int) := by omega
    have hz2 : (x : Int) < (ss.length : Int) := by omega
    have hz3 : ¬ (x : Int) < 0 := by omega
    have HM2 := hid hm2
    have hm1 : 1 ≤ m2 := by have := HM.out; omega
    have hm3 : m2 ≤ 200 := by omega
    clear hm2 HM hmm hmn hx
    go_upto_region 6 with fail
    go_region_held3 (fun w' => w'.cell? ⟨g, off + x * 3, none⟩ = some (.int .i64 s.num) ∧ w'.cell? ⟨g, off + x * 3 + 1, none⟩ = some (.slice ap s.pol.length cp) ∧ w'.cell? ⟨g, off + x * 3 + 2, none⟩ = some (.slice ar s.rv.length cr) ∧ (∀ i, i < ss.length → w'.cell? ⟨g, off + i * 3, none⟩ = some (F0 i)) ∧ (∀ i, i < ss.length → w'.cell? ⟨g, off + i * 3 + 1, none⟩ = some (F1 i)) ∧ ∀ i, i < ss.length → w'.cell? ⟨g, off + i * 3 + 2, none⟩ = some (F2 i)) (((try dsimp only); refine ⟨?_, ?_, ?_, fun i hi => ?_, fun i hi => ?_, fun i hi => ?_⟩; all_goals first | go_keep | (rw [cell_far3 hgk1]; go_keep) | (rw [cell_far3 hgk2, cell_far3 hgk1]; go_keep))) (first
      | (go_at_call 23; refine (pick1_any b a n c q3 m2 _ hm1 hm3 hBy hCd (by omega)).mono ?_; rintro e w4 ⟨y, hy, rfl, hB4, ⟨q4, hq4, hC4⟩, hg4⟩; have hT4 := sstc_grown hTd hbb hg4; have hX4 := three_grown hXd (by omega) hg4; have hY4 := three_grown hYd (by omega) hg4; have hBB4 := hBBd.grown hg4 hBBd.size (fun k hk => by cases hk; omega); have hS4 := sno_grown hSd hbb hg4; have l0 := (keep_cell hg4 hgd hgb (off + x * 3)).trans e0; have l1 := (keep_cell hg4 hgd hgb (off + x * 3 + 1)).trans e1; have l2 := (keep_cell hg4 hgd hgb (off + x * 3 + 2)).trans e2; obtain ⟨i2, hi2⟩ : ∃ i2, i2 = x + 1 + y := ⟨_, rfl⟩; have hi3 : i2 < ss.length := (by have := HM2.out; omega); have hz4 : (0 : Int) ≤ (i2 : Int) := (by omega); have hz5 : (i2 : Int) < (ss.length : Int) := (by omega); obtain ⟨g2, off2, ap2, cp2, ar2, cr2, he, _, _, _, k0, k1, k2, hS2⟩ := hT4.sn hi3; cases he; have hsh2 := hsh.2 ss[i2] (List.getElem_mem hi3); obtain ⟨s2, hs22⟩ : ∃ s2, s2 = ss[i2] := ⟨_, rfl⟩; rw [← hs22] at k0 k1 k2 hS2 hsh2; clear hs22; have L0 : ∀ i, i < ss.length → w4.cell? ⟨g, off + i * 3, none⟩ = some (F0 i) := fun i hi => (keep_cell hg4 hgd hgb _).trans (E0 i hi); have L1 : ∀ i, i < ss.length → w4.cell? ⟨g, off + i * 3 + 1, none⟩ = some (F1 i) := fun i hi => (keep_cell hg4 hgd hgb _).trans (E1 i hi); have L2 : ∀ i, i < ss.length → w4.cell? ⟨g, off + i * 3 + 2, none⟩ = some (F2 i) := fun i hi => (keep_cell hg4 hgd hgb _).trans (E2 i hi); have G0 : F0 i2 = .int .i64 s2.num := Option.some.inj ((L0 i2 hi3).symm.trans k0); have G1 : F1 i2 = .slice ap2 s2.pol.length cp2 := Option.some.inj ((L1 i2 hi3).symm.trans k1); have G2 : F2 i2 = .slice ar2 s2.rv.length cr2 := Option.some.inj ((L2 i2 hi3).symm.trans k2); clear k0 k1 k2; have hs4 : IntKind.i64.wrap ((x : Int) + 1 + (y : Int)) = (i2 : Int) := (by rw [IntKind.wrap_i64]; omega); clear hi2; obtain ⟨r0, r1, r2⟩ := hX4.c; have f0 := hX4.f 0; have f1 := hX4.f 1; have f2 := hX4.f 2; obtain ⟨o0, o1, o2⟩ := hY4.c; have p0 := hY4.f 0; have p1 := hY4.f 1; have p2 := hY4.f 2))
    have X8 := ((hX4.s0 (.int .i64 s.num)).s1 (.slice ap s.pol.length cp)).s2 (.slice ar s.rv.length cr)
    have Y8 := ((hY4.other (k' := w.heap.size) (by omega) 0 (.int .i64 s.num)).other (k' := w.heap.size) (by omega) 1 (.slice ap s.pol.length cp)).other (k' := w.heap.size) (by omega) 2 (.slice ar s.rv.length cr)
    have hS8 := sno_three hS4 (k := w.heap.size) (by omega) (.int .i64 s.num) (.slice ap s.pol.length cp) (.slice ar s.rv.length cr)
    have hT8 := sno_three hS2 (k := w.heap.size) (by omega) (.int .i64 s.num) (.slice ap s.pol.length cp) (.slice ar s.rv.length cr)
    have pB8 := below_three hBB4 (k := w.heap.size) (Nat.le_refl _) (.int .i64 s.num) (.slice ap s.pol.length cp) (.slice ar s.rv.length cr)
    have X9 := ((X8.other (k' := w.heap.size + 1) (by omega) 0 (.int .i64 s2.num)).other (k' := w.heap.size + 1) (by omega) 1 (.slice ap2 s2.pol.length cp2)).other (k' := w.heap.size + 1) (by omega) 2 (.slice ar2 s2.rv.length cr2)
    have Y9 := ((Y8.s0 (.int .i64 s2.num)).s1 (.slice ap2 s2.pol.length cp2)).s2 (.slice ar2 s2.rv.length cr2)
    have hS9 := (sno_three hS8 (k := w.heap.size + 1) (by omega) (.int .i64 s2.num) (.slice ap2 s2.pol.length cp2) (.slice ar2 s2.rv.length cr2)).r
    have hT9 := (sno_three hT8 (k := w.heap.size + 1) (by omega) (.int .i64 s2.num) (.slice ap2 s2.pol.length cp2) (.slice ar2 s2.rv.length cr2)).r
    have pB9 := below_three pB8 (k := w.heap.size + 1) (Nat.le_succ _) (.int .i64 s2.num) (.slice ap2 s2.pol.length cp2) (.slice ar2 s2.rv.length cr2)
    clear r0 r1 r2 f0 f1 f2 o0 o1 o2 p0 p1 p2 L0 L1 L2 l0 l1 l2 X8 Y8 hS8 hT8 pB8 hX4 hY4 hS4 hS2 hBB4 hT4 hg4 hB4 hC4 G0 G1 G2
    generalize (((((w4.setCell ⟨w.heap.size, 0, none⟩ (.int .i64 s.num)).setCell ⟨w.heap.size, 1, none⟩ (.slice ap s.pol.length cp)).setCell ⟨w.heap.size, 2, none⟩ (.slice ar s.rv.length cr)).setCell ⟨w.heap.size + 1, 0, none⟩ (.int .i64 s2.num)).setCell ⟨w.heap.size + 1, 1, none⟩ (.slice ap2 s2.pol.length cp2)).setCell ⟨w.heap.size + 1, 2, none⟩ (.slice ar2 s2.rv.length cr2) = W9 at *
    obtain ⟨d0, d1, d2⟩ := X9.c
    obtain ⟨e0, e1, e2⟩ := Y9.c
    go_wp2_with fail
    exact bodyPost_ret (v := .tuple #[.agg #[.int .i64 s.num, .slice ap s.pol.length cp, .slice ar s.rv.length cr], .agg #[.int .i64 s2.num, .slice ap2 s2.pol.length cp2, .slice ar2 s2.rv.length cr2]]) (by simp [results, Tryz.results5, go_sem, d0, d1, d2, e0, e1, e2]) rfl ⟨_, _, s, s2, rfl, hsh1, hsh2, hS9, hT9, pB9⟩
  · go_wp2_with fail
    refine (drawGoodSnap_any a n c _ hle hB2 (fun p hp => Nat.lt_trans (hC2.apart p hp) hC2.lt)).mono ?_
    rintro e w3 ⟨v1, s1, t1, rfl, hsh1, hS1, hB3⟩
    have hb2 := hC2.lt
    have hX3 := hX2.below hB3
    have hY3 := hY2.below hB3
    have hBB3 := below_one hBB2 hB3
    have hC3 := hC2.below hB3
    have hBy3 := hB2.below hB3
    have hs2 := hB3.size
    clear hT2 hX2 hY2 hB2 hC2 hB3
    obtain ⟨ap, cp, ar, cr, rfl⟩ := sn_forms hS1.a
    go_wp2_with fail
    refine (drawPolicy_any b a n c q2 _ hBy3 hC3 (by omega)).mono ?_
    rintro e w4 ⟨vp, rs, q4, rfl, hl4, hq4, hP⟩
    have hX4 := three_grown hX3 (by omega) hP.gr
    have hY4 := three_grown hY3 (by omega) hP.gr
    have hS4 := sno_grown hS1 hb2 hP.gr
    have hBB4 := hBB3.grown hP.gr hBB3.size (fun k hk => by cases hk; omega)
    clear hX3 hY3 hBy3 hC3 hS1
    have HSm := hid hP.small
    go_wp2_with fail
    refine (l2PlainW_any _ rs _ (by omega) (fun r hr => by have := HSm.out r hr; omega) (RuS.own hP.row)).mono ?_
    rintro e w5 ⟨vq, rfl, hrow5, hB5⟩
    have hX5 := hX4.below hB5
    have hY5 := hY4.below hB5
    have hS5 := hS4.below hB5
    have hBB5 := below_one hBB4 hB5
    have hP5 := hP.below hB5
    have hs4 := hP.gr.size
    have hx4 := hY4.lt
    clear hX4 hY4 hS4 hBB4 hP hB5
    have hpl := plTo_len (rs := rs) rs.length (Nat.le_refl _)
    have HPS := hid (show ∀ r ∈ plTo rs rs.length, r.size ≤ 1048576 from fun r hr => by have := HSm.out r (List.mem_of_mem_take ((plTo_mem rs.length (Nat.le_refl _) r).1 hr)); omega)
    generalize plTo rs rs.length = ps at *
    obtain ⟨aq, cq, rfl⟩ := ownsRow_len hrow5
    go_wp2_with fail
    refine (numbers_any b a n c q4 _ hP5.by_ hP5.cur (by omega)).mono ?_
    rintro e w6 ⟨vr, zs, q5, rfl, hl5, hq5, hN⟩
    have hX6 := three_grown hX5 (by omega) hN.gr
    have hY6 := three_grown hY5 (by omega) hN.gr
    have hS6 := sno_grown hS5 hb2 hN.gr
    have hBB6 := hBB5.grown hN.gr hBB5.size (fun k hk => by cases hk; omega)
    have hb4 : b < w4.heap.size := by omega
    have hrow6 := (Mid.of_grown (lo := b) (hi := b + 1) hN.gr (fun k hk => by cases hk; omega)).row hrow5 (fun k hk => by have := (hrow5.lt k hk).1; omega)
    clear hX5 hY5 hS5 hBB5 hP5 hrow5
    go_wp2_with fail
    refine (l5Sorted_any _ zs _ (by omega) (NuR.own hN.row).s).mono ?_
    rintro e w7 ⟨vz, rfl, hrow7, hB7⟩
    have hX7 := hX6.below hB7
    have hY7 := hY6.below hB7
    have hS7 := hS6.below hB7
    have hBB7 := below_one hBB6 hB7
    have hrow8 := ownsRow_below hrow6 hB7
    have hs5 := hN.gr.size
    have hx6 := hY6.lt
    have hsl := srN_len zs
    clear hX6 hY6 hS6 hBB6 hN hB7 hrow6
    generalize srN zs = ys at *
    obtain ⟨az, cz, rfl⟩ := ownsRow_len hrow7
    have hT : SnO w7 (w.heap.size + 2) w7.heap.size (.agg #[.int .i64 9, .slice aq ps.length cq, .slice az ys.length cz]) ⟨9, ps, ys⟩ := SnO.of (s := ⟨9, ps, ys⟩) (Go.Joins.ownsRow_le hrow8 (by omega)) (Go.Joins.ownsRow_le hrow7 (by omega))
    have hsh2 : Sn.short ⟨9, ps, ys⟩ := ⟨by show ps.length ≤ _; omega, by show ys.length ≤ _; omega, HPS.out⟩
    obtain ⟨r0, r1, r2⟩ := hX7.c
    have f0 := hX7.f 0
    have f1 := hX7.f 1
    have f2 := hX7.f 2
    obtain ⟨u0, u1, u2⟩ := hY7.c
    have h0 := hY7.f 0
    have h1 := hY7.f 1
    have h2 := hY7.f 2
    have X8 := ((hX7.s0 (.int .i64 s1.num)).s1 (.slice ap s1.pol.length cp)).s2 (.slice ar s1.rv.length cr)
    have Y8 := ((hY7.other (k' := w.heap.size) (by omega) 0 (.int .i64 s1.num)).other (k' := w.heap.size) (by omega) 1 (.slice ap s1.pol.length cp)).other (k' := w.heap.size) (by omega) 2 (.slice ar s1.rv.length cr)
    have hS8 := sno_three hS7 (k := w.heap.size) (by omega) (.int .i64 s1.num) (.slice ap s1.pol.length cp) (.slice ar s1.rv.length cr)
    have hT8 := sno_three hT (k := w.heap.size) (by omega) (.int .i64 s1.num) (.slice ap s1.pol.length cp) (.slice ar s1.rv.length cr)
    have pB8 := below_three hBB7 (k := w.heap.size) (Nat.le_refl _) (.int .i64 s1.num) (.slice ap s1.pol.length cp) (.slice ar s1.rv.length cr)
    have X9 := ((X8.other (k' := w.heap.size + 1) (by omega) 0 (.int .i64 9)).other (k' := w.heap.size + 1) (by omega) 1 (.slice aq ps.length cq)).other (k' := w.heap.size + 1) (by omega) 2 (.slice az ys.length cz)
    have Y9 := ((Y8.s0 (.int .i64 9)).s1 (.slice aq ps.length cq)).s2 (.slice az ys.length cz)
    have hS9 := (sno_three hS8 (k := w.heap.size + 1) (by omega) (.int .i64 9) (.slice aq ps.length cq) (.slice az ys.length cz)).r
    have hT9 := (sno_three hT8 (k := w.heap.size + 1) (by omega) (.int .i64 9) (.slice aq ps.length cq) (.slice az ys.length cz)).r
    have pB9 := below_three pB8 (k := w.heap.size + 1) (Nat.le_succ _) (.int .i64 9) (.slice aq ps.length cq) (.slice az ys.length cz)
    obtain ⟨y0, y1, y2⟩ := Y8.c
    clear hS7 hT hBB7 hX7 hY7 hS8 hT8 pB8 X8 Y8 hrow7 hrow8
    go_wp2_with fail
    clear r0 r1 r2 f0 f1 f2 u0 u1 u2 h0 h1 h2 y0 y1 y2
    generalize (((((w7.setCell ⟨w.heap.size, 0, none⟩ (.int .i64 s1.num)).setCell ⟨w.heap.size, 1, none⟩ (.slice ap s1.pol.length cp)).setCell ⟨w.heap.size, 2, none⟩ (.slice ar s1.rv.length cr)).setCell ⟨w.heap.size + 1, 0, none⟩ (.int .i64 9)).setCell ⟨w.heap.size + 1, 1, none⟩ (.slice aq ps.length cq)).setCell ⟨w.heap.size + 1, 2, none⟩ (.slice az ys.length cz) = W9 at *
    obtain ⟨d0, d1, d2⟩ := X9.c
    obtain ⟨e0, e1, e2⟩ := Y9.c
    exact bodyPost_ret (v := .tuple #[.agg #[.int .i64 s1.num, .slice ap s1.pol.length cp, .slice ar s1.rv.length cr], .agg #[.int .i64 9, .slice aq ps.length cq, .slice az ys.length cz]]) (by simp [results, Tryz.results5, go_sem, d0, d1, d2, e0, e1, e2]) rfl ⟨_, _, s1, ⟨9, ps, ys⟩, rfl, hsh1, hsh2, hS9, hT9, pB9⟩

end Go.Proofs.YtoaeckcenobfcaaGreat

namespace Go.Proofs.YtoaeckcenobfcaaGreat

def rwL (s : Sn) (d : Df) : List Ru := woR s.pol d.dr ++ d.ad
def ndS (s : Sn) (d : Df) : Sn := ⟨d.tt, plTo (rwL s d) (rwL s d).length, srN (s.rv ++ d.rv)⟩
def sameD (a b : Df) : Bool := (a.fr == b.fr) && ((a.tt == b.tt) && (sameS a.dr b.dr && (sameS a.ad b.ad && (a.rv == b.rv))))
def apS (s : Sn) (d : Df) : Bool := (snB s && ((s.num == d.fr) && (decide (d.dr.length ≤ 30) && (decide (d.ad.length ≤ 30) && decide (d.rv.length ≤ 200))))) && (dfB s (ndS s d) && sameD d (dfX s (ndS s d)))
def apI (s : Sn) (d : Df) : Bool := (snB s && polB (rwL s d)) && (dfB s (ndS s d) && sameD (dfX s (ndS s d)) d)
def apX (s : Sn) (d : Df) : Sn := if apS s d = true then ndS s d else Sn.none

theorem hasR_iff {b : List Ru} {r : Ru} : hasR b r = true ↔ r ∈ b := by
  unfold hasR
  rw [List.any_eq_true]
  exact ⟨fun ⟨y, hy, h⟩ => by rw [same_eq h]; exact hy, fun h => ⟨r, h, Ru.same_refl r⟩⟩
theorem sameS_eq {rs ss : List Ru} (h : sameS rs ss = true) : rs = ss := by
  unfold sameS at h
  rw [Bool.and_eq_true] at h
  have hl : rs.length = ss.length := by simpa using h.1
  apply List.ext_getElem hl
  intro i h1 h2
  have hz : i < (rs.zip ss).length := by rw [List.length_zip]; omega
  have hm := List.all_eq_true.1 h.2 _ (List.getElem_mem hz)
  rw [List.getElem_zip] at hm
  exact same_eq hm
theorem sameD_eq {a b : Df} (h : sameD a b = true) : a = b := by
  unfold sameD at h
  simp only [Bool.and_eq_true, beq_iff_eq] at h
  obtain ⟨h1, h2, h3, h4, h5⟩ := h
  cases a; cases b
  simp only at h1 h2 h3 h4 h5
  rw [h1, h2, sameS_eq h3, sameS_eq h4, h5]
theorem sameD_refl (a : Df) : sameD a a = true := by
  unfold sameD
  rw [sameS_refl, sameS_refl]
  simp
theorem nd_le : ∀ (l m : List Ru), l.Pairwise (fun x y => x ≠ y) → (∀ x ∈ l, x ∈ m) → l.length ≤ m.length
  | [], m, _, _ => Nat.zero_le _
  | x :: l, m, h, hs => by
    obtain ⟨m1, m2, rfl⟩ := List.append_of_mem (hs x (List.mem_cons_self))
    have hp := List.pairwise_cons.1 h
    have := nd_le l (m1 ++ m2) hp.2 (fun y hy => by
      have h1 := hs y (List.mem_cons_of_mem _ hy)
      have hne := hp.1 y hy
      rcases List.mem_append.1 h1 with h2 | h2
      · exact List.mem_append_left _ h2
      · rcases List.mem_cons.1 h2 with h3 | h3
        · exact absurd h3.symm hne
        · exact List.mem_append_right _ h3)
    simp only [List.length_append, List.length_cons] at this ⊢
    omega
theorem filter_two (p : Ru → Bool) : ∀ l : List Ru, (l.filter p).length + (l.filter (fun r => !(p r))).length = l.length
  | [] => rfl
  | x :: l => by
    have ih := filter_two p l
    cases hp : p x <;> simp [hp] <;> omega
theorem raw_len {A X : List Ru} (hA : A.Pairwise (fun x y => x ≠ y)) : (woR A (woR A X) ++ woR X A).length ≤ X.length := by
  have e : woR A (woR A X) = A.filter (hasR X) := by
    unfold woR
    apply List.filter_congr
    intro r hr
    cases hx : hasR X r
    · have : hasR (A.filter fun r => !hasR X r) r = true := hasR_iff.2 (List.mem_filter.2 ⟨hr, by rw [hx]; rfl⟩)
      rw [this]; rfl
    · have : hasR (A.filter fun r => !hasR X r) r = false := by
        cases h : hasR (A.filter fun r => !hasR X r) r
        · rfl
        · have := (List.mem_filter.1 (hasR_iff.1 h)).2
          rw [hx] at this
          cases this
      rw [this]; rfl
  have h1 : (A.filter (hasR X)).length ≤ (X.filter (hasR A)).length := nd_le _ _ (hA.filter _) (fun x hx => by
    obtain ⟨h1, h2⟩ := List.mem_filter.1 hx
    exact List.mem_filter.2 ⟨hasR_iff.1 h2, hasR_iff.2 h1⟩)
  have h2 := filter_two (hasR A) X
  rw [e, List.length_append]
  unfold woR
  omega

theorem pol_nd {s : Sn} (h : snB s = true) : s.pol.Pairwise (fun x y => x ≠ y) := by
  obtain ⟨_, h2, h3, _, _⟩ := snB_parts h
  have hs := plTo_ss (pol_all h2).1 s.pol.length (Nat.le_refl _)
  rw [plX_yes h2] at h3
  rw [sameS_eq h3] at hs
  unfold SS at hs
  refine hs.imp (fun {x y} h e => ?_)
  subst e
  unfold ltR at h
  rw [bl_irrefl] at h
  cases h
theorem dfB_parts {a b : Sn} (h : dfB a b = true) : snB a = true ∧ snB b = true := by
  unfold dfB at h
  simp only [Bool.and_eq_true] at h
  exact ⟨h.1.1, h.1.2.1⟩
/-- What the program asks is what the specification asks. -/
theorem ap_alike (s : Sn) (d : Df) : apS s d = apI s d := by
  rw [Bool.eq_iff_iff]
  constructor
  · intro h
    unfold apS at h
    simp only [Bool.and_eq_true] at h
    obtain ⟨⟨h1, _⟩, h2, h3⟩ := h
    have e := sameD_eq h3
    rw [dfX_yes h2] at e
    obtain ⟨hs, hx⟩ := dfB_parts h2
    obtain ⟨_, hp, _, _, _⟩ := snB_parts hx
    have hdr : d.dr = woR s.pol (ndS s d).pol := congrArg Df.dr e
    have had : d.ad = woR (ndS s d).pol s.pol := congrArg Df.ad e
    have hl : (rwL s d).length ≤ (ndS s d).pol.length := by
      have := raw_len (A := s.pol) (X := (ndS s d).pol) (pol_nd hs)
      unfold rwL
      rw [← hdr, ← had] at this
      exact this
    have hg : ∀ r ∈ rwL s d, r.good = true := fun r hr => by
      refine (pol_all hp).1 r ?_
      show r ∈ plTo (rwL s d) (rwL s d).length
      rw [plTo_mem _ (Nat.le_refl _), List.take_length]
      exact hr
    have h30 := (pol_all hp).2
    unfold apI
    simp only [Bool.and_eq_true]
    refine ⟨⟨h1, ?_⟩, h2, ?_⟩
    · unfold polB
      rw [Bool.and_eq_true]
      exact ⟨List.all_eq_true.2 hg, decide_eq_true (by omega)⟩
    · rw [dfX_yes h2, ← e]
      exact sameD_refl d
  · intro h
    unfold apI at h
    simp only [Bool.and_eq_true] at h
    obtain ⟨⟨h1, _⟩, h2, h3⟩ := h
    have e := sameD_eq h3
    rw [dfX_yes h2] at e
    obtain ⟨hs, hx⟩ := dfB_parts h2
    obtain ⟨_, hp, _, _, _⟩ := snB_parts hs
    obtain ⟨_, hq, _, hf, _⟩ := snB_parts hx
    have hdr : d.dr = woR s.pol (ndS s d).pol := (congrArg Df.dr e).symm
    have had : d.ad = woR (ndS s d).pol s.pol := (congrArg Df.ad e).symm
    have hrv : d.rv = woN (ndS s d).rv s.rv := (congrArg Df.rv e).symm
    have hfr : s.num = d.fr := congrArg Df.fr e
    have l1 := woR_len s.pol (ndS s d).pol
    have l2 := woR_len (ndS s d).pol s.pol
    have l3 := woN_len (ndS s d).rv s.rv
    have m1 := (pol_all hp).2
    have m2 := (pol_all hq).2
    have m3 := fewB_len hf
    rw [← hdr] at l1
    rw [← had] at l2
    rw [← hrv] at l3
    unfold apS
    simp only [Bool.and_eq_true, beq_iff_eq, decide_eq_true_eq]
    refine ⟨⟨h1, hfr, by omega, by omega, by omega⟩, h2, ?_⟩
    rw [dfX_yes h2, e]
    exact sameD_refl d

end Go.Proofs.YtoaeckcenobfcaaGreat

namespace Go.Proofs.YtoaeckcenobfcaaGreat
open Go.RowKit Go.Shelf

theorem woR_iff {a b : List Ru} {y : Ru} : y ∈ woR a b ↔ y ∈ a ∧ y ∉ b := by
  unfold woR
  rw [List.mem_filter, Bool.not_eq_true', ← Bool.not_eq_true, hasR_iff]
theorem isI_iff {b : List Int} {y : Int} : isI b y = true ↔ y ∈ b := by
  unfold isI
  simp
theorem woN_iff {a b : List Int} {y : Int} : y ∈ woN a b ↔ y ∈ a ∧ y ∉ b := by
  unfold woN
  rw [List.mem_filter, Bool.not_eq_true', ← Bool.not_eq_true, isI_iff]
theorem raw_mem {A X : List Ru} (y : Ru) : y ∈ woR A (woR A X) ++ woR X A ↔ y ∈ X := by
  rw [List.mem_append, woR_iff, woR_iff, woR_iff]
  by_cases h1 : y ∈ A <;> by_cases h2 : y ∈ X <;> simp [h1, h2]
theorem dif_sub {a b : Sn} (h : dfB a b = true) : ∀ z ∈ a.rv, z ∈ b.rv := fun z hz => by
  unfold dfB at h
  rw [Bool.and_eq_true] at h
  have he := List.isEmpty_iff.1 h.2
  by_cases hb : z ∈ b.rv
  · exact hb
  · have hm : z ∈ woN a.rv b.rv := woN_iff.2 ⟨hz, hb⟩
    rw [he] at hm
    cases hm
theorem dif_rw {a b : Sn} (h : dfB a b = true) : rwL a (dfX a b) = woR a.pol (woR a.pol b.pol) ++ woR b.pol a.pol := by
  unfold rwL
  rw [dfX_yes h]
theorem dif_good {a b : Sn} (h : dfB a b = true) : ∀ r ∈ rwL a (dfX a b), r.good = true := fun r hr => by
  obtain ⟨_, hp, _, _, _⟩ := snB_parts (dfB_parts h).2
  rw [dif_rw h, raw_mem] at hr
  exact (pol_all hp).1 r hr
/-- The difference of two versions, laid upon the earlier one, leads to the later one. -/
theorem dif_back {a b : Sn} (h : dfB a b = true) : ndS a (dfX a b) = b := by
  obtain ⟨_, hp, hpl, _, hu⟩ := snB_parts (dfB_parts h).2
  have hbp : plTo b.pol b.pol.length = b.pol := by
    rw [plX_yes hp] at hpl
    exact sameS_eq hpl
  have e1 : plTo (rwL a (dfX a b)) (rwL a (dfX a b)).length = b.pol := by
    refine Eq.trans (ss_unique _ (plTo b.pol b.pol.length) (plTo_ss (dif_good h) _ (Nat.le_refl _)) (plTo_ss (pol_all hp).1 _ (Nat.le_refl _)) fun y => ?_) hbp
    rw [plTo_mem _ (Nat.le_refl _), plTo_mem _ (Nat.le_refl _), List.take_length, List.take_length, dif_rw h, raw_mem]
  have e2 : srN (a.rv ++ (dfX a b).rv) = b.rv := by
    refine sz_unique _ _ (srN_sz _) (sz_up.2 hu) fun y => ?_
    rw [srN_mem, List.mem_append, dfX_yes h]
    show y ∈ a.rv ∨ y ∈ woN b.rv a.rv ↔ y ∈ b.rv
    rw [woN_iff]
    constructor
    · rintro (h1 | h1)
      · exact dif_sub h y h1
      · exact h1.1
    · intro h1
      by_cases h2 : y ∈ a.rv
      · exact .inl h2
      · exact .inr ⟨h1, h2⟩
  unfold ndS
  rw [e1, e2, dfX_yes h]
theorem dif_asked {a b : Sn} (h : dfB a b = true) : apI a (dfX a b) = true := by
  obtain ⟨ha, hb⟩ := dfB_parts h
  obtain ⟨_, hp, _, _, _⟩ := snB_parts hb
  have hl := raw_len (A := a.pol) (X := b.pol) (pol_nd ha)
  have h30 := (pol_all hp).2
  unfold apI
  rw [dif_back h, ha, h, sameD_refl]
  have hq : polB (rwL a (dfX a b)) = true := by
    unfold polB
    rw [Bool.and_eq_true]
    refine ⟨List.all_eq_true.2 (dif_good h), decide_eq_true ?_⟩
    rw [dif_rw h]
    omega
  rw [hq]
  rfl
/-- ApplyDiff after DiffOf. -/
theorem dif_ap {a b : Sn} (h : dfB a b = true) : apS a (dfX a b) = true ∧ apX a (dfX a b) = b := by
  have hs : apS a (dfX a b) = true := by rw [ap_alike]; exact dif_asked h
  refine ⟨hs, ?_⟩
  unfold apX
  rw [if_pos hs, dif_back h]

end Go.Proofs.YtoaeckcenobfcaaGreat
