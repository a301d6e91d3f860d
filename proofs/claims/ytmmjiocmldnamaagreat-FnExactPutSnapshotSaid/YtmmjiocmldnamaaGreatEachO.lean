/-
  Chapter 5: numbers of several lists, sorted, each once, by the program.
-/
import Derived.Lib.RowBridge
import Derived.Shelf.Slices.CompactI
import Derived.Shelf.Slices.In.SortNone
import Derived.Shelf.Sort.Plain
import Derived.Test.YtmmjiocmldnamaaGreatShelf2
import Derived.Test.YtmmjiocmldnamaaGreatSrtS
import Derived.Test.YtmmjiocmldnamaaGreatLstO
namespace Go.Proofs.YtmmjiocmldnamaaGreat
open Go.RowKit Go.Shelf Go.Sort

theorem put_take (cur : Array Value) (d : List Int) (k : Nat) (hk : k ≤ d.length) (hc : d.length ≤ cur.size) : (putCells (Value.int .i64) 0 d.toArray cur).toList.take k = nums (d.take k) := by
  apply List.ext_getElem?
  intro j
  by_cases hj : j < k
  · have hjc : j < cur.size := by omega
    have hjd : j < d.length := by omega
    rw [List.getElem?_take_of_lt hj, Array.getElem?_toList]
    simp [putCells, hjc, hjd, nums, hj]
  · rw [List.getElem?_take_eq_none (by omega), List.getElem?_eq_none (by simp [nums]; omega)]

theorem row_holds {w : World} {base g cap : Nat} {zs : List Int} (hrow : w.ownsRow base 3 1 (.slice (some ⟨g, 0, none⟩) zs.length cap) zs.length (nums zs)) : Holds (Value.int .i64) w g 0 zs.toArray := by
  intro j hj
  have hj' : j < zs.length := by simpa using hj
  have h1 := hrow.cellAt j (by omega)
  have h2 := hrow.frozenAt j
  refine ⟨?_, ?_⟩
  · rw [Nat.zero_add, h1]
    simp [nums, hj']
  · rw [Nat.zero_add]
    exact h2

theorem sortN_any (base g cap : Nat) (zs : List Int) (w : World) (hn : zs.length ≤ 1048577) (hrow : w.ownsRow base 3 1 (.slice (some ⟨g, 0, none⟩) zs.length cap) zs.length (nums zs)) :
    Calls Tryz.prog 76 #[.slice (some ⟨g, 0, none⟩) zs.length cap] w fun e w' => e = .returned (.tuple #[]) ∧ w'.ownsRow base 3 1 (.slice (some ⟨g, 0, none⟩) zs.length cap) zs.length (nums (zs.mergeSort fun x y => decide (x ≤ y))) ∧ w.grownBy w' (some g) := by
  have hH := row_holds hrow
  rcases hrow.2 with ⟨h, _⟩ | ⟨g', cap', cur, h, hbase, hb, h1, h2, h3, h4⟩
  · cases h
  · simp only [Value.slice.injEq, Option.some.injEq, Addr.mk.injEq, and_true, true_and] at h
    obtain ⟨rfl, rfl⟩ := h
    have hlt : g < w.heap.size := (Array.getElem?_eq_some_iff.1 hb).1
    refine (Any.slices_Sort_int Tryz.lays189 g 0 cap zs w hH hlt (by omega)).mono ?_
    rintro e w' ⟨rfl, n, os, rfl⟩
    have hsz : (zs.mergeSort fun x y => decide (x ≤ y)).length = zs.length := List.length_mergeSort _
    refine ⟨rfl, ⟨by simp [nums], .inr ⟨g, cap, putCells (Value.int .i64) 0 (zs.mergeSort fun x y => decide (x ≤ y)).toArray cur, rfl, hbase, ?_, h1, h2, by simp [putCells, h3], ?_⟩⟩, ?_⟩
    · rw [heap_grow_old _ _ (by simpa [putRow, mapBlock, Sort.ahead] using hlt)]
      simp [putRow, mapBlock, Sort.ahead, Array.getElem?_modify, hb, onCells]
    · rw [Nat.mul_one, put_take cur _ zs.length (by omega) (by omega), List.take_of_length_le (by omega)]
    · refine ⟨rfl, rfl, rfl, ?_, fun k hk hne => ?_⟩
      · simp [putRow, mapBlock, Sort.ahead]
      · rw [heap_grow_old _ _ (by simpa [putRow, mapBlock, Sort.ahead] using hk)]
        have : g ≠ k := fun e => hne (by rw [e])
        simp [putRow, mapBlock, Sort.ahead, Array.getElem?_modify, this]

theorem compactN_any (base g cap : Nat) (zs : List Int) (w : World) (hn : zs.length ≤ 1048577) (hrow : w.ownsRow base 3 1 (.slice (some ⟨g, 0, none⟩) zs.length cap) zs.length (nums zs)) :
    Calls Tryz.prog 77 #[.slice (some ⟨g, 0, none⟩) zs.length cap] w fun e w' => ∃ v', e = .returned v' ∧ w'.ownsRow base 3 1 v' (Lib.compact zs).length (nums (Lib.compact zs)) ∧ w.grownBy w' (some g) := by
  have hH := row_holds hrow
  rcases hrow.2 with ⟨h, _⟩ | ⟨g', cap', cur, h, hbase, hb, h1, h2, h3, h4⟩
  · cases h
  · simp only [Value.slice.injEq, Option.some.injEq, Addr.mk.injEq, and_true, true_and] at h
    obtain ⟨rfl, rfl⟩ := h
    have hle := Lib.compact_length_le zs
    refine (Any.slices_Compact_int Tryz.lays20 g 0 cap zs w hH (by omega) h1).mono ?_
    rintro e w' ⟨rfl, n, rfl⟩
    have hsz : (Lib.compact zs ++ List.replicate (zs.length - (Lib.compact zs).length) 0).length = zs.length := by simp; omega
    refine ⟨_, rfl, ⟨by simp [nums], .inr ⟨g, cap, putCells (Value.int .i64) 0 (Lib.compact zs ++ List.replicate (zs.length - (Lib.compact zs).length) 0).toArray cur, rfl, hbase, ?_, by omega, h2, by simp [putCells, h3], ?_⟩⟩, ?_⟩
    · simp [putRow, mapBlock, Sort.ahead, Array.getElem?_modify, hb, onCells]
    · rw [Nat.mul_one, put_take cur _ _ (by omega) (by omega), List.take_left]
    · refine ⟨rfl, rfl, rfl, ?_, fun k hk hne => ?_⟩
      · simp [putRow, mapBlock, Sort.ahead]
      · have : g ≠ k := fun e => hne (by rw [e])
        simp [putRow, mapBlock, Sort.ahead, Array.getElem?_modify, this]

/-- The first k lists, one behind another. -/
def catT (ls : List (Value × List Int)) (k : Nat) : List Int := (ls.take k).flatMap (fun p => p.2)
theorem catT_zero (ls : List (Value × List Int)) : catT ls 0 = [] := by simp [catT]
theorem catT_succ {ls : List (Value × List Int)} {k : Nat} (h : k < ls.length) : catT ls (k + 1) = catT ls k ++ ls[k].2 := by
  unfold catT
  rw [List.take_succ_eq_append_getElem h, List.flatMap_append]
  simp
theorem catT_le (ls : List (Value × List Int)) : ∀ k, k ≤ ls.length → (catT ls k).length ≤ (catT ls ls.length).length := by
  intro k hk
  unfold catT
  rw [List.take_length]
  conv => rhs; rw [← List.take_append_drop k ls, List.flatMap_append, List.length_append]
  omega
theorem grownN (w : World) (n : Nat) (hn : 0 < n) (hm : n ≤ 1048577) : (w.drew.alloc (.cells (([] : List Value).toArray ++ Builtin.zeroCells (Value.int .i64 0).cells (0 + n - 0) ++ Builtin.zeroCells (Value.int .i64 0).cells (grownCap w (0 + n) 0 3 - (0 + n))) 3)).ownsRow w.heap.size 3 1 (.slice (some ⟨w.heap.size, 0, none⟩) 0 (grownCap w (0 + n) 0 3)) 0 [] := by
  have h1 := grownCap_ge w (0 + n) 0 3
  have h2 := grownCap_le_maxLen w (0 + n) 0 3 (by unfold maxLen; omega)
  refine ⟨by simp, .inr ⟨w.heap.size, _, _, rfl, Nat.le_refl _, by show (w.heap.push _)[w.heap.size]? = _; rw [Array.getElem?_push_size], Nat.zero_le _, h2, ?_, by simp⟩⟩
  have h3 : n ≤ grownCap w n 0 3 := by simpa using h1
  simp [Builtin.zeroCells, Value.cells]
  omega

theorem growN_any (n : Nat) (w : World) (hm : n ≤ 1048577) :
    Calls Tryz.prog 97 #[.slice none 0 0, .int .i64 n] w fun e w' => ∃ v', e = .returned v' ∧ w'.ownsRow w.heap.size 3 1 v' 0 [] ∧ Below w.heap.size w w' := by
  obtain ⟨iw, hiw, hw0, hw1, hw2⟩ := info_parts infoInt
  by_cases h0 : n = 0
  · subst h0
    refine (Any8.slices_Grow_room Tryz.growIn none 0 0 0 w (Nat.le_refl _) (by omega) (by omega) (by omega)).mono ?_
    rintro e w' ⟨rfl, rfl⟩
    exact ⟨_, rfl, World.ownsRow_nil _ _ _ _, Below.refl _ _⟩
  · refine (Any8.slices_Grow_grow Tryz.growIn iw _ hiw hw0 (by omega) none 0 0 n [] w (Nat.le_refl _) (by omega) (by rw [hw2]; omega) (by omega) (by simp) (fun _ => rfl) (fun a h => by cases h)).mono ?_
    rintro e w' ⟨rfl, rfl⟩
    exact ⟨_, rfl, grownN w n (by omega) hm, ((Below.refl _ w).drew).alloc (Nat.le_refl _) _⟩

set_option maxHeartbeats 4000000 in
set_option maxRecDepth 100000 in
theorem concat_any (b : Nat) (ls : List (Value × List Int)) (w : World) (hsum : (catT ls ls.length).length ≤ 1000) (hn : ls.length ≤ 2) (hc : ∀ j (h : j < ls.length), w.cell? ⟨b, j, none⟩ = some ls[j].1) (hb : b < w.heap.size) (hr : ∀ j (h : j < ls.length), NuR w ls[j].1 ls[j].2) :
    Calls Tryz.prog 75 #[.slice (some ⟨b, 0, none⟩) ls.length ls.length] w fun e w' => ∃ v', e = .returned v' ∧ w'.ownsRow w.heap.size 3 1 v' (catT ls ls.length).length (nums (catT ls ls.length)) ∧ Below w.heap.size w w' := by
  obtain ⟨iw, hiw, hw0, hw1, hw2⟩ := info_parts infoInt
  have HC := hid hc
  have HRR := hid hr
  clear hc hr
  go_enter Tryz.func75, Tryz.ntmps75
  go_wp2
  go_loopw [3, 11] (fun s i wr => ∃ k : Nat, k ≤ ls.length ∧ i = .int .i64 k ∧ s = .int .i64 ((catT ls k).length : Nat) ∧ wr = w) (fun _ i _ => ls.length - (intOf i).toNat)
  case atStart => exact ⟨0, Nat.zero_le _, rfl, by rw [catT_zero]; rfl, rfl⟩
  case round =>
    obtain ⟨k, hk, rfl, rfl, rfl⟩ := hrel
    by_cases hlt : k < ls.length
    · have q0 := HC.out k hlt
      obtain ⟨a, cap, hv⟩ := (HRR.out k hlt).len
      rw [hv] at q0
      have hle2 := catT_le ls (k + 1) hlt
      have HSU := hid (show (catT ls (k + 1)).length = (catT ls k).length + ls[k].2.length by rw [catT_succ hlt, List.length_append])
      have hnm : (catT ls k).length + ls[k].2.length ≤ 1000 := by have := HSU.out; omega
      clear hle2 hv
      generalize (catT ls k).length = n at *
      generalize ls[k].2.length = m at *
      have hww : IntKind.i64.wrap ((n : Int) + (m : Int)) = (n : Int) + (m : Int) := by rw [IntKind.wrap_i64]; omega
      have hng : decide ((n : Int) + (m : Int) < 0) = false := by simp; omega
      go_wp2_with fail
      go_roundw
      case rel => exact ⟨k + 1, by omega, by go_num, by rw [HSU.out]; go_num, by trivial⟩
      case measure => simp [intOf]; omega
    · obtain rfl : k = ls.length := by omega
      clear hk hlt
      have HS := hid hsum
      obtain ⟨N, HNN⟩ : ∃ N, Hid (N = (catT ls ls.length).length) := ⟨_, hid rfl⟩
      rw [← HNN.out]
      go_wp2_with fail
      refine (growN_any N _ (by have := HS.out; have := HNN.out; omega)).mono ?_
      rintro e w6 ⟨v6, rfl, o6, hB6⟩
      obtain ⟨w0, hw0e⟩ : ∃ w0, w0 = wr := ⟨_, rfl⟩
      subst hw0e
      clear hsum
      go_wp2_with fail
      go_loopw [6, 27] (fun o i wq => ∃ k : Nat, k ≤ ls.length ∧ i = .int .i64 k ∧ wq.ownsRow w0.heap.size 3 1 o (catT ls k).length (nums (catT ls k)) ∧ Below w0.heap.size w0 wq) (fun _ i _ => ls.length - (intOf i).toNat)
      case atStart => exact ⟨0, Nat.zero_le _, rfl, by rw [catT_zero]; exact o6, hB6⟩
      case round =>
        obtain ⟨k, hk, rfl, ho, hB⟩ := hrel
        by_cases hlt : k < ls.length
        · have q0 := (hB.cell (p := ⟨b, k, none⟩) hb).trans (HC.out k hlt)
          have hnr := (HRR.out k hlt).below hB
          have HSU := hid (catT_succ hlt)
          have hle2 := catT_le ls (k + 1) hlt
          have hnm : (catT ls k).length + ls[k].2.length ≤ 1000 := by have := congrArg List.length HSU.out; rw [List.length_append] at this; have := HS.out; omega
          clear hle2
          generalize catT ls k = l at *
          generalize ls[k].1 = u at *
          generalize ls[k].2 = zs at *
          go_wp2_with (at_builtin; refine wpList_append_read rfl _ _ 24 rfl w0.heap.size 3 iw _ 1 8 Tryz.underlying24 hiw hw0 hw1 hw2 rfl (by decide) _ _ _ _ _ _ rfl ho rfl (NuR.src hnr) ones_n (by unfold maxLen; omega) (by omega) hB.size ?_)
          intro v7 w7 o7 g7
          go_wp2_with fail
          go_roundw
          case rel => exact ⟨k + 1, by omega, by go_num, by rw [HSU.out, List.length_append]; simpa [nums] using o7, hB.grown g7 hB.size (fun k e => (ho.lt k e).1)⟩
          case measure => simp [intOf]; omega
        · obtain rfl : k = ls.length := by omega
          go_wp2_with fail
          go_ret
          exact ⟨_, rfl, ho, hB⟩

set_option maxHeartbeats 4000000 in
set_option maxRecDepth 100000 in
/-- The program's numbers of several lists, sorted, each once. -/
theorem eachOnce_any (b : Nat) (ls : List (Value × List Int)) (w : World) (hsum : (catT ls ls.length).length ≤ 1000) (hn : ls.length ≤ 2) (hc : ∀ j (h : j < ls.length), w.cell? ⟨b, j, none⟩ = some ls[j].1) (hb : b < w.heap.size) (hr : ∀ j (h : j < ls.length), NuR w ls[j].1 ls[j].2) :
    Calls Tryz.prog 46 #[.slice (some ⟨b, 0, none⟩) ls.length ls.length] w fun e w' => ∃ v', e = .returned v' ∧ w'.ownsRow w.heap.size 3 1 v' (srN (catT ls ls.length)).length (nums (srN (catT ls ls.length))) ∧ Below w.heap.size w w' := by
  have HC := hid (concat_any b ls w hsum hn hc hb hr)
  clear hc hr
  generalize catT ls ls.length = zs at *
  go_enter Tryz.func46, Tryz.ntmps46
  go_wp2_with fail
  refine HC.out.mono ?_
  rintro e w1 ⟨v1, rfl, o1, hB1⟩
  have HZ := hid (compact_sorted zs)
  rcases row_form o1 with ⟨rfl, h0⟩ | ⟨g, cp, rfl, hg, hcp⟩
  · obtain rfl : zs = [] := List.eq_nil_of_length_eq_zero h0
    go_wp2_with fail
    refine (Any.slices_Sort_int_none Tryz.lays189 none 0 _).mono ?_
    rintro e w2 ⟨rfl, rfl⟩
    go_wp2_with fail
    refine (Any.slices_Compact_int_empty Tryz.lays20 none 0 _).mono ?_
    rintro e w3 ⟨rfl, rfl⟩
    go_wp2_with fail
    go_ret
    exact ⟨_, rfl, World.ownsRow_nil _ _ _ _, hB1⟩
  · have hms : (zs.mergeSort fun x y => decide (x ≤ y)).length = zs.length := List.length_mergeSort _
    go_wp2_with fail
    refine (sortN_any _ g cp zs _ (by omega) o1).mono ?_
    rintro e w2 ⟨rfl, o2, g2⟩
    have hB2 := hB1.grown g2 hB1.size (fun k e => by simp at e; omega)
    rw [← hms] at o2
    have HMS := hid hms
    rw [← hms]
    clear hms
    generalize (zs.mergeSort fun x y => decide (x ≤ y)) = ds at *
    go_wp2_with fail
    refine (compactN_any _ g cp ds _ (by have := HMS.out; omega) o2).mono ?_
    rintro e w3 ⟨v3, rfl, o3, g3⟩
    rw [HZ.out] at o3
    have hB3 := hB2.grown g3 hB2.size (fun k e => by simp at e; omega)
    go_wp2_with fail
    go_ret
    exact ⟨_, rfl, o3, hB3⟩

end Go.Proofs.YtmmjiocmldnamaaGreat
