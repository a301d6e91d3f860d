/-
  Chapter 3: what is signed, by the specification and by the program.
-/
import Derived.Test.YtecgonopefeplaaGreatDoorTextT
import Derived.Test.YtecgonopefeplaaGreatDoorListV
namespace Go.Proofs.YtecgonopefeplaaGreatDoor
open Go.RowKit Go.Shelf

/-- The texts of the first links. -/
def sgTo (ks : List Lk) (n : Nat) : List ByteArray := (List.range n).map (fun i => tkT (ks.take (i + 1)))
theorem sgTo_succ (ks : List Lk) (n : Nat) : sgTo ks (n + 1) = sgTo ks n ++ [tkT (ks.take (n + 1))] := by
  unfold sgTo
  rw [List.range_succ, List.map_append]
  rfl
theorem sgTo_len (ks : List Lk) (n : Nat) : (sgTo ks n).length = n := by simp [sgTo]
/-- What is signed of a token. -/
def sigL (ks : List Lk) : List ByteArray := if tkB ks = true then sgTo ks ks.length else []
theorem sigL_yes {ks : List Lk} (h : tkB ks = true) : sigL ks = sgTo ks ks.length := if_pos h
theorem sigL_no {ks : List Lk} (h : tkB ks = false) : sigL ks = [] := if_neg (by rw [h]; exact Bool.false_ne_true)
theorem sigL_le (ks : List Lk) : (sigL ks).length ≤ ks.length := by
  unfold sigL
  split
  · rw [sgTo_len]
    exact Nat.le_refl _
  · exact Nat.zero_le _
theorem row_base3 {w : World} {base base' : Nat} {e : TypeId} {size n : Nat} {v : Value} {xs : List Value} (hb : base' ≤ base) (h : w.ownsRow base e size v n xs) : w.ownsRow base' e size v n xs := by
  refine ⟨h.1, h.2.imp id ?_⟩
  rintro ⟨g, cap, cur, hv, hg, hrest⟩
  exact ⟨g, cap, cur, hv, Nat.le_trans hb hg, hrest⟩

set_option maxHeartbeats 2000000 in
theorem implSignedOf_any (v : Value) (ks : List Lk) (w : World) (hm : ks.length ≤ 1048577) (hf : ∀ k ∈ ks, k.size ≤ 1048576) (hr : LkS w v ks) (ht : Tab w) :
    Calls Tryz.prog 8 #[v] w fun e w' => ∃ v', e = .returned (.tuple #[v', .bool (tkB ks)]) ∧ w'.ownsRow w.heap.size 9 1 v' (sigL ks).length (strs (sigL ks)) ∧ Below w.heap.size w w' := by
  obtain ⟨a, cap, rfl⟩ := hr.len
  obtain ⟨i0, hi, hz0, hz1, hz2⟩ := info_parts infoStr
  have HTB := hid ht
  clear ht
  cases hg : tkB ks
  · have HC := hid (sigL_no hg)
    go_enter Tryz.func8, Tryz.ntmps8
    go_wp2_with fail
    refine (implGoodToken_any _ ks _ hm hf hr).mono ?_
    rintro e w1 ⟨rfl, hB1⟩
    rw [hg]
    go_wp2_with fail
    go_ret2
    exact ⟨_, rfl, by rw [HC.out]; exact World.ownsRow_nil _ _ _ _, hB1⟩
  · have HC := hid (sigL_yes hg)
    have hgd := tkB_good hg
    go_enter Tryz.func8, Tryz.ntmps8
    go_wp2_with fail
    refine (implGoodToken_any _ ks _ hm hf hr).mono ?_
    rintro e w1 ⟨rfl, hB1⟩
    rw [hg]
    have hr1 := hr.below hB1
    clear hr
    go_wp2_with fail
    go_loopw [4, 11] (fun out i wr => ∃ n : Nat, n ≤ ks.length ∧ i = .int .i64 n ∧ wr.ownsRow w1.heap.size 9 1 out (sgTo ks n).length (strs (sgTo ks n)) ∧ Below w1.heap.size w1 wr) (fun _ i _ => ks.length - (intOf i).toNat)
    case atStart => exact ⟨0, Nat.zero_le _, rfl, World.ownsRow_nil _ _ _ _, Below.refl _ _⟩
    case round =>
      obtain ⟨n, hn, rfl, hrow, hB⟩ := hrel
      by_cases hlt : n < ks.length
      · have hrB := hr1.below hB
        obtain ⟨b, off, rfl, hb, hcap, q0, q1, q2, q3, q4⟩ := hrB.at hlt
        have HT := hid (sgTo_succ ks n)
        have hln := sgTo_len ks n
        have hrT := hrB.take (n + 1) cap (by omega) (by omega)
        have hgT : ∀ k ∈ ks.take (n + 1), k.good = true := fun k hk => hgd k (List.mem_of_mem_take hk)
        have hfT : ∀ k ∈ ks.take (n + 1), k.size ≤ 1048576 := fun k hk => hf k (List.mem_of_mem_take hk)
        have hmT : (ks.take (n + 1)).length ≤ 1048577 := by rw [List.length_take]; omega
        have hc1 : (n : Int) + 1 ≤ (cap : Int) := by omega
        clear q0 q1 q2 q3 q4
        go_wp2_with fail
        refine (textOfToken_any _ (ks.take (n + 1)) _ hmT hgT hfT hrT (HTB.out.on (below_one hB1 hB))).mono ?_
        rintro e w2 ⟨rfl, hB2⟩
        have hrow2 := ownsRow_below hrow hB2
        have hBB := below_one hB hB2
        have hz3 := hBB.size
        generalize tkT (ks.take (n + 1)) = x at *
        clear hrow hB hB2 hrB hrT hgT hfT hmT
        go_wp2_with (at_builtin; refine wpList_append_own _ rfl _ _ 29 rfl w1.heap.size 9 i0 (.string ByteArray.empty) 1 16 Tryz.underlying29 hi hz0 hz1 hz2 rfl (by decide) _ _ _ rfl (hrow2.alloc _) ⟨w2.heap.size, 0, none⟩ 1 1 [.string x] rfl rfl (cell_one_new _ _ _) (by simp [Value.oneCell']) (by simp [maxLen]; omega) (by omega) (by simp; omega) ?_; intro v' w3 hown' hgrow _; obtain ⟨g', cap', rfl⟩ := ownsRow_succ hown')
        go_roundw
        case rel =>
          refine ⟨n + 1, by omega, by go_num, ?_, hBB.trans (below_appended hz3 hrow2 hgrow)⟩
          rw [HT.out]
          simpa [strs, hln] using hown'
        case measure => simp [intOf]; omega
      · obtain rfl : n = ks.length := by omega
        go_wp2
        go_ret2
        exact ⟨_, rfl, by rw [HC.out]; exact row_base3 hB1.size hrow, below_one hB1 hB⟩

end Go.Proofs.YtecgonopefeplaaGreatDoor
