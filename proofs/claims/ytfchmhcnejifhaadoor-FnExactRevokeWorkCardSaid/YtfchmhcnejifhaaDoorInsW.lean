/-
  slices.Insert of one element into a list of one's own.
-/
import Derived.Test.YtfchmhcnejifhaaDoorInsK
namespace Go.Proofs.YtfchmhcnejifhaaDoor
open Go.RowKit Go.Shelf Go.Lib

set_option maxHeartbeats 4000000 in
set_option maxRecDepth 100000 in
/-- At the end. -/
theorem insEnd_w (base n vb : Nat) (v : Value) (xs ks : List Value) (w : World) (hn : n ≤ 1000000) (hbase : base ≤ w.heap.size) (hks : ks.length = 3) (h1k : ∀ u ∈ ks, u.oneCell' = true)
    (hvb : w.heap[vb]? = some (.cells ks.toArray 48 (0, 0))) (h : w.ownsRow base 48 3 v n xs) :
    Calls Tryd.prog 29 #[v, .int .i64 n, .slice (some ⟨vb, 0, none⟩) 1 1] w fun e w' => ∃ v', e = .returned v' ∧ w'.ownsRow base 48 3 v' (n + 1) (xs ++ ks) ∧ w.grownBy w' v.ownBlock := by
  obtain ⟨i0, hi, hz0, hz1, hz2⟩ := info_parts infoWork
  have hnews : ∀ j u, ks[j]? = some u → w.cell? ((⟨vb, 0, none⟩ : Addr).add j) = some u := fun j u hu => by
    rw [Addr.add_lit, Nat.zero_add]
    simp only [World.cell?, hvb]
    simpa using hu
  rcases row_form h with ⟨rfl, rfl⟩ | ⟨g, cap, rfl, hg, hcap⟩
  · go_enter Tryd.func29, Tryd.ntmps29
    go_wp2_with (at_builtin; refine wpList_append_own _ rfl _ _ 28 rfl base 48 i0 _ 3 32 Tryd.underlying28 hi hz0 hz1 hz2 rfl (by decide) _ _ _ rfl h ⟨vb, 0, none⟩ 1 1 ks rfl (by rw [hks]) hnews h1k (by unfold maxLen; omega) (by omega) hbase ?_)
    intro v' w' ho hgr _
    go_wp2_with fail
    go_ret
    exact ⟨_, rfl, ho, hgr⟩
  · have hcl : (n : Int) ≤ (n : Int) := Int.le_refl _
    go_enter Tryd.func29, Tryd.ntmps29
    go_wp2_with (at_builtin; refine wpList_append_own _ rfl _ _ 28 rfl base 48 i0 _ 3 32 Tryd.underlying28 hi hz0 hz1 hz2 rfl (by decide) _ _ _ rfl h ⟨vb, 0, none⟩ 1 1 ks rfl (by rw [hks]) hnews h1k (by unfold maxLen; omega) (by omega) hbase ?_)
    all_goals intro v' w' ho hgr _
    all_goals go_wp2_with fail
    all_goals go_ret
    all_goals exact ⟨_, rfl, ho, hgr⟩

set_option maxHeartbeats 4000000 in
set_option maxRecDepth 100000 in
/-- Ahead of others, where there is room. -/
theorem insRoom_w (base n i g cap vb : Nat) (xs ks : List Value) (w : World) (hn : n ≤ 1000000) (hi : i < n) (hroom : n + 1 ≤ cap) (hks : ks.length = 3) (h1 : ∀ u ∈ xs, u.oneCell' = true) (h1k : ∀ u ∈ ks, u.oneCell' = true)
    (hvb : w.heap[vb]? = some (.cells ks.toArray 48 (0, 0))) (hne : vb ≠ g) (h : w.ownsRow base 48 3 (.slice (some ⟨g, 0, none⟩) n cap) n xs) :
    Calls Tryd.prog 29 #[.slice (some ⟨g, 0, none⟩) n cap, .int .i64 i, .slice (some ⟨vb, 0, none⟩) 1 1] w fun e w' => ∃ v', e = .returned v' ∧ w'.ownsRow base 48 3 v' (n + 1) (xs.take (i * 3) ++ ks ++ xs.drop (i * 3)) ∧ w.grownBy w' (some g) := by
  obtain ⟨i0, hi0, hz0, hz1, hz2⟩ := info_parts infoWork
  have hsz : (Tryd.prog.info? 48).map (·.size) = some 3 := by rw [hi0]; simp [hz1]
  obtain ⟨cur, hb, hg, hcm, hcs, htk⟩ : ∃ cur, base ≤ g ∧ w.heap[g]? = some (.cells cur 48 (0, 0)) ∧ cap ≤ maxLen ∧ cur.size = cap * 3 ∧ cur.toList.take (n * 3) = xs := by
    rcases h.2 with ⟨h, _⟩ | ⟨g', cap', cur, hv, h1, h2, h3, h4, h5, h6⟩
    · simp at h
    · simp at hv
      obtain ⟨rfl, rfl⟩ := hv
      exact ⟨cur, h1, h2, h4, h5, h6⟩
  have hxl : xs.length = n * 3 := h.1
  unfold maxLen at hcm
  have hov : ∀ (W : World), (∀ k : Nat, W.heap[k]? = w.heap[k]?) → ∀ lb cb, (callFunc 57 #[.slice (some ⟨vb, 0, none⟩) 1 1, .slice (some ⟨g, (i + 1) * 3, none⟩) lb cb]).run Tryd.prog W = .ok (.value (.bool false)) W := fun W hW lb cb => by
    rw [run_callFunc_extern Tryd.func57 (by kernel_rfl) (by kernel_rfl) (by kernel_rfl) (e := Extern.SlicesOverlaps.overlaps #[28, 28] #[4]) (by kernel_rfl),
      Lib.run_overlaps_apart W 28 4 48 Tryd.underlying28 3 Tryd.sizeOf48 ⟨vb, 0, none⟩ ⟨g, (i + 1) * 3, none⟩ 1 1 lb cb hne 48 48 3 (cap * 3) (by simp [World.shape?, hW, hvb, hks]) (by simp [World.shape?, hW, hg, hcs]) (by omega) (by simp [World.frozen?, hW, hvb]) (by simp [World.frozen?, hW, hvb])]
    rfl
  have hov0 := hov w (fun _ => rfl)
  have mixed : Tryd.prog.follows .mixedOrders = true := by kernel_rfl
  have hz3 : ¬ ((i : Int) = (n : Int)) := by omega
  have hz4 : ¬ ((cap : Int) < (n : Int) + 1) := by omega
  have hw1 : IntKind.i64.wrap ((i : Int) + 1) = (i : Int) + 1 := by rw [IntKind.wrap_i64]; omega
  have hw2 : IntKind.i64.wrap ((n : Int) + 1) = (n : Int) + 1 := by rw [IntKind.wrap_i64]; omega
  have hb1 : (0 : Int) ≤ (i : Int) + 1 := by omega
  have hb0 : (0 : Int) ≤ (n : Int) + 1 := by omega
  have htn : ((i : Int) + 1).toNat = i + 1 := by omega
  have htn2 : ((n : Int) + 1).toNat = n + 1 := by omega
  have hb2 : ¬ (cap = i + 1) := by omega
  have hb3 : (i : Int) ≤ (n : Int) + 1 := by omega
  have hb4 : ¬ (cap = i) := by omega
  have hb5 : (i : Int) + 1 ≤ (n : Int) + 1 := by omega
  have hb6 : (n : Int) + 1 ≤ (cap : Int) := by omega
  have hb7 : (i : Int) ≤ (n : Int) := by omega
  have hdl : (xs.drop (i * 3)).length = (n - i) * 3 := by rw [List.length_drop, hxl, Nat.sub_mul]
  have hcp1 : ∀ ty dc sc, (Builtin.copy_ #[28, 28] ty #[.slice (some ⟨g, (i + 1) * 3, none⟩) (n - i) dc, .slice (some ⟨g, i * 3, none⟩) (n + 1 - i) sc]).run Tryd.prog w.drew = .ok (goInt (Nat.min (n + 1 - i) (n - i))) (w.drew.setRow g (cur.toList.take ((i + 1) * 3) ++ xs.drop (i * 3) ++ cur.toList.drop ((i + 1) * 3 + (xs.drop (i * 3)).length)).toArray) := fun ty dc sc =>
    run_copy_k w.drew 28 28 ty 48 3 g ((i + 1) * 3) (n - i) dc ⟨g, i * 3, none⟩ (n + 1 - i) sc cur 48 (xs.drop (i * 3)) Tryd.underlying28 hsz hg
      (by rw [hdl]; congr 1; simp only [Nat.min_def]; split <;> omega)
      (fun j u hj => by
        rw [Addr.add_lit]
        rw [List.getElem?_drop] at hj
        have hlt := (List.getElem?_eq_some_iff.1 hj).1
        have hc := h.cellAt (i * 3 + j) (by omega)
        exact hc.trans hj)
      (by rw [hdl, hcs]; have : (i + 1) * 3 + (n - i) * 3 = (n + 1) * 3 := by rw [← Nat.add_mul]; congr 1; omega
          have := Nat.mul_le_mul_right 3 hroom; omega)
      (fun u hu => h1 u (List.mem_of_mem_drop hu))
  generalize hR : cur.toList.take ((i + 1) * 3) ++ xs.drop (i * 3) ++ cur.toList.drop ((i + 1) * 3 + (xs.drop (i * 3)).length) = R1 at *
  have hRl : R1.length = cap * 3 := by
    rw [← hR]
    have : (i + 1) * 3 + (n - i) * 3 = (n + 1) * 3 := by rw [← Nat.add_mul]; congr 1; omega
    have := Nat.mul_le_mul_right 3 hroom
    simp [hdl, hcs]
    omega
  have hcp2 : ∀ (W : World), W.heap[g]? = some (.cells R1.toArray 48 (0, 0)) → (∀ j : Nat, W.cell? ⟨vb, j, none⟩ = w.cell? ⟨vb, j, none⟩) → ∀ ty dc, (Builtin.copy_ #[28, 28] ty #[.slice (some ⟨g, i * 3, none⟩) (n + 1 - i) dc, .slice (some ⟨vb, 0, none⟩) 1 1]).run Tryd.prog W = .ok (goInt (Nat.min 1 (n + 1 - i))) (W.setRow g (R1.take (i * 3) ++ ks ++ R1.drop (i * 3 + ks.length)).toArray) := fun W hWg hWv ty dc => by
    have := run_copy_k W 28 28 ty 48 3 g (i * 3) (n + 1 - i) dc ⟨vb, 0, none⟩ 1 1 R1.toArray 48 ks Tryd.underlying28 hsz hWg
      (by rw [hks, show Nat.min 1 (n + 1 - i) = 1 by simp only [Nat.min_def]; split <;> omega])
      (fun j u hj => by
        rw [Addr.add_lit, Nat.zero_add, hWv]
        simp only [World.cell?, hvb]
        simpa using hj)
      (by have := Nat.mul_le_mul_right 3 hroom; have := Nat.mul_le_mul_right 3 hi; simp [hRl, hks]; omega)
      h1k
    simpa using this
  have hg1 : (w.drew.setRow g R1.toArray).heap[g]? = some (.cells R1.toArray 48 (0, 0)) := setRow_heap w.drew g cur R1.toArray 48 (0, 0) hg
  have hv1 : ∀ j : Nat, (w.drew.setRow g R1.toArray).cell? ⟨vb, j, none⟩ = w.cell? ⟨vb, j, none⟩ := fun j => cell_setRow_other w.drew g R1.toArray ⟨vb, j, none⟩ hne
  have hfin := hcp2 (w.drew.setRow g R1.toArray) hg1 hv1
  clear hcp2
  go_enter Tryd.func29, Tryd.ntmps29
  go_wp2_with (simp only [hov0])
  go_region_law_o (refine step_copy_runI rfl _ _ 28 28 rfl _ _ (by simp [Act.eval, Act.put]) (by simp [Act.eval, Act.put]) (hcp1 _ _ _) ?_)
  go_wp2_with (at_builtin; refine wpList_copy_runI _ rfl _ _ 28 28 rfl _ _ rfl rfl (hfin _ _) ?_)
  go_ret
  refine ⟨_, rfl, ⟨?_, .inr ⟨g, cap, (R1.take (i * 3) ++ (ks ++ R1.drop (i * 3 + 3))).toArray, rfl, hb, setRow_heap (w.drew.setRow g R1.toArray) g R1.toArray _ 48 (0, 0) hg1, hroom, by unfold maxLen; omega, ?_, ?_⟩⟩, ?_⟩
  · have := Nat.mul_le_mul_right 3 hi
    simp [hks, hxl]
    omega
  · have := Nat.mul_le_mul_right 3 hroom
    have := Nat.mul_le_mul_right 3 hi
    simp [hRl, hks]
    omega
  · have := put_in cur.toList xs ks (i * 3) 3 (n * 3) hks (by have := Nat.mul_le_mul_right 3 hi; omega) htk (by have := Nat.mul_le_mul_right 3 hroom; simp [hcs]; omega)
    rw [show i * 3 + 3 = (i + 1) * 3 by omega, show n * 3 + 3 = (n + 1) * 3 by omega, hR] at this
    simpa [hks, show i * 3 + 3 = (i + 1) * 3 by omega] using this
  · exact ⟨rfl, rfl, rfl, by simp, fun k _ hk => (setRow_other _ g k _ (fun e => hk (by rw [e]))).trans (setRow_other w.drew g k _ (fun e => hk (by rw [e])))⟩

set_option maxHeartbeats 4000000 in
set_option maxRecDepth 100000 in
/-- Ahead of others, where there is no room. -/
theorem insGrow_w (base n i g cap vb : Nat) (xs ks : List Value) (w : World) (hn : n ≤ 1000000) (hi : i < n) (hroom : cap < n + 1) (hbase : base ≤ w.heap.size) (hks : ks.length = 3) (h1 : ∀ u ∈ xs, u.oneCell' = true) (h1k : ∀ u ∈ ks, u.oneCell' = true)
    (hvb : w.heap[vb]? = some (.cells ks.toArray 48 (0, 0))) (h : w.ownsRow base 48 3 (.slice (some ⟨g, 0, none⟩) n cap) n xs) :
    Calls Tryd.prog 29 #[.slice (some ⟨g, 0, none⟩) n cap, .int .i64 i, .slice (some ⟨vb, 0, none⟩) 1 1] w fun e w' => ∃ v', e = .returned v' ∧ w'.ownsRow base 48 3 v' (n + 1) (xs.take (i * 3) ++ ks ++ xs.drop (i * 3)) ∧ w.grownBy w' (some g) := by
  obtain ⟨i0, hi0, hz0, hz1, hz2⟩ := info_parts infoWork
  have hsz : (Tryd.prog.info? 48).map (·.size) = some 3 := by rw [hi0]; simp [hz1]
  have hnc : n ≤ cap := by
    rcases row_form h with ⟨h, _⟩ | ⟨g', cap', hv, _, hc⟩
    · simp at h
    · simp at hv
      omega
  have hxl : xs.length = n * 3 := h.1
  have hgw : g < w.heap.size := (h.lt g rfl).2
  have hvw : vb < w.heap.size := (Array.getElem?_eq_some_iff.1 hvb).1
  have hcx : ∀ j u, xs[j]? = some u → w.cell? ⟨g, j, none⟩ = some u := fun j u hu => by
    have hlt := (List.getElem?_eq_some_iff.1 hu).1
    exact (h.cellAt j (by omega)).trans hu
  have htl : (xs.take (i * 3)).length = i * 3 := by rw [List.length_take]; omega
  have hold : (Builtin.firstCells i0.size i (.slice (some ⟨g, 0, none⟩) i cap)).run Tryd.prog w.drew = .ok (xs.take (i * 3)).toArray w.drew := by
    rw [hz1]
    exact run_firstCells_some w.drew 3 i ⟨g, 0, none⟩ i cap (xs.take (i * 3)) htl (fun j u hj => by
      rw [Addr.add_lit, Nat.zero_add]
      rw [List.getElem?_take] at hj
      split at hj
      · exact hcx j u hj
      · cases hj)
  obtain ⟨G, hG⟩ : ∃ G, G = grownCap w (n + 1) cap 48 := ⟨_, rfl⟩
  have hGn : n + 1 ≤ G := by rw [hG]; exact grownCap_ge w _ _ _
  have hGm : G ≤ maxLen := by rw [hG]; exact grownCap_le_maxLen w (n + 1) cap 48 (by unfold maxLen; omega)
  have hkk : (n : Int) + 1 - (i : Int) = ((n + 1 - i : Nat) : Int) := by omega
  have hrz : ∀ ty, (Builtin.append_ #[28, 3] ty #[.slice (some ⟨g, 0, none⟩) i cap, .int .i64 ((n : Int) + 1 - (i : Int))]).run Tryd.prog w =
      .ok (.slice (some ⟨w.heap.size, 0, none⟩) (n + 1) G) (w.drew.alloc (.cells ((xs.take (i * 3)).toArray ++ Builtin.zeroCells (.agg #[.string ByteArray.empty, .bool false, .int .i64 0] : Value).cells (n + 1 - i) ++ Builtin.zeroCells (.agg #[.string ByteArray.empty, .bool false, .int .i64 0] : Value).cells (G - (n + 1))) 48)) := fun ty => by
    have h := Lib.run_append_grow_zeros w 28 3 ty 48 i0 _ .i64 .i64 Tryd.underlying28 Tryd.underlying3 hi0 hz0 (some ⟨g, 0, none⟩) i cap (xs.take (i * 3)) hold (n + 1 - i) (by omega) (by omega) (by omega) (by omega) (by rw [hz2]; omega) (by rw [hz2, show i + (n + 1 - i) = n + 1 by omega]; exact growslice_fits hroom (by omega))
    rw [show i + (n + 1 - i) = n + 1 by omega, ← hG] at h
    rw [hkk]
    exact h
  obtain ⟨ROW, hROW⟩ : ∃ ROW : Array Value, ROW = (xs.take (i * 3)).toArray ++ Builtin.zeroCells (.agg #[.string ByteArray.empty, .bool false, .int .i64 0] : Value).cells (n + 1 - i) ++ Builtin.zeroCells (.agg #[.string ByteArray.empty, .bool false, .int .i64 0] : Value).cells (G - (n + 1)) := ⟨_, rfl⟩
  rw [← hROW] at hrz
  have hRs : ROW.size = G * 3 := by
    rw [hROW]
    simp [Builtin.zeroCells, Value.cells, htl]
    omega
  have hRt : ROW.toList.take (i * 3) = xs.take (i * 3) := by
    rw [hROW]
    simp only [Array.toList_append, List.append_assoc]
    rw [List.take_append_of_le_length (by simp [htl]), List.take_of_length_le (by simp [htl])]
  have hdl : (xs.drop (i * 3)).length = (n - i) * 3 := by rw [List.length_drop, hxl, Nat.sub_mul]
  have hb : i * 3 + 3 + (n - i) * 3 = (n + 1) * 3 := by rw [show i * 3 + 3 = (i + 1) * 3 by omega, ← Nat.add_mul]; congr 1; omega
  have hGS := Nat.mul_le_mul_right 3 hGn
  have hcpA : ∀ (W : World), W.heap[w.heap.size]? = some (.cells ROW 48 (0, 0)) → (∀ j : Nat, W.cell? ⟨vb, j, none⟩ = w.cell? ⟨vb, j, none⟩) → ∀ ty dc, (Builtin.copy_ #[28, 28] ty #[.slice (some ⟨w.heap.size, i * 3, none⟩) (n + 1 - i) dc, .slice (some ⟨vb, 0, none⟩) 1 1]).run Tryd.prog W = .ok (goInt (Nat.min 1 (n + 1 - i))) (W.setRow w.heap.size (ROW.toList.take (i * 3) ++ ks ++ ROW.toList.drop (i * 3 + 3)).toArray) := fun W hWg hWv ty dc => by
    have := run_copy_k W 28 28 ty 48 3 w.heap.size (i * 3) (n + 1 - i) dc ⟨vb, 0, none⟩ 1 1 ROW 48 ks Tryd.underlying28 hsz hWg
      (by rw [hks, show Nat.min 1 (n + 1 - i) = 1 by simp only [Nat.min_def]; split <;> omega])
      (fun j u hj => by
        rw [Addr.add_lit, Nat.zero_add, hWv]
        simp only [World.cell?, hvb]
        simpa using hj)
      (by rw [hks, hRs]; omega) h1k
    rw [hks] at this
    exact this
  obtain ⟨R1, hR1⟩ : ∃ R1, R1 = ROW.toList.take (i * 3) ++ ks ++ ROW.toList.drop (i * 3 + 3) := ⟨_, rfl⟩
  rw [← hR1] at hcpA
  have hR1l : R1.length = G * 3 := by
    rw [hR1]
    simp [hks, hRs]
    omega
  have hcpB : ∀ (W : World), W.heap[w.heap.size]? = some (.cells R1.toArray 48 (0, 0)) → (∀ j : Nat, W.cell? ⟨g, j, none⟩ = w.cell? ⟨g, j, none⟩) → ∀ ty dc sc, (Builtin.copy_ #[28, 28] ty #[.slice (some ⟨w.heap.size, (i + 1) * 3, none⟩) (n - i) dc, .slice (some ⟨g, i * 3, none⟩) (n - i) sc]).run Tryd.prog W = .ok (goInt (Nat.min (n - i) (n - i))) (W.setRow w.heap.size (R1.take ((i + 1) * 3) ++ xs.drop (i * 3) ++ R1.drop ((i + 1) * 3 + (xs.drop (i * 3)).length)).toArray) := fun W hWg hWv ty dc sc => by
    have := run_copy_k W 28 28 ty 48 3 w.heap.size ((i + 1) * 3) (n - i) dc ⟨g, i * 3, none⟩ (n - i) sc R1.toArray 48 (xs.drop (i * 3)) Tryd.underlying28 hsz hWg
      (by rw [hdl]; congr 1; simp only [Nat.min_def]; split <;> omega)
      (fun j u hj => by
        rw [Addr.add_lit, hWv]
        rw [List.getElem?_drop] at hj
        exact hcx _ u hj)
      (by rw [hdl]; simp [hR1l]; omega) (fun u hu => h1 u (List.mem_of_mem_drop hu))
    simpa using this
  have mixed : Tryd.prog.follows .mixedOrders = true := by kernel_rfl
  have hz3 : ¬ ((i : Int) = (n : Int)) := by omega
  have hz4 : (cap : Int) < (n : Int) + 1 := by omega
  have hw1 : IntKind.i64.wrap ((i : Int) + 1) = (i : Int) + 1 := by rw [IntKind.wrap_i64]; omega
  have hw2 : IntKind.i64.wrap ((n : Int) + 1) = (n : Int) + 1 := by rw [IntKind.wrap_i64]; omega
  have hw3 : IntKind.i64.wrap ((n : Int) + 1 - (i : Int)) = (n : Int) + 1 - (i : Int) := by rw [IntKind.wrap_i64]; omega
  have hb1 : (0 : Int) ≤ (i : Int) + 1 := by omega
  have htn : ((i : Int) + 1).toNat = i + 1 := by omega
  have hb3 : (i : Int) ≤ (n : Int) + 1 := by omega
  have hb5 : (i : Int) + 1 ≤ (n : Int) + 1 := by omega
  have hb7 : (i : Int) ≤ (n : Int) := by omega
  have hb8 : (i : Int) ≤ (cap : Int) := by omega
  have hGi : ¬ (G = i) := by omega
  have hGim : ¬ (G = i + 1) := by omega
  have hci : ¬ (cap = i) := by omega
  have hgA : ((w.alloc (.cells ROW 48)).drew).heap[w.heap.size]? = some (.cells ROW 48 (0, 0)) := by show (w.heap.push _)[w.heap.size]? = _; rw [Array.getElem?_push_size]
  have hvA : ∀ j : Nat, ((w.alloc (.cells ROW 48)).drew).cell? ⟨vb, j, none⟩ = w.cell? ⟨vb, j, none⟩ := fun j => World.cell?_alloc_lt w _ ⟨vb, j, none⟩ hvw
  have hA := hcpA _ hgA hvA
  have hgB : (((w.alloc (.cells ROW 48)).drew.setRow w.heap.size R1.toArray).drew).heap[w.heap.size]? = some (.cells R1.toArray 48 (0, 0)) := setRow_heap _ w.heap.size ROW R1.toArray 48 (0, 0) hgA
  have hvB : ∀ j : Nat, (((w.alloc (.cells ROW 48)).drew.setRow w.heap.size R1.toArray).drew).cell? ⟨g, j, none⟩ = w.cell? ⟨g, j, none⟩ := fun j => (cell_setRow_other _ w.heap.size R1.toArray ⟨g, j, none⟩ (by simp; omega)).trans (World.cell?_alloc_lt w _ ⟨g, j, none⟩ hgw)
  have hB := hcpB _ hgB hvB
  have HR1 := hid hR1
  have HRt := hid hRt
  have HR1l := hid hR1l
  have HRs := hid hRs
  have HDL := hid hdl
  clear hcpA hcpB hkk hold hROW hR1 hRt hG hR1l hRs hdl htl
  go_enter Tryd.func29, Tryd.ntmps29
  go_wp2_with (first
    | (at_builtin; refine Lib.wpList_append_run _ rfl _ _ _ _ rfl _ _ rfl rfl _ _ (hrz _) ?_)
    | (at_builtin; refine wpList_copy_runI _ rfl _ _ 28 28 rfl _ _ rfl rfl (hA _ _) ?_))
  go_region_law_o (refine step_copy_runI rfl _ _ 28 28 rfl _ _ (by simp [Act.eval, Act.put]) (by simp [Act.eval, Act.put]) (hB _ _ _) ?_)
  go_wp2
  go_ret
  have hdl := HDL.out
  have hR1l := HR1l.out
  have hm1 := Nat.mul_le_mul_right 3 hi
  refine ⟨_, rfl, ⟨?_, .inr ⟨w.heap.size, G, (R1.take ((i + 1) * 3) ++ (xs.drop (i * 3) ++ R1.drop ((i + 1) * 3 + (n * 3 - i * 3)))).toArray, rfl, hbase, setRow_heap _ w.heap.size R1.toArray _ 48 (0, 0) hgB, hGn, hGm, ?_, ?_⟩⟩, ?_⟩
  · simp [hks, hxl]
    omega
  · simp [hR1l, hxl]
    omega
  · have htl : (xs.take (i * 3)).length = i * 3 := by rw [List.length_take]; omega
    have := put_new ROW.toList (xs.take (i * 3)) ks (xs.drop (i * 3)) (i * 3) 3 htl hks HRt.out
    rw [← HR1.out, List.length_drop, hxl, show i * 3 + 3 = (i + 1) * 3 by omega, List.append_assoc, show (i + 1) * 3 + (n * 3 - i * 3) = (n + 1) * 3 by omega] at this
    rw [show (i + 1) * 3 + (n * 3 - i * 3) = (n + 1) * 3 by omega]
    simpa using this
  · exact ⟨rfl, rfl, rfl, by simp, fun k hk _ => (setRow_other _ w.heap.size k _ (by omega)).trans ((setRow_other _ w.heap.size k _ (by omega)).trans (Below.heap_alloc w _ k hk))⟩

/-- slices.Insert of one. -/
theorem insert_w (base n i vb : Nat) (v : Value) (xs ks : List Value) (w : World) (hn : n ≤ 1000000) (hi : i ≤ n) (hbase : base ≤ w.heap.size) (hks : ks.length = 3) (h1 : ∀ u ∈ xs, u.oneCell' = true) (h1k : ∀ u ∈ ks, u.oneCell' = true)
    (hvb : w.heap[vb]? = some (.cells ks.toArray 48 (0, 0))) (hne : v.ownBlock ≠ some vb) (h : w.ownsRow base 48 3 v n xs) :
    Calls Tryd.prog 29 #[v, .int .i64 i, .slice (some ⟨vb, 0, none⟩) 1 1] w fun e w' => ∃ v', e = .returned v' ∧ w'.ownsRow base 48 3 v' (n + 1) (xs.take (i * 3) ++ ks ++ xs.drop (i * 3)) ∧ w.grownBy w' v.ownBlock := by
  have hxl : xs.length = n * 3 := h.1
  by_cases he : i = n
  · subst he
    rw [List.take_of_length_le (by omega), List.drop_of_length_le (by omega), List.append_nil]
    exact insEnd_w base i vb v xs ks w hn hbase hks h1k hvb h
  · rcases row_form h with ⟨rfl, rfl⟩ | ⟨g, cap, rfl, hg, hcap⟩
    · omega
    · by_cases hr : n + 1 ≤ cap
      · exact insRoom_w base n i g cap vb xs ks w hn (by omega) hr hks h1 h1k hvb (fun e => hne (by rw [e]; rfl)) h
      · exact insGrow_w base n i g cap vb xs ks w hn (by omega) (by omega) hbase hks h1 h1k hvb h

end Go.Proofs.YtfchmhcnejifhaaDoor
