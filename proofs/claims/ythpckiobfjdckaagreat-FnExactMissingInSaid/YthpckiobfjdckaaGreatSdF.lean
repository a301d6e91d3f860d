/-
  Chapter 6: what lacks in a side, by both.
-/
import Derived.Test.YthpckiobfjdckaaGreatSdI
namespace Go.Proofs.YthpckiobfjdckaaGreat
open Go.RowKit Go.Shelf

/-- The places that a side has not, of the first k. -/
def miT (s : Sd) (k : Nat) : List Int := ((List.range k).filter (fun i => (s.ha[i]?).getD false == false)).map (fun i : Nat => (i : Int))
def miX (s : Sd) : List Int := if sdB s = true then miT s s.ha.length else []
theorem miX_no {s : Sd} (h : sdB s = false) : miX s = [] := if_neg (by rw [h]; exact Bool.false_ne_true)
theorem miX_yes {s : Sd} (h : sdB s = true) : miX s = miT s s.ha.length := if_pos h
theorem miT_len (s : Sd) (k : Nat) : (miT s k).length ≤ k := by
  unfold miT
  rw [List.length_map]
  have := List.length_filter_le (fun i => (s.ha[i]?).getD false == false) (List.range k)
  rwa [List.length_range] at this
theorem miT_no {s : Sd} {k : Nat} (h : k < s.ha.length) (hx : s.ha[k] = false) : miT s (k + 1) = miT s k ++ [(k : Int)] := by
  unfold miT
  rw [List.range_succ, List.filter_append, List.map_append]
  simp [h, hx]
theorem miT_yes {s : Sd} {k : Nat} (h : k < s.ha.length) (hx : s.ha[k] = true) : miT s (k + 1) = miT s k := by
  unfold miT
  rw [List.range_succ, List.filter_append, List.map_append]
  simp [h, hx]
theorem miX_len (s : Sd) : (miX s).length ≤ 230 := by
  unfold miX
  split
  · rename_i h
    have := (lnB_parts (sd_parts h).2.1).2.2
    have := miT_len s s.ha.length
    omega
  · simp

set_option maxHeartbeats 4000000 in
set_option maxRecDepth 100000 in
theorem l6Missing_any (v : Value) (s : Sd) (w : World) (hs : s.short) (h : SdA w v s) :
    Calls Tryz.prog 50 #[v] w fun e w' => ∃ u, e = .returned u ∧ w'.ownsRow w.heap.size 3 1 u (miT s s.ha.length).length (nums (miT s s.ha.length)) ∧ Below w.heap.size w w' := by
  have h' := h
  obtain ⟨vp, vr, vu, vh, vs, rfl, h1, h2, h3, h4, h5⟩ := h
  have hs' := hs
  obtain ⟨hf, l3, l4, l5, lr⟩ := hs
  obtain ⟨ap, cp, rfl⟩ := h1.len
  obtain ⟨ar, cr, rfl⟩ := h2.numLen
  obtain ⟨au, cu, rfl⟩ := h3.len
  obtain ⟨ah, ch, rfl⟩ := h4.bolLen
  obtain ⟨ai, ci, rfl⟩ := h5.numLen
  have hB0 : Below w.heap.size w (w.alloc (.cells #[.int .i64 s.fo.num, .slice ap s.fo.pol.length cp, .slice ar s.fo.rv.length cr, .int .i64 s.co, .slice au s.ru.length cu, .slice ah s.ha.length ch, .slice ai s.se.length ci] 51)) := (Below.refl _ w).alloc (Nat.le_refl _) _
  have F := Seven.new w (.int .i64 s.fo.num) (.slice ap s.fo.pol.length cp) (.slice ar s.fo.rv.length cr) (.int .i64 s.co) (.slice au s.ru.length cu) (.slice ah s.ha.length ch) (.slice ai s.se.length ci) 51
  have h4s := h4
  obtain ⟨i0, hi, hz0, hz1, hz2⟩ := info_parts infoInt
  have hbz := hB0.size
  obtain ⟨a0, a1, a2, a3, a4, a5, a6⟩ := F.c
  go_enter Tryz.func50, Tryz.ntmps50
  go_upto_region 1 with fail
  generalize w.alloc (.cells #[.int .i64 s.fo.num, .slice ap s.fo.pol.length cp, .slice ar s.fo.rv.length cr, .int .i64 s.co, .slice au s.ru.length cu, .slice ah s.ha.length ch, .slice ai s.se.length ci] 51) = W0 at *
  go_wp2_with fail
  clear a0 a1 a2 a3 a4 a5 a6
  go_loopw [3, 9] (fun l i wr => ∃ k : Nat, k ≤ s.ha.length ∧ i = .int .i64 k ∧ wr.ownsRow W0.heap.size 3 1 l (miT s k).length (nums (miT s k)) ∧ Below W0.heap.size W0 wr) (fun _ i _ => s.ha.length - (intOf i).toNat)
  case atStart => exact ⟨0, Nat.zero_le _, rfl, World.ownsRow_nil _ _ _ _, Below.refl _ _⟩
  case round =>
    obtain ⟨k, hk, rfl, hrow, hB⟩ := hrel
    have hl1 := miT_len s k
    have hz3 := hB.size
    by_cases hlt : k < s.ha.length
    · obtain ⟨b, off, rfl, hb, hcap, q0⟩ := ((h4s.below hB0).below hB).bol hlt
      have HY := hid (fun h => miT_yes (s := s) hlt h)
      have HN := hid (fun h => miT_no (s := s) hlt h)
      generalize s.ha[k] = x at *
      cases x
      · have HR := hid (HN.out rfl)
        clear HN HY
        generalize miT s k = l at *
        rcases row_form hrow with ⟨rfl, hl0⟩ | ⟨go, capo, rfl, hgo, hcapo⟩
        · obtain rfl : l = [] := List.eq_nil_of_length_eq_zero hl0
          go_wp2_with (at_builtin; refine wpList_append_own _ rfl _ _ 23 rfl W0.heap.size 3 i0 (.int .i64 0) 1 8 Tryz.underlying23 hi hz0 hz1 hz2 rfl (by decide) _ _ _ rfl (hrow.alloc _) ⟨wr.heap.size, 0, none⟩ 1 1 [.int .i64 (k : Int)] rfl rfl (cell_one_new _ _ _) (by intro u hu; simp at hu; subst hu; rfl) (by unfold maxLen; first | omega | (simp <;> omega)) (by first | omega | (simp <;> omega)) (by first | omega | (simp <;> omega)) ?_; intro u' w3 hown' hgrow _; obtain ⟨g', cap3, rfl⟩ := ownsRow_succ hown')
          go_roundw
          case rel =>
            refine ⟨k + 1, by omega, by go_num, ?_, hB.trans (below_appended hz3 hrow hgrow)⟩
            rw [HR.out]
            simpa [nums] using hown'
          case measure => simp [intOf]; omega
        · go_wp2_with (at_builtin; refine wpList_append_own _ rfl _ _ 23 rfl W0.heap.size 3 i0 (.int .i64 0) 1 8 Tryz.underlying23 hi hz0 hz1 hz2 rfl (by decide) _ _ _ rfl (hrow.alloc _) ⟨wr.heap.size, 0, none⟩ 1 1 [.int .i64 (k : Int)] rfl rfl (cell_one_new _ _ _) (by intro u hu; simp at hu; subst hu; rfl) (by unfold maxLen; first | omega | (simp <;> omega)) (by first | omega | (simp <;> omega)) (by first | omega | (simp <;> omega)) ?_; intro u' w3 hown' hgrow _; obtain ⟨g', cap3, rfl⟩ := ownsRow_succ hown')
          go_roundw
          case rel =>
            refine ⟨k + 1, by omega, by go_num, ?_, hB.trans (below_appended hz3 hrow hgrow)⟩
            rw [HR.out]
            simpa [nums] using hown'
          case measure => simp [intOf]; omega
      · have HR := hid (HY.out rfl)
        go_wp2_with fail
        go_roundw
        case rel => exact ⟨k + 1, by omega, by go_num, by rw [HR.out]; exact hrow, hB⟩
        case measure => simp [intOf]; omega
    · obtain rfl : k = s.ha.length := by omega
      obtain ⟨x9, y9, z9, rfl⟩ := row_slice hrow
      go_wp2_with fail
      go_ret
      exact ⟨_, rfl, Go.Joins.ownsRow_le hrow hbz, below_one hB0 hB⟩

set_option maxHeartbeats 2000000 in
theorem specMissing_any (v : Value) (s : Sd) (w : World) (hs : s.short) (h : SdA w v s) :
    Calls Tryz.prog 18 #[v] w fun e w' => ∃ u, e = .returned (.tuple #[u, .bool (sdB s)]) ∧ w'.ownsRow w.heap.size 3 1 u (miX s).length (nums (miX s)) ∧ Below w.heap.size w w' := by
  have h' := h
  obtain ⟨vp, vr, vu, vh, vs, rfl, h1, h2, h3, h4, h5⟩ := h
  have hs' := hs
  obtain ⟨hf, l3, l4, l5, lr⟩ := hs
  obtain ⟨ap, cp, rfl⟩ := h1.len
  obtain ⟨ar, cr, rfl⟩ := h2.numLen
  obtain ⟨au, cu, rfl⟩ := h3.len
  obtain ⟨ah, ch, rfl⟩ := h4.bolLen
  obtain ⟨ai, ci, rfl⟩ := h5.numLen
  have hB0 : Below w.heap.size w (w.alloc (.cells #[.int .i64 s.fo.num, .slice ap s.fo.pol.length cp, .slice ar s.fo.rv.length cr, .int .i64 s.co, .slice au s.ru.length cu, .slice ah s.ha.length ch, .slice ai s.se.length ci] 51)) := (Below.refl _ w).alloc (Nat.le_refl _) _
  have F := Seven.new w (.int .i64 s.fo.num) (.slice ap s.fo.pol.length cp) (.slice ar s.fo.rv.length cr) (.int .i64 s.co) (.slice au s.ru.length cu) (.slice ah s.ha.length ch) (.slice ai s.se.length ci) 51
  go_enter Tryz.func18, Tryz.ntmps18
  go_wp2_with fail
  generalize w.alloc (.cells #[.int .i64 s.fo.num, .slice ap s.fo.pol.length cp, .slice ar s.fo.rv.length cr, .int .i64 s.co, .slice au s.ru.length cu, .slice ah s.ha.length ch, .slice ai s.se.length ci] 51) = W0 at *
  refine (specGoodSide_any _ s _ hs' (h'.below hB0)).mono ?_
  rintro e w1 ⟨rfl, hB1⟩
  replace F := F.below hB1
  replace hB0 := below_one hB0 hB1
  clear hB1
  obtain ⟨a0, a1, a2, a3, a4, a5, a6⟩ := F.c
  cases hg : sdB s
  · have HR := hid (miX_no hg)
    have HG := hid hg
    go_wp2_with fail
    go_ret2
    exact ⟨_, by rw [HG.out]; rfl, by rw [HR.out]; exact World.ownsRow_nil _ _ _ _, hB0⟩
  · have HR := hid (miX_yes hg)
    have HG := hid hg
    have hb := hB0.size
    go_wp2_with fail
    refine (l6Missing_any _ s _ hs' (h'.below hB0)).mono ?_
    rintro e w2 ⟨u, rfl, hrow, hB2⟩
    clear a0 a1 a2 a3 a4 a5 a6
    obtain ⟨x, y, z, rfl⟩ := row_slice hrow
    go_wp2_with fail
    go_ret2
    exact ⟨_, by rw [HG.out]; rfl, by rw [HR.out]; exact Go.Joins.ownsRow_le hrow hb, below_one hB0 hB2⟩

set_option maxHeartbeats 4000000 in
set_option maxRecDepth 100000 in
theorem implMissing_any (v : Value) (s : Sd) (w : World) (hs : s.short) (h : SdR w v s) :
    Calls Tryz.prog 20 #[v] w fun e w' => ∃ u, e = .returned (.tuple #[u, .bool (sdB s)]) ∧ w'.ownsRow w.heap.size 3 1 u (miX s).length (nums (miX s)) ∧ Below w.heap.size w w' := by
  have h' := h
  obtain ⟨vp, vr, vu, vh, vs, rfl, h1, h2, h3, h4, h5⟩ := h
  have hs' := hs
  obtain ⟨hf, l3, l4, l5, lr⟩ := hs
  obtain ⟨ap, cp, rfl⟩ := h1.len
  obtain ⟨ar, cr, rfl⟩ := h2.len
  obtain ⟨au, cu, rfl⟩ := h3.len
  obtain ⟨ah, ch, rfl⟩ := h4.s.bolLen
  obtain ⟨ai, ci, rfl⟩ := h5.len
  have hB0 : Below w.heap.size w (w.alloc (.cells #[.int .i64 s.fo.num, .slice ap s.fo.pol.length cp, .slice ar s.fo.rv.length cr, .int .i64 s.co, .slice au s.ru.length cu, .slice ah s.ha.length ch, .slice ai s.se.length ci] 51)) := (Below.refl _ w).alloc (Nat.le_refl _) _
  have F := Seven.new w (.int .i64 s.fo.num) (.slice ap s.fo.pol.length cp) (.slice ar s.fo.rv.length cr) (.int .i64 s.co) (.slice au s.ru.length cu) (.slice ah s.ha.length ch) (.slice ai s.se.length ci) 51
  have h4s := h4.s
  obtain ⟨i0, hi, hz0, hz1, hz2⟩ := info_parts infoInt
  go_enter Tryz.func20, Tryz.ntmps20
  go_wp2_with fail
  generalize w.alloc (.cells #[.int .i64 s.fo.num, .slice ap s.fo.pol.length cp, .slice ar s.fo.rv.length cr, .int .i64 s.co, .slice au s.ru.length cu, .slice ah s.ha.length ch, .slice ai s.se.length ci] 51) = Wa at *
  refine (implGoodSide_any _ s _ hs' (h'.below hB0)).mono ?_
  rintro e W0 ⟨rfl, hB1⟩
  replace F := F.below hB1
  replace hB0 := below_one hB0 hB1
  clear hB1
  have hbz := hB0.size
  obtain ⟨a0, a1, a2, a3, a4, a5, a6⟩ := F.c
  cases hg : sdB s
  case false =>
    have HR := hid (miX_no hg)
    have HG := hid hg
    go_wp2_with fail
    go_ret2
    exact ⟨_, by rw [HG.out]; rfl, by rw [HR.out]; exact World.ownsRow_nil _ _ _ _, hB0⟩
  have HX := hid (miX_yes hg)
  have HG := hid hg
  clear hg
  go_wp2_with fail
  clear a0 a1 a2 a3 a4 a5 a6
  go_loopw [4, 13] (fun l i wr => ∃ k : Nat, k ≤ s.ha.length ∧ i = .int .i64 k ∧ wr.ownsRow W0.heap.size 3 1 l (miT s k).length (nums (miT s k)) ∧ Below W0.heap.size W0 wr) (fun _ i _ => s.ha.length - (intOf i).toNat)
  case atStart => exact ⟨0, Nat.zero_le _, rfl, World.ownsRow_nil _ _ _ _, Below.refl _ _⟩
  case round =>
    obtain ⟨k, hk, rfl, hrow, hB⟩ := hrel
    have hl1 := miT_len s k
    have hz3 := hB.size
    by_cases hlt : k < s.ha.length
    · obtain ⟨b, off, rfl, hb, hcap, q0⟩ := ((h4s.below hB0).below hB).bol hlt
      have HY := hid (fun h => miT_yes (s := s) hlt h)
      have HN := hid (fun h => miT_no (s := s) hlt h)
      generalize s.ha[k] = x at *
      cases x
      · have HR := hid (HN.out rfl)
        clear HN HY
        generalize miT s k = l at *
        rcases row_form hrow with ⟨rfl, hl0⟩ | ⟨go, capo, rfl, hgo, hcapo⟩
        · obtain rfl : l = [] := List.eq_nil_of_length_eq_zero hl0
          go_wp2_with (at_builtin; refine wpList_append_own _ rfl _ _ 23 rfl W0.heap.size 3 i0 (.int .i64 0) 1 8 Tryz.underlying23 hi hz0 hz1 hz2 rfl (by decide) _ _ _ rfl (hrow.alloc _) ⟨wr.heap.size, 0, none⟩ 1 1 [.int .i64 (k : Int)] rfl rfl (cell_one_new _ _ _) (by intro u hu; simp at hu; subst hu; rfl) (by unfold maxLen; first | omega | (simp <;> omega)) (by first | omega | (simp <;> omega)) (by first | omega | (simp <;> omega)) ?_; intro u' w3 hown' hgrow _; obtain ⟨g', cap3, rfl⟩ := ownsRow_succ hown')
          go_roundw
          case rel =>
            refine ⟨k + 1, by omega, by go_num, ?_, hB.trans (below_appended hz3 hrow hgrow)⟩
            rw [HR.out]
            simpa [nums] using hown'
          case measure => simp [intOf]; omega
        · go_wp2_with (at_builtin; refine wpList_append_own _ rfl _ _ 23 rfl W0.heap.size 3 i0 (.int .i64 0) 1 8 Tryz.underlying23 hi hz0 hz1 hz2 rfl (by decide) _ _ _ rfl (hrow.alloc _) ⟨wr.heap.size, 0, none⟩ 1 1 [.int .i64 (k : Int)] rfl rfl (cell_one_new _ _ _) (by intro u hu; simp at hu; subst hu; rfl) (by unfold maxLen; first | omega | (simp <;> omega)) (by first | omega | (simp <;> omega)) (by first | omega | (simp <;> omega)) ?_; intro u' w3 hown' hgrow _; obtain ⟨g', cap3, rfl⟩ := ownsRow_succ hown')
          go_roundw
          case rel =>
            refine ⟨k + 1, by omega, by go_num, ?_, hB.trans (below_appended hz3 hrow hgrow)⟩
            rw [HR.out]
            simpa [nums] using hown'
          case measure => simp [intOf]; omega
      · have HR := hid (HY.out rfl)
        go_wp2_with fail
        go_roundw
        case rel => exact ⟨k + 1, by omega, by go_num, by rw [HR.out]; exact hrow, hB⟩
        case measure => simp [intOf]; omega
    · obtain rfl : k = s.ha.length := by omega
      obtain ⟨x9, y9, z9, rfl⟩ := row_slice hrow
      go_wp2_with fail
      go_ret2
      exact ⟨_, by rw [HG.out]; rfl, by rw [HX.out]; exact Go.Joins.ownsRow_le hrow hbz, below_one hB0 hB⟩

end Go.Proofs.YthpckiobfjdckaaGreat
