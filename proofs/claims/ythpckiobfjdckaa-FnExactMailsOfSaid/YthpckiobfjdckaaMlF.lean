/-
  Chapter 6: the mails of a version, by both.
-/
import Derived.Test.YthpckiobfjdckaaMlM
import Derived.Test.YthpckiobfjdckaaSnS
import Derived.Test.YthpckiobfjdckaaPlainR
namespace Go.Proofs.Ythpckiobfjdckaa
open Go.RowKit Go.Shelf

def mlB (s : Sn) : Ml := ⟨1, s.num, (s.pol.length : Int) + (s.rv.length : Int), ruZ, 0⟩
def mlE (s : Sn) : Ml := ⟨4, s.num, (s.pol.length : Int) + (s.rv.length : Int), ruZ, 0⟩
def mlR (s : Sn) (k : Nat) : List Ml := (List.range k).map (fun i : Nat => (⟨2, s.num, (i : Int), (s.pol[i]?).getD ruZ, 0⟩ : Ml))
def mlZ (s : Sn) (k : Nat) : List Ml := (List.range k).map (fun i : Nat => (⟨3, s.num, (s.pol.length : Int) + (i : Int), ruZ, (s.rv[i]?).getD 0⟩ : Ml))
/-- The mails of a version. -/
def mls (s : Sn) : List Ml := (mlB s :: (mlR s s.pol.length ++ mlZ s s.rv.length)) ++ [mlE s]
def mlX (s : Sn) : List Ml := if snB s = true then mls s else []
theorem mlX_no {s : Sn} (h : snB s = false) : mlX s = [] := if_neg (by rw [h]; exact Bool.false_ne_true)
theorem mlX_yes {s : Sn} (h : snB s = true) : mlX s = mls s := if_pos h
theorem mls_len (s : Sn) : (mls s).length = s.pol.length + 1 + s.rv.length + 1 := by simp [mls, mlR, mlZ]; omega
theorem mlX_len (s : Sn) : (mlX s).length ≤ 232 := by
  unfold mlX
  split
  · rename_i h
    have h1 := (pol_all (snB_parts h).2.1).2
    have h2 := fewB_len (snB_parts h).2.2.2.1
    rw [mls_len]
    omega
  · simp
theorem mlR_step {s : Sn} {k : Nat} (h : k < s.pol.length) : (mlB s :: mlR s (k + 1)).flatMap Ml.cells = (mlB s :: mlR s k).flatMap Ml.cells ++ Ml.cells ⟨2, s.num, (k : Int), s.pol[k], 0⟩ := by
  have e : mlR s (k + 1) = mlR s k ++ [⟨2, s.num, (k : Int), s.pol[k], 0⟩] := by
    unfold mlR
    rw [List.range_succ, List.map_append]
    simp [h]
  rw [e, ← List.cons_append, List.flatMap_append]
  simp
theorem mlZ_step {s : Sn} {k : Nat} (h : k < s.rv.length) : (mlB s :: (mlR s s.pol.length ++ mlZ s (k + 1))).flatMap Ml.cells = (mlB s :: (mlR s s.pol.length ++ mlZ s k)).flatMap Ml.cells ++ Ml.cells ⟨3, s.num, (s.pol.length : Int) + (k : Int), ruZ, s.rv[k]⟩ := by
  have e : mlZ s (k + 1) = mlZ s k ++ [⟨3, s.num, (s.pol.length : Int) + (k : Int), ruZ, s.rv[k]⟩] := by
    unfold mlZ
    rw [List.range_succ, List.map_append]
    simp [h]
  rw [e, ← List.append_assoc, ← List.cons_append, List.flatMap_append]
  simp
theorem mls_step (s : Sn) : (mls s).flatMap Ml.cells = (mlB s :: (mlR s s.pol.length ++ mlZ s s.rv.length)).flatMap Ml.cells ++ Ml.cells ⟨4, s.num, (s.pol.length : Int) + (s.rv.length : Int), ruZ, 0⟩ := by
  unfold mls
  rw [List.flatMap_append]
  simp [mlE]
theorem infoMail : (Try.prog.info? 58).map (fun i => (i.zero, i.size, i.bytes)) = some (some (.agg #[.int .i64 0, .int .i64 0, .int .i64 0, .bool false, .string ByteArray.empty, .string ByteArray.empty, .string ByteArray.empty, .int .i64 0]), 8, 88) := by kernel_rfl
theorem cell_eight {W : World} {k : Nat} (hk : k = W.heap.size) (m : Ml) : ∀ j u, m.cells[j]? = some u → (W.alloc (.cells #[.int .i64 m.kd, .int .i64 m.ver, .int .i64 m.no, .bool m.ru.deny, .string m.ru.who, .string m.ru.method, .string m.ru.path, .int .i64 m.se] 58)).cell? ((⟨k, 0, none⟩ : Addr).add j) = some u := by
  intro j u hu
  subst hk
  rw [Addr.add_lit, Nat.zero_add]
  have hj : j < 8 := by
    have := (List.getElem?_eq_some_iff.1 hu).1
    simpa using this
  obtain rfl | rfl | rfl | rfl | rfl | rfl | rfl | rfl : j = 0 ∨ j = 1 ∨ j = 2 ∨ j = 3 ∨ j = 4 ∨ j = 5 ∨ j = 6 ∨ j = 7 := by omega
  all_goals (simp at hu; subst hu; simp)
theorem ml_one (m : Ml) : ∀ u ∈ m.cells, u.oneCell' = true := by
  intro u hu
  simp at hu
  rcases hu with rfl | rfl | rfl | rfl | rfl | rfl | rfl | rfl <;> rfl
theorem row_eight (W : World) (m : Ml) : (W.alloc (.cells #[.int .i64 m.kd, .int .i64 m.ver, .int .i64 m.no, .bool m.ru.deny, .string m.ru.who, .string m.ru.method, .string m.ru.path, .int .i64 m.se] 58)).ownsRow W.heap.size 58 8 (.slice (some ⟨W.heap.size, 0, none⟩) 1 1) 1 m.cells :=
  ⟨rfl, .inr ⟨W.heap.size, 1, #[.int .i64 m.kd, .int .i64 m.ver, .int .i64 m.no, .bool m.ru.deny, .string m.ru.who, .string m.ru.method, .string m.ru.path, .int .i64 m.se], rfl, Nat.le_refl _, by show (W.heap.push _)[W.heap.size]? = _; rw [Array.getElem?_push_size], Nat.le_refl _, by unfold maxLen; omega, rfl, rfl⟩⟩

set_option maxHeartbeats 4000000 in
set_option maxRecDepth 100000 in
theorem l6Mails_any (v : Value) (s : Sn) (w : World) (hn : s.pol.length ≤ 30) (hm : s.rv.length ≤ 200) (h : SnA w v s) :
    Calls Try.prog 22 #[v] w fun e w' => ∃ u, e = .returned u ∧ w'.ownsRow w.heap.size 58 8 u (mls s).length ((mls s).flatMap Ml.cells) ∧ Below w.heap.size w w' := by
  obtain ⟨vp, vr, rfl, h1, h2⟩ := h
  obtain ⟨ap, cp, rfl⟩ := h1.len
  obtain ⟨ar, cr, rfl⟩ := h2.numLen
  obtain ⟨i0, hi, hz0, hz1, hz2⟩ := info_parts infoMail
  have hBB : Below w.heap.size w (w.alloc (.cells #[.int .i64 s.num, .slice ap s.pol.length cp, .slice ar s.rv.length cr] 32)) := (Below.refl _ w).alloc (Nat.le_refl _) _
  have F := Three.new w (.int .i64 s.num) (.slice ap s.pol.length cp) (.slice ar s.rv.length cr) 32
  have hbz := hBB.size
  have hlb := F.lt
  go_enter Try.func22, Try.ntmps22
  obtain ⟨a0, a1, a2⟩ := F.c
  go_upto_region 1 with fail
  generalize w.alloc (.cells #[.int .i64 s.num, .slice ap s.pol.length cp, .slice ar s.rv.length cr] 32) = W0 at *
  go_wp2_with fail
  clear a0 a1 a2
  go_loopw [4, 24] (fun l i wr => ∃ k : Nat, k ≤ s.pol.length ∧ i = .int .i64 k ∧ wr.ownsRow W0.heap.size 58 8 l (k + 1) ((mlB s :: mlR s k).flatMap Ml.cells) ∧ Below W0.heap.size W0 wr) (fun _ i _ => s.pol.length - (intOf i).toNat)
  case atStart => exact ⟨0, Nat.zero_le _, rfl, row_eight W0 (mlB s), (Below.refl _ W0).alloc (Nat.le_refl _) _⟩
  case round =>
    obtain ⟨k, hk, rfl, hrow, hB⟩ := hrel
    obtain ⟨g, cq, rfl⟩ := ownsRow_succ hrow
    obtain ⟨a0, a1, a2⟩ := (F.below hB).c
    have hlr := (F.below hB).lt
    by_cases hlt : k < s.pol.length
    · obtain ⟨b, off, rfl, hb, hcap, q0, q1, q2, q3⟩ := ((h1.below hBB).below hB).at hlt
      have HR := hid (mlR_step hlt)
      generalize s.pol[k] = r at *
      have hBw : Below wr.heap.size wr (wr.alloc (.cells #[.bool r.deny, .string r.who, .string r.method, .string r.path] 56)) := (Below.refl _ wr).alloc (Nat.le_refl _) _
      have hrowW := ownsRow_below hrow hBw
      have hBW := below_one hB hBw
      have hz3 := hBW.size
      have hz4 := hB.size
      clear hBw hrow
      go_wp2_with (at_builtin; refine wpList_append_own _ rfl _ _ 27 rfl W0.heap.size 58 i0 _ 8 88 Try.underlying27 hi hz0 hz1 hz2 rfl (by decide) _ _ _ rfl (hrowW.alloc _) ⟨wr.heap.size + 1, 0, none⟩ 1 1 (Ml.cells ⟨2, s.num, (k : Int), r, 0⟩) rfl rfl (cell_eight (by first | rfl | simp) ⟨2, s.num, (k : Int), r, 0⟩) (ml_one _) (by unfold maxLen; first | omega | (simp <;> omega)) (by first | omega | (simp <;> omega)) (by first | omega | (simp <;> omega)) ?_; intro u' w3 hown' hgrow _; obtain ⟨g', cap3, rfl⟩ := ownsRow_succ hown')
      go_roundw
      case rel =>
        refine ⟨k + 1, by omega, by go_num, ?_, hBW.trans (below_appended hz3 hrowW hgrow)⟩
        rw [HR.out]
        exact hown'
      case measure => simp [intOf]; omega
    · obtain rfl : k = s.pol.length := by omega
      have HB := hid hB
      clear hB
      go_wp2_with fail
      go_loopw [4, 41] (fun l i wx => ∃ j : Nat, j ≤ s.rv.length ∧ i = .int .i64 j ∧ wx.ownsRow W0.heap.size 58 8 l (s.pol.length + 1 + j) ((mlB s :: (mlR s s.pol.length ++ mlZ s j)).flatMap Ml.cells) ∧ Below W0.heap.size W0 wx) (fun _ i _ => s.rv.length - (intOf i).toNat)
      case atStart => exact ⟨0, Nat.zero_le _, rfl, by simpa [mlZ] using hrow, HB.out⟩
      case round =>
        clear a0 a1 a2 hrow HB
        obtain ⟨j, hj, rfl, hrow, hB⟩ := hrel
        rcases row_form hrow with ⟨_, h0⟩ | ⟨g, cq, rfl, _, _⟩
        · exact absurd h0 (by omega)
        obtain ⟨a0, a1, a2⟩ := (F.below hB).c
        have hlr := (F.below hB).lt
        have hz3 := hB.size
        by_cases hlt : j < s.rv.length
        · obtain ⟨b, off, rfl, hb, hcap, q0⟩ := ((h2.below hBB).below hB).num hlt
          have HR := hid (mlZ_step hlt)
          generalize s.rv[j] = z at *
          go_wp2_with (at_builtin; refine wpList_append_own _ rfl _ _ 27 rfl W0.heap.size 58 i0 _ 8 88 Try.underlying27 hi hz0 hz1 hz2 rfl (by decide) _ _ _ rfl (hrow.alloc _) ⟨wr.heap.size, 0, none⟩ 1 1 (Ml.cells ⟨3, s.num, (s.pol.length : Int) + (j : Int), ruZ, z⟩) rfl rfl (cell_eight (by first | rfl | simp) ⟨3, s.num, (s.pol.length : Int) + (j : Int), ruZ, z⟩) (ml_one _) (by unfold maxLen; first | omega | (simp <;> omega)) (by first | omega | (simp <;> omega)) (by first | omega | (simp <;> omega)) ?_; intro u' w3 hown' hgrow _; obtain ⟨g', cap3, rfl⟩ := ownsRow_succ hown')
          go_roundw
          case rel =>
            refine ⟨j + 1, by omega, by go_num, ?_, hB.trans (below_appended hz3 hrow hgrow)⟩
            rw [HR.out]
            exact hown'
          case measure => simp [intOf]; omega
        · obtain rfl : j = s.rv.length := by omega
          have HR := hid (mls_step s)
          go_wp2_with (at_builtin; refine wpList_append_own _ rfl _ _ 27 rfl W0.heap.size 58 i0 _ 8 88 Try.underlying27 hi hz0 hz1 hz2 rfl (by decide) _ _ _ rfl (hrow.alloc _) ⟨wr.heap.size, 0, none⟩ 1 1 (Ml.cells ⟨4, s.num, (s.pol.length : Int) + (s.rv.length : Int), ruZ, 0⟩) rfl rfl (cell_eight (by first | rfl | simp) ⟨4, s.num, (s.pol.length : Int) + (s.rv.length : Int), ruZ, 0⟩) (ml_one _) (by unfold maxLen; first | omega | (simp <;> omega)) (by first | omega | (simp <;> omega)) (by first | omega | (simp <;> omega)) ?_; intro u' w3 hown' hgrow _; obtain ⟨g', cap3, rfl⟩ := ownsRow_succ hown')
          go_ret
          exact ⟨_, rfl, by rw [HR.out, mls_len]; exact Go.Joins.ownsRow_le hown' hbz, below_one hBB (hB.trans (below_appended hz3 hrow hgrow))⟩

set_option maxHeartbeats 2000000 in
theorem specMailsOf_any (v : Value) (s : Sn) (w : World) (hs : s.short) (h : SnA w v s) :
    Calls Try.prog 6 #[v] w fun e w' => ∃ u, e = .returned (.tuple #[u, .bool (snB s)]) ∧ w'.ownsRow w.heap.size 58 8 u (mlX s).length ((mlX s).flatMap Ml.cells) ∧ Below w.heap.size w w' := by
  have h' := h
  obtain ⟨vp, vr, rfl, h1, h2⟩ := h
  obtain ⟨ap, cp, rfl⟩ := h1.len
  obtain ⟨ar, cr, rfl⟩ := h2.numLen
  have hBB : Below w.heap.size w (w.alloc (.cells #[.int .i64 s.num, .slice ap s.pol.length cp, .slice ar s.rv.length cr] 32)) := (Below.refl _ w).alloc (Nat.le_refl _) _
  have F := Three.new w (.int .i64 s.num) (.slice ap s.pol.length cp) (.slice ar s.rv.length cr) 32
  go_enter Try.func6, Try.ntmps6
  go_wp2_with fail
  generalize w.alloc (.cells #[.int .i64 s.num, .slice ap s.pol.length cp, .slice ar s.rv.length cr] 32) = W0 at *
  refine (specGoodSnapshot_any _ s _ hs (h'.below hBB)).mono ?_
  rintro e w1 ⟨rfl, hB1⟩
  replace F := F.below hB1
  replace hBB := below_one hBB hB1
  clear hB1
  obtain ⟨a0, a1, a2⟩ := F.c
  cases hg : snB s
  · have HR := hid (mlX_no hg)
    have HG := hid hg
    go_wp2_with fail
    go_ret2
    exact ⟨_, by rw [HG.out]; rfl, by rw [HR.out]; exact World.ownsRow_nil _ _ _ _, hBB⟩
  · have HR := hid (mlX_yes hg)
    have HG := hid hg
    have hb := hBB.size
    go_wp2_with fail
    refine (l6Mails_any _ s _ (pol_all (snB_parts hg).2.1).2 (fewB_len (snB_parts hg).2.2.2.1) (h'.below hBB)).mono ?_
    rintro e w2 ⟨u, rfl, hrow, hB2⟩
    clear a0 a1 a2
    obtain ⟨x, y, z, rfl⟩ := row_slice hrow
    go_wp2_with fail
    go_ret2
    exact ⟨_, by rw [HG.out]; rfl, by rw [HR.out]; exact Go.Joins.ownsRow_le hrow hb, below_one hBB hB2⟩

set_option maxHeartbeats 4000000 in
set_option maxRecDepth 100000 in
theorem implMailsOf_any (v : Value) (s : Sn) (w : World) (hs : s.short) (h : SnR w v s) :
    Calls Try.prog 8 #[v] w fun e w' => ∃ u, e = .returned (.tuple #[u, .bool (snB s)]) ∧ w'.ownsRow w.heap.size 58 8 u (mlX s).length ((mlX s).flatMap Ml.cells) ∧ Below w.heap.size w w' := by
  have h' := h
  obtain ⟨vp, vr, rfl, g1, g2⟩ := h
  have h1 := g1.s
  have h2 := g2.s
  obtain ⟨ap, cp, rfl⟩ := h1.len
  obtain ⟨ar, cr, rfl⟩ := h2.numLen
  clear g1 g2
  obtain ⟨i0, hi, hz0, hz1, hz2⟩ := info_parts infoMail
  have hBB : Below w.heap.size w (w.alloc (.cells #[.int .i64 s.num, .slice ap s.pol.length cp, .slice ar s.rv.length cr] 32)) := (Below.refl _ w).alloc (Nat.le_refl _) _
  have F := Three.new w (.int .i64 s.num) (.slice ap s.pol.length cp) (.slice ar s.rv.length cr) 32
  go_enter Try.func8, Try.ntmps8
  go_wp2_with fail
  generalize w.alloc (.cells #[.int .i64 s.num, .slice ap s.pol.length cp, .slice ar s.rv.length cr] 32) = Wa at *
  refine (implGoodSnapshot_any _ s _ hs (h'.below hBB)).mono ?_
  rintro e W0 ⟨rfl, hB1⟩
  replace F := F.below hB1
  replace hBB := below_one hBB hB1
  clear hB1 h'
  have hbz := hBB.size
  cases hg : snB s
  · have HR := hid (mlX_no hg)
    have HG := hid hg
    go_wp2_with fail
    go_ret2
    exact ⟨_, by rw [HG.out]; rfl, by rw [HR.out]; exact World.ownsRow_nil _ _ _ _, hBB⟩
  have HX := hid (mlX_yes hg)
  have HG := hid hg
  have hn := (pol_all (snB_parts hg).2.1).2
  have hm := fewB_len (snB_parts hg).2.2.2.1
  clear hg hs
  have hlb := F.lt
  obtain ⟨a0, a1, a2⟩ := F.c
  go_wp2_with fail
  clear a0 a1 a2
  go_loopw [5, 28] (fun l i wr => ∃ k : Nat, k ≤ s.pol.length ∧ i = .int .i64 k ∧ wr.ownsRow W0.heap.size 58 8 l (k + 1) ((mlB s :: mlR s k).flatMap Ml.cells) ∧ Below W0.heap.size W0 wr) (fun _ i _ => s.pol.length - (intOf i).toNat)
  case atStart => exact ⟨0, Nat.zero_le _, rfl, row_eight W0 (mlB s), (Below.refl _ W0).alloc (Nat.le_refl _) _⟩
  case round =>
    obtain ⟨k, hk, rfl, hrow, hB⟩ := hrel
    obtain ⟨g, cq, rfl⟩ := ownsRow_succ hrow
    obtain ⟨a0, a1, a2⟩ := (F.below hB).c
    have hlr := (F.below hB).lt
    by_cases hlt : k < s.pol.length
    · obtain ⟨b, off, rfl, hb, hcap, q0, q1, q2, q3⟩ := ((h1.below hBB).below hB).at hlt
      have HR := hid (mlR_step hlt)
      generalize s.pol[k] = r at *
      have hBw : Below wr.heap.size wr (wr.alloc (.cells #[.bool r.deny, .string r.who, .string r.method, .string r.path] 56)) := (Below.refl _ wr).alloc (Nat.le_refl _) _
      have hrowW := ownsRow_below hrow hBw
      have hBW := below_one hB hBw
      have hz3 := hBW.size
      have hz4 := hB.size
      clear hBw hrow
      go_wp2_with (at_builtin; refine wpList_append_own _ rfl _ _ 27 rfl W0.heap.size 58 i0 _ 8 88 Try.underlying27 hi hz0 hz1 hz2 rfl (by decide) _ _ _ rfl (hrowW.alloc _) ⟨wr.heap.size + 1, 0, none⟩ 1 1 (Ml.cells ⟨2, s.num, (k : Int), r, 0⟩) rfl rfl (cell_eight (by first | rfl | simp) ⟨2, s.num, (k : Int), r, 0⟩) (ml_one _) (by unfold maxLen; first | omega | (simp <;> omega)) (by first | omega | (simp <;> omega)) (by first | omega | (simp <;> omega)) ?_; intro u' w3 hown' hgrow _; obtain ⟨g', cap3, rfl⟩ := ownsRow_succ hown')
      go_roundw
      case rel =>
        refine ⟨k + 1, by omega, by go_num, ?_, hBW.trans (below_appended hz3 hrowW hgrow)⟩
        rw [HR.out]
        exact hown'
      case measure => simp [intOf]; omega
    · obtain rfl : k = s.pol.length := by omega
      have HB := hid hB
      clear hB
      go_wp2_with fail
      go_loopw [5, 45] (fun l i wx => ∃ j : Nat, j ≤ s.rv.length ∧ i = .int .i64 j ∧ wx.ownsRow W0.heap.size 58 8 l (s.pol.length + 1 + j) ((mlB s :: (mlR s s.pol.length ++ mlZ s j)).flatMap Ml.cells) ∧ Below W0.heap.size W0 wx) (fun _ i _ => s.rv.length - (intOf i).toNat)
      case atStart => exact ⟨0, Nat.zero_le _, rfl, by simpa [mlZ] using hrow, HB.out⟩
      case round =>
        clear a0 a1 a2 hrow HB
        obtain ⟨j, hj, rfl, hrow, hB⟩ := hrel
        rcases row_form hrow with ⟨_, h0⟩ | ⟨g, cq, rfl, _, _⟩
        · exact absurd h0 (by omega)
        obtain ⟨a0, a1, a2⟩ := (F.below hB).c
        have hlr := (F.below hB).lt
        have hz3 := hB.size
        by_cases hlt : j < s.rv.length
        · obtain ⟨b, off, rfl, hb, hcap, q0⟩ := ((h2.below hBB).below hB).num hlt
          have HR := hid (mlZ_step hlt)
          generalize s.rv[j] = z at *
          go_wp2_with (at_builtin; refine wpList_append_own _ rfl _ _ 27 rfl W0.heap.size 58 i0 _ 8 88 Try.underlying27 hi hz0 hz1 hz2 rfl (by decide) _ _ _ rfl (hrow.alloc _) ⟨wr.heap.size, 0, none⟩ 1 1 (Ml.cells ⟨3, s.num, (s.pol.length : Int) + (j : Int), ruZ, z⟩) rfl rfl (cell_eight (by first | rfl | simp) ⟨3, s.num, (s.pol.length : Int) + (j : Int), ruZ, z⟩) (ml_one _) (by unfold maxLen; first | omega | (simp <;> omega)) (by first | omega | (simp <;> omega)) (by first | omega | (simp <;> omega)) ?_; intro u' w3 hown' hgrow _; obtain ⟨g', cap3, rfl⟩ := ownsRow_succ hown')
          go_roundw
          case rel =>
            refine ⟨j + 1, by omega, by go_num, ?_, hB.trans (below_appended hz3 hrow hgrow)⟩
            rw [HR.out]
            exact hown'
          case measure => simp [intOf]; omega
        · obtain rfl : j = s.rv.length := by omega
          have HR := hid (mls_step s)
          go_wp2_with (at_builtin; refine wpList_append_own _ rfl _ _ 27 rfl W0.heap.size 58 i0 _ 8 88 Try.underlying27 hi hz0 hz1 hz2 rfl (by decide) _ _ _ rfl (hrow.alloc _) ⟨wr.heap.size, 0, none⟩ 1 1 (Ml.cells ⟨4, s.num, (s.pol.length : Int) + (s.rv.length : Int), ruZ, 0⟩) rfl rfl (cell_eight (by first | rfl | simp) ⟨4, s.num, (s.pol.length : Int) + (s.rv.length : Int), ruZ, 0⟩) (ml_one _) (by unfold maxLen; first | omega | (simp <;> omega)) (by first | omega | (simp <;> omega)) (by first | omega | (simp <;> omega)) ?_; intro u' w3 hown' hgrow _; obtain ⟨g', cap3, rfl⟩ := ownsRow_succ hown')
          go_ret2
          exact ⟨_, by rw [HG.out]; rfl, by rw [HX.out, HR.out, mls_len]; exact Go.Joins.ownsRow_le hown' hbz, below_one hBB (hB.trans (below_appended hz3 hrow hgrow))⟩

end Go.Proofs.Ythpckiobfjdckaa
