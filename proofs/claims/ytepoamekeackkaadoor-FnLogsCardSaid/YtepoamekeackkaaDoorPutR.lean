/-
  Chapter 7: a record is put behind a log, by the specification and by the program.
-/
import Derived.Shelf.SlicesE.Clone
import Derived.Deep.Onto
import Derived.Test.YtepoamekeackkaaDoorAppR
import Derived.Test.YtepoamekeackkaaDoorLogI
namespace Go.Proofs.YtepoamekeackkaaDoor
open Go.RowKit Go.Shelf

/-- A list of records that can be read. -/
def RcR (w : World) (v : Value) (l : List Rc) : Prop :=
  (v = .slice none 0 0 ∧ l = []) ∨ ∃ b off cap, v = .slice (some ⟨b, off, none⟩) l.length cap ∧ b < w.heap.size ∧ l.length ≤ cap ∧ ∀ k (h : k < l.length), RcAt w b (off + k * 3) l[k]
theorem RcR.s {w : World} {v : Value} {l : List Rc} (h : RcR w v l) : RcS w v l := by
  rcases h with ⟨rfl, rfl⟩ | h
  · exact .inl ⟨_, _, rfl, rfl⟩
  · exact .inr h
theorem RcR.below {w w' : World} {v : Value} {l : List Rc} (h : RcR w v l) (hB : Below w.heap.size w w') : RcR w' v l := by
  rcases h with h | ⟨b, off, cap, hv, hb, hl, hc⟩
  · exact .inl h
  · exact .inr ⟨b, off, cap, hv, Nat.lt_of_lt_of_le hb hB.size, hl, fun k hk => (hc k hk).below hb hB⟩
theorem RcR.len {w : World} {v : Value} {l : List Rc} (h : RcR w v l) : ∃ a cap, v = .slice a l.length cap := h.s.len
theorem RcR.own {w : World} {base : Nat} {v : Value} {l : List Rc} (h : w.ownsRow base 34 3 v l.length (l.flatMap Rc.cells)) : RcR w v l := by
  have hs := RcS.own h
  rcases row_form h with ⟨rfl, h0⟩ | ⟨g, cap, rfl, _, hc⟩
  · exact .inl ⟨rfl, List.eq_nil_of_length_eq_zero h0⟩
  · refine .inr ⟨g, 0, cap, rfl, (h.lt g rfl).2, hc, fun k hk => ?_⟩
    obtain ⟨b, off, hbo, _, _, hat⟩ := hs.at hk
    cases hbo
    exact hat
theorem RcR.flat {w : World} {b off : Nat} {l : List Rc} (hc : ∀ k (h : k < l.length), RcAt w b (off + k * 3) l[k]) : ∀ j u, (l.flatMap Rc.cells)[j]? = some u → w.cell? ⟨b, off + j, none⟩ = some u := by
  intro j u hu
  have hj : j < l.length * 3 := by rw [← rcflat_len]; exact (List.getElem?_eq_some_iff.1 hu).1
  have hk : j / 3 < l.length := by omega
  have hm : j % 3 < 3 := Nat.mod_lt _ (by omega)
  have e : j = j / 3 * 3 + j % 3 := by omega
  rw [e, rcflat_at l _ _ hk hm] at hu
  obtain ⟨h0, h1, h2⟩ := hc _ hk
  rw [e, ← Nat.add_assoc]
  generalize j / 3 = q at *
  obtain hr | hr | hr : j % 3 = 0 ∨ j % 3 = 1 ∨ j % 3 = 2 := by omega
  all_goals rw [hr] at hu ⊢
  all_goals simp at hu
  all_goals subst hu
  · exact h0
  · exact h1
  · exact h2
theorem RcR.src {w : World} {v : Value} {l : List Rc} (h : RcR w v l) : (v = .slice none 0 0 ∧ l.length = 0 ∧ l.flatMap Rc.cells = []) ∨ ∃ b off cap, v = .slice (some ⟨b, off, none⟩) l.length cap ∧ (l.flatMap Rc.cells).length = l.length * 3 ∧ ∀ j y, (l.flatMap Rc.cells)[j]? = some y → w.cell? ⟨b, off + j, none⟩ = some y := by
  rcases h with ⟨rfl, rfl⟩ | ⟨b, off, cap, rfl, _, _, hc⟩
  · exact .inl ⟨rfl, rfl, rfl⟩
  · exact .inr ⟨b, off, cap, rfl, rcflat_len l, RcR.flat hc⟩
theorem rc_ones {l : List Rc} : ∀ y ∈ l.flatMap Rc.cells, y.oneCell' = true := by
  intro y hy
  obtain ⟨r, _, hr⟩ := List.mem_flatMap.1 hy
  simp at hr
  rcases hr with rfl | rfl | rfl <;> rfl
theorem cell_rc_new (w : World) (r : Rc) : ∀ j u, r.cells[j]? = some u → (w.alloc (.cells #[.int .i64 r.num, .string r.note, .int .u32 (r.su : Int)] 34)).cell? ((⟨w.heap.size, 0, none⟩ : Addr).add j) = some u := by
  intro j u hu
  have hj : j < 3 := by have := (List.getElem?_eq_some_iff.1 hu).1; simpa using this
  obtain h | h | h : j = 0 ∨ j = 1 ∨ j = 2 := by omega
  all_goals subst h
  all_goals simp at hu
  all_goals subst hu
  all_goals simp [Addr.add]
theorem rc_one (r : Rc) : ∀ u ∈ r.cells, u.oneCell' = true := by
  intro u hu
  simp at hu
  rcases hu with rfl | rfl | rfl <;> rfl
theorem puR_len (l : List Rc) (note : ByteArray) : (puR l note).length = l.length + 1 := by simp [puR]
theorem puR_flat (l : List Rc) (note : ByteArray) : (puR l note).flatMap Rc.cells = l.flatMap Rc.cells ++ (rcN (pvS l l.length) l.length note).cells := by
  unfold puR
  rw [List.flatMap_append]
  simp

theorem cloneRc_any (v : Value) (l : List Rc) (w : World) (hn : l.length ≤ 1048577) (h : RcR w v l) :
    Calls Tryd.prog 28 #[v] w fun e w' => ∃ v', e = .returned v' ∧ w'.ownsRow w.heap.size 34 3 v' l.length (l.flatMap Rc.cells) ∧ Below w.heap.size w w' := by
  obtain ⟨i0, hi, hz0, hz1, hz2⟩ := info_parts infoRecord
  rcases h with ⟨rfl, rfl⟩ | ⟨b, off, cap, rfl, _, _, hc⟩
  · refine (AnyE.slices_Clone_nil Tryd.cloneRc 0 0 w).mono ?_
    rintro e w1 ⟨rfl, rfl⟩
    exact ⟨_, rfl, World.ownsRow_nil _ _ _ _, Below.refl _ _⟩
  · refine (AnyE.slices_Clone Tryd.cloneRc i0 _ 3 32 hi hz0 hz1 hz2 rfl (by decide) Tryd.sizeOf34 b off l.length cap _ w (rcflat_len l) (by unfold maxLen; omega) (by omega) (RcR.flat hc) rc_ones).mono ?_
    rintro e w1 ⟨v', rfl, hr, _, hB⟩
    exact ⟨v', rfl, hr, hB⟩

/-- What is said of the last record's sum. -/
def LastS (w : World) (v : Value) (n h : Nat) : Prop := (n = 0 ∧ h = 2166136261) ∨ ∃ b off cap m, n = m + 1 ∧ v = .slice (some ⟨b, off, none⟩) (m + 1) cap ∧ b < w.heap.size ∧ m + 1 ≤ cap ∧ w.cell? ⟨b, off + m * 3 + 2, none⟩ = some (.int .u32 (h : Int))
theorem RcR.last {w : World} {v : Value} {l : List Rc} (h : RcR w v l) : LastS w v l.length (pvS l l.length) := by
  rcases h with ⟨rfl, rfl⟩ | ⟨b, off, cap, rfl, hb, hl, hc⟩
  · exact .inl ⟨rfl, rfl⟩
  · cases hn : l.length with
    | zero => exact .inl ⟨rfl, pv_zero l⟩
    | succ m =>
      refine .inr ⟨b, off, cap, m, rfl, rfl, hb, by omega, ?_⟩
      have := (hc m (by omega)).2.2
      rw [pv_succ (by omega)]
      exact this

set_option maxRecDepth 100000 in
set_option maxHeartbeats 2000000 in
theorem l7Put_any (v : Value) (l : List Rc) (note : ByteArray) (w : World) (hn : l.length ≤ 900) (hs : note.size ≤ 1048576) (hu : ∀ r ∈ l, r.su < 4294967296) (hr : RcR w v l) :
    Calls Tryd.prog 31 #[v, .string note] w fun e w' => ∃ v', e = .returned v' ∧ w'.ownsRow w.heap.size 34 3 v' (l.length + 1) ((puR l note).flatMap Rc.cells) ∧ Below w.heap.size w w' := by
  obtain ⟨i0, hi, hz0, hz1, hz2⟩ := info_parts infoRecord
  have hBa : Below w.heap.size w (w.alloc (.cells #[] 34)) := (Below.refl _ w).alloc (Nat.le_refl _) _
  have hsrc := (hr.below hBa).src
  have r0 := row_void0 w 34 3 w.heap.size rfl (Nat.le_refl _)
  have h1 := rc_ones (l := l)
  have hh := pv_lt (Nat.le_refl l.length) hu
  have HF := hid (puR_flat l note)
  have hlast := hr.last
  obtain ⟨a, cap, rfl⟩ := hr.len
  clear hr
  generalize (puR l note).flatMap Rc.cells = zs at *
  generalize l.flatMap Rc.cells = ys at *
  generalize pvS l l.length = h at *
  generalize l.length = n at *
  rcases hlast with ⟨rfl, h0⟩ | ⟨b, off, cap', m, rfl, hv, hb, hc, hq⟩
  · subst h0
    go_enter Tryd.func31, Tryd.ntmps31
    go_wp2_with (at_builtin; refine wpList_append_rd rfl _ _ 23 rfl w.heap.size 34 i0 _ 3 32 Tryd.underlying23 hi hz0 hz1 hz2 rfl (by decide) _ _ 0 (0) [] ys rfl r0 rfl hsrc h1 (by unfold maxLen; omega) (by omega) (by simp) ?_; intro v1 w1 hown1 hg1)
    rw [Nat.zero_add, List.nil_append] at hown1
    have hB1 : Below w.heap.size w w1 := below_app hBa r0 hg1 (Nat.le_refl _) (by simp)
    have hz1' := hB1.size
    obtain ⟨a1, q1, rfl⟩ := ownsRow_len hown1
    go_wp2_with fail
    refine (l7Record_any 2166136261 (0) _ note _ hh (by simp <;> omega) (by omega) hs).mono ?_
    rintro e w2 ⟨rfl, hB2⟩
    have hown2 := ownsRow_below hown1 hB2
    have hB3 := below_one hB1 hB2
    have hz3 := hB3.size
    clear hown1 hB1 hB2 hg1 hsrc r0 hBa
    go_wp2_with (at_builtin; refine wpList_append_own _ rfl _ _ 23 rfl w.heap.size 34 i0 _ 3 32 Tryd.underlying23 hi hz0 hz1 hz2 rfl (by decide) _ _ _ rfl (hown2.alloc _) ⟨w2.heap.size, 0, none⟩ 1 1 (rcN 2166136261 0 note).cells rfl rfl (cell_rc_new w2 (rcN 2166136261 0 note)) (rc_one _) (by unfold maxLen; omega) (by omega) (by simp; omega) ?_; intro v3 w3 hown3 hg3 _)
    have hB4 : Below w.heap.size w w3 := below_app (hB3.alloc hB3.size _) (hown2.alloc _) hg3 (Nat.le_refl _) (by simp; omega)
    obtain ⟨a3, q3, rfl⟩ := ownsRow_len hown3
    go_wp2_with fail
    go_ret
    exact ⟨_, rfl, by rw [HF.out]; simpa using hown3, hB4⟩
  · cases hv
    go_enter Tryd.func31, Tryd.ntmps31
    go_wp2_with (at_builtin; refine wpList_append_rd rfl _ _ 23 rfl w.heap.size 34 i0 _ 3 32 Tryd.underlying23 hi hz0 hz1 hz2 rfl (by decide) _ _ 0 (m + 1) [] ys rfl r0 rfl hsrc h1 (by unfold maxLen; omega) (by omega) (by simp) ?_; intro v1 w1 hown1 hg1)
    rw [Nat.zero_add, List.nil_append] at hown1
    have hB1 : Below w.heap.size w w1 := below_app hBa r0 hg1 (Nat.le_refl _) (by simp)
    have hz1' := hB1.size
    obtain ⟨a1, q1, rfl⟩ := ownsRow_len hown1
    go_wp2_with fail
    refine (l7Record_any h (m + 1) _ note _ hh (by simp <;> omega) (by omega) hs).mono ?_
    rintro e w2 ⟨rfl, hB2⟩
    have hown2 := ownsRow_below hown1 hB2
    have hB3 := below_one hB1 hB2
    have hz3 := hB3.size
    clear hown1 hB1 hB2 hg1 hsrc r0 hBa
    go_wp2_with (at_builtin; refine wpList_append_own _ rfl _ _ 23 rfl w.heap.size 34 i0 _ 3 32 Tryd.underlying23 hi hz0 hz1 hz2 rfl (by decide) _ _ _ rfl (hown2.alloc _) ⟨w2.heap.size, 0, none⟩ 1 1 (rcN h (m + 1) note).cells rfl rfl (cell_rc_new w2 (rcN h (m + 1) note)) (rc_one _) (by unfold maxLen; omega) (by omega) (by simp; omega) ?_; intro v3 w3 hown3 hg3 _)
    have hB4 : Below w.heap.size w w3 := below_app (hB3.alloc hB3.size _) (hown2.alloc _) hg3 (Nat.le_refl _) (by simp; omega)
    obtain ⟨a3, q3, rfl⟩ := ownsRow_len hown3
    go_wp2_with fail
    go_ret
    exact ⟨_, rfl, by rw [HF.out]; simpa using hown3, hB4⟩

theorem ret_rb {v : Value} {a b : Bool} (h : a = b) : Ending.returned (.tuple #[v, .bool a]) = .returned (.tuple #[v, .bool b]) := by rw [h]

set_option maxRecDepth 100000 in
set_option maxHeartbeats 2000000 in
theorem specAppendNote_any (v : Value) (l : List Rc) (note : ByteArray) (w : World) (hm : l.length ≤ 1048577) (hs : note.size ≤ 1048576) (hf : ∀ r ∈ l, r.note.size ≤ 1048576) (hu : ∀ r ∈ l, r.su < 4294967296) (hr : RcR w v l) :
    Calls Tryd.prog 10 #[v, .string note] w fun e w' => ∃ v', e = .returned (.tuple #[v', .bool (apB l note)]) ∧ w'.ownsRow w.heap.size 34 3 v' (apR l note).length ((apR l note).flatMap Rc.cells) ∧ Below w.heap.size w w' := by
  obtain ⟨a, cap, rfl⟩ := hr.len
  cases hg : glB l
  · have HB := hid (show apB l note = false by unfold apB; rw [hg]; first | rfl | simp)
    have HX := hid (show apR l note = [] by unfold apR; rw [HB.out]; rfl)
    go_enter Tryd.func10, Tryd.ntmps10
    go_wp2_with fail
    refine (specGoodLog_any _ l _ hm hf hu hr.s).mono ?_
    rintro e w1 ⟨rfl, hB1⟩
    rw [hg]
    clear hg hr
    go_wp2_with fail
    go_ret2
    exact ⟨_, ret_two HB.out.symm, by rw [HX.out]; exact World.ownsRow_nil _ _ _ _, hB1⟩
  · have hl := lg_len (by unfold glB at hg; simp only [Bool.and_eq_true] at hg; exact hg.1)
    cases hk : ntB note
    · have HB := hid (show apB l note = false by unfold apB; rw [hg, hk]; first | rfl | simp)
      have HX := hid (show apR l note = [] by unfold apR; rw [HB.out]; rfl)
      go_enter Tryd.func10, Tryd.ntmps10
      go_wp2_with fail
      refine (specGoodLog_any _ l _ hm hf hu hr.s).mono ?_
      rintro e w1 ⟨rfl, hB1⟩
      rw [hg]
      clear hg
      go_wp2_with fail
      refine (l7Note_any note _ hs).mono ?_
      rintro e w2 ⟨rfl, rfl⟩
      rw [hk]
      clear hk hr
      go_wp2_with fail
      go_ret2
      exact ⟨_, ret_two HB.out.symm, by rw [HX.out]; exact World.ownsRow_nil _ _ _ _, hB1⟩
    · cases h6 : (l.length == 60)
      · have HB := hid (show apB l note = true by unfold apB; rw [hg, hk, h6]; rfl)
        have HX := hid (show apR l note = puR l note by unfold apR; rw [HB.out]; rfl)
        have h6' : ((l.length : Int) == 60) = false := by simp at h6 ⊢; omega
        clear h6
        go_enter Tryd.func10, Tryd.ntmps10
        go_wp2_with fail
        refine (specGoodLog_any _ l _ hm hf hu hr.s).mono ?_
        rintro e w1 ⟨rfl, hB1⟩
        rw [hg]
        have hr1 := hr.below hB1
        clear hg hr
        go_wp2_with fail
        refine (l7Note_any note _ hs).mono ?_
        rintro e w2 ⟨rfl, rfl⟩
        rw [hk]
        clear hk
        go_wp2_with fail
        refine (l7Put_any _ l note _ (by omega) hs hu hr1).mono ?_
        rintro e w3 ⟨v3, rfl, hown3, hB3⟩
        have hB4 := below_one hB1 hB3
        have HO := hid (show w3.ownsRow w.heap.size 34 3 v3 (apR l note).length ((apR l note).flatMap Rc.cells) by rw [HX.out, puR_len]; exact World.ownsRow.mono hown3 hB1.size)
        obtain ⟨a3, q3, rfl⟩ := ownsRow_len hown3
        clear hown3 hr1
        go_wp2_with fail
        go_ret2
        exact ⟨_, ret_two HB.out.symm, HO.out, hB4⟩
      · have HB := hid (show apB l note = false by unfold apB; rw [h6]; simp)
        have HX := hid (show apR l note = [] by unfold apR; rw [HB.out]; rfl)
        have h6' : ((l.length : Int) == 60) = true := by simp at h6 ⊢; omega
        clear h6
        go_enter Tryd.func10, Tryd.ntmps10
        go_wp2_with fail
        refine (specGoodLog_any _ l _ hm hf hu hr.s).mono ?_
        rintro e w1 ⟨rfl, hB1⟩
        rw [hg]
        clear hg hr
        go_wp2_with fail
        refine (l7Note_any note _ hs).mono ?_
        rintro e w2 ⟨rfl, rfl⟩
        rw [hk]
        clear hk
        go_wp2_with fail
        go_ret2
        exact ⟨_, ret_two HB.out.symm, by rw [HX.out]; exact World.ownsRow_nil _ _ _ _, hB1⟩

set_option maxRecDepth 100000 in
set_option maxHeartbeats 2000000 in
theorem implAppendNote_any (v : Value) (l : List Rc) (note : ByteArray) (w : World) (ht : Tab w) (hm : l.length ≤ 1048577) (hs : note.size ≤ 1048576) (hf : ∀ r ∈ l, r.note.size ≤ 1048576) (hu : ∀ r ∈ l, r.su < 4294967296) (hr : RcR w v l) :
    Calls Tryd.prog 9 #[v, .string note] w fun e w' => ∃ v', e = .returned (.tuple #[v', .bool (apB l note)]) ∧ w'.ownsRow w.heap.size 34 3 v' (apR l note).length ((apR l note).flatMap Rc.cells) ∧ Below w.heap.size w w' := by
  have HT := hid ht
  clear ht
  obtain ⟨a, cap, rfl⟩ := hr.len
  cases hg : glB l
  · have HB := hid (show apB l note = false by unfold apB; rw [hg]; first | rfl | simp)
    have HX := hid (show apR l note = [] by unfold apR; rw [HB.out]; rfl)
    go_enter Tryd.func9, Tryd.ntmps9
    go_wp2_with fail
    refine (implGoodLog_any _ l _ HT.out hm hf hu hr.s).mono ?_
    rintro e w1 ⟨rfl, hB1⟩
    rw [hg]
    clear hg hr
    go_wp2_with fail
    go_ret2
    exact ⟨_, ret_two HB.out.symm, by rw [HX.out]; exact World.ownsRow_nil _ _ _ _, hB1⟩
  · have hl := lg_len (by unfold glB at hg; simp only [Bool.and_eq_true] at hg; exact hg.1)
    cases hk : ntB note
    · have HB := hid (show apB l note = false by unfold apB; rw [hg, hk]; first | rfl | simp)
      have HX := hid (show apR l note = [] by unfold apR; rw [HB.out]; rfl)
      go_enter Tryd.func9, Tryd.ntmps9
      go_wp2_with fail
      refine (implGoodLog_any _ l _ HT.out hm hf hu hr.s).mono ?_
      rintro e w1 ⟨rfl, hB1⟩
      rw [hg]
      clear hg
      go_wp2_with fail
      refine (goodNote_any note _ hs).mono ?_
      rintro e w2 ⟨rfl, rfl⟩
      rw [hk]
      clear hk hr
      go_wp2_with fail
      go_ret2
      exact ⟨_, ret_two HB.out.symm, by rw [HX.out]; exact World.ownsRow_nil _ _ _ _, hB1⟩
    · cases h6 : (l.length == 60)
      · have HB := hid (show apB l note = true by unfold apB; rw [hg, hk, h6]; rfl)
        have HX := hid (show apR l note = puR l note by unfold apR; rw [HB.out]; rfl)
        have h6' : ((l.length : Int) == 60) = false := by simp at h6 ⊢; omega
        clear h6
        go_enter Tryd.func9, Tryd.ntmps9
        go_wp2_with fail
        refine (implGoodLog_any _ l _ HT.out hm hf hu hr.s).mono ?_
        rintro e w1 ⟨rfl, hB1⟩
        rw [hg]
        have hr1 := hr.below hB1
        clear hg hr
        go_wp2_with fail
        refine (goodNote_any note _ hs).mono ?_
        rintro e w2 ⟨rfl, rfl⟩
        rw [hk]
        clear hk
        go_wp2_with fail
        refine (cloneRc_any _ l _ (by omega) hr1).mono ?_
        rintro e w3 ⟨v3, rfl, hown3, hB3⟩
        have hB4 := below_one hB1 hB3
        have hBz := hB3
        have hr3 := hr1.below hB3
        obtain ⟨a3, q3, rfl⟩ := ownsRow_len hown3
        clear hB3 hr1
        go_wp2_with fail
        refine (rb_any _ _ _ l l.length note _ (HT.out.on hB4) hl (Nat.le_refl _) hs hu hr3.s).mono ?_
        rintro e w4 ⟨rfl, hB5⟩
        have hown4 := ownsRow_below hown3 hB5
        have hB6 := below_one hB4 hB5
        have hz6 := hB6.size
        have hz1 := hB1.size
        have hzz : w2.heap.size ≤ w4.heap.size := Nat.le_trans (hBz.size) (hB5.size)
        have HL := hid (puR_len l note)
        have HF := hid (puR_flat l note)
        clear hown3 hB4 hB5 hr3
        generalize rcN (pvS l l.length) l.length note = rc at *
        obtain ⟨i0, hi, hz0, hz1', hz2⟩ := info_parts infoRecord
        go_wp2_with (at_builtin; refine wpList_append_own _ rfl _ _ 23 rfl w2.heap.size 34 i0 _ 3 32 Tryd.underlying23 hi hz0 hz1' hz2 rfl (by decide) _ _ _ rfl (hown4.alloc _) ⟨w4.heap.size, 0, none⟩ 1 1 rc.cells rfl rfl (cell_rc_new w4 rc) (rc_one _) (by unfold maxLen; omega) (by omega) (by simp; omega) ?_; intro v5 w5 hown5 hg5 _)
        have hB7 : Below w.heap.size w w5 := below_app (hB6.alloc hB6.size _) (hown4.alloc _) hg5 hz1 (by simp; omega)
        have HO := hid (show w5.ownsRow w.heap.size 34 3 v5 (apR l note).length ((apR l note).flatMap Rc.cells) by rw [HX.out, HL.out, HF.out]; exact World.ownsRow.mono (by simpa using hown5) hz1)
        obtain ⟨a5, q5, rfl⟩ := ownsRow_len hown5
        clear hown5 hown4
        go_wp2_with fail
        go_ret2
        exact ⟨_, ret_two HB.out.symm, HO.out, hB7⟩
      · have HB := hid (show apB l note = false by unfold apB; rw [h6]; simp)
        have HX := hid (show apR l note = [] by unfold apR; rw [HB.out]; rfl)
        have h6' : ((l.length : Int) == 60) = true := by simp at h6 ⊢; omega
        clear h6
        go_enter Tryd.func9, Tryd.ntmps9
        go_wp2_with fail
        refine (implGoodLog_any _ l _ HT.out hm hf hu hr.s).mono ?_
        rintro e w1 ⟨rfl, hB1⟩
        rw [hg]
        clear hg hr
        go_wp2_with fail
        refine (goodNote_any note _ hs).mono ?_
        rintro e w2 ⟨rfl, rfl⟩
        rw [hk]
        clear hk
        go_wp2_with fail
        go_ret2
        exact ⟨_, ret_two HB.out.symm, by rw [HX.out]; exact World.ownsRow_nil _ _ _ _, hB1⟩

end Go.Proofs.YtepoamekeackkaaDoor
