/-
  Chapter 5: copies of lists of versions, cuts, CompactTo: by both.
-/
import Derived.Test.YtmmjiocmldnamaaGreatLstI
import Derived.Test.YtmmjiocmldnamaaGreatLstO
namespace Go.Proofs.YtmmjiocmldnamaaGreat
open Go.RowKit Go.Shelf

theorem cell_three_w (w : World) (x0 x1 x2 : Value) : ∀ j u, [x0, x1, x2][j]? = some u → (w.alloc (.cells #[x0, x1, x2] 48)).cell? ((⟨w.heap.size, 0, none⟩ : Addr).add j) = some u := by
  intro j u hu
  rw [Addr.add_lit, Nat.zero_add]
  have hj : j < 3 := by
    have := (List.getElem?_eq_some_iff.1 hu).1
    simpa using this
  obtain rfl | rfl | rfl : j = 0 ∨ j = 1 ∨ j = 2 := by omega
  all_goals (simp at hu; subst hu; simp)
/-- One more version is put behind the row. -/
theorem SsK.app {w w2 w3 : World} {base : Nat} {v v' : Value} {ss : List Sn} {k : Nat} {xs : List Value} {vp vr : Nat → Value} {p r : Value} {tmp : Obj} (h : SsK w base w.heap.size v k ss k xs vp vr) (hB : Below w.heap.size w w2) (hk : k < ss.length) (hb : base ≤ w.heap.size)
    (hp : w2.ownsRow w.heap.size 71 4 p ss[k].pol.length (ss[k].pol.flatMap Ru.cells)) (hr : w2.ownsRow w.heap.size 3 1 r ss[k].rv.length (nums ss[k].rv))
    (hown : w3.ownsRow base 48 3 v' (k + 1) (xs ++ [.int .i64 ss[k].num, p, r])) (hg : (w2.alloc tmp).grownBy w3 v.ownBlock) :
    SsK w3 base w3.heap.size v' (k + 1) ss (k + 1) (xs ++ [.int .i64 ss[k].num, p, r]) (fun i => if i = k then p else vp i) (fun i => if i = k then r else vr i) := by
  have h2 := h.below hB
  have hlen : xs.length = k * 3 := h.row.1
  have hs := hB.size
  have hr2 := h2.row.alloc tmp
  have keep : ∀ {b : Nat} {e : TypeId} {s m : Nat} {u : Value} {x : List Value}, w2.ownsRow b e s u m x → e ≠ 48 → w3.ownsRow b e s u m x := fun hu hne => kept_apart (hu.alloc tmp) hg (fun j h1 h2 => row_apart (hu.alloc tmp) hr2 hne j h1 h2)
  have pk := keep hp tyR
  have rk := keep hr tyN
  refine ⟨hown, fun j hj => (hown.lt j hj).2, ?_, ?_, ?_, ?_, ?_, ?_, ?_⟩
  · intro i hi hik
    by_cases e : i = k
    · subst e
      rw [if_pos rfl, if_pos rfl]
      refine ⟨?_, ?_, ?_⟩
      · rw [List.getElem?_append_right (by omega), hlen, Nat.sub_self]; rfl
      · rw [List.getElem?_append_right (by omega), hlen, Nat.add_sub_cancel_left]; rfl
      · rw [List.getElem?_append_right (by omega), hlen, Nat.add_sub_cancel_left]; rfl
    · rw [if_neg e, if_neg e]
      obtain ⟨c0, c1, c2⟩ := h.cs i hi (by omega)
      exact ⟨by rw [List.getElem?_append_left (by omega)]; exact c0, by rw [List.getElem?_append_left (by omega)]; exact c1, by rw [List.getElem?_append_left (by omega)]; exact c2⟩
  · intro i hi hik
    by_cases e : i = k
    · subst e
      rw [if_pos rfl]
      exact Go.Joins.ownsRow_le pk hb
    · rw [if_neg e]
      exact keep (h2.pol i hi (by omega)) tyR
  · intro i hi hik
    by_cases e : i = k
    · subst e
      rw [if_pos rfl]
      exact Go.Joins.ownsRow_le rk hb
    · rw [if_neg e]
      exact keep (h2.num i hi (by omega)) tyN
  · intro i hi hik j hj
    by_cases e : i = k
    · rw [if_pos e] at hj
      exact (pk.lt j hj).2
    · rw [if_neg e] at hj
      exact ((keep (h2.pol i hi (by omega)) tyR).lt j hj).2
  · intro i hi hik j hj
    by_cases e : i = k
    · rw [if_pos e] at hj
      exact (rk.lt j hj).2
    · rw [if_neg e] at hj
      exact ((keep (h2.num i hi (by omega)) tyN).lt j hj).2
  · intro i j hi hj hik hjk hij b h1 h2'
    by_cases e : i = k
    · rw [if_pos e] at h1
      rw [if_neg (by omega)] at h2'
      have := (hp.lt b h1).1
      have := h.plt j hj (by omega) b h2'
      omega
    · rw [if_neg e] at h1
      have := h.plt i hi (by omega) b h1
      by_cases e2 : j = k
      · rw [if_pos e2] at h2'
        have := (hp.lt b h2').1
        omega
      · rw [if_neg e2] at h2'
        exact h.pap i j hi hj (by omega) (by omega) hij b h1 h2'
  · intro i j hi hj hik hjk hij b h1 h2'
    by_cases e : i = k
    · rw [if_pos e] at h1
      rw [if_neg (by omega)] at h2'
      have := (hr.lt b h1).1
      have := h.nlt j hj (by omega) b h2'
      omega
    · rw [if_neg e] at h1
      have := h.nlt i hi (by omega) b h1
      by_cases e2 : j = k
      · rw [if_pos e2] at h2'
        have := (hr.lt b h2').1
        omega
      · rw [if_neg e2] at h2'
        exact h.nap i j hi hj (by omega) (by omega) hij b h1 h2'

set_option maxHeartbeats 4000000 in
theorem copySnapshots_any (v : Value) (ss : List Sn) (w : World) (hm : shortS ss) (hr : SsR w v ss) :
    Calls Tryz.prog 48 #[v] w fun e w' => ∃ v', e = .returned v' ∧ SsO w' w.heap.size w'.heap.size v' ss ∧ Below w.heap.size w w' := by
  obtain ⟨a, cap, rfl⟩ := hr.len
  obtain ⟨i0, hi, hz0, hz1, hz2⟩ := info_parts infoSnapshot
  have hm1 := hm.1
  go_enter Tryz.func48, Tryz.ntmps48
  go_wp2
  go_loopw [3, 8] (fun out i wr => ∃ k : Nat, k ≤ ss.length ∧ i = .int .i64 k ∧ (∃ xs vp vr, SsK wr w.heap.size wr.heap.size out k ss k xs vp vr) ∧ Below w.heap.size w wr) (fun _ i _ => ss.length - (intOf i).toNat)
  case atStart => exact ⟨0, Nat.zero_le _, rfl, ⟨[], fun _ => .nilIface, fun _ => .nilIface, World.ownsRow_nil _ _ _ _, fun _ h => by simp [Value.ownBlock] at h, fun _ _ h => absurd h (Nat.not_lt_zero _), fun _ _ h => absurd h (Nat.not_lt_zero _), fun _ _ h => absurd h (Nat.not_lt_zero _), fun _ _ h => absurd h (Nat.not_lt_zero _), fun _ _ h => absurd h (Nat.not_lt_zero _), fun _ _ _ _ h => absurd h (Nat.not_lt_zero _), fun _ _ _ _ h => absurd h (Nat.not_lt_zero _)⟩, Below.refl _ _⟩
  case round =>
    obtain ⟨k, hk, rfl, ⟨xs, vp, vr, hK⟩, hB⟩ := hrel
    by_cases hlt : k < ss.length
    · obtain ⟨b, off, xp, cp, xr, cr, rfl, hb, hcap, q0, q1, q2, y1, y2⟩ := (hr.below hB).at hlt
      have hsh := hm.2 ss[k] (List.getElem_mem hlt)
      have HA := hid (fun (w2 w3 : World) (p r v' : Value) (tmp : Obj) (hB2 : Below wr.heap.size wr w2) => SsK.app (w2 := w2) (w3 := w3) (p := p) (r := r) (v' := v') (tmp := tmp) hK hB2 hlt hB.size)
      have hrow := hK.row
      have hz := hB.size
      clear hK
      generalize ss[k] = s at *
      have hBw : Below wr.heap.size wr (wr.alloc (.cells #[.int .i64 s.num, .slice xp s.pol.length cp, .slice xr s.rv.length cr] 48)) := (Below.refl _ wr).alloc (Nat.le_refl _) _
      have z1 := y1.below hBw
      have z2 := y2.below hBw
      go_wp2_with fail
      clear q0 q1 q2
      generalize wr.alloc (.cells #[.int .i64 s.num, .slice xp s.pol.length cp, .slice xr s.rv.length cr] 48) = W1 at *
      refine (copySnapshot_any _ s _ hsh ⟨_, _, rfl, z1, z2⟩).mono ?_
      rintro e w2 ⟨v2, rfl, ⟨p, r, rfl, op, or', _, _⟩, hB2⟩
      obtain ⟨xa, ya, za, rfl⟩ := row_slice op
      obtain ⟨xb, yb, zb, rfl⟩ := row_slice or'
      have hBX := below_one hBw hB2
      have hrow2 := ownsRow_below hrow hBX
      have hBY := below_one hB hBX
      have hz2' := hBY.size
      have HB := hid (fun (w3 : World) (v' : Value) (tmp : Obj) => HA.out w2 w3 _ _ v' tmp hBX (Go.Joins.ownsRow_le op hBw.size) (Go.Joins.ownsRow_le or' hBw.size))
      clear HA op or' hB2 hBw y1 y2 z1 z2 hrow
      go_wp2_with (at_builtin; refine wpList_append_own _ rfl _ _ 27 rfl w.heap.size 48 i0 _ 3 56 Tryz.underlying27 hi hz0 hz1 hz2 rfl (by decide) _ _ _ rfl (hrow2.alloc _) ⟨w2.heap.size, 0, none⟩ 1 1 [.int .i64 s.num, .slice xa ya za, .slice xb yb zb] rfl rfl (cell_three_w w2 _ _ _) (by intro u hu; simp at hu; rcases hu with rfl | rfl | rfl <;> rfl) (by unfold maxLen; first | omega | (simp <;> omega)) (by first | omega | (simp <;> omega)) (by first | omega | (simp <;> omega)) ?_; intro u' w3 hown' hgrow _; obtain ⟨g', cap3, rfl⟩ := ownsRow_succ hown')
      go_roundw
      case rel => exact ⟨k + 1, by omega, by go_num, ⟨_, _, _, HB.out w3 _ _ (by simpa using hown') hgrow⟩, hBY.trans (below_appended hz2' hrow2 hgrow)⟩
      case measure => simp [intOf]; omega
    · obtain rfl : k = ss.length := by omega
      go_wp2
      go_ret
      exact ⟨_, rfl, ⟨xs, vp, vr, hK⟩, hB⟩

set_option maxHeartbeats 4000000 in
theorem l5OwnAll_any (v : Value) (ss : List Sn) (w : World) (hm : shortS ss) (hr : SsR w v ss) :
    Calls Tryz.prog 40 #[v] w fun e w' => ∃ v', e = .returned v' ∧ SsO w' w.heap.size w'.heap.size v' ss ∧ Below w.heap.size w w' := by
  obtain ⟨a, cap, rfl⟩ := hr.len
  obtain ⟨i0, hi, hz0, hz1, hz2⟩ := info_parts infoSnapshot
  have hm1 := hm.1
  go_enter Tryz.func40, Tryz.ntmps40
  go_wp2
  go_loopw [3, 8] (fun out i wr => ∃ k : Nat, k ≤ ss.length ∧ i = .int .i64 k ∧ (∃ xs vp vr, SsK wr w.heap.size wr.heap.size out k ss k xs vp vr) ∧ Below w.heap.size w wr) (fun _ i _ => ss.length - (intOf i).toNat)
  case atStart => exact ⟨0, Nat.zero_le _, rfl, ⟨[], fun _ => .nilIface, fun _ => .nilIface, World.ownsRow_nil _ _ _ _, fun _ h => by simp [Value.ownBlock] at h, fun _ _ h => absurd h (Nat.not_lt_zero _), fun _ _ h => absurd h (Nat.not_lt_zero _), fun _ _ h => absurd h (Nat.not_lt_zero _), fun _ _ h => absurd h (Nat.not_lt_zero _), fun _ _ h => absurd h (Nat.not_lt_zero _), fun _ _ _ _ h => absurd h (Nat.not_lt_zero _), fun _ _ _ _ h => absurd h (Nat.not_lt_zero _)⟩, Below.refl _ _⟩
  case round =>
    obtain ⟨k, hk, rfl, ⟨xs, vp, vr, hK⟩, hB⟩ := hrel
    by_cases hlt : k < ss.length
    · obtain ⟨b, off, xp, cp, xr, cr, rfl, hb, hcap, q0, q1, q2, y1, y2⟩ := (hr.below hB).at hlt
      have hsh := hm.2 ss[k] (List.getElem_mem hlt)
      have HA := hid (fun (w2 w3 : World) (p r v' : Value) (tmp : Obj) (hB2 : Below wr.heap.size wr w2) => SsK.app (w2 := w2) (w3 := w3) (p := p) (r := r) (v' := v') (tmp := tmp) hK hB2 hlt hB.size)
      have hrow := hK.row
      have hz := hB.size
      clear hK
      generalize ss[k] = s at *
      have hBw : Below wr.heap.size wr (wr.alloc (.cells #[.int .i64 s.num, .slice xp s.pol.length cp, .slice xr s.rv.length cr] 48)) := (Below.refl _ wr).alloc (Nat.le_refl _) _
      have z1 := y1.below hBw
      have z2 := y2.below hBw
      go_wp2_with fail
      clear q0 q1 q2
      generalize wr.alloc (.cells #[.int .i64 s.num, .slice xp s.pol.length cp, .slice xr s.rv.length cr] 48) = W1 at *
      refine (l5Own_any _ s _ hsh ⟨_, _, rfl, z1, z2⟩).mono ?_
      rintro e w2 ⟨v2, rfl, ⟨p, r, rfl, op, or', _, _⟩, hB2⟩
      obtain ⟨xa, ya, za, rfl⟩ := row_slice op
      obtain ⟨xb, yb, zb, rfl⟩ := row_slice or'
      have hBX := below_one hBw hB2
      have hrow2 := ownsRow_below hrow hBX
      have hBY := below_one hB hBX
      have hz2' := hBY.size
      have HB := hid (fun (w3 : World) (v' : Value) (tmp : Obj) => HA.out w2 w3 _ _ v' tmp hBX (Go.Joins.ownsRow_le op hBw.size) (Go.Joins.ownsRow_le or' hBw.size))
      clear HA op or' hB2 hBw y1 y2 z1 z2 hrow
      go_wp2_with (at_builtin; refine wpList_append_own _ rfl _ _ 27 rfl w.heap.size 48 i0 _ 3 56 Tryz.underlying27 hi hz0 hz1 hz2 rfl (by decide) _ _ _ rfl (hrow2.alloc _) ⟨w2.heap.size, 0, none⟩ 1 1 [.int .i64 s.num, .slice xa ya za, .slice xb yb zb] rfl rfl (cell_three_w w2 _ _ _) (by intro u hu; simp at hu; rcases hu with rfl | rfl | rfl <;> rfl) (by unfold maxLen; first | omega | (simp <;> omega)) (by first | omega | (simp <;> omega)) (by first | omega | (simp <;> omega)) ?_; intro u' w3 hown' hgrow _; obtain ⟨g', cap3, rfl⟩ := ownsRow_succ hown')
      go_roundw
      case rel => exact ⟨k + 1, by omega, by go_num, ⟨_, _, _, HB.out w3 _ _ (by simpa using hown') hgrow⟩, hBY.trans (below_appended hz2' hrow2 hgrow)⟩
      case measure => simp [intOf]; omega
    · obtain rfl : k = ss.length := by omega
      go_wp2
      go_ret
      exact ⟨_, rfl, ⟨xs, vp, vr, hK⟩, hB⟩

/-- The versions from a place on. -/
theorem SsR.drop {w : World} {b off n cap c' : Nat} {ss : List Sn} (h : SsR w (.slice (some ⟨b, off, none⟩) n cap) ss) {k : Nat} (hk : k ≤ ss.length) (hc : ss.length - k ≤ c') : SsR w (.slice (some ⟨b, off + k * 3, none⟩) (ss.length - k) c') (ss.drop k) := by
  rcases h with ⟨hv, _⟩ | ⟨b', off', cap', hv, hb, hl, hcs⟩
  · cases hv
  · cases hv
    refine .inr ⟨b, off + k * 3, c', by rw [List.length_drop], hb, by rw [List.length_drop]; exact hc, fun i hi => ?_⟩
    rw [List.length_drop] at hi
    obtain ⟨vp, vr, c0, c1, c2, h1, h2⟩ := hcs (k + i) (by omega)
    refine ⟨vp, vr, ?_, ?_, ?_, ?_, ?_⟩
    · rw [List.getElem_drop, show off + k * 3 + i * 3 = off + (k + i) * 3 by omega]; exact c0
    · rw [show off + k * 3 + i * 3 + 1 = off + (k + i) * 3 + 1 by omega]; exact c1
    · rw [show off + k * 3 + i * 3 + 2 = off + (k + i) * 3 + 2 by omega]; exact c2
    · rw [List.getElem_drop]; exact h1
    · rw [List.getElem_drop]; exact h2
theorem shortS_drop {ss : List Sn} (h : shortS ss) (k : Nat) : shortS (ss.drop k) := ⟨by rw [List.length_drop]; have := h.1; omega, fun s hs => h.2 s (List.mem_of_mem_drop hs)⟩

set_option maxHeartbeats 1000000 in
theorem cutFrom_any (b off n cap k : Nat) (w : World) (_hn : n ≤ 1048577) (hk : k < n) (hc : n ≤ cap) :
    Calls Tryz.prog 49 #[.slice (some ⟨b, off, none⟩) n cap, .int .i64 k] w fun e w' => e = .returned (.slice (some ⟨b, off + k * 3, none⟩) (n - k) (n - k)) ∧ w' = w := by
  go_enter Tryz.func49, Tryz.ntmps49
  go_wp2
  go_ret
  exact ⟨rfl, rfl⟩

set_option maxHeartbeats 2000000 in
theorem implCompactTo_any (v : Value) (ss : List Sn) (z : Int) (w : World) (hm : shortS ss) (hr : SsR w v ss) :
    Calls Tryz.prog 32 #[v, .int .i64 z] w fun e w' => ∃ v', e = .returned (.tuple #[v', .bool (thB ss z)]) ∧ SsO w' w.heap.size w'.heap.size v' (ctX ss z) ∧ Below w.heap.size w w' := by
  obtain ⟨a, cap, rfl⟩ := hr.len
  have hm1 := hm.1
  go_enter Tryz.func32, Tryz.ntmps32
  go_wp2_with fail
  refine (placeOfNumber_any _ ss z _ hm hr).mono ?_
  rintro e w1 ⟨⟨n, rfl, hn⟩, hB1⟩
  cases hth : thB ss z
  · have HX := hid (ctX_no hth)
    go_wp2_with fail
    go_ret2
    exact ⟨_, by rw [hth]; rfl, by rw [HX.out]; exact SsO.none _ _ _, hB1⟩
  · have hnn := hn hth
    have hlt : n < ss.length := by
      rw [hnn, ← vN_len ss]
      unfold thB at hth
      rw [Bool.and_eq_true] at hth
      exact hasN_lt hth.2
    have HX := hid (ctX_yes hth hnn.symm)
    obtain ⟨b, off, xp, cp, xr, cr, rfl, hb, hcap, _⟩ := (hr.below hB1).at hlt
    have hr1 := (hr.below hB1).drop (k := n) (c' := ss.length - n) (by omega) (Nat.le_refl _)
    have hs1 := hB1.size
    clear hnn hn
    go_wp2_with fail
    refine (cutFrom_any b off ss.length cap n _ (by omega) hlt hcap).mono ?_
    rintro e w2 ⟨rfl, rfl⟩
    go_wp2_with fail
    refine (copySnapshots_any _ (ss.drop n) _ (shortS_drop hm n) hr1).mono ?_
    rintro e w3 ⟨v3, rfl, O3, hB3⟩
    obtain ⟨x3, c3, rfl⟩ := O3.a.len
    rw [List.length_drop] at O3
    go_wp2_with fail
    go_ret2
    exact ⟨_, by rw [hth]; rfl, by rw [HX.out]; exact O3.mono hs1 (Nat.le_refl _), below_one hB1 hB3⟩

set_option maxHeartbeats 4000000 in
theorem specCompactTo_any (v : Value) (ss : List Sn) (z : Int) (w : World) (hm : shortS ss) (hr : SsR w v ss) :
    Calls Tryz.prog 31 #[v, .int .i64 z] w fun e w' => ∃ v', e = .returned (.tuple #[v', .bool (thB ss z)]) ∧ SsO w' w.heap.size w'.heap.size v' (ctX ss z) ∧ Below w.heap.size w w' := by
  obtain ⟨a, cap, rfl⟩ := hr.len
  have hm1 := hm.1
  have hl := vN_len ss
  go_enter Tryz.func31, Tryz.ntmps31
  go_wp2_with fail
  refine (l5List_any _ ss _ hm hr.a).mono ?_
  rintro e w1 ⟨rfl, hBB⟩
  cases hg : lsB ss
  · have HT := hid (show thB ss z = false by unfold thB; rw [hg]; rfl)
    have HX := hid (ctX_no HT.out)
    go_wp2_with fail
    go_ret2
    exact ⟨_, by rw [HT.out]; rfl, by rw [HX.out]; exact SsO.none _ _ _, hBB⟩
  have HUP := hid (lsB_up hg)
  go_wp2_with fail
  go_loopw [13] (fun i wr => ∃ n : Nat, n ≤ ss.length ∧ i = .int .i64 n ∧ (∀ j (hj : j < (vN ss).length), j < n → (vN ss)[j] ≠ z) ∧ Below w1.heap.size w1 wr) (fun i _ => ss.length - (intOf i).toNat)
  case atStart => exact ⟨0, Nat.zero_le _, rfl, fun _ _ h => absurd h (Nat.not_lt_zero _), Below.refl _ _⟩
  case round =>
    obtain ⟨n, hn, rfl, ht, hB⟩ := hrel
    have HK := hid ht
    clear ht
    have hBr := below_one hBB hB
    by_cases hlt : n < ss.length
    · obtain ⟨b, off, xp, cp, xr, cr, rfl, hb, hcap, q0, q1, q2, y1, y2⟩ := (hr.below hBr).at hlt
      have hr1 := hr.drop (k := n) (c' := cap - n) (by omega) (by omega)
      have HS := hid (show ss[n].num ≠ z → ∀ j (hj : j < (vN ss).length), j < n + 1 → (vN ss)[j] ≠ z from fun h j hj hjn => by
        by_cases e : j = n
        · subst e; rw [vN_at]; exact h
        · exact HK.out j hj (by omega))
      have HF := hid (show ss[n].num = z → thB ss z = true ∧ ctX ss z = ss.drop n from fun h => by
        obtain ⟨h1, h2⟩ := up_at (n := z) HUP.out (k := n) (by omega) (by rw [vN_at]; exact h)
        have ht : thB ss z = true := by unfold thB; rw [hg, h2]; rfl
        exact ⟨ht, ctX_yes ht h1⟩)
      generalize ss[n] = s at *
      have hBw : Below wr.heap.size wr (wr.alloc (.cells #[.int .i64 s.num, .slice xp s.pol.length cp, .slice xr s.rv.length cr] 48)) := (Below.refl _ wr).alloc (Nat.le_refl _) _
      have FS := Three.new wr (.int .i64 s.num) (.slice xp s.pol.length cp) (.slice xr s.rv.length cr) 48
      have hBW := below_one hB hBw
      by_cases hx : s.num = z
      · obtain ⟨hth, hct⟩ := HF.out hx
        have HT := hid hth
        have HX := hid hct
        have ex : (s.num == z) = true := by rw [hx]; simp
        have hBB2 := below_one hBB hBW
        have hs2 := hBB2.size
        have hne : ¬ cap = n := by omega
        clear hth hct hx HF HS y1 y2
        obtain ⟨c0, c1, c2⟩ := FS.c
        go_wp2_with fail
        clear q0 q1 q2
        generalize wr.alloc (.cells #[.int .i64 s.num, .slice xp s.pol.length cp, .slice xr s.rv.length cr] 48) = W1 at *
        refine (l5OwnAll_any _ (ss.drop n) _ (shortS_drop hm n) (hr1.below hBB2)).mono ?_
        rintro e w2 ⟨v2, rfl, O2, hB2⟩
        obtain ⟨x2, k2, rfl⟩ := O2.a.len
        rw [List.length_drop] at O2
        have hBB3 := below_one hBB2 hB2
        go_wp2_with fail
        go_ret2
        exact ⟨_, by rw [HT.out]; rfl, by rw [HX.out]; exact O2.mono hs2 (Nat.le_refl _), hBB3⟩
      · have HR := hid (HS.out hx)
        have ex : (s.num == z) = false := by simp [hx]
        clear hx HF HS y1 y2
        obtain ⟨c0, c1, c2⟩ := FS.c
        go_wp2_with fail
        go_roundw
        case rel => exact ⟨n + 1, by omega, by go_num, HR.out, hBW⟩
        case measure => simp [intOf]; omega
    · obtain rfl : n = ss.length := by omega
      have HT := hid (show thB ss z = false by unfold thB; rw [hg, up_none HUP.out (fun k hk => HK.out k hk (by omega))]; rfl)
      have HX := hid (ctX_no HT.out)
      go_wp2_with fail
      go_ret2
      exact ⟨_, by rw [HT.out]; rfl, by rw [HX.out]; exact SsO.none _ _ _, hBr⟩

end Go.Proofs.YtmmjiocmldnamaaGreat
