/-
  Lists of versions of one's own: handed on, marked by the laws, and held against the marks.
-/
import Derived.Test.YtmmjiocmldnamaaGreatSnL
namespace Go.Proofs.YtmmjiocmldnamaaGreat
open Go.RowKit Go.Shelf

/-- A row of n places, of which the first k hold these versions, whose lists lie in blocks of their own from base on, below top. -/
structure SsK (w : World) (base top : Nat) (v : Value) (n : Nat) (ss : List Sn) (k : Nat) (xs : List Value) (vp vr : Nat → Value) : Prop where
  row : w.ownsRow base 48 3 v n xs
  rlt : ∀ j, v.ownBlock = some j → j < top
  cs : ∀ i (h : i < ss.length), i < k → xs[i * 3]? = some (.int .i64 ss[i].num) ∧ xs[i * 3 + 1]? = some (vp i) ∧ xs[i * 3 + 2]? = some (vr i)
  pol : ∀ i (h : i < ss.length), i < k → w.ownsRow base 71 4 (vp i) ss[i].pol.length (ss[i].pol.flatMap Ru.cells)
  num : ∀ i (h : i < ss.length), i < k → w.ownsRow base 3 1 (vr i) ss[i].rv.length (nums ss[i].rv)
  plt : ∀ i, i < ss.length → i < k → ∀ j, (vp i).ownBlock = some j → j < top
  nlt : ∀ i, i < ss.length → i < k → ∀ j, (vr i).ownBlock = some j → j < top
  pap : ∀ i j, i < ss.length → j < ss.length → i < k → j < k → i ≠ j → ∀ b, (vp i).ownBlock = some b → (vp j).ownBlock = some b → False
  nap : ∀ i j, i < ss.length → j < ss.length → i < k → j < k → i ≠ j → ∀ b, (vr i).ownBlock = some b → (vr j).ownBlock = some b → False
/-- A list of versions of one's own. -/
def SsO (w : World) (base top : Nat) (v : Value) (ss : List Sn) : Prop := ∃ xs vp vr, SsK w base top v ss.length ss ss.length xs vp vr
theorem SsK.below {w w' : World} {base top : Nat} {v : Value} {n : Nat} {ss : List Sn} {k : Nat} {xs : List Value} {vp vr : Nat → Value} (h : SsK w base top v n ss k xs vp vr) (hB : Below w.heap.size w w') : SsK w' base top v n ss k xs vp vr :=
  ⟨ownsRow_below h.row hB, h.rlt, h.cs, fun i hi hk => ownsRow_below (h.pol i hi hk) hB, fun i hi hk => ownsRow_below (h.num i hi hk) hB, h.plt, h.nlt, h.pap, h.nap⟩
theorem SsO.below {w w' : World} {base top : Nat} {v : Value} {ss : List Sn} (h : SsO w base top v ss) (hB : Below w.heap.size w w') : SsO w' base top v ss := by
  obtain ⟨xs, vp, vr, h⟩ := h
  exact ⟨xs, vp, vr, h.below hB⟩
theorem Mid.sso {lo hi : Nat} {w w1 : World} (hM : Mid lo hi w w1) {base top : Nat} {v : Value} {ss : List Sn} (h : SsO w base top v ss) (ho : hi ≤ base ∨ top ≤ lo) : SsO w1 base top v ss := by
  obtain ⟨xs, vp, vr, h⟩ := h
  exact ⟨xs, vp, vr, hM.row h.row (fun j hj => by have := h.row.lt j hj; have := h.rlt j hj; omega), h.rlt, h.cs,
    fun i hi hk => hM.row (h.pol i hi hk) (fun j hj => by have := (h.pol i hi hk).lt j hj; have := h.plt i hi hk j hj; omega),
    fun i hi hk => hM.row (h.num i hi hk) (fun j hj => by have := (h.num i hi hk).lt j hj; have := h.nlt i hi hk j hj; omega), h.plt, h.nlt, h.pap, h.nap⟩
theorem SsO.r {w : World} {base top : Nat} {v : Value} {ss : List Sn} (h : SsO w base top v ss) : SsR w v ss := by
  obtain ⟨xs, vp, vr, h⟩ := h
  rcases row_form h.row with ⟨rfl, h0⟩ | ⟨g, cap, rfl, hg, hcap⟩
  · exact .inl ⟨rfl, List.eq_nil_of_length_eq_zero h0⟩
  · refine .inr ⟨g, 0, cap, rfl, (h.row.lt g rfl).2, hcap, fun i hi => ?_⟩
    obtain ⟨c0, c1, c2⟩ := h.cs i hi hi
    refine ⟨vp i, vr i, ?_, ?_, ?_, RuR.own (h.pol i hi hi), NuR.own (h.num i hi hi)⟩
    · rw [Nat.zero_add, h.row.cellAt (i * 3) (by omega)]; exact c0
    · rw [Nat.zero_add, h.row.cellAt (i * 3 + 1) (by omega)]; exact c1
    · rw [Nat.zero_add, h.row.cellAt (i * 3 + 2) (by omega)]; exact c2
theorem SsO.a {w : World} {base top : Nat} {v : Value} {ss : List Sn} (h : SsO w base top v ss) : SsA w v ss := h.r.a
theorem SsO.mono {w : World} {base base' top top' : Nat} {v : Value} {ss : List Sn} (h : SsO w base top v ss) (hb : base' ≤ base) (ht : top ≤ top') : SsO w base' top' v ss := by
  obtain ⟨xs, vp, vr, h⟩ := h
  exact ⟨xs, vp, vr, Go.Joins.ownsRow_le h.row hb, fun j hj => Nat.lt_of_lt_of_le (h.rlt j hj) ht, h.cs, fun i hi hk => Go.Joins.ownsRow_le (h.pol i hi hk) hb, fun i hi hk => Go.Joins.ownsRow_le (h.num i hi hk) hb,
    fun i hi hk j hj => Nat.lt_of_lt_of_le (h.plt i hi hk j hj) ht, fun i hi hk j hj => Nat.lt_of_lt_of_le (h.nlt i hi hk j hj) ht, h.pap, h.nap⟩
theorem SsO.none (w : World) (base top : Nat) : SsO w base top (.slice none 0 0) [] :=
  ⟨[], fun _ => .nilIface, fun _ => .nilIface, World.ownsRow_nil _ _ _ _, fun _ h => by simp [Value.ownBlock] at h, fun _ h => by simp at h, fun _ h => by simp at h, fun _ h => by simp at h, fun _ h => by simp at h, fun _ h => by simp at h, fun _ _ h => by simp at h, fun _ _ h => by simp at h⟩
theorem tyR : (71 : TypeId) ≠ 48 := by decide
theorem tyN : (3 : TypeId) ≠ 48 := by decide
theorem tyRN : (71 : TypeId) ≠ 3 := by decide
/-- Three cells stored into a row's block leave rows of another kind as they are. -/
theorem row_kept3 {w : World} {b1 b2 : Nat} {e1 : TypeId} {s1 n1 g n cap : Nat} {v1 : Value} {x1 xs : List Value} (h : w.ownsRow b1 e1 s1 v1 n1 x1) (hr : w.ownsRow b2 48 3 (.slice (some ⟨g, 0, none⟩) n cap) n xs) (hne : e1 ≠ 48) (o0 o1 o2 : Nat) (y0 y1 y2 : Value) :
    (((w.setCell ⟨g, o0, none⟩ y0).setCell ⟨g, o1, none⟩ y1).setCell ⟨g, o2, none⟩ y2).ownsRow b1 e1 s1 v1 n1 x1 := by
  have hb : v1.ownBlock ≠ some g := fun e => row_apart h hr hne g e rfl
  exact ownsRow_setCell_other (ownsRow_setCell_other (ownsRow_setCell_other h (a := ⟨g, o0, none⟩) hb y0) (a := ⟨g, o1, none⟩) hb y1) (a := ⟨g, o2, none⟩) hb y2
/-- One more version is laid into the row. -/
theorem SsK.add {w w2 : World} {base g n cap : Nat} {ss : List Sn} {k : Nat} {xs : List Value} {vp vr : Nat → Value} {p r : Value} (h : SsK w base w.heap.size (.slice (some ⟨g, 0, none⟩) n cap) n ss k xs vp vr) (hB : Below w.heap.size w w2) (hk : k < ss.length) (hkn : k < n) (hb : base ≤ w.heap.size)
    (hp : w2.ownsRow w.heap.size 71 4 p ss[k].pol.length (ss[k].pol.flatMap Ru.cells)) (hr : w2.ownsRow w.heap.size 3 1 r ss[k].rv.length (nums ss[k].rv)) :
    SsK (((w2.setCell ⟨g, k * 3, none⟩ (.int .i64 ss[k].num)).setCell ⟨g, k * 3 + 1, none⟩ p).setCell ⟨g, k * 3 + 2, none⟩ r) base (((w2.setCell ⟨g, k * 3, none⟩ (.int .i64 ss[k].num)).setCell ⟨g, k * 3 + 1, none⟩ p).setCell ⟨g, k * 3 + 2, none⟩ r).heap.size (.slice (some ⟨g, 0, none⟩) n cap) n ss (k + 1) (((xs.set (k * 3) (.int .i64 ss[k].num)).set (k * 3 + 1) p).set (k * 3 + 2) r) (fun i => if i = k then p else vp i) (fun i => if i = k then r else vr i) := by
  have h2 := h.below hB
  have hlen : xs.length = n * 3 := h.row.1
  have hsz : (((w2.setCell ⟨g, k * 3, none⟩ (.int .i64 ss[k].num)).setCell ⟨g, k * 3 + 1, none⟩ p).setCell ⟨g, k * 3 + 2, none⟩ r).heap.size = w2.heap.size := by rw [World.size_setCell, World.size_setCell, World.size_setCell]
  have hs := hB.size
  refine ⟨((h2.row.stored (k * 3) _).1.stored (k * 3 + 1) _).1.stored (k * 3 + 2) _ |>.1, ?_, ?_, ?_, ?_, ?_, ?_, ?_, ?_⟩
  · intro j hj
    rw [hsz]
    exact Nat.lt_of_lt_of_le (h.rlt j hj) hs
  · intro i hi hik
    by_cases e : i = k
    · subst e
      rw [if_pos rfl, if_pos rfl]
      refine ⟨?_, ?_, ?_⟩
      · rw [List.getElem?_set_ne (by omega), List.getElem?_set_ne (by omega), List.getElem?_set_self (by omega)]
      · rw [List.getElem?_set_ne (by omega), List.getElem?_set_self (by simp; omega)]
      · rw [List.getElem?_set_self (by simp; omega)]
    · rw [if_neg e, if_neg e]
      obtain ⟨c0, c1, c2⟩ := h.cs i hi (by omega)
      refine ⟨?_, ?_, ?_⟩
      · rw [List.getElem?_set_ne (by omega), List.getElem?_set_ne (by omega), List.getElem?_set_ne (by omega)]; exact c0
      · rw [List.getElem?_set_ne (by omega), List.getElem?_set_ne (by omega), List.getElem?_set_ne (by omega)]; exact c1
      · rw [List.getElem?_set_ne (by omega), List.getElem?_set_ne (by omega), List.getElem?_set_ne (by omega)]; exact c2
  · intro i hi hik
    by_cases e : i = k
    · subst e
      rw [if_pos rfl]
      exact row_kept3 (Go.Joins.ownsRow_le hp hb) h2.row tyR _ _ _ _ _ _
    · rw [if_neg e]
      exact row_kept3 (h2.pol i hi (by omega)) h2.row tyR _ _ _ _ _ _
  · intro i hi hik
    by_cases e : i = k
    · subst e
      rw [if_pos rfl]
      exact row_kept3 (Go.Joins.ownsRow_le hr hb) h2.row tyN _ _ _ _ _ _
    · rw [if_neg e]
      exact row_kept3 (h2.num i hi (by omega)) h2.row tyN _ _ _ _ _ _
  · intro i hi hik j hj
    rw [hsz]
    by_cases e : i = k
    · rw [if_pos e] at hj
      exact (hp.lt j hj).2
    · rw [if_neg e] at hj
      exact Nat.lt_of_lt_of_le (h.plt i hi (by omega) j hj) hs
  · intro i hi hik j hj
    rw [hsz]
    by_cases e : i = k
    · rw [if_pos e] at hj
      exact (hr.lt j hj).2
    · rw [if_neg e] at hj
      exact Nat.lt_of_lt_of_le (h.nlt i hi (by omega) j hj) hs
  · intro i j hi hj hik hjk hij b h1 h2'
    by_cases e : i = k
    · rw [if_pos e] at h1
      rw [if_neg (by omega)] at h2'
      have := (hp.lt b h1).1
      have := h.plt j hj (by omega) b h2'
      omega
    · rw [if_neg e] at h1
      have := h.plt i hi (by omega) b h1
      by_cases e2 : j = k
      · rw [if_pos e2] at h2'
        have := (hp.lt b h2').1
        omega
      · rw [if_neg e2] at h2'
        exact h.pap i j hi hj (by omega) (by omega) hij b h1 h2'
  · intro i j hi hj hik hjk hij b h1 h2'
    by_cases e : i = k
    · rw [if_pos e] at h1
      rw [if_neg (by omega)] at h2'
      have := (hr.lt b h1).1
      have := h.nlt j hj (by omega) b h2'
      omega
    · rw [if_neg e] at h1
      have := h.nlt i hi (by omega) b h1
      by_cases e2 : j = k
      · rw [if_pos e2] at h2'
        have := (hr.lt b h2').1
        omega
      · rw [if_neg e2] at h2'
        exact h.nap i j hi hj (by omega) (by omega) hij b h1 h2'
theorem infoSnapshot : (Tryz.prog.info? 48).map (fun i => (i.zero, i.size, i.bytes)) = some (some (.agg #[.int .i64 0, .slice none 0 0, .slice none 0 0]), 3, 56) := by kernel_rfl

set_option maxHeartbeats 2000000 in
theorem toSnapshotS_any (v : Value) (ss : List Sn) (w : World) (hm : shortS ss) (hr : SsA w v ss) :
    Calls Tryz.prog 9 #[v] w fun e w' => ∃ v', e = .returned v' ∧ SsO w' w.heap.size w'.heap.size v' ss ∧ Below w.heap.size w w' := by
  obtain ⟨a, cap, rfl⟩ := hr.len
  obtain ⟨i0, hi, hz0, hz1, hz2⟩ := info_parts infoSnapshot
  have hm1 := hm.1
  go_enter Tryz.func9, Tryz.ntmps9
  go_wp2_with (at_make; refine wpList_make_full _ rfl _ _ 27 rfl w.heap.size 48 i0 _ 3 Tryz.underlying27 hi hz0 hz1 _ _ _ _ ss.length rfl rfl rfl rfl (by rw [hz2]; omega) (by unfold maxLen; omega) (Nat.le_refl _) ?_; intro w1 hown hgrow)
  have hB1 : Below w.heap.size w w1 := (Below.refl _ w).grown hgrow (Nat.le_refl _) (fun k e => by cases e)
  go_loopw [4] (fun i wr => ∃ k : Nat, k ≤ ss.length ∧ i = .int .i64 k ∧ ∃ xs vp vr, SsK wr w.heap.size wr.heap.size (.slice (some ⟨w.heap.size, 0, none⟩) ss.length ss.length) ss.length ss k xs vp vr ∧ Below w.heap.size w wr) (fun i _ => ss.length - (intOf i).toNat)
  case atStart => exact ⟨0, Nat.zero_le _, rfl, _, fun _ => .nilIface, fun _ => .nilIface, ⟨hown, fun j hj => (hown.lt j hj).2, fun _ _ h => absurd h (Nat.not_lt_zero _), fun _ _ h => absurd h (Nat.not_lt_zero _), fun _ _ h => absurd h (Nat.not_lt_zero _), fun _ _ h => absurd h (Nat.not_lt_zero _), fun _ _ h => absurd h (Nat.not_lt_zero _), fun _ _ _ _ h => absurd h (Nat.not_lt_zero _), fun _ _ _ _ h => absurd h (Nat.not_lt_zero _)⟩, hB1⟩
  case round =>
    obtain ⟨k, hk, rfl, xs, vp, vr, hK, hB⟩ := hrel
    by_cases hlt : k < ss.length
    · obtain ⟨b, off, xp, cp, xr, cr, rfl, hb, hcap, q0, q1, q2, y1, y2⟩ := (hr.below hB).at hlt
      have hsh := hm.2 ss[k] (List.getElem_mem hlt)
      have HA := hid (fun (w2 : World) (p r : Value) (hB2 : Below wr.heap.size wr w2) => SsK.add (w2 := w2) (p := p) (r := r) hK hB2 hlt hlt hB.size)
      go_wp2_with fail
      refine (toSnapshot_any _ ss[k] _ hsh ⟨_, _, rfl, y1, y2⟩).mono ?_
      rintro e w2 ⟨v2, rfl, ⟨p, r, rfl, op, or', tp, tr⟩, hB2⟩
      obtain ⟨xa, ya, za, rfl⟩ := row_slice op
      obtain ⟨xb, yb, zb, rfl⟩ := row_slice or'
      have HK := hid (HA.out w2 _ _ hB2 op or')
      have hrow2 := ownsRow_below hK.row hB2
      have hB3 := below_one hB hB2
      have hlen : xs.length = ss.length * 3 := hrow2.1
      have s0 := hrow2.cellAt (k * 3) (by omega)
      have s1 := hrow2.cellAt (k * 3 + 1) (by omega)
      have s2 := hrow2.cellAt (k * 3 + 2) (by omega)
      rw [List.getElem?_eq_getElem (by omega)] at s0 s1 s2
      have t0 := hrow2.frozenAt (k * 3)
      have t1 := hrow2.frozenAt (k * 3 + 1)
      have t2 := hrow2.frozenAt (k * 3 + 2)
      generalize xs[k * 3] = z0 at *
      generalize xs[k * 3 + 1] = z1 at *
      generalize xs[k * 3 + 2] = z2 at *
      generalize ss[k] = s at *
      clear q0 q1 q2 hB2 hK HA y1 y2 op or'
      go_wp2_with fail
      go_roundw
      case rel => exact ⟨k + 1, by omega, by go_num, _, _, _, HK.out, ((hB3.setCell (p := ⟨w.heap.size, _, none⟩) (Nat.le_refl _) _).setCell (p := ⟨w.heap.size, _, none⟩) (Nat.le_refl _) _).setCell (p := ⟨w.heap.size, _, none⟩) (Nat.le_refl _) _⟩
      case measure => simp [intOf]; omega
    · obtain rfl : k = ss.length := by omega
      go_wp2
      go_ret
      exact ⟨_, rfl, ⟨xs, vp, vr, hK⟩, hB⟩

end Go.Proofs.YtmmjiocmldnamaaGreat
