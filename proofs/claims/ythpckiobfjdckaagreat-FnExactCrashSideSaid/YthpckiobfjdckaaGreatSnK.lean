/-
  Lists of versions of one's own: handed on, marked by the laws, and held against the marks.
-/
import Derived.Test.YthpckiobfjdckaaGreatSnL
namespace Go.Proofs.YthpckiobfjdckaaGreat
open Go.RowKit Go.Shelf

/-- A row of n places, of which the first k hold these versions, whose lists lie in blocks of their own from base on, below top. -/
structure SsK (w : World) (base top : Nat) (v : Value) (n : Nat) (ss : List Sn) (k : Nat) (xs : List Value) (vp vr : Nat → Value) : Prop where
  row : w.ownsRow base 32 3 v n xs
  rlt : ∀ j, v.ownBlock = some j → j < top
  cs : ∀ i (h : i < ss.length), i < k → xs[i * 3]? = some (.int .i64 ss[i].num) ∧ xs[i * 3 + 1]? = some (vp i) ∧ xs[i * 3 + 2]? = some (vr i)
  pol : ∀ i (h : i < ss.length), i < k → w.ownsRow base 63 4 (vp i) ss[i].pol.length (ss[i].pol.flatMap Ru.cells)
  num : ∀ i (h : i < ss.length), i < k → w.ownsRow base 3 1 (vr i) ss[i].rv.length (nums ss[i].rv)
  plt : ∀ i, i < ss.length → i < k → ∀ j, (vp i).ownBlock = some j → j < top
  nlt : ∀ i, i < ss.length → i < k → ∀ j, (vr i).ownBlock = some j → j < top
  pap : ∀ i j, i < ss.length → j < ss.length → i < k → j < k → i ≠ j → ∀ b, (vp i).ownBlock = some b → (vp j).ownBlock = some b → False
  nap : ∀ i j, i < ss.length → j < ss.length → i < k → j < k → i ≠ j → ∀ b, (vr i).ownBlock = some b → (vr j).ownBlock = some b → False
/-- A list of versions of one's own. -/
def SsO (w : World) (base top : Nat) (v : Value) (ss : List Sn) : Prop := ∃ xs vp vr, SsK w base top v ss.length ss ss.length xs vp vr
theorem SsK.below {w w' : World} {base top : Nat} {v : Value} {n : Nat} {ss : List Sn} {k : Nat} {xs : List Value} {vp vr : Nat → Value} (h : SsK w base top v n ss k xs vp vr) (hB : Below w.heap.size w w') : SsK w' base top v n ss k xs vp vr :=
  ⟨ownsRow_below h.row hB, h.rlt, h.cs, fun i hi hk => ownsRow_below (h.pol i hi hk) hB, fun i hi hk => ownsRow_below (h.num i hi hk) hB, h.plt, h.nlt, h.pap, h.nap⟩
theorem SsO.below {w w' : World} {base top : Nat} {v : Value} {ss : List Sn} (h : SsO w base top v ss) (hB : Below w.heap.size w w') : SsO w' base top v ss := by
  obtain ⟨xs, vp, vr, h⟩ := h
  exact ⟨xs, vp, vr, h.below hB⟩
theorem Mid.sso {lo hi : Nat} {w w1 : World} (hM : Mid lo hi w w1) {base top : Nat} {v : Value} {ss : List Sn} (h : SsO w base top v ss) (ho : hi ≤ base ∨ top ≤ lo) : SsO w1 base top v ss := by
  obtain ⟨xs, vp, vr, h⟩ := h
  exact ⟨xs, vp, vr, hM.row h.row (fun j hj => by have := h.row.lt j hj; have := h.rlt j hj; omega), h.rlt, h.cs,
    fun i hi hk => hM.row (h.pol i hi hk) (fun j hj => by have := (h.pol i hi hk).lt j hj; have := h.plt i hi hk j hj; omega),
    fun i hi hk => hM.row (h.num i hi hk) (fun j hj => by have := (h.num i hi hk).lt j hj; have := h.nlt i hi hk j hj; omega), h.plt, h.nlt, h.pap, h.nap⟩
theorem SsO.r {w : World} {base top : Nat} {v : Value} {ss : List Sn} (h : SsO w base top v ss) : SsR w v ss := by
  obtain ⟨xs, vp, vr, h⟩ := h
  rcases row_form h.row with ⟨rfl, h0⟩ | ⟨g, cap, rfl, hg, hcap⟩
  · exact .inl ⟨rfl, List.eq_nil_of_length_eq_zero h0⟩
  · refine .inr ⟨g, 0, cap, rfl, (h.row.lt g rfl).2, hcap, fun i hi => ?_⟩
    obtain ⟨c0, c1, c2⟩ := h.cs i hi hi
    refine ⟨vp i, vr i, ?_, ?_, ?_, RuR.own (h.pol i hi hi), NuR.own (h.num i hi hi)⟩
    · rw [Nat.zero_add, h.row.cellAt (i * 3) (by omega)]; exact c0
    · rw [Nat.zero_add, h.row.cellAt (i * 3 + 1) (by omega)]; exact c1
    · rw [Nat.zero_add, h.row.cellAt (i * 3 + 2) (by omega)]; exact c2
theorem SsO.a {w : World} {base top : Nat} {v : Value} {ss : List Sn} (h : SsO w base top v ss) : SsA w v ss := h.r.a
theorem SsO.mono {w : World} {base base' top top' : Nat} {v : Value} {ss : List Sn} (h : SsO w base top v ss) (hb : base' ≤ base) (ht : top ≤ top') : SsO w base' top' v ss := by
  obtain ⟨xs, vp, vr, h⟩ := h
  exact ⟨xs, vp, vr, Go.Joins.ownsRow_le h.row hb, fun j hj => Nat.lt_of_lt_of_le (h.rlt j hj) ht, h.cs, fun i hi hk => Go.Joins.ownsRow_le (h.pol i hi hk) hb, fun i hi hk => Go.Joins.ownsRow_le (h.num i hi hk) hb,
    fun i hi hk j hj => Nat.lt_of_lt_of_le (h.plt i hi hk j hj) ht, fun i hi hk j hj => Nat.lt_of_lt_of_le (h.nlt i hi hk j hj) ht, h.pap, h.nap⟩
theorem SsO.none (w : World) (base top : Nat) : SsO w base top (.slice none 0 0) [] :=
  ⟨[], fun _ => .nilIface, fun _ => .nilIface, World.ownsRow_nil _ _ _ _, fun _ h => by simp [Value.ownBlock] at h, fun _ h => by simp at h, fun _ h => by simp at h, fun _ h => by simp at h, fun _ h => by simp at h, fun _ h => by simp at h, fun _ _ h => by simp at h, fun _ _ h => by simp at h⟩
theorem tyR : (63 : TypeId) ≠ 32 := by decide
theorem tyN : (3 : TypeId) ≠ 32 := by decide
theorem tyRN : (63 : TypeId) ≠ 3 := by decide
/-- Three cells stored into a row's block leave rows of another kind as they are. -/
theorem row_kept3 {w : World} {b1 b2 : Nat} {e1 : TypeId} {s1 n1 g n cap : Nat} {v1 : Value} {x1 xs : List Value} (h : w.ownsRow b1 e1 s1 v1 n1 x1) (hr : w.ownsRow b2 32 3 (.slice (some ⟨g, 0, none⟩) n cap) n xs) (hne : e1 ≠ 32) (o0 o1 o2 : Nat) (y0 y1 y2 : Value) :
    (((w.setCell ⟨g, o0, none⟩ y0).setCell ⟨g, o1, none⟩ y1).setCell ⟨g, o2, none⟩ y2).ownsRow b1 e1 s1 v1 n1 x1 := by
  have hb : v1.ownBlock ≠ some g := fun e => row_apart h hr hne g e rfl
  exact ownsRow_setCell_other (ownsRow_setCell_other (ownsRow_setCell_other h (a := ⟨g, o0, none⟩) hb y0) (a := ⟨g, o1, none⟩) hb y1) (a := ⟨g, o2, none⟩) hb y2
/-- One more version is laid into the row. -/
theorem SsK.add {w w2 : World} {base g n cap : Nat} {ss : List Sn} {k : Nat} {xs : List Value} {vp vr : Nat → Value} {p r : Value} (h : SsK w base w.heap.size (.slice (some ⟨g, 0, none⟩) n cap) n ss k xs vp vr) (hB : Below w.heap.size w w2) (hk : k < ss.length) (hkn : k < n) (hb : base ≤ w.heap.size)
    (hp : w2.ownsRow w.heap.size 63 4 p ss[k].pol.length (ss[k].pol.flatMap Ru.cells)) (hr : w2.ownsRow w.heap.size 3 1 r ss[k].rv.length (nums ss[k].rv)) :
    SsK (((w2.setCell ⟨g, k * 3, none⟩ (.int .i64 ss[k].num)).setCell ⟨g, k * 3 + 1, none⟩ p).setCell ⟨g, k * 3 + 2, none⟩ r) base (((w2.setCell ⟨g, k * 3, none⟩ (.int .i64 ss[k].num)).setCell ⟨g, k * 3 + 1, none⟩ p).setCell ⟨g, k * 3 + 2, none⟩ r).heap.size (.slice (some ⟨g, 0, none⟩) n cap) n ss (k + 1) (((xs.set (k * 3) (.int .i64 ss[k].num)).set (k * 3 + 1) p).set (k * 3 + 2) r) (fun i => if i = k then p else vp i) (fun i => if i = k then r else vr i) := by
  have h2 := h.below hB
  have hlen : xs.length = n * 3 := h.row.1
  have hsz : (((w2.setCell ⟨g, k * 3, none⟩ (.int .i64 ss[k].num)).setCell ⟨g, k * 3 + 1, none⟩ p).setCell ⟨g, k * 3 + 2, none⟩ r).heap.size = w2.heap.size := by rw [World.size_setCell, World.size_setCell, World.size_setCell]
  have hs := hB.size
  refine ⟨((h2.row.stored (k * 3) _).1.stored (k * 3 + 1) _).1.stored (k * 3 + 2) _ |>.1, ?_, ?_, ?_, ?_, ?_, ?_, ?_, ?_⟩
  · intro j hj
    rw [hsz]
    exact Nat.lt_of_lt_of_le (h.rlt j hj) hs
  · intro i hi hik
    by_cases e : i = k
    · subst e
      rw [if_pos rfl, if_pos rfl]
      refine ⟨?_, ?_, ?_⟩
      · rw [List.getElem?_set_ne (by omega), List.getElem?_set_ne (by omega), List.getElem?_set_self (by omega)]
      · rw [List.getElem?_set_ne (by omega), List.getElem?_set_self (by simp; omega)]
      · rw [List.getElem?_set_self (by simp; omega)]
    · rw [if_neg e, if_neg e]
      obtain ⟨c0, c1, c2⟩ := h.cs i hi (by omega)
      refine ⟨?_, ?_, ?_⟩
      · rw [List.getElem?_set_ne (by omega), List.getElem?_set_ne (by omega), List.getElem?_set_ne (by omega)]; exact c0
      · rw [List.getElem?_set_ne (by omega), List.getElem?_set_ne (by omega), List.getElem?_set_ne (by omega)]; exact c1
      · rw [List.getElem?_set_ne (by omega), List.getElem?_set_ne (by omega), List.getElem?_set_ne (by omega)]; exact c2
  · intro i hi hik
    by_cases e : i = k
    · subst e
      rw [if_pos rfl]
      exact row_kept3 (Go.Joins.ownsRow_le hp hb) h2.row tyR _ _ _ _ _ _
    · rw [if_neg e]
      exact row_kept3 (h2.pol i hi (by omega)) h2.row tyR _ _ _ _ _ _
  · intro i hi hik
    by_cases e : i = k
    · subst e
      rw [if_pos rfl]
      exact row_kept3 (Go.Joins.ownsRow_le hr hb) h2.row tyN _ _ _ _ _ _
    · rw [if_neg e]
      exact row_kept3 (h2.num i hi (by omega)) h2.row tyN _ _ _ _ _ _
  · intro i hi hik j hj
    rw [hsz]
    by_cases e : i = k
    · rw [if_pos e] at hj
      exact (hp.lt j hj).2
    · rw [if_neg e] at hj
      exact Nat.lt_of_lt_of_le (h.plt i hi (by omega) j hj) hs
  · intro i hi hik j hj
    rw [hsz]
    by_cases e : i = k
    · rw [if_pos e] at hj
      exact (hr.lt j hj).2
    · rw [if_neg e] at hj
      exact Nat.lt_of_lt_of_le (h.nlt i hi (by omega) j hj) hs
  · intro i j hi hj hik hjk hij b h1 h2'
    by_cases e : i = k
    · rw [if_pos e] at h1
      rw [if_neg (by omega)] at h2'
      have := (hp.lt b h1).1
      have := h.plt j hj (by omega) b h2'
      omega
    · rw [if_neg e] at h1
      have := h.plt i hi (by omega) b h1
      by_cases e2 : j = k
      · rw [if_pos e2] at h2'
        have := (hp.lt b h2').1
        omega
      · rw [if_neg e2] at h2'
        exact h.pap i j hi hj (by omega) (by omega) hij b h1 h2'
  · intro i j hi hj hik hjk hij b h1 h2'
    by_cases e : i = k
    · rw [if_pos e] at h1
      rw [if_neg (by omega)] at h2'
      have := (hr.lt b h1).1
      have := h.nlt j hj (by omega) b h2'
      omega
    · rw [if_neg e] at h1
      have := h.nlt i hi (by omega) b h1
      by_cases e2 : j = k
      · rw [if_pos e2] at h2'
        have := (hr.lt b h2').1
        omega
      · rw [if_neg e2] at h2'
        exact h.nap i j hi hj (by omega) (by omega) hij b h1 h2'
theorem infoSnapshot : (Tryz.prog.info? 32).map (fun i => (i.zero, i.size, i.bytes)) = some (some (.agg #[.int .i64 0, .slice none 0 0, .slice none 0 0]), 3, 56) := by kernel_rfl

end Go.Proofs.YthpckiobfjdckaaGreat
