/-
  Sidecars and lists of them in memory: how those that come in are read, what the laws measure, hold and hand on.
-/
import Derived.Test.YtnbojbcljfiamaaJNewMesh1
import Derived.Test.YtnbojbcljfiamaaJNewMesh2
import Derived.Deep.RegionHeld3
namespace Go.Proofs.Ytnbojbcljfiamaa
open Go.RowKit Go.Shelf

/-- What is left of a budget. -/
def leftK (n : Int) (s : Nat) : Int := if (s : Int) ≤ n then n - s else -1
/-- A row of one's own, in a block from base on, below top. -/
def RoO (T : TypeId) (c : Nat) (w : World) (base top : Nat) (v : Value) (n : Nat) (xs : List Value) : Prop := w.ownsRow base T c v n xs ∧ ∀ k, v.ownBlock = some k → k < top
theorem RoO.of {T : TypeId} {c : Nat} {w : World} {base : Nat} {v : Value} {n : Nat} {xs : List Value} (h : w.ownsRow base T c v n xs) : RoO T c w base w.heap.size v n xs := ⟨h, fun k hk => (h.lt k hk).2⟩
theorem RoO.len {T : TypeId} {c : Nat} {w : World} {base top : Nat} {v : Value} {n : Nat} {xs : List Value} (h : RoO T c w base top v n xs) : ∃ a cap, v = .slice a n cap := by
  rcases row_form h.1 with ⟨rfl, rfl⟩ | ⟨g, cap, rfl, _, _⟩
  · exact ⟨_, _, rfl⟩
  · exact ⟨_, _, rfl⟩
theorem RoO.mid {lo hi : Nat} {w w1 : World} {T : TypeId} {c base top : Nat} {v : Value} {n : Nat} {xs : List Value} (h : RoO T c w base top v n xs) (M : Mid lo hi w w1) (ho : hi ≤ base ∨ top ≤ lo) : RoO T c w1 base top v n xs :=
  ⟨M.row h.1 (fun k hk => by have := h.1.lt k hk; have := h.2 k hk; omega), h.2⟩
theorem RoO.below {w w1 : World} {T : TypeId} {c base top : Nat} {v : Value} {n : Nat} {xs : List Value} (h : RoO T c w base top v n xs) (hB : Below w.heap.size w w1) : RoO T c w1 base top v n xs := ⟨ownsRow_below h.1 hB, h.2⟩
theorem RoO.mono {w : World} {T : TypeId} {c base base' top top' : Nat} {v : Value} {n : Nat} {xs : List Value} (h : RoO T c w base top v n xs) (hb : base' ≤ base) (ht : top ≤ top') : RoO T c w base' top' v n xs :=
  ⟨Go.Joins.ownsRow_le h.1 hb, fun k hk => Nat.lt_of_lt_of_le (h.2 k hk) ht⟩

set_option maxRecDepth 100000 in
open Go.Deep Go.ChangeShapes Go.WideShapes Go.ChangeAt Go.Joins in
theorem openLkR {H : Type} {enc : TypeId × Value → H} {W : World} {c0 : Value} {d : DataW H × List MemPlace} {fuel : Nat} (hf : DataW.trod enc Try.prog W 0 (fun _ => true) true fuel 114 [c0] = some d) :
    ∃ (a : Option Addr) (n c : Nat) (rs : List Lk), c0 = .slice a n c ∧ LkS W (.slice a n c) rs ∧ rs.length = n ∧ n ≤ maxLen ∧ ∀ r ∈ rs, r.fits := by
  have hs : ∃ a n c, c0 = .slice a n c := by
    rcases open_slice Try.underlying114 hf with ⟨hcs, _⟩ | ⟨x, n, c, m, k, D, Pl, hcs, _⟩
    · simp at hcs; exact ⟨_, _, _, hcs⟩
    · simp at hcs; exact ⟨_, _, _, hcs⟩
  obtain ⟨a, n, c, rfl⟩ := hs
  obtain ⟨rs, h⟩ := openLkS (a := a) (n := n) (c := c) (d := d.1) (p := d.2) ⟨fuel, hf⟩
  exact ⟨a, n, c, rs, rfl, h⟩

/-- A slice reads as this list, c cells each. -/
def GsA {X : Type} (c : Nat) (A : World → List Value → X → Prop) (w : World) (v : Value) (xs : List X) : Prop :=
  (∃ a cap, v = .slice a 0 cap ∧ xs = []) ∨
  ∃ b off cap, v = .slice (some ⟨b, off, none⟩) xs.length cap ∧ b < w.heap.size ∧ xs.length ≤ cap ∧ ∀ i (h : i < xs.length), ∃ cs : List Value, cs.length = c ∧ (∀ j y, cs[j]? = some y → w.cell? ⟨b, off + i * c + j, none⟩ = some y) ∧ A w cs xs[i]
theorem GsA.below {X : Type} {c : Nat} {A : World → List Value → X → Prop} {w w' : World} {v : Value} {xs : List X} (h : GsA c A w v xs) (hA : ∀ cs x, A w cs x → A w' cs x) (hB : Below w.heap.size w w') : GsA c A w' v xs := by
  rcases h with h | ⟨b, off, cap, hv, hb, hl, hc⟩
  · exact .inl h
  · refine .inr ⟨b, off, cap, hv, Nat.lt_of_lt_of_le hb hB.size, hl, fun i hi => ?_⟩
    obtain ⟨cs, h1, h2, h3⟩ := hc i hi
    exact ⟨cs, h1, fun j y hy => (hB.cell (p := ⟨b, _, none⟩) hb).trans (h2 j y hy), hA _ _ h3⟩
theorem GsA.len {X : Type} {c : Nat} {A : World → List Value → X → Prop} {w : World} {v : Value} {xs : List X} (h : GsA c A w v xs) : ∃ a cap, v = .slice a xs.length cap := by
  rcases h with ⟨a, cap, hv, rfl⟩ | ⟨b, off, cap, hv, _⟩
  · exact ⟨a, cap, hv⟩
  · exact ⟨_, cap, hv⟩
theorem GsA.at {X : Type} {c : Nat} {A : World → List Value → X → Prop} {w : World} {a : Option Addr} {n cap : Nat} {xs : List X} (h : GsA c A w (.slice a n cap) xs) {i : Nat} (hi : i < xs.length) :
    ∃ b off cs, a = some ⟨b, off, none⟩ ∧ b < w.heap.size ∧ n ≤ cap ∧ (∀ j y, cs[j]? = some y → w.cell? ⟨b, off + i * c + j, none⟩ = some y) ∧ A w cs xs[i] := by
  rcases h with ⟨_, _, _, rfl⟩ | ⟨b, off, cap, hv, hb, hl, hc⟩
  · simp at hi
  · cases hv
    obtain ⟨cs, h1, h2, h3⟩ := hc i hi
    exact ⟨b, off, cs, rfl, hb, hl, h2, h3⟩

/-- A row of n places, of which the first k hold these, each with blocks of its own, from t i on, below t (i + 1). -/
structure GsK {X : Type} (e : TypeId) (c : Nat) (O : World → Nat → Nat → List Value → X → Prop) (w : World) (base top : Nat) (v : Value) (n : Nat) (xs : List X) (k : Nat) (ys : List Value) (cs : Nat → List Value) (t : Nat → Nat) : Prop where
  row : w.ownsRow base e c v n ys
  rlt : ∀ g, v.ownBlock = some g → g < top
  len : ∀ i, i < k → (cs i).length = c
  cel : ∀ i, i < k → ∀ j, j < c → ys[i * c + j]? = (cs i)[j]?
  own : ∀ i (h : i < xs.length), i < k → O w (t i) (t (i + 1)) (cs i) xs[i]
  lo : ∀ i, i ≤ k → base ≤ t i
  up : ∀ i, i < k → t i ≤ t (i + 1)
  hi : ∀ i, i ≤ k → t i ≤ top
  apart : ∀ i, i < k → ∀ g, v.ownBlock = some g → g < t i ∨ t (i + 1) ≤ g
/-- A list of one's own. -/
def GsO {X : Type} (e : TypeId) (c : Nat) (O : World → Nat → Nat → List Value → X → Prop) (w : World) (base top : Nat) (v : Value) (xs : List X) : Prop := ∃ ys cs t, GsK e c O w base top v xs.length xs xs.length ys cs t
theorem GsO.len {X : Type} {e : TypeId} {c : Nat} {O : World → Nat → Nat → List Value → X → Prop} {w : World} {base top : Nat} {v : Value} {xs : List X} (h : GsO e c O w base top v xs) : ∃ a cap, v = .slice a xs.length cap := by
  obtain ⟨ys, cs, t, h⟩ := h
  exact RoO.len (RoO.of h.row)
theorem GsO.a {X : Type} {e : TypeId} {c : Nat} {O : World → Nat → Nat → List Value → X → Prop} {A : World → List Value → X → Prop} {w : World} {base top : Nat} {v : Value} {xs : List X} (hA : ∀ b t cs x, O w b t cs x → A w cs x) (h : GsO e c O w base top v xs) : GsA c A w v xs := by
  obtain ⟨ys, cs, t, h⟩ := h
  rcases row_form h.row with ⟨rfl, h0⟩ | ⟨g, cap, rfl, hg, hcap⟩
  · exact .inl ⟨_, _, rfl, List.eq_nil_of_length_eq_zero h0⟩
  · refine .inr ⟨g, 0, cap, rfl, (h.row.lt g rfl).2, hcap, fun i hi => ⟨cs i, h.len i hi, fun j y hy => ?_, hA _ _ _ _ (h.own i hi hi)⟩⟩
    have hj : j < c := by
      have := (List.getElem?_eq_some_iff.1 hy).1
      rwa [h.len i hi] at this
    have hij : i * c + j < xs.length * c := by
      have : (i + 1) * c ≤ xs.length * c := Nat.mul_le_mul_right c hi
      rw [Nat.add_mul, Nat.one_mul] at this
      omega
    rw [Nat.zero_add, h.row.cellAt (i * c + j) hij, h.cel i hi j hj]
    exact hy
theorem GsK.mid {X : Type} {e : TypeId} {c : Nat} {O : World → Nat → Nat → List Value → X → Prop} {lo hi : Nat} {w w1 : World} {base top : Nat} {v : Value} {n : Nat} {xs : List X} {k : Nat} {ys : List Value} {cs : Nat → List Value} {t : Nat → Nat} (h : GsK e c O w base top v n xs k ys cs t)
    (hO : ∀ b t cs x, O w b t cs x → (hi ≤ b ∨ t ≤ lo) → O w1 b t cs x) (M : Mid lo hi w w1) (ho : hi ≤ base ∨ top ≤ lo) : GsK e c O w1 base top v n xs k ys cs t :=
  ⟨M.row h.row (fun g hg => by have := h.row.lt g hg; have := h.rlt g hg; omega), h.rlt, h.len, h.cel, fun i hi hk => hO _ _ _ _ (h.own i hi hk) (by have := h.lo i (by omega); have := h.hi (i + 1) hk; omega), h.lo, h.up, h.hi, h.apart⟩
theorem GsO.mid {X : Type} {e : TypeId} {c : Nat} {O : World → Nat → Nat → List Value → X → Prop} {lo hi : Nat} {w w1 : World} {base top : Nat} {v : Value} {xs : List X} (h : GsO e c O w base top v xs)
    (hO : ∀ b t cs x, O w b t cs x → (hi ≤ b ∨ t ≤ lo) → O w1 b t cs x) (M : Mid lo hi w w1) (ho : hi ≤ base ∨ top ≤ lo) : GsO e c O w1 base top v xs := by
  obtain ⟨ys, cs, t, h⟩ := h
  exact ⟨ys, cs, t, h.mid hO M ho⟩
theorem GsO.mono {X : Type} {e : TypeId} {c : Nat} {O : World → Nat → Nat → List Value → X → Prop} {w : World} {base base' top top' : Nat} {v : Value} {xs : List X} (h : GsO e c O w base top v xs) (hb : base' ≤ base) (ht : top ≤ top') : GsO e c O w base' top' v xs := by
  obtain ⟨ys, cs, t, h⟩ := h
  exact ⟨ys, cs, t, Go.Joins.ownsRow_le h.row hb, fun g hg => Nat.lt_of_lt_of_le (h.rlt g hg) ht, h.len, h.cel, h.own, fun i hi => Nat.le_trans hb (h.lo i hi), h.up, fun i hi => Nat.le_trans (h.hi i hi) ht, h.apart⟩
theorem GsO.none {X : Type} (e : TypeId) (c : Nat) (O : World → Nat → Nat → List Value → X → Prop) (w : World) (base top : Nat) (hb : base ≤ top) : GsO e c O w base top (.slice none 0 0) [] :=
  ⟨[], fun _ => [], fun _ => base, World.ownsRow_nil _ _ _ _, fun _ h => by simp [Value.ownBlock] at h, fun _ h => absurd h (Nat.not_lt_zero _), fun _ h => absurd h (Nat.not_lt_zero _), fun _ h => absurd h (Nat.not_lt_zero _), fun _ _ => Nat.le_refl _, fun _ _ => Nat.le_refl _, fun _ _ => hb, fun _ h => absurd h (Nat.not_lt_zero _)⟩

/-- Cells stored one behind the other. -/
def sets (w : World) (g o : Nat) : List Value → World
  | [] => w
  | y :: ys => sets (w.setCell ⟨g, o, none⟩ y) g (o + 1) ys
def setL (xs : List Value) (o : Nat) : List Value → List Value
  | [] => xs
  | y :: ys => setL (xs.set o y) (o + 1) ys
theorem sets_size (g : Nat) (ys : List Value) : ∀ (w : World) (o : Nat), (sets w g o ys).heap.size = w.heap.size := by
  induction ys with
  | nil => intro w o; rfl
  | cons y ys ih => intro w o; show (sets _ g (o + 1) ys).heap.size = _; rw [ih, World.size_setCell]
theorem sets_mid (g : Nat) (ys : List Value) : ∀ (w : World) (o : Nat), Mid g (g + 1) w (sets w g o ys) := by
  induction ys with
  | nil => intro w o; exact Mid.of_below (Below.refl _ _)
  | cons y ys ih => intro w o; exact ((Mid.of_below (Below.refl _ _)).set (p := ⟨g, o, none⟩) (Nat.le_refl _) (Nat.lt_succ_self _) y).trans (ih _ _)
theorem sets_row {base g n cap c : Nat} {e : TypeId} (ys : List Value) : ∀ (w : World) (o : Nat) (xs : List Value), w.ownsRow base e c (.slice (some ⟨g, 0, none⟩) n cap) n xs → (sets w g o ys).ownsRow base e c (.slice (some ⟨g, 0, none⟩) n cap) n (setL xs o ys) := by
  induction ys with
  | nil => intro w o xs h; exact h
  | cons y ys ih => intro w o xs h; exact ih _ _ _ (h.stored o y).1
theorem setL_len (ys : List Value) : ∀ (xs : List Value) (o : Nat), (setL xs o ys).length = xs.length := by
  induction ys with
  | nil => intro xs o; rfl
  | cons y ys ih => intro xs o; show (setL _ (o + 1) ys).length = _; rw [ih, List.length_set]
theorem setL_other (ys : List Value) : ∀ (xs : List Value) (o j : Nat), (j < o ∨ o + ys.length ≤ j) → (setL xs o ys)[j]? = xs[j]? := by
  induction ys with
  | nil => intro xs o j _; rfl
  | cons y ys ih =>
    intro xs o j h
    rw [List.length_cons] at h
    show (setL (xs.set o y) (o + 1) ys)[j]? = _
    rw [ih _ _ _ (by omega), List.getElem?_set_ne (by omega)]
theorem setL_at (ys : List Value) : ∀ (xs : List Value) (o j : Nat), j < ys.length → o + ys.length ≤ xs.length → (setL xs o ys)[o + j]? = ys[j]? := by
  induction ys with
  | nil => intro xs o j h; simp at h
  | cons y ys ih =>
    intro xs o j h hl
    rw [List.length_cons] at h hl
    show (setL (xs.set o y) (o + 1) ys)[o + j]? = _
    cases j with
    | zero => rw [setL_other _ _ _ _ (by omega), Nat.add_zero, List.getElem?_set_self (by omega)]; rfl
    | succ j => rw [show o + (j + 1) = o + 1 + j by omega, ih _ _ _ (by omega) (by rw [List.length_set]; omega)]; rfl
/-- One more is laid into the row. -/
theorem GsK.add {X : Type} {e : TypeId} {c : Nat} {O : World → Nat → Nat → List Value → X → Prop} {w w2 : World} {base g n cap : Nat} {xs : List X} {k : Nat} {ys : List Value} {cs : Nat → List Value} {t : Nat → Nat} {zs : List Value}
    (h : GsK e c O w base w.heap.size (.slice (some ⟨g, 0, none⟩) n cap) n xs k ys cs t) (hg : g < t k) (hB : Below w.heap.size w w2) (hk : k < xs.length) (hkn : k < n) (hz : zs.length = c)
    (hO : ∀ lo hi b t cs x (w1 : World), Mid lo hi w2 w1 → O w2 b t cs x → (hi ≤ b ∨ t ≤ lo) → O w1 b t cs x) (hBO : ∀ b t cs x, O w b t cs x → O w2 b t cs x) (hM : ∀ (w : World) b b' t cs x, O w b t cs x → b' ≤ b → O w b' t cs x) (hn : O w2 w.heap.size w2.heap.size zs xs[k]) :
    GsK e c O (sets w2 g (k * c) zs) base (sets w2 g (k * c) zs).heap.size (.slice (some ⟨g, 0, none⟩) n cap) n xs (k + 1) (setL ys (k * c) zs) (fun i => if i = k then zs else cs i) (fun i => if i ≤ k then t i else w2.heap.size) ∧ g < (if k + 1 ≤ k then t (k + 1) else w2.heap.size) := by
  have hrow := ownsRow_below h.row hB
  have hlen : ys.length = n * c := h.row.1
  have hs := hB.size
  have hgw : g < w.heap.size := h.rlt g rfl
  have hkc : (k + 1) * c ≤ n * c := Nat.mul_le_mul_right c hkn
  rw [Nat.add_mul, Nat.one_mul] at hkc
  have htk := h.hi k (Nat.le_refl _)
  have M := sets_mid g zs w2 (k * c)
  refine ⟨⟨sets_row _ _ _ _ hrow, ?_, ?_, ?_, ?_, ?_, ?_, ?_, ?_⟩, ?_⟩
  · intro g' hg'
    rw [sets_size]
    exact Nat.lt_of_lt_of_le (h.rlt g' hg') hs
  · intro i hi
    by_cases e : i = k
    · rw [if_pos e]; exact hz
    · rw [if_neg e]; exact h.len i (by omega)
  · intro i hi j hj
    by_cases e : i = k
    · subst e
      rw [if_pos rfl]
      exact setL_at _ _ _ _ (by omega) (by omega)
    · rw [if_neg e, setL_other _ _ _ _ (by
        left
        have : (i + 1) * c ≤ k * c := Nat.mul_le_mul_right c (by omega)
        rw [Nat.add_mul, Nat.one_mul] at this
        omega)]
      exact h.cel i (by omega) j hj
  · intro i hi hik
    by_cases e : i = k
    · subst e
      rw [if_pos rfl, if_pos (Nat.le_refl _), if_neg (by omega)]
      exact hM _ _ _ _ _ _ (hO _ _ _ _ _ _ _ M hn (.inl (by omega))) htk
    · rw [if_neg e, if_pos (by omega), if_pos (by omega)]
      refine hO _ _ _ _ _ _ _ M (hBO _ _ _ _ (h.own i hi (by omega))) ?_
      rcases h.apart i (by omega) g rfl with h1 | h1
      · exact .inl h1
      · exact .inr h1
  · intro i hi
    by_cases e : i ≤ k
    · rw [if_pos e]; exact h.lo i e
    · rw [if_neg e]
      have := h.lo k (Nat.le_refl _)
      omega
  · intro i hi
    rw [if_pos (by omega)]
    by_cases e : i = k
    · subst e
      rw [if_neg (by omega)]
      omega
    · rw [if_pos (by omega)]
      exact h.up i (by omega)
  · intro i hi
    rw [sets_size]
    by_cases e : i ≤ k
    · rw [if_pos e]; exact Nat.le_trans (h.hi i e) hs
    · rw [if_neg e]; exact Nat.le_refl _
  · intro i hi g' hg'
    rw [if_pos (by omega)]
    by_cases e : i = k
    · subst e
      simp [Value.ownBlock] at hg'
      subst hg'
      exact .inl hg
    · rw [if_pos (by omega)]
      exact h.apart i (by omega) g' hg'
  · rw [if_neg (by omega)]
    omega

/-- How much all of a list counts. -/
def gzTo {X : Type} (f : X → Nat) (xs : List X) (n : Nat) : Nat := ((xs.take n).map f).sum
def gzAll {X : Type} (f : X → Nat) (xs : List X) : Nat := xs.length + gzTo f xs xs.length
theorem gzTo_zero {X : Type} (f : X → Nat) (xs : List X) : gzTo f xs 0 = 0 := by simp [gzTo]
theorem gzTo_succ {X : Type} {f : X → Nat} {xs : List X} {n : Nat} (h : n < xs.length) : gzTo f xs (n + 1) = gzTo f xs n + f xs[n] := by
  unfold gzTo
  rw [List.take_succ_eq_append_getElem h, List.map_append, List.sum_append]
  simp
theorem gzTo_le {X : Type} (f : X → Nat) (xs : List X) (n : Nat) : gzTo f xs n ≤ gzTo f xs xs.length := by
  unfold gzTo
  rw [List.take_length]
  conv => rhs; rw [← List.take_append_drop n xs, List.map_append, List.sum_append]
  omega
theorem gz_mem {X : Type} {f : X → Nat} {xs : List X} {x : X} (h : x ∈ xs) : f x ≤ gzTo f xs xs.length := by
  unfold gzTo
  rw [List.take_length]
  exact sum_mem (List.mem_map.2 ⟨x, h, rfl⟩)
/-- No list is longer than the laws take. -/
def gShort {X : Type} (f : X → Prop) (xs : List X) : Prop := xs.length ≤ 1048576 ∧ ∀ x ∈ xs, f x

set_option maxRecDepth 100000 in
open Go.Deep Go.ChangeShapes Go.WideShapes Go.ChangeAt Go.Joins in
/-- A list that comes in, where its elements' cells can be read. -/
theorem openGs {X : Type} [Inhabited X] {H : Type} {enc : TypeId × Value → H} {W : World} {A : World → List Value → X → Prop} {fits : X → Prop} {ts te : TypeId} {c : Nat} {c0 : Value} {d : DataW H × List MemPlace} {fuel : Nat}
    (hu : Try.prog.underlying ts = some (.slice te)) (hc : Try.prog.cellsOf te = c) (hc0 : 0 < c)
    (hE : ∀ (l : List Value) (y : DataW H × List MemPlace) (m : Nat), l.length = c → DataW.trod enc Try.prog W 0 (fun _ => true) true m te l = some y → ∃ x : X, A W l x ∧ fits x)
    (hf : DataW.trod enc Try.prog W 0 (fun _ => true) true fuel ts [c0] = some d) :
    ∃ (a : Option Addr) (n k : Nat) (xs : List X), c0 = .slice a n k ∧ GsA c A W (.slice a n k) xs ∧ xs.length = n ∧ n ≤ maxLen ∧ ∀ x ∈ xs, fits x := by
  rcases open_slice hu hf with ⟨hcs, _⟩ | ⟨x, n, cap, m, k, D, Pl, hcs, _, hl, hm, hmm, _, hx⟩
  · simp at hcs
    exact ⟨_, _, _, [], hcs, .inl ⟨_, _, rfl, rfl⟩, rfl, Nat.zero_le _, fun r hr => by cases hr⟩
  · simp at hcs
    have hlm : n ≤ m := by rw [hmm]; simpa using hl
    have each : ∀ i, i < n → ∃ s : X, (∃ cs : List Value, cs.length = c ∧ (∀ j y, cs[j]? = some y → W.cell? (x.add (i * c + j)) = some y) ∧ A W cs s) ∧ fits s := by
      intro i hi
      obtain ⟨cs', h1, h2⟩ := hx i (by omega)
      rw [hc] at h1
      obtain ⟨_, hlen, hcell⟩ := World.cells?_some h1
      obtain ⟨s, h3, h4⟩ := hE cs' _ _ hlen h2
      refine ⟨s, ⟨cs', hlen, fun j y hy => ?_, h3⟩, h4⟩
      have hj := (List.getElem?_eq_some_iff.1 hy).1
      have := hcell j (by omega)
      rw [add_add] at this
      rw [this]
      exact hy
    obtain ⟨q, hq⟩ := choose_lt each
    by_cases h0 : n = 0
    · subst h0
      exact ⟨_, _, _, [], hcs, .inl ⟨_, _, rfl, rfl⟩, rfl, Nat.zero_le _, fun r hr => by cases hr⟩
    · obtain ⟨b, off, spot⟩ := x
      obtain ⟨cs, hz0, hz1, _⟩ := (hq 0 (by omega)).1
      have hz := hz1 0 _ (List.getElem?_eq_getElem (by omega))
      have hs : spot = none := by simpa [Addr.add] using World.cell?_spot hz
      subst hs
      have hlt : b < W.heap.size := by
        rw [Addr.add_lit] at hz
        by_cases hb : b < W.heap.size
        · exact hb
        · simp only [World.cell?] at hz
          rw [Array.getElem?_eq_none (by omega)] at hz
          cases hz
      refine ⟨_, _, _, (List.range n).map q, hcs, .inr ⟨b, off, cap, by simp, hlt, by simpa using hl, fun i hi => ?_⟩, by simp, by omega, ?_⟩
      · have hi' : i < n := by simpa using hi
        obtain ⟨cs, h1, h2, h3⟩ := (hq i hi').1
        refine ⟨cs, h1, fun j y hy => ?_, by simpa using h3⟩
        have := h2 j y hy
        rw [Addr.add_lit, ← Nat.add_assoc] at this
        exact this
      · intro r hr
        obtain ⟨i, hi, rfl⟩ := List.mem_map.1 hr
        exact (hq i (List.mem_range.1 hi)).2

end Go.Proofs.Ytnbojbcljfiamaa

namespace Go.Proofs.Ytnbojbcljfiamaa
open Go.RowKit Go.Shelf

/-- An ask. -/
structure Ak where
  tk : List Lk
  me : ByteArray
  pa : ByteArray
/-- These cells read as this one. -/
def AkC (w : World) (cs : List Value) (a : Ak) : Prop := ∃ p0x p0z, cs = [.slice p0x a.tk.length p0z, .string a.me, .string a.pa] ∧ LkS w (.slice p0x a.tk.length p0z) a.tk
/-- .. of one's own, in blocks from base on, below top. -/
def AkO (w : World) (base top : Nat) (cs : List Value) (a : Ak) : Prop := ∃ p0x p0z, cs = [.slice p0x a.tk.length p0z, .string a.me, .string a.pa] ∧ RoO 75 5 w base top (.slice p0x a.tk.length p0z) a.tk.length (a.tk.flatMap Lk.cells)
def Ak.fits (a : Ak) : Prop := (a.tk.length ≤ maxLen ∧ ∀ k ∈ a.tk, k.fits) ∧ a.me.size ≤ maxLen ∧ a.pa.size ≤ maxLen
def Ak.size (a : Ak) : Nat := lzAll a.tk + a.me.size + a.pa.size
def Ak.short (a : Ak) : Prop := (a.tk.length ≤ 1048576 ∧ ∀ k ∈ a.tk, k.size ≤ 1048576) ∧ a.me.size ≤ 1048576 ∧ a.pa.size ≤ 1048576
theorem AkC.below {w w' : World} {cs : List Value} {a : Ak} (h : AkC w cs a) (hB : Below w.heap.size w w') : AkC w' cs a := by
  obtain ⟨p0x, p0z, rfl, h0⟩ := h
  exact ⟨_, _, rfl, h0.below hB⟩
theorem AkO.mid {lo hi : Nat} {w w1 : World} {base top : Nat} {cs : List Value} {a : Ak} (h : AkO w base top cs a) (M : Mid lo hi w w1) (ho : hi ≤ base ∨ top ≤ lo) : AkO w1 base top cs a := by
  obtain ⟨p0x, p0z, rfl, h0⟩ := h
  exact ⟨_, _, rfl, h0.mid M (by omega)⟩
theorem AkO.below {w w1 : World} {base top : Nat} {cs : List Value} {a : Ak} (h : AkO w base top cs a) (hB : Below w.heap.size w w1) : AkO w1 base top cs a := h.mid (Mid.of_below (lo := 0) (hi := 0) hB) (.inl (Nat.zero_le _))
theorem AkO.mono {w : World} {base base' top top' : Nat} {cs : List Value} {a : Ak} (h : AkO w base top cs a) (hb : base' ≤ base) (ht : top ≤ top') : AkO w base' top' cs a := by
  obtain ⟨p0x, p0z, rfl, h0⟩ := h
  exact ⟨_, _, rfl, h0.mono hb ht⟩
theorem Ak.short_of {a : Ak} (h : a.size ≤ 1048576) : a.short := by
  unfold Ak.size lzAll at h
  exact ⟨⟨by omega, fun k hk => by have := lz_mem hk; omega⟩, by omega, by omega⟩
theorem AkO.a {w : World} {base top : Nat} {cs : List Value} {a : Ak} (h : AkO w base top cs a) : AkC w cs a := by
  obtain ⟨_, _, rfl, h0⟩ := h
  exact ⟨_, _, rfl, LkS.own h0.1⟩

set_option maxRecDepth 100000 in
theorem cellsAsk : Try.prog.cellsOf 116 = 3 := by kernel_rfl
set_option maxRecDepth 100000 in
open Go.Deep Go.ChangeShapes Go.WideShapes Go.ChangeAt Go.Joins in
/-- The cells of an ask that comes in. -/
theorem openAkC {H : Type} {enc : TypeId × Value → H} {W : World} {l : List Value} {y : DataW H × List MemPlace} {fuel : Nat} (hsz : l.length = 3) (hf : DataW.trod enc Try.prog W 0 (fun _ => true) true fuel 116 l = some y) :
    ∃ a : Ak, AkC W l a ∧ a.fits := by
  obtain ⟨c0, c1, c2, rfl⟩ : ∃ c0 c1 c2, l = [c0, c1, c2] := by
    match l, hsz with
    | [c0, c1, c2], _ => exact ⟨c0, c1, c2, rfl⟩
  obtain ⟨xs, n, _, _, _, hlen, hfs⟩ := DataW.trod_struct Try.underlying116 hf
  obtain ⟨y0, y1, y2, rfl⟩ : ∃ y0 y1 y2, xs = [y0, y1, y2] := by
    match xs, hlen with
    | [y0, y1, y2], _ => exact ⟨y0, y1, y2, rfl⟩
  have cl : Try.prog.cellsOf 114 = 1 := by kernel_rfl
  have cs : Try.prog.cellsOf 9 = 1 := by kernel_rfl
  have h0 : DataW.trod enc Try.prog W 0 (fun _ => true) true n 114 [c0] = some y0 := by have := hfs 0 _ rfl; simpa [Value.cells, cl] using this
  have h1 : DataW.trod enc Try.prog W 0 (fun _ => true) true n 9 [c1] = some y1 := by have := hfs 1 _ rfl; simpa [Value.cells, cl, cs] using this
  have h2 : DataW.trod enc Try.prog W 0 (fun _ => true) true n 9 [c2] = some y2 := by have := hfs 2 _ rfl; simpa [Value.cells, cl, cs] using this
  obtain ⟨a0, n0, k0, ks, rfl, r0, rfl, l0, f0⟩ := openLkR h0
  obtain ⟨x1, f1, _, w1⟩ := DataW.trod_string Try.underlying9 h1
  obtain ⟨x2, f2, _, w2⟩ := DataW.trod_string Try.underlying9 h2
  simp at f1 f2
  subst f1 f2
  exact ⟨⟨ks, x1, x2⟩, ⟨_, _, rfl, r0⟩, ⟨l0, f0⟩, w1, w2⟩
set_option maxRecDepth 100000 in
open Go.Deep Go.ChangeShapes Go.WideShapes Go.ChangeAt Go.Joins in
/-- An ask that comes in. -/
theorem openAk {H : Type} {enc : TypeId × Value → H} {W : World} {base : Nat} {v : Value} {y : DataW H} {p : List MemPlace} (hv : Value.okWide Try.prog W .any base 116 v) (h : DataW.Trod enc Try.prog W 0 (fun _ => true) true 116 v y p) :
    ∃ (cs : List Value) (a : Ak), v = .agg cs.toArray ∧ AkC W cs a ∧ a.fits := by
  obtain ⟨cs, rfl, hsz⟩ := okWide_struct Try.underlying116 hv
  rw [cellsAsk] at hsz
  obtain ⟨l⟩ := cs
  obtain ⟨fuel, hf⟩ := h
  obtain ⟨a, h1, h2⟩ := openAkC hsz hf
  exact ⟨l, a, rfl, h1, h2⟩

set_option maxHeartbeats 4000000 in
set_option maxRecDepth 100000 in
theorem szAsk_any (cs : List Value) (a : Ak) (n : Int) (w : World) (h0 : 0 ≤ n) (hn : n ≤ 1048576) (hf : a.fits) (h : AkC w cs a) :
    Calls Try.prog 86 #[.agg cs.toArray, .int .i64 n] w fun e w' => e = .returned (.int .i64 (leftK n a.size)) ∧ Below w.heap.size w w' := by
  obtain ⟨p0x, p0z, rfl, h1⟩ := h
  obtain ⟨f0, f1, f2⟩ := hf
  have hB0 : Below w.heap.size w (w.alloc (.cells #[.slice p0x a.tk.length p0z, .string a.me, .string a.pa] 116)) := (Below.refl _ w).alloc (Nat.le_refl _) _
  have F1 := Three.new w (.slice p0x a.tk.length p0z) (.string a.me) (.string a.pa) 116
  have HI := hid (show leftK n a.size = if (a.size : Int) ≤ n then n - (a.size : Int) else (-1 : Int) from rfl)
  have HZ := hid (show a.size = lzAll a.tk + a.me.size + a.pa.size from rfl)
  obtain ⟨N0, HN0⟩ : ∃ N : Nat, Hid (N = lzAll a.tk) := ⟨_, hid rfl⟩
  obtain ⟨N1, HN1⟩ : ∃ N : Nat, Hid (N = a.me.size) := ⟨_, hid rfl⟩
  obtain ⟨N2, HN2⟩ : ∃ N : Nat, Hid (N = a.pa.size) := ⟨_, hid rfl⟩
  have HN1' := HN1.out
  have e1 : a.me.size = N1 := HN1'.symm
  have u1 : N1 ≤ 9223372036854775807 := by unfold maxLen at f1; omega
  clear HN1'
  have HN2' := HN2.out
  have e2 : a.pa.size = N2 := HN2'.symm
  have u2 : N2 ≤ 9223372036854775807 := by unfold maxLen at f2; omega
  clear HN2'
  go_enter Try.func86, Try.ntmps86
  go_wp2_with fail
  generalize w.alloc (.cells #[.slice p0x a.tk.length p0z, .string a.me, .string a.pa] 116) = W0 at *
  refine (szLinkS_any _ a.tk (n) _ (by omega) (by omega) f0.1 f0.2 (h1.below hB0)).mono ?_
  rintro e w1 ⟨rfl, hB1⟩
  replace F1 := F1.below hB1
  replace hB0 := below_one hB0 hB1
  clear hB1
  obtain ⟨a0, a1, a2⟩ := F1.c
  by_cases c0 : (N0 : Int) ≤ n
  · rw [show leftL (n) a.tk = n - (N0 : Int) from (show leftK (n) _ = _ by unfold leftK; rw [← HN0.out]; exact if_pos c0)]
    have d0 : decide (n - (N0 : Int) < 0) = false := by simp; omega
    by_cases c1 : (N1 : Int) ≤ n - (N0 : Int)
    · have d1 : decide (n - (N0 : Int) - (N1 : Int) < 0) = false := by simp; omega
      by_cases c2 : (N2 : Int) ≤ n - (N0 : Int) - (N1 : Int)
      · have d2 : decide (n - (N0 : Int) - (N1 : Int) - (N2 : Int) < 0) = false := by simp; omega
        have HR := hid (show leftK n a.size = n - (N0 : Int) - (N1 : Int) - (N2 : Int) by rw [HI.out, if_pos (by rw [HZ.out, ← HN0.out, ← HN1.out, ← HN2.out]; push_cast; omega)]; rw [HZ.out, ← HN0.out, ← HN1.out, ← HN2.out]; push_cast; omega)
        go_wp2_with fail
        go_ret
        exact ⟨ret_int HR.out.symm, hB0⟩
      · have d2 : decide (n - (N0 : Int) - (N1 : Int) - (N2 : Int) < 0) = true := by simp; omega
        have HR := hid (show leftK n a.size = -1 by rw [HI.out, if_neg (by rw [HZ.out, ← HN0.out, ← HN1.out, ← HN2.out]; push_cast; omega)])
        go_wp2_with fail
        go_ret
        exact ⟨ret_int HR.out.symm, hB0⟩
    · have d1 : decide (n - (N0 : Int) - (N1 : Int) < 0) = true := by simp; omega
      have HR := hid (show leftK n a.size = -1 by rw [HI.out, if_neg (by rw [HZ.out, ← HN0.out, ← HN1.out, ← HN2.out]; push_cast; omega)])
      go_wp2_with fail
      go_ret
      exact ⟨ret_int HR.out.symm, hB0⟩
  · rw [show leftL (n) a.tk = -1 from (show leftK (n) _ = _ by unfold leftK; rw [← HN0.out]; exact if_neg c0)]
    have HR := hid (show leftK n a.size = -1 by rw [HI.out, if_neg (by rw [HZ.out, ← HN0.out, ← HN1.out, ← HN2.out]; push_cast; omega)])
    go_wp2_with fail
    go_ret
    exact ⟨ret_int HR.out.symm, hB0⟩

set_option maxHeartbeats 4000000 in
set_option maxRecDepth 100000 in
theorem eqAsk_same (cs cs' : List Value) (a : Ak) (w : World) (hs : a.short) (h : AkC w cs a) (h' : AkC w cs' a) :
    Calls Try.prog 75 #[.agg cs.toArray, .agg cs'.toArray] w fun e w' => e = .returned (.bool true) ∧ Below w.heap.size w w' := by
  obtain ⟨p0x, p0z, rfl, h0⟩ := h
  obtain ⟨q0x, q0z, rfl, h0'⟩ := h'
  obtain ⟨s0, s1, s2⟩ := hs
  have hB0 : Below w.heap.size w ((w.alloc (.cells #[.slice p0x a.tk.length p0z, .string a.me, .string a.pa] 65)).alloc (.cells #[.slice q0x a.tk.length q0z, .string a.me, .string a.pa] 65)) := ((Below.refl _ w).alloc (Nat.le_refl _) _).alloc (by simp) _
  have F1 := (Three.new w (.slice p0x a.tk.length p0z) (.string a.me) (.string a.pa) 65).below ((Below.refl _ _).alloc (Nat.le_refl _) (.cells #[.slice q0x a.tk.length q0z, .string a.me, .string a.pa] 65))
  have F2 := Three.at (w.alloc (.cells #[.slice p0x a.tk.length p0z, .string a.me, .string a.pa] 65)) (.slice q0x a.tk.length q0z) (.string a.me) (.string a.pa) 65 (k := w.heap.size + 1) (by simp)
  have e1 : (a.me.toList == a.me.toList) = true := by simp
  have e2 : (a.pa.toList == a.pa.toList) = true := by simp
  go_enter Try.func75, Try.ntmps75
  go_wp2_with fail
  generalize (w.alloc (.cells #[.slice p0x a.tk.length p0z, .string a.me, .string a.pa] 65)).alloc (.cells #[.slice q0x a.tk.length q0z, .string a.me, .string a.pa] 65) = W0 at *
  refine (eqLinkS_any _ _ a.tk a.tk _ (Nat.le_succ_of_le s0.1) (Nat.le_succ_of_le s0.1) (h0.below hB0) (h0'.below hB0)).mono ?_
  rintro e w1 ⟨rfl, hB1⟩
  rw [lsS_refl]
  replace F1 := F1.below hB1
  replace F2 := F2.below hB1
  replace hB0 := below_one hB0 hB1
  clear hB1
  obtain ⟨a0, a1, a2⟩ := F1.c
  obtain ⟨c0, c1, c2⟩ := F2.c
  go_wp2_with fail
  go_ret
  exact ⟨rfl, hB0⟩

set_option maxHeartbeats 16000000 in
set_option maxRecDepth 100000 in
theorem toAsk_any (cs : List Value) (a : Ak) (w : World) (hs : a.short) (h : AkC w cs a) :
    Calls Try.prog 92 #[.agg cs.toArray] w fun e w' => ∃ cs', e = .returned (.agg cs'.toArray) ∧ AkO w' w.heap.size w'.heap.size cs' a ∧ Below w.heap.size w w' := by
  obtain ⟨p0x, p0z, rfl, h0⟩ := h
  obtain ⟨s0, s1, s2⟩ := hs
  have hB0 : Below w.heap.size w (((w.alloc (.cells #[.slice p0x a.tk.length p0z, .string a.me, .string a.pa] 116)).alloc (.cells #[.slice none 0 0, .string ⟨#[]⟩, .string ⟨#[]⟩] 65)).alloc (.cells #[.slice none 0 0, .string ⟨#[]⟩, .string ⟨#[]⟩] 65)) := (((Below.refl _ w).alloc (Nat.le_refl _) _).alloc (by simp) _).alloc (by simp; omega) _
  have F1 := ((Three.new w (.slice p0x a.tk.length p0z) (.string a.me) (.string a.pa) 116).below ((Below.refl _ _).alloc (Nat.le_refl _) (.cells #[.slice none 0 0, .string ⟨#[]⟩, .string ⟨#[]⟩] 65))).below ((Below.refl _ _).alloc (Nat.le_refl _) (.cells #[.slice none 0 0, .string ⟨#[]⟩, .string ⟨#[]⟩] 65))
  have F2 := (Three.at (w.alloc (.cells #[.slice p0x a.tk.length p0z, .string a.me, .string a.pa] 116)) (.slice none 0 0) (.string ⟨#[]⟩) (.string ⟨#[]⟩) 65 (k := w.heap.size + 1) (by simp)).below ((Below.refl _ _).alloc (Nat.le_refl _) (.cells #[.slice none 0 0, .string ⟨#[]⟩, .string ⟨#[]⟩] 65))
  have F3 := Three.at ((w.alloc (.cells #[.slice p0x a.tk.length p0z, .string a.me, .string a.pa] 116)).alloc (.cells #[.slice none 0 0, .string ⟨#[]⟩, .string ⟨#[]⟩] 65)) (.slice none 0 0) (.string ⟨#[]⟩) (.string ⟨#[]⟩) 65 (k := w.heap.size + 1 + 1) (by simp)
  have hK : w.heap.size + 1 + 1 < (((w.alloc (.cells #[.slice p0x a.tk.length p0z, .string a.me, .string a.pa] 116)).alloc (.cells #[.slice none 0 0, .string ⟨#[]⟩, .string ⟨#[]⟩] 65)).alloc (.cells #[.slice none 0 0, .string ⟨#[]⟩, .string ⟨#[]⟩] 65)).heap.size := F3.lt
  go_enter Try.func92, Try.ntmps92
  go_wp2_with fail
  generalize ((w.alloc (.cells #[.slice p0x a.tk.length p0z, .string a.me, .string a.pa] 116)).alloc (.cells #[.slice none 0 0, .string ⟨#[]⟩, .string ⟨#[]⟩] 65)).alloc (.cells #[.slice none 0 0, .string ⟨#[]⟩, .string ⟨#[]⟩] 65) = W0 at *
  refine (toLinkS_any _ a.tk _ s0.1 (h0.below hB0)).mono ?_
  rintro e w1 ⟨v1, rfl, o0, hB1⟩
  replace o0 := RoO.of o0
  obtain ⟨r0x, r0z, rfl⟩ := RoO.len o0
  replace F1 := F1.below hB1
  replace F2 := F2.below hB1
  replace F3 := F3.below hB1
  replace hB0 := below_one hB0 hB1
  have hs1 := hB1.size
  clear hB1
  obtain ⟨a0, a1, a2⟩ := F1.c
  obtain ⟨c0, c1, c2⟩ := F3.c
  have f0 := F3.f 0
  have f1 := F3.f 1
  have f2 := F3.f 2
  have G3 := (((F3.s0 (.slice r0x a.tk.length r0z)).s1 (.string a.me)).s2 (.string a.pa))
  have G2 := (((F2.other (k' := w.heap.size + 1 + 1) (by omega) 0 (.slice r0x a.tk.length r0z)).other (k' := w.heap.size + 1 + 1) (by omega) 1 (.string a.me)).other (k' := w.heap.size + 1 + 1) (by omega) 2 (.string a.pa))
  obtain ⟨m0, m1, m2⟩ := G3.c
  obtain ⟨t0, t1, t2⟩ := G2.c
  have g0 := G2.f 0
  have g1 := G2.f 1
  have g2 := G2.f 2
  have G := (((G2.s0 (.slice r0x a.tk.length r0z)).s1 (.string a.me)).s2 (.string a.pa))
  have M9 : Mid (w.heap.size + 1) (w.heap.size + 1 + 1 + 1) w1 ((((((w1.setCell ⟨w.heap.size + 1 + 1, 0, none⟩ (.slice r0x a.tk.length r0z)).setCell ⟨w.heap.size + 1 + 1, 1, none⟩ (.string a.me)).setCell ⟨w.heap.size + 1 + 1, 2, none⟩ (.string a.pa)).setCell ⟨w.heap.size + 1, 0, none⟩ (.slice r0x a.tk.length r0z)).setCell ⟨w.heap.size + 1, 1, none⟩ (.string a.me)).setCell ⟨w.heap.size + 1, 2, none⟩ (.string a.pa)) := (((((((Mid.of_below (Below.refl _ _)).set (p := ⟨w.heap.size + 1 + 1, 0, none⟩) (by simp) (by simp) (.slice r0x a.tk.length r0z)).set (p := ⟨w.heap.size + 1 + 1, 1, none⟩) (by simp) (by simp) (.string a.me)).set (p := ⟨w.heap.size + 1 + 1, 2, none⟩) (by simp) (by simp) (.string a.pa)).set (p := ⟨w.heap.size + 1, 0, none⟩) (by simp) (by simp) (.slice r0x a.tk.length r0z)).set (p := ⟨w.heap.size + 1, 1, none⟩) (by simp) (by simp) (.string a.me)).set (p := ⟨w.heap.size + 1, 2, none⟩) (by simp) (by simp) (.string a.pa))
  replace o0 := o0.mid M9 (.inl (by omega))
  replace hB0 := ((((((hB0.setCell (p := ⟨w.heap.size + 1 + 1, 0, none⟩) (by simp; omega) (.slice r0x a.tk.length r0z)).setCell (p := ⟨w.heap.size + 1 + 1, 1, none⟩) (by simp; omega) (.string a.me)).setCell (p := ⟨w.heap.size + 1 + 1, 2, none⟩) (by simp; omega) (.string a.pa)).setCell (p := ⟨w.heap.size + 1, 0, none⟩) (by simp) (.slice r0x a.tk.length r0z)).setCell (p := ⟨w.heap.size + 1, 1, none⟩) (by simp) (.string a.me)).setCell (p := ⟨w.heap.size + 1, 2, none⟩) (by simp) (.string a.pa))
  have hE : w1.heap.size ≤ ((((((w1.setCell ⟨w.heap.size + 1 + 1, 0, none⟩ (.slice r0x a.tk.length r0z)).setCell ⟨w.heap.size + 1 + 1, 1, none⟩ (.string a.me)).setCell ⟨w.heap.size + 1 + 1, 2, none⟩ (.string a.pa)).setCell ⟨w.heap.size + 1, 0, none⟩ (.slice r0x a.tk.length r0z)).setCell ⟨w.heap.size + 1, 1, none⟩ (.string a.me)).setCell ⟨w.heap.size + 1, 2, none⟩ (.string a.pa)).heap.size := by simp
  have hW0 : w.heap.size ≤ W0.heap.size := by omega
  clear F1 F2 F3 M9
  go_wp2_with fail
  clear a0 a1 a2 c0 c1 c2 f0 f1 f2 m0 m1 m2 t0 t1 t2 g0 g1 g2
  generalize (((((w1.setCell ⟨w.heap.size + 1 + 1, 0, none⟩ (.slice r0x a.tk.length r0z)).setCell ⟨w.heap.size + 1 + 1, 1, none⟩ (.string a.me)).setCell ⟨w.heap.size + 1 + 1, 2, none⟩ (.string a.pa)).setCell ⟨w.heap.size + 1, 0, none⟩ (.slice r0x a.tk.length r0z)).setCell ⟨w.heap.size + 1, 1, none⟩ (.string a.me)).setCell ⟨w.heap.size + 1, 2, none⟩ (.string a.pa) = WE at *
  obtain ⟨d0, d1, d2⟩ := G.c
  exact bodyPost_ret (v := .agg #[.slice r0x a.tk.length r0z, .string a.me, .string a.pa]) (by simp [results, Try.results92, go_sem, d0, d1, d2]) rfl ⟨_, rfl, ⟨_, _, rfl, o0.mono (by omega) (by omega)⟩, hB0⟩

end Go.Proofs.Ytnbojbcljfiamaa

namespace Go.Proofs.Ytnbojbcljfiamaa
open Go.RowKit Go.Shelf

set_option maxHeartbeats 4000000 in
theorem szAskS_any (v : Value) (rs : List Ak) (n : Int) (w : World) (h0 : 0 ≤ n) (h1 : n ≤ 1048576) (hm : rs.length ≤ maxLen) (hf : ∀ r ∈ rs, r.fits) (hr : GsA 3 AkC w v rs) :
    Calls Try.prog 84 #[v, .int .i64 n] w fun e w' => e = .returned (.int .i64 (leftK n (gzAll Ak.size rs))) ∧ Below w.heap.size w w' := by
  obtain ⟨a, cap, rfl⟩ := hr.len
  unfold maxLen at hm
  by_cases c0 : n < rs.length
  · have HR := hid (show leftK n (gzAll Ak.size rs) = -1 from if_neg (by unfold gzAll; omega))
    go_enter Try.func84, Try.ntmps84
    go_wp2
    go_ret
    exact ⟨ret_int HR.out.symm, Below.refl _ _⟩
  · have d0 : decide (n - (rs.length : Int) < 0) = false := by simp; omega
    go_enter Try.func84, Try.ntmps84
    go_wp2
    go_loopw [1, 5] (fun m i wr => ∃ k : Nat, k ≤ rs.length ∧ i = .int .i64 k ∧ m = .int .i64 (n - rs.length - gzTo Ak.size rs k) ∧ 0 ≤ n - rs.length - gzTo Ak.size rs k ∧ Below w.heap.size w wr) (fun _ i _ => rs.length - (intOf i).toNat)
    case atStart => exact ⟨0, Nat.zero_le _, rfl, by rw [gzTo_zero]; go_num, by rw [gzTo_zero]; omega, Below.refl _ _⟩
    case round =>
      obtain ⟨k, hk, rfl, rfl, hp, hB⟩ := hrel
      by_cases hlt : k < rs.length
      · obtain ⟨b, off, cs, rfl, hb, hcap, hq, hA⟩ := (hr.below (fun _ _ h => h.below hB) hB).at hlt
        have hA0 := hA
        obtain ⟨p0x, p0z, hcsq, g0⟩ := hA
        subst hcsq
        have q0 := hq 0 _ rfl
        have q1 := hq 1 _ rfl
        have q2 := hq 2 _ rfl
        rw [Nat.add_zero] at q0
        have f1 := hf rs[k] (List.getElem_mem hlt)
        have HS := hid (gzTo_succ (f := Ak.size) hlt)
        have HT := hid (gzTo_le Ak.size rs (k + 1))
        generalize rs[k] = r at *
        clear hq hr
        go_wp2_with fail
        refine (szAsk_any _ r _ _ hp (by omega) f1 hA0).mono ?_
        rintro e w1 ⟨rfl, hB1⟩
        have hB2 := below_one hB hB1
        by_cases c1 : (r.size : Int) ≤ n - rs.length - gzTo Ak.size rs k
        · have hv : leftK (n - rs.length - gzTo Ak.size rs k) r.size = n - rs.length - gzTo Ak.size rs (k + 1) := by
            rw [HS.out]
            unfold leftK
            rw [if_pos (by omega)]
            omega
          have hq : 0 ≤ n - rs.length - gzTo Ak.size rs (k + 1) := by rw [HS.out]; omega
          rw [hv]
          have d1 : decide (n - (rs.length : Int) - (gzTo Ak.size rs (k + 1) : Int) < 0) = false := by simp; omega
          clear hv hB1 q0 q1 q2 hA0 g0
          go_wp2_with fail
          go_roundw
          case rel => exact ⟨k + 1, by omega, by go_num, rfl, hq, hB2⟩
          case measure => simp [intOf]; omega
        · have hv : leftK (n - rs.length - gzTo Ak.size rs k) r.size = -1 := if_neg (by omega)
          have HR := hid (show leftK n (gzAll Ak.size rs) = -1 from if_neg (by have := HT.out; rw [HS.out] at this; unfold gzAll; omega))
          rw [hv]
          clear hv hB1 q0 q1 q2 hA0 g0
          go_wp2_with fail
          go_ret
          exact ⟨ret_int HR.out.symm, hB2⟩
      · obtain rfl : k = rs.length := by omega
        have HR := hid (show leftK n (gzAll Ak.size rs) = n - rs.length - gzTo Ak.size rs rs.length by unfold leftK gzAll; rw [if_pos (by omega)]; omega)
        go_wp2
        go_ret
        exact ⟨ret_int HR.out.symm, hB⟩

set_option maxHeartbeats 4000000 in
/-- A list is like itself, wherever the two lie. -/
theorem eqAskS_same (v v' : Value) (ss : List Ak) (w : World) (hn : gShort Ak.short ss) (hr : GsA 3 AkC w v ss) (hr' : GsA 3 AkC w v' ss) :
    Calls Try.prog 79 #[v, v'] w fun e w' => e = .returned (.bool true) ∧ Below w.heap.size w w' := by
  obtain ⟨a, cap, rfl⟩ := hr.len
  obtain ⟨a', cap', rfl⟩ := hr'.len
  have hn1 := hn.1
  have e0 : ((ss.length : Int) != (ss.length : Int)) = false := by simp
  go_enter Try.func79, Try.ntmps79
  go_wp2
  go_loopw [5] (fun i wr => ∃ j : Nat, j ≤ ss.length ∧ i = .int .i64 j ∧ Below w.heap.size w wr) (fun i _ => ss.length - (intOf i).toNat)
  case atStart => exact ⟨0, Nat.zero_le _, rfl, Below.refl _ _⟩
  case round =>
    obtain ⟨j, hj, rfl, hB⟩ := hrel
    by_cases hlt : j < ss.length
    · obtain ⟨b, off, cs, rfl, hb, hcap, hq, hA⟩ := (hr.below (fun _ _ h => h.below hB) hB).at hlt
      have hA0 := hA
      obtain ⟨p0x, p0z, hcsq, g0⟩ := hA
      subst hcsq
      have q0 := hq 0 _ rfl
      have q1 := hq 1 _ rfl
      have q2 := hq 2 _ rfl
      rw [Nat.add_zero] at q0
      obtain ⟨b', off', cs', rfl, hb', hcap', hq', hA'⟩ := (hr'.below (fun _ _ h => h.below hB) hB).at hlt
      have hA1 := hA'
      obtain ⟨q0x, q0z, hcsp, g'0⟩ := hA'
      subst hcsp
      have p0 := hq' 0 _ rfl
      have p1 := hq' 1 _ rfl
      have p2 := hq' 2 _ rfl
      rw [Nat.add_zero] at p0
      have hs := hn.2 ss[j] (List.getElem_mem hlt)
      generalize ss[j] = s at *
      clear hq hq' hr hr'
      go_wp2_with fail
      go_region_with (go_at_call 75; refine (eqAsk_same _ _ s _ hs (hA0.below (Below.refl _ _).drew) (hA1.below (Below.refl _ _).drew)).mono ?_; rintro e w1 ⟨rfl, hB1⟩)
      all_goals go_wp2
      all_goals go_roundw
      all_goals first
        | exact ⟨j + 1, by omega, by go_num, below_one hB (below_drew1 hB1)⟩
        | (simp [intOf]; omega)
    · obtain rfl : j = ss.length := by omega
      go_wp2
      go_ret
      exact ⟨rfl, hB⟩

theorem infoAsk : (Try.prog.info? 65).map (fun i => (i.zero, i.size, i.bytes)) = some (some (.agg #[.slice none 0 0, .string ⟨#[]⟩, .string ⟨#[]⟩]), 3, 56) := by kernel_rfl
set_option maxHeartbeats 8000000 in
theorem toAskS_any (v : Value) (ss : List Ak) (w : World) (hm : gShort Ak.short ss) (hr : GsA 3 AkC w v ss) :
    Calls Try.prog 90 #[v] w fun e w' => ∃ v', e = .returned v' ∧ GsO 65 3 AkO w' w.heap.size w'.heap.size v' ss ∧ Below w.heap.size w w' := by
  obtain ⟨a, cap, rfl⟩ := hr.len
  obtain ⟨i0, hi, hz0, hz1, hz2⟩ := info_parts infoAsk
  have hm1 := hm.1
  go_enter Try.func90, Try.ntmps90
  go_wp2_with (at_make; refine wpList_make_full _ rfl _ _ 90 rfl w.heap.size 65 i0 _ 3 Try.underlying90 hi hz0 hz1 _ _ _ _ ss.length rfl rfl rfl rfl (by rw [hz2]; omega) (by unfold maxLen; omega) (Nat.le_refl _) ?_; intro w1 hown hgrow)
  have hB1 : Below w.heap.size w w1 := (Below.refl _ w).grown hgrow (Nat.le_refl _) (fun k e => by cases e)
  have hw1 : w.heap.size < w1.heap.size := (hown.lt w.heap.size rfl).2
  go_loopw [4] (fun i wr => ∃ k : Nat, k ≤ ss.length ∧ i = .int .i64 k ∧ ∃ ys cs t, GsK 65 3 AkO wr w.heap.size wr.heap.size (.slice (some ⟨w.heap.size, 0, none⟩) ss.length ss.length) ss.length ss k ys cs t ∧ w.heap.size < t k ∧ Below w.heap.size w wr) (fun i _ => ss.length - (intOf i).toNat)
  case atStart => exact ⟨0, Nat.zero_le _, rfl, _, fun _ => [], fun _ => w1.heap.size, ⟨hown, fun j hj => (hown.lt j hj).2, fun _ h => absurd h (Nat.not_lt_zero _), fun _ h => absurd h (Nat.not_lt_zero _), fun _ _ h => absurd h (Nat.not_lt_zero _), fun _ _ => Nat.le_of_lt hw1, fun _ _ => Nat.le_refl _, fun _ _ => Nat.le_refl _, fun _ h => absurd h (Nat.not_lt_zero _)⟩, hw1, hB1⟩
  case round =>
    obtain ⟨k, hk, rfl, ys, cs0, t, hK, hg, hB⟩ := hrel
    by_cases hlt : k < ss.length
    · obtain ⟨b, off, cs, rfl, hb, hcap, hq, hA⟩ := (hr.below (fun _ _ h => h.below hB) hB).at hlt
      have hA0 := hA
      obtain ⟨p0x, p0z, hcsq, g0⟩ := hA
      subst hcsq
      have q0 := hq 0 _ rfl
      have q1 := hq 1 _ rfl
      have q2 := hq 2 _ rfl
      rw [Nat.add_zero] at q0
      have hsh := hm.2 ss[k] (List.getElem_mem hlt)
      have HA := hid (fun (w2 : World) (zs : List Value) (hB2 : Below wr.heap.size wr w2) (hz : zs.length = 3) (hn : AkO w2 wr.heap.size w2.heap.size zs ss[k]) => GsK.add (w2 := w2) (zs := zs) hK hg hB2 hlt hlt hz (fun _ _ _ _ _ _ _ M h ho => h.mid M ho) (fun _ _ _ _ h => h.below hB2) (fun _ _ _ _ _ _ h hb => h.mono hb (Nat.le_refl _)) hn)
      clear hq hr
      go_wp2_with fail
      refine (toAsk_any _ ss[k] _ hsh hA0).mono ?_
      rintro e w2 ⟨zs, rfl, hO, hB2⟩
      have hOc := hO
      obtain ⟨o0x, o0z, hzs, o0⟩ := hO
      subst hzs
      have HK := hid (HA.out w2 _ hB2 rfl hOc)
      have hrow2 := ownsRow_below hK.row hB2
      have hB3 := below_one hB hB2
      have hlen : ys.length = ss.length * 3 := hrow2.1
      have s0 := hrow2.cellAt (k * 3) (by omega)
      have s1 := hrow2.cellAt (k * 3 + 1) (by omega)
      have s2 := hrow2.cellAt (k * 3 + 2) (by omega)
      rw [List.getElem?_eq_getElem (by omega)] at s0 s1 s2
      have t0 := hrow2.frozenAt (k * 3)
      have t1 := hrow2.frozenAt (k * 3 + 1)
      have t2 := hrow2.frozenAt (k * 3 + 2)
      generalize ys[k * 3] = z0 at *
      generalize ys[k * 3 + 1] = z1 at *
      generalize ys[k * 3 + 2] = z2 at *
      generalize ss[k] = s at *
      clear q0 q1 q2 hB2 hK HA hA0 g0 o0 hOc
      go_wp2_with fail
      go_roundw
      case rel => exact ⟨k + 1, by omega, by go_num, _, _, _, HK.out.1, HK.out.2, (((hB3.setCell (p := ⟨w.heap.size, _, none⟩) (Nat.le_refl _) _).setCell (p := ⟨w.heap.size, _, none⟩) (Nat.le_refl _) _).setCell (p := ⟨w.heap.size, _, none⟩) (Nat.le_refl _) _)⟩
      case measure => simp [intOf]; omega
    · obtain rfl : k = ss.length := by omega
      go_wp2
      go_ret
      exact ⟨_, rfl, ⟨ys, cs0, t, hK⟩, hB⟩

instance : Inhabited Ak := ⟨⟨[], ByteArray.empty, ByteArray.empty⟩⟩
/-- A delivery. -/
structure Dv where
  at_ : ByteArray
  ak : Ak
  ver : Int
  tim : Int
instance : Inhabited Dv := ⟨⟨ByteArray.empty, default, 0, 0⟩⟩
/-- These cells read as this one. -/
def DvC (w : World) (cs : List Value) (d : Dv) : Prop := ∃ p1x p1z, cs = [.string d.at_, .slice p1x d.ak.tk.length p1z, .string d.ak.me, .string d.ak.pa, .int .i64 d.ver, .int .i64 d.tim] ∧ AkC w [.slice p1x d.ak.tk.length p1z, .string d.ak.me, .string d.ak.pa] d.ak
/-- .. of one's own, in blocks from base on, below top. -/
def DvO (w : World) (base top : Nat) (cs : List Value) (d : Dv) : Prop := ∃ p1x p1z, cs = [.string d.at_, .slice p1x d.ak.tk.length p1z, .string d.ak.me, .string d.ak.pa, .int .i64 d.ver, .int .i64 d.tim] ∧ AkO w base top [.slice p1x d.ak.tk.length p1z, .string d.ak.me, .string d.ak.pa] d.ak
def Dv.fits (d : Dv) : Prop := d.at_.size ≤ maxLen ∧ d.ak.fits
def Dv.size (d : Dv) : Nat := d.at_.size + d.ak.size
def Dv.short (d : Dv) : Prop := d.at_.size ≤ 1048576 ∧ d.ak.short
theorem DvC.below {w w' : World} {cs : List Value} {d : Dv} (h : DvC w cs d) (hB : Below w.heap.size w w') : DvC w' cs d := by
  obtain ⟨p1x, p1z, rfl, h0⟩ := h
  exact ⟨_, _, rfl, h0.below hB⟩
theorem DvO.mid {lo hi : Nat} {w w1 : World} {base top : Nat} {cs : List Value} {d : Dv} (h : DvO w base top cs d) (M : Mid lo hi w w1) (ho : hi ≤ base ∨ top ≤ lo) : DvO w1 base top cs d := by
  obtain ⟨p1x, p1z, rfl, h0⟩ := h
  exact ⟨_, _, rfl, h0.mid M (by omega)⟩
theorem DvO.below {w w1 : World} {base top : Nat} {cs : List Value} {d : Dv} (h : DvO w base top cs d) (hB : Below w.heap.size w w1) : DvO w1 base top cs d := h.mid (Mid.of_below (lo := 0) (hi := 0) hB) (.inl (Nat.zero_le _))
theorem DvO.mono {w : World} {base base' top top' : Nat} {cs : List Value} {d : Dv} (h : DvO w base top cs d) (hb : base' ≤ base) (ht : top ≤ top') : DvO w base' top' cs d := by
  obtain ⟨p1x, p1z, rfl, h0⟩ := h
  exact ⟨_, _, rfl, h0.mono hb ht⟩
theorem Dv.short_of {d : Dv} (h : d.size ≤ 1048576) : d.short := by
  unfold Dv.size at h
  exact ⟨by omega, Ak.short_of (by omega)⟩
theorem DvO.a {w : World} {base top : Nat} {cs : List Value} {d : Dv} (h : DvO w base top cs d) : DvC w cs d := by
  obtain ⟨_, _, rfl, h0⟩ := h
  exact ⟨_, _, rfl, h0.a⟩

set_option maxRecDepth 100000 in
theorem cellsDelivery : Try.prog.cellsOf 118 = 6 := by kernel_rfl
set_option maxRecDepth 100000 in
open Go.Deep Go.ChangeShapes Go.WideShapes Go.ChangeAt Go.Joins in
theorem openDvC {H : Type} {enc : TypeId × Value → H} {W : World} {l : List Value} {y : DataW H × List MemPlace} {fuel : Nat} (hsz : l.length = 6) (hf : DataW.trod enc Try.prog W 0 (fun _ => true) true fuel 118 l = some y) :
    ∃ d : Dv, DvC W l d ∧ d.fits := by
  obtain ⟨c0, c1, c2, c3, c4, c5, rfl⟩ : ∃ c0 c1 c2 c3 c4 c5, l = [c0, c1, c2, c3, c4, c5] := by
    match l, hsz with
    | [c0, c1, c2, c3, c4, c5], _ => exact ⟨c0, c1, c2, c3, c4, c5, rfl⟩
  obtain ⟨xs, n, _, _, _, hlen, hfs⟩ := DataW.trod_struct Try.underlying118 hf
  obtain ⟨y0, y1, y2, y3, rfl⟩ : ∃ y0 y1 y2 y3, xs = [y0, y1, y2, y3] := by
    match xs, hlen with
    | [y0, y1, y2, y3], _ => exact ⟨y0, y1, y2, y3, rfl⟩
  have ci : Try.prog.cellsOf 3 = 1 := by kernel_rfl
  have cs : Try.prog.cellsOf 9 = 1 := by kernel_rfl
  have h0 : DataW.trod enc Try.prog W 0 (fun _ => true) true n 9 [c0] = some y0 := by have := hfs 0 _ rfl; simpa [Value.cells, cs] using this
  have h1 : DataW.trod enc Try.prog W 0 (fun _ => true) true n 116 [c1, c2, c3] = some y1 := by have := hfs 1 _ rfl; simpa [Value.cells, cs, cellsAsk] using this
  have h2 : DataW.trod enc Try.prog W 0 (fun _ => true) true n 3 [c4] = some y2 := by have := hfs 2 _ rfl; simpa [Value.cells, cs, cellsAsk, ci] using this
  have h3 : DataW.trod enc Try.prog W 0 (fun _ => true) true n 3 [c5] = some y3 := by have := hfs 3 _ rfl; simpa [Value.cells, cs, cellsAsk, ci] using this
  obtain ⟨x0, f0, _, w0⟩ := DataW.trod_string Try.underlying9 h0
  obtain ⟨a, hA, w1⟩ := openAkC rfl h1
  obtain ⟨x2, f2, _, _⟩ := DataW.trod_int Try.underlying3 h2
  obtain ⟨x3, f3, _, _⟩ := DataW.trod_int Try.underlying3 h3
  simp at f0 f2 f3
  subst f0 f2 f3
  obtain ⟨px, pz, he, _⟩ := id hA
  cases he
  exact ⟨⟨x0, a, x2, x3⟩, ⟨_, _, rfl, hA⟩, w0, w1⟩
set_option maxRecDepth 100000 in
open Go.Deep Go.ChangeShapes Go.WideShapes Go.ChangeAt Go.Joins in
/-- A delivery that comes in. -/
theorem openDv {H : Type} {enc : TypeId × Value → H} {W : World} {base : Nat} {v : Value} {y : DataW H} {p : List MemPlace} (hv : Value.okWide Try.prog W .any base 118 v) (h : DataW.Trod enc Try.prog W 0 (fun _ => true) true 118 v y p) :
    ∃ (cs : List Value) (d : Dv), v = .agg cs.toArray ∧ DvC W cs d ∧ d.fits := by
  obtain ⟨cs, rfl, hsz⟩ := okWide_struct Try.underlying118 hv
  rw [cellsDelivery] at hsz
  obtain ⟨l⟩ := cs
  obtain ⟨fuel, hf⟩ := h
  obtain ⟨a, h1, h2⟩ := openDvC hsz hf
  exact ⟨l, a, rfl, h1, h2⟩

set_option maxHeartbeats 4000000 in
set_option maxRecDepth 100000 in
theorem szDelivery_any (cs : List Value) (d : Dv) (n : Int) (w : World) (h0 : 0 ≤ n) (hn : n ≤ 1048576) (hf : d.fits) (h : DvC w cs d) :
    Calls Try.prog 68 #[.agg cs.toArray, .int .i64 n] w fun e w' => e = .returned (.int .i64 (leftK n d.size)) ∧ Below w.heap.size w w' := by
  obtain ⟨p1x, p1z, rfl, h2⟩ := h
  obtain ⟨f0, f1⟩ := hf
  have hB0 : Below w.heap.size w (w.alloc (.cells #[.string d.at_, .slice p1x d.ak.tk.length p1z, .string d.ak.me, .string d.ak.pa, .int .i64 d.ver, .int .i64 d.tim] 118)) := (Below.refl _ w).alloc (Nat.le_refl _) _
  have F1 := Six.new w (.string d.at_) (.slice p1x d.ak.tk.length p1z) (.string d.ak.me) (.string d.ak.pa) (.int .i64 d.ver) (.int .i64 d.tim) 118
  have HI := hid (show leftK n d.size = if (d.size : Int) ≤ n then n - (d.size : Int) else (-1 : Int) from rfl)
  have HZ := hid (show d.size = d.at_.size + d.ak.size from rfl)
  obtain ⟨N0, HN0⟩ : ∃ N : Nat, Hid (N = d.at_.size) := ⟨_, hid rfl⟩
  obtain ⟨N1, HN1⟩ : ∃ N : Nat, Hid (N = d.ak.size) := ⟨_, hid rfl⟩
  have HN0' := HN0.out
  have e0 : d.at_.size = N0 := HN0'.symm
  have u0 : N0 ≤ 9223372036854775807 := by unfold maxLen at f0; omega
  clear HN0'
  go_enter Try.func68, Try.ntmps68
  by_cases c0 : (N0 : Int) ≤ n
  · have d0 : decide (n - (N0 : Int) < 0) = false := by simp; omega
    go_wp2_with fail
    generalize w.alloc (.cells #[.string d.at_, .slice p1x d.ak.tk.length p1z, .string d.ak.me, .string d.ak.pa, .int .i64 d.ver, .int .i64 d.tim] 118) = W0 at *
    refine (szAsk_any _ d.ak (n - (N0 : Int)) _ (by omega) (by omega) f1 (h2.below hB0)).mono ?_
    rintro e w2 ⟨rfl, hB2⟩
    replace F1 := F1.below hB2
    replace hB0 := below_one hB0 hB2
    clear hB2
    obtain ⟨a0, a1, a2, a3, a4, a5⟩ := F1.c
    by_cases c1 : (N1 : Int) ≤ n - (N0 : Int)
    · rw [show leftK (n - (N0 : Int)) d.ak.size = n - (N0 : Int) - (N1 : Int) from (show leftK (n - (N0 : Int)) _ = _ by unfold leftK; rw [← HN1.out]; exact if_pos c1)]
      have d1 : decide (n - (N0 : Int) - (N1 : Int) < 0) = false := by simp; omega
      have HR := hid (show leftK n d.size = n - (N0 : Int) - (N1 : Int) by rw [HI.out, if_pos (by rw [HZ.out, ← HN0.out, ← HN1.out]; push_cast; omega)]; rw [HZ.out, ← HN0.out, ← HN1.out]; push_cast; omega)
      go_wp2_with fail
      go_ret
      exact ⟨ret_int HR.out.symm, hB0⟩
    · rw [show leftK (n - (N0 : Int)) d.ak.size = -1 from (show leftK (n - (N0 : Int)) _ = _ by unfold leftK; rw [← HN1.out]; exact if_neg c1)]
      have HR := hid (show leftK n d.size = -1 by rw [HI.out, if_neg (by rw [HZ.out, ← HN0.out, ← HN1.out]; push_cast; omega)])
      go_wp2_with fail
      go_ret
      exact ⟨ret_int HR.out.symm, hB0⟩
  · have d0 : decide (n - (N0 : Int) < 0) = true := by simp; omega
    have HR := hid (show leftK n d.size = -1 by rw [HI.out, if_neg (by rw [HZ.out, ← HN0.out, ← HN1.out]; push_cast; omega)])
    go_wp2_with fail
    go_ret
    exact ⟨ret_int HR.out.symm, hB0⟩

set_option maxHeartbeats 4000000 in
set_option maxRecDepth 100000 in
theorem eqDelivery_same (cs cs' : List Value) (d : Dv) (w : World) (hs : d.short) (h : DvC w cs d) (h' : DvC w cs' d) :
    Calls Try.prog 40 #[.agg cs.toArray, .agg cs'.toArray] w fun e w' => e = .returned (.bool true) ∧ Below w.heap.size w w' := by
  obtain ⟨p1x, p1z, rfl, h1⟩ := h
  obtain ⟨q1x, q1z, rfl, h1'⟩ := h'
  obtain ⟨s0, s1⟩ := hs
  have hB0 : Below w.heap.size w ((w.alloc (.cells #[.string d.at_, .slice p1x d.ak.tk.length p1z, .string d.ak.me, .string d.ak.pa, .int .i64 d.ver, .int .i64 d.tim] 67)).alloc (.cells #[.string d.at_, .slice q1x d.ak.tk.length q1z, .string d.ak.me, .string d.ak.pa, .int .i64 d.ver, .int .i64 d.tim] 67)) := ((Below.refl _ w).alloc (Nat.le_refl _) _).alloc (by simp) _
  have F1 := (Six.new w (.string d.at_) (.slice p1x d.ak.tk.length p1z) (.string d.ak.me) (.string d.ak.pa) (.int .i64 d.ver) (.int .i64 d.tim) 67).below ((Below.refl _ _).alloc (Nat.le_refl _) (.cells #[.string d.at_, .slice q1x d.ak.tk.length q1z, .string d.ak.me, .string d.ak.pa, .int .i64 d.ver, .int .i64 d.tim] 67))
  have F2 := Six.at (w.alloc (.cells #[.string d.at_, .slice p1x d.ak.tk.length p1z, .string d.ak.me, .string d.ak.pa, .int .i64 d.ver, .int .i64 d.tim] 67)) (.string d.at_) (.slice q1x d.ak.tk.length q1z) (.string d.ak.me) (.string d.ak.pa) (.int .i64 d.ver) (.int .i64 d.tim) 67 (k := w.heap.size + 1) (by simp)
  have e0 : (d.at_.toList == d.at_.toList) = true := by simp
  have e2 : (d.ver != d.ver) = false := by simp
  have e3 : (d.tim != d.tim) = false := by simp
  go_enter Try.func40, Try.ntmps40
  go_wp2_with fail
  generalize (w.alloc (.cells #[.string d.at_, .slice p1x d.ak.tk.length p1z, .string d.ak.me, .string d.ak.pa, .int .i64 d.ver, .int .i64 d.tim] 67)).alloc (.cells #[.string d.at_, .slice q1x d.ak.tk.length q1z, .string d.ak.me, .string d.ak.pa, .int .i64 d.ver, .int .i64 d.tim] 67) = W0 at *
  refine (eqAsk_same _ _ d.ak _ s1 (h1.below hB0) (h1'.below hB0)).mono ?_
  rintro e w2 ⟨rfl, hB2⟩
  replace F1 := F1.below hB2
  replace F2 := F2.below hB2
  replace hB0 := below_one hB0 hB2
  clear hB2
  obtain ⟨a0, a1, a2, a3, a4, a5⟩ := F1.c
  obtain ⟨c0, c1, c2, c3, c4, c5⟩ := F2.c
  go_wp2_with fail
  go_ret
  exact ⟨rfl, hB0⟩

set_option maxHeartbeats 16000000 in
set_option maxRecDepth 100000 in
theorem toDelivery_any (cs : List Value) (d : Dv) (w : World) (hs : d.short) (h : DvC w cs d) :
    Calls Try.prog 74 #[.agg cs.toArray] w fun e w' => ∃ cs', e = .returned (.agg cs'.toArray) ∧ DvO w' w.heap.size w'.heap.size cs' d ∧ Below w.heap.size w w' := by
  obtain ⟨p1x, p1z, rfl, h1⟩ := h
  obtain ⟨s0, s1⟩ := hs
  have hB0 : Below w.heap.size w (((w.alloc (.cells #[.string d.at_, .slice p1x d.ak.tk.length p1z, .string d.ak.me, .string d.ak.pa, .int .i64 d.ver, .int .i64 d.tim] 118)).alloc (.cells #[.string ⟨#[]⟩, .slice none 0 0, .string ⟨#[]⟩, .string ⟨#[]⟩, .int .i64 0, .int .i64 0] 67)).alloc (.cells #[.string d.at_, .slice none 0 0, .string ⟨#[]⟩, .string ⟨#[]⟩, .int .i64 0, .int .i64 0] 67)) := (((Below.refl _ w).alloc (Nat.le_refl _) _).alloc (by simp) _).alloc (by simp; omega) _
  have F1 := ((Six.new w (.string d.at_) (.slice p1x d.ak.tk.length p1z) (.string d.ak.me) (.string d.ak.pa) (.int .i64 d.ver) (.int .i64 d.tim) 118).below ((Below.refl _ _).alloc (Nat.le_refl _) (.cells #[.string ⟨#[]⟩, .slice none 0 0, .string ⟨#[]⟩, .string ⟨#[]⟩, .int .i64 0, .int .i64 0] 67))).below ((Below.refl _ _).alloc (Nat.le_refl _) (.cells #[.string d.at_, .slice none 0 0, .string ⟨#[]⟩, .string ⟨#[]⟩, .int .i64 0, .int .i64 0] 67))
  have F2 := (Six.at (w.alloc (.cells #[.string d.at_, .slice p1x d.ak.tk.length p1z, .string d.ak.me, .string d.ak.pa, .int .i64 d.ver, .int .i64 d.tim] 118)) (.string ⟨#[]⟩) (.slice none 0 0) (.string ⟨#[]⟩) (.string ⟨#[]⟩) (.int .i64 0) (.int .i64 0) 67 (k := w.heap.size + 1) (by simp)).below ((Below.refl _ _).alloc (Nat.le_refl _) (.cells #[.string d.at_, .slice none 0 0, .string ⟨#[]⟩, .string ⟨#[]⟩, .int .i64 0, .int .i64 0] 67))
  have F3 := Six.at ((w.alloc (.cells #[.string d.at_, .slice p1x d.ak.tk.length p1z, .string d.ak.me, .string d.ak.pa, .int .i64 d.ver, .int .i64 d.tim] 118)).alloc (.cells #[.string ⟨#[]⟩, .slice none 0 0, .string ⟨#[]⟩, .string ⟨#[]⟩, .int .i64 0, .int .i64 0] 67)) (.string d.at_) (.slice none 0 0) (.string ⟨#[]⟩) (.string ⟨#[]⟩) (.int .i64 0) (.int .i64 0) 67 (k := w.heap.size + 1 + 1) (by simp)
  have hK : w.heap.size + 1 + 1 < (((w.alloc (.cells #[.string d.at_, .slice p1x d.ak.tk.length p1z, .string d.ak.me, .string d.ak.pa, .int .i64 d.ver, .int .i64 d.tim] 118)).alloc (.cells #[.string ⟨#[]⟩, .slice none 0 0, .string ⟨#[]⟩, .string ⟨#[]⟩, .int .i64 0, .int .i64 0] 67)).alloc (.cells #[.string d.at_, .slice none 0 0, .string ⟨#[]⟩, .string ⟨#[]⟩, .int .i64 0, .int .i64 0] 67)).heap.size := F3.lt
  go_enter Try.func74, Try.ntmps74
  go_wp2_with fail
  generalize ((w.alloc (.cells #[.string d.at_, .slice p1x d.ak.tk.length p1z, .string d.ak.me, .string d.ak.pa, .int .i64 d.ver, .int .i64 d.tim] 118)).alloc (.cells #[.string ⟨#[]⟩, .slice none 0 0, .string ⟨#[]⟩, .string ⟨#[]⟩, .int .i64 0, .int .i64 0] 67)).alloc (.cells #[.string d.at_, .slice none 0 0, .string ⟨#[]⟩, .string ⟨#[]⟩, .int .i64 0, .int .i64 0] 67) = W0 at *
  refine (toAsk_any _ d.ak _ s1 (h1.below hB0)).mono ?_
  rintro e w1 ⟨v1, rfl, o1, hB1⟩
  obtain ⟨r1x, r1z, rfl, _⟩ := id o1
  replace F1 := F1.below hB1
  replace F2 := F2.below hB1
  replace F3 := F3.below hB1
  replace hB0 := below_one hB0 hB1
  have hs1 := hB1.size
  clear hB1
  obtain ⟨a0, a1, a2, a3, a4, a5⟩ := F1.c
  obtain ⟨c0, c1, c2, c3, c4, c5⟩ := F3.c
  have f1 := F3.f 1
  have f2 := F3.f 2
  have f3 := F3.f 3
  have f4 := F3.f 4
  have f5 := F3.f 5
  have G3 := (((((F3.s1 (.slice r1x d.ak.tk.length r1z)).s2 (.string d.ak.me)).s3 (.string d.ak.pa)).s4 (.int .i64 d.ver)).s5 (.int .i64 d.tim))
  have G2 := (((((F2.other (k' := w.heap.size + 1 + 1) (by omega) 1 (.slice r1x d.ak.tk.length r1z)).other (k' := w.heap.size + 1 + 1) (by omega) 2 (.string d.ak.me)).other (k' := w.heap.size + 1 + 1) (by omega) 3 (.string d.ak.pa)).other (k' := w.heap.size + 1 + 1) (by omega) 4 (.int .i64 d.ver)).other (k' := w.heap.size + 1 + 1) (by omega) 5 (.int .i64 d.tim))
  obtain ⟨m0, m1, m2, m3, m4, m5⟩ := G3.c
  obtain ⟨t0, t1, t2, t3, t4, t5⟩ := G2.c
  have g0 := G2.f 0
  have g1 := G2.f 1
  have g2 := G2.f 2
  have g3 := G2.f 3
  have g4 := G2.f 4
  have g5 := G2.f 5
  have G := ((((((G2.s0 (.string d.at_)).s1 (.slice r1x d.ak.tk.length r1z)).s2 (.string d.ak.me)).s3 (.string d.ak.pa)).s4 (.int .i64 d.ver)).s5 (.int .i64 d.tim))
  have M9 : Mid (w.heap.size + 1) (w.heap.size + 1 + 1 + 1) w1 (((((((((((w1.setCell ⟨w.heap.size + 1 + 1, 1, none⟩ (.slice r1x d.ak.tk.length r1z)).setCell ⟨w.heap.size + 1 + 1, 2, none⟩ (.string d.ak.me)).setCell ⟨w.heap.size + 1 + 1, 3, none⟩ (.string d.ak.pa)).setCell ⟨w.heap.size + 1 + 1, 4, none⟩ (.int .i64 d.ver)).setCell ⟨w.heap.size + 1 + 1, 5, none⟩ (.int .i64 d.tim)).setCell ⟨w.heap.size + 1, 0, none⟩ (.string d.at_)).setCell ⟨w.heap.size + 1, 1, none⟩ (.slice r1x d.ak.tk.length r1z)).setCell ⟨w.heap.size + 1, 2, none⟩ (.string d.ak.me)).setCell ⟨w.heap.size + 1, 3, none⟩ (.string d.ak.pa)).setCell ⟨w.heap.size + 1, 4, none⟩ (.int .i64 d.ver)).setCell ⟨w.heap.size + 1, 5, none⟩ (.int .i64 d.tim)) := ((((((((((((Mid.of_below (Below.refl _ _)).set (p := ⟨w.heap.size + 1 + 1, 1, none⟩) (by simp) (by simp) (.slice r1x d.ak.tk.length r1z)).set (p := ⟨w.heap.size + 1 + 1, 2, none⟩) (by simp) (by simp) (.string d.ak.me)).set (p := ⟨w.heap.size + 1 + 1, 3, none⟩) (by simp) (by simp) (.string d.ak.pa)).set (p := ⟨w.heap.size + 1 + 1, 4, none⟩) (by simp) (by simp) (.int .i64 d.ver)).set (p := ⟨w.heap.size + 1 + 1, 5, none⟩) (by simp) (by simp) (.int .i64 d.tim)).set (p := ⟨w.heap.size + 1, 0, none⟩) (by simp) (by simp) (.string d.at_)).set (p := ⟨w.heap.size + 1, 1, none⟩) (by simp) (by simp) (.slice r1x d.ak.tk.length r1z)).set (p := ⟨w.heap.size + 1, 2, none⟩) (by simp) (by simp) (.string d.ak.me)).set (p := ⟨w.heap.size + 1, 3, none⟩) (by simp) (by simp) (.string d.ak.pa)).set (p := ⟨w.heap.size + 1, 4, none⟩) (by simp) (by simp) (.int .i64 d.ver)).set (p := ⟨w.heap.size + 1, 5, none⟩) (by simp) (by simp) (.int .i64 d.tim))
  replace o1 := o1.mid M9 (.inl (by omega))
  replace hB0 := (((((((((((hB0.setCell (p := ⟨w.heap.size + 1 + 1, 1, none⟩) (by simp; omega) (.slice r1x d.ak.tk.length r1z)).setCell (p := ⟨w.heap.size + 1 + 1, 2, none⟩) (by simp; omega) (.string d.ak.me)).setCell (p := ⟨w.heap.size + 1 + 1, 3, none⟩) (by simp; omega) (.string d.ak.pa)).setCell (p := ⟨w.heap.size + 1 + 1, 4, none⟩) (by simp; omega) (.int .i64 d.ver)).setCell (p := ⟨w.heap.size + 1 + 1, 5, none⟩) (by simp; omega) (.int .i64 d.tim)).setCell (p := ⟨w.heap.size + 1, 0, none⟩) (by simp) (.string d.at_)).setCell (p := ⟨w.heap.size + 1, 1, none⟩) (by simp) (.slice r1x d.ak.tk.length r1z)).setCell (p := ⟨w.heap.size + 1, 2, none⟩) (by simp) (.string d.ak.me)).setCell (p := ⟨w.heap.size + 1, 3, none⟩) (by simp) (.string d.ak.pa)).setCell (p := ⟨w.heap.size + 1, 4, none⟩) (by simp) (.int .i64 d.ver)).setCell (p := ⟨w.heap.size + 1, 5, none⟩) (by simp) (.int .i64 d.tim))
  have hE : w1.heap.size ≤ (((((((((((w1.setCell ⟨w.heap.size + 1 + 1, 1, none⟩ (.slice r1x d.ak.tk.length r1z)).setCell ⟨w.heap.size + 1 + 1, 2, none⟩ (.string d.ak.me)).setCell ⟨w.heap.size + 1 + 1, 3, none⟩ (.string d.ak.pa)).setCell ⟨w.heap.size + 1 + 1, 4, none⟩ (.int .i64 d.ver)).setCell ⟨w.heap.size + 1 + 1, 5, none⟩ (.int .i64 d.tim)).setCell ⟨w.heap.size + 1, 0, none⟩ (.string d.at_)).setCell ⟨w.heap.size + 1, 1, none⟩ (.slice r1x d.ak.tk.length r1z)).setCell ⟨w.heap.size + 1, 2, none⟩ (.string d.ak.me)).setCell ⟨w.heap.size + 1, 3, none⟩ (.string d.ak.pa)).setCell ⟨w.heap.size + 1, 4, none⟩ (.int .i64 d.ver)).setCell ⟨w.heap.size + 1, 5, none⟩ (.int .i64 d.tim)).heap.size := by simp
  have hW0 : w.heap.size ≤ W0.heap.size := by omega
  clear F1 F2 F3 M9
  go_wp2_with fail
  clear a0 a1 a2 a3 a4 a5 c0 c1 c2 c3 c4 c5 f1 f2 f3 f4 f5 m0 m1 m2 m3 m4 m5 t0 t1 t2 t3 t4 t5 g0 g1 g2 g3 g4 g5
  generalize ((((((((((w1.setCell ⟨w.heap.size + 1 + 1, 1, none⟩ (.slice r1x d.ak.tk.length r1z)).setCell ⟨w.heap.size + 1 + 1, 2, none⟩ (.string d.ak.me)).setCell ⟨w.heap.size + 1 + 1, 3, none⟩ (.string d.ak.pa)).setCell ⟨w.heap.size + 1 + 1, 4, none⟩ (.int .i64 d.ver)).setCell ⟨w.heap.size + 1 + 1, 5, none⟩ (.int .i64 d.tim)).setCell ⟨w.heap.size + 1, 0, none⟩ (.string d.at_)).setCell ⟨w.heap.size + 1, 1, none⟩ (.slice r1x d.ak.tk.length r1z)).setCell ⟨w.heap.size + 1, 2, none⟩ (.string d.ak.me)).setCell ⟨w.heap.size + 1, 3, none⟩ (.string d.ak.pa)).setCell ⟨w.heap.size + 1, 4, none⟩ (.int .i64 d.ver)).setCell ⟨w.heap.size + 1, 5, none⟩ (.int .i64 d.tim) = WE at *
  obtain ⟨d0, d1, d2, d3, d4, d5⟩ := G.c
  exact bodyPost_ret (v := .agg #[.string d.at_, .slice r1x d.ak.tk.length r1z, .string d.ak.me, .string d.ak.pa, .int .i64 d.ver, .int .i64 d.tim]) (by simp [results, Try.results74, go_sem, d0, d1, d2, d3, d4, d5]) rfl ⟨_, rfl, ⟨_, _, rfl, o1.mono (by omega) (by omega)⟩, hB0⟩

set_option maxHeartbeats 4000000 in
theorem szDeliveryS_any (v : Value) (rs : List Dv) (n : Int) (w : World) (h0 : 0 ≤ n) (h1 : n ≤ 1048576) (hm : rs.length ≤ maxLen) (hf : ∀ r ∈ rs, r.fits) (hr : GsA 6 DvC w v rs) :
    Calls Try.prog 31 #[v, .int .i64 n] w fun e w' => e = .returned (.int .i64 (leftK n (gzAll Dv.size rs))) ∧ Below w.heap.size w w' := by
  obtain ⟨a, cap, rfl⟩ := hr.len
  unfold maxLen at hm
  by_cases c0 : n < rs.length
  · have HR := hid (show leftK n (gzAll Dv.size rs) = -1 from if_neg (by unfold gzAll; omega))
    go_enter Try.func31, Try.ntmps31
    go_wp2
    go_ret
    exact ⟨ret_int HR.out.symm, Below.refl _ _⟩
  · have d0 : decide (n - (rs.length : Int) < 0) = false := by simp; omega
    go_enter Try.func31, Try.ntmps31
    go_wp2
    go_loopw [1, 5] (fun m i wr => ∃ k : Nat, k ≤ rs.length ∧ i = .int .i64 k ∧ m = .int .i64 (n - rs.length - gzTo Dv.size rs k) ∧ 0 ≤ n - rs.length - gzTo Dv.size rs k ∧ Below w.heap.size w wr) (fun _ i _ => rs.length - (intOf i).toNat)
    case atStart => exact ⟨0, Nat.zero_le _, rfl, by rw [gzTo_zero]; go_num, by rw [gzTo_zero]; omega, Below.refl _ _⟩
    case round =>
      obtain ⟨k, hk, rfl, rfl, hp, hB⟩ := hrel
      by_cases hlt : k < rs.length
      · obtain ⟨b, off, cs, rfl, hb, hcap, hq, hA⟩ := (hr.below (fun _ _ h => h.below hB) hB).at hlt
        have hA0 := hA
        obtain ⟨p1x, p1z, hcsq, g1⟩ := hA
        subst hcsq
        have q0 := hq 0 _ rfl
        have q1 := hq 1 _ rfl
        have q2 := hq 2 _ rfl
        have q3 := hq 3 _ rfl
        have q4 := hq 4 _ rfl
        have q5 := hq 5 _ rfl
        rw [Nat.add_zero] at q0
        have f1 := hf rs[k] (List.getElem_mem hlt)
        have HS := hid (gzTo_succ (f := Dv.size) hlt)
        have HT := hid (gzTo_le Dv.size rs (k + 1))
        generalize rs[k] = r at *
        clear hq hr
        go_wp2_with fail
        refine (szDelivery_any _ r _ _ hp (by omega) f1 hA0).mono ?_
        rintro e w1 ⟨rfl, hB1⟩
        have hB2 := below_one hB hB1
        by_cases c1 : (r.size : Int) ≤ n - rs.length - gzTo Dv.size rs k
        · have hv : leftK (n - rs.length - gzTo Dv.size rs k) r.size = n - rs.length - gzTo Dv.size rs (k + 1) := by
            rw [HS.out]
            unfold leftK
            rw [if_pos (by omega)]
            omega
          have hq : 0 ≤ n - rs.length - gzTo Dv.size rs (k + 1) := by rw [HS.out]; omega
          rw [hv]
          have d1 : decide (n - (rs.length : Int) - (gzTo Dv.size rs (k + 1) : Int) < 0) = false := by simp; omega
          clear hv hB1 q0 q1 q2 q3 q4 q5 hA0 g1
          go_wp2_with fail
          go_roundw
          case rel => exact ⟨k + 1, by omega, by go_num, rfl, hq, hB2⟩
          case measure => simp [intOf]; omega
        · have hv : leftK (n - rs.length - gzTo Dv.size rs k) r.size = -1 := if_neg (by omega)
          have HR := hid (show leftK n (gzAll Dv.size rs) = -1 from if_neg (by have := HT.out; rw [HS.out] at this; unfold gzAll; omega))
          rw [hv]
          clear hv hB1 q0 q1 q2 q3 q4 q5 hA0 g1
          go_wp2_with fail
          go_ret
          exact ⟨ret_int HR.out.symm, hB2⟩
      · obtain rfl : k = rs.length := by omega
        have HR := hid (show leftK n (gzAll Dv.size rs) = n - rs.length - gzTo Dv.size rs rs.length by unfold leftK gzAll; rw [if_pos (by omega)]; omega)
        go_wp2
        go_ret
        exact ⟨ret_int HR.out.symm, hB⟩

set_option maxHeartbeats 4000000 in
/-- A list is like itself, wherever the two lie. -/
theorem eqDeliveryS_same (v v' : Value) (ss : List Dv) (w : World) (hn : gShort Dv.short ss) (hr : GsA 6 DvC w v ss) (hr' : GsA 6 DvC w v' ss) :
    Calls Try.prog 14 #[v, v'] w fun e w' => e = .returned (.bool true) ∧ Below w.heap.size w w' := by
  obtain ⟨a, cap, rfl⟩ := hr.len
  obtain ⟨a', cap', rfl⟩ := hr'.len
  have hn1 := hn.1
  have e0 : ((ss.length : Int) != (ss.length : Int)) = false := by simp
  go_enter Try.func14, Try.ntmps14
  go_wp2
  go_loopw [5] (fun i wr => ∃ j : Nat, j ≤ ss.length ∧ i = .int .i64 j ∧ Below w.heap.size w wr) (fun i _ => ss.length - (intOf i).toNat)
  case atStart => exact ⟨0, Nat.zero_le _, rfl, Below.refl _ _⟩
  case round =>
    obtain ⟨j, hj, rfl, hB⟩ := hrel
    by_cases hlt : j < ss.length
    · obtain ⟨b, off, cs, rfl, hb, hcap, hq, hA⟩ := (hr.below (fun _ _ h => h.below hB) hB).at hlt
      have hA0 := hA
      obtain ⟨p1x, p1z, hcsq, g1⟩ := hA
      subst hcsq
      have q0 := hq 0 _ rfl
      have q1 := hq 1 _ rfl
      have q2 := hq 2 _ rfl
      have q3 := hq 3 _ rfl
      have q4 := hq 4 _ rfl
      have q5 := hq 5 _ rfl
      rw [Nat.add_zero] at q0
      obtain ⟨b', off', cs', rfl, hb', hcap', hq', hA'⟩ := (hr'.below (fun _ _ h => h.below hB) hB).at hlt
      have hA1 := hA'
      obtain ⟨q1x, q1z, hcsp, g'1⟩ := hA'
      subst hcsp
      have p0 := hq' 0 _ rfl
      have p1 := hq' 1 _ rfl
      have p2 := hq' 2 _ rfl
      have p3 := hq' 3 _ rfl
      have p4 := hq' 4 _ rfl
      have p5 := hq' 5 _ rfl
      rw [Nat.add_zero] at p0
      have hs := hn.2 ss[j] (List.getElem_mem hlt)
      generalize ss[j] = s at *
      clear hq hq' hr hr'
      go_wp2_with fail
      go_region_with (go_at_call 40; refine (eqDelivery_same _ _ s _ hs (hA0.below (Below.refl _ _).drew) (hA1.below (Below.refl _ _).drew)).mono ?_; rintro e w1 ⟨rfl, hB1⟩)
      all_goals go_wp2
      all_goals go_roundw
      all_goals first
        | exact ⟨j + 1, by omega, by go_num, below_one hB (below_drew1 hB1)⟩
        | (simp [intOf]; omega)
    · obtain rfl : j = ss.length := by omega
      go_wp2
      go_ret
      exact ⟨rfl, hB⟩

theorem infoDelivery : (Try.prog.info? 67).map (fun i => (i.zero, i.size, i.bytes)) = some (some (.agg #[.string ⟨#[]⟩, .slice none 0 0, .string ⟨#[]⟩, .string ⟨#[]⟩, .int .i64 0, .int .i64 0]), 6, 88) := by kernel_rfl
set_option maxHeartbeats 8000000 in
theorem toDeliveryS_any (v : Value) (ss : List Dv) (w : World) (hm : gShort Dv.short ss) (hr : GsA 6 DvC w v ss) :
    Calls Try.prog 37 #[v] w fun e w' => ∃ v', e = .returned v' ∧ GsO 67 6 DvO w' w.heap.size w'.heap.size v' ss ∧ Below w.heap.size w w' := by
  obtain ⟨a, cap, rfl⟩ := hr.len
  obtain ⟨i0, hi, hz0, hz1, hz2⟩ := info_parts infoDelivery
  have hm1 := hm.1
  go_enter Try.func37, Try.ntmps37
  go_wp2_with (at_make; refine wpList_make_full _ rfl _ _ 29 rfl w.heap.size 67 i0 _ 6 Try.underlying29 hi hz0 hz1 _ _ _ _ ss.length rfl rfl rfl rfl (by rw [hz2]; omega) (by unfold maxLen; omega) (Nat.le_refl _) ?_; intro w1 hown hgrow)
  have hB1 : Below w.heap.size w w1 := (Below.refl _ w).grown hgrow (Nat.le_refl _) (fun k e => by cases e)
  have hw1 : w.heap.size < w1.heap.size := (hown.lt w.heap.size rfl).2
  go_loopw [4] (fun i wr => ∃ k : Nat, k ≤ ss.length ∧ i = .int .i64 k ∧ ∃ ys cs t, GsK 67 6 DvO wr w.heap.size wr.heap.size (.slice (some ⟨w.heap.size, 0, none⟩) ss.length ss.length) ss.length ss k ys cs t ∧ w.heap.size < t k ∧ Below w.heap.size w wr) (fun i _ => ss.length - (intOf i).toNat)
  case atStart => exact ⟨0, Nat.zero_le _, rfl, _, fun _ => [], fun _ => w1.heap.size, ⟨hown, fun j hj => (hown.lt j hj).2, fun _ h => absurd h (Nat.not_lt_zero _), fun _ h => absurd h (Nat.not_lt_zero _), fun _ _ h => absurd h (Nat.not_lt_zero _), fun _ _ => Nat.le_of_lt hw1, fun _ _ => Nat.le_refl _, fun _ _ => Nat.le_refl _, fun _ h => absurd h (Nat.not_lt_zero _)⟩, hw1, hB1⟩
  case round =>
    obtain ⟨k, hk, rfl, ys, cs0, t, hK, hg, hB⟩ := hrel
    by_cases hlt : k < ss.length
    · obtain ⟨b, off, cs, rfl, hb, hcap, hq, hA⟩ := (hr.below (fun _ _ h => h.below hB) hB).at hlt
      have hA0 := hA
      obtain ⟨p1x, p1z, hcsq, g1⟩ := hA
      subst hcsq
      have q0 := hq 0 _ rfl
      have q1 := hq 1 _ rfl
      have q2 := hq 2 _ rfl
      have q3 := hq 3 _ rfl
      have q4 := hq 4 _ rfl
      have q5 := hq 5 _ rfl
      rw [Nat.add_zero] at q0
      have hsh := hm.2 ss[k] (List.getElem_mem hlt)
      have HA := hid (fun (w2 : World) (zs : List Value) (hB2 : Below wr.heap.size wr w2) (hz : zs.length = 6) (hn : DvO w2 wr.heap.size w2.heap.size zs ss[k]) => GsK.add (w2 := w2) (zs := zs) hK hg hB2 hlt hlt hz (fun _ _ _ _ _ _ _ M h ho => h.mid M ho) (fun _ _ _ _ h => h.below hB2) (fun _ _ _ _ _ _ h hb => h.mono hb (Nat.le_refl _)) hn)
      clear hq hr
      go_wp2_with fail
      refine (toDelivery_any _ ss[k] _ hsh hA0).mono ?_
      rintro e w2 ⟨zs, rfl, hO, hB2⟩
      have hOc := hO
      obtain ⟨o1x, o1z, hzs, o0⟩ := hO
      subst hzs
      have HK := hid (HA.out w2 _ hB2 rfl hOc)
      have hrow2 := ownsRow_below hK.row hB2
      have hB3 := below_one hB hB2
      have hlen : ys.length = ss.length * 6 := hrow2.1
      have s0 := hrow2.cellAt (k * 6) (by omega)
      have s1 := hrow2.cellAt (k * 6 + 1) (by omega)
      have s2 := hrow2.cellAt (k * 6 + 2) (by omega)
      have s3 := hrow2.cellAt (k * 6 + 3) (by omega)
      have s4 := hrow2.cellAt (k * 6 + 4) (by omega)
      have s5 := hrow2.cellAt (k * 6 + 5) (by omega)
      rw [List.getElem?_eq_getElem (by omega)] at s0 s1 s2 s3 s4 s5
      have t0 := hrow2.frozenAt (k * 6)
      have t1 := hrow2.frozenAt (k * 6 + 1)
      have t2 := hrow2.frozenAt (k * 6 + 2)
      have t3 := hrow2.frozenAt (k * 6 + 3)
      have t4 := hrow2.frozenAt (k * 6 + 4)
      have t5 := hrow2.frozenAt (k * 6 + 5)
      generalize ys[k * 6] = z0 at *
      generalize ys[k * 6 + 1] = z1 at *
      generalize ys[k * 6 + 2] = z2 at *
      generalize ys[k * 6 + 3] = z3 at *
      generalize ys[k * 6 + 4] = z4 at *
      generalize ys[k * 6 + 5] = z5 at *
      generalize ss[k] = s at *
      clear q0 q1 q2 q3 q4 q5 hB2 hK HA hA0 g1 o0 hOc
      go_wp2_with fail
      go_roundw
      case rel => exact ⟨k + 1, by omega, by go_num, _, _, _, HK.out.1, HK.out.2, ((((((hB3.setCell (p := ⟨w.heap.size, _, none⟩) (Nat.le_refl _) _).setCell (p := ⟨w.heap.size, _, none⟩) (Nat.le_refl _) _).setCell (p := ⟨w.heap.size, _, none⟩) (Nat.le_refl _) _).setCell (p := ⟨w.heap.size, _, none⟩) (Nat.le_refl _) _).setCell (p := ⟨w.heap.size, _, none⟩) (Nat.le_refl _) _).setCell (p := ⟨w.heap.size, _, none⟩) (Nat.le_refl _) _)⟩
      case measure => simp [intOf]; omega
    · obtain rfl : k = ss.length := by omega
      go_wp2
      go_ret
      exact ⟨_, rfl, ⟨ys, cs0, t, hK⟩, hB⟩

end Go.Proofs.Ytnbojbcljfiamaa

namespace Go.Proofs.Ytnbojbcljfiamaa
open Go.RowKit Go.Shelf

/-- 8 cells that are a block of their own. -/
def Eight (w : World) (t : TypeId) (k : Nat) (a b c d e f g p : Value) : Prop := w.ownsRow k t 8 (.slice (some ⟨k, 0, none⟩) 1 1) 1 [a, b, c, d, e, f, g, p]
theorem Eight.at (w : World) (a b c d e f g p : Value) (t : TypeId) {k : Nat} (hk : k = w.heap.size) : Eight (w.alloc (.cells #[a, b, c, d, e, f, g, p] t)) t k a b c d e f g p := by
  subst hk
  exact ⟨rfl, .inr ⟨w.heap.size, 1, #[a, b, c, d, e, f, g, p], rfl, Nat.le_refl _, by show (w.heap.push _)[w.heap.size]? = _; rw [Array.getElem?_push_size], Nat.le_refl _, by unfold maxLen; omega, rfl, rfl⟩⟩
theorem Eight.new (w : World) (a b c d e f g p : Value) (t : TypeId) : Eight (w.alloc (.cells #[a, b, c, d, e, f, g, p] t)) t w.heap.size a b c d e f g p := Eight.at w a b c d e f g p t rfl
theorem Eight.below {w' : World} {w : World} {t : TypeId} {k : Nat} {a b c d e f g p : Value} (h : Eight w t k a b c d e f g p) (hB : Below w.heap.size w w') : Eight w' t k a b c d e f g p := ownsRow_below h hB
theorem Eight.c {w : World} {t : TypeId} {k : Nat} {a b c d e f g p : Value} (h : Eight w t k a b c d e f g p) : w.cell? ⟨k, 0, none⟩ = some a ∧ w.cell? ⟨k, 1, none⟩ = some b ∧ w.cell? ⟨k, 2, none⟩ = some c ∧ w.cell? ⟨k, 3, none⟩ = some d ∧ w.cell? ⟨k, 4, none⟩ = some e ∧ w.cell? ⟨k, 5, none⟩ = some f ∧ w.cell? ⟨k, 6, none⟩ = some g ∧ w.cell? ⟨k, 7, none⟩ = some p :=
  ⟨World.ownsRow.cellAt h 0 (by omega), World.ownsRow.cellAt h 1 (by omega), World.ownsRow.cellAt h 2 (by omega), World.ownsRow.cellAt h 3 (by omega), World.ownsRow.cellAt h 4 (by omega), World.ownsRow.cellAt h 5 (by omega), World.ownsRow.cellAt h 6 (by omega), World.ownsRow.cellAt h 7 (by omega)⟩
theorem Eight.f {w : World} {t : TypeId} {k : Nat} {a b c d e f g p : Value} (h : Eight w t k a b c d e f g p) (j : Nat) : w.frozen? ⟨k, j, none⟩ = false := World.ownsRow.frozenAt h j
theorem Eight.s0 {w : World} {t : TypeId} {k : Nat} {a b c d e f g p : Value} (h : Eight w t k a b c d e f g p) (x : Value) : Eight (w.setCell ⟨k, 0, none⟩ x) t k x b c d e f g p := (World.ownsRow.stored h 0 x).1
theorem Eight.s1 {w : World} {t : TypeId} {k : Nat} {a b c d e f g p : Value} (h : Eight w t k a b c d e f g p) (x : Value) : Eight (w.setCell ⟨k, 1, none⟩ x) t k a x c d e f g p := (World.ownsRow.stored h 1 x).1
theorem Eight.s2 {w : World} {t : TypeId} {k : Nat} {a b c d e f g p : Value} (h : Eight w t k a b c d e f g p) (x : Value) : Eight (w.setCell ⟨k, 2, none⟩ x) t k a b x d e f g p := (World.ownsRow.stored h 2 x).1
theorem Eight.s3 {w : World} {t : TypeId} {k : Nat} {a b c d e f g p : Value} (h : Eight w t k a b c d e f g p) (x : Value) : Eight (w.setCell ⟨k, 3, none⟩ x) t k a b c x e f g p := (World.ownsRow.stored h 3 x).1
theorem Eight.s4 {w : World} {t : TypeId} {k : Nat} {a b c d e f g p : Value} (h : Eight w t k a b c d e f g p) (x : Value) : Eight (w.setCell ⟨k, 4, none⟩ x) t k a b c d x f g p := (World.ownsRow.stored h 4 x).1
theorem Eight.s5 {w : World} {t : TypeId} {k : Nat} {a b c d e f g p : Value} (h : Eight w t k a b c d e f g p) (x : Value) : Eight (w.setCell ⟨k, 5, none⟩ x) t k a b c d e x g p := (World.ownsRow.stored h 5 x).1
theorem Eight.s6 {w : World} {t : TypeId} {k : Nat} {a b c d e f g p : Value} (h : Eight w t k a b c d e f g p) (x : Value) : Eight (w.setCell ⟨k, 6, none⟩ x) t k a b c d e f x p := (World.ownsRow.stored h 6 x).1
theorem Eight.s7 {w : World} {t : TypeId} {k : Nat} {a b c d e f g p : Value} (h : Eight w t k a b c d e f g p) (x : Value) : Eight (w.setCell ⟨k, 7, none⟩ x) t k a b c d e f g x := (World.ownsRow.stored h 7 x).1
theorem Eight.other {w : World} {t : TypeId} {k : Nat} {a b c d e f g p : Value} (h : Eight w t k a b c d e f g p) {k' : Nat} (hk : k ≠ k') (j : Nat) (x : Value) : Eight (w.setCell ⟨k', j, none⟩ x) t k a b c d e f g p := ownsRow_setCell_other h (by simpa [Value.ownBlock] using hk) x
theorem Eight.lt {w : World} {t : TypeId} {k : Nat} {a b c d e f g p : Value} (h : Eight w t k a b c d e f g p) : k < w.heap.size := (World.ownsRow.lt h k rfl).2
theorem Mid.eight {lo hi : Nat} {w1 : World} {w : World} {t : TypeId} {k : Nat} {a b c d e f g p : Value} (h : Mid lo hi w w1) (hr : Eight w t k a b c d e f g p) (ho : k < lo ∨ hi ≤ k) : Eight w1 t k a b c d e f g p :=
  h.row hr (fun j hj => by simp [Value.ownBlock] at hj; omega)
theorem row_eight {w : World} {base : Nat} {e : TypeId} {size n : Nat} {v : Value} {xs : List Value} (h : w.ownsRow base e size v n xs) {k : Nat} (hk : k < base) (x0 x1 x2 x3 x4 x5 x6 x7 : Value) : ((((((((w.setCell ⟨k, 0, none⟩ x0).setCell ⟨k, 1, none⟩ x1).setCell ⟨k, 2, none⟩ x2).setCell ⟨k, 3, none⟩ x3).setCell ⟨k, 4, none⟩ x4).setCell ⟨k, 5, none⟩ x5).setCell ⟨k, 6, none⟩ x6).setCell ⟨k, 7, none⟩ x7).ownsRow base e size v n xs :=
  (ownsRow_setCell_below (ownsRow_setCell_below (ownsRow_setCell_below (ownsRow_setCell_below (ownsRow_setCell_below (ownsRow_setCell_below (ownsRow_setCell_below (ownsRow_setCell_below h (a := ⟨k, 0, none⟩) hk x0) (a := ⟨k, 1, none⟩) hk x1) (a := ⟨k, 2, none⟩) hk x2) (a := ⟨k, 3, none⟩) hk x3) (a := ⟨k, 4, none⟩) hk x4) (a := ⟨k, 5, none⟩) hk x5) (a := ⟨k, 6, none⟩) hk x6) (a := ⟨k, 7, none⟩) hk x7)
theorem below_eight {n k : Nat} {w W : World} (h : Below n w W) (hk : n ≤ k) (x0 x1 x2 x3 x4 x5 x6 x7 : Value) : Below n w ((((((((W.setCell ⟨k, 0, none⟩ x0).setCell ⟨k, 1, none⟩ x1).setCell ⟨k, 2, none⟩ x2).setCell ⟨k, 3, none⟩ x3).setCell ⟨k, 4, none⟩ x4).setCell ⟨k, 5, none⟩ x5).setCell ⟨k, 6, none⟩ x6).setCell ⟨k, 7, none⟩ x7) :=
  ((((((((h.setCell (p := ⟨k, 0, none⟩) hk x0).setCell (p := ⟨k, 1, none⟩) hk x1).setCell (p := ⟨k, 2, none⟩) hk x2).setCell (p := ⟨k, 3, none⟩) hk x3).setCell (p := ⟨k, 4, none⟩) hk x4).setCell (p := ⟨k, 5, none⟩) hk x5).setCell (p := ⟨k, 6, none⟩) hk x6).setCell (p := ⟨k, 7, none⟩) hk x7)

/-- 10 cells that are a block of their own. -/
def Ten (w : World) (t : TypeId) (k : Nat) (a b c d e f g p q r : Value) : Prop := w.ownsRow k t 10 (.slice (some ⟨k, 0, none⟩) 1 1) 1 [a, b, c, d, e, f, g, p, q, r]
theorem Ten.at (w : World) (a b c d e f g p q r : Value) (t : TypeId) {k : Nat} (hk : k = w.heap.size) : Ten (w.alloc (.cells #[a, b, c, d, e, f, g, p, q, r] t)) t k a b c d e f g p q r := by
  subst hk
  exact ⟨rfl, .inr ⟨w.heap.size, 1, #[a, b, c, d, e, f, g, p, q, r], rfl, Nat.le_refl _, by show (w.heap.push _)[w.heap.size]? = _; rw [Array.getElem?_push_size], Nat.le_refl _, by unfold maxLen; omega, rfl, rfl⟩⟩
theorem Ten.new (w : World) (a b c d e f g p q r : Value) (t : TypeId) : Ten (w.alloc (.cells #[a, b, c, d, e, f, g, p, q, r] t)) t w.heap.size a b c d e f g p q r := Ten.at w a b c d e f g p q r t rfl
theorem Ten.below {w' : World} {w : World} {t : TypeId} {k : Nat} {a b c d e f g p q r : Value} (h : Ten w t k a b c d e f g p q r) (hB : Below w.heap.size w w') : Ten w' t k a b c d e f g p q r := ownsRow_below h hB
theorem Ten.c {w : World} {t : TypeId} {k : Nat} {a b c d e f g p q r : Value} (h : Ten w t k a b c d e f g p q r) : w.cell? ⟨k, 0, none⟩ = some a ∧ w.cell? ⟨k, 1, none⟩ = some b ∧ w.cell? ⟨k, 2, none⟩ = some c ∧ w.cell? ⟨k, 3, none⟩ = some d ∧ w.cell? ⟨k, 4, none⟩ = some e ∧ w.cell? ⟨k, 5, none⟩ = some f ∧ w.cell? ⟨k, 6, none⟩ = some g ∧ w.cell? ⟨k, 7, none⟩ = some p ∧ w.cell? ⟨k, 8, none⟩ = some q ∧ w.cell? ⟨k, 9, none⟩ = some r :=
  ⟨World.ownsRow.cellAt h 0 (by omega), World.ownsRow.cellAt h 1 (by omega), World.ownsRow.cellAt h 2 (by omega), World.ownsRow.cellAt h 3 (by omega), World.ownsRow.cellAt h 4 (by omega), World.ownsRow.cellAt h 5 (by omega), World.ownsRow.cellAt h 6 (by omega), World.ownsRow.cellAt h 7 (by omega), World.ownsRow.cellAt h 8 (by omega), World.ownsRow.cellAt h 9 (by omega)⟩
theorem Ten.f {w : World} {t : TypeId} {k : Nat} {a b c d e f g p q r : Value} (h : Ten w t k a b c d e f g p q r) (j : Nat) : w.frozen? ⟨k, j, none⟩ = false := World.ownsRow.frozenAt h j
theorem Ten.s0 {w : World} {t : TypeId} {k : Nat} {a b c d e f g p q r : Value} (h : Ten w t k a b c d e f g p q r) (x : Value) : Ten (w.setCell ⟨k, 0, none⟩ x) t k x b c d e f g p q r := (World.ownsRow.stored h 0 x).1
theorem Ten.s1 {w : World} {t : TypeId} {k : Nat} {a b c d e f g p q r : Value} (h : Ten w t k a b c d e f g p q r) (x : Value) : Ten (w.setCell ⟨k, 1, none⟩ x) t k a x c d e f g p q r := (World.ownsRow.stored h 1 x).1
theorem Ten.s2 {w : World} {t : TypeId} {k : Nat} {a b c d e f g p q r : Value} (h : Ten w t k a b c d e f g p q r) (x : Value) : Ten (w.setCell ⟨k, 2, none⟩ x) t k a b x d e f g p q r := (World.ownsRow.stored h 2 x).1
theorem Ten.s3 {w : World} {t : TypeId} {k : Nat} {a b c d e f g p q r : Value} (h : Ten w t k a b c d e f g p q r) (x : Value) : Ten (w.setCell ⟨k, 3, none⟩ x) t k a b c x e f g p q r := (World.ownsRow.stored h 3 x).1
theorem Ten.s4 {w : World} {t : TypeId} {k : Nat} {a b c d e f g p q r : Value} (h : Ten w t k a b c d e f g p q r) (x : Value) : Ten (w.setCell ⟨k, 4, none⟩ x) t k a b c d x f g p q r := (World.ownsRow.stored h 4 x).1
theorem Ten.s5 {w : World} {t : TypeId} {k : Nat} {a b c d e f g p q r : Value} (h : Ten w t k a b c d e f g p q r) (x : Value) : Ten (w.setCell ⟨k, 5, none⟩ x) t k a b c d e x g p q r := (World.ownsRow.stored h 5 x).1
theorem Ten.s6 {w : World} {t : TypeId} {k : Nat} {a b c d e f g p q r : Value} (h : Ten w t k a b c d e f g p q r) (x : Value) : Ten (w.setCell ⟨k, 6, none⟩ x) t k a b c d e f x p q r := (World.ownsRow.stored h 6 x).1
theorem Ten.s7 {w : World} {t : TypeId} {k : Nat} {a b c d e f g p q r : Value} (h : Ten w t k a b c d e f g p q r) (x : Value) : Ten (w.setCell ⟨k, 7, none⟩ x) t k a b c d e f g x q r := (World.ownsRow.stored h 7 x).1
theorem Ten.s8 {w : World} {t : TypeId} {k : Nat} {a b c d e f g p q r : Value} (h : Ten w t k a b c d e f g p q r) (x : Value) : Ten (w.setCell ⟨k, 8, none⟩ x) t k a b c d e f g p x r := (World.ownsRow.stored h 8 x).1
theorem Ten.s9 {w : World} {t : TypeId} {k : Nat} {a b c d e f g p q r : Value} (h : Ten w t k a b c d e f g p q r) (x : Value) : Ten (w.setCell ⟨k, 9, none⟩ x) t k a b c d e f g p q x := (World.ownsRow.stored h 9 x).1
theorem Ten.other {w : World} {t : TypeId} {k : Nat} {a b c d e f g p q r : Value} (h : Ten w t k a b c d e f g p q r) {k' : Nat} (hk : k ≠ k') (j : Nat) (x : Value) : Ten (w.setCell ⟨k', j, none⟩ x) t k a b c d e f g p q r := ownsRow_setCell_other h (by simpa [Value.ownBlock] using hk) x
theorem Ten.lt {w : World} {t : TypeId} {k : Nat} {a b c d e f g p q r : Value} (h : Ten w t k a b c d e f g p q r) : k < w.heap.size := (World.ownsRow.lt h k rfl).2
theorem Mid.ten {lo hi : Nat} {w1 : World} {w : World} {t : TypeId} {k : Nat} {a b c d e f g p q r : Value} (h : Mid lo hi w w1) (hr : Ten w t k a b c d e f g p q r) (ho : k < lo ∨ hi ≤ k) : Ten w1 t k a b c d e f g p q r :=
  h.row hr (fun j hj => by simp [Value.ownBlock] at hj; omega)
theorem row_ten {w : World} {base : Nat} {e : TypeId} {size n : Nat} {v : Value} {xs : List Value} (h : w.ownsRow base e size v n xs) {k : Nat} (hk : k < base) (x0 x1 x2 x3 x4 x5 x6 x7 x8 x9 : Value) : ((((((((((w.setCell ⟨k, 0, none⟩ x0).setCell ⟨k, 1, none⟩ x1).setCell ⟨k, 2, none⟩ x2).setCell ⟨k, 3, none⟩ x3).setCell ⟨k, 4, none⟩ x4).setCell ⟨k, 5, none⟩ x5).setCell ⟨k, 6, none⟩ x6).setCell ⟨k, 7, none⟩ x7).setCell ⟨k, 8, none⟩ x8).setCell ⟨k, 9, none⟩ x9).ownsRow base e size v n xs :=
  (ownsRow_setCell_below (ownsRow_setCell_below (ownsRow_setCell_below (ownsRow_setCell_below (ownsRow_setCell_below (ownsRow_setCell_below (ownsRow_setCell_below (ownsRow_setCell_below (ownsRow_setCell_below (ownsRow_setCell_below h (a := ⟨k, 0, none⟩) hk x0) (a := ⟨k, 1, none⟩) hk x1) (a := ⟨k, 2, none⟩) hk x2) (a := ⟨k, 3, none⟩) hk x3) (a := ⟨k, 4, none⟩) hk x4) (a := ⟨k, 5, none⟩) hk x5) (a := ⟨k, 6, none⟩) hk x6) (a := ⟨k, 7, none⟩) hk x7) (a := ⟨k, 8, none⟩) hk x8) (a := ⟨k, 9, none⟩) hk x9)
theorem below_ten {n k : Nat} {w W : World} (h : Below n w W) (hk : n ≤ k) (x0 x1 x2 x3 x4 x5 x6 x7 x8 x9 : Value) : Below n w ((((((((((W.setCell ⟨k, 0, none⟩ x0).setCell ⟨k, 1, none⟩ x1).setCell ⟨k, 2, none⟩ x2).setCell ⟨k, 3, none⟩ x3).setCell ⟨k, 4, none⟩ x4).setCell ⟨k, 5, none⟩ x5).setCell ⟨k, 6, none⟩ x6).setCell ⟨k, 7, none⟩ x7).setCell ⟨k, 8, none⟩ x8).setCell ⟨k, 9, none⟩ x9) :=
  ((((((((((h.setCell (p := ⟨k, 0, none⟩) hk x0).setCell (p := ⟨k, 1, none⟩) hk x1).setCell (p := ⟨k, 2, none⟩) hk x2).setCell (p := ⟨k, 3, none⟩) hk x3).setCell (p := ⟨k, 4, none⟩) hk x4).setCell (p := ⟨k, 5, none⟩) hk x5).setCell (p := ⟨k, 6, none⟩) hk x6).setCell (p := ⟨k, 7, none⟩) hk x7).setCell (p := ⟨k, 8, none⟩) hk x8).setCell (p := ⟨k, 9, none⟩) hk x9)

end Go.Proofs.Ytnbojbcljfiamaa

namespace Go.Proofs.Ytnbojbcljfiamaa
open Go.RowKit Go.Shelf

/-- A sidecar. -/
structure Sc where
  name : ByteArray
  sd : Sd
  qu : List Ak
  lg : List Rc
instance : Inhabited Sc := ⟨⟨ByteArray.empty, Sd.none, [], []⟩⟩
/-- These cells read as this one. -/
def ScC (w : World) (cs : List Value) (c : Sc) : Prop := ∃ p1a p1b p1c p1d p1e p1f p1g p1h p1i p1j p2x p2z p3x p3z, cs = [.string c.name, .int .i64 c.sd.fo.num, .slice p1a c.sd.fo.pol.length p1b, .slice p1c c.sd.fo.rv.length p1d, .int .i64 c.sd.co, .slice p1e c.sd.ru.length p1f, .slice p1g c.sd.ha.length p1h, .slice p1i c.sd.se.length p1j, .slice p2x c.qu.length p2z, .slice p3x c.lg.length p3z] ∧ SdA w (.agg #[.int .i64 c.sd.fo.num, .slice p1a c.sd.fo.pol.length p1b, .slice p1c c.sd.fo.rv.length p1d, .int .i64 c.sd.co, .slice p1e c.sd.ru.length p1f, .slice p1g c.sd.ha.length p1h, .slice p1i c.sd.se.length p1j]) c.sd ∧ GsA 3 AkC w (.slice p2x c.qu.length p2z) c.qu ∧ RcS w (.slice p3x c.lg.length p3z) c.lg
/-- .. of one's own, in blocks from base on, below top. -/
def ScO (w : World) (base top : Nat) (cs : List Value) (c : Sc) : Prop := ∃ p1a p1b p1c p1d p1e p1f p1g p1h p1i p1j p2x p2z p3x p3z m1 m2, cs = [.string c.name, .int .i64 c.sd.fo.num, .slice p1a c.sd.fo.pol.length p1b, .slice p1c c.sd.fo.rv.length p1d, .int .i64 c.sd.co, .slice p1e c.sd.ru.length p1f, .slice p1g c.sd.ha.length p1h, .slice p1i c.sd.se.length p1j, .slice p2x c.qu.length p2z, .slice p3x c.lg.length p3z] ∧ base ≤ m1 ∧ m1 ≤ m2 ∧ m2 ≤ top ∧ SdO w base m1 (.agg #[.int .i64 c.sd.fo.num, .slice p1a c.sd.fo.pol.length p1b, .slice p1c c.sd.fo.rv.length p1d, .int .i64 c.sd.co, .slice p1e c.sd.ru.length p1f, .slice p1g c.sd.ha.length p1h, .slice p1i c.sd.se.length p1j]) c.sd ∧ GsO 65 3 AkO w m1 m2 (.slice p2x c.qu.length p2z) c.qu ∧ RoO 138 3 w m2 top (.slice p3x c.lg.length p3z) c.lg.length (c.lg.flatMap Rc.cells)
def Sc.fits (c : Sc) : Prop := c.name.size ≤ maxLen ∧ c.sd.fits ∧ (c.qu.length ≤ maxLen ∧ ∀ k ∈ c.qu, k.fits) ∧ (c.lg.length ≤ maxLen ∧ ∀ k ∈ c.lg, k.fits)
def Sc.size (c : Sc) : Nat := c.name.size + c.sd.size + gzAll Ak.size c.qu + rczAll c.lg
def Sc.short (c : Sc) : Prop := c.name.size ≤ 1048576 ∧ c.sd.short ∧ gShort Ak.short c.qu ∧ (c.lg.length ≤ 1048576 ∧ ∀ k ∈ c.lg, k.note.size ≤ 1048576)
theorem ScC.below {w w' : World} {cs : List Value} {c : Sc} (h : ScC w cs c) (hB : Below w.heap.size w w') : ScC w' cs c := by
  obtain ⟨p1a, p1b, p1c, p1d, p1e, p1f, p1g, p1h, p1i, p1j, p2x, p2z, p3x, p3z, rfl, h0, h1, h2⟩ := h
  exact ⟨_, _, _, _, _, _, _, _, _, _, _, _, _, _, rfl, h0.below hB, (GsA.below h1 (fun _ _ h => h.below hB) hB), h2.below hB⟩
theorem ScO.mid {lo hi : Nat} {w w1 : World} {base top : Nat} {cs : List Value} {c : Sc} (h : ScO w base top cs c) (M : Mid lo hi w w1) (ho : hi ≤ base ∨ top ≤ lo) : ScO w1 base top cs c := by
  obtain ⟨p1a, p1b, p1c, p1d, p1e, p1f, p1g, p1h, p1i, p1j, p2x, p2z, p3x, p3z, m1, m2, rfl, g0, g1, g2, h0, h1, h2⟩ := h
  exact ⟨_, _, _, _, _, _, _, _, _, _, _, _, _, _, m1, m2, rfl, g0, g1, g2, Mid.sdo M h0 (by omega), GsO.mid h1 (fun _ _ _ _ h ho => h.mid M ho) M (by omega), h2.mid M (by omega)⟩
theorem ScO.below {w w1 : World} {base top : Nat} {cs : List Value} {c : Sc} (h : ScO w base top cs c) (hB : Below w.heap.size w w1) : ScO w1 base top cs c := h.mid (Mid.of_below (lo := 0) (hi := 0) hB) (.inl (Nat.zero_le _))
theorem ScO.mono {w : World} {base base' top top' : Nat} {cs : List Value} {c : Sc} (h : ScO w base top cs c) (hb : base' ≤ base) (ht : top ≤ top') : ScO w base' top' cs c := by
  obtain ⟨p1a, p1b, p1c, p1d, p1e, p1f, p1g, p1h, p1i, p1j, p2x, p2z, p3x, p3z, m1, m2, rfl, g0, g1, g2, h0, h1, h2⟩ := h
  exact ⟨_, _, _, _, _, _, _, _, _, _, _, _, _, _, m1, m2, rfl, by omega, by omega, by omega, SdO.mono h0 hb (Nat.le_refl _), GsO.mono h1 (Nat.le_refl _) (Nat.le_refl _), h2.mono (Nat.le_refl _) ht⟩
theorem Sc.short_of {c : Sc} (h : c.size ≤ 1048576) : c.short := by
  unfold Sc.size gzAll rczAll at h
  exact ⟨by omega, Sd.short_of (by omega), ⟨by omega, fun a ha => Ak.short_of (by have := gz_mem (f := Ak.size) ha; omega)⟩, by omega, fun k hk => by have := rcz_mem hk; omega⟩
theorem ScO.a {w : World} {base top : Nat} {cs : List Value} {c : Sc} (h : ScO w base top cs c) : ScC w cs c := by
  obtain ⟨p1a, p1b, p1c, p1d, p1e, p1f, p1g, p1h, p1i, p1j, p2x, p2z, p3x, p3z, m1, m2, rfl, g0, g1, g2, h0, h1, h2⟩ := h
  exact ⟨_, _, _, _, _, _, _, _, _, _, _, _, _, _, rfl, h0.a, GsO.a (fun _ _ _ _ h => h.a) h1, RcS.own h2.1⟩

set_option maxRecDepth 100000 in
theorem cellsSidecar : Try.prog.cellsOf 112 = 10 := by kernel_rfl
set_option maxRecDepth 100000 in
open Go.Deep Go.ChangeShapes Go.WideShapes Go.ChangeAt Go.Joins in
/-- The cells of a side that comes in. -/
theorem openSdC {H : Type} {enc : TypeId × Value → H} {W : World} {c0 c1 c2 c3 c4 c5 c6 : Value} {y : DataW H × List MemPlace} {fuel : Nat} (hf : DataW.trod enc Try.prog W 0 (fun _ => true) true fuel 108 [c0, c1, c2, c3, c4, c5, c6] = some y) :
    ∃ s : Sd, SdA W (.agg #[c0, c1, c2, c3, c4, c5, c6]) s ∧ s.fits := by
  obtain ⟨xs, n, _, _, _, hlen, hfs⟩ := DataW.trod_struct Try.underlying108 hf
  obtain ⟨y0, y1, y2, y3, y4, rfl⟩ : ∃ y0 y1 y2 y3 y4, xs = [y0, y1, y2, y3, y4] := by
    match xs, hlen with
    | [y0, y1, y2, y3, y4], _ => exact ⟨y0, y1, y2, y3, y4, rfl⟩
  have ci : Try.prog.cellsOf 3 = 1 := by kernel_rfl
  have cr : Try.prog.cellsOf 103 = 1 := by kernel_rfl
  have cb : Try.prog.cellsOf 87 = 1 := by kernel_rfl
  have cn : Try.prog.cellsOf 23 = 1 := by kernel_rfl
  have h0 : DataW.trod enc Try.prog W 0 (fun _ => true) true n 105 [c0, c1, c2] = some y0 := by have := hfs 0 _ rfl; simpa [Value.cells, cellsSnapshot] using this
  have h1 : DataW.trod enc Try.prog W 0 (fun _ => true) true n 3 [c3] = some y1 := by have := hfs 1 _ rfl; simpa [Value.cells, ci] using this
  have h2 : DataW.trod enc Try.prog W 0 (fun _ => true) true n 103 [c4] = some y2 := by have := hfs 2 _ rfl; simpa [Value.cells, cr] using this
  have h3 : DataW.trod enc Try.prog W 0 (fun _ => true) true n 87 [c5] = some y3 := by have := hfs 3 _ rfl; simpa [Value.cells, cb] using this
  have h4 : DataW.trod enc Try.prog W 0 (fun _ => true) true n 23 [c6] = some y4 := by have := hfs 4 _ rfl; simpa [Value.cells, cn] using this
  obtain ⟨zs, n', _, _, _, hlen', hgs⟩ := DataW.trod_struct Try.underlying105 h0
  obtain ⟨z0, z1, z2, rfl⟩ : ∃ z0 z1 z2, zs = [z0, z1, z2] := by
    match zs, hlen' with
    | [z0, z1, z2], _ => exact ⟨z0, z1, z2, rfl⟩
  have g0 : DataW.trod enc Try.prog W 0 (fun _ => true) true n' 3 [c0] = some z0 := by have := hgs 0 _ rfl; simpa [Value.cells, ci] using this
  have g1 : DataW.trod enc Try.prog W 0 (fun _ => true) true n' 103 [c1] = some z1 := by have := hgs 1 _ rfl; simpa [Value.cells, cr] using this
  have g2 : DataW.trod enc Try.prog W 0 (fun _ => true) true n' 23 [c2] = some z2 := by have := hgs 2 _ rfl; simpa [Value.cells, cn] using this
  obtain ⟨x0, e0, _, _⟩ := DataW.trod_int Try.underlying3 g0
  obtain ⟨a1, n1, k1, rs, rfl, r1, rfl, l1, f1⟩ := openRuR g1
  obtain ⟨a2, n2, k2, rv, rfl, r2, rfl, l2⟩ := openInR g2
  obtain ⟨x3, e3, _, _⟩ := DataW.trod_int Try.underlying3 h1
  obtain ⟨a4, n4, k4, ru, rfl, r4, rfl, l4, f4⟩ := openRuR h2
  obtain ⟨a5, n5, k5, ha, rfl, r5, rfl, l5⟩ := openBoR h3
  obtain ⟨a6, n6, k6, se, rfl, r6, rfl, l6⟩ := openInR h4
  simp only [List.cons.injEq, and_true] at e0 e3
  subst e0 e3
  exact ⟨⟨⟨x0, rs, rv⟩, x3, ru, ha, se⟩, ⟨_, _, _, _, _, rfl, r1, r2, r4, r5, r6⟩, ⟨l1, f1, l2⟩, l4, f4, l5, l6⟩
set_option maxRecDepth 100000 in
open Go.Deep Go.ChangeShapes Go.WideShapes Go.ChangeAt Go.Joins in
theorem openScC {H : Type} {enc : TypeId × Value → H} {W : World} {l : List Value} {y : DataW H × List MemPlace} {fuel : Nat} (hsz : l.length = 10) (hf : DataW.trod enc Try.prog W 0 (fun _ => true) true fuel 112 l = some y) :
    ∃ c : Sc, ScC W l c ∧ c.fits := by
  obtain ⟨c0, c1, c2, c3, c4, c5, c6, c7, c8, c9, rfl⟩ : ∃ c0 c1 c2 c3 c4 c5 c6 c7 c8 c9, l = [c0, c1, c2, c3, c4, c5, c6, c7, c8, c9] := by
    match l, hsz with
    | [c0, c1, c2, c3, c4, c5, c6, c7, c8, c9], _ => exact ⟨c0, c1, c2, c3, c4, c5, c6, c7, c8, c9, rfl⟩
  obtain ⟨xs, n, _, _, _, hlen, hfs⟩ := DataW.trod_struct Try.underlying112 hf
  obtain ⟨y0, y1, y2, y3, rfl⟩ : ∃ y0 y1 y2 y3, xs = [y0, y1, y2, y3] := by
    match xs, hlen with
    | [y0, y1, y2, y3], _ => exact ⟨y0, y1, y2, y3, rfl⟩
  have cs : Try.prog.cellsOf 9 = 1 := by kernel_rfl
  have ca : Try.prog.cellsOf 109 = 1 := by kernel_rfl
  have cr : Try.prog.cellsOf 110 = 1 := by kernel_rfl
  have h0 : DataW.trod enc Try.prog W 0 (fun _ => true) true n 9 [c0] = some y0 := by have := hfs 0 _ rfl; simpa [Value.cells, cs] using this
  have h1 : DataW.trod enc Try.prog W 0 (fun _ => true) true n 108 [c1, c2, c3, c4, c5, c6, c7] = some y1 := by have := hfs 1 _ rfl; simpa [Value.cells, cs, cellsSide] using this
  have h2 : DataW.trod enc Try.prog W 0 (fun _ => true) true n 109 [c8] = some y2 := by have := hfs 2 _ rfl; simpa [Value.cells, cs, cellsSide, ca] using this
  have h3 : DataW.trod enc Try.prog W 0 (fun _ => true) true n 110 [c9] = some y3 := by have := hfs 3 _ rfl; simpa [Value.cells, cs, cellsSide, ca, cr] using this
  obtain ⟨x0, f0, _, w0⟩ := DataW.trod_string Try.underlying9 h0
  obtain ⟨sd, hA, w1⟩ := openSdC h1
  obtain ⟨a2, n2, k2, qs, rfl, r2, rfl, l2, f2⟩ := openGs (A := AkC) (fits := Ak.fits) Try.underlying109 cellsAsk (by omega) (fun l y m hl h => openAkC hl h) h2
  obtain ⟨a3, n3, k3, rs, rfl, r3, rfl, l3, f3⟩ := openRcR h3
  simp at f0
  subst f0
  obtain ⟨ua, ub, uc, ud, ue, uf, ug, uh, ui, uj, he⟩ := sd_forms hA
  cases he
  exact ⟨⟨x0, sd, qs, rs⟩, ⟨_, _, _, _, _, _, _, _, _, _, _, _, _, _, rfl, hA, r2, r3⟩, w0, w1, ⟨l2, f2⟩, l3, f3⟩

set_option maxHeartbeats 4000000 in
set_option maxRecDepth 100000 in
theorem szSidecar_any (cs : List Value) (c : Sc) (n : Int) (w : World) (h0 : 0 ≤ n) (hn : n ≤ 1048576) (hf : c.fits) (h : ScC w cs c) :
    Calls Try.prog 67 #[.agg cs.toArray, .int .i64 n] w fun e w' => e = .returned (.int .i64 (leftK n c.size)) ∧ Below w.heap.size w w' := by
  obtain ⟨p1a, p1b, p1c, p1d, p1e, p1f, p1g, p1h, p1i, p1j, p2x, p2z, p3x, p3z, rfl, h2, h3, h4⟩ := h
  obtain ⟨f0, f1, f2, f3⟩ := hf
  have hB0 : Below w.heap.size w (w.alloc (.cells #[.string c.name, .int .i64 c.sd.fo.num, .slice p1a c.sd.fo.pol.length p1b, .slice p1c c.sd.fo.rv.length p1d, .int .i64 c.sd.co, .slice p1e c.sd.ru.length p1f, .slice p1g c.sd.ha.length p1h, .slice p1i c.sd.se.length p1j, .slice p2x c.qu.length p2z, .slice p3x c.lg.length p3z] 112)) := (Below.refl _ w).alloc (Nat.le_refl _) _
  have F1 := Ten.new w (.string c.name) (.int .i64 c.sd.fo.num) (.slice p1a c.sd.fo.pol.length p1b) (.slice p1c c.sd.fo.rv.length p1d) (.int .i64 c.sd.co) (.slice p1e c.sd.ru.length p1f) (.slice p1g c.sd.ha.length p1h) (.slice p1i c.sd.se.length p1j) (.slice p2x c.qu.length p2z) (.slice p3x c.lg.length p3z) 112
  have HI := hid (show leftK n c.size = if (c.size : Int) ≤ n then n - (c.size : Int) else (-1 : Int) from rfl)
  have HZ := hid (show c.size = c.name.size + c.sd.size + gzAll Ak.size c.qu + rczAll c.lg from rfl)
  obtain ⟨N0, HN0⟩ : ∃ N : Nat, Hid (N = c.name.size) := ⟨_, hid rfl⟩
  obtain ⟨N1, HN1⟩ : ∃ N : Nat, Hid (N = c.sd.size) := ⟨_, hid rfl⟩
  obtain ⟨N2, HN2⟩ : ∃ N : Nat, Hid (N = gzAll Ak.size c.qu) := ⟨_, hid rfl⟩
  obtain ⟨N3, HN3⟩ : ∃ N : Nat, Hid (N = rczAll c.lg) := ⟨_, hid rfl⟩
  have HN0' := HN0.out
  have e0 : c.name.size = N0 := HN0'.symm
  have u0 : N0 ≤ 9223372036854775807 := by unfold maxLen at f0; omega
  clear HN0'
  go_enter Try.func67, Try.ntmps67
  by_cases c0 : (N0 : Int) ≤ n
  · have d0 : decide (n - (N0 : Int) < 0) = false := by simp; omega
    go_wp2_with fail
    generalize w.alloc (.cells #[.string c.name, .int .i64 c.sd.fo.num, .slice p1a c.sd.fo.pol.length p1b, .slice p1c c.sd.fo.rv.length p1d, .int .i64 c.sd.co, .slice p1e c.sd.ru.length p1f, .slice p1g c.sd.ha.length p1h, .slice p1i c.sd.se.length p1j, .slice p2x c.qu.length p2z, .slice p3x c.lg.length p3z] 112) = W0 at *
    refine (szSide_any _ c.sd (n - (N0 : Int)) _ (by omega) (by omega) f1 (h2.below hB0)).mono ?_
    rintro e w2 ⟨rfl, hB2⟩
    replace F1 := F1.below hB2
    replace hB0 := below_one hB0 hB2
    clear hB2
    obtain ⟨a0, a1, a2, a3, a4, a5, a6, a7, a8, a9⟩ := F1.c
    by_cases c1 : (N1 : Int) ≤ n - (N0 : Int)
    · rw [show leftSd (n - (N0 : Int)) c.sd = n - (N0 : Int) - (N1 : Int) from (show leftK (n - (N0 : Int)) _ = _ by unfold leftK; rw [← HN1.out]; exact if_pos c1)]
      have d1 : decide (n - (N0 : Int) - (N1 : Int) < 0) = false := by simp; omega
      go_wp2_with fail
      refine (szAskS_any _ c.qu (n - (N0 : Int) - (N1 : Int)) _ (by omega) (by omega) f2.1 f2.2 (GsA.below h3 (fun _ _ h => h.below hB0) hB0)).mono ?_
      rintro e w3 ⟨rfl, hB3⟩
      replace F1 := F1.below hB3
      replace hB0 := below_one hB0 hB3
      clear hB3
      clear a0 a1 a2 a3 a4 a5 a6 a7 a8 a9
      obtain ⟨a0, a1, a2, a3, a4, a5, a6, a7, a8, a9⟩ := F1.c
      by_cases c2 : (N2 : Int) ≤ n - (N0 : Int) - (N1 : Int)
      · rw [show leftK (n - (N0 : Int) - (N1 : Int)) (gzAll Ak.size c.qu) = n - (N0 : Int) - (N1 : Int) - (N2 : Int) from (show leftK (n - (N0 : Int) - (N1 : Int)) _ = _ by unfold leftK; rw [← HN2.out]; exact if_pos c2)]
        have d2 : decide (n - (N0 : Int) - (N1 : Int) - (N2 : Int) < 0) = false := by simp; omega
        go_wp2_with fail
        refine (szRecordS_any _ c.lg (n - (N0 : Int) - (N1 : Int) - (N2 : Int)) _ (by omega) (by omega) f3.1 f3.2 (h4.below hB0)).mono ?_
        rintro e w4 ⟨rfl, hB4⟩
        replace F1 := F1.below hB4
        replace hB0 := below_one hB0 hB4
        clear hB4
        clear a0 a1 a2 a3 a4 a5 a6 a7 a8 a9
        obtain ⟨a0, a1, a2, a3, a4, a5, a6, a7, a8, a9⟩ := F1.c
        by_cases c3 : (N3 : Int) ≤ n - (N0 : Int) - (N1 : Int) - (N2 : Int)
        · rw [show leftRc (n - (N0 : Int) - (N1 : Int) - (N2 : Int)) c.lg = n - (N0 : Int) - (N1 : Int) - (N2 : Int) - (N3 : Int) from (show leftK (n - (N0 : Int) - (N1 : Int) - (N2 : Int)) _ = _ by unfold leftK; rw [← HN3.out]; exact if_pos c3)]
          have d3 : decide (n - (N0 : Int) - (N1 : Int) - (N2 : Int) - (N3 : Int) < 0) = false := by simp; omega
          have HR := hid (show leftK n c.size = n - (N0 : Int) - (N1 : Int) - (N2 : Int) - (N3 : Int) by rw [HI.out, if_pos (by rw [HZ.out, ← HN0.out, ← HN1.out, ← HN2.out, ← HN3.out]; push_cast; omega)]; rw [HZ.out, ← HN0.out, ← HN1.out, ← HN2.out, ← HN3.out]; push_cast; omega)
          go_wp2_with fail
          go_ret
          exact ⟨ret_int HR.out.symm, hB0⟩
        · rw [show leftRc (n - (N0 : Int) - (N1 : Int) - (N2 : Int)) c.lg = -1 from (show leftK (n - (N0 : Int) - (N1 : Int) - (N2 : Int)) _ = _ by unfold leftK; rw [← HN3.out]; exact if_neg c3)]
          have HR := hid (show leftK n c.size = -1 by rw [HI.out, if_neg (by rw [HZ.out, ← HN0.out, ← HN1.out, ← HN2.out, ← HN3.out]; push_cast; omega)])
          go_wp2_with fail
          go_ret
          exact ⟨ret_int HR.out.symm, hB0⟩
      · rw [show leftK (n - (N0 : Int) - (N1 : Int)) (gzAll Ak.size c.qu) = -1 from (show leftK (n - (N0 : Int) - (N1 : Int)) _ = _ by unfold leftK; rw [← HN2.out]; exact if_neg c2)]
        have HR := hid (show leftK n c.size = -1 by rw [HI.out, if_neg (by rw [HZ.out, ← HN0.out, ← HN1.out, ← HN2.out, ← HN3.out]; push_cast; omega)])
        go_wp2_with fail
        go_ret
        exact ⟨ret_int HR.out.symm, hB0⟩
    · rw [show leftSd (n - (N0 : Int)) c.sd = -1 from (show leftK (n - (N0 : Int)) _ = _ by unfold leftK; rw [← HN1.out]; exact if_neg c1)]
      have HR := hid (show leftK n c.size = -1 by rw [HI.out, if_neg (by rw [HZ.out, ← HN0.out, ← HN1.out, ← HN2.out, ← HN3.out]; push_cast; omega)])
      go_wp2_with fail
      go_ret
      exact ⟨ret_int HR.out.symm, hB0⟩
  · have d0 : decide (n - (N0 : Int) < 0) = true := by simp; omega
    have HR := hid (show leftK n c.size = -1 by rw [HI.out, if_neg (by rw [HZ.out, ← HN0.out, ← HN1.out, ← HN2.out, ← HN3.out]; push_cast; omega)])
    go_wp2_with fail
    go_ret
    exact ⟨ret_int HR.out.symm, hB0⟩

set_option maxHeartbeats 4000000 in
set_option maxRecDepth 100000 in
theorem eqSidecar_same (cs cs' : List Value) (c : Sc) (w : World) (hs : c.short) (h : ScC w cs c) (h' : ScC w cs' c) :
    Calls Try.prog 48 #[.agg cs.toArray, .agg cs'.toArray] w fun e w' => e = .returned (.bool true) ∧ Below w.heap.size w w' := by
  obtain ⟨p1a, p1b, p1c, p1d, p1e, p1f, p1g, p1h, p1i, p1j, p2x, p2z, p3x, p3z, rfl, h1, h2, h3⟩ := h
  obtain ⟨q1a, q1b, q1c, q1d, q1e, q1f, q1g, q1h, q1i, q1j, q2x, q2z, q3x, q3z, rfl, h1', h2', h3'⟩ := h'
  obtain ⟨s0, s1, s2, s3⟩ := hs
  have hB0 : Below w.heap.size w ((w.alloc (.cells #[.string c.name, .int .i64 c.sd.fo.num, .slice p1a c.sd.fo.pol.length p1b, .slice p1c c.sd.fo.rv.length p1d, .int .i64 c.sd.co, .slice p1e c.sd.ru.length p1f, .slice p1g c.sd.ha.length p1h, .slice p1i c.sd.se.length p1j, .slice p2x c.qu.length p2z, .slice p3x c.lg.length p3z] 93)).alloc (.cells #[.string c.name, .int .i64 c.sd.fo.num, .slice q1a c.sd.fo.pol.length q1b, .slice q1c c.sd.fo.rv.length q1d, .int .i64 c.sd.co, .slice q1e c.sd.ru.length q1f, .slice q1g c.sd.ha.length q1h, .slice q1i c.sd.se.length q1j, .slice q2x c.qu.length q2z, .slice q3x c.lg.length q3z] 93)) := ((Below.refl _ w).alloc (Nat.le_refl _) _).alloc (by simp) _
  have F1 := (Ten.new w (.string c.name) (.int .i64 c.sd.fo.num) (.slice p1a c.sd.fo.pol.length p1b) (.slice p1c c.sd.fo.rv.length p1d) (.int .i64 c.sd.co) (.slice p1e c.sd.ru.length p1f) (.slice p1g c.sd.ha.length p1h) (.slice p1i c.sd.se.length p1j) (.slice p2x c.qu.length p2z) (.slice p3x c.lg.length p3z) 93).below ((Below.refl _ _).alloc (Nat.le_refl _) (.cells #[.string c.name, .int .i64 c.sd.fo.num, .slice q1a c.sd.fo.pol.length q1b, .slice q1c c.sd.fo.rv.length q1d, .int .i64 c.sd.co, .slice q1e c.sd.ru.length q1f, .slice q1g c.sd.ha.length q1h, .slice q1i c.sd.se.length q1j, .slice q2x c.qu.length q2z, .slice q3x c.lg.length q3z] 93))
  have F2 := Ten.at (w.alloc (.cells #[.string c.name, .int .i64 c.sd.fo.num, .slice p1a c.sd.fo.pol.length p1b, .slice p1c c.sd.fo.rv.length p1d, .int .i64 c.sd.co, .slice p1e c.sd.ru.length p1f, .slice p1g c.sd.ha.length p1h, .slice p1i c.sd.se.length p1j, .slice p2x c.qu.length p2z, .slice p3x c.lg.length p3z] 93)) (.string c.name) (.int .i64 c.sd.fo.num) (.slice q1a c.sd.fo.pol.length q1b) (.slice q1c c.sd.fo.rv.length q1d) (.int .i64 c.sd.co) (.slice q1e c.sd.ru.length q1f) (.slice q1g c.sd.ha.length q1h) (.slice q1i c.sd.se.length q1j) (.slice q2x c.qu.length q2z) (.slice q3x c.lg.length q3z) 93 (k := w.heap.size + 1) (by simp)
  have e0 : (c.name.toList == c.name.toList) = true := by simp
  go_enter Try.func48, Try.ntmps48
  go_wp2_with fail
  generalize (w.alloc (.cells #[.string c.name, .int .i64 c.sd.fo.num, .slice p1a c.sd.fo.pol.length p1b, .slice p1c c.sd.fo.rv.length p1d, .int .i64 c.sd.co, .slice p1e c.sd.ru.length p1f, .slice p1g c.sd.ha.length p1h, .slice p1i c.sd.se.length p1j, .slice p2x c.qu.length p2z, .slice p3x c.lg.length p3z] 93)).alloc (.cells #[.string c.name, .int .i64 c.sd.fo.num, .slice q1a c.sd.fo.pol.length q1b, .slice q1c c.sd.fo.rv.length q1d, .int .i64 c.sd.co, .slice q1e c.sd.ru.length q1f, .slice q1g c.sd.ha.length q1h, .slice q1i c.sd.se.length q1j, .slice q2x c.qu.length q2z, .slice q3x c.lg.length q3z] 93) = W0 at *
  refine (eqSide_same _ _ c.sd _ s1 (h1.below hB0) (h1'.below hB0)).mono ?_
  rintro e w2 ⟨rfl, hB2⟩
  replace F1 := F1.below hB2
  replace F2 := F2.below hB2
  replace hB0 := below_one hB0 hB2
  clear hB2
  obtain ⟨a0, a1, a2, a3, a4, a5, a6, a7, a8, a9⟩ := F1.c
  obtain ⟨c0, c1, c2, c3, c4, c5, c6, c7, c8, c9⟩ := F2.c
  go_wp2_with fail
  refine (eqAskS_same _ _ c.qu _ s2 (GsA.below h2 (fun _ _ h => h.below hB0) hB0) (GsA.below h2' (fun _ _ h => h.below hB0) hB0)).mono ?_
  rintro e w3 ⟨rfl, hB3⟩
  clear a0 a1 a2 a3 a4 a5 a6 a7 a8 a9 c0 c1 c2 c3 c4 c5 c6 c7 c8 c9
  replace F1 := F1.below hB3
  replace F2 := F2.below hB3
  replace hB0 := below_one hB0 hB3
  clear hB3
  obtain ⟨a0, a1, a2, a3, a4, a5, a6, a7, a8, a9⟩ := F1.c
  obtain ⟨c0, c1, c2, c3, c4, c5, c6, c7, c8, c9⟩ := F2.c
  go_wp2_with fail
  refine (eqRecordS_same _ _ c.lg _ (Nat.le_succ_of_le s3.1) (h3.below hB0) (h3'.below hB0)).mono ?_
  rintro e w4 ⟨rfl, hB4⟩
  clear a0 a1 a2 a3 a4 a5 a6 a7 a8 a9 c0 c1 c2 c3 c4 c5 c6 c7 c8 c9
  replace F1 := F1.below hB4
  replace F2 := F2.below hB4
  replace hB0 := below_one hB0 hB4
  clear hB4
  obtain ⟨a0, a1, a2, a3, a4, a5, a6, a7, a8, a9⟩ := F1.c
  obtain ⟨c0, c1, c2, c3, c4, c5, c6, c7, c8, c9⟩ := F2.c
  go_wp2_with fail
  go_ret
  exact ⟨rfl, hB0⟩

set_option maxHeartbeats 16000000 in
set_option maxRecDepth 100000 in
theorem toSidecar_any (cs : List Value) (c : Sc) (w : World) (hs : c.short) (h : ScC w cs c) :
    Calls Try.prog 73 #[.agg cs.toArray] w fun e w' => ∃ cs', e = .returned (.agg cs'.toArray) ∧ ScO w' w.heap.size w'.heap.size cs' c ∧ Below w.heap.size w w' := by
  obtain ⟨p1a, p1b, p1c, p1d, p1e, p1f, p1g, p1h, p1i, p1j, p2x, p2z, p3x, p3z, rfl, h1, h2, h3⟩ := h
  obtain ⟨s0, s1, s2, s3⟩ := hs
  have hB0 : Below w.heap.size w (((w.alloc (.cells #[.string c.name, .int .i64 c.sd.fo.num, .slice p1a c.sd.fo.pol.length p1b, .slice p1c c.sd.fo.rv.length p1d, .int .i64 c.sd.co, .slice p1e c.sd.ru.length p1f, .slice p1g c.sd.ha.length p1h, .slice p1i c.sd.se.length p1j, .slice p2x c.qu.length p2z, .slice p3x c.lg.length p3z] 112)).alloc (.cells #[.string ⟨#[]⟩, .int .i64 0, .slice none 0 0, .slice none 0 0, .int .i64 0, .slice none 0 0, .slice none 0 0, .slice none 0 0, .slice none 0 0, .slice none 0 0] 93)).alloc (.cells #[.string c.name, .int .i64 0, .slice none 0 0, .slice none 0 0, .int .i64 0, .slice none 0 0, .slice none 0 0, .slice none 0 0, .slice none 0 0, .slice none 0 0] 93)) := (((Below.refl _ w).alloc (Nat.le_refl _) _).alloc (by simp) _).alloc (by simp; omega) _
  have F1 := ((Ten.new w (.string c.name) (.int .i64 c.sd.fo.num) (.slice p1a c.sd.fo.pol.length p1b) (.slice p1c c.sd.fo.rv.length p1d) (.int .i64 c.sd.co) (.slice p1e c.sd.ru.length p1f) (.slice p1g c.sd.ha.length p1h) (.slice p1i c.sd.se.length p1j) (.slice p2x c.qu.length p2z) (.slice p3x c.lg.length p3z) 112).below ((Below.refl _ _).alloc (Nat.le_refl _) (.cells #[.string ⟨#[]⟩, .int .i64 0, .slice none 0 0, .slice none 0 0, .int .i64 0, .slice none 0 0, .slice none 0 0, .slice none 0 0, .slice none 0 0, .slice none 0 0] 93))).below ((Below.refl _ _).alloc (Nat.le_refl _) (.cells #[.string c.name, .int .i64 0, .slice none 0 0, .slice none 0 0, .int .i64 0, .slice none 0 0, .slice none 0 0, .slice none 0 0, .slice none 0 0, .slice none 0 0] 93))
  have F2 := (Ten.at (w.alloc (.cells #[.string c.name, .int .i64 c.sd.fo.num, .slice p1a c.sd.fo.pol.length p1b, .slice p1c c.sd.fo.rv.length p1d, .int .i64 c.sd.co, .slice p1e c.sd.ru.length p1f, .slice p1g c.sd.ha.length p1h, .slice p1i c.sd.se.length p1j, .slice p2x c.qu.length p2z, .slice p3x c.lg.length p3z] 112)) (.string ⟨#[]⟩) (.int .i64 0) (.slice none 0 0) (.slice none 0 0) (.int .i64 0) (.slice none 0 0) (.slice none 0 0) (.slice none 0 0) (.slice none 0 0) (.slice none 0 0) 93 (k := w.heap.size + 1) (by simp)).below ((Below.refl _ _).alloc (Nat.le_refl _) (.cells #[.string c.name, .int .i64 0, .slice none 0 0, .slice none 0 0, .int .i64 0, .slice none 0 0, .slice none 0 0, .slice none 0 0, .slice none 0 0, .slice none 0 0] 93))
  have F3 := Ten.at ((w.alloc (.cells #[.string c.name, .int .i64 c.sd.fo.num, .slice p1a c.sd.fo.pol.length p1b, .slice p1c c.sd.fo.rv.length p1d, .int .i64 c.sd.co, .slice p1e c.sd.ru.length p1f, .slice p1g c.sd.ha.length p1h, .slice p1i c.sd.se.length p1j, .slice p2x c.qu.length p2z, .slice p3x c.lg.length p3z] 112)).alloc (.cells #[.string ⟨#[]⟩, .int .i64 0, .slice none 0 0, .slice none 0 0, .int .i64 0, .slice none 0 0, .slice none 0 0, .slice none 0 0, .slice none 0 0, .slice none 0 0] 93)) (.string c.name) (.int .i64 0) (.slice none 0 0) (.slice none 0 0) (.int .i64 0) (.slice none 0 0) (.slice none 0 0) (.slice none 0 0) (.slice none 0 0) (.slice none 0 0) 93 (k := w.heap.size + 1 + 1) (by simp)
  have hK : w.heap.size + 1 + 1 < (((w.alloc (.cells #[.string c.name, .int .i64 c.sd.fo.num, .slice p1a c.sd.fo.pol.length p1b, .slice p1c c.sd.fo.rv.length p1d, .int .i64 c.sd.co, .slice p1e c.sd.ru.length p1f, .slice p1g c.sd.ha.length p1h, .slice p1i c.sd.se.length p1j, .slice p2x c.qu.length p2z, .slice p3x c.lg.length p3z] 112)).alloc (.cells #[.string ⟨#[]⟩, .int .i64 0, .slice none 0 0, .slice none 0 0, .int .i64 0, .slice none 0 0, .slice none 0 0, .slice none 0 0, .slice none 0 0, .slice none 0 0] 93)).alloc (.cells #[.string c.name, .int .i64 0, .slice none 0 0, .slice none 0 0, .int .i64 0, .slice none 0 0, .slice none 0 0, .slice none 0 0, .slice none 0 0, .slice none 0 0] 93)).heap.size := F3.lt
  go_enter Try.func73, Try.ntmps73
  go_wp2_with fail
  generalize ((w.alloc (.cells #[.string c.name, .int .i64 c.sd.fo.num, .slice p1a c.sd.fo.pol.length p1b, .slice p1c c.sd.fo.rv.length p1d, .int .i64 c.sd.co, .slice p1e c.sd.ru.length p1f, .slice p1g c.sd.ha.length p1h, .slice p1i c.sd.se.length p1j, .slice p2x c.qu.length p2z, .slice p3x c.lg.length p3z] 112)).alloc (.cells #[.string ⟨#[]⟩, .int .i64 0, .slice none 0 0, .slice none 0 0, .int .i64 0, .slice none 0 0, .slice none 0 0, .slice none 0 0, .slice none 0 0, .slice none 0 0] 93)).alloc (.cells #[.string c.name, .int .i64 0, .slice none 0 0, .slice none 0 0, .int .i64 0, .slice none 0 0, .slice none 0 0, .slice none 0 0, .slice none 0 0, .slice none 0 0] 93) = W0 at *
  refine (toSide_any _ c.sd _ s1 (h1.below hB0)).mono ?_
  rintro e w1 ⟨v1, rfl, o1, hB1⟩
  obtain ⟨r1a, r1b, r1c, r1d, r1e, r1f, r1g, r1h, r1i, r1j, rfl⟩ := sd_forms o1.a
  replace F1 := F1.below hB1
  replace F2 := F2.below hB1
  replace F3 := F3.below hB1
  replace hB0 := below_one hB0 hB1
  have hs1 := hB1.size
  clear hB1
  obtain ⟨a0, a1, a2, a3, a4, a5, a6, a7, a8, a9⟩ := F1.c
  obtain ⟨c0, c1, c2, c3, c4, c5, c6, c7, c8, c9⟩ := F3.c
  have f1 := F3.f 1
  have f2 := F3.f 2
  have f3 := F3.f 3
  have f4 := F3.f 4
  have f5 := F3.f 5
  have f6 := F3.f 6
  have f7 := F3.f 7
  go_wp2_with fail
  clear a0 a1 a2 a3 a4 a5 a6 a7 a8 a9 c0 c1 c2 c3 c4 c5 c6 c7 c8 c9 f1 f2 f3 f4 f5 f6 f7
  have M1 : Mid (w.heap.size + 1 + 1) (w.heap.size + 1 + 1 + 1) w1 (((((((w1.setCell ⟨w.heap.size + 1 + 1, 1, none⟩ (.int .i64 c.sd.fo.num)).setCell ⟨w.heap.size + 1 + 1, 2, none⟩ (.slice r1a c.sd.fo.pol.length r1b)).setCell ⟨w.heap.size + 1 + 1, 3, none⟩ (.slice r1c c.sd.fo.rv.length r1d)).setCell ⟨w.heap.size + 1 + 1, 4, none⟩ (.int .i64 c.sd.co)).setCell ⟨w.heap.size + 1 + 1, 5, none⟩ (.slice r1e c.sd.ru.length r1f)).setCell ⟨w.heap.size + 1 + 1, 6, none⟩ (.slice r1g c.sd.ha.length r1h)).setCell ⟨w.heap.size + 1 + 1, 7, none⟩ (.slice r1i c.sd.se.length r1j)) := ((((((((Mid.of_below (Below.refl _ _)).set (p := ⟨w.heap.size + 1 + 1, 1, none⟩) (by simp) (by simp) (.int .i64 c.sd.fo.num)).set (p := ⟨w.heap.size + 1 + 1, 2, none⟩) (by simp) (by simp) (.slice r1a c.sd.fo.pol.length r1b)).set (p := ⟨w.heap.size + 1 + 1, 3, none⟩) (by simp) (by simp) (.slice r1c c.sd.fo.rv.length r1d)).set (p := ⟨w.heap.size + 1 + 1, 4, none⟩) (by simp) (by simp) (.int .i64 c.sd.co)).set (p := ⟨w.heap.size + 1 + 1, 5, none⟩) (by simp) (by simp) (.slice r1e c.sd.ru.length r1f)).set (p := ⟨w.heap.size + 1 + 1, 6, none⟩) (by simp) (by simp) (.slice r1g c.sd.ha.length r1h)).set (p := ⟨w.heap.size + 1 + 1, 7, none⟩) (by simp) (by simp) (.slice r1i c.sd.se.length r1j))
  replace F1 := M1.ten F1 (.inl (by omega))
  replace F2 := M1.ten F2 (.inl (by omega))
  replace F3 := (((((((F3.s1 (.int .i64 c.sd.fo.num)).s2 (.slice r1a c.sd.fo.pol.length r1b)).s3 (.slice r1c c.sd.fo.rv.length r1d)).s4 (.int .i64 c.sd.co)).s5 (.slice r1e c.sd.ru.length r1f)).s6 (.slice r1g c.sd.ha.length r1h)).s7 (.slice r1i c.sd.se.length r1j))
  replace hB0 := (((((((hB0.setCell (p := ⟨w.heap.size + 1 + 1, 1, none⟩) (by simp; omega) (.int .i64 c.sd.fo.num)).setCell (p := ⟨w.heap.size + 1 + 1, 2, none⟩) (by simp; omega) (.slice r1a c.sd.fo.pol.length r1b)).setCell (p := ⟨w.heap.size + 1 + 1, 3, none⟩) (by simp; omega) (.slice r1c c.sd.fo.rv.length r1d)).setCell (p := ⟨w.heap.size + 1 + 1, 4, none⟩) (by simp; omega) (.int .i64 c.sd.co)).setCell (p := ⟨w.heap.size + 1 + 1, 5, none⟩) (by simp; omega) (.slice r1e c.sd.ru.length r1f)).setCell (p := ⟨w.heap.size + 1 + 1, 6, none⟩) (by simp; omega) (.slice r1g c.sd.ha.length r1h)).setCell (p := ⟨w.heap.size + 1 + 1, 7, none⟩) (by simp; omega) (.slice r1i c.sd.se.length r1j))
  replace o1 := Mid.sdo M1 o1 (.inl (by omega))
  have hq1 : w1.heap.size ≤ (((((((w1.setCell ⟨w.heap.size + 1 + 1, 1, none⟩ (.int .i64 c.sd.fo.num)).setCell ⟨w.heap.size + 1 + 1, 2, none⟩ (.slice r1a c.sd.fo.pol.length r1b)).setCell ⟨w.heap.size + 1 + 1, 3, none⟩ (.slice r1c c.sd.fo.rv.length r1d)).setCell ⟨w.heap.size + 1 + 1, 4, none⟩ (.int .i64 c.sd.co)).setCell ⟨w.heap.size + 1 + 1, 5, none⟩ (.slice r1e c.sd.ru.length r1f)).setCell ⟨w.heap.size + 1 + 1, 6, none⟩ (.slice r1g c.sd.ha.length r1h)).setCell ⟨w.heap.size + 1 + 1, 7, none⟩ (.slice r1i c.sd.se.length r1j)).heap.size := by simp
  have hp1 : (((((((w1.setCell ⟨w.heap.size + 1 + 1, 1, none⟩ (.int .i64 c.sd.fo.num)).setCell ⟨w.heap.size + 1 + 1, 2, none⟩ (.slice r1a c.sd.fo.pol.length r1b)).setCell ⟨w.heap.size + 1 + 1, 3, none⟩ (.slice r1c c.sd.fo.rv.length r1d)).setCell ⟨w.heap.size + 1 + 1, 4, none⟩ (.int .i64 c.sd.co)).setCell ⟨w.heap.size + 1 + 1, 5, none⟩ (.slice r1e c.sd.ru.length r1f)).setCell ⟨w.heap.size + 1 + 1, 6, none⟩ (.slice r1g c.sd.ha.length r1h)).setCell ⟨w.heap.size + 1 + 1, 7, none⟩ (.slice r1i c.sd.se.length r1j)).heap.size ≤ w1.heap.size := by simp
  clear M1
  generalize ((((((w1.setCell ⟨w.heap.size + 1 + 1, 1, none⟩ (.int .i64 c.sd.fo.num)).setCell ⟨w.heap.size + 1 + 1, 2, none⟩ (.slice r1a c.sd.fo.pol.length r1b)).setCell ⟨w.heap.size + 1 + 1, 3, none⟩ (.slice r1c c.sd.fo.rv.length r1d)).setCell ⟨w.heap.size + 1 + 1, 4, none⟩ (.int .i64 c.sd.co)).setCell ⟨w.heap.size + 1 + 1, 5, none⟩ (.slice r1e c.sd.ru.length r1f)).setCell ⟨w.heap.size + 1 + 1, 6, none⟩ (.slice r1g c.sd.ha.length r1h)).setCell ⟨w.heap.size + 1 + 1, 7, none⟩ (.slice r1i c.sd.se.length r1j) = W1 at *
  refine (toAskS_any _ c.qu _ s2 (GsA.below h2 (fun _ _ h => h.below hB0) hB0)).mono ?_
  rintro e w2 ⟨v2, rfl, o2, hB2⟩
  obtain ⟨r2x, r2z, rfl⟩ := GsO.len o2
  replace F1 := F1.below hB2
  replace F2 := F2.below hB2
  replace F3 := F3.below hB2
  replace o1 := SdO.below o1 hB2
  replace hB0 := below_one hB0 hB2
  have hs2 := hB2.size
  clear hB2
  obtain ⟨a0, a1, a2, a3, a4, a5, a6, a7, a8, a9⟩ := F1.c
  obtain ⟨c0, c1, c2, c3, c4, c5, c6, c7, c8, c9⟩ := F3.c
  have f8 := F3.f 8
  go_wp2_with fail
  clear a0 a1 a2 a3 a4 a5 a6 a7 a8 a9 c0 c1 c2 c3 c4 c5 c6 c7 c8 c9 f8
  have M2 : Mid (w.heap.size + 1 + 1) (w.heap.size + 1 + 1 + 1) w2 (w2.setCell ⟨w.heap.size + 1 + 1, 8, none⟩ (.slice r2x c.qu.length r2z)) := ((Mid.of_below (Below.refl _ _)).set (p := ⟨w.heap.size + 1 + 1, 8, none⟩) (by simp) (by simp) (.slice r2x c.qu.length r2z))
  replace F1 := M2.ten F1 (.inl (by omega))
  replace F2 := M2.ten F2 (.inl (by omega))
  replace F3 := (F3.s8 (.slice r2x c.qu.length r2z))
  replace hB0 := (hB0.setCell (p := ⟨w.heap.size + 1 + 1, 8, none⟩) (by simp; omega) (.slice r2x c.qu.length r2z))
  replace o1 := Mid.sdo M2 o1 (.inl (by omega))
  replace o2 := GsO.mid o2 (fun _ _ _ _ h ho => h.mid M2 ho) M2 (.inl (by omega))
  have hq2 : w2.heap.size ≤ (w2.setCell ⟨w.heap.size + 1 + 1, 8, none⟩ (.slice r2x c.qu.length r2z)).heap.size := by simp
  have hp2 : (w2.setCell ⟨w.heap.size + 1 + 1, 8, none⟩ (.slice r2x c.qu.length r2z)).heap.size ≤ w2.heap.size := by simp
  clear M2
  generalize w2.setCell ⟨w.heap.size + 1 + 1, 8, none⟩ (.slice r2x c.qu.length r2z) = W2 at *
  refine (toRecordS_any _ c.lg _ s3.1 (h3.below hB0)).mono ?_
  rintro e w3 ⟨v3, rfl, o3, hB3⟩
  replace o3 := RoO.of o3
  obtain ⟨r3x, r3z, rfl⟩ := RoO.len o3
  replace F1 := F1.below hB3
  replace F2 := F2.below hB3
  replace F3 := F3.below hB3
  replace o1 := SdO.below o1 hB3
  replace o2 := GsO.mid o2 (fun _ _ _ _ h _ => h.below hB3) (Mid.of_below (lo := 0) (hi := 0) hB3) (.inl (Nat.zero_le _))
  replace hB0 := below_one hB0 hB3
  have hs3 := hB3.size
  clear hB3
  obtain ⟨a0, a1, a2, a3, a4, a5, a6, a7, a8, a9⟩ := F1.c
  obtain ⟨c0, c1, c2, c3, c4, c5, c6, c7, c8, c9⟩ := F3.c
  have f9 := F3.f 9
  have G3 := (F3.s9 (.slice r3x c.lg.length r3z))
  have G2 := (F2.other (k' := w.heap.size + 1 + 1) (by omega) 9 (.slice r3x c.lg.length r3z))
  obtain ⟨m0, m1, m2, m3, m4, m5, m6, m7, m8, m9⟩ := G3.c
  obtain ⟨t0, t1, t2, t3, t4, t5, t6, t7, t8, t9⟩ := G2.c
  have g0 := G2.f 0
  have g1 := G2.f 1
  have g2 := G2.f 2
  have g3 := G2.f 3
  have g4 := G2.f 4
  have g5 := G2.f 5
  have g6 := G2.f 6
  have g7 := G2.f 7
  have g8 := G2.f 8
  have g9 := G2.f 9
  have G := ((((((((((G2.s0 (.string c.name)).s1 (.int .i64 c.sd.fo.num)).s2 (.slice r1a c.sd.fo.pol.length r1b)).s3 (.slice r1c c.sd.fo.rv.length r1d)).s4 (.int .i64 c.sd.co)).s5 (.slice r1e c.sd.ru.length r1f)).s6 (.slice r1g c.sd.ha.length r1h)).s7 (.slice r1i c.sd.se.length r1j)).s8 (.slice r2x c.qu.length r2z)).s9 (.slice r3x c.lg.length r3z))
  have M9 : Mid (w.heap.size + 1) (w.heap.size + 1 + 1 + 1) w3 (((((((((((w3.setCell ⟨w.heap.size + 1 + 1, 9, none⟩ (.slice r3x c.lg.length r3z)).setCell ⟨w.heap.size + 1, 0, none⟩ (.string c.name)).setCell ⟨w.heap.size + 1, 1, none⟩ (.int .i64 c.sd.fo.num)).setCell ⟨w.heap.size + 1, 2, none⟩ (.slice r1a c.sd.fo.pol.length r1b)).setCell ⟨w.heap.size + 1, 3, none⟩ (.slice r1c c.sd.fo.rv.length r1d)).setCell ⟨w.heap.size + 1, 4, none⟩ (.int .i64 c.sd.co)).setCell ⟨w.heap.size + 1, 5, none⟩ (.slice r1e c.sd.ru.length r1f)).setCell ⟨w.heap.size + 1, 6, none⟩ (.slice r1g c.sd.ha.length r1h)).setCell ⟨w.heap.size + 1, 7, none⟩ (.slice r1i c.sd.se.length r1j)).setCell ⟨w.heap.size + 1, 8, none⟩ (.slice r2x c.qu.length r2z)).setCell ⟨w.heap.size + 1, 9, none⟩ (.slice r3x c.lg.length r3z)) := ((((((((((((Mid.of_below (Below.refl _ _)).set (p := ⟨w.heap.size + 1 + 1, 9, none⟩) (by simp) (by simp) (.slice r3x c.lg.length r3z)).set (p := ⟨w.heap.size + 1, 0, none⟩) (by simp) (by simp) (.string c.name)).set (p := ⟨w.heap.size + 1, 1, none⟩) (by simp) (by simp) (.int .i64 c.sd.fo.num)).set (p := ⟨w.heap.size + 1, 2, none⟩) (by simp) (by simp) (.slice r1a c.sd.fo.pol.length r1b)).set (p := ⟨w.heap.size + 1, 3, none⟩) (by simp) (by simp) (.slice r1c c.sd.fo.rv.length r1d)).set (p := ⟨w.heap.size + 1, 4, none⟩) (by simp) (by simp) (.int .i64 c.sd.co)).set (p := ⟨w.heap.size + 1, 5, none⟩) (by simp) (by simp) (.slice r1e c.sd.ru.length r1f)).set (p := ⟨w.heap.size + 1, 6, none⟩) (by simp) (by simp) (.slice r1g c.sd.ha.length r1h)).set (p := ⟨w.heap.size + 1, 7, none⟩) (by simp) (by simp) (.slice r1i c.sd.se.length r1j)).set (p := ⟨w.heap.size + 1, 8, none⟩) (by simp) (by simp) (.slice r2x c.qu.length r2z)).set (p := ⟨w.heap.size + 1, 9, none⟩) (by simp) (by simp) (.slice r3x c.lg.length r3z))
  replace o1 := Mid.sdo M9 o1 (.inl (by omega))
  replace o2 := GsO.mid o2 (fun _ _ _ _ h ho => h.mid M9 ho) M9 (.inl (by omega))
  replace o3 := o3.mid M9 (.inl (by omega))
  replace hB0 := (((((((((((hB0.setCell (p := ⟨w.heap.size + 1 + 1, 9, none⟩) (by simp; omega) (.slice r3x c.lg.length r3z)).setCell (p := ⟨w.heap.size + 1, 0, none⟩) (by simp) (.string c.name)).setCell (p := ⟨w.heap.size + 1, 1, none⟩) (by simp) (.int .i64 c.sd.fo.num)).setCell (p := ⟨w.heap.size + 1, 2, none⟩) (by simp) (.slice r1a c.sd.fo.pol.length r1b)).setCell (p := ⟨w.heap.size + 1, 3, none⟩) (by simp) (.slice r1c c.sd.fo.rv.length r1d)).setCell (p := ⟨w.heap.size + 1, 4, none⟩) (by simp) (.int .i64 c.sd.co)).setCell (p := ⟨w.heap.size + 1, 5, none⟩) (by simp) (.slice r1e c.sd.ru.length r1f)).setCell (p := ⟨w.heap.size + 1, 6, none⟩) (by simp) (.slice r1g c.sd.ha.length r1h)).setCell (p := ⟨w.heap.size + 1, 7, none⟩) (by simp) (.slice r1i c.sd.se.length r1j)).setCell (p := ⟨w.heap.size + 1, 8, none⟩) (by simp) (.slice r2x c.qu.length r2z)).setCell (p := ⟨w.heap.size + 1, 9, none⟩) (by simp) (.slice r3x c.lg.length r3z))
  have hE : w3.heap.size ≤ (((((((((((w3.setCell ⟨w.heap.size + 1 + 1, 9, none⟩ (.slice r3x c.lg.length r3z)).setCell ⟨w.heap.size + 1, 0, none⟩ (.string c.name)).setCell ⟨w.heap.size + 1, 1, none⟩ (.int .i64 c.sd.fo.num)).setCell ⟨w.heap.size + 1, 2, none⟩ (.slice r1a c.sd.fo.pol.length r1b)).setCell ⟨w.heap.size + 1, 3, none⟩ (.slice r1c c.sd.fo.rv.length r1d)).setCell ⟨w.heap.size + 1, 4, none⟩ (.int .i64 c.sd.co)).setCell ⟨w.heap.size + 1, 5, none⟩ (.slice r1e c.sd.ru.length r1f)).setCell ⟨w.heap.size + 1, 6, none⟩ (.slice r1g c.sd.ha.length r1h)).setCell ⟨w.heap.size + 1, 7, none⟩ (.slice r1i c.sd.se.length r1j)).setCell ⟨w.heap.size + 1, 8, none⟩ (.slice r2x c.qu.length r2z)).setCell ⟨w.heap.size + 1, 9, none⟩ (.slice r3x c.lg.length r3z)).heap.size := by simp
  have hW0 : w.heap.size ≤ W0.heap.size := by omega
  clear F1 F2 F3 M9
  go_wp2_with fail
  clear a0 a1 a2 a3 a4 a5 a6 a7 a8 a9 c0 c1 c2 c3 c4 c5 c6 c7 c8 c9 f9 m0 m1 m2 m3 m4 m5 m6 m7 m8 m9 t0 t1 t2 t3 t4 t5 t6 t7 t8 t9 g0 g1 g2 g3 g4 g5 g6 g7 g8 g9
  generalize ((((((((((w3.setCell ⟨w.heap.size + 1 + 1, 9, none⟩ (.slice r3x c.lg.length r3z)).setCell ⟨w.heap.size + 1, 0, none⟩ (.string c.name)).setCell ⟨w.heap.size + 1, 1, none⟩ (.int .i64 c.sd.fo.num)).setCell ⟨w.heap.size + 1, 2, none⟩ (.slice r1a c.sd.fo.pol.length r1b)).setCell ⟨w.heap.size + 1, 3, none⟩ (.slice r1c c.sd.fo.rv.length r1d)).setCell ⟨w.heap.size + 1, 4, none⟩ (.int .i64 c.sd.co)).setCell ⟨w.heap.size + 1, 5, none⟩ (.slice r1e c.sd.ru.length r1f)).setCell ⟨w.heap.size + 1, 6, none⟩ (.slice r1g c.sd.ha.length r1h)).setCell ⟨w.heap.size + 1, 7, none⟩ (.slice r1i c.sd.se.length r1j)).setCell ⟨w.heap.size + 1, 8, none⟩ (.slice r2x c.qu.length r2z)).setCell ⟨w.heap.size + 1, 9, none⟩ (.slice r3x c.lg.length r3z) = WE at *
  obtain ⟨d0, d1, d2, d3, d4, d5, d6, d7, d8, d9⟩ := G.c
  exact bodyPost_ret (v := .agg #[.string c.name, .int .i64 c.sd.fo.num, .slice r1a c.sd.fo.pol.length r1b, .slice r1c c.sd.fo.rv.length r1d, .int .i64 c.sd.co, .slice r1e c.sd.ru.length r1f, .slice r1g c.sd.ha.length r1h, .slice r1i c.sd.se.length r1j, .slice r2x c.qu.length r2z, .slice r3x c.lg.length r3z]) (by simp [results, Try.results73, go_sem, d0, d1, d2, d3, d4, d5, d6, d7, d8, d9]) rfl ⟨_, rfl, ⟨_, _, _, _, _, _, _, _, _, _, _, _, _, _, w1.heap.size, w2.heap.size, rfl, by omega, by omega, by omega, SdO.mono o1 (by omega) (by omega), GsO.mono o2 (by omega) (by omega), o3.mono (by omega) (by omega)⟩, hB0⟩

set_option maxHeartbeats 4000000 in
theorem szSidecarS_any (v : Value) (rs : List Sc) (n : Int) (w : World) (h0 : 0 ≤ n) (h1 : n ≤ 1048576) (hm : rs.length ≤ maxLen) (hf : ∀ r ∈ rs, r.fits) (hr : GsA 10 ScC w v rs) :
    Calls Try.prog 30 #[v, .int .i64 n] w fun e w' => e = .returned (.int .i64 (leftK n (gzAll Sc.size rs))) ∧ Below w.heap.size w w' := by
  obtain ⟨a, cap, rfl⟩ := hr.len
  unfold maxLen at hm
  by_cases c0 : n < rs.length
  · have HR := hid (show leftK n (gzAll Sc.size rs) = -1 from if_neg (by unfold gzAll; omega))
    go_enter Try.func30, Try.ntmps30
    go_wp2
    go_ret
    exact ⟨ret_int HR.out.symm, Below.refl _ _⟩
  · have d0 : decide (n - (rs.length : Int) < 0) = false := by simp; omega
    go_enter Try.func30, Try.ntmps30
    go_wp2
    go_loopw [1, 5] (fun m i wr => ∃ k : Nat, k ≤ rs.length ∧ i = .int .i64 k ∧ m = .int .i64 (n - rs.length - gzTo Sc.size rs k) ∧ 0 ≤ n - rs.length - gzTo Sc.size rs k ∧ Below w.heap.size w wr) (fun _ i _ => rs.length - (intOf i).toNat)
    case atStart => exact ⟨0, Nat.zero_le _, rfl, by rw [gzTo_zero]; go_num, by rw [gzTo_zero]; omega, Below.refl _ _⟩
    case round =>
      obtain ⟨k, hk, rfl, rfl, hp, hB⟩ := hrel
      by_cases hlt : k < rs.length
      · obtain ⟨b, off, cs, rfl, hb, hcap, hq, hA⟩ := (hr.below (fun _ _ h => h.below hB) hB).at hlt
        have hA0 := hA
        obtain ⟨p1a, p1b, p1c, p1d, p1e, p1f, p1g, p1h, p1i, p1j, p2x, p2z, p3x, p3z, hcsq, g1, g2, g3⟩ := hA
        subst hcsq
        have q0 := hq 0 _ rfl
        have q1 := hq 1 _ rfl
        have q2 := hq 2 _ rfl
        have q3 := hq 3 _ rfl
        have q4 := hq 4 _ rfl
        have q5 := hq 5 _ rfl
        have q6 := hq 6 _ rfl
        have q7 := hq 7 _ rfl
        have q8 := hq 8 _ rfl
        have q9 := hq 9 _ rfl
        rw [Nat.add_zero] at q0
        have f1 := hf rs[k] (List.getElem_mem hlt)
        have HS := hid (gzTo_succ (f := Sc.size) hlt)
        have HT := hid (gzTo_le Sc.size rs (k + 1))
        generalize rs[k] = r at *
        clear hq hr
        go_wp2_with fail
        refine (szSidecar_any _ r _ _ hp (by omega) f1 hA0).mono ?_
        rintro e w1 ⟨rfl, hB1⟩
        have hB2 := below_one hB hB1
        by_cases c1 : (r.size : Int) ≤ n - rs.length - gzTo Sc.size rs k
        · have hv : leftK (n - rs.length - gzTo Sc.size rs k) r.size = n - rs.length - gzTo Sc.size rs (k + 1) := by
            rw [HS.out]
            unfold leftK
            rw [if_pos (by omega)]
            omega
          have hq : 0 ≤ n - rs.length - gzTo Sc.size rs (k + 1) := by rw [HS.out]; omega
          rw [hv]
          have d1 : decide (n - (rs.length : Int) - (gzTo Sc.size rs (k + 1) : Int) < 0) = false := by simp; omega
          clear hv hB1 q0 q1 q2 q3 q4 q5 q6 q7 q8 q9 hA0 g1 g2 g3
          go_wp2_with fail
          go_roundw
          case rel => exact ⟨k + 1, by omega, by go_num, rfl, hq, hB2⟩
          case measure => simp [intOf]; omega
        · have hv : leftK (n - rs.length - gzTo Sc.size rs k) r.size = -1 := if_neg (by omega)
          have HR := hid (show leftK n (gzAll Sc.size rs) = -1 from if_neg (by have := HT.out; rw [HS.out] at this; unfold gzAll; omega))
          rw [hv]
          clear hv hB1 q0 q1 q2 q3 q4 q5 q6 q7 q8 q9 hA0 g1 g2 g3
          go_wp2_with fail
          go_ret
          exact ⟨ret_int HR.out.symm, hB2⟩
      · obtain rfl : k = rs.length := by omega
        have HR := hid (show leftK n (gzAll Sc.size rs) = n - rs.length - gzTo Sc.size rs rs.length by unfold leftK gzAll; rw [if_pos (by omega)]; omega)
        go_wp2
        go_ret
        exact ⟨ret_int HR.out.symm, hB⟩

set_option maxHeartbeats 4000000 in
/-- A list is like itself, wherever the two lie. -/
theorem eqSidecarS_same (v v' : Value) (ss : List Sc) (w : World) (hn : gShort Sc.short ss) (hr : GsA 10 ScC w v ss) (hr' : GsA 10 ScC w v' ss) :
    Calls Try.prog 21 #[v, v'] w fun e w' => e = .returned (.bool true) ∧ Below w.heap.size w w' := by
  obtain ⟨a, cap, rfl⟩ := hr.len
  obtain ⟨a', cap', rfl⟩ := hr'.len
  have hn1 := hn.1
  have e0 : ((ss.length : Int) != (ss.length : Int)) = false := by simp
  go_enter Try.func21, Try.ntmps21
  go_wp2
  go_loopw [5] (fun i wr => ∃ j : Nat, j ≤ ss.length ∧ i = .int .i64 j ∧ Below w.heap.size w wr) (fun i _ => ss.length - (intOf i).toNat)
  case atStart => exact ⟨0, Nat.zero_le _, rfl, Below.refl _ _⟩
  case round =>
    obtain ⟨j, hj, rfl, hB⟩ := hrel
    by_cases hlt : j < ss.length
    · obtain ⟨b, off, cs, rfl, hb, hcap, hq, hA⟩ := (hr.below (fun _ _ h => h.below hB) hB).at hlt
      have hA0 := hA
      obtain ⟨p1a, p1b, p1c, p1d, p1e, p1f, p1g, p1h, p1i, p1j, p2x, p2z, p3x, p3z, hcsq, g1, g2, g3⟩ := hA
      subst hcsq
      have q0 := hq 0 _ rfl
      have q1 := hq 1 _ rfl
      have q2 := hq 2 _ rfl
      have q3 := hq 3 _ rfl
      have q4 := hq 4 _ rfl
      have q5 := hq 5 _ rfl
      have q6 := hq 6 _ rfl
      have q7 := hq 7 _ rfl
      have q8 := hq 8 _ rfl
      have q9 := hq 9 _ rfl
      rw [Nat.add_zero] at q0
      obtain ⟨b', off', cs', rfl, hb', hcap', hq', hA'⟩ := (hr'.below (fun _ _ h => h.below hB) hB).at hlt
      have hA1 := hA'
      obtain ⟨q1a, q1b, q1c, q1d, q1e, q1f, q1g, q1h, q1i, q1j, q2x, q2z, q3x, q3z, hcsp, g'1, g'2, g'3⟩ := hA'
      subst hcsp
      have p0 := hq' 0 _ rfl
      have p1 := hq' 1 _ rfl
      have p2 := hq' 2 _ rfl
      have p3 := hq' 3 _ rfl
      have p4 := hq' 4 _ rfl
      have p5 := hq' 5 _ rfl
      have p6 := hq' 6 _ rfl
      have p7 := hq' 7 _ rfl
      have p8 := hq' 8 _ rfl
      have p9 := hq' 9 _ rfl
      rw [Nat.add_zero] at p0
      have hs := hn.2 ss[j] (List.getElem_mem hlt)
      generalize ss[j] = s at *
      clear hq hq' hr hr'
      go_wp2_with fail
      go_region_with (go_at_call 48; refine (eqSidecar_same _ _ s _ hs (hA0.below (Below.refl _ _).drew) (hA1.below (Below.refl _ _).drew)).mono ?_; rintro e w1 ⟨rfl, hB1⟩)
      all_goals go_wp2
      all_goals go_roundw
      all_goals first
        | exact ⟨j + 1, by omega, by go_num, below_one hB (below_drew1 hB1)⟩
        | (simp [intOf]; omega)
    · obtain rfl : j = ss.length := by omega
      go_wp2
      go_ret
      exact ⟨rfl, hB⟩

theorem infoSidecar : (Try.prog.info? 93).map (fun i => (i.zero, i.size, i.bytes)) = some (some (.agg #[.string ⟨#[]⟩, .int .i64 0, .slice none 0 0, .slice none 0 0, .int .i64 0, .slice none 0 0, .slice none 0 0, .slice none 0 0, .slice none 0 0, .slice none 0 0]), 10, 200) := by kernel_rfl
set_option maxHeartbeats 8000000 in
theorem toSidecarS_any (v : Value) (ss : List Sc) (w : World) (hm : gShort Sc.short ss) (hr : GsA 10 ScC w v ss) :
    Calls Try.prog 36 #[v] w fun e w' => ∃ v', e = .returned v' ∧ GsO 93 10 ScO w' w.heap.size w'.heap.size v' ss ∧ Below w.heap.size w w' := by
  obtain ⟨a, cap, rfl⟩ := hr.len
  obtain ⟨i0, hi, hz0, hz1, hz2⟩ := info_parts infoSidecar
  have hm1 := hm.1
  go_enter Try.func36, Try.ntmps36
  go_wp2_with (at_make; refine wpList_make_full _ rfl _ _ 28 rfl w.heap.size 93 i0 _ 10 Try.underlying28 hi hz0 hz1 _ _ _ _ ss.length rfl rfl rfl rfl (by rw [hz2]; omega) (by unfold maxLen; omega) (Nat.le_refl _) ?_; intro w1 hown hgrow)
  have hB1 : Below w.heap.size w w1 := (Below.refl _ w).grown hgrow (Nat.le_refl _) (fun k e => by cases e)
  have hw1 : w.heap.size < w1.heap.size := (hown.lt w.heap.size rfl).2
  go_loopw [4] (fun i wr => ∃ k : Nat, k ≤ ss.length ∧ i = .int .i64 k ∧ ∃ ys cs t, GsK 93 10 ScO wr w.heap.size wr.heap.size (.slice (some ⟨w.heap.size, 0, none⟩) ss.length ss.length) ss.length ss k ys cs t ∧ w.heap.size < t k ∧ Below w.heap.size w wr) (fun i _ => ss.length - (intOf i).toNat)
  case atStart => exact ⟨0, Nat.zero_le _, rfl, _, fun _ => [], fun _ => w1.heap.size, ⟨hown, fun j hj => (hown.lt j hj).2, fun _ h => absurd h (Nat.not_lt_zero _), fun _ h => absurd h (Nat.not_lt_zero _), fun _ _ h => absurd h (Nat.not_lt_zero _), fun _ _ => Nat.le_of_lt hw1, fun _ _ => Nat.le_refl _, fun _ _ => Nat.le_refl _, fun _ h => absurd h (Nat.not_lt_zero _)⟩, hw1, hB1⟩
  case round =>
    obtain ⟨k, hk, rfl, ys, cs0, t, hK, hg, hB⟩ := hrel
    by_cases hlt : k < ss.length
    · obtain ⟨b, off, cs, rfl, hb, hcap, hq, hA⟩ := (hr.below (fun _ _ h => h.below hB) hB).at hlt
      have hA0 := hA
      obtain ⟨p1a, p1b, p1c, p1d, p1e, p1f, p1g, p1h, p1i, p1j, p2x, p2z, p3x, p3z, hcsq, g1, g2, g3⟩ := hA
      subst hcsq
      have q0 := hq 0 _ rfl
      have q1 := hq 1 _ rfl
      have q2 := hq 2 _ rfl
      have q3 := hq 3 _ rfl
      have q4 := hq 4 _ rfl
      have q5 := hq 5 _ rfl
      have q6 := hq 6 _ rfl
      have q7 := hq 7 _ rfl
      have q8 := hq 8 _ rfl
      have q9 := hq 9 _ rfl
      rw [Nat.add_zero] at q0
      have hsh := hm.2 ss[k] (List.getElem_mem hlt)
      have HA := hid (fun (w2 : World) (zs : List Value) (hB2 : Below wr.heap.size wr w2) (hz : zs.length = 10) (hn : ScO w2 wr.heap.size w2.heap.size zs ss[k]) => GsK.add (w2 := w2) (zs := zs) hK hg hB2 hlt hlt hz (fun _ _ _ _ _ _ _ M h ho => h.mid M ho) (fun _ _ _ _ h => h.below hB2) (fun _ _ _ _ _ _ h hb => h.mono hb (Nat.le_refl _)) hn)
      clear hq hr
      go_wp2_with fail
      refine (toSidecar_any _ ss[k] _ hsh hA0).mono ?_
      rintro e w2 ⟨zs, rfl, hO, hB2⟩
      have hOc := hO
      obtain ⟨o1a, o1b, o1c, o1d, o1e, o1f, o1g, o1h, o1i, o1j, o2x, o2z, o3x, o3z, m1, m2, hzs, l0, l1, l2, o0, o1, o2⟩ := hO
      subst hzs
      have HK := hid (HA.out w2 _ hB2 rfl hOc)
      have hrow2 := ownsRow_below hK.row hB2
      have hB3 := below_one hB hB2
      have hlen : ys.length = ss.length * 10 := hrow2.1
      have s0 := hrow2.cellAt (k * 10) (by omega)
      have s1 := hrow2.cellAt (k * 10 + 1) (by omega)
      have s2 := hrow2.cellAt (k * 10 + 2) (by omega)
      have s3 := hrow2.cellAt (k * 10 + 3) (by omega)
      have s4 := hrow2.cellAt (k * 10 + 4) (by omega)
      have s5 := hrow2.cellAt (k * 10 + 5) (by omega)
      have s6 := hrow2.cellAt (k * 10 + 6) (by omega)
      have s7 := hrow2.cellAt (k * 10 + 7) (by omega)
      have s8 := hrow2.cellAt (k * 10 + 8) (by omega)
      have s9 := hrow2.cellAt (k * 10 + 9) (by omega)
      rw [List.getElem?_eq_getElem (by omega)] at s0 s1 s2 s3 s4 s5 s6 s7 s8 s9
      have t0 := hrow2.frozenAt (k * 10)
      have t1 := hrow2.frozenAt (k * 10 + 1)
      have t2 := hrow2.frozenAt (k * 10 + 2)
      have t3 := hrow2.frozenAt (k * 10 + 3)
      have t4 := hrow2.frozenAt (k * 10 + 4)
      have t5 := hrow2.frozenAt (k * 10 + 5)
      have t6 := hrow2.frozenAt (k * 10 + 6)
      have t7 := hrow2.frozenAt (k * 10 + 7)
      have t8 := hrow2.frozenAt (k * 10 + 8)
      have t9 := hrow2.frozenAt (k * 10 + 9)
      generalize ys[k * 10] = z0 at *
      generalize ys[k * 10 + 1] = z1 at *
      generalize ys[k * 10 + 2] = z2 at *
      generalize ys[k * 10 + 3] = z3 at *
      generalize ys[k * 10 + 4] = z4 at *
      generalize ys[k * 10 + 5] = z5 at *
      generalize ys[k * 10 + 6] = z6 at *
      generalize ys[k * 10 + 7] = z7 at *
      generalize ys[k * 10 + 8] = z8 at *
      generalize ys[k * 10 + 9] = z9 at *
      generalize ss[k] = s at *
      clear q0 q1 q2 q3 q4 q5 q6 q7 q8 q9 hB2 hK HA hA0 g1 g2 g3 l0 l1 l2 o0 o1 o2 hOc
      go_wp2_with fail
      go_roundw
      case rel => exact ⟨k + 1, by omega, by go_num, _, _, _, HK.out.1, HK.out.2, ((((((((((hB3.setCell (p := ⟨w.heap.size, _, none⟩) (Nat.le_refl _) _).setCell (p := ⟨w.heap.size, _, none⟩) (Nat.le_refl _) _).setCell (p := ⟨w.heap.size, _, none⟩) (Nat.le_refl _) _).setCell (p := ⟨w.heap.size, _, none⟩) (Nat.le_refl _) _).setCell (p := ⟨w.heap.size, _, none⟩) (Nat.le_refl _) _).setCell (p := ⟨w.heap.size, _, none⟩) (Nat.le_refl _) _).setCell (p := ⟨w.heap.size, _, none⟩) (Nat.le_refl _) _).setCell (p := ⟨w.heap.size, _, none⟩) (Nat.le_refl _) _).setCell (p := ⟨w.heap.size, _, none⟩) (Nat.le_refl _) _).setCell (p := ⟨w.heap.size, _, none⟩) (Nat.le_refl _) _)⟩
      case measure => simp [intOf]; omega
    · obtain rfl : k = ss.length := by omega
      go_wp2
      go_ret
      exact ⟨_, rfl, ⟨ys, cs0, t, hK⟩, hB⟩

end Go.Proofs.Ytnbojbcljfiamaa
