/-
  Lists held against the laws' marks; lists of numbers marked, held and compared.
-/
import Derived.Test.YtnbojbcljfiamaaJDeliveredAt0
import Derived.Shelf.SlGeneric
import Derived.Ground.SlgnProg
import Derived.Shelf.SlicesE.Clone
import Derived.Test.YtnbojbcljfiamaaProg
import Derived.Maps.OwnOps
import Derived.Maps.Views
import Derived.Deep.RegionHeld3
import Derived.WalkKit
import Derived.ProofKit
import Derived.OpenShut
import Derived.Lib.SmallJoins
import Derived.Deep.Slices
import Derived.Deep.QuietTactic
import Derived.BigQuiet
import Derived.Deep.RegionWith
import Derived.WalkSmall
import Derived.Lib.SliceRun
import Derived.Lib.SlicesCompact
namespace Go.Proofs.Ytnbojbcljfiamaa
open Go.RowKit Go.Shelf

/-- What is left of a budget. -/
def leftK (n : Int) (s : Nat) : Int := if (s : Int) ≤ n then n - s else -1
/-- A row of one's own, in a block from base on, below top. -/
def RoO (T : TypeId) (c : Nat) (w : World) (base top : Nat) (v : Value) (n : Nat) (xs : List Value) : Prop := w.ownsRow base T c v n xs ∧ ∀ k, v.ownBlock = some k → k < top
theorem RoO.of {T : TypeId} {c : Nat} {w : World} {base : Nat} {v : Value} {n : Nat} {xs : List Value} (h : w.ownsRow base T c v n xs) : RoO T c w base w.heap.size v n xs := ⟨h, fun k hk => (h.lt k hk).2⟩
theorem RoO.len {T : TypeId} {c : Nat} {w : World} {base top : Nat} {v : Value} {n : Nat} {xs : List Value} (h : RoO T c w base top v n xs) : ∃ a cap, v = .slice a n cap := by
  rcases row_form h.1 with ⟨rfl, rfl⟩ | ⟨g, cap, rfl, _, _⟩
  · exact ⟨_, _, rfl⟩
  · exact ⟨_, _, rfl⟩
theorem RoO.mid {lo hi : Nat} {w w1 : World} {T : TypeId} {c base top : Nat} {v : Value} {n : Nat} {xs : List Value} (h : RoO T c w base top v n xs) (M : Mid lo hi w w1) (ho : hi ≤ base ∨ top ≤ lo) : RoO T c w1 base top v n xs :=
  ⟨M.row h.1 (fun k hk => by have := h.1.lt k hk; have := h.2 k hk; omega), h.2⟩
theorem RoO.below {w w1 : World} {T : TypeId} {c base top : Nat} {v : Value} {n : Nat} {xs : List Value} (h : RoO T c w base top v n xs) (hB : Below w.heap.size w w1) : RoO T c w1 base top v n xs := ⟨ownsRow_below h.1 hB, h.2⟩
theorem RoO.mono {w : World} {T : TypeId} {c base base' top top' : Nat} {v : Value} {n : Nat} {xs : List Value} (h : RoO T c w base top v n xs) (hb : base' ≤ base) (ht : top ≤ top') : RoO T c w base' top' v n xs :=
  ⟨Go.Joins.ownsRow_le h.1 hb, fun k hk => Nat.lt_of_lt_of_le (h.2 k hk) ht⟩

set_option maxRecDepth 100000 in
open Go.Deep Go.ChangeShapes Go.WideShapes Go.ChangeAt Go.Joins in
theorem openLkR {H : Type} {enc : TypeId × Value → H} {W : World} {c0 : Value} {d : DataW H × List MemPlace} {fuel : Nat} (hf : DataW.trod enc Try.prog W 0 (fun _ => true) true fuel 114 [c0] = some d) :
    ∃ (a : Option Addr) (n c : Nat) (rs : List Lk), c0 = .slice a n c ∧ LkS W (.slice a n c) rs ∧ rs.length = n ∧ n ≤ maxLen ∧ ∀ r ∈ rs, r.fits := by
  have hs : ∃ a n c, c0 = .slice a n c := by
    rcases open_slice Try.underlying114 hf with ⟨hcs, _⟩ | ⟨x, n, c, m, k, D, Pl, hcs, _⟩
    · simp at hcs; exact ⟨_, _, _, hcs⟩
    · simp at hcs; exact ⟨_, _, _, hcs⟩
  obtain ⟨a, n, c, rfl⟩ := hs
  obtain ⟨rs, h⟩ := openLkS (a := a) (n := n) (c := c) (d := d.1) (p := d.2) ⟨fuel, hf⟩
  exact ⟨a, n, c, rs, rfl, h⟩

/-- A slice reads as this list, c cells each. -/
def GsA {X : Type} (c : Nat) (A : World → List Value → X → Prop) (w : World) (v : Value) (xs : List X) : Prop :=
  (∃ a cap, v = .slice a 0 cap ∧ xs = []) ∨
  ∃ b off cap, v = .slice (some ⟨b, off, none⟩) xs.length cap ∧ b < w.heap.size ∧ xs.length ≤ cap ∧ ∀ i (h : i < xs.length), ∃ cs : List Value, cs.length = c ∧ (∀ j y, cs[j]? = some y → w.cell? ⟨b, off + i * c + j, none⟩ = some y) ∧ A w cs xs[i]
theorem GsA.below {X : Type} {c : Nat} {A : World → List Value → X → Prop} {w w' : World} {v : Value} {xs : List X} (h : GsA c A w v xs) (hA : ∀ cs x, A w cs x → A w' cs x) (hB : Below w.heap.size w w') : GsA c A w' v xs := by
  rcases h with h | ⟨b, off, cap, hv, hb, hl, hc⟩
  · exact .inl h
  · refine .inr ⟨b, off, cap, hv, Nat.lt_of_lt_of_le hb hB.size, hl, fun i hi => ?_⟩
    obtain ⟨cs, h1, h2, h3⟩ := hc i hi
    exact ⟨cs, h1, fun j y hy => (hB.cell (p := ⟨b, _, none⟩) hb).trans (h2 j y hy), hA _ _ h3⟩
theorem GsA.len {X : Type} {c : Nat} {A : World → List Value → X → Prop} {w : World} {v : Value} {xs : List X} (h : GsA c A w v xs) : ∃ a cap, v = .slice a xs.length cap := by
  rcases h with ⟨a, cap, hv, rfl⟩ | ⟨b, off, cap, hv, _⟩
  · exact ⟨a, cap, hv⟩
  · exact ⟨_, cap, hv⟩
theorem GsA.at {X : Type} {c : Nat} {A : World → List Value → X → Prop} {w : World} {a : Option Addr} {n cap : Nat} {xs : List X} (h : GsA c A w (.slice a n cap) xs) {i : Nat} (hi : i < xs.length) :
    ∃ b off cs, a = some ⟨b, off, none⟩ ∧ b < w.heap.size ∧ n ≤ cap ∧ (∀ j y, cs[j]? = some y → w.cell? ⟨b, off + i * c + j, none⟩ = some y) ∧ A w cs xs[i] := by
  rcases h with ⟨_, _, _, rfl⟩ | ⟨b, off, cap, hv, hb, hl, hc⟩
  · simp at hi
  · cases hv
    obtain ⟨cs, h1, h2, h3⟩ := hc i hi
    exact ⟨b, off, cs, rfl, hb, hl, h2, h3⟩

/-- A row of n places, of which the first k hold these, each with blocks of its own, from s i on, below t i. -/
structure GsK {X : Type} (e : TypeId) (c : Nat) (O : World → Nat → Nat → List Value → X → Prop) (w : World) (base top : Nat) (v : Value) (n : Nat) (xs : List X) (k : Nat) (ys : List Value) (cs : Nat → List Value) (s t : Nat → Nat) : Prop where
  row : w.ownsRow base e c v n ys
  rlt : ∀ g, v.ownBlock = some g → g < top
  len : ∀ i, i < k → (cs i).length = c
  cel : ∀ i, i < k → ∀ j, j < c → ys[i * c + j]? = (cs i)[j]?
  own : ∀ i (h : i < xs.length), i < k → O w (s i) (t i) (cs i) xs[i]
  lo : ∀ i, i < k → base ≤ s i
  up : ∀ i, i < k → s i ≤ t i
  ord : ∀ i j, i < j → j < k → t i ≤ s j
  hi : ∀ i, i < k → t i ≤ top
  apart : ∀ i, i < k → ∀ g, v.ownBlock = some g → g < s i ∨ t i ≤ g
/-- A list of one's own. -/
def GsO {X : Type} (e : TypeId) (c : Nat) (O : World → Nat → Nat → List Value → X → Prop) (w : World) (base top : Nat) (v : Value) (xs : List X) : Prop := ∃ ys cs s t, GsK e c O w base top v xs.length xs xs.length ys cs s t
theorem GsO.len {X : Type} {e : TypeId} {c : Nat} {O : World → Nat → Nat → List Value → X → Prop} {w : World} {base top : Nat} {v : Value} {xs : List X} (h : GsO e c O w base top v xs) : ∃ a cap, v = .slice a xs.length cap := by
  obtain ⟨ys, cs, s, t, h⟩ := h
  exact RoO.len (RoO.of h.row)
theorem GsO.a {X : Type} {e : TypeId} {c : Nat} {O : World → Nat → Nat → List Value → X → Prop} {A : World → List Value → X → Prop} {w : World} {base top : Nat} {v : Value} {xs : List X} (hA : ∀ b t cs x, O w b t cs x → A w cs x) (h : GsO e c O w base top v xs) : GsA c A w v xs := by
  obtain ⟨ys, cs, s, t, h⟩ := h
  rcases row_form h.row with ⟨rfl, h0⟩ | ⟨g, cap, rfl, hg, hcap⟩
  · exact .inl ⟨_, _, rfl, List.eq_nil_of_length_eq_zero h0⟩
  · refine .inr ⟨g, 0, cap, rfl, (h.row.lt g rfl).2, hcap, fun i hi => ⟨cs i, h.len i hi, fun j y hy => ?_, hA _ _ _ _ (h.own i hi hi)⟩⟩
    have hj : j < c := by
      have := (List.getElem?_eq_some_iff.1 hy).1
      rwa [h.len i hi] at this
    have hij : i * c + j < xs.length * c := by
      have : (i + 1) * c ≤ xs.length * c := Nat.mul_le_mul_right c hi
      rw [Nat.add_mul, Nat.one_mul] at this
      omega
    rw [Nat.zero_add, h.row.cellAt (i * c + j) hij, h.cel i hi j hj]
    exact hy
theorem GsK.mid {X : Type} {e : TypeId} {c : Nat} {O : World → Nat → Nat → List Value → X → Prop} {lo hi : Nat} {w w1 : World} {base top : Nat} {v : Value} {n : Nat} {xs : List X} {k : Nat} {ys : List Value} {cs : Nat → List Value} {s t : Nat → Nat} (h : GsK e c O w base top v n xs k ys cs s t)
    (hO : ∀ b t cs x, O w b t cs x → (hi ≤ b ∨ t ≤ lo) → O w1 b t cs x) (M : Mid lo hi w w1) (ho : hi ≤ base ∨ top ≤ lo) : GsK e c O w1 base top v n xs k ys cs s t :=
  ⟨M.row h.row (fun g hg => by have := h.row.lt g hg; have := h.rlt g hg; omega), h.rlt, h.len, h.cel, fun i hi hk => hO _ _ _ _ (h.own i hi hk) (by have := h.lo i hk; have := h.hi i hk; omega), h.lo, h.up, h.ord, h.hi, h.apart⟩
theorem GsO.mid {X : Type} {e : TypeId} {c : Nat} {O : World → Nat → Nat → List Value → X → Prop} {lo hi : Nat} {w w1 : World} {base top : Nat} {v : Value} {xs : List X} (h : GsO e c O w base top v xs)
    (hO : ∀ b t cs x, O w b t cs x → (hi ≤ b ∨ t ≤ lo) → O w1 b t cs x) (M : Mid lo hi w w1) (ho : hi ≤ base ∨ top ≤ lo) : GsO e c O w1 base top v xs := by
  obtain ⟨ys, cs, s, t, h⟩ := h
  exact ⟨ys, cs, s, t, h.mid hO M ho⟩
theorem GsO.mono {X : Type} {e : TypeId} {c : Nat} {O : World → Nat → Nat → List Value → X → Prop} {w : World} {base base' top top' : Nat} {v : Value} {xs : List X} (h : GsO e c O w base top v xs) (hb : base' ≤ base) (ht : top ≤ top') : GsO e c O w base' top' v xs := by
  obtain ⟨ys, cs, s, t, h⟩ := h
  exact ⟨ys, cs, s, t, Go.Joins.ownsRow_le h.row hb, fun g hg => Nat.lt_of_lt_of_le (h.rlt g hg) ht, h.len, h.cel, h.own, fun i hi => Nat.le_trans hb (h.lo i hi), h.up, h.ord, fun i hi => Nat.le_trans (h.hi i hi) ht, h.apart⟩
theorem GsK.start {X : Type} (e : TypeId) (c : Nat) (O : World → Nat → Nat → List Value → X → Prop) (w : World) (base top : Nat) (v : Value) (n : Nat) (xs : List X) (ys : List Value) (h : w.ownsRow base e c v n ys) (ht : ∀ g, v.ownBlock = some g → g < top) : GsK e c O w base top v n xs 0 ys (fun _ => []) (fun _ => base) (fun _ => base) :=
  ⟨h, ht, fun _ h => absurd h (Nat.not_lt_zero _), fun _ h => absurd h (Nat.not_lt_zero _), fun _ _ h => absurd h (Nat.not_lt_zero _), fun _ h => absurd h (Nat.not_lt_zero _), fun _ h => absurd h (Nat.not_lt_zero _), fun _ _ _ h => absurd h (Nat.not_lt_zero _), fun _ h => absurd h (Nat.not_lt_zero _), fun _ h => absurd h (Nat.not_lt_zero _)⟩
theorem GsO.empty {X : Type} (e : TypeId) (c : Nat) (O : World → Nat → Nat → List Value → X → Prop) (w : World) (base top : Nat) : GsO e c O w base top (.slice none 0 0) [] :=
  ⟨_, _, _, _, GsK.start e c O w base top _ _ _ [] (World.ownsRow_nil _ _ _ _) (fun _ h => by simp [Value.ownBlock] at h)⟩

/-- Cells stored one behind the other. -/
def sets (w : World) (g o : Nat) : List Value → World
  | [] => w
  | y :: ys => sets (w.setCell ⟨g, o, none⟩ y) g (o + 1) ys
def setL (xs : List Value) (o : Nat) : List Value → List Value
  | [] => xs
  | y :: ys => setL (xs.set o y) (o + 1) ys
theorem sets_size (g : Nat) (ys : List Value) : ∀ (w : World) (o : Nat), (sets w g o ys).heap.size = w.heap.size := by
  induction ys with
  | nil => intro w o; rfl
  | cons y ys ih => intro w o; show (sets _ g (o + 1) ys).heap.size = _; rw [ih, World.size_setCell]
theorem sets_mid (g : Nat) (ys : List Value) : ∀ (w : World) (o : Nat), Mid g (g + 1) w (sets w g o ys) := by
  induction ys with
  | nil => intro w o; exact Mid.of_below (Below.refl _ _)
  | cons y ys ih => intro w o; exact ((Mid.of_below (Below.refl _ _)).set (p := ⟨g, o, none⟩) (Nat.le_refl _) (Nat.lt_succ_self _) y).trans (ih _ _)
theorem sets_row {base g n cap c : Nat} {e : TypeId} (ys : List Value) : ∀ (w : World) (o : Nat) (xs : List Value), w.ownsRow base e c (.slice (some ⟨g, 0, none⟩) n cap) n xs → (sets w g o ys).ownsRow base e c (.slice (some ⟨g, 0, none⟩) n cap) n (setL xs o ys) := by
  induction ys with
  | nil => intro w o xs h; exact h
  | cons y ys ih => intro w o xs h; exact ih _ _ _ (h.stored o y).1
theorem setL_len (ys : List Value) : ∀ (xs : List Value) (o : Nat), (setL xs o ys).length = xs.length := by
  induction ys with
  | nil => intro xs o; rfl
  | cons y ys ih => intro xs o; show (setL _ (o + 1) ys).length = _; rw [ih, List.length_set]
theorem setL_other (ys : List Value) : ∀ (xs : List Value) (o j : Nat), (j < o ∨ o + ys.length ≤ j) → (setL xs o ys)[j]? = xs[j]? := by
  induction ys with
  | nil => intro xs o j _; rfl
  | cons y ys ih =>
    intro xs o j h
    rw [List.length_cons] at h
    show (setL (xs.set o y) (o + 1) ys)[j]? = _
    rw [ih _ _ _ (by omega), List.getElem?_set_ne (by omega)]
theorem setL_at (ys : List Value) : ∀ (xs : List Value) (o j : Nat), j < ys.length → o + ys.length ≤ xs.length → (setL xs o ys)[o + j]? = ys[j]? := by
  induction ys with
  | nil => intro xs o j h; simp at h
  | cons y ys ih =>
    intro xs o j h hl
    rw [List.length_cons] at h hl
    show (setL (xs.set o y) (o + 1) ys)[o + j]? = _
    cases j with
    | zero => rw [setL_other _ _ _ _ (by omega), Nat.add_zero, List.getElem?_set_self (by omega)]; rfl
    | succ j => rw [show o + (j + 1) = o + 1 + j by omega, ih _ _ _ (by omega) (by rw [List.length_set]; omega)]; rfl
/-- One more is laid into the row. -/
theorem GsK.add {X : Type} {e : TypeId} {c : Nat} {O : World → Nat → Nat → List Value → X → Prop} {w w2 : World} {base g n cap : Nat} {xs : List X} {k : Nat} {ys : List Value} {cs : Nat → List Value} {s t : Nat → Nat} {zs : List Value}
    (h : GsK e c O w base w.heap.size (.slice (some ⟨g, 0, none⟩) n cap) n xs k ys cs s t) (hb : base ≤ w.heap.size) (hB : Below w.heap.size w w2) (hk : k < xs.length) (hkn : k < n) (hz : zs.length = c)
    (hO : ∀ lo hi b t cs x (w1 : World), Mid lo hi w2 w1 → O w2 b t cs x → (hi ≤ b ∨ t ≤ lo) → O w1 b t cs x) (hBO : ∀ b t cs x, O w b t cs x → O w2 b t cs x) (hn : O w2 w.heap.size w2.heap.size zs xs[k]) :
    GsK e c O (sets w2 g (k * c) zs) base (sets w2 g (k * c) zs).heap.size (.slice (some ⟨g, 0, none⟩) n cap) n xs (k + 1) (setL ys (k * c) zs) (fun i => if i = k then zs else cs i) (fun i => if i = k then w.heap.size else s i) (fun i => if i = k then w2.heap.size else t i) := by
  have hrow := ownsRow_below h.row hB
  have hlen : ys.length = n * c := h.row.1
  have hs := hB.size
  have hgw : g < w.heap.size := h.rlt g rfl
  have hkc : (k + 1) * c ≤ n * c := Nat.mul_le_mul_right c hkn
  rw [Nat.add_mul, Nat.one_mul] at hkc
  have M := sets_mid g zs w2 (k * c)
  refine ⟨sets_row _ _ _ _ hrow, ?_, ?_, ?_, ?_, ?_, ?_, ?_, ?_, ?_⟩
  · intro g' hg'
    rw [sets_size]
    exact Nat.lt_of_lt_of_le (h.rlt g' hg') hs
  · intro i hi
    by_cases e : i = k
    · rw [if_pos e]; exact hz
    · rw [if_neg e]; exact h.len i (by omega)
  · intro i hi j hj
    by_cases e : i = k
    · subst e
      rw [if_pos rfl]
      exact setL_at _ _ _ _ (by omega) (by omega)
    · rw [if_neg e, setL_other _ _ _ _ (by
        left
        have : (i + 1) * c ≤ k * c := Nat.mul_le_mul_right c (by omega)
        rw [Nat.add_mul, Nat.one_mul] at this
        omega)]
      exact h.cel i (by omega) j hj
  · intro i hi hik
    by_cases e : i = k
    · subst e
      rw [if_pos rfl, if_pos rfl, if_pos rfl]
      exact hO _ _ _ _ _ _ _ M hn (.inl (by omega))
    · rw [if_neg e, if_neg e, if_neg e]
      refine hO _ _ _ _ _ _ _ M (hBO _ _ _ _ (h.own i hi (by omega))) ?_
      rcases h.apart i (by omega) g rfl with h1 | h1
      · exact .inl h1
      · exact .inr h1
  · intro i hi
    by_cases e : i = k
    · rw [if_pos e]; exact hb
    · rw [if_neg e]; exact h.lo i (by omega)
  · intro i hi
    by_cases e : i = k
    · rw [if_pos e, if_pos e]; exact hs
    · rw [if_neg e, if_neg e]; exact h.up i (by omega)
  · intro i j hij hj
    rw [if_neg (by omega)]
    by_cases e : j = k
    · rw [if_pos e]; exact h.hi i (by omega)
    · rw [if_neg e]; exact h.ord i j hij (by omega)
  · intro i hi
    rw [sets_size]
    by_cases e : i = k
    · rw [if_pos e]; exact Nat.le_refl _
    · rw [if_neg e]; exact Nat.le_trans (h.hi i (by omega)) hs
  · intro i hi g' hg'
    by_cases e : i = k
    · rw [if_pos e, if_pos e]
      simp [Value.ownBlock] at hg'
      exact .inl (by omega)
    · rw [if_neg e, if_neg e]
      exact h.apart i (by omega) g' hg'
/-- One more is put behind. -/
theorem GsK.app {X : Type} {e : TypeId} {c : Nat} {O : World → Nat → Nat → List Value → X → Prop} {w w2 w3 : World} {base : Nat} {v v' : Value} {xs : List X} {x : X} {ys : List Value} {cs : Nat → List Value} {s t : Nat → Nat} {zs : List Value} {tmp : Obj}
    (h : GsK e c O w base w.heap.size v xs.length xs xs.length ys cs s t) (hb : base ≤ w.heap.size) (hB : Below w.heap.size w w2) (hz : zs.length = c)
    (hO : ∀ lo hi b t cs x (w1 : World), Mid lo hi w2 w1 → O w2 b t cs x → (hi ≤ b ∨ t ≤ lo) → O w1 b t cs x) (hBO : ∀ b t cs x, O w b t cs x → O w2 b t cs x) (hn : O w2 w.heap.size w2.heap.size zs x)
    (hown : w3.ownsRow base e c v' (xs.length + 1) (ys ++ zs)) (hg : (w2.alloc tmp).grownBy w3 v.ownBlock) (hat : v'.ownBlock = v.ownBlock ∨ v'.ownBlock = some (w2.alloc tmp).heap.size) : GsO e c O w3 base w3.heap.size v' (xs ++ [x]) := by
  have hlen : ys.length = xs.length * c := h.row.1
  have hs := hB.size
  have ha : (w2.alloc tmp).heap.size = w2.heap.size + 1 := by simp
  have hg3 := hg.size
  have keep : ∀ b t cs x, O w2 b t cs x → (∀ g, v.ownBlock = some g → g < b ∨ t ≤ g) → O w3 b t cs x := by
    intro b t cs x h1 h2
    have M0 : Mid 0 0 w2 (w2.alloc tmp) := Mid.of_below ((Below.refl _ _).alloc (Nat.le_refl _) _)
    cases hv : v.ownBlock with
    | none =>
      rw [hv] at hg
      exact hO _ _ _ _ _ _ _ (M0.trans (Mid.of_grown (lo := 0) (hi := 0) hg (fun k hk => by cases hk))) h1 (.inl (Nat.zero_le _))
    | some g =>
      rw [hv] at hg
      have M1 : Mid g (g + 1) w2 (w2.alloc tmp) := Mid.of_below ((Below.refl _ _).alloc (Nat.le_refl _) _)
      exact hO _ _ _ _ _ _ _ (M1.trans (Mid.of_grown (lo := g) (hi := g + 1) hg (fun k hk => by cases hk; omega))) h1 (by have := h2 g hv; omega)
  refine ⟨ys ++ zs, fun i => if i = xs.length then zs else cs i, fun i => if i = xs.length then w.heap.size else s i, fun i => if i = xs.length then w2.heap.size else t i, ?_⟩
  have hl1 : (xs ++ [x]).length = xs.length + 1 := by simp
  rw [hl1]
  refine ⟨hown, fun g hg => (hown.lt g hg).2, ?_, ?_, ?_, ?_, ?_, ?_, ?_, ?_⟩
  · intro i hi
    by_cases e : i = xs.length
    · rw [if_pos e]; exact hz
    · rw [if_neg e]; exact h.len i (by omega)
  · intro i hi j hj
    by_cases e : i = xs.length
    · subst e
      rw [if_pos rfl, List.getElem?_append_right (by omega), hlen, Nat.add_sub_cancel_left]
    · have : (i + 1) * c ≤ xs.length * c := Nat.mul_le_mul_right c (by omega)
      rw [Nat.add_mul, Nat.one_mul] at this
      rw [if_neg e, List.getElem?_append_left (by omega)]
      exact h.cel i (by omega) j hj
  · intro i hi hik
    by_cases e : i = xs.length
    · subst e
      have e2 : (xs ++ [x])[xs.length]'hi = x := by simp
      rw [if_pos rfl, if_pos rfl, if_pos rfl, e2]
      exact keep _ _ _ _ hn (fun g hg => .inl (h.rlt g hg))
    · have hi' : i < xs.length := by omega
      have e2 : (xs ++ [x])[i]'hi = xs[i] := List.getElem_append_left hi'
      rw [if_neg e, if_neg e, if_neg e, e2]
      exact keep _ _ _ _ (hBO _ _ _ _ (h.own i hi' hi')) (h.apart i hi')
  · intro i hi
    by_cases e : i = xs.length
    · rw [if_pos e]; exact hb
    · rw [if_neg e]; exact h.lo i (by omega)
  · intro i hi
    by_cases e : i = xs.length
    · rw [if_pos e, if_pos e]; exact hs
    · rw [if_neg e, if_neg e]; exact h.up i (by omega)
  · intro i j hij hj
    rw [if_neg (by omega)]
    by_cases e : j = xs.length
    · rw [if_pos e]; exact h.hi i (by omega)
    · rw [if_neg e]; exact h.ord i j hij (by omega)
  · intro i hi
    by_cases e : i = xs.length
    · rw [if_pos e]; omega
    · rw [if_neg e]; have := h.hi i (by omega); omega
  · intro i hi g hg'
    have hcase : (v.ownBlock = some g) ∨ g = w2.heap.size + 1 := by
      rcases hat with e | e
      · exact .inl (by rw [← e]; exact hg')
      · rw [e, ha] at hg'
        exact .inr (Option.some.inj hg').symm
    by_cases e : i = xs.length
    · rw [if_pos e, if_pos e]
      rcases hcase with h1 | h1
      · exact .inl (h.rlt g h1)
      · omega
    · rw [if_neg e, if_neg e]
      rcases hcase with h1 | h1
      · exact h.apart i (by omega) g h1
      · have := h.hi i (by omega)
        omega
/-- One of them, where it lies. -/
theorem GsO.at {X : Type} {e : TypeId} {c : Nat} {O : World → Nat → Nat → List Value → X → Prop} {w : World} {base top : Nat} {a : Option Addr} {n cap : Nat} {xs : List X} (h : GsO e c O w base top (.slice a n cap) xs) {i : Nat} (hi : i < xs.length) :
    ∃ g cs lo hi, a = some ⟨g, 0, none⟩ ∧ base ≤ g ∧ g < w.heap.size ∧ n ≤ cap ∧ (∀ j y, cs[j]? = some y → w.cell? ⟨g, i * c + j, none⟩ = some y) ∧ O w lo hi cs xs[i] := by
  obtain ⟨ys, cs, s, t, h⟩ := h
  rcases row_form h.row with ⟨_, h0⟩ | ⟨g, cap', hv, hg, hcap⟩
  · omega
  · cases hv
    refine ⟨g, cs i, s i, t i, rfl, hg, (h.row.lt g rfl).2, hcap, fun j y hy => ?_, h.own i hi hi⟩
    have hj : j < c := by
      have := (List.getElem?_eq_some_iff.1 hy).1
      rwa [h.len i hi] at this
    have hij : i * c + j < xs.length * c := by
      have : (i + 1) * c ≤ xs.length * c := Nat.mul_le_mul_right c hi
      rw [Nat.add_mul, Nat.one_mul] at this
      omega
    rw [h.row.cellAt (i * c + j) hij, h.cel i hi j hj]
    exact hy

/-- How much all of a list counts. -/
def gzTo {X : Type} (f : X → Nat) (xs : List X) (n : Nat) : Nat := ((xs.take n).map f).sum
def gzAll {X : Type} (f : X → Nat) (xs : List X) : Nat := xs.length + gzTo f xs xs.length
theorem gzTo_zero {X : Type} (f : X → Nat) (xs : List X) : gzTo f xs 0 = 0 := by simp [gzTo]
theorem gzTo_succ {X : Type} {f : X → Nat} {xs : List X} {n : Nat} (h : n < xs.length) : gzTo f xs (n + 1) = gzTo f xs n + f xs[n] := by
  unfold gzTo
  rw [List.take_succ_eq_append_getElem h, List.map_append, List.sum_append]
  simp
theorem gzTo_le {X : Type} (f : X → Nat) (xs : List X) (n : Nat) : gzTo f xs n ≤ gzTo f xs xs.length := by
  unfold gzTo
  rw [List.take_length]
  conv => rhs; rw [← List.take_append_drop n xs, List.map_append, List.sum_append]
  omega
theorem gz_mem {X : Type} {f : X → Nat} {xs : List X} {x : X} (h : x ∈ xs) : f x ≤ gzTo f xs xs.length := by
  unfold gzTo
  rw [List.take_length]
  exact sum_mem (List.mem_map.2 ⟨x, h, rfl⟩)
/-- No list is longer than the laws take. -/
def gShort {X : Type} (f : X → Prop) (xs : List X) : Prop := xs.length ≤ 1048576 ∧ ∀ x ∈ xs, f x

set_option maxRecDepth 100000 in
open Go.Deep Go.ChangeShapes Go.WideShapes Go.ChangeAt Go.Joins in
/-- A list that comes in, where its elements' cells can be read. -/
theorem openGs {X : Type} [Inhabited X] {H : Type} {enc : TypeId × Value → H} {W : World} {A : World → List Value → X → Prop} {fits : X → Prop} {ts te : TypeId} {c : Nat} {c0 : Value} {d : DataW H × List MemPlace} {fuel : Nat}
    (hu : Try.prog.underlying ts = some (.slice te)) (hc : Try.prog.cellsOf te = c) (hc0 : 0 < c)
    (hE : ∀ (l : List Value) (y : DataW H × List MemPlace) (m : Nat), l.length = c → DataW.trod enc Try.prog W 0 (fun _ => true) true m te l = some y → ∃ x : X, A W l x ∧ fits x)
    (hf : DataW.trod enc Try.prog W 0 (fun _ => true) true fuel ts [c0] = some d) :
    ∃ (a : Option Addr) (n k : Nat) (xs : List X), c0 = .slice a n k ∧ GsA c A W (.slice a n k) xs ∧ xs.length = n ∧ n ≤ maxLen ∧ ∀ x ∈ xs, fits x := by
  rcases open_slice hu hf with ⟨hcs, _⟩ | ⟨x, n, cap, m, k, D, Pl, hcs, _, hl, hm, hmm, _, hx⟩
  · simp at hcs
    exact ⟨_, _, _, [], hcs, .inl ⟨_, _, rfl, rfl⟩, rfl, Nat.zero_le _, fun r hr => by cases hr⟩
  · simp at hcs
    have hlm : n ≤ m := by rw [hmm]; simpa using hl
    have each : ∀ i, i < n → ∃ s : X, (∃ cs : List Value, cs.length = c ∧ (∀ j y, cs[j]? = some y → W.cell? (x.add (i * c + j)) = some y) ∧ A W cs s) ∧ fits s := by
      intro i hi
      obtain ⟨cs', h1, h2⟩ := hx i (by omega)
      rw [hc] at h1
      obtain ⟨_, hlen, hcell⟩ := World.cells?_some h1
      obtain ⟨s, h3, h4⟩ := hE cs' _ _ hlen h2
      refine ⟨s, ⟨cs', hlen, fun j y hy => ?_, h3⟩, h4⟩
      have hj := (List.getElem?_eq_some_iff.1 hy).1
      have := hcell j (by omega)
      rw [add_add] at this
      rw [this]
      exact hy
    obtain ⟨q, hq⟩ := choose_lt each
    by_cases h0 : n = 0
    · subst h0
      exact ⟨_, _, _, [], hcs, .inl ⟨_, _, rfl, rfl⟩, rfl, Nat.zero_le _, fun r hr => by cases hr⟩
    · obtain ⟨b, off, spot⟩ := x
      obtain ⟨cs, hz0, hz1, _⟩ := (hq 0 (by omega)).1
      have hz := hz1 0 _ (List.getElem?_eq_getElem (by omega))
      have hs : spot = none := by simpa [Addr.add] using World.cell?_spot hz
      subst hs
      have hlt : b < W.heap.size := by
        rw [Addr.add_lit] at hz
        by_cases hb : b < W.heap.size
        · exact hb
        · simp only [World.cell?] at hz
          rw [Array.getElem?_eq_none (by omega)] at hz
          cases hz
      refine ⟨_, _, _, (List.range n).map q, hcs, .inr ⟨b, off, cap, by simp, hlt, by simpa using hl, fun i hi => ?_⟩, by simp, by omega, ?_⟩
      · have hi' : i < n := by simpa using hi
        obtain ⟨cs, h1, h2, h3⟩ := (hq i hi').1
        refine ⟨cs, h1, fun j y hy => ?_, by simpa using h3⟩
        have := h2 j y hy
        rw [Addr.add_lit, ← Nat.add_assoc] at this
        exact this
      · intro r hr
        obtain ⟨i, hi, rfl⟩ := List.mem_map.1 hr
        exact (hq i (List.mem_range.1 hi)).2

end Go.Proofs.Ytnbojbcljfiamaa

namespace Go.Proofs.Ytnbojbcljfiamaa
open Go.RowKit Go.Shelf

/-- A row of structs; those whose places satisfy P are known. -/
structure GsR {X : Type} (P : Nat → Prop) (e : TypeId) (c : Nat) (O : World → Nat → Nat → List Value → X → Prop) (w : World) (base top : Nat) (v : Value) (n : Nat) (xs : List X) (ys : List Value) (cs : Nat → List Value) (s t : Nat → Nat) : Prop where
  ln : xs.length = n
  row : w.ownsRow base e c v n ys
  rlt : ∀ g, v.ownBlock = some g → g < top
  len : ∀ i, i < n → P i → (cs i).length = c
  cel : ∀ i, i < n → P i → ∀ j, j < c → ys[i * c + j]? = (cs i)[j]?
  own : ∀ i (h : i < xs.length), P i → O w (s i) (t i) (cs i) xs[i]
  lo : ∀ i, i < n → base ≤ s i
  up : ∀ i, i < n → s i ≤ t i
  ord : ∀ i j, i < j → j < n → t i ≤ s j
  hi : ∀ i, i < n → t i ≤ top
  apart : ∀ i, i < n → ∀ g, v.ownBlock = some g → g < s i ∨ t i ≤ g
theorem GsK.r {X : Type} {e : TypeId} {c : Nat} {O : World → Nat → Nat → List Value → X → Prop} {w : World} {base top : Nat} {v : Value} {xs : List X} {ys : List Value} {cs : Nat → List Value} {s t : Nat → Nat} (h : GsK e c O w base top v xs.length xs xs.length ys cs s t) : GsR (fun _ => True) e c O w base top v xs.length xs ys cs s t :=
  ⟨rfl, h.row, h.rlt, fun i hi _ => h.len i hi, fun i hi _ => h.cel i hi, fun i hi _ => h.own i hi hi, h.lo, h.up, h.ord, h.hi, h.apart⟩
theorem GsR.k {X : Type} {e : TypeId} {c : Nat} {O : World → Nat → Nat → List Value → X → Prop} {w : World} {base top : Nat} {v : Value} {xs : List X} {ys : List Value} {cs : Nat → List Value} {s t : Nat → Nat} (h : GsR (fun _ => True) e c O w base top v xs.length xs ys cs s t) : GsK e c O w base top v xs.length xs xs.length ys cs s t :=
  ⟨h.row, h.rlt, fun i hi => h.len i hi trivial, fun i hi => h.cel i hi trivial, fun i hi _ => h.own i hi trivial, h.lo, h.up, h.ord, h.hi, h.apart⟩
theorem GsR.weaken {X : Type} {P Q : Nat → Prop} {e : TypeId} {c : Nat} {O : World → Nat → Nat → List Value → X → Prop} {w : World} {base top : Nat} {v : Value} {n : Nat} {xs : List X} {ys : List Value} {cs : Nat → List Value} {s t : Nat → Nat} (h : GsR P e c O w base top v n xs ys cs s t) (hPQ : ∀ i, Q i → P i) : GsR Q e c O w base top v n xs ys cs s t :=
  ⟨h.ln, h.row, h.rlt, fun i hi hq => h.len i hi (hPQ i hq), fun i hi hq => h.cel i hi (hPQ i hq), fun i hi hq => h.own i hi (hPQ i hq), h.lo, h.up, h.ord, h.hi, h.apart⟩
/-- What a call that changes nothing old leaves. -/
theorem GsR.below {X : Type} {P : Nat → Prop} {e : TypeId} {c : Nat} {O : World → Nat → Nat → List Value → X → Prop} {w w1 : World} {base top : Nat} {v : Value} {n : Nat} {xs : List X} {ys : List Value} {cs : Nat → List Value} {s t : Nat → Nat} (h : GsR P e c O w base top v n xs ys cs s t) (hO : ∀ b t cs x, O w b t cs x → O w1 b t cs x) (hB : Below w.heap.size w w1) : GsR P e c O w1 base top v n xs ys cs s t :=
  ⟨h.ln, ownsRow_below h.row hB, h.rlt, h.len, h.cel, fun i hi hp => hO _ _ _ _ (h.own i hi hp), h.lo, h.up, h.ord, h.hi, h.apart⟩
/-- A cell of the j-th one is stored. -/
theorem GsR.store {X : Type} {P : Nat → Prop} {e : TypeId} {c : Nat} {O : World → Nat → Nat → List Value → X → Prop} {w : World} {base top g cap n : Nat} {xs : List X} {ys : List Value} {cs : Nat → List Value} {s t : Nat → Nat} (h : GsR P e c O w base top (.slice (some ⟨g, 0, none⟩) n cap) n xs ys cs s t)
    (hO : ∀ lo hi b t cs x (w1 : World), Mid lo hi w w1 → O w b t cs x → (hi ≤ b ∨ t ≤ lo) → O w1 b t cs x) {j m : Nat} (hP : ∀ i, P i → i ≠ j) (hm : m < c) (u : Value) :
    GsR P e c O (w.setCell ⟨g, j * c + m, none⟩ u) base top (.slice (some ⟨g, 0, none⟩) n cap) n xs (ys.set (j * c + m) u) cs s t := by
  have M : Mid g (g + 1) w (w.setCell ⟨g, j * c + m, none⟩ u) := (Mid.of_below (Below.refl _ _)).set (p := ⟨g, j * c + m, none⟩) (Nat.le_refl _) (Nat.lt_succ_self _) u
  refine ⟨h.ln, (h.row.stored _ u).1, h.rlt, h.len, ?_, ?_, h.lo, h.up, h.ord, h.hi, h.apart⟩
  · intro i hi hp k hk
    have hne := hP i hp
    rw [List.getElem?_set_ne]
    · exact h.cel i hi hp k hk
    · intro he
      rcases Nat.lt_or_gt_of_ne hne with h1 | h1
      · have : (i + 1) * c ≤ j * c := Nat.mul_le_mul_right c h1
        rw [Nat.add_mul, Nat.one_mul] at this
        omega
      · have : (j + 1) * c ≤ i * c := Nat.mul_le_mul_right c h1
        rw [Nat.add_mul, Nat.one_mul] at this
        omega
  · intro i hi hp
    exact hO _ _ _ _ _ _ _ M (h.own i hi hp) (by have := h.apart i (by rw [← h.ln]; exact hi) g rfl; omega)
/-- What the j-th one has of its own is marked. -/
theorem GsR.inn {X : Type} {P : Nat → Prop} {e : TypeId} {c : Nat} {O : World → Nat → Nat → List Value → X → Prop} {w w1 : World} {base top : Nat} {v : Value} {n : Nat} {xs : List X} {ys : List Value} {cs : Nat → List Value} {s t : Nat → Nat} (h : GsR P e c O w base top v n xs ys cs s t)
    (hO : ∀ lo hi b t cs x (w1 : World), Mid lo hi w w1 → O w b t cs x → (hi ≤ b ∨ t ≤ lo) → O w1 b t cs x) {j lo hi : Nat} (hj : j < n) (hP : ∀ i, P i → i ≠ j) (M : Mid lo hi w w1) (h1 : s j ≤ lo) (h2 : hi ≤ t j) : GsR P e c O w1 base top v n xs ys cs s t := by
  refine ⟨h.ln, M.row h.row (fun g hg => by have := h.apart j hj g hg; omega), h.rlt, h.len, h.cel, ?_, h.lo, h.up, h.ord, h.hi, h.apart⟩
  intro i hi' hp
  refine hO _ _ _ _ _ _ _ M (h.own i hi' hp) ?_
  rcases Nat.lt_or_gt_of_ne (hP i hp) with h3 | h3
  · have := h.ord i j h3 hj
    omega
  · have := h.ord j i h3 (by rw [← h.ln]; exact hi')
    omega
/-- The j-th one is there again. -/
theorem GsR.fill {X : Type} {e : TypeId} {c : Nat} {O : World → Nat → Nat → List Value → X → Prop} {w : World} {base top : Nat} {v : Value} {n : Nat} {xs : List X} {ys : List Value} {cs : Nat → List Value} {s t : Nat → Nat} {j : Nat} (h : GsR (fun i => i ≠ j) e c O w base top v n xs ys cs s t) (hj : j < n) {zs : List Value} {x : X}
    (hz : zs.length = c) (hc : ∀ m, m < c → ys[j * c + m]? = zs[m]?) (ho : O w (s j) (t j) zs x) : GsR (fun _ => True) e c O w base top v n (xs.set j x) ys (fun i => if i = j then zs else cs i) s t := by
  have hl : (xs.set j x).length = xs.length := List.length_set
  refine ⟨by rw [hl]; exact h.ln, h.row, h.rlt, ?_, ?_, ?_, h.lo, h.up, h.ord, h.hi, h.apart⟩
  · intro i hi _
    by_cases e : i = j
    · rw [if_pos e]; exact hz
    · rw [if_neg e]; exact h.len i hi e
  · intro i hi _ m hm
    by_cases e : i = j
    · subst e
      rw [if_pos rfl]; exact hc m hm
    · rw [if_neg e]; exact h.cel i hi e m hm
  · intro i hi _
    have hi' : i < xs.length := by rwa [hl] at hi
    by_cases e : i = j
    · subst e
      rw [if_pos rfl, List.getElem_set_self]
      exact ho
    · rw [if_neg e, List.getElem_set_ne (by omega)]
      exact h.own i hi' e
theorem GsR.at {X : Type} {P : Nat → Prop} {e : TypeId} {c : Nat} {O : World → Nat → Nat → List Value → X → Prop} {w : World} {base top g cap n : Nat} {xs : List X} {ys : List Value} {cs : Nat → List Value} {s t : Nat → Nat} (h : GsR P e c O w base top (.slice (some ⟨g, 0, none⟩) n cap) n xs ys cs s t) {i j : Nat} (hi : i < n) (hp : P i) {y : Value} (hj : (cs i)[j]? = some y) : ys[i * c + j]? = some y := by
  have := (List.getElem?_eq_some_iff.1 hj).1
  rw [h.len i hi hp] at this
  rw [h.cel i hi hp j this]
  exact hj
theorem GsR.cell {X : Type} {P : Nat → Prop} {e : TypeId} {c : Nat} {O : World → Nat → Nat → List Value → X → Prop} {w : World} {base top g cap n : Nat} {xs : List X} {ys : List Value} {cs : Nat → List Value} {s t : Nat → Nat} (h : GsR P e c O w base top (.slice (some ⟨g, 0, none⟩) n cap) n xs ys cs s t) {i j : Nat} (hi : i < n) (hj : j < c) : w.cell? ⟨g, i * c + j, none⟩ = ys[i * c + j]? ∧ w.frozen? ⟨g, i * c + j, none⟩ = false ∧ i * c + j < ys.length := by
  have hij : i * c + j < n * c := by
    have : (i + 1) * c ≤ n * c := Nat.mul_le_mul_right c hi
    rw [Nat.add_mul, Nat.one_mul] at this
    omega
  exact ⟨h.row.cellAt _ hij, h.row.frozenAt _, by rw [h.row.1]; exact hij⟩
/-- A cell that holds something. -/
theorem GsR.some {X : Type} {P : Nat → Prop} {e : TypeId} {c : Nat} {O : World → Nat → Nat → List Value → X → Prop} {w : World} {base top g cap n : Nat} {xs : List X} {ys : List Value} {cs : Nat → List Value} {s t : Nat → Nat} (h : GsR P e c O w base top (.slice (some ⟨g, 0, none⟩) n cap) n xs ys cs s t) {i j : Nat} (hi : i < n) (hj : j < c) : ∃ u, w.cell? ⟨g, i * c + j, none⟩ = Option.some u := by
  obtain ⟨h1, _, h2⟩ := h.cell hi hj
  exact ⟨_, by rw [h1, List.getElem?_eq_getElem h2]⟩

theorem Mid.wide {lo hi lo' hi' : Nat} {w w1 : World} (h : Mid lo hi w w1) (h1 : lo' ≤ lo) (h2 : hi ≤ hi') : Mid lo' hi' w w1 := ⟨h.os, h.tape, h.output, h.size, fun k hk hn => h.block k hk (by omega)⟩
/-- A row stays where one of another kind is marked. -/
theorem RoO.kept {T T2 : TypeId} {c c2 : Nat} {w w1 : World} {base base2 top : Nat} {v v2 : Value} {n n2 : Nat} {xs xs2 : List Value} (h : RoO T c w base top v n xs) (hr : w.ownsRow base2 T2 c2 v2 n2 xs2) (hne : T ≠ T2) (hg : w.grownBy w1 v2.ownBlock) : RoO T c w1 base top v n xs :=
  ⟨kept_apart h.1 hg (row_apart h.1 hr hne), h.2⟩

end Go.Proofs.Ytnbojbcljfiamaa

namespace Go.Proofs.Ytnbojbcljfiamaa
open Go.RowKit Go.Shelf

/-- 3 cells that are a block of their own. -/
def Three (w : World) (t : TypeId) (k : Nat) (a b c : Value) : Prop := w.ownsRow k t 3 (.slice (some ⟨k, 0, none⟩) 1 1) 1 [a, b, c]
theorem Three.at (w : World) (a b c : Value) (t : TypeId) {k : Nat} (hk : k = w.heap.size) : Three (w.alloc (.cells #[a, b, c] t)) t k a b c := by
  subst hk
  exact ⟨rfl, .inr ⟨w.heap.size, 1, #[a, b, c], rfl, Nat.le_refl _, by show (w.heap.push _)[w.heap.size]? = _; rw [Array.getElem?_push_size], Nat.le_refl _, by unfold maxLen; omega, rfl, rfl⟩⟩
theorem Three.new (w : World) (a b c : Value) (t : TypeId) : Three (w.alloc (.cells #[a, b, c] t)) t w.heap.size a b c := Three.at w a b c t rfl
theorem Three.below {w' : World} {w : World} {t : TypeId} {k : Nat} {a b c : Value} (h : Three w t k a b c) (hB : Below w.heap.size w w') : Three w' t k a b c := ownsRow_below h hB
theorem Three.c {w : World} {t : TypeId} {k : Nat} {a b c : Value} (h : Three w t k a b c) : w.cell? ⟨k, 0, none⟩ = some a ∧ w.cell? ⟨k, 1, none⟩ = some b ∧ w.cell? ⟨k, 2, none⟩ = some c :=
  ⟨World.ownsRow.cellAt h 0 (by omega), World.ownsRow.cellAt h 1 (by omega), World.ownsRow.cellAt h 2 (by omega)⟩
theorem Three.f {w : World} {t : TypeId} {k : Nat} {a b c : Value} (h : Three w t k a b c) (j : Nat) : w.frozen? ⟨k, j, none⟩ = false := World.ownsRow.frozenAt h j
theorem Three.s0 {w : World} {t : TypeId} {k : Nat} {a b c : Value} (h : Three w t k a b c) (x : Value) : Three (w.setCell ⟨k, 0, none⟩ x) t k x b c := (World.ownsRow.stored h 0 x).1
theorem Three.s1 {w : World} {t : TypeId} {k : Nat} {a b c : Value} (h : Three w t k a b c) (x : Value) : Three (w.setCell ⟨k, 1, none⟩ x) t k a x c := (World.ownsRow.stored h 1 x).1
theorem Three.s2 {w : World} {t : TypeId} {k : Nat} {a b c : Value} (h : Three w t k a b c) (x : Value) : Three (w.setCell ⟨k, 2, none⟩ x) t k a b x := (World.ownsRow.stored h 2 x).1
theorem Three.other {w : World} {t : TypeId} {k : Nat} {a b c : Value} (h : Three w t k a b c) {k' : Nat} (hk : k ≠ k') (j : Nat) (x : Value) : Three (w.setCell ⟨k', j, none⟩ x) t k a b c := ownsRow_setCell_other h (by simpa [Value.ownBlock] using hk) x
theorem Three.lt {w : World} {t : TypeId} {k : Nat} {a b c : Value} (h : Three w t k a b c) : k < w.heap.size := (World.ownsRow.lt h k rfl).2
theorem Mid.three {lo hi : Nat} {w1 : World} {w : World} {t : TypeId} {k : Nat} {a b c : Value} (h : Mid lo hi w w1) (hr : Three w t k a b c) (ho : k < lo ∨ hi ≤ k) : Three w1 t k a b c :=
  h.row hr (fun j hj => by simp [Value.ownBlock] at hj; omega)
theorem row_three {w : World} {base : Nat} {e : TypeId} {size n : Nat} {v : Value} {xs : List Value} (h : w.ownsRow base e size v n xs) {k : Nat} (hk : k < base) (x0 x1 x2 : Value) : (((w.setCell ⟨k, 0, none⟩ x0).setCell ⟨k, 1, none⟩ x1).setCell ⟨k, 2, none⟩ x2).ownsRow base e size v n xs :=
  (ownsRow_setCell_below (ownsRow_setCell_below (ownsRow_setCell_below h (a := ⟨k, 0, none⟩) hk x0) (a := ⟨k, 1, none⟩) hk x1) (a := ⟨k, 2, none⟩) hk x2)
theorem below_three {n k : Nat} {w W : World} (h : Below n w W) (hk : n ≤ k) (x0 x1 x2 : Value) : Below n w (((W.setCell ⟨k, 0, none⟩ x0).setCell ⟨k, 1, none⟩ x1).setCell ⟨k, 2, none⟩ x2) :=
  (((h.setCell (p := ⟨k, 0, none⟩) hk x0).setCell (p := ⟨k, 1, none⟩) hk x1).setCell (p := ⟨k, 2, none⟩) hk x2)

/-- 5 cells that are a block of their own. -/
def Five (w : World) (t : TypeId) (k : Nat) (a b c d e : Value) : Prop := w.ownsRow k t 5 (.slice (some ⟨k, 0, none⟩) 1 1) 1 [a, b, c, d, e]
theorem Five.at (w : World) (a b c d e : Value) (t : TypeId) {k : Nat} (hk : k = w.heap.size) : Five (w.alloc (.cells #[a, b, c, d, e] t)) t k a b c d e := by
  subst hk
  exact ⟨rfl, .inr ⟨w.heap.size, 1, #[a, b, c, d, e], rfl, Nat.le_refl _, by show (w.heap.push _)[w.heap.size]? = _; rw [Array.getElem?_push_size], Nat.le_refl _, by unfold maxLen; omega, rfl, rfl⟩⟩
theorem Five.new (w : World) (a b c d e : Value) (t : TypeId) : Five (w.alloc (.cells #[a, b, c, d, e] t)) t w.heap.size a b c d e := Five.at w a b c d e t rfl
theorem Five.below {w' : World} {w : World} {t : TypeId} {k : Nat} {a b c d e : Value} (h : Five w t k a b c d e) (hB : Below w.heap.size w w') : Five w' t k a b c d e := ownsRow_below h hB
theorem Five.c {w : World} {t : TypeId} {k : Nat} {a b c d e : Value} (h : Five w t k a b c d e) : w.cell? ⟨k, 0, none⟩ = some a ∧ w.cell? ⟨k, 1, none⟩ = some b ∧ w.cell? ⟨k, 2, none⟩ = some c ∧ w.cell? ⟨k, 3, none⟩ = some d ∧ w.cell? ⟨k, 4, none⟩ = some e :=
  ⟨World.ownsRow.cellAt h 0 (by omega), World.ownsRow.cellAt h 1 (by omega), World.ownsRow.cellAt h 2 (by omega), World.ownsRow.cellAt h 3 (by omega), World.ownsRow.cellAt h 4 (by omega)⟩
theorem Five.f {w : World} {t : TypeId} {k : Nat} {a b c d e : Value} (h : Five w t k a b c d e) (j : Nat) : w.frozen? ⟨k, j, none⟩ = false := World.ownsRow.frozenAt h j
theorem Five.s0 {w : World} {t : TypeId} {k : Nat} {a b c d e : Value} (h : Five w t k a b c d e) (x : Value) : Five (w.setCell ⟨k, 0, none⟩ x) t k x b c d e := (World.ownsRow.stored h 0 x).1
theorem Five.s1 {w : World} {t : TypeId} {k : Nat} {a b c d e : Value} (h : Five w t k a b c d e) (x : Value) : Five (w.setCell ⟨k, 1, none⟩ x) t k a x c d e := (World.ownsRow.stored h 1 x).1
theorem Five.s2 {w : World} {t : TypeId} {k : Nat} {a b c d e : Value} (h : Five w t k a b c d e) (x : Value) : Five (w.setCell ⟨k, 2, none⟩ x) t k a b x d e := (World.ownsRow.stored h 2 x).1
theorem Five.s3 {w : World} {t : TypeId} {k : Nat} {a b c d e : Value} (h : Five w t k a b c d e) (x : Value) : Five (w.setCell ⟨k, 3, none⟩ x) t k a b c x e := (World.ownsRow.stored h 3 x).1
theorem Five.s4 {w : World} {t : TypeId} {k : Nat} {a b c d e : Value} (h : Five w t k a b c d e) (x : Value) : Five (w.setCell ⟨k, 4, none⟩ x) t k a b c d x := (World.ownsRow.stored h 4 x).1
theorem Five.other {w : World} {t : TypeId} {k : Nat} {a b c d e : Value} (h : Five w t k a b c d e) {k' : Nat} (hk : k ≠ k') (j : Nat) (x : Value) : Five (w.setCell ⟨k', j, none⟩ x) t k a b c d e := ownsRow_setCell_other h (by simpa [Value.ownBlock] using hk) x
theorem Five.lt {w : World} {t : TypeId} {k : Nat} {a b c d e : Value} (h : Five w t k a b c d e) : k < w.heap.size := (World.ownsRow.lt h k rfl).2
theorem Mid.five {lo hi : Nat} {w1 : World} {w : World} {t : TypeId} {k : Nat} {a b c d e : Value} (h : Mid lo hi w w1) (hr : Five w t k a b c d e) (ho : k < lo ∨ hi ≤ k) : Five w1 t k a b c d e :=
  h.row hr (fun j hj => by simp [Value.ownBlock] at hj; omega)
theorem row_five {w : World} {base : Nat} {e : TypeId} {size n : Nat} {v : Value} {xs : List Value} (h : w.ownsRow base e size v n xs) {k : Nat} (hk : k < base) (x0 x1 x2 x3 x4 : Value) : (((((w.setCell ⟨k, 0, none⟩ x0).setCell ⟨k, 1, none⟩ x1).setCell ⟨k, 2, none⟩ x2).setCell ⟨k, 3, none⟩ x3).setCell ⟨k, 4, none⟩ x4).ownsRow base e size v n xs :=
  (ownsRow_setCell_below (ownsRow_setCell_below (ownsRow_setCell_below (ownsRow_setCell_below (ownsRow_setCell_below h (a := ⟨k, 0, none⟩) hk x0) (a := ⟨k, 1, none⟩) hk x1) (a := ⟨k, 2, none⟩) hk x2) (a := ⟨k, 3, none⟩) hk x3) (a := ⟨k, 4, none⟩) hk x4)
theorem below_five {n k : Nat} {w W : World} (h : Below n w W) (hk : n ≤ k) (x0 x1 x2 x3 x4 : Value) : Below n w (((((W.setCell ⟨k, 0, none⟩ x0).setCell ⟨k, 1, none⟩ x1).setCell ⟨k, 2, none⟩ x2).setCell ⟨k, 3, none⟩ x3).setCell ⟨k, 4, none⟩ x4) :=
  (((((h.setCell (p := ⟨k, 0, none⟩) hk x0).setCell (p := ⟨k, 1, none⟩) hk x1).setCell (p := ⟨k, 2, none⟩) hk x2).setCell (p := ⟨k, 3, none⟩) hk x3).setCell (p := ⟨k, 4, none⟩) hk x4)

end Go.Proofs.Ytnbojbcljfiamaa

namespace Go.Proofs
open Go.Shelf
def Try.cloneLk_ren : Go.Shelf.Ren := ⟨fun | 41 => 39 | n => n, fun | 22 => 63 | 23 => 75 | 4 => 4 | n => n, fun | n => n⟩
theorem Try.cloneLk : Go.Proofs.SlLaysE0.n41 Try.prog Try.cloneLk_ren := {
  mixed := by kernel_rfl
  f41 := ⟨Try.f39.name, by decide, Try.func39.trans (congrArg some (by kernel_rfl))⟩
  t4 := Try.underlying4
  a4 := Try.isAgg4
  z4 := Try.sizeOf4
  v4 := Try.zeroValue4
  t22 := Try.underlying63
  a22 := Try.isAgg63
  z22 := Try.sizeOf63
  v22 := Try.zeroValue63 }
end Go.Proofs

namespace Go.Proofs.Ytnbojbcljfiamaa
open Go.RowKit Go.Shelf
attribute [local go_sem] Oper.semAt_some

theorem cell_one_at (w : World) (x : Value) (t : TypeId) (n : Nat) (hn : n = w.heap.size) : ∀ j u, [x][j]? = some u → (w.alloc (.cells #[x] t)).cell? ((⟨n, 0, none⟩ : Addr).add j) = some u := by
  subst hn
  exact cell_one_new w x t

end Go.Proofs.Ytnbojbcljfiamaa

namespace Go.Proofs.Ytnbojbcljfiamaa
open Go.RowKit Go.Shelf

/-- A row of texts, cell by cell. -/
theorem row_cell {w : World} {base g cap : Nat} {xs : List ByteArray} (hrow : w.ownsRow base 9 1 (.slice (some ⟨g, 0, none⟩) xs.length cap) xs.length (xs.map Value.string)) (k : Nat) (h : k < xs.length) : w.cell? ⟨g, k, none⟩ = some (.string xs[k]) := by
  rw [hrow.cellAt k (by omega)]
  simp [h]

theorem gnB_two (x y : ByteArray) : gnB [x, y] = (wordB x && wordB y) := by simp [gnB]
theorem gnB_no {l : List ByteArray} (h : ¬ l.length = 2) : gnB l = false := by simp [gnB, h]
theorem gnB_nm (l : List ByteArray) (h : nmB l = true) : gnB l = l.all wordB := by
  rw [nmB_eq] at h
  simp at h
  simp [gnB, h.1]
theorem gnB_not (l : List ByteArray) (h : nmB l = false) : gnB l = false := by
  rw [nmB_eq] at h
  cases e : gnB l with
  | false => rfl
  | true =>
    simp [gnB] at e
    have : l.all wsB = true := by
      rw [List.all_eq_true]
      intro x hx
      simp [wsB, e.2 x hx]
    rw [this] at h
    simp [e.1] at h
theorem two_of {l : List ByteArray} (h : l.length = 2) : ∃ x y, l = [x, y] := by
  match l, h with
  | [x, y], _ => exact ⟨x, y, rfl⟩

/-- A row of two texts. -/
theorem row_two {w : World} {base : Nat} {v : Value} {x y : ByteArray} (hrow : w.ownsRow base 9 1 v [x, y].length ([x, y].map Value.string)) : ∃ g cap, v = .slice (some ⟨g, 0, none⟩) 2 cap ∧ w.cell? ⟨g, 0, none⟩ = some (.string x) ∧ w.cell? ⟨g, 1, none⟩ = some (.string y) := by
  obtain ⟨g, cap, rfl⟩ := ownsRow_succ hrow
  exact ⟨g, cap, rfl, row_cell (xs := [x, y]) hrow 0 (by simp), row_cell (xs := [x, y]) hrow 1 (by simp)⟩

end Go.Proofs.Ytnbojbcljfiamaa

namespace Go.Proofs.Ytnbojbcljfiamaa
open Go.RowKit Go.Shelf

theorem ptLs_len (s : ByteArray) : (ptLs s).length ≤ s.size + 1 := by
  unfold ptLs
  split
  · exact wL_len s
  · simp

end Go.Proofs.Ytnbojbcljfiamaa

namespace Go.Proofs.Ytnbojbcljfiamaa
open Go.RowKit Go.Shelf

end Go.Proofs.Ytnbojbcljfiamaa

namespace Go.Proofs.Ytnbojbcljfiamaa
open Go.RowKit Go.Shelf

/-- A rule, and a call. -/
structure Ru where
  deny : Bool
  who : ByteArray
  method : ByteArray
  path : ByteArray
structure Ca where
  who : ByteArray
  method : ByteArray
  path : ByteArray
def Ru.size (r : Ru) : Nat := r.who.size + r.method.size + r.path.size
def Ca.size (c : Ca) : Nat := c.who.size + c.method.size + c.path.size
abbrev Ru.val (r : Ru) : Value := .agg #[.bool r.deny, .string r.who, .string r.method, .string r.path]
abbrev Ca.val (c : Ca) : Value := .agg #[.string c.who, .string c.method, .string c.path]
/-- The methods. -/
def getB (s : ByteArray) : Bool := s.toList == [103, 101, 116]
def putB (s : ByteArray) : Bool := s.toList == [112, 117, 116]
def mthB (s : ByteArray) : Bool := getB s || putB s
def Ru.good (r : Ru) : Bool := (nmB (split r.who 47) && ptBs r.path) && (mthB r.method || starB r.method)
def Ca.good (c : Ca) : Bool := (gnB (split c.who 47) && gpB c.path) && mthB c.method

set_option maxHeartbeats 1000000 in
theorem toRule_any (r : Ru) (w : World) :
    Calls Try.prog 101 #[r.val] w fun e w' => e = .returned r.val ∧ Below w.heap.size w w' := by
  go_enter Try.func101, Try.ntmps101
  go_wp2
  exact bodyPost_ret (v := r.val) (by simp [results, Try.results101, go_sem]) rfl ⟨rfl, (((Below.refl _ w).alloc (Nat.le_refl _) _).alloc (by simp) _).alloc (by simp; omega) _⟩

/-- What is left of a budget. -/
def left3 (n : Int) (a b c : Nat) : Int := if (a : Int) + b + c ≤ n then n - a - b - c else -1

set_option maxHeartbeats 1000000 in
theorem szRule_any (r : Ru) (n : Int) (w : World) (h0 : 0 ≤ n) (h1 : n ≤ 1048576) (ha : r.who.size ≤ maxLen) (hb : r.method.size ≤ maxLen) (hc : r.path.size ≤ maxLen) :
    Calls Try.prog 97 #[r.val, .int .i64 n] w fun e w' => e = .returned (.int .i64 (left3 n r.who.size r.method.size r.path.size)) ∧ Below w.heap.size w w' := by
  unfold maxLen at ha hb hc
  by_cases c1 : n < r.who.size
  · have HR := hid (show left3 n r.who.size r.method.size r.path.size = -1 from if_neg (by omega))
    go_enter Try.func97, Try.ntmps97
    go_wp2
    go_ret
    exact ⟨ret_int HR.out.symm, (Below.refl _ w).alloc (Nat.le_refl _) _⟩
  · by_cases c2 : n - r.who.size < r.method.size
    · have HR := hid (show left3 n r.who.size r.method.size r.path.size = -1 from if_neg (by omega))
      go_enter Try.func97, Try.ntmps97
      go_wp2
      go_ret
      exact ⟨ret_int HR.out.symm, (Below.refl _ w).alloc (Nat.le_refl _) _⟩
    · by_cases c3 : n - r.who.size - r.method.size < r.path.size
      · have HR := hid (show left3 n r.who.size r.method.size r.path.size = -1 from if_neg (by omega))
        go_enter Try.func97, Try.ntmps97
        go_wp2
        go_ret
        exact ⟨ret_int HR.out.symm, (Below.refl _ w).alloc (Nat.le_refl _) _⟩
      · have HR := hid (show left3 n r.who.size r.method.size r.path.size = n - r.who.size - r.method.size - r.path.size from if_pos (by omega))
        go_enter Try.func97, Try.ntmps97
        go_wp2
        go_ret
        exact ⟨ret_int HR.out.symm, (Below.refl _ w).alloc (Nat.le_refl _) _⟩

end Go.Proofs.Ytnbojbcljfiamaa

namespace Go.Proofs.Ytnbojbcljfiamaa
open Go.RowKit Go.Shelf

/-- The text of a rule. -/
def Ru.text (r : Ru) : ByteArray := (if r.deny = true then ⟨#[100, 101, 110, 121, 32]⟩ else ⟨#[97, 108, 108, 111, 119, 32]⟩) ++ r.who ++ ⟨#[32]⟩ ++ r.method ++ ⟨#[32]⟩ ++ r.path
def Ru.textG (r : Ru) : ByteArray := if r.good = true then r.text else ⟨#[]⟩

end Go.Proofs.Ytnbojbcljfiamaa

namespace Go.Proofs.Ytnbojbcljfiamaa
open Go.RowKit Go.Shelf Go.WideMaps Go.Maps

/-- The methods that a rule may have, as the program's map holds them. -/
abbrev one1 : DataW Unit := .lit (.int .i64 1)
def kD : DataW Unit := (((DataW.map []).put (.string [103, 101, 116]) one1).put (.string [112, 117, 116]) one1).put (.string [42]) one1
def rmB (s : ByteArray) : Bool := mthB s || starB s
theorem key_str (l : List UInt8) : WideAt.IsKeyLit (.string l) := by trivial
theorem ne_str {a b : List UInt8} (h : a ≠ b) : Lit.string a ≠ .string b := fun e => h (by injection e)
theorem kD_yes {s : ByteArray} (h : rmB s = true) : kD.atKey (.string s.data.toList) (.lit (.int .i64 0)) = .lit (.int .i64 1) := by
  unfold kD
  by_cases h3 : s.data.toList = [42]
  · rw [h3]; exact atKey_put_same ((isMap_empty.put _ _).put _ _) (key_str _) _ _
  · rw [atKey_put_other (ne_str h3)]
    by_cases h2 : s.data.toList = [112, 117, 116]
    · rw [h2]; exact atKey_put_same (isMap_empty.put _ _) (key_str _) _ _
    · rw [atKey_put_other (ne_str h2)]
      by_cases h1 : s.data.toList = [103, 101, 116]
      · rw [h1]; exact atKey_put_same isMap_empty (key_str _) _ _
      · simp [rmB, mthB, getB, putB, starB, toList_data, h1, h2, h3] at h
theorem kD_no {s : ByteArray} (h : rmB s = false) : kD.atKey (.string s.data.toList) (.lit (.int .i64 0)) = .lit (.int .i64 0) := by
  simp [rmB, mthB, getB, putB, starB, toList_data] at h
  obtain ⟨⟨h1, h2⟩, h3⟩ := h
  unfold kD
  rw [atKey_put_other (ne_str h3), atKey_put_other (ne_str h2), atKey_put_other (ne_str h1)]
  rfl

theorem lawStr : Keyed Try.prog 9 := string_keyed Try.underlying9
theorem zeroInt (w : World) : (zeroValue 3).run Try.prog w = .ok (.int .i64 0) w := by kernel_rfl
theorem good_eq (r : Ru) : r.good = ((rmB r.method && nmB (split r.who 47)) && ptBs r.path) := by
  unfold Ru.good rmB
  cases nmB (split r.who 47) <;> cases ptBs r.path <;> cases (mthB r.method || starB r.method) <;> rfl

def rmI (s : ByteArray) : Int := if rmB s = true then 1 else 0

end Go.Proofs.Ytnbojbcljfiamaa

namespace Go.Proofs.Ytnbojbcljfiamaa
open Go.RowKit Go.Shelf

theorem cgood_eq (c : Ca) : c.good = ((mthB c.method && gnB (split c.who 47)) && gpB c.path) := by
  unfold Ca.good
  cases gnB (split c.who 47) <;> cases gpB c.path <;> cases mthB c.method <;> rfl

abbrev Ru.obj (r : Ru) : Obj := .cells #[.bool r.deny, .string r.who, .string r.method, .string r.path] 135

end Go.Proofs.Ytnbojbcljfiamaa

namespace Go.Proofs.Ytnbojbcljfiamaa
open Go.ChangeShapes Go.WideShapes Go.ChangeAt Go.RowKit Go.Joins Go.Deep

/-- Its texts are no longer than a text may be. -/
def Ru.fits (r : Ru) : Prop := r.who.size ≤ maxLen ∧ r.method.size ≤ maxLen ∧ r.path.size ≤ maxLen
def Ca.fits (r : Ca) : Prop := r.who.size ≤ maxLen ∧ r.method.size ≤ maxLen ∧ r.path.size ≤ maxLen

set_option maxRecDepth 100000 in
theorem cellsRule : Try.prog.cellsOf 157 = 4 := by kernel_rfl
set_option maxRecDepth 100000 in
theorem openRu {H : Type} {enc : TypeId × Value → H} {W : World} {base : Nat} {v : Value} {d : DataW H} {p : List MemPlace} (hv : Value.okWide Try.prog W .any base 157 v) (h : DataW.Trod enc Try.prog W 0 (fun _ => true) true 157 v d p) :
    ∃ r : Ru, v = r.val ∧ r.fits := by
  obtain ⟨c0, c1, c2, c3, y0, y1, y2, y3, m, rfl, _, _, h0, h1, h2, h3⟩ := open_agg4 Try.underlying157 (by kernel_rfl) cellsRule hv h
  obtain ⟨x0, e0, _⟩ := DataW.trod_bool Try.underlying4 h0
  obtain ⟨x1, e1, _, w1⟩ := DataW.trod_string Try.underlying9 h1
  obtain ⟨x2, e2, _, w2⟩ := DataW.trod_string Try.underlying9 h2
  obtain ⟨x3, e3, _, w3⟩ := DataW.trod_string Try.underlying9 h3
  simp only [List.cons.injEq, and_true] at e0 e1 e2 e3
  subst e0 e1 e2 e3
  exact ⟨⟨x0, x1, x2, x3⟩, rfl, w1, w2, w3⟩

end Go.Proofs.Ytnbojbcljfiamaa

namespace Go.Proofs.Ytnbojbcljfiamaa
open Go.RowKit Go.Shelf

/-- A rule lies in memory. -/
def RuAt (w : World) (b o : Nat) (r : Ru) : Prop := w.cell? ⟨b, o, none⟩ = some (.bool r.deny) ∧ w.cell? ⟨b, o + 1, none⟩ = some (.string r.who) ∧ w.cell? ⟨b, o + 2, none⟩ = some (.string r.method) ∧ w.cell? ⟨b, o + 3, none⟩ = some (.string r.path)
/-- A slice reads as this list of rules. -/
def RuS (w : World) (v : Value) (rs : List Ru) : Prop :=
  (∃ a cap, v = .slice a 0 cap ∧ rs = []) ∨
  ∃ b off cap, v = .slice (some ⟨b, off, none⟩) rs.length cap ∧ b < w.heap.size ∧ rs.length ≤ cap ∧ ∀ k (h : k < rs.length), RuAt w b (off + k * 4) rs[k]
theorem RuAt.below {w w' : World} {b o : Nat} {r : Ru} (h : RuAt w b o r) (hb : b < w.heap.size) (hB : Below w.heap.size w w') : RuAt w' b o r :=
  ⟨(hB.cell (p := ⟨b, o, none⟩) hb).trans h.1, (hB.cell (p := ⟨b, o + 1, none⟩) hb).trans h.2.1, (hB.cell (p := ⟨b, o + 2, none⟩) hb).trans h.2.2.1, (hB.cell (p := ⟨b, o + 3, none⟩) hb).trans h.2.2.2⟩
theorem RuS.below {w w' : World} {v : Value} {rs : List Ru} (h : RuS w v rs) (hB : Below w.heap.size w w') : RuS w' v rs := by
  rcases h with h | ⟨b, off, cap, hv, hb, hl, hc⟩
  · exact .inl h
  · exact .inr ⟨b, off, cap, hv, Nat.lt_of_lt_of_le hb hB.size, hl, fun k hk => (hc k hk).below hb hB⟩
theorem RuS.len {w : World} {v : Value} {rs : List Ru} (h : RuS w v rs) : ∃ a cap, v = .slice a rs.length cap := by
  rcases h with ⟨a, cap, hv, rfl⟩ | ⟨b, off, cap, hv, _⟩
  · exact ⟨a, cap, hv⟩
  · exact ⟨_, cap, hv⟩
theorem RuS.at {w : World} {a : Option Addr} {n cap : Nat} {rs : List Ru} (h : RuS w (.slice a n cap) rs) {k : Nat} (hk : k < rs.length) : ∃ b off, a = some ⟨b, off, none⟩ ∧ b < w.heap.size ∧ n ≤ cap ∧ RuAt w b (off + k * 4) rs[k] := by
  rcases h with ⟨_, _, _, rfl⟩ | ⟨b, off, cap, hv, hb, hl, hc⟩
  · simp at hk
  · cases hv
    exact ⟨b, off, rfl, hb, hl, hc k hk⟩

set_option maxRecDepth 100000 in
open Go.Deep Go.ChangeShapes Go.WideShapes Go.Joins in
/-- A list of rules that comes in. -/
theorem openRuS {H : Type} {enc : TypeId × Value → H} {W : World} {a : Option Addr} {n c : Nat} {d : DataW H} {p : List MemPlace} (h : DataW.Trod enc Try.prog W 0 (fun _ => true) true 103 (.slice a n c) d p) :
    ∃ rs : List Ru, RuS W (.slice a n c) rs ∧ rs.length = n ∧ n ≤ maxLen ∧ ∀ r ∈ rs, r.fits := by
  obtain ⟨fuel, hf⟩ := h
  rcases open_slice Try.underlying103 hf with ⟨hcs, _⟩ | ⟨x, len, cap, m, k, D, Pl, hcs, _, hl, hm, hmm, _, hx⟩
  · simp [Value.cells] at hcs
    obtain ⟨rfl, rfl, rfl⟩ := hcs
    exact ⟨[], .inl ⟨_, _, rfl, rfl⟩, rfl, Nat.zero_le _, fun r hr => by cases hr⟩
  · simp [Value.cells] at hcs
    obtain ⟨rfl, rfl, rfl⟩ := hcs
    have hlm : n ≤ m := by rw [hmm]; simpa using hl
    have each : ∀ i, i < n → ∃ r : Ru, (W.cell? (x.add (i * 4)) = some (.bool r.deny) ∧ W.cell? (x.add (i * 4 + 1)) = some (.string r.who) ∧ W.cell? (x.add (i * 4 + 2)) = some (.string r.method) ∧ W.cell? (x.add (i * 4 + 3)) = some (.string r.path)) ∧ r.fits := by
      intro i hi
      obtain ⟨cs', h1, h2⟩ := hx i (by omega)
      rw [cellsRule] at h1
      obtain ⟨_, hlen, hcell⟩ := World.cells?_some h1
      obtain ⟨y0, y1, y2, y3, m', _, _, g0, g1, g2, g3⟩ := trod_struct4 Try.underlying157 h2
      match cs', hlen with
      | [v0, v1, v2, v3], _ =>
        have e0 := hcell 0 (by omega)
        have e1 := hcell 1 (by omega)
        have e2 := hcell 2 (by omega)
        have e3 := hcell 3 (by omega)
        rw [add_add] at e0 e1 e2 e3
        obtain ⟨x0, f0, _⟩ := DataW.trod_bool Try.underlying4 g0
        obtain ⟨x1, f1, _, w1⟩ := DataW.trod_string Try.underlying9 g1
        obtain ⟨x2, f2, _, w2⟩ := DataW.trod_string Try.underlying9 g2
        obtain ⟨x3, f3, _, w3⟩ := DataW.trod_string Try.underlying9 g3
        have c1 : Try.prog.cellsOf 4 = 1 := by kernel_rfl
        have c2 : Try.prog.cellsOf 9 = 1 := by kernel_rfl
        simp [c1, c2] at f0 f1 f2 f3
        subst f0 f1 f2 f3
        exact ⟨⟨x0, x1, x2, x3⟩, ⟨by simpa using e0, by simpa using e1, by simpa using e2, by simpa using e3⟩, w1, w2, w3⟩
    have hin : Inhabited Ru := ⟨⟨false, ByteArray.empty, ByteArray.empty, ByteArray.empty⟩⟩
    obtain ⟨q, hq⟩ := choose_lt each
    by_cases h0 : n = 0
    · subst h0
      exact ⟨[], .inl ⟨_, _, rfl, rfl⟩, rfl, Nat.zero_le _, fun r hr => by cases hr⟩
    · obtain ⟨b, off, spot⟩ := x
      have hs : spot = none := by simpa [Addr.add] using World.cell?_spot (hq 0 (by omega)).1.1
      subst hs
      have hlt : b < W.heap.size := by
        have := (hq 0 (by omega)).1.1
        rw [Addr.add_lit] at this
        by_cases hb : b < W.heap.size
        · exact hb
        · simp only [World.cell?] at this
          rw [Array.getElem?_eq_none (by omega)] at this
          cases this
      refine ⟨(List.range n).map q, .inr ⟨b, off, c, by simp, hlt, by simpa using hl, fun k hk => ?_⟩, by simp, by omega, ?_⟩
      · have hk' : k < n := by simpa using hk
        have := (hq k hk').1
        simp only [Addr.add_lit, ← Nat.add_assoc] at this
        simpa [RuAt] using this
      · intro r hr
        obtain ⟨i, hi, rfl⟩ := List.mem_map.1 hr
        exact (hq i (List.mem_range.1 hi)).2

def szTo (rs : List Ru) (k : Nat) : Nat := ((rs.take k).map Ru.size).sum
def szAll (rs : List Ru) : Nat := rs.length + szTo rs rs.length
theorem szTo_zero (rs : List Ru) : szTo rs 0 = 0 := by simp [szTo]
theorem szTo_succ {rs : List Ru} {k : Nat} (h : k < rs.length) : szTo rs (k + 1) = szTo rs k + rs[k].size := by
  unfold szTo
  rw [List.take_succ_eq_append_getElem h, List.map_append, List.sum_append]
  simp
theorem szTo_le (rs : List Ru) (k : Nat) : szTo rs k ≤ szTo rs rs.length := by
  unfold szTo
  rw [List.take_length]
  conv => rhs; rw [← List.take_append_drop k rs, List.map_append, List.sum_append]
  omega
theorem sz_mem {rs : List Ru} {r : Ru} (h : r ∈ rs) : r.size ≤ szTo rs rs.length := by
  unfold szTo
  rw [List.take_length]
  exact sum_mem (List.mem_map.2 ⟨r, h, rfl⟩)
/-- What is left of a budget behind a list. -/
def leftS (n : Int) (rs : List Ru) : Int := if (szAll rs : Int) ≤ n then n - szAll rs else -1

set_option maxHeartbeats 1000000 in
theorem szRuleS_any (v : Value) (rs : List Ru) (n : Int) (w : World) (h0 : 0 ≤ n) (h1 : n ≤ 1048576) (hm : rs.length ≤ maxLen) (hf : ∀ r ∈ rs, r.fits) (hr : RuS w v rs) :
    Calls Try.prog 82 #[v, .int .i64 n] w fun e w' => e = .returned (.int .i64 (leftS n rs)) ∧ Below w.heap.size w w' := by
  obtain ⟨a, cap, rfl⟩ := hr.len
  unfold maxLen at hm
  by_cases c0 : n < rs.length
  · have HR := hid (show leftS n rs = -1 from if_neg (by unfold szAll; omega))
    go_enter Try.func82, Try.ntmps82
    go_wp2
    go_ret
    exact ⟨ret_int HR.out.symm, Below.refl _ _⟩
  · have d0 : decide (n - (rs.length : Int) < 0) = false := by simp; omega
    go_enter Try.func82, Try.ntmps82
    go_wp2
    go_loopw [1, 5] (fun m i wr => ∃ k : Nat, k ≤ rs.length ∧ i = .int .i64 k ∧ m = .int .i64 (n - rs.length - szTo rs k) ∧ 0 ≤ n - rs.length - szTo rs k ∧ Below w.heap.size w wr) (fun _ i _ => rs.length - (intOf i).toNat)
    case atStart => exact ⟨0, Nat.zero_le _, rfl, by rw [szTo_zero]; go_num, by rw [szTo_zero]; omega, Below.refl _ _⟩
    case round =>
      obtain ⟨k, hk, rfl, rfl, hp, hB⟩ := hrel
      by_cases hlt : k < rs.length
      · obtain ⟨b, off, rfl, hb, hcap, q0, q1, q2, q3⟩ := (hr.below hB).at hlt
        obtain ⟨f1, f2, f3⟩ := hf rs[k] (List.getElem_mem hlt)
        have HS := hid (szTo_succ hlt)
        have HT := hid (szTo_le rs (k + 1))
        generalize rs[k] = r at *
        go_wp2_with fail
        refine (szRule_any r _ _ hp (by omega) f1 f2 f3).mono ?_
        rintro e w1 ⟨rfl, hB1⟩
        have hB2 := below_one hB hB1
        by_cases c1 : (r.size : Int) ≤ n - rs.length - szTo rs k
        · have hv : left3 (n - rs.length - szTo rs k) r.who.size r.method.size r.path.size = n - rs.length - szTo rs (k + 1) := by
            rw [HS.out]
            unfold Ru.size at *
            unfold left3
            rw [if_pos (by omega)]
            omega
          have hq : 0 ≤ n - rs.length - szTo rs (k + 1) := by rw [HS.out]; omega
          rw [hv]
          have d1 : decide (n - (rs.length : Int) - (szTo rs (k + 1) : Int) < 0) = false := by simp; omega
          clear hv hB1 q0 q1 q2 q3
          go_wp2_with fail
          go_roundw
          case rel => exact ⟨k + 1, by omega, by go_num, rfl, hq, hB2⟩
          case measure => simp [intOf]; omega
        · have hv : left3 (n - rs.length - szTo rs k) r.who.size r.method.size r.path.size = -1 := if_neg (by unfold Ru.size at c1; omega)
          have HR := hid (show leftS n rs = -1 from if_neg (by have := HT.out; rw [HS.out] at this; unfold szAll; omega))
          rw [hv]
          clear hv hB1 q0 q1 q2 q3
          go_wp2_with fail
          go_ret
          exact ⟨ret_int HR.out.symm, hB2⟩
      · obtain rfl : k = rs.length := by omega
        have HR := hid (show leftS n rs = n - rs.length - szTo rs rs.length by unfold leftS szAll; rw [if_pos (by omega)]; omega)
        go_wp2
        go_ret
        exact ⟨ret_int HR.out.symm, hB⟩

abbrev Ru.cells (r : Ru) : List Value := [.bool r.deny, .string r.who, .string r.method, .string r.path]
theorem flat_len (rs : List Ru) : (rs.flatMap Ru.cells).length = rs.length * 4 := by
  induction rs with
  | nil => rfl
  | cons r rs ih => rw [List.flatMap_cons, List.length_append, ih]; simp; omega
theorem flat_at (rs : List Ru) : ∀ (k j : Nat) (h : k < rs.length), j < 4 → (rs.flatMap Ru.cells)[k * 4 + j]? = rs[k].cells[j]? := by
  induction rs with
  | nil => intro k j h; simp at h
  | cons r rs ih =>
    intro k j h hj
    rw [List.flatMap_cons]
    cases k with
    | zero => rw [List.getElem?_append_left (by simp; omega)]; simp
    | succ k =>
      rw [List.getElem?_append_right (by simp; omega)]
      have := ih k j (by simpa using h) hj
      rw [show (k + 1) * 4 + j - r.cells.length = k * 4 + j by simp; omega]
      simpa using this
/-- A slice of rules of one's own reads as its list. -/
theorem RuS.own {w : World} {base : Nat} {v : Value} {rs : List Ru} (h : w.ownsRow base 135 4 v rs.length (rs.flatMap Ru.cells)) : RuS w v rs := by
  rcases h.2 with ⟨rfl, h0⟩ | ⟨g, cap, cur, rfl, hg, hb, hle, _⟩
  · exact .inl ⟨none, 0, rfl, List.eq_nil_of_length_eq_zero h0⟩
  · refine .inr ⟨g, 0, cap, rfl, (Array.getElem?_eq_some_iff.1 hb).1, hle, fun k hk => ?_⟩
    have hc : ∀ j, j < 4 → w.cell? ⟨g, k * 4 + j, none⟩ = rs[k].cells[j]? := fun j hj => by rw [h.cellAt (k * 4 + j) (by omega), flat_at rs k j hk hj]
    have h0 := hc 0 (by omega)
    have h1 := hc 1 (by omega)
    have h2 := hc 2 (by omega)
    have h3 := hc 3 (by omega)
    simp only [Nat.add_zero, List.getElem?_cons_zero, List.getElem?_cons_succ] at h0 h1 h2 h3
    exact ⟨by rw [Nat.zero_add]; exact h0, by rw [Nat.zero_add]; exact h1, by rw [Nat.zero_add]; exact h2, by rw [Nat.zero_add]; exact h3⟩
theorem take_set4 {α : Type} (xs : List α) (k : Nat) (a b c d : α) (h : k * 4 + 4 ≤ xs.length) : ((((xs.set (k * 4) a).set (k * 4 + 1) b).set (k * 4 + 2) c).set (k * 4 + 3) d).take ((k + 1) * 4) = xs.take (k * 4) ++ [a, b, c, d] := by
  apply List.ext_getElem?
  intro i
  rw [List.getElem?_take]
  by_cases h1 : i < k * 4
  · rw [if_pos (by omega), List.getElem?_append_left (by rw [List.length_take]; omega), List.getElem?_take, if_pos h1]
    rw [List.getElem?_set_ne (by omega), List.getElem?_set_ne (by omega), List.getElem?_set_ne (by omega), List.getElem?_set_ne (by omega)]
  · by_cases h2 : i < (k + 1) * 4
    · rw [if_pos h2, List.getElem?_append_right (by rw [List.length_take]; omega)]
      have hl : (xs.take (k * 4)).length = k * 4 := by rw [List.length_take]; omega
      rw [hl]
      obtain h | h | h | h : i = k * 4 ∨ i = k * 4 + 1 ∨ i = k * 4 + 2 ∨ i = k * 4 + 3 := by omega
      all_goals subst h
      · rw [List.getElem?_set_ne (by omega), List.getElem?_set_ne (by omega), List.getElem?_set_ne (by omega), List.getElem?_set_self (by omega)]
        simp
      · rw [List.getElem?_set_ne (by omega), List.getElem?_set_ne (by omega), List.getElem?_set_self (by simp; omega)]
        simp
      · rw [List.getElem?_set_ne (by omega), List.getElem?_set_self (by simp; omega)]
        simp
      · rw [List.getElem?_set_self (by simp; omega)]
        simp
    · rw [if_neg h2, List.getElem?_eq_none (by rw [List.length_append, List.length_take]; simp; omega)]
theorem infoRule : (Try.prog.info? 135).map (fun i => (i.zero, i.size, i.bytes)) = some (some (.agg #[.bool false, .string ByteArray.empty, .string ByteArray.empty, .string ByteArray.empty]), 4, 56) := by kernel_rfl

set_option maxHeartbeats 1000000 in
theorem toRuleS_any (v : Value) (rs : List Ru) (w : World) (hm : rs.length ≤ 1048576) (hr : RuS w v rs) :
    Calls Try.prog 88 #[v] w fun e w' => ∃ v', e = .returned v' ∧ w'.ownsRow w.heap.size 135 4 v' rs.length (rs.flatMap Ru.cells) ∧ Below w.heap.size w w' := by
  obtain ⟨a, cap, rfl⟩ := hr.len
  obtain ⟨i0, hi, hz0, hz1, hz2⟩ := info_parts infoRule
  go_enter Try.func88, Try.ntmps88
  go_wp2_with (at_make; refine wpList_make_full _ rfl _ _ 83 rfl w.heap.size 135 i0 _ 4 Try.underlying83 hi hz0 hz1 _ _ _ _ rs.length rfl rfl rfl rfl (by rw [hz2]; omega) (by unfold maxLen; omega) (Nat.le_refl _) ?_; intro w1 hown hgrow)
  have hB1 : Below w.heap.size w w1 := (Below.refl _ w).grown hgrow (Nat.le_refl _) (fun k e => by cases e)
  go_loopw [4] (fun i wr => ∃ k : Nat, k ≤ rs.length ∧ i = .int .i64 k ∧ ∃ xs, wr.ownsRow w.heap.size 135 4 (.slice (some ⟨w.heap.size, 0, none⟩) rs.length rs.length) rs.length xs ∧ xs.take (k * 4) = (rs.take k).flatMap Ru.cells ∧ Below w.heap.size w wr) (fun i _ => rs.length - (intOf i).toNat)
  case atStart => exact ⟨0, Nat.zero_le _, rfl, _, hown, by simp, hB1⟩
  case round =>
    obtain ⟨k, hk, rfl, xs, hrow, hx, hB⟩ := hrel
    have HX := hid hx
    clear hx
    by_cases hlt : k < rs.length
    · obtain ⟨b, off, rfl, hb, hcap, q0, q1, q2, q3⟩ := (hr.below hB).at hlt
      have HT := hid (List.take_succ_eq_append_getElem hlt)
      generalize rs[k] = r at *
      go_wp2_with fail
      refine (toRule_any r _).mono ?_
      rintro e w2 ⟨rfl, hB2⟩
      have hrow2 := ownsRow_below hrow hB2
      have hB3 := below_one hB hB2
      have hlen : xs.length = rs.length * 4 := hrow2.1
      have s0 := hrow2.cellAt (k * 4) (by omega)
      have s1 := hrow2.cellAt (k * 4 + 1) (by omega)
      have s2 := hrow2.cellAt (k * 4 + 2) (by omega)
      have s3 := hrow2.cellAt (k * 4 + 3) (by omega)
      rw [List.getElem?_eq_getElem (by omega)] at s0 s1 s2 s3
      have t0 := hrow2.frozenAt (k * 4)
      have t1 := hrow2.frozenAt (k * 4 + 1)
      have t2 := hrow2.frozenAt (k * 4 + 2)
      have t3 := hrow2.frozenAt (k * 4 + 3)
      generalize xs[k * 4] = y0 at *
      generalize xs[k * 4 + 1] = y1 at *
      generalize xs[k * 4 + 2] = y2 at *
      generalize xs[k * 4 + 3] = y3 at *
      clear q0 q1 q2 q3 hB2
      go_wp2_with fail
      go_roundw
      case rel =>
        refine ⟨k + 1, by omega, by go_num, _, (((hrow2.stored (k * 4) (.bool r.deny)).1.stored (k * 4 + 1) (.string r.who)).1.stored (k * 4 + 2) (.string r.method)).1.stored (k * 4 + 3) (.string r.path) |>.1, ?_, (((hB3.setCell (p := ⟨w.heap.size, _, none⟩) (Nat.le_refl _) _).setCell (p := ⟨w.heap.size, _, none⟩) (Nat.le_refl _) _).setCell (p := ⟨w.heap.size, _, none⟩) (Nat.le_refl _) _).setCell (p := ⟨w.heap.size, _, none⟩) (Nat.le_refl _) _⟩
        rw [take_set4 _ _ _ _ _ _ (by omega), HX.out, HT.out, List.flatMap_append]
        simp
      case measure => simp [intOf]; omega
    · obtain rfl : k = rs.length := by omega
      have HF := hid (show xs = rs.flatMap Ru.cells by have := HX.out; rw [List.take_of_length_le (by have := hrow.1; omega), List.take_length] at this; exact this)
      go_wp2
      go_ret
      exact ⟨_, rfl, by rw [← HF.out]; exact hrow, hB⟩

end Go.Proofs.Ytnbojbcljfiamaa

namespace Go.Proofs.Ytnbojbcljfiamaa
open Go.RowKit Go.Shelf

theorem cell_lt {w : World} {g o : Nat} {v : Value} (h : w.cell? ⟨g, o, none⟩ = some v) : g < w.heap.size := by
  simp only [World.cell?] at h
  by_cases hl : g < w.heap.size
  · exact hl
  · rw [Array.getElem?_eq_none (by omega)] at h
    cases h
def eqB (x y : ByteArray) : Bool := x.toList == y.toList
/-- The piece x stands for y. -/
def stB (x y : ByteArray) : Bool := starB x || eqB x y
def mnB (l m : List ByteArray) : Bool := match l, m with
  | [x, y], [u, v] => stB x u && stB y v
  | _, _ => false

end Go.Proofs.Ytnbojbcljfiamaa

namespace Go.Proofs.Ytnbojbcljfiamaa
open Go.RowKit Go.Shelf

def Ru.same (r s : Ru) : Bool := ((r.deny == s.deny && eqB r.who s.who) && eqB r.method s.method) && eqB r.path s.path
theorem Ru.same_refl (r : Ru) : r.same r = true := by simp [Ru.same, eqB]

set_option maxHeartbeats 1000000 in
theorem eqRule_any (r s : Ru) (w : World) :
    Calls Try.prog 94 #[r.val, s.val] w fun e w' => e = .returned (.bool (r.same s)) ∧ Below w.heap.size w w' := by
  cases b0 : r.deny == s.deny
  · have e0 : (r.deny == s.deny) = false := b0
    have HR := hid (show r.same s = false by unfold Ru.same; rw [b0]; rfl)
    clear b0
    go_enter Try.func94, Try.ntmps94
    go_wp2
    go_ret
    exact ⟨ret_bool HR.out.symm, ((Below.refl _ w).alloc (Nat.le_refl _) _).alloc (by simp) _⟩
  · have e0 : (r.deny == s.deny) = true := b0
    cases b1 : eqB r.who s.who
    · have e1 : (r.who.toList == s.who.toList) = false := b1
      have HR := hid (show r.same s = false by unfold Ru.same; rw [b0, b1]; rfl)
      clear b0 b1
      go_enter Try.func94, Try.ntmps94
      go_wp2
      go_ret
      exact ⟨ret_bool HR.out.symm, ((Below.refl _ w).alloc (Nat.le_refl _) _).alloc (by simp) _⟩
    · have e1 : (r.who.toList == s.who.toList) = true := b1
      cases b2 : eqB r.method s.method
      · have e2 : (r.method.toList == s.method.toList) = false := b2
        have HR := hid (show r.same s = false by unfold Ru.same; rw [b0, b1, b2]; rfl)
        clear b0 b1 b2
        go_enter Try.func94, Try.ntmps94
        go_wp2
        go_ret
        exact ⟨ret_bool HR.out.symm, ((Below.refl _ w).alloc (Nat.le_refl _) _).alloc (by simp) _⟩
      · have e2 : (r.method.toList == s.method.toList) = true := b2
        cases b3 : eqB r.path s.path
        · have e3 : (r.path.toList == s.path.toList) = false := b3
          have HR := hid (show r.same s = false by unfold Ru.same; rw [b0, b1, b2, b3]; rfl)
          clear b0 b1 b2 b3
          go_enter Try.func94, Try.ntmps94
          go_wp2
          go_ret
          exact ⟨ret_bool HR.out.symm, ((Below.refl _ w).alloc (Nat.le_refl _) _).alloc (by simp) _⟩
        · have e3 : (r.path.toList == s.path.toList) = true := b3
          have HR := hid (show r.same s = true by unfold Ru.same; rw [b0, b1, b2, b3]; rfl)
          clear b0 b1 b2 b3
          go_enter Try.func94, Try.ntmps94
          go_wp2
          go_ret
          exact ⟨ret_bool HR.out.symm, ((Below.refl _ w).alloc (Nat.le_refl _) _).alloc (by simp) _⟩


def sameTo (rs ss : List Ru) (k : Nat) : Bool := ((rs.zip ss).take k).all (fun q => q.1.same q.2)
def sameS (rs ss : List Ru) : Bool := decide (rs.length = ss.length) && (rs.zip ss).all (fun q => q.1.same q.2)
theorem sameTo_zero (rs ss : List Ru) : sameTo rs ss 0 = true := by simp [sameTo]
theorem sameTo_succ {rs ss : List Ru} {k : Nat} (h : k < rs.length) (h' : k < ss.length) : sameTo rs ss (k + 1) = (sameTo rs ss k && rs[k].same ss[k]) := by
  unfold sameTo
  rw [List.take_succ_eq_append_getElem (by rw [List.length_zip]; omega), List.all_append]
  simp
theorem same_bad {rs ss : List Ru} {k : Nat} (hb : sameTo rs ss (k + 1) = false) : sameS rs ss = false := by
  unfold sameTo at hb
  rw [List.all_eq_false] at hb
  obtain ⟨x, hx, hn⟩ := hb
  unfold sameS
  rw [Bool.and_eq_false_iff]
  exact .inr (List.all_eq_false.2 ⟨x, List.mem_of_mem_take hx, hn⟩)
theorem same_end {rs ss : List Ru} (h : rs.length = ss.length) : sameTo rs ss rs.length = sameS rs ss := by
  unfold sameTo sameS
  rw [List.take_of_length_le (by rw [List.length_zip]; omega), decide_eq_true h, Bool.true_and]
theorem sameS_refl (rs : List Ru) : sameS rs rs = true := by
  unfold sameS
  rw [decide_eq_true rfl, Bool.true_and, List.all_eq_true]
  intro x hx
  have := List.of_mem_zip hx
  obtain ⟨i, hi, he⟩ := List.getElem_of_mem hx
  rw [List.getElem_zip] at he
  rw [← he]
  exact Ru.same_refl _

set_option maxHeartbeats 2000000 in
theorem eqRuleS_any (v v' : Value) (rs ss : List Ru) (w : World) (_hm : rs.length ≤ 1048577) (hm' : ss.length ≤ 1048577) (hr : RuS w v rs) (hr' : RuS w v' ss) :
    Calls Try.prog 77 #[v, v'] w fun e w' => e = .returned (.bool (sameS rs ss)) ∧ Below w.heap.size w w' := by
  obtain ⟨a, cap, rfl⟩ := hr.len
  obtain ⟨a', cap', rfl⟩ := hr'.len
  by_cases hl : rs.length = ss.length
  · have e0 : ((rs.length : Int) != (ss.length : Int)) = false := by simp; omega
    have hl1 : rs.length ≤ ss.length := by omega
    have HL := hid hl
    clear hl
    go_enter Try.func77, Try.ntmps77
    go_wp2
    go_loopw [5] (fun i wr => ∃ k : Nat, k ≤ rs.length ∧ i = .int .i64 k ∧ sameTo rs ss k = true ∧ Below w.heap.size w wr) (fun i _ => rs.length - (intOf i).toNat)
    case atStart => exact ⟨0, Nat.zero_le _, rfl, sameTo_zero _ _, Below.refl _ _⟩
    case round =>
      obtain ⟨k, hk, rfl, hs, hB⟩ := hrel
      have HS := hid hs
      clear hs
      by_cases hlt : k < rs.length
      · have hlt' : k < ss.length := by omega
        obtain ⟨b, off, rfl, hb, hcap, q0, q1, q2, q3⟩ := (hr.below hB).at hlt
        obtain ⟨b', off', rfl, hb', hcap', p0, p1, p2, p3⟩ := (hr'.below hB).at hlt'
        have HT := hid (sameTo_succ hlt hlt')
        generalize rs[k] = r at *
        generalize ss[k] = s at *
        cases hq : r.same s
        · have HR := hid (show sameS rs ss = false from same_bad (by rw [HT.out, hq, Bool.and_false]))
          go_wp2_with fail
          go_region_with (go_at_call 94; refine (eqRule_any r s _).mono ?_; rintro e w1 ⟨rfl, hB1⟩)
          all_goals go_wp2
          all_goals go_ret
          all_goals exact ⟨ret_bool HR.out.symm, below_one hB (below_drew1 hB1)⟩
        · have HR := hid (show sameTo rs ss (k + 1) = true by rw [HT.out, HS.out, hq]; rfl)
          go_wp2_with fail
          go_region_with (go_at_call 94; refine (eqRule_any r s _).mono ?_; rintro e w1 ⟨rfl, hB1⟩)
          all_goals go_wp2
          all_goals go_roundw
          all_goals first
            | exact ⟨k + 1, by omega, by go_num, HR.out, below_one hB (below_drew1 hB1)⟩
            | (simp [intOf]; omega)
      · obtain rfl : k = rs.length := by omega
        have HR := hid (show sameS rs ss = true by rw [← same_end HL.out]; exact HS.out)
        go_wp2
        go_ret
        exact ⟨ret_bool HR.out.symm, hB⟩
  · have e0 : ((rs.length : Int) != (ss.length : Int)) = true := by simp; omega
    have HR := hid (show sameS rs ss = false by unfold sameS; rw [decide_eq_false hl]; rfl)
    clear hl
    go_enter Try.func77, Try.ntmps77
    go_wp2
    go_ret
    exact ⟨ret_bool HR.out.symm, Below.refl _ _⟩

end Go.Proofs.Ytnbojbcljfiamaa

namespace Go.Proofs.Ytnbojbcljfiamaa

/-! The order of bytes. -/
theorem bl_cmp : ∀ a b : List UInt8, decide (Lib.compareBytes a b < 0) = Op.bytesLess a b
  | [], [] => rfl
  | [], _ :: _ => rfl
  | _ :: _, [] => rfl
  | x :: a, y :: b => by
    have ih := bl_cmp a b
    unfold Lib.compareBytes Op.bytesLess
    by_cases h1 : x < y
    · simp [h1]
    · by_cases h2 : y < x
      · have h3 : (x == y) = false := by
          rw [beq_eq_false_iff_ne]
          intro e
          subst e
          exact h1 h2
        simp [h1, h2, h3]
      · have h3 : x = y := UInt8.le_antisymm (UInt8.not_lt.1 h2) (UInt8.not_lt.1 h1)
        subst h3
        simp only [h1, if_false, ih]
        simp
theorem bl_irrefl : ∀ a : List UInt8, Op.bytesLess a a = false
  | [] => rfl
  | x :: a => by
    unfold Op.bytesLess
    simp [bl_irrefl a]
theorem bl_trans : ∀ a b c : List UInt8, Op.bytesLess a b = true → Op.bytesLess b c = true → Op.bytesLess a c = true
  | _, _, [], _, h2 => by simp [Op.bytesLess] at h2
  | _, [], _ :: _, h1, _ => by simp [Op.bytesLess] at h1
  | [], _ :: _, _ :: _, _, _ => rfl
  | x :: a, y :: b, z :: c, h1, h2 => by
    unfold Op.bytesLess at h1 h2 ⊢
    simp only [Bool.or_eq_true, decide_eq_true_eq, Bool.and_eq_true, beq_iff_eq] at h1 h2 ⊢
    rcases h1 with h1 | ⟨rfl, h1⟩
    · rcases h2 with h2 | ⟨rfl, h2⟩
      · exact .inl (UInt8.lt_trans h1 h2)
      · exact .inl h1
    · rcases h2 with h2 | ⟨rfl, h2⟩
      · exact .inl h2
      · exact .inr ⟨rfl, bl_trans a b c h1 h2⟩
theorem bl_total : ∀ a b : List UInt8, Op.bytesLess a b = false → Op.bytesLess b a = false → a = b
  | [], [], _, _ => rfl
  | [], _ :: _, h, _ => by simp [Op.bytesLess] at h
  | _ :: _, [], _, h => by simp [Op.bytesLess] at h
  | x :: a, y :: b, h1, h2 => by
    unfold Op.bytesLess at h1 h2
    simp only [Bool.or_eq_false_iff, decide_eq_false_iff_not, Bool.and_eq_false_iff, beq_eq_false_iff_ne] at h1 h2
    have e : x = y := UInt8.le_antisymm (UInt8.not_lt.1 h2.1) (UInt8.not_lt.1 h1.1)
    subst e
    have h3 : Op.bytesLess a b = false := by
      rcases h1.2 with h | h
      · exact absurd rfl h
      · exact h
    have h4 : Op.bytesLess b a = false := by
      rcases h2.2 with h | h
      · exact absurd rfl h
      · exact h
    rw [bl_total a b h3 h4]
theorem bl_asym {a b : List UInt8} (h : Op.bytesLess a b = true) : Op.bytesLess b a = false := by
  cases h2 : Op.bytesLess b a
  · rfl
  · have := bl_trans a b a h h2
    rw [bl_irrefl] at this
    cases this
theorem bl_ntrans {a b c : List UInt8} (h1 : Op.bytesLess a b = false) (h2 : Op.bytesLess b c = false) : Op.bytesLess a c = false := by
  cases h3 : Op.bytesLess a c
  · rfl
  · cases h4 : Op.bytesLess b a
    · have e := bl_total a b h1 h4
      subst e
      rw [h2] at h3
      cases h3
    · have := bl_trans b a c h4 h3
      rw [h2] at this
      cases this
/-- a ≤ b < c. -/
theorem bl_le_lt {a b c : List UInt8} (h1 : Op.bytesLess b a = false) (h2 : Op.bytesLess b c = true) : Op.bytesLess a c = true := by
  cases h3 : Op.bytesLess a c
  · have := bl_ntrans h1 h3
    rw [h2] at this
    cases this
  · rfl

/-! No blank in the parts of a good rule; texts tell good rules apart. -/
def nosp (s : ByteArray) : Prop := (32 : UInt8) ∉ s.data.toList
theorem nosp_ws {x : ByteArray} (h : wsB x = true) : nosp x := by
  unfold nosp
  unfold wsB at h
  rw [Bool.or_eq_true] at h
  rcases h with h | h
  · have h1 : x.data.toList = [42] := by simpa [starB, toList_data] using h
    rw [h1]
    decide
  · unfold wordB wordTo at h
    rw [Bool.and_eq_true] at h
    intro hm
    have h2 := h.1
    rw [List.take_of_length_le (by simp)] at h2
    have := List.all_eq_true.1 h2 32 hm
    revert this
    decide
theorem nosp_star2 {x : ByteArray} (h : star2B x = true) : nosp x := by
  have h1 : x.data.toList = [42, 42] := by simpa [star2B, toList_data] using h
  unfold nosp
  rw [h1]
  decide
theorem nosp_split : ∀ (n : Nat) (s : ByteArray), s.size ≤ n → (∀ x ∈ split s 47, nosp x) → nosp s := by
  intro n
  induction n with
  | zero =>
    intro s hs h
    have : s.data.toList = [] := List.eq_nil_of_length_eq_zero (by rw [show s.data.toList.length = s.size by simp]; omega)
    unfold nosp
    rw [this]
    exact List.not_mem_nil
  | succ n ih =>
    intro s hs h
    cases hf : fI s 47 with
    | none =>
      rw [split_none hf] at h
      exact h s (by simp)
    | some i =>
      rw [split_some hf] at h
      have hlt := fI_lt hf
      have h1 := h _ (List.mem_cons_self)
      have h2 := ih (s.extract (i + 1) s.size) (by rw [ByteArray.size_extract]; omega) (fun x hx => h x (List.mem_cons_of_mem _ hx))
      unfold nosp at *
      rw [data_parts s i hlt, fI_at hf, List.mem_append, List.mem_cons]
      rintro (h3 | h3 | h3)
      · exact h1 h3
      · revert h3
        decide
      · exact h2 h3
theorem nosp_pt : ∀ l : List ByteArray, ptOk l = true → ∀ x ∈ l, nosp x
  | [], _, x, hx => by cases hx
  | y :: r, h, x, hx => by
    unfold ptOk at h
    split at h
    · rename_i h2
      have hr : r = [] := by simpa using h
      subst hr
      rw [List.mem_singleton] at hx
      subst hx
      exact nosp_star2 h2
    · rw [Bool.and_eq_true] at h
      rw [List.mem_cons] at hx
      rcases hx with rfl | hx
      · exact nosp_ws h.1
      · exact nosp_pt r h.2 x hx
theorem nosp_path {s : ByteArray} (h : ptBs s = true) : nosp s := by
  cases h0 : slashB s
  · cases h1 : headB s
    · have hp : pathPs s = none := by
        unfold pathPs
        rw [h0, h1]
        rfl
      unfold ptBs at h
      rw [hp] at h
      cases h
    · unfold ptBs at h
      rw [pathPs_head h0 h1] at h
      simp only [ptB_eq, Bool.and_eq_true] at h
      have h2 := nosp_split _ (s.extract 1 s.size) (Nat.le_refl _) (nosp_pt _ h.1)
      have hs : 0 < s.size := by
        rcases Nat.eq_zero_or_pos s.size with hz | hz
        · have : s.data.toList = [] := List.eq_nil_of_length_eq_zero (by rw [show s.data.toList.length = s.size by simp]; omega)
          unfold headB at h1
          rw [this] at h1
          cases h1
        · exact hz
      have hd := data_parts s 0 hs
      have h4 : (s.extract 0 0).data.toList = [] := by
        rw [ByteArray.data_extract, Array.toList_extract, List.extract_eq_take_drop]
        simp
      rw [h4, List.nil_append] at hd
      unfold headB at h1
      rw [hd] at h1
      have h5 : s[0] = 47 := by simpa using h1
      unfold nosp at *
      rw [hd, h5, List.mem_cons]
      rintro (h6 | h6)
      · revert h6
        decide
      · exact h2 h6
  · have h1 : s.data.toList = [47] := by simpa [slashB, toList_data] using h0
    unfold nosp
    rw [h1]
    decide
theorem nosp_name {s : ByteArray} (h : nmB (split s 47) = true) : nosp s := by
  rw [nmB_eq, Bool.and_eq_true, List.all_eq_true] at h
  exact nosp_split _ s (Nat.le_refl _) (fun x hx => nosp_ws (h.2 x hx))
theorem nosp_method {s : ByteArray} (h : (mthB s || starB s) = true) : nosp s := by
  unfold mthB getB putB starB at h
  rw [toList_data] at h
  simp only [Bool.or_eq_true, beq_iff_eq] at h
  unfold nosp
  rcases h with (h | h) | h
  all_goals rw [h]; decide
theorem cut_blank : ∀ a a' b b' : List UInt8, (32 : UInt8) ∉ a → (32 : UInt8) ∉ a' → a ++ 32 :: b = a' ++ 32 :: b' → a = a' ∧ b = b'
  | [], [], b, b', _, _, h => by simpa using h
  | [], y :: a', b, b', _, h2, h => by
    simp only [List.nil_append, List.cons_append, List.cons.injEq] at h
    exact absurd (by rw [h.1]; exact List.mem_cons_self) h2
  | x :: a, [], b, b', h1, _, h => by
    simp only [List.nil_append, List.cons_append, List.cons.injEq] at h
    exact absurd (by rw [h.1]; exact List.mem_cons_self) h1
  | x :: a, y :: a', b, b', h1, h2, h => by
    simp only [List.cons_append, List.cons.injEq] at h
    obtain ⟨e1, e2⟩ := cut_blank a a' b b' (fun hm => h1 (List.mem_cons_of_mem _ hm)) (fun hm => h2 (List.mem_cons_of_mem _ hm)) h.2
    exact ⟨by rw [h.1, e1], e2⟩
theorem text_list (r : Ru) : r.text.data.toList = (if r.deny = true then [100, 101, 110, 121] else [97, 108, 108, 111, 119]) ++ 32 :: (r.who.data.toList ++ 32 :: (r.method.data.toList ++ 32 :: r.path.data.toList)) := by
  unfold Ru.text
  cases r.deny <;> simp [ByteArray.data_append]
theorem bytes_eq {a b : ByteArray} (h : a.data.toList = b.data.toList) : a = b := by
  apply ByteArray.ext
  exact Array.toList_inj.1 h
theorem text_inj {r s : Ru} (hr : r.good = true) (hs : s.good = true) (h : r.text.data.toList = s.text.data.toList) : r = s := by
  unfold Ru.good at hr hs
  simp only [Bool.and_eq_true] at hr hs
  rw [text_list, text_list] at h
  obtain ⟨h1, h2⟩ := cut_blank _ _ _ _ (by cases r.deny <;> decide) (by cases s.deny <;> decide) h
  obtain ⟨h3, h4⟩ := cut_blank _ _ _ _ (nosp_name hr.1.1) (nosp_name hs.1.1) h2
  obtain ⟨h5, h6⟩ := cut_blank _ _ _ _ (nosp_method hr.2) (nosp_method hs.2) h4
  have hd : r.deny = s.deny := by
    cases h7 : r.deny <;> cases h8 : s.deny <;> first | rfl | (rw [h7, h8] at h1; simp at h1)
  obtain ⟨d, a, b, c⟩ := r
  obtain ⟨d', a', b', c'⟩ := s
  simp only at h3 h5 h6 hd
  rw [bytes_eq h3, bytes_eq h5, bytes_eq h6, hd]


/-! Lists in the order of texts. -/
def ltR (x y : Ru) : Bool := Op.bytesLess x.text.data.toList y.text.data.toList
def SS (l : List Ru) : Prop := l.Pairwise (fun x y => ltR x y = true)
theorem same_eq {x y : Ru} (h : x.same y = true) : x = y := by
  unfold Ru.same eqB at h
  simp only [Bool.and_eq_true, beq_iff_eq, toList_data] at h
  obtain ⟨d, a, b, c⟩ := x
  obtain ⟨d', a', b', c'⟩ := y
  simp only at h
  rw [h.1.1.1, bytes_eq h.1.1.2, bytes_eq h.1.2, bytes_eq h.2]
theorem ss_unique : ∀ l l' : List Ru, SS l → SS l' → (∀ y, y ∈ l ↔ y ∈ l') → l = l'
  | [], [], _, _, _ => rfl
  | [], y :: _, _, _, h => by have := (h y).2 List.mem_cons_self; cases this
  | x :: _, [], _, _, h => by have := (h x).1 List.mem_cons_self; cases this
  | x :: xs, y :: ys, h1, h2, h => by
    unfold SS at h1 h2
    rw [List.pairwise_cons] at h1 h2
    have hxy : x = y := by
      have a1 := (h x).1 List.mem_cons_self
      have a2 := (h y).2 List.mem_cons_self
      rw [List.mem_cons] at a1 a2
      rcases a1 with a1 | a1
      · exact a1
      · rcases a2 with a2 | a2
        · exact a2.symm
        · have b1 := h2.1 x a1
          have b2 := h1.1 y a2
          unfold ltR at b1 b2
          rw [bl_asym b2] at b1
          cases b1
    subst hxy
    have ht : ∀ z, z ∈ xs ↔ z ∈ ys := fun z => by
      constructor
      · intro hz
        have := (h z).1 (List.mem_cons_of_mem _ hz)
        rw [List.mem_cons] at this
        rcases this with rfl | this
        · have := h1.1 z hz
          unfold ltR at this
          rw [bl_irrefl] at this
          cases this
        · exact this
      · intro hz
        have := (h z).2 (List.mem_cons_of_mem _ hz)
        rw [List.mem_cons] at this
        rcases this with rfl | this
        · have := h2.1 z hz
          unfold ltR at this
          rw [bl_irrefl] at this
          cases this
        · exact this
    rw [ss_unique xs ys h1.2 h2.2 ht]
/-- A rule laid in where it belongs, once. -/
def insU (r : Ru) : List Ru → List Ru
  | [] => [r]
  | x :: xs => if ltR x r = true then x :: insU r xs else if x.same r = true then x :: xs else r :: x :: xs
theorem insU_mem (r : Ru) : ∀ (l : List Ru) (y : Ru), y ∈ insU r l ↔ y = r ∨ y ∈ l
  | [], y => by simp [insU]
  | x :: xs, y => by
    unfold insU
    split
    · rw [List.mem_cons, insU_mem r xs y, List.mem_cons]
      constructor
      · rintro (h | h | h)
        · exact .inr (.inl h)
        · exact .inl h
        · exact .inr (.inr h)
      · rintro (h | h | h)
        · exact .inr (.inl h)
        · exact .inl h
        · exact .inr (.inr h)
    · split
      · rename_i h2
        have := same_eq h2
        subst this
        simp
      · simp
theorem insU_ss {r : Ru} (hr : r.good = true) : ∀ l : List Ru, (∀ x ∈ l, x.good = true) → SS l → SS (insU r l)
  | [], _, _ => by simp [insU, SS]
  | x :: xs, hg, h => by
    unfold SS at h
    rw [List.pairwise_cons] at h
    unfold insU
    split
    · rename_i h1
      unfold SS
      rw [List.pairwise_cons]
      refine ⟨fun y hy => ?_, insU_ss hr xs (fun z hz => hg z (List.mem_cons_of_mem _ hz)) h.2⟩
      rw [insU_mem] at hy
      rcases hy with rfl | hy
      · exact h1
      · exact h.1 y hy
    · rename_i h1
      split
      · unfold SS
        rw [List.pairwise_cons]
        exact h
      · rename_i h2
        have hrx : ltR r x = true := by
          cases h3 : ltR r x
          · unfold ltR at h1 h3
            have h4 : Op.bytesLess x.text.data.toList r.text.data.toList = false := by simpa using h1
            have := text_inj (hg x List.mem_cons_self) hr (bl_total _ _ h4 h3)
            subst this
            exact absurd (Ru.same_refl x) h2
          · rfl
        unfold SS
        rw [List.pairwise_cons, List.pairwise_cons]
        refine ⟨fun y hy => ?_, h⟩
        rw [List.mem_cons] at hy
        rcases hy with rfl | hy
        · exact hrx
        · exact bl_trans _ _ _ hrx (h.1 y hy)
def plTo (rs : List Ru) (k : Nat) : List Ru := (rs.take k).foldl (fun o r => insU r o) []
theorem plTo_succ {rs : List Ru} {k : Nat} (h : k < rs.length) : plTo rs (k + 1) = insU rs[k] (plTo rs k) := by
  unfold plTo
  rw [List.take_succ_eq_append_getElem h, List.foldl_append]
  rfl
theorem plTo_mem {rs : List Ru} : ∀ k, k ≤ rs.length → ∀ y, y ∈ plTo rs k ↔ y ∈ rs.take k
  | 0, _, y => by simp [plTo]
  | k + 1, hk, y => by
    rw [plTo_succ (by omega), insU_mem, plTo_mem k (by omega) y, List.take_succ_eq_append_getElem (by omega), List.mem_append, List.mem_singleton]
    exact Or.comm
theorem plTo_ss {rs : List Ru} (hg : ∀ r ∈ rs, r.good = true) : ∀ k, k ≤ rs.length → SS (plTo rs k)
  | 0, _ => by simp [plTo, SS]
  | k + 1, hk => by
    rw [plTo_succ (by omega)]
    exact insU_ss (hg _ (List.getElem_mem _)) _ (fun x hx => hg x (List.mem_of_mem_take ((plTo_mem k (by omega) x).1 hx))) (plTo_ss hg k (by omega))
/-- What stays of a list when of neighbours alike the first stays. -/
def kpB (rs : List Ru) (i : Nat) : Bool := match i, rs[i]?, rs[i - 1]? with
  | 0, _, _ => true
  | _ + 1, some x, some y => !(x.same y)
  | _ + 1, _, _ => true
def cpTo (rs : List Ru) : Nat → List Ru
  | 0 => []
  | m + 1 => if kpB rs m = true then cpTo rs m ++ rs[m]?.toList else cpTo rs m
theorem kpB_succ {rs : List Ru} {i : Nat} (h : i + 1 < rs.length) : kpB rs (i + 1) = !(rs[i + 1].same rs[i]) := by
  unfold kpB
  simp only [Nat.add_sub_cancel]
  rw [List.getElem?_eq_getElem h, List.getElem?_eq_getElem (by omega)]
theorem cpTo_yes {rs : List Ru} {m : Nat} (h : m < rs.length) (hk : kpB rs m = true) : cpTo rs (m + 1) = cpTo rs m ++ [rs[m]] := by
  rw [cpTo, if_pos hk, List.getElem?_eq_getElem h]
  rfl
theorem cpTo_no {rs : List Ru} {m : Nat} (hk : kpB rs m = false) : cpTo rs (m + 1) = cpTo rs m := by
  rw [cpTo, if_neg (by rw [hk]; exact Bool.false_ne_true)]
theorem cpTo_len (rs : List Ru) : ∀ m, (cpTo rs m).length ≤ m
  | 0 => Nat.le_refl _
  | m + 1 => by
    have ih := cpTo_len rs m
    rw [cpTo]
    split
    · rw [List.length_append]
      cases rs[m]? <;> simp <;> omega
    · omega
theorem cpTo_all {rs : List Ru} : ∀ m, m ≤ rs.length → (∀ i, i < m → kpB rs i = true) → cpTo rs m = rs.take m
  | 0, _, _ => by simp [cpTo]
  | m + 1, hm, h => by
    rw [cpTo_yes (by omega) (h m (by omega)), cpTo_all m (by omega) (fun i hi => h i (by omega)), List.take_succ_eq_append_getElem (by omega)]
theorem cpTo_ss {ds : List Ru} (hg : ∀ r ∈ ds, r.good = true) (hs : ∀ i j (hi : i < j) (hj : j < ds.length), ltR ds[j] ds[i] = false) : ∀ m, m ≤ ds.length → SS (cpTo ds m) ∧ ∀ y, y ∈ cpTo ds m ↔ y ∈ ds.take m
  | 0, _ => by simp [cpTo, SS]
  | m + 1, hm => by
    obtain ⟨h1, h2⟩ := cpTo_ss hg hs m (by omega)
    cases hk : kpB ds m
    · rw [cpTo_no hk]
      refine ⟨h1, fun y => ?_⟩
      rw [h2, List.take_succ_eq_append_getElem (by omega), List.mem_append, List.mem_singleton]
      constructor
      · exact .inl
      · rintro (h | rfl)
        · exact h
        · cases m with
          | zero => simp [kpB] at hk
          | succ i =>
            rw [kpB_succ (by omega)] at hk
            have := same_eq (by simpa using hk)
            rw [this, List.mem_take_iff_getElem]
            exact ⟨i, by omega, rfl⟩
    · rw [cpTo_yes (by omega) hk]
      refine ⟨?_, fun y => by rw [List.mem_append, h2, List.take_succ_eq_append_getElem (by omega), List.mem_append]⟩
      unfold SS at *
      rw [List.pairwise_append]
      refine ⟨h1, by simp, fun x hx y hy => ?_⟩
      rw [List.mem_singleton] at hy
      subst hy
      have hx' := (h2 x).1 hx
      rw [List.mem_take_iff_getElem] at hx'
      obtain ⟨i, hi, rfl⟩ := hx'
      cases m with
      | zero => omega
      | succ p =>
        rw [kpB_succ (by omega)] at hk
        have hlt : ltR ds[p] ds[p + 1] = true := by
          cases h3 : ltR ds[p] ds[p + 1]
          · have h4 := hs p (p + 1) (by omega) (by omega)
            unfold ltR at h3 h4
            have := text_inj (hg _ (List.getElem_mem _)) (hg _ (List.getElem_mem _)) (bl_total _ _ h3 h4)
            rw [this, Ru.same_refl] at hk
            cases hk
          · rfl
        by_cases hip : i = p
        · subst hip
          exact hlt
        · exact bl_le_lt (hs i p (by omega) (by omega)) hlt
/-- A sorted copy, neighbours alike taken away, is what the specification lays. -/
theorem plain_eq {rs ds : List Ru} (hg : ∀ r ∈ rs, r.good = true) (hp : ds.Perm rs) (hs : ∀ i j (hi : i < j) (hj : j < ds.length), ltR ds[j] ds[i] = false) : cpTo ds ds.length = plTo rs rs.length := by
  have h1 := cpTo_ss (fun r hr => hg r (hp.mem_iff.1 hr)) hs ds.length (Nat.le_refl _)
  refine ss_unique _ _ h1.1 (plTo_ss hg _ (Nat.le_refl _)) (fun y => ?_)
  rw [h1.2, plTo_mem _ (Nat.le_refl _), List.take_length, List.take_length, hp.mem_iff]

end Go.Proofs.Ytnbojbcljfiamaa

namespace Go.Proofs.Ytnbojbcljfiamaa
open Go.RowKit Go.Shelf

/-- The rule that is laid at i, from the number k on. -/
def mkR (k i : Nat) : Ru := ⟨((k + 4 * i : Nat) : Int) % 3 == 0, mkT (k + 4 * i + 1), mkT (k + 4 * i + 2), mkT (k + 4 * i + 3)⟩
def mkL (k n : Nat) : List Ru := (List.range n).map (mkR k)
theorem mkL_len (k n : Nat) : (mkL k n).length = n := by simp [mkL]
theorem mkL_succ (k n : Nat) : mkL k (n + 1) = mkL k n ++ [mkR k n] := by
  unfold mkL
  rw [List.range_succ, List.map_append]
  rfl
theorem mkL_at {k n i : Nat} (h : i < (mkL k n).length) : (mkL k n)[i] = mkR k i := by simp [mkL]




set_option maxHeartbeats 2000000 in
set_option maxRecDepth 100000 in
theorem markRuleS_to (v : Value) (n k base : Nat) (xs : List Value) (w : World) (hn : n ≤ 1048577) (hk : k + 4 * n ≤ 8000000) (hrow : w.ownsRow base 135 4 v n xs) :
    Calls Try.prog 52 #[v, .int .i64 k] w fun e w' => e = .returned (.int .i64 ((k + 4 * n : Nat) : Int)) ∧ w'.ownsRow base 135 4 v n ((mkL k n).flatMap Ru.cells) ∧ w.grownBy w' v.ownBlock := by
  rcases row_form hrow with ⟨rfl, rfl⟩ | ⟨g, cap, rfl, hg, hcap⟩
  · go_enter Try.func52, Try.ntmps52
    go_wp2
    refine wp_loop_rounds 1 ?_
    rw [rounds_succ]
    go_wp2
    go_ret
    exact ⟨rfl, World.ownsRow_nil _ _ _ _, ⟨rfl, rfl, rfl, Nat.le_refl _, fun _ _ _ => rfl⟩⟩
  · go_enter Try.func52, Try.ntmps52
    go_wp2
    go_loopw [1, 5] (fun kv i wr => ∃ (j c : Nat), j ≤ n ∧ c = k + 4 * j ∧ kv = .int .i64 c ∧ i = .int .i64 j ∧ ∃ ys, wr.ownsRow base 135 4 (.slice (some ⟨g, 0, none⟩) n cap) n ys ∧ ys.take (j * 4) = (mkL k j).flatMap Ru.cells ∧ w.grownBy wr (some g)) (fun _ i _ => n - (intOf i).toNat)
    case atStart => exact ⟨0, k, Nat.zero_le _, by omega, rfl, rfl, xs, hrow, by simp [mkL], grown_self _ _⟩
    case round =>
      obtain ⟨j, c, hj, hc, rfl, rfl, ys, row0, hx, hg0⟩ := hrel
      have HX := hid hx
      have HC := hid hc
      clear hx hc hrow
      have hc9 : c ≤ 8000000 := by have := HC.out; omega
      by_cases hlt : j < n
      · have hlen : ys.length = n * 4 := row0.1
        have s0 := row0.cellAt (j * 4) (by have := row0.1; omega)
        rw [List.getElem?_eq_getElem (by have := row0.1; omega)] at s0
        have t0 := row0.frozenAt (j * 4)
        go_wp2_with fail
        have P0 := row0.stored (j * 4) (.bool ((c : Int) % 3 == 0))
        have hg0' := grown_two hg0 P0.2
        have row0' := P0.1
        clear P0 s0 t0 row0 hg0
        generalize wr.setCell ⟨g, j * 4, none⟩ (.bool ((c : Int) % 3 == 0)) = W0 at *
        refine (markText_at (c + 1) _ _ (by push_cast; omega) (by omega)).mono ?_
        rintro e v1 ⟨rfl, hB1⟩
        have row1 := ownsRow_below row0' hB1
        have hg1 := grown_below hg0' hB1
        clear row0' hg0' hB1
        have s1 := row1.cellAt (j * 4 + 1) (by have := row1.1; omega)
        rw [List.getElem?_eq_getElem (by have := row1.1; omega)] at s1
        have t1 := row1.frozenAt (j * 4 + 1)
        go_wp2_with fail
        have P1 := row1.stored (j * 4 + 1) (.string (mkT (c + 1)))
        have hg1' := grown_two hg1 P1.2
        have row1' := P1.1
        clear P1 s1 t1 row1 hg1
        generalize v1.setCell ⟨g, j * 4 + 1, none⟩ (.string (mkT (c + 1))) = W1 at *
        refine (markText_at (c + 2) _ _ (by push_cast; omega) (by omega)).mono ?_
        rintro e v2 ⟨rfl, hB2⟩
        have row2 := ownsRow_below row1' hB2
        have hg2 := grown_below hg1' hB2
        clear row1' hg1' hB2
        have s2 := row2.cellAt (j * 4 + 2) (by have := row2.1; omega)
        rw [List.getElem?_eq_getElem (by have := row2.1; omega)] at s2
        have t2 := row2.frozenAt (j * 4 + 2)
        go_wp2_with fail
        have P2 := row2.stored (j * 4 + 2) (.string (mkT (c + 2)))
        have hg2' := grown_two hg2 P2.2
        have row2' := P2.1
        clear P2 s2 t2 row2 hg2
        generalize v2.setCell ⟨g, j * 4 + 2, none⟩ (.string (mkT (c + 2))) = W2 at *
        refine (markText_at (c + 3) _ _ (by push_cast; omega) (by omega)).mono ?_
        rintro e v3 ⟨rfl, hB3⟩
        have row3 := ownsRow_below row2' hB3
        have hg3 := grown_below hg2' hB3
        clear row2' hg2' hB3
        have s3 := row3.cellAt (j * 4 + 3) (by have := row3.1; omega)
        rw [List.getElem?_eq_getElem (by have := row3.1; omega)] at s3
        have t3 := row3.frozenAt (j * 4 + 3)
        go_wp2_with fail
        have P3 := row3.stored (j * 4 + 3) (.string (mkT (c + 3)))
        have hg3' := grown_two hg3 P3.2
        have row3' := P3.1
        clear P3 s3 t3 row3 hg3
        have HM := hid (show mkL k (j + 1) = mkL k j ++ [⟨(c : Int) % 3 == 0, mkT (c + 1), mkT (c + 2), mkT (c + 3)⟩] by rw [mkL_succ]; unfold mkR; rw [← HC.out])
        go_roundw
        case rel =>
          refine ⟨j + 1, c + 4, by omega, by have := HC.out; omega, by go_num, by go_num, _, row3', ?_, hg3'⟩
          rw [take_set4 _ _ _ _ _ _ (by omega), HX.out, HM.out, List.flatMap_append]
          simp
        case measure => simp [intOf]; omega
      · obtain rfl : j = n := by omega
        have HF := hid (show ys = (mkL k j).flatMap Ru.cells by have := HX.out; rw [List.take_of_length_le (by have := row0.1; omega)] at this; exact this)
        go_wp2
        go_ret
        exact ⟨ret_int (by rw [HC.out]), by rw [← HF.out]; exact row0, hg0⟩

theorem markRuleS_any (v : Value) (n k base : Nat) (xs : List Value) (w : World) (hn : n ≤ 1048577) (hk : k ≤ 1) (hrow : w.ownsRow base 135 4 v n xs) :
    Calls Try.prog 52 #[v, .int .i64 k] w fun e w' => e = .returned (.int .i64 ((k + 4 * n : Nat) : Int)) ∧ w'.ownsRow base 135 4 v n ((mkL k n).flatMap Ru.cells) ∧ w.grownBy w' v.ownBlock :=
  markRuleS_to v n k base xs w hn (by omega) hrow

end Go.Proofs.Ytnbojbcljfiamaa

namespace Go.Proofs.Ytnbojbcljfiamaa
open Go.RowKit Go.Shelf Go.Sort

/-- Memory that was only made, and draws: in the sort's words. -/
theorem grow_of {W w' : World} (hB : Below W.heap.size W w') (hd : W.drawn ≤ w'.drawn) : ∃ q os', w' = grow (W.drewN q) os' := by
  refine ⟨w'.drawn - W.drawn, w'.heap.extract W.heap.size w'.heap.size, ?_⟩
  have hh : w'.heap = W.heap ++ w'.heap.extract W.heap.size w'.heap.size := by
    apply Array.ext_getElem?
    intro k
    by_cases hk : k < W.heap.size
    · rw [Array.getElem?_append_left hk, hB.block k hk]
    · rw [Array.getElem?_append_right (by omega), Array.getElem?_extract]
      by_cases h2 : k < w'.heap.size
      · rw [if_pos (by omega)]
        congr 1
        omega
      · rw [if_neg (by omega), Array.getElem?_eq_none (by omega)]
  have h1 := hB.os
  have h2 := hB.tape
  have h3 := hB.output
  obtain ⟨hp, tp, dr, os, out⟩ := w'
  obtain ⟨hp0, tp0, dr0, os0, out0⟩ := W
  simp only at h1 h2 h3 hd hh
  simp only [grow, World.drewN]
  rw [← hh, h1, h2, h3, Nat.add_sub_cancel' hd]

end Go.Proofs.Ytnbojbcljfiamaa

namespace Go.Proofs.Ytnbojbcljfiamaa
open Go.RowKit Go.Shelf

theorem eql_ru (o r : Ru) (w : World) : (binOp .eql 135 o.val r.val).run Try.prog w = .ok (.bool (o.same r)) w := by
  rw [run_eql_struct]
  simp [go_sem, Try.underlying135]
  unfold Ru.same eqB
  repeat' split
  all_goals simp_all
theorem neq_ru (o r : Ru) (w : World) : (binOp .neq 135 o.val r.val).run Try.prog w = .ok (.bool (!(o.same r))) w := by
  rw [run_neq_struct]
  simp [go_sem, Try.underlying135]
  unfold Ru.same eqB
  repeat' split
  all_goals simp_all
/-- The cells of the rule at k. -/
theorem row_ru {w : World} {base g cap n : Nat} {rs : List Ru} (hrow : w.ownsRow base 135 4 (.slice (some ⟨g, 0, none⟩) n cap) n (rs.flatMap Ru.cells)) {k : Nat} (h : k < n) (hn : rs.length = n) (r : Ru) (hr : rs[k]'(by omega) = r) :
    w.cell? ⟨g, k * 4, none⟩ = some (.bool r.deny) ∧ w.cell? ⟨g, k * 4 + 1, none⟩ = some (.string r.who) ∧ w.cell? ⟨g, k * 4 + 2, none⟩ = some (.string r.method) ∧ w.cell? ⟨g, k * 4 + 3, none⟩ = some (.string r.path) := by
  subst hr
  have hc : ∀ j, j < 4 → w.cell? ⟨g, k * 4 + j, none⟩ = (rs[k]'(by omega)).cells[j]? := fun j hj => by rw [hrow.cellAt (k * 4 + j) (by omega), flat_at rs k j (by omega) hj]
  have h0 := hc 0 (by omega)
  have h1 := hc 1 (by omega)
  have h2 := hc 2 (by omega)
  have h3 := hc 3 (by omega)
  simp only [Nat.add_zero, List.getElem?_cons_zero, List.getElem?_cons_succ] at h0 h1 h2 h3
  exact ⟨h0, h1, h2, h3⟩
theorem flat_set (ys : List Ru) (k : Nat) (r : Ru) (_h : k < ys.length) : ((((ys.flatMap Ru.cells).set (k * 4) (.bool r.deny)).set (k * 4 + 1) (.string r.who)).set (k * 4 + 2) (.string r.method)).set (k * 4 + 3) (.string r.path) = (ys.set k r).flatMap Ru.cells := by
  apply List.ext_getElem?
  intro i
  have hl := flat_len ys
  by_cases hi : i < ys.length * 4
  · have e : i = i / 4 * 4 + i % 4 := by omega
    have h1 : i / 4 < ys.length := by omega
    by_cases hk : i / 4 = k
    · have h2 := flat_at (ys.set k r) (i / 4) (i % 4) (by simpa using h1) (by omega)
      rw [← e] at h2
      rw [h2, List.getElem_set, if_pos hk.symm]
      obtain h | h | h | h : i % 4 = 0 ∨ i % 4 = 1 ∨ i % 4 = 2 ∨ i % 4 = 3 := by omega
      · have ei : i = k * 4 := by omega
        rw [h, ei, List.getElem?_set_ne (by omega), List.getElem?_set_ne (by omega), List.getElem?_set_ne (by omega), List.getElem?_set_self (by omega)]
        rfl
      · have ei : i = k * 4 + 1 := by omega
        rw [h, ei, List.getElem?_set_ne (by omega), List.getElem?_set_ne (by omega), List.getElem?_set_self (by simp only [List.length_set]; omega)]
        rfl
      · have ei : i = k * 4 + 2 := by omega
        rw [h, ei, List.getElem?_set_ne (by omega), List.getElem?_set_self (by simp only [List.length_set]; omega)]
        rfl
      · have ei : i = k * 4 + 3 := by omega
        rw [h, ei, List.getElem?_set_self (by simp only [List.length_set]; omega)]
        rfl
    · have h2 := flat_at (ys.set k r) (i / 4) (i % 4) (by simpa using h1) (by omega)
      have h3 := flat_at ys (i / 4) (i % 4) h1 (by omega)
      rw [← e] at h2 h3
      rw [h2, List.getElem_set, if_neg (fun h => hk h.symm), ← h3, List.getElem?_set_ne (by omega), List.getElem?_set_ne (by omega), List.getElem?_set_ne (by omega), List.getElem?_set_ne (by omega)]
  · rw [List.getElem?_eq_none (by simp only [List.length_set]; omega), List.getElem?_eq_none (by rw [flat_len, List.length_set]; omega)]
/-- A row's first elements. -/
theorem row_short {w : World} {base g cap n k : Nat} {e : TypeId} {size : Nat} {xs : List Value} (h : w.ownsRow base e size (.slice (some ⟨g, 0, none⟩) n cap) n xs) (hk : k ≤ n) : w.ownsRow base e size (.slice (some ⟨g, 0, none⟩) k cap) k (xs.take (k * size)) := by
  have hm : k * size ≤ n * size := Nat.mul_le_mul_right _ hk
  rcases h.2 with ⟨h', _⟩ | ⟨g', cap', cur, h', hb, hg, hn, hc, hs, ht⟩
  · cases h'
  · simp only [Value.slice.injEq, Option.some.injEq, Addr.mk.injEq, and_true, true_and] at h'
    obtain ⟨rfl, rfl⟩ := h'
    refine ⟨by rw [List.length_take, h.1]; omega, .inr ⟨g, cap, cur, rfl, hb, hg, by omega, hc, hs, ?_⟩⟩
    rw [← ht, List.take_take, Nat.min_eq_left hm]
/-- Cells laid behind the first ones. -/
theorem row_behind {base g cap n k : Nat} {e : TypeId} {size : Nat} : ∀ (vs : List Value) (o : Nat) (w : World) (xs : List Value), k * size ≤ o → w.ownsRow base e size (.slice (some ⟨g, 0, none⟩) n cap) n xs →
    ∃ xs', (w.setCells g o vs).ownsRow base e size (.slice (some ⟨g, 0, none⟩) n cap) n xs' ∧ xs'.take (k * size) = xs.take (k * size) ∧ w.grownBy (w.setCells g o vs) (some g)
  | [], o, w, xs, _, h => ⟨xs, h, rfl, grown_self _ _⟩
  | v :: vs, o, w, xs, ho, h => by
    obtain ⟨h1, h2⟩ := h.stored o v
    obtain ⟨xs', a1, a2, a3⟩ := row_behind vs (o + 1) _ _ (Nat.le_succ_of_le ho) h1
    refine ⟨xs', a1, ?_, grown_two h2 a3⟩
    rw [a2, List.take_set_of_le ho]


abbrev zeroRu : Value := .agg #[.bool false, .string ⟨#[]⟩, .string ⟨#[]⟩, .string ⟨#[]⟩]
theorem clear_ru {w : World} {base g cap n : Nat} {ys : List Value} (hrow : w.ownsRow base 135 4 (.slice (some ⟨g, 0, none⟩) n cap) n ys) (k c : Nat) (hk : k < n) :
    ∀ ty, (Builtin.clear_ #[83] ty #[.slice (some ⟨g, k * 4, none⟩) (n - k) c]).run Try.prog w = .ok (.tuple #[]) (w.setCells g (k * 4) (Builtin.zeroCells zeroRu.cells (n - k)).toList) := by
  intro ty
  have hl : (Builtin.zeroCells zeroRu.cells (n - k)).toList.length = (n - k) * 4 := by simp [Builtin.zeroCells, Value.cells]
  have hst := run_storeCells_cells (P := Try.prog) g (k * 4) (Builtin.zeroCells zeroRu.cells (n - k)).toList 0 w
    (fun j hj => by
      rw [hl] at hj
      rw [Nat.add_zero, hrow.cellAt (k * 4 + j) (by omega), List.getElem?_eq_getElem (by rw [hrow.1]; omega)]
      rfl)
    (fun j _ => by rw [Nat.add_zero]; exact hrow.frozenAt _)
    (fun v hv => by
      simp only [Builtin.zeroCells, Value.cells, Array.toList_map, List.mem_map] at hv
      obtain ⟨i, _, rfl⟩ := hv
      have h4 : i % 4 = 0 ∨ i % 4 = 1 ∨ i % 4 = 2 ∨ i % 4 = 3 := by omega
      show ((#[.bool false, .string ⟨#[]⟩, .string ⟨#[]⟩, .string ⟨#[]⟩] : Array Value)[i % 4]!).oneCell' = true
      rcases h4 with h | h | h | h <;> rw [h] <;> rfl)
  simp only [Nat.add_zero] at hst
  have hv : ∀ w, (zeroValue 135).run Try.prog w = .ok zeroRu w := fun w => by kernel_rfl
  obtain ⟨m, hm⟩ : ∃ m, n - k = m + 1 := ⟨n - k - 1, by omega⟩
  rw [hm] at hst ⊢
  simp [Builtin.clear_, run_underlying Try.underlying83, hv, hst]

end Go.Proofs.Ytnbojbcljfiamaa

namespace Go.Proofs.Ytnbojbcljfiamaa
open Go.RowKit Go.Shelf

theorem row_draws {w : World} {base : Nat} {e : TypeId} {size n : Nat} {v : Value} {xs : List Value} (h : w.ownsRow base e size v n xs) (q : Nat) : (w.drewN q).ownsRow base e size v n xs := h
theorem grown_draws {w W : World} {r : Option Nat} (h : w.grownBy W r) (q : Nat) : w.grownBy (W.drewN q) r := ⟨h.os, h.tape, h.output, h.size, h.block⟩
theorem ret_slc {a : Option Addr} {n m cap : Nat} (h : n = m) : Ending.returned (.slice a n cap) = .returned (.slice a m cap) := by rw [h]
theorem flat_take : ∀ (ys : List Ru) (k : Nat), (ys.flatMap Ru.cells).take (k * 4) = (ys.take k).flatMap Ru.cells
  | [], k => by simp
  | y :: ys, 0 => by simp
  | y :: ys, k + 1 => by
    rw [List.flatMap_cons, List.take_succ_cons, List.flatMap_cons, ← flat_take ys k, show (k + 1) * 4 = k * 4 + 4 by omega]
    rfl
theorem kp_one {rs : List Ru} {j : Nat} (h : j < 0 + 1) : kpB rs j = true := by
  obtain rfl : j = 0 := by omega
  rfl
theorem kp_false {rs : List Ru} {i : Nat} (h : i + 1 < rs.length) (hs : rs[i + 1].same rs[i] = true) : kpB rs (i + 1) = false := by rw [kpB_succ h, hs]; rfl
theorem kp_true {rs : List Ru} {i : Nat} (h : i + 1 < rs.length) (hs : rs[i + 1].same rs[i] = false) : kpB rs (i + 1) = true := by rw [kpB_succ h, hs]; rfl

end Go.Proofs.Ytnbojbcljfiamaa

namespace Go.Proofs.Ytnbojbcljfiamaa
open Go.RowKit Go.Shelf

def goodTo (rs : List Ru) (k : Nat) : Bool := (rs.take k).all Ru.good
/-- A list of rules is a policy. -/
def polB (rs : List Ru) : Bool := rs.all Ru.good && decide (rs.length ≤ 30)
theorem goodTo_zero (rs : List Ru) : goodTo rs 0 = true := by simp [goodTo]
theorem goodTo_succ {rs : List Ru} {k : Nat} (h : k < rs.length) : goodTo rs (k + 1) = (goodTo rs k && rs[k].good) := by
  unfold goodTo
  rw [List.take_succ_eq_append_getElem h, List.all_append]
  simp
theorem good_bad {rs : List Ru} {k : Nat} (h : k < rs.length) (hb : rs[k].good = false) : polB rs = false := by
  unfold polB
  rw [Bool.and_eq_false_iff]
  exact .inl (List.all_eq_false.2 ⟨rs[k], List.getElem_mem h, by simp [hb]⟩)
theorem good_end {rs : List Ru} (h : goodTo rs rs.length = true) : polB rs = decide (rs.length ≤ 30) := by
  unfold goodTo at h
  rw [List.take_length] at h
  unfold polB
  rw [h, Bool.true_and]

end Go.Proofs.Ytnbojbcljfiamaa

namespace Go.Proofs.Ytnbojbcljfiamaa
open Go.RowKit Go.Shelf

/-- A method of a rule takes this one in. -/
def cmB (a b : ByteArray) : Bool := starB a || eqB a b

end Go.Proofs.Ytnbojbcljfiamaa

namespace Go.Proofs.Ytnbojbcljfiamaa
open Go.RowKit Go.Shelf Go.Sort

/-- The plain policy. -/
def plX (rs : List Ru) : List Ru := if polB rs = true then plTo rs rs.length else []
theorem plX_no {rs : List Ru} (h : polB rs = false) : plX rs = [] := if_neg (by rw [h]; exact Bool.false_ne_true)
theorem plX_yes {rs : List Ru} (h : polB rs = true) : plX rs = plTo rs rs.length := if_pos h

theorem cells_one {rs : List Ru} : ∀ u ∈ rs.flatMap Ru.cells, u.oneCell' = true := by
  intro u hu
  rw [List.mem_flatMap] at hu
  obtain ⟨r, _, hr⟩ := hu
  simp at hr
  rcases hr with rfl | rfl | rfl | rfl <;> rfl
theorem pol_all {rs : List Ru} (h : polB rs = true) : (∀ r ∈ rs, r.good = true) ∧ rs.length ≤ 30 := by
  unfold polB at h
  rw [Bool.and_eq_true, List.all_eq_true] at h
  exact ⟨h.1, of_decide_eq_true h.2⟩

end Go.Proofs.Ytnbojbcljfiamaa

namespace Go.Proofs.Ytnbojbcljfiamaa

/-! Numbers that rise. -/
def upI (zs : List Int) (i : Nat) : Bool := match i with
  | 0 => true
  | i + 1 => match zs[i]?, zs[i + 1]? with
    | some a, some b => decide (a < b)
    | _, _ => true
theorem upI_succ {zs : List Int} {i : Nat} (h : i + 1 < zs.length) : upI zs (i + 1) = decide (zs[i] < zs[i + 1]) := by
  simp only [upI]
  rw [List.getElem?_eq_getElem h, List.getElem?_eq_getElem (by omega)]
def upN (zs : List Int) : Bool := (List.range zs.length).all (upI zs)
def okN (nx : Int) (zs : List Int) : Bool := zs.all (fun n => decide (1 ≤ n ∧ n < nx))
theorem upN_no {zs : List Int} {i : Nat} (h : i < zs.length) (hb : upI zs i = false) : upN zs = false :=
  List.all_eq_false.2 ⟨i, List.mem_range.2 h, by rw [hb]; simp⟩
theorem upN_yes {zs : List Int} (h : ∀ i, i < zs.length → upI zs i = true) : upN zs = true :=
  List.all_eq_true.2 fun i hi => h i (List.mem_range.1 hi)
theorem okN_no {nx : Int} {zs : List Int} {i : Nat} (h : i < zs.length) (hb : ¬ (1 ≤ zs[i] ∧ zs[i] < nx)) : okN nx zs = false :=
  List.all_eq_false.2 ⟨_, List.getElem_mem h, by simp; omega⟩
theorem okN_yes {nx : Int} {zs : List Int} (h : ∀ i (hi : i < zs.length), 1 ≤ zs[i] ∧ zs[i] < nx) : okN nx zs = true :=
  List.all_eq_true.2 fun x hx => by
    obtain ⟨i, hi, rfl⟩ := List.getElem_of_mem hx
    exact decide_eq_true (h i hi)
def atN : List Int → Int → Nat
  | [], _ => 0
  | x :: r, n => if x < n then atN r n + 1 else 0
theorem atN_le : ∀ (zs : List Int) (n : Int), atN zs n ≤ zs.length
  | [], _ => Nat.le_refl _
  | x :: r, n => by
    have := atN_le r n
    unfold atN
    split <;> simp <;> omega
theorem atN_lt : ∀ {zs : List Int} {n : Int} {k : Nat} (h : k < zs.length), k < atN zs n → zs[k] < n
  | [], _, _, h, _ => by simp at h
  | x :: r, n, k, h, hk => by
    unfold atN at hk
    split at hk
    · rename_i hx
      cases k with
      | zero => exact hx
      | succ k => exact atN_lt (zs := r) (by simpa using h) (by omega)
    · omega
theorem atN_at : ∀ {zs : List Int} {n : Int} {k : Nat} (h : k < zs.length), k = atN zs n → ¬ zs[k] < n
  | [], _, _, h, _ => by simp at h
  | x :: r, n, k, h, hk => by
    unfold atN at hk
    split at hk
    · subst hk
      exact atN_at (zs := r) (by simpa using h) rfl
    · rename_i hx
      subst hk
      simpa using hx
def hasN (zs : List Int) (n : Int) : Bool := match zs[atN zs n]? with
  | some x => x == n
  | Option.none => false
theorem hasN_at {zs : List Int} {n : Int} (h : atN zs n < zs.length) : hasN zs n = (zs[atN zs n] == n) := by
  unfold hasN
  rw [List.getElem?_eq_getElem h]
theorem hasN_end {zs : List Int} {n : Int} (h : ¬ atN zs n < zs.length) : hasN zs n = false := by
  unfold hasN
  rw [List.getElem?_eq_none (by omega)]
/-- Numbers that rise: one is among them just where it would stand. -/
theorem up_lt {zs : List Int} (h : upN zs = true) : ∀ i j (_ : i < j) (hj : j < zs.length), zs[i] < zs[j] := by
  intro i j hij
  induction j with
  | zero => omega
  | succ j ih =>
    intro hj
    have h1 : upI zs (j + 1) = true := List.all_eq_true.1 h _ (List.mem_range.2 hj)
    rw [upI_succ hj] at h1
    have h1 := of_decide_eq_true h1
    rcases Nat.lt_or_ge i j with h2 | h2
    · have := ih h2 (by omega)
      omega
    · obtain rfl : i = j := by omega
      exact h1

/-- A number is among some. -/
def isTo (zs : List Int) (z : Int) (n : Nat) : Bool := (zs.take n).any (fun x => x == z)
def isI (zs : List Int) (z : Int) : Bool := zs.any (fun x => x == z)
theorem isTo_zero (zs : List Int) (z : Int) : isTo zs z 0 = false := by simp [isTo]
theorem isTo_succ {zs : List Int} {z : Int} {n : Nat} (h : n < zs.length) : isTo zs z (n + 1) = (isTo zs z n || (zs[n] == z)) := by
  unfold isTo
  rw [List.take_succ_eq_append_getElem h, List.any_append]
  simp
theorem isI_yes {zs : List Int} {z : Int} {n : Nat} (h : n < zs.length) (he : (zs[n] == z) = true) : isI zs z = true :=
  List.any_eq_true.2 ⟨zs[n], List.getElem_mem h, he⟩
theorem isI_end (zs : List Int) (z : Int) : isTo zs z zs.length = isI zs z := by
  unfold isTo isI
  rw [List.take_length]
theorem isI_hasN {zs : List Int} (h : upN zs = true) (n : Int) : isI zs n = hasN zs n := by
  rcases Nat.lt_or_ge (atN zs n) zs.length with h1 | h1
  · rw [hasN_at h1]
    cases h2 : (zs[atN zs n] == n)
    · unfold isI
      rw [List.any_eq_false]
      intro x hx he
      obtain ⟨i, hi, rfl⟩ := List.getElem_of_mem hx
      have he := eq_of_beq he
      rcases Nat.lt_trichotomy i (atN zs n) with h3 | h3 | h3
      · have := atN_lt hi h3
        omega
      · subst h3
        rw [he] at h2
        simp at h2
      · have h4 := up_lt h _ _ h3 hi
        have h5 := atN_at h1 rfl
        omega
    · unfold isI
      rw [List.any_eq_true]
      exact ⟨_, List.getElem_mem h1, h2⟩
  · rw [hasN_end (by omega)]
    unfold isI
    rw [List.any_eq_false]
    intro x hx he
    obtain ⟨i, hi, rfl⟩ := List.getElem_of_mem hx
    have := atN_lt (n := n) hi (by omega)
    have he := eq_of_beq he
    omega

/-- A number put among rising ones. -/
def insZ (z : Int) : List Int → List Int
  | [] => [z]
  | x :: r => if x < z then x :: insZ z r else if x = z then x :: r else z :: x :: r
def SZ (l : List Int) : Prop := l.Pairwise (fun x y => x < y)
theorem insZ_mem (z : Int) : ∀ (l : List Int) (y : Int), y ∈ insZ z l ↔ y = z ∨ y ∈ l
  | [], y => by simp [insZ]
  | x :: xs, y => by
    unfold insZ
    split
    · rw [List.mem_cons, insZ_mem z xs y, List.mem_cons]
      constructor
      · rintro (h | h | h)
        · exact .inr (.inl h)
        · exact .inl h
        · exact .inr (.inr h)
      · rintro (h | h | h)
        · exact .inr (.inl h)
        · exact .inl h
        · exact .inr (.inr h)
    · split
      · rename_i h
        subst h
        simp
      · simp
theorem insZ_sz {z : Int} : ∀ l : List Int, SZ l → SZ (insZ z l)
  | [], _ => by simp [insZ, SZ]
  | x :: xs, h => by
    unfold SZ at h
    rw [List.pairwise_cons] at h
    unfold insZ
    split
    · rename_i hx
      unfold SZ
      rw [List.pairwise_cons]
      refine ⟨fun y hy => ?_, insZ_sz xs h.2⟩
      rcases (insZ_mem z xs y).1 hy with rfl | hy
      · exact hx
      · exact h.1 y hy
    · split
      · unfold SZ
        rw [List.pairwise_cons]
        exact h
      · unfold SZ
        rw [List.pairwise_cons, List.pairwise_cons]
        refine ⟨fun y hy => ?_, h⟩
        rw [List.mem_cons] at hy
        rcases hy with rfl | hy
        · omega
        · have := h.1 y hy
          omega
theorem insZ_len (z : Int) : ∀ l : List Int, (insZ z l).length ≤ l.length + 1
  | [] => by simp [insZ]
  | x :: xs => by
    have := insZ_len z xs
    unfold insZ
    split
    · simp; omega
    · split <;> simp
theorem sz_unique : ∀ l l' : List Int, SZ l → SZ l' → (∀ y, y ∈ l ↔ y ∈ l') → l = l'
  | [], [], _, _, _ => rfl
  | [], y :: _, _, _, h => by have := (h y).2 List.mem_cons_self; cases this
  | x :: _, [], _, _, h => by have := (h x).1 List.mem_cons_self; cases this
  | x :: xs, y :: ys, h1, h2, h => by
    unfold SZ at h1 h2
    rw [List.pairwise_cons] at h1 h2
    have hxy : x = y := by
      have a1 := (h x).1 List.mem_cons_self
      have a2 := (h y).2 List.mem_cons_self
      rw [List.mem_cons] at a1 a2
      rcases a1 with a1 | a1
      · exact a1
      · rcases a2 with a2 | a2
        · exact a2.symm
        · have b1 := h2.1 x a1
          have b2 := h1.1 y a2
          omega
    subst hxy
    have ht : ∀ z, z ∈ xs ↔ z ∈ ys := fun z => by
      constructor
      · intro hz
        have := (h z).1 (List.mem_cons_of_mem _ hz)
        rw [List.mem_cons] at this
        rcases this with rfl | this
        · have := h1.1 z hz
          omega
        · exact this
      · intro hz
        have := (h z).2 (List.mem_cons_of_mem _ hz)
        rw [List.mem_cons] at this
        rcases this with rfl | this
        · have := h2.1 z hz
          omega
        · exact this
    rw [sz_unique xs ys h1.2 h2.2 ht]
/-- The numbers of a list rising, each once. -/
def srT (zs : List Int) (k : Nat) : List Int := (zs.take k).foldl (fun o z => insZ z o) []
def srN (zs : List Int) : List Int := srT zs zs.length
theorem srT_zero (zs : List Int) : srT zs 0 = [] := by simp [srT]
theorem srT_succ {zs : List Int} {k : Nat} (h : k < zs.length) : srT zs (k + 1) = insZ zs[k] (srT zs k) := by
  unfold srT
  rw [List.take_succ_eq_append_getElem h, List.foldl_append]
  rfl
theorem srT_mem {zs : List Int} : ∀ k, k ≤ zs.length → ∀ y, y ∈ srT zs k ↔ y ∈ zs.take k
  | 0, _, y => by simp [srT]
  | k + 1, h, y => by
    rw [srT_succ (by omega), insZ_mem, srT_mem k (by omega) y, List.take_succ_eq_append_getElem (by omega), List.mem_append, List.mem_singleton]
    exact Or.comm
theorem srT_sz {zs : List Int} : ∀ k, k ≤ zs.length → SZ (srT zs k)
  | 0, _ => by simp [srT, SZ]
  | k + 1, h => by rw [srT_succ (by omega)]; exact insZ_sz _ (srT_sz k (by omega))
theorem srT_len {zs : List Int} : ∀ k, k ≤ zs.length → (srT zs k).length ≤ k
  | 0, _ => by simp [srT]
  | k + 1, h => by
    rw [srT_succ (by omega)]
    have := insZ_len (zs[k]'(by omega)) (srT zs k)
    have := srT_len (zs := zs) k (by omega)
    omega
theorem srN_mem {zs : List Int} (y : Int) : y ∈ srN zs ↔ y ∈ zs := by
  unfold srN
  rw [srT_mem _ (Nat.le_refl _), List.take_length]
theorem srN_sz (zs : List Int) : SZ (srN zs) := srT_sz _ (Nat.le_refl _)
theorem srN_len (zs : List Int) : (srN zs).length ≤ zs.length := srT_len _ (Nat.le_refl _)
/-- Where a number stands among rising ones, and what putting it there makes. -/
theorem insZ_at {z : Int} : ∀ (l : List Int) (m : Nat), m ≤ l.length → (∀ j (h : j < l.length), j < m → l[j] < z) → (∀ h : m < l.length, ¬ l[m] < z) →
    insZ z l = if h : m < l.length then (if l[m] = z then l else l.take m ++ z :: l.drop m) else l ++ [z]
  | [], m, hm, _, _ => by
    obtain rfl : m = 0 := by simpa using hm
    simp [insZ]
  | x :: xs, 0, _, _, h2 => by
    have this : ¬ x < z := h2 (by simp)
    unfold insZ
    rw [if_neg this]
    simp
  | x :: xs, m + 1, hm, h1, h2 => by
    have hx : x < z := h1 0 (by simp) (by omega)
    have ih := insZ_at (z := z) xs m (by simpa using hm) (fun j hj hjm => h1 (j + 1) (by simpa using hj) (by omega)) (fun hj => h2 (by simpa using hj))
    unfold insZ
    rw [if_pos hx, ih]
    by_cases hlt : m < xs.length
    · rw [dif_pos hlt, dif_pos (by simpa using hlt)]
      simp only [List.getElem_cons_succ]
      split <;> simp
    · rw [dif_neg hlt, dif_neg (by simpa using hlt)]
      simp
theorem insZ_keep {z : Int} {l : List Int} {m : Nat} (hm : m < l.length) (h1 : ∀ j (h : j < l.length), j < m → l[j] < z) (he : l[m] = z) : insZ z l = l := by
  rw [insZ_at l m (by omega) h1 (fun _ => by omega), dif_pos hm, if_pos he]
theorem insZ_new {z : Int} {l : List Int} {m : Nat} (hm : m < l.length) (h1 : ∀ j (h : j < l.length), j < m → l[j] < z) (h2 : ¬ l[m] < z) (he : l[m] ≠ z) : insZ z l = l.take m ++ z :: l.drop m := by
  rw [insZ_at l m (by omega) h1 (fun _ => h2), dif_pos hm, if_neg he]
theorem insZ_end {z : Int} {l : List Int} (h1 : ∀ j (h : j < l.length), j < l.length → l[j] < z) : insZ z l = l ++ [z] := by
  rw [insZ_at l l.length (by omega) h1 (fun h => by omega), dif_neg (by omega)]
/-- Numbers that rise are sorted, each once. -/
theorem sz_up {zs : List Int} : SZ zs ↔ upN zs = true := by
  constructor
  · intro h
    refine upN_yes fun i hi => ?_
    cases i with
    | zero => rfl
    | succ i =>
      rw [upI_succ hi]
      exact decide_eq_true (List.pairwise_iff_getElem.1 h i (i + 1) (by omega) hi (by omega))
  · intro h
    exact List.pairwise_iff_getElem.2 fun i j hi hj hij => up_lt h i j hij hj
theorem srN_up (zs : List Int) : upN (srN zs) = true := sz_up.1 (srN_sz zs)
theorem srN_self {zs : List Int} (h : upN zs = true) : srN zs = zs := sz_unique _ _ (srN_sz zs) (sz_up.2 h) (fun _ => srN_mem _)
/-- Sorted, and runs of one number taken together: the numbers rising, each once. -/
theorem compact_sz {ds : List Int} (hs : ds.Pairwise (fun x y => x ≤ y)) : ∀ m, m ≤ ds.length → SZ (Lib.compactUpTo ds.toArray m) ∧ ∀ y, y ∈ Lib.compactUpTo ds.toArray m ↔ y ∈ ds.take m
  | 0, _ => by simp [Lib.compactUpTo, SZ]
  | m + 1, hm => by
    obtain ⟨i1, i2⟩ := compact_sz hs m (by omega)
    have hget : ds.toArray[m]! = ds[m]'(by omega) := by simp [getElem!_def, List.getElem?_eq_getElem (show m < ds.length by omega)]
    have hle : ∀ y ∈ ds.take m, y ≤ ds[m]'(by omega) := by
      intro y hy
      obtain ⟨j, hj, rfl⟩ := List.getElem_of_mem hy
      rw [List.length_take] at hj
      rw [List.getElem_take]
      exact List.pairwise_iff_getElem.1 hs j m (by omega) (by omega) (by omega)
    rw [Lib.compactUpTo_succ, List.take_succ_eq_append_getElem (by omega), hget]
    by_cases hk : Lib.keeps ds.toArray m = true
    · rw [if_pos hk]
      have hlt : ∀ y ∈ ds.take m, y < ds[m]'(by omega) := by
        intro y hy
        have h1 := hle y hy
        cases m with
        | zero => simp at hy
        | succ m =>
          have hne : ds[m + 1]'(by omega) ≠ ds[m]'(by omega) := by
            intro he
            have : Lib.keeps ds.toArray (m + 1) = false := by
              unfold Lib.keeps
              simp [getElem!_def, List.getElem?_eq_getElem (show m < ds.length by omega), List.getElem?_eq_getElem (show m + 1 < ds.length by omega), he]
            rw [this] at hk
            cases hk
          have h2 : ds[m]'(by omega) ≤ ds[m + 1]'(by omega) := List.pairwise_iff_getElem.1 hs m (m + 1) (by omega) (by omega) (by omega)
          obtain ⟨j, hj, rfl⟩ := List.getElem_of_mem hy
          rw [List.length_take] at hj
          rw [List.getElem_take]
          rcases Nat.lt_or_ge j m with h3 | h3
          · have := List.pairwise_iff_getElem.1 hs j m (by omega) (by omega) h3
            omega
          · have : j = m := by omega
            subst this
            omega
      refine ⟨?_, fun y => ?_⟩
      · unfold SZ
        rw [List.pairwise_append]
        exact ⟨i1, by simp, fun a ha b hb => by rw [List.mem_singleton] at hb; subst hb; exact hlt a ((i2 a).1 ha)⟩
      · rw [List.mem_append, List.mem_append, i2]
    · rw [if_neg hk, List.append_nil]
      refine ⟨i1, fun y => ?_⟩
      rw [i2, List.mem_append, List.mem_singleton]
      constructor
      · exact .inl
      · rintro (h | rfl)
        · exact h
        · cases m with
          | zero => simp [Lib.keeps] at hk
          | succ m =>
            have he : ds[m + 1]'(by omega) = ds[m]'(by omega) := by
              unfold Lib.keeps at hk
              simpa [getElem!_def, List.getElem?_eq_getElem (show m < ds.length by omega), List.getElem?_eq_getElem (show m + 1 < ds.length by omega)] using hk
            rw [he]
            exact List.mem_take_iff_getElem.2 ⟨m, by omega, rfl⟩
theorem compact_sorted (zs : List Int) : Lib.compact (zs.mergeSort fun x y => decide (x ≤ y)) = srN zs := by
  have hs : (zs.mergeSort fun x y => decide (x ≤ y)).Pairwise (fun x y => x ≤ y) :=
    (List.pairwise_mergeSort (le := fun x y => decide (x ≤ y)) (fun a b c h1 h2 => by simp at *; omega) (fun a b => by simp; omega) zs).imp (fun h => by simpa using h)
  obtain ⟨h1, h2⟩ := compact_sz hs _ (Nat.le_refl _)
  refine sz_unique _ _ h1 (srN_sz zs) fun y => ?_
  rw [show Lib.compact _ = Lib.compactUpTo _ _ from rfl, h2, List.take_length, srN_mem]
  exact List.mem_mergeSort

end Go.Proofs.Ytnbojbcljfiamaa

namespace Go.Proofs.Ytnbojbcljfiamaa

/-- A version, and a difference. -/
structure Sn where
  num : Int
  pol : List Ru
  rv : List Int
structure Df where
  fr : Int
  tt : Int
  dr : List Ru
  ad : List Ru
  rv : List Int
theorem insU_length (r : Ru) : ∀ l : List Ru, (insU r l).length ≤ l.length + 1
  | [] => by simp [insU]
  | x :: xs => by
    have := insU_length r xs
    unfold insU
    split
    · simp; omega
    · split <;> simp
def Sn.none : Sn := ⟨0, [], []⟩
def Df.none : Df := ⟨0, 0, [], [], []⟩
def numB (n : Int) : Bool := decide (1 ≤ n ∧ n ≤ 100000)
def fewB (zs : List Int) : Bool := decide (zs.length ≤ 200) && okN 100001 zs
/-- A version is good. -/
def snB (s : Sn) : Bool := numB s.num && (polB s.pol && (sameS (plX s.pol) s.pol && (fewB s.rv && upN s.rv)))
theorem snB_no1 {s : Sn} (h : numB s.num = false) : snB s = false := by unfold snB; rw [h]; rfl
theorem snB_no2 {s : Sn} (h : polB s.pol = false) : snB s = false := by unfold snB; rw [h]; simp
theorem snB_no3 {s : Sn} (h : sameS (plX s.pol) s.pol = false) : snB s = false := by unfold snB; rw [h]; simp
theorem snB_no4 {s : Sn} (h : fewB s.rv = false) : snB s = false := by unfold snB; rw [h]; simp
theorem snB_no5 {s : Sn} (h : upN s.rv = false) : snB s = false := by unfold snB; rw [h]; simp
theorem snB_yes {s : Sn} (h1 : numB s.num = true) (h2 : polB s.pol = true) (h3 : sameS (plX s.pol) s.pol = true) (h4 : fewB s.rv = true) (h5 : upN s.rv = true) : snB s = true := by
  unfold snB; rw [h1, h2, h3, h4, h5]; rfl
theorem snB_parts {s : Sn} (h : snB s = true) : numB s.num = true ∧ polB s.pol = true ∧ sameS (plX s.pol) s.pol = true ∧ fewB s.rv = true ∧ upN s.rv = true := by
  unfold snB at h
  simpa [Bool.and_eq_true] using h
theorem snB_num {s : Sn} (h : snB s = true) : 1 ≤ s.num ∧ s.num ≤ 100000 := of_decide_eq_true (snB_parts h).1
theorem fewB_len {zs : List Int} (h : fewB zs = true) : zs.length ≤ 200 := by
  unfold fewB at h
  rw [Bool.and_eq_true] at h
  exact of_decide_eq_true h.1
theorem fewB_ok {zs : List Int} (h : fewB zs = true) : okN 100001 zs = true := by
  unfold fewB at h
  rw [Bool.and_eq_true] at h
  exact h.2
theorem fewB_no1 {zs : List Int} (h : ¬ zs.length ≤ 200) : fewB zs = false := by unfold fewB; rw [decide_eq_false h]; rfl
theorem fewB_no2 {zs : List Int} (h : okN 100001 zs = false) : fewB zs = false := by unfold fewB; rw [h]; simp
theorem fewB_yes {zs : List Int} (h1 : zs.length ≤ 200) (h2 : okN 100001 zs = true) : fewB zs = true := by unfold fewB; rw [decide_eq_true h1, h2]; rfl

theorem plX_len {rs : List Ru} (h : rs.length ≤ 1048577) : (plX rs).length ≤ 1048577 := by
  unfold plX
  split
  · have hl : ∀ k, k ≤ rs.length → (plTo rs k).length ≤ k := fun k => by
      induction k with
      | zero => intro _; simp [plTo]
      | succ k ih =>
        intro hk
        rw [plTo_succ (by omega)]
        have := insU_length (rs[k]'(by omega)) (plTo rs k)
        have := ih (by omega)
        omega
    exact Nat.le_trans (hl _ (Nat.le_refl _)) h
  · exact Nat.zero_le _

/-- Whether the one at i has the number behind the one ahead of it. -/
def nexB (ss : List Sn) (i : Nat) : Bool := match i with
  | 0 => true
  | i + 1 => match ss[i]?, ss[i + 1]? with
    | some a, some b => b.num == a.num + 1
    | _, _ => true
theorem nexB_succ {ss : List Sn} {i : Nat} (h : i + 1 < ss.length) : nexB ss (i + 1) = (ss[i + 1].num == ss[i].num + 1) := by
  simp only [nexB]
  rw [List.getElem?_eq_getElem h, List.getElem?_eq_getElem (by omega)]
def gdB (ss : List Sn) (i : Nat) : Bool := match ss[i]? with
  | some s => snB s
  | Option.none => true
theorem gdB_at {ss : List Sn} {i : Nat} (h : i < ss.length) : gdB ss i = snB ss[i] := by
  unfold gdB
  rw [List.getElem?_eq_getElem h]
def allB (ss : List Sn) : Bool := (List.range ss.length).all (fun i => gdB ss i && nexB ss i)
/-- A list of versions is good. -/
def lsB (ss : List Sn) : Bool := decide (ss.length ≤ 20) && allB ss
theorem lsB_no1 {ss : List Sn} (h : ¬ ss.length ≤ 20) : lsB ss = false := by unfold lsB; rw [decide_eq_false h]; rfl
theorem lsB_no2 {ss : List Sn} {i : Nat} (h : i < ss.length) (hb : gdB ss i = false) : lsB ss = false := by
  unfold lsB allB
  rw [Bool.and_eq_false_iff]
  exact .inr (List.all_eq_false.2 ⟨i, List.mem_range.2 h, by rw [hb]; simp⟩)
theorem lsB_no3 {ss : List Sn} {i : Nat} (h : i < ss.length) (hb : nexB ss i = false) : lsB ss = false := by
  unfold lsB allB
  rw [Bool.and_eq_false_iff]
  exact .inr (List.all_eq_false.2 ⟨i, List.mem_range.2 h, by rw [hb]; simp⟩)
theorem lsB_yes {ss : List Sn} (h1 : ss.length ≤ 20) (h : ∀ i, i < ss.length → gdB ss i = true ∧ nexB ss i = true) : lsB ss = true := by
  unfold lsB allB
  rw [decide_eq_true h1, Bool.true_and]
  exact List.all_eq_true.2 fun i hi => by have := h i (List.mem_range.1 hi); rw [this.1, this.2]; rfl
theorem lsB_all {ss : List Sn} (h : lsB ss = true) : ss.length ≤ 20 ∧ ∀ i, i < ss.length → gdB ss i = true ∧ nexB ss i = true := by
  unfold lsB allB at h
  rw [Bool.and_eq_true, List.all_eq_true] at h
  refine ⟨of_decide_eq_true h.1, fun i hi => ?_⟩
  have := h.2 i (List.mem_range.2 hi)
  rw [Bool.and_eq_true] at this
  exact this
theorem lsB_mem {ss : List Sn} (h : lsB ss = true) : ∀ s ∈ ss, snB s = true := fun s hs => by
  obtain ⟨i, hi, rfl⟩ := List.getElem_of_mem hs
  have := ((lsB_all h).2 i hi).1
  rwa [gdB_at hi] at this
/-- The numbers of a list of versions. -/
def vN (ss : List Sn) : List Int := ss.map Sn.num
theorem vN_len (ss : List Sn) : (vN ss).length = ss.length := List.length_map _
theorem vN_at {ss : List Sn} {i : Nat} (h : i < (vN ss).length) : (vN ss)[i] = (ss[i]'(by rw [← vN_len ss]; exact h)).num := by simp [vN]
theorem lsB_up {ss : List Sn} (h : lsB ss = true) : upN (vN ss) = true := by
  refine upN_yes fun i hi => ?_
  rw [vN_len] at hi
  cases i with
  | zero => rfl
  | succ i =>
    rw [upI_succ (by rw [vN_len]; exact hi), vN_at, vN_at]
    have := ((lsB_all h).2 (i + 1) hi).2
    rw [nexB_succ hi] at this
    have := eq_of_beq this
    exact decide_eq_true (by omega)
/-- Among rising numbers a number stands where it is. -/
theorem up_at {zs : List Int} {n : Int} {k : Nat} (hu : upN zs = true) (hk : k < zs.length) (he : zs[k] = n) : atN zs n = k ∧ hasN zs n = true := by
  have h1 : atN zs n = k := by
    rcases Nat.lt_trichotomy (atN zs n) k with h | h | h
    · have h2 := atN_at (zs := zs) (n := n) (k := atN zs n) (by omega) rfl
      have h3 := up_lt hu _ _ h hk
      omega
    · exact h
    · have := atN_lt (zs := zs) (n := n) hk h
      omega
  refine ⟨h1, ?_⟩
  rw [hasN_at (by rw [h1]; exact hk)]
  simp only [h1, he, beq_self_eq_true]
theorem up_none {zs : List Int} {n : Int} (hu : upN zs = true) (h : ∀ k (hk : k < zs.length), zs[k] ≠ n) : hasN zs n = false := by
  rw [← isI_hasN hu]
  unfold isI
  rw [List.any_eq_false]
  intro x hx he
  obtain ⟨i, hi, rfl⟩ := List.getElem_of_mem hx
  exact h i hi (eq_of_beq he)
theorem hasN_lt {zs : List Int} {n : Int} (h : hasN zs n = true) : atN zs n < zs.length := by
  rcases Nat.lt_or_ge (atN zs n) zs.length with h1 | h1
  · exact h1
  · rw [hasN_end (by omega)] at h
    cases h
/-- Whether a list is good and has a number. -/
def thB (ss : List Sn) (n : Int) : Bool := lsB ss && hasN (vN ss) n
/-- What SnapshotAt and CompactTo tell. -/
def saX (ss : List Sn) (n : Int) : Sn := if thB ss n = true then (ss[atN (vN ss) n]?).getD Sn.none else Sn.none
def ctX (ss : List Sn) (n : Int) : List Sn := if thB ss n = true then ss.drop (atN (vN ss) n) else []
theorem saX_no {ss : List Sn} {n : Int} (h : thB ss n = false) : saX ss n = Sn.none := if_neg (by rw [h]; exact Bool.false_ne_true)
theorem ctX_no {ss : List Sn} {n : Int} (h : thB ss n = false) : ctX ss n = [] := if_neg (by rw [h]; exact Bool.false_ne_true)
theorem saX_yes {ss : List Sn} {n : Int} {k : Nat} (h : thB ss n = true) (hk : k < ss.length) (he : atN (vN ss) n = k) : saX ss n = ss[k] := by
  unfold saX
  rw [if_pos h, he, List.getElem?_eq_getElem hk]
  rfl
theorem ctX_yes {ss : List Sn} {n : Int} {k : Nat} (h : thB ss n = true) (he : atN (vN ss) n = k) : ctX ss n = ss.drop k := by
  unfold ctX
  rw [if_pos h, he]
/-- The number behind the last one's. -/
def nxN (ss : List Sn) : Int := match ss.getLast? with
  | some s => s.num + 1
  | Option.none => 1
/-- What PutSnapshot tells. -/
def nwS (ss : List Sn) (rs : List Ru) (zs : List Int) : Sn := ⟨nxN ss, plX rs, srN zs⟩
def puB (ss : List Sn) (rs : List Ru) (zs : List Int) : Bool := (lsB ss && (polB rs && fewB zs)) && snB (nwS ss rs zs)
def puX (ss : List Sn) (rs : List Ru) (zs : List Int) : List Sn := if puB ss rs zs = true then (ss ++ [nwS ss rs zs]).drop (ss.length + 1 - 20) else []

/-- Rules and numbers that others have not. -/
def hasR (b : List Ru) (r : Ru) : Bool := b.any (fun y => r.same y)
def woR (a b : List Ru) : List Ru := a.filter (fun r => !(hasR b r))
def woRT (a b : List Ru) (k : Nat) : List Ru := (a.take k).filter (fun r => !(hasR b r))
def woN (a b : List Int) : List Int := a.filter (fun z => !(isI b z))
def woNT (a b : List Int) (k : Nat) : List Int := (a.take k).filter (fun z => !(isI b z))
theorem woRT_zero (a b : List Ru) : woRT a b 0 = [] := by simp [woRT]
theorem woNT_zero (a b : List Int) : woNT a b 0 = [] := by simp [woNT]
theorem woRT_end (a b : List Ru) : woRT a b a.length = woR a b := by unfold woRT woR; rw [List.take_length]
theorem woNT_end (a b : List Int) : woNT a b a.length = woN a b := by unfold woNT woN; rw [List.take_length]
theorem woRT_yes {a b : List Ru} {k : Nat} (h : k < a.length) (hb : hasR b a[k] = true) : woRT a b (k + 1) = woRT a b k := by
  unfold woRT
  rw [List.take_succ_eq_append_getElem h, List.filter_append]
  simp [hb]
theorem woRT_no {a b : List Ru} {k : Nat} (h : k < a.length) (hb : hasR b a[k] = false) : woRT a b (k + 1) = woRT a b k ++ [a[k]] := by
  unfold woRT
  rw [List.take_succ_eq_append_getElem h, List.filter_append]
  simp [hb]
theorem woNT_yes {a b : List Int} {k : Nat} (h : k < a.length) (hb : isI b a[k] = true) : woNT a b (k + 1) = woNT a b k := by
  unfold woNT
  rw [List.take_succ_eq_append_getElem h, List.filter_append]
  simp [hb]
theorem woNT_no {a b : List Int} {k : Nat} (h : k < a.length) (hb : isI b a[k] = false) : woNT a b (k + 1) = woNT a b k ++ [a[k]] := by
  unfold woNT
  rw [List.take_succ_eq_append_getElem h, List.filter_append]
  simp [hb]
theorem woRT_len (a b : List Ru) (k : Nat) : (woRT a b k).length ≤ k := Nat.le_trans (List.length_filter_le _ _) (by rw [List.length_take]; omega)
theorem woNT_len (a b : List Int) (k : Nat) : (woNT a b k).length ≤ k := Nat.le_trans (List.length_filter_le _ _) (by rw [List.length_take]; omega)
theorem woR_len (a b : List Ru) : (woR a b).length ≤ a.length := List.length_filter_le _ _
theorem woN_len (a b : List Int) : (woN a b).length ≤ a.length := List.length_filter_le _ _
theorem woR_mem {a b : List Ru} {r : Ru} (h : r ∈ woR a b) : r ∈ a := (List.mem_filter.1 h).1
/-- What DiffOf tells. -/
def dfB (a b : Sn) : Bool := (snB a && (snB b && decide (a.num < b.num))) && (woN a.rv b.rv).isEmpty
def dfX (a b : Sn) : Df := if dfB a b = true then ⟨a.num, b.num, woR a.pol b.pol, woR b.pol a.pol, woN b.rv a.rv⟩ else Df.none
theorem dfX_no {a b : Sn} (h : dfB a b = false) : dfX a b = Df.none := if_neg (by rw [h]; exact Bool.false_ne_true)
theorem dfX_yes {a b : Sn} (h : dfB a b = true) : dfX a b = ⟨a.num, b.num, woR a.pol b.pol, woR b.pol a.pol, woN b.rv a.rv⟩ := if_pos h

end Go.Proofs.Ytnbojbcljfiamaa

namespace Go.Proofs.Ytnbojbcljfiamaa
open Go.RowKit Go.Shelf

set_option maxHeartbeats 2000000 in
set_option maxRecDepth 100000 in
theorem heldRuleS_to (v : Value) (n k : Nat) (w : World) (hn : n ≤ 1048577) (hk : k + 4 * n ≤ 8000000) (hr : RuS w v (mkL k n)) :
    Calls Try.prog 59 #[v, .int .i64 k] w fun e w' => e = .returned (.int .i64 ((k + 4 * n : Nat) : Int)) ∧ Below w.heap.size w w' := by
  obtain ⟨a, cap, rfl⟩ := hr.len
  have hln := mkL_len k n
  rw [hln] at hr ⊢
  clear hln
  go_enter Try.func59, Try.ntmps59
  go_wp2
  go_loopw [1, 5] (fun kv i wr => ∃ (j c : Nat), j ≤ n ∧ c = k + 4 * j ∧ kv = .int .i64 c ∧ i = .int .i64 j ∧ Below w.heap.size w wr) (fun _ i _ => n - (intOf i).toNat)
  case atStart => exact ⟨0, k, Nat.zero_le _, by omega, rfl, rfl, Below.refl _ _⟩
  case round =>
    obtain ⟨j, c, hj, hc, rfl, rfl, hB⟩ := hrel
    have HC := hid hc
    clear hc
    have hc9 : c ≤ 8000000 := by have := HC.out; omega
    by_cases hlt : j < n
    · obtain ⟨b, off, rfl, hb, hcap, q0, q1, q2, q3⟩ := (hr.below hB).at (k := j) (by rw [mkL_len]; exact hlt)
      rw [mkL_at] at q0 q1 q2 q3
      unfold mkR at q0 q1 q2 q3
      dsimp only at q0 q1 q2 q3
      rw [← HC.out] at q0 q1 q2 q3
      clear hr
      cases hq : ((c : Int) % 3 == 0)
      · rw [hq] at q0
        go_wp2_with fail
        go_region_held3 (fun w' => w'.cell? ⟨b, off + j * 4 + 1, none⟩ = some (.string (mkT (c + 1))) ∧ w'.cell? ⟨b, off + j * 4 + 2, none⟩ = some (.string (mkT (c + 2))) ∧ w'.cell? ⟨b, off + j * 4 + 3, none⟩ = some (.string (mkT (c + 3)))) (go_keep) (first | (go_at_call 41; refine (markText_at (c + 1) _ _ (by push_cast; omega) (by omega)).mono ?_; rintro e v1 ⟨rfl, hB1⟩; have r11 := (hB1.cell (p := ⟨b, off + j * 4 + 1, none⟩) (by exact hb)).trans (by exact q1); have r21 := (hB1.cell (p := ⟨b, off + j * 4 + 2, none⟩) (by exact hb)).trans (by exact q2); have r31 := (hB1.cell (p := ⟨b, off + j * 4 + 3, none⟩) (by exact hb)).trans (by exact q3); have hb1 := Nat.lt_of_lt_of_le hb hB1.size))
        have hBB1 := below_one hB (below_drew1 hB1)
        clear hB1
        go_wp2_with fail
        go_region_held3 (fun w' => w'.cell? ⟨b, off + j * 4 + 2, none⟩ = some (.string (mkT (c + 2))) ∧ w'.cell? ⟨b, off + j * 4 + 3, none⟩ = some (.string (mkT (c + 3)))) (go_keep) (first | (go_at_call 41; refine (markText_at (c + 2) _ _ (by push_cast; omega) (by omega)).mono ?_; rintro e v2 ⟨rfl, hB2⟩; have r22 := (hB2.cell (p := ⟨b, off + j * 4 + 2, none⟩) (by exact hb1)).trans (by exact r21); have r32 := (hB2.cell (p := ⟨b, off + j * 4 + 3, none⟩) (by exact hb1)).trans (by exact r31); have hb2 := Nat.lt_of_lt_of_le hb1 hB2.size))
        have hBB2 := below_one hBB1 (below_drew1 hB2)
        clear hB2
        go_wp2_with fail
        go_region_held3 (fun w' => w'.cell? ⟨b, off + j * 4 + 3, none⟩ = some (.string (mkT (c + 3)))) (go_keep) (first | (go_at_call 41; refine (markText_at (c + 3) _ _ (by push_cast; omega) (by omega)).mono ?_; rintro e v3 ⟨rfl, hB3⟩; have r33 := (hB3.cell (p := ⟨b, off + j * 4 + 3, none⟩) (by exact hb2)).trans (by exact r32); have hb3 := Nat.lt_of_lt_of_le hb2 hB3.size))
        have hBB3 := below_one hBB2 (below_drew1 hB3)
        clear hB3
        go_wp2_with fail
        go_roundw
        case rel => first | exact ⟨j + 1, c + 4, by omega, by have := HC.out; omega, by go_num, by go_num, hBB3⟩ | ((repeat apply Exists.intro); exact ⟨⟨j + 1, c + 4, by omega, by have := HC.out; omega, by go_num, by go_num, hBB3⟩, rfl⟩)
        case measure => simp [intOf]; omega
      · rw [hq] at q0
        go_wp2_with fail
        go_region_held3 (fun w' => w'.cell? ⟨b, off + j * 4 + 1, none⟩ = some (.string (mkT (c + 1))) ∧ w'.cell? ⟨b, off + j * 4 + 2, none⟩ = some (.string (mkT (c + 2))) ∧ w'.cell? ⟨b, off + j * 4 + 3, none⟩ = some (.string (mkT (c + 3)))) (go_keep) (first | (go_at_call 41; refine (markText_at (c + 1) _ _ (by push_cast; omega) (by omega)).mono ?_; rintro e v1 ⟨rfl, hB1⟩; have r11 := (hB1.cell (p := ⟨b, off + j * 4 + 1, none⟩) (by exact hb)).trans (by exact q1); have r21 := (hB1.cell (p := ⟨b, off + j * 4 + 2, none⟩) (by exact hb)).trans (by exact q2); have r31 := (hB1.cell (p := ⟨b, off + j * 4 + 3, none⟩) (by exact hb)).trans (by exact q3); have hb1 := Nat.lt_of_lt_of_le hb hB1.size))
        have hBB1 := below_one hB (below_drew1 hB1)
        clear hB1
        go_wp2_with fail
        go_region_held3 (fun w' => w'.cell? ⟨b, off + j * 4 + 2, none⟩ = some (.string (mkT (c + 2))) ∧ w'.cell? ⟨b, off + j * 4 + 3, none⟩ = some (.string (mkT (c + 3)))) (go_keep) (first | (go_at_call 41; refine (markText_at (c + 2) _ _ (by push_cast; omega) (by omega)).mono ?_; rintro e v2 ⟨rfl, hB2⟩; have r22 := (hB2.cell (p := ⟨b, off + j * 4 + 2, none⟩) (by exact hb1)).trans (by exact r21); have r32 := (hB2.cell (p := ⟨b, off + j * 4 + 3, none⟩) (by exact hb1)).trans (by exact r31); have hb2 := Nat.lt_of_lt_of_le hb1 hB2.size))
        have hBB2 := below_one hBB1 (below_drew1 hB2)
        clear hB2
        go_wp2_with fail
        go_region_held3 (fun w' => w'.cell? ⟨b, off + j * 4 + 3, none⟩ = some (.string (mkT (c + 3)))) (go_keep) (first | (go_at_call 41; refine (markText_at (c + 3) _ _ (by push_cast; omega) (by omega)).mono ?_; rintro e v3 ⟨rfl, hB3⟩; have r33 := (hB3.cell (p := ⟨b, off + j * 4 + 3, none⟩) (by exact hb2)).trans (by exact r32); have hb3 := Nat.lt_of_lt_of_le hb2 hB3.size))
        have hBB3 := below_one hBB2 (below_drew1 hB3)
        clear hB3
        go_wp2_with fail
        go_roundw
        case rel => first | exact ⟨j + 1, c + 4, by omega, by have := HC.out; omega, by go_num, by go_num, hBB3⟩ | ((repeat apply Exists.intro); exact ⟨⟨j + 1, c + 4, by omega, by have := HC.out; omega, by go_num, by go_num, hBB3⟩, rfl⟩)
        case measure => simp [intOf]; omega
    · obtain rfl : j = n := by omega
      go_wp2
      go_ret
      exact ⟨ret_int (by rw [HC.out]), hB⟩

theorem heldRuleS_any (v : Value) (n k : Nat) (w : World) (hn : n ≤ 1048577) (hk : k ≤ 1) (hr : RuS w v (mkL k n)) :
    Calls Try.prog 59 #[v, .int .i64 k] w fun e w' => e = .returned (.int .i64 ((k + 4 * n : Nat) : Int)) ∧ Below w.heap.size w w' :=
  heldRuleS_to v n k w hn (by omega) hr

end Go.Proofs.Ytnbojbcljfiamaa
