/-
  Issuers marked by the laws, and held against the marks.
-/
import Derived.Test.YthejifjjaknifagMarkW
import Derived.Test.YthejifjjaknifagWorkE
namespace Go.Proofs.Ythejifjjaknifag
open Go.RowKit Go.Shelf

/-- Only blocks from lo on, below hi, and new ones have turned. -/
structure Mid (lo hi : Nat) (w w' : World) : Prop where
  os : w'.os = w.os
  tape : w'.tape = w.tape
  output : w'.output = w.output
  size : w.heap.size ≤ w'.heap.size
  block : ∀ k, k < w.heap.size → (k < lo ∨ hi ≤ k) → w'.heap[k]? = w.heap[k]?
theorem Mid.trans {lo hi : Nat} {w w1 w2 : World} (h : Mid lo hi w w1) (h2 : Mid lo hi w1 w2) : Mid lo hi w w2 :=
  ⟨h2.os.trans h.os, h2.tape.trans h.tape, h2.output.trans h.output, Nat.le_trans h.size h2.size, fun k hk hn => (h2.block k (Nat.lt_of_lt_of_le hk h.size) hn).trans (h.block k hk hn)⟩
theorem Mid.of_below {lo hi : Nat} {w w1 : World} (h : Below w.heap.size w w1) : Mid lo hi w w1 :=
  ⟨h.os, h.tape, h.output, h.size, fun k hk _ => h.block k hk⟩
theorem Mid.of_grown {lo hi : Nat} {w w1 : World} {r : Option Nat} (h : w.grownBy w1 r) (hr : ∀ k, r = some k → lo ≤ k ∧ k < hi) : Mid lo hi w w1 :=
  ⟨h.os, h.tape, h.output, h.size, fun k hk hn => h.block k hk (fun e => by have := hr k e.symm; omega)⟩
theorem Mid.below {lo hi n : Nat} {w w1 : World} (h : Mid lo hi w w1) (hn : n ≤ lo) (hs : n ≤ w.heap.size) : Below n w w1 :=
  ⟨h.os, h.tape, h.output, h.size, fun k hk => h.block k (by omega) (.inl (by omega))⟩
theorem Mid.row {lo hi : Nat} {w w1 : World} (h : Mid lo hi w w1) {base : Nat} {e : TypeId} {size n : Nat} {v : Value} {xs : List Value} (hr : w.ownsRow base e size v n xs) (ho : ∀ k, v.ownBlock = some k → k < lo ∨ hi ≤ k) : w1.ownsRow base e size v n xs := by
  refine ⟨hr.1, ?_⟩
  rcases hr.2 with hv | ⟨g, cap, cur, rfl, hg, hb, h4⟩
  · exact .inl hv
  · exact .inr ⟨g, cap, cur, rfl, hg, (h.block g (Array.getElem?_eq_some_iff.1 hb).1 (ho g rfl)).trans hb, h4⟩
theorem Mid.iso {lo hi : Nat} {w w1 : World} (h : Mid lo hi w w1) {base top : Nat} {v : Value} {s : Is} (hr : IsO w base top v s) (ho : hi ≤ base ∨ top ≤ lo) : IsO w1 base top v s := by
  obtain ⟨vw, vr, vs, rfl, h1, h2, h3, t1, t2, t3⟩ := hr
  exact ⟨vw, vr, vs, rfl, h.row h1 (fun k hk => by have := h1.lt k hk; have := t1 k hk; omega), h.row h2 (fun k hk => by have := h2.lt k hk; have := t2 k hk; omega), h.row h3 (fun k hk => by have := h3.lt k hk; have := t3 k hk; omega), t1, t2, t3⟩
theorem Mid.four {lo hi : Nat} {w w1 : World} (h : Mid lo hi w w1) {t : TypeId} {k : Nat} {a b c d : Value} (hr : Four w t k a b c d) (ho : k < lo ∨ hi ≤ k) : Four w1 t k a b c d :=
  h.row hr (fun j hj => by simp [Value.ownBlock] at hj; omega)
theorem row_kind {w : World} {B : Nat} {e : TypeId} {size : Nat} {v : Value} {n : Nat} {xs : List Value} (h : w.ownsRow B e size v n xs) : ∀ g, v.ownBlock = some g → ∃ c, w.heap[g]? = some (.cells c e (0, 0)) := by
  intro g hg
  rcases h.2 with ⟨rfl, _⟩ | ⟨g', cap, cur, rfl, _, hgg, _⟩
  · simp [Value.ownBlock] at hg
  · simp [Value.ownBlock] at hg
    subst hg
    exact ⟨cur, hgg⟩
/-- Rows of different kinds lie apart. -/
theorem row_apart {w : World} {b1 b2 : Nat} {e1 e2 : TypeId} {s1 s2 n1 n2 : Nat} {v1 v2 : Value} {x1 x2 : List Value} (h1 : w.ownsRow b1 e1 s1 v1 n1 x1) (h2 : w.ownsRow b2 e2 s2 v2 n2 x2) (hne : e1 ≠ e2) : ∀ k, v1.ownBlock = some k → v2.ownBlock = some k → False := fun k hk1 hk2 => by
  obtain ⟨c1, g1⟩ := row_kind h1 k hk1
  obtain ⟨c2, g2⟩ := row_kind h2 k hk2
  rw [g1] at g2
  injection g2 with g2
  injection g2 with _ g2 _
  exact hne g2

/-- What lies in an issuer that was marked. -/
def mkIs (k : Nat) (s : Is) : Is := ⟨mkWs k s.ws.length, s.nx, mkN (k + 3 * s.ws.length) s.rv.length, mkS (k + 3 * s.ws.length + s.rv.length) s.sg.length⟩
def Is.many (s : Is) : Nat := 3 * s.ws.length + s.rv.length + s.sg.length

set_option maxHeartbeats 2000000 in
theorem markIssuer_any (v : Value) (s : Is) (k base top : Nat) (w : World) (hs : s.short) (hk : k + s.many ≤ 8000000) (ht : top ≤ w.heap.size) (h : IsO w base top v s) :
    Calls Try.prog 18 #[v, .int .i64 k] w fun e w' => e = .returned (.int .i64 ((k + s.many : Nat) : Int)) ∧ IsO w' base top v (mkIs k s) ∧ Mid base top w w' := by
  obtain ⟨vw, vr, vs, rfl, h1, h2, h3, t1, t2, t3⟩ := h
  obtain ⟨l1, l2, l3⟩ := hs
  unfold Is.many at hk
  obtain ⟨c1, HC1⟩ : ∃ c, Hid (c = k + 3 * s.ws.length) := ⟨_, hid rfl⟩
  obtain ⟨c2, HC2⟩ : ∃ c, Hid (c = c1 + s.rv.length) := ⟨_, hid rfl⟩
  have hc1 : c1 ≤ 8000000 := by have := HC1.out; omega
  have hc2 : c2 ≤ 8000000 := by have := HC1.out; have := HC2.out; omega
  have hB0 : Below w.heap.size w (w.alloc (.cells #[vw, .int .i64 s.nx, vr, vs] 37)) := (Below.refl _ w).alloc (Nat.le_refl _) _
  have F := Four.new w vw (.int .i64 s.nx) vr vs 37
  replace h1 := ownsRow_below h1 hB0
  replace h2 := ownsRow_below h2 hB0
  replace h3 := ownsRow_below h3 hB0
  have M0 : Mid base top w (w.alloc (.cells #[vw, .int .i64 s.nx, vr, vs] 37)) := Mid.of_below hB0
  go_enter Try.func18, Try.ntmps18
  go_wp2_with fail
  clear hB0
  generalize w.alloc (.cells #[vw, .int .i64 s.nx, vr, vs] 37) = W0 at *
  refine (markWorkS_to vw s.ws.length k base _ _ l1 (by omega) h1).mono ?_
  rintro e w1 ⟨rfl, r1, g1⟩
  rw [← HC1.out]
  have M1 : Mid base top W0 w1 := Mid.of_grown g1 (fun j hj => ⟨(h1.lt j hj).1, t1 j hj⟩)
  replace h2 := kept_apart h2 g1 (row_apart h2 h1 (by decide))
  replace h3 := kept_apart h3 g1 (row_apart h3 h1 (by decide))
  replace F := M1.four F (.inr ht)
  replace M0 := M0.trans M1
  clear M1 g1
  obtain ⟨a0, a1, a2, a3⟩ := F.c
  go_wp2_with fail
  refine (markIntS_to vr s.rv.length c1 base _ _ l2 (by have := HC1.out; omega) h2).mono ?_
  rintro e w2 ⟨rfl, r2, g2⟩
  rw [← HC2.out]
  have M1 : Mid base top w1 w2 := Mid.of_grown g2 (fun j hj => ⟨(h2.lt j hj).1, t2 j hj⟩)
  replace r1 := kept_apart r1 g2 (row_apart r1 h2 (by decide))
  replace h3 := kept_apart h3 g2 (row_apart h3 h2 (by decide))
  replace F := M1.four F (.inr ht)
  replace M0 := M0.trans M1
  clear M1 g2 a0 a1 a2 a3
  obtain ⟨a0, a1, a2, a3⟩ := F.c
  go_wp2_with fail
  refine (markStringS_to vs s.sg.length c2 base _ _ l3 (by have := HC1.out; have := HC2.out; omega) h3).mono ?_
  rintro e w3 ⟨rfl, r3, g3⟩
  have HE := hid (show ((c2 + s.sg.length : Nat) : Int) = ((k + s.many : Nat) : Int) by have := HC1.out; have := HC2.out; unfold Is.many; omega)
  rw [HE.out]
  have M1 : Mid base top w2 w3 := Mid.of_grown g3 (fun j hj => ⟨(h3.lt j hj).1, t3 j hj⟩)
  replace r1 := kept_apart r1 g3 (row_apart r1 h3 (by decide))
  replace r2 := kept_apart r2 g3 (row_apart r2 h3 (by decide))
  replace M0 := M0.trans M1
  clear M1 g3 a0 a1 a2 a3
  go_wp2_with fail
  go_ret
  refine ⟨rfl, ⟨vw, vr, vs, rfl, ?_, ?_, ?_, t1, t2, t3⟩, M0⟩
  · show World.ownsRow _ _ _ _ _ (mkWs k s.ws.length).length _
    rw [mkWs_len]
    exact r1
  · show World.ownsRow _ _ _ _ _ (mkN (k + 3 * s.ws.length) s.rv.length).length (nums (mkN (k + 3 * s.ws.length) s.rv.length))
    rw [mkN_len, ← HC1.out]
    exact r2
  · show World.ownsRow _ _ _ _ _ (mkS (k + 3 * s.ws.length + s.rv.length) s.sg.length).length (strs (mkS (k + 3 * s.ws.length + s.rv.length) s.sg.length))
    rw [mkS_len, ← HC1.out, ← HC2.out]
    exact r3

set_option maxHeartbeats 2000000 in
theorem heldIssuer_any (v : Value) (s : Is) (k : Nat) (w : World) (hs : s.short) (hk : k + s.many ≤ 8000000) (h : IsA w v (mkIs k s)) :
    Calls Try.prog 19 #[v, .int .i64 k] w fun e w' => e = .returned (.int .i64 ((k + s.many : Nat) : Int)) ∧ Below w.heap.size w w' := by
  obtain ⟨vw, vr, vs, rfl, h1, h2, h3⟩ := h.parts
  obtain ⟨l1, l2, l3⟩ := hs
  unfold Is.many at hk
  obtain ⟨c1, HC1⟩ : ∃ c, Hid (c = k + 3 * s.ws.length) := ⟨_, hid rfl⟩
  obtain ⟨c2, HC2⟩ : ∃ c, Hid (c = c1 + s.rv.length) := ⟨_, hid rfl⟩
  have hc1 : c1 ≤ 8000000 := by have := HC1.out; omega
  have hc2 : c2 ≤ 8000000 := by have := HC1.out; have := HC2.out; omega
  have h1' : WkS w vw (mkWs k s.ws.length) := h1
  have h2' : VS w vr (nums (mkN c1 s.rv.length)) := by rw [HC1.out]; exact h2
  have h3' : VS w vs (strs (mkS c2 s.sg.length)) := by rw [HC2.out, HC1.out]; exact h3
  have hnx : (mkIs k s).nx = s.nx := rfl
  rw [hnx]
  clear h h1 h2 h3 hnx
  have hB0 : Below w.heap.size w (w.alloc (.cells #[vw, .int .i64 s.nx, vr, vs] 37)) := (Below.refl _ w).alloc (Nat.le_refl _) _
  have F := Four.new w vw (.int .i64 s.nx) vr vs 37
  go_enter Try.func19, Try.ntmps19
  go_wp2_with fail
  generalize w.alloc (.cells #[vw, .int .i64 s.nx, vr, vs] 37) = W0 at *
  refine (heldWorkS_to vw s.ws.length k _ l1 (by omega) (h1'.below hB0)).mono ?_
  rintro e w1 ⟨rfl, hB1⟩
  rw [← HC1.out]
  replace F := F.below hB1
  have hBB1 := below_one hB0 hB1
  clear hB0 hB1
  obtain ⟨a0, a1, a2, a3⟩ := F.c
  have d1 : decide ((c1 : Int) < 0) = false := by simp
  go_wp2_with fail
  refine (heldIntS_to vr s.rv.length c1 _ l2 (by have := HC1.out; omega) (h2'.below hBB1)).mono ?_
  rintro e w2 ⟨rfl, hB2⟩
  rw [← HC2.out]
  replace F := F.below hB2
  have hBB2 := below_one hBB1 hB2
  clear hBB1 hB2 a0 a1 a2 a3
  obtain ⟨a0, a1, a2, a3⟩ := F.c
  have d2 : decide ((c2 : Int) < 0) = false := by simp
  go_wp2_with fail
  refine (heldStringS_to vs s.sg.length c2 _ l3 (by have := HC1.out; have := HC2.out; omega) (h3'.below hBB2)).mono ?_
  rintro e w3 ⟨rfl, hB3⟩
  obtain ⟨c3, HC3⟩ : ∃ c, Hid (c = c2 + s.sg.length) := ⟨_, hid rfl⟩
  rw [← HC3.out]
  have d3 : decide ((c3 : Int) < 0) = false := by simp
  go_wp2_with fail
  go_ret
  exact ⟨ret_int (by have := HC1.out; have := HC2.out; have := HC3.out; unfold Is.many; omega), below_one hBB2 hB3⟩

end Go.Proofs.Ythejifjjaknifag
