/-
  Issuers marked by the laws, and held against the marks.
-/
import Derived.Test.YtfchmhcnejifhaaDoorMarkW
import Derived.Test.YtfchmhcnejifhaaDoorWorkE
namespace Go.Proofs.YtfchmhcnejifhaaDoor
open Go.RowKit Go.Shelf

theorem Mid.iso {lo hi : Nat} {w w1 : World} (h : Mid lo hi w w1) {base top : Nat} {v : Value} {s : Is} (hr : IsO w base top v s) (ho : hi ≤ base ∨ top ≤ lo) : IsO w1 base top v s := by
  obtain ⟨vw, vr, vs, rfl, h1, h2, h3, t1, t2, t3⟩ := hr
  exact ⟨vw, vr, vs, rfl, h.row h1 (fun k hk => by have := h1.lt k hk; have := t1 k hk; omega), h.row h2 (fun k hk => by have := h2.lt k hk; have := t2 k hk; omega), h.row h3 (fun k hk => by have := h3.lt k hk; have := t3 k hk; omega), t1, t2, t3⟩
/-- What lies in an issuer that was marked. -/
def mkIs (k : Nat) (s : Is) : Is := ⟨mkWs k s.ws.length, s.nx, mkN (k + 3 * s.ws.length) s.rv.length, mkS (k + 3 * s.ws.length + s.rv.length) s.sg.length⟩
def Is.many (s : Is) : Nat := 3 * s.ws.length + s.rv.length + s.sg.length

set_option maxHeartbeats 2000000 in
theorem markIssuer_any (v : Value) (s : Is) (k base top : Nat) (w : World) (hs : s.short) (hk : k + s.many ≤ 8000000) (ht : top ≤ w.heap.size) (h : IsO w base top v s) :
    Calls Tryd.prog 10 #[v, .int .i64 k] w fun e w' => e = .returned (.int .i64 ((k + s.many : Nat) : Int)) ∧ IsO w' base top v (mkIs k s) ∧ Mid base top w w' := by
  obtain ⟨vw, vr, vs, rfl, h1, h2, h3, t1, t2, t3⟩ := h
  obtain ⟨l1, l2, l3⟩ := hs
  unfold Is.many at hk
  obtain ⟨c1, HC1⟩ : ∃ c, Hid (c = k + 3 * s.ws.length) := ⟨_, hid rfl⟩
  obtain ⟨c2, HC2⟩ : ∃ c, Hid (c = c1 + s.rv.length) := ⟨_, hid rfl⟩
  have hc1 : c1 ≤ 8000000 := by have := HC1.out; omega
  have hc2 : c2 ≤ 8000000 := by have := HC1.out; have := HC2.out; omega
  have hB0 : Below w.heap.size w (w.alloc (.cells #[vw, .int .i64 s.nx, vr, vs] 30)) := (Below.refl _ w).alloc (Nat.le_refl _) _
  have F := Four.new w vw (.int .i64 s.nx) vr vs 30
  replace h1 := ownsRow_below h1 hB0
  replace h2 := ownsRow_below h2 hB0
  replace h3 := ownsRow_below h3 hB0
  have M0 : Mid base top w (w.alloc (.cells #[vw, .int .i64 s.nx, vr, vs] 30)) := Mid.of_below hB0
  go_enter Tryd.func10, Tryd.ntmps10
  go_wp2_with fail
  clear hB0
  generalize w.alloc (.cells #[vw, .int .i64 s.nx, vr, vs] 30) = W0 at *
  refine (markWorkS_to vw s.ws.length k base _ _ l1 (by omega) h1).mono ?_
  rintro e w1 ⟨rfl, r1, g1⟩
  rw [← HC1.out]
  have M1 : Mid base top W0 w1 := Mid.of_grown g1 (fun j hj => ⟨(h1.lt j hj).1, t1 j hj⟩)
  replace h2 := kept_apart h2 g1 (row_apart h2 h1 (by decide))
  replace h3 := kept_apart h3 g1 (row_apart h3 h1 (by decide))
  replace F := M1.four F (.inr ht)
  replace M0 := M0.trans M1
  clear M1 g1
  obtain ⟨a0, a1, a2, a3⟩ := F.c
  go_wp2_with fail
  refine (markIntS_to vr s.rv.length c1 base _ _ l2 (by have := HC1.out; omega) h2).mono ?_
  rintro e w2 ⟨rfl, r2, g2⟩
  rw [← HC2.out]
  have M1 : Mid base top w1 w2 := Mid.of_grown g2 (fun j hj => ⟨(h2.lt j hj).1, t2 j hj⟩)
  replace r1 := kept_apart r1 g2 (row_apart r1 h2 (by decide))
  replace h3 := kept_apart h3 g2 (row_apart h3 h2 (by decide))
  replace F := M1.four F (.inr ht)
  replace M0 := M0.trans M1
  clear M1 g2 a0 a1 a2 a3
  obtain ⟨a0, a1, a2, a3⟩ := F.c
  go_wp2_with fail
  refine (markStringS_to vs s.sg.length c2 base _ _ l3 (by have := HC1.out; have := HC2.out; omega) h3).mono ?_
  rintro e w3 ⟨rfl, r3, g3⟩
  have HE := hid (show ((c2 + s.sg.length : Nat) : Int) = ((k + s.many : Nat) : Int) by have := HC1.out; have := HC2.out; unfold Is.many; omega)
  rw [HE.out]
  have M1 : Mid base top w2 w3 := Mid.of_grown g3 (fun j hj => ⟨(h3.lt j hj).1, t3 j hj⟩)
  replace r1 := kept_apart r1 g3 (row_apart r1 h3 (by decide))
  replace r2 := kept_apart r2 g3 (row_apart r2 h3 (by decide))
  replace M0 := M0.trans M1
  clear M1 g3 a0 a1 a2 a3
  go_wp2_with fail
  go_ret
  refine ⟨rfl, ⟨vw, vr, vs, rfl, ?_, ?_, ?_, t1, t2, t3⟩, M0⟩
  · show World.ownsRow _ _ _ _ _ (mkWs k s.ws.length).length _
    rw [mkWs_len]
    exact r1
  · show World.ownsRow _ _ _ _ _ (mkN (k + 3 * s.ws.length) s.rv.length).length (nums (mkN (k + 3 * s.ws.length) s.rv.length))
    rw [mkN_len, ← HC1.out]
    exact r2
  · show World.ownsRow _ _ _ _ _ (mkS (k + 3 * s.ws.length + s.rv.length) s.sg.length).length (strs (mkS (k + 3 * s.ws.length + s.rv.length) s.sg.length))
    rw [mkS_len, ← HC1.out, ← HC2.out]
    exact r3

set_option maxHeartbeats 2000000 in
theorem heldIssuer_any (v : Value) (s : Is) (k : Nat) (w : World) (hs : s.short) (hk : k + s.many ≤ 8000000) (h : IsA w v (mkIs k s)) :
    Calls Tryd.prog 11 #[v, .int .i64 k] w fun e w' => e = .returned (.int .i64 ((k + s.many : Nat) : Int)) ∧ Below w.heap.size w w' := by
  obtain ⟨vw, vr, vs, rfl, h1, h2, h3⟩ := h.parts
  obtain ⟨l1, l2, l3⟩ := hs
  unfold Is.many at hk
  obtain ⟨c1, HC1⟩ : ∃ c, Hid (c = k + 3 * s.ws.length) := ⟨_, hid rfl⟩
  obtain ⟨c2, HC2⟩ : ∃ c, Hid (c = c1 + s.rv.length) := ⟨_, hid rfl⟩
  have hc1 : c1 ≤ 8000000 := by have := HC1.out; omega
  have hc2 : c2 ≤ 8000000 := by have := HC1.out; have := HC2.out; omega
  have h1' : WkS w vw (mkWs k s.ws.length) := h1
  have h2' : VS w vr (nums (mkN c1 s.rv.length)) := by rw [HC1.out]; exact h2
  have h3' : VS w vs (strs (mkS c2 s.sg.length)) := by rw [HC2.out, HC1.out]; exact h3
  have hnx : (mkIs k s).nx = s.nx := rfl
  rw [hnx]
  clear h h1 h2 h3 hnx
  have hB0 : Below w.heap.size w (w.alloc (.cells #[vw, .int .i64 s.nx, vr, vs] 30)) := (Below.refl _ w).alloc (Nat.le_refl _) _
  have F := Four.new w vw (.int .i64 s.nx) vr vs 30
  go_enter Tryd.func11, Tryd.ntmps11
  go_wp2_with fail
  generalize w.alloc (.cells #[vw, .int .i64 s.nx, vr, vs] 30) = W0 at *
  refine (heldWorkS_to vw s.ws.length k _ l1 (by omega) (h1'.below hB0)).mono ?_
  rintro e w1 ⟨rfl, hB1⟩
  rw [← HC1.out]
  replace F := F.below hB1
  have hBB1 := below_one hB0 hB1
  clear hB0 hB1
  obtain ⟨a0, a1, a2, a3⟩ := F.c
  have d1 : decide ((c1 : Int) < 0) = false := by simp
  go_wp2_with fail
  refine (heldIntS_to vr s.rv.length c1 _ l2 (by have := HC1.out; omega) (h2'.below hBB1)).mono ?_
  rintro e w2 ⟨rfl, hB2⟩
  rw [← HC2.out]
  replace F := F.below hB2
  have hBB2 := below_one hBB1 hB2
  clear hBB1 hB2 a0 a1 a2 a3
  obtain ⟨a0, a1, a2, a3⟩ := F.c
  have d2 : decide ((c2 : Int) < 0) = false := by simp
  go_wp2_with fail
  refine (heldStringS_to vs s.sg.length c2 _ l3 (by have := HC1.out; have := HC2.out; omega) (h3'.below hBB2)).mono ?_
  rintro e w3 ⟨rfl, hB3⟩
  obtain ⟨c3, HC3⟩ : ∃ c, Hid (c = c2 + s.sg.length) := ⟨_, hid rfl⟩
  rw [← HC3.out]
  have d3 : decide ((c3 : Int) < 0) = false := by simp
  go_wp2_with fail
  go_ret
  exact ⟨ret_int (by have := HC1.out; have := HC2.out; have := HC3.out; unfold Is.many; omega), below_one hBB2 hB3⟩

end Go.Proofs.YtfchmhcnejifhaaDoor
