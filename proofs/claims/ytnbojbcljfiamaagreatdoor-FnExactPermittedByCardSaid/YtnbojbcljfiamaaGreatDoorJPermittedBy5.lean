/-
  The library's Equal and Contains over rules and numbers, and its Clone of lists that can be read.
-/
import Derived.Test.YtnbojbcljfiamaaGreatDoorJPermittedBy4
import Derived.Deep.RegionHeld3
import Derived.Test.YtnbojbcljfiamaaGreatDoorJPermittedBy1
import Derived.WalkKit
import Derived.ProofKit
import Derived.Test.YtnbojbcljfiamaaGreatDoorJPermittedBy0
import Derived.Test.YtnbojbcljfiamaaGreatDoorJPermittedBy2
import Derived.Shelf.Slices.Turned
import Derived.Shelf.SlicesQ.Equal
import Derived.Shelf.SlicesQ.Contains
import Derived.Shelf.SlicesE.Clone
namespace Go.Proofs.YtnbojbcljfiamaaGreatDoor
open Go.RowKit Go.Shelf

theorem Is.short_of {s : Is} (h : s.size ≤ 1048576) : s.short := by
  unfold Is.size wzAll tzAll at h
  exact ⟨by omega, by omega, by omega⟩
theorem is_frm {w : World} {v : Value} {s : Is} (h : IsA w v s) : ∃ a b c d e f, v = .agg #[.slice a s.ws.length b, .int .i64 s.nx, .slice c s.rv.length d, .slice e s.sg.length f] := by
  obtain ⟨vw, vr, vs, rfl, h1, h2, h3⟩ := h.parts
  obtain ⟨a1, c1, rfl⟩ := h1.len
  obtain ⟨a2, c2, rfl⟩ := h2.numLen
  obtain ⟨a3, c3, rfl⟩ := h3.strLen
  exact ⟨_, _, _, _, _, _, rfl⟩
/-- A mesh. -/
structure Ms where
  now : Int
  iss : Is
  vs : List Sn
  sc : List Sc
  dl : List Dv
/-- These cells read as this one. -/
def MsC (w : World) (cs : List Value) (m : Ms) : Prop := ∃ p1a p1b p1c p1d p1e p1f p2x p2z p3x p3z p4x p4z, cs = [.int .i64 m.now, .slice p1a m.iss.ws.length p1b, .int .i64 m.iss.nx, .slice p1c m.iss.rv.length p1d, .slice p1e m.iss.sg.length p1f, .slice p2x m.vs.length p2z, .slice p3x m.sc.length p3z, .slice p4x m.dl.length p4z] ∧ IsA w (.agg #[.slice p1a m.iss.ws.length p1b, .int .i64 m.iss.nx, .slice p1c m.iss.rv.length p1d, .slice p1e m.iss.sg.length p1f]) m.iss ∧ SsA w (.slice p2x m.vs.length p2z) m.vs ∧ GsA 10 ScC w (.slice p3x m.sc.length p3z) m.sc ∧ GsA 6 DvC w (.slice p4x m.dl.length p4z) m.dl
/-- .. of one's own, in blocks from base on, below top. -/
def MsO (w : World) (base top : Nat) (cs : List Value) (m : Ms) : Prop := ∃ p1a p1b p1c p1d p1e p1f p2x p2z p3x p3z p4x p4z m1 m2 m3, cs = [.int .i64 m.now, .slice p1a m.iss.ws.length p1b, .int .i64 m.iss.nx, .slice p1c m.iss.rv.length p1d, .slice p1e m.iss.sg.length p1f, .slice p2x m.vs.length p2z, .slice p3x m.sc.length p3z, .slice p4x m.dl.length p4z] ∧ base ≤ m1 ∧ m1 ≤ m2 ∧ m2 ≤ m3 ∧ m3 ≤ top ∧ IsO w base m1 (.agg #[.slice p1a m.iss.ws.length p1b, .int .i64 m.iss.nx, .slice p1c m.iss.rv.length p1d, .slice p1e m.iss.sg.length p1f]) m.iss ∧ SsO w m1 m2 (.slice p2x m.vs.length p2z) m.vs ∧ GsO 155 10 ScO w m2 m3 (.slice p3x m.sc.length p3z) m.sc ∧ GsO 76 6 DvO w m3 top (.slice p4x m.dl.length p4z) m.dl
def Ms.fits (m : Ms) : Prop := m.iss.fits ∧ (m.vs.length ≤ maxLen ∧ ∀ k ∈ m.vs, k.fits) ∧ (m.sc.length ≤ maxLen ∧ ∀ k ∈ m.sc, k.fits) ∧ (m.dl.length ≤ maxLen ∧ ∀ k ∈ m.dl, k.fits)
def Ms.size (m : Ms) : Nat := m.iss.size + vzAll m.vs + gzAll Sc.size m.sc + gzAll Dv.size m.dl
def Ms.short (m : Ms) : Prop := m.iss.size ≤ 1048576 ∧ shortS m.vs ∧ gShort Sc.short m.sc ∧ gShort Dv.short m.dl
theorem MsC.below {w w' : World} {cs : List Value} {m : Ms} (h : MsC w cs m) (hB : Below w.heap.size w w') : MsC w' cs m := by
  obtain ⟨p1a, p1b, p1c, p1d, p1e, p1f, p2x, p2z, p3x, p3z, p4x, p4z, rfl, h0, h1, h2, h3⟩ := h
  exact ⟨_, _, _, _, _, _, _, _, _, _, _, _, rfl, h0.below hB, h1.below hB, (GsA.below h2 (fun _ _ h => h.below hB) hB), (GsA.below h3 (fun _ _ h => h.below hB) hB)⟩
theorem MsO.mid {lo hi : Nat} {w w1 : World} {base top : Nat} {cs : List Value} {m : Ms} (h : MsO w base top cs m) (M : Mid lo hi w w1) (ho : hi ≤ base ∨ top ≤ lo) : MsO w1 base top cs m := by
  obtain ⟨p1a, p1b, p1c, p1d, p1e, p1f, p2x, p2z, p3x, p3z, p4x, p4z, m1, m2, m3, rfl, g0, g1, g2, g3, h0, h1, h2, h3⟩ := h
  exact ⟨_, _, _, _, _, _, _, _, _, _, _, _, m1, m2, m3, rfl, g0, g1, g2, g3, Mid.iso M h0 (by omega), Mid.sso M h1 (by omega), GsO.mid h2 (fun _ _ _ _ h ho => h.mid M ho) M (by omega), GsO.mid h3 (fun _ _ _ _ h ho => h.mid M ho) M (by omega)⟩
theorem MsO.below {w w1 : World} {base top : Nat} {cs : List Value} {m : Ms} (h : MsO w base top cs m) (hB : Below w.heap.size w w1) : MsO w1 base top cs m := h.mid (Mid.of_below (lo := 0) (hi := 0) hB) (.inl (Nat.zero_le _))
theorem MsO.mono {w : World} {base base' top top' : Nat} {cs : List Value} {m : Ms} (h : MsO w base top cs m) (hb : base' ≤ base) (ht : top ≤ top') : MsO w base' top' cs m := by
  obtain ⟨p1a, p1b, p1c, p1d, p1e, p1f, p2x, p2z, p3x, p3z, p4x, p4z, m1, m2, m3, rfl, g0, g1, g2, g3, h0, h1, h2, h3⟩ := h
  exact ⟨_, _, _, _, _, _, _, _, _, _, _, _, m1, m2, m3, rfl, by omega, by omega, by omega, by omega, IsO.mono h0 hb (Nat.le_refl _), SsO.mono h1 (Nat.le_refl _) (Nat.le_refl _), GsO.mono h2 (Nat.le_refl _) (Nat.le_refl _), GsO.mono h3 (Nat.le_refl _) ht⟩
theorem Ms.short_of {m : Ms} (h : m.size ≤ 1048576) : m.short := by
  unfold Ms.size gzAll at h
  exact ⟨by omega, shortS_of (by omega), ⟨by omega, fun a ha => Sc.short_of (by have := gz_mem (f := Sc.size) ha; omega)⟩, by omega, fun a ha => Dv.short_of (by have := gz_mem (f := Dv.size) ha; omega)⟩
theorem MsO.a {w : World} {base top : Nat} {cs : List Value} {m : Ms} (h : MsO w base top cs m) : MsC w cs m := by
  obtain ⟨p1a, p1b, p1c, p1d, p1e, p1f, p2x, p2z, p3x, p3z, p4x, p4z, m1, m2, m3, rfl, g0, g1, g2, g3, h0, h1, h2, h3⟩ := h
  exact ⟨_, _, _, _, _, _, _, _, _, _, _, _, rfl, h0.a, h1.a, GsO.a (fun _ _ _ _ h => h.a) h2, GsO.a (fun _ _ _ _ h => h.a) h3⟩

set_option maxRecDepth 100000 in
theorem cellsMesh : Tryz.prog.cellsOf 60 = 8 := by kernel_rfl
set_option maxRecDepth 100000 in
open Go.Deep Go.ChangeShapes Go.WideShapes Go.ChangeAt Go.Joins in
/-- A mesh that comes in. -/
theorem openMs {H : Type} {enc : TypeId × Value → H} {W : World} {base : Nat} {v : Value} {y : DataW H} {p : List MemPlace} (hv : Value.okWide Tryz.prog W .any base 60 v) (h : DataW.Trod enc Tryz.prog W 0 (fun _ => true) true 60 v y p) :
    ∃ (cs : List Value) (m : Ms), v = .agg cs.toArray ∧ MsC W cs m ∧ m.fits := by
  obtain ⟨cs, rfl, hsz⟩ := okWide_struct Tryz.underlying60 hv
  rw [cellsMesh] at hsz
  obtain ⟨l⟩ := cs
  obtain ⟨fuel, hf⟩ := h
  obtain ⟨c0, c1, c2, c3, c4, c5, c6, c7, rfl⟩ : ∃ c0 c1 c2 c3 c4 c5 c6 c7, l = [c0, c1, c2, c3, c4, c5, c6, c7] := by
    match l, hsz with
    | [c0, c1, c2, c3, c4, c5, c6, c7], _ => exact ⟨c0, c1, c2, c3, c4, c5, c6, c7, rfl⟩
  obtain ⟨xs, n, _, _, _, hlen, hfs⟩ := DataW.trod_struct Tryz.underlying60 hf
  obtain ⟨y0, y1, y2, y3, y4, rfl⟩ : ∃ y0 y1 y2 y3 y4, xs = [y0, y1, y2, y3, y4] := by
    match xs, hlen with
    | [y0, y1, y2, y3, y4], _ => exact ⟨y0, y1, y2, y3, y4, rfl⟩
  have ci : Tryz.prog.cellsOf 3 = 1 := by kernel_rfl
  have cv : Tryz.prog.cellsOf 56 = 1 := by kernel_rfl
  have cc : Tryz.prog.cellsOf 57 = 1 := by kernel_rfl
  have cd : Tryz.prog.cellsOf 58 = 1 := by kernel_rfl
  have h0 : DataW.trod enc Tryz.prog W 0 (fun _ => true) true n 3 [c0] = some y0 := by have := hfs 0 _ rfl; simpa [Value.cells, ci] using this
  have h1 : DataW.trod enc Tryz.prog W 0 (fun _ => true) true n 55 [c1, c2, c3, c4] = some y1 := by have := hfs 1 _ rfl; simpa [Value.cells, ci, cellsIssuer] using this
  have h2 : DataW.trod enc Tryz.prog W 0 (fun _ => true) true n 56 [c5] = some y2 := by have := hfs 2 _ rfl; simpa [Value.cells, ci, cellsIssuer, cv] using this
  have h3 : DataW.trod enc Tryz.prog W 0 (fun _ => true) true n 57 [c6] = some y3 := by have := hfs 3 _ rfl; simpa [Value.cells, ci, cellsIssuer, cv, cc] using this
  have h4 : DataW.trod enc Tryz.prog W 0 (fun _ => true) true n 58 [c7] = some y4 := by have := hfs 4 _ rfl; simpa [Value.cells, ci, cellsIssuer, cv, cc, cd] using this
  obtain ⟨x0, f0, _, _⟩ := DataW.trod_int Tryz.underlying3 h0
  obtain ⟨zs, n', _, _, _, hlen', hgs⟩ := DataW.trod_struct Tryz.underlying55 h1
  obtain ⟨z0, z1, z2, z3, rfl⟩ : ∃ z0 z1 z2 z3, zs = [z0, z1, z2, z3] := by
    match zs, hlen' with
    | [z0, z1, z2, z3], _ => exact ⟨z0, z1, z2, z3, rfl⟩
  have ck : Tryz.prog.cellsOf 53 = 1 := by kernel_rfl
  have cn : Tryz.prog.cellsOf 23 = 1 := by kernel_rfl
  have ct : Tryz.prog.cellsOf 32 = 1 := by kernel_rfl
  have g0 : DataW.trod enc Tryz.prog W 0 (fun _ => true) true n' 53 [c1] = some z0 := by have := hgs 0 _ rfl; simpa [Value.cells, ck] using this
  have g1 : DataW.trod enc Tryz.prog W 0 (fun _ => true) true n' 3 [c2] = some z1 := by have := hgs 1 _ rfl; simpa [Value.cells, ck, ci] using this
  have g2 : DataW.trod enc Tryz.prog W 0 (fun _ => true) true n' 23 [c3] = some z2 := by have := hgs 2 _ rfl; simpa [Value.cells, ck, ci, cn] using this
  have g3 : DataW.trod enc Tryz.prog W 0 (fun _ => true) true n' 32 [c4] = some z3 := by have := hgs 3 _ rfl; simpa [Value.cells, ck, ci, cn, ct] using this
  obtain ⟨i0, j0, k0, ws, rfl, r0, rfl, l0, q0⟩ := openWkR g0
  obtain ⟨x1, e1, _, _⟩ := DataW.trod_int Tryz.underlying3 g1
  obtain ⟨i2, j2, k2, rv, rfl, r2, rfl, l2⟩ := openInR g2
  obtain ⟨i3, j3, k3, sg, rfl, r3, rfl, l3, q3⟩ := openStR g3
  have hsl : ∃ a n c, c5 = .slice a n c := by
    rcases open_slice Tryz.underlying56 h2 with ⟨hcs, _⟩ | ⟨x, n, c, m, k, D, Pl, hcs, _⟩
    · simp at hcs; exact ⟨_, _, _, hcs⟩
    · simp at hcs; exact ⟨_, _, _, hcs⟩
  obtain ⟨i4, j4, k4, rfl⟩ := hsl
  obtain ⟨ss, r4, rfl, l4, q4⟩ := openSsS (a := i4) (n := j4) (c := k4) (d := y2.1) (p := y2.2) ⟨n, h2⟩
  obtain ⟨i5, j5, k5, sc, rfl, r5, rfl, l5, q5⟩ := openGs (A := ScC) (fits := Sc.fits) Tryz.underlying57 cellsSidecar (by omega) (fun l y m hl h => openScC hl h) h3
  obtain ⟨i6, j6, k6, dl, rfl, r6, rfl, l6, q6⟩ := openGs (A := DvC) (fits := Dv.fits) Tryz.underlying58 cellsDelivery (by omega) (fun l y m hl h => openDvC hl h) h4
  simp at f0 e1
  subst f0 e1
  exact ⟨_, ⟨x0, ⟨ws, x1, rv, sg⟩, ss, sc, dl⟩, rfl, ⟨_, _, _, _, _, _, _, _, _, _, _, _, rfl, ⟨_, _, _, rfl, r0, r2, r3⟩, r4, r5, r6⟩, ⟨l0, q0, l2, l3, q3⟩, ⟨l4, q4⟩, ⟨l5, q5⟩, l6, q6⟩

set_option maxHeartbeats 4000000 in
set_option maxRecDepth 100000 in
theorem szMesh_any (cs : List Value) (m : Ms) (w : World) (hf : m.fits) (h : MsC w cs m) :
    Calls Tryz.prog 16 #[.agg cs.toArray, .int .i64 1048576] w fun e w' => e = .returned (.int .i64 (leftK 1048576 m.size)) ∧ Below w.heap.size w w' := by
  obtain ⟨p1a, p1b, p1c, p1d, p1e, p1f, p2x, p2z, p3x, p3z, p4x, p4z, rfl, h2, h3, h4, h5⟩ := h
  obtain ⟨f1, f2, f3, f4⟩ := hf
  have hB0 : Below w.heap.size w (w.alloc (.cells #[.int .i64 m.now, .slice p1a m.iss.ws.length p1b, .int .i64 m.iss.nx, .slice p1c m.iss.rv.length p1d, .slice p1e m.iss.sg.length p1f, .slice p2x m.vs.length p2z, .slice p3x m.sc.length p3z, .slice p4x m.dl.length p4z] 60)) := (Below.refl _ w).alloc (Nat.le_refl _) _
  have F1 := Eight.new w (.int .i64 m.now) (.slice p1a m.iss.ws.length p1b) (.int .i64 m.iss.nx) (.slice p1c m.iss.rv.length p1d) (.slice p1e m.iss.sg.length p1f) (.slice p2x m.vs.length p2z) (.slice p3x m.sc.length p3z) (.slice p4x m.dl.length p4z) 60
  have HI := hid (show leftK 1048576 m.size = if (m.size : Int) ≤ 1048576 then 1048576 - (m.size : Int) else (-1 : Int) from rfl)
  have HZ := hid (show m.size = m.iss.size + vzAll m.vs + gzAll Sc.size m.sc + gzAll Dv.size m.dl from rfl)
  obtain ⟨N1, HN1⟩ : ∃ N : Nat, Hid (N = m.iss.size) := ⟨_, hid rfl⟩
  obtain ⟨N2, HN2⟩ : ∃ N : Nat, Hid (N = vzAll m.vs) := ⟨_, hid rfl⟩
  obtain ⟨N3, HN3⟩ : ∃ N : Nat, Hid (N = gzAll Sc.size m.sc) := ⟨_, hid rfl⟩
  obtain ⟨N4, HN4⟩ : ∃ N : Nat, Hid (N = gzAll Dv.size m.dl) := ⟨_, hid rfl⟩
  go_enter Tryz.func16, Tryz.ntmps16
  go_wp2_with fail
  generalize w.alloc (.cells #[.int .i64 m.now, .slice p1a m.iss.ws.length p1b, .int .i64 m.iss.nx, .slice p1c m.iss.rv.length p1d, .slice p1e m.iss.sg.length p1f, .slice p2x m.vs.length p2z, .slice p3x m.sc.length p3z, .slice p4x m.dl.length p4z] 60) = W0 at *
  refine (szIssuer_any _ m.iss _ f1 (h2.below hB0)).mono ?_
  rintro e w2 ⟨rfl, hB2⟩
  replace F1 := F1.below hB2
  replace hB0 := below_one hB0 hB2
  clear hB2
  obtain ⟨a0, a1, a2, a3, a4, a5, a6, a7⟩ := F1.c
  by_cases c1 : (N1 : Int) ≤ 1048576
  · rw [show leftI 1048576 m.iss = 1048576 - (N1 : Int) from (show leftK (1048576) _ = _ by unfold leftK; rw [← HN1.out]; exact if_pos c1)]
    have d1 : decide (1048576 - (N1 : Int) < 0) = false := by simp; omega
    go_wp2_with fail
    refine (szSnapshotS_any _ m.vs (1048576 - (N1 : Int)) _ (by omega) (by omega) f2.1 f2.2 (h3.below hB0)).mono ?_
    rintro e w3 ⟨rfl, hB3⟩
    replace F1 := F1.below hB3
    replace hB0 := below_one hB0 hB3
    clear hB3
    clear a0 a1 a2 a3 a4 a5 a6 a7
    obtain ⟨a0, a1, a2, a3, a4, a5, a6, a7⟩ := F1.c
    by_cases c2 : (N2 : Int) ≤ 1048576 - (N1 : Int)
    · rw [show leftVS (1048576 - (N1 : Int)) m.vs = 1048576 - (N1 : Int) - (N2 : Int) from (show leftK (1048576 - (N1 : Int)) _ = _ by unfold leftK; rw [← HN2.out]; exact if_pos c2)]
      have d2 : decide (1048576 - (N1 : Int) - (N2 : Int) < 0) = false := by simp; omega
      go_wp2_with fail
      refine (szSidecarS_any _ m.sc (1048576 - (N1 : Int) - (N2 : Int)) _ (by omega) (by omega) f3.1 f3.2 (GsA.below h4 (fun _ _ h => h.below hB0) hB0)).mono ?_
      rintro e w4 ⟨rfl, hB4⟩
      replace F1 := F1.below hB4
      replace hB0 := below_one hB0 hB4
      clear hB4
      clear a0 a1 a2 a3 a4 a5 a6 a7
      obtain ⟨a0, a1, a2, a3, a4, a5, a6, a7⟩ := F1.c
      by_cases c3 : (N3 : Int) ≤ 1048576 - (N1 : Int) - (N2 : Int)
      · rw [show leftK (1048576 - (N1 : Int) - (N2 : Int)) (gzAll Sc.size m.sc) = 1048576 - (N1 : Int) - (N2 : Int) - (N3 : Int) from (show leftK (1048576 - (N1 : Int) - (N2 : Int)) _ = _ by unfold leftK; rw [← HN3.out]; exact if_pos c3)]
        have d3 : decide (1048576 - (N1 : Int) - (N2 : Int) - (N3 : Int) < 0) = false := by simp; omega
        go_wp2_with fail
        refine (szDeliveryS_any _ m.dl (1048576 - (N1 : Int) - (N2 : Int) - (N3 : Int)) _ (by omega) (by omega) f4.1 f4.2 (GsA.below h5 (fun _ _ h => h.below hB0) hB0)).mono ?_
        rintro e w5 ⟨rfl, hB5⟩
        replace F1 := F1.below hB5
        replace hB0 := below_one hB0 hB5
        clear hB5
        clear a0 a1 a2 a3 a4 a5 a6 a7
        obtain ⟨a0, a1, a2, a3, a4, a5, a6, a7⟩ := F1.c
        by_cases c4 : (N4 : Int) ≤ 1048576 - (N1 : Int) - (N2 : Int) - (N3 : Int)
        · rw [show leftK (1048576 - (N1 : Int) - (N2 : Int) - (N3 : Int)) (gzAll Dv.size m.dl) = 1048576 - (N1 : Int) - (N2 : Int) - (N3 : Int) - (N4 : Int) from (show leftK (1048576 - (N1 : Int) - (N2 : Int) - (N3 : Int)) _ = _ by unfold leftK; rw [← HN4.out]; exact if_pos c4)]
          have d4 : decide (1048576 - (N1 : Int) - (N2 : Int) - (N3 : Int) - (N4 : Int) < 0) = false := by simp; omega
          have HR := hid (show leftK 1048576 m.size = 1048576 - (N1 : Int) - (N2 : Int) - (N3 : Int) - (N4 : Int) by rw [HI.out, if_pos (by rw [HZ.out, ← HN1.out, ← HN2.out, ← HN3.out, ← HN4.out]; push_cast; omega)]; rw [HZ.out, ← HN1.out, ← HN2.out, ← HN3.out, ← HN4.out]; push_cast; omega)
          go_wp2_with fail
          go_ret
          exact ⟨ret_int HR.out.symm, hB0⟩
        · rw [show leftK (1048576 - (N1 : Int) - (N2 : Int) - (N3 : Int)) (gzAll Dv.size m.dl) = -1 from (show leftK (1048576 - (N1 : Int) - (N2 : Int) - (N3 : Int)) _ = _ by unfold leftK; rw [← HN4.out]; exact if_neg c4)]
          have HR := hid (show leftK 1048576 m.size = -1 by rw [HI.out, if_neg (by rw [HZ.out, ← HN1.out, ← HN2.out, ← HN3.out, ← HN4.out]; push_cast; omega)])
          go_wp2_with fail
          go_ret
          exact ⟨ret_int HR.out.symm, hB0⟩
      · rw [show leftK (1048576 - (N1 : Int) - (N2 : Int)) (gzAll Sc.size m.sc) = -1 from (show leftK (1048576 - (N1 : Int) - (N2 : Int)) _ = _ by unfold leftK; rw [← HN3.out]; exact if_neg c3)]
        have HR := hid (show leftK 1048576 m.size = -1 by rw [HI.out, if_neg (by rw [HZ.out, ← HN1.out, ← HN2.out, ← HN3.out, ← HN4.out]; push_cast; omega)])
        go_wp2_with fail
        go_ret
        exact ⟨ret_int HR.out.symm, hB0⟩
    · rw [show leftVS (1048576 - (N1 : Int)) m.vs = -1 from (show leftK (1048576 - (N1 : Int)) _ = _ by unfold leftK; rw [← HN2.out]; exact if_neg c2)]
      have HR := hid (show leftK 1048576 m.size = -1 by rw [HI.out, if_neg (by rw [HZ.out, ← HN1.out, ← HN2.out, ← HN3.out, ← HN4.out]; push_cast; omega)])
      go_wp2_with fail
      go_ret
      exact ⟨ret_int HR.out.symm, hB0⟩
  · rw [show leftI 1048576 m.iss = -1 from (show leftK (1048576) _ = _ by unfold leftK; rw [← HN1.out]; exact if_neg c1)]
    have HR := hid (show leftK 1048576 m.size = -1 by rw [HI.out, if_neg (by rw [HZ.out, ← HN1.out, ← HN2.out, ← HN3.out, ← HN4.out]; push_cast; omega)])
    go_wp2_with fail
    go_ret
    exact ⟨ret_int HR.out.symm, hB0⟩

set_option maxHeartbeats 4000000 in
set_option maxRecDepth 100000 in
theorem eqMesh_same (cs cs' : List Value) (m : Ms) (w : World) (hs : m.short) (h : MsC w cs m) (h' : MsC w cs' m) :
    Calls Tryz.prog 22 #[.agg cs.toArray, .agg cs'.toArray] w fun e w' => e = .returned (.bool true) ∧ Below w.heap.size w w' := by
  obtain ⟨p1a, p1b, p1c, p1d, p1e, p1f, p2x, p2z, p3x, p3z, p4x, p4z, rfl, h1, h2, h3, h4⟩ := h
  obtain ⟨q1a, q1b, q1c, q1d, q1e, q1f, q2x, q2z, q3x, q3z, q4x, q4z, rfl, h1', h2', h3', h4'⟩ := h'
  obtain ⟨s1, s2, s3, s4⟩ := hs
  have hB0 : Below w.heap.size w ((w.alloc (.cells #[.int .i64 m.now, .slice p1a m.iss.ws.length p1b, .int .i64 m.iss.nx, .slice p1c m.iss.rv.length p1d, .slice p1e m.iss.sg.length p1f, .slice p2x m.vs.length p2z, .slice p3x m.sc.length p3z, .slice p4x m.dl.length p4z] 73)).alloc (.cells #[.int .i64 m.now, .slice q1a m.iss.ws.length q1b, .int .i64 m.iss.nx, .slice q1c m.iss.rv.length q1d, .slice q1e m.iss.sg.length q1f, .slice q2x m.vs.length q2z, .slice q3x m.sc.length q3z, .slice q4x m.dl.length q4z] 73)) := ((Below.refl _ w).alloc (Nat.le_refl _) _).alloc (by simp) _
  have F1 := (Eight.new w (.int .i64 m.now) (.slice p1a m.iss.ws.length p1b) (.int .i64 m.iss.nx) (.slice p1c m.iss.rv.length p1d) (.slice p1e m.iss.sg.length p1f) (.slice p2x m.vs.length p2z) (.slice p3x m.sc.length p3z) (.slice p4x m.dl.length p4z) 73).below ((Below.refl _ _).alloc (Nat.le_refl _) (.cells #[.int .i64 m.now, .slice q1a m.iss.ws.length q1b, .int .i64 m.iss.nx, .slice q1c m.iss.rv.length q1d, .slice q1e m.iss.sg.length q1f, .slice q2x m.vs.length q2z, .slice q3x m.sc.length q3z, .slice q4x m.dl.length q4z] 73))
  have F2 := Eight.at (w.alloc (.cells #[.int .i64 m.now, .slice p1a m.iss.ws.length p1b, .int .i64 m.iss.nx, .slice p1c m.iss.rv.length p1d, .slice p1e m.iss.sg.length p1f, .slice p2x m.vs.length p2z, .slice p3x m.sc.length p3z, .slice p4x m.dl.length p4z] 73)) (.int .i64 m.now) (.slice q1a m.iss.ws.length q1b) (.int .i64 m.iss.nx) (.slice q1c m.iss.rv.length q1d) (.slice q1e m.iss.sg.length q1f) (.slice q2x m.vs.length q2z) (.slice q3x m.sc.length q3z) (.slice q4x m.dl.length q4z) 73 (k := w.heap.size + 1) (by simp)
  have e0 : (m.now != m.now) = false := by simp
  go_enter Tryz.func22, Tryz.ntmps22
  go_wp2_with fail
  generalize (w.alloc (.cells #[.int .i64 m.now, .slice p1a m.iss.ws.length p1b, .int .i64 m.iss.nx, .slice p1c m.iss.rv.length p1d, .slice p1e m.iss.sg.length p1f, .slice p2x m.vs.length p2z, .slice p3x m.sc.length p3z, .slice p4x m.dl.length p4z] 73)).alloc (.cells #[.int .i64 m.now, .slice q1a m.iss.ws.length q1b, .int .i64 m.iss.nx, .slice q1c m.iss.rv.length q1d, .slice q1e m.iss.sg.length q1f, .slice q2x m.vs.length q2z, .slice q3x m.sc.length q3z, .slice q4x m.dl.length q4z] 73) = W0 at *
  refine (eqIssuer_same _ _ m.iss _ (Is.short_of s1) (h1.below hB0) (h1'.below hB0)).mono ?_
  rintro e w2 ⟨rfl, hB2⟩
  replace F1 := F1.below hB2
  replace F2 := F2.below hB2
  replace hB0 := below_one hB0 hB2
  clear hB2
  obtain ⟨a0, a1, a2, a3, a4, a5, a6, a7⟩ := F1.c
  obtain ⟨c0, c1, c2, c3, c4, c5, c6, c7⟩ := F2.c
  go_wp2_with fail
  refine (eqSnapshotS_same _ _ m.vs _ s2 (h2.below hB0) (h2'.below hB0)).mono ?_
  rintro e w3 ⟨rfl, hB3⟩
  clear a0 a1 a2 a3 a4 a5 a6 a7 c0 c1 c2 c3 c4 c5 c6 c7
  replace F1 := F1.below hB3
  replace F2 := F2.below hB3
  replace hB0 := below_one hB0 hB3
  clear hB3
  obtain ⟨a0, a1, a2, a3, a4, a5, a6, a7⟩ := F1.c
  obtain ⟨c0, c1, c2, c3, c4, c5, c6, c7⟩ := F2.c
  go_wp2_with fail
  refine (eqSidecarS_same _ _ m.sc _ s3 (GsA.below h3 (fun _ _ h => h.below hB0) hB0) (GsA.below h3' (fun _ _ h => h.below hB0) hB0)).mono ?_
  rintro e w4 ⟨rfl, hB4⟩
  clear a0 a1 a2 a3 a4 a5 a6 a7 c0 c1 c2 c3 c4 c5 c6 c7
  replace F1 := F1.below hB4
  replace F2 := F2.below hB4
  replace hB0 := below_one hB0 hB4
  clear hB4
  obtain ⟨a0, a1, a2, a3, a4, a5, a6, a7⟩ := F1.c
  obtain ⟨c0, c1, c2, c3, c4, c5, c6, c7⟩ := F2.c
  go_wp2_with fail
  refine (eqDeliveryS_same _ _ m.dl _ s4 (GsA.below h4 (fun _ _ h => h.below hB0) hB0) (GsA.below h4' (fun _ _ h => h.below hB0) hB0)).mono ?_
  rintro e w5 ⟨rfl, hB5⟩
  clear a0 a1 a2 a3 a4 a5 a6 a7 c0 c1 c2 c3 c4 c5 c6 c7
  replace F1 := F1.below hB5
  replace F2 := F2.below hB5
  replace hB0 := below_one hB0 hB5
  clear hB5
  obtain ⟨a0, a1, a2, a3, a4, a5, a6, a7⟩ := F1.c
  obtain ⟨c0, c1, c2, c3, c4, c5, c6, c7⟩ := F2.c
  go_wp2_with fail
  go_ret
  exact ⟨rfl, hB0⟩

set_option maxHeartbeats 16000000 in
set_option maxRecDepth 100000 in
theorem toMesh_any (cs : List Value) (m : Ms) (w : World) (hs : m.short) (h : MsC w cs m) :
    Calls Tryz.prog 19 #[.agg cs.toArray] w fun e w' => ∃ cs', e = .returned (.agg cs'.toArray) ∧ MsO w' w.heap.size w'.heap.size cs' m ∧ Below w.heap.size w w' := by
  obtain ⟨p1a, p1b, p1c, p1d, p1e, p1f, p2x, p2z, p3x, p3z, p4x, p4z, rfl, h1, h2, h3, h4⟩ := h
  obtain ⟨s1, s2, s3, s4⟩ := hs
  have hB0 : Below w.heap.size w (((w.alloc (.cells #[.int .i64 m.now, .slice p1a m.iss.ws.length p1b, .int .i64 m.iss.nx, .slice p1c m.iss.rv.length p1d, .slice p1e m.iss.sg.length p1f, .slice p2x m.vs.length p2z, .slice p3x m.sc.length p3z, .slice p4x m.dl.length p4z] 60)).alloc (.cells #[.int .i64 0, .slice none 0 0, .int .i64 0, .slice none 0 0, .slice none 0 0, .slice none 0 0, .slice none 0 0, .slice none 0 0] 73)).alloc (.cells #[.int .i64 m.now, .slice none 0 0, .int .i64 0, .slice none 0 0, .slice none 0 0, .slice none 0 0, .slice none 0 0, .slice none 0 0] 73)) := (((Below.refl _ w).alloc (Nat.le_refl _) _).alloc (by simp) _).alloc (by simp; omega) _
  have F1 := ((Eight.new w (.int .i64 m.now) (.slice p1a m.iss.ws.length p1b) (.int .i64 m.iss.nx) (.slice p1c m.iss.rv.length p1d) (.slice p1e m.iss.sg.length p1f) (.slice p2x m.vs.length p2z) (.slice p3x m.sc.length p3z) (.slice p4x m.dl.length p4z) 60).below ((Below.refl _ _).alloc (Nat.le_refl _) (.cells #[.int .i64 0, .slice none 0 0, .int .i64 0, .slice none 0 0, .slice none 0 0, .slice none 0 0, .slice none 0 0, .slice none 0 0] 73))).below ((Below.refl _ _).alloc (Nat.le_refl _) (.cells #[.int .i64 m.now, .slice none 0 0, .int .i64 0, .slice none 0 0, .slice none 0 0, .slice none 0 0, .slice none 0 0, .slice none 0 0] 73))
  have F2 := (Eight.at (w.alloc (.cells #[.int .i64 m.now, .slice p1a m.iss.ws.length p1b, .int .i64 m.iss.nx, .slice p1c m.iss.rv.length p1d, .slice p1e m.iss.sg.length p1f, .slice p2x m.vs.length p2z, .slice p3x m.sc.length p3z, .slice p4x m.dl.length p4z] 60)) (.int .i64 0) (.slice none 0 0) (.int .i64 0) (.slice none 0 0) (.slice none 0 0) (.slice none 0 0) (.slice none 0 0) (.slice none 0 0) 73 (k := w.heap.size + 1) (by simp)).below ((Below.refl _ _).alloc (Nat.le_refl _) (.cells #[.int .i64 m.now, .slice none 0 0, .int .i64 0, .slice none 0 0, .slice none 0 0, .slice none 0 0, .slice none 0 0, .slice none 0 0] 73))
  have F3 := Eight.at ((w.alloc (.cells #[.int .i64 m.now, .slice p1a m.iss.ws.length p1b, .int .i64 m.iss.nx, .slice p1c m.iss.rv.length p1d, .slice p1e m.iss.sg.length p1f, .slice p2x m.vs.length p2z, .slice p3x m.sc.length p3z, .slice p4x m.dl.length p4z] 60)).alloc (.cells #[.int .i64 0, .slice none 0 0, .int .i64 0, .slice none 0 0, .slice none 0 0, .slice none 0 0, .slice none 0 0, .slice none 0 0] 73)) (.int .i64 m.now) (.slice none 0 0) (.int .i64 0) (.slice none 0 0) (.slice none 0 0) (.slice none 0 0) (.slice none 0 0) (.slice none 0 0) 73 (k := w.heap.size + 1 + 1) (by simp)
  have hK : w.heap.size + 1 + 1 < (((w.alloc (.cells #[.int .i64 m.now, .slice p1a m.iss.ws.length p1b, .int .i64 m.iss.nx, .slice p1c m.iss.rv.length p1d, .slice p1e m.iss.sg.length p1f, .slice p2x m.vs.length p2z, .slice p3x m.sc.length p3z, .slice p4x m.dl.length p4z] 60)).alloc (.cells #[.int .i64 0, .slice none 0 0, .int .i64 0, .slice none 0 0, .slice none 0 0, .slice none 0 0, .slice none 0 0, .slice none 0 0] 73)).alloc (.cells #[.int .i64 m.now, .slice none 0 0, .int .i64 0, .slice none 0 0, .slice none 0 0, .slice none 0 0, .slice none 0 0, .slice none 0 0] 73)).heap.size := F3.lt
  go_enter Tryz.func19, Tryz.ntmps19
  go_wp2_with fail
  generalize ((w.alloc (.cells #[.int .i64 m.now, .slice p1a m.iss.ws.length p1b, .int .i64 m.iss.nx, .slice p1c m.iss.rv.length p1d, .slice p1e m.iss.sg.length p1f, .slice p2x m.vs.length p2z, .slice p3x m.sc.length p3z, .slice p4x m.dl.length p4z] 60)).alloc (.cells #[.int .i64 0, .slice none 0 0, .int .i64 0, .slice none 0 0, .slice none 0 0, .slice none 0 0, .slice none 0 0, .slice none 0 0] 73)).alloc (.cells #[.int .i64 m.now, .slice none 0 0, .int .i64 0, .slice none 0 0, .slice none 0 0, .slice none 0 0, .slice none 0 0, .slice none 0 0] 73) = W0 at *
  refine (toIssuer_any _ m.iss _ s1 (h1.below hB0)).mono ?_
  rintro e w1 ⟨v1, rfl, o1, hB1⟩
  obtain ⟨r1a, r1b, r1c, r1d, r1e, r1f, rfl⟩ := is_frm o1.a
  replace F1 := F1.below hB1
  replace F2 := F2.below hB1
  replace F3 := F3.below hB1
  replace hB0 := below_one hB0 hB1
  have hs1 := hB1.size
  clear hB1
  obtain ⟨a0, a1, a2, a3, a4, a5, a6, a7⟩ := F1.c
  obtain ⟨c0, c1, c2, c3, c4, c5, c6, c7⟩ := F3.c
  have f1 := F3.f 1
  have f2 := F3.f 2
  have f3 := F3.f 3
  have f4 := F3.f 4
  go_wp2_with fail
  clear a0 a1 a2 a3 a4 a5 a6 a7 c0 c1 c2 c3 c4 c5 c6 c7 f1 f2 f3 f4
  have M1 : Mid (w.heap.size + 1 + 1) (w.heap.size + 1 + 1 + 1) w1 ((((w1.setCell ⟨w.heap.size + 1 + 1, 1, none⟩ (.slice r1a m.iss.ws.length r1b)).setCell ⟨w.heap.size + 1 + 1, 2, none⟩ (.int .i64 m.iss.nx)).setCell ⟨w.heap.size + 1 + 1, 3, none⟩ (.slice r1c m.iss.rv.length r1d)).setCell ⟨w.heap.size + 1 + 1, 4, none⟩ (.slice r1e m.iss.sg.length r1f)) := (((((Mid.of_below (Below.refl _ _)).set (p := ⟨w.heap.size + 1 + 1, 1, none⟩) (by simp) (by simp) (.slice r1a m.iss.ws.length r1b)).set (p := ⟨w.heap.size + 1 + 1, 2, none⟩) (by simp) (by simp) (.int .i64 m.iss.nx)).set (p := ⟨w.heap.size + 1 + 1, 3, none⟩) (by simp) (by simp) (.slice r1c m.iss.rv.length r1d)).set (p := ⟨w.heap.size + 1 + 1, 4, none⟩) (by simp) (by simp) (.slice r1e m.iss.sg.length r1f))
  replace F1 := M1.eight F1 (.inl (by omega))
  replace F2 := M1.eight F2 (.inl (by omega))
  replace F3 := ((((F3.s1 (.slice r1a m.iss.ws.length r1b)).s2 (.int .i64 m.iss.nx)).s3 (.slice r1c m.iss.rv.length r1d)).s4 (.slice r1e m.iss.sg.length r1f))
  replace hB0 := ((((hB0.setCell (p := ⟨w.heap.size + 1 + 1, 1, none⟩) (by simp; omega) (.slice r1a m.iss.ws.length r1b)).setCell (p := ⟨w.heap.size + 1 + 1, 2, none⟩) (by simp; omega) (.int .i64 m.iss.nx)).setCell (p := ⟨w.heap.size + 1 + 1, 3, none⟩) (by simp; omega) (.slice r1c m.iss.rv.length r1d)).setCell (p := ⟨w.heap.size + 1 + 1, 4, none⟩) (by simp; omega) (.slice r1e m.iss.sg.length r1f))
  replace o1 := Mid.iso M1 o1 (.inl (by omega))
  have hq1 : w1.heap.size ≤ ((((w1.setCell ⟨w.heap.size + 1 + 1, 1, none⟩ (.slice r1a m.iss.ws.length r1b)).setCell ⟨w.heap.size + 1 + 1, 2, none⟩ (.int .i64 m.iss.nx)).setCell ⟨w.heap.size + 1 + 1, 3, none⟩ (.slice r1c m.iss.rv.length r1d)).setCell ⟨w.heap.size + 1 + 1, 4, none⟩ (.slice r1e m.iss.sg.length r1f)).heap.size := by simp
  have hp1 : ((((w1.setCell ⟨w.heap.size + 1 + 1, 1, none⟩ (.slice r1a m.iss.ws.length r1b)).setCell ⟨w.heap.size + 1 + 1, 2, none⟩ (.int .i64 m.iss.nx)).setCell ⟨w.heap.size + 1 + 1, 3, none⟩ (.slice r1c m.iss.rv.length r1d)).setCell ⟨w.heap.size + 1 + 1, 4, none⟩ (.slice r1e m.iss.sg.length r1f)).heap.size ≤ w1.heap.size := by simp
  clear M1
  generalize (((w1.setCell ⟨w.heap.size + 1 + 1, 1, none⟩ (.slice r1a m.iss.ws.length r1b)).setCell ⟨w.heap.size + 1 + 1, 2, none⟩ (.int .i64 m.iss.nx)).setCell ⟨w.heap.size + 1 + 1, 3, none⟩ (.slice r1c m.iss.rv.length r1d)).setCell ⟨w.heap.size + 1 + 1, 4, none⟩ (.slice r1e m.iss.sg.length r1f) = W1 at *
  refine (toSnapshotS_any _ m.vs _ s2 (h2.below hB0)).mono ?_
  rintro e w2 ⟨v2, rfl, o2, hB2⟩
  obtain ⟨r2x, r2z, rfl⟩ := o2.a.len
  replace F1 := F1.below hB2
  replace F2 := F2.below hB2
  replace F3 := F3.below hB2
  replace o1 := IsO.below o1 hB2
  replace hB0 := below_one hB0 hB2
  have hs2 := hB2.size
  clear hB2
  obtain ⟨a0, a1, a2, a3, a4, a5, a6, a7⟩ := F1.c
  obtain ⟨c0, c1, c2, c3, c4, c5, c6, c7⟩ := F3.c
  have f5 := F3.f 5
  go_wp2_with fail
  clear a0 a1 a2 a3 a4 a5 a6 a7 c0 c1 c2 c3 c4 c5 c6 c7 f5
  have M2 : Mid (w.heap.size + 1 + 1) (w.heap.size + 1 + 1 + 1) w2 (w2.setCell ⟨w.heap.size + 1 + 1, 5, none⟩ (.slice r2x m.vs.length r2z)) := ((Mid.of_below (Below.refl _ _)).set (p := ⟨w.heap.size + 1 + 1, 5, none⟩) (by simp) (by simp) (.slice r2x m.vs.length r2z))
  replace F1 := M2.eight F1 (.inl (by omega))
  replace F2 := M2.eight F2 (.inl (by omega))
  replace F3 := (F3.s5 (.slice r2x m.vs.length r2z))
  replace hB0 := (hB0.setCell (p := ⟨w.heap.size + 1 + 1, 5, none⟩) (by simp; omega) (.slice r2x m.vs.length r2z))
  replace o1 := Mid.iso M2 o1 (.inl (by omega))
  replace o2 := Mid.sso M2 o2 (.inl (by omega))
  have hq2 : w2.heap.size ≤ (w2.setCell ⟨w.heap.size + 1 + 1, 5, none⟩ (.slice r2x m.vs.length r2z)).heap.size := by simp
  have hp2 : (w2.setCell ⟨w.heap.size + 1 + 1, 5, none⟩ (.slice r2x m.vs.length r2z)).heap.size ≤ w2.heap.size := by simp
  clear M2
  generalize w2.setCell ⟨w.heap.size + 1 + 1, 5, none⟩ (.slice r2x m.vs.length r2z) = W2 at *
  refine (toSidecarS_any _ m.sc _ s3 (GsA.below h3 (fun _ _ h => h.below hB0) hB0)).mono ?_
  rintro e w3 ⟨v3, rfl, o3, hB3⟩
  obtain ⟨r3x, r3z, rfl⟩ := GsO.len o3
  replace F1 := F1.below hB3
  replace F2 := F2.below hB3
  replace F3 := F3.below hB3
  replace o1 := IsO.below o1 hB3
  replace o2 := SsO.below o2 hB3
  replace hB0 := below_one hB0 hB3
  have hs3 := hB3.size
  clear hB3
  obtain ⟨a0, a1, a2, a3, a4, a5, a6, a7⟩ := F1.c
  obtain ⟨c0, c1, c2, c3, c4, c5, c6, c7⟩ := F3.c
  have f6 := F3.f 6
  go_wp2_with fail
  clear a0 a1 a2 a3 a4 a5 a6 a7 c0 c1 c2 c3 c4 c5 c6 c7 f6
  have M3 : Mid (w.heap.size + 1 + 1) (w.heap.size + 1 + 1 + 1) w3 (w3.setCell ⟨w.heap.size + 1 + 1, 6, none⟩ (.slice r3x m.sc.length r3z)) := ((Mid.of_below (Below.refl _ _)).set (p := ⟨w.heap.size + 1 + 1, 6, none⟩) (by simp) (by simp) (.slice r3x m.sc.length r3z))
  replace F1 := M3.eight F1 (.inl (by omega))
  replace F2 := M3.eight F2 (.inl (by omega))
  replace F3 := (F3.s6 (.slice r3x m.sc.length r3z))
  replace hB0 := (hB0.setCell (p := ⟨w.heap.size + 1 + 1, 6, none⟩) (by simp; omega) (.slice r3x m.sc.length r3z))
  replace o1 := Mid.iso M3 o1 (.inl (by omega))
  replace o2 := Mid.sso M3 o2 (.inl (by omega))
  replace o3 := GsO.mid o3 (fun _ _ _ _ h ho => h.mid M3 ho) M3 (.inl (by omega))
  have hq3 : w3.heap.size ≤ (w3.setCell ⟨w.heap.size + 1 + 1, 6, none⟩ (.slice r3x m.sc.length r3z)).heap.size := by simp
  have hp3 : (w3.setCell ⟨w.heap.size + 1 + 1, 6, none⟩ (.slice r3x m.sc.length r3z)).heap.size ≤ w3.heap.size := by simp
  clear M3
  generalize w3.setCell ⟨w.heap.size + 1 + 1, 6, none⟩ (.slice r3x m.sc.length r3z) = W3 at *
  refine (toDeliveryS_any _ m.dl _ s4 (GsA.below h4 (fun _ _ h => h.below hB0) hB0)).mono ?_
  rintro e w4 ⟨v4, rfl, o4, hB4⟩
  obtain ⟨r4x, r4z, rfl⟩ := GsO.len o4
  replace F1 := F1.below hB4
  replace F2 := F2.below hB4
  replace F3 := F3.below hB4
  replace o1 := IsO.below o1 hB4
  replace o2 := SsO.below o2 hB4
  replace o3 := GsO.mid o3 (fun _ _ _ _ h _ => h.below hB4) (Mid.of_below (lo := 0) (hi := 0) hB4) (.inl (Nat.zero_le _))
  replace hB0 := below_one hB0 hB4
  have hs4 := hB4.size
  clear hB4
  obtain ⟨a0, a1, a2, a3, a4, a5, a6, a7⟩ := F1.c
  obtain ⟨c0, c1, c2, c3, c4, c5, c6, c7⟩ := F3.c
  have f7 := F3.f 7
  have G3 := (F3.s7 (.slice r4x m.dl.length r4z))
  have G2 := (F2.other (k' := w.heap.size + 1 + 1) (by omega) 7 (.slice r4x m.dl.length r4z))
  obtain ⟨m0, m1, m2, m3, m4, m5, m6, m7⟩ := G3.c
  obtain ⟨t0, t1, t2, t3, t4, t5, t6, t7⟩ := G2.c
  have g0 := G2.f 0
  have g1 := G2.f 1
  have g2 := G2.f 2
  have g3 := G2.f 3
  have g4 := G2.f 4
  have g5 := G2.f 5
  have g6 := G2.f 6
  have g7 := G2.f 7
  have G := ((((((((G2.s0 (.int .i64 m.now)).s1 (.slice r1a m.iss.ws.length r1b)).s2 (.int .i64 m.iss.nx)).s3 (.slice r1c m.iss.rv.length r1d)).s4 (.slice r1e m.iss.sg.length r1f)).s5 (.slice r2x m.vs.length r2z)).s6 (.slice r3x m.sc.length r3z)).s7 (.slice r4x m.dl.length r4z))
  have M9 : Mid (w.heap.size + 1) (w.heap.size + 1 + 1 + 1) w4 (((((((((w4.setCell ⟨w.heap.size + 1 + 1, 7, none⟩ (.slice r4x m.dl.length r4z)).setCell ⟨w.heap.size + 1, 0, none⟩ (.int .i64 m.now)).setCell ⟨w.heap.size + 1, 1, none⟩ (.slice r1a m.iss.ws.length r1b)).setCell ⟨w.heap.size + 1, 2, none⟩ (.int .i64 m.iss.nx)).setCell ⟨w.heap.size + 1, 3, none⟩ (.slice r1c m.iss.rv.length r1d)).setCell ⟨w.heap.size + 1, 4, none⟩ (.slice r1e m.iss.sg.length r1f)).setCell ⟨w.heap.size + 1, 5, none⟩ (.slice r2x m.vs.length r2z)).setCell ⟨w.heap.size + 1, 6, none⟩ (.slice r3x m.sc.length r3z)).setCell ⟨w.heap.size + 1, 7, none⟩ (.slice r4x m.dl.length r4z)) := ((((((((((Mid.of_below (Below.refl _ _)).set (p := ⟨w.heap.size + 1 + 1, 7, none⟩) (by simp) (by simp) (.slice r4x m.dl.length r4z)).set (p := ⟨w.heap.size + 1, 0, none⟩) (by simp) (by simp) (.int .i64 m.now)).set (p := ⟨w.heap.size + 1, 1, none⟩) (by simp) (by simp) (.slice r1a m.iss.ws.length r1b)).set (p := ⟨w.heap.size + 1, 2, none⟩) (by simp) (by simp) (.int .i64 m.iss.nx)).set (p := ⟨w.heap.size + 1, 3, none⟩) (by simp) (by simp) (.slice r1c m.iss.rv.length r1d)).set (p := ⟨w.heap.size + 1, 4, none⟩) (by simp) (by simp) (.slice r1e m.iss.sg.length r1f)).set (p := ⟨w.heap.size + 1, 5, none⟩) (by simp) (by simp) (.slice r2x m.vs.length r2z)).set (p := ⟨w.heap.size + 1, 6, none⟩) (by simp) (by simp) (.slice r3x m.sc.length r3z)).set (p := ⟨w.heap.size + 1, 7, none⟩) (by simp) (by simp) (.slice r4x m.dl.length r4z))
  replace o1 := Mid.iso M9 o1 (.inl (by omega))
  replace o2 := Mid.sso M9 o2 (.inl (by omega))
  replace o3 := GsO.mid o3 (fun _ _ _ _ h ho => h.mid M9 ho) M9 (.inl (by omega))
  replace o4 := GsO.mid o4 (fun _ _ _ _ h ho => h.mid M9 ho) M9 (.inl (by omega))
  replace hB0 := (((((((((hB0.setCell (p := ⟨w.heap.size + 1 + 1, 7, none⟩) (by simp; omega) (.slice r4x m.dl.length r4z)).setCell (p := ⟨w.heap.size + 1, 0, none⟩) (by simp) (.int .i64 m.now)).setCell (p := ⟨w.heap.size + 1, 1, none⟩) (by simp) (.slice r1a m.iss.ws.length r1b)).setCell (p := ⟨w.heap.size + 1, 2, none⟩) (by simp) (.int .i64 m.iss.nx)).setCell (p := ⟨w.heap.size + 1, 3, none⟩) (by simp) (.slice r1c m.iss.rv.length r1d)).setCell (p := ⟨w.heap.size + 1, 4, none⟩) (by simp) (.slice r1e m.iss.sg.length r1f)).setCell (p := ⟨w.heap.size + 1, 5, none⟩) (by simp) (.slice r2x m.vs.length r2z)).setCell (p := ⟨w.heap.size + 1, 6, none⟩) (by simp) (.slice r3x m.sc.length r3z)).setCell (p := ⟨w.heap.size + 1, 7, none⟩) (by simp) (.slice r4x m.dl.length r4z))
  have hE : w4.heap.size ≤ (((((((((w4.setCell ⟨w.heap.size + 1 + 1, 7, none⟩ (.slice r4x m.dl.length r4z)).setCell ⟨w.heap.size + 1, 0, none⟩ (.int .i64 m.now)).setCell ⟨w.heap.size + 1, 1, none⟩ (.slice r1a m.iss.ws.length r1b)).setCell ⟨w.heap.size + 1, 2, none⟩ (.int .i64 m.iss.nx)).setCell ⟨w.heap.size + 1, 3, none⟩ (.slice r1c m.iss.rv.length r1d)).setCell ⟨w.heap.size + 1, 4, none⟩ (.slice r1e m.iss.sg.length r1f)).setCell ⟨w.heap.size + 1, 5, none⟩ (.slice r2x m.vs.length r2z)).setCell ⟨w.heap.size + 1, 6, none⟩ (.slice r3x m.sc.length r3z)).setCell ⟨w.heap.size + 1, 7, none⟩ (.slice r4x m.dl.length r4z)).heap.size := by simp
  have hW0 : w.heap.size ≤ W0.heap.size := by omega
  clear F1 F2 F3 M9
  go_wp2_with fail
  clear a0 a1 a2 a3 a4 a5 a6 a7 c0 c1 c2 c3 c4 c5 c6 c7 f7 m0 m1 m2 m3 m4 m5 m6 m7 t0 t1 t2 t3 t4 t5 t6 t7 g0 g1 g2 g3 g4 g5 g6 g7
  generalize ((((((((w4.setCell ⟨w.heap.size + 1 + 1, 7, none⟩ (.slice r4x m.dl.length r4z)).setCell ⟨w.heap.size + 1, 0, none⟩ (.int .i64 m.now)).setCell ⟨w.heap.size + 1, 1, none⟩ (.slice r1a m.iss.ws.length r1b)).setCell ⟨w.heap.size + 1, 2, none⟩ (.int .i64 m.iss.nx)).setCell ⟨w.heap.size + 1, 3, none⟩ (.slice r1c m.iss.rv.length r1d)).setCell ⟨w.heap.size + 1, 4, none⟩ (.slice r1e m.iss.sg.length r1f)).setCell ⟨w.heap.size + 1, 5, none⟩ (.slice r2x m.vs.length r2z)).setCell ⟨w.heap.size + 1, 6, none⟩ (.slice r3x m.sc.length r3z)).setCell ⟨w.heap.size + 1, 7, none⟩ (.slice r4x m.dl.length r4z) = WE at *
  obtain ⟨d0, d1, d2, d3, d4, d5, d6, d7⟩ := G.c
  exact bodyPost_ret (v := .agg #[.int .i64 m.now, .slice r1a m.iss.ws.length r1b, .int .i64 m.iss.nx, .slice r1c m.iss.rv.length r1d, .slice r1e m.iss.sg.length r1f, .slice r2x m.vs.length r2z, .slice r3x m.sc.length r3z, .slice r4x m.dl.length r4z]) (by simp [results, Tryz.results19, go_sem, d0, d1, d2, d3, d4, d5, d6, d7]) rfl ⟨_, rfl, ⟨_, _, _, _, _, _, _, _, _, _, _, _, w1.heap.size, w2.heap.size, w3.heap.size, rfl, by omega, by omega, by omega, by omega, IsO.mono o1 (by omega) (by omega), SsO.mono o2 (by omega) (by omega), GsO.mono o3 (by omega) (by omega), GsO.mono o4 (by omega) (by omega)⟩, hB0⟩

end Go.Proofs.YtnbojbcljfiamaaGreatDoor

namespace Go.Proofs.YtnbojbcljfiamaaGreatDoor
open Go.RowKit Go.Shelf

/-- A mesh is as said. -/
def msB (m : Ms) : Bool := decide ((m.sc.length : Int) ≤ 10) && decide ((m.dl.length : Int) ≤ 240)
theorem ms_no1 {m : Ms} (h : decide ((m.sc.length : Int) ≤ 10) = false) : msB m = false := by unfold msB; rw [h]; rfl
theorem ms_no2 {m : Ms} (h : decide ((m.dl.length : Int) ≤ 240) = false) : msB m = false := by unfold msB; rw [h]; simp
theorem ms_yes {m : Ms} (h : decide ((m.sc.length : Int) ≤ 10) = true) (h2 : decide ((m.dl.length : Int) ≤ 240) = true) : msB m = true := by unfold msB; rw [h, h2]; rfl

set_option maxHeartbeats 2000000 in
theorem l8Said_any (cs : List Value) (m : Ms) (w : World) (h : MsC w cs m) :
    Calls Tryz.prog 50 #[.agg cs.toArray] w fun e w' => e = .returned (.bool (msB m)) ∧ Below w.heap.size w w' := by
  obtain ⟨p1a, p1b, p1c, p1d, p1e, p1f, p2x, p2z, p3x, p3z, p4x, p4z, rfl, h1, h2, h3, h4⟩ := h
  have hBB : Below w.heap.size w (w.alloc (.cells #[.int .i64 m.now, .slice p1a m.iss.ws.length p1b, .int .i64 m.iss.nx, .slice p1c m.iss.rv.length p1d, .slice p1e m.iss.sg.length p1f, .slice p2x m.vs.length p2z, .slice p3x m.sc.length p3z, .slice p4x m.dl.length p4z] 73)) := (Below.refl _ w).alloc (Nat.le_refl _) _
  cases c1 : decide ((m.sc.length : Int) ≤ 10)
  · have HR := hid (ms_no1 c1)
    go_enter Tryz.func50, Tryz.ntmps50
    go_wp2
    go_ret
    exact ⟨ret_bool HR.out.symm, hBB⟩
  · cases c2 : decide ((m.dl.length : Int) ≤ 240)
    · have HR := hid (ms_no2 c2)
      go_enter Tryz.func50, Tryz.ntmps50
      go_wp2
      go_ret
      exact ⟨ret_bool HR.out.symm, hBB⟩
    · have HR := hid (ms_yes c1 c2)
      go_enter Tryz.func50, Tryz.ntmps50
      go_wp2
      go_ret
      exact ⟨ret_bool HR.out.symm, hBB⟩

set_option maxHeartbeats 2000000 in
theorem fitsMesh_any (cs : List Value) (m : Ms) (w : World) (h : MsC w cs m) :
    Calls Tryz.prog 55 #[.agg cs.toArray] w fun e w' => e = .returned (.bool (msB m)) ∧ Below w.heap.size w w' := by
  obtain ⟨p1a, p1b, p1c, p1d, p1e, p1f, p2x, p2z, p3x, p3z, p4x, p4z, rfl, h1, h2, h3, h4⟩ := h
  have hBB : Below w.heap.size w (w.alloc (.cells #[.int .i64 m.now, .slice p1a m.iss.ws.length p1b, .int .i64 m.iss.nx, .slice p1c m.iss.rv.length p1d, .slice p1e m.iss.sg.length p1f, .slice p2x m.vs.length p2z, .slice p3x m.sc.length p3z, .slice p4x m.dl.length p4z] 73)) := (Below.refl _ w).alloc (Nat.le_refl _) _
  cases c1 : decide ((m.sc.length : Int) ≤ 10)
  · have HR := hid (ms_no1 c1)
    go_enter Tryz.func55, Tryz.ntmps55
    go_wp2
    go_ret
    exact ⟨ret_bool HR.out.symm, hBB⟩
  · cases c2 : decide ((m.dl.length : Int) ≤ 240)
    · have HR := hid (ms_no2 c2)
      go_enter Tryz.func55, Tryz.ntmps55
      go_wp2
      go_ret
      exact ⟨ret_bool HR.out.symm, hBB⟩
    · have HR := hid (ms_yes c1 c2)
      go_enter Tryz.func55, Tryz.ntmps55
      go_wp2
      go_ret
      exact ⟨ret_bool HR.out.symm, hBB⟩

end Go.Proofs.YtnbojbcljfiamaaGreatDoor

namespace Go.Proofs.YtnbojbcljfiamaaGreatDoor
open Go.RowKit Go.Shelf

theorem insU_at {r : Ru} : ∀ (l : List Ru) (m : Nat), m ≤ l.length → (∀ j (h : j < l.length), j < m → ltR l[j] r = true) → (∀ h : m < l.length, ltR l[m] r = false) →
    insU r l = if (∃ h : m < l.length, l[m].same r = true) then l else l.take m ++ r :: l.drop m
  | [], m, hm, _, _ => by
    obtain rfl : m = 0 := by simpa using hm
    rw [if_neg (fun ⟨h, _⟩ => by simp at h)]
    rfl
  | x :: xs, 0, _, _, h2 => by
    have h3 := h2 (by simp)
    simp only [List.getElem_cons_zero] at h3
    unfold insU
    rw [if_neg (by rw [h3]; exact Bool.false_ne_true)]
    by_cases hs : x.same r = true
    · rw [if_pos hs, if_pos ⟨by simp, hs⟩]
    · rw [if_neg hs, if_neg (fun ⟨_, h⟩ => hs h)]
      rfl
  | x :: xs, m + 1, hm, h1, h2 => by
    have hx := h1 0 (by simp) (by omega)
    simp only [List.getElem_cons_zero] at hx
    have ih := insU_at xs m (by simpa using hm) (fun j h hj => by
      have := h1 (j + 1) (by simpa using h) (by omega)
      simpa using this) (fun h => by
      have := h2 (by simpa using h)
      simpa using this)
    unfold insU
    rw [if_pos hx, ih]
    by_cases hs : ∃ h : m < xs.length, xs[m].same r = true
    · rw [if_pos hs, if_pos]
      obtain ⟨h, hs⟩ := hs
      exact ⟨by simpa using h, by simpa using hs⟩
    · rw [if_neg hs, if_neg]
      · rfl
      · rintro ⟨h, h'⟩
        exact hs ⟨by simpa using h, by simpa using h'⟩
theorem ins_keep {r : Ru} {l : List Ru} {m : Nat} (hm : m < l.length) (h1 : ∀ j (h : j < l.length), j < m → ltR l[j] r = true) (h2 : ltR l[m] r = false) (hs : l[m].same r = true) : insU r l = l := by
  rw [insU_at l m (by omega) h1 (fun _ => h2), if_pos ⟨hm, hs⟩]
theorem ins_new {r : Ru} {l : List Ru} {m : Nat} (hm : m < l.length) (h1 : ∀ j (h : j < l.length), j < m → ltR l[j] r = true) (h2 : ltR l[m] r = false) (hs : l[m].same r = false) : insU r l = l.take m ++ r :: l.drop m := by
  rw [insU_at l m (by omega) h1 (fun _ => h2), if_neg (fun ⟨_, h⟩ => by rw [hs] at h; cases h)]
theorem ins_end {r : Ru} {l : List Ru} (h1 : ∀ j (h : j < l.length), j < l.length → ltR l[j] r = true) : insU r l = l.take l.length ++ r :: l.drop l.length := by
  rw [insU_at l l.length (Nat.le_refl _) h1 (fun h => absurd h (Nat.lt_irrefl _)), if_neg (fun ⟨h, _⟩ => absurd h (Nat.lt_irrefl _))]
theorem insU_len (r : Ru) : ∀ l : List Ru, (insU r l).length ≤ l.length + 1
  | [] => by simp [insU]
  | x :: xs => by
    have := insU_len r xs
    unfold insU
    split
    · simp only [List.length_cons]
      omega
    · split
      · simp
      · simp
theorem plTo_len {rs : List Ru} : ∀ k, k ≤ rs.length → (plTo rs k).length ≤ k
  | 0, _ => by simp [plTo]
  | k + 1, hk => by
    have ih := plTo_len k (rs := rs) (by omega)
    rw [plTo_succ (by omega)]
    have := insU_len rs[k] (plTo rs k)
    omega
theorem cells_one' {rs : List Ru} : ∀ u ∈ rs.flatMap Ru.cells, u.oneCell' = true := cells_one
theorem cell_four_new (w : World) (r : Ru) : ∀ j u, r.cells[j]? = some u → (w.alloc (.cells #[.bool r.deny, .string r.who, .string r.method, .string r.path] 122)).cell? ((⟨w.heap.size, 0, none⟩ : Addr).add j) = some u := by
  intro j u hu
  have hj : j < 4 := by have := (List.getElem?_eq_some_iff.1 hu).1; simpa using this
  obtain h | h | h | h : j = 0 ∨ j = 1 ∨ j = 2 ∨ j = 3 := by omega
  all_goals subst h
  all_goals simp at hu
  all_goals subst hu
  all_goals simp [Addr.add]
theorem row_take {w : World} {base g cap n m : Nat} {l : List Ru} (hrow : w.ownsRow base 122 4 (.slice (some ⟨g, 0, none⟩) n cap) n (l.flatMap Ru.cells)) (hm : m ≤ n) : ∀ j u, ((l.take m).flatMap Ru.cells)[j]? = some u → w.cell? ((⟨g, 0, none⟩ : Addr).add j) = some u := by
  intro j u hu
  rw [← flat_take] at hu
  have hj : j < m * 4 := by
    have := (List.getElem?_eq_some_iff.1 hu).1
    rw [List.length_take] at this
    omega
  rw [List.getElem?_take_of_lt hj] at hu
  rw [Addr.add_lit, Nat.zero_add, hrow.cellAt j (by omega)]
  exact hu
theorem flat_drop : ∀ (ys : List Ru) (k : Nat), (ys.flatMap Ru.cells).drop (k * 4) = (ys.drop k).flatMap Ru.cells
  | [], k => by simp
  | y :: ys, 0 => by simp
  | y :: ys, k + 1 => by
    rw [List.flatMap_cons, List.drop_succ_cons, ← flat_drop ys k, show (k + 1) * 4 = k * 4 + 4 by omega]
    rfl
theorem row_drop {w : World} {base g cap n m : Nat} {l : List Ru} (hrow : w.ownsRow base 122 4 (.slice (some ⟨g, 0, none⟩) n cap) n (l.flatMap Ru.cells)) (_hm : m ≤ n) : ∀ j u, ((l.drop m).flatMap Ru.cells)[j]? = some u → w.cell? ((⟨g, m * 4, none⟩ : Addr).add j) = some u := by
  intro j u hu
  rw [← flat_drop, List.getElem?_drop] at hu
  have hj : m * 4 + j < n * 4 := by
    have := (List.getElem?_eq_some_iff.1 hu).1
    rw [hrow.1] at this
    exact this
  rw [Addr.add_lit, hrow.cellAt (m * 4 + j) hj]
  exact hu
theorem below_draws1 (w : World) (q : Nat) : Below w.heap.size w (w.drewN q) := below_drewN (Below.refl _ _) q

set_option maxHeartbeats 4000000 in
set_option maxRecDepth 100000 in
theorem l2PlainW_any (v : Value) (rs : List Ru) (w : World) (hm : rs.length ≤ 64) (hf : ∀ r ∈ rs, r.size ≤ 1048576) (hr : RuS w v rs) :
    Calls Tryz.prog 96 #[v] w fun e w' => ∃ v', e = .returned v' ∧ w'.ownsRow w.heap.size 122 4 v' (plTo rs rs.length).length ((plTo rs rs.length).flatMap Ru.cells) ∧ Below w.heap.size w w' := by
  obtain ⟨a, cap, rfl⟩ := hr.len
  obtain ⟨i0, hi, hz0, hz1, hz2⟩ := info_parts infoRule
  go_enter Tryz.func96, Tryz.ntmps96
  go_wp2
  go_loopw [3, 10] (fun out i wr => ∃ k : Nat, k ≤ rs.length ∧ i = .int .i64 k ∧ wr.ownsRow w.heap.size 122 4 out (plTo rs k).length ((plTo rs k).flatMap Ru.cells) ∧ Below w.heap.size w wr) (fun _ i _ => rs.length - (intOf i).toNat)
  case atStart => exact ⟨0, Nat.zero_le _, rfl, World.ownsRow_nil _ _ _ _, Below.refl _ _⟩
  case round =>
    obtain ⟨k, hk, rfl, hrow, hB⟩ := hrel
    by_cases hlt : k < rs.length
    · obtain ⟨b, off, rfl, hb, hcap, y0, y1, y2, y3⟩ := (hr.below hB).at hlt
      have hzr := hf rs[k] (List.getElem_mem hlt)
      have hll := plTo_len k hk
      have hfl : ∀ x ∈ plTo rs k, x.size ≤ 1048576 := fun x hx => hf x (List.mem_of_mem_take ((plTo_mem k hk x).1 hx))
      have HSU := hid (plTo_succ hlt)
      have hlim : (plTo rs k).length ≤ 64 := by omega
      generalize plTo rs k = l at *
      generalize rs[k] = r at *
      have hBw : Below wr.heap.size wr (wr.alloc (.cells #[.bool r.deny, .string r.who, .string r.method, .string r.path] 122)) := (Below.refl _ wr).alloc (Nat.le_refl _) _
      have c0 : (wr.alloc (.cells #[.bool r.deny, .string r.who, .string r.method, .string r.path] 122)).cell? ⟨wr.heap.size, 0, none⟩ = some (.bool r.deny) := by simp
      have c1 : (wr.alloc (.cells #[.bool r.deny, .string r.who, .string r.method, .string r.path] 122)).cell? ⟨wr.heap.size, 1, none⟩ = some (.string r.who) := by simp
      have c2 : (wr.alloc (.cells #[.bool r.deny, .string r.who, .string r.method, .string r.path] 122)).cell? ⟨wr.heap.size, 2, none⟩ = some (.string r.method) := by simp
      have c3 : (wr.alloc (.cells #[.bool r.deny, .string r.who, .string r.method, .string r.path] 122)).cell? ⟨wr.heap.size, 3, none⟩ = some (.string r.path) := by simp
      have hzW : wr.heap.size < (wr.alloc (.cells #[.bool r.deny, .string r.who, .string r.method, .string r.path] 122)).heap.size := by simp
      have hrowW := ownsRow_below hrow hBw
      have hBW := below_one hB hBw
      rcases row_form hrow with ⟨rfl, hl0⟩ | ⟨g, capo, rfl, hg, hcapo⟩
      · obtain rfl : l = [] := List.eq_nil_of_length_eq_zero hl0
        go_wp2
        generalize (wr.alloc (.cells #[.bool r.deny, .string r.who, .string r.method, .string r.path] 122)) = W0 at *
        clear y0 y1 y2 y3 hrow hB hBw
        generalize wr.heap.size = bx at *
        refine wp_loop_rounds 1 ?_
        rw [rounds_succ]
        go_wp2_with fail
        go_quiet (fail)
        go_wp2_with fail
        replace hBW := below_drewN hBW nq
        replace c0 : (W0.drewN nq).cell? _ = _ := c0
        replace c1 : (W0.drewN nq).cell? _ = _ := c1
        replace c2 : (W0.drewN nq).cell? _ = _ := c2
        replace c3 : (W0.drewN nq).cell? _ = _ := c3
        clear hrowW hzW
        generalize W0.drewN nq = W1 at *
        go_quiet (fail)
        replace hBW := below_drewN hBW nq
        replace c0 : (W1.drewN nq).cell? _ = _ := c0
        replace c1 : (W1.drewN nq).cell? _ = _ := c1
        replace c2 : (W1.drewN nq).cell? _ = _ := c2
        replace c3 : (W1.drewN nq).cell? _ = _ := c3
        generalize W1.drewN nq = Wc at *
        have HIN := hid (show plTo rs (k + 1) = [r] by rw [HSU.out]; rfl)
        go_wp2_with (at_builtin; refine wpList_append_own _ rfl _ _ 38 rfl Wc.heap.size 122 i0 _ 4 56 Tryz.underlying38 hi hz0 hz1 hz2 rfl (by decide) _ _ _ rfl ((World.ownsRow_nil Wc Wc.heap.size 122 4).alloc _) ⟨Wc.heap.size, 0, none⟩ 1 1 r.cells rfl rfl (cell_four_new _ r) (by intro u hu; simp at hu; rcases hu with rfl | rfl | rfl | rfl <;> rfl) (by unfold maxLen; omega) (by omega) (by simp) ?_)
        intro v2 w2 hown2 hgrow2 _
        have hb2 : Below Wc.heap.size Wc w2 := below_appended (Nat.le_refl _) (World.ownsRow_nil Wc Wc.heap.size 122 4) hgrow2
        rcases row_form hown2 with ⟨_, h'⟩ | ⟨g2, cp2, rfl, _, hcp⟩
        · exact absurd h' (by omega)
        · clear c0 c1 c2 c3 hgrow2
          go_wp2
          go_roundw
          case rel => exact ⟨k + 1, by omega, by go_num, by rw [HIN.out]; exact Go.Joins.ownsRow_le hown2 hBW.size, below_one hBW hb2⟩
          case measure => simp [intOf]; omega
      · go_wp2
        generalize (wr.alloc (.cells #[.bool r.deny, .string r.who, .string r.method, .string r.path] 122)) = W0 at *
        clear y0 y1 y2 y3 hrow hB hBw
        generalize wr.heap.size = bx at *
        go_loopw [6] (fun i wq => ∃ m : Nat, m ≤ l.length ∧ i = .int .i64 m ∧ (∀ j (h : j < l.length), j < m → ltR l[j] r = true) ∧ Below W0.heap.size W0 wq) (fun i _ => l.length - (intOf i).toNat)
        case atStart => exact ⟨0, Nat.zero_le _, rfl, fun _ _ h => absurd h (Nat.not_lt_zero _), Below.refl _ _⟩
        case round =>
          obtain ⟨m, hml, rfl, hlts, hBq⟩ := hrel
          have HL := hid hlts
          clear hlts
          have hrowq := ownsRow_below hrowW hBq
          have b0 := (hBq.cell (p := ⟨bx, 0, none⟩) hzW).trans c0
          have b1 := (hBq.cell (p := ⟨bx, 1, none⟩) hzW).trans c1
          have b2 := (hBq.cell (p := ⟨bx, 2, none⟩) hzW).trans c2
          have b3 := (hBq.cell (p := ⟨bx, 3, none⟩) hzW).trans c3
          have hzq := Nat.lt_of_lt_of_le hzW hBq.size
          by_cases hlm : m < l.length
          · have dm : decide ((m : Int) < (l.length : Int)) = true := by simp; omega
            have hX := hfl l[m] (List.getElem_mem hlm)
            obtain ⟨x0, x1, x2, x3⟩ := row_ru hrowq hlm rfl _ rfl
            have hgq : g < wr.heap.size := cell_lt x0
            have HST := hid (fun (h : ltR l[m] r = true) => (fun j (hj : j < l.length) (hjm : j < m + 1) => (show ltR l[j] r = true by
              by_cases e : j = m
              · subst e
                exact h
              · exact HL.out j hj (by omega)) : ∀ j (hj : j < l.length), j < m + 1 → ltR l[j] r = true))
            have HKE := hid (fun h2 hs => ins_keep (r := r) hlm HL.out h2 hs)
            have HNE := hid (fun h2 hs => ins_new (r := r) hlm HL.out h2 hs)
            generalize l[m] = x at *
            cases ht : ltR x r
            · have et : Op.bytesLess x.text.toList r.text.toList = false := by rw [toList_data, toList_data]; exact ht
              have hse := eql_ru x r
              cases hsm : x.same r
              · have HIN := hid (show plTo rs (k + 1) = l.take m ++ r :: l.drop m by rw [HSU.out]; exact HNE.out ht hsm)
                rw [hsm] at hse
                have hM1 : True := trivial
                go_wp2_with fail
                go_region_held3 (fun w' => w'.cell? ⟨g, m * 4, none⟩ = some (.bool x.deny) ∧ w'.cell? ⟨g, m * 4 + 1, none⟩ = some (.string x.who) ∧ w'.cell? ⟨g, m * 4 + 2, none⟩ = some (.string x.method) ∧ w'.cell? ⟨g, m * 4 + 3, none⟩ = some (.string x.path) ∧ w'.cell? ⟨bx, 0, none⟩ = some (.bool r.deny) ∧ w'.cell? ⟨bx, 1, none⟩ = some (.string r.who) ∧ w'.cell? ⟨bx, 2, none⟩ = some (.string r.method) ∧ w'.cell? ⟨bx, 3, none⟩ = some (.string r.path)) (go_keep) (first | (go_at_call 130; clear hM1; refine (l2Text_any x _ hX).mono ?_; rintro e v1 ⟨rfl, hB1⟩; have x0_1 := (hB1.cell (p := ⟨g, m * 4, none⟩) (by exact hgq)).trans (by exact x0); have x1_1 := (hB1.cell (p := ⟨g, m * 4 + 1, none⟩) (by exact hgq)).trans (by exact x1); have x2_1 := (hB1.cell (p := ⟨g, m * 4 + 2, none⟩) (by exact hgq)).trans (by exact x2); have x3_1 := (hB1.cell (p := ⟨g, m * 4 + 3, none⟩) (by exact hgq)).trans (by exact x3); have b0_1 := (hB1.cell (p := ⟨bx, 0, none⟩) (by exact hzq)).trans (by exact b0); have b1_1 := (hB1.cell (p := ⟨bx, 1, none⟩) (by exact hzq)).trans (by exact b1); have b2_1 := (hB1.cell (p := ⟨bx, 2, none⟩) (by exact hzq)).trans (by exact b2); have b3_1 := (hB1.cell (p := ⟨bx, 3, none⟩) (by exact hzq)).trans (by exact b3); have hgq1 := Nat.lt_of_lt_of_le hgq hB1.size; have hzq1 := Nat.lt_of_lt_of_le hzq hB1.size) | (go_at_call 130; refine (l2Text_any r _ hzr).mono ?_; rintro e v2 ⟨rfl, hB2⟩; have x0_2 := (hB2.cell (p := ⟨g, m * 4, none⟩) (by exact hgq1)).trans (by exact x0_1); have x1_2 := (hB2.cell (p := ⟨g, m * 4 + 1, none⟩) (by exact hgq1)).trans (by exact x1_1); have x2_2 := (hB2.cell (p := ⟨g, m * 4 + 2, none⟩) (by exact hgq1)).trans (by exact x2_1); have x3_2 := (hB2.cell (p := ⟨g, m * 4 + 3, none⟩) (by exact hgq1)).trans (by exact x3_1); have b0_2 := (hB2.cell (p := ⟨bx, 0, none⟩) (by exact hzq1)).trans (by exact b0_1); have b1_2 := (hB2.cell (p := ⟨bx, 1, none⟩) (by exact hzq1)).trans (by exact b1_1); have b2_2 := (hB2.cell (p := ⟨bx, 2, none⟩) (by exact hzq1)).trans (by exact b2_1); have b3_2 := (hB2.cell (p := ⟨bx, 3, none⟩) (by exact hzq1)).trans (by exact b3_1); have hgq2 := Nat.lt_of_lt_of_le hgq1 hB2.size; have hzq2 := Nat.lt_of_lt_of_le hzq1 hB2.size))
                have hBq2 := below_one (below_one hBq (below_drew1 hB1)) hB2
                clear hB1 hB2 x0_1 b0_1 x0 b0 x1_1 b1_1 x1 b1 x2_1 b2_1 x2 b2 x3_1 b3_1 x3 b3
                go_wp2_with fail
                go_quiet (fail)
                replace hBq2 := below_drewN hBq2 nq
                replace b0_2 : (v2.drewN nq).cell? _ = _ := b0_2
                replace b1_2 : (v2.drewN nq).cell? _ = _ := b1_2
                replace b2_2 : (v2.drewN nq).cell? _ = _ := b2_2
                replace b3_2 : (v2.drewN nq).cell? _ = _ := b3_2
                replace hzq2 : bx < (v2.drewN nq).heap.size := hzq2
                clear x0_2 x1_2 x2_2 x3_2 hgq2
                generalize v2.drewN nq = Wc at *
                have hrowc := ownsRow_below hrowW hBq2
                have hBc := below_one hBW hBq2
                have b0 := b0_2
                have b1 := b1_2
                have b2 := b2_2
                have b3 := b3_2
                have hzc := hzq2
                clear b0_2 b1_2 b2_2 b3_2 hzq2 hrowq hBq2 hBq
                have hn1 : ((l.take m).flatMap Ru.cells).length = m * 4 := by rw [flat_len, List.length_take]; omega
                have hn2 : ((l.drop m).flatMap Ru.cells).length = (l.length - m) * 4 := by rw [flat_len, List.length_drop]
                have hc1 : ∀ j u, ((l.take m).flatMap Ru.cells)[j]? = some u → Wc.cell? ((⟨g, 0, none⟩ : Addr).add j) = some u := row_take hrowc (by omega)
                go_wp2_with (at_builtin; refine wpList_append_own _ rfl _ _ 38 rfl Wc.heap.size 122 i0 _ 4 56 Tryz.underlying38 hi hz0 hz1 hz2 rfl (by decide) _ _ _ rfl (World.ownsRow_nil Wc Wc.heap.size 122 4) ⟨g, 0, none⟩ m _ ((l.take m).flatMap Ru.cells) rfl hn1 hc1 cells_one' (by unfold maxLen; omega) (by omega) (Nat.le_refl _) ?_)
                intro v1 w1 hown1 hgrow1 _
                have hb1 : Below Wc.heap.size Wc w1 := (Below.refl _ Wc).grown hgrow1 (Nat.le_refl _) (fun k hk => by cases hk)
                have q0 := (hb1.cell (p := ⟨bx, 0, none⟩) hzc).trans b0
                have q1 := (hb1.cell (p := ⟨bx, 1, none⟩) hzc).trans b1
                have q2 := (hb1.cell (p := ⟨bx, 2, none⟩) hzc).trans b2
                have q3 := (hb1.cell (p := ⟨bx, 3, none⟩) hzc).trans b3
                have hz1c := hb1.size
                obtain ⟨a1, cp1, rfl⟩ := ownsRow_len hown1
                clear hc1 b0 b1 b2 b3 hgrow1
                go_wp2_with (at_builtin; refine wpList_append_own _ rfl _ _ 38 rfl Wc.heap.size 122 i0 _ 4 56 Tryz.underlying38 hi hz0 hz1 hz2 rfl (by decide) _ _ _ rfl (hown1.alloc _) ⟨w1.heap.size, 0, none⟩ 1 1 r.cells rfl rfl (cell_four_new _ r) (by intro u hu; simp at hu; rcases hu with rfl | rfl | rfl | rfl <;> rfl) (by unfold maxLen; omega) (by omega) (by simp; omega) ?_)
                intro v2 w2 hown2 hgrow2 _
                have hb2 : Below Wc.heap.size Wc w2 := hb1.trans (below_appended hz1c hown1 hgrow2)
                have hz2c := hb2.size
                have hrow2 := ownsRow_below hrowc hb2
                have hc2 : ∀ j u, ((l.drop m).flatMap Ru.cells)[j]? = some u → w2.cell? ((⟨g, m * 4, none⟩ : Addr).add j) = some u := row_drop hrow2 (by omega)
                obtain ⟨a2, cp2, rfl⟩ := ownsRow_len hown2
                clear q0 q1 q2 q3 hgrow2 hown1
                go_wp2_with (at_builtin; refine wpList_append_own _ rfl _ _ 38 rfl Wc.heap.size 122 i0 _ 4 56 Tryz.underlying38 hi hz0 hz1 hz2 rfl (by decide) _ _ _ rfl hown2 ⟨g, m * 4, none⟩ (l.length - m) (capo - m) ((l.drop m).flatMap Ru.cells) rfl hn2 hc2 cells_one' (by unfold maxLen; omega) (by omega) hz2c ?_)
                intro v3 w3 hown3 hgrow3 _
                have hb3 : Below Wc.heap.size Wc w3 := hb2.grown hgrow3 hz2c (fun k hk => (hown2.lt k hk).1)
                have HO := hid hown3
                obtain ⟨a3, cp3, rfl⟩ := ownsRow_len hown3
                clear hown3 hown2 hgrow3 hc2 hn1 hn2
                go_wp2
                go_roundw
                case rel =>
                  refine ⟨k + 1, by omega, by go_num, ?_, below_one hBc hb3⟩
                  rw [HIN.out]
                  have h3 := Go.Joins.ownsRow_le HO.out hBc.size
                  have hl3 : (l.take m ++ r :: l.drop m).length = m + 1 + (l.length - m) := by rw [List.length_append, List.length_take, List.length_cons, List.length_drop]; omega
                  rw [hl3]
                  have hf3 : (l.take m ++ r :: l.drop m).flatMap Ru.cells = (l.take m).flatMap Ru.cells ++ .bool r.deny :: .string r.who :: .string r.method :: .string r.path :: (l.drop m).flatMap Ru.cells := by rw [List.flatMap_append, List.flatMap_cons]; rfl
                  rw [hf3]
                  exact h3
                case measure => simp [intOf]; omega
              · have HIN := hid (show plTo rs (k + 1) = l by rw [HSU.out]; exact HKE.out ht hsm)
                rw [hsm] at hse
                have hM1 : True := trivial
                go_wp2_with fail
                go_region_held3 (fun w' => w'.cell? ⟨g, m * 4, none⟩ = some (.bool x.deny) ∧ w'.cell? ⟨g, m * 4 + 1, none⟩ = some (.string x.who) ∧ w'.cell? ⟨g, m * 4 + 2, none⟩ = some (.string x.method) ∧ w'.cell? ⟨g, m * 4 + 3, none⟩ = some (.string x.path) ∧ w'.cell? ⟨bx, 0, none⟩ = some (.bool r.deny) ∧ w'.cell? ⟨bx, 1, none⟩ = some (.string r.who) ∧ w'.cell? ⟨bx, 2, none⟩ = some (.string r.method) ∧ w'.cell? ⟨bx, 3, none⟩ = some (.string r.path)) (go_keep) (first | (go_at_call 130; clear hM1; refine (l2Text_any x _ hX).mono ?_; rintro e v1 ⟨rfl, hB1⟩; have x0_1 := (hB1.cell (p := ⟨g, m * 4, none⟩) (by exact hgq)).trans (by exact x0); have x1_1 := (hB1.cell (p := ⟨g, m * 4 + 1, none⟩) (by exact hgq)).trans (by exact x1); have x2_1 := (hB1.cell (p := ⟨g, m * 4 + 2, none⟩) (by exact hgq)).trans (by exact x2); have x3_1 := (hB1.cell (p := ⟨g, m * 4 + 3, none⟩) (by exact hgq)).trans (by exact x3); have b0_1 := (hB1.cell (p := ⟨bx, 0, none⟩) (by exact hzq)).trans (by exact b0); have b1_1 := (hB1.cell (p := ⟨bx, 1, none⟩) (by exact hzq)).trans (by exact b1); have b2_1 := (hB1.cell (p := ⟨bx, 2, none⟩) (by exact hzq)).trans (by exact b2); have b3_1 := (hB1.cell (p := ⟨bx, 3, none⟩) (by exact hzq)).trans (by exact b3); have hgq1 := Nat.lt_of_lt_of_le hgq hB1.size; have hzq1 := Nat.lt_of_lt_of_le hzq hB1.size) | (go_at_call 130; refine (l2Text_any r _ hzr).mono ?_; rintro e v2 ⟨rfl, hB2⟩; have x0_2 := (hB2.cell (p := ⟨g, m * 4, none⟩) (by exact hgq1)).trans (by exact x0_1); have x1_2 := (hB2.cell (p := ⟨g, m * 4 + 1, none⟩) (by exact hgq1)).trans (by exact x1_1); have x2_2 := (hB2.cell (p := ⟨g, m * 4 + 2, none⟩) (by exact hgq1)).trans (by exact x2_1); have x3_2 := (hB2.cell (p := ⟨g, m * 4 + 3, none⟩) (by exact hgq1)).trans (by exact x3_1); have b0_2 := (hB2.cell (p := ⟨bx, 0, none⟩) (by exact hzq1)).trans (by exact b0_1); have b1_2 := (hB2.cell (p := ⟨bx, 1, none⟩) (by exact hzq1)).trans (by exact b1_1); have b2_2 := (hB2.cell (p := ⟨bx, 2, none⟩) (by exact hzq1)).trans (by exact b2_1); have b3_2 := (hB2.cell (p := ⟨bx, 3, none⟩) (by exact hzq1)).trans (by exact b3_1); have hgq2 := Nat.lt_of_lt_of_le hgq1 hB2.size; have hzq2 := Nat.lt_of_lt_of_le hzq1 hB2.size))
                have hBq2 := below_one (below_one hBq (below_drew1 hB1)) hB2
                clear hB1 hB2 x0_1 b0_1 x0 b0 x1_1 b1_1 x1 b1 x2_1 b2_1 x2 b2 x3_1 b3_1 x3 b3
                go_wp2_with fail
                have hrow2 := ownsRow_below hrowW hBq2
                go_quiet (fail)
                go_wp2
                go_roundw
                case rel => exact ⟨k + 1, by omega, by go_num, by rw [HIN.out]; exact row_draws hrow2 _, below_drewN (below_one hBW hBq2) _⟩
                case measure => simp [intOf]; omega
            · have et : Op.bytesLess x.text.toList r.text.toList = true := by rw [toList_data, toList_data]; exact ht
              have HS1 := hid (HST.out ht)
              have hM1 : True := trivial
              go_wp2_with fail
              go_region_held3 (fun w' => w'.cell? ⟨g, m * 4, none⟩ = some (.bool x.deny) ∧ w'.cell? ⟨g, m * 4 + 1, none⟩ = some (.string x.who) ∧ w'.cell? ⟨g, m * 4 + 2, none⟩ = some (.string x.method) ∧ w'.cell? ⟨g, m * 4 + 3, none⟩ = some (.string x.path) ∧ w'.cell? ⟨bx, 0, none⟩ = some (.bool r.deny) ∧ w'.cell? ⟨bx, 1, none⟩ = some (.string r.who) ∧ w'.cell? ⟨bx, 2, none⟩ = some (.string r.method) ∧ w'.cell? ⟨bx, 3, none⟩ = some (.string r.path)) (go_keep) (first | (go_at_call 130; clear hM1; refine (l2Text_any x _ hX).mono ?_; rintro e v1 ⟨rfl, hB1⟩; have x0_1 := (hB1.cell (p := ⟨g, m * 4, none⟩) (by exact hgq)).trans (by exact x0); have x1_1 := (hB1.cell (p := ⟨g, m * 4 + 1, none⟩) (by exact hgq)).trans (by exact x1); have x2_1 := (hB1.cell (p := ⟨g, m * 4 + 2, none⟩) (by exact hgq)).trans (by exact x2); have x3_1 := (hB1.cell (p := ⟨g, m * 4 + 3, none⟩) (by exact hgq)).trans (by exact x3); have b0_1 := (hB1.cell (p := ⟨bx, 0, none⟩) (by exact hzq)).trans (by exact b0); have b1_1 := (hB1.cell (p := ⟨bx, 1, none⟩) (by exact hzq)).trans (by exact b1); have b2_1 := (hB1.cell (p := ⟨bx, 2, none⟩) (by exact hzq)).trans (by exact b2); have b3_1 := (hB1.cell (p := ⟨bx, 3, none⟩) (by exact hzq)).trans (by exact b3); have hgq1 := Nat.lt_of_lt_of_le hgq hB1.size; have hzq1 := Nat.lt_of_lt_of_le hzq hB1.size) | (go_at_call 130; refine (l2Text_any r _ hzr).mono ?_; rintro e v2 ⟨rfl, hB2⟩; have x0_2 := (hB2.cell (p := ⟨g, m * 4, none⟩) (by exact hgq1)).trans (by exact x0_1); have x1_2 := (hB2.cell (p := ⟨g, m * 4 + 1, none⟩) (by exact hgq1)).trans (by exact x1_1); have x2_2 := (hB2.cell (p := ⟨g, m * 4 + 2, none⟩) (by exact hgq1)).trans (by exact x2_1); have x3_2 := (hB2.cell (p := ⟨g, m * 4 + 3, none⟩) (by exact hgq1)).trans (by exact x3_1); have b0_2 := (hB2.cell (p := ⟨bx, 0, none⟩) (by exact hzq1)).trans (by exact b0_1); have b1_2 := (hB2.cell (p := ⟨bx, 1, none⟩) (by exact hzq1)).trans (by exact b1_1); have b2_2 := (hB2.cell (p := ⟨bx, 2, none⟩) (by exact hzq1)).trans (by exact b2_1); have b3_2 := (hB2.cell (p := ⟨bx, 3, none⟩) (by exact hzq1)).trans (by exact b3_1); have hgq2 := Nat.lt_of_lt_of_le hgq1 hB2.size; have hzq2 := Nat.lt_of_lt_of_le hzq1 hB2.size))
              have hBq2 := below_one (below_one hBq (below_drew1 hB1)) hB2
              clear hB1 hB2 x0_1 b0_1 x0 b0 x1_1 b1_1 x1 b1 x2_1 b2_1 x2 b2 x3_1 b3_1 x3 b3
              go_wp2
              go_roundw
              case rel => first | exact ⟨m + 1, by omega, by go_num, HS1.out, hBq2⟩ | ((repeat apply Exists.intro); exact ⟨⟨m + 1, by omega, by go_num, HS1.out, hBq2⟩, rfl⟩)
              case measure => simp [intOf]; omega
          · have HME := hid (show m = l.length by omega)
            have dm : decide ((m : Int) < (l.length : Int)) = false := by simp; omega
            have HIN := hid (show plTo rs (k + 1) = l.take m ++ r :: l.drop m by
              rw [HSU.out, HME.out]
              exact ins_end (fun j hj _ => HL.out j hj (by have := HME.out; omega)))
            go_wp2_with fail
            go_quiet (fail)
            go_wp2_with fail
            replace hBq := below_drewN hBq nq
            replace b0 : (wr.drewN nq).cell? _ = _ := b0
            replace b1 : (wr.drewN nq).cell? _ = _ := b1
            replace b2 : (wr.drewN nq).cell? _ = _ := b2
            replace b3 : (wr.drewN nq).cell? _ = _ := b3
            replace hzq : bx < (wr.drewN nq).heap.size := hzq
            clear hrowq
            generalize wr.drewN nq = Wb at *
            go_quiet (fail)
            replace hBq := below_drewN hBq nq
            replace b0 : (Wb.drewN nq).cell? _ = _ := b0
            replace b1 : (Wb.drewN nq).cell? _ = _ := b1
            replace b2 : (Wb.drewN nq).cell? _ = _ := b2
            replace b3 : (Wb.drewN nq).cell? _ = _ := b3
            replace hzq : bx < (Wb.drewN nq).heap.size := hzq
            generalize Wb.drewN nq = Wc at *
            have hrowc := ownsRow_below hrowW hBq
            have hBc := below_one hBW hBq
            have hzc := hzq
            clear hBq hzq
            by_cases hcm : capo = m
            ·
              have hn1 : ((l.take m).flatMap Ru.cells).length = m * 4 := by rw [flat_len, List.length_take]; omega
              have hn2 : ((l.drop m).flatMap Ru.cells).length = (l.length - m) * 4 := by rw [flat_len, List.length_drop]
              have hc1 : ∀ j u, ((l.take m).flatMap Ru.cells)[j]? = some u → Wc.cell? ((⟨g, 0, none⟩ : Addr).add j) = some u := row_take hrowc (by omega)
              go_wp2_with (at_builtin; refine wpList_append_own _ rfl _ _ 38 rfl Wc.heap.size 122 i0 _ 4 56 Tryz.underlying38 hi hz0 hz1 hz2 rfl (by decide) _ _ _ rfl (World.ownsRow_nil Wc Wc.heap.size 122 4) ⟨g, 0, none⟩ m _ ((l.take m).flatMap Ru.cells) rfl hn1 hc1 cells_one' (by unfold maxLen; omega) (by omega) (Nat.le_refl _) ?_)
              intro v1 w1 hown1 hgrow1 _
              have hb1 : Below Wc.heap.size Wc w1 := (Below.refl _ Wc).grown hgrow1 (Nat.le_refl _) (fun k hk => by cases hk)
              have q0 := (hb1.cell (p := ⟨bx, 0, none⟩) hzc).trans b0
              have q1 := (hb1.cell (p := ⟨bx, 1, none⟩) hzc).trans b1
              have q2 := (hb1.cell (p := ⟨bx, 2, none⟩) hzc).trans b2
              have q3 := (hb1.cell (p := ⟨bx, 3, none⟩) hzc).trans b3
              have hz1c := hb1.size
              obtain ⟨a1, cp1, rfl⟩ := ownsRow_len hown1
              clear hc1 b0 b1 b2 b3 hgrow1
              go_wp2_with (at_builtin; refine wpList_append_own _ rfl _ _ 38 rfl Wc.heap.size 122 i0 _ 4 56 Tryz.underlying38 hi hz0 hz1 hz2 rfl (by decide) _ _ _ rfl (hown1.alloc _) ⟨w1.heap.size, 0, none⟩ 1 1 r.cells rfl rfl (cell_four_new _ r) (by intro u hu; simp at hu; rcases hu with rfl | rfl | rfl | rfl <;> rfl) (by unfold maxLen; omega) (by omega) (by simp; omega) ?_)
              intro v2 w2 hown2 hgrow2 _
              have hb2 : Below Wc.heap.size Wc w2 := hb1.trans (below_appended hz1c hown1 hgrow2)
              have hz2c := hb2.size
              have hrow2 := ownsRow_below hrowc hb2
              obtain ⟨a2, cp2, rfl⟩ := ownsRow_len hown2
              clear q0 q1 q2 q3 hgrow2 hown1
              go_wp2_with (at_builtin; refine wpList_append_own _ rfl _ _ 38 rfl Wc.heap.size 122 i0 _ 4 56 Tryz.underlying38 hi hz0 hz1 hz2 rfl (by decide) _ _ _ rfl hown2 _ (l.length - m) _ [] rfl (by have := HME.out; simp; omega) (fun j u h => by cases h) (fun u h => by cases h) (by unfold maxLen; omega) (by omega) hz2c ?_)
              all_goals intro v3 w3 hown3 hgrow3 _
              all_goals have hb3 : Below Wc.heap.size Wc w3 := hb2.grown hgrow3 hz2c (fun k hk => (hown2.lt k hk).1)
              all_goals have HO := hid hown3
              all_goals obtain ⟨a3, cp3, rfl⟩ := ownsRow_len hown3
              all_goals clear hown3 hown2 hgrow3 hn1 hn2
              all_goals go_wp2
              all_goals go_roundw
              all_goals first
                | (simp [intOf]; omega)
                | (refine ⟨k + 1, by omega, by go_num, ?_, below_one hBc hb3⟩
                   rw [HIN.out]
                   have h3 := Go.Joins.ownsRow_le HO.out hBc.size
                   have hl3 : (l.take m ++ r :: l.drop m).length = m + 1 + (l.length - m) := by rw [List.length_append, List.length_take, List.length_cons, List.length_drop]; omega
                   rw [hl3]
                   have hd3 : l.drop m = [] := List.drop_eq_nil_of_le (by have := HME.out; omega)
                   have hf3 : (l.take m ++ r :: l.drop m).flatMap Ru.cells = (l.take m).flatMap Ru.cells ++ r.cells := by rw [hd3, List.flatMap_append, List.flatMap_cons]; rfl
                   rw [hf3]
                   first | exact h3 | simpa using h3)
            ·
              have hn1 : ((l.take m).flatMap Ru.cells).length = m * 4 := by rw [flat_len, List.length_take]; omega
              have hn2 : ((l.drop m).flatMap Ru.cells).length = (l.length - m) * 4 := by rw [flat_len, List.length_drop]
              have hc1 : ∀ j u, ((l.take m).flatMap Ru.cells)[j]? = some u → Wc.cell? ((⟨g, 0, none⟩ : Addr).add j) = some u := row_take hrowc (by omega)
              go_wp2_with (at_builtin; refine wpList_append_own _ rfl _ _ 38 rfl Wc.heap.size 122 i0 _ 4 56 Tryz.underlying38 hi hz0 hz1 hz2 rfl (by decide) _ _ _ rfl (World.ownsRow_nil Wc Wc.heap.size 122 4) ⟨g, 0, none⟩ m _ ((l.take m).flatMap Ru.cells) rfl hn1 hc1 cells_one' (by unfold maxLen; omega) (by omega) (Nat.le_refl _) ?_)
              intro v1 w1 hown1 hgrow1 _
              have hb1 : Below Wc.heap.size Wc w1 := (Below.refl _ Wc).grown hgrow1 (Nat.le_refl _) (fun k hk => by cases hk)
              have q0 := (hb1.cell (p := ⟨bx, 0, none⟩) hzc).trans b0
              have q1 := (hb1.cell (p := ⟨bx, 1, none⟩) hzc).trans b1
              have q2 := (hb1.cell (p := ⟨bx, 2, none⟩) hzc).trans b2
              have q3 := (hb1.cell (p := ⟨bx, 3, none⟩) hzc).trans b3
              have hz1c := hb1.size
              obtain ⟨a1, cp1, rfl⟩ := ownsRow_len hown1
              clear hc1 b0 b1 b2 b3 hgrow1
              go_wp2_with (at_builtin; refine wpList_append_own _ rfl _ _ 38 rfl Wc.heap.size 122 i0 _ 4 56 Tryz.underlying38 hi hz0 hz1 hz2 rfl (by decide) _ _ _ rfl (hown1.alloc _) ⟨w1.heap.size, 0, none⟩ 1 1 r.cells rfl rfl (cell_four_new _ r) (by intro u hu; simp at hu; rcases hu with rfl | rfl | rfl | rfl <;> rfl) (by unfold maxLen; omega) (by omega) (by simp; omega) ?_)
              intro v2 w2 hown2 hgrow2 _
              have hb2 : Below Wc.heap.size Wc w2 := hb1.trans (below_appended hz1c hown1 hgrow2)
              have hz2c := hb2.size
              have hrow2 := ownsRow_below hrowc hb2
              obtain ⟨a2, cp2, rfl⟩ := ownsRow_len hown2
              clear q0 q1 q2 q3 hgrow2 hown1
              go_wp2_with (at_builtin; refine wpList_append_own _ rfl _ _ 38 rfl Wc.heap.size 122 i0 _ 4 56 Tryz.underlying38 hi hz0 hz1 hz2 rfl (by decide) _ _ _ rfl hown2 _ (l.length - m) _ [] rfl (by have := HME.out; simp; omega) (fun j u h => by cases h) (fun u h => by cases h) (by unfold maxLen; omega) (by omega) hz2c ?_)
              all_goals intro v3 w3 hown3 hgrow3 _
              all_goals have hb3 : Below Wc.heap.size Wc w3 := hb2.grown hgrow3 hz2c (fun k hk => (hown2.lt k hk).1)
              all_goals have HO := hid hown3
              all_goals obtain ⟨a3, cp3, rfl⟩ := ownsRow_len hown3
              all_goals clear hown3 hown2 hgrow3 hn1 hn2
              all_goals go_wp2
              all_goals go_roundw
              all_goals first
                | (simp [intOf]; omega)
                | (refine ⟨k + 1, by omega, by go_num, ?_, below_one hBc hb3⟩
                   rw [HIN.out]
                   have h3 := Go.Joins.ownsRow_le HO.out hBc.size
                   have hl3 : (l.take m ++ r :: l.drop m).length = m + 1 + (l.length - m) := by rw [List.length_append, List.length_take, List.length_cons, List.length_drop]; omega
                   rw [hl3]
                   have hd3 : l.drop m = [] := List.drop_eq_nil_of_le (by have := HME.out; omega)
                   have hf3 : (l.take m ++ r :: l.drop m).flatMap Ru.cells = (l.take m).flatMap Ru.cells ++ r.cells := by rw [hd3, List.flatMap_append, List.flatMap_cons]; rfl
                   rw [hf3]
                   first | exact h3 | simpa using h3)
    · obtain rfl : k = rs.length := by omega
      go_wp2
      go_ret
      exact ⟨_, rfl, hrow, hB⟩

theorem l2Plain_any (v : Value) (rs : List Ru) (w : World) (hm : rs.length ≤ 30) (hf : ∀ r ∈ rs, r.size ≤ 1048576) (hr : RuS w v rs) :
    Calls Tryz.prog 96 #[v] w fun e w' => ∃ v', e = .returned v' ∧ w'.ownsRow w.heap.size 122 4 v' (plTo rs rs.length).length ((plTo rs rs.length).flatMap Ru.cells) ∧ Below w.heap.size w w' :=
  l2PlainW_any v rs w (by omega) hf hr

end Go.Proofs.YtnbojbcljfiamaaGreatDoor

namespace Go.Proofs.YtnbojbcljfiamaaGreatDoor
open Go.RowKit Go.Shelf

theorem at_drop {ops : Array Oper} {i : Nat} {o : Oper} (h : (ops.toList.drop i).head? = some o) : ops[i]? = some o := by
  rw [List.head?_drop] at h
  simpa using h
theorem takeW {P : Program} {ops : Array Oper} {Q : Exit → Act → World → Prop} {md : Region.Mode} {S : World → Prop} (i : Nat) {oi : Oper} {v : Value} {fuel : Nat} {listed : Array Bool} {a : Act} {w : World} (hi : (ops.toList.drop i).head? = some oi)
    (hs : Region.noSelect ops = true) (hf : Region.free md ops listed i = true) (hr : (Region.ready md ops listed).contains i = true)
    (hQ : ∀ c a w, Q (.panic c) (a.put oi.dst v) w → Q (.panic c) a w) (hw : Region.wanted oi (yielded ops a.tmps) = true) (hS : S w) (hy : ∀ w, S w → (execOp a.eval oi).run P w = .ok (.value v) w)
    (h : wpAnyH P md ops Q S fuel (listed.setIfInBounds i true) (a.put oi.dst v) w) : wpAnyH P md ops Q S (fuel + 1) listed a w :=
  wpAnyH_take (at_drop hi) hs hf hr hQ (Or.inl ⟨hw, hy⟩) hS h
theorem takeX {P : Program} {ops : Array Oper} {Q : Exit → Act → World → Prop} {md : Region.Mode} {S : World → Prop} (i : Nat) {oi : Oper} {fuel : Nat} {listed : Array Bool} {a : Act} {w : World} (hi : (ops.toList.drop i).head? = some oi)
    (hs : Region.noSelect ops = true) (hf : Region.free md ops listed i = true) (hr : (Region.ready md ops listed).contains i = true)
    (hQ : ∀ c a w, Q (.panic c) (a.put oi.dst undef) w → Q (.panic c) a w) (hw : Region.wanted oi (yielded ops a.tmps) = false) (hS : S w)
    (h : wpAnyH P md ops Q S fuel (listed.setIfInBounds i true) (a.put oi.dst undef) w) : wpAnyH P md ops Q S (fuel + 1) listed a w :=
  wpAnyH_take (at_drop hi) hs hf hr hQ (Or.inr ⟨hw, rfl⟩) hS h
theorem takeC {P : Program} {ops : Array Oper} {Q : Exit → Act → World → Prop} {md : Region.Mode} {S : World → Prop} (i : Nat) {oi : Oper} {fuel : Nat} {listed : Array Bool} {a : Act} {w : World} (hr : Region.ready md ops listed = [i]) (hi : (ops.toList.drop i).head? = some oi)
    (h : ∀ K' : Act → World → Prop, Shut (∀ a w, S w → (S w → wpAnyH P md ops Q S fuel (listed.setIfInBounds i true) a w) → K' a w) → if Region.wanted oi (yielded ops a.tmps) = true then Oper.wp P oi a w K' Q else K' (a.put oi.dst undef) w) : wpAnyH P md ops Q S (fuel + 1) listed a w :=
  wpAnyH_ready hr (by simp) (AllReadyH.cons (at_drop hi) h AllReadyH.nil)
/-- Two operations, either of which may come first. -/
theorem takeC2 {P : Program} {ops : Array Oper} {Q : Exit → Act → World → Prop} {md : Region.Mode} {S : World → Prop} (i j : Nat) {oi oj : Oper} {fuel : Nat} {listed : Array Bool} {a : Act} {w : World} (hr : Region.ready md ops listed = [i, j]) (hi : (ops.toList.drop i).head? = some oi) (hj : (ops.toList.drop j).head? = some oj)
    (h : ∀ K' : Act → World → Prop, Shut (∀ a w, S w → (S w → wpAnyH P md ops Q S fuel (listed.setIfInBounds i true) a w) → K' a w) → if Region.wanted oi (yielded ops a.tmps) = true then Oper.wp P oi a w K' Q else K' (a.put oi.dst undef) w)
    (h' : ∀ K' : Act → World → Prop, Shut (∀ a w, S w → (S w → wpAnyH P md ops Q S fuel (listed.setIfInBounds j true) a w) → K' a w) → if Region.wanted oj (yielded ops a.tmps) = true then Oper.wp P oj a w K' Q else K' (a.put oj.dst undef) w) : wpAnyH P md ops Q S (fuel + 1) listed a w :=
  wpAnyH_ready hr (by simp) (AllReadyH.cons (at_drop hi) h (AllReadyH.cons (at_drop hj) h' AllReadyH.nil))

def inB (lo hi n : Int) : Bool := decide (lo ≤ n ∧ n ≤ hi)

theorem l1In_any (n lo hi : Int) (w : World) :
    Calls Tryz.prog 64 #[.int .i64 n, .int .i64 lo, .int .i64 hi] w fun e w' => e = .returned (.bool (inB lo hi n)) ∧ w' = w := by
  by_cases c1 : lo ≤ n
  · by_cases c2 : n ≤ hi
    · have HR := hid (show inB lo hi n = true from decide_eq_true ⟨c1, c2⟩)
      go_enter Tryz.func64, Tryz.ntmps64
      go_wp2
      go_ret
      exact ⟨ret_bool HR.out.symm, rfl⟩
    · have HR := hid (show inB lo hi n = false from decide_eq_false (fun h => c2 h.2))
      go_enter Tryz.func64, Tryz.ntmps64
      go_wp2
      go_ret
      exact ⟨ret_bool HR.out.symm, rfl⟩
  · have HR := hid (show inB lo hi n = false from decide_eq_false (fun h => c1 h.1))
    go_enter Tryz.func64, Tryz.ntmps64
    go_wp2
    go_ret
    exact ⟨ret_bool HR.out.symm, rfl⟩

end Go.Proofs.YtnbojbcljfiamaaGreatDoor

namespace Go.Proofs.YtnbojbcljfiamaaGreatDoor
open Go.RowKit Go.Shelf

set_option maxHeartbeats 2000000 in
theorem l5SameRules_any (v v' : Value) (rs ss : List Ru) (w : World) (_hm : rs.length ≤ 1048577) (hm' : ss.length ≤ 1048577) (hr : RuS w v rs) (hr' : RuS w v' ss) :
    Calls Tryz.prog 95 #[v, v'] w fun e w' => e = .returned (.bool (sameS rs ss)) ∧ Below w.heap.size w w' := by
  obtain ⟨a, cap, rfl⟩ := hr.len
  obtain ⟨a', cap', rfl⟩ := hr'.len
  by_cases hl : rs.length = ss.length
  · have e0 : ((rs.length : Int) != (ss.length : Int)) = false := by simp; omega
    have hl1 : rs.length ≤ ss.length := by omega
    have HL := hid hl
    clear hl
    go_enter Tryz.func95, Tryz.ntmps95
    go_wp2
    go_loopw [13] (fun i wr => ∃ k : Nat, k ≤ rs.length ∧ i = .int .i64 k ∧ sameTo rs ss k = true ∧ Below w.heap.size w wr) (fun i _ => rs.length - (intOf i).toNat)
    case atStart => exact ⟨0, Nat.zero_le _, rfl, sameTo_zero _ _, Below.refl _ _⟩
    case round =>
      obtain ⟨k, hk, rfl, hs, hB⟩ := hrel
      have HS := hid hs
      clear hs
      by_cases hlt : k < rs.length
      · have hlt' : k < ss.length := by omega
        obtain ⟨b, off, rfl, hb, hcap, q0, q1, q2, q3⟩ := (hr.below hB).at hlt
        obtain ⟨b', off', rfl, hb', hcap', p0, p1, p2, p3⟩ := (hr'.below hB).at hlt'
        have HT := hid (sameTo_succ hlt hlt')
        generalize rs[k] = r at *
        generalize ss[k] = s at *
        have hne := neq_ru r s
        cases hq : r.same s
        · have HR := hid (show sameS rs ss = false from same_bad (by rw [HT.out, hq, Bool.and_false]))
          go_wp2_with fail
          go_quiet (fail)
          go_wp2
          go_ret
          exact ⟨ret_bool HR.out.symm, below_drewn hB _⟩
        · have HR := hid (show sameTo rs ss (k + 1) = true by rw [HT.out, HS.out, hq]; rfl)
          go_wp2_with fail
          go_quiet (fail)
          go_wp2
          go_roundw
          case rel => exact ⟨k + 1, by omega, by go_num, HR.out, below_drewn hB _⟩
          case measure => simp [intOf]; omega
      · obtain rfl : k = rs.length := by omega
        have HR := hid (show sameS rs ss = true by rw [← same_end HL.out]; exact HS.out)
        go_wp2
        go_ret
        exact ⟨ret_bool HR.out.symm, hB⟩
  · have e0 : ((rs.length : Int) != (ss.length : Int)) = true := by simp; omega
    have HR := hid (show sameS rs ss = false by unfold sameS; rw [decide_eq_false hl]; rfl)
    clear hl
    go_enter Tryz.func95, Tryz.ntmps95
    go_wp2
    go_ret
    exact ⟨ret_bool HR.out.symm, Below.refl _ _⟩

/-- Numbers that rise, at most two hundred serials. -/
def riB (zs : List Int) : Bool := fewB zs && upN zs
theorem riB_no1 {zs : List Int} (h : okN 100001 zs = false) : riB zs = false := by unfold riB; rw [fewB_no2 h]; rfl
theorem riB_no2 {zs : List Int} (h : upN zs = false) : riB zs = false := by unfold riB; rw [h]; simp
theorem riB_len {zs : List Int} (h1 : okN 100001 zs = true) (h2 : upN zs = true) : riB zs = decide (zs.length ≤ 200) := by
  unfold riB fewB
  rw [h1, h2]
  simp

set_option maxHeartbeats 4000000 in
theorem l5Rising_any (v : Value) (zs : List Int) (w : World) (hm : zs.length ≤ 1048577) (hr : VS w v (nums zs)) :
    Calls Tryz.prog 97 #[v] w fun e w' => e = .returned (.bool (riB zs)) ∧ w' = w := by
  obtain ⟨a, cap, rfl⟩ := hr.numLen
  go_enter Tryz.func97, Tryz.ntmps97
  go_wp2
  go_loop [7] (fun i => ∃ n : Nat, n ≤ zs.length ∧ i = .int .i64 n ∧ ∀ j (hj : j < zs.length), j < n → (1 ≤ zs[j] ∧ zs[j] < 100001) ∧ upI zs j = true) (fun i => zs.length - (intOf i).toNat)
  case atStart => exact ⟨0, Nat.zero_le _, rfl, fun _ _ h => absurd h (Nat.not_lt_zero _)⟩
  case round =>
    obtain ⟨n, hn, rfl, ht⟩ := hrel
    have HT := hid ht
    clear ht
    by_cases hlt : n < zs.length
    · obtain ⟨b, off, rfl, hb, hcap, q0⟩ := hr.num hlt
      have HN := hid (fun h => riB_no1 (okN_no (nx := 100001) (zs := zs) hlt h))
      have HU := hid (fun h => riB_no2 (upN_no (zs := zs) hlt h))
      have HS := hid (show (1 ≤ zs[n] ∧ zs[n] < 100001) → upI zs n = true → ∀ j (hj : j < zs.length), j < n + 1 → (1 ≤ zs[j] ∧ zs[j] < 100001) ∧ upI zs j = true from fun h hu j hj hjn => by
        by_cases e : j = n
        · subst e; exact ⟨h, hu⟩
        · exact HT.out j hj (by omega))
      rcases Nat.eq_zero_or_pos n with rfl | hpos
      · have HZ := hid (show upI zs 0 = true from rfl)
        rw [Nat.add_zero] at q0
        generalize zs[0] = x at *
        by_cases hx : 1 ≤ x ∧ x < 100001
        · have hin : inB 1 100000 x = true := decide_eq_true (by omega)
          have HR := hid (HS.out hx HZ.out)
          clear hx
          go_wp2_with (go_at_call 64; refine (l1In_any x 1 100000 _).mono ?_; rintro e w1 ⟨rfl, rfl⟩; rw [hin])
          exact ⟨⟨1, by omega, by go_num, HR.out⟩, by simp [intOf]; omega⟩
        · have hin : inB 1 100000 x = false := decide_eq_false (by omega)
          have HR := hid (HN.out hx)
          clear hx
          go_wp2_with (go_at_call 64; refine (l1In_any x 1 100000 _).mono ?_; rintro e w1 ⟨rfl, rfl⟩; rw [hin])
          go_ret
          exact ⟨ret_bool HR.out.symm, rfl⟩
      · obtain ⟨m, hm1⟩ : ∃ m, n = m + 1 := ⟨n - 1, by omega⟩
        obtain ⟨b', off', hbo, _, _, p0⟩ := hr.num (i := m) (by omega)
        cases hbo
        have HI := hid (show upI zs n = decide ((zs[m]'(by omega)) < zs[n]) by subst hm1; exact upI_succ hlt)
        have hw1 : IntKind.i64.wrap ((n : Int) - 1) = (m : Int) := by rw [IntKind.wrap_i64]; omega
        have hl1 : (0 : Int) < (n : Int) := by omega
        have hl2 : (m : Int) < (zs.length : Int) := by omega
        generalize zs[n] = x at *
        generalize zs[m] = y at *
        clear hm1 hpos
        by_cases hx : 1 ≤ x ∧ x < 100001
        · have hin : inB 1 100000 x = true := decide_eq_true (by omega)
          by_cases hyx : y < x
          · have HR := hid (HS.out hx (by rw [HI.out]; exact decide_eq_true hyx))
            have hd : decide (x ≤ y) = false := decide_eq_false (by omega)
            clear hx
            go_wp2_with (go_at_call 64; refine (l1In_any x 1 100000 _).mono ?_; rintro e w1 ⟨rfl, rfl⟩; rw [hin])
            exact ⟨⟨n + 1, by omega, by go_num, HR.out⟩, by simp [intOf]; omega⟩
          · have HR := hid (HU.out (by rw [HI.out]; exact decide_eq_false hyx))
            have hd : decide (x ≤ y) = true := decide_eq_true (by omega)
            clear hx
            go_wp2_with (go_at_call 64; refine (l1In_any x 1 100000 _).mono ?_; rintro e w1 ⟨rfl, rfl⟩; rw [hin])
            go_ret
            exact ⟨ret_bool HR.out.symm, rfl⟩
        · have hin : inB 1 100000 x = false := decide_eq_false (by omega)
          have HR := hid (HN.out hx)
          clear hx
          go_wp2_with (go_at_call 64; refine (l1In_any x 1 100000 _).mono ?_; rintro e w1 ⟨rfl, rfl⟩; rw [hin])
          go_ret
          exact ⟨ret_bool HR.out.symm, rfl⟩
    · obtain rfl : n = zs.length := by omega
      have HR := hid (riB_len (okN_yes fun i hi => (HT.out i hi hi).1) (upN_yes fun i hi => (HT.out i hi hi).2))
      go_wp2
      go_ret
      exact ⟨ret_bool (by rw [HR.out]; exact decide_eq_decide.2 (by omega)), rfl⟩

set_option maxHeartbeats 8000000 in
theorem specGoodSnapshot_any (v : Value) (s : Sn) (w : World) (hs : s.short) (h : SnA w v s) :
    Calls Tryz.prog 63 #[v] w fun e w' => e = .returned (.bool (snB s)) ∧ Below w.heap.size w w' := by
  obtain ⟨vp, vr, rfl, h1, h2⟩ := h
  obtain ⟨l1, l2, hz⟩ := hs
  obtain ⟨ap, cp, rfl⟩ := h1.len
  obtain ⟨ar, cr, rfl⟩ := h2.numLen
  have hB0 : Below w.heap.size w (w.alloc (.cells #[.int .i64 s.num, .slice ap s.pol.length cp, .slice ar s.rv.length cr] 40)) := (Below.refl _ w).alloc (Nat.le_refl _) _
  have F := Three.new w (.int .i64 s.num) (.slice ap s.pol.length cp) (.slice ar s.rv.length cr) 40
  have hlt0 := F.lt
  have h1d := (h1.below hB0).below (Below.refl _ _).drew
  have h2d := (h2.below hB0).below (Below.refl _ _).drew
  obtain ⟨a0, a1, a2⟩ := F.c
  cases hin : inB 1 100000 s.num
  · have HR := hid (snB_no1 (s := s) hin)
    go_enter Tryz.func63, Tryz.ntmps63
    go_wp2_with fail
    generalize w.alloc (.cells #[.int .i64 s.num, .slice ap s.pol.length cp, .slice ar s.rv.length cr] 40) = W0 at *
    refine wp_region_held_drew (S := fun w' => w'.cell? ⟨w.heap.size, 0, none⟩ = some (.int .i64 s.num) ∧ w'.cell? ⟨w.heap.size, 1, none⟩ = some (.slice ap s.pol.length cp) ∧ w'.cell? ⟨w.heap.size, 2, none⟩ = some (.slice ar s.rv.length cr)) (by kernel_rfl) ?_ (fun hHeld => ?_)
    · go_keep
    refine takeW 0 (v := ?v1) rfl (by kernel_rfl) (by kernel_rfl) (by kernel_rfl) (fun _ _ _ h => h) (by rfl) (by assumption) ?hy1 ?rest1
    case hy1 => intro w' hSw; (try dsimp only at hSw); go_simp; try with_reducible rfl
    try simp only [Act.put, List.setIfInBounds_toArray, List.set_cons_zero, List.set_cons_succ]
    refine takeW 1 (v := ?v2) rfl (by kernel_rfl) (by kernel_rfl) (by kernel_rfl) (fun _ _ _ h => h) (by rfl) (by assumption) ?hy2 ?rest2
    case hy2 => intro w' hSw; (try dsimp only at hSw); go_simp; try with_reducible rfl
    try simp only [Act.put, List.setIfInBounds_toArray, List.set_cons_zero, List.set_cons_succ]
    refine takeC 2 (by kernel_rfl) rfl (fun K hK => ?_)
    go_simp
    refine (l1In_any s.num 1 100000 _).mono ?_; rintro e w1 ⟨he1, rfl⟩; rw [hin] at he1; subst he1
    refine hK.out _ _ ?_ (fun hHeld => ?_)
    · go_keep
    clear hK K
    try simp only [Act.put, List.setIfInBounds_toArray, List.set_cons_zero, List.set_cons_succ]
    refine takeW 3 (v := ?v3) rfl (by kernel_rfl) (by kernel_rfl) (by kernel_rfl) (fun _ _ _ h => h) (by rfl) (by assumption) ?hy3 ?rest3
    case hy3 => intro w' hSw; (try dsimp only at hSw); go_simp; try with_reducible rfl
    try simp only [Act.put, List.setIfInBounds_toArray, List.set_cons_zero, List.set_cons_succ]
    refine takeX 4 rfl (by kernel_rfl) (by kernel_rfl) (by kernel_rfl) (fun _ _ _ h => h) (by rfl) (by assumption) ?_
    try simp only [Act.put, List.setIfInBounds_toArray, List.set_cons_zero, List.set_cons_succ]
    refine takeX 5 rfl (by kernel_rfl) (by kernel_rfl) (by kernel_rfl) (fun _ _ _ h => h) (by rfl) (by assumption) ?_
    try simp only [Act.put, List.setIfInBounds_toArray, List.set_cons_zero, List.set_cons_succ]
    refine takeX 6 rfl (by kernel_rfl) (by kernel_rfl) (by kernel_rfl) (fun _ _ _ h => h) (by rfl) (by assumption) ?_
    try simp only [Act.put, List.setIfInBounds_toArray, List.set_cons_zero, List.set_cons_succ]
    refine takeW 7 (v := ?v4) rfl (by kernel_rfl) (by kernel_rfl) (by kernel_rfl) (fun _ _ _ h => h) (by rfl) (by assumption) ?hy4 ?rest4
    case hy4 => intro w' hSw; (try dsimp only at hSw); go_simp; try with_reducible rfl
    try simp only [Act.put, List.setIfInBounds_toArray, List.set_cons_zero, List.set_cons_succ]
    refine takeW 8 (v := ?v5) rfl (by kernel_rfl) (by kernel_rfl) (by kernel_rfl) (fun _ _ _ h => h) (by rfl) (by assumption) ?hy5 ?rest5
    case hy5 => intro w' hSw; (try dsimp only at hSw); go_simp; try with_reducible rfl
    try simp only [Act.put, List.setIfInBounds_toArray, List.set_cons_zero, List.set_cons_succ]
    refine takeX 9 rfl (by kernel_rfl) (by kernel_rfl) (by kernel_rfl) (fun _ _ _ h => h) (by rfl) (by assumption) ?_
    try simp only [Act.put, List.setIfInBounds_toArray, List.set_cons_zero, List.set_cons_succ]
    refine takeX 10 rfl (by kernel_rfl) (by kernel_rfl) (by kernel_rfl) (fun _ _ _ h => h) (by rfl) (by assumption) ?_
    try simp only [Act.put, List.setIfInBounds_toArray, List.set_cons_zero, List.set_cons_succ]
    refine takeX 11 rfl (by kernel_rfl) (by kernel_rfl) (by kernel_rfl) (fun _ _ _ h => h) (by rfl) (by assumption) ?_
    try simp only [Act.put, List.setIfInBounds_toArray, List.set_cons_zero, List.set_cons_succ]
    refine takeX 12 rfl (by kernel_rfl) (by kernel_rfl) (by kernel_rfl) (fun _ _ _ h => h) (by rfl) (by assumption) ?_
    try simp only [Act.put, List.setIfInBounds_toArray, List.set_cons_zero, List.set_cons_succ]
    refine takeX 13 rfl (by kernel_rfl) (by kernel_rfl) (by kernel_rfl) (fun _ _ _ h => h) (by rfl) (by assumption) ?_
    try simp only [Act.put, List.setIfInBounds_toArray, List.set_cons_zero, List.set_cons_succ]
    refine takeX 14 rfl (by kernel_rfl) (by kernel_rfl) (by kernel_rfl) (fun _ _ _ h => h) (by rfl) (by assumption) ?_
    try simp only [Act.put, List.setIfInBounds_toArray, List.set_cons_zero, List.set_cons_succ]
    refine takeW 15 (v := ?v6) rfl (by kernel_rfl) (by kernel_rfl) (by kernel_rfl) (fun _ _ _ h => h) (by rfl) (by assumption) ?hy6 ?rest6
    case hy6 => intro w' hSw; (try dsimp only at hSw); go_simp; try with_reducible rfl
    try simp only [Act.put, List.setIfInBounds_toArray, List.set_cons_zero, List.set_cons_succ]
    refine takeW 16 (v := ?v7) rfl (by kernel_rfl) (by kernel_rfl) (by kernel_rfl) (fun _ _ _ h => h) (by rfl) (by assumption) ?hy7 ?rest7
    case hy7 => intro w' hSw; (try dsimp only at hSw); go_simp; try with_reducible rfl
    try simp only [Act.put, List.setIfInBounds_toArray, List.set_cons_zero, List.set_cons_succ]
    refine takeX 17 rfl (by kernel_rfl) (by kernel_rfl) (by kernel_rfl) (fun _ _ _ h => h) (by rfl) (by assumption) ?_
    try simp only [Act.put, List.setIfInBounds_toArray, List.set_cons_zero, List.set_cons_succ]
    refine takeX 18 rfl (by kernel_rfl) (by kernel_rfl) (by kernel_rfl) (fun _ _ _ h => h) (by rfl) (by assumption) ?_
    try simp only [Act.put, List.setIfInBounds_toArray, List.set_cons_zero, List.set_cons_succ]
    refine takeX 19 rfl (by kernel_rfl) (by kernel_rfl) (by kernel_rfl) (fun _ _ _ h => h) (by rfl) (by assumption) ?_
    try simp only [Act.put, List.setIfInBounds_toArray, List.set_cons_zero, List.set_cons_succ]
    refine takeW 20 (v := ?v8) rfl (by kernel_rfl) (by kernel_rfl) (by kernel_rfl) (fun _ _ _ h => h) (by rfl) (by assumption) ?hy8 ?rest8
    case hy8 => intro w' hSw; (try dsimp only at hSw); go_simp; try with_reducible rfl
    try simp only [Act.put, List.setIfInBounds_toArray, List.set_cons_zero, List.set_cons_succ]
    refine takeW 21 (v := ?v9) rfl (by kernel_rfl) (by kernel_rfl) (by kernel_rfl) (fun _ _ _ h => h) (by rfl) (by assumption) ?hy9 ?rest9
    case hy9 => intro w' hSw; (try dsimp only at hSw); go_simp; try with_reducible rfl
    try simp only [Act.put, List.setIfInBounds_toArray, List.set_cons_zero, List.set_cons_succ]
    refine wpAnyH_done (by kernel_rfl) ?_ _
    go_wp2_with fail
    go_ret
    exact ⟨ret_bool HR.out.symm, below_one hB0 (Below.refl _ _).drew⟩
  have HN := hid (show numB s.num = true from hin)
  cases hpo : polB s.pol
  · have HR := hid (snB_no2 hpo)
    go_enter Tryz.func63, Tryz.ntmps63
    go_wp2_with fail
    generalize w.alloc (.cells #[.int .i64 s.num, .slice ap s.pol.length cp, .slice ar s.rv.length cr] 40) = W0 at *
    refine wp_region_held_drew (S := fun w' => w'.cell? ⟨w.heap.size, 0, none⟩ = some (.int .i64 s.num) ∧ w'.cell? ⟨w.heap.size, 1, none⟩ = some (.slice ap s.pol.length cp) ∧ w'.cell? ⟨w.heap.size, 2, none⟩ = some (.slice ar s.rv.length cr)) (by kernel_rfl) ?_ (fun hHeld => ?_)
    · go_keep
    refine takeW 0 (v := ?v10) rfl (by kernel_rfl) (by kernel_rfl) (by kernel_rfl) (fun _ _ _ h => h) (by rfl) (by assumption) ?hy10 ?rest10
    case hy10 => intro w' hSw; (try dsimp only at hSw); go_simp; try with_reducible rfl
    try simp only [Act.put, List.setIfInBounds_toArray, List.set_cons_zero, List.set_cons_succ]
    refine takeW 1 (v := ?v11) rfl (by kernel_rfl) (by kernel_rfl) (by kernel_rfl) (fun _ _ _ h => h) (by rfl) (by assumption) ?hy11 ?rest11
    case hy11 => intro w' hSw; (try dsimp only at hSw); go_simp; try with_reducible rfl
    try simp only [Act.put, List.setIfInBounds_toArray, List.set_cons_zero, List.set_cons_succ]
    refine takeC 2 (by kernel_rfl) rfl (fun K hK => ?_)
    go_simp
    refine (l1In_any s.num 1 100000 _).mono ?_; rintro e w1 ⟨he1, rfl⟩; rw [hin] at he1; subst he1
    refine hK.out _ _ ?_ (fun hHeld => ?_)
    · go_keep
    clear hK K
    try simp only [Act.put, List.setIfInBounds_toArray, List.set_cons_zero, List.set_cons_succ]
    refine takeW 3 (v := ?v12) rfl (by kernel_rfl) (by kernel_rfl) (by kernel_rfl) (fun _ _ _ h => h) (by rfl) (by assumption) ?hy12 ?rest12
    case hy12 => intro w' hSw; (try dsimp only at hSw); go_simp; try with_reducible rfl
    try simp only [Act.put, List.setIfInBounds_toArray, List.set_cons_zero, List.set_cons_succ]
    refine takeW 4 (v := ?v13) rfl (by kernel_rfl) (by kernel_rfl) (by kernel_rfl) (fun _ _ _ h => h) (by rfl) (by assumption) ?hy13 ?rest13
    case hy13 => intro w' hSw; (try dsimp only at hSw); go_simp; try with_reducible rfl
    try simp only [Act.put, List.setIfInBounds_toArray, List.set_cons_zero, List.set_cons_succ]
    refine takeW 5 (v := ?v14) rfl (by kernel_rfl) (by kernel_rfl) (by kernel_rfl) (fun _ _ _ h => h) (by rfl) (by assumption) ?hy14 ?rest14
    case hy14 => intro w' hSw; (try dsimp only at hSw); go_simp; try with_reducible rfl
    try simp only [Act.put, List.setIfInBounds_toArray, List.set_cons_zero, List.set_cons_succ]
    refine takeC 6 (by kernel_rfl) rfl (fun K hK => ?_)
    go_simp
    refine (l2Good_any _ s.pol _ (by omega) hz (by exact h1d)).mono ?_; rintro e w2 ⟨he2, hB2⟩; rw [hpo] at he2; subst he2; have hc2 := fun o => hB2.cell (p := ⟨w.heap.size, o, none⟩) (by exact hlt0); have hlt2 : w.heap.size < w2.heap.size := Nat.lt_of_lt_of_le hlt0 hB2.size
    refine hK.out _ _ ?_ (fun hHeld => ?_)
    · go_keep
    clear hK K
    try simp only [Act.put, List.setIfInBounds_toArray, List.set_cons_zero, List.set_cons_succ]
    refine takeW 7 (v := ?v15) rfl (by kernel_rfl) (by kernel_rfl) (by kernel_rfl) (fun _ _ _ h => h) (by rfl) (by assumption) ?hy15 ?rest15
    case hy15 => intro w' hSw; (try dsimp only at hSw); go_simp; try with_reducible rfl
    try simp only [Act.put, List.setIfInBounds_toArray, List.set_cons_zero, List.set_cons_succ]
    refine takeW 8 (v := ?v16) rfl (by kernel_rfl) (by kernel_rfl) (by kernel_rfl) (fun _ _ _ h => h) (by rfl) (by assumption) ?hy16 ?rest16
    case hy16 => intro w' hSw; (try dsimp only at hSw); go_simp; try with_reducible rfl
    try simp only [Act.put, List.setIfInBounds_toArray, List.set_cons_zero, List.set_cons_succ]
    refine takeX 9 rfl (by kernel_rfl) (by kernel_rfl) (by kernel_rfl) (fun _ _ _ h => h) (by rfl) (by assumption) ?_
    try simp only [Act.put, List.setIfInBounds_toArray, List.set_cons_zero, List.set_cons_succ]
    refine takeX 10 rfl (by kernel_rfl) (by kernel_rfl) (by kernel_rfl) (fun _ _ _ h => h) (by rfl) (by assumption) ?_
    try simp only [Act.put, List.setIfInBounds_toArray, List.set_cons_zero, List.set_cons_succ]
    refine takeX 11 rfl (by kernel_rfl) (by kernel_rfl) (by kernel_rfl) (fun _ _ _ h => h) (by rfl) (by assumption) ?_
    try simp only [Act.put, List.setIfInBounds_toArray, List.set_cons_zero, List.set_cons_succ]
    refine takeX 12 rfl (by kernel_rfl) (by kernel_rfl) (by kernel_rfl) (fun _ _ _ h => h) (by rfl) (by assumption) ?_
    try simp only [Act.put, List.setIfInBounds_toArray, List.set_cons_zero, List.set_cons_succ]
    refine takeX 13 rfl (by kernel_rfl) (by kernel_rfl) (by kernel_rfl) (fun _ _ _ h => h) (by rfl) (by assumption) ?_
    try simp only [Act.put, List.setIfInBounds_toArray, List.set_cons_zero, List.set_cons_succ]
    refine takeX 14 rfl (by kernel_rfl) (by kernel_rfl) (by kernel_rfl) (fun _ _ _ h => h) (by rfl) (by assumption) ?_
    try simp only [Act.put, List.setIfInBounds_toArray, List.set_cons_zero, List.set_cons_succ]
    refine takeW 15 (v := ?v17) rfl (by kernel_rfl) (by kernel_rfl) (by kernel_rfl) (fun _ _ _ h => h) (by rfl) (by assumption) ?hy17 ?rest17
    case hy17 => intro w' hSw; (try dsimp only at hSw); go_simp; try with_reducible rfl
    try simp only [Act.put, List.setIfInBounds_toArray, List.set_cons_zero, List.set_cons_succ]
    refine takeW 16 (v := ?v18) rfl (by kernel_rfl) (by kernel_rfl) (by kernel_rfl) (fun _ _ _ h => h) (by rfl) (by assumption) ?hy18 ?rest18
    case hy18 => intro w' hSw; (try dsimp only at hSw); go_simp; try with_reducible rfl
    try simp only [Act.put, List.setIfInBounds_toArray, List.set_cons_zero, List.set_cons_succ]
    refine takeX 17 rfl (by kernel_rfl) (by kernel_rfl) (by kernel_rfl) (fun _ _ _ h => h) (by rfl) (by assumption) ?_
    try simp only [Act.put, List.setIfInBounds_toArray, List.set_cons_zero, List.set_cons_succ]
    refine takeX 18 rfl (by kernel_rfl) (by kernel_rfl) (by kernel_rfl) (fun _ _ _ h => h) (by rfl) (by assumption) ?_
    try simp only [Act.put, List.setIfInBounds_toArray, List.set_cons_zero, List.set_cons_succ]
    refine takeX 19 rfl (by kernel_rfl) (by kernel_rfl) (by kernel_rfl) (fun _ _ _ h => h) (by rfl) (by assumption) ?_
    try simp only [Act.put, List.setIfInBounds_toArray, List.set_cons_zero, List.set_cons_succ]
    refine takeW 20 (v := ?v19) rfl (by kernel_rfl) (by kernel_rfl) (by kernel_rfl) (fun _ _ _ h => h) (by rfl) (by assumption) ?hy19 ?rest19
    case hy19 => intro w' hSw; (try dsimp only at hSw); go_simp; try with_reducible rfl
    try simp only [Act.put, List.setIfInBounds_toArray, List.set_cons_zero, List.set_cons_succ]
    refine takeW 21 (v := ?v20) rfl (by kernel_rfl) (by kernel_rfl) (by kernel_rfl) (fun _ _ _ h => h) (by rfl) (by assumption) ?hy20 ?rest20
    case hy20 => intro w' hSw; (try dsimp only at hSw); go_simp; try with_reducible rfl
    try simp only [Act.put, List.setIfInBounds_toArray, List.set_cons_zero, List.set_cons_succ]
    refine wpAnyH_done (by kernel_rfl) ?_ _
    go_wp2_with fail
    go_ret
    exact ⟨ret_bool HR.out.symm, below_one hB0 (below_drew1 hB2)⟩
  have h30 := (pol_all hpo).2
  have hpl : (plTo s.pol s.pol.length).length ≤ 1048577 := by have := plTo_len (rs := s.pol) _ (Nat.le_refl _); omega
  cases hsm : sameS (plTo s.pol s.pol.length) s.pol
  · have HR := hid (snB_no3 (s := s) (by rw [plX_yes hpo]; exact hsm))
    go_enter Tryz.func63, Tryz.ntmps63
    go_wp2_with fail
    generalize w.alloc (.cells #[.int .i64 s.num, .slice ap s.pol.length cp, .slice ar s.rv.length cr] 40) = W0 at *
    refine wp_region_held_drew (S := fun w' => w'.cell? ⟨w.heap.size, 0, none⟩ = some (.int .i64 s.num) ∧ w'.cell? ⟨w.heap.size, 1, none⟩ = some (.slice ap s.pol.length cp) ∧ w'.cell? ⟨w.heap.size, 2, none⟩ = some (.slice ar s.rv.length cr)) (by kernel_rfl) ?_ (fun hHeld => ?_)
    · go_keep
    refine takeW 0 (v := ?v21) rfl (by kernel_rfl) (by kernel_rfl) (by kernel_rfl) (fun _ _ _ h => h) (by rfl) (by assumption) ?hy21 ?rest21
    case hy21 => intro w' hSw; (try dsimp only at hSw); go_simp; try with_reducible rfl
    try simp only [Act.put, List.setIfInBounds_toArray, List.set_cons_zero, List.set_cons_succ]
    refine takeW 1 (v := ?v22) rfl (by kernel_rfl) (by kernel_rfl) (by kernel_rfl) (fun _ _ _ h => h) (by rfl) (by assumption) ?hy22 ?rest22
    case hy22 => intro w' hSw; (try dsimp only at hSw); go_simp; try with_reducible rfl
    try simp only [Act.put, List.setIfInBounds_toArray, List.set_cons_zero, List.set_cons_succ]
    refine takeC 2 (by kernel_rfl) rfl (fun K hK => ?_)
    go_simp
    refine (l1In_any s.num 1 100000 _).mono ?_; rintro e w1 ⟨he1, rfl⟩; rw [hin] at he1; subst he1
    refine hK.out _ _ ?_ (fun hHeld => ?_)
    · go_keep
    clear hK K
    try simp only [Act.put, List.setIfInBounds_toArray, List.set_cons_zero, List.set_cons_succ]
    refine takeW 3 (v := ?v23) rfl (by kernel_rfl) (by kernel_rfl) (by kernel_rfl) (fun _ _ _ h => h) (by rfl) (by assumption) ?hy23 ?rest23
    case hy23 => intro w' hSw; (try dsimp only at hSw); go_simp; try with_reducible rfl
    try simp only [Act.put, List.setIfInBounds_toArray, List.set_cons_zero, List.set_cons_succ]
    refine takeW 4 (v := ?v24) rfl (by kernel_rfl) (by kernel_rfl) (by kernel_rfl) (fun _ _ _ h => h) (by rfl) (by assumption) ?hy24 ?rest24
    case hy24 => intro w' hSw; (try dsimp only at hSw); go_simp; try with_reducible rfl
    try simp only [Act.put, List.setIfInBounds_toArray, List.set_cons_zero, List.set_cons_succ]
    refine takeW 5 (v := ?v25) rfl (by kernel_rfl) (by kernel_rfl) (by kernel_rfl) (fun _ _ _ h => h) (by rfl) (by assumption) ?hy25 ?rest25
    case hy25 => intro w' hSw; (try dsimp only at hSw); go_simp; try with_reducible rfl
    try simp only [Act.put, List.setIfInBounds_toArray, List.set_cons_zero, List.set_cons_succ]
    refine takeC 6 (by kernel_rfl) rfl (fun K hK => ?_)
    go_simp
    refine (l2Good_any _ s.pol _ (by omega) hz (by exact h1d)).mono ?_; rintro e w2 ⟨he2, hB2⟩; rw [hpo] at he2; subst he2; have hc2 := fun o => hB2.cell (p := ⟨w.heap.size, o, none⟩) (by exact hlt0); have hlt2 : w.heap.size < w2.heap.size := Nat.lt_of_lt_of_le hlt0 hB2.size
    refine hK.out _ _ ?_ (fun hHeld => ?_)
    · go_keep
    clear hK K
    try simp only [Act.put, List.setIfInBounds_toArray, List.set_cons_zero, List.set_cons_succ]
    refine takeW 7 (v := ?v26) rfl (by kernel_rfl) (by kernel_rfl) (by kernel_rfl) (fun _ _ _ h => h) (by rfl) (by assumption) ?hy26 ?rest26
    case hy26 => intro w' hSw; (try dsimp only at hSw); go_simp; try with_reducible rfl
    try simp only [Act.put, List.setIfInBounds_toArray, List.set_cons_zero, List.set_cons_succ]
    refine takeW 8 (v := ?v27) rfl (by kernel_rfl) (by kernel_rfl) (by kernel_rfl) (fun _ _ _ h => h) (by rfl) (by assumption) ?hy27 ?rest27
    case hy27 => intro w' hSw; (try dsimp only at hSw); go_simp; try with_reducible rfl
    try simp only [Act.put, List.setIfInBounds_toArray, List.set_cons_zero, List.set_cons_succ]
    refine takeW 9 (v := ?v28) rfl (by kernel_rfl) (by kernel_rfl) (by kernel_rfl) (fun _ _ _ h => h) (by rfl) (by assumption) ?hy28 ?rest28
    case hy28 => intro w' hSw; (try dsimp only at hSw); go_simp; try with_reducible rfl
    try simp only [Act.put, List.setIfInBounds_toArray, List.set_cons_zero, List.set_cons_succ]
    refine takeW 10 (v := ?v29) rfl (by kernel_rfl) (by kernel_rfl) (by kernel_rfl) (fun _ _ _ h => h) (by rfl) (by assumption) ?hy29 ?rest29
    case hy29 => intro w' hSw; (try dsimp only at hSw); go_simp; try with_reducible rfl
    try simp only [Act.put, List.setIfInBounds_toArray, List.set_cons_zero, List.set_cons_succ]
    refine takeW 12 (v := ?v30) rfl (by kernel_rfl) (by kernel_rfl) (by kernel_rfl) (fun _ _ _ h => h) (by rfl) (by assumption) ?hy30 ?rest30
    case hy30 => intro w' hSw; (try dsimp only at hSw); go_simp; try with_reducible rfl
    try simp only [Act.put, List.setIfInBounds_toArray, List.set_cons_zero, List.set_cons_succ]
    refine takeW 13 (v := ?v31) rfl (by kernel_rfl) (by kernel_rfl) (by kernel_rfl) (fun _ _ _ h => h) (by rfl) (by assumption) ?hy31 ?rest31
    case hy31 => intro w' hSw; (try dsimp only at hSw); go_simp; try with_reducible rfl
    try simp only [Act.put, List.setIfInBounds_toArray, List.set_cons_zero, List.set_cons_succ]
    refine takeC 11 (by kernel_rfl) rfl (fun K hK => ?_)
    go_simp
    refine (l2Plain_any _ s.pol _ h30 hz (by exact h1d.below hB2)).mono ?_; rintro e w3 ⟨v3, rfl, o3, hB3⟩; obtain ⟨a3, k3, rfl⟩ := ownsRow_len o3; have hc3 := fun o => hB3.cell (p := ⟨w.heap.size, o, none⟩) (by exact hlt2); have hlt3 : w.heap.size < w3.heap.size := Nat.lt_of_lt_of_le hlt2 hB3.size
    refine hK.out _ _ ?_ (fun hHeld => ?_)
    · go_keep
    clear hK K
    try simp only [Act.put, List.setIfInBounds_toArray, List.set_cons_zero, List.set_cons_succ]
    refine takeC 14 (by kernel_rfl) rfl (fun K hK => ?_)
    go_simp
    refine (l5SameRules_any _ _ _ s.pol _ hpl (by omega) (RuS.own o3) (by exact (h1d.below hB2).below hB3)).mono ?_; rintro e w4 ⟨he4, hB4⟩; rw [hsm] at he4; subst he4; have hc4 := fun o => hB4.cell (p := ⟨w.heap.size, o, none⟩) (by exact hlt3); have hlt4 : w.heap.size < w4.heap.size := Nat.lt_of_lt_of_le hlt3 hB4.size
    refine hK.out _ _ ?_ (fun hHeld => ?_)
    · go_keep
    clear hK K
    try simp only [Act.put, List.setIfInBounds_toArray, List.set_cons_zero, List.set_cons_succ]
    refine takeW 15 (v := ?v32) rfl (by kernel_rfl) (by kernel_rfl) (by kernel_rfl) (fun _ _ _ h => h) (by rfl) (by assumption) ?hy32 ?rest32
    case hy32 => intro w' hSw; (try dsimp only at hSw); go_simp; try with_reducible rfl
    try simp only [Act.put, List.setIfInBounds_toArray, List.set_cons_zero, List.set_cons_succ]
    refine takeW 16 (v := ?v33) rfl (by kernel_rfl) (by kernel_rfl) (by kernel_rfl) (fun _ _ _ h => h) (by rfl) (by assumption) ?hy33 ?rest33
    case hy33 => intro w' hSw; (try dsimp only at hSw); go_simp; try with_reducible rfl
    try simp only [Act.put, List.setIfInBounds_toArray, List.set_cons_zero, List.set_cons_succ]
    refine takeX 17 rfl (by kernel_rfl) (by kernel_rfl) (by kernel_rfl) (fun _ _ _ h => h) (by rfl) (by assumption) ?_
    try simp only [Act.put, List.setIfInBounds_toArray, List.set_cons_zero, List.set_cons_succ]
    refine takeX 18 rfl (by kernel_rfl) (by kernel_rfl) (by kernel_rfl) (fun _ _ _ h => h) (by rfl) (by assumption) ?_
    try simp only [Act.put, List.setIfInBounds_toArray, List.set_cons_zero, List.set_cons_succ]
    refine takeX 19 rfl (by kernel_rfl) (by kernel_rfl) (by kernel_rfl) (fun _ _ _ h => h) (by rfl) (by assumption) ?_
    try simp only [Act.put, List.setIfInBounds_toArray, List.set_cons_zero, List.set_cons_succ]
    refine takeW 20 (v := ?v34) rfl (by kernel_rfl) (by kernel_rfl) (by kernel_rfl) (fun _ _ _ h => h) (by rfl) (by assumption) ?hy34 ?rest34
    case hy34 => intro w' hSw; (try dsimp only at hSw); go_simp; try with_reducible rfl
    try simp only [Act.put, List.setIfInBounds_toArray, List.set_cons_zero, List.set_cons_succ]
    refine takeW 21 (v := ?v35) rfl (by kernel_rfl) (by kernel_rfl) (by kernel_rfl) (fun _ _ _ h => h) (by rfl) (by assumption) ?hy35 ?rest35
    case hy35 => intro w' hSw; (try dsimp only at hSw); go_simp; try with_reducible rfl
    try simp only [Act.put, List.setIfInBounds_toArray, List.set_cons_zero, List.set_cons_succ]
    refine wpAnyH_done (by kernel_rfl) ?_ _
    go_wp2_with fail
    go_ret
    exact ⟨ret_bool HR.out.symm, below_one hB0 (below_drew1 (below_one (below_one hB2 hB3) hB4))⟩
  cases hri : riB s.rv
  · have HR := hid (show snB s = false by unfold riB at hri; rw [Bool.and_eq_false_iff] at hri; rcases hri with h | h; exact snB_no4 h; exact snB_no5 h)
    go_enter Tryz.func63, Tryz.ntmps63
    go_wp2_with fail
    generalize w.alloc (.cells #[.int .i64 s.num, .slice ap s.pol.length cp, .slice ar s.rv.length cr] 40) = W0 at *
    refine wp_region_held_drew (S := fun w' => w'.cell? ⟨w.heap.size, 0, none⟩ = some (.int .i64 s.num) ∧ w'.cell? ⟨w.heap.size, 1, none⟩ = some (.slice ap s.pol.length cp) ∧ w'.cell? ⟨w.heap.size, 2, none⟩ = some (.slice ar s.rv.length cr)) (by kernel_rfl) ?_ (fun hHeld => ?_)
    · go_keep
    refine takeW 0 (v := ?v36) rfl (by kernel_rfl) (by kernel_rfl) (by kernel_rfl) (fun _ _ _ h => h) (by rfl) (by assumption) ?hy36 ?rest36
    case hy36 => intro w' hSw; (try dsimp only at hSw); go_simp; try with_reducible rfl
    try simp only [Act.put, List.setIfInBounds_toArray, List.set_cons_zero, List.set_cons_succ]
    refine takeW 1 (v := ?v37) rfl (by kernel_rfl) (by kernel_rfl) (by kernel_rfl) (fun _ _ _ h => h) (by rfl) (by assumption) ?hy37 ?rest37
    case hy37 => intro w' hSw; (try dsimp only at hSw); go_simp; try with_reducible rfl
    try simp only [Act.put, List.setIfInBounds_toArray, List.set_cons_zero, List.set_cons_succ]
    refine takeC 2 (by kernel_rfl) rfl (fun K hK => ?_)
    go_simp
    refine (l1In_any s.num 1 100000 _).mono ?_; rintro e w1 ⟨he1, rfl⟩; rw [hin] at he1; subst he1
    refine hK.out _ _ ?_ (fun hHeld => ?_)
    · go_keep
    clear hK K
    try simp only [Act.put, List.setIfInBounds_toArray, List.set_cons_zero, List.set_cons_succ]
    refine takeW 3 (v := ?v38) rfl (by kernel_rfl) (by kernel_rfl) (by kernel_rfl) (fun _ _ _ h => h) (by rfl) (by assumption) ?hy38 ?rest38
    case hy38 => intro w' hSw; (try dsimp only at hSw); go_simp; try with_reducible rfl
    try simp only [Act.put, List.setIfInBounds_toArray, List.set_cons_zero, List.set_cons_succ]
    refine takeW 4 (v := ?v39) rfl (by kernel_rfl) (by kernel_rfl) (by kernel_rfl) (fun _ _ _ h => h) (by rfl) (by assumption) ?hy39 ?rest39
    case hy39 => intro w' hSw; (try dsimp only at hSw); go_simp; try with_reducible rfl
    try simp only [Act.put, List.setIfInBounds_toArray, List.set_cons_zero, List.set_cons_succ]
    refine takeW 5 (v := ?v40) rfl (by kernel_rfl) (by kernel_rfl) (by kernel_rfl) (fun _ _ _ h => h) (by rfl) (by assumption) ?hy40 ?rest40
    case hy40 => intro w' hSw; (try dsimp only at hSw); go_simp; try with_reducible rfl
    try simp only [Act.put, List.setIfInBounds_toArray, List.set_cons_zero, List.set_cons_succ]
    refine takeC 6 (by kernel_rfl) rfl (fun K hK => ?_)
    go_simp
    refine (l2Good_any _ s.pol _ (by omega) hz (by exact h1d)).mono ?_; rintro e w2 ⟨he2, hB2⟩; rw [hpo] at he2; subst he2; have hc2 := fun o => hB2.cell (p := ⟨w.heap.size, o, none⟩) (by exact hlt0); have hlt2 : w.heap.size < w2.heap.size := Nat.lt_of_lt_of_le hlt0 hB2.size
    refine hK.out _ _ ?_ (fun hHeld => ?_)
    · go_keep
    clear hK K
    try simp only [Act.put, List.setIfInBounds_toArray, List.set_cons_zero, List.set_cons_succ]
    refine takeW 7 (v := ?v41) rfl (by kernel_rfl) (by kernel_rfl) (by kernel_rfl) (fun _ _ _ h => h) (by rfl) (by assumption) ?hy41 ?rest41
    case hy41 => intro w' hSw; (try dsimp only at hSw); go_simp; try with_reducible rfl
    try simp only [Act.put, List.setIfInBounds_toArray, List.set_cons_zero, List.set_cons_succ]
    refine takeW 8 (v := ?v42) rfl (by kernel_rfl) (by kernel_rfl) (by kernel_rfl) (fun _ _ _ h => h) (by rfl) (by assumption) ?hy42 ?rest42
    case hy42 => intro w' hSw; (try dsimp only at hSw); go_simp; try with_reducible rfl
    try simp only [Act.put, List.setIfInBounds_toArray, List.set_cons_zero, List.set_cons_succ]
    refine takeW 9 (v := ?v43) rfl (by kernel_rfl) (by kernel_rfl) (by kernel_rfl) (fun _ _ _ h => h) (by rfl) (by assumption) ?hy43 ?rest43
    case hy43 => intro w' hSw; (try dsimp only at hSw); go_simp; try with_reducible rfl
    try simp only [Act.put, List.setIfInBounds_toArray, List.set_cons_zero, List.set_cons_succ]
    refine takeW 10 (v := ?v44) rfl (by kernel_rfl) (by kernel_rfl) (by kernel_rfl) (fun _ _ _ h => h) (by rfl) (by assumption) ?hy44 ?rest44
    case hy44 => intro w' hSw; (try dsimp only at hSw); go_simp; try with_reducible rfl
    try simp only [Act.put, List.setIfInBounds_toArray, List.set_cons_zero, List.set_cons_succ]
    refine takeW 12 (v := ?v45) rfl (by kernel_rfl) (by kernel_rfl) (by kernel_rfl) (fun _ _ _ h => h) (by rfl) (by assumption) ?hy45 ?rest45
    case hy45 => intro w' hSw; (try dsimp only at hSw); go_simp; try with_reducible rfl
    try simp only [Act.put, List.setIfInBounds_toArray, List.set_cons_zero, List.set_cons_succ]
    refine takeW 13 (v := ?v46) rfl (by kernel_rfl) (by kernel_rfl) (by kernel_rfl) (fun _ _ _ h => h) (by rfl) (by assumption) ?hy46 ?rest46
    case hy46 => intro w' hSw; (try dsimp only at hSw); go_simp; try with_reducible rfl
    try simp only [Act.put, List.setIfInBounds_toArray, List.set_cons_zero, List.set_cons_succ]
    refine takeC 11 (by kernel_rfl) rfl (fun K hK => ?_)
    go_simp
    refine (l2Plain_any _ s.pol _ h30 hz (by exact h1d.below hB2)).mono ?_; rintro e w3 ⟨v3, rfl, o3, hB3⟩; obtain ⟨a3, k3, rfl⟩ := ownsRow_len o3; have hc3 := fun o => hB3.cell (p := ⟨w.heap.size, o, none⟩) (by exact hlt2); have hlt3 : w.heap.size < w3.heap.size := Nat.lt_of_lt_of_le hlt2 hB3.size
    refine hK.out _ _ ?_ (fun hHeld => ?_)
    · go_keep
    clear hK K
    try simp only [Act.put, List.setIfInBounds_toArray, List.set_cons_zero, List.set_cons_succ]
    refine takeC 14 (by kernel_rfl) rfl (fun K hK => ?_)
    go_simp
    refine (l5SameRules_any _ _ _ s.pol _ hpl (by omega) (RuS.own o3) (by exact (h1d.below hB2).below hB3)).mono ?_; rintro e w4 ⟨he4, hB4⟩; rw [hsm] at he4; subst he4; have hc4 := fun o => hB4.cell (p := ⟨w.heap.size, o, none⟩) (by exact hlt3); have hlt4 : w.heap.size < w4.heap.size := Nat.lt_of_lt_of_le hlt3 hB4.size
    refine hK.out _ _ ?_ (fun hHeld => ?_)
    · go_keep
    clear hK K
    try simp only [Act.put, List.setIfInBounds_toArray, List.set_cons_zero, List.set_cons_succ]
    refine takeW 15 (v := ?v47) rfl (by kernel_rfl) (by kernel_rfl) (by kernel_rfl) (fun _ _ _ h => h) (by rfl) (by assumption) ?hy47 ?rest47
    case hy47 => intro w' hSw; (try dsimp only at hSw); go_simp; try with_reducible rfl
    try simp only [Act.put, List.setIfInBounds_toArray, List.set_cons_zero, List.set_cons_succ]
    refine takeW 16 (v := ?v48) rfl (by kernel_rfl) (by kernel_rfl) (by kernel_rfl) (fun _ _ _ h => h) (by rfl) (by assumption) ?hy48 ?rest48
    case hy48 => intro w' hSw; (try dsimp only at hSw); go_simp; try with_reducible rfl
    try simp only [Act.put, List.setIfInBounds_toArray, List.set_cons_zero, List.set_cons_succ]
    refine takeW 17 (v := ?v49) rfl (by kernel_rfl) (by kernel_rfl) (by kernel_rfl) (fun _ _ _ h => h) (by rfl) (by assumption) ?hy49 ?rest49
    case hy49 => intro w' hSw; (try dsimp only at hSw); go_simp; try with_reducible rfl
    try simp only [Act.put, List.setIfInBounds_toArray, List.set_cons_zero, List.set_cons_succ]
    refine takeW 18 (v := ?v50) rfl (by kernel_rfl) (by kernel_rfl) (by kernel_rfl) (fun _ _ _ h => h) (by rfl) (by assumption) ?hy50 ?rest50
    case hy50 => intro w' hSw; (try dsimp only at hSw); go_simp; try with_reducible rfl
    try simp only [Act.put, List.setIfInBounds_toArray, List.set_cons_zero, List.set_cons_succ]
    refine takeC 19 (by kernel_rfl) rfl (fun K hK => ?_)
    go_simp
    refine (l5Rising_any _ s.rv _ (by omega) (by exact ((h2d.below hB2).below hB3).below hB4)).mono ?_; rintro e w5 ⟨he5, rfl⟩; rw [hri] at he5; subst he5
    refine hK.out _ _ ?_ (fun hHeld => ?_)
    · go_keep
    clear hK K
    try simp only [Act.put, List.setIfInBounds_toArray, List.set_cons_zero, List.set_cons_succ]
    refine takeW 20 (v := ?v51) rfl (by kernel_rfl) (by kernel_rfl) (by kernel_rfl) (fun _ _ _ h => h) (by rfl) (by assumption) ?hy51 ?rest51
    case hy51 => intro w' hSw; (try dsimp only at hSw); go_simp; try with_reducible rfl
    try simp only [Act.put, List.setIfInBounds_toArray, List.set_cons_zero, List.set_cons_succ]
    refine takeW 21 (v := ?v52) rfl (by kernel_rfl) (by kernel_rfl) (by kernel_rfl) (fun _ _ _ h => h) (by rfl) (by assumption) ?hy52 ?rest52
    case hy52 => intro w' hSw; (try dsimp only at hSw); go_simp; try with_reducible rfl
    try simp only [Act.put, List.setIfInBounds_toArray, List.set_cons_zero, List.set_cons_succ]
    refine wpAnyH_done (by kernel_rfl) ?_ _
    go_wp2_with fail
    go_ret
    exact ⟨ret_bool HR.out.symm, below_one hB0 (below_drew1 (below_one (below_one hB2 hB3) hB4))⟩
  have HR := hid (show snB s = true by unfold riB at hri; rw [Bool.and_eq_true] at hri; exact snB_yes HN.out hpo (by rw [plX_yes hpo]; exact hsm) hri.1 hri.2)
  go_enter Tryz.func63, Tryz.ntmps63
  go_wp2_with fail
  generalize w.alloc (.cells #[.int .i64 s.num, .slice ap s.pol.length cp, .slice ar s.rv.length cr] 40) = W0 at *
  refine wp_region_held_drew (S := fun w' => w'.cell? ⟨w.heap.size, 0, none⟩ = some (.int .i64 s.num) ∧ w'.cell? ⟨w.heap.size, 1, none⟩ = some (.slice ap s.pol.length cp) ∧ w'.cell? ⟨w.heap.size, 2, none⟩ = some (.slice ar s.rv.length cr)) (by kernel_rfl) ?_ (fun hHeld => ?_)
  · go_keep
  refine takeW 0 (v := ?v53) rfl (by kernel_rfl) (by kernel_rfl) (by kernel_rfl) (fun _ _ _ h => h) (by rfl) (by assumption) ?hy53 ?rest53
  case hy53 => intro w' hSw; (try dsimp only at hSw); go_simp; try with_reducible rfl
  try simp only [Act.put, List.setIfInBounds_toArray, List.set_cons_zero, List.set_cons_succ]
  refine takeW 1 (v := ?v54) rfl (by kernel_rfl) (by kernel_rfl) (by kernel_rfl) (fun _ _ _ h => h) (by rfl) (by assumption) ?hy54 ?rest54
  case hy54 => intro w' hSw; (try dsimp only at hSw); go_simp; try with_reducible rfl
  try simp only [Act.put, List.setIfInBounds_toArray, List.set_cons_zero, List.set_cons_succ]
  refine takeC 2 (by kernel_rfl) rfl (fun K hK => ?_)
  go_simp
  refine (l1In_any s.num 1 100000 _).mono ?_; rintro e w1 ⟨he1, rfl⟩; rw [hin] at he1; subst he1
  refine hK.out _ _ ?_ (fun hHeld => ?_)
  · go_keep
  clear hK K
  try simp only [Act.put, List.setIfInBounds_toArray, List.set_cons_zero, List.set_cons_succ]
  refine takeW 3 (v := ?v55) rfl (by kernel_rfl) (by kernel_rfl) (by kernel_rfl) (fun _ _ _ h => h) (by rfl) (by assumption) ?hy55 ?rest55
  case hy55 => intro w' hSw; (try dsimp only at hSw); go_simp; try with_reducible rfl
  try simp only [Act.put, List.setIfInBounds_toArray, List.set_cons_zero, List.set_cons_succ]
  refine takeW 4 (v := ?v56) rfl (by kernel_rfl) (by kernel_rfl) (by kernel_rfl) (fun _ _ _ h => h) (by rfl) (by assumption) ?hy56 ?rest56
  case hy56 => intro w' hSw; (try dsimp only at hSw); go_simp; try with_reducible rfl
  try simp only [Act.put, List.setIfInBounds_toArray, List.set_cons_zero, List.set_cons_succ]
  refine takeW 5 (v := ?v57) rfl (by kernel_rfl) (by kernel_rfl) (by kernel_rfl) (fun _ _ _ h => h) (by rfl) (by assumption) ?hy57 ?rest57
  case hy57 => intro w' hSw; (try dsimp only at hSw); go_simp; try with_reducible rfl
  try simp only [Act.put, List.setIfInBounds_toArray, List.set_cons_zero, List.set_cons_succ]
  refine takeC 6 (by kernel_rfl) rfl (fun K hK => ?_)
  go_simp
  refine (l2Good_any _ s.pol _ (by omega) hz (by exact h1d)).mono ?_; rintro e w2 ⟨he2, hB2⟩; rw [hpo] at he2; subst he2; have hc2 := fun o => hB2.cell (p := ⟨w.heap.size, o, none⟩) (by exact hlt0); have hlt2 : w.heap.size < w2.heap.size := Nat.lt_of_lt_of_le hlt0 hB2.size
  refine hK.out _ _ ?_ (fun hHeld => ?_)
  · go_keep
  clear hK K
  try simp only [Act.put, List.setIfInBounds_toArray, List.set_cons_zero, List.set_cons_succ]
  refine takeW 7 (v := ?v58) rfl (by kernel_rfl) (by kernel_rfl) (by kernel_rfl) (fun _ _ _ h => h) (by rfl) (by assumption) ?hy58 ?rest58
  case hy58 => intro w' hSw; (try dsimp only at hSw); go_simp; try with_reducible rfl
  try simp only [Act.put, List.setIfInBounds_toArray, List.set_cons_zero, List.set_cons_succ]
  refine takeW 8 (v := ?v59) rfl (by kernel_rfl) (by kernel_rfl) (by kernel_rfl) (fun _ _ _ h => h) (by rfl) (by assumption) ?hy59 ?rest59
  case hy59 => intro w' hSw; (try dsimp only at hSw); go_simp; try with_reducible rfl
  try simp only [Act.put, List.setIfInBounds_toArray, List.set_cons_zero, List.set_cons_succ]
  refine takeW 9 (v := ?v60) rfl (by kernel_rfl) (by kernel_rfl) (by kernel_rfl) (fun _ _ _ h => h) (by rfl) (by assumption) ?hy60 ?rest60
  case hy60 => intro w' hSw; (try dsimp only at hSw); go_simp; try with_reducible rfl
  try simp only [Act.put, List.setIfInBounds_toArray, List.set_cons_zero, List.set_cons_succ]
  refine takeW 10 (v := ?v61) rfl (by kernel_rfl) (by kernel_rfl) (by kernel_rfl) (fun _ _ _ h => h) (by rfl) (by assumption) ?hy61 ?rest61
  case hy61 => intro w' hSw; (try dsimp only at hSw); go_simp; try with_reducible rfl
  try simp only [Act.put, List.setIfInBounds_toArray, List.set_cons_zero, List.set_cons_succ]
  refine takeW 12 (v := ?v62) rfl (by kernel_rfl) (by kernel_rfl) (by kernel_rfl) (fun _ _ _ h => h) (by rfl) (by assumption) ?hy62 ?rest62
  case hy62 => intro w' hSw; (try dsimp only at hSw); go_simp; try with_reducible rfl
  try simp only [Act.put, List.setIfInBounds_toArray, List.set_cons_zero, List.set_cons_succ]
  refine takeW 13 (v := ?v63) rfl (by kernel_rfl) (by kernel_rfl) (by kernel_rfl) (fun _ _ _ h => h) (by rfl) (by assumption) ?hy63 ?rest63
  case hy63 => intro w' hSw; (try dsimp only at hSw); go_simp; try with_reducible rfl
  try simp only [Act.put, List.setIfInBounds_toArray, List.set_cons_zero, List.set_cons_succ]
  refine takeC 11 (by kernel_rfl) rfl (fun K hK => ?_)
  go_simp
  refine (l2Plain_any _ s.pol _ h30 hz (by exact h1d.below hB2)).mono ?_; rintro e w3 ⟨v3, rfl, o3, hB3⟩; obtain ⟨a3, k3, rfl⟩ := ownsRow_len o3; have hc3 := fun o => hB3.cell (p := ⟨w.heap.size, o, none⟩) (by exact hlt2); have hlt3 : w.heap.size < w3.heap.size := Nat.lt_of_lt_of_le hlt2 hB3.size
  refine hK.out _ _ ?_ (fun hHeld => ?_)
  · go_keep
  clear hK K
  try simp only [Act.put, List.setIfInBounds_toArray, List.set_cons_zero, List.set_cons_succ]
  refine takeC 14 (by kernel_rfl) rfl (fun K hK => ?_)
  go_simp
  refine (l5SameRules_any _ _ _ s.pol _ hpl (by omega) (RuS.own o3) (by exact (h1d.below hB2).below hB3)).mono ?_; rintro e w4 ⟨he4, hB4⟩; rw [hsm] at he4; subst he4; have hc4 := fun o => hB4.cell (p := ⟨w.heap.size, o, none⟩) (by exact hlt3); have hlt4 : w.heap.size < w4.heap.size := Nat.lt_of_lt_of_le hlt3 hB4.size
  refine hK.out _ _ ?_ (fun hHeld => ?_)
  · go_keep
  clear hK K
  try simp only [Act.put, List.setIfInBounds_toArray, List.set_cons_zero, List.set_cons_succ]
  refine takeW 15 (v := ?v64) rfl (by kernel_rfl) (by kernel_rfl) (by kernel_rfl) (fun _ _ _ h => h) (by rfl) (by assumption) ?hy64 ?rest64
  case hy64 => intro w' hSw; (try dsimp only at hSw); go_simp; try with_reducible rfl
  try simp only [Act.put, List.setIfInBounds_toArray, List.set_cons_zero, List.set_cons_succ]
  refine takeW 16 (v := ?v65) rfl (by kernel_rfl) (by kernel_rfl) (by kernel_rfl) (fun _ _ _ h => h) (by rfl) (by assumption) ?hy65 ?rest65
  case hy65 => intro w' hSw; (try dsimp only at hSw); go_simp; try with_reducible rfl
  try simp only [Act.put, List.setIfInBounds_toArray, List.set_cons_zero, List.set_cons_succ]
  refine takeW 17 (v := ?v66) rfl (by kernel_rfl) (by kernel_rfl) (by kernel_rfl) (fun _ _ _ h => h) (by rfl) (by assumption) ?hy66 ?rest66
  case hy66 => intro w' hSw; (try dsimp only at hSw); go_simp; try with_reducible rfl
  try simp only [Act.put, List.setIfInBounds_toArray, List.set_cons_zero, List.set_cons_succ]
  refine takeW 18 (v := ?v67) rfl (by kernel_rfl) (by kernel_rfl) (by kernel_rfl) (fun _ _ _ h => h) (by rfl) (by assumption) ?hy67 ?rest67
  case hy67 => intro w' hSw; (try dsimp only at hSw); go_simp; try with_reducible rfl
  try simp only [Act.put, List.setIfInBounds_toArray, List.set_cons_zero, List.set_cons_succ]
  refine takeC 19 (by kernel_rfl) rfl (fun K hK => ?_)
  go_simp
  refine (l5Rising_any _ s.rv _ (by omega) (by exact ((h2d.below hB2).below hB3).below hB4)).mono ?_; rintro e w5 ⟨he5, rfl⟩; rw [hri] at he5; subst he5
  refine hK.out _ _ ?_ (fun hHeld => ?_)
  · go_keep
  clear hK K
  try simp only [Act.put, List.setIfInBounds_toArray, List.set_cons_zero, List.set_cons_succ]
  refine takeW 20 (v := ?v68) rfl (by kernel_rfl) (by kernel_rfl) (by kernel_rfl) (fun _ _ _ h => h) (by rfl) (by assumption) ?hy68 ?rest68
  case hy68 => intro w' hSw; (try dsimp only at hSw); go_simp; try with_reducible rfl
  try simp only [Act.put, List.setIfInBounds_toArray, List.set_cons_zero, List.set_cons_succ]
  refine takeW 21 (v := ?v69) rfl (by kernel_rfl) (by kernel_rfl) (by kernel_rfl) (fun _ _ _ h => h) (by rfl) (by assumption) ?hy69 ?rest69
  case hy69 => intro w' hSw; (try dsimp only at hSw); go_simp; try with_reducible rfl
  try simp only [Act.put, List.setIfInBounds_toArray, List.set_cons_zero, List.set_cons_succ]
  refine wpAnyH_done (by kernel_rfl) ?_ _
  go_wp2_with fail
  go_ret
  exact ⟨ret_bool HR.out.symm, below_one hB0 (below_drew1 (below_one (below_one hB2 hB3) hB4))⟩

end Go.Proofs.YtnbojbcljfiamaaGreatDoor

namespace Go.Proofs.YtnbojbcljfiamaaGreatDoor
open Go.RowKit Go.Shelf

set_option maxHeartbeats 1000000 in
theorem l1Has_any (v : Value) (zs : List Int) (z : Int) (w : World) (hm : zs.length ≤ 1048577) (hr : VS w v (nums zs)) :
    Calls Tryz.prog 135 #[v, .int .i64 z] w fun e w' => e = .returned (.bool (isI zs z)) ∧ w' = w := by
  obtain ⟨a, cap, rfl⟩ := hr.numLen
  go_enter Tryz.func135, Tryz.ntmps135
  go_wp2
  go_loop [9] (fun i => ∃ n : Nat, n ≤ zs.length ∧ i = .int .i64 n ∧ isTo zs z n = false) (fun i => zs.length - (intOf i).toNat)
  case atStart => exact ⟨0, Nat.zero_le _, rfl, isTo_zero _ _⟩
  case round =>
    obtain ⟨n, hn, rfl, ht⟩ := hrel
    have HT := hid ht
    clear ht
    by_cases hlt : n < zs.length
    · obtain ⟨b, off, rfl, hb, hcap, q0⟩ := hr.num hlt
      have HS := hid (isTo_succ (z := z) hlt)
      have HY := hid (fun h => isI_yes (z := z) hlt h)
      generalize zs[n] = x at *
      cases he : (x == z)
      · have HR := hid (show isTo zs z (n + 1) = false by rw [HS.out, HT.out, he]; rfl)
        go_wp2
        exact ⟨⟨n + 1, by omega, by go_num, HR.out⟩, by simp [intOf]; omega⟩
      · have HR := hid (HY.out he)
        go_wp2
        go_ret
        exact ⟨ret_bool HR.out.symm, rfl⟩
    · obtain rfl : n = zs.length := by omega
      have HR := hid (show isI zs z = false by rw [← isI_end, HT.out])
      go_wp2
      go_ret
      exact ⟨ret_bool HR.out.symm, rfl⟩

theorem contains_isI (zs : List Int) (z : Int) : zs.contains z = isI zs z := by
  rw [Bool.eq_iff_iff]
  unfold isI
  rw [List.any_eq_true, List.contains_iff_mem]
  constructor
  · intro h
    exact ⟨z, h, by simp⟩
  · rintro ⟨x, hx, he⟩
    have : x = z := by simpa using he
    rw [← this]
    exact hx

theorem contI_any (v : Value) (zs : List Int) (z : Int) (w : World) (hm : zs.length ≤ 1048577) (hr : VS w v (nums zs)) :
    Calls Tryz.prog 117 #[v, .int .i64 z] w fun e w' => e = .returned (.bool (isI zs z)) ∧ w' = w := by
  rcases hr with ⟨a, cap, rfl, h0⟩ | ⟨b, off, cap, rfl, hb, hl, hc⟩
  · have : zs = [] := by simpa [nums] using h0
    subst this
    exact Any.slices_Contains_int_empty Tryz.lays107 a cap z w
  · have h := Any.slices_Contains_int Tryz.lays107 b off zs.length cap zs z w (Nat.le_refl _) (by omega) (fun j hj => by
      have := hc j (by rw [nums_len]; exact hj)
      rw [this]
      simp [nums, hj])
    rw [List.take_length, contains_isI] at h
    rw [nums_len]
    exact h

end Go.Proofs.YtnbojbcljfiamaaGreatDoor

namespace Go.Proofs.YtnbojbcljfiamaaGreatDoor
open Go.RowKit Go.Shelf

instance : Inhabited Ru := ⟨⟨false, ByteArray.empty, ByteArray.empty, ByteArray.empty⟩⟩
theorem eqAt_ru : EqlAt Tryz.prog 122 (fun r : Ru => .agg r.cells.toArray) Ru.same := ⟨fun x y w => eql_ru x y w, GuardAt.agg _ (by kernel_rfl)⟩
theorem neAt_ru : NeqAt Tryz.prog 122 (fun r : Ru => .agg r.cells.toArray) Ru.same := ⟨fun x y w => neq_ru x y w, GuardAt.agg _ (by kernel_rfl)⟩
theorem allEq_same : ∀ rs ss : List Ru, Lib.allEq Ru.same rs ss = sameS rs ss
  | [], [] => rfl
  | [], s :: ss => by simp [Lib.allEq, sameS]
  | r :: rs, [] => by simp [Lib.allEq, sameS]
  | r :: rs, s :: ss => by
    rw [Lib.allEq, allEq_same rs ss]
    unfold sameS
    simp only [List.length_cons, List.zip_cons_cons, List.all_cons]
    by_cases h : rs.length = ss.length
    · rw [decide_eq_true h, decide_eq_true (by omega)]
      simp
    · rw [decide_eq_false h, decide_eq_false (by omega)]
      simp
theorem cells_at {w : World} {b off : Nat} {rs : List Ru} (hc : ∀ k (h : k < rs.length), RuAt w b (off + k * 4) rs[k]) : ∀ j, j < rs.length → ∀ i v, (Ru.cells rs[j]!)[i]? = some v → w.cell? ⟨b, off + j * 4 + i, none⟩ = some v := by
  intro j hj i v hv
  have e : rs[j]! = rs[j] := by simp [getElem!_def, List.getElem?_eq_getElem hj]
  rw [e] at hv
  obtain ⟨h0, h1, h2, h3⟩ := hc j hj
  have hi : i < 4 := by
    have := (List.getElem?_eq_some_iff.1 hv).1
    simpa using this
  obtain rfl | rfl | rfl | rfl : i = 0 ∨ i = 1 ∨ i = 2 ∨ i = 3 := by omega
  · simp at hv; rw [← hv]; exact h0
  · simp at hv; rw [← hv]; exact h1
  · simp at hv; rw [← hv]; exact h2
  · simp at hv; rw [← hv]; exact h3
theorem same_len {rs ss : List Ru} (h : rs.length ≠ ss.length) : sameS rs ss = false := by
  unfold sameS
  rw [decide_eq_false h]
  rfl

set_option maxHeartbeats 1000000 in
/-- No rules, held against some: by their number alone. -/
theorem equalRu_nil (a a' : Option Addr) (n c c' : Nat) (w : World) (hn : n ≤ 1048577) :
    Calls Tryz.prog 138 #[.slice a 0 c, .slice a' n c'] w fun e w' => e = .returned (.bool (decide (n = 0))) ∧ w' = w := by
  by_cases h : n = 0
  · subst h
    go_enter Tryz.func138, Tryz.ntmps138
    go_wp2
    refine wp_loop_rounds 1 ?_
    rw [rounds_succ]
    go_wp2
    go_ret
    exact ⟨rfl, rfl⟩
  · have e0 : ((0 : Int) != (n : Int)) = true := by simp; omega
    go_enter Tryz.func138, Tryz.ntmps138
    go_wp2
    go_ret
    exact ⟨by simp [h], rfl⟩

set_option maxHeartbeats 1000000 in
theorem equalRu_other (a a' : Option Addr) (n m c c' : Nat) (w : World) (_hn : n ≤ 1048577) (_hm : m ≤ 1048577) (hne : n ≠ m) :
    Calls Tryz.prog 138 #[.slice a n c, .slice a' m c'] w fun e w' => e = .returned (.bool false) ∧ w' = w := by
  have e0 : ((n : Int) != (m : Int)) = true := by simp; omega
  go_enter Tryz.func138, Tryz.ntmps138
  go_wp2
  go_ret
  exact ⟨rfl, rfl⟩

theorem equalRu_any (v v' : Value) (rs ss : List Ru) (w : World) (hm : rs.length ≤ 1048577) (hm' : ss.length ≤ 1048577) (hr : RuR w v rs) (hr' : RuR w v' ss) :
    Calls Tryz.prog 138 #[v, v'] w fun e w' => e = .returned (.bool (sameS rs ss)) ∧ Below w.heap.size w w' := by
  by_cases hl : rs.length = ss.length
  · rcases hr with ⟨rfl, rfl⟩ | ⟨b, off, cap, rfl, hb, hle, hc⟩
    · have h0 : ss = [] := List.eq_nil_of_length_eq_zero hl.symm
      subst h0
      obtain ⟨a', c', rfl⟩ := hr'.len
      refine (equalRu_nil none a' 0 0 c' w (by omega)).mono ?_
      rintro e w1 ⟨rfl, rfl⟩
      exact ⟨rfl, Below.refl _ _⟩
    · rcases hr' with ⟨rfl, rfl⟩ | ⟨b', off', cap', rfl, hb', hle', hc'⟩
      · have h0 : rs = [] := List.eq_nil_of_length_eq_zero hl
        subst h0
        refine (equalRu_nil _ none 0 cap 0 w (by omega)).mono ?_
        rintro e w1 ⟨rfl, rfl⟩
        exact ⟨rfl, Below.refl _ _⟩
      · have h := AnyQ.slices_Equal Tryz.equalRu 4 Tryz.isAgg122 Tryz.sizeOf122 Ru.cells (fun _ => rfl) Ru.same neAt_ru b off rs.length cap b' off' ss.length cap' rs ss w (Nat.le_refl _) (Nat.le_refl _) (by omega) (by omega) (cells_at hc) (cells_at hc')
        refine h.mono ?_
        rintro e w1 ⟨rfl, q, rfl⟩
        rw [List.take_length, List.take_length, allEq_same]
        exact ⟨rfl, below_drewn (Below.refl _ _) q⟩
  · obtain ⟨a, c, rfl⟩ := hr.len
    obtain ⟨a', c', rfl⟩ := hr'.len
    refine (equalRu_other a a' _ _ c c' w hm hm' hl).mono ?_
    rintro e w1 ⟨rfl, rfl⟩
    rw [same_len hl]
    exact ⟨rfl, Below.refl _ _⟩

theorem cloneRu_any (v : Value) (rs : List Ru) (w : World) (hm : rs.length ≤ 1048577) (hr : RuR w v rs) :
    Calls Tryz.prog 164 #[v] w fun e w' => ∃ v', e = .returned v' ∧ w'.ownsRow w.heap.size 122 4 v' rs.length (rs.flatMap Ru.cells) ∧ (v = .slice none 0 0 ∨ v' ≠ .slice none 0 0) ∧ Below w.heap.size w w' := by
  rcases hr with ⟨rfl, rfl⟩ | ⟨b, off, cap, rfl, hb, hle, hc⟩
  · refine (cloneRules_nil 0 0 w).mono ?_
    rintro e w1 ⟨rfl, rfl⟩
    exact ⟨_, rfl, World.ownsRow_nil _ _ _ _, .inl rfl, Below.refl _ _⟩
  · obtain ⟨i0, hi, hz0, hz1, hz2⟩ := info_parts infoRule
    refine (AnyE.slices_Clone Tryz.cloneRu i0 _ 4 56 hi hz0 hz1 hz2 rfl (by decide) Tryz.sizeOf122 b off rs.length cap (rs.flatMap Ru.cells) w (flat_len rs) (by unfold maxLen; omega) (by omega) (RuR.flat hc) cells_one).mono ?_
    rintro e w1 ⟨v', rfl, h1, h2, h3⟩
    exact ⟨v', rfl, h1, .inr h2, h3⟩

end Go.Proofs.YtnbojbcljfiamaaGreatDoor
