/-
  Proved: at every argument LogsGood answers as the specification and changes nothing, where the listed tables of the library read as the program's own text lays them.
-/
import Derived.Test.YtnbojbcljfiamaaDoorJLogsGood3
import Derived.Deep.RegionHeld3
import Derived.WalkKit
import Derived.ProofKit
import Derived.Test.YtnbojbcljfiamaaDoorJLogsGood0
import Derived.Lib.ItoaNum
import Derived.Test.YtnbojbcljfiamaaDoorJLogsGood1
import Derived.Lib.AppendIntMem
import Derived.Shelf.Strconv.Itoa3
import Derived.Defers
import Derived.Recover
import Derived.Laws.Pointers
import Derived.Test.YtnbojbcljfiamaaDoorJLogsGood2
import Derived.Test.YtnbojbcljfiamaaDoorCards
import Derived.Test.YtnbojbcljfiamaaDoorTie
import Derived.OpenShut
import Derived.ShutString
import Derived.ChangeOld
import Derived.Below
import Derived.Lib.SmallJoins
import Derived.Deep.Slices
import Derived.Deep.DeepHandedRow
import Derived.Shelf.Vars
import Derived.Lay
import Derived.MakeChecks
import Derived.Stop.LaidErr
namespace Go.Proofs.YtnbojbcljfiamaaDoor
open Go.RowKit Go.Shelf

theorem Is.short_of {s : Is} (h : s.size ≤ 1048576) : s.short := by
  unfold Is.size wzAll tzAll at h
  exact ⟨by omega, by omega, by omega⟩
theorem is_forms {w : World} {v : Value} {s : Is} (h : IsA w v s) : ∃ a b c d e f, v = .agg #[.slice a s.ws.length b, .int .i64 s.nx, .slice c s.rv.length d, .slice e s.sg.length f] := by
  obtain ⟨vw, vr, vs, rfl, h1, h2, h3⟩ := h.parts
  obtain ⟨a1, c1, rfl⟩ := h1.len
  obtain ⟨a2, c2, rfl⟩ := h2.numLen
  obtain ⟨a3, c3, rfl⟩ := h3.strLen
  exact ⟨_, _, _, _, _, _, rfl⟩
/-- A mesh. -/
structure Ms where
  now : Int
  iss : Is
  vs : List Sn
  sc : List Sc
  dl : List Dv
/-- These cells read as this one. -/
def MsC (w : World) (cs : List Value) (m : Ms) : Prop := ∃ p1a p1b p1c p1d p1e p1f p2x p2z p3x p3z p4x p4z, cs = [.int .i64 m.now, .slice p1a m.iss.ws.length p1b, .int .i64 m.iss.nx, .slice p1c m.iss.rv.length p1d, .slice p1e m.iss.sg.length p1f, .slice p2x m.vs.length p2z, .slice p3x m.sc.length p3z, .slice p4x m.dl.length p4z] ∧ IsA w (.agg #[.slice p1a m.iss.ws.length p1b, .int .i64 m.iss.nx, .slice p1c m.iss.rv.length p1d, .slice p1e m.iss.sg.length p1f]) m.iss ∧ SsA w (.slice p2x m.vs.length p2z) m.vs ∧ GsA 10 ScC w (.slice p3x m.sc.length p3z) m.sc ∧ GsA 6 DvC w (.slice p4x m.dl.length p4z) m.dl
/-- .. of one's own, in blocks from base on, below top. -/
def MsO (w : World) (base top : Nat) (cs : List Value) (m : Ms) : Prop := ∃ p1a p1b p1c p1d p1e p1f p2x p2z p3x p3z p4x p4z m1 m2 m3, cs = [.int .i64 m.now, .slice p1a m.iss.ws.length p1b, .int .i64 m.iss.nx, .slice p1c m.iss.rv.length p1d, .slice p1e m.iss.sg.length p1f, .slice p2x m.vs.length p2z, .slice p3x m.sc.length p3z, .slice p4x m.dl.length p4z] ∧ base ≤ m1 ∧ m1 ≤ m2 ∧ m2 ≤ m3 ∧ m3 ≤ top ∧ IsO w base m1 (.agg #[.slice p1a m.iss.ws.length p1b, .int .i64 m.iss.nx, .slice p1c m.iss.rv.length p1d, .slice p1e m.iss.sg.length p1f]) m.iss ∧ SsO w m1 m2 (.slice p2x m.vs.length p2z) m.vs ∧ GsO 58 10 ScO w m2 m3 (.slice p3x m.sc.length p3z) m.sc ∧ GsO 98 6 DvO w m3 top (.slice p4x m.dl.length p4z) m.dl
def Ms.fits (m : Ms) : Prop := m.iss.fits ∧ (m.vs.length ≤ maxLen ∧ ∀ k ∈ m.vs, k.fits) ∧ (m.sc.length ≤ maxLen ∧ ∀ k ∈ m.sc, k.fits) ∧ (m.dl.length ≤ maxLen ∧ ∀ k ∈ m.dl, k.fits)
def Ms.size (m : Ms) : Nat := m.iss.size + vzAll m.vs + gzAll Sc.size m.sc + gzAll Dv.size m.dl
def Ms.short (m : Ms) : Prop := m.iss.size ≤ 1048576 ∧ shortS m.vs ∧ gShort Sc.short m.sc ∧ gShort Dv.short m.dl
theorem MsC.below {w w' : World} {cs : List Value} {m : Ms} (h : MsC w cs m) (hB : Below w.heap.size w w') : MsC w' cs m := by
  obtain ⟨p1a, p1b, p1c, p1d, p1e, p1f, p2x, p2z, p3x, p3z, p4x, p4z, rfl, h0, h1, h2, h3⟩ := h
  exact ⟨_, _, _, _, _, _, _, _, _, _, _, _, rfl, h0.below hB, h1.below hB, (GsA.below h2 (fun _ _ h => h.below hB) hB), (GsA.below h3 (fun _ _ h => h.below hB) hB)⟩
theorem MsO.mid {lo hi : Nat} {w w1 : World} {base top : Nat} {cs : List Value} {m : Ms} (h : MsO w base top cs m) (M : Mid lo hi w w1) (ho : hi ≤ base ∨ top ≤ lo) : MsO w1 base top cs m := by
  obtain ⟨p1a, p1b, p1c, p1d, p1e, p1f, p2x, p2z, p3x, p3z, p4x, p4z, m1, m2, m3, rfl, g0, g1, g2, g3, h0, h1, h2, h3⟩ := h
  exact ⟨_, _, _, _, _, _, _, _, _, _, _, _, m1, m2, m3, rfl, g0, g1, g2, g3, Mid.iso M h0 (by omega), Mid.sso M h1 (by omega), GsO.mid h2 (fun _ _ _ _ h ho => h.mid M ho) M (by omega), GsO.mid h3 (fun _ _ _ _ h ho => h.mid M ho) M (by omega)⟩
theorem MsO.below {w w1 : World} {base top : Nat} {cs : List Value} {m : Ms} (h : MsO w base top cs m) (hB : Below w.heap.size w w1) : MsO w1 base top cs m := h.mid (Mid.of_below (lo := 0) (hi := 0) hB) (.inl (Nat.zero_le _))
theorem MsO.mono {w : World} {base base' top top' : Nat} {cs : List Value} {m : Ms} (h : MsO w base top cs m) (hb : base' ≤ base) (ht : top ≤ top') : MsO w base' top' cs m := by
  obtain ⟨p1a, p1b, p1c, p1d, p1e, p1f, p2x, p2z, p3x, p3z, p4x, p4z, m1, m2, m3, rfl, g0, g1, g2, g3, h0, h1, h2, h3⟩ := h
  exact ⟨_, _, _, _, _, _, _, _, _, _, _, _, m1, m2, m3, rfl, by omega, by omega, by omega, by omega, IsO.mono h0 hb (Nat.le_refl _), SsO.mono h1 (Nat.le_refl _) (Nat.le_refl _), GsO.mono h2 (Nat.le_refl _) (Nat.le_refl _), GsO.mono h3 (Nat.le_refl _) ht⟩
theorem Ms.short_of {m : Ms} (h : m.size ≤ 1048576) : m.short := by
  unfold Ms.size gzAll at h
  exact ⟨by omega, shortS_of (by omega), ⟨by omega, fun a ha => Sc.short_of (by have := gz_mem (f := Sc.size) ha; omega)⟩, by omega, fun a ha => Dv.short_of (by have := gz_mem (f := Dv.size) ha; omega)⟩
theorem MsO.a {w : World} {base top : Nat} {cs : List Value} {m : Ms} (h : MsO w base top cs m) : MsC w cs m := by
  obtain ⟨p1a, p1b, p1c, p1d, p1e, p1f, p2x, p2z, p3x, p3z, p4x, p4z, m1, m2, m3, rfl, g0, g1, g2, g3, h0, h1, h2, h3⟩ := h
  exact ⟨_, _, _, _, _, _, _, _, _, _, _, _, rfl, h0.a, h1.a, GsO.a (fun _ _ _ _ h => h.a) h2, GsO.a (fun _ _ _ _ h => h.a) h3⟩

set_option maxRecDepth 100000 in
theorem cellsMesh : Tryd.prog.cellsOf 31 = 8 := by kernel_rfl
set_option maxRecDepth 100000 in
open Go.Deep Go.ChangeShapes Go.WideShapes Go.ChangeAt Go.Joins in
/-- A mesh that comes in. -/
theorem openMs {H : Type} {enc : TypeId × Value → H} {W : World} {base : Nat} {v : Value} {y : DataW H} {p : List MemPlace} (hv : Value.okWide Tryd.prog W .any base 31 v) (h : DataW.Trod enc Tryd.prog W 0 (fun _ => true) true 31 v y p) :
    ∃ (cs : List Value) (m : Ms), v = .agg cs.toArray ∧ MsC W cs m ∧ m.fits := by
  obtain ⟨cs, rfl, hsz⟩ := okWide_struct Tryd.underlying31 hv
  rw [cellsMesh] at hsz
  obtain ⟨l⟩ := cs
  obtain ⟨fuel, hf⟩ := h
  obtain ⟨c0, c1, c2, c3, c4, c5, c6, c7, rfl⟩ : ∃ c0 c1 c2 c3 c4 c5 c6 c7, l = [c0, c1, c2, c3, c4, c5, c6, c7] := by
    match l, hsz with
    | [c0, c1, c2, c3, c4, c5, c6, c7], _ => exact ⟨c0, c1, c2, c3, c4, c5, c6, c7, rfl⟩
  obtain ⟨xs, n, _, _, _, hlen, hfs⟩ := DataW.trod_struct Tryd.underlying31 hf
  obtain ⟨y0, y1, y2, y3, y4, rfl⟩ : ∃ y0 y1 y2 y3 y4, xs = [y0, y1, y2, y3, y4] := by
    match xs, hlen with
    | [y0, y1, y2, y3, y4], _ => exact ⟨y0, y1, y2, y3, y4, rfl⟩
  have ci : Tryd.prog.cellsOf 3 = 1 := by kernel_rfl
  have cv : Tryd.prog.cellsOf 27 = 1 := by kernel_rfl
  have cc : Tryd.prog.cellsOf 28 = 1 := by kernel_rfl
  have cd : Tryd.prog.cellsOf 29 = 1 := by kernel_rfl
  have h0 : DataW.trod enc Tryd.prog W 0 (fun _ => true) true n 3 [c0] = some y0 := by have := hfs 0 _ rfl; simpa [Value.cells, ci] using this
  have h1 : DataW.trod enc Tryd.prog W 0 (fun _ => true) true n 26 [c1, c2, c3, c4] = some y1 := by have := hfs 1 _ rfl; simpa [Value.cells, ci, cellsIssuer] using this
  have h2 : DataW.trod enc Tryd.prog W 0 (fun _ => true) true n 27 [c5] = some y2 := by have := hfs 2 _ rfl; simpa [Value.cells, ci, cellsIssuer, cv] using this
  have h3 : DataW.trod enc Tryd.prog W 0 (fun _ => true) true n 28 [c6] = some y3 := by have := hfs 3 _ rfl; simpa [Value.cells, ci, cellsIssuer, cv, cc] using this
  have h4 : DataW.trod enc Tryd.prog W 0 (fun _ => true) true n 29 [c7] = some y4 := by have := hfs 4 _ rfl; simpa [Value.cells, ci, cellsIssuer, cv, cc, cd] using this
  obtain ⟨x0, f0, _, _⟩ := DataW.trod_int Tryd.underlying3 h0
  obtain ⟨zs, n', _, _, _, hlen', hgs⟩ := DataW.trod_struct Tryd.underlying26 h1
  obtain ⟨z0, z1, z2, z3, rfl⟩ : ∃ z0 z1 z2 z3, zs = [z0, z1, z2, z3] := by
    match zs, hlen' with
    | [z0, z1, z2, z3], _ => exact ⟨z0, z1, z2, z3, rfl⟩
  have ck : Tryd.prog.cellsOf 22 = 1 := by kernel_rfl
  have cn : Tryd.prog.cellsOf 23 = 1 := by kernel_rfl
  have ct : Tryd.prog.cellsOf 24 = 1 := by kernel_rfl
  have g0 : DataW.trod enc Tryd.prog W 0 (fun _ => true) true n' 22 [c1] = some z0 := by have := hgs 0 _ rfl; simpa [Value.cells, ck] using this
  have g1 : DataW.trod enc Tryd.prog W 0 (fun _ => true) true n' 3 [c2] = some z1 := by have := hgs 1 _ rfl; simpa [Value.cells, ck, ci] using this
  have g2 : DataW.trod enc Tryd.prog W 0 (fun _ => true) true n' 23 [c3] = some z2 := by have := hgs 2 _ rfl; simpa [Value.cells, ck, ci, cn] using this
  have g3 : DataW.trod enc Tryd.prog W 0 (fun _ => true) true n' 24 [c4] = some z3 := by have := hgs 3 _ rfl; simpa [Value.cells, ck, ci, cn, ct] using this
  obtain ⟨i0, j0, k0, ws, rfl, r0, rfl, l0, q0⟩ := openWkR g0
  obtain ⟨x1, e1, _, _⟩ := DataW.trod_int Tryd.underlying3 g1
  obtain ⟨i2, j2, k2, rv, rfl, r2, rfl, l2⟩ := openInR g2
  obtain ⟨i3, j3, k3, sg, rfl, r3, rfl, l3, q3⟩ := openStR g3
  have hsl : ∃ a n c, c5 = .slice a n c := by
    rcases open_slice Tryd.underlying27 h2 with ⟨hcs, _⟩ | ⟨x, n, c, m, k, D, Pl, hcs, _⟩
    · simp at hcs; exact ⟨_, _, _, hcs⟩
    · simp at hcs; exact ⟨_, _, _, hcs⟩
  obtain ⟨i4, j4, k4, rfl⟩ := hsl
  obtain ⟨ss, r4, rfl, l4, q4⟩ := openSsS (a := i4) (n := j4) (c := k4) (d := y2.1) (p := y2.2) ⟨n, h2⟩
  obtain ⟨i5, j5, k5, sc, rfl, r5, rfl, l5, q5⟩ := openGs (A := ScC) (fits := Sc.fits) Tryd.underlying28 cellsSidecar (by omega) (fun l y m hl h => openScC hl h) h3
  obtain ⟨i6, j6, k6, dl, rfl, r6, rfl, l6, q6⟩ := openGs (A := DvC) (fits := Dv.fits) Tryd.underlying29 cellsDelivery (by omega) (fun l y m hl h => openDvC hl h) h4
  simp at f0 e1
  subst f0 e1
  exact ⟨_, ⟨x0, ⟨ws, x1, rv, sg⟩, ss, sc, dl⟩, rfl, ⟨_, _, _, _, _, _, _, _, _, _, _, _, rfl, ⟨_, _, _, rfl, r0, r2, r3⟩, r4, r5, r6⟩, ⟨l0, q0, l2, l3, q3⟩, ⟨l4, q4⟩, ⟨l5, q5⟩, l6, q6⟩

set_option maxHeartbeats 4000000 in
set_option maxRecDepth 100000 in
theorem szMesh_any (cs : List Value) (m : Ms) (w : World) (hf : m.fits) (h : MsC w cs m) :
    Calls Tryd.prog 4 #[.agg cs.toArray, .int .i64 1048576] w fun e w' => e = .returned (.int .i64 (leftK 1048576 m.size)) ∧ Below w.heap.size w w' := by
  obtain ⟨p1a, p1b, p1c, p1d, p1e, p1f, p2x, p2z, p3x, p3z, p4x, p4z, rfl, h2, h3, h4, h5⟩ := h
  obtain ⟨f1, f2, f3, f4⟩ := hf
  have hB0 : Below w.heap.size w (w.alloc (.cells #[.int .i64 m.now, .slice p1a m.iss.ws.length p1b, .int .i64 m.iss.nx, .slice p1c m.iss.rv.length p1d, .slice p1e m.iss.sg.length p1f, .slice p2x m.vs.length p2z, .slice p3x m.sc.length p3z, .slice p4x m.dl.length p4z] 31)) := (Below.refl _ w).alloc (Nat.le_refl _) _
  have F1 := Eight.new w (.int .i64 m.now) (.slice p1a m.iss.ws.length p1b) (.int .i64 m.iss.nx) (.slice p1c m.iss.rv.length p1d) (.slice p1e m.iss.sg.length p1f) (.slice p2x m.vs.length p2z) (.slice p3x m.sc.length p3z) (.slice p4x m.dl.length p4z) 31
  have HI := hid (show leftK 1048576 m.size = if (m.size : Int) ≤ 1048576 then 1048576 - (m.size : Int) else (-1 : Int) from rfl)
  have HZ := hid (show m.size = m.iss.size + vzAll m.vs + gzAll Sc.size m.sc + gzAll Dv.size m.dl from rfl)
  obtain ⟨N1, HN1⟩ : ∃ N : Nat, Hid (N = m.iss.size) := ⟨_, hid rfl⟩
  obtain ⟨N2, HN2⟩ : ∃ N : Nat, Hid (N = vzAll m.vs) := ⟨_, hid rfl⟩
  obtain ⟨N3, HN3⟩ : ∃ N : Nat, Hid (N = gzAll Sc.size m.sc) := ⟨_, hid rfl⟩
  obtain ⟨N4, HN4⟩ : ∃ N : Nat, Hid (N = gzAll Dv.size m.dl) := ⟨_, hid rfl⟩
  go_enter Tryd.func4, Tryd.ntmps4
  go_wp2_with fail
  generalize w.alloc (.cells #[.int .i64 m.now, .slice p1a m.iss.ws.length p1b, .int .i64 m.iss.nx, .slice p1c m.iss.rv.length p1d, .slice p1e m.iss.sg.length p1f, .slice p2x m.vs.length p2z, .slice p3x m.sc.length p3z, .slice p4x m.dl.length p4z] 31) = W0 at *
  refine (szIssuer_any _ m.iss _ f1 (h2.below hB0)).mono ?_
  rintro e w2 ⟨rfl, hB2⟩
  replace F1 := F1.below hB2
  replace hB0 := below_one hB0 hB2
  clear hB2
  obtain ⟨a0, a1, a2, a3, a4, a5, a6, a7⟩ := F1.c
  by_cases c1 : (N1 : Int) ≤ 1048576
  · rw [show leftI 1048576 m.iss = 1048576 - (N1 : Int) from (show leftK (1048576) _ = _ by unfold leftK; rw [← HN1.out]; exact if_pos c1)]
    have d1 : decide (1048576 - (N1 : Int) < 0) = false := by simp; omega
    go_wp2_with fail
    refine (szSnapshotS_any _ m.vs (1048576 - (N1 : Int)) _ (by omega) (by omega) f2.1 f2.2 (h3.below hB0)).mono ?_
    rintro e w3 ⟨rfl, hB3⟩
    replace F1 := F1.below hB3
    replace hB0 := below_one hB0 hB3
    clear hB3
    clear a0 a1 a2 a3 a4 a5 a6 a7
    obtain ⟨a0, a1, a2, a3, a4, a5, a6, a7⟩ := F1.c
    by_cases c2 : (N2 : Int) ≤ 1048576 - (N1 : Int)
    · rw [show leftVS (1048576 - (N1 : Int)) m.vs = 1048576 - (N1 : Int) - (N2 : Int) from (show leftK (1048576 - (N1 : Int)) _ = _ by unfold leftK; rw [← HN2.out]; exact if_pos c2)]
      have d2 : decide (1048576 - (N1 : Int) - (N2 : Int) < 0) = false := by simp; omega
      go_wp2_with fail
      refine (szSidecarS_any _ m.sc (1048576 - (N1 : Int) - (N2 : Int)) _ (by omega) (by omega) f3.1 f3.2 (GsA.below h4 (fun _ _ h => h.below hB0) hB0)).mono ?_
      rintro e w4 ⟨rfl, hB4⟩
      replace F1 := F1.below hB4
      replace hB0 := below_one hB0 hB4
      clear hB4
      clear a0 a1 a2 a3 a4 a5 a6 a7
      obtain ⟨a0, a1, a2, a3, a4, a5, a6, a7⟩ := F1.c
      by_cases c3 : (N3 : Int) ≤ 1048576 - (N1 : Int) - (N2 : Int)
      · rw [show leftK (1048576 - (N1 : Int) - (N2 : Int)) (gzAll Sc.size m.sc) = 1048576 - (N1 : Int) - (N2 : Int) - (N3 : Int) from (show leftK (1048576 - (N1 : Int) - (N2 : Int)) _ = _ by unfold leftK; rw [← HN3.out]; exact if_pos c3)]
        have d3 : decide (1048576 - (N1 : Int) - (N2 : Int) - (N3 : Int) < 0) = false := by simp; omega
        go_wp2_with fail
        refine (szDeliveryS_any _ m.dl (1048576 - (N1 : Int) - (N2 : Int) - (N3 : Int)) _ (by omega) (by omega) f4.1 f4.2 (GsA.below h5 (fun _ _ h => h.below hB0) hB0)).mono ?_
        rintro e w5 ⟨rfl, hB5⟩
        replace F1 := F1.below hB5
        replace hB0 := below_one hB0 hB5
        clear hB5
        clear a0 a1 a2 a3 a4 a5 a6 a7
        obtain ⟨a0, a1, a2, a3, a4, a5, a6, a7⟩ := F1.c
        by_cases c4 : (N4 : Int) ≤ 1048576 - (N1 : Int) - (N2 : Int) - (N3 : Int)
        · rw [show leftK (1048576 - (N1 : Int) - (N2 : Int) - (N3 : Int)) (gzAll Dv.size m.dl) = 1048576 - (N1 : Int) - (N2 : Int) - (N3 : Int) - (N4 : Int) from (show leftK (1048576 - (N1 : Int) - (N2 : Int) - (N3 : Int)) _ = _ by unfold leftK; rw [← HN4.out]; exact if_pos c4)]
          have d4 : decide (1048576 - (N1 : Int) - (N2 : Int) - (N3 : Int) - (N4 : Int) < 0) = false := by simp; omega
          have HR := hid (show leftK 1048576 m.size = 1048576 - (N1 : Int) - (N2 : Int) - (N3 : Int) - (N4 : Int) by rw [HI.out, if_pos (by rw [HZ.out, ← HN1.out, ← HN2.out, ← HN3.out, ← HN4.out]; push_cast; omega)]; rw [HZ.out, ← HN1.out, ← HN2.out, ← HN3.out, ← HN4.out]; push_cast; omega)
          go_wp2_with fail
          go_ret
          exact ⟨ret_int HR.out.symm, hB0⟩
        · rw [show leftK (1048576 - (N1 : Int) - (N2 : Int) - (N3 : Int)) (gzAll Dv.size m.dl) = -1 from (show leftK (1048576 - (N1 : Int) - (N2 : Int) - (N3 : Int)) _ = _ by unfold leftK; rw [← HN4.out]; exact if_neg c4)]
          have HR := hid (show leftK 1048576 m.size = -1 by rw [HI.out, if_neg (by rw [HZ.out, ← HN1.out, ← HN2.out, ← HN3.out, ← HN4.out]; push_cast; omega)])
          go_wp2_with fail
          go_ret
          exact ⟨ret_int HR.out.symm, hB0⟩
      · rw [show leftK (1048576 - (N1 : Int) - (N2 : Int)) (gzAll Sc.size m.sc) = -1 from (show leftK (1048576 - (N1 : Int) - (N2 : Int)) _ = _ by unfold leftK; rw [← HN3.out]; exact if_neg c3)]
        have HR := hid (show leftK 1048576 m.size = -1 by rw [HI.out, if_neg (by rw [HZ.out, ← HN1.out, ← HN2.out, ← HN3.out, ← HN4.out]; push_cast; omega)])
        go_wp2_with fail
        go_ret
        exact ⟨ret_int HR.out.symm, hB0⟩
    · rw [show leftVS (1048576 - (N1 : Int)) m.vs = -1 from (show leftK (1048576 - (N1 : Int)) _ = _ by unfold leftK; rw [← HN2.out]; exact if_neg c2)]
      have HR := hid (show leftK 1048576 m.size = -1 by rw [HI.out, if_neg (by rw [HZ.out, ← HN1.out, ← HN2.out, ← HN3.out, ← HN4.out]; push_cast; omega)])
      go_wp2_with fail
      go_ret
      exact ⟨ret_int HR.out.symm, hB0⟩
  · rw [show leftI 1048576 m.iss = -1 from (show leftK (1048576) _ = _ by unfold leftK; rw [← HN1.out]; exact if_neg c1)]
    have HR := hid (show leftK 1048576 m.size = -1 by rw [HI.out, if_neg (by rw [HZ.out, ← HN1.out, ← HN2.out, ← HN3.out, ← HN4.out]; push_cast; omega)])
    go_wp2_with fail
    go_ret
    exact ⟨ret_int HR.out.symm, hB0⟩

set_option maxHeartbeats 4000000 in
set_option maxRecDepth 100000 in
theorem eqMesh_same (cs cs' : List Value) (m : Ms) (w : World) (hs : m.short) (h : MsC w cs m) (h' : MsC w cs' m) :
    Calls Tryd.prog 8 #[.agg cs.toArray, .agg cs'.toArray] w fun e w' => e = .returned (.bool true) ∧ Below w.heap.size w w' := by
  obtain ⟨p1a, p1b, p1c, p1d, p1e, p1f, p2x, p2z, p3x, p3z, p4x, p4z, rfl, h1, h2, h3, h4⟩ := h
  obtain ⟨q1a, q1b, q1c, q1d, q1e, q1f, q2x, q2z, q3x, q3z, q4x, q4z, rfl, h1', h2', h3', h4'⟩ := h'
  obtain ⟨s1, s2, s3, s4⟩ := hs
  have hB0 : Below w.heap.size w ((w.alloc (.cells #[.int .i64 m.now, .slice p1a m.iss.ws.length p1b, .int .i64 m.iss.nx, .slice p1c m.iss.rv.length p1d, .slice p1e m.iss.sg.length p1f, .slice p2x m.vs.length p2z, .slice p3x m.sc.length p3z, .slice p4x m.dl.length p4z] 41)).alloc (.cells #[.int .i64 m.now, .slice q1a m.iss.ws.length q1b, .int .i64 m.iss.nx, .slice q1c m.iss.rv.length q1d, .slice q1e m.iss.sg.length q1f, .slice q2x m.vs.length q2z, .slice q3x m.sc.length q3z, .slice q4x m.dl.length q4z] 41)) := ((Below.refl _ w).alloc (Nat.le_refl _) _).alloc (by simp) _
  have F1 := (Eight.new w (.int .i64 m.now) (.slice p1a m.iss.ws.length p1b) (.int .i64 m.iss.nx) (.slice p1c m.iss.rv.length p1d) (.slice p1e m.iss.sg.length p1f) (.slice p2x m.vs.length p2z) (.slice p3x m.sc.length p3z) (.slice p4x m.dl.length p4z) 41).below ((Below.refl _ _).alloc (Nat.le_refl _) (.cells #[.int .i64 m.now, .slice q1a m.iss.ws.length q1b, .int .i64 m.iss.nx, .slice q1c m.iss.rv.length q1d, .slice q1e m.iss.sg.length q1f, .slice q2x m.vs.length q2z, .slice q3x m.sc.length q3z, .slice q4x m.dl.length q4z] 41))
  have F2 := Eight.at (w.alloc (.cells #[.int .i64 m.now, .slice p1a m.iss.ws.length p1b, .int .i64 m.iss.nx, .slice p1c m.iss.rv.length p1d, .slice p1e m.iss.sg.length p1f, .slice p2x m.vs.length p2z, .slice p3x m.sc.length p3z, .slice p4x m.dl.length p4z] 41)) (.int .i64 m.now) (.slice q1a m.iss.ws.length q1b) (.int .i64 m.iss.nx) (.slice q1c m.iss.rv.length q1d) (.slice q1e m.iss.sg.length q1f) (.slice q2x m.vs.length q2z) (.slice q3x m.sc.length q3z) (.slice q4x m.dl.length q4z) 41 (k := w.heap.size + 1) (by simp)
  have e0 : (m.now != m.now) = false := by simp
  go_enter Tryd.func8, Tryd.ntmps8
  go_wp2_with fail
  generalize (w.alloc (.cells #[.int .i64 m.now, .slice p1a m.iss.ws.length p1b, .int .i64 m.iss.nx, .slice p1c m.iss.rv.length p1d, .slice p1e m.iss.sg.length p1f, .slice p2x m.vs.length p2z, .slice p3x m.sc.length p3z, .slice p4x m.dl.length p4z] 41)).alloc (.cells #[.int .i64 m.now, .slice q1a m.iss.ws.length q1b, .int .i64 m.iss.nx, .slice q1c m.iss.rv.length q1d, .slice q1e m.iss.sg.length q1f, .slice q2x m.vs.length q2z, .slice q3x m.sc.length q3z, .slice q4x m.dl.length q4z] 41) = W0 at *
  refine (eqIssuer_same _ _ m.iss _ (Is.short_of s1) (h1.below hB0) (h1'.below hB0)).mono ?_
  rintro e w2 ⟨rfl, hB2⟩
  replace F1 := F1.below hB2
  replace F2 := F2.below hB2
  replace hB0 := below_one hB0 hB2
  clear hB2
  obtain ⟨a0, a1, a2, a3, a4, a5, a6, a7⟩ := F1.c
  obtain ⟨c0, c1, c2, c3, c4, c5, c6, c7⟩ := F2.c
  go_wp2_with fail
  refine (eqSnapshotS_same _ _ m.vs _ s2 (h2.below hB0) (h2'.below hB0)).mono ?_
  rintro e w3 ⟨rfl, hB3⟩
  clear a0 a1 a2 a3 a4 a5 a6 a7 c0 c1 c2 c3 c4 c5 c6 c7
  replace F1 := F1.below hB3
  replace F2 := F2.below hB3
  replace hB0 := below_one hB0 hB3
  clear hB3
  obtain ⟨a0, a1, a2, a3, a4, a5, a6, a7⟩ := F1.c
  obtain ⟨c0, c1, c2, c3, c4, c5, c6, c7⟩ := F2.c
  go_wp2_with fail
  refine (eqSidecarS_same _ _ m.sc _ s3 (GsA.below h3 (fun _ _ h => h.below hB0) hB0) (GsA.below h3' (fun _ _ h => h.below hB0) hB0)).mono ?_
  rintro e w4 ⟨rfl, hB4⟩
  clear a0 a1 a2 a3 a4 a5 a6 a7 c0 c1 c2 c3 c4 c5 c6 c7
  replace F1 := F1.below hB4
  replace F2 := F2.below hB4
  replace hB0 := below_one hB0 hB4
  clear hB4
  obtain ⟨a0, a1, a2, a3, a4, a5, a6, a7⟩ := F1.c
  obtain ⟨c0, c1, c2, c3, c4, c5, c6, c7⟩ := F2.c
  go_wp2_with fail
  refine (eqDeliveryS_same _ _ m.dl _ s4 (GsA.below h4 (fun _ _ h => h.below hB0) hB0) (GsA.below h4' (fun _ _ h => h.below hB0) hB0)).mono ?_
  rintro e w5 ⟨rfl, hB5⟩
  clear a0 a1 a2 a3 a4 a5 a6 a7 c0 c1 c2 c3 c4 c5 c6 c7
  replace F1 := F1.below hB5
  replace F2 := F2.below hB5
  replace hB0 := below_one hB0 hB5
  clear hB5
  obtain ⟨a0, a1, a2, a3, a4, a5, a6, a7⟩ := F1.c
  obtain ⟨c0, c1, c2, c3, c4, c5, c6, c7⟩ := F2.c
  go_wp2_with fail
  go_ret
  exact ⟨rfl, hB0⟩

set_option maxHeartbeats 16000000 in
set_option maxRecDepth 100000 in
theorem toMesh_any (cs : List Value) (m : Ms) (w : World) (hs : m.short) (h : MsC w cs m) :
    Calls Tryd.prog 6 #[.agg cs.toArray] w fun e w' => ∃ cs', e = .returned (.agg cs'.toArray) ∧ MsO w' w.heap.size w'.heap.size cs' m ∧ Below w.heap.size w w' := by
  obtain ⟨p1a, p1b, p1c, p1d, p1e, p1f, p2x, p2z, p3x, p3z, p4x, p4z, rfl, h1, h2, h3, h4⟩ := h
  obtain ⟨s1, s2, s3, s4⟩ := hs
  have hB0 : Below w.heap.size w (((w.alloc (.cells #[.int .i64 m.now, .slice p1a m.iss.ws.length p1b, .int .i64 m.iss.nx, .slice p1c m.iss.rv.length p1d, .slice p1e m.iss.sg.length p1f, .slice p2x m.vs.length p2z, .slice p3x m.sc.length p3z, .slice p4x m.dl.length p4z] 31)).alloc (.cells #[.int .i64 0, .slice none 0 0, .int .i64 0, .slice none 0 0, .slice none 0 0, .slice none 0 0, .slice none 0 0, .slice none 0 0] 41)).alloc (.cells #[.int .i64 m.now, .slice none 0 0, .int .i64 0, .slice none 0 0, .slice none 0 0, .slice none 0 0, .slice none 0 0, .slice none 0 0] 41)) := (((Below.refl _ w).alloc (Nat.le_refl _) _).alloc (by simp) _).alloc (by simp; omega) _
  have F1 := ((Eight.new w (.int .i64 m.now) (.slice p1a m.iss.ws.length p1b) (.int .i64 m.iss.nx) (.slice p1c m.iss.rv.length p1d) (.slice p1e m.iss.sg.length p1f) (.slice p2x m.vs.length p2z) (.slice p3x m.sc.length p3z) (.slice p4x m.dl.length p4z) 31).below ((Below.refl _ _).alloc (Nat.le_refl _) (.cells #[.int .i64 0, .slice none 0 0, .int .i64 0, .slice none 0 0, .slice none 0 0, .slice none 0 0, .slice none 0 0, .slice none 0 0] 41))).below ((Below.refl _ _).alloc (Nat.le_refl _) (.cells #[.int .i64 m.now, .slice none 0 0, .int .i64 0, .slice none 0 0, .slice none 0 0, .slice none 0 0, .slice none 0 0, .slice none 0 0] 41))
  have F2 := (Eight.at (w.alloc (.cells #[.int .i64 m.now, .slice p1a m.iss.ws.length p1b, .int .i64 m.iss.nx, .slice p1c m.iss.rv.length p1d, .slice p1e m.iss.sg.length p1f, .slice p2x m.vs.length p2z, .slice p3x m.sc.length p3z, .slice p4x m.dl.length p4z] 31)) (.int .i64 0) (.slice none 0 0) (.int .i64 0) (.slice none 0 0) (.slice none 0 0) (.slice none 0 0) (.slice none 0 0) (.slice none 0 0) 41 (k := w.heap.size + 1) (by simp)).below ((Below.refl _ _).alloc (Nat.le_refl _) (.cells #[.int .i64 m.now, .slice none 0 0, .int .i64 0, .slice none 0 0, .slice none 0 0, .slice none 0 0, .slice none 0 0, .slice none 0 0] 41))
  have F3 := Eight.at ((w.alloc (.cells #[.int .i64 m.now, .slice p1a m.iss.ws.length p1b, .int .i64 m.iss.nx, .slice p1c m.iss.rv.length p1d, .slice p1e m.iss.sg.length p1f, .slice p2x m.vs.length p2z, .slice p3x m.sc.length p3z, .slice p4x m.dl.length p4z] 31)).alloc (.cells #[.int .i64 0, .slice none 0 0, .int .i64 0, .slice none 0 0, .slice none 0 0, .slice none 0 0, .slice none 0 0, .slice none 0 0] 41)) (.int .i64 m.now) (.slice none 0 0) (.int .i64 0) (.slice none 0 0) (.slice none 0 0) (.slice none 0 0) (.slice none 0 0) (.slice none 0 0) 41 (k := w.heap.size + 1 + 1) (by simp)
  have hK : w.heap.size + 1 + 1 < (((w.alloc (.cells #[.int .i64 m.now, .slice p1a m.iss.ws.length p1b, .int .i64 m.iss.nx, .slice p1c m.iss.rv.length p1d, .slice p1e m.iss.sg.length p1f, .slice p2x m.vs.length p2z, .slice p3x m.sc.length p3z, .slice p4x m.dl.length p4z] 31)).alloc (.cells #[.int .i64 0, .slice none 0 0, .int .i64 0, .slice none 0 0, .slice none 0 0, .slice none 0 0, .slice none 0 0, .slice none 0 0] 41)).alloc (.cells #[.int .i64 m.now, .slice none 0 0, .int .i64 0, .slice none 0 0, .slice none 0 0, .slice none 0 0, .slice none 0 0, .slice none 0 0] 41)).heap.size := F3.lt
  go_enter Tryd.func6, Tryd.ntmps6
  go_wp2_with fail
  generalize ((w.alloc (.cells #[.int .i64 m.now, .slice p1a m.iss.ws.length p1b, .int .i64 m.iss.nx, .slice p1c m.iss.rv.length p1d, .slice p1e m.iss.sg.length p1f, .slice p2x m.vs.length p2z, .slice p3x m.sc.length p3z, .slice p4x m.dl.length p4z] 31)).alloc (.cells #[.int .i64 0, .slice none 0 0, .int .i64 0, .slice none 0 0, .slice none 0 0, .slice none 0 0, .slice none 0 0, .slice none 0 0] 41)).alloc (.cells #[.int .i64 m.now, .slice none 0 0, .int .i64 0, .slice none 0 0, .slice none 0 0, .slice none 0 0, .slice none 0 0, .slice none 0 0] 41) = W0 at *
  refine (toIssuer_any _ m.iss _ s1 (h1.below hB0)).mono ?_
  rintro e w1 ⟨v1, rfl, o1, hB1⟩
  obtain ⟨r1a, r1b, r1c, r1d, r1e, r1f, rfl⟩ := is_forms o1.a
  replace F1 := F1.below hB1
  replace F2 := F2.below hB1
  replace F3 := F3.below hB1
  replace hB0 := below_one hB0 hB1
  have hs1 := hB1.size
  clear hB1
  obtain ⟨a0, a1, a2, a3, a4, a5, a6, a7⟩ := F1.c
  obtain ⟨c0, c1, c2, c3, c4, c5, c6, c7⟩ := F3.c
  have f1 := F3.f 1
  have f2 := F3.f 2
  have f3 := F3.f 3
  have f4 := F3.f 4
  go_wp2_with fail
  clear a0 a1 a2 a3 a4 a5 a6 a7 c0 c1 c2 c3 c4 c5 c6 c7 f1 f2 f3 f4
  have M1 : Mid (w.heap.size + 1 + 1) (w.heap.size + 1 + 1 + 1) w1 ((((w1.setCell ⟨w.heap.size + 1 + 1, 1, none⟩ (.slice r1a m.iss.ws.length r1b)).setCell ⟨w.heap.size + 1 + 1, 2, none⟩ (.int .i64 m.iss.nx)).setCell ⟨w.heap.size + 1 + 1, 3, none⟩ (.slice r1c m.iss.rv.length r1d)).setCell ⟨w.heap.size + 1 + 1, 4, none⟩ (.slice r1e m.iss.sg.length r1f)) := (((((Mid.of_below (Below.refl _ _)).set (p := ⟨w.heap.size + 1 + 1, 1, none⟩) (by simp) (by simp) (.slice r1a m.iss.ws.length r1b)).set (p := ⟨w.heap.size + 1 + 1, 2, none⟩) (by simp) (by simp) (.int .i64 m.iss.nx)).set (p := ⟨w.heap.size + 1 + 1, 3, none⟩) (by simp) (by simp) (.slice r1c m.iss.rv.length r1d)).set (p := ⟨w.heap.size + 1 + 1, 4, none⟩) (by simp) (by simp) (.slice r1e m.iss.sg.length r1f))
  replace F1 := M1.eight F1 (.inl (by omega))
  replace F2 := M1.eight F2 (.inl (by omega))
  replace F3 := ((((F3.s1 (.slice r1a m.iss.ws.length r1b)).s2 (.int .i64 m.iss.nx)).s3 (.slice r1c m.iss.rv.length r1d)).s4 (.slice r1e m.iss.sg.length r1f))
  replace hB0 := ((((hB0.setCell (p := ⟨w.heap.size + 1 + 1, 1, none⟩) (by simp; omega) (.slice r1a m.iss.ws.length r1b)).setCell (p := ⟨w.heap.size + 1 + 1, 2, none⟩) (by simp; omega) (.int .i64 m.iss.nx)).setCell (p := ⟨w.heap.size + 1 + 1, 3, none⟩) (by simp; omega) (.slice r1c m.iss.rv.length r1d)).setCell (p := ⟨w.heap.size + 1 + 1, 4, none⟩) (by simp; omega) (.slice r1e m.iss.sg.length r1f))
  replace o1 := Mid.iso M1 o1 (.inl (by omega))
  have hq1 : w1.heap.size ≤ ((((w1.setCell ⟨w.heap.size + 1 + 1, 1, none⟩ (.slice r1a m.iss.ws.length r1b)).setCell ⟨w.heap.size + 1 + 1, 2, none⟩ (.int .i64 m.iss.nx)).setCell ⟨w.heap.size + 1 + 1, 3, none⟩ (.slice r1c m.iss.rv.length r1d)).setCell ⟨w.heap.size + 1 + 1, 4, none⟩ (.slice r1e m.iss.sg.length r1f)).heap.size := by simp
  have hp1 : ((((w1.setCell ⟨w.heap.size + 1 + 1, 1, none⟩ (.slice r1a m.iss.ws.length r1b)).setCell ⟨w.heap.size + 1 + 1, 2, none⟩ (.int .i64 m.iss.nx)).setCell ⟨w.heap.size + 1 + 1, 3, none⟩ (.slice r1c m.iss.rv.length r1d)).setCell ⟨w.heap.size + 1 + 1, 4, none⟩ (.slice r1e m.iss.sg.length r1f)).heap.size ≤ w1.heap.size := by simp
  clear M1
  generalize (((w1.setCell ⟨w.heap.size + 1 + 1, 1, none⟩ (.slice r1a m.iss.ws.length r1b)).setCell ⟨w.heap.size + 1 + 1, 2, none⟩ (.int .i64 m.iss.nx)).setCell ⟨w.heap.size + 1 + 1, 3, none⟩ (.slice r1c m.iss.rv.length r1d)).setCell ⟨w.heap.size + 1 + 1, 4, none⟩ (.slice r1e m.iss.sg.length r1f) = W1 at *
  refine (toSnapshotS_any _ m.vs _ s2 (h2.below hB0)).mono ?_
  rintro e w2 ⟨v2, rfl, o2, hB2⟩
  obtain ⟨r2x, r2z, rfl⟩ := o2.a.len
  replace F1 := F1.below hB2
  replace F2 := F2.below hB2
  replace F3 := F3.below hB2
  replace o1 := IsO.below o1 hB2
  replace hB0 := below_one hB0 hB2
  have hs2 := hB2.size
  clear hB2
  obtain ⟨a0, a1, a2, a3, a4, a5, a6, a7⟩ := F1.c
  obtain ⟨c0, c1, c2, c3, c4, c5, c6, c7⟩ := F3.c
  have f5 := F3.f 5
  go_wp2_with fail
  clear a0 a1 a2 a3 a4 a5 a6 a7 c0 c1 c2 c3 c4 c5 c6 c7 f5
  have M2 : Mid (w.heap.size + 1 + 1) (w.heap.size + 1 + 1 + 1) w2 (w2.setCell ⟨w.heap.size + 1 + 1, 5, none⟩ (.slice r2x m.vs.length r2z)) := ((Mid.of_below (Below.refl _ _)).set (p := ⟨w.heap.size + 1 + 1, 5, none⟩) (by simp) (by simp) (.slice r2x m.vs.length r2z))
  replace F1 := M2.eight F1 (.inl (by omega))
  replace F2 := M2.eight F2 (.inl (by omega))
  replace F3 := (F3.s5 (.slice r2x m.vs.length r2z))
  replace hB0 := (hB0.setCell (p := ⟨w.heap.size + 1 + 1, 5, none⟩) (by simp; omega) (.slice r2x m.vs.length r2z))
  replace o1 := Mid.iso M2 o1 (.inl (by omega))
  replace o2 := Mid.sso M2 o2 (.inl (by omega))
  have hq2 : w2.heap.size ≤ (w2.setCell ⟨w.heap.size + 1 + 1, 5, none⟩ (.slice r2x m.vs.length r2z)).heap.size := by simp
  have hp2 : (w2.setCell ⟨w.heap.size + 1 + 1, 5, none⟩ (.slice r2x m.vs.length r2z)).heap.size ≤ w2.heap.size := by simp
  clear M2
  generalize w2.setCell ⟨w.heap.size + 1 + 1, 5, none⟩ (.slice r2x m.vs.length r2z) = W2 at *
  refine (toSidecarS_any _ m.sc _ s3 (GsA.below h3 (fun _ _ h => h.below hB0) hB0)).mono ?_
  rintro e w3 ⟨v3, rfl, o3, hB3⟩
  obtain ⟨r3x, r3z, rfl⟩ := GsO.len o3
  replace F1 := F1.below hB3
  replace F2 := F2.below hB3
  replace F3 := F3.below hB3
  replace o1 := IsO.below o1 hB3
  replace o2 := SsO.below o2 hB3
  replace hB0 := below_one hB0 hB3
  have hs3 := hB3.size
  clear hB3
  obtain ⟨a0, a1, a2, a3, a4, a5, a6, a7⟩ := F1.c
  obtain ⟨c0, c1, c2, c3, c4, c5, c6, c7⟩ := F3.c
  have f6 := F3.f 6
  go_wp2_with fail
  clear a0 a1 a2 a3 a4 a5 a6 a7 c0 c1 c2 c3 c4 c5 c6 c7 f6
  have M3 : Mid (w.heap.size + 1 + 1) (w.heap.size + 1 + 1 + 1) w3 (w3.setCell ⟨w.heap.size + 1 + 1, 6, none⟩ (.slice r3x m.sc.length r3z)) := ((Mid.of_below (Below.refl _ _)).set (p := ⟨w.heap.size + 1 + 1, 6, none⟩) (by simp) (by simp) (.slice r3x m.sc.length r3z))
  replace F1 := M3.eight F1 (.inl (by omega))
  replace F2 := M3.eight F2 (.inl (by omega))
  replace F3 := (F3.s6 (.slice r3x m.sc.length r3z))
  replace hB0 := (hB0.setCell (p := ⟨w.heap.size + 1 + 1, 6, none⟩) (by simp; omega) (.slice r3x m.sc.length r3z))
  replace o1 := Mid.iso M3 o1 (.inl (by omega))
  replace o2 := Mid.sso M3 o2 (.inl (by omega))
  replace o3 := GsO.mid o3 (fun _ _ _ _ h ho => h.mid M3 ho) M3 (.inl (by omega))
  have hq3 : w3.heap.size ≤ (w3.setCell ⟨w.heap.size + 1 + 1, 6, none⟩ (.slice r3x m.sc.length r3z)).heap.size := by simp
  have hp3 : (w3.setCell ⟨w.heap.size + 1 + 1, 6, none⟩ (.slice r3x m.sc.length r3z)).heap.size ≤ w3.heap.size := by simp
  clear M3
  generalize w3.setCell ⟨w.heap.size + 1 + 1, 6, none⟩ (.slice r3x m.sc.length r3z) = W3 at *
  refine (toDeliveryS_any _ m.dl _ s4 (GsA.below h4 (fun _ _ h => h.below hB0) hB0)).mono ?_
  rintro e w4 ⟨v4, rfl, o4, hB4⟩
  obtain ⟨r4x, r4z, rfl⟩ := GsO.len o4
  replace F1 := F1.below hB4
  replace F2 := F2.below hB4
  replace F3 := F3.below hB4
  replace o1 := IsO.below o1 hB4
  replace o2 := SsO.below o2 hB4
  replace o3 := GsO.mid o3 (fun _ _ _ _ h _ => h.below hB4) (Mid.of_below (lo := 0) (hi := 0) hB4) (.inl (Nat.zero_le _))
  replace hB0 := below_one hB0 hB4
  have hs4 := hB4.size
  clear hB4
  obtain ⟨a0, a1, a2, a3, a4, a5, a6, a7⟩ := F1.c
  obtain ⟨c0, c1, c2, c3, c4, c5, c6, c7⟩ := F3.c
  have f7 := F3.f 7
  have G3 := (F3.s7 (.slice r4x m.dl.length r4z))
  have G2 := (F2.other (k' := w.heap.size + 1 + 1) (by omega) 7 (.slice r4x m.dl.length r4z))
  obtain ⟨m0, m1, m2, m3, m4, m5, m6, m7⟩ := G3.c
  obtain ⟨t0, t1, t2, t3, t4, t5, t6, t7⟩ := G2.c
  have g0 := G2.f 0
  have g1 := G2.f 1
  have g2 := G2.f 2
  have g3 := G2.f 3
  have g4 := G2.f 4
  have g5 := G2.f 5
  have g6 := G2.f 6
  have g7 := G2.f 7
  have G := ((((((((G2.s0 (.int .i64 m.now)).s1 (.slice r1a m.iss.ws.length r1b)).s2 (.int .i64 m.iss.nx)).s3 (.slice r1c m.iss.rv.length r1d)).s4 (.slice r1e m.iss.sg.length r1f)).s5 (.slice r2x m.vs.length r2z)).s6 (.slice r3x m.sc.length r3z)).s7 (.slice r4x m.dl.length r4z))
  have M9 : Mid (w.heap.size + 1) (w.heap.size + 1 + 1 + 1) w4 (((((((((w4.setCell ⟨w.heap.size + 1 + 1, 7, none⟩ (.slice r4x m.dl.length r4z)).setCell ⟨w.heap.size + 1, 0, none⟩ (.int .i64 m.now)).setCell ⟨w.heap.size + 1, 1, none⟩ (.slice r1a m.iss.ws.length r1b)).setCell ⟨w.heap.size + 1, 2, none⟩ (.int .i64 m.iss.nx)).setCell ⟨w.heap.size + 1, 3, none⟩ (.slice r1c m.iss.rv.length r1d)).setCell ⟨w.heap.size + 1, 4, none⟩ (.slice r1e m.iss.sg.length r1f)).setCell ⟨w.heap.size + 1, 5, none⟩ (.slice r2x m.vs.length r2z)).setCell ⟨w.heap.size + 1, 6, none⟩ (.slice r3x m.sc.length r3z)).setCell ⟨w.heap.size + 1, 7, none⟩ (.slice r4x m.dl.length r4z)) := ((((((((((Mid.of_below (Below.refl _ _)).set (p := ⟨w.heap.size + 1 + 1, 7, none⟩) (by simp) (by simp) (.slice r4x m.dl.length r4z)).set (p := ⟨w.heap.size + 1, 0, none⟩) (by simp) (by simp) (.int .i64 m.now)).set (p := ⟨w.heap.size + 1, 1, none⟩) (by simp) (by simp) (.slice r1a m.iss.ws.length r1b)).set (p := ⟨w.heap.size + 1, 2, none⟩) (by simp) (by simp) (.int .i64 m.iss.nx)).set (p := ⟨w.heap.size + 1, 3, none⟩) (by simp) (by simp) (.slice r1c m.iss.rv.length r1d)).set (p := ⟨w.heap.size + 1, 4, none⟩) (by simp) (by simp) (.slice r1e m.iss.sg.length r1f)).set (p := ⟨w.heap.size + 1, 5, none⟩) (by simp) (by simp) (.slice r2x m.vs.length r2z)).set (p := ⟨w.heap.size + 1, 6, none⟩) (by simp) (by simp) (.slice r3x m.sc.length r3z)).set (p := ⟨w.heap.size + 1, 7, none⟩) (by simp) (by simp) (.slice r4x m.dl.length r4z))
  replace o1 := Mid.iso M9 o1 (.inl (by omega))
  replace o2 := Mid.sso M9 o2 (.inl (by omega))
  replace o3 := GsO.mid o3 (fun _ _ _ _ h ho => h.mid M9 ho) M9 (.inl (by omega))
  replace o4 := GsO.mid o4 (fun _ _ _ _ h ho => h.mid M9 ho) M9 (.inl (by omega))
  replace hB0 := (((((((((hB0.setCell (p := ⟨w.heap.size + 1 + 1, 7, none⟩) (by simp; omega) (.slice r4x m.dl.length r4z)).setCell (p := ⟨w.heap.size + 1, 0, none⟩) (by simp) (.int .i64 m.now)).setCell (p := ⟨w.heap.size + 1, 1, none⟩) (by simp) (.slice r1a m.iss.ws.length r1b)).setCell (p := ⟨w.heap.size + 1, 2, none⟩) (by simp) (.int .i64 m.iss.nx)).setCell (p := ⟨w.heap.size + 1, 3, none⟩) (by simp) (.slice r1c m.iss.rv.length r1d)).setCell (p := ⟨w.heap.size + 1, 4, none⟩) (by simp) (.slice r1e m.iss.sg.length r1f)).setCell (p := ⟨w.heap.size + 1, 5, none⟩) (by simp) (.slice r2x m.vs.length r2z)).setCell (p := ⟨w.heap.size + 1, 6, none⟩) (by simp) (.slice r3x m.sc.length r3z)).setCell (p := ⟨w.heap.size + 1, 7, none⟩) (by simp) (.slice r4x m.dl.length r4z))
  have hE : w4.heap.size ≤ (((((((((w4.setCell ⟨w.heap.size + 1 + 1, 7, none⟩ (.slice r4x m.dl.length r4z)).setCell ⟨w.heap.size + 1, 0, none⟩ (.int .i64 m.now)).setCell ⟨w.heap.size + 1, 1, none⟩ (.slice r1a m.iss.ws.length r1b)).setCell ⟨w.heap.size + 1, 2, none⟩ (.int .i64 m.iss.nx)).setCell ⟨w.heap.size + 1, 3, none⟩ (.slice r1c m.iss.rv.length r1d)).setCell ⟨w.heap.size + 1, 4, none⟩ (.slice r1e m.iss.sg.length r1f)).setCell ⟨w.heap.size + 1, 5, none⟩ (.slice r2x m.vs.length r2z)).setCell ⟨w.heap.size + 1, 6, none⟩ (.slice r3x m.sc.length r3z)).setCell ⟨w.heap.size + 1, 7, none⟩ (.slice r4x m.dl.length r4z)).heap.size := by simp
  have hW0 : w.heap.size ≤ W0.heap.size := by omega
  clear F1 F2 F3 M9
  go_wp2_with fail
  clear a0 a1 a2 a3 a4 a5 a6 a7 c0 c1 c2 c3 c4 c5 c6 c7 f7 m0 m1 m2 m3 m4 m5 m6 m7 t0 t1 t2 t3 t4 t5 t6 t7 g0 g1 g2 g3 g4 g5 g6 g7
  generalize ((((((((w4.setCell ⟨w.heap.size + 1 + 1, 7, none⟩ (.slice r4x m.dl.length r4z)).setCell ⟨w.heap.size + 1, 0, none⟩ (.int .i64 m.now)).setCell ⟨w.heap.size + 1, 1, none⟩ (.slice r1a m.iss.ws.length r1b)).setCell ⟨w.heap.size + 1, 2, none⟩ (.int .i64 m.iss.nx)).setCell ⟨w.heap.size + 1, 3, none⟩ (.slice r1c m.iss.rv.length r1d)).setCell ⟨w.heap.size + 1, 4, none⟩ (.slice r1e m.iss.sg.length r1f)).setCell ⟨w.heap.size + 1, 5, none⟩ (.slice r2x m.vs.length r2z)).setCell ⟨w.heap.size + 1, 6, none⟩ (.slice r3x m.sc.length r3z)).setCell ⟨w.heap.size + 1, 7, none⟩ (.slice r4x m.dl.length r4z) = WE at *
  obtain ⟨d0, d1, d2, d3, d4, d5, d6, d7⟩ := G.c
  exact bodyPost_ret (v := .agg #[.int .i64 m.now, .slice r1a m.iss.ws.length r1b, .int .i64 m.iss.nx, .slice r1c m.iss.rv.length r1d, .slice r1e m.iss.sg.length r1f, .slice r2x m.vs.length r2z, .slice r3x m.sc.length r3z, .slice r4x m.dl.length r4z]) (by simp [results, Tryd.results6, go_sem, d0, d1, d2, d3, d4, d5, d6, d7]) rfl ⟨_, rfl, ⟨_, _, _, _, _, _, _, _, _, _, _, _, w1.heap.size, w2.heap.size, w3.heap.size, rfl, by omega, by omega, by omega, by omega, IsO.mono o1 (by omega) (by omega), SsO.mono o2 (by omega) (by omega), GsO.mono o3 (by omega) (by omega), GsO.mono o4 (by omega) (by omega)⟩, hB0⟩

end Go.Proofs.YtnbojbcljfiamaaDoor

namespace Go.Proofs.YtnbojbcljfiamaaDoor
open Go.RowKit Go.Shelf

theorem at_drop {ops : Array Oper} {i : Nat} {o : Oper} (h : (ops.toList.drop i).head? = some o) : ops[i]? = some o := by
  rw [List.head?_drop] at h
  simpa using h
theorem takeW {P : Program} {ops : Array Oper} {Q : Exit → Act → World → Prop} {md : Region.Mode} {S : World → Prop} (i : Nat) {oi : Oper} {v : Value} {fuel : Nat} {listed : Array Bool} {a : Act} {w : World} (hi : (ops.toList.drop i).head? = some oi)
    (hs : Region.noSelect ops = true) (hf : Region.free md ops listed i = true) (hr : (Region.ready md ops listed).contains i = true)
    (hQ : ∀ c a w, Q (.panic c) (a.put oi.dst v) w → Q (.panic c) a w) (hw : Region.wanted oi (yielded ops a.tmps) = true) (hS : S w) (hy : ∀ w, S w → (execOp a.eval oi).run P w = .ok (.value v) w)
    (h : wpAnyH P md ops Q S fuel (listed.setIfInBounds i true) (a.put oi.dst v) w) : wpAnyH P md ops Q S (fuel + 1) listed a w :=
  wpAnyH_take (at_drop hi) hs hf hr hQ (Or.inl ⟨hw, hy⟩) hS h
theorem takeX {P : Program} {ops : Array Oper} {Q : Exit → Act → World → Prop} {md : Region.Mode} {S : World → Prop} (i : Nat) {oi : Oper} {fuel : Nat} {listed : Array Bool} {a : Act} {w : World} (hi : (ops.toList.drop i).head? = some oi)
    (hs : Region.noSelect ops = true) (hf : Region.free md ops listed i = true) (hr : (Region.ready md ops listed).contains i = true)
    (hQ : ∀ c a w, Q (.panic c) (a.put oi.dst undef) w → Q (.panic c) a w) (hw : Region.wanted oi (yielded ops a.tmps) = false) (hS : S w)
    (h : wpAnyH P md ops Q S fuel (listed.setIfInBounds i true) (a.put oi.dst undef) w) : wpAnyH P md ops Q S (fuel + 1) listed a w :=
  wpAnyH_take (at_drop hi) hs hf hr hQ (Or.inr ⟨hw, rfl⟩) hS h
theorem takeC {P : Program} {ops : Array Oper} {Q : Exit → Act → World → Prop} {md : Region.Mode} {S : World → Prop} (i : Nat) {oi : Oper} {fuel : Nat} {listed : Array Bool} {a : Act} {w : World} (hr : Region.ready md ops listed = [i]) (hi : (ops.toList.drop i).head? = some oi)
    (h : ∀ K' : Act → World → Prop, Shut (∀ a w, S w → (S w → wpAnyH P md ops Q S fuel (listed.setIfInBounds i true) a w) → K' a w) → if Region.wanted oi (yielded ops a.tmps) = true then Oper.wp P oi a w K' Q else K' (a.put oi.dst undef) w) : wpAnyH P md ops Q S (fuel + 1) listed a w :=
  wpAnyH_ready hr (by simp) (AllReadyH.cons (at_drop hi) h AllReadyH.nil)
/-- Two operations, either of which may come first. -/
theorem takeC2 {P : Program} {ops : Array Oper} {Q : Exit → Act → World → Prop} {md : Region.Mode} {S : World → Prop} (i j : Nat) {oi oj : Oper} {fuel : Nat} {listed : Array Bool} {a : Act} {w : World} (hr : Region.ready md ops listed = [i, j]) (hi : (ops.toList.drop i).head? = some oi) (hj : (ops.toList.drop j).head? = some oj)
    (h : ∀ K' : Act → World → Prop, Shut (∀ a w, S w → (S w → wpAnyH P md ops Q S fuel (listed.setIfInBounds i true) a w) → K' a w) → if Region.wanted oi (yielded ops a.tmps) = true then Oper.wp P oi a w K' Q else K' (a.put oi.dst undef) w)
    (h' : ∀ K' : Act → World → Prop, Shut (∀ a w, S w → (S w → wpAnyH P md ops Q S fuel (listed.setIfInBounds j true) a w) → K' a w) → if Region.wanted oj (yielded ops a.tmps) = true then Oper.wp P oj a w K' Q else K' (a.put oj.dst undef) w) : wpAnyH P md ops Q S (fuel + 1) listed a w :=
  wpAnyH_ready hr (by simp) (AllReadyH.cons (at_drop hi) h (AllReadyH.cons (at_drop hj) h' AllReadyH.nil))

def inB (lo hi n : Int) : Bool := decide (lo ≤ n ∧ n ≤ hi)

end Go.Proofs.YtnbojbcljfiamaaDoor

namespace Go.Proofs.YtnbojbcljfiamaaDoor
open Go.RowKit Go.Shelf

theorem dd_big {u : Nat} (h : ¬ u < 10) : (⟨(Lib.decDigits u).toArray⟩ : ByteArray) = ⟨(Lib.decDigits (u / 10)).toArray⟩ ++ ⟨#[UInt8.ofNat (48 + u % 10)]⟩ := by
  apply bytes_same
  rw [Lib.decDigits, dif_neg h]
  simp
theorem dd_one {u : Nat} (h : u < 10) : (⟨(Lib.decDigits u).toArray⟩ : ByteArray) = ⟨#[UInt8.ofNat (48 + u % 10)]⟩ := by
  apply bytes_same
  rw [Lib.decDigits_one h, Nat.mod_eq_of_lt h]
theorem dd_size (u : Nat) (h : u ≤ 1000000) : (⟨(Lib.decDigits u).toArray⟩ : ByteArray).size ≤ 7 := by
  show (Lib.decDigits u).toArray.size ≤ 7
  rw [List.size_toArray, Lib.decDigits_length]
  rcases Nat.lt_or_ge u 1000000 with h1 | h1
  · have := (dd_len6 h1).2
    rw [Lib.decDigits_length] at this
    omega
  · have : u = 1000000 := by omega
    subst this
    have := Lib.nDigits_unique 6 1000000 (by decide) (by decide)
    omega

theorem conv_any (b m : Nat) (W : World) (h : W.cell? ⟨b, 0, none⟩ = some (.int .u8 (48 + (m : Int) % 10))) : (convert 160 9 (.slice (some ⟨b, 0, none⟩) 1 1)).run Tryd.prog W = .ok (.string ⟨#[UInt8.ofNat (48 + m % 10)]⟩) W := by
  refine run_convert_bytes_back (P := Tryd.prog) _ 160 9 5 ⟨b, 0, none⟩ 1 [UInt8.ofNat (48 + m % 10)] Tryd.underlying160 Tryd.underlying5 Tryd.underlying9 ?_
  intro j hj
  match j, hj with
  | 0, _ =>
    simp [Addr.add, h]
    omega

set_option maxHeartbeats 4000000 in
set_option maxRecDepth 100000 in
theorem l1Num_nat : ∀ (u : Nat) (w : World), u ≤ 1000000 →
    Calls Tryd.prog 75 #[.int .i64 (u : Int)] w fun e w' => e = .returned (.string ⟨(Lib.decDigits u).toArray⟩) ∧ Below w.heap.size w w' := by
  intro u
  induction u using Nat.strongRecOn with
  | _ u ih =>
    intro w hu
    by_cases h : u < 10
    · have hc := digit_conv w u
      have h1 : (u : Int) % 10 = u := by omega
      rw [h1] at hc
      have HR := hid (dd_one h)
      generalize UInt8.ofNat (48 + u % 10) = d at *
      go_enter Tryd.func75, Tryd.ntmps75
      go_wp2
      go_ret
      exact ⟨ret_str HR.out.symm, (Below.refl _ w).alloc (Nat.le_refl _) _⟩
    · have HR := hid (dd_big h)
      have hih : ∀ (z : Int) (W : World), z = ((u / 10 : Nat) : Int) → Calls Tryd.prog 75 #[.int .i64 z] W fun e w' => e = .returned (.string ⟨(Lib.decDigits (u / 10)).toArray⟩) ∧ Below W.heap.size W w' := fun z W hz => by
        subst hz
        exact ih (u / 10) (by omega) W (by omega)
      have hcv := fun b W h => conv_any b u W h
      have hsz := dd_size (u / 10) (by omega)
      generalize (⟨(Lib.decDigits (u / 10)).toArray⟩ : ByteArray) = x at *
      generalize UInt8.ofNat (48 + u % 10) = d at *
      clear ih
      have g1 : ¬9223372036854775807 < x.size + 1 := by omega
      have e1 : IntKind.i64.wrap ((u : Int) / 10) = (u : Int) / 10 := by rw [IntKind.wrap_i64]; omega
      have e2 : (u : Int).tmod 10 = (u : Int) % 10 := Int.tmod_eq_emod_of_nonneg (by omega)
      have e3 : IntKind.i64.wrap (48 + (u : Int) % 10) = 48 + (u : Int) % 10 := by rw [IntKind.wrap_i64]; omega
      have e4 : IntKind.u8.wrap (48 + (u : Int) % 10) = 48 + (u : Int) % 10 := by rw [IntKind.wrap_u8]; omega
      go_enter Tryd.func75, Tryd.ntmps75
      go_wp2_with fail
      go_region_with (go_at_call 75; refine (hih _ _ (by omega)).mono ?_; rintro e w1 ⟨rfl, hB1⟩; have hq := hB1.cell (p := ⟨w.heap.size, 0, none⟩))
      all_goals go_wp2
      all_goals go_ret
      all_goals refine ⟨ret_str HR.out.symm, ?_⟩
      all_goals first
        | exact ((Below.refl _ w).trans (below_drew1 hB1)).alloc (below_drew1 hB1).size _
        | exact below_one ((Below.refl _ w).alloc (Nat.le_refl _) _) (below_drew1 hB1)
        | exact below_one ((Below.refl _ w).alloc (Nat.le_refl _) _) hB1

theorem l1Num_any (n : Int) (w : World) (h0 : 0 ≤ n) (h : n ≤ 1000000) :
    Calls Tryd.prog 75 #[.int .i64 n] w fun e w' => e = .returned (.string (numT n)) ∧ Below w.heap.size w w' := by
  obtain ⟨u, rfl⟩ := Int.eq_ofNat_of_zero_le h0
  have e : numT (u : Int) = ⟨(Lib.decDigits u).toArray⟩ := by
    unfold numT
    rw [itoa_pos h0]
    rfl
  rw [e]
  exact l1Num_nat u w (by omega)

end Go.Proofs.YtnbojbcljfiamaaDoor

namespace Go.Proofs.YtnbojbcljfiamaaDoor
open Go.RowKit Go.Shelf

/-- The library's table of powers of ten is as its text lays it. -/
def Tab (w : World) : Prop := Lib.TabIs Tryd.prog w "internal/strconv.uint64pow10" .u64 Lib.pow10Tab
theorem Tab.on {w w' : World} (h : Tab w) (hB : Below w.heap.size w w') : Tab w' := Lib.tabBelow_of_tabIs h w' hB
theorem Tab.on' {w w' : World} (h : Tab w) (hB : Below w.heap.size w.drew w') : Tab w' := h.on (below_drew1 hB)

theorem itoa_any (n : Int) (w : World) (h0 : -9223372036854775808 ≤ n) (h1 : n ≤ 9223372036854775807) (ht : Tab w) :
    Calls Tryd.prog 88 #[.int .i64 n] w fun e w' => e = .returned (.string (numT n)) ∧ Below w.heap.size w w' := by
  have h := Any.strconv_Itoa Tryd.lays171 n h0 h1 w ht
  refine h.mono ?_
  rintro e w' ⟨rfl, k, os, rfl⟩
  exact ⟨rfl, Lib.below_grow _ _ (Nat.le_refl _) k os⟩

end Go.Proofs.YtnbojbcljfiamaaDoor

namespace Go.Proofs.YtnbojbcljfiamaaDoor
open Go.RowKit Go.Shelf

/-- The notes up to k are good. -/
def lgTo (l : List Rc) (k : Nat) : Bool := (l.take k).all (fun r => ntB r.note)
theorem lgTo_zero (l : List Rc) : lgTo l 0 = true := by simp [lgTo]
theorem lgTo_succ {l : List Rc} {k : Nat} (h : k < l.length) : lgTo l (k + 1) = (lgTo l k && ntB l[k].note) := by
  unfold lgTo
  rw [List.take_succ_eq_append_getElem h, List.all_append]
  simp
theorem lgB_bad {l : List Rc} {k : Nat} (h : k < l.length) (hb : ntB l[k].note = false) : lgB l = false := by
  unfold lgB
  rw [Bool.and_eq_false_iff]
  exact .inr (List.all_eq_false.2 ⟨l[k], List.getElem_mem h, by simp [hb]⟩)
theorem lgB_end {l : List Rc} (h : lgTo l l.length = true) : lgB l = decide (l.length ≤ 60) := by
  unfold lgTo at h
  rw [List.take_length] at h
  unfold lgB
  rw [h, Bool.and_true]

set_option maxHeartbeats 1000000 in
theorem l7Log_any (v : Value) (l : List Rc) (w : World) (hm : l.length ≤ 1048577) (hf : ∀ r ∈ l, r.note.size ≤ 1048576) (hr : RcS w v l) :
    Calls Tryd.prog 31 #[v] w fun e w' => e = .returned (.bool (lgB l)) ∧ Below w.heap.size w w' := by
  obtain ⟨a, cap, rfl⟩ := hr.len
  go_enter Tryd.func31, Tryd.ntmps31
  go_wp2
  go_loopw [7] (fun i wr => ∃ k : Nat, k ≤ l.length ∧ i = .int .i64 k ∧ lgTo l k = true ∧ Below w.heap.size w wr) (fun i _ => l.length - (intOf i).toNat)
  case atStart => exact ⟨0, Nat.zero_le _, rfl, lgTo_zero l, Below.refl _ _⟩
  case round =>
    obtain ⟨k, hk, rfl, hn, hB⟩ := hrel
    have HN := hid hn
    clear hn
    by_cases hlt : k < l.length
    · obtain ⟨b, off, rfl, hb, hcap, q0, q1, q2⟩ := (hr.below hB).at hlt
      have hz := hf l[k] (List.getElem_mem hlt)
      have HS := hid (lgTo_succ hlt)
      have HD := hid (fun h => lgB_bad hlt h)
      generalize l[k] = r at *
      have hBa : Below w.heap.size w (wr.alloc (.cells #[.int .i64 r.num, .string r.note, .int .u32 (r.su : Int)] 118)) := hB.alloc hB.size _
      go_wp2_with fail
      refine (l7Note_any r.note _ hz).mono ?_
      rintro e w1 ⟨rfl, rfl⟩
      cases hc : ntB r.note
      · have HR := hid (HD.out hc)
        clear hr
        go_wp2_with fail
        go_ret
        exact ⟨ret_bool HR.out.symm, hBa⟩
      · have HR := hid (show lgTo l (k + 1) = true by rw [HS.out, HN.out, hc]; rfl)
        go_wp2_with fail
        go_roundw
        case rel => exact ⟨k + 1, by omega, by go_num, HR.out, hBa⟩
        case measure => simp [intOf]; omega
    · obtain rfl : k = l.length := by omega
      have HR := hid (lgB_end HN.out)
      go_wp2
      go_ret
      exact ⟨ret_bool (by rw [HR.out, Bool.eq_iff_iff]; simp; omega), hB⟩

set_option maxHeartbeats 1000000 in
theorem isLog_any (v : Value) (l : List Rc) (w : World) (hm : l.length ≤ 1048577) (hf : ∀ r ∈ l, r.note.size ≤ 1048576) (hr : RcS w v l) :
    Calls Tryd.prog 39 #[v] w fun e w' => e = .returned (.bool (lgB l)) ∧ Below w.heap.size w w' := by
  obtain ⟨a, cap, rfl⟩ := hr.len
  by_cases h60 : (60 : Int) < l.length
  · have HR := hid (show lgB l = false by unfold lgB; rw [decide_eq_false (by omega)]; rfl)
    go_enter Tryd.func39, Tryd.ntmps39
    go_wp2
    go_ret
    exact ⟨ret_bool HR.out.symm, Below.refl _ _⟩
  · go_enter Tryd.func39, Tryd.ntmps39
    go_wp2
    go_loopw [10] (fun i wr => ∃ k : Nat, k ≤ l.length ∧ i = .int .i64 k ∧ lgTo l k = true ∧ Below w.heap.size w wr) (fun i _ => l.length - (intOf i).toNat)
    case atStart => exact ⟨0, Nat.zero_le _, rfl, lgTo_zero l, Below.refl _ _⟩
    case round =>
      obtain ⟨k, hk, rfl, hn, hB⟩ := hrel
      have HN := hid hn
      clear hn
      by_cases hlt : k < l.length
      · obtain ⟨b, off, rfl, hb, hcap, q0, q1, q2⟩ := (hr.below hB).at hlt
        have hz := hf l[k] (List.getElem_mem hlt)
        have HS := hid (lgTo_succ hlt)
        have HD := hid (fun h => lgB_bad hlt h)
        generalize l[k] = r at *
        have hBa : Below w.heap.size w (wr.alloc (.cells #[.int .i64 r.num, .string r.note, .int .u32 (r.su : Int)] 118)) := hB.alloc hB.size _
        go_wp2_with fail
        refine (goodNote_any r.note _ hz).mono ?_
        rintro e w1 ⟨rfl, rfl⟩
        cases hc : ntB r.note
        · have HR := hid (HD.out hc)
          clear hr
          go_wp2_with fail
          go_ret
          exact ⟨ret_bool HR.out.symm, hBa⟩
        · have HR := hid (show lgTo l (k + 1) = true by rw [HS.out, HN.out, hc]; rfl)
          go_wp2_with fail
          go_roundw
          case rel => exact ⟨k + 1, by omega, by go_num, HR.out, hBa⟩
          case measure => simp [intOf]; omega
      · obtain rfl : k = l.length := by omega
        have HR := hid (show lgB l = true by rw [lgB_end HN.out]; exact decide_eq_true (by omega))
        go_wp2
        go_ret
        exact ⟨ret_bool HR.out.symm, hB⟩

end Go.Proofs.YtnbojbcljfiamaaDoor

namespace Go.Proofs.YtnbojbcljfiamaaDoor
open Go.RowKit Go.Shelf

theorem num_size {n : Nat} (h : n ≤ 1000) : (numT (n : Int)).size ≤ 7 := by
  have := (itoa_len6 (show 0 ≤ (n : Int) by omega) (by omega)).2
  rw [numT_size]
  omega

set_option maxHeartbeats 1000000 in
theorem l7Record_any (h n : Nat) (z : Int) (note : ByteArray) (w : World) (hh : h < 4294967296) (hz : z = ((n + 1 : Nat) : Int)) (hn : n + 1 ≤ 1000) (hs : note.size ≤ 1048576) :
    Calls Tryd.prog 54 #[.int .u32 (h : Int), .int .i64 z, .string note] w fun e w' => e = .returned (rcN h n note).val ∧ Below w.heap.size w w' := by
  subst hz
  have hx := num_size hn
  have hnum := fun W => l1Num_any ((n + 1 : Nat) : Int) W (by omega) (by omega)
  have HR := hid (show (rcN h n note) = ⟨((n + 1 : Nat) : Int), note, smL h (numT ((n + 1 : Nat) : Int) ++ ⟨#[32]⟩ ++ note).data.toList⟩ from rfl)
  generalize numT ((n + 1 : Nat) : Int) = x at *
  generalize ((n + 1 : Nat) : Int) = z at *
  have g1 : ¬9223372036854775807 < x.size + 1 := by omega
  have g2 : ¬9223372036854775807 < x.size + 1 + note.size := by omega
  go_enter Tryd.func54, Tryd.ntmps54
  go_wp2_with fail
  refine (hnum _).mono ?_
  rintro e w1 ⟨rfl, hB1⟩
  have hB2 : Below w.heap.size w w1 := below_one ((Below.refl _ w).alloc (Nat.le_refl _) _) hB1
  have c0 := hB1.cell (p := ⟨w.heap.size, 0, none⟩) (by simp)
  have c1 := hB1.cell (p := ⟨w.heap.size, 1, none⟩) (by simp)
  have c2 := hB1.cell (p := ⟨w.heap.size, 2, none⟩) (by simp)
  have f0 := hB1.frozen (p := ⟨w.heap.size, 0, none⟩) (by simp)
  have f1 := hB1.frozen (p := ⟨w.heap.size, 1, none⟩) (by simp)
  have f2 := hB1.frozen (p := ⟨w.heap.size, 2, none⟩) (by simp)
  simp [go_sem] at c0 c1 c2 f0 f1 f2
  go_wp2_with fail
  refine (l7Sum_any h _ _ hh (by simp only [ByteArray.size_append]; show x.size + 1 + note.size ≤ _; omega)).mono ?_
  rintro e w2 ⟨rfl, rfl⟩
  go_wp2_with fail
  rw [HR.out]
  refine bodyPost_ret (v := .agg #[.int .i64 z, .string note, .int .u32 (smL h (x ++ ⟨#[32]⟩ ++ note).data.toList : Int)]) (by simp [results, Tryd.results54, go_sem, c0, c1, c2]) rfl ⟨rfl, ?_⟩
  exact ((hB2.setCell (p := ⟨w.heap.size, _, none⟩) (Nat.le_refl _) _).setCell (p := ⟨w.heap.size, _, none⟩) (Nat.le_refl _) _).setCell (p := ⟨w.heap.size, _, none⟩) (Nat.le_refl _) _

set_option maxHeartbeats 1000000 in
theorem recordBehind_zero (a : Option Addr) (cap h : Nat) (note : ByteArray) (w : World) (ht : Tab w) (h0 : h = 2166136261) (hs : note.size ≤ 1048576) :
    Calls Tryd.prog 80 #[.slice a 0 cap, .string note] w fun e w' => e = .returned (rcN h 0 note).val ∧ Below w.heap.size w w' := by
  have hh : h < 4294967296 := by omega
  have hx := num_size (show 0 + 1 ≤ 1000 by omega)
  have hnum : ∀ (z : Int) (W : World), z = ((0 + 1 : Nat) : Int) → Tab W → Calls Tryd.prog 88 #[.int .i64 z] W fun e w' => e = .returned (.string (numT ((0 + 1 : Nat) : Int))) ∧ Below W.heap.size W w' := fun z W hz ht => by
    subst hz
    exact itoa_any ((0 + 1 : Nat) : Int) W (by omega) (by omega) ht
  have HR := hid (show (rcN h 0 note) = ⟨((0 + 1 : Nat) : Int), note, smL h (numT ((0 + 1 : Nat) : Int) ++ ⟨#[32]⟩ ++ note).data.toList⟩ from rfl)
  generalize numT ((0 + 1 : Nat) : Int) = x at *
  have g1 : ¬9223372036854775807 < x.size + 1 := by omega
  have g2 : ¬9223372036854775807 < x.size + 1 + note.size := by omega
  have HT := hid ht
  clear ht
  subst h0
  go_enter Tryd.func80, Tryd.ntmps80
  go_wp2_with fail
  refine (hnum _ _ (by omega) (HT.out.on ((Below.refl _ w).alloc (Nat.le_refl _) _))).mono ?_
  rintro e w1 ⟨rfl, hB1⟩
  have hB2 : Below w.heap.size w w1 := below_one ((Below.refl _ w).alloc (Nat.le_refl _) _) hB1
  have c0 := hB1.cell (p := ⟨w.heap.size, 0, none⟩) (by simp)
  have c1 := hB1.cell (p := ⟨w.heap.size, 1, none⟩) (by simp)
  have c2 := hB1.cell (p := ⟨w.heap.size, 2, none⟩) (by simp)
  have f0 := hB1.frozen (p := ⟨w.heap.size, 0, none⟩) (by simp)
  have f1 := hB1.frozen (p := ⟨w.heap.size, 1, none⟩) (by simp)
  have f2 := hB1.frozen (p := ⟨w.heap.size, 2, none⟩) (by simp)
  simp [go_sem] at c0 c1 c2 f0 f1 f2
  go_wp2_with fail
  refine (sumText_any 2166136261 _ _ hh (by simp only [ByteArray.size_append]; show x.size + 1 + note.size ≤ _; omega)).mono ?_
  rintro e w2 ⟨rfl, rfl⟩
  go_wp2_with fail
  rw [HR.out]
  refine bodyPost_ret (v := .agg #[.int .i64 1, .string note, .int .u32 (smL 2166136261 (x ++ ⟨#[32]⟩ ++ note).data.toList : Int)]) (by simp [results, Tryd.results80, go_sem, c0, c1, c2]) rfl ⟨rfl, ?_⟩
  exact ((hB2.setCell (p := ⟨w.heap.size, _, none⟩) (Nat.le_refl _) _).setCell (p := ⟨w.heap.size, _, none⟩) (Nat.le_refl _) _).setCell (p := ⟨w.heap.size, _, none⟩) (Nat.le_refl _) _

set_option maxHeartbeats 1000000 in
theorem recordBehind_succ (b off m cap h : Nat) (note : ByteArray) (w : World) (ht : Tab w) (hh : h < 4294967296) (hm : m ≤ 900) (hb : b < w.heap.size) (hs : note.size ≤ 1048576) (hq : w.cell? ⟨b, off + m * 3 + 2, none⟩ = some (.int .u32 (h : Int))) :
    Calls Tryd.prog 80 #[.slice (some ⟨b, off, none⟩) (m + 1) cap, .string note] w fun e w' => e = .returned (rcN h (m + 1) note).val ∧ Below w.heap.size w w' := by
  have hx := num_size (show m + 1 + 1 ≤ 1000 by omega)
  have hnum : ∀ (z : Int) (W : World), z = ((m + 1 + 1 : Nat) : Int) → Tab W → Calls Tryd.prog 88 #[.int .i64 z] W fun e w' => e = .returned (.string (numT ((m + 1 + 1 : Nat) : Int))) ∧ Below W.heap.size W w' := fun z W hz ht => by
    subst hz
    exact itoa_any ((m + 1 + 1 : Nat) : Int) W (by omega) (by omega) ht
  have HR := hid (show (rcN h (m + 1) note) = ⟨((m + 1 + 1 : Nat) : Int), note, smL h (numT ((m + 1 + 1 : Nat) : Int) ++ ⟨#[32]⟩ ++ note).data.toList⟩ from rfl)
  generalize numT ((m + 1 + 1 : Nat) : Int) = x at *
  have g1 : ¬9223372036854775807 < x.size + 1 := by omega
  have g2 : ¬9223372036854775807 < x.size + 1 + note.size := by omega
  have HT := hid ht
  clear ht
  go_enter Tryd.func80, Tryd.ntmps80
  go_wp2_with fail
  refine (hnum _ _ (by omega) (HT.out.on ((Below.refl _ w).alloc (Nat.le_refl _) _))).mono ?_
  rintro e w1 ⟨rfl, hB1⟩
  have hB2 : Below w.heap.size w w1 := below_one ((Below.refl _ w).alloc (Nat.le_refl _) _) hB1
  have c0 := hB1.cell (p := ⟨w.heap.size, 0, none⟩) (by simp)
  have c1 := hB1.cell (p := ⟨w.heap.size, 1, none⟩) (by simp)
  have c2 := hB1.cell (p := ⟨w.heap.size, 2, none⟩) (by simp)
  have f0 := hB1.frozen (p := ⟨w.heap.size, 0, none⟩) (by simp)
  have f1 := hB1.frozen (p := ⟨w.heap.size, 1, none⟩) (by simp)
  have f2 := hB1.frozen (p := ⟨w.heap.size, 2, none⟩) (by simp)
  simp [go_sem] at c0 c1 c2 f0 f1 f2
  go_wp2_with fail
  refine (sumText_any h _ _ hh (by simp only [ByteArray.size_append]; show x.size + 1 + note.size ≤ _; omega)).mono ?_
  rintro e w2 ⟨rfl, rfl⟩
  go_wp2_with fail
  rw [HR.out]
  refine bodyPost_ret (v := .agg #[.int .i64 ((m : Int) + 1 + 1), .string note, .int .u32 (smL h (x ++ ⟨#[32]⟩ ++ note).data.toList : Int)]) (by simp [results, Tryd.results80, go_sem, c0, c1, c2]) rfl ⟨rfl, ?_⟩
  exact ((hB2.setCell (p := ⟨w.heap.size, _, none⟩) (Nat.le_refl _) _).setCell (p := ⟨w.heap.size, _, none⟩) (Nat.le_refl _) _).setCell (p := ⟨w.heap.size, _, none⟩) (Nat.le_refl _) _

end Go.Proofs.YtnbojbcljfiamaaDoor

namespace Go.Proofs.YtnbojbcljfiamaaDoor
open Go.RowKit Go.Shelf

theorem neq_rc (o r : Rc) (w : World) : (binOp .neq 118 o.val r.val).run Tryd.prog w = .ok (.bool (!(o.same r))) w := by
  rw [run_neq_struct]
  simp [go_sem, Tryd.underlying118]
  unfold Rc.same
  repeat' split
  all_goals simp_all

theorem pv_succ {l : List Rc} {k : Nat} (h : k < l.length) : pvS l (k + 1) = l[k].su := by
  unfold pvS
  rw [if_neg (by omega), Nat.add_sub_cancel, List.getElem?_eq_getElem h]
theorem pv_zero (l : List Rc) : pvS l 0 = 2166136261 := rfl
theorem pv_lt {l : List Rc} {k : Nat} (hk : k ≤ l.length) (hf : ∀ r ∈ l, r.su < 4294967296) : pvS l k < 4294967296 := by
  cases k with
  | zero => rw [pv_zero]; omega
  | succ k => rw [pv_succ (by omega)]; exact hf _ (List.getElem_mem _)
/-- What l7Broken tells. -/
def bkI (l : List Rc) : Int := match brX l with | some k => (k : Int) | none => -1

set_option maxHeartbeats 2000000 in
theorem l7Broken_any (v : Value) (l : List Rc) (w : World) (hm : l.length ≤ 60) (hf : ∀ r ∈ l, r.note.size ≤ 1048576) (hu : ∀ r ∈ l, r.su < 4294967296) (hr : RcS w v l) :
    Calls Tryd.prog 32 #[v] w fun e w' => e = .returned (.int .i64 (bkI l)) ∧ Below w.heap.size w w' := by
  obtain ⟨a, cap, rfl⟩ := hr.len
  go_enter Tryd.func32, Tryd.ntmps32
  go_wp2
  go_loopw [3, 8] (fun h i wr => ∃ k : Nat, k ≤ l.length ∧ i = .int .i64 k ∧ h = .int .u32 (pvS l k : Int) ∧ (∀ j, j < k → okA l j = true) ∧ Below w.heap.size w wr) (fun _ i _ => l.length - (intOf i).toNat)
  case atStart => exact ⟨0, Nat.zero_le _, rfl, rfl, fun j hj => by omega, Below.refl _ _⟩
  case round =>
    obtain ⟨k, hk, rfl, rfl, hn, hB⟩ := hrel
    have HN := hid hn
    clear hn
    by_cases hlt : k < l.length
    · obtain ⟨b, off, rfl, hb, hcap, q0, q1, q2⟩ := (hr.below hB).at hlt
      have hz := hf l[k] (List.getElem_mem hlt)
      have hh := pv_lt hk hu
      have HO := hid (okA_at hlt)
      have HP := hid (pv_succ hlt)
      have HX := hid (fun h => brX_at hlt HN.out h)
      generalize pvS l k = h at *
      generalize l[k] = r at *
      have hBa : Below w.heap.size w (wr.alloc (.cells #[.int .i64 r.num, .string r.note, .int .u32 (r.su : Int)] 118)) := hB.alloc hB.size _
      have ew : IntKind.i64.wrap ((k : Int) + 1) = (k : Int) + 1 := by rw [IntKind.wrap_i64]; omega
      have hse := neq_rc r (rcN h k r.note)
      cases hc : r.same (rcN h k r.note)
      all_goals rw [hc] at hse
      · have HR := hid (show bkI l = (k : Int) by unfold bkI; rw [HX.out (by rw [HO.out, hc])])
        clear hr
        go_wp2_with fail
        refine wp_region_held_drew (S := fun w' => w'.cell? ⟨wr.heap.size, 0, none⟩ = some (.int .i64 r.num) ∧ w'.cell? ⟨wr.heap.size, 1, none⟩ = some (.string r.note) ∧ w'.cell? ⟨wr.heap.size, 2, none⟩ = some (.int .u32 (r.su : Int))) (by kernel_rfl) ?_ (fun hHeld => ?_)
        · go_keep
        refine takeW 0 (v := ?v1) rfl (by kernel_rfl) (by kernel_rfl) (by kernel_rfl) (fun _ _ _ h => h) (by rfl) (by assumption) ?hy1 ?rest1
        case hy1 => intro w' hSw; (try dsimp only at hSw); go_simp; try with_reducible rfl
        try simp only [Act.put, List.setIfInBounds_toArray, List.set_cons_zero, List.set_cons_succ]
        refine takeW 1 (v := ?v2) rfl (by kernel_rfl) (by kernel_rfl) (by kernel_rfl) (fun _ _ _ h => h) (by rfl) (by assumption) ?hy2 ?rest2
        case hy2 => intro w' hSw; (try dsimp only at hSw); go_simp; try with_reducible rfl
        try simp only [Act.put, List.setIfInBounds_toArray, List.set_cons_zero, List.set_cons_succ]
        refine takeW 2 (v := ?v3) rfl (by kernel_rfl) (by kernel_rfl) (by kernel_rfl) (fun _ _ _ h => h) (by rfl) (by assumption) ?hy3 ?rest3
        case hy3 => intro w' hSw; (try dsimp only at hSw); go_simp; try with_reducible rfl
        try simp only [Act.put, List.setIfInBounds_toArray, List.set_cons_zero, List.set_cons_succ]
        refine takeW 3 (v := ?v4) rfl (by kernel_rfl) (by kernel_rfl) (by kernel_rfl) (fun _ _ _ h => h) (by rfl) (by assumption) ?hy4 ?rest4
        case hy4 => intro w' hSw; (try dsimp only at hSw); go_simp; try with_reducible rfl
        try simp only [Act.put, List.setIfInBounds_toArray, List.set_cons_zero, List.set_cons_succ]
        refine takeW 4 (v := ?v5) rfl (by kernel_rfl) (by kernel_rfl) (by kernel_rfl) (fun _ _ _ h => h) (by rfl) (by assumption) ?hy5 ?rest5
        case hy5 => intro w' hSw; (try dsimp only at hSw); go_simp; try with_reducible rfl
        try simp only [Act.put, List.setIfInBounds_toArray, List.set_cons_zero, List.set_cons_succ]
        refine takeW 5 (v := ?v6) rfl (by kernel_rfl) (by kernel_rfl) (by kernel_rfl) (fun _ _ _ h => h) (by rfl) (by assumption) ?hy6 ?rest6
        case hy6 => intro w' hSw; (try dsimp only at hSw); go_simp; try with_reducible rfl
        try simp only [Act.put, List.setIfInBounds_toArray, List.set_cons_zero, List.set_cons_succ]
        refine takeC 6 (by kernel_rfl) rfl (fun K hK => ?_)
        go_simp
        refine (l7Record_any h k _ r.note _ hh (by omega) (by omega) hz).mono ?_; rintro e w1 ⟨rfl, hB1⟩; have hc1 := fun o => hB1.cell (p := ⟨wr.heap.size, o, none⟩) (by simp)
        refine hK.out _ _ ?_ (fun hHeld => ?_)
        · go_keep
        clear hK K
        try simp only [Act.put, List.setIfInBounds_toArray, List.set_cons_zero, List.set_cons_succ]
        refine takeW 7 (v := ?v7) rfl (by kernel_rfl) (by kernel_rfl) (by kernel_rfl) (fun _ _ _ h => h) (by rfl) (by assumption) ?hy7 ?rest7
        case hy7 => intro w' hSw; (try dsimp only at hSw); go_simp; try with_reducible rfl
        try simp only [Act.put, List.setIfInBounds_toArray, List.set_cons_zero, List.set_cons_succ]
        refine wpAnyH_done (by kernel_rfl) ?_ _
        have hB2 := below_one hBa (below_drew1 hB1)
        clear hB1
        go_wp2_with fail
        go_ret
        exact ⟨ret_int HR.out.symm, hB2⟩
      · have HR := hid (show ∀ j, j < k + 1 → okA l j = true by
          intro j hj
          rcases Nat.lt_or_ge j k with h1 | h1
          · exact HN.out j h1
          · obtain rfl : j = k := by omega
            rw [HO.out, hc])
        go_wp2_with fail
        refine wp_region_held_drew (S := fun w' => w'.cell? ⟨wr.heap.size, 0, none⟩ = some (.int .i64 r.num) ∧ w'.cell? ⟨wr.heap.size, 1, none⟩ = some (.string r.note) ∧ w'.cell? ⟨wr.heap.size, 2, none⟩ = some (.int .u32 (r.su : Int))) (by kernel_rfl) ?_ (fun hHeld => ?_)
        · go_keep
        refine takeW 0 (v := ?v8) rfl (by kernel_rfl) (by kernel_rfl) (by kernel_rfl) (fun _ _ _ h => h) (by rfl) (by assumption) ?hy8 ?rest8
        case hy8 => intro w' hSw; (try dsimp only at hSw); go_simp; try with_reducible rfl
        try simp only [Act.put, List.setIfInBounds_toArray, List.set_cons_zero, List.set_cons_succ]
        refine takeW 1 (v := ?v9) rfl (by kernel_rfl) (by kernel_rfl) (by kernel_rfl) (fun _ _ _ h => h) (by rfl) (by assumption) ?hy9 ?rest9
        case hy9 => intro w' hSw; (try dsimp only at hSw); go_simp; try with_reducible rfl
        try simp only [Act.put, List.setIfInBounds_toArray, List.set_cons_zero, List.set_cons_succ]
        refine takeW 2 (v := ?v10) rfl (by kernel_rfl) (by kernel_rfl) (by kernel_rfl) (fun _ _ _ h => h) (by rfl) (by assumption) ?hy10 ?rest10
        case hy10 => intro w' hSw; (try dsimp only at hSw); go_simp; try with_reducible rfl
        try simp only [Act.put, List.setIfInBounds_toArray, List.set_cons_zero, List.set_cons_succ]
        refine takeW 3 (v := ?v11) rfl (by kernel_rfl) (by kernel_rfl) (by kernel_rfl) (fun _ _ _ h => h) (by rfl) (by assumption) ?hy11 ?rest11
        case hy11 => intro w' hSw; (try dsimp only at hSw); go_simp; try with_reducible rfl
        try simp only [Act.put, List.setIfInBounds_toArray, List.set_cons_zero, List.set_cons_succ]
        refine takeW 4 (v := ?v12) rfl (by kernel_rfl) (by kernel_rfl) (by kernel_rfl) (fun _ _ _ h => h) (by rfl) (by assumption) ?hy12 ?rest12
        case hy12 => intro w' hSw; (try dsimp only at hSw); go_simp; try with_reducible rfl
        try simp only [Act.put, List.setIfInBounds_toArray, List.set_cons_zero, List.set_cons_succ]
        refine takeW 5 (v := ?v13) rfl (by kernel_rfl) (by kernel_rfl) (by kernel_rfl) (fun _ _ _ h => h) (by rfl) (by assumption) ?hy13 ?rest13
        case hy13 => intro w' hSw; (try dsimp only at hSw); go_simp; try with_reducible rfl
        try simp only [Act.put, List.setIfInBounds_toArray, List.set_cons_zero, List.set_cons_succ]
        refine takeC 6 (by kernel_rfl) rfl (fun K hK => ?_)
        go_simp
        refine (l7Record_any h k _ r.note _ hh (by omega) (by omega) hz).mono ?_; rintro e w1 ⟨rfl, hB1⟩; have hc1 := fun o => hB1.cell (p := ⟨wr.heap.size, o, none⟩) (by simp)
        refine hK.out _ _ ?_ (fun hHeld => ?_)
        · go_keep
        clear hK K
        try simp only [Act.put, List.setIfInBounds_toArray, List.set_cons_zero, List.set_cons_succ]
        refine takeW 7 (v := ?v14) rfl (by kernel_rfl) (by kernel_rfl) (by kernel_rfl) (fun _ _ _ h => h) (by rfl) (by assumption) ?hy14 ?rest14
        case hy14 => intro w' hSw; (try dsimp only at hSw); go_simp; try with_reducible rfl
        try simp only [Act.put, List.setIfInBounds_toArray, List.set_cons_zero, List.set_cons_succ]
        refine wpAnyH_done (by kernel_rfl) ?_ _
        have hB2 := below_one hBa (below_drew1 hB1)
        have s2 := hc1 2
        simp [go_sem] at s2
        clear hB1
        go_wp2_with fail
        go_roundw
        case rel => exact ⟨k + 1, by omega, by go_num, by rw [HP.out], HR.out, hB2⟩
        case measure => simp [intOf]; omega
    · obtain rfl : k = l.length := by omega
      have HR := hid (show bkI l = -1 by unfold bkI; rw [brX_none HN.out])
      go_wp2
      go_ret
      exact ⟨ret_int HR.out.symm, hB⟩

/-- How followEach ends. -/
def foE (l : List Rc) : Ending := match brX l with | some k => .panicked [{ v := .iface 129 (.agg #[.int .i64 (k : Int)]), recovered := false }] | none => .returned (.tuple #[])
theorem rb_any (a : Option Addr) (cap c : Nat) (l : List Rc) (k : Nat) (note : ByteArray) (w : World) (ht : Tab w) (hm : l.length ≤ 60) (hk : k ≤ l.length) (hs : note.size ≤ 1048576) (hu : ∀ r ∈ l, r.su < 4294967296) (hr : RcS w (.slice a l.length cap) l) :
    Calls Tryd.prog 80 #[.slice a k c, .string note] w fun e w' => e = .returned (rcN (pvS l k) k note).val ∧ Below w.heap.size w w' := by
  cases k with
  | zero => exact recordBehind_zero a c _ note w ht (pv_zero l) hs
  | succ m =>
    obtain ⟨b, off, rfl, hb, _, _, _, q2⟩ := hr.at (i := m) (by omega)
    rw [pv_succ (by omega)]
    exact recordBehind_succ b off m c _ note w ht (hu _ (List.getElem_mem _)) (by omega) hb hs q2

set_option maxHeartbeats 2000000 in
theorem followEach_any (v : Value) (l : List Rc) (w : World) (ht : Tab w) (hm : l.length ≤ 60) (hf : ∀ r ∈ l, r.note.size ≤ 1048576) (hu : ∀ r ∈ l, r.su < 4294967296) (hr : RcS w v l) :
    Calls Tryd.prog 63 #[v] w fun e w' => e = foE l ∧ Below w.heap.size w w' := by
  obtain ⟨a, cap, rfl⟩ := hr.len
  have HT := hid ht
  clear ht
  go_enter Tryd.func63, Tryd.ntmps63
  go_wp2
  go_loopw [6] (fun i wr => ∃ k : Nat, k ≤ l.length ∧ i = .int .i64 k ∧ (∀ j, j < k → okA l j = true) ∧ Below w.heap.size w wr) (fun i _ => l.length - (intOf i).toNat)
  case atStart => exact ⟨0, Nat.zero_le _, rfl, fun j hj => by omega, Below.refl _ _⟩
  case round =>
    obtain ⟨k, hk, rfl, hn, hB⟩ := hrel
    have HN := hid hn
    clear hn
    by_cases hlt : k < l.length
    · have hrb := hr.below hB
      obtain ⟨b, off, rfl, hb, hcap, q0, q1, q2⟩ := hrb.at hlt
      have hz := hf l[k] (List.getElem_mem hlt)
      have HO := hid (okA_at hlt)
      have HX := hid (fun h => brX_at hlt HN.out h)
      have hBa : Below w.heap.size w (wr.alloc (.cells #[.int .i64 l[k].num, .string l[k].note, .int .u32 (l[k].su : Int)] 118)) := hB.alloc hB.size _
      have HRB := hid (fun c W (hW : Below w.heap.size w W) => rb_any (some ⟨b, off, none⟩) cap c l k l[k].note W (HT.out.on hW) hm hk hz hu (hr.below hW))
      have hBd := hBa.drew
      have hse := neq_rc l[k] (rcN (pvS l k) k l[k].note)
      have hc1 : ((k : Nat) : Int) ≤ (cap : Int) := by omega
      generalize rcN (pvS l k) k l[k].note = rc at *
      generalize l[k] = r at *
      clear hr hrb
      cases hc : r.same rc
      all_goals rw [hc] at hse
      · have HR := hid (show foE l = .panicked [{ v := .iface 129 (.agg #[.int .i64 (k : Int)]), recovered := false }] by unfold foE; rw [HX.out (by rw [HO.out, hc])])
        go_wp2_with fail
        refine wp_region_held_drew (S := fun w' => w'.cell? ⟨wr.heap.size, 0, none⟩ = some (.int .i64 r.num) ∧ w'.cell? ⟨wr.heap.size, 1, none⟩ = some (.string r.note) ∧ w'.cell? ⟨wr.heap.size, 2, none⟩ = some (.int .u32 (r.su : Int))) (by kernel_rfl) ?_ (fun hHeld => ?_)
        · go_keep
        refine takeW 0 (v := ?v15) rfl (by kernel_rfl) (by kernel_rfl) (by kernel_rfl) (fun _ _ _ h => h) (by rfl) (by assumption) ?hy15 ?rest15
        case hy15 => intro w' hSw; (try dsimp only at hSw); go_simp; try with_reducible rfl
        try simp only [Act.put, List.setIfInBounds_toArray, List.set_cons_zero, List.set_cons_succ]
        refine takeW 1 (v := ?v16) rfl (by kernel_rfl) (by kernel_rfl) (by kernel_rfl) (fun _ _ _ h => h) (by rfl) (by assumption) ?hy16 ?rest16
        case hy16 => intro w' hSw; (try dsimp only at hSw); go_simp; try with_reducible rfl
        try simp only [Act.put, List.setIfInBounds_toArray, List.set_cons_zero, List.set_cons_succ]
        refine takeW 2 (v := ?v17) rfl (by kernel_rfl) (by kernel_rfl) (by kernel_rfl) (fun _ _ _ h => h) (by rfl) (by assumption) ?hy17 ?rest17
        case hy17 => intro w' hSw; (try dsimp only at hSw); go_simp; try with_reducible rfl
        try simp only [Act.put, List.setIfInBounds_toArray, List.set_cons_zero, List.set_cons_succ]
        refine takeW 3 (v := ?v18) rfl (by kernel_rfl) (by kernel_rfl) (by kernel_rfl) (fun _ _ _ h => h) (by rfl) (by assumption) ?hy18 ?rest18
        case hy18 => intro w' hSw; (try dsimp only at hSw); go_simp; try with_reducible rfl
        try simp only [Act.put, List.setIfInBounds_toArray, List.set_cons_zero, List.set_cons_succ]
        refine takeW 4 (v := ?v19) rfl (by kernel_rfl) (by kernel_rfl) (by kernel_rfl) (fun _ _ _ h => h) (by rfl) (by assumption) ?hy19 ?rest19
        case hy19 => intro w' hSw; (try dsimp only at hSw); go_simp; try with_reducible rfl
        try simp only [Act.put, List.setIfInBounds_toArray, List.set_cons_zero, List.set_cons_succ]
        refine takeW 5 (v := ?v20) rfl (by kernel_rfl) (by kernel_rfl) (by kernel_rfl) (fun _ _ _ h => h) (by rfl) (by assumption) ?hy20 ?rest20
        case hy20 => intro w' hSw; (try dsimp only at hSw); go_simp; try with_reducible rfl
        try simp only [Act.put, List.setIfInBounds_toArray, List.set_cons_zero, List.set_cons_succ]
        refine takeC 6 (by kernel_rfl) rfl (fun K hK => ?_)
        go_simp
        refine (HRB.out _ _ hBd).mono ?_; rintro e w1 ⟨rfl, hB1⟩; have hc1 := fun o => hB1.cell (p := ⟨wr.heap.size, o, none⟩) (by simp)
        refine hK.out _ _ ?_ (fun hHeld => ?_)
        · go_keep
        clear hK K
        try simp only [Act.put, List.setIfInBounds_toArray, List.set_cons_zero, List.set_cons_succ]
        refine takeW 7 (v := ?v21) rfl (by kernel_rfl) (by kernel_rfl) (by kernel_rfl) (fun _ _ _ h => h) (by rfl) (by assumption) ?hy21 ?rest21
        case hy21 => intro w' hSw; (try dsimp only at hSw); go_simp; try with_reducible rfl
        try simp only [Act.put, List.setIfInBounds_toArray, List.set_cons_zero, List.set_cons_succ]
        refine wpAnyH_done (by kernel_rfl) ?_ _
        have hB2 := below_one hBa (below_drew1 hB1)
        clear hB1
        go_wp2_with fail
        exact ⟨rfl, by rw [HR.out], hB2⟩
      · have HR := hid (show ∀ j, j < k + 1 → okA l j = true by
          intro j hj
          rcases Nat.lt_or_ge j k with h1 | h1
          · exact HN.out j h1
          · obtain rfl : j = k := by omega
            rw [HO.out, hc])
        go_wp2_with fail
        refine wp_region_held_drew (S := fun w' => w'.cell? ⟨wr.heap.size, 0, none⟩ = some (.int .i64 r.num) ∧ w'.cell? ⟨wr.heap.size, 1, none⟩ = some (.string r.note) ∧ w'.cell? ⟨wr.heap.size, 2, none⟩ = some (.int .u32 (r.su : Int))) (by kernel_rfl) ?_ (fun hHeld => ?_)
        · go_keep
        refine takeW 0 (v := ?v22) rfl (by kernel_rfl) (by kernel_rfl) (by kernel_rfl) (fun _ _ _ h => h) (by rfl) (by assumption) ?hy22 ?rest22
        case hy22 => intro w' hSw; (try dsimp only at hSw); go_simp; try with_reducible rfl
        try simp only [Act.put, List.setIfInBounds_toArray, List.set_cons_zero, List.set_cons_succ]
        refine takeW 1 (v := ?v23) rfl (by kernel_rfl) (by kernel_rfl) (by kernel_rfl) (fun _ _ _ h => h) (by rfl) (by assumption) ?hy23 ?rest23
        case hy23 => intro w' hSw; (try dsimp only at hSw); go_simp; try with_reducible rfl
        try simp only [Act.put, List.setIfInBounds_toArray, List.set_cons_zero, List.set_cons_succ]
        refine takeW 2 (v := ?v24) rfl (by kernel_rfl) (by kernel_rfl) (by kernel_rfl) (fun _ _ _ h => h) (by rfl) (by assumption) ?hy24 ?rest24
        case hy24 => intro w' hSw; (try dsimp only at hSw); go_simp; try with_reducible rfl
        try simp only [Act.put, List.setIfInBounds_toArray, List.set_cons_zero, List.set_cons_succ]
        refine takeW 3 (v := ?v25) rfl (by kernel_rfl) (by kernel_rfl) (by kernel_rfl) (fun _ _ _ h => h) (by rfl) (by assumption) ?hy25 ?rest25
        case hy25 => intro w' hSw; (try dsimp only at hSw); go_simp; try with_reducible rfl
        try simp only [Act.put, List.setIfInBounds_toArray, List.set_cons_zero, List.set_cons_succ]
        refine takeW 4 (v := ?v26) rfl (by kernel_rfl) (by kernel_rfl) (by kernel_rfl) (fun _ _ _ h => h) (by rfl) (by assumption) ?hy26 ?rest26
        case hy26 => intro w' hSw; (try dsimp only at hSw); go_simp; try with_reducible rfl
        try simp only [Act.put, List.setIfInBounds_toArray, List.set_cons_zero, List.set_cons_succ]
        refine takeW 5 (v := ?v27) rfl (by kernel_rfl) (by kernel_rfl) (by kernel_rfl) (fun _ _ _ h => h) (by rfl) (by assumption) ?hy27 ?rest27
        case hy27 => intro w' hSw; (try dsimp only at hSw); go_simp; try with_reducible rfl
        try simp only [Act.put, List.setIfInBounds_toArray, List.set_cons_zero, List.set_cons_succ]
        refine takeC 6 (by kernel_rfl) rfl (fun K hK => ?_)
        go_simp
        refine (HRB.out _ _ hBd).mono ?_; rintro e w1 ⟨rfl, hB1⟩; have hc1 := fun o => hB1.cell (p := ⟨wr.heap.size, o, none⟩) (by simp)
        refine hK.out _ _ ?_ (fun hHeld => ?_)
        · go_keep
        clear hK K
        try simp only [Act.put, List.setIfInBounds_toArray, List.set_cons_zero, List.set_cons_succ]
        refine takeW 7 (v := ?v28) rfl (by kernel_rfl) (by kernel_rfl) (by kernel_rfl) (fun _ _ _ h => h) (by rfl) (by assumption) ?hy28 ?rest28
        case hy28 => intro w' hSw; (try dsimp only at hSw); go_simp; try with_reducible rfl
        try simp only [Act.put, List.setIfInBounds_toArray, List.set_cons_zero, List.set_cons_succ]
        refine wpAnyH_done (by kernel_rfl) ?_ _
        have hB2 := below_one hBa (below_drew1 hB1)
        clear hB1
        go_wp2_with fail
        go_roundw
        case rel => exact ⟨k + 1, by omega, by go_num, HR.out, hB2⟩
        case measure => simp [intOf]; omega
    · obtain rfl : k = l.length := by omega
      have HR := hid (show foE l = .returned (.tuple #[]) by unfold foE; rw [brX_none HN.out])
      go_wp2
      go_end0
      exact ⟨by rw [HR.out], hB⟩

end Go.Proofs.YtnbojbcljfiamaaDoor

namespace Go.Proofs.YtnbojbcljfiamaaDoor
open Go.RowKit Go.Shelf

theorem asB_yes (v : Value) (w : World) : (Instr.typeAssert (.iface 129 v) 20 129 true).run Tryd.prog w = .ok (.tuple #[v, .bool true]) w := by kernel_rfl

theorem asB_nil (w : World) : (Instr.typeAssert .nilIface 20 129 true).run Tryd.prog w = .ok (.tuple #[.agg #[.int .i64 0], .bool false]) w := by kernel_rfl

set_option maxRecDepth 100000 in
set_option maxHeartbeats 1000000 in
/-- The closure under a panic with a place: it is laid into the results. -/
theorem catch_hit (b c k : Nat) (x : Int) (y : Bool) (older : List PanicEntry) (w : World) (hbc : b ≠ c) (hb : b < w.heap.size) (hc : c < w.heap.size) (hp : w.cell? ⟨b, 0, none⟩ = some (.int .i64 x)) (hq : w.cell? ⟨c, 0, none⟩ = some (.bool y)) (fp : w.frozen? ⟨b, 0, none⟩ = false) (fq : w.frozen? ⟨c, 0, none⟩ = false) :
    CallsD Tryd.prog 62 #[.pointer (some ⟨b, 0, none⟩), .pointer (some ⟨c, 0, none⟩)] (.panicking ({ v := .iface 129 (.agg #[.int .i64 (k : Int)]), recovered := false } :: older)) w fun e u' w' =>
      e = .returned (.tuple #[]) ∧ u' = .panicking ({ v := .iface 129 (.agg #[.int .i64 (k : Int)]), recovered := true } :: older) ∧ w'.cell? ⟨b, 0, none⟩ = some (.int .i64 (k : Int)) ∧ w'.cell? ⟨c, 0, none⟩ = some (.bool true) ∧ ∀ n, n ≤ b → n ≤ c → n ≤ w.heap.size → Below n w w' := by
  refine callsD_of_wpS Tryd.func62 rfl fun c₀ cs hu => ?_
  apply wpS_seq
  apply wpS_region
  have hrep : Array.replicate 10 undef = #[undef, undef, undef, undef, undef, undef, undef, undef, undef, undef] := rfl
  simp [wpOpsS, go_sem, recoverD, hu, Tryd.ntmps62, Exit.thenS, asB_yes, hrep]
  refine wpS_of_wp ?_
  have hbn : b ≠ w.heap.size := by omega
  have hcn : c ≠ w.heap.size := by omega
  go_wp2
  simp [bodyPostS, results, Tryd.results62]
  have hal := fun (W2 : World) (o : Obj) (g : Nat) (hg : g < W2.heap.size) => ((Below.refl W2.heap.size W2).alloc (Nat.le_refl _) o).cell (p := ⟨g, 0, none⟩) hg
  refine ⟨?_, ?_, fun n h1 h2 h3 => (((Below.refl n w).setCell (p := ⟨b, 0, none⟩) h1 _).setCell (p := ⟨c, 0, none⟩) h2 _).alloc (by simpa using h3) _⟩
  · rw [hal _ _ b (by simpa using hb), World.cell?_setCell_other _ _ _ _ (fun e => hbc (congrArg Addr.block e).symm), World.cell?_setCell_same' _ _ _ (by rw [hp]; rfl)]
  · rw [hal _ _ c (by simpa using hc)]
    have hq2 : (w.setCell ⟨b, 0, none⟩ (.int .i64 (k : Int))).cell? ⟨c, 0, none⟩ = some (.bool y) := (World.cell?_setCell_other w ⟨b, 0, none⟩ ⟨c, 0, none⟩ _ (fun e => hbc (congrArg Addr.block e))).trans hq
    exact World.cell?_setCell_same' _ _ _ (by rw [hq2]; rfl)

set_option maxRecDepth 100000 in
set_option maxHeartbeats 1000000 in
/-- The closure where nothing was given up: all stays. -/
theorem catch_idle (b c : Nat) (w : World) :
    CallsD Tryd.prog 62 #[.pointer (some ⟨b, 0, none⟩), .pointer (some ⟨c, 0, none⟩)] .returning w fun e u' w' =>
      e = .returned (.tuple #[]) ∧ u' = .returning ∧ Below w.heap.size w w' := by
  refine callsD_of_wpS Tryd.func62 rfl fun c₀ cs hu => ?_
  apply wpS_seq
  apply wpS_region
  have hrep : Array.replicate 10 undef = #[undef, undef, undef, undef, undef, undef, undef, undef, undef, undef] := rfl
  simp [wpOpsS, go_sem, recoverD, hu, Tryd.ntmps62, Exit.thenS, asB_nil, hrep]
  refine wpS_of_wp ?_
  go_wp2
  cases c₀
  simp_all [bodyPostS, results, Tryd.results62]
  exact (Below.refl _ w).alloc (Nat.le_refl _) _

set_option maxRecDepth 100000 in
set_option maxHeartbeats 1000000 in
theorem breachIn_any (v : Value) (l : List Rc) (w : World) (ht : Tab w) (hm : l.length ≤ 60) (hf : ∀ r ∈ l, r.note.size ≤ 1048576) (hu : ∀ r ∈ l, r.su < 4294967296) (hr : RcS w v l) :
    Calls Tryd.prog 40 #[v] w fun e w' => e = .returned (.tuple #[.int .i64 (((brX l).getD 0 : Nat) : Int), .bool (brX l).isSome]) ∧ Below w.heap.size w w' := by
  have hmf : ∀ (fn : Fn) (first cap : Array Value) (w : World), (Instr.makeFunc fn first cap).run Tryd.prog w = .ok (.func fn first cap) w := fun _ _ _ _ => rfl
  have HF := hid (fun W (hW : Below w.heap.size w W) => followEach_any v l W (ht.on hW) hm hf hu (hr.below hW))
  have hB0 : Below w.heap.size w ((w.alloc (.cells #[.int .i64 0] 3)).alloc (.cells #[.bool false] 4)) := ((Below.refl _ w).alloc (Nat.le_refl _) _).alloc (by simp) _
  obtain ⟨a, cap, rfl⟩ := hr.len
  clear hr ht
  cases hx : brX l with
  | none =>
    have HE := hid (show foE l = .returned (.tuple #[]) by unfold foE; rw [hx])
    clear hx
    go_enter_defers Tryd.func40, Tryd.ntmps40
    go_wp2_with fail
    refine (HF.out _ hB0).mono ?_
    rintro e w1 ⟨he, hB1⟩
    rw [HE.out] at he
    subst he
    have c0 := hB1.cell (p := ⟨w.heap.size, 0, none⟩) (by simp; omega)
    have c1 := hB1.cell (p := ⟨w.heap.size + 1, 0, none⟩) (by simp)
    have f0 := hB1.frozen (p := ⟨w.heap.size, 0, none⟩) (by simp; omega)
    have f1 := hB1.frozen (p := ⟨w.heap.size + 1, 0, none⟩) (by simp)
    have hs1 := hB1.size
    simp [go_sem] at c0 c1 f0 f1 hs1
    have hB2 := below_one hB0 hB1
    clear hB0 hB1
    go_wp2_with fail
    refine leaves_cons (f := 62) (args := #[.pointer (some ⟨w.heap.size, 0, none⟩), .pointer (some ⟨w.heap.size + 1, 0, none⟩)]) (by simp) (by simp [go_sem]) ?_
    refine (catch_idle _ _ _).mono ?_
    rintro e u' w2 ⟨rfl, rfl, hB3⟩
    have d0 : w2.cell? ⟨w.heap.size, 0, none⟩ = some (.int .i64 0) := by
      rw [hB3.cell (p := ⟨w.heap.size, 0, none⟩) (by simp; omega), World.cell?_setCell_other _ _ _ _ (fun e => by have := congrArg Addr.block e; simp at this)]
      exact World.cell?_setCell_same' _ _ _ (by rw [c0]; rfl)
    have d1 : w2.cell? ⟨w.heap.size + 1, 0, none⟩ = some (.bool false) := by
      rw [hB3.cell (p := ⟨w.heap.size + 1, 0, none⟩) (by simp; omega)]
      exact World.cell?_setCell_same' _ _ _ (by rw [World.cell?_setCell_other _ _ _ _ (fun e => by have := congrArg Addr.block e; simp at this), c1]; rfl)
    simp [Leaves, settle, results, Tryd.results40, go_sem, d0, d1]
    exact ((hB2.setCell (p := ⟨w.heap.size, 0, none⟩) (Nat.le_refl _) _).setCell (p := ⟨w.heap.size + 1, 0, none⟩) (by simp) _).trans (hB3.mono (by simp; omega))
  | some k =>
    have HE := hid (show foE l = .panicked [{ v := .iface 129 (.agg #[.int .i64 (k : Int)]), recovered := false }] by unfold foE; rw [hx])
    clear hx
    go_enter_defers Tryd.func40, Tryd.ntmps40
    go_wp2_with fail
    refine (HF.out _ hB0).mono ?_
    rintro e w1 ⟨he, hB1⟩
    rw [HE.out] at he
    subst he
    have c0 := hB1.cell (p := ⟨w.heap.size, 0, none⟩) (by simp; omega)
    have c1 := hB1.cell (p := ⟨w.heap.size + 1, 0, none⟩) (by simp)
    have f0 := hB1.frozen (p := ⟨w.heap.size, 0, none⟩) (by simp; omega)
    have f1 := hB1.frozen (p := ⟨w.heap.size + 1, 0, none⟩) (by simp)
    have hs1 := hB1.size
    simp [go_sem] at c0 c1 f0 f1 hs1
    have hB2 := below_one hB0 hB1
    clear hB0 hB1
    go_wp2_with fail
    refine leaves_cons (f := 62) (args := #[.pointer (some ⟨w.heap.size, 0, none⟩), .pointer (some ⟨w.heap.size + 1, 0, none⟩)]) (by simp) (by simp [go_sem]) ?_
    refine (catch_hit w.heap.size (w.heap.size + 1) k _ _ [] _ (by omega) (by omega) (by omega) c0 c1 f0 f1).mono ?_
    rintro e u' w2 ⟨rfl, rfl, d0, d1, hB3⟩
    simp [Leaves, settle, results, Tryd.results40, go_sem, d0, d1]
    exact hB2.trans (hB3 w.heap.size (Nat.le_refl _) (by omega) (by omega))

theorem lg_len {l : List Rc} (h : lgB l = true) : l.length ≤ 60 := by
  unfold lgB at h
  simp only [Bool.and_eq_true, decide_eq_true_eq] at h
  exact h.1
theorem bkI_neg {l : List Rc} : decide (bkI l < 0) = (brX l).isNone := by
  unfold bkI
  cases brX l <;> simp

set_option maxHeartbeats 1000000 in
theorem specGoodLog_any (v : Value) (l : List Rc) (w : World) (hm : l.length ≤ 1048577) (hf : ∀ r ∈ l, r.note.size ≤ 1048576) (hu : ∀ r ∈ l, r.su < 4294967296) (hr : RcS w v l) :
    Calls Tryd.prog 13 #[v] w fun e w' => e = .returned (.bool (glB l)) ∧ Below w.heap.size w w' := by
  cases hg : lgB l
  · have HR := hid (show glB l = false by unfold glB; rw [hg]; rfl)
    go_enter Tryd.func13, Tryd.ntmps13
    go_wp2_with fail
    refine (l7Log_any v l _ hm hf hr).mono ?_
    rintro e w1 ⟨rfl, hB1⟩
    rw [hg]
    clear hg
    go_wp2_with fail
    go_ret
    exact ⟨ret_bool HR.out.symm, hB1⟩
  · have HR := hid (show glB l = decide (bkI l < 0) by unfold glB; rw [hg, bkI_neg]; rfl)
    have hl := lg_len hg
    go_enter Tryd.func13, Tryd.ntmps13
    go_wp2_with fail
    refine (l7Log_any v l _ hm hf hr).mono ?_
    rintro e w1 ⟨rfl, hB1⟩
    rw [hg]
    clear hg
    go_wp2_with fail
    refine (l7Broken_any v l _ hl hf hu (hr.below hB1)).mono ?_
    rintro e w2 ⟨rfl, hB2⟩
    have hB3 := below_one hB1 hB2
    clear hr
    go_wp2_with fail
    go_ret
    exact ⟨ret_bool HR.out.symm, hB3⟩

set_option maxHeartbeats 1000000 in
theorem implGoodLog_any (v : Value) (l : List Rc) (w : World) (ht : Tab w) (hm : l.length ≤ 1048577) (hf : ∀ r ∈ l, r.note.size ≤ 1048576) (hu : ∀ r ∈ l, r.su < 4294967296) (hr : RcS w v l) :
    Calls Tryd.prog 20 #[v] w fun e w' => e = .returned (.bool (glB l)) ∧ Below w.heap.size w w' := by
  have HT := hid ht
  clear ht
  cases hg : lgB l
  · have HR := hid (show glB l = false by unfold glB; rw [hg]; rfl)
    go_enter Tryd.func20, Tryd.ntmps20
    go_wp2_with fail
    refine (isLog_any v l _ hm hf hr).mono ?_
    rintro e w1 ⟨rfl, hB1⟩
    rw [hg]
    clear hg
    go_wp2_with fail
    go_ret
    exact ⟨ret_bool HR.out.symm, hB1⟩
  · have HR := hid (show glB l = !(brX l).isSome by unfold glB; rw [hg]; cases brX l <;> rfl)
    have hl := lg_len hg
    go_enter Tryd.func20, Tryd.ntmps20
    go_wp2_with fail
    refine (isLog_any v l _ hm hf hr).mono ?_
    rintro e w1 ⟨rfl, hB1⟩
    rw [hg]
    clear hg
    go_wp2_with fail
    refine (breachIn_any v l _ (HT.out.on hB1) hl hf hu (hr.below hB1)).mono ?_
    rintro e w2 ⟨rfl, hB2⟩
    have hB3 := below_one hB1 hB2
    generalize (brX l).isSome = q at *
    generalize ((brX l).getD 0 : Nat) = z at *
    clear hr
    go_wp2_with fail
    go_ret
    exact ⟨ret_bool HR.out.symm, hB3⟩

end Go.Proofs.YtnbojbcljfiamaaDoor

namespace Go.Proofs.YtnbojbcljfiamaaDoor
open Go.RowKit Go.Shelf

/-- A mesh is as said. -/
def msB (m : Ms) : Bool := decide ((m.sc.length : Int) ≤ 10) && decide ((m.dl.length : Int) ≤ 240)
theorem ms_no1 {m : Ms} (h : decide ((m.sc.length : Int) ≤ 10) = false) : msB m = false := by unfold msB; rw [h]; rfl
theorem ms_no2 {m : Ms} (h : decide ((m.dl.length : Int) ≤ 240) = false) : msB m = false := by unfold msB; rw [h]; simp
theorem ms_yes {m : Ms} (h : decide ((m.sc.length : Int) ≤ 10) = true) (h2 : decide ((m.dl.length : Int) ≤ 240) = true) : msB m = true := by unfold msB; rw [h, h2]; rfl
/-- The first n logs are good. -/
def mlTo (m : Ms) (n : Nat) : Bool := (m.sc.take n).all (fun c => glB c.lg)
def mlX (m : Ms) : Bool := msB m && m.sc.all (fun c => glB c.lg)
theorem mlTo_zero (m : Ms) : mlTo m 0 = true := by simp [mlTo]
theorem mlTo_succ {m : Ms} {n : Nat} (h : n < m.sc.length) : mlTo m (n + 1) = (mlTo m n && glB m.sc[n].lg) := by
  unfold mlTo
  rw [List.take_succ_eq_append_getElem h, List.all_append]
  simp
theorem ml_no {m : Ms} {n : Nat} (h : n < m.sc.length) (hb : glB m.sc[n].lg = false) : mlX m = false := by
  unfold mlX
  rw [List.all_eq_false.2 ⟨m.sc[n], List.getElem_mem h, by rw [hb]; simp⟩]
  simp
theorem ml_end {m : Ms} (h : mlTo m m.sc.length = true) : mlX m = msB m := by
  unfold mlTo at h
  rw [List.take_length] at h
  unfold mlX
  rw [h]
  simp
theorem ml_bad {m : Ms} (h : msB m = false) : mlX m = false := by unfold mlX; rw [h]; rfl

set_option maxHeartbeats 2000000 in
theorem l8Said_any (cs : List Value) (m : Ms) (w : World) (h : MsC w cs m) :
    Calls Tryd.prog 14 #[.agg cs.toArray] w fun e w' => e = .returned (.bool (msB m)) ∧ Below w.heap.size w w' := by
  obtain ⟨p1a, p1b, p1c, p1d, p1e, p1f, p2x, p2z, p3x, p3z, p4x, p4z, rfl, h1, h2, h3, h4⟩ := h
  have hBB : Below w.heap.size w (w.alloc (.cells #[.int .i64 m.now, .slice p1a m.iss.ws.length p1b, .int .i64 m.iss.nx, .slice p1c m.iss.rv.length p1d, .slice p1e m.iss.sg.length p1f, .slice p2x m.vs.length p2z, .slice p3x m.sc.length p3z, .slice p4x m.dl.length p4z] 41)) := (Below.refl _ w).alloc (Nat.le_refl _) _
  cases c1 : decide ((m.sc.length : Int) ≤ 10)
  · have HR := hid (ms_no1 c1)
    go_enter Tryd.func14, Tryd.ntmps14
    go_wp2
    go_ret
    exact ⟨ret_bool HR.out.symm, hBB⟩
  · cases c2 : decide ((m.dl.length : Int) ≤ 240)
    · have HR := hid (ms_no2 c2)
      go_enter Tryd.func14, Tryd.ntmps14
      go_wp2
      go_ret
      exact ⟨ret_bool HR.out.symm, hBB⟩
    · have HR := hid (ms_yes c1 c2)
      go_enter Tryd.func14, Tryd.ntmps14
      go_wp2
      go_ret
      exact ⟨ret_bool HR.out.symm, hBB⟩

set_option maxHeartbeats 2000000 in
theorem fitsMesh_any (cs : List Value) (m : Ms) (w : World) (h : MsC w cs m) :
    Calls Tryd.prog 19 #[.agg cs.toArray] w fun e w' => e = .returned (.bool (msB m)) ∧ Below w.heap.size w w' := by
  obtain ⟨p1a, p1b, p1c, p1d, p1e, p1f, p2x, p2z, p3x, p3z, p4x, p4z, rfl, h1, h2, h3, h4⟩ := h
  have hBB : Below w.heap.size w (w.alloc (.cells #[.int .i64 m.now, .slice p1a m.iss.ws.length p1b, .int .i64 m.iss.nx, .slice p1c m.iss.rv.length p1d, .slice p1e m.iss.sg.length p1f, .slice p2x m.vs.length p2z, .slice p3x m.sc.length p3z, .slice p4x m.dl.length p4z] 41)) := (Below.refl _ w).alloc (Nat.le_refl _) _
  cases c1 : decide ((m.sc.length : Int) ≤ 10)
  · have HR := hid (ms_no1 c1)
    go_enter Tryd.func19, Tryd.ntmps19
    go_wp2
    go_ret
    exact ⟨ret_bool HR.out.symm, hBB⟩
  · cases c2 : decide ((m.dl.length : Int) ≤ 240)
    · have HR := hid (ms_no2 c2)
      go_enter Tryd.func19, Tryd.ntmps19
      go_wp2
      go_ret
      exact ⟨ret_bool HR.out.symm, hBB⟩
    · have HR := hid (ms_yes c1 c2)
      go_enter Tryd.func19, Tryd.ntmps19
      go_wp2
      go_ret
      exact ⟨ret_bool HR.out.symm, hBB⟩

set_option maxHeartbeats 8000000 in
set_option maxRecDepth 100000 in
theorem specLogsGood_any (cs : List Value) (m : Ms) (w : World) (hs : m.short) (hu : ∀ c ∈ m.sc, ∀ r ∈ c.lg, r.su < 4294967296) (h : MsC w cs m) :
    Calls Tryd.prog 5 #[.agg cs.toArray] w fun e w' => e = .returned (.bool (mlX m)) ∧ Below w.heap.size w w' := by
  have hM := h
  obtain ⟨p1a, p1b, p1c, p1d, p1e, p1f, p2x, p2z, p3x, p3z, p4x, p4z, rfl, h1, h2, h3, h4⟩ := h
  have hsl := hs.2.2.1.1
  have hBB : Below w.heap.size w (w.alloc (.cells #[.int .i64 m.now, .slice p1a m.iss.ws.length p1b, .int .i64 m.iss.nx, .slice p1c m.iss.rv.length p1d, .slice p1e m.iss.sg.length p1f, .slice p2x m.vs.length p2z, .slice p3x m.sc.length p3z, .slice p4x m.dl.length p4z] 41)) := (Below.refl _ w).alloc (Nat.le_refl _) _
  have F := Eight.new w (.int .i64 m.now) (.slice p1a m.iss.ws.length p1b) (.int .i64 m.iss.nx) (.slice p1c m.iss.rv.length p1d) (.slice p1e m.iss.sg.length p1f) (.slice p2x m.vs.length p2z) (.slice p3x m.sc.length p3z) (.slice p4x m.dl.length p4z) 41
  go_enter Tryd.func5, Tryd.ntmps5
  go_wp2_with fail
  generalize w.alloc (.cells #[.int .i64 m.now, .slice p1a m.iss.ws.length p1b, .int .i64 m.iss.nx, .slice p1c m.iss.rv.length p1d, .slice p1e m.iss.sg.length p1f, .slice p2x m.vs.length p2z, .slice p3x m.sc.length p3z, .slice p4x m.dl.length p4z] 41) = W0 at *
  go_loopw [8] (fun i wr => ∃ n : Nat, n ≤ m.sc.length ∧ i = .int .i64 n ∧ mlTo m n = true ∧ Below w.heap.size w wr ∧ Eight wr 41 w.heap.size (.int .i64 m.now) (.slice p1a m.iss.ws.length p1b) (.int .i64 m.iss.nx) (.slice p1c m.iss.rv.length p1d) (.slice p1e m.iss.sg.length p1f) (.slice p2x m.vs.length p2z) (.slice p3x m.sc.length p3z) (.slice p4x m.dl.length p4z)) (fun i _ => m.sc.length - (intOf i).toNat)
  case atStart => exact ⟨0, Nat.zero_le _, rfl, mlTo_zero _, hBB, F⟩
  case round =>
    obtain ⟨n, hn, rfl, hl, hB, FR⟩ := hrel
    have HL := hid hl
    clear hl
    by_cases hlt : n < m.sc.length
    · obtain ⟨b, off, cs, hbe, hb, hcap, hq, hA⟩ := (h3.below (fun _ _ h => h.below hB) hB).at hlt
      subst hbe
      have hA0 := hA
      obtain ⟨q1a, q1b, q1c, q1d, q1e, q1f, q1g, q1h, q1i, q1j, q2x, q2z, q3x, q3z, hcs, g1, g2, g3⟩ := hA
      subst hcs
      have q0 := hq 0 _ rfl
      have q1 := hq 1 _ rfl
      have q2 := hq 2 _ rfl
      have q3 := hq 3 _ rfl
      have q4 := hq 4 _ rfl
      have q5 := hq 5 _ rfl
      have q6 := hq 6 _ rfl
      have q7 := hq 7 _ rfl
      have q8 := hq 8 _ rfl
      have q9 := hq 9 _ rfl
      rw [Nat.add_zero] at q0
      have hfz := (hs.2.2.1.2 m.sc[n] (List.getElem_mem hlt)).2.2.2.2
      have hfl := (hs.2.2.1.2 m.sc[n] (List.getElem_mem hlt)).2.2.2.1
      have hus := hu m.sc[n] (List.getElem_mem hlt)
      have HS := hid (mlTo_succ hlt)
      have HN := hid (fun hb => ml_no (m := m) (n := n) hlt hb)
      generalize m.sc[n] = r at *
      have hBa : Below wr.heap.size wr (wr.alloc (.cells #[.string r.name, .int .i64 r.sd.fo.num, .slice q1a r.sd.fo.pol.length q1b, .slice q1c r.sd.fo.rv.length q1d, .int .i64 r.sd.co, .slice q1e r.sd.ru.length q1f, .slice q1g r.sd.ha.length q1h, .slice q1i r.sd.se.length q1j, .slice q2x r.qu.length q2z, .slice q3x r.lg.length q3z] 58)) := (Below.refl _ wr).alloc (Nat.le_refl _) _
      have hBr := below_one hB hBa
      have g3' := g3.below hBa
      clear hq h3
      go_wp2_with fail
      generalize wr.alloc (.cells #[.string r.name, .int .i64 r.sd.fo.num, .slice q1a r.sd.fo.pol.length q1b, .slice q1c r.sd.fo.rv.length q1d, .int .i64 r.sd.co, .slice q1e r.sd.ru.length q1f, .slice q1g r.sd.ha.length q1h, .slice q1i r.sd.se.length q1j, .slice q2x r.qu.length q2z, .slice q3x r.lg.length q3z] 58) = Wr at *
      refine (specGoodLog_any _ r.lg _ (Nat.le_succ_of_le hfl) hfz hus g3').mono ?_
      rintro e w3 ⟨rfl, hB3⟩
      replace hBr := below_one hBr hB3
      cases hg : glB r.lg
      · have HR := hid (HN.out hg)
        go_wp2_with fail
        go_ret
        exact ⟨ret_bool HR.out.symm, hBr⟩
      · have hl1 : mlTo m (n + 1) = true := by rw [HS.out, HL.out, hg]; rfl
        replace FR := (FR.below hBa).below hB3
        have HL1 := hid hl1
        clear hl1 HL HS HN q0 q1 q2 q3 q4 q5 q6 q7 q8 q9 g1 g2 g3 g3' hA0 hBa hB3
        go_wp2_with fail
        go_roundw
        case rel => exact ⟨n + 1, by omega, by go_num, HL1.out, hBr, FR⟩
        case measure => simp [intOf]; omega
    · obtain rfl : n = m.sc.length := by omega
      have HR := hid (ml_end HL.out)
      obtain ⟨a0, a1, a2, a3, a4, a5, a6, a7⟩ := FR.c
      go_wp2_with fail
      refine (l8Said_any _ m _ (hM.below hB)).mono ?_
      rintro e w4 ⟨rfl, hB4⟩
      go_wp2_with fail
      go_ret
      exact ⟨ret_bool HR.out.symm, below_one hB hB4⟩

set_option maxHeartbeats 8000000 in
set_option maxRecDepth 100000 in
theorem implLogsGood_any (cs : List Value) (m : Ms) (w : World) (ht : Tab w) (hs : m.short) (hu : ∀ c ∈ m.sc, ∀ r ∈ c.lg, r.su < 4294967296) (h : MsC w cs m) :
    Calls Tryd.prog 7 #[.agg cs.toArray] w fun e w' => e = .returned (.bool (mlX m)) ∧ Below w.heap.size w w' := by
  have hM := h
  obtain ⟨p1a, p1b, p1c, p1d, p1e, p1f, p2x, p2z, p3x, p3z, p4x, p4z, rfl, h1, h2, h3, h4⟩ := h
  have hsl := hs.2.2.1.1
  have hBB : Below w.heap.size w (w.alloc (.cells #[.int .i64 m.now, .slice p1a m.iss.ws.length p1b, .int .i64 m.iss.nx, .slice p1c m.iss.rv.length p1d, .slice p1e m.iss.sg.length p1f, .slice p2x m.vs.length p2z, .slice p3x m.sc.length p3z, .slice p4x m.dl.length p4z] 41)) := (Below.refl _ w).alloc (Nat.le_refl _) _
  have F := Eight.new w (.int .i64 m.now) (.slice p1a m.iss.ws.length p1b) (.int .i64 m.iss.nx) (.slice p1c m.iss.rv.length p1d) (.slice p1e m.iss.sg.length p1f) (.slice p2x m.vs.length p2z) (.slice p3x m.sc.length p3z) (.slice p4x m.dl.length p4z) 41
  have HTB := hid ht
  clear ht
  obtain ⟨ok, HO⟩ : ∃ ok, Hid (msB m = ok) := ⟨_, hid rfl⟩
  cases ok
  · have HR := hid (ml_bad HO.out)
    go_enter Tryd.func7, Tryd.ntmps7
    go_wp2_with fail
    generalize w.alloc (.cells #[.int .i64 m.now, .slice p1a m.iss.ws.length p1b, .int .i64 m.iss.nx, .slice p1c m.iss.rv.length p1d, .slice p1e m.iss.sg.length p1f, .slice p2x m.vs.length p2z, .slice p3x m.sc.length p3z, .slice p4x m.dl.length p4z] 41) = W0 at *
    refine (fitsMesh_any _ m _ (hM.below hBB)).mono ?_
    rintro e w1 ⟨rfl, hB1⟩
    rw [HO.out]
    go_wp2_with fail
    go_ret
    exact ⟨ret_bool HR.out.symm, below_one hBB hB1⟩
  go_enter Tryd.func7, Tryd.ntmps7
  go_wp2_with fail
  generalize w.alloc (.cells #[.int .i64 m.now, .slice p1a m.iss.ws.length p1b, .int .i64 m.iss.nx, .slice p1c m.iss.rv.length p1d, .slice p1e m.iss.sg.length p1f, .slice p2x m.vs.length p2z, .slice p3x m.sc.length p3z, .slice p4x m.dl.length p4z] 41) = W0 at *
  refine (fitsMesh_any _ m _ (hM.below hBB)).mono ?_
  rintro e w1 ⟨rfl, hB1⟩
  rw [HO.out]
  replace F := F.below hB1
  replace hBB := below_one hBB hB1
  clear hB1
  obtain ⟨a0, a1, a2, a3, a4, a5, a6, a7⟩ := F.c
  go_wp2_with fail
  clear a0 a1 a2 a3 a4 a5 a6 a7
  go_loopw [11] (fun i wr => ∃ n : Nat, n ≤ m.sc.length ∧ i = .int .i64 n ∧ mlTo m n = true ∧ Below w.heap.size w wr ∧ Eight wr 41 w.heap.size (.int .i64 m.now) (.slice p1a m.iss.ws.length p1b) (.int .i64 m.iss.nx) (.slice p1c m.iss.rv.length p1d) (.slice p1e m.iss.sg.length p1f) (.slice p2x m.vs.length p2z) (.slice p3x m.sc.length p3z) (.slice p4x m.dl.length p4z)) (fun i _ => m.sc.length - (intOf i).toNat)
  case atStart => exact ⟨0, Nat.zero_le _, rfl, mlTo_zero _, hBB, F⟩
  case round =>
    obtain ⟨n, hn, rfl, hl, hB, FR⟩ := hrel
    have HL := hid hl
    clear hl
    by_cases hlt : n < m.sc.length
    · obtain ⟨b, off, cs, hbe, hb, hcap, hq, hA⟩ := (h3.below (fun _ _ h => h.below hB) hB).at hlt
      subst hbe
      have hA0 := hA
      obtain ⟨q1a, q1b, q1c, q1d, q1e, q1f, q1g, q1h, q1i, q1j, q2x, q2z, q3x, q3z, hcs, g1, g2, g3⟩ := hA
      subst hcs
      have q0 := hq 0 _ rfl
      have q1 := hq 1 _ rfl
      have q2 := hq 2 _ rfl
      have q3 := hq 3 _ rfl
      have q4 := hq 4 _ rfl
      have q5 := hq 5 _ rfl
      have q6 := hq 6 _ rfl
      have q7 := hq 7 _ rfl
      have q8 := hq 8 _ rfl
      have q9 := hq 9 _ rfl
      rw [Nat.add_zero] at q0
      have hfz := (hs.2.2.1.2 m.sc[n] (List.getElem_mem hlt)).2.2.2.2
      have hfl := (hs.2.2.1.2 m.sc[n] (List.getElem_mem hlt)).2.2.2.1
      have hus := hu m.sc[n] (List.getElem_mem hlt)
      have HS := hid (mlTo_succ hlt)
      have HN := hid (fun hb => ml_no (m := m) (n := n) hlt hb)
      generalize m.sc[n] = r at *
      have hBa : Below wr.heap.size wr (wr.alloc (.cells #[.string r.name, .int .i64 r.sd.fo.num, .slice q1a r.sd.fo.pol.length q1b, .slice q1c r.sd.fo.rv.length q1d, .int .i64 r.sd.co, .slice q1e r.sd.ru.length q1f, .slice q1g r.sd.ha.length q1h, .slice q1i r.sd.se.length q1j, .slice q2x r.qu.length q2z, .slice q3x r.lg.length q3z] 58)) := (Below.refl _ wr).alloc (Nat.le_refl _) _
      have hBr := below_one hB hBa
      have g3' := g3.below hBa
      clear hq h3
      go_wp2_with fail
      generalize wr.alloc (.cells #[.string r.name, .int .i64 r.sd.fo.num, .slice q1a r.sd.fo.pol.length q1b, .slice q1c r.sd.fo.rv.length q1d, .int .i64 r.sd.co, .slice q1e r.sd.ru.length q1f, .slice q1g r.sd.ha.length q1h, .slice q1i r.sd.se.length q1j, .slice q2x r.qu.length q2z, .slice q3x r.lg.length q3z] 58) = Wr at *
      refine (implGoodLog_any _ r.lg _ (HTB.out.on hBr) (Nat.le_succ_of_le hfl) hfz hus g3').mono ?_
      rintro e w3 ⟨rfl, hB3⟩
      replace hBr := below_one hBr hB3
      cases hg : glB r.lg
      · have HR := hid (HN.out hg)
        go_wp2_with fail
        go_ret
        exact ⟨ret_bool HR.out.symm, hBr⟩
      · have hl1 : mlTo m (n + 1) = true := by rw [HS.out, HL.out, hg]; rfl
        replace FR := (FR.below hBa).below hB3
        have HL1 := hid hl1
        clear hl1 HL HS HN q0 q1 q2 q3 q4 q5 q6 q7 q8 q9 g1 g2 g3 g3' hA0 hBa hB3
        go_wp2_with fail
        go_roundw
        case rel => exact ⟨n + 1, by omega, by go_num, HL1.out, hBr, FR⟩
        case measure => simp [intOf]; omega
    · obtain rfl : n = m.sc.length := by omega
      have HR := hid (show mlX m = true by rw [ml_end HL.out, HO.out])
      go_wp2_with fail
      go_ret
      exact ⟨ret_bool HR.out.symm, hB⟩

end Go.Proofs.YtnbojbcljfiamaaDoor

namespace Go.Proofs.YtnbojbcljfiamaaDoor.fnExactLogsGood
open Go.ChangeShapes Go.WideShapes Go.ChangeAt Go.RowKit Go.Joins Go.Deep Go.Proofs.YtnbojbcljfiamaaDoor
open Go.ChangeMaps (open_string shut_string)

theorem own : ownKnob Tryd.prog.godebug = none := by kernel_rfl
theorem laidOut : laidOutB Tryd.prog = true := by kernel_rfl

theorem tab_same : (Rows.laid_internal_strconv_uint64pow10 : DataW Unit) = Lib.tabData .u64 Lib.pow10Tab := by kernel_rfl
/-- The table of powers of ten, as the row lists it. -/
theorem tab_of {W : World} {rest : List (String × DataW Unit)} (h : laidMet Tryd.prog (("internal/strconv.uint64pow10", Rows.laid_internal_strconv_uint64pow10) :: rest) W) : Tab W :=
  Lib.tabIs_of_head (g := 0) (t := 173) (e := 166) (n := 20) (by kernel_rfl) (by kernel_rfl) Tryd.underlying173 Tryd.underlying166 (by kernel_rfl) (by kernel_rfl) (tab_same ▸ h)

set_option maxHeartbeats 16000000 in
set_option maxRecDepth 100000 in
theorem walk (cs : List Value) (m : Ms) (w : World) (hA : MsC w cs m) (hfs : m.fits) (ht : Tab w) :
    Calls Tryd.prog 3 #[.agg cs.toArray] w fun e w' => e = .returned (.bool true) ∧ Below w.heap.size w w' := by
  obtain ⟨p1a, p1b, p1c, p1d, p1e, p1f, p2x, p2z, p3x, p3z, p4x, p4z, hcs, _⟩ := id hA
  subst hcs
  have HTB := hid ht
  clear ht
  have hu : ∀ c ∈ m.sc, ∀ r ∈ c.lg, r.su < 4294967296 := fun c hc r hr => ((hfs.2.2.1.2 c hc).2.2.2.2 r hr).2
  have hBB : Below w.heap.size w (w.alloc (.cells #[.int .i64 m.now, .slice p1a m.iss.ws.length p1b, .int .i64 m.iss.nx, .slice p1c m.iss.rv.length p1d, .slice p1e m.iss.sg.length p1f, .slice p2x m.vs.length p2z, .slice p3x m.sc.length p3z, .slice p4x m.dl.length p4z] 31)) := (Below.refl _ w).alloc (Nat.le_refl _) _
  have F := Eight.new w (.int .i64 m.now) (.slice p1a m.iss.ws.length p1b) (.int .i64 m.iss.nx) (.slice p1c m.iss.rv.length p1d) (.slice p1e m.iss.sg.length p1f) (.slice p2x m.vs.length p2z) (.slice p3x m.sc.length p3z) (.slice p4x m.dl.length p4z) 31
  by_cases hC : m.size ≤ 1048576
  case neg =>
    have HU := hid (show leftK 1048576 m.size = -1 from if_neg (by omega))
    go_enter Tryd.func3, Tryd.ntmps3
    go_wp2_with fail
    generalize w.alloc (.cells #[.int .i64 m.now, .slice p1a m.iss.ws.length p1b, .int .i64 m.iss.nx, .slice p1c m.iss.rv.length p1d, .slice p1e m.iss.sg.length p1f, .slice p2x m.vs.length p2z, .slice p3x m.sc.length p3z, .slice p4x m.dl.length p4z] 31) = W0 at *
    refine (szMesh_any _ m _ hfs (hA.below hBB)).mono ?_
    rintro e w1 ⟨rfl, hB1⟩
    rw [HU.out]
    replace hBB := below_one hBB hB1
    go_wp2_with fail
    go_ret
    exact ⟨rfl, hBB⟩
  have HU := hid (show leftK 1048576 m.size = 1048576 - m.size from if_pos (by omega))
  have d1 : decide ((1048576 : Int) - (m.size : Int) < 0) = false := by simp; omega
  have hS := Ms.short_of hC
  obtain ⟨ok, HO⟩ : ∃ ok, Hid (mlX m = ok) := ⟨_, hid rfl⟩
  go_enter Tryd.func3, Tryd.ntmps3
  go_wp2_with fail
  generalize w.alloc (.cells #[.int .i64 m.now, .slice p1a m.iss.ws.length p1b, .int .i64 m.iss.nx, .slice p1c m.iss.rv.length p1d, .slice p1e m.iss.sg.length p1f, .slice p2x m.vs.length p2z, .slice p3x m.sc.length p3z, .slice p4x m.dl.length p4z] 31) = W0 at *
  refine (szMesh_any _ m _ hfs (hA.below hBB)).mono ?_
  rintro e w1 ⟨rfl, hB1⟩
  rw [HU.out]
  replace F := F.below hB1
  replace hBB := below_one hBB hB1
  clear hB1
  obtain ⟨a0, a1, a2, a3, a4, a5, a6, a7⟩ := F.c
  go_wp2_with fail
  refine (toMesh_any _ m _ hS (hA.below hBB)).mono ?_
  rintro e w2 ⟨cs2, rfl, O2, hB2⟩
  obtain ⟨y1a, y1b, y1c, y1d, y1e, y1f, y2x, y2z, y3x, y3z, y4x, y4z, hcs2, _⟩ := O2.a
  subst hcs2
  replace F := F.below hB2
  replace hBB := below_one hBB hB2
  clear hB2 a0 a1 a2 a3 a4 a5 a6 a7
  go_wp2_with fail
  refine (specLogsGood_any _ m _ hS hu O2.a).mono ?_
  rintro e w3 ⟨rfl, hB3⟩
  rw [HO.out]
  replace F := F.below hB3
  replace hBB := below_one hBB hB3
  clear hB3 O2
  have z0 := F.lt
  obtain ⟨a0, a1, a2, a3, a4, a5, a6, a7⟩ := F.c
  go_wp2_with fail
  refine (toMesh_any _ m _ hS (hA.below hBB)).mono ?_
  rintro e w4 ⟨cs4, rfl, OX, hB4⟩
  obtain ⟨x1a, x1b, x1c, x1d, x1e, x1f, x2x, x2z, x3x, x3z, x4x, x4z, hcs4, _⟩ := OX.a
  subst hcs4
  have z4 := hB4.size
  replace F := F.below hB4
  replace hBB := below_one hBB hB4
  replace OX := OX.a
  clear hB4 a0 a1 a2 a3 a4 a5 a6 a7
  have hBv : Below w4.heap.size w4 (w4.alloc (.cells #[.int .i64 m.now, .slice x1a m.iss.ws.length x1b, .int .i64 m.iss.nx, .slice x1c m.iss.rv.length x1d, .slice x1e m.iss.sg.length x1f, .slice x2x m.vs.length x2z, .slice x3x m.sc.length x3z, .slice x4x m.dl.length x4z] 41)) := (Below.refl _ w4).alloc (Nat.le_refl _) _
  have FX := Eight.new w4 (.int .i64 m.now) (.slice x1a m.iss.ws.length x1b) (.int .i64 m.iss.nx) (.slice x1c m.iss.rv.length x1d) (.slice x1e m.iss.sg.length x1f) (.slice x2x m.vs.length x2z) (.slice x3x m.sc.length x3z) (.slice x4x m.dl.length x4z) 41
  replace F := F.below hBv
  replace OX := OX.below hBv
  replace hBB := below_one hBB hBv
  clear hBv
  obtain ⟨a0, a1, a2, a3, a4, a5, a6, a7⟩ := FX.c
  go_wp2_with fail
  generalize w4.alloc (.cells #[.int .i64 m.now, .slice x1a m.iss.ws.length x1b, .int .i64 m.iss.nx, .slice x1c m.iss.rv.length x1d, .slice x1e m.iss.sg.length x1f, .slice x2x m.vs.length x2z, .slice x3x m.sc.length x3z, .slice x4x m.dl.length x4z] 41) = W4 at *
  generalize w4.heap.size = kx at *
  have zx := FX.lt
  refine (implLogsGood_any _ m _ (HTB.out.on hBB) hS hu OX).mono ?_
  rintro e w6 ⟨rfl, hB6⟩
  rw [HO.out]
  replace F := F.below hB6
  replace OX := OX.below hB6
  replace FX := FX.below hB6
  replace hBB := below_one hBB hB6
  clear hB6 a0 a1 a2 a3 a4 a5 a6 a7
  have eo : (ok != ok) = false := by simp
  obtain ⟨a0, a1, a2, a3, a4, a5, a6, a7⟩ := F.c
  obtain ⟨b0, b1, b2, b3, b4, b5, b6, b7⟩ := FX.c
  go_wp2_with fail
  refine wp_region_held_drew (S := fun w' => w'.cell? ⟨kx, 0, none⟩ = some (.int .i64 m.now) ∧ w'.cell? ⟨kx, 1, none⟩ = some (.slice x1a m.iss.ws.length x1b) ∧ w'.cell? ⟨kx, 2, none⟩ = some (.int .i64 m.iss.nx) ∧ w'.cell? ⟨kx, 3, none⟩ = some (.slice x1c m.iss.rv.length x1d) ∧ w'.cell? ⟨kx, 4, none⟩ = some (.slice x1e m.iss.sg.length x1f) ∧ w'.cell? ⟨kx, 5, none⟩ = some (.slice x2x m.vs.length x2z) ∧ w'.cell? ⟨kx, 6, none⟩ = some (.slice x3x m.sc.length x3z) ∧ w'.cell? ⟨kx, 7, none⟩ = some (.slice x4x m.dl.length x4z) ∧ w'.cell? ⟨w.heap.size, 0, none⟩ = some (.int .i64 m.now) ∧ w'.cell? ⟨w.heap.size, 1, none⟩ = some (.slice p1a m.iss.ws.length p1b) ∧ w'.cell? ⟨w.heap.size, 2, none⟩ = some (.int .i64 m.iss.nx) ∧ w'.cell? ⟨w.heap.size, 3, none⟩ = some (.slice p1c m.iss.rv.length p1d) ∧ w'.cell? ⟨w.heap.size, 4, none⟩ = some (.slice p1e m.iss.sg.length p1f) ∧ w'.cell? ⟨w.heap.size, 5, none⟩ = some (.slice p2x m.vs.length p2z) ∧ w'.cell? ⟨w.heap.size, 6, none⟩ = some (.slice p3x m.sc.length p3z) ∧ w'.cell? ⟨w.heap.size, 7, none⟩ = some (.slice p4x m.dl.length p4z)) (by kernel_rfl) ?_ (fun hHeld => ?_)
  · go_keep
  refine takeW 0 (v := ?v1) rfl (by kernel_rfl) (by kernel_rfl) (by kernel_rfl) (fun _ _ _ h => h) (by rfl) (by assumption) ?hy1 ?rest1
  case hy1 => intro w' hSw; (try dsimp only at hSw); go_simp; try with_reducible rfl
  try simp only [Act.put, List.setIfInBounds_toArray, List.set_cons_zero, List.set_cons_succ]
  refine takeW 1 (v := ?v2) rfl (by kernel_rfl) (by kernel_rfl) (by kernel_rfl) (fun _ _ _ h => h) (by rfl) (by assumption) ?hy2 ?rest2
  case hy2 => intro w' hSw; (try dsimp only at hSw); go_simp; try with_reducible rfl
  try simp only [Act.put, List.setIfInBounds_toArray, List.set_cons_zero, List.set_cons_succ]
  refine takeC 2 (by kernel_rfl) rfl (fun K hK => ?_)
  go_simp
  refine (toMesh_any _ m _ hS (by exact (hA.below hBB).below (Below.refl _ _).drew)).mono ?_; rintro e w8 ⟨cs9, rfl, O9, hB9⟩; obtain ⟨z1a, z1b, z1c, z1d, z1e, z1f, z2x, z2z, z3x, z3z, z4x, z4z, hcs9, _⟩ := O9.a; subst hcs9; have hcx := fun o => hB9.cell (p := ⟨kx, o, none⟩) (by exact FX.lt); have hca := fun o => hB9.cell (p := ⟨w.heap.size, o, none⟩) (by exact F.lt)
  refine hK.out _ _ ?_ (fun hHeld => ?_)
  · go_keep
  clear hK K
  try simp only [Act.put, List.setIfInBounds_toArray, List.set_cons_zero, List.set_cons_succ]
  refine takeC 3 (by kernel_rfl) rfl (fun K hK => ?_)
  go_simp
  refine (eqMesh_same _ _ m _ hS (by exact OX.below (below_drew1 hB9)) O9.a).mono ?_; rintro e w9 ⟨rfl, hB10⟩; have hcx2 := fun o => hB10.cell (p := ⟨kx, o, none⟩) (by exact Nat.lt_of_lt_of_le FX.lt (below_drew1 hB9).size); have hca2 := fun o => hB10.cell (p := ⟨w.heap.size, o, none⟩) (by exact Nat.lt_of_lt_of_le F.lt (below_drew1 hB9).size)
  refine hK.out _ _ ?_ (fun hHeld => ?_)
  · go_keep
  clear hK K
  try simp only [Act.put, List.setIfInBounds_toArray, List.set_cons_zero, List.set_cons_succ]
  refine takeW 4 (v := ?v3) rfl (by kernel_rfl) (by kernel_rfl) (by kernel_rfl) (fun _ _ _ h => h) (by rfl) (by assumption) ?hy3 ?rest3
  case hy3 => intro w' hSw; (try dsimp only at hSw); go_simp; try with_reducible rfl
  try simp only [Act.put, List.setIfInBounds_toArray, List.set_cons_zero, List.set_cons_succ]
  refine wpAnyH_done (by kernel_rfl) ?_ _
  have hBd : Below w6.heap.size w6 w9 := below_one (below_drew1 hB9) hB10
  clear hcx hca hcx2 hca2 hB9 hB10 hHeld O9 a0 a1 a2 a3 a4 a5 a6 a7 b0 b1 b2 b3 b4 b5 b6 b7
  replace F := F.below hBd
  replace OX := OX.below hBd
  replace FX := FX.below hBd
  replace hBB := below_one hBB hBd
  clear hBd
  go_wp2_with fail
  go_ret
  exact ⟨rfl, hBB⟩

set_option maxRecDepth 100000 in
theorem contract (H : Type) (enc : TypeId × Value → H) (W : World) (base : Nat) (args : Array Value) (ds gs : List (DataW H)) (before : List MemPlace)
    (hval : ∀ (j : Nat) t v, Tryd.f3.params[j]? = some t → args[j]? = some v → Value.okWide Tryd.prog W .any base t v)
    (hW : DataW.Whole enc Tryd.prog Tryd.f3.params.toList Rows.fnExactLogsGoodSpec.vars false W args.toList ds gs before) (hL : laidMet Tryd.prog Rows.fnExactLogsGoodRow.laid W) :
    Calls Tryd.prog 3 args W fun e W' => ∃ v, e = .returned v ∧ Rows.fnExactLogsGoodSpec.post enc Tryd.prog Tryd.f3 false true false false W args v W' := by
  have hW' := hW
  obtain ⟨p, q, hA0, hV, rfl, _, _⟩ := hW
  have hA : DataW.TrodAll enc Tryd.prog W 0 (fun _ => true) true Tryd.f3.params.toList args.toList ds p := hA0
  rw [Tryd.params3] at hA hval
  obtain ⟨v0, vs0, d0, ds0, p0, q0, hargs, rfl, rfl, h0, r0⟩ := trodAll_cons hA
  obtain ⟨rfl, rfl, rfl⟩ := trodAll_nil r0
  obtain rfl : args = #[v0] := by cases args; simp_all
  obtain ⟨rfl, rfl⟩ := trodVars_none hV
  have k0 := h0
  have lt0 : ∀ x ∈ p0, x.block < W.heap.size := by obtain ⟨m, hm⟩ := k0; exact DataW.trod_lt m _ _ _ hm
  obtain ⟨cs0, a0, rfl, w0, f0⟩ := openMs (hval 0 31 v0 rfl rfl) h0
  clear hA0
  refine (walk cs0 a0 W w0 f0 (tab_of hL.tail.tail)).mono fun e W' ⟨he, bel⟩ => ?_
  subst he
  exact ⟨_, rfl, _, _, _, [], _, [], hW', trodAll_mk1 (shut_bool Tryd.underlying4 _), (trodAll_cons_mk (Below.trod laidOut (by kernel_rfl) (of_decide_eq_true (by kernel_rfl)) k0 bel lt0) trodAll_mk0), rfl, bel.frame _, fun h => by cases h⟩

/-- A world for the witness: the settled one, the listed tables laid. -/
theorem laid_met (os : Os) : laidMet Tryd.prog Rows.fnExactLogsGoodRow.laid ((World.laidAll Tryd.prog os Rows.fnExactLogsGoodRow.laid).forCall (fun _ _ => 0) ⟨#[], #[.agg #[.int .i64 0, .slice none 0 0, .int .i64 0, .slice none 0 0, .slice none 0 0, .slice none 0 0, .slice none 0 0, .slice none 0 0]], []⟩).memory :=
  laidMet_laidAll _ (by kernel_rfl) (by kernel_rfl)
theorem reads (os : Os) {H : Type} (enc : TypeId × Value → H) : ∃ places, DataW.whole enc Tryd.prog ((World.laidAll Tryd.prog os Rows.fnExactLogsGoodRow.laid).forCall (fun _ _ => 0) ⟨#[], #[.agg #[.int .i64 0, .slice none 0 0, .int .i64 0, .slice none 0 0, .slice none 0 0, .slice none 0 0, .slice none 0 0, .slice none 0 0]], []⟩).memory Tryd.f3.params.toList Rows.fnExactLogsGoodSpec.vars false #[Value.agg #[.int .i64 0, .slice none 0 0, .int .i64 0, .slice none 0 0, .slice none 0 0, .slice none 0 0, .slice none 0 0, .slice none 0 0]].toList 8 = some ([.agg [.lit (.int .i64 0), .agg [.nil, .lit (.int .i64 0), .nil, .nil], .nil, .nil, .nil]], [], places) :=
  ⟨[], by kernel_rfl⟩

set_option maxRecDepth 100000 in
theorem lifted (os : Os) (started : os.Started) (H : Type) (enc : TypeId × Value → H) (F : Stop.Interp) :
    ReturnsInHanded {} Tryd.checked os 3 .any ((OpenSpec.ofChange Rows.fnExactLogsGoodSpec).preRow enc Tryd.prog Tryd.f3 Rows.fnExactLogsGoodRow.domain false Rows.fnExactLogsGoodRow.laid) (((OpenSpec.ofChange Rows.fnExactLogsGoodSpec).at F).post enc Tryd.prog Tryd.f3 false true false false) := by
  obtain ⟨places, hx⟩ := reads os enc
  refine returnsInHanded_of_row (C := Tryd.checked) (s := OpenSpec.ofChange Rows.fnExactLogsGoodSpec) own started (by kernel_rfl) Tryd.func3
    (witness_row_at (enc := enc) (C := Tryd.checked) false (World.laidAll Tryd.prog os Rows.fnExactLogsGoodRow.laid) #[.agg #[.int .i64 0, .slice none 0 0, .int .i64 0, .slice none 0 0, .slice none 0 0, .slice none 0 0, .slice none 0 0, .slice none 0 0]] (World.laidAll_os _ _ _) (by kernel_rfl) (by kernel_rfl) (by kernel_rfl)
      (OpenSpec.preRow_of_cond 8 hx (by kernel_rfl) (fun k hk => by cases hk) (by kernel_rfl) (laid_met os))) ?_
  intro W base args ds gs before hval hW _ _ _ hL hsh _
  have hL' : laidMet Tryd.prog Rows.fnExactLogsGoodRow.laid W := by
    rw [← Go.MakeChecks.laidMetH_plain _ _ _ (by kernel_rfl)]
    exact hL
  exact contract H enc W base args ds gs before hval hW hL'

theorem said : Rows.FnExactLogsGoodSaid :=
  OpenClaim.holds_of_cond 3 Tryd.f3 rfl rfl rfl rfl rfl rfl rfl ⟨rfl, rfl, rfl, rfl, rfl⟩ rfl rfl rfl rfl rfl (by kernel_rfl) Tryd.func3 (by kernel_rfl)
    (of_decide_eq_true (by kernel_rfl)) (by unfold Func.isWrapper; first | (rw [if_pos (by decide +kernel)]; kernel_rfl) | (rw [if_neg (by decide +kernel)]; exact ⟨rfl, rfl⟩))
    (fun os started H enc _ F => by rw [OpenClaim.pre_eq_preRow]; exact lifted os started H enc F)

theorem plain (f : FuncId) (fn : Func) (hf : Tryd.pinned.checked.prog.funcNamed "loop.example/g00167/laws.FnExactLogsGood" = some f) (hfn : Tryd.pinned.checked.prog.funcs[f]? = some fn) :
    Rows.fnExactLogsGoodCard.stood.looks = Tryd.pinned.checked.prog.looks [] ∧ ∀ (j : Nat) t, fn.params[j]? = some t → Tryd.pinned.checked.prog.wantsStandIn t = false := by
  obtain rfl : f = 3 := Option.some.inj ((show Tryd.prog.funcNamed "loop.example/g00167/laws.FnExactLogsGood" = some 3 by kernel_rfl).symm.trans hf) |>.symm
  obtain rfl : fn = Tryd.f3 := (Option.some.inj (Tryd.func3.symm.trans hfn)).symm
  refine ⟨by kernel_rfl, fun j t ht => ?_⟩
  rw [Tryd.params3] at ht
  have hm := Array.mem_of_getElem? ht
  have hall : ∀ t, t ∈ #[31] → Tryd.prog.wantsStandIn t = false := by
    have h : (#[31] : Array TypeId).all (fun t => Tryd.prog.wantsStandIn t == false) = true := by kernel_rfl
    intro t ht
    have := (Array.all_eq_true_iff_forall_mem).1 h t ht
    simpa using this
  exact hall t hm

theorem card : Rows.FnExactLogsGoodCardSaid :=
  Claim7.holds_tied_plain_at .later [] _ _ _ _ said (fun _ h => by cases h) (by kernel_rfl) (fun _ h => by cases h) fnExactLogsGood_row_tie rfl ⟨rfl, rfl⟩ (by kernel_rfl) rfl plain (by kernel_rfl)

end Go.Proofs.YtnbojbcljfiamaaDoor.fnExactLogsGood
namespace Go.Proofs.YtnbojbcljfiamaaDoor
theorem fnExactLogsGood_holds : Rows.FnExactLogsGoodCardSaid := fnExactLogsGood.card
#print axioms fnExactLogsGood_holds
end Go.Proofs.YtnbojbcljfiamaaDoor
