/-
  Lists of versions of one's own: handed on, marked by the laws, and held against the marks.
-/
import Derived.Test.YtnbojbcljfiamaaGreatDoorJPermittedBy2
import Derived.Test.YtnbojbcljfiamaaGreatDoorJPermittedBy3
import Derived.Laws.FloatArith
import Derived.WalkKit
import Derived.ProofKit
import Derived.OpenShut
import Derived.Lib.SmallJoins
import Derived.Deep.Slices
import Derived.Test.YtnbojbcljfiamaaGreatDoorJPermittedBy0
import Derived.Deep.RegionHeld3
namespace Go.Proofs.YtnbojbcljfiamaaGreatDoor
open Go.RowKit Go.Shelf

/-- A sidecar. -/
structure Sc where
  name : ByteArray
  sd : Sd
  qu : List Ak
  lg : List Rc
instance : Inhabited Sc := ⟨⟨ByteArray.empty, Sd.none, [], []⟩⟩
/-- These cells read as this one. -/
def ScC (w : World) (cs : List Value) (c : Sc) : Prop := ∃ p1a p1b p1c p1d p1e p1f p1g p1h p1i p1j p2x p2z p3x p3z, cs = [.string c.name, .int .i64 c.sd.fo.num, .slice p1a c.sd.fo.pol.length p1b, .slice p1c c.sd.fo.rv.length p1d, .int .i64 c.sd.co, .slice p1e c.sd.ru.length p1f, .slice p1g c.sd.ha.length p1h, .slice p1i c.sd.se.length p1j, .slice p2x c.qu.length p2z, .slice p3x c.lg.length p3z] ∧ SdA w (.agg #[.int .i64 c.sd.fo.num, .slice p1a c.sd.fo.pol.length p1b, .slice p1c c.sd.fo.rv.length p1d, .int .i64 c.sd.co, .slice p1e c.sd.ru.length p1f, .slice p1g c.sd.ha.length p1h, .slice p1i c.sd.se.length p1j]) c.sd ∧ GsA 3 AkC w (.slice p2x c.qu.length p2z) c.qu ∧ RcS w (.slice p3x c.lg.length p3z) c.lg
/-- .. of one's own, in blocks from base on, below top. -/
def ScO (w : World) (base top : Nat) (cs : List Value) (c : Sc) : Prop := ∃ p1a p1b p1c p1d p1e p1f p1g p1h p1i p1j p2x p2z p3x p3z m1 m2, cs = [.string c.name, .int .i64 c.sd.fo.num, .slice p1a c.sd.fo.pol.length p1b, .slice p1c c.sd.fo.rv.length p1d, .int .i64 c.sd.co, .slice p1e c.sd.ru.length p1f, .slice p1g c.sd.ha.length p1h, .slice p1i c.sd.se.length p1j, .slice p2x c.qu.length p2z, .slice p3x c.lg.length p3z] ∧ base ≤ m1 ∧ m1 ≤ m2 ∧ m2 ≤ top ∧ SdO w base m1 (.agg #[.int .i64 c.sd.fo.num, .slice p1a c.sd.fo.pol.length p1b, .slice p1c c.sd.fo.rv.length p1d, .int .i64 c.sd.co, .slice p1e c.sd.ru.length p1f, .slice p1g c.sd.ha.length p1h, .slice p1i c.sd.se.length p1j]) c.sd ∧ GsO 46 3 AkO w m1 m2 (.slice p2x c.qu.length p2z) c.qu ∧ RoO 224 3 w m2 top (.slice p3x c.lg.length p3z) c.lg.length (c.lg.flatMap Rc.cells)
def Sc.fits (c : Sc) : Prop := c.name.size ≤ maxLen ∧ c.sd.fits ∧ (c.qu.length ≤ maxLen ∧ ∀ k ∈ c.qu, k.fits) ∧ (c.lg.length ≤ maxLen ∧ ∀ k ∈ c.lg, k.fits)
def Sc.size (c : Sc) : Nat := c.name.size + c.sd.size + gzAll Ak.size c.qu + rczAll c.lg
def Sc.short (c : Sc) : Prop := c.name.size ≤ 1048576 ∧ c.sd.short ∧ gShort Ak.short c.qu ∧ (c.lg.length ≤ 1048576 ∧ ∀ k ∈ c.lg, k.note.size ≤ 1048576)
theorem ScC.below {w w' : World} {cs : List Value} {c : Sc} (h : ScC w cs c) (hB : Below w.heap.size w w') : ScC w' cs c := by
  obtain ⟨p1a, p1b, p1c, p1d, p1e, p1f, p1g, p1h, p1i, p1j, p2x, p2z, p3x, p3z, rfl, h0, h1, h2⟩ := h
  exact ⟨_, _, _, _, _, _, _, _, _, _, _, _, _, _, rfl, h0.below hB, (GsA.below h1 (fun _ _ h => h.below hB) hB), h2.below hB⟩
theorem ScO.mid {lo hi : Nat} {w w1 : World} {base top : Nat} {cs : List Value} {c : Sc} (h : ScO w base top cs c) (M : Mid lo hi w w1) (ho : hi ≤ base ∨ top ≤ lo) : ScO w1 base top cs c := by
  obtain ⟨p1a, p1b, p1c, p1d, p1e, p1f, p1g, p1h, p1i, p1j, p2x, p2z, p3x, p3z, m1, m2, rfl, g0, g1, g2, h0, h1, h2⟩ := h
  exact ⟨_, _, _, _, _, _, _, _, _, _, _, _, _, _, m1, m2, rfl, g0, g1, g2, Mid.sdo M h0 (by omega), GsO.mid h1 (fun _ _ _ _ h ho => h.mid M ho) M (by omega), h2.mid M (by omega)⟩
theorem ScO.below {w w1 : World} {base top : Nat} {cs : List Value} {c : Sc} (h : ScO w base top cs c) (hB : Below w.heap.size w w1) : ScO w1 base top cs c := h.mid (Mid.of_below (lo := 0) (hi := 0) hB) (.inl (Nat.zero_le _))
theorem ScO.mono {w : World} {base base' top top' : Nat} {cs : List Value} {c : Sc} (h : ScO w base top cs c) (hb : base' ≤ base) (ht : top ≤ top') : ScO w base' top' cs c := by
  obtain ⟨p1a, p1b, p1c, p1d, p1e, p1f, p1g, p1h, p1i, p1j, p2x, p2z, p3x, p3z, m1, m2, rfl, g0, g1, g2, h0, h1, h2⟩ := h
  exact ⟨_, _, _, _, _, _, _, _, _, _, _, _, _, _, m1, m2, rfl, by omega, by omega, by omega, SdO.mono h0 hb (Nat.le_refl _), GsO.mono h1 (Nat.le_refl _) (Nat.le_refl _), h2.mono (Nat.le_refl _) ht⟩
theorem Sc.short_of {c : Sc} (h : c.size ≤ 1048576) : c.short := by
  unfold Sc.size gzAll rczAll at h
  exact ⟨by omega, Sd.short_of (by omega), ⟨by omega, fun a ha => Ak.short_of (by have := gz_mem (f := Ak.size) ha; omega)⟩, by omega, fun k hk => by have := rcz_mem hk; omega⟩
theorem ScO.a {w : World} {base top : Nat} {cs : List Value} {c : Sc} (h : ScO w base top cs c) : ScC w cs c := by
  obtain ⟨p1a, p1b, p1c, p1d, p1e, p1f, p1g, p1h, p1i, p1j, p2x, p2z, p3x, p3z, m1, m2, rfl, g0, g1, g2, h0, h1, h2⟩ := h
  exact ⟨_, _, _, _, _, _, _, _, _, _, _, _, _, _, rfl, h0.a, GsO.a (fun _ _ _ _ h => h.a) h1, RcS.own h2.1⟩

set_option maxRecDepth 100000 in
theorem cellsSidecar : Tryz.prog.cellsOf 150 = 10 := by kernel_rfl
set_option maxRecDepth 100000 in
open Go.Deep Go.ChangeShapes Go.WideShapes Go.ChangeAt Go.Joins in
/-- The cells of a side that comes in. -/
theorem openSdC {H : Type} {enc : TypeId × Value → H} {W : World} {c0 c1 c2 c3 c4 c5 c6 : Value} {y : DataW H × List MemPlace} {fuel : Nat} (hf : DataW.trod enc Tryz.prog W 0 (fun _ => true) true fuel 28 [c0, c1, c2, c3, c4, c5, c6] = some y) :
    ∃ s : Sd, SdA W (.agg #[c0, c1, c2, c3, c4, c5, c6]) s ∧ s.fits := by
  obtain ⟨xs, n, _, _, _, hlen, hfs⟩ := DataW.trod_struct Tryz.underlying28 hf
  obtain ⟨y0, y1, y2, y3, y4, rfl⟩ : ∃ y0 y1 y2 y3 y4, xs = [y0, y1, y2, y3, y4] := by
    match xs, hlen with
    | [y0, y1, y2, y3, y4], _ => exact ⟨y0, y1, y2, y3, y4, rfl⟩
  have ci : Tryz.prog.cellsOf 3 = 1 := by kernel_rfl
  have cr : Tryz.prog.cellsOf 22 = 1 := by kernel_rfl
  have cb : Tryz.prog.cellsOf 26 = 1 := by kernel_rfl
  have cn : Tryz.prog.cellsOf 23 = 1 := by kernel_rfl
  have h0 : DataW.trod enc Tryz.prog W 0 (fun _ => true) true n 25 [c0, c1, c2] = some y0 := by have := hfs 0 _ rfl; simpa [Value.cells, cellsSnapshot] using this
  have h1 : DataW.trod enc Tryz.prog W 0 (fun _ => true) true n 3 [c3] = some y1 := by have := hfs 1 _ rfl; simpa [Value.cells, ci] using this
  have h2 : DataW.trod enc Tryz.prog W 0 (fun _ => true) true n 22 [c4] = some y2 := by have := hfs 2 _ rfl; simpa [Value.cells, cr] using this
  have h3 : DataW.trod enc Tryz.prog W 0 (fun _ => true) true n 26 [c5] = some y3 := by have := hfs 3 _ rfl; simpa [Value.cells, cb] using this
  have h4 : DataW.trod enc Tryz.prog W 0 (fun _ => true) true n 23 [c6] = some y4 := by have := hfs 4 _ rfl; simpa [Value.cells, cn] using this
  obtain ⟨zs, n', _, _, _, hlen', hgs⟩ := DataW.trod_struct Tryz.underlying25 h0
  obtain ⟨z0, z1, z2, rfl⟩ : ∃ z0 z1 z2, zs = [z0, z1, z2] := by
    match zs, hlen' with
    | [z0, z1, z2], _ => exact ⟨z0, z1, z2, rfl⟩
  have g0 : DataW.trod enc Tryz.prog W 0 (fun _ => true) true n' 3 [c0] = some z0 := by have := hgs 0 _ rfl; simpa [Value.cells, ci] using this
  have g1 : DataW.trod enc Tryz.prog W 0 (fun _ => true) true n' 22 [c1] = some z1 := by have := hgs 1 _ rfl; simpa [Value.cells, cr] using this
  have g2 : DataW.trod enc Tryz.prog W 0 (fun _ => true) true n' 23 [c2] = some z2 := by have := hgs 2 _ rfl; simpa [Value.cells, cn] using this
  obtain ⟨x0, e0, _, _⟩ := DataW.trod_int Tryz.underlying3 g0
  obtain ⟨a1, n1, k1, rs, rfl, r1, rfl, l1, f1⟩ := openRuR g1
  obtain ⟨a2, n2, k2, rv, rfl, r2, rfl, l2⟩ := openInR g2
  obtain ⟨x3, e3, _, _⟩ := DataW.trod_int Tryz.underlying3 h1
  obtain ⟨a4, n4, k4, ru, rfl, r4, rfl, l4, f4⟩ := openRuR h2
  obtain ⟨a5, n5, k5, ha, rfl, r5, rfl, l5⟩ := openBoR h3
  obtain ⟨a6, n6, k6, se, rfl, r6, rfl, l6⟩ := openInR h4
  simp only [List.cons.injEq, and_true] at e0 e3
  subst e0 e3
  exact ⟨⟨⟨x0, rs, rv⟩, x3, ru, ha, se⟩, ⟨_, _, _, _, _, rfl, r1, r2, r4, r5, r6⟩, ⟨l1, f1, l2⟩, l4, f4, l5, l6⟩
set_option maxRecDepth 100000 in
open Go.Deep Go.ChangeShapes Go.WideShapes Go.ChangeAt Go.Joins in
theorem openScC {H : Type} {enc : TypeId × Value → H} {W : World} {l : List Value} {y : DataW H × List MemPlace} {fuel : Nat} (hsz : l.length = 10) (hf : DataW.trod enc Tryz.prog W 0 (fun _ => true) true fuel 150 l = some y) :
    ∃ c : Sc, ScC W l c ∧ c.fits := by
  obtain ⟨c0, c1, c2, c3, c4, c5, c6, c7, c8, c9, rfl⟩ : ∃ c0 c1 c2 c3 c4 c5 c6 c7 c8 c9, l = [c0, c1, c2, c3, c4, c5, c6, c7, c8, c9] := by
    match l, hsz with
    | [c0, c1, c2, c3, c4, c5, c6, c7, c8, c9], _ => exact ⟨c0, c1, c2, c3, c4, c5, c6, c7, c8, c9, rfl⟩
  obtain ⟨xs, n, _, _, _, hlen, hfs⟩ := DataW.trod_struct Tryz.underlying150 hf
  obtain ⟨y0, y1, y2, y3, rfl⟩ : ∃ y0 y1 y2 y3, xs = [y0, y1, y2, y3] := by
    match xs, hlen with
    | [y0, y1, y2, y3], _ => exact ⟨y0, y1, y2, y3, rfl⟩
  have cs : Tryz.prog.cellsOf 9 = 1 := by kernel_rfl
  have ca : Tryz.prog.cellsOf 147 = 1 := by kernel_rfl
  have cr : Tryz.prog.cellsOf 148 = 1 := by kernel_rfl
  have h0 : DataW.trod enc Tryz.prog W 0 (fun _ => true) true n 9 [c0] = some y0 := by have := hfs 0 _ rfl; simpa [Value.cells, cs] using this
  have h1 : DataW.trod enc Tryz.prog W 0 (fun _ => true) true n 28 [c1, c2, c3, c4, c5, c6, c7] = some y1 := by have := hfs 1 _ rfl; simpa [Value.cells, cs, cellsSide] using this
  have h2 : DataW.trod enc Tryz.prog W 0 (fun _ => true) true n 147 [c8] = some y2 := by have := hfs 2 _ rfl; simpa [Value.cells, cs, cellsSide, ca] using this
  have h3 : DataW.trod enc Tryz.prog W 0 (fun _ => true) true n 148 [c9] = some y3 := by have := hfs 3 _ rfl; simpa [Value.cells, cs, cellsSide, ca, cr] using this
  obtain ⟨x0, f0, _, w0⟩ := DataW.trod_string Tryz.underlying9 h0
  obtain ⟨sd, hA, w1⟩ := openSdC h1
  obtain ⟨a2, n2, k2, qs, rfl, r2, rfl, l2, f2⟩ := openGs (A := AkC) (fits := Ak.fits) Tryz.underlying147 cellsAsk (by omega) (fun l y m hl h => openAkC hl h) h2
  obtain ⟨a3, n3, k3, rs, rfl, r3, rfl, l3, f3⟩ := openRcR h3
  simp at f0
  subst f0
  obtain ⟨ua, ub, uc, ud, ue, uf, ug, uh, ui, uj, he⟩ := sd_forms hA
  cases he
  exact ⟨⟨x0, sd, qs, rs⟩, ⟨_, _, _, _, _, _, _, _, _, _, _, _, _, _, rfl, hA, r2, r3⟩, w0, w1, ⟨l2, f2⟩, l3, f3⟩

set_option maxHeartbeats 4000000 in
set_option maxRecDepth 100000 in
theorem szSidecar_any (cs : List Value) (c : Sc) (n : Int) (w : World) (h0 : 0 ≤ n) (hn : n ≤ 1048576) (hf : c.fits) (h : ScC w cs c) :
    Calls Tryz.prog 89 #[.agg cs.toArray, .int .i64 n] w fun e w' => e = .returned (.int .i64 (leftK n c.size)) ∧ Below w.heap.size w w' := by
  obtain ⟨p1a, p1b, p1c, p1d, p1e, p1f, p1g, p1h, p1i, p1j, p2x, p2z, p3x, p3z, rfl, h2, h3, h4⟩ := h
  obtain ⟨f0, f1, f2, f3⟩ := hf
  have hB0 : Below w.heap.size w (w.alloc (.cells #[.string c.name, .int .i64 c.sd.fo.num, .slice p1a c.sd.fo.pol.length p1b, .slice p1c c.sd.fo.rv.length p1d, .int .i64 c.sd.co, .slice p1e c.sd.ru.length p1f, .slice p1g c.sd.ha.length p1h, .slice p1i c.sd.se.length p1j, .slice p2x c.qu.length p2z, .slice p3x c.lg.length p3z] 150)) := (Below.refl _ w).alloc (Nat.le_refl _) _
  have F1 := Ten.new w (.string c.name) (.int .i64 c.sd.fo.num) (.slice p1a c.sd.fo.pol.length p1b) (.slice p1c c.sd.fo.rv.length p1d) (.int .i64 c.sd.co) (.slice p1e c.sd.ru.length p1f) (.slice p1g c.sd.ha.length p1h) (.slice p1i c.sd.se.length p1j) (.slice p2x c.qu.length p2z) (.slice p3x c.lg.length p3z) 150
  have HI := hid (show leftK n c.size = if (c.size : Int) ≤ n then n - (c.size : Int) else (-1 : Int) from rfl)
  have HZ := hid (show c.size = c.name.size + c.sd.size + gzAll Ak.size c.qu + rczAll c.lg from rfl)
  obtain ⟨N0, HN0⟩ : ∃ N : Nat, Hid (N = c.name.size) := ⟨_, hid rfl⟩
  obtain ⟨N1, HN1⟩ : ∃ N : Nat, Hid (N = c.sd.size) := ⟨_, hid rfl⟩
  obtain ⟨N2, HN2⟩ : ∃ N : Nat, Hid (N = gzAll Ak.size c.qu) := ⟨_, hid rfl⟩
  obtain ⟨N3, HN3⟩ : ∃ N : Nat, Hid (N = rczAll c.lg) := ⟨_, hid rfl⟩
  have HN0' := HN0.out
  have e0 : c.name.size = N0 := HN0'.symm
  have u0 : N0 ≤ 9223372036854775807 := by unfold maxLen at f0; omega
  clear HN0'
  go_enter Tryz.func89, Tryz.ntmps89
  by_cases c0 : (N0 : Int) ≤ n
  · have d0 : decide (n - (N0 : Int) < 0) = false := by simp; omega
    go_wp2_with fail
    generalize w.alloc (.cells #[.string c.name, .int .i64 c.sd.fo.num, .slice p1a c.sd.fo.pol.length p1b, .slice p1c c.sd.fo.rv.length p1d, .int .i64 c.sd.co, .slice p1e c.sd.ru.length p1f, .slice p1g c.sd.ha.length p1h, .slice p1i c.sd.se.length p1j, .slice p2x c.qu.length p2z, .slice p3x c.lg.length p3z] 150) = W0 at *
    refine (szSide_any _ c.sd (n - (N0 : Int)) _ (by omega) (by omega) f1 (h2.below hB0)).mono ?_
    rintro e w2 ⟨rfl, hB2⟩
    replace F1 := F1.below hB2
    replace hB0 := below_one hB0 hB2
    clear hB2
    obtain ⟨a0, a1, a2, a3, a4, a5, a6, a7, a8, a9⟩ := F1.c
    by_cases c1 : (N1 : Int) ≤ n - (N0 : Int)
    · rw [show leftSd (n - (N0 : Int)) c.sd = n - (N0 : Int) - (N1 : Int) from (show leftK (n - (N0 : Int)) _ = _ by unfold leftK; rw [← HN1.out]; exact if_pos c1)]
      have d1 : decide (n - (N0 : Int) - (N1 : Int) < 0) = false := by simp; omega
      go_wp2_with fail
      refine (szAskS_any _ c.qu (n - (N0 : Int) - (N1 : Int)) _ (by omega) (by omega) f2.1 f2.2 (GsA.below h3 (fun _ _ h => h.below hB0) hB0)).mono ?_
      rintro e w3 ⟨rfl, hB3⟩
      replace F1 := F1.below hB3
      replace hB0 := below_one hB0 hB3
      clear hB3
      clear a0 a1 a2 a3 a4 a5 a6 a7 a8 a9
      obtain ⟨a0, a1, a2, a3, a4, a5, a6, a7, a8, a9⟩ := F1.c
      by_cases c2 : (N2 : Int) ≤ n - (N0 : Int) - (N1 : Int)
      · rw [show leftK (n - (N0 : Int) - (N1 : Int)) (gzAll Ak.size c.qu) = n - (N0 : Int) - (N1 : Int) - (N2 : Int) from (show leftK (n - (N0 : Int) - (N1 : Int)) _ = _ by unfold leftK; rw [← HN2.out]; exact if_pos c2)]
        have d2 : decide (n - (N0 : Int) - (N1 : Int) - (N2 : Int) < 0) = false := by simp; omega
        go_wp2_with fail
        refine (szRecordS_any _ c.lg (n - (N0 : Int) - (N1 : Int) - (N2 : Int)) _ (by omega) (by omega) f3.1 f3.2 (h4.below hB0)).mono ?_
        rintro e w4 ⟨rfl, hB4⟩
        replace F1 := F1.below hB4
        replace hB0 := below_one hB0 hB4
        clear hB4
        clear a0 a1 a2 a3 a4 a5 a6 a7 a8 a9
        obtain ⟨a0, a1, a2, a3, a4, a5, a6, a7, a8, a9⟩ := F1.c
        by_cases c3 : (N3 : Int) ≤ n - (N0 : Int) - (N1 : Int) - (N2 : Int)
        · rw [show leftRc (n - (N0 : Int) - (N1 : Int) - (N2 : Int)) c.lg = n - (N0 : Int) - (N1 : Int) - (N2 : Int) - (N3 : Int) from (show leftK (n - (N0 : Int) - (N1 : Int) - (N2 : Int)) _ = _ by unfold leftK; rw [← HN3.out]; exact if_pos c3)]
          have d3 : decide (n - (N0 : Int) - (N1 : Int) - (N2 : Int) - (N3 : Int) < 0) = false := by simp; omega
          have HR := hid (show leftK n c.size = n - (N0 : Int) - (N1 : Int) - (N2 : Int) - (N3 : Int) by rw [HI.out, if_pos (by rw [HZ.out, ← HN0.out, ← HN1.out, ← HN2.out, ← HN3.out]; push_cast; omega)]; rw [HZ.out, ← HN0.out, ← HN1.out, ← HN2.out, ← HN3.out]; push_cast; omega)
          go_wp2_with fail
          go_ret
          exact ⟨ret_int HR.out.symm, hB0⟩
        · rw [show leftRc (n - (N0 : Int) - (N1 : Int) - (N2 : Int)) c.lg = -1 from (show leftK (n - (N0 : Int) - (N1 : Int) - (N2 : Int)) _ = _ by unfold leftK; rw [← HN3.out]; exact if_neg c3)]
          have HR := hid (show leftK n c.size = -1 by rw [HI.out, if_neg (by rw [HZ.out, ← HN0.out, ← HN1.out, ← HN2.out, ← HN3.out]; push_cast; omega)])
          go_wp2_with fail
          go_ret
          exact ⟨ret_int HR.out.symm, hB0⟩
      · rw [show leftK (n - (N0 : Int) - (N1 : Int)) (gzAll Ak.size c.qu) = -1 from (show leftK (n - (N0 : Int) - (N1 : Int)) _ = _ by unfold leftK; rw [← HN2.out]; exact if_neg c2)]
        have HR := hid (show leftK n c.size = -1 by rw [HI.out, if_neg (by rw [HZ.out, ← HN0.out, ← HN1.out, ← HN2.out, ← HN3.out]; push_cast; omega)])
        go_wp2_with fail
        go_ret
        exact ⟨ret_int HR.out.symm, hB0⟩
    · rw [show leftSd (n - (N0 : Int)) c.sd = -1 from (show leftK (n - (N0 : Int)) _ = _ by unfold leftK; rw [← HN1.out]; exact if_neg c1)]
      have HR := hid (show leftK n c.size = -1 by rw [HI.out, if_neg (by rw [HZ.out, ← HN0.out, ← HN1.out, ← HN2.out, ← HN3.out]; push_cast; omega)])
      go_wp2_with fail
      go_ret
      exact ⟨ret_int HR.out.symm, hB0⟩
  · have d0 : decide (n - (N0 : Int) < 0) = true := by simp; omega
    have HR := hid (show leftK n c.size = -1 by rw [HI.out, if_neg (by rw [HZ.out, ← HN0.out, ← HN1.out, ← HN2.out, ← HN3.out]; push_cast; omega)])
    go_wp2_with fail
    go_ret
    exact ⟨ret_int HR.out.symm, hB0⟩

set_option maxHeartbeats 4000000 in
set_option maxRecDepth 100000 in
theorem eqSidecar_same (cs cs' : List Value) (c : Sc) (w : World) (hs : c.short) (h : ScC w cs c) (h' : ScC w cs' c) :
    Calls Tryz.prog 93 #[.agg cs.toArray, .agg cs'.toArray] w fun e w' => e = .returned (.bool true) ∧ Below w.heap.size w w' := by
  obtain ⟨p1a, p1b, p1c, p1d, p1e, p1f, p1g, p1h, p1i, p1j, p2x, p2z, p3x, p3z, rfl, h1, h2, h3⟩ := h
  obtain ⟨q1a, q1b, q1c, q1d, q1e, q1f, q1g, q1h, q1i, q1j, q2x, q2z, q3x, q3z, rfl, h1', h2', h3'⟩ := h'
  obtain ⟨s0, s1, s2, s3⟩ := hs
  have hB0 : Below w.heap.size w ((w.alloc (.cells #[.string c.name, .int .i64 c.sd.fo.num, .slice p1a c.sd.fo.pol.length p1b, .slice p1c c.sd.fo.rv.length p1d, .int .i64 c.sd.co, .slice p1e c.sd.ru.length p1f, .slice p1g c.sd.ha.length p1h, .slice p1i c.sd.se.length p1j, .slice p2x c.qu.length p2z, .slice p3x c.lg.length p3z] 155)).alloc (.cells #[.string c.name, .int .i64 c.sd.fo.num, .slice q1a c.sd.fo.pol.length q1b, .slice q1c c.sd.fo.rv.length q1d, .int .i64 c.sd.co, .slice q1e c.sd.ru.length q1f, .slice q1g c.sd.ha.length q1h, .slice q1i c.sd.se.length q1j, .slice q2x c.qu.length q2z, .slice q3x c.lg.length q3z] 155)) := ((Below.refl _ w).alloc (Nat.le_refl _) _).alloc (by simp) _
  have F1 := (Ten.new w (.string c.name) (.int .i64 c.sd.fo.num) (.slice p1a c.sd.fo.pol.length p1b) (.slice p1c c.sd.fo.rv.length p1d) (.int .i64 c.sd.co) (.slice p1e c.sd.ru.length p1f) (.slice p1g c.sd.ha.length p1h) (.slice p1i c.sd.se.length p1j) (.slice p2x c.qu.length p2z) (.slice p3x c.lg.length p3z) 155).below ((Below.refl _ _).alloc (Nat.le_refl _) (.cells #[.string c.name, .int .i64 c.sd.fo.num, .slice q1a c.sd.fo.pol.length q1b, .slice q1c c.sd.fo.rv.length q1d, .int .i64 c.sd.co, .slice q1e c.sd.ru.length q1f, .slice q1g c.sd.ha.length q1h, .slice q1i c.sd.se.length q1j, .slice q2x c.qu.length q2z, .slice q3x c.lg.length q3z] 155))
  have F2 := Ten.at (w.alloc (.cells #[.string c.name, .int .i64 c.sd.fo.num, .slice p1a c.sd.fo.pol.length p1b, .slice p1c c.sd.fo.rv.length p1d, .int .i64 c.sd.co, .slice p1e c.sd.ru.length p1f, .slice p1g c.sd.ha.length p1h, .slice p1i c.sd.se.length p1j, .slice p2x c.qu.length p2z, .slice p3x c.lg.length p3z] 155)) (.string c.name) (.int .i64 c.sd.fo.num) (.slice q1a c.sd.fo.pol.length q1b) (.slice q1c c.sd.fo.rv.length q1d) (.int .i64 c.sd.co) (.slice q1e c.sd.ru.length q1f) (.slice q1g c.sd.ha.length q1h) (.slice q1i c.sd.se.length q1j) (.slice q2x c.qu.length q2z) (.slice q3x c.lg.length q3z) 155 (k := w.heap.size + 1) (by simp)
  have e0 : (c.name.toList == c.name.toList) = true := by simp
  go_enter Tryz.func93, Tryz.ntmps93
  go_wp2_with fail
  generalize (w.alloc (.cells #[.string c.name, .int .i64 c.sd.fo.num, .slice p1a c.sd.fo.pol.length p1b, .slice p1c c.sd.fo.rv.length p1d, .int .i64 c.sd.co, .slice p1e c.sd.ru.length p1f, .slice p1g c.sd.ha.length p1h, .slice p1i c.sd.se.length p1j, .slice p2x c.qu.length p2z, .slice p3x c.lg.length p3z] 155)).alloc (.cells #[.string c.name, .int .i64 c.sd.fo.num, .slice q1a c.sd.fo.pol.length q1b, .slice q1c c.sd.fo.rv.length q1d, .int .i64 c.sd.co, .slice q1e c.sd.ru.length q1f, .slice q1g c.sd.ha.length q1h, .slice q1i c.sd.se.length q1j, .slice q2x c.qu.length q2z, .slice q3x c.lg.length q3z] 155) = W0 at *
  refine (eqSide_same _ _ c.sd _ s1 (h1.below hB0) (h1'.below hB0)).mono ?_
  rintro e w2 ⟨rfl, hB2⟩
  replace F1 := F1.below hB2
  replace F2 := F2.below hB2
  replace hB0 := below_one hB0 hB2
  clear hB2
  obtain ⟨a0, a1, a2, a3, a4, a5, a6, a7, a8, a9⟩ := F1.c
  obtain ⟨c0, c1, c2, c3, c4, c5, c6, c7, c8, c9⟩ := F2.c
  go_wp2_with fail
  refine (eqAskS_same _ _ c.qu _ s2 (GsA.below h2 (fun _ _ h => h.below hB0) hB0) (GsA.below h2' (fun _ _ h => h.below hB0) hB0)).mono ?_
  rintro e w3 ⟨rfl, hB3⟩
  clear a0 a1 a2 a3 a4 a5 a6 a7 a8 a9 c0 c1 c2 c3 c4 c5 c6 c7 c8 c9
  replace F1 := F1.below hB3
  replace F2 := F2.below hB3
  replace hB0 := below_one hB0 hB3
  clear hB3
  obtain ⟨a0, a1, a2, a3, a4, a5, a6, a7, a8, a9⟩ := F1.c
  obtain ⟨c0, c1, c2, c3, c4, c5, c6, c7, c8, c9⟩ := F2.c
  go_wp2_with fail
  refine (eqRecordS_same _ _ c.lg _ (Nat.le_succ_of_le s3.1) (h3.below hB0) (h3'.below hB0)).mono ?_
  rintro e w4 ⟨rfl, hB4⟩
  clear a0 a1 a2 a3 a4 a5 a6 a7 a8 a9 c0 c1 c2 c3 c4 c5 c6 c7 c8 c9
  replace F1 := F1.below hB4
  replace F2 := F2.below hB4
  replace hB0 := below_one hB0 hB4
  clear hB4
  obtain ⟨a0, a1, a2, a3, a4, a5, a6, a7, a8, a9⟩ := F1.c
  obtain ⟨c0, c1, c2, c3, c4, c5, c6, c7, c8, c9⟩ := F2.c
  go_wp2_with fail
  go_ret
  exact ⟨rfl, hB0⟩

set_option maxHeartbeats 16000000 in
set_option maxRecDepth 100000 in
theorem toSidecar_any (cs : List Value) (c : Sc) (w : World) (hs : c.short) (h : ScC w cs c) :
    Calls Tryz.prog 91 #[.agg cs.toArray] w fun e w' => ∃ cs', e = .returned (.agg cs'.toArray) ∧ ScO w' w.heap.size w'.heap.size cs' c ∧ Below w.heap.size w w' := by
  obtain ⟨p1a, p1b, p1c, p1d, p1e, p1f, p1g, p1h, p1i, p1j, p2x, p2z, p3x, p3z, rfl, h1, h2, h3⟩ := h
  obtain ⟨s0, s1, s2, s3⟩ := hs
  have hB0 : Below w.heap.size w (((w.alloc (.cells #[.string c.name, .int .i64 c.sd.fo.num, .slice p1a c.sd.fo.pol.length p1b, .slice p1c c.sd.fo.rv.length p1d, .int .i64 c.sd.co, .slice p1e c.sd.ru.length p1f, .slice p1g c.sd.ha.length p1h, .slice p1i c.sd.se.length p1j, .slice p2x c.qu.length p2z, .slice p3x c.lg.length p3z] 150)).alloc (.cells #[.string ⟨#[]⟩, .int .i64 0, .slice none 0 0, .slice none 0 0, .int .i64 0, .slice none 0 0, .slice none 0 0, .slice none 0 0, .slice none 0 0, .slice none 0 0] 155)).alloc (.cells #[.string c.name, .int .i64 0, .slice none 0 0, .slice none 0 0, .int .i64 0, .slice none 0 0, .slice none 0 0, .slice none 0 0, .slice none 0 0, .slice none 0 0] 155)) := (((Below.refl _ w).alloc (Nat.le_refl _) _).alloc (by simp) _).alloc (by simp; omega) _
  have F1 := ((Ten.new w (.string c.name) (.int .i64 c.sd.fo.num) (.slice p1a c.sd.fo.pol.length p1b) (.slice p1c c.sd.fo.rv.length p1d) (.int .i64 c.sd.co) (.slice p1e c.sd.ru.length p1f) (.slice p1g c.sd.ha.length p1h) (.slice p1i c.sd.se.length p1j) (.slice p2x c.qu.length p2z) (.slice p3x c.lg.length p3z) 150).below ((Below.refl _ _).alloc (Nat.le_refl _) (.cells #[.string ⟨#[]⟩, .int .i64 0, .slice none 0 0, .slice none 0 0, .int .i64 0, .slice none 0 0, .slice none 0 0, .slice none 0 0, .slice none 0 0, .slice none 0 0] 155))).below ((Below.refl _ _).alloc (Nat.le_refl _) (.cells #[.string c.name, .int .i64 0, .slice none 0 0, .slice none 0 0, .int .i64 0, .slice none 0 0, .slice none 0 0, .slice none 0 0, .slice none 0 0, .slice none 0 0] 155))
  have F2 := (Ten.at (w.alloc (.cells #[.string c.name, .int .i64 c.sd.fo.num, .slice p1a c.sd.fo.pol.length p1b, .slice p1c c.sd.fo.rv.length p1d, .int .i64 c.sd.co, .slice p1e c.sd.ru.length p1f, .slice p1g c.sd.ha.length p1h, .slice p1i c.sd.se.length p1j, .slice p2x c.qu.length p2z, .slice p3x c.lg.length p3z] 150)) (.string ⟨#[]⟩) (.int .i64 0) (.slice none 0 0) (.slice none 0 0) (.int .i64 0) (.slice none 0 0) (.slice none 0 0) (.slice none 0 0) (.slice none 0 0) (.slice none 0 0) 155 (k := w.heap.size + 1) (by simp)).below ((Below.refl _ _).alloc (Nat.le_refl _) (.cells #[.string c.name, .int .i64 0, .slice none 0 0, .slice none 0 0, .int .i64 0, .slice none 0 0, .slice none 0 0, .slice none 0 0, .slice none 0 0, .slice none 0 0] 155))
  have F3 := Ten.at ((w.alloc (.cells #[.string c.name, .int .i64 c.sd.fo.num, .slice p1a c.sd.fo.pol.length p1b, .slice p1c c.sd.fo.rv.length p1d, .int .i64 c.sd.co, .slice p1e c.sd.ru.length p1f, .slice p1g c.sd.ha.length p1h, .slice p1i c.sd.se.length p1j, .slice p2x c.qu.length p2z, .slice p3x c.lg.length p3z] 150)).alloc (.cells #[.string ⟨#[]⟩, .int .i64 0, .slice none 0 0, .slice none 0 0, .int .i64 0, .slice none 0 0, .slice none 0 0, .slice none 0 0, .slice none 0 0, .slice none 0 0] 155)) (.string c.name) (.int .i64 0) (.slice none 0 0) (.slice none 0 0) (.int .i64 0) (.slice none 0 0) (.slice none 0 0) (.slice none 0 0) (.slice none 0 0) (.slice none 0 0) 155 (k := w.heap.size + 1 + 1) (by simp)
  have hK : w.heap.size + 1 + 1 < (((w.alloc (.cells #[.string c.name, .int .i64 c.sd.fo.num, .slice p1a c.sd.fo.pol.length p1b, .slice p1c c.sd.fo.rv.length p1d, .int .i64 c.sd.co, .slice p1e c.sd.ru.length p1f, .slice p1g c.sd.ha.length p1h, .slice p1i c.sd.se.length p1j, .slice p2x c.qu.length p2z, .slice p3x c.lg.length p3z] 150)).alloc (.cells #[.string ⟨#[]⟩, .int .i64 0, .slice none 0 0, .slice none 0 0, .int .i64 0, .slice none 0 0, .slice none 0 0, .slice none 0 0, .slice none 0 0, .slice none 0 0] 155)).alloc (.cells #[.string c.name, .int .i64 0, .slice none 0 0, .slice none 0 0, .int .i64 0, .slice none 0 0, .slice none 0 0, .slice none 0 0, .slice none 0 0, .slice none 0 0] 155)).heap.size := F3.lt
  go_enter Tryz.func91, Tryz.ntmps91
  go_wp2_with fail
  generalize ((w.alloc (.cells #[.string c.name, .int .i64 c.sd.fo.num, .slice p1a c.sd.fo.pol.length p1b, .slice p1c c.sd.fo.rv.length p1d, .int .i64 c.sd.co, .slice p1e c.sd.ru.length p1f, .slice p1g c.sd.ha.length p1h, .slice p1i c.sd.se.length p1j, .slice p2x c.qu.length p2z, .slice p3x c.lg.length p3z] 150)).alloc (.cells #[.string ⟨#[]⟩, .int .i64 0, .slice none 0 0, .slice none 0 0, .int .i64 0, .slice none 0 0, .slice none 0 0, .slice none 0 0, .slice none 0 0, .slice none 0 0] 155)).alloc (.cells #[.string c.name, .int .i64 0, .slice none 0 0, .slice none 0 0, .int .i64 0, .slice none 0 0, .slice none 0 0, .slice none 0 0, .slice none 0 0, .slice none 0 0] 155) = W0 at *
  refine (toSide_any _ c.sd _ s1 (h1.below hB0)).mono ?_
  rintro e w1 ⟨v1, rfl, o1, hB1⟩
  obtain ⟨r1a, r1b, r1c, r1d, r1e, r1f, r1g, r1h, r1i, r1j, rfl⟩ := sd_forms o1.a
  replace F1 := F1.below hB1
  replace F2 := F2.below hB1
  replace F3 := F3.below hB1
  replace hB0 := below_one hB0 hB1
  have hs1 := hB1.size
  clear hB1
  obtain ⟨a0, a1, a2, a3, a4, a5, a6, a7, a8, a9⟩ := F1.c
  obtain ⟨c0, c1, c2, c3, c4, c5, c6, c7, c8, c9⟩ := F3.c
  have f1 := F3.f 1
  have f2 := F3.f 2
  have f3 := F3.f 3
  have f4 := F3.f 4
  have f5 := F3.f 5
  have f6 := F3.f 6
  have f7 := F3.f 7
  go_wp2_with fail
  clear a0 a1 a2 a3 a4 a5 a6 a7 a8 a9 c0 c1 c2 c3 c4 c5 c6 c7 c8 c9 f1 f2 f3 f4 f5 f6 f7
  have M1 : Mid (w.heap.size + 1 + 1) (w.heap.size + 1 + 1 + 1) w1 (((((((w1.setCell ⟨w.heap.size + 1 + 1, 1, none⟩ (.int .i64 c.sd.fo.num)).setCell ⟨w.heap.size + 1 + 1, 2, none⟩ (.slice r1a c.sd.fo.pol.length r1b)).setCell ⟨w.heap.size + 1 + 1, 3, none⟩ (.slice r1c c.sd.fo.rv.length r1d)).setCell ⟨w.heap.size + 1 + 1, 4, none⟩ (.int .i64 c.sd.co)).setCell ⟨w.heap.size + 1 + 1, 5, none⟩ (.slice r1e c.sd.ru.length r1f)).setCell ⟨w.heap.size + 1 + 1, 6, none⟩ (.slice r1g c.sd.ha.length r1h)).setCell ⟨w.heap.size + 1 + 1, 7, none⟩ (.slice r1i c.sd.se.length r1j)) := ((((((((Mid.of_below (Below.refl _ _)).set (p := ⟨w.heap.size + 1 + 1, 1, none⟩) (by simp) (by simp) (.int .i64 c.sd.fo.num)).set (p := ⟨w.heap.size + 1 + 1, 2, none⟩) (by simp) (by simp) (.slice r1a c.sd.fo.pol.length r1b)).set (p := ⟨w.heap.size + 1 + 1, 3, none⟩) (by simp) (by simp) (.slice r1c c.sd.fo.rv.length r1d)).set (p := ⟨w.heap.size + 1 + 1, 4, none⟩) (by simp) (by simp) (.int .i64 c.sd.co)).set (p := ⟨w.heap.size + 1 + 1, 5, none⟩) (by simp) (by simp) (.slice r1e c.sd.ru.length r1f)).set (p := ⟨w.heap.size + 1 + 1, 6, none⟩) (by simp) (by simp) (.slice r1g c.sd.ha.length r1h)).set (p := ⟨w.heap.size + 1 + 1, 7, none⟩) (by simp) (by simp) (.slice r1i c.sd.se.length r1j))
  replace F1 := M1.ten F1 (.inl (by omega))
  replace F2 := M1.ten F2 (.inl (by omega))
  replace F3 := (((((((F3.s1 (.int .i64 c.sd.fo.num)).s2 (.slice r1a c.sd.fo.pol.length r1b)).s3 (.slice r1c c.sd.fo.rv.length r1d)).s4 (.int .i64 c.sd.co)).s5 (.slice r1e c.sd.ru.length r1f)).s6 (.slice r1g c.sd.ha.length r1h)).s7 (.slice r1i c.sd.se.length r1j))
  replace hB0 := (((((((hB0.setCell (p := ⟨w.heap.size + 1 + 1, 1, none⟩) (by simp; omega) (.int .i64 c.sd.fo.num)).setCell (p := ⟨w.heap.size + 1 + 1, 2, none⟩) (by simp; omega) (.slice r1a c.sd.fo.pol.length r1b)).setCell (p := ⟨w.heap.size + 1 + 1, 3, none⟩) (by simp; omega) (.slice r1c c.sd.fo.rv.length r1d)).setCell (p := ⟨w.heap.size + 1 + 1, 4, none⟩) (by simp; omega) (.int .i64 c.sd.co)).setCell (p := ⟨w.heap.size + 1 + 1, 5, none⟩) (by simp; omega) (.slice r1e c.sd.ru.length r1f)).setCell (p := ⟨w.heap.size + 1 + 1, 6, none⟩) (by simp; omega) (.slice r1g c.sd.ha.length r1h)).setCell (p := ⟨w.heap.size + 1 + 1, 7, none⟩) (by simp; omega) (.slice r1i c.sd.se.length r1j))
  replace o1 := Mid.sdo M1 o1 (.inl (by omega))
  have hq1 : w1.heap.size ≤ (((((((w1.setCell ⟨w.heap.size + 1 + 1, 1, none⟩ (.int .i64 c.sd.fo.num)).setCell ⟨w.heap.size + 1 + 1, 2, none⟩ (.slice r1a c.sd.fo.pol.length r1b)).setCell ⟨w.heap.size + 1 + 1, 3, none⟩ (.slice r1c c.sd.fo.rv.length r1d)).setCell ⟨w.heap.size + 1 + 1, 4, none⟩ (.int .i64 c.sd.co)).setCell ⟨w.heap.size + 1 + 1, 5, none⟩ (.slice r1e c.sd.ru.length r1f)).setCell ⟨w.heap.size + 1 + 1, 6, none⟩ (.slice r1g c.sd.ha.length r1h)).setCell ⟨w.heap.size + 1 + 1, 7, none⟩ (.slice r1i c.sd.se.length r1j)).heap.size := by simp
  have hp1 : (((((((w1.setCell ⟨w.heap.size + 1 + 1, 1, none⟩ (.int .i64 c.sd.fo.num)).setCell ⟨w.heap.size + 1 + 1, 2, none⟩ (.slice r1a c.sd.fo.pol.length r1b)).setCell ⟨w.heap.size + 1 + 1, 3, none⟩ (.slice r1c c.sd.fo.rv.length r1d)).setCell ⟨w.heap.size + 1 + 1, 4, none⟩ (.int .i64 c.sd.co)).setCell ⟨w.heap.size + 1 + 1, 5, none⟩ (.slice r1e c.sd.ru.length r1f)).setCell ⟨w.heap.size + 1 + 1, 6, none⟩ (.slice r1g c.sd.ha.length r1h)).setCell ⟨w.heap.size + 1 + 1, 7, none⟩ (.slice r1i c.sd.se.length r1j)).heap.size ≤ w1.heap.size := by simp
  clear M1
  generalize ((((((w1.setCell ⟨w.heap.size + 1 + 1, 1, none⟩ (.int .i64 c.sd.fo.num)).setCell ⟨w.heap.size + 1 + 1, 2, none⟩ (.slice r1a c.sd.fo.pol.length r1b)).setCell ⟨w.heap.size + 1 + 1, 3, none⟩ (.slice r1c c.sd.fo.rv.length r1d)).setCell ⟨w.heap.size + 1 + 1, 4, none⟩ (.int .i64 c.sd.co)).setCell ⟨w.heap.size + 1 + 1, 5, none⟩ (.slice r1e c.sd.ru.length r1f)).setCell ⟨w.heap.size + 1 + 1, 6, none⟩ (.slice r1g c.sd.ha.length r1h)).setCell ⟨w.heap.size + 1 + 1, 7, none⟩ (.slice r1i c.sd.se.length r1j) = W1 at *
  refine (toAskS_any _ c.qu _ s2 (GsA.below h2 (fun _ _ h => h.below hB0) hB0)).mono ?_
  rintro e w2 ⟨v2, rfl, o2, hB2⟩
  obtain ⟨r2x, r2z, rfl⟩ := GsO.len o2
  replace F1 := F1.below hB2
  replace F2 := F2.below hB2
  replace F3 := F3.below hB2
  replace o1 := SdO.below o1 hB2
  replace hB0 := below_one hB0 hB2
  have hs2 := hB2.size
  clear hB2
  obtain ⟨a0, a1, a2, a3, a4, a5, a6, a7, a8, a9⟩ := F1.c
  obtain ⟨c0, c1, c2, c3, c4, c5, c6, c7, c8, c9⟩ := F3.c
  have f8 := F3.f 8
  go_wp2_with fail
  clear a0 a1 a2 a3 a4 a5 a6 a7 a8 a9 c0 c1 c2 c3 c4 c5 c6 c7 c8 c9 f8
  have M2 : Mid (w.heap.size + 1 + 1) (w.heap.size + 1 + 1 + 1) w2 (w2.setCell ⟨w.heap.size + 1 + 1, 8, none⟩ (.slice r2x c.qu.length r2z)) := ((Mid.of_below (Below.refl _ _)).set (p := ⟨w.heap.size + 1 + 1, 8, none⟩) (by simp) (by simp) (.slice r2x c.qu.length r2z))
  replace F1 := M2.ten F1 (.inl (by omega))
  replace F2 := M2.ten F2 (.inl (by omega))
  replace F3 := (F3.s8 (.slice r2x c.qu.length r2z))
  replace hB0 := (hB0.setCell (p := ⟨w.heap.size + 1 + 1, 8, none⟩) (by simp; omega) (.slice r2x c.qu.length r2z))
  replace o1 := Mid.sdo M2 o1 (.inl (by omega))
  replace o2 := GsO.mid o2 (fun _ _ _ _ h ho => h.mid M2 ho) M2 (.inl (by omega))
  have hq2 : w2.heap.size ≤ (w2.setCell ⟨w.heap.size + 1 + 1, 8, none⟩ (.slice r2x c.qu.length r2z)).heap.size := by simp
  have hp2 : (w2.setCell ⟨w.heap.size + 1 + 1, 8, none⟩ (.slice r2x c.qu.length r2z)).heap.size ≤ w2.heap.size := by simp
  clear M2
  generalize w2.setCell ⟨w.heap.size + 1 + 1, 8, none⟩ (.slice r2x c.qu.length r2z) = W2 at *
  refine (toRecordS_any _ c.lg _ s3.1 (h3.below hB0)).mono ?_
  rintro e w3 ⟨v3, rfl, o3, hB3⟩
  replace o3 := RoO.of o3
  obtain ⟨r3x, r3z, rfl⟩ := RoO.len o3
  replace F1 := F1.below hB3
  replace F2 := F2.below hB3
  replace F3 := F3.below hB3
  replace o1 := SdO.below o1 hB3
  replace o2 := GsO.mid o2 (fun _ _ _ _ h _ => h.below hB3) (Mid.of_below (lo := 0) (hi := 0) hB3) (.inl (Nat.zero_le _))
  replace hB0 := below_one hB0 hB3
  have hs3 := hB3.size
  clear hB3
  obtain ⟨a0, a1, a2, a3, a4, a5, a6, a7, a8, a9⟩ := F1.c
  obtain ⟨c0, c1, c2, c3, c4, c5, c6, c7, c8, c9⟩ := F3.c
  have f9 := F3.f 9
  have G3 := (F3.s9 (.slice r3x c.lg.length r3z))
  have G2 := (F2.other (k' := w.heap.size + 1 + 1) (by omega) 9 (.slice r3x c.lg.length r3z))
  obtain ⟨m0, m1, m2, m3, m4, m5, m6, m7, m8, m9⟩ := G3.c
  obtain ⟨t0, t1, t2, t3, t4, t5, t6, t7, t8, t9⟩ := G2.c
  have g0 := G2.f 0
  have g1 := G2.f 1
  have g2 := G2.f 2
  have g3 := G2.f 3
  have g4 := G2.f 4
  have g5 := G2.f 5
  have g6 := G2.f 6
  have g7 := G2.f 7
  have g8 := G2.f 8
  have g9 := G2.f 9
  have G := ((((((((((G2.s0 (.string c.name)).s1 (.int .i64 c.sd.fo.num)).s2 (.slice r1a c.sd.fo.pol.length r1b)).s3 (.slice r1c c.sd.fo.rv.length r1d)).s4 (.int .i64 c.sd.co)).s5 (.slice r1e c.sd.ru.length r1f)).s6 (.slice r1g c.sd.ha.length r1h)).s7 (.slice r1i c.sd.se.length r1j)).s8 (.slice r2x c.qu.length r2z)).s9 (.slice r3x c.lg.length r3z))
  have M9 : Mid (w.heap.size + 1) (w.heap.size + 1 + 1 + 1) w3 (((((((((((w3.setCell ⟨w.heap.size + 1 + 1, 9, none⟩ (.slice r3x c.lg.length r3z)).setCell ⟨w.heap.size + 1, 0, none⟩ (.string c.name)).setCell ⟨w.heap.size + 1, 1, none⟩ (.int .i64 c.sd.fo.num)).setCell ⟨w.heap.size + 1, 2, none⟩ (.slice r1a c.sd.fo.pol.length r1b)).setCell ⟨w.heap.size + 1, 3, none⟩ (.slice r1c c.sd.fo.rv.length r1d)).setCell ⟨w.heap.size + 1, 4, none⟩ (.int .i64 c.sd.co)).setCell ⟨w.heap.size + 1, 5, none⟩ (.slice r1e c.sd.ru.length r1f)).setCell ⟨w.heap.size + 1, 6, none⟩ (.slice r1g c.sd.ha.length r1h)).setCell ⟨w.heap.size + 1, 7, none⟩ (.slice r1i c.sd.se.length r1j)).setCell ⟨w.heap.size + 1, 8, none⟩ (.slice r2x c.qu.length r2z)).setCell ⟨w.heap.size + 1, 9, none⟩ (.slice r3x c.lg.length r3z)) := ((((((((((((Mid.of_below (Below.refl _ _)).set (p := ⟨w.heap.size + 1 + 1, 9, none⟩) (by simp) (by simp) (.slice r3x c.lg.length r3z)).set (p := ⟨w.heap.size + 1, 0, none⟩) (by simp) (by simp) (.string c.name)).set (p := ⟨w.heap.size + 1, 1, none⟩) (by simp) (by simp) (.int .i64 c.sd.fo.num)).set (p := ⟨w.heap.size + 1, 2, none⟩) (by simp) (by simp) (.slice r1a c.sd.fo.pol.length r1b)).set (p := ⟨w.heap.size + 1, 3, none⟩) (by simp) (by simp) (.slice r1c c.sd.fo.rv.length r1d)).set (p := ⟨w.heap.size + 1, 4, none⟩) (by simp) (by simp) (.int .i64 c.sd.co)).set (p := ⟨w.heap.size + 1, 5, none⟩) (by simp) (by simp) (.slice r1e c.sd.ru.length r1f)).set (p := ⟨w.heap.size + 1, 6, none⟩) (by simp) (by simp) (.slice r1g c.sd.ha.length r1h)).set (p := ⟨w.heap.size + 1, 7, none⟩) (by simp) (by simp) (.slice r1i c.sd.se.length r1j)).set (p := ⟨w.heap.size + 1, 8, none⟩) (by simp) (by simp) (.slice r2x c.qu.length r2z)).set (p := ⟨w.heap.size + 1, 9, none⟩) (by simp) (by simp) (.slice r3x c.lg.length r3z))
  replace o1 := Mid.sdo M9 o1 (.inl (by omega))
  replace o2 := GsO.mid o2 (fun _ _ _ _ h ho => h.mid M9 ho) M9 (.inl (by omega))
  replace o3 := o3.mid M9 (.inl (by omega))
  replace hB0 := (((((((((((hB0.setCell (p := ⟨w.heap.size + 1 + 1, 9, none⟩) (by simp; omega) (.slice r3x c.lg.length r3z)).setCell (p := ⟨w.heap.size + 1, 0, none⟩) (by simp) (.string c.name)).setCell (p := ⟨w.heap.size + 1, 1, none⟩) (by simp) (.int .i64 c.sd.fo.num)).setCell (p := ⟨w.heap.size + 1, 2, none⟩) (by simp) (.slice r1a c.sd.fo.pol.length r1b)).setCell (p := ⟨w.heap.size + 1, 3, none⟩) (by simp) (.slice r1c c.sd.fo.rv.length r1d)).setCell (p := ⟨w.heap.size + 1, 4, none⟩) (by simp) (.int .i64 c.sd.co)).setCell (p := ⟨w.heap.size + 1, 5, none⟩) (by simp) (.slice r1e c.sd.ru.length r1f)).setCell (p := ⟨w.heap.size + 1, 6, none⟩) (by simp) (.slice r1g c.sd.ha.length r1h)).setCell (p := ⟨w.heap.size + 1, 7, none⟩) (by simp) (.slice r1i c.sd.se.length r1j)).setCell (p := ⟨w.heap.size + 1, 8, none⟩) (by simp) (.slice r2x c.qu.length r2z)).setCell (p := ⟨w.heap.size + 1, 9, none⟩) (by simp) (.slice r3x c.lg.length r3z))
  have hE : w3.heap.size ≤ (((((((((((w3.setCell ⟨w.heap.size + 1 + 1, 9, none⟩ (.slice r3x c.lg.length r3z)).setCell ⟨w.heap.size + 1, 0, none⟩ (.string c.name)).setCell ⟨w.heap.size + 1, 1, none⟩ (.int .i64 c.sd.fo.num)).setCell ⟨w.heap.size + 1, 2, none⟩ (.slice r1a c.sd.fo.pol.length r1b)).setCell ⟨w.heap.size + 1, 3, none⟩ (.slice r1c c.sd.fo.rv.length r1d)).setCell ⟨w.heap.size + 1, 4, none⟩ (.int .i64 c.sd.co)).setCell ⟨w.heap.size + 1, 5, none⟩ (.slice r1e c.sd.ru.length r1f)).setCell ⟨w.heap.size + 1, 6, none⟩ (.slice r1g c.sd.ha.length r1h)).setCell ⟨w.heap.size + 1, 7, none⟩ (.slice r1i c.sd.se.length r1j)).setCell ⟨w.heap.size + 1, 8, none⟩ (.slice r2x c.qu.length r2z)).setCell ⟨w.heap.size + 1, 9, none⟩ (.slice r3x c.lg.length r3z)).heap.size := by simp
  have hW0 : w.heap.size ≤ W0.heap.size := by omega
  clear F1 F2 F3 M9
  go_wp2_with fail
  clear a0 a1 a2 a3 a4 a5 a6 a7 a8 a9 c0 c1 c2 c3 c4 c5 c6 c7 c8 c9 f9 m0 m1 m2 m3 m4 m5 m6 m7 m8 m9 t0 t1 t2 t3 t4 t5 t6 t7 t8 t9 g0 g1 g2 g3 g4 g5 g6 g7 g8 g9
  generalize ((((((((((w3.setCell ⟨w.heap.size + 1 + 1, 9, none⟩ (.slice r3x c.lg.length r3z)).setCell ⟨w.heap.size + 1, 0, none⟩ (.string c.name)).setCell ⟨w.heap.size + 1, 1, none⟩ (.int .i64 c.sd.fo.num)).setCell ⟨w.heap.size + 1, 2, none⟩ (.slice r1a c.sd.fo.pol.length r1b)).setCell ⟨w.heap.size + 1, 3, none⟩ (.slice r1c c.sd.fo.rv.length r1d)).setCell ⟨w.heap.size + 1, 4, none⟩ (.int .i64 c.sd.co)).setCell ⟨w.heap.size + 1, 5, none⟩ (.slice r1e c.sd.ru.length r1f)).setCell ⟨w.heap.size + 1, 6, none⟩ (.slice r1g c.sd.ha.length r1h)).setCell ⟨w.heap.size + 1, 7, none⟩ (.slice r1i c.sd.se.length r1j)).setCell ⟨w.heap.size + 1, 8, none⟩ (.slice r2x c.qu.length r2z)).setCell ⟨w.heap.size + 1, 9, none⟩ (.slice r3x c.lg.length r3z) = WE at *
  obtain ⟨d0, d1, d2, d3, d4, d5, d6, d7, d8, d9⟩ := G.c
  exact bodyPost_ret (v := .agg #[.string c.name, .int .i64 c.sd.fo.num, .slice r1a c.sd.fo.pol.length r1b, .slice r1c c.sd.fo.rv.length r1d, .int .i64 c.sd.co, .slice r1e c.sd.ru.length r1f, .slice r1g c.sd.ha.length r1h, .slice r1i c.sd.se.length r1j, .slice r2x c.qu.length r2z, .slice r3x c.lg.length r3z]) (by simp [results, Tryz.results91, go_sem, d0, d1, d2, d3, d4, d5, d6, d7, d8, d9]) rfl ⟨_, rfl, ⟨_, _, _, _, _, _, _, _, _, _, _, _, _, _, w1.heap.size, w2.heap.size, rfl, by omega, by omega, by omega, SdO.mono o1 (by omega) (by omega), GsO.mono o2 (by omega) (by omega), o3.mono (by omega) (by omega)⟩, hB0⟩

set_option maxHeartbeats 4000000 in
theorem szSidecarS_any (v : Value) (rs : List Sc) (n : Int) (w : World) (h0 : 0 ≤ n) (h1 : n ≤ 1048576) (hm : rs.length ≤ maxLen) (hf : ∀ r ∈ rs, r.fits) (hr : GsA 10 ScC w v rs) :
    Calls Tryz.prog 48 #[v, .int .i64 n] w fun e w' => e = .returned (.int .i64 (leftK n (gzAll Sc.size rs))) ∧ Below w.heap.size w w' := by
  obtain ⟨a, cap, rfl⟩ := hr.len
  unfold maxLen at hm
  by_cases c0 : n < rs.length
  · have HR := hid (show leftK n (gzAll Sc.size rs) = -1 from if_neg (by unfold gzAll; omega))
    go_enter Tryz.func48, Tryz.ntmps48
    go_wp2
    go_ret
    exact ⟨ret_int HR.out.symm, Below.refl _ _⟩
  · have d0 : decide (n - (rs.length : Int) < 0) = false := by simp; omega
    go_enter Tryz.func48, Tryz.ntmps48
    go_wp2
    go_loopw [1, 5] (fun m i wr => ∃ k : Nat, k ≤ rs.length ∧ i = .int .i64 k ∧ m = .int .i64 (n - rs.length - gzTo Sc.size rs k) ∧ 0 ≤ n - rs.length - gzTo Sc.size rs k ∧ Below w.heap.size w wr) (fun _ i _ => rs.length - (intOf i).toNat)
    case atStart => exact ⟨0, Nat.zero_le _, rfl, by rw [gzTo_zero]; go_num, by rw [gzTo_zero]; omega, Below.refl _ _⟩
    case round =>
      obtain ⟨k, hk, rfl, rfl, hp, hB⟩ := hrel
      by_cases hlt : k < rs.length
      · obtain ⟨b, off, cs, rfl, hb, hcap, hq, hA⟩ := (hr.below (fun _ _ h => h.below hB) hB).at hlt
        have hA0 := hA
        obtain ⟨p1a, p1b, p1c, p1d, p1e, p1f, p1g, p1h, p1i, p1j, p2x, p2z, p3x, p3z, hcsq, g1, g2, g3⟩ := hA
        subst hcsq
        have q0 := hq 0 _ rfl
        have q1 := hq 1 _ rfl
        have q2 := hq 2 _ rfl
        have q3 := hq 3 _ rfl
        have q4 := hq 4 _ rfl
        have q5 := hq 5 _ rfl
        have q6 := hq 6 _ rfl
        have q7 := hq 7 _ rfl
        have q8 := hq 8 _ rfl
        have q9 := hq 9 _ rfl
        rw [Nat.add_zero] at q0
        have f1 := hf rs[k] (List.getElem_mem hlt)
        have HS := hid (gzTo_succ (f := Sc.size) hlt)
        have HT := hid (gzTo_le Sc.size rs (k + 1))
        generalize rs[k] = r at *
        clear hq hr
        go_wp2_with fail
        refine (szSidecar_any _ r _ _ hp (by omega) f1 hA0).mono ?_
        rintro e w1 ⟨rfl, hB1⟩
        have hB2 := below_one hB hB1
        by_cases c1 : (r.size : Int) ≤ n - rs.length - gzTo Sc.size rs k
        · have hv : leftK (n - rs.length - gzTo Sc.size rs k) r.size = n - rs.length - gzTo Sc.size rs (k + 1) := by
            rw [HS.out]
            unfold leftK
            rw [if_pos (by omega)]
            omega
          have hq : 0 ≤ n - rs.length - gzTo Sc.size rs (k + 1) := by rw [HS.out]; omega
          rw [hv]
          have d1 : decide (n - (rs.length : Int) - (gzTo Sc.size rs (k + 1) : Int) < 0) = false := by simp; omega
          clear hv hB1 q0 q1 q2 q3 q4 q5 q6 q7 q8 q9 hA0 g1 g2 g3
          go_wp2_with fail
          go_roundw
          case rel => exact ⟨k + 1, by omega, by go_num, rfl, hq, hB2⟩
          case measure => simp [intOf]; omega
        · have hv : leftK (n - rs.length - gzTo Sc.size rs k) r.size = -1 := if_neg (by omega)
          have HR := hid (show leftK n (gzAll Sc.size rs) = -1 from if_neg (by have := HT.out; rw [HS.out] at this; unfold gzAll; omega))
          rw [hv]
          clear hv hB1 q0 q1 q2 q3 q4 q5 q6 q7 q8 q9 hA0 g1 g2 g3
          go_wp2_with fail
          go_ret
          exact ⟨ret_int HR.out.symm, hB2⟩
      · obtain rfl : k = rs.length := by omega
        have HR := hid (show leftK n (gzAll Sc.size rs) = n - rs.length - gzTo Sc.size rs rs.length by unfold leftK gzAll; rw [if_pos (by omega)]; omega)
        go_wp2
        go_ret
        exact ⟨ret_int HR.out.symm, hB⟩

set_option maxHeartbeats 4000000 in
/-- A list is like itself, wherever the two lie. -/
theorem eqSidecarS_same (v v' : Value) (ss : List Sc) (w : World) (hn : gShort Sc.short ss) (hr : GsA 10 ScC w v ss) (hr' : GsA 10 ScC w v' ss) :
    Calls Tryz.prog 58 #[v, v'] w fun e w' => e = .returned (.bool true) ∧ Below w.heap.size w w' := by
  obtain ⟨a, cap, rfl⟩ := hr.len
  obtain ⟨a', cap', rfl⟩ := hr'.len
  have hn1 := hn.1
  have e0 : ((ss.length : Int) != (ss.length : Int)) = false := by simp
  go_enter Tryz.func58, Tryz.ntmps58
  go_wp2
  go_loopw [5] (fun i wr => ∃ j : Nat, j ≤ ss.length ∧ i = .int .i64 j ∧ Below w.heap.size w wr) (fun i _ => ss.length - (intOf i).toNat)
  case atStart => exact ⟨0, Nat.zero_le _, rfl, Below.refl _ _⟩
  case round =>
    obtain ⟨j, hj, rfl, hB⟩ := hrel
    by_cases hlt : j < ss.length
    · obtain ⟨b, off, cs, rfl, hb, hcap, hq, hA⟩ := (hr.below (fun _ _ h => h.below hB) hB).at hlt
      have hA0 := hA
      obtain ⟨p1a, p1b, p1c, p1d, p1e, p1f, p1g, p1h, p1i, p1j, p2x, p2z, p3x, p3z, hcsq, g1, g2, g3⟩ := hA
      subst hcsq
      have q0 := hq 0 _ rfl
      have q1 := hq 1 _ rfl
      have q2 := hq 2 _ rfl
      have q3 := hq 3 _ rfl
      have q4 := hq 4 _ rfl
      have q5 := hq 5 _ rfl
      have q6 := hq 6 _ rfl
      have q7 := hq 7 _ rfl
      have q8 := hq 8 _ rfl
      have q9 := hq 9 _ rfl
      rw [Nat.add_zero] at q0
      obtain ⟨b', off', cs', rfl, hb', hcap', hq', hA'⟩ := (hr'.below (fun _ _ h => h.below hB) hB).at hlt
      have hA1 := hA'
      obtain ⟨q1a, q1b, q1c, q1d, q1e, q1f, q1g, q1h, q1i, q1j, q2x, q2z, q3x, q3z, hcsp, g'1, g'2, g'3⟩ := hA'
      subst hcsp
      have p0 := hq' 0 _ rfl
      have p1 := hq' 1 _ rfl
      have p2 := hq' 2 _ rfl
      have p3 := hq' 3 _ rfl
      have p4 := hq' 4 _ rfl
      have p5 := hq' 5 _ rfl
      have p6 := hq' 6 _ rfl
      have p7 := hq' 7 _ rfl
      have p8 := hq' 8 _ rfl
      have p9 := hq' 9 _ rfl
      rw [Nat.add_zero] at p0
      have hs := hn.2 ss[j] (List.getElem_mem hlt)
      generalize ss[j] = s at *
      clear hq hq' hr hr'
      go_wp2_with fail
      go_region_with (go_at_call 93; refine (eqSidecar_same _ _ s _ hs (hA0.below (Below.refl _ _).drew) (hA1.below (Below.refl _ _).drew)).mono ?_; rintro e w1 ⟨rfl, hB1⟩)
      all_goals go_wp2
      all_goals go_roundw
      all_goals first
        | exact ⟨j + 1, by omega, by go_num, below_one hB (below_drew1 hB1)⟩
        | (simp [intOf]; omega)
    · obtain rfl : j = ss.length := by omega
      go_wp2
      go_ret
      exact ⟨rfl, hB⟩

theorem infoSidecar : (Tryz.prog.info? 155).map (fun i => (i.zero, i.size, i.bytes)) = some (some (.agg #[.string ⟨#[]⟩, .int .i64 0, .slice none 0 0, .slice none 0 0, .int .i64 0, .slice none 0 0, .slice none 0 0, .slice none 0 0, .slice none 0 0, .slice none 0 0]), 10, 200) := by kernel_rfl
set_option maxHeartbeats 8000000 in
theorem toSidecarS_any (v : Value) (ss : List Sc) (w : World) (hm : gShort Sc.short ss) (hr : GsA 10 ScC w v ss) :
    Calls Tryz.prog 53 #[v] w fun e w' => ∃ v', e = .returned v' ∧ GsO 155 10 ScO w' w.heap.size w'.heap.size v' ss ∧ Below w.heap.size w w' := by
  obtain ⟨a, cap, rfl⟩ := hr.len
  obtain ⟨i0, hi, hz0, hz1, hz2⟩ := info_parts infoSidecar
  have hm1 := hm.1
  go_enter Tryz.func53, Tryz.ntmps53
  go_wp2_with (at_make; refine wpList_make_full _ rfl _ _ 70 rfl w.heap.size 155 i0 _ 10 Tryz.underlying70 hi hz0 hz1 _ _ _ _ ss.length rfl rfl rfl rfl (by rw [hz2]; omega) (by unfold maxLen; omega) (Nat.le_refl _) ?_; intro w1 hown hgrow)
  have hB1 : Below w.heap.size w w1 := (Below.refl _ w).grown hgrow (Nat.le_refl _) (fun k e => by cases e)
  go_loopw [4] (fun i wr => ∃ k : Nat, k ≤ ss.length ∧ i = .int .i64 k ∧ ∃ ys cs s t, GsK 155 10 ScO wr w.heap.size wr.heap.size (.slice (some ⟨w.heap.size, 0, none⟩) ss.length ss.length) ss.length ss k ys cs s t ∧ Below w.heap.size w wr) (fun i _ => ss.length - (intOf i).toNat)
  case atStart => exact ⟨0, Nat.zero_le _, rfl, _, _, _, _, GsK.start _ _ _ _ _ _ _ _ _ _ hown (fun j hj => (hown.lt j hj).2), hB1⟩
  case round =>
    obtain ⟨k, hk, rfl, ys, cs0, s0, t0', hK, hB⟩ := hrel
    by_cases hlt : k < ss.length
    · obtain ⟨b, off, cs, rfl, hb, hcap, hq, hA⟩ := (hr.below (fun _ _ h => h.below hB) hB).at hlt
      have hA0 := hA
      obtain ⟨p1a, p1b, p1c, p1d, p1e, p1f, p1g, p1h, p1i, p1j, p2x, p2z, p3x, p3z, hcsq, g1, g2, g3⟩ := hA
      subst hcsq
      have q0 := hq 0 _ rfl
      have q1 := hq 1 _ rfl
      have q2 := hq 2 _ rfl
      have q3 := hq 3 _ rfl
      have q4 := hq 4 _ rfl
      have q5 := hq 5 _ rfl
      have q6 := hq 6 _ rfl
      have q7 := hq 7 _ rfl
      have q8 := hq 8 _ rfl
      have q9 := hq 9 _ rfl
      rw [Nat.add_zero] at q0
      have hsh := hm.2 ss[k] (List.getElem_mem hlt)
      have HA := hid (fun (w2 : World) (zs : List Value) (hB2 : Below wr.heap.size wr w2) (hz : zs.length = 10) (hn : ScO w2 wr.heap.size w2.heap.size zs ss[k]) => GsK.add (w2 := w2) (zs := zs) hK hB.size hB2 hlt hlt hz (fun _ _ _ _ _ _ _ M h ho => h.mid M ho) (fun _ _ _ _ h => h.below hB2) hn)
      clear hq hr
      go_wp2_with fail
      refine (toSidecar_any _ ss[k] _ hsh hA0).mono ?_
      rintro e w2 ⟨zs, rfl, hO, hB2⟩
      have hOc := hO
      obtain ⟨o1a, o1b, o1c, o1d, o1e, o1f, o1g, o1h, o1i, o1j, o2x, o2z, o3x, o3z, m1, m2, hzs, l0, l1, l2, o0, o1, o2⟩ := hO
      subst hzs
      have HK := hid (HA.out w2 _ hB2 rfl hOc)
      have hrow2 := ownsRow_below hK.row hB2
      have hB3 := below_one hB hB2
      have hlen : ys.length = ss.length * 10 := hrow2.1
      have s0 := hrow2.cellAt (k * 10) (by omega)
      have s1 := hrow2.cellAt (k * 10 + 1) (by omega)
      have s2 := hrow2.cellAt (k * 10 + 2) (by omega)
      have s3 := hrow2.cellAt (k * 10 + 3) (by omega)
      have s4 := hrow2.cellAt (k * 10 + 4) (by omega)
      have s5 := hrow2.cellAt (k * 10 + 5) (by omega)
      have s6 := hrow2.cellAt (k * 10 + 6) (by omega)
      have s7 := hrow2.cellAt (k * 10 + 7) (by omega)
      have s8 := hrow2.cellAt (k * 10 + 8) (by omega)
      have s9 := hrow2.cellAt (k * 10 + 9) (by omega)
      rw [List.getElem?_eq_getElem (by omega)] at s0 s1 s2 s3 s4 s5 s6 s7 s8 s9
      have t0 := hrow2.frozenAt (k * 10)
      have t1 := hrow2.frozenAt (k * 10 + 1)
      have t2 := hrow2.frozenAt (k * 10 + 2)
      have t3 := hrow2.frozenAt (k * 10 + 3)
      have t4 := hrow2.frozenAt (k * 10 + 4)
      have t5 := hrow2.frozenAt (k * 10 + 5)
      have t6 := hrow2.frozenAt (k * 10 + 6)
      have t7 := hrow2.frozenAt (k * 10 + 7)
      have t8 := hrow2.frozenAt (k * 10 + 8)
      have t9 := hrow2.frozenAt (k * 10 + 9)
      generalize ys[k * 10] = z0 at *
      generalize ys[k * 10 + 1] = z1 at *
      generalize ys[k * 10 + 2] = z2 at *
      generalize ys[k * 10 + 3] = z3 at *
      generalize ys[k * 10 + 4] = z4 at *
      generalize ys[k * 10 + 5] = z5 at *
      generalize ys[k * 10 + 6] = z6 at *
      generalize ys[k * 10 + 7] = z7 at *
      generalize ys[k * 10 + 8] = z8 at *
      generalize ys[k * 10 + 9] = z9 at *
      generalize ss[k] = s at *
      clear q0 q1 q2 q3 q4 q5 q6 q7 q8 q9 hB2 hK HA hA0 g1 g2 g3 l0 l1 l2 o0 o1 o2 hOc
      go_wp2_with fail
      go_roundw
      case rel => exact ⟨k + 1, by omega, by go_num, _, _, _, _, HK.out, ((((((((((hB3.setCell (p := ⟨w.heap.size, _, none⟩) (Nat.le_refl _) _).setCell (p := ⟨w.heap.size, _, none⟩) (Nat.le_refl _) _).setCell (p := ⟨w.heap.size, _, none⟩) (Nat.le_refl _) _).setCell (p := ⟨w.heap.size, _, none⟩) (Nat.le_refl _) _).setCell (p := ⟨w.heap.size, _, none⟩) (Nat.le_refl _) _).setCell (p := ⟨w.heap.size, _, none⟩) (Nat.le_refl _) _).setCell (p := ⟨w.heap.size, _, none⟩) (Nat.le_refl _) _).setCell (p := ⟨w.heap.size, _, none⟩) (Nat.le_refl _) _).setCell (p := ⟨w.heap.size, _, none⟩) (Nat.le_refl _) _).setCell (p := ⟨w.heap.size, _, none⟩) (Nat.le_refl _) _)⟩
      case measure => simp [intOf]; omega
    · obtain rfl : k = ss.length := by omega
      go_wp2
      go_ret
      exact ⟨_, rfl, ⟨ys, cs0, s0, t0', hK⟩, hB⟩

end Go.Proofs.YtnbojbcljfiamaaGreatDoor

namespace Go.Proofs.YtnbojbcljfiamaaGreatDoor

/-- A small whole number as a float's bits. -/
def fN (n : Nat) : Nat := floatOfInt .f64 (n : Int)
theorem shl_pow (n k : Nat) : n <<< k = n * 2 ^ k := Nat.shiftLeft_eq n k
theorem kept_eq (n : Nat) : Ieee.Toward.even.cut false n 0 = n := by
  unfold Ieee.Toward.cut
  have h : n % 1 = 0 := Nat.mod_one n
  simp [h]
theorem fN_pos {n : Nat} (h0 : 0 < n) (h : n ≤ 1000000) : fN n = (n.log2 + 1022) * 2 ^ 52 + n * 2 ^ (52 - n.log2) ∧ n.log2 ≤ 20 ∧ 2 ^ 52 ≤ n * 2 ^ (52 - n.log2) ∧ n * 2 ^ (52 - n.log2) < 2 ^ 53 := by
  have hl : n.log2 < 20 := (Nat.log2_lt (by omega)).2 (by omega)
  have a1 : 2 ^ n.log2 ≤ n := Nat.log2_self_le (by omega)
  have a2 : n < 2 ^ (n.log2 + 1) := Nat.lt_log2_self
  have b1 : 2 ^ 52 ≤ n * 2 ^ (52 - n.log2) := by
    have : 2 ^ n.log2 * 2 ^ (52 - n.log2) ≤ n * 2 ^ (52 - n.log2) := Nat.mul_le_mul_right _ a1
    rwa [← Nat.pow_add, show n.log2 + (52 - n.log2) = 52 by omega] at this
  have b2 : n * 2 ^ (52 - n.log2) < 2 ^ 53 := by
    have : n * 2 ^ (52 - n.log2) < 2 ^ (n.log2 + 1) * 2 ^ (52 - n.log2) := Nat.mul_lt_mul_of_pos_right a2 (Nat.two_pow_pos _)
    rwa [← Nat.pow_add, show n.log2 + 1 + (52 - n.log2) = 53 by omega] at this
  refine ⟨?_, by omega, b1, b2⟩
  unfold fN floatOfInt FloatKind.nearest FloatKind.encode Ieee.Format.write
  have hn : decide ((n : Int) < 0) = false := by simp
  simp only [hn, Int.natAbs_natCast]
  unfold Ieee.Format.nearest
  rw [if_neg (by omega)]
  have hlast : max (0 + (n.log2 : Int) - (FloatKind.f64.format.fractionBits : Int)) FloatKind.f64.format.leastPlace = (n.log2 : Int) - 52 := by
    have e1 : (FloatKind.f64.format.fractionBits : Int) = 52 := rfl
    have e2 : FloatKind.f64.format.leastPlace = -1074 := by decide
    rw [e1, e2]
    omega
  simp only [hlast]
  have e3 : (0 - ((n.log2 : Int) - 52)).toNat = 52 - n.log2 := by omega
  have e4 : ((n.log2 : Int) - 52 - 0).toNat = 0 := by omega
  rw [e3, e4, kept_eq, shl_pow]
  have e2 : FloatKind.f64.format.leastPlace = -1074 := by decide
  have e5 : FloatKind.f64.format.binade = 2 ^ 52 := by decide
  have e6 : FloatKind.f64.format.infRung = 2047 * 2 ^ 52 := by decide
  rw [e2, e5, e6, show ((n.log2 : Int) - 52 - -1074).toNat = n.log2 + 1022 by omega]
  unfold Ieee.Format.word
  rw [if_neg (by decide), Nat.min_eq_left]
  omega
theorem read_fN {n : Nat} (h0 : 0 < n) (h : n ≤ 1000000) : FloatKind.f64.format.read (fN n) = .number false (n * 2 ^ (52 - n.log2)) ((n.log2 : Int) - 52) := by
  obtain ⟨e, hl, b1, b2⟩ := fN_pos h0 h
  rw [e]
  generalize hk : n * 2 ^ (52 - n.log2) = k at *
  generalize n.log2 = L at *
  have e2 : FloatKind.f64.format.leastPlace = -1074 := by decide
  have e5 : FloatKind.f64.format.binade = 2 ^ 52 := by decide
  have e6 : FloatKind.f64.format.infRung = 2047 * 2 ^ 52 := by decide
  have e7 : FloatKind.f64.format.signWeight = 2 ^ 63 := by decide
  unfold Ieee.Format.read
  rw [e2, e5, e6, e7]
  have d1 : ((L + 1022) * 2 ^ 52 + k) / 2 ^ 63 = 0 := Nat.div_eq_of_lt (by omega)
  have d2 : ((L + 1022) * 2 ^ 52 + k) % 2 ^ 63 = (L + 1022) * 2 ^ 52 + k := Nat.mod_eq_of_lt (by omega)
  have d3 : ((L + 1022) * 2 ^ 52 + k) % 2 ^ 52 = k - 2 ^ 52 := by omega
  have d4 : ((L + 1022) * 2 ^ 52 + k) / 2 ^ 52 = L + 1023 := by omega
  simp only [d1, d2, d3, d4]
  rw [if_neg (by omega), if_pos (by omega)]
  have d5 : 2 ^ 52 + (k - 2 ^ 52) = k := by omega
  have d6 : (-1074 : Int) + ((L + 1023 - 1 : Nat) : Int) = (L : Int) - 52 := by omega
  rw [d5, d6]
  rfl
theorem read_fN0 : FloatKind.f64.format.read (fN 0) = .number false 0 (-1074) := by decide
theorem z_mul (p : Nat) : 0 = 0 * 2 ^ p := (Nat.zero_mul _).symm
theorem read_any (n : Nat) (h : n ≤ 1000000) : ∃ (k : Nat) (p : Nat), FloatKind.f64.format.read (fN n) = .number false k (-(p : Int)) ∧ k = n * 2 ^ p := by
  by_cases h0 : 0 < n
  · have hl : n.log2 < 20 := (Nat.log2_lt (by omega)).2 (by omega)
    refine ⟨_, 52 - n.log2, ?_, rfl⟩
    rw [read_fN h0 h]
    congr 1
    omega
  · have : n = 0 := by omega
    subst this
    exact ⟨0, 1074, read_fN0, z_mul 1074⟩
theorem cmp_mul (a b p : Nat) : compare ((a * 2 ^ p : Nat) : Int) ((b * 2 ^ p : Nat) : Int) = compare a b := by
  have hp : 0 < 2 ^ p := Nat.two_pow_pos p
  have hA : ∀ x y : Nat, ((x * 2 ^ p : Nat) : Int) < ((y * 2 ^ p : Nat) : Int) ↔ x < y := fun x y => by
    rw [Int.ofNat_lt]
    exact Nat.mul_lt_mul_right hp
  rcases Nat.lt_trichotomy a b with h | h | h
  · rw [Nat.compare_eq_lt.2 h]
    simp only [compare, compareOfLessAndEq]
    rw [if_pos ((hA a b).2 h)]
  · subst h
    rw [Nat.compare_eq_eq.2 rfl]
    simp [compare, compareOfLessAndEq]
  · rw [Nat.compare_eq_gt.2 h]
    simp only [compare, compareOfLessAndEq]
    rw [if_neg (by rw [hA]; omega), if_neg (by intro e; have := (hA b a).2 h; omega)]
theorem order_fN (a b : Nat) (ha : a ≤ 1000000) (hb : b ≤ 1000000) : FloatKind.f64.format.order (fN a) (fN b) = some (compare a b) := by
  obtain ⟨k, p, e, rfl⟩ := read_any a ha
  obtain ⟨l, q, e', rfl⟩ := read_any b hb
  unfold Ieee.Format.order
  rw [e, e']
  unfold Ieee.Datum.order
  simp only [Ieee.signed]
  have h1 : ∃ m : Nat, min (-(p : Int)) (-(q : Int)) = -(m : Int) ∧ p ≤ m ∧ q ≤ m := by
    refine ⟨max p q, by omega, by omega, by omega⟩
  obtain ⟨m, hm, h2, h3⟩ := h1
  rw [hm, show (-(p : Int) - -(m : Int)).toNat = m - p by omega, show (-(q : Int) - -(m : Int)).toNat = m - q by omega, shl_pow, shl_pow, Nat.mul_assoc, ← Nat.pow_add, Nat.mul_assoc, ← Nat.pow_add, show p + (m - p) = m by omega, show q + (m - q) = m by omega]
  simp only [if_neg (by decide : ¬ (false = true))]
  rw [cmp_mul]
theorem neg_fN (a : Nat) (ha : a ≤ 1000000) : (FloatKind.f64.decode (fN a)).neg = false := by
  obtain ⟨k, p, e, _⟩ := read_any a ha
  unfold FloatKind.decode
  rw [e]
  rfl

end Go.Proofs.YtnbojbcljfiamaaGreatDoor

namespace Go.Proofs.YtnbojbcljfiamaaGreatDoor

/-- A text is among some. -/
def hasTo (ss : List ByteArray) (s : ByteArray) (n : Nat) : Bool := (ss.take n).any (fun x => x.toList == s.toList)
def hasT (ss : List ByteArray) (s : ByteArray) : Bool := ss.any (fun x => x.toList == s.toList)
theorem hasTo_zero (ss : List ByteArray) (s : ByteArray) : hasTo ss s 0 = false := by simp [hasTo]
theorem hasTo_succ {ss : List ByteArray} {s : ByteArray} {n : Nat} (h : n < ss.length) : hasTo ss s (n + 1) = (hasTo ss s n || (ss[n].toList == s.toList)) := by
  unfold hasTo
  rw [List.take_succ_eq_append_getElem h, List.any_append]
  simp
theorem hasT_yes {ss : List ByteArray} {s : ByteArray} {n : Nat} (h : n < ss.length) (he : (ss[n].toList == s.toList) = true) : hasT ss s = true :=
  List.any_eq_true.2 ⟨ss[n], List.getElem_mem h, he⟩
theorem hasT_end (ss : List ByteArray) (s : ByteArray) : hasTo ss s ss.length = hasT ss s := by
  unfold hasTo hasT
  rw [List.take_length]
/-- All of some texts are among others. -/
def allTo3 (ss ts : List ByteArray) (n : Nat) : Bool := (ts.take n).all (hasT ss)
def allT (ss ts : List ByteArray) : Bool := ts.all (hasT ss)
theorem allTo3_zero (ss ts : List ByteArray) : allTo3 ss ts 0 = true := by simp [allTo3]
theorem allTo3_succ {ss ts : List ByteArray} {n : Nat} (h : n < ts.length) : allTo3 ss ts (n + 1) = (allTo3 ss ts n && hasT ss ts[n]) := by
  unfold allTo3
  rw [List.take_succ_eq_append_getElem h, List.all_append]
  simp
theorem allT_no {ss ts : List ByteArray} {n : Nat} (h : n < ts.length) (he : hasT ss ts[n] = false) : allT ss ts = false :=
  List.all_eq_false.2 ⟨ts[n], List.getElem_mem h, by rw [he]; exact Bool.false_ne_true⟩
theorem allT_end (ss ts : List ByteArray) : allTo3 ss ts ts.length = allT ss ts := by
  unfold allTo3 allT
  rw [List.take_length]
/-- A time lies within all links' times. -/
def tmIn (k : Lk) (nw : Int) : Bool := decide (k.fr ≤ nw ∧ nw ≤ k.un)
def inTo (ks : List Lk) (nw : Int) (n : Nat) : Bool := (ks.take n).all (fun k => tmIn k nw)
def inT (ks : List Lk) (nw : Int) : Bool := ks.all (fun k => tmIn k nw)
theorem inTo_zero (ks : List Lk) (nw : Int) : inTo ks nw 0 = true := by simp [inTo]
theorem inTo_succ {ks : List Lk} {nw : Int} {n : Nat} (h : n < ks.length) : inTo ks nw (n + 1) = (inTo ks nw n && tmIn ks[n] nw) := by
  unfold inTo
  rw [List.take_succ_eq_append_getElem h, List.all_append]
  simp
theorem inT_no {ks : List Lk} {nw : Int} {n : Nat} (h : n < ks.length) (he : tmIn ks[n] nw = false) : inT ks nw = false :=
  List.all_eq_false.2 ⟨ks[n], List.getElem_mem h, by rw [he]; exact Bool.false_ne_true⟩
theorem inT_end (ks : List Lk) (nw : Int) : inTo ks nw ks.length = inT ks nw := by
  unfold inTo inT
  rw [List.take_length]
/-- A serial is revoked. -/
def rvTo (ks : List Lk) (zs : List Int) (n : Nat) : Bool := (ks.take n).any (fun k => isI zs k.se)
def rvB (ks : List Lk) (zs : List Int) : Bool := ks.any (fun k => isI zs k.se)
theorem rvTo_zero (ks : List Lk) (zs : List Int) : rvTo ks zs 0 = false := by simp [rvTo]
theorem rvTo_succ {ks : List Lk} {zs : List Int} {n : Nat} (h : n < ks.length) : rvTo ks zs (n + 1) = (rvTo ks zs n || isI zs ks[n].se) := by
  unfold rvTo
  rw [List.take_succ_eq_append_getElem h, List.any_append]
  simp
theorem rvB_yes {ks : List Lk} {zs : List Int} {n : Nat} (h : n < ks.length) (he : isI zs ks[n].se = true) : rvB ks zs = true :=
  List.any_eq_true.2 ⟨ks[n], List.getElem_mem h, he⟩
theorem rvB_end (ks : List Lk) (zs : List Int) : rvTo ks zs ks.length = rvB ks zs := by
  unfold rvTo rvB
  rw [List.take_length]
/-- It leads where it should. -/
def toOk (ks : List Lk) (at_ : ByteArray) : Bool := match ks[ks.length - 1]? with
  | some k => k.to.toList == at_.toList
  | none => false
theorem toOk_at {ks : List Lk} {at_ : ByteArray} {m : Nat} (h : m < ks.length) (hm : m = ks.length - 1) : toOk ks at_ = (ks[m].to.toList == at_.toList) := by
  unfold toOk
  rw [← hm, List.getElem?_eq_getElem h]

/-- What comes first of what CheckToken tells, of a token that is good. -/
def chk1 (ks : List Lk) (sg ss : List ByteArray) (nw : Int) (zs : List Int) (at_ : ByteArray) : Int :=
  if allT ss sg = false then 2 else if inT ks nw = false then 3 else if rvB ks zs = true then 4 else if toOk ks at_ = false then 5 else 0
def argB (nw : Int) (at_ : ByteArray) (ss : List ByteArray) (zs : List Int) : Bool := tmB nw && (gnB (split at_ 47) && (decide (ss.length ≤ 200) && decide (zs.length ≤ 200)))
def chkX (ks : List Lk) (sg ss : List ByteArray) (nw : Int) (zs : List Int) (at_ : ByteArray) : Int :=
  if (tkB ks && argB nw at_ ss zs) = true then chk1 ks sg ss nw zs at_ else 1
theorem chkX_no1 {ks : List Lk} (sg ss : List ByteArray) (nw : Int) (zs : List Int) (at_ : ByteArray) (h : tkB ks = false) : chkX ks sg ss nw zs at_ = 1 := by
  unfold chkX
  rw [h, if_neg (by simp)]
theorem chkX_no2 (ks : List Lk) (sg : List ByteArray) {ss : List ByteArray} {nw : Int} {zs : List Int} {at_ : ByteArray} (h : argB nw at_ ss zs = false) : chkX ks sg ss nw zs at_ = 1 := by
  unfold chkX
  rw [h, if_neg (by simp)]
theorem chkX_yes {ks : List Lk} (sg : List ByteArray) {ss : List ByteArray} {nw : Int} {zs : List Int} {at_ : ByteArray} (h : tkB ks = true) (h2 : argB nw at_ ss zs = true) : chkX ks sg ss nw zs at_ = chk1 ks sg ss nw zs at_ := by
  unfold chkX
  rw [h, h2, if_pos (by rfl)]

/-! The window of times. -/
def mxF (ks : List Lk) (n : Nat) : Nat := (ks.take n).foldl (fun a k => max a k.fr.toNat) 0
def mnU (ks : List Lk) (n : Nat) : Nat := (ks.take n).foldl (fun a k => min a k.un.toNat) 100000
theorem mxF_zero (ks : List Lk) : mxF ks 0 = 0 := by simp [mxF]
theorem mnU_zero (ks : List Lk) : mnU ks 0 = 100000 := by simp [mnU]
theorem mxF_succ {ks : List Lk} {n : Nat} (h : n < ks.length) : mxF ks (n + 1) = max (mxF ks n) ks[n].fr.toNat := by
  unfold mxF
  rw [List.take_succ_eq_append_getElem h, List.foldl_append]
  rfl
theorem mnU_succ {ks : List Lk} {n : Nat} (h : n < ks.length) : mnU ks (n + 1) = min (mnU ks n) ks[n].un.toNat := by
  unfold mnU
  rw [List.take_succ_eq_append_getElem h, List.foldl_append]
  rfl
theorem win_le {ks : List Lk} (hg : ∀ k ∈ ks, k.good = true) : ∀ n, n ≤ ks.length → mxF ks n ≤ 100000 ∧ mnU ks n ≤ 100000
  | 0, _ => by rw [mxF_zero, mnU_zero]; omega
  | n + 1, h => by
    obtain ⟨h1, h2⟩ := win_le hg n (by omega)
    obtain ⟨_, _, _, b4, b5, _⟩ := (Lk.good_iff _).1 (hg _ (List.getElem_mem (show n < ks.length by omega)))
    rw [mxF_succ (by omega), mnU_succ (by omega)]
    omega
theorem win_in {ks : List Lk} (hg : ∀ k ∈ ks, k.good = true) {nw : Nat} (h : nw ≤ 100000) : ∀ n, n ≤ ks.length → inTo ks nw n = decide (mxF ks n ≤ nw ∧ nw ≤ mnU ks n)
  | 0, _ => by rw [inTo_zero, mxF_zero, mnU_zero]; simp; omega
  | n + 1, hn => by
    have ih := win_in hg h n (by omega)
    obtain ⟨_, _, _, b4, b5, _⟩ := (Lk.good_iff _).1 (hg _ (List.getElem_mem (show n < ks.length by omega)))
    rw [inTo_succ (by omega), ih, mxF_succ (by omega), mnU_succ (by omega)]
    unfold tmIn
    rw [← Bool.decide_and, decide_eq_decide]
    omega

end Go.Proofs.YtnbojbcljfiamaaGreatDoor

namespace Go.Proofs.YtnbojbcljfiamaaGreatDoor

/-! The order of bytes. -/
theorem blo_irrefl : ∀ a : List UInt8, Op.bytesLess a a = false
  | [] => rfl
  | x :: a => by
    unfold Op.bytesLess
    simp [blo_irrefl a]
theorem blo_trans : ∀ a b c : List UInt8, Op.bytesLess a b = true → Op.bytesLess b c = true → Op.bytesLess a c = true
  | _, _, [], _, h2 => by simp [Op.bytesLess] at h2
  | _, [], _ :: _, h1, _ => by simp [Op.bytesLess] at h1
  | [], _ :: _, _ :: _, _, _ => rfl
  | x :: a, y :: b, z :: c, h1, h2 => by
    unfold Op.bytesLess at h1 h2 ⊢
    simp only [Bool.or_eq_true, decide_eq_true_eq, Bool.and_eq_true, beq_iff_eq] at h1 h2 ⊢
    rcases h1 with h1 | ⟨rfl, h1⟩
    · rcases h2 with h2 | ⟨rfl, h2⟩
      · exact .inl (UInt8.lt_trans h1 h2)
      · exact .inl h1
    · rcases h2 with h2 | ⟨rfl, h2⟩
      · exact .inl h2
      · exact .inr ⟨rfl, blo_trans a b c h1 h2⟩
theorem blo_total : ∀ a b : List UInt8, Op.bytesLess a b = false → Op.bytesLess b a = false → a = b
  | [], [], _, _ => rfl
  | [], _ :: _, h, _ => by simp [Op.bytesLess] at h
  | _ :: _, [], _, h => by simp [Op.bytesLess] at h
  | x :: a, y :: b, h1, h2 => by
    unfold Op.bytesLess at h1 h2
    simp only [Bool.or_eq_false_iff, decide_eq_false_iff_not, Bool.and_eq_false_iff, beq_eq_false_iff_ne] at h1 h2
    have e : x = y := UInt8.le_antisymm (UInt8.not_lt.1 h2.1) (UInt8.not_lt.1 h1.1)
    subst e
    have h3 : Op.bytesLess a b = false := by
      rcases h1.2 with h | h
      · exact absurd rfl h
      · exact h
    have h4 : Op.bytesLess b a = false := by
      rcases h2.2 with h | h
      · exact absurd rfl h
      · exact h
    rw [blo_total a b h3 h4]
theorem blo_asym {a b : List UInt8} (h : Op.bytesLess a b = true) : Op.bytesLess b a = false := by
  cases h2 : Op.bytesLess b a
  · rfl
  · have := blo_trans a b a h h2
    rw [blo_irrefl] at this
    cases this

/-- A work, and an issuer. -/
structure Wk where
  name : ByteArray
  live : Bool
  se : Int
structure Is where
  ws : List Wk
  nx : Int
  rv : List Int
  sg : List ByteArray
def Is.none : Is := ⟨[], 0, [], []⟩
def blt (a b : ByteArray) : Bool := Op.bytesLess a.toList b.toList
theorem ble_not (a b : ByteArray) : (Op.bytesLess a.toList b.toList || a.toList == b.toList) = !(blt b a) := by
  unfold blt
  cases h : Op.bytesLess b.toList a.toList
  · cases h2 : Op.bytesLess a.toList b.toList
    · have := blo_total _ _ h2 h
      rw [this]
      simp
    · rfl
  · have h2 := blo_asym h
    rw [h2]
    have : (a.toList == b.toList) = false := by
      rw [beq_eq_false_iff_ne]
      intro e
      rw [e, blo_irrefl] at h
      cases h
    rw [this]
    rfl

def wkOk (nx : Int) (x : Wk) : Bool := nmOk x.name && decide (0 ≤ x.se ∧ x.se < nx)
def upB (ws : List Wk) (i : Nat) : Bool := match i with
  | 0 => true
  | i + 1 => match ws[i]?, ws[i + 1]? with
    | some a, some b => blt a.name b.name
    | _, _ => true
theorem upB_succ {ws : List Wk} {i : Nat} (h : i + 1 < ws.length) : upB ws (i + 1) = blt ws[i].name ws[i + 1].name := by
  simp only [upB]
  rw [List.getElem?_eq_getElem h, List.getElem?_eq_getElem (by omega)]
def upW (ws : List Wk) : Bool := (List.range ws.length).all (upB ws)
def okW (nx : Int) (ws : List Wk) : Bool := ws.all (wkOk nx)
def hdB (s : Is) : Bool := decide (s.ws.length ≤ 20) && (decide (1 ≤ s.nx ∧ s.nx ≤ 100000) && decide (s.sg.length ≤ 200))
/-- An issuer is good. -/
def isB (s : Is) : Bool := hdB s && (upW s.ws && (okW s.nx s.ws && (upN s.rv && okN s.nx s.rv)))
theorem upW_no {ws : List Wk} {i : Nat} (h : i < ws.length) (hb : upB ws i = false) : upW ws = false :=
  List.all_eq_false.2 ⟨i, List.mem_range.2 h, by rw [hb]; simp⟩
theorem upW_yes {ws : List Wk} (h : ∀ i, i < ws.length → upB ws i = true) : upW ws = true :=
  List.all_eq_true.2 fun i hi => h i (List.mem_range.1 hi)
theorem okW_no {nx : Int} {ws : List Wk} {i : Nat} (h : i < ws.length) (hb : wkOk nx ws[i] = false) : okW nx ws = false :=
  List.all_eq_false.2 ⟨_, List.getElem_mem h, by rw [hb]; simp⟩
theorem okW_yes {nx : Int} {ws : List Wk} (h : ∀ i (hi : i < ws.length), wkOk nx ws[i] = true) : okW nx ws = true :=
  List.all_eq_true.2 fun x hx => by
    obtain ⟨i, hi, rfl⟩ := List.getElem_of_mem hx
    exact h i hi
theorem isB_parts {s : Is} (h : isB s = true) : hdB s = true ∧ upW s.ws = true ∧ okW s.nx s.ws = true ∧ upN s.rv = true ∧ okN s.nx s.rv = true := by
  unfold isB at h
  simpa [Bool.and_eq_true] using h
theorem isB_hd {s : Is} (h : isB s = true) : s.ws.length ≤ 20 ∧ 1 ≤ s.nx ∧ s.nx ≤ 100000 ∧ s.sg.length ≤ 200 := by
  have := (isB_parts h).1
  unfold hdB at this
  simp at this
  omega
theorem isB_no1 {s : Is} (h : hdB s = false) : isB s = false := by unfold isB; rw [h]; rfl
theorem isB_no2 {s : Is} (h : upW s.ws = false) : isB s = false := by unfold isB; rw [h]; simp
theorem isB_no3 {s : Is} (h : okW s.nx s.ws = false) : isB s = false := by unfold isB; rw [h]; simp
theorem isB_no4 {s : Is} (h : upN s.rv = false) : isB s = false := by unfold isB; rw [h]; simp
theorem isB_no5 {s : Is} (h : okN s.nx s.rv = false) : isB s = false := by unfold isB; rw [h]; simp
theorem isB_yes {s : Is} (h1 : hdB s = true) (h2 : upW s.ws = true) (h3 : okW s.nx s.ws = true) (h4 : upN s.rv = true) (h5 : okN s.nx s.rv = true) : isB s = true := by
  unfold isB; rw [h1, h2, h3, h4, h5]; rfl

/-- Where a work stands or would stand. -/
def atW : List Wk → ByteArray → Nat
  | [], _ => 0
  | x :: r, n => if blt x.name n = true then atW r n + 1 else 0
theorem atW_le : ∀ (ws : List Wk) (n : ByteArray), atW ws n ≤ ws.length
  | [], _ => Nat.le_refl _
  | x :: r, n => by
    have := atW_le r n
    unfold atW
    split <;> simp <;> omega
theorem atW_lt : ∀ {ws : List Wk} {n : ByteArray} {k : Nat} (h : k < ws.length), k < atW ws n → blt ws[k].name n = true
  | [], _, _, h, _ => by simp at h
  | x :: r, n, k, h, hk => by
    unfold atW at hk
    split at hk
    · rename_i hx
      cases k with
      | zero => exact hx
      | succ k => exact atW_lt (ws := r) (by simpa using h) (by omega)
    · omega
theorem atW_at : ∀ {ws : List Wk} {n : ByteArray} {k : Nat} (h : k < ws.length), k = atW ws n → blt ws[k].name n = false
  | [], _, _, h, _ => by simp at h
  | x :: r, n, k, h, hk => by
    unfold atW at hk
    split at hk
    · subst hk
      exact atW_at (ws := r) (by simpa using h) rfl
    · rename_i hx
      subst hk
      simpa using hx
def hasW (ws : List Wk) (n : ByteArray) : Bool := match ws[atW ws n]? with
  | some x => x.name.toList == n.toList
  | Option.none => false
def livW (ws : List Wk) (n : ByteArray) : Bool := match ws[atW ws n]? with
  | some x => (x.name.toList == n.toList) && x.live
  | Option.none => false
theorem hasW_at {ws : List Wk} {n : ByteArray} (h : atW ws n < ws.length) : hasW ws n = (ws[atW ws n].name.toList == n.toList) := by
  unfold hasW
  rw [List.getElem?_eq_getElem h]
theorem hasW_end {ws : List Wk} {n : ByteArray} (h : ¬ atW ws n < ws.length) : hasW ws n = false := by
  unfold hasW
  rw [List.getElem?_eq_none (by omega)]
theorem hasW_lt {ws : List Wk} {n : ByteArray} (h : hasW ws n = true) : atW ws n < ws.length := by
  rcases Nat.lt_or_ge (atW ws n) ws.length with h1 | h1
  · exact h1
  · rw [hasW_end (by omega)] at h
    cases h
theorem livW_at {ws : List Wk} {n : ByteArray} (h : atW ws n < ws.length) : livW ws n = (hasW ws n && ws[atW ws n].live) := by
  rw [hasW_at h]
  unfold livW
  rw [List.getElem?_eq_getElem h]
theorem livW_no {ws : List Wk} {n : ByteArray} (h : hasW ws n = false) : livW ws n = false := by
  rcases Nat.lt_or_ge (atW ws n) ws.length with h1 | h1
  · rw [livW_at h1, h]; rfl
  · unfold livW
    rw [List.getElem?_eq_none (by omega)]
theorem livW_has {ws : List Wk} {n : ByteArray} (h : livW ws n = true) : hasW ws n = true := by
  cases h1 : hasW ws n
  · rw [livW_no h1] at h; cases h
  · rfl
theorem hasW_name {ws : List Wk} {n : ByteArray} (h : hasW ws n = true) (h1 : atW ws n < ws.length) : ws[atW ws n].name = n := by
  rw [hasW_at h1] at h
  have := eq_of_beq h
  rw [toList_data, toList_data] at this
  exact bytes_same this
/-- What EnrolWork tells. -/
def enX (s : Is) (n : ByteArray) : Is × Int :=
  if (isB s && nmOk n) = false then (Is.none, 1)
  else if livW s.ws n = true then (s, 2)
  else if hasW s.ws n = true then (⟨s.ws.set (atW s.ws n) ⟨n, true, 0⟩, s.nx, s.rv, s.sg⟩, 0)
  else if s.ws.length = 20 then (s, 4)
  else (⟨s.ws.take (atW s.ws n) ++ ⟨n, true, 0⟩ :: s.ws.drop (atW s.ws n), s.nx, s.rv, s.sg⟩, 0)
def seSet (ws : List Wk) (a : Nat) (z : Int) : List Wk := match ws[a]? with
  | some x => ws.set a ⟨x.name, x.live, z⟩
  | Option.none => ws
def liSet (ws : List Wk) (a : Nat) (b : Bool) : List Wk := match ws[a]? with
  | some x => ws.set a ⟨x.name, b, x.se⟩
  | Option.none => ws
theorem seSet_at {ws : List Wk} {a : Nat} {z : Int} (h : a < ws.length) : seSet ws a z = ws.set a ⟨ws[a].name, ws[a].live, z⟩ := by
  unfold seSet
  rw [List.getElem?_eq_getElem h]
theorem liSet_at {ws : List Wk} {a : Nat} {b : Bool} (h : a < ws.length) : liSet ws a b = ws.set a ⟨ws[a].name, b, ws[a].se⟩ := by
  unfold liSet
  rw [List.getElem?_eq_getElem h]
/-- A token is signed and counted to a work. -/
def sgX (s : Is) (ks : List Lk) (who : ByteArray) : Is := ⟨seSet s.ws (atW s.ws who) s.nx, s.nx + 1, s.rv, s.sg ++ [tkT ks]⟩
def fullB (s : Is) : Bool := (s.nx == 100000) || decide (s.sg.length = 200)
/-- What RevokeWork tells. -/
def insN (zs : List Int) (z : Int) : List Int := zs.take (atN zs z) ++ z :: zs.drop (atN zs z)
def rvN (zs : List Int) (z : Int) : List Int := if (z != 0 && !(hasN zs z)) = true then insN zs z else zs
def rkX (s : Is) (n : ByteArray) : Is × Int × Int :=
  if (isB s && nmOk n) = false then (Is.none, 0, 1)
  else if livW s.ws n = false then (s, (s.rv.length : Int), 3)
  else match s.ws[atW s.ws n]? with
    | some x => (⟨liSet s.ws (atW s.ws n) false, s.nx, rvN s.rv x.se, s.sg⟩, ((rvN s.rv x.se).length : Int), 0)
    | Option.none => (s, 0, 0)
/-- What SerialsOf tells. -/
def seX (s : Is) (n : ByteArray) : Int × Bool :=
  if isB s = false then (0, false)
  else match s.ws[atW s.ws n]? with
    | some x => if hasW s.ws n = true then (x.se, true) else (0, false)
    | Option.none => (0, false)

end Go.Proofs.YtnbojbcljfiamaaGreatDoor

namespace Go.Proofs.YtnbojbcljfiamaaGreatDoor
open Go.RowKit Go.Shelf

abbrev Wk.val (k : Wk) : Value := .agg #[.string k.name, .bool k.live, .int .i64 k.se]
def Wk.fits (k : Wk) : Prop := k.name.size ≤ maxLen
/-- A work lies in memory. -/
def WkAt (w : World) (b o : Nat) (k : Wk) : Prop := w.cell? ⟨b, o, none⟩ = some (.string k.name) ∧ w.cell? ⟨b, o + 1, none⟩ = some (.bool k.live) ∧ w.cell? ⟨b, o + 2, none⟩ = some (.int .i64 k.se)
/-- A slice reads as this list of works. -/
def WkS (w : World) (v : Value) (ks : List Wk) : Prop :=
  (∃ a cap, v = .slice a 0 cap ∧ ks = []) ∨
  ∃ b off cap, v = .slice (some ⟨b, off, none⟩) ks.length cap ∧ b < w.heap.size ∧ ks.length ≤ cap ∧ ∀ i (h : i < ks.length), WkAt w b (off + i * 3) ks[i]
theorem WkAt.below {w w' : World} {b o : Nat} {k : Wk} (h : WkAt w b o k) (hb : b < w.heap.size) (hB : Below w.heap.size w w') : WkAt w' b o k :=
  ⟨(hB.cell (p := ⟨b, o, none⟩) hb).trans h.1, (hB.cell (p := ⟨b, o + 1, none⟩) hb).trans h.2.1, (hB.cell (p := ⟨b, o + 2, none⟩) hb).trans h.2.2⟩
theorem WkS.below {w w' : World} {v : Value} {ks : List Wk} (h : WkS w v ks) (hB : Below w.heap.size w w') : WkS w' v ks := by
  rcases h with h | ⟨b, off, cap, hv, hb, hl, hc⟩
  · exact .inl h
  · exact .inr ⟨b, off, cap, hv, Nat.lt_of_lt_of_le hb hB.size, hl, fun k hk => (hc k hk).below hb hB⟩
theorem WkS.len {w : World} {v : Value} {ks : List Wk} (h : WkS w v ks) : ∃ a cap, v = .slice a ks.length cap := by
  rcases h with ⟨a, cap, hv, rfl⟩ | ⟨b, off, cap, hv, _⟩
  · exact ⟨a, cap, hv⟩
  · exact ⟨_, cap, hv⟩
theorem WkS.at {w : World} {a : Option Addr} {n cap : Nat} {ks : List Wk} (h : WkS w (.slice a n cap) ks) {i : Nat} (hi : i < ks.length) : ∃ b off, a = some ⟨b, off, none⟩ ∧ b < w.heap.size ∧ n ≤ cap ∧ WkAt w b (off + i * 3) ks[i] := by
  rcases h with ⟨_, _, _, rfl⟩ | ⟨b, off, cap, hv, hb, hl, hc⟩
  · simp at hi
  · cases hv
    exact ⟨b, off, rfl, hb, hl, hc i hi⟩

set_option maxRecDepth 100000 in
theorem cellsWork : Tryz.prog.cellsOf 174 = 3 := by kernel_rfl
set_option maxRecDepth 100000 in
open Go.Deep Go.ChangeShapes Go.WideShapes Go.Joins in
/-- A list of works that comes in. -/
theorem openWkR {H : Type} {enc : TypeId × Value → H} {W : World} {c0 : Value} {d : DataW H × List MemPlace} {fuel : Nat} (hf : DataW.trod enc Tryz.prog W 0 (fun _ => true) true fuel 53 [c0] = some d) :
    ∃ (a : Option Addr) (n c : Nat) (ks : List Wk), c0 = .slice a n c ∧ WkS W (.slice a n c) ks ∧ ks.length = n ∧ n ≤ maxLen ∧ ∀ k ∈ ks, k.fits := by
  rcases open_slice Tryz.underlying53 hf with ⟨hcs, _⟩ | ⟨x, n, c, m, k, D, Pl, hcs, _, hl, hm, hmm, _, hx⟩
  · simp at hcs
    subst hcs
    exact ⟨_, _, _, [], rfl, .inl ⟨_, _, rfl, rfl⟩, rfl, Nat.zero_le _, fun r hr => by cases hr⟩
  · simp at hcs
    subst hcs
    have hlm : n ≤ m := by rw [hmm]; simpa using hl
    have each : ∀ i, i < n → ∃ r : Wk, (W.cell? (x.add (i * 3)) = some (.string r.name) ∧ W.cell? (x.add (i * 3 + 1)) = some (.bool r.live) ∧ W.cell? (x.add (i * 3 + 2)) = some (.int .i64 r.se)) ∧ r.fits := by
      intro i hi
      obtain ⟨cs', h1, h2⟩ := hx i (by omega)
      rw [cellsWork] at h1
      obtain ⟨_, hlen, hcell⟩ := World.cells?_some h1
      obtain ⟨xs, m', _, _, _, hxl, hfl⟩ := DataW.trod_struct Tryz.underlying174 h2
      match cs', hlen, xs, hxl with
      | [v0, v1, v2], _, [y0, y1, y2], _ =>
        have g0 := hfl 0 _ rfl
        have g1 := hfl 1 _ rfl
        have g2 := hfl 2 _ rfl
        have e0 := hcell 0 (by omega)
        have e1 := hcell 1 (by omega)
        have e2 := hcell 2 (by omega)
        rw [add_add] at e0 e1 e2
        have c1 : Tryz.prog.cellsOf 3 = 1 := by kernel_rfl
        have c2 : Tryz.prog.cellsOf 9 = 1 := by kernel_rfl
        have c3 : Tryz.prog.cellsOf 4 = 1 := by kernel_rfl
        simp [c1, c2, c3] at g0 g1 g2
        obtain ⟨x0, f0, _, w0⟩ := DataW.trod_string Tryz.underlying9 g0
        obtain ⟨x1, f1, _⟩ := DataW.trod_bool Tryz.underlying4 g1
        obtain ⟨x2, f2, _, _⟩ := DataW.trod_int Tryz.underlying3 g2
        simp at f0 f1 f2
        subst f0 f1 f2
        exact ⟨⟨x0, x1, x2⟩, ⟨by simpa using e0, by simpa using e1, by simpa using e2⟩, w0⟩
    have hin : Inhabited Wk := ⟨⟨ByteArray.empty, false, 0⟩⟩
    obtain ⟨q, hq⟩ := choose_lt each
    by_cases h0 : n = 0
    · subst h0
      exact ⟨_, _, _, [], rfl, .inl ⟨_, _, rfl, rfl⟩, rfl, Nat.zero_le _, fun r hr => by cases hr⟩
    · obtain ⟨b, off, spot⟩ := x
      have hs : spot = none := by simpa [Addr.add] using World.cell?_spot (hq 0 (by omega)).1.1
      subst hs
      have hlt : b < W.heap.size := by
        have := (hq 0 (by omega)).1.1
        rw [Addr.add_lit] at this
        by_cases hb : b < W.heap.size
        · exact hb
        · simp only [World.cell?] at this
          rw [Array.getElem?_eq_none (by omega)] at this
          cases this
      refine ⟨_, _, _, (List.range n).map q, rfl, .inr ⟨b, off, c, by simp, hlt, by simpa using hl, fun k hk => ?_⟩, by simp, by omega, ?_⟩
      · have hk' : k < n := by simpa using hk
        have := (hq k hk').1
        simp only [Addr.add_lit, ← Nat.add_assoc] at this
        simpa [WkAt] using this
      · intro r hr
        obtain ⟨i, hi, rfl⟩ := List.mem_map.1 hr
        exact (hq i (List.mem_range.1 hi)).2

/-- An issuer in memory: its lists read as these. -/
structure IsA (w : World) (v : Value) (s : Is) : Prop where
  mk ::
  parts : ∃ vw vr vs, v = .agg #[vw, .int .i64 s.nx, vr, vs] ∧ WkS w vw s.ws ∧ VS w vr (nums s.rv) ∧ VS w vs (strs s.sg)
theorem IsA.below {w w' : World} {v : Value} {s : Is} (h : IsA w v s) (hB : Below w.heap.size w w') : IsA w' v s := by
  obtain ⟨vw, vr, vs, rfl, h1, h2, h3⟩ := h.parts
  exact ⟨_, _, _, rfl, h1.below hB, h2.below hB, h3.below hB⟩
def Is.fits (s : Is) : Prop := s.ws.length ≤ maxLen ∧ (∀ k ∈ s.ws, k.fits) ∧ s.rv.length ≤ maxLen ∧ s.sg.length ≤ maxLen ∧ ∀ x ∈ s.sg, x.size ≤ maxLen

set_option maxRecDepth 100000 in
theorem cellsIssuer : Tryz.prog.cellsOf 55 = 4 := by kernel_rfl
set_option maxRecDepth 100000 in
open Go.Deep Go.ChangeShapes Go.WideShapes Go.ChangeAt Go.Joins in
/-- An issuer that comes in. -/
theorem openIs {H : Type} {enc : TypeId × Value → H} {W : World} {base : Nat} {v : Value} {d : DataW H} {p : List MemPlace} (hv : Value.okWide Tryz.prog W .any base 55 v) (h : DataW.Trod enc Tryz.prog W 0 (fun _ => true) true 55 v d p) :
    ∃ s : Is, IsA W v s ∧ s.fits := by
  obtain ⟨c0, c1, c2, c3, y0, y1, y2, y3, m, rfl, _, _, h0, h1, h2, h3⟩ := open_agg4 Tryz.underlying55 (by kernel_rfl) cellsIssuer hv h
  obtain ⟨a0, n0, k0, ws, rfl, r0, rfl, l0, f0⟩ := openWkR h0
  obtain ⟨x1, e1, _, _⟩ := DataW.trod_int Tryz.underlying3 h1
  obtain ⟨a2, n2, k2, rv, rfl, r2, rfl, l2⟩ := openInR h2
  obtain ⟨a3, n3, k3, sg, rfl, r3, rfl, l3, f3⟩ := openStR h3
  simp only [List.cons.injEq, and_true] at e1
  subst e1
  exact ⟨⟨ws, x1, rv, sg⟩, ⟨_, _, _, rfl, r0, r2, r3⟩, l0, f0, l2, l3, f3⟩

def wzTo (ks : List Wk) (n : Nat) : Nat := ((ks.take n).map (fun k => k.name.size)).sum
def wzAll (ks : List Wk) : Nat := ks.length + wzTo ks ks.length
theorem wzTo_zero (ks : List Wk) : wzTo ks 0 = 0 := by simp [wzTo]
theorem wzTo_succ {ks : List Wk} {n : Nat} (h : n < ks.length) : wzTo ks (n + 1) = wzTo ks n + ks[n].name.size := by
  unfold wzTo
  rw [List.take_succ_eq_append_getElem h, List.map_append, List.sum_append]
  simp
theorem wzTo_le (ks : List Wk) (n : Nat) : wzTo ks n ≤ wzTo ks ks.length := by
  unfold wzTo
  rw [List.take_length]
  conv => rhs; rw [← List.take_append_drop n ks, List.map_append, List.sum_append]
  omega
theorem wz_mem {ks : List Wk} {k : Wk} (h : k ∈ ks) : k.name.size ≤ wzTo ks ks.length := by
  unfold wzTo
  rw [List.take_length]
  exact sum_mem (List.mem_map.2 ⟨k, h, rfl⟩)
def leftW (n : Int) (ks : List Wk) : Int := if (wzAll ks : Int) ≤ n then n - wzAll ks else -1
/-- What the laws count of an issuer. -/
def Is.size (s : Is) : Nat := wzAll s.ws + s.rv.length + tzAll s.sg
def leftI (n : Int) (s : Is) : Int := if (s.size : Int) ≤ n then n - s.size else -1

set_option maxHeartbeats 1000000 in
theorem szWork_any (k : Wk) (n : Int) (w : World) (h0 : 0 ≤ n) (h1 : n ≤ 1048576) (ha : k.name.size ≤ maxLen) :
    Calls Tryz.prog 121 #[k.val, .int .i64 n] w fun e w' => e = .returned (.int .i64 (left1 n k.name.size)) ∧ Below w.heap.size w w' := by
  unfold maxLen at ha
  by_cases c1 : n < k.name.size
  · have HR := hid (show left1 n k.name.size = -1 from if_neg (by omega))
    go_enter Tryz.func121, Tryz.ntmps121
    go_wp2
    go_ret
    exact ⟨ret_int HR.out.symm, (Below.refl _ w).alloc (Nat.le_refl _) _⟩
  · have HR := hid (show left1 n k.name.size = n - k.name.size from if_pos (by omega))
    go_enter Tryz.func121, Tryz.ntmps121
    go_wp2
    go_ret
    exact ⟨ret_int HR.out.symm, (Below.refl _ w).alloc (Nat.le_refl _) _⟩

set_option maxHeartbeats 1000000 in
theorem szWorkS_any (v : Value) (rs : List Wk) (n : Int) (w : World) (h0 : 0 ≤ n) (h1 : n ≤ 1048576) (hm : rs.length ≤ maxLen) (hf : ∀ r ∈ rs, r.fits) (hr : WkS w v rs) :
    Calls Tryz.prog 88 #[v, .int .i64 n] w fun e w' => e = .returned (.int .i64 (leftW n rs)) ∧ Below w.heap.size w w' := by
  obtain ⟨a, cap, rfl⟩ := hr.len
  unfold maxLen at hm
  by_cases c0 : n < rs.length
  · have HR := hid (show leftW n rs = -1 from if_neg (by unfold wzAll; omega))
    go_enter Tryz.func88, Tryz.ntmps88
    go_wp2
    go_ret
    exact ⟨ret_int HR.out.symm, Below.refl _ _⟩
  · have d0 : decide (n - (rs.length : Int) < 0) = false := by simp; omega
    go_enter Tryz.func88, Tryz.ntmps88
    go_wp2
    go_loopw [1, 5] (fun m i wr => ∃ k : Nat, k ≤ rs.length ∧ i = .int .i64 k ∧ m = .int .i64 (n - rs.length - wzTo rs k) ∧ 0 ≤ n - rs.length - wzTo rs k ∧ Below w.heap.size w wr) (fun _ i _ => rs.length - (intOf i).toNat)
    case atStart => exact ⟨0, Nat.zero_le _, rfl, by rw [wzTo_zero]; go_num, by rw [wzTo_zero]; omega, Below.refl _ _⟩
    case round =>
      obtain ⟨k, hk, rfl, rfl, hp, hB⟩ := hrel
      by_cases hlt : k < rs.length
      · obtain ⟨b, off, rfl, hb, hcap, q0, q1, q2⟩ := (hr.below hB).at hlt
        have f1 := hf rs[k] (List.getElem_mem hlt)
        have HS := hid (wzTo_succ hlt)
        have HT := hid (wzTo_le rs (k + 1))
        generalize rs[k] = r at *
        go_wp2_with fail
        refine (szWork_any r _ _ hp (by omega) f1).mono ?_
        rintro e w1 ⟨rfl, hB1⟩
        have hB2 := below_one hB hB1
        by_cases c1 : (r.name.size : Int) ≤ n - rs.length - wzTo rs k
        · have hv : left1 (n - rs.length - wzTo rs k) r.name.size = n - rs.length - wzTo rs (k + 1) := by
            rw [HS.out]
            unfold left1
            rw [if_pos (by omega)]
            omega
          have hq : 0 ≤ n - rs.length - wzTo rs (k + 1) := by rw [HS.out]; omega
          rw [hv]
          have d1 : decide (n - (rs.length : Int) - (wzTo rs (k + 1) : Int) < 0) = false := by simp; omega
          clear hv hB1 q0 q1 q2
          go_wp2_with fail
          go_roundw
          case rel => exact ⟨k + 1, by omega, by go_num, rfl, hq, hB2⟩
          case measure => simp [intOf]; omega
        · have hv : left1 (n - rs.length - wzTo rs k) r.name.size = -1 := if_neg (by omega)
          have HR := hid (show leftW n rs = -1 from if_neg (by have := HT.out; rw [HS.out] at this; unfold wzAll; omega))
          rw [hv]
          clear hv hB1 q0 q1 q2
          go_wp2_with fail
          go_ret
          exact ⟨ret_int HR.out.symm, hB2⟩
      · obtain rfl : k = rs.length := by omega
        have HR := hid (show leftW n rs = n - rs.length - wzTo rs rs.length by unfold leftW wzAll; rw [if_pos (by omega)]; omega)
        go_wp2
        go_ret
        exact ⟨ret_int HR.out.symm, hB⟩

abbrev Wk.cells (k : Wk) : List Value := [.string k.name, .bool k.live, .int .i64 k.se]
theorem wflat_len (ks : List Wk) : (ks.flatMap Wk.cells).length = ks.length * 3 := by
  induction ks with
  | nil => rfl
  | cons r rs ih => rw [List.flatMap_cons, List.length_append, ih]; simp; omega
theorem wflat_at (rs : List Wk) : ∀ (k j : Nat) (h : k < rs.length), j < 3 → (rs.flatMap Wk.cells)[k * 3 + j]? = rs[k].cells[j]? := by
  induction rs with
  | nil => intro k j h; simp at h
  | cons r rs ih =>
    intro k j h hj
    rw [List.flatMap_cons]
    cases k with
    | zero => rw [List.getElem?_append_left (by simp; omega)]; simp
    | succ k =>
      rw [List.getElem?_append_right (by simp; omega)]
      have := ih k j (by simpa using h) hj
      rw [show (k + 1) * 3 + j - r.cells.length = k * 3 + j by simp; omega]
      simpa using this
/-- A slice of works of one's own reads as its list. -/
theorem WkS.own {w : World} {base : Nat} {v : Value} {rs : List Wk} (h : w.ownsRow base 177 3 v rs.length (rs.flatMap Wk.cells)) : WkS w v rs := by
  rcases h.2 with ⟨rfl, h0⟩ | ⟨g, cap, cur, rfl, hg, hb, hle, _⟩
  · exact .inl ⟨none, 0, rfl, List.eq_nil_of_length_eq_zero h0⟩
  · refine .inr ⟨g, 0, cap, rfl, (Array.getElem?_eq_some_iff.1 hb).1, hle, fun k hk => ?_⟩
    have hc : ∀ j, j < 3 → w.cell? ⟨g, k * 3 + j, none⟩ = rs[k].cells[j]? := fun j hj => by rw [h.cellAt (k * 3 + j) (by omega), wflat_at rs k j hk hj]
    have h0 := hc 0 (by omega)
    have h1 := hc 1 (by omega)
    have h2 := hc 2 (by omega)
    simp only [Nat.add_zero, List.getElem?_cons_zero, List.getElem?_cons_succ] at h0 h1 h2
    exact ⟨by rw [Nat.zero_add]; exact h0, by rw [Nat.zero_add]; exact h1, by rw [Nat.zero_add]; exact h2⟩
theorem infoWork : (Tryz.prog.info? 177).map (fun i => (i.zero, i.size, i.bytes)) = some (some (.agg #[.string ByteArray.empty, .bool false, .int .i64 0]), 3, 32) := by kernel_rfl

set_option maxHeartbeats 1000000 in
theorem toWork_any (k : Wk) (w : World) :
    Calls Tryz.prog 124 #[k.val] w fun e w' => e = .returned k.val ∧ Below w.heap.size w w' := by
  go_enter Tryz.func124, Tryz.ntmps124
  go_wp2
  exact bodyPost_ret (v := k.val) (by simp [results, Tryz.results124, go_sem]) rfl ⟨rfl, (((Below.refl _ w).alloc (Nat.le_refl _) _).alloc (by simp) _).alloc (by simp; omega) _⟩

set_option maxHeartbeats 2000000 in
theorem toWorkS_any (v : Value) (rs : List Wk) (w : World) (hm : rs.length ≤ 1048576) (hr : WkS w v rs) :
    Calls Tryz.prog 90 #[v] w fun e w' => ∃ v', e = .returned v' ∧ w'.ownsRow w.heap.size 177 3 v' rs.length (rs.flatMap Wk.cells) ∧ Below w.heap.size w w' := by
  obtain ⟨a, cap, rfl⟩ := hr.len
  obtain ⟨i0, hi, hz0, hz1, hz2⟩ := info_parts infoWork
  go_enter Tryz.func90, Tryz.ntmps90
  go_wp2_with (at_make; refine wpList_make_full _ rfl _ _ 66 rfl w.heap.size 177 i0 _ 3 Tryz.underlying66 hi hz0 hz1 _ _ _ _ rs.length rfl rfl rfl rfl (by rw [hz2]; omega) (by unfold maxLen; omega) (Nat.le_refl _) ?_; intro w1 hown hgrow)
  have hB1 : Below w.heap.size w w1 := (Below.refl _ w).grown hgrow (Nat.le_refl _) (fun k e => by cases e)
  go_loopw [4] (fun i wr => ∃ k : Nat, k ≤ rs.length ∧ i = .int .i64 k ∧ ∃ xs, wr.ownsRow w.heap.size 177 3 (.slice (some ⟨w.heap.size, 0, none⟩) rs.length rs.length) rs.length xs ∧ xs.take (k * 3) = (rs.take k).flatMap Wk.cells ∧ Below w.heap.size w wr) (fun i _ => rs.length - (intOf i).toNat)
  case atStart => exact ⟨0, Nat.zero_le _, rfl, _, hown, by simp, hB1⟩
  case round =>
    obtain ⟨k, hk, rfl, xs, hrow, hx, hB⟩ := hrel
    have HX := hid hx
    clear hx
    by_cases hlt : k < rs.length
    · obtain ⟨b, off, rfl, hb, hcap, q0, q1, q2⟩ := (hr.below hB).at hlt
      have HT := hid (List.take_succ_eq_append_getElem hlt)
      generalize rs[k] = r at *
      go_wp2_with fail
      refine (toWork_any r _).mono ?_
      rintro e w2 ⟨rfl, hB2⟩
      have hrow2 := ownsRow_below hrow hB2
      have hB3 := below_one hB hB2
      have hlen : xs.length = rs.length * 3 := hrow2.1
      have s0 := hrow2.cellAt (k * 3) (by omega)
      have s1 := hrow2.cellAt (k * 3 + 1) (by omega)
      have s2 := hrow2.cellAt (k * 3 + 2) (by omega)
      rw [List.getElem?_eq_getElem (by omega)] at s0 s1 s2
      have t0 := hrow2.frozenAt (k * 3)
      have t1 := hrow2.frozenAt (k * 3 + 1)
      have t2 := hrow2.frozenAt (k * 3 + 2)
      generalize xs[k * 3] = y0 at *
      generalize xs[k * 3 + 1] = y1 at *
      generalize xs[k * 3 + 2] = y2 at *
      clear q0 q1 q2 hB2
      go_wp2_with fail
      go_roundw
      case rel =>
        refine ⟨k + 1, by omega, by go_num, _, ((hrow2.stored (k * 3) (.string r.name)).1.stored (k * 3 + 1) (.bool r.live)).1.stored (k * 3 + 2) (.int .i64 r.se) |>.1, ?_, ((hB3.setCell (p := ⟨w.heap.size, _, none⟩) (Nat.le_refl _) _).setCell (p := ⟨w.heap.size, _, none⟩) (Nat.le_refl _) _).setCell (p := ⟨w.heap.size, _, none⟩) (Nat.le_refl _) _⟩
        rw [take_set3 _ _ _ _ _ (by omega), HX.out, HT.out, List.flatMap_append]
        simp
      case measure => simp [intOf]; omega
    · obtain rfl : k = rs.length := by omega
      have HF := hid (show xs = rs.flatMap Wk.cells by have := HX.out; rw [List.take_of_length_le (by have := hrow.1; omega), List.take_length] at this; exact this)
      go_wp2
      go_ret
      exact ⟨_, rfl, by rw [← HF.out]; exact hrow, hB⟩

end Go.Proofs.YtnbojbcljfiamaaGreatDoor

namespace Go.Proofs.YtnbojbcljfiamaaGreatDoor
open Go.RowKit Go.Shelf

set_option maxHeartbeats 1000000 in
theorem eqWork_same (r : Wk) (w : World) :
    Calls Tryz.prog 127 #[r.val, r.val] w fun e w' => e = .returned (.bool true) ∧ Below w.heap.size w w' := by
  have e0 : (r.name.toList == r.name.toList) = true := by simp
  have e1 : (r.live != r.live) = false := by simp
  have e2 : (r.se != r.se) = false := by simp
  go_enter Tryz.func127, Tryz.ntmps127
  go_wp2
  go_ret
  exact ⟨rfl, ((Below.refl _ w).alloc (Nat.le_refl _) _).alloc (by simp) _⟩

set_option maxHeartbeats 2000000 in
/-- A list of works is like itself, wherever the two lie. -/
theorem eqWorkS_same (v v' : Value) (ks : List Wk) (w : World) (hn : ks.length ≤ 1048577) (hr : WkS w v ks) (hr' : WkS w v' ks) :
    Calls Tryz.prog 92 #[v, v'] w fun e w' => e = .returned (.bool true) ∧ Below w.heap.size w w' := by
  obtain ⟨a, cap, rfl⟩ := hr.len
  obtain ⟨a', cap', rfl⟩ := hr'.len
  have e0 : ((ks.length : Int) != (ks.length : Int)) = false := by simp
  go_enter Tryz.func92, Tryz.ntmps92
  go_wp2
  go_loopw [5] (fun i wr => ∃ j : Nat, j ≤ ks.length ∧ i = .int .i64 j ∧ Below w.heap.size w wr) (fun i _ => ks.length - (intOf i).toNat)
  case atStart => exact ⟨0, Nat.zero_le _, rfl, Below.refl _ _⟩
  case round =>
    obtain ⟨j, hj, rfl, hB⟩ := hrel
    by_cases hlt : j < ks.length
    · obtain ⟨b, off, rfl, hb, hcap, q0, q1, q2⟩ := (hr.below hB).at hlt
      obtain ⟨b', off', rfl, hb', hcap', p0, p1, p2⟩ := (hr'.below hB).at hlt
      generalize ks[j] = r at *
      go_wp2_with fail
      go_region_with (go_at_call 127; refine (eqWork_same r _).mono ?_; rintro e w1 ⟨rfl, hB1⟩)
      all_goals go_wp2
      all_goals go_roundw
      all_goals first
        | exact ⟨j + 1, by omega, by go_num, below_one hB (below_drew1 hB1)⟩
        | (simp [intOf]; omega)
    · obtain rfl : j = ks.length := by omega
      go_wp2
      go_ret
      exact ⟨rfl, hB⟩

/-- No list of an issuer is longer than the laws take. -/
def Is.short (s : Is) : Prop := s.ws.length ≤ 1048577 ∧ s.rv.length ≤ 1048577 ∧ s.sg.length ≤ 1048577

set_option maxHeartbeats 2000000 in
/-- An issuer is like itself, wherever the two lie. -/
theorem eqIssuer_same (v v' : Value) (s : Is) (w : World) (hs : s.short) (h : IsA w v s) (h' : IsA w v' s) :
    Calls Tryz.prog 56 #[v, v'] w fun e w' => e = .returned (.bool true) ∧ Below w.heap.size w w' := by
  obtain ⟨vw, vr, vs, rfl, h1, h2, h3⟩ := h.parts
  obtain ⟨vw', vr', vs', rfl, h1', h2', h3'⟩ := h'.parts
  obtain ⟨l1, l2, l3⟩ := hs
  have hB0 : Below w.heap.size w ((w.alloc (.cells #[vw, .int .i64 s.nx, vr, vs] 68)).alloc (.cells #[vw', .int .i64 s.nx, vr', vs'] 68)) := ((Below.refl _ w).alloc (Nat.le_refl _) _).alloc (by simp) _
  have F1 := (Four.new w vw (.int .i64 s.nx) vr vs 68).below ((Below.refl _ _).alloc (Nat.le_refl _) (.cells #[vw', .int .i64 s.nx, vr', vs'] 68))
  have F2 := Four.at (w.alloc (.cells #[vw, .int .i64 s.nx, vr, vs] 68)) vw' (.int .i64 s.nx) vr' vs' 68 (k := w.heap.size + 1) (by simp)
  have e1 : (s.nx != s.nx) = false := by simp
  go_enter Tryz.func56, Tryz.ntmps56
  go_wp2_with fail
  generalize (w.alloc (.cells #[vw, .int .i64 s.nx, vr, vs] 68)).alloc (.cells #[vw', .int .i64 s.nx, vr', vs'] 68) = W0 at *
  refine (eqWorkS_same vw vw' s.ws _ l1 (h1.below hB0) (h1'.below hB0)).mono ?_
  rintro e w1 ⟨rfl, hB1⟩
  replace F1 := F1.below hB1
  replace F2 := F2.below hB1
  have hBB1 := below_one hB0 hB1
  clear hB1 hB0
  obtain ⟨a0, a1, a2, a3⟩ := F1.c
  obtain ⟨c0, c1, c2, c3⟩ := F2.c
  go_wp2_with fail
  refine (eqIntS_same vr vr' s.rv _ l2 (h2.below hBB1) (h2'.below hBB1)).mono ?_
  rintro e w2 ⟨rfl, hB2⟩
  replace F1 := F1.below hB2
  replace F2 := F2.below hB2
  have hBB2 := below_one hBB1 hB2
  clear a0 a1 a2 a3 c0 c1 c2 c3 hB2
  obtain ⟨a0, a1, a2, a3⟩ := F1.c
  obtain ⟨c0, c1, c2, c3⟩ := F2.c
  go_wp2_with fail
  refine (eqStringS_any vs vs' s.sg _ l3 (h3.below hBB2) (h3'.below hBB2)).mono ?_
  rintro e w3 ⟨rfl, hB3⟩
  go_wp2_with fail
  go_ret
  exact ⟨rfl, below_one hBB2 hB3⟩

set_option maxHeartbeats 2000000 in
theorem szIssuer_any (v : Value) (s : Is) (w : World) (hf : s.fits) (h : IsA w v s) :
    Calls Tryz.prog 46 #[v, .int .i64 1048576] w fun e w' => e = .returned (.int .i64 (leftI 1048576 s)) ∧ Below w.heap.size w w' := by
  obtain ⟨vw, vr, vs, rfl, h1, h2, h3⟩ := h.parts
  obtain ⟨l1, f1, l2, l3, f3⟩ := hf
  have hB0 : Below w.heap.size w (w.alloc (.cells #[vw, .int .i64 s.nx, vr, vs] 55)) := (Below.refl _ w).alloc (Nat.le_refl _) _
  have F1 := Four.new w vw (.int .i64 s.nx) vr vs 55
  have HI := hid (show leftI 1048576 s = if (s.size : Int) ≤ 1048576 then (1048576 : Int) - (s.size : Int) else (-1 : Int) from rfl)
  have HZ := hid (show s.size = wzAll s.ws + s.rv.length + tzAll s.sg from rfl)
  go_enter Tryz.func46, Tryz.ntmps46
  go_wp2_with fail
  generalize w.alloc (.cells #[vw, .int .i64 s.nx, vr, vs] 55) = W0 at *
  refine (szWorkS_any vw s.ws 1048576 _ (by omega) (by omega) l1 f1 (h1.below hB0)).mono ?_
  rintro e w1 ⟨rfl, hB1⟩
  replace F1 := F1.below hB1
  have hBB1 := below_one hB0 hB1
  clear hB1 hB0
  obtain ⟨a0, a1, a2, a3⟩ := F1.c
  by_cases c1 : (wzAll s.ws : Int) ≤ 1048576
  · rw [show leftW 1048576 s.ws = 1048576 - wzAll s.ws from if_pos c1]
    have d1 : decide ((1048576 : Int) - (wzAll s.ws : Int) < 0) = false := by simp; omega
    go_wp2_with fail
    refine (szIntS_any vr s.rv _ _ (by omega) (by omega) l2 (h2.below hBB1)).mono ?_
    rintro e w2 ⟨rfl, hB2⟩
    replace F1 := F1.below hB2
    have hBB2 := below_one hBB1 hB2
    clear hB2 a0 a1 a2 a3
    obtain ⟨a0, a1, a2, a3⟩ := F1.c
    by_cases c2 : (s.rv.length : Int) ≤ 1048576 - wzAll s.ws
    · rw [show left1 (1048576 - (wzAll s.ws : Int)) s.rv.length = 1048576 - wzAll s.ws - s.rv.length from if_pos c2]
      have d2 : decide ((1048576 : Int) - (wzAll s.ws : Int) - (s.rv.length : Int) < 0) = false := by simp; omega
      go_wp2_with fail
      refine (szStringS_any vs s.sg _ _ (by omega) (by omega) l3 f3 (h3.below hBB2)).mono ?_
      rintro e w3 ⟨rfl, hB3⟩
      have hBB3 := below_one hBB2 hB3
      clear hB3 a0 a1 a2 a3
      by_cases c3 : (tzAll s.sg : Int) ≤ 1048576 - wzAll s.ws - s.rv.length
      · rw [show leftT (1048576 - (wzAll s.ws : Int) - (s.rv.length : Int)) s.sg = 1048576 - wzAll s.ws - s.rv.length - tzAll s.sg from if_pos c3]
        have d3 : decide ((1048576 : Int) - (wzAll s.ws : Int) - (s.rv.length : Int) - (tzAll s.sg : Int) < 0) = false := by simp; omega
        have HR := hid (show leftI 1048576 s = 1048576 - wzAll s.ws - s.rv.length - tzAll s.sg by rw [HI.out, if_pos (by rw [HZ.out]; push_cast; omega), HZ.out]; push_cast; omega)
        go_wp2_with fail
        go_ret
        exact ⟨ret_int HR.out.symm, hBB3⟩
      · rw [show leftT (1048576 - (wzAll s.ws : Int) - (s.rv.length : Int)) s.sg = -1 from if_neg c3]
        have HR := hid (show leftI 1048576 s = -1 by rw [HI.out, if_neg (by rw [HZ.out]; push_cast; omega)])
        go_wp2_with fail
        go_ret
        exact ⟨ret_int HR.out.symm, hBB3⟩
    · rw [show left1 (1048576 - (wzAll s.ws : Int)) s.rv.length = -1 from if_neg c2]
      have HR := hid (show leftI 1048576 s = -1 by rw [HI.out, if_neg (by rw [HZ.out]; push_cast; omega)])
      go_wp2_with fail
      go_ret
      exact ⟨ret_int HR.out.symm, hBB2⟩
  · rw [show leftW 1048576 s.ws = -1 from if_neg c1]
    have HR := hid (show leftI 1048576 s = -1 by rw [HI.out, if_neg (by rw [HZ.out]; push_cast; omega)])
    go_wp2_with fail
    go_ret
    exact ⟨ret_int HR.out.symm, hBB1⟩

/-- An issuer of one's own: its lists lie in blocks from base on, below top. -/
def IsO (w : World) (base top : Nat) (v : Value) (s : Is) : Prop :=
  ∃ vw vr vs, v = .agg #[vw, .int .i64 s.nx, vr, vs] ∧ w.ownsRow base 177 3 vw s.ws.length (s.ws.flatMap Wk.cells) ∧ w.ownsRow base 3 1 vr s.rv.length (nums s.rv) ∧ w.ownsRow base 9 1 vs s.sg.length (strs s.sg) ∧ (∀ k, vw.ownBlock = some k → k < top) ∧ (∀ k, vr.ownBlock = some k → k < top) ∧ ∀ k, vs.ownBlock = some k → k < top
theorem IsO.a {w : World} {base top : Nat} {v : Value} {s : Is} (h : IsO w base top v s) : IsA w v s := by
  obtain ⟨vw, vr, vs, rfl, h1, h2, h3, _⟩ := h
  exact ⟨vw, vr, vs, rfl, WkS.own h1, VS.ownN h2, VS.ownS h3⟩
theorem IsO.below {w w' : World} {base top : Nat} {v : Value} {s : Is} (h : IsO w base top v s) (hB : Below w.heap.size w w') : IsO w' base top v s := by
  obtain ⟨vw, vr, vs, rfl, h1, h2, h3, t1, t2, t3⟩ := h
  exact ⟨vw, vr, vs, rfl, ownsRow_below h1 hB, ownsRow_below h2 hB, ownsRow_below h3 hB, t1, t2, t3⟩
theorem IsO.of {w : World} {base : Nat} {vw vr vs : Value} {s : Is} (h1 : w.ownsRow base 177 3 vw s.ws.length (s.ws.flatMap Wk.cells)) (h2 : w.ownsRow base 3 1 vr s.rv.length (nums s.rv)) (h3 : w.ownsRow base 9 1 vs s.sg.length (strs s.sg)) : IsO w base w.heap.size (.agg #[vw, .int .i64 s.nx, vr, vs]) s :=
  ⟨vw, vr, vs, rfl, h1, h2, h3, fun k hk => (h1.lt k hk).2, fun k hk => (h2.lt k hk).2, fun k hk => (h3.lt k hk).2⟩
theorem IsO.mono {w : World} {base base' top top' : Nat} {v : Value} {s : Is} (h : IsO w base top v s) (hb : base' ≤ base) (ht : top ≤ top') : IsO w base' top' v s := by
  obtain ⟨vw, vr, vs, rfl, h1, h2, h3, t1, t2, t3⟩ := h
  exact ⟨vw, vr, vs, rfl, Go.Joins.ownsRow_le h1 hb, Go.Joins.ownsRow_le h2 hb, Go.Joins.ownsRow_le h3 hb, fun k hk => Nat.lt_of_lt_of_le (t1 k hk) ht, fun k hk => Nat.lt_of_lt_of_le (t2 k hk) ht, fun k hk => Nat.lt_of_lt_of_le (t3 k hk) ht⟩

set_option maxHeartbeats 2000000 in
theorem toIssuer_any (v : Value) (s : Is) (w : World) (hs : s.size ≤ 1048576) (h : IsA w v s) :
    Calls Tryz.prog 51 #[v] w fun e w' => ∃ v', e = .returned v' ∧ IsO w' w.heap.size w'.heap.size v' s ∧ Below w.heap.size w w' := by
  obtain ⟨vw, vr, vs, rfl, h1, h2, h3⟩ := h.parts
  have l1 : s.ws.length ≤ 1048576 := by unfold Is.size wzAll at hs; omega
  have l2 : s.rv.length ≤ 1048576 := by unfold Is.size at hs; omega
  have l3 : s.sg.length ≤ 1048576 := by unfold Is.size tzAll at hs; omega
  have hB0 : Below w.heap.size w (((w.alloc (.cells #[vw, .int .i64 s.nx, vr, vs] 55)).alloc (.cells #[.slice none 0 0, .int .i64 0, .slice none 0 0, .slice none 0 0] 68)).alloc (.cells #[.slice none 0 0, .int .i64 0, .slice none 0 0, .slice none 0 0] 68)) := (((Below.refl _ w).alloc (Nat.le_refl _) _).alloc (by simp) _).alloc (by simp; omega) _
  have F1 := ((Four.new w vw (.int .i64 s.nx) vr vs 55).below ((Below.refl _ _).alloc (Nat.le_refl _) (.cells #[.slice none 0 0, .int .i64 0, .slice none 0 0, .slice none 0 0] 68))).below ((Below.refl _ _).alloc (Nat.le_refl _) (.cells #[.slice none 0 0, .int .i64 0, .slice none 0 0, .slice none 0 0] 68))
  have F2 := (Four.at (w.alloc (.cells #[vw, .int .i64 s.nx, vr, vs] 55)) (.slice none 0 0) (.int .i64 0) (.slice none 0 0) (.slice none 0 0) 68 (k := w.heap.size + 1) (by simp)).below ((Below.refl _ _).alloc (Nat.le_refl _) (.cells #[.slice none 0 0, .int .i64 0, .slice none 0 0, .slice none 0 0] 68))
  have F3 := Four.at ((w.alloc (.cells #[vw, .int .i64 s.nx, vr, vs] 55)).alloc (.cells #[.slice none 0 0, .int .i64 0, .slice none 0 0, .slice none 0 0] 68)) (.slice none 0 0) (.int .i64 0) (.slice none 0 0) (.slice none 0 0) 68 (k := w.heap.size + 1 + 1) (by simp)
  have hz0 : (((w.alloc (.cells #[vw, .int .i64 s.nx, vr, vs] 55)).alloc (.cells #[.slice none 0 0, .int .i64 0, .slice none 0 0, .slice none 0 0] 68)).alloc (.cells #[.slice none 0 0, .int .i64 0, .slice none 0 0, .slice none 0 0] 68)).heap.size = w.heap.size + 1 + 1 + 1 := by simp
  have HZ := hid hz0
  clear hz0
  go_enter Tryz.func51, Tryz.ntmps51
  go_wp2_with fail
  generalize (((w.alloc (.cells #[vw, .int .i64 s.nx, vr, vs] 55)).alloc (.cells #[.slice none 0 0, .int .i64 0, .slice none 0 0, .slice none 0 0] 68)).alloc (.cells #[.slice none 0 0, .int .i64 0, .slice none 0 0, .slice none 0 0] 68)) = W0 at *
  refine (toWorkS_any vw s.ws _ l1 (h1.below hB0)).mono ?_
  rintro e w1 ⟨v1, rfl, o1, hB1⟩
  obtain ⟨a1', m1', c1', hv1⟩ := row_slice o1
  subst hv1
  replace F1 := F1.below hB1
  replace F2 := F2.below hB1
  replace F3 := F3.below hB1
  have hBB1 := below_one hB0 hB1
  clear hB1 hB0
  obtain ⟨a0, a1, a2, a3⟩ := F1.c
  obtain ⟨c0, c1, c2, c3⟩ := F3.c
  have f0 := F3.f 0
  have f1 := F3.f 1
  go_wp2_with fail
  have F1' := (F1.other (k' := w.heap.size + 1 + 1) (by omega) 0 (.slice a1' m1' c1')).other (k' := w.heap.size + 1 + 1) (by omega) 1 (.int .i64 s.nx)
  have F2' := (F2.other (k' := w.heap.size + 1 + 1) (by omega) 0 (.slice a1' m1' c1')).other (k' := w.heap.size + 1 + 1) (by omega) 1 (.int .i64 s.nx)
  have F3' := (F3.s0 (.slice a1' m1' c1')).s1 (.int .i64 s.nx)
  have hB1' := (hBB1.setCell (p := ⟨w.heap.size + 1 + 1, 0, none⟩) (by simp; omega) (.slice a1' m1' c1')).setCell (p := ⟨w.heap.size + 1 + 1, 1, none⟩) (by simp; omega) (.int .i64 s.nx)
  have o1' := ownsRow_setCell_below (ownsRow_setCell_below o1 (a := ⟨w.heap.size + 1 + 1, 0, none⟩) (by rw [HZ.out]; simp) (.slice a1' m1' c1')) (a := ⟨w.heap.size + 1 + 1, 1, none⟩) (by rw [HZ.out]; simp) (.int .i64 s.nx)
  clear F1 F2 F3 hBB1 o1 a0 a1 a2 a3 c0 c1 c2 c3 f0 f1
  generalize (w1.setCell ⟨w.heap.size + 1 + 1, 0, none⟩ (.slice a1' m1' c1')).setCell ⟨w.heap.size + 1 + 1, 1, none⟩ (.int .i64 s.nx) = W1 at *
  refine (toIntS_any vr s.rv _ l2 (h2.below hB1')).mono ?_
  rintro e w2 ⟨v2, rfl, o2, hB2⟩
  obtain ⟨a2', m2', c2', hv2⟩ := row_slice o2
  subst hv2
  have z1 := hB1'.size
  replace F1 := F1'.below hB2
  replace F2 := F2'.below hB2
  replace F3 := F3'.below hB2
  replace o1 := ownsRow_below o1' hB2
  have hBB2 := below_one hB1' hB2
  have hl3 := F3'.lt
  clear hB2 hB1' F1' F2' F3' o1'
  obtain ⟨a0, a1, a2, a3⟩ := F1.c
  obtain ⟨c0, c1, c2, c3⟩ := F3.c
  have f2 := F3.f 2
  go_wp2_with fail
  have F2' := F2.other (k' := w.heap.size + 1 + 1) (by omega) 2 (.slice a2' m2' c2')
  have F3' := F3.s2 (.slice a2' m2' c2')
  have hB2' := hBB2.setCell (p := ⟨w.heap.size + 1 + 1, 2, none⟩) (by simp; omega) (.slice a2' m2' c2')
  have o1' := ownsRow_setCell_below o1 (a := ⟨w.heap.size + 1 + 1, 2, none⟩) (by rw [HZ.out]; simp) (.slice a2' m2' c2')
  have o2' := ownsRow_setCell_below o2 (a := ⟨w.heap.size + 1 + 1, 2, none⟩) hl3 (.slice a2' m2' c2')
  clear F1 F2 F3 hBB2 o1 o2 a0 a1 a2 a3 c0 c1 c2 c3 f2
  generalize w2.setCell ⟨w.heap.size + 1 + 1, 2, none⟩ (.slice a2' m2' c2') = W2 at *
  refine (toStringS_any vs s.sg _ l3 (h3.below hB2')).mono ?_
  rintro e w3 ⟨v3, rfl, o3, hB3⟩
  obtain ⟨a3', m3', c3', hv3⟩ := row_slice o3
  subst hv3
  have z2 := hB2'.size
  replace F2 := F2'.below hB3
  replace F3 := F3'.below hB3
  replace o1 := ownsRow_below o1' hB3
  replace o2 := ownsRow_below o2' hB3
  have hBB3 := below_one hB2' hB3
  have hl4 := F3'.lt
  have hl5 := F2'.lt
  clear hB3 hB2' F2' F3' o1' o2'
  obtain ⟨b0, b1, b2, b3⟩ := F2.c
  obtain ⟨c0, c1, c2, c3⟩ := F3.c
  have f3 := F3.f 3
  have g0 := F2.f 0
  have g1 := F2.f 1
  have g2 := F2.f 2
  have g3 := F2.f 3
  have o1' := ownsRow_setCell_below o1 (a := ⟨w.heap.size + 1 + 1, 3, none⟩) (by rw [HZ.out]; simp) (.slice a3' m3' c3')
  have o2' := ownsRow_setCell_below o2 (a := ⟨w.heap.size + 1 + 1, 3, none⟩) hl3 (.slice a3' m3' c3')
  have o3' := ownsRow_setCell_below o3 (a := ⟨w.heap.size + 1 + 1, 3, none⟩) hl4 (.slice a3' m3' c3')
  have hBB' := hBB3.setCell (p := ⟨w.heap.size + 1 + 1, 3, none⟩) (by simp; omega) (.slice a3' m3' c3')
  go_wp2_with fail
  have G := ((((F2.other (k' := w.heap.size + 1 + 1) (by omega) 3 (.slice a3' m3' c3')).s0 (.slice a1' m1' c1')).s1 (.int .i64 s.nx)).s2 (.slice a2' m2' c2')).s3 (.slice a3' m3' c3')
  have p1 := row_four o1' (k := w.heap.size + 1) (by rw [HZ.out]; omega) (.slice a1' m1' c1') (.int .i64 s.nx) (.slice a2' m2' c2') (.slice a3' m3' c3')
  have p2 := row_four o2' (k := w.heap.size + 1) (by omega) (.slice a1' m1' c1') (.int .i64 s.nx) (.slice a2' m2' c2') (.slice a3' m3' c3')
  have p3 := row_four o3' (k := w.heap.size + 1) (by omega) (.slice a1' m1' c1') (.int .i64 s.nx) (.slice a2' m2' c2') (.slice a3' m3' c3')
  have pB := below_four hBB' (k := w.heap.size + 1) (by omega) (.slice a1' m1' c1') (.int .i64 s.nx) (.slice a2' m2' c2') (.slice a3' m3' c3')
  have hW0 : w.heap.size ≤ W0.heap.size := by rw [HZ.out]; omega
  generalize ((((w3.setCell ⟨w.heap.size + 1 + 1, 3, none⟩ (.slice a3' m3' c3')).setCell ⟨w.heap.size + 1, 0, none⟩ (.slice a1' m1' c1')).setCell ⟨w.heap.size + 1, 1, none⟩ (.int .i64 s.nx)).setCell ⟨w.heap.size + 1, 2, none⟩ (.slice a2' m2' c2')).setCell ⟨w.heap.size + 1, 3, none⟩ (.slice a3' m3' c3') = W4 at *
  obtain ⟨d0, d1, d2, d3⟩ := G.c
  exact bodyPost_ret (v := .agg #[(.slice a1' m1' c1'), .int .i64 s.nx, (.slice a2' m2' c2'), (.slice a3' m3' c3')]) (by simp [results, Tryz.results51, go_sem, d0, d1, d2, d3]) rfl ⟨_, rfl, IsO.of (Go.Joins.ownsRow_le p1 hW0) (Go.Joins.ownsRow_le p2 z1) (Go.Joins.ownsRow_le p3 z2), pB⟩

end Go.Proofs.YtnbojbcljfiamaaGreatDoor

namespace Go.Proofs.YtnbojbcljfiamaaGreatDoor
open Go.RowKit Go.Shelf

/-- The work that is laid at i, from the number k on. -/
def mkW (k i : Nat) : Wk := ⟨mkT (k + 3 * i), (((k + 3 * i : Nat) : Int) + 1) % 3 == 0, ((k + 3 * i : Nat) : Int) + 2⟩
def mkWs (k n : Nat) : List Wk := (List.range n).map (mkW k)
theorem mkWs_len (k n : Nat) : (mkWs k n).length = n := by simp [mkWs]
theorem mkWs_succ (k n : Nat) : mkWs k (n + 1) = mkWs k n ++ [mkW k n] := by
  unfold mkWs
  rw [List.range_succ, List.map_append]
  rfl
theorem mkWs_at {k n i : Nat} (h : i < (mkWs k n).length) : (mkWs k n)[i] = mkW k i := by simp [mkWs]

end Go.Proofs.YtnbojbcljfiamaaGreatDoor

namespace Go.Proofs.YtnbojbcljfiamaaGreatDoor
open Go.RowKit Go.Shelf

theorem Mid.iso {lo hi : Nat} {w w1 : World} (h : Mid lo hi w w1) {base top : Nat} {v : Value} {s : Is} (hr : IsO w base top v s) (ho : hi ≤ base ∨ top ≤ lo) : IsO w1 base top v s := by
  obtain ⟨vw, vr, vs, rfl, h1, h2, h3, t1, t2, t3⟩ := hr
  exact ⟨vw, vr, vs, rfl, h.row h1 (fun k hk => by have := h1.lt k hk; have := t1 k hk; omega), h.row h2 (fun k hk => by have := h2.lt k hk; have := t2 k hk; omega), h.row h3 (fun k hk => by have := h3.lt k hk; have := t3 k hk; omega), t1, t2, t3⟩
/-- What lies in an issuer that was marked. -/
def mkIs (k : Nat) (s : Is) : Is := ⟨mkWs k s.ws.length, s.nx, mkN (k + 3 * s.ws.length) s.rv.length, mkS (k + 3 * s.ws.length + s.rv.length) s.sg.length⟩
def Is.many (s : Is) : Nat := 3 * s.ws.length + s.rv.length + s.sg.length

end Go.Proofs.YtnbojbcljfiamaaGreatDoor

namespace Go.Proofs.YtnbojbcljfiamaaGreatDoor
open Go.RowKit Go.Shelf

/-- A slice reads as this list of versions. -/
def SsA (w : World) (v : Value) (ss : List Sn) : Prop :=
  (∃ a cap, v = .slice a 0 cap ∧ ss = []) ∨
  ∃ b off cap, v = .slice (some ⟨b, off, none⟩) ss.length cap ∧ b < w.heap.size ∧ ss.length ≤ cap ∧ ∀ i (h : i < ss.length), ∃ vp vr, w.cell? ⟨b, off + i * 3, none⟩ = some (.int .i64 ss[i].num) ∧ w.cell? ⟨b, off + i * 3 + 1, none⟩ = some vp ∧ w.cell? ⟨b, off + i * 3 + 2, none⟩ = some vr ∧ RuS w vp ss[i].pol ∧ VS w vr (nums ss[i].rv)
def SsR (w : World) (v : Value) (ss : List Sn) : Prop :=
  (v = .slice none 0 0 ∧ ss = []) ∨
  ∃ b off cap, v = .slice (some ⟨b, off, none⟩) ss.length cap ∧ b < w.heap.size ∧ ss.length ≤ cap ∧ ∀ i (h : i < ss.length), ∃ vp vr, w.cell? ⟨b, off + i * 3, none⟩ = some (.int .i64 ss[i].num) ∧ w.cell? ⟨b, off + i * 3 + 1, none⟩ = some vp ∧ w.cell? ⟨b, off + i * 3 + 2, none⟩ = some vr ∧ RuR w vp ss[i].pol ∧ NuR w vr ss[i].rv
theorem SsA.below {w w' : World} {v : Value} {ss : List Sn} (h : SsA w v ss) (hB : Below w.heap.size w w') : SsA w' v ss := by
  rcases h with h | ⟨b, off, cap, hv, hb, hl, hc⟩
  · exact .inl h
  · refine .inr ⟨b, off, cap, hv, Nat.lt_of_lt_of_le hb hB.size, hl, fun i hi => ?_⟩
    obtain ⟨vp, vr, c0, c1, c2, h1, h2⟩ := hc i hi
    exact ⟨vp, vr, (hB.cell (p := ⟨b, _, none⟩) hb).trans c0, (hB.cell (p := ⟨b, _, none⟩) hb).trans c1, (hB.cell (p := ⟨b, _, none⟩) hb).trans c2, h1.below hB, h2.below hB⟩
theorem SsR.below {w w' : World} {v : Value} {ss : List Sn} (h : SsR w v ss) (hB : Below w.heap.size w w') : SsR w' v ss := by
  rcases h with h | ⟨b, off, cap, hv, hb, hl, hc⟩
  · exact .inl h
  · refine .inr ⟨b, off, cap, hv, Nat.lt_of_lt_of_le hb hB.size, hl, fun i hi => ?_⟩
    obtain ⟨vp, vr, c0, c1, c2, h1, h2⟩ := hc i hi
    exact ⟨vp, vr, (hB.cell (p := ⟨b, _, none⟩) hb).trans c0, (hB.cell (p := ⟨b, _, none⟩) hb).trans c1, (hB.cell (p := ⟨b, _, none⟩) hb).trans c2, h1.below hB, h2.below hB⟩
theorem SsR.a {w : World} {v : Value} {ss : List Sn} (h : SsR w v ss) : SsA w v ss := by
  rcases h with ⟨rfl, rfl⟩ | ⟨b, off, cap, hv, hb, hl, hc⟩
  · exact .inl ⟨_, _, rfl, rfl⟩
  · refine .inr ⟨b, off, cap, hv, hb, hl, fun i hi => ?_⟩
    obtain ⟨vp, vr, c0, c1, c2, h1, h2⟩ := hc i hi
    exact ⟨vp, vr, c0, c1, c2, h1.s, h2.s⟩
theorem SsA.len {w : World} {v : Value} {ss : List Sn} (h : SsA w v ss) : ∃ a cap, v = .slice a ss.length cap := by
  rcases h with ⟨a, cap, hv, rfl⟩ | ⟨b, off, cap, hv, _⟩
  · exact ⟨a, cap, hv⟩
  · exact ⟨_, cap, hv⟩
theorem SsR.len {w : World} {v : Value} {ss : List Sn} (h : SsR w v ss) : ∃ a cap, v = .slice a ss.length cap := h.a.len
theorem SsA.at {w : World} {a : Option Addr} {n cap : Nat} {ss : List Sn} (h : SsA w (.slice a n cap) ss) {i : Nat} (hi : i < ss.length) :
    ∃ b off xp cp xr cr, a = some ⟨b, off, none⟩ ∧ b < w.heap.size ∧ n ≤ cap ∧ w.cell? ⟨b, off + i * 3, none⟩ = some (.int .i64 ss[i].num) ∧ w.cell? ⟨b, off + i * 3 + 1, none⟩ = some (.slice xp ss[i].pol.length cp) ∧ w.cell? ⟨b, off + i * 3 + 2, none⟩ = some (.slice xr ss[i].rv.length cr) ∧ RuS w (.slice xp ss[i].pol.length cp) ss[i].pol ∧ VS w (.slice xr ss[i].rv.length cr) (nums ss[i].rv) := by
  rcases h with ⟨_, _, _, rfl⟩ | ⟨b, off, cap, hv, hb, hl, hc⟩
  · simp at hi
  · cases hv
    obtain ⟨vp, vr, c0, c1, c2, h1, h2⟩ := hc i hi
    obtain ⟨xp, cp, rfl⟩ := h1.len
    obtain ⟨xr, cr, rfl⟩ := h2.numLen
    exact ⟨b, off, xp, cp, xr, cr, rfl, hb, hl, c0, c1, c2, h1, h2⟩
theorem SsR.at {w : World} {a : Option Addr} {n cap : Nat} {ss : List Sn} (h : SsR w (.slice a n cap) ss) {i : Nat} (hi : i < ss.length) :
    ∃ b off xp cp xr cr, a = some ⟨b, off, none⟩ ∧ b < w.heap.size ∧ n ≤ cap ∧ w.cell? ⟨b, off + i * 3, none⟩ = some (.int .i64 ss[i].num) ∧ w.cell? ⟨b, off + i * 3 + 1, none⟩ = some (.slice xp ss[i].pol.length cp) ∧ w.cell? ⟨b, off + i * 3 + 2, none⟩ = some (.slice xr ss[i].rv.length cr) ∧ RuR w (.slice xp ss[i].pol.length cp) ss[i].pol ∧ NuR w (.slice xr ss[i].rv.length cr) ss[i].rv := by
  rcases h with ⟨_, rfl⟩ | ⟨b, off, cap, hv, hb, hl, hc⟩
  · simp at hi
  · cases hv
    obtain ⟨vp, vr, c0, c1, c2, h1, h2⟩ := hc i hi
    obtain ⟨xp, cp, rfl⟩ := h1.len
    obtain ⟨xr, cr, rfl⟩ := h2.len
    exact ⟨b, off, xp, cp, xr, cr, rfl, hb, hl, c0, c1, c2, h1, h2⟩

set_option maxRecDepth 100000 in
open Go.Deep Go.ChangeShapes Go.WideShapes Go.Joins in
/-- A list of versions that comes in. -/
theorem openSsS {H : Type} {enc : TypeId × Value → H} {W : World} {a : Option Addr} {n c : Nat} {d : DataW H} {p : List MemPlace} (h : DataW.Trod enc Tryz.prog W 0 (fun _ => true) true 56 (.slice a n c) d p) :
    ∃ ss : List Sn, SsA W (.slice a n c) ss ∧ ss.length = n ∧ n ≤ maxLen ∧ ∀ s ∈ ss, s.fits := by
  obtain ⟨fuel, hf⟩ := h
  rcases open_slice Tryz.underlying56 hf with ⟨hcs, _⟩ | ⟨x, len, cap, m, k, D, Pl, hcs, _, hl, hm, hmm, _, hx⟩
  · simp [Value.cells] at hcs
    obtain ⟨rfl, rfl, rfl⟩ := hcs
    exact ⟨[], .inl ⟨_, _, rfl, rfl⟩, rfl, Nat.zero_le _, fun r hr => by cases hr⟩
  · simp [Value.cells] at hcs
    obtain ⟨rfl, rfl, rfl⟩ := hcs
    have hlm : n ≤ m := by rw [hmm]; simpa using hl
    have each : ∀ i, i < n → ∃ s : Sn, (∃ vp vr, W.cell? (x.add (i * 3)) = some (.int .i64 s.num) ∧ W.cell? (x.add (i * 3 + 1)) = some vp ∧ W.cell? (x.add (i * 3 + 2)) = some vr ∧ RuS W vp s.pol ∧ VS W vr (nums s.rv)) ∧ s.fits := by
      intro i hi
      obtain ⟨cs', h1, h2⟩ := hx i (by omega)
      rw [cellsSnapshot] at h1
      obtain ⟨_, hlen, hcell⟩ := World.cells?_some h1
      obtain ⟨y0, y1, y2, m', _, _, g0, g1, g2⟩ := trod_struct3 Tryz.underlying25 h2
      match cs', hlen with
      | [v0, v1, v2], _ =>
        have e0 := hcell 0 (by omega)
        have e1 := hcell 1 (by omega)
        have e2 := hcell 2 (by omega)
        rw [add_add] at e0 e1 e2
        have c1 : Tryz.prog.cellsOf 3 = 1 := by kernel_rfl
        have c2 : Tryz.prog.cellsOf 22 = 1 := by kernel_rfl
        have c3 : Tryz.prog.cellsOf 23 = 1 := by kernel_rfl
        simp [c1, c2, c3] at g0 g1 g2
        obtain ⟨x0, f0, _, _⟩ := DataW.trod_int Tryz.underlying3 g0
        obtain ⟨a1, n1, k1, rs, rfl, r1, rfl, l1, f1⟩ := openRuR g1
        obtain ⟨a2, n2, k2, zs, rfl, r2, rfl, l2⟩ := openInR g2
        simp at f0
        subst f0
        exact ⟨⟨x0, rs, zs⟩, ⟨_, _, by simpa using e0, by simpa using e1, by simpa using e2, r1, r2⟩, l1, f1, l2⟩
    have hin : Inhabited Sn := ⟨Sn.none⟩
    obtain ⟨q, hq⟩ := choose_lt each
    by_cases h0 : n = 0
    · subst h0
      exact ⟨[], .inl ⟨_, _, rfl, rfl⟩, rfl, Nat.zero_le _, fun r hr => by cases hr⟩
    · obtain ⟨b, off, spot⟩ := x
      obtain ⟨_, _, hz, _⟩ := (hq 0 (by omega)).1
      have hs : spot = none := by simpa [Addr.add] using World.cell?_spot hz
      subst hs
      have hlt : b < W.heap.size := by
        rw [Addr.add_lit] at hz
        by_cases hb : b < W.heap.size
        · exact hb
        · simp only [World.cell?] at hz
          rw [Array.getElem?_eq_none (by omega)] at hz
          cases hz
      refine ⟨(List.range n).map q, .inr ⟨b, off, c, by simp, hlt, by simpa using hl, fun k hk => ?_⟩, by simp, by omega, ?_⟩
      · have hk' : k < n := by simpa using hk
        obtain ⟨vp, vr, c0, c1, c2, h1, h2⟩ := (hq k hk').1
        simp only [Addr.add_lit, ← Nat.add_assoc] at c0 c1 c2
        refine ⟨vp, vr, ?_, c1, c2, ?_, ?_⟩
        · simpa using c0
        · simpa using h1
        · simpa using h2
      · intro r hr
        obtain ⟨i, hi, rfl⟩ := List.mem_map.1 hr
        exact (hq i (List.mem_range.1 hi)).2

def vzTo (ss : List Sn) (n : Nat) : Nat := ((ss.take n).map Sn.size).sum
def vzAll (ss : List Sn) : Nat := ss.length + vzTo ss ss.length
theorem vzTo_zero (ss : List Sn) : vzTo ss 0 = 0 := by simp [vzTo]
theorem vzTo_succ {ss : List Sn} {n : Nat} (h : n < ss.length) : vzTo ss (n + 1) = vzTo ss n + ss[n].size := by
  unfold vzTo
  rw [List.take_succ_eq_append_getElem h, List.map_append, List.sum_append]
  simp
theorem vzTo_le (ss : List Sn) (n : Nat) : vzTo ss n ≤ vzTo ss ss.length := by
  unfold vzTo
  rw [List.take_length]
  conv => rhs; rw [← List.take_append_drop n ss, List.map_append, List.sum_append]
  omega
theorem vz_mem {ss : List Sn} {s : Sn} (h : s ∈ ss) : s.size ≤ vzTo ss ss.length := by
  unfold vzTo
  rw [List.take_length]
  exact sum_mem (List.mem_map.2 ⟨s, h, rfl⟩)
def leftVS (n : Int) (ss : List Sn) : Int := if (vzAll ss : Int) ≤ n then n - vzAll ss else -1

set_option maxHeartbeats 1000000 in
theorem szSnapshotS_any (v : Value) (rs : List Sn) (n : Int) (w : World) (h0 : 0 ≤ n) (h1 : n ≤ 1048576) (hm : rs.length ≤ maxLen) (hf : ∀ r ∈ rs, r.fits) (hr : SsA w v rs) :
    Calls Tryz.prog 47 #[v, .int .i64 n] w fun e w' => e = .returned (.int .i64 (leftVS n rs)) ∧ Below w.heap.size w w' := by
  obtain ⟨a, cap, rfl⟩ := hr.len
  unfold maxLen at hm
  by_cases c0 : n < rs.length
  · have HR := hid (show leftVS n rs = -1 from if_neg (by unfold vzAll; omega))
    go_enter Tryz.func47, Tryz.ntmps47
    go_wp2
    go_ret
    exact ⟨ret_int HR.out.symm, Below.refl _ _⟩
  · have d0 : decide (n - (rs.length : Int) < 0) = false := by simp; omega
    go_enter Tryz.func47, Tryz.ntmps47
    go_wp2
    go_loopw [1, 5] (fun m i wr => ∃ k : Nat, k ≤ rs.length ∧ i = .int .i64 k ∧ m = .int .i64 (n - rs.length - vzTo rs k) ∧ 0 ≤ n - rs.length - vzTo rs k ∧ Below w.heap.size w wr) (fun _ i _ => rs.length - (intOf i).toNat)
    case atStart => exact ⟨0, Nat.zero_le _, rfl, by rw [vzTo_zero]; go_num, by rw [vzTo_zero]; omega, Below.refl _ _⟩
    case round =>
      obtain ⟨k, hk, rfl, rfl, hp, hB⟩ := hrel
      by_cases hlt : k < rs.length
      · obtain ⟨b, off, xp, cp, xr, cr, rfl, hb, hcap, q0, q1, q2, y1, y2⟩ := (hr.below hB).at hlt
        have f1 := hf rs[k] (List.getElem_mem hlt)
        have HS := hid (vzTo_succ hlt)
        have HT := hid (vzTo_le rs (k + 1))
        generalize rs[k] = r at *
        go_wp2_with fail
        refine (szSnapshot_any _ r _ _ hp (by omega) f1 ⟨_, _, rfl, y1, y2⟩).mono ?_
        rintro e w1 ⟨rfl, hB1⟩
        have hB2 := below_one hB hB1
        by_cases c1 : (r.size : Int) ≤ n - rs.length - vzTo rs k
        · have hv : leftV (n - rs.length - vzTo rs k) r = n - rs.length - vzTo rs (k + 1) := by
            rw [HS.out]
            unfold leftV
            rw [if_pos (by omega)]
            omega
          have hq : 0 ≤ n - rs.length - vzTo rs (k + 1) := by rw [HS.out]; omega
          rw [hv]
          have d1 : decide (n - (rs.length : Int) - (vzTo rs (k + 1) : Int) < 0) = false := by simp; omega
          clear hv hB1 q0 q1 q2 y1 y2
          go_wp2_with fail
          go_roundw
          case rel => exact ⟨k + 1, by omega, by go_num, rfl, hq, hB2⟩
          case measure => simp [intOf]; omega
        · have hv : leftV (n - rs.length - vzTo rs k) r = -1 := if_neg (by omega)
          have HR := hid (show leftVS n rs = -1 from if_neg (by have := HT.out; rw [HS.out] at this; unfold vzAll; omega))
          rw [hv]
          clear hv hB1 q0 q1 q2 y1 y2
          go_wp2_with fail
          go_ret
          exact ⟨ret_int HR.out.symm, hB2⟩
      · obtain rfl : k = rs.length := by omega
        have HR := hid (show leftVS n rs = n - rs.length - vzTo rs rs.length by unfold leftVS vzAll; rw [if_pos (by omega)]; omega)
        go_wp2
        go_ret
        exact ⟨ret_int HR.out.symm, hB⟩

/-- No list is longer than the laws take. -/
def shortS (ss : List Sn) : Prop := ss.length ≤ 1048576 ∧ ∀ s ∈ ss, s.short
theorem shortS_of {ss : List Sn} (h : vzAll ss ≤ 1048576) : shortS ss := by
  unfold vzAll at h
  exact ⟨by omega, fun s hs => Sn.short_of (by have := vz_mem hs; omega)⟩

set_option maxHeartbeats 2000000 in
/-- A list of versions is like itself, wherever the two lie. -/
theorem eqSnapshotS_same (v v' : Value) (ss : List Sn) (w : World) (hn : shortS ss) (hr : SsA w v ss) (hr' : SsA w v' ss) :
    Calls Tryz.prog 57 #[v, v'] w fun e w' => e = .returned (.bool true) ∧ Below w.heap.size w w' := by
  obtain ⟨a, cap, rfl⟩ := hr.len
  obtain ⟨a', cap', rfl⟩ := hr'.len
  have hn1 := hn.1
  have e0 : ((ss.length : Int) != (ss.length : Int)) = false := by simp
  go_enter Tryz.func57, Tryz.ntmps57
  go_wp2
  go_loopw [5] (fun i wr => ∃ j : Nat, j ≤ ss.length ∧ i = .int .i64 j ∧ Below w.heap.size w wr) (fun i _ => ss.length - (intOf i).toNat)
  case atStart => exact ⟨0, Nat.zero_le _, rfl, Below.refl _ _⟩
  case round =>
    obtain ⟨j, hj, rfl, hB⟩ := hrel
    by_cases hlt : j < ss.length
    · obtain ⟨b, off, xp, cp, xr, cr, rfl, hb, hcap, q0, q1, q2, y1, y2⟩ := (hr.below hB).at hlt
      obtain ⟨b', off', xp', cp', xr', cr', rfl, hb', hcap', p0, p1, p2, y1', y2'⟩ := (hr'.below hB).at hlt
      have hs := hn.2 ss[j] (List.getElem_mem hlt)
      generalize ss[j] = s at *
      go_wp2_with fail
      go_region_with (go_at_call 41; refine (eqSnapshot_same _ _ s _ hs ⟨_, _, rfl, y1.below (Below.refl _ _).drew, y2.below (Below.refl _ _).drew⟩ ⟨_, _, rfl, y1'.below (Below.refl _ _).drew, y2'.below (Below.refl _ _).drew⟩).mono ?_; rintro e w1 ⟨rfl, hB1⟩)
      all_goals go_wp2
      all_goals go_roundw
      all_goals first
        | exact ⟨j + 1, by omega, by go_num, below_one hB (below_drew1 hB1)⟩
        | (simp [intOf]; omega)
    · obtain rfl : j = ss.length := by omega
      go_wp2
      go_ret
      exact ⟨rfl, hB⟩

end Go.Proofs.YtnbojbcljfiamaaGreatDoor

namespace Go.Proofs.YtnbojbcljfiamaaGreatDoor
open Go.RowKit Go.Shelf

/-- A row of n places, of which the first k hold these versions, whose lists lie in blocks of their own from base on, below top. -/
structure SsK (w : World) (base top : Nat) (v : Value) (n : Nat) (ss : List Sn) (k : Nat) (xs : List Value) (vp vr : Nat → Value) : Prop where
  row : w.ownsRow base 40 3 v n xs
  rlt : ∀ j, v.ownBlock = some j → j < top
  cs : ∀ i (h : i < ss.length), i < k → xs[i * 3]? = some (.int .i64 ss[i].num) ∧ xs[i * 3 + 1]? = some (vp i) ∧ xs[i * 3 + 2]? = some (vr i)
  pol : ∀ i (h : i < ss.length), i < k → w.ownsRow base 122 4 (vp i) ss[i].pol.length (ss[i].pol.flatMap Ru.cells)
  num : ∀ i (h : i < ss.length), i < k → w.ownsRow base 3 1 (vr i) ss[i].rv.length (nums ss[i].rv)
  plt : ∀ i, i < ss.length → i < k → ∀ j, (vp i).ownBlock = some j → j < top
  nlt : ∀ i, i < ss.length → i < k → ∀ j, (vr i).ownBlock = some j → j < top
  pap : ∀ i j, i < ss.length → j < ss.length → i < k → j < k → i ≠ j → ∀ b, (vp i).ownBlock = some b → (vp j).ownBlock = some b → False
  nap : ∀ i j, i < ss.length → j < ss.length → i < k → j < k → i ≠ j → ∀ b, (vr i).ownBlock = some b → (vr j).ownBlock = some b → False
/-- A list of versions of one's own. -/
def SsO (w : World) (base top : Nat) (v : Value) (ss : List Sn) : Prop := ∃ xs vp vr, SsK w base top v ss.length ss ss.length xs vp vr
theorem SsK.below {w w' : World} {base top : Nat} {v : Value} {n : Nat} {ss : List Sn} {k : Nat} {xs : List Value} {vp vr : Nat → Value} (h : SsK w base top v n ss k xs vp vr) (hB : Below w.heap.size w w') : SsK w' base top v n ss k xs vp vr :=
  ⟨ownsRow_below h.row hB, h.rlt, h.cs, fun i hi hk => ownsRow_below (h.pol i hi hk) hB, fun i hi hk => ownsRow_below (h.num i hi hk) hB, h.plt, h.nlt, h.pap, h.nap⟩
theorem SsO.below {w w' : World} {base top : Nat} {v : Value} {ss : List Sn} (h : SsO w base top v ss) (hB : Below w.heap.size w w') : SsO w' base top v ss := by
  obtain ⟨xs, vp, vr, h⟩ := h
  exact ⟨xs, vp, vr, h.below hB⟩
theorem Mid.sso {lo hi : Nat} {w w1 : World} (hM : Mid lo hi w w1) {base top : Nat} {v : Value} {ss : List Sn} (h : SsO w base top v ss) (ho : hi ≤ base ∨ top ≤ lo) : SsO w1 base top v ss := by
  obtain ⟨xs, vp, vr, h⟩ := h
  exact ⟨xs, vp, vr, hM.row h.row (fun j hj => by have := h.row.lt j hj; have := h.rlt j hj; omega), h.rlt, h.cs,
    fun i hi hk => hM.row (h.pol i hi hk) (fun j hj => by have := (h.pol i hi hk).lt j hj; have := h.plt i hi hk j hj; omega),
    fun i hi hk => hM.row (h.num i hi hk) (fun j hj => by have := (h.num i hi hk).lt j hj; have := h.nlt i hi hk j hj; omega), h.plt, h.nlt, h.pap, h.nap⟩
theorem SsO.r {w : World} {base top : Nat} {v : Value} {ss : List Sn} (h : SsO w base top v ss) : SsR w v ss := by
  obtain ⟨xs, vp, vr, h⟩ := h
  rcases row_form h.row with ⟨rfl, h0⟩ | ⟨g, cap, rfl, hg, hcap⟩
  · exact .inl ⟨rfl, List.eq_nil_of_length_eq_zero h0⟩
  · refine .inr ⟨g, 0, cap, rfl, (h.row.lt g rfl).2, hcap, fun i hi => ?_⟩
    obtain ⟨c0, c1, c2⟩ := h.cs i hi hi
    refine ⟨vp i, vr i, ?_, ?_, ?_, RuR.own (h.pol i hi hi), NuR.own (h.num i hi hi)⟩
    · rw [Nat.zero_add, h.row.cellAt (i * 3) (by omega)]; exact c0
    · rw [Nat.zero_add, h.row.cellAt (i * 3 + 1) (by omega)]; exact c1
    · rw [Nat.zero_add, h.row.cellAt (i * 3 + 2) (by omega)]; exact c2
theorem SsO.a {w : World} {base top : Nat} {v : Value} {ss : List Sn} (h : SsO w base top v ss) : SsA w v ss := h.r.a
theorem SsO.mono {w : World} {base base' top top' : Nat} {v : Value} {ss : List Sn} (h : SsO w base top v ss) (hb : base' ≤ base) (ht : top ≤ top') : SsO w base' top' v ss := by
  obtain ⟨xs, vp, vr, h⟩ := h
  exact ⟨xs, vp, vr, Go.Joins.ownsRow_le h.row hb, fun j hj => Nat.lt_of_lt_of_le (h.rlt j hj) ht, h.cs, fun i hi hk => Go.Joins.ownsRow_le (h.pol i hi hk) hb, fun i hi hk => Go.Joins.ownsRow_le (h.num i hi hk) hb,
    fun i hi hk j hj => Nat.lt_of_lt_of_le (h.plt i hi hk j hj) ht, fun i hi hk j hj => Nat.lt_of_lt_of_le (h.nlt i hi hk j hj) ht, h.pap, h.nap⟩
theorem SsO.none (w : World) (base top : Nat) : SsO w base top (.slice none 0 0) [] :=
  ⟨[], fun _ => .nilIface, fun _ => .nilIface, World.ownsRow_nil _ _ _ _, fun _ h => by simp [Value.ownBlock] at h, fun _ h => by simp at h, fun _ h => by simp at h, fun _ h => by simp at h, fun _ h => by simp at h, fun _ h => by simp at h, fun _ _ h => by simp at h, fun _ _ h => by simp at h⟩
theorem tyR : (122 : TypeId) ≠ 40 := by decide
theorem tyN : (3 : TypeId) ≠ 40 := by decide
theorem tyRN : (122 : TypeId) ≠ 3 := by decide
/-- Three cells stored into a row's block leave rows of another kind as they are. -/
theorem row_kept3 {w : World} {b1 b2 : Nat} {e1 : TypeId} {s1 n1 g n cap : Nat} {v1 : Value} {x1 xs : List Value} (h : w.ownsRow b1 e1 s1 v1 n1 x1) (hr : w.ownsRow b2 40 3 (.slice (some ⟨g, 0, none⟩) n cap) n xs) (hne : e1 ≠ 40) (o0 o1 o2 : Nat) (y0 y1 y2 : Value) :
    (((w.setCell ⟨g, o0, none⟩ y0).setCell ⟨g, o1, none⟩ y1).setCell ⟨g, o2, none⟩ y2).ownsRow b1 e1 s1 v1 n1 x1 := by
  have hb : v1.ownBlock ≠ some g := fun e => row_apart h hr hne g e rfl
  exact ownsRow_setCell_other (ownsRow_setCell_other (ownsRow_setCell_other h (a := ⟨g, o0, none⟩) hb y0) (a := ⟨g, o1, none⟩) hb y1) (a := ⟨g, o2, none⟩) hb y2
/-- One more version is laid into the row. -/
theorem SsK.add {w w2 : World} {base g n cap : Nat} {ss : List Sn} {k : Nat} {xs : List Value} {vp vr : Nat → Value} {p r : Value} (h : SsK w base w.heap.size (.slice (some ⟨g, 0, none⟩) n cap) n ss k xs vp vr) (hB : Below w.heap.size w w2) (hk : k < ss.length) (hkn : k < n) (hb : base ≤ w.heap.size)
    (hp : w2.ownsRow w.heap.size 122 4 p ss[k].pol.length (ss[k].pol.flatMap Ru.cells)) (hr : w2.ownsRow w.heap.size 3 1 r ss[k].rv.length (nums ss[k].rv)) :
    SsK (((w2.setCell ⟨g, k * 3, none⟩ (.int .i64 ss[k].num)).setCell ⟨g, k * 3 + 1, none⟩ p).setCell ⟨g, k * 3 + 2, none⟩ r) base (((w2.setCell ⟨g, k * 3, none⟩ (.int .i64 ss[k].num)).setCell ⟨g, k * 3 + 1, none⟩ p).setCell ⟨g, k * 3 + 2, none⟩ r).heap.size (.slice (some ⟨g, 0, none⟩) n cap) n ss (k + 1) (((xs.set (k * 3) (.int .i64 ss[k].num)).set (k * 3 + 1) p).set (k * 3 + 2) r) (fun i => if i = k then p else vp i) (fun i => if i = k then r else vr i) := by
  have h2 := h.below hB
  have hlen : xs.length = n * 3 := h.row.1
  have hsz : (((w2.setCell ⟨g, k * 3, none⟩ (.int .i64 ss[k].num)).setCell ⟨g, k * 3 + 1, none⟩ p).setCell ⟨g, k * 3 + 2, none⟩ r).heap.size = w2.heap.size := by rw [World.size_setCell, World.size_setCell, World.size_setCell]
  have hs := hB.size
  refine ⟨((h2.row.stored (k * 3) _).1.stored (k * 3 + 1) _).1.stored (k * 3 + 2) _ |>.1, ?_, ?_, ?_, ?_, ?_, ?_, ?_, ?_⟩
  · intro j hj
    rw [hsz]
    exact Nat.lt_of_lt_of_le (h.rlt j hj) hs
  · intro i hi hik
    by_cases e : i = k
    · subst e
      rw [if_pos rfl, if_pos rfl]
      refine ⟨?_, ?_, ?_⟩
      · rw [List.getElem?_set_ne (by omega), List.getElem?_set_ne (by omega), List.getElem?_set_self (by omega)]
      · rw [List.getElem?_set_ne (by omega), List.getElem?_set_self (by simp; omega)]
      · rw [List.getElem?_set_self (by simp; omega)]
    · rw [if_neg e, if_neg e]
      obtain ⟨c0, c1, c2⟩ := h.cs i hi (by omega)
      refine ⟨?_, ?_, ?_⟩
      · rw [List.getElem?_set_ne (by omega), List.getElem?_set_ne (by omega), List.getElem?_set_ne (by omega)]; exact c0
      · rw [List.getElem?_set_ne (by omega), List.getElem?_set_ne (by omega), List.getElem?_set_ne (by omega)]; exact c1
      · rw [List.getElem?_set_ne (by omega), List.getElem?_set_ne (by omega), List.getElem?_set_ne (by omega)]; exact c2
  · intro i hi hik
    by_cases e : i = k
    · subst e
      rw [if_pos rfl]
      exact row_kept3 (Go.Joins.ownsRow_le hp hb) h2.row tyR _ _ _ _ _ _
    · rw [if_neg e]
      exact row_kept3 (h2.pol i hi (by omega)) h2.row tyR _ _ _ _ _ _
  · intro i hi hik
    by_cases e : i = k
    · subst e
      rw [if_pos rfl]
      exact row_kept3 (Go.Joins.ownsRow_le hr hb) h2.row tyN _ _ _ _ _ _
    · rw [if_neg e]
      exact row_kept3 (h2.num i hi (by omega)) h2.row tyN _ _ _ _ _ _
  · intro i hi hik j hj
    rw [hsz]
    by_cases e : i = k
    · rw [if_pos e] at hj
      exact (hp.lt j hj).2
    · rw [if_neg e] at hj
      exact Nat.lt_of_lt_of_le (h.plt i hi (by omega) j hj) hs
  · intro i hi hik j hj
    rw [hsz]
    by_cases e : i = k
    · rw [if_pos e] at hj
      exact (hr.lt j hj).2
    · rw [if_neg e] at hj
      exact Nat.lt_of_lt_of_le (h.nlt i hi (by omega) j hj) hs
  · intro i j hi hj hik hjk hij b h1 h2'
    by_cases e : i = k
    · rw [if_pos e] at h1
      rw [if_neg (by omega)] at h2'
      have := (hp.lt b h1).1
      have := h.plt j hj (by omega) b h2'
      omega
    · rw [if_neg e] at h1
      have := h.plt i hi (by omega) b h1
      by_cases e2 : j = k
      · rw [if_pos e2] at h2'
        have := (hp.lt b h2').1
        omega
      · rw [if_neg e2] at h2'
        exact h.pap i j hi hj (by omega) (by omega) hij b h1 h2'
  · intro i j hi hj hik hjk hij b h1 h2'
    by_cases e : i = k
    · rw [if_pos e] at h1
      rw [if_neg (by omega)] at h2'
      have := (hr.lt b h1).1
      have := h.nlt j hj (by omega) b h2'
      omega
    · rw [if_neg e] at h1
      have := h.nlt i hi (by omega) b h1
      by_cases e2 : j = k
      · rw [if_pos e2] at h2'
        have := (hr.lt b h2').1
        omega
      · rw [if_neg e2] at h2'
        exact h.nap i j hi hj (by omega) (by omega) hij b h1 h2'
theorem infoSnapshot : (Tryz.prog.info? 40).map (fun i => (i.zero, i.size, i.bytes)) = some (some (.agg #[.int .i64 0, .slice none 0 0, .slice none 0 0]), 3, 56) := by kernel_rfl

set_option maxHeartbeats 2000000 in
theorem toSnapshotS_any (v : Value) (ss : List Sn) (w : World) (hm : shortS ss) (hr : SsA w v ss) :
    Calls Tryz.prog 52 #[v] w fun e w' => ∃ v', e = .returned v' ∧ SsO w' w.heap.size w'.heap.size v' ss ∧ Below w.heap.size w w' := by
  obtain ⟨a, cap, rfl⟩ := hr.len
  obtain ⟨i0, hi, hz0, hz1, hz2⟩ := info_parts infoSnapshot
  have hm1 := hm.1
  go_enter Tryz.func52, Tryz.ntmps52
  go_wp2_with (at_make; refine wpList_make_full _ rfl _ _ 69 rfl w.heap.size 40 i0 _ 3 Tryz.underlying69 hi hz0 hz1 _ _ _ _ ss.length rfl rfl rfl rfl (by rw [hz2]; omega) (by unfold maxLen; omega) (Nat.le_refl _) ?_; intro w1 hown hgrow)
  have hB1 : Below w.heap.size w w1 := (Below.refl _ w).grown hgrow (Nat.le_refl _) (fun k e => by cases e)
  go_loopw [4] (fun i wr => ∃ k : Nat, k ≤ ss.length ∧ i = .int .i64 k ∧ ∃ xs vp vr, SsK wr w.heap.size wr.heap.size (.slice (some ⟨w.heap.size, 0, none⟩) ss.length ss.length) ss.length ss k xs vp vr ∧ Below w.heap.size w wr) (fun i _ => ss.length - (intOf i).toNat)
  case atStart => exact ⟨0, Nat.zero_le _, rfl, _, fun _ => .nilIface, fun _ => .nilIface, ⟨hown, fun j hj => (hown.lt j hj).2, fun _ _ h => absurd h (Nat.not_lt_zero _), fun _ _ h => absurd h (Nat.not_lt_zero _), fun _ _ h => absurd h (Nat.not_lt_zero _), fun _ _ h => absurd h (Nat.not_lt_zero _), fun _ _ h => absurd h (Nat.not_lt_zero _), fun _ _ _ _ h => absurd h (Nat.not_lt_zero _), fun _ _ _ _ h => absurd h (Nat.not_lt_zero _)⟩, hB1⟩
  case round =>
    obtain ⟨k, hk, rfl, xs, vp, vr, hK, hB⟩ := hrel
    by_cases hlt : k < ss.length
    · obtain ⟨b, off, xp, cp, xr, cr, rfl, hb, hcap, q0, q1, q2, y1, y2⟩ := (hr.below hB).at hlt
      have hsh := hm.2 ss[k] (List.getElem_mem hlt)
      have HA := hid (fun (w2 : World) (p r : Value) (hB2 : Below wr.heap.size wr w2) => SsK.add (w2 := w2) (p := p) (r := r) hK hB2 hlt hlt hB.size)
      go_wp2_with fail
      refine (toSnapshot_any _ ss[k] _ hsh ⟨_, _, rfl, y1, y2⟩).mono ?_
      rintro e w2 ⟨v2, rfl, ⟨p, r, rfl, op, or', tp, tr⟩, hB2⟩
      obtain ⟨xa, ya, za, rfl⟩ := row_slice op
      obtain ⟨xb, yb, zb, rfl⟩ := row_slice or'
      have HK := hid (HA.out w2 _ _ hB2 op or')
      have hrow2 := ownsRow_below hK.row hB2
      have hB3 := below_one hB hB2
      have hlen : xs.length = ss.length * 3 := hrow2.1
      have s0 := hrow2.cellAt (k * 3) (by omega)
      have s1 := hrow2.cellAt (k * 3 + 1) (by omega)
      have s2 := hrow2.cellAt (k * 3 + 2) (by omega)
      rw [List.getElem?_eq_getElem (by omega)] at s0 s1 s2
      have t0 := hrow2.frozenAt (k * 3)
      have t1 := hrow2.frozenAt (k * 3 + 1)
      have t2 := hrow2.frozenAt (k * 3 + 2)
      generalize xs[k * 3] = z0 at *
      generalize xs[k * 3 + 1] = z1 at *
      generalize xs[k * 3 + 2] = z2 at *
      generalize ss[k] = s at *
      clear q0 q1 q2 hB2 hK HA y1 y2 op or'
      go_wp2_with fail
      go_roundw
      case rel => exact ⟨k + 1, by omega, by go_num, _, _, _, HK.out, ((hB3.setCell (p := ⟨w.heap.size, _, none⟩) (Nat.le_refl _) _).setCell (p := ⟨w.heap.size, _, none⟩) (Nat.le_refl _) _).setCell (p := ⟨w.heap.size, _, none⟩) (Nat.le_refl _) _⟩
      case measure => simp [intOf]; omega
    · obtain rfl : k = ss.length := by omega
      go_wp2
      go_ret
      exact ⟨_, rfl, ⟨xs, vp, vr, hK⟩, hB⟩

end Go.Proofs.YtnbojbcljfiamaaGreatDoor
