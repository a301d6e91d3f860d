/-
  Works and lists of works in memory, issuers: how those that come in are read, and what the laws measure.
-/
import Derived.Deep.RegionHeld3
import Derived.Test.YtnbojbcljfiamaaJDeliveredAt2
import Derived.Test.YtnbojbcljfiamaaJDeliveredAt0
import Derived.Laws.FloatArith
import Derived.Test.YtnbojbcljfiamaaJDeliveredAt1
import Derived.WalkKit
import Derived.ProofKit
import Derived.OpenShut
import Derived.Lib.SmallJoins
import Derived.Deep.Slices
namespace Go.Proofs.Ytnbojbcljfiamaa
open Go.RowKit Go.Shelf

set_option maxHeartbeats 4000000 in
theorem szAskS_any (v : Value) (rs : List Ak) (n : Int) (w : World) (h0 : 0 ≤ n) (h1 : n ≤ 1048576) (hm : rs.length ≤ maxLen) (hf : ∀ r ∈ rs, r.fits) (hr : GsA 3 AkC w v rs) :
    Calls Try.prog 84 #[v, .int .i64 n] w fun e w' => e = .returned (.int .i64 (leftK n (gzAll Ak.size rs))) ∧ Below w.heap.size w w' := by
  obtain ⟨a, cap, rfl⟩ := hr.len
  unfold maxLen at hm
  by_cases c0 : n < rs.length
  · have HR := hid (show leftK n (gzAll Ak.size rs) = -1 from if_neg (by unfold gzAll; omega))
    go_enter Try.func84, Try.ntmps84
    go_wp2
    go_ret
    exact ⟨ret_int HR.out.symm, Below.refl _ _⟩
  · have d0 : decide (n - (rs.length : Int) < 0) = false := by simp; omega
    go_enter Try.func84, Try.ntmps84
    go_wp2
    go_loopw [1, 5] (fun m i wr => ∃ k : Nat, k ≤ rs.length ∧ i = .int .i64 k ∧ m = .int .i64 (n - rs.length - gzTo Ak.size rs k) ∧ 0 ≤ n - rs.length - gzTo Ak.size rs k ∧ Below w.heap.size w wr) (fun _ i _ => rs.length - (intOf i).toNat)
    case atStart => exact ⟨0, Nat.zero_le _, rfl, by rw [gzTo_zero]; go_num, by rw [gzTo_zero]; omega, Below.refl _ _⟩
    case round =>
      obtain ⟨k, hk, rfl, rfl, hp, hB⟩ := hrel
      by_cases hlt : k < rs.length
      · obtain ⟨b, off, cs, rfl, hb, hcap, hq, hA⟩ := (hr.below (fun _ _ h => h.below hB) hB).at hlt
        have hA0 := hA
        obtain ⟨p0x, p0z, hcsq, g0⟩ := hA
        subst hcsq
        have q0 := hq 0 _ rfl
        have q1 := hq 1 _ rfl
        have q2 := hq 2 _ rfl
        rw [Nat.add_zero] at q0
        have f1 := hf rs[k] (List.getElem_mem hlt)
        have HS := hid (gzTo_succ (f := Ak.size) hlt)
        have HT := hid (gzTo_le Ak.size rs (k + 1))
        generalize rs[k] = r at *
        clear hq hr
        go_wp2_with fail
        refine (szAsk_any _ r _ _ hp (by omega) f1 hA0).mono ?_
        rintro e w1 ⟨rfl, hB1⟩
        have hB2 := below_one hB hB1
        by_cases c1 : (r.size : Int) ≤ n - rs.length - gzTo Ak.size rs k
        · have hv : leftK (n - rs.length - gzTo Ak.size rs k) r.size = n - rs.length - gzTo Ak.size rs (k + 1) := by
            rw [HS.out]
            unfold leftK
            rw [if_pos (by omega)]
            omega
          have hq : 0 ≤ n - rs.length - gzTo Ak.size rs (k + 1) := by rw [HS.out]; omega
          rw [hv]
          have d1 : decide (n - (rs.length : Int) - (gzTo Ak.size rs (k + 1) : Int) < 0) = false := by simp; omega
          clear hv hB1 q0 q1 q2 hA0 g0
          go_wp2_with fail
          go_roundw
          case rel => exact ⟨k + 1, by omega, by go_num, rfl, hq, hB2⟩
          case measure => simp [intOf]; omega
        · have hv : leftK (n - rs.length - gzTo Ak.size rs k) r.size = -1 := if_neg (by omega)
          have HR := hid (show leftK n (gzAll Ak.size rs) = -1 from if_neg (by have := HT.out; rw [HS.out] at this; unfold gzAll; omega))
          rw [hv]
          clear hv hB1 q0 q1 q2 hA0 g0
          go_wp2_with fail
          go_ret
          exact ⟨ret_int HR.out.symm, hB2⟩
      · obtain rfl : k = rs.length := by omega
        have HR := hid (show leftK n (gzAll Ak.size rs) = n - rs.length - gzTo Ak.size rs rs.length by unfold leftK gzAll; rw [if_pos (by omega)]; omega)
        go_wp2
        go_ret
        exact ⟨ret_int HR.out.symm, hB⟩

set_option maxHeartbeats 4000000 in
/-- A list is like itself, wherever the two lie. -/
theorem eqAskS_same (v v' : Value) (ss : List Ak) (w : World) (hn : gShort Ak.short ss) (hr : GsA 3 AkC w v ss) (hr' : GsA 3 AkC w v' ss) :
    Calls Try.prog 79 #[v, v'] w fun e w' => e = .returned (.bool true) ∧ Below w.heap.size w w' := by
  obtain ⟨a, cap, rfl⟩ := hr.len
  obtain ⟨a', cap', rfl⟩ := hr'.len
  have hn1 := hn.1
  have e0 : ((ss.length : Int) != (ss.length : Int)) = false := by simp
  go_enter Try.func79, Try.ntmps79
  go_wp2
  go_loopw [5] (fun i wr => ∃ j : Nat, j ≤ ss.length ∧ i = .int .i64 j ∧ Below w.heap.size w wr) (fun i _ => ss.length - (intOf i).toNat)
  case atStart => exact ⟨0, Nat.zero_le _, rfl, Below.refl _ _⟩
  case round =>
    obtain ⟨j, hj, rfl, hB⟩ := hrel
    by_cases hlt : j < ss.length
    · obtain ⟨b, off, cs, rfl, hb, hcap, hq, hA⟩ := (hr.below (fun _ _ h => h.below hB) hB).at hlt
      have hA0 := hA
      obtain ⟨p0x, p0z, hcsq, g0⟩ := hA
      subst hcsq
      have q0 := hq 0 _ rfl
      have q1 := hq 1 _ rfl
      have q2 := hq 2 _ rfl
      rw [Nat.add_zero] at q0
      obtain ⟨b', off', cs', rfl, hb', hcap', hq', hA'⟩ := (hr'.below (fun _ _ h => h.below hB) hB).at hlt
      have hA1 := hA'
      obtain ⟨q0x, q0z, hcsp, g'0⟩ := hA'
      subst hcsp
      have p0 := hq' 0 _ rfl
      have p1 := hq' 1 _ rfl
      have p2 := hq' 2 _ rfl
      rw [Nat.add_zero] at p0
      have hs := hn.2 ss[j] (List.getElem_mem hlt)
      generalize ss[j] = s at *
      clear hq hq' hr hr'
      go_wp2_with fail
      go_region_with (go_at_call 75; refine (eqAsk_same _ _ s _ hs (hA0.below (Below.refl _ _).drew) (hA1.below (Below.refl _ _).drew)).mono ?_; rintro e w1 ⟨rfl, hB1⟩)
      all_goals go_wp2
      all_goals go_roundw
      all_goals first
        | exact ⟨j + 1, by omega, by go_num, below_one hB (below_drew1 hB1)⟩
        | (simp [intOf]; omega)
    · obtain rfl : j = ss.length := by omega
      go_wp2
      go_ret
      exact ⟨rfl, hB⟩

theorem infoAsk : (Try.prog.info? 65).map (fun i => (i.zero, i.size, i.bytes)) = some (some (.agg #[.slice none 0 0, .string ⟨#[]⟩, .string ⟨#[]⟩]), 3, 56) := by kernel_rfl
set_option maxHeartbeats 8000000 in
theorem toAskS_any (v : Value) (ss : List Ak) (w : World) (hm : gShort Ak.short ss) (hr : GsA 3 AkC w v ss) :
    Calls Try.prog 90 #[v] w fun e w' => ∃ v', e = .returned v' ∧ GsO 65 3 AkO w' w.heap.size w'.heap.size v' ss ∧ Below w.heap.size w w' := by
  obtain ⟨a, cap, rfl⟩ := hr.len
  obtain ⟨i0, hi, hz0, hz1, hz2⟩ := info_parts infoAsk
  have hm1 := hm.1
  go_enter Try.func90, Try.ntmps90
  go_wp2_with (at_make; refine wpList_make_full _ rfl _ _ 90 rfl w.heap.size 65 i0 _ 3 Try.underlying90 hi hz0 hz1 _ _ _ _ ss.length rfl rfl rfl rfl (by rw [hz2]; omega) (by unfold maxLen; omega) (Nat.le_refl _) ?_; intro w1 hown hgrow)
  have hB1 : Below w.heap.size w w1 := (Below.refl _ w).grown hgrow (Nat.le_refl _) (fun k e => by cases e)
  go_loopw [4] (fun i wr => ∃ k : Nat, k ≤ ss.length ∧ i = .int .i64 k ∧ ∃ ys cs s t, GsK 65 3 AkO wr w.heap.size wr.heap.size (.slice (some ⟨w.heap.size, 0, none⟩) ss.length ss.length) ss.length ss k ys cs s t ∧ Below w.heap.size w wr) (fun i _ => ss.length - (intOf i).toNat)
  case atStart => exact ⟨0, Nat.zero_le _, rfl, _, _, _, _, GsK.start _ _ _ _ _ _ _ _ _ _ hown (fun j hj => (hown.lt j hj).2), hB1⟩
  case round =>
    obtain ⟨k, hk, rfl, ys, cs0, s0, t0', hK, hB⟩ := hrel
    by_cases hlt : k < ss.length
    · obtain ⟨b, off, cs, rfl, hb, hcap, hq, hA⟩ := (hr.below (fun _ _ h => h.below hB) hB).at hlt
      have hA0 := hA
      obtain ⟨p0x, p0z, hcsq, g0⟩ := hA
      subst hcsq
      have q0 := hq 0 _ rfl
      have q1 := hq 1 _ rfl
      have q2 := hq 2 _ rfl
      rw [Nat.add_zero] at q0
      have hsh := hm.2 ss[k] (List.getElem_mem hlt)
      have HA := hid (fun (w2 : World) (zs : List Value) (hB2 : Below wr.heap.size wr w2) (hz : zs.length = 3) (hn : AkO w2 wr.heap.size w2.heap.size zs ss[k]) => GsK.add (w2 := w2) (zs := zs) hK hB.size hB2 hlt hlt hz (fun _ _ _ _ _ _ _ M h ho => h.mid M ho) (fun _ _ _ _ h => h.below hB2) hn)
      clear hq hr
      go_wp2_with fail
      refine (toAsk_any _ ss[k] _ hsh hA0).mono ?_
      rintro e w2 ⟨zs, rfl, hO, hB2⟩
      have hOc := hO
      obtain ⟨o0x, o0z, hzs, o0⟩ := hO
      subst hzs
      have HK := hid (HA.out w2 _ hB2 rfl hOc)
      have hrow2 := ownsRow_below hK.row hB2
      have hB3 := below_one hB hB2
      have hlen : ys.length = ss.length * 3 := hrow2.1
      have s0 := hrow2.cellAt (k * 3) (by omega)
      have s1 := hrow2.cellAt (k * 3 + 1) (by omega)
      have s2 := hrow2.cellAt (k * 3 + 2) (by omega)
      rw [List.getElem?_eq_getElem (by omega)] at s0 s1 s2
      have t0 := hrow2.frozenAt (k * 3)
      have t1 := hrow2.frozenAt (k * 3 + 1)
      have t2 := hrow2.frozenAt (k * 3 + 2)
      generalize ys[k * 3] = z0 at *
      generalize ys[k * 3 + 1] = z1 at *
      generalize ys[k * 3 + 2] = z2 at *
      generalize ss[k] = s at *
      clear q0 q1 q2 hB2 hK HA hA0 g0 o0 hOc
      go_wp2_with fail
      go_roundw
      case rel => exact ⟨k + 1, by omega, by go_num, _, _, _, _, HK.out, (((hB3.setCell (p := ⟨w.heap.size, _, none⟩) (Nat.le_refl _) _).setCell (p := ⟨w.heap.size, _, none⟩) (Nat.le_refl _) _).setCell (p := ⟨w.heap.size, _, none⟩) (Nat.le_refl _) _)⟩
      case measure => simp [intOf]; omega
    · obtain rfl : k = ss.length := by omega
      go_wp2
      go_ret
      exact ⟨_, rfl, ⟨ys, cs0, s0, t0', hK⟩, hB⟩

instance : Inhabited Ak := ⟨⟨[], ByteArray.empty, ByteArray.empty⟩⟩
/-- A delivery. -/
structure Dv where
  at_ : ByteArray
  ak : Ak
  ver : Int
  tim : Int
instance : Inhabited Dv := ⟨⟨ByteArray.empty, default, 0, 0⟩⟩
/-- These cells read as this one. -/
def DvC (w : World) (cs : List Value) (d : Dv) : Prop := ∃ p1x p1z, cs = [.string d.at_, .slice p1x d.ak.tk.length p1z, .string d.ak.me, .string d.ak.pa, .int .i64 d.ver, .int .i64 d.tim] ∧ AkC w [.slice p1x d.ak.tk.length p1z, .string d.ak.me, .string d.ak.pa] d.ak
/-- .. of one's own, in blocks from base on, below top. -/
def DvO (w : World) (base top : Nat) (cs : List Value) (d : Dv) : Prop := ∃ p1x p1z, cs = [.string d.at_, .slice p1x d.ak.tk.length p1z, .string d.ak.me, .string d.ak.pa, .int .i64 d.ver, .int .i64 d.tim] ∧ AkO w base top [.slice p1x d.ak.tk.length p1z, .string d.ak.me, .string d.ak.pa] d.ak
def Dv.fits (d : Dv) : Prop := d.at_.size ≤ maxLen ∧ d.ak.fits
def Dv.size (d : Dv) : Nat := d.at_.size + d.ak.size
def Dv.short (d : Dv) : Prop := d.at_.size ≤ 1048576 ∧ d.ak.short
theorem DvC.below {w w' : World} {cs : List Value} {d : Dv} (h : DvC w cs d) (hB : Below w.heap.size w w') : DvC w' cs d := by
  obtain ⟨p1x, p1z, rfl, h0⟩ := h
  exact ⟨_, _, rfl, h0.below hB⟩
theorem DvO.mid {lo hi : Nat} {w w1 : World} {base top : Nat} {cs : List Value} {d : Dv} (h : DvO w base top cs d) (M : Mid lo hi w w1) (ho : hi ≤ base ∨ top ≤ lo) : DvO w1 base top cs d := by
  obtain ⟨p1x, p1z, rfl, h0⟩ := h
  exact ⟨_, _, rfl, h0.mid M (by omega)⟩
theorem DvO.below {w w1 : World} {base top : Nat} {cs : List Value} {d : Dv} (h : DvO w base top cs d) (hB : Below w.heap.size w w1) : DvO w1 base top cs d := h.mid (Mid.of_below (lo := 0) (hi := 0) hB) (.inl (Nat.zero_le _))
theorem DvO.mono {w : World} {base base' top top' : Nat} {cs : List Value} {d : Dv} (h : DvO w base top cs d) (hb : base' ≤ base) (ht : top ≤ top') : DvO w base' top' cs d := by
  obtain ⟨p1x, p1z, rfl, h0⟩ := h
  exact ⟨_, _, rfl, h0.mono hb ht⟩
theorem Dv.short_of {d : Dv} (h : d.size ≤ 1048576) : d.short := by
  unfold Dv.size at h
  exact ⟨by omega, Ak.short_of (by omega)⟩
theorem DvO.a {w : World} {base top : Nat} {cs : List Value} {d : Dv} (h : DvO w base top cs d) : DvC w cs d := by
  obtain ⟨_, _, rfl, h0⟩ := h
  exact ⟨_, _, rfl, h0.a⟩

set_option maxRecDepth 100000 in
theorem cellsDelivery : Try.prog.cellsOf 118 = 6 := by kernel_rfl
set_option maxRecDepth 100000 in
open Go.Deep Go.ChangeShapes Go.WideShapes Go.ChangeAt Go.Joins in
theorem openDvC {H : Type} {enc : TypeId × Value → H} {W : World} {l : List Value} {y : DataW H × List MemPlace} {fuel : Nat} (hsz : l.length = 6) (hf : DataW.trod enc Try.prog W 0 (fun _ => true) true fuel 118 l = some y) :
    ∃ d : Dv, DvC W l d ∧ d.fits := by
  obtain ⟨c0, c1, c2, c3, c4, c5, rfl⟩ : ∃ c0 c1 c2 c3 c4 c5, l = [c0, c1, c2, c3, c4, c5] := by
    match l, hsz with
    | [c0, c1, c2, c3, c4, c5], _ => exact ⟨c0, c1, c2, c3, c4, c5, rfl⟩
  obtain ⟨xs, n, _, _, _, hlen, hfs⟩ := DataW.trod_struct Try.underlying118 hf
  obtain ⟨y0, y1, y2, y3, rfl⟩ : ∃ y0 y1 y2 y3, xs = [y0, y1, y2, y3] := by
    match xs, hlen with
    | [y0, y1, y2, y3], _ => exact ⟨y0, y1, y2, y3, rfl⟩
  have ci : Try.prog.cellsOf 3 = 1 := by kernel_rfl
  have cs : Try.prog.cellsOf 9 = 1 := by kernel_rfl
  have h0 : DataW.trod enc Try.prog W 0 (fun _ => true) true n 9 [c0] = some y0 := by have := hfs 0 _ rfl; simpa [Value.cells, cs] using this
  have h1 : DataW.trod enc Try.prog W 0 (fun _ => true) true n 116 [c1, c2, c3] = some y1 := by have := hfs 1 _ rfl; simpa [Value.cells, cs, cellsAsk] using this
  have h2 : DataW.trod enc Try.prog W 0 (fun _ => true) true n 3 [c4] = some y2 := by have := hfs 2 _ rfl; simpa [Value.cells, cs, cellsAsk, ci] using this
  have h3 : DataW.trod enc Try.prog W 0 (fun _ => true) true n 3 [c5] = some y3 := by have := hfs 3 _ rfl; simpa [Value.cells, cs, cellsAsk, ci] using this
  obtain ⟨x0, f0, _, w0⟩ := DataW.trod_string Try.underlying9 h0
  obtain ⟨a, hA, w1⟩ := openAkC rfl h1
  obtain ⟨x2, f2, _, _⟩ := DataW.trod_int Try.underlying3 h2
  obtain ⟨x3, f3, _, _⟩ := DataW.trod_int Try.underlying3 h3
  simp at f0 f2 f3
  subst f0 f2 f3
  obtain ⟨px, pz, he, _⟩ := id hA
  cases he
  exact ⟨⟨x0, a, x2, x3⟩, ⟨_, _, rfl, hA⟩, w0, w1⟩
set_option maxRecDepth 100000 in
open Go.Deep Go.ChangeShapes Go.WideShapes Go.ChangeAt Go.Joins in
/-- A delivery that comes in. -/
theorem openDv {H : Type} {enc : TypeId × Value → H} {W : World} {base : Nat} {v : Value} {y : DataW H} {p : List MemPlace} (hv : Value.okWide Try.prog W .any base 118 v) (h : DataW.Trod enc Try.prog W 0 (fun _ => true) true 118 v y p) :
    ∃ (cs : List Value) (d : Dv), v = .agg cs.toArray ∧ DvC W cs d ∧ d.fits := by
  obtain ⟨cs, rfl, hsz⟩ := okWide_struct Try.underlying118 hv
  rw [cellsDelivery] at hsz
  obtain ⟨l⟩ := cs
  obtain ⟨fuel, hf⟩ := h
  obtain ⟨a, h1, h2⟩ := openDvC hsz hf
  exact ⟨l, a, rfl, h1, h2⟩

set_option maxHeartbeats 4000000 in
set_option maxRecDepth 100000 in
theorem szDelivery_any (cs : List Value) (d : Dv) (n : Int) (w : World) (h0 : 0 ≤ n) (hn : n ≤ 1048576) (hf : d.fits) (h : DvC w cs d) :
    Calls Try.prog 68 #[.agg cs.toArray, .int .i64 n] w fun e w' => e = .returned (.int .i64 (leftK n d.size)) ∧ Below w.heap.size w w' := by
  obtain ⟨p1x, p1z, rfl, h2⟩ := h
  obtain ⟨f0, f1⟩ := hf
  have hB0 : Below w.heap.size w (w.alloc (.cells #[.string d.at_, .slice p1x d.ak.tk.length p1z, .string d.ak.me, .string d.ak.pa, .int .i64 d.ver, .int .i64 d.tim] 118)) := (Below.refl _ w).alloc (Nat.le_refl _) _
  have F1 := Six.new w (.string d.at_) (.slice p1x d.ak.tk.length p1z) (.string d.ak.me) (.string d.ak.pa) (.int .i64 d.ver) (.int .i64 d.tim) 118
  have HI := hid (show leftK n d.size = if (d.size : Int) ≤ n then n - (d.size : Int) else (-1 : Int) from rfl)
  have HZ := hid (show d.size = d.at_.size + d.ak.size from rfl)
  obtain ⟨N0, HN0⟩ : ∃ N : Nat, Hid (N = d.at_.size) := ⟨_, hid rfl⟩
  obtain ⟨N1, HN1⟩ : ∃ N : Nat, Hid (N = d.ak.size) := ⟨_, hid rfl⟩
  have HN0' := HN0.out
  have e0 : d.at_.size = N0 := HN0'.symm
  have u0 : N0 ≤ 9223372036854775807 := by unfold maxLen at f0; omega
  clear HN0'
  go_enter Try.func68, Try.ntmps68
  by_cases c0 : (N0 : Int) ≤ n
  · have d0 : decide (n - (N0 : Int) < 0) = false := by simp; omega
    go_wp2_with fail
    generalize w.alloc (.cells #[.string d.at_, .slice p1x d.ak.tk.length p1z, .string d.ak.me, .string d.ak.pa, .int .i64 d.ver, .int .i64 d.tim] 118) = W0 at *
    refine (szAsk_any _ d.ak (n - (N0 : Int)) _ (by omega) (by omega) f1 (h2.below hB0)).mono ?_
    rintro e w2 ⟨rfl, hB2⟩
    replace F1 := F1.below hB2
    replace hB0 := below_one hB0 hB2
    clear hB2
    obtain ⟨a0, a1, a2, a3, a4, a5⟩ := F1.c
    by_cases c1 : (N1 : Int) ≤ n - (N0 : Int)
    · rw [show leftK (n - (N0 : Int)) d.ak.size = n - (N0 : Int) - (N1 : Int) from (show leftK (n - (N0 : Int)) _ = _ by unfold leftK; rw [← HN1.out]; exact if_pos c1)]
      have d1 : decide (n - (N0 : Int) - (N1 : Int) < 0) = false := by simp; omega
      have HR := hid (show leftK n d.size = n - (N0 : Int) - (N1 : Int) by rw [HI.out, if_pos (by rw [HZ.out, ← HN0.out, ← HN1.out]; push_cast; omega)]; rw [HZ.out, ← HN0.out, ← HN1.out]; push_cast; omega)
      go_wp2_with fail
      go_ret
      exact ⟨ret_int HR.out.symm, hB0⟩
    · rw [show leftK (n - (N0 : Int)) d.ak.size = -1 from (show leftK (n - (N0 : Int)) _ = _ by unfold leftK; rw [← HN1.out]; exact if_neg c1)]
      have HR := hid (show leftK n d.size = -1 by rw [HI.out, if_neg (by rw [HZ.out, ← HN0.out, ← HN1.out]; push_cast; omega)])
      go_wp2_with fail
      go_ret
      exact ⟨ret_int HR.out.symm, hB0⟩
  · have d0 : decide (n - (N0 : Int) < 0) = true := by simp; omega
    have HR := hid (show leftK n d.size = -1 by rw [HI.out, if_neg (by rw [HZ.out, ← HN0.out, ← HN1.out]; push_cast; omega)])
    go_wp2_with fail
    go_ret
    exact ⟨ret_int HR.out.symm, hB0⟩

set_option maxHeartbeats 4000000 in
set_option maxRecDepth 100000 in
theorem eqDelivery_same (cs cs' : List Value) (d : Dv) (w : World) (hs : d.short) (h : DvC w cs d) (h' : DvC w cs' d) :
    Calls Try.prog 40 #[.agg cs.toArray, .agg cs'.toArray] w fun e w' => e = .returned (.bool true) ∧ Below w.heap.size w w' := by
  obtain ⟨p1x, p1z, rfl, h1⟩ := h
  obtain ⟨q1x, q1z, rfl, h1'⟩ := h'
  obtain ⟨s0, s1⟩ := hs
  have hB0 : Below w.heap.size w ((w.alloc (.cells #[.string d.at_, .slice p1x d.ak.tk.length p1z, .string d.ak.me, .string d.ak.pa, .int .i64 d.ver, .int .i64 d.tim] 67)).alloc (.cells #[.string d.at_, .slice q1x d.ak.tk.length q1z, .string d.ak.me, .string d.ak.pa, .int .i64 d.ver, .int .i64 d.tim] 67)) := ((Below.refl _ w).alloc (Nat.le_refl _) _).alloc (by simp) _
  have F1 := (Six.new w (.string d.at_) (.slice p1x d.ak.tk.length p1z) (.string d.ak.me) (.string d.ak.pa) (.int .i64 d.ver) (.int .i64 d.tim) 67).below ((Below.refl _ _).alloc (Nat.le_refl _) (.cells #[.string d.at_, .slice q1x d.ak.tk.length q1z, .string d.ak.me, .string d.ak.pa, .int .i64 d.ver, .int .i64 d.tim] 67))
  have F2 := Six.at (w.alloc (.cells #[.string d.at_, .slice p1x d.ak.tk.length p1z, .string d.ak.me, .string d.ak.pa, .int .i64 d.ver, .int .i64 d.tim] 67)) (.string d.at_) (.slice q1x d.ak.tk.length q1z) (.string d.ak.me) (.string d.ak.pa) (.int .i64 d.ver) (.int .i64 d.tim) 67 (k := w.heap.size + 1) (by simp)
  have e0 : (d.at_.toList == d.at_.toList) = true := by simp
  have e2 : (d.ver != d.ver) = false := by simp
  have e3 : (d.tim != d.tim) = false := by simp
  go_enter Try.func40, Try.ntmps40
  go_wp2_with fail
  generalize (w.alloc (.cells #[.string d.at_, .slice p1x d.ak.tk.length p1z, .string d.ak.me, .string d.ak.pa, .int .i64 d.ver, .int .i64 d.tim] 67)).alloc (.cells #[.string d.at_, .slice q1x d.ak.tk.length q1z, .string d.ak.me, .string d.ak.pa, .int .i64 d.ver, .int .i64 d.tim] 67) = W0 at *
  refine (eqAsk_same _ _ d.ak _ s1 (h1.below hB0) (h1'.below hB0)).mono ?_
  rintro e w2 ⟨rfl, hB2⟩
  replace F1 := F1.below hB2
  replace F2 := F2.below hB2
  replace hB0 := below_one hB0 hB2
  clear hB2
  obtain ⟨a0, a1, a2, a3, a4, a5⟩ := F1.c
  obtain ⟨c0, c1, c2, c3, c4, c5⟩ := F2.c
  go_wp2_with fail
  go_ret
  exact ⟨rfl, hB0⟩

set_option maxHeartbeats 16000000 in
set_option maxRecDepth 100000 in
theorem toDelivery_any (cs : List Value) (d : Dv) (w : World) (hs : d.short) (h : DvC w cs d) :
    Calls Try.prog 74 #[.agg cs.toArray] w fun e w' => ∃ cs', e = .returned (.agg cs'.toArray) ∧ DvO w' w.heap.size w'.heap.size cs' d ∧ Below w.heap.size w w' := by
  obtain ⟨p1x, p1z, rfl, h1⟩ := h
  obtain ⟨s0, s1⟩ := hs
  have hB0 : Below w.heap.size w (((w.alloc (.cells #[.string d.at_, .slice p1x d.ak.tk.length p1z, .string d.ak.me, .string d.ak.pa, .int .i64 d.ver, .int .i64 d.tim] 118)).alloc (.cells #[.string ⟨#[]⟩, .slice none 0 0, .string ⟨#[]⟩, .string ⟨#[]⟩, .int .i64 0, .int .i64 0] 67)).alloc (.cells #[.string d.at_, .slice none 0 0, .string ⟨#[]⟩, .string ⟨#[]⟩, .int .i64 0, .int .i64 0] 67)) := (((Below.refl _ w).alloc (Nat.le_refl _) _).alloc (by simp) _).alloc (by simp; omega) _
  have F1 := ((Six.new w (.string d.at_) (.slice p1x d.ak.tk.length p1z) (.string d.ak.me) (.string d.ak.pa) (.int .i64 d.ver) (.int .i64 d.tim) 118).below ((Below.refl _ _).alloc (Nat.le_refl _) (.cells #[.string ⟨#[]⟩, .slice none 0 0, .string ⟨#[]⟩, .string ⟨#[]⟩, .int .i64 0, .int .i64 0] 67))).below ((Below.refl _ _).alloc (Nat.le_refl _) (.cells #[.string d.at_, .slice none 0 0, .string ⟨#[]⟩, .string ⟨#[]⟩, .int .i64 0, .int .i64 0] 67))
  have F2 := (Six.at (w.alloc (.cells #[.string d.at_, .slice p1x d.ak.tk.length p1z, .string d.ak.me, .string d.ak.pa, .int .i64 d.ver, .int .i64 d.tim] 118)) (.string ⟨#[]⟩) (.slice none 0 0) (.string ⟨#[]⟩) (.string ⟨#[]⟩) (.int .i64 0) (.int .i64 0) 67 (k := w.heap.size + 1) (by simp)).below ((Below.refl _ _).alloc (Nat.le_refl _) (.cells #[.string d.at_, .slice none 0 0, .string ⟨#[]⟩, .string ⟨#[]⟩, .int .i64 0, .int .i64 0] 67))
  have F3 := Six.at ((w.alloc (.cells #[.string d.at_, .slice p1x d.ak.tk.length p1z, .string d.ak.me, .string d.ak.pa, .int .i64 d.ver, .int .i64 d.tim] 118)).alloc (.cells #[.string ⟨#[]⟩, .slice none 0 0, .string ⟨#[]⟩, .string ⟨#[]⟩, .int .i64 0, .int .i64 0] 67)) (.string d.at_) (.slice none 0 0) (.string ⟨#[]⟩) (.string ⟨#[]⟩) (.int .i64 0) (.int .i64 0) 67 (k := w.heap.size + 1 + 1) (by simp)
  have hK : w.heap.size + 1 + 1 < (((w.alloc (.cells #[.string d.at_, .slice p1x d.ak.tk.length p1z, .string d.ak.me, .string d.ak.pa, .int .i64 d.ver, .int .i64 d.tim] 118)).alloc (.cells #[.string ⟨#[]⟩, .slice none 0 0, .string ⟨#[]⟩, .string ⟨#[]⟩, .int .i64 0, .int .i64 0] 67)).alloc (.cells #[.string d.at_, .slice none 0 0, .string ⟨#[]⟩, .string ⟨#[]⟩, .int .i64 0, .int .i64 0] 67)).heap.size := F3.lt
  go_enter Try.func74, Try.ntmps74
  go_wp2_with fail
  generalize ((w.alloc (.cells #[.string d.at_, .slice p1x d.ak.tk.length p1z, .string d.ak.me, .string d.ak.pa, .int .i64 d.ver, .int .i64 d.tim] 118)).alloc (.cells #[.string ⟨#[]⟩, .slice none 0 0, .string ⟨#[]⟩, .string ⟨#[]⟩, .int .i64 0, .int .i64 0] 67)).alloc (.cells #[.string d.at_, .slice none 0 0, .string ⟨#[]⟩, .string ⟨#[]⟩, .int .i64 0, .int .i64 0] 67) = W0 at *
  refine (toAsk_any _ d.ak _ s1 (h1.below hB0)).mono ?_
  rintro e w1 ⟨v1, rfl, o1, hB1⟩
  obtain ⟨r1x, r1z, rfl, _⟩ := id o1
  replace F1 := F1.below hB1
  replace F2 := F2.below hB1
  replace F3 := F3.below hB1
  replace hB0 := below_one hB0 hB1
  have hs1 := hB1.size
  clear hB1
  obtain ⟨a0, a1, a2, a3, a4, a5⟩ := F1.c
  obtain ⟨c0, c1, c2, c3, c4, c5⟩ := F3.c
  have f1 := F3.f 1
  have f2 := F3.f 2
  have f3 := F3.f 3
  have f4 := F3.f 4
  have f5 := F3.f 5
  have G3 := (((((F3.s1 (.slice r1x d.ak.tk.length r1z)).s2 (.string d.ak.me)).s3 (.string d.ak.pa)).s4 (.int .i64 d.ver)).s5 (.int .i64 d.tim))
  have G2 := (((((F2.other (k' := w.heap.size + 1 + 1) (by omega) 1 (.slice r1x d.ak.tk.length r1z)).other (k' := w.heap.size + 1 + 1) (by omega) 2 (.string d.ak.me)).other (k' := w.heap.size + 1 + 1) (by omega) 3 (.string d.ak.pa)).other (k' := w.heap.size + 1 + 1) (by omega) 4 (.int .i64 d.ver)).other (k' := w.heap.size + 1 + 1) (by omega) 5 (.int .i64 d.tim))
  obtain ⟨m0, m1, m2, m3, m4, m5⟩ := G3.c
  obtain ⟨t0, t1, t2, t3, t4, t5⟩ := G2.c
  have g0 := G2.f 0
  have g1 := G2.f 1
  have g2 := G2.f 2
  have g3 := G2.f 3
  have g4 := G2.f 4
  have g5 := G2.f 5
  have G := ((((((G2.s0 (.string d.at_)).s1 (.slice r1x d.ak.tk.length r1z)).s2 (.string d.ak.me)).s3 (.string d.ak.pa)).s4 (.int .i64 d.ver)).s5 (.int .i64 d.tim))
  have M9 : Mid (w.heap.size + 1) (w.heap.size + 1 + 1 + 1) w1 (((((((((((w1.setCell ⟨w.heap.size + 1 + 1, 1, none⟩ (.slice r1x d.ak.tk.length r1z)).setCell ⟨w.heap.size + 1 + 1, 2, none⟩ (.string d.ak.me)).setCell ⟨w.heap.size + 1 + 1, 3, none⟩ (.string d.ak.pa)).setCell ⟨w.heap.size + 1 + 1, 4, none⟩ (.int .i64 d.ver)).setCell ⟨w.heap.size + 1 + 1, 5, none⟩ (.int .i64 d.tim)).setCell ⟨w.heap.size + 1, 0, none⟩ (.string d.at_)).setCell ⟨w.heap.size + 1, 1, none⟩ (.slice r1x d.ak.tk.length r1z)).setCell ⟨w.heap.size + 1, 2, none⟩ (.string d.ak.me)).setCell ⟨w.heap.size + 1, 3, none⟩ (.string d.ak.pa)).setCell ⟨w.heap.size + 1, 4, none⟩ (.int .i64 d.ver)).setCell ⟨w.heap.size + 1, 5, none⟩ (.int .i64 d.tim)) := ((((((((((((Mid.of_below (Below.refl _ _)).set (p := ⟨w.heap.size + 1 + 1, 1, none⟩) (by simp) (by simp) (.slice r1x d.ak.tk.length r1z)).set (p := ⟨w.heap.size + 1 + 1, 2, none⟩) (by simp) (by simp) (.string d.ak.me)).set (p := ⟨w.heap.size + 1 + 1, 3, none⟩) (by simp) (by simp) (.string d.ak.pa)).set (p := ⟨w.heap.size + 1 + 1, 4, none⟩) (by simp) (by simp) (.int .i64 d.ver)).set (p := ⟨w.heap.size + 1 + 1, 5, none⟩) (by simp) (by simp) (.int .i64 d.tim)).set (p := ⟨w.heap.size + 1, 0, none⟩) (by simp) (by simp) (.string d.at_)).set (p := ⟨w.heap.size + 1, 1, none⟩) (by simp) (by simp) (.slice r1x d.ak.tk.length r1z)).set (p := ⟨w.heap.size + 1, 2, none⟩) (by simp) (by simp) (.string d.ak.me)).set (p := ⟨w.heap.size + 1, 3, none⟩) (by simp) (by simp) (.string d.ak.pa)).set (p := ⟨w.heap.size + 1, 4, none⟩) (by simp) (by simp) (.int .i64 d.ver)).set (p := ⟨w.heap.size + 1, 5, none⟩) (by simp) (by simp) (.int .i64 d.tim))
  replace o1 := o1.mid M9 (.inl (by omega))
  replace hB0 := (((((((((((hB0.setCell (p := ⟨w.heap.size + 1 + 1, 1, none⟩) (by simp; omega) (.slice r1x d.ak.tk.length r1z)).setCell (p := ⟨w.heap.size + 1 + 1, 2, none⟩) (by simp; omega) (.string d.ak.me)).setCell (p := ⟨w.heap.size + 1 + 1, 3, none⟩) (by simp; omega) (.string d.ak.pa)).setCell (p := ⟨w.heap.size + 1 + 1, 4, none⟩) (by simp; omega) (.int .i64 d.ver)).setCell (p := ⟨w.heap.size + 1 + 1, 5, none⟩) (by simp; omega) (.int .i64 d.tim)).setCell (p := ⟨w.heap.size + 1, 0, none⟩) (by simp) (.string d.at_)).setCell (p := ⟨w.heap.size + 1, 1, none⟩) (by simp) (.slice r1x d.ak.tk.length r1z)).setCell (p := ⟨w.heap.size + 1, 2, none⟩) (by simp) (.string d.ak.me)).setCell (p := ⟨w.heap.size + 1, 3, none⟩) (by simp) (.string d.ak.pa)).setCell (p := ⟨w.heap.size + 1, 4, none⟩) (by simp) (.int .i64 d.ver)).setCell (p := ⟨w.heap.size + 1, 5, none⟩) (by simp) (.int .i64 d.tim))
  have hE : w1.heap.size ≤ (((((((((((w1.setCell ⟨w.heap.size + 1 + 1, 1, none⟩ (.slice r1x d.ak.tk.length r1z)).setCell ⟨w.heap.size + 1 + 1, 2, none⟩ (.string d.ak.me)).setCell ⟨w.heap.size + 1 + 1, 3, none⟩ (.string d.ak.pa)).setCell ⟨w.heap.size + 1 + 1, 4, none⟩ (.int .i64 d.ver)).setCell ⟨w.heap.size + 1 + 1, 5, none⟩ (.int .i64 d.tim)).setCell ⟨w.heap.size + 1, 0, none⟩ (.string d.at_)).setCell ⟨w.heap.size + 1, 1, none⟩ (.slice r1x d.ak.tk.length r1z)).setCell ⟨w.heap.size + 1, 2, none⟩ (.string d.ak.me)).setCell ⟨w.heap.size + 1, 3, none⟩ (.string d.ak.pa)).setCell ⟨w.heap.size + 1, 4, none⟩ (.int .i64 d.ver)).setCell ⟨w.heap.size + 1, 5, none⟩ (.int .i64 d.tim)).heap.size := by simp
  have hW0 : w.heap.size ≤ W0.heap.size := by omega
  clear F1 F2 F3 M9
  go_wp2_with fail
  clear a0 a1 a2 a3 a4 a5 c0 c1 c2 c3 c4 c5 f1 f2 f3 f4 f5 m0 m1 m2 m3 m4 m5 t0 t1 t2 t3 t4 t5 g0 g1 g2 g3 g4 g5
  generalize ((((((((((w1.setCell ⟨w.heap.size + 1 + 1, 1, none⟩ (.slice r1x d.ak.tk.length r1z)).setCell ⟨w.heap.size + 1 + 1, 2, none⟩ (.string d.ak.me)).setCell ⟨w.heap.size + 1 + 1, 3, none⟩ (.string d.ak.pa)).setCell ⟨w.heap.size + 1 + 1, 4, none⟩ (.int .i64 d.ver)).setCell ⟨w.heap.size + 1 + 1, 5, none⟩ (.int .i64 d.tim)).setCell ⟨w.heap.size + 1, 0, none⟩ (.string d.at_)).setCell ⟨w.heap.size + 1, 1, none⟩ (.slice r1x d.ak.tk.length r1z)).setCell ⟨w.heap.size + 1, 2, none⟩ (.string d.ak.me)).setCell ⟨w.heap.size + 1, 3, none⟩ (.string d.ak.pa)).setCell ⟨w.heap.size + 1, 4, none⟩ (.int .i64 d.ver)).setCell ⟨w.heap.size + 1, 5, none⟩ (.int .i64 d.tim) = WE at *
  obtain ⟨d0, d1, d2, d3, d4, d5⟩ := G.c
  exact bodyPost_ret (v := .agg #[.string d.at_, .slice r1x d.ak.tk.length r1z, .string d.ak.me, .string d.ak.pa, .int .i64 d.ver, .int .i64 d.tim]) (by simp [results, Try.results74, go_sem, d0, d1, d2, d3, d4, d5]) rfl ⟨_, rfl, ⟨_, _, rfl, o1.mono (by omega) (by omega)⟩, hB0⟩

set_option maxHeartbeats 4000000 in
theorem szDeliveryS_any (v : Value) (rs : List Dv) (n : Int) (w : World) (h0 : 0 ≤ n) (h1 : n ≤ 1048576) (hm : rs.length ≤ maxLen) (hf : ∀ r ∈ rs, r.fits) (hr : GsA 6 DvC w v rs) :
    Calls Try.prog 31 #[v, .int .i64 n] w fun e w' => e = .returned (.int .i64 (leftK n (gzAll Dv.size rs))) ∧ Below w.heap.size w w' := by
  obtain ⟨a, cap, rfl⟩ := hr.len
  unfold maxLen at hm
  by_cases c0 : n < rs.length
  · have HR := hid (show leftK n (gzAll Dv.size rs) = -1 from if_neg (by unfold gzAll; omega))
    go_enter Try.func31, Try.ntmps31
    go_wp2
    go_ret
    exact ⟨ret_int HR.out.symm, Below.refl _ _⟩
  · have d0 : decide (n - (rs.length : Int) < 0) = false := by simp; omega
    go_enter Try.func31, Try.ntmps31
    go_wp2
    go_loopw [1, 5] (fun m i wr => ∃ k : Nat, k ≤ rs.length ∧ i = .int .i64 k ∧ m = .int .i64 (n - rs.length - gzTo Dv.size rs k) ∧ 0 ≤ n - rs.length - gzTo Dv.size rs k ∧ Below w.heap.size w wr) (fun _ i _ => rs.length - (intOf i).toNat)
    case atStart => exact ⟨0, Nat.zero_le _, rfl, by rw [gzTo_zero]; go_num, by rw [gzTo_zero]; omega, Below.refl _ _⟩
    case round =>
      obtain ⟨k, hk, rfl, rfl, hp, hB⟩ := hrel
      by_cases hlt : k < rs.length
      · obtain ⟨b, off, cs, rfl, hb, hcap, hq, hA⟩ := (hr.below (fun _ _ h => h.below hB) hB).at hlt
        have hA0 := hA
        obtain ⟨p1x, p1z, hcsq, g1⟩ := hA
        subst hcsq
        have q0 := hq 0 _ rfl
        have q1 := hq 1 _ rfl
        have q2 := hq 2 _ rfl
        have q3 := hq 3 _ rfl
        have q4 := hq 4 _ rfl
        have q5 := hq 5 _ rfl
        rw [Nat.add_zero] at q0
        have f1 := hf rs[k] (List.getElem_mem hlt)
        have HS := hid (gzTo_succ (f := Dv.size) hlt)
        have HT := hid (gzTo_le Dv.size rs (k + 1))
        generalize rs[k] = r at *
        clear hq hr
        go_wp2_with fail
        refine (szDelivery_any _ r _ _ hp (by omega) f1 hA0).mono ?_
        rintro e w1 ⟨rfl, hB1⟩
        have hB2 := below_one hB hB1
        by_cases c1 : (r.size : Int) ≤ n - rs.length - gzTo Dv.size rs k
        · have hv : leftK (n - rs.length - gzTo Dv.size rs k) r.size = n - rs.length - gzTo Dv.size rs (k + 1) := by
            rw [HS.out]
            unfold leftK
            rw [if_pos (by omega)]
            omega
          have hq : 0 ≤ n - rs.length - gzTo Dv.size rs (k + 1) := by rw [HS.out]; omega
          rw [hv]
          have d1 : decide (n - (rs.length : Int) - (gzTo Dv.size rs (k + 1) : Int) < 0) = false := by simp; omega
          clear hv hB1 q0 q1 q2 q3 q4 q5 hA0 g1
          go_wp2_with fail
          go_roundw
          case rel => exact ⟨k + 1, by omega, by go_num, rfl, hq, hB2⟩
          case measure => simp [intOf]; omega
        · have hv : leftK (n - rs.length - gzTo Dv.size rs k) r.size = -1 := if_neg (by omega)
          have HR := hid (show leftK n (gzAll Dv.size rs) = -1 from if_neg (by have := HT.out; rw [HS.out] at this; unfold gzAll; omega))
          rw [hv]
          clear hv hB1 q0 q1 q2 q3 q4 q5 hA0 g1
          go_wp2_with fail
          go_ret
          exact ⟨ret_int HR.out.symm, hB2⟩
      · obtain rfl : k = rs.length := by omega
        have HR := hid (show leftK n (gzAll Dv.size rs) = n - rs.length - gzTo Dv.size rs rs.length by unfold leftK gzAll; rw [if_pos (by omega)]; omega)
        go_wp2
        go_ret
        exact ⟨ret_int HR.out.symm, hB⟩

set_option maxHeartbeats 4000000 in
/-- A list is like itself, wherever the two lie. -/
theorem eqDeliveryS_same (v v' : Value) (ss : List Dv) (w : World) (hn : gShort Dv.short ss) (hr : GsA 6 DvC w v ss) (hr' : GsA 6 DvC w v' ss) :
    Calls Try.prog 14 #[v, v'] w fun e w' => e = .returned (.bool true) ∧ Below w.heap.size w w' := by
  obtain ⟨a, cap, rfl⟩ := hr.len
  obtain ⟨a', cap', rfl⟩ := hr'.len
  have hn1 := hn.1
  have e0 : ((ss.length : Int) != (ss.length : Int)) = false := by simp
  go_enter Try.func14, Try.ntmps14
  go_wp2
  go_loopw [5] (fun i wr => ∃ j : Nat, j ≤ ss.length ∧ i = .int .i64 j ∧ Below w.heap.size w wr) (fun i _ => ss.length - (intOf i).toNat)
  case atStart => exact ⟨0, Nat.zero_le _, rfl, Below.refl _ _⟩
  case round =>
    obtain ⟨j, hj, rfl, hB⟩ := hrel
    by_cases hlt : j < ss.length
    · obtain ⟨b, off, cs, rfl, hb, hcap, hq, hA⟩ := (hr.below (fun _ _ h => h.below hB) hB).at hlt
      have hA0 := hA
      obtain ⟨p1x, p1z, hcsq, g1⟩ := hA
      subst hcsq
      have q0 := hq 0 _ rfl
      have q1 := hq 1 _ rfl
      have q2 := hq 2 _ rfl
      have q3 := hq 3 _ rfl
      have q4 := hq 4 _ rfl
      have q5 := hq 5 _ rfl
      rw [Nat.add_zero] at q0
      obtain ⟨b', off', cs', rfl, hb', hcap', hq', hA'⟩ := (hr'.below (fun _ _ h => h.below hB) hB).at hlt
      have hA1 := hA'
      obtain ⟨q1x, q1z, hcsp, g'1⟩ := hA'
      subst hcsp
      have p0 := hq' 0 _ rfl
      have p1 := hq' 1 _ rfl
      have p2 := hq' 2 _ rfl
      have p3 := hq' 3 _ rfl
      have p4 := hq' 4 _ rfl
      have p5 := hq' 5 _ rfl
      rw [Nat.add_zero] at p0
      have hs := hn.2 ss[j] (List.getElem_mem hlt)
      generalize ss[j] = s at *
      clear hq hq' hr hr'
      go_wp2_with fail
      go_region_with (go_at_call 40; refine (eqDelivery_same _ _ s _ hs (hA0.below (Below.refl _ _).drew) (hA1.below (Below.refl _ _).drew)).mono ?_; rintro e w1 ⟨rfl, hB1⟩)
      all_goals go_wp2
      all_goals go_roundw
      all_goals first
        | exact ⟨j + 1, by omega, by go_num, below_one hB (below_drew1 hB1)⟩
        | (simp [intOf]; omega)
    · obtain rfl : j = ss.length := by omega
      go_wp2
      go_ret
      exact ⟨rfl, hB⟩

theorem infoDelivery : (Try.prog.info? 67).map (fun i => (i.zero, i.size, i.bytes)) = some (some (.agg #[.string ⟨#[]⟩, .slice none 0 0, .string ⟨#[]⟩, .string ⟨#[]⟩, .int .i64 0, .int .i64 0]), 6, 88) := by kernel_rfl
set_option maxHeartbeats 8000000 in
theorem toDeliveryS_any (v : Value) (ss : List Dv) (w : World) (hm : gShort Dv.short ss) (hr : GsA 6 DvC w v ss) :
    Calls Try.prog 37 #[v] w fun e w' => ∃ v', e = .returned v' ∧ GsO 67 6 DvO w' w.heap.size w'.heap.size v' ss ∧ Below w.heap.size w w' := by
  obtain ⟨a, cap, rfl⟩ := hr.len
  obtain ⟨i0, hi, hz0, hz1, hz2⟩ := info_parts infoDelivery
  have hm1 := hm.1
  go_enter Try.func37, Try.ntmps37
  go_wp2_with (at_make; refine wpList_make_full _ rfl _ _ 29 rfl w.heap.size 67 i0 _ 6 Try.underlying29 hi hz0 hz1 _ _ _ _ ss.length rfl rfl rfl rfl (by rw [hz2]; omega) (by unfold maxLen; omega) (Nat.le_refl _) ?_; intro w1 hown hgrow)
  have hB1 : Below w.heap.size w w1 := (Below.refl _ w).grown hgrow (Nat.le_refl _) (fun k e => by cases e)
  go_loopw [4] (fun i wr => ∃ k : Nat, k ≤ ss.length ∧ i = .int .i64 k ∧ ∃ ys cs s t, GsK 67 6 DvO wr w.heap.size wr.heap.size (.slice (some ⟨w.heap.size, 0, none⟩) ss.length ss.length) ss.length ss k ys cs s t ∧ Below w.heap.size w wr) (fun i _ => ss.length - (intOf i).toNat)
  case atStart => exact ⟨0, Nat.zero_le _, rfl, _, _, _, _, GsK.start _ _ _ _ _ _ _ _ _ _ hown (fun j hj => (hown.lt j hj).2), hB1⟩
  case round =>
    obtain ⟨k, hk, rfl, ys, cs0, s0, t0', hK, hB⟩ := hrel
    by_cases hlt : k < ss.length
    · obtain ⟨b, off, cs, rfl, hb, hcap, hq, hA⟩ := (hr.below (fun _ _ h => h.below hB) hB).at hlt
      have hA0 := hA
      obtain ⟨p1x, p1z, hcsq, g1⟩ := hA
      subst hcsq
      have q0 := hq 0 _ rfl
      have q1 := hq 1 _ rfl
      have q2 := hq 2 _ rfl
      have q3 := hq 3 _ rfl
      have q4 := hq 4 _ rfl
      have q5 := hq 5 _ rfl
      rw [Nat.add_zero] at q0
      have hsh := hm.2 ss[k] (List.getElem_mem hlt)
      have HA := hid (fun (w2 : World) (zs : List Value) (hB2 : Below wr.heap.size wr w2) (hz : zs.length = 6) (hn : DvO w2 wr.heap.size w2.heap.size zs ss[k]) => GsK.add (w2 := w2) (zs := zs) hK hB.size hB2 hlt hlt hz (fun _ _ _ _ _ _ _ M h ho => h.mid M ho) (fun _ _ _ _ h => h.below hB2) hn)
      clear hq hr
      go_wp2_with fail
      refine (toDelivery_any _ ss[k] _ hsh hA0).mono ?_
      rintro e w2 ⟨zs, rfl, hO, hB2⟩
      have hOc := hO
      obtain ⟨o1x, o1z, hzs, o0⟩ := hO
      subst hzs
      have HK := hid (HA.out w2 _ hB2 rfl hOc)
      have hrow2 := ownsRow_below hK.row hB2
      have hB3 := below_one hB hB2
      have hlen : ys.length = ss.length * 6 := hrow2.1
      have s0 := hrow2.cellAt (k * 6) (by omega)
      have s1 := hrow2.cellAt (k * 6 + 1) (by omega)
      have s2 := hrow2.cellAt (k * 6 + 2) (by omega)
      have s3 := hrow2.cellAt (k * 6 + 3) (by omega)
      have s4 := hrow2.cellAt (k * 6 + 4) (by omega)
      have s5 := hrow2.cellAt (k * 6 + 5) (by omega)
      rw [List.getElem?_eq_getElem (by omega)] at s0 s1 s2 s3 s4 s5
      have t0 := hrow2.frozenAt (k * 6)
      have t1 := hrow2.frozenAt (k * 6 + 1)
      have t2 := hrow2.frozenAt (k * 6 + 2)
      have t3 := hrow2.frozenAt (k * 6 + 3)
      have t4 := hrow2.frozenAt (k * 6 + 4)
      have t5 := hrow2.frozenAt (k * 6 + 5)
      generalize ys[k * 6] = z0 at *
      generalize ys[k * 6 + 1] = z1 at *
      generalize ys[k * 6 + 2] = z2 at *
      generalize ys[k * 6 + 3] = z3 at *
      generalize ys[k * 6 + 4] = z4 at *
      generalize ys[k * 6 + 5] = z5 at *
      generalize ss[k] = s at *
      clear q0 q1 q2 q3 q4 q5 hB2 hK HA hA0 g1 o0 hOc
      go_wp2_with fail
      go_roundw
      case rel => exact ⟨k + 1, by omega, by go_num, _, _, _, _, HK.out, ((((((hB3.setCell (p := ⟨w.heap.size, _, none⟩) (Nat.le_refl _) _).setCell (p := ⟨w.heap.size, _, none⟩) (Nat.le_refl _) _).setCell (p := ⟨w.heap.size, _, none⟩) (Nat.le_refl _) _).setCell (p := ⟨w.heap.size, _, none⟩) (Nat.le_refl _) _).setCell (p := ⟨w.heap.size, _, none⟩) (Nat.le_refl _) _).setCell (p := ⟨w.heap.size, _, none⟩) (Nat.le_refl _) _)⟩
      case measure => simp [intOf]; omega
    · obtain rfl : k = ss.length := by omega
      go_wp2
      go_ret
      exact ⟨_, rfl, ⟨ys, cs0, s0, t0', hK⟩, hB⟩

end Go.Proofs.Ytnbojbcljfiamaa

namespace Go.Proofs.Ytnbojbcljfiamaa
open Go.RowKit Go.Shelf

/-- 8 cells that are a block of their own. -/
def Eight (w : World) (t : TypeId) (k : Nat) (a b c d e f g p : Value) : Prop := w.ownsRow k t 8 (.slice (some ⟨k, 0, none⟩) 1 1) 1 [a, b, c, d, e, f, g, p]
theorem Eight.at (w : World) (a b c d e f g p : Value) (t : TypeId) {k : Nat} (hk : k = w.heap.size) : Eight (w.alloc (.cells #[a, b, c, d, e, f, g, p] t)) t k a b c d e f g p := by
  subst hk
  exact ⟨rfl, .inr ⟨w.heap.size, 1, #[a, b, c, d, e, f, g, p], rfl, Nat.le_refl _, by show (w.heap.push _)[w.heap.size]? = _; rw [Array.getElem?_push_size], Nat.le_refl _, by unfold maxLen; omega, rfl, rfl⟩⟩
theorem Eight.new (w : World) (a b c d e f g p : Value) (t : TypeId) : Eight (w.alloc (.cells #[a, b, c, d, e, f, g, p] t)) t w.heap.size a b c d e f g p := Eight.at w a b c d e f g p t rfl
theorem Eight.below {w' : World} {w : World} {t : TypeId} {k : Nat} {a b c d e f g p : Value} (h : Eight w t k a b c d e f g p) (hB : Below w.heap.size w w') : Eight w' t k a b c d e f g p := ownsRow_below h hB
theorem Eight.c {w : World} {t : TypeId} {k : Nat} {a b c d e f g p : Value} (h : Eight w t k a b c d e f g p) : w.cell? ⟨k, 0, none⟩ = some a ∧ w.cell? ⟨k, 1, none⟩ = some b ∧ w.cell? ⟨k, 2, none⟩ = some c ∧ w.cell? ⟨k, 3, none⟩ = some d ∧ w.cell? ⟨k, 4, none⟩ = some e ∧ w.cell? ⟨k, 5, none⟩ = some f ∧ w.cell? ⟨k, 6, none⟩ = some g ∧ w.cell? ⟨k, 7, none⟩ = some p :=
  ⟨World.ownsRow.cellAt h 0 (by omega), World.ownsRow.cellAt h 1 (by omega), World.ownsRow.cellAt h 2 (by omega), World.ownsRow.cellAt h 3 (by omega), World.ownsRow.cellAt h 4 (by omega), World.ownsRow.cellAt h 5 (by omega), World.ownsRow.cellAt h 6 (by omega), World.ownsRow.cellAt h 7 (by omega)⟩
theorem Eight.f {w : World} {t : TypeId} {k : Nat} {a b c d e f g p : Value} (h : Eight w t k a b c d e f g p) (j : Nat) : w.frozen? ⟨k, j, none⟩ = false := World.ownsRow.frozenAt h j
theorem Eight.s0 {w : World} {t : TypeId} {k : Nat} {a b c d e f g p : Value} (h : Eight w t k a b c d e f g p) (x : Value) : Eight (w.setCell ⟨k, 0, none⟩ x) t k x b c d e f g p := (World.ownsRow.stored h 0 x).1
theorem Eight.s1 {w : World} {t : TypeId} {k : Nat} {a b c d e f g p : Value} (h : Eight w t k a b c d e f g p) (x : Value) : Eight (w.setCell ⟨k, 1, none⟩ x) t k a x c d e f g p := (World.ownsRow.stored h 1 x).1
theorem Eight.s2 {w : World} {t : TypeId} {k : Nat} {a b c d e f g p : Value} (h : Eight w t k a b c d e f g p) (x : Value) : Eight (w.setCell ⟨k, 2, none⟩ x) t k a b x d e f g p := (World.ownsRow.stored h 2 x).1
theorem Eight.s3 {w : World} {t : TypeId} {k : Nat} {a b c d e f g p : Value} (h : Eight w t k a b c d e f g p) (x : Value) : Eight (w.setCell ⟨k, 3, none⟩ x) t k a b c x e f g p := (World.ownsRow.stored h 3 x).1
theorem Eight.s4 {w : World} {t : TypeId} {k : Nat} {a b c d e f g p : Value} (h : Eight w t k a b c d e f g p) (x : Value) : Eight (w.setCell ⟨k, 4, none⟩ x) t k a b c d x f g p := (World.ownsRow.stored h 4 x).1
theorem Eight.s5 {w : World} {t : TypeId} {k : Nat} {a b c d e f g p : Value} (h : Eight w t k a b c d e f g p) (x : Value) : Eight (w.setCell ⟨k, 5, none⟩ x) t k a b c d e x g p := (World.ownsRow.stored h 5 x).1
theorem Eight.s6 {w : World} {t : TypeId} {k : Nat} {a b c d e f g p : Value} (h : Eight w t k a b c d e f g p) (x : Value) : Eight (w.setCell ⟨k, 6, none⟩ x) t k a b c d e f x p := (World.ownsRow.stored h 6 x).1
theorem Eight.s7 {w : World} {t : TypeId} {k : Nat} {a b c d e f g p : Value} (h : Eight w t k a b c d e f g p) (x : Value) : Eight (w.setCell ⟨k, 7, none⟩ x) t k a b c d e f g x := (World.ownsRow.stored h 7 x).1
theorem Eight.other {w : World} {t : TypeId} {k : Nat} {a b c d e f g p : Value} (h : Eight w t k a b c d e f g p) {k' : Nat} (hk : k ≠ k') (j : Nat) (x : Value) : Eight (w.setCell ⟨k', j, none⟩ x) t k a b c d e f g p := ownsRow_setCell_other h (by simpa [Value.ownBlock] using hk) x
theorem Eight.lt {w : World} {t : TypeId} {k : Nat} {a b c d e f g p : Value} (h : Eight w t k a b c d e f g p) : k < w.heap.size := (World.ownsRow.lt h k rfl).2
theorem Mid.eight {lo hi : Nat} {w1 : World} {w : World} {t : TypeId} {k : Nat} {a b c d e f g p : Value} (h : Mid lo hi w w1) (hr : Eight w t k a b c d e f g p) (ho : k < lo ∨ hi ≤ k) : Eight w1 t k a b c d e f g p :=
  h.row hr (fun j hj => by simp [Value.ownBlock] at hj; omega)
theorem row_eight {w : World} {base : Nat} {e : TypeId} {size n : Nat} {v : Value} {xs : List Value} (h : w.ownsRow base e size v n xs) {k : Nat} (hk : k < base) (x0 x1 x2 x3 x4 x5 x6 x7 : Value) : ((((((((w.setCell ⟨k, 0, none⟩ x0).setCell ⟨k, 1, none⟩ x1).setCell ⟨k, 2, none⟩ x2).setCell ⟨k, 3, none⟩ x3).setCell ⟨k, 4, none⟩ x4).setCell ⟨k, 5, none⟩ x5).setCell ⟨k, 6, none⟩ x6).setCell ⟨k, 7, none⟩ x7).ownsRow base e size v n xs :=
  (ownsRow_setCell_below (ownsRow_setCell_below (ownsRow_setCell_below (ownsRow_setCell_below (ownsRow_setCell_below (ownsRow_setCell_below (ownsRow_setCell_below (ownsRow_setCell_below h (a := ⟨k, 0, none⟩) hk x0) (a := ⟨k, 1, none⟩) hk x1) (a := ⟨k, 2, none⟩) hk x2) (a := ⟨k, 3, none⟩) hk x3) (a := ⟨k, 4, none⟩) hk x4) (a := ⟨k, 5, none⟩) hk x5) (a := ⟨k, 6, none⟩) hk x6) (a := ⟨k, 7, none⟩) hk x7)
theorem below_eight {n k : Nat} {w W : World} (h : Below n w W) (hk : n ≤ k) (x0 x1 x2 x3 x4 x5 x6 x7 : Value) : Below n w ((((((((W.setCell ⟨k, 0, none⟩ x0).setCell ⟨k, 1, none⟩ x1).setCell ⟨k, 2, none⟩ x2).setCell ⟨k, 3, none⟩ x3).setCell ⟨k, 4, none⟩ x4).setCell ⟨k, 5, none⟩ x5).setCell ⟨k, 6, none⟩ x6).setCell ⟨k, 7, none⟩ x7) :=
  ((((((((h.setCell (p := ⟨k, 0, none⟩) hk x0).setCell (p := ⟨k, 1, none⟩) hk x1).setCell (p := ⟨k, 2, none⟩) hk x2).setCell (p := ⟨k, 3, none⟩) hk x3).setCell (p := ⟨k, 4, none⟩) hk x4).setCell (p := ⟨k, 5, none⟩) hk x5).setCell (p := ⟨k, 6, none⟩) hk x6).setCell (p := ⟨k, 7, none⟩) hk x7)

/-- 10 cells that are a block of their own. -/
def Ten (w : World) (t : TypeId) (k : Nat) (a b c d e f g p q r : Value) : Prop := w.ownsRow k t 10 (.slice (some ⟨k, 0, none⟩) 1 1) 1 [a, b, c, d, e, f, g, p, q, r]
theorem Ten.at (w : World) (a b c d e f g p q r : Value) (t : TypeId) {k : Nat} (hk : k = w.heap.size) : Ten (w.alloc (.cells #[a, b, c, d, e, f, g, p, q, r] t)) t k a b c d e f g p q r := by
  subst hk
  exact ⟨rfl, .inr ⟨w.heap.size, 1, #[a, b, c, d, e, f, g, p, q, r], rfl, Nat.le_refl _, by show (w.heap.push _)[w.heap.size]? = _; rw [Array.getElem?_push_size], Nat.le_refl _, by unfold maxLen; omega, rfl, rfl⟩⟩
theorem Ten.new (w : World) (a b c d e f g p q r : Value) (t : TypeId) : Ten (w.alloc (.cells #[a, b, c, d, e, f, g, p, q, r] t)) t w.heap.size a b c d e f g p q r := Ten.at w a b c d e f g p q r t rfl
theorem Ten.below {w' : World} {w : World} {t : TypeId} {k : Nat} {a b c d e f g p q r : Value} (h : Ten w t k a b c d e f g p q r) (hB : Below w.heap.size w w') : Ten w' t k a b c d e f g p q r := ownsRow_below h hB
theorem Ten.c {w : World} {t : TypeId} {k : Nat} {a b c d e f g p q r : Value} (h : Ten w t k a b c d e f g p q r) : w.cell? ⟨k, 0, none⟩ = some a ∧ w.cell? ⟨k, 1, none⟩ = some b ∧ w.cell? ⟨k, 2, none⟩ = some c ∧ w.cell? ⟨k, 3, none⟩ = some d ∧ w.cell? ⟨k, 4, none⟩ = some e ∧ w.cell? ⟨k, 5, none⟩ = some f ∧ w.cell? ⟨k, 6, none⟩ = some g ∧ w.cell? ⟨k, 7, none⟩ = some p ∧ w.cell? ⟨k, 8, none⟩ = some q ∧ w.cell? ⟨k, 9, none⟩ = some r :=
  ⟨World.ownsRow.cellAt h 0 (by omega), World.ownsRow.cellAt h 1 (by omega), World.ownsRow.cellAt h 2 (by omega), World.ownsRow.cellAt h 3 (by omega), World.ownsRow.cellAt h 4 (by omega), World.ownsRow.cellAt h 5 (by omega), World.ownsRow.cellAt h 6 (by omega), World.ownsRow.cellAt h 7 (by omega), World.ownsRow.cellAt h 8 (by omega), World.ownsRow.cellAt h 9 (by omega)⟩
theorem Ten.f {w : World} {t : TypeId} {k : Nat} {a b c d e f g p q r : Value} (h : Ten w t k a b c d e f g p q r) (j : Nat) : w.frozen? ⟨k, j, none⟩ = false := World.ownsRow.frozenAt h j
theorem Ten.s0 {w : World} {t : TypeId} {k : Nat} {a b c d e f g p q r : Value} (h : Ten w t k a b c d e f g p q r) (x : Value) : Ten (w.setCell ⟨k, 0, none⟩ x) t k x b c d e f g p q r := (World.ownsRow.stored h 0 x).1
theorem Ten.s1 {w : World} {t : TypeId} {k : Nat} {a b c d e f g p q r : Value} (h : Ten w t k a b c d e f g p q r) (x : Value) : Ten (w.setCell ⟨k, 1, none⟩ x) t k a x c d e f g p q r := (World.ownsRow.stored h 1 x).1
theorem Ten.s2 {w : World} {t : TypeId} {k : Nat} {a b c d e f g p q r : Value} (h : Ten w t k a b c d e f g p q r) (x : Value) : Ten (w.setCell ⟨k, 2, none⟩ x) t k a b x d e f g p q r := (World.ownsRow.stored h 2 x).1
theorem Ten.s3 {w : World} {t : TypeId} {k : Nat} {a b c d e f g p q r : Value} (h : Ten w t k a b c d e f g p q r) (x : Value) : Ten (w.setCell ⟨k, 3, none⟩ x) t k a b c x e f g p q r := (World.ownsRow.stored h 3 x).1
theorem Ten.s4 {w : World} {t : TypeId} {k : Nat} {a b c d e f g p q r : Value} (h : Ten w t k a b c d e f g p q r) (x : Value) : Ten (w.setCell ⟨k, 4, none⟩ x) t k a b c d x f g p q r := (World.ownsRow.stored h 4 x).1
theorem Ten.s5 {w : World} {t : TypeId} {k : Nat} {a b c d e f g p q r : Value} (h : Ten w t k a b c d e f g p q r) (x : Value) : Ten (w.setCell ⟨k, 5, none⟩ x) t k a b c d e x g p q r := (World.ownsRow.stored h 5 x).1
theorem Ten.s6 {w : World} {t : TypeId} {k : Nat} {a b c d e f g p q r : Value} (h : Ten w t k a b c d e f g p q r) (x : Value) : Ten (w.setCell ⟨k, 6, none⟩ x) t k a b c d e f x p q r := (World.ownsRow.stored h 6 x).1
theorem Ten.s7 {w : World} {t : TypeId} {k : Nat} {a b c d e f g p q r : Value} (h : Ten w t k a b c d e f g p q r) (x : Value) : Ten (w.setCell ⟨k, 7, none⟩ x) t k a b c d e f g x q r := (World.ownsRow.stored h 7 x).1
theorem Ten.s8 {w : World} {t : TypeId} {k : Nat} {a b c d e f g p q r : Value} (h : Ten w t k a b c d e f g p q r) (x : Value) : Ten (w.setCell ⟨k, 8, none⟩ x) t k a b c d e f g p x r := (World.ownsRow.stored h 8 x).1
theorem Ten.s9 {w : World} {t : TypeId} {k : Nat} {a b c d e f g p q r : Value} (h : Ten w t k a b c d e f g p q r) (x : Value) : Ten (w.setCell ⟨k, 9, none⟩ x) t k a b c d e f g p q x := (World.ownsRow.stored h 9 x).1
theorem Ten.other {w : World} {t : TypeId} {k : Nat} {a b c d e f g p q r : Value} (h : Ten w t k a b c d e f g p q r) {k' : Nat} (hk : k ≠ k') (j : Nat) (x : Value) : Ten (w.setCell ⟨k', j, none⟩ x) t k a b c d e f g p q r := ownsRow_setCell_other h (by simpa [Value.ownBlock] using hk) x
theorem Ten.lt {w : World} {t : TypeId} {k : Nat} {a b c d e f g p q r : Value} (h : Ten w t k a b c d e f g p q r) : k < w.heap.size := (World.ownsRow.lt h k rfl).2
theorem Mid.ten {lo hi : Nat} {w1 : World} {w : World} {t : TypeId} {k : Nat} {a b c d e f g p q r : Value} (h : Mid lo hi w w1) (hr : Ten w t k a b c d e f g p q r) (ho : k < lo ∨ hi ≤ k) : Ten w1 t k a b c d e f g p q r :=
  h.row hr (fun j hj => by simp [Value.ownBlock] at hj; omega)
theorem row_ten {w : World} {base : Nat} {e : TypeId} {size n : Nat} {v : Value} {xs : List Value} (h : w.ownsRow base e size v n xs) {k : Nat} (hk : k < base) (x0 x1 x2 x3 x4 x5 x6 x7 x8 x9 : Value) : ((((((((((w.setCell ⟨k, 0, none⟩ x0).setCell ⟨k, 1, none⟩ x1).setCell ⟨k, 2, none⟩ x2).setCell ⟨k, 3, none⟩ x3).setCell ⟨k, 4, none⟩ x4).setCell ⟨k, 5, none⟩ x5).setCell ⟨k, 6, none⟩ x6).setCell ⟨k, 7, none⟩ x7).setCell ⟨k, 8, none⟩ x8).setCell ⟨k, 9, none⟩ x9).ownsRow base e size v n xs :=
  (ownsRow_setCell_below (ownsRow_setCell_below (ownsRow_setCell_below (ownsRow_setCell_below (ownsRow_setCell_below (ownsRow_setCell_below (ownsRow_setCell_below (ownsRow_setCell_below (ownsRow_setCell_below (ownsRow_setCell_below h (a := ⟨k, 0, none⟩) hk x0) (a := ⟨k, 1, none⟩) hk x1) (a := ⟨k, 2, none⟩) hk x2) (a := ⟨k, 3, none⟩) hk x3) (a := ⟨k, 4, none⟩) hk x4) (a := ⟨k, 5, none⟩) hk x5) (a := ⟨k, 6, none⟩) hk x6) (a := ⟨k, 7, none⟩) hk x7) (a := ⟨k, 8, none⟩) hk x8) (a := ⟨k, 9, none⟩) hk x9)
theorem below_ten {n k : Nat} {w W : World} (h : Below n w W) (hk : n ≤ k) (x0 x1 x2 x3 x4 x5 x6 x7 x8 x9 : Value) : Below n w ((((((((((W.setCell ⟨k, 0, none⟩ x0).setCell ⟨k, 1, none⟩ x1).setCell ⟨k, 2, none⟩ x2).setCell ⟨k, 3, none⟩ x3).setCell ⟨k, 4, none⟩ x4).setCell ⟨k, 5, none⟩ x5).setCell ⟨k, 6, none⟩ x6).setCell ⟨k, 7, none⟩ x7).setCell ⟨k, 8, none⟩ x8).setCell ⟨k, 9, none⟩ x9) :=
  ((((((((((h.setCell (p := ⟨k, 0, none⟩) hk x0).setCell (p := ⟨k, 1, none⟩) hk x1).setCell (p := ⟨k, 2, none⟩) hk x2).setCell (p := ⟨k, 3, none⟩) hk x3).setCell (p := ⟨k, 4, none⟩) hk x4).setCell (p := ⟨k, 5, none⟩) hk x5).setCell (p := ⟨k, 6, none⟩) hk x6).setCell (p := ⟨k, 7, none⟩) hk x7).setCell (p := ⟨k, 8, none⟩) hk x8).setCell (p := ⟨k, 9, none⟩) hk x9)

end Go.Proofs.Ytnbojbcljfiamaa

namespace Go.Proofs.Ytnbojbcljfiamaa
open Go.RowKit Go.Shelf

/-- A sidecar. -/
structure Sc where
  name : ByteArray
  sd : Sd
  qu : List Ak
  lg : List Rc
instance : Inhabited Sc := ⟨⟨ByteArray.empty, Sd.none, [], []⟩⟩
/-- These cells read as this one. -/
def ScC (w : World) (cs : List Value) (c : Sc) : Prop := ∃ p1a p1b p1c p1d p1e p1f p1g p1h p1i p1j p2x p2z p3x p3z, cs = [.string c.name, .int .i64 c.sd.fo.num, .slice p1a c.sd.fo.pol.length p1b, .slice p1c c.sd.fo.rv.length p1d, .int .i64 c.sd.co, .slice p1e c.sd.ru.length p1f, .slice p1g c.sd.ha.length p1h, .slice p1i c.sd.se.length p1j, .slice p2x c.qu.length p2z, .slice p3x c.lg.length p3z] ∧ SdA w (.agg #[.int .i64 c.sd.fo.num, .slice p1a c.sd.fo.pol.length p1b, .slice p1c c.sd.fo.rv.length p1d, .int .i64 c.sd.co, .slice p1e c.sd.ru.length p1f, .slice p1g c.sd.ha.length p1h, .slice p1i c.sd.se.length p1j]) c.sd ∧ GsA 3 AkC w (.slice p2x c.qu.length p2z) c.qu ∧ RcS w (.slice p3x c.lg.length p3z) c.lg
/-- .. of one's own, in blocks from base on, below top. -/
def ScO (w : World) (base top : Nat) (cs : List Value) (c : Sc) : Prop := ∃ p1a p1b p1c p1d p1e p1f p1g p1h p1i p1j p2x p2z p3x p3z m1 m2, cs = [.string c.name, .int .i64 c.sd.fo.num, .slice p1a c.sd.fo.pol.length p1b, .slice p1c c.sd.fo.rv.length p1d, .int .i64 c.sd.co, .slice p1e c.sd.ru.length p1f, .slice p1g c.sd.ha.length p1h, .slice p1i c.sd.se.length p1j, .slice p2x c.qu.length p2z, .slice p3x c.lg.length p3z] ∧ base ≤ m1 ∧ m1 ≤ m2 ∧ m2 ≤ top ∧ SdO w base m1 (.agg #[.int .i64 c.sd.fo.num, .slice p1a c.sd.fo.pol.length p1b, .slice p1c c.sd.fo.rv.length p1d, .int .i64 c.sd.co, .slice p1e c.sd.ru.length p1f, .slice p1g c.sd.ha.length p1h, .slice p1i c.sd.se.length p1j]) c.sd ∧ GsO 65 3 AkO w m1 m2 (.slice p2x c.qu.length p2z) c.qu ∧ RoO 138 3 w m2 top (.slice p3x c.lg.length p3z) c.lg.length (c.lg.flatMap Rc.cells)
def Sc.fits (c : Sc) : Prop := c.name.size ≤ maxLen ∧ c.sd.fits ∧ (c.qu.length ≤ maxLen ∧ ∀ k ∈ c.qu, k.fits) ∧ (c.lg.length ≤ maxLen ∧ ∀ k ∈ c.lg, k.fits)
def Sc.size (c : Sc) : Nat := c.name.size + c.sd.size + gzAll Ak.size c.qu + rczAll c.lg
def Sc.short (c : Sc) : Prop := c.name.size ≤ 1048576 ∧ c.sd.short ∧ gShort Ak.short c.qu ∧ (c.lg.length ≤ 1048576 ∧ ∀ k ∈ c.lg, k.note.size ≤ 1048576)
theorem ScC.below {w w' : World} {cs : List Value} {c : Sc} (h : ScC w cs c) (hB : Below w.heap.size w w') : ScC w' cs c := by
  obtain ⟨p1a, p1b, p1c, p1d, p1e, p1f, p1g, p1h, p1i, p1j, p2x, p2z, p3x, p3z, rfl, h0, h1, h2⟩ := h
  exact ⟨_, _, _, _, _, _, _, _, _, _, _, _, _, _, rfl, h0.below hB, (GsA.below h1 (fun _ _ h => h.below hB) hB), h2.below hB⟩
theorem ScO.mid {lo hi : Nat} {w w1 : World} {base top : Nat} {cs : List Value} {c : Sc} (h : ScO w base top cs c) (M : Mid lo hi w w1) (ho : hi ≤ base ∨ top ≤ lo) : ScO w1 base top cs c := by
  obtain ⟨p1a, p1b, p1c, p1d, p1e, p1f, p1g, p1h, p1i, p1j, p2x, p2z, p3x, p3z, m1, m2, rfl, g0, g1, g2, h0, h1, h2⟩ := h
  exact ⟨_, _, _, _, _, _, _, _, _, _, _, _, _, _, m1, m2, rfl, g0, g1, g2, Mid.sdo M h0 (by omega), GsO.mid h1 (fun _ _ _ _ h ho => h.mid M ho) M (by omega), h2.mid M (by omega)⟩
theorem ScO.below {w w1 : World} {base top : Nat} {cs : List Value} {c : Sc} (h : ScO w base top cs c) (hB : Below w.heap.size w w1) : ScO w1 base top cs c := h.mid (Mid.of_below (lo := 0) (hi := 0) hB) (.inl (Nat.zero_le _))
theorem ScO.mono {w : World} {base base' top top' : Nat} {cs : List Value} {c : Sc} (h : ScO w base top cs c) (hb : base' ≤ base) (ht : top ≤ top') : ScO w base' top' cs c := by
  obtain ⟨p1a, p1b, p1c, p1d, p1e, p1f, p1g, p1h, p1i, p1j, p2x, p2z, p3x, p3z, m1, m2, rfl, g0, g1, g2, h0, h1, h2⟩ := h
  exact ⟨_, _, _, _, _, _, _, _, _, _, _, _, _, _, m1, m2, rfl, by omega, by omega, by omega, SdO.mono h0 hb (Nat.le_refl _), GsO.mono h1 (Nat.le_refl _) (Nat.le_refl _), h2.mono (Nat.le_refl _) ht⟩
theorem Sc.short_of {c : Sc} (h : c.size ≤ 1048576) : c.short := by
  unfold Sc.size gzAll rczAll at h
  exact ⟨by omega, Sd.short_of (by omega), ⟨by omega, fun a ha => Ak.short_of (by have := gz_mem (f := Ak.size) ha; omega)⟩, by omega, fun k hk => by have := rcz_mem hk; omega⟩
theorem ScO.a {w : World} {base top : Nat} {cs : List Value} {c : Sc} (h : ScO w base top cs c) : ScC w cs c := by
  obtain ⟨p1a, p1b, p1c, p1d, p1e, p1f, p1g, p1h, p1i, p1j, p2x, p2z, p3x, p3z, m1, m2, rfl, g0, g1, g2, h0, h1, h2⟩ := h
  exact ⟨_, _, _, _, _, _, _, _, _, _, _, _, _, _, rfl, h0.a, GsO.a (fun _ _ _ _ h => h.a) h1, RcS.own h2.1⟩

set_option maxRecDepth 100000 in
theorem cellsSidecar : Try.prog.cellsOf 112 = 10 := by kernel_rfl
set_option maxRecDepth 100000 in
open Go.Deep Go.ChangeShapes Go.WideShapes Go.ChangeAt Go.Joins in
/-- The cells of a side that comes in. -/
theorem openSdC {H : Type} {enc : TypeId × Value → H} {W : World} {c0 c1 c2 c3 c4 c5 c6 : Value} {y : DataW H × List MemPlace} {fuel : Nat} (hf : DataW.trod enc Try.prog W 0 (fun _ => true) true fuel 108 [c0, c1, c2, c3, c4, c5, c6] = some y) :
    ∃ s : Sd, SdA W (.agg #[c0, c1, c2, c3, c4, c5, c6]) s ∧ s.fits := by
  obtain ⟨xs, n, _, _, _, hlen, hfs⟩ := DataW.trod_struct Try.underlying108 hf
  obtain ⟨y0, y1, y2, y3, y4, rfl⟩ : ∃ y0 y1 y2 y3 y4, xs = [y0, y1, y2, y3, y4] := by
    match xs, hlen with
    | [y0, y1, y2, y3, y4], _ => exact ⟨y0, y1, y2, y3, y4, rfl⟩
  have ci : Try.prog.cellsOf 3 = 1 := by kernel_rfl
  have cr : Try.prog.cellsOf 103 = 1 := by kernel_rfl
  have cb : Try.prog.cellsOf 87 = 1 := by kernel_rfl
  have cn : Try.prog.cellsOf 23 = 1 := by kernel_rfl
  have h0 : DataW.trod enc Try.prog W 0 (fun _ => true) true n 105 [c0, c1, c2] = some y0 := by have := hfs 0 _ rfl; simpa [Value.cells, cellsSnapshot] using this
  have h1 : DataW.trod enc Try.prog W 0 (fun _ => true) true n 3 [c3] = some y1 := by have := hfs 1 _ rfl; simpa [Value.cells, ci] using this
  have h2 : DataW.trod enc Try.prog W 0 (fun _ => true) true n 103 [c4] = some y2 := by have := hfs 2 _ rfl; simpa [Value.cells, cr] using this
  have h3 : DataW.trod enc Try.prog W 0 (fun _ => true) true n 87 [c5] = some y3 := by have := hfs 3 _ rfl; simpa [Value.cells, cb] using this
  have h4 : DataW.trod enc Try.prog W 0 (fun _ => true) true n 23 [c6] = some y4 := by have := hfs 4 _ rfl; simpa [Value.cells, cn] using this
  obtain ⟨zs, n', _, _, _, hlen', hgs⟩ := DataW.trod_struct Try.underlying105 h0
  obtain ⟨z0, z1, z2, rfl⟩ : ∃ z0 z1 z2, zs = [z0, z1, z2] := by
    match zs, hlen' with
    | [z0, z1, z2], _ => exact ⟨z0, z1, z2, rfl⟩
  have g0 : DataW.trod enc Try.prog W 0 (fun _ => true) true n' 3 [c0] = some z0 := by have := hgs 0 _ rfl; simpa [Value.cells, ci] using this
  have g1 : DataW.trod enc Try.prog W 0 (fun _ => true) true n' 103 [c1] = some z1 := by have := hgs 1 _ rfl; simpa [Value.cells, cr] using this
  have g2 : DataW.trod enc Try.prog W 0 (fun _ => true) true n' 23 [c2] = some z2 := by have := hgs 2 _ rfl; simpa [Value.cells, cn] using this
  obtain ⟨x0, e0, _, _⟩ := DataW.trod_int Try.underlying3 g0
  obtain ⟨a1, n1, k1, rs, rfl, r1, rfl, l1, f1⟩ := openRuR g1
  obtain ⟨a2, n2, k2, rv, rfl, r2, rfl, l2⟩ := openInR g2
  obtain ⟨x3, e3, _, _⟩ := DataW.trod_int Try.underlying3 h1
  obtain ⟨a4, n4, k4, ru, rfl, r4, rfl, l4, f4⟩ := openRuR h2
  obtain ⟨a5, n5, k5, ha, rfl, r5, rfl, l5⟩ := openBoR h3
  obtain ⟨a6, n6, k6, se, rfl, r6, rfl, l6⟩ := openInR h4
  simp only [List.cons.injEq, and_true] at e0 e3
  subst e0 e3
  exact ⟨⟨⟨x0, rs, rv⟩, x3, ru, ha, se⟩, ⟨_, _, _, _, _, rfl, r1, r2, r4, r5, r6⟩, ⟨l1, f1, l2⟩, l4, f4, l5, l6⟩
set_option maxRecDepth 100000 in
open Go.Deep Go.ChangeShapes Go.WideShapes Go.ChangeAt Go.Joins in
theorem openScC {H : Type} {enc : TypeId × Value → H} {W : World} {l : List Value} {y : DataW H × List MemPlace} {fuel : Nat} (hsz : l.length = 10) (hf : DataW.trod enc Try.prog W 0 (fun _ => true) true fuel 112 l = some y) :
    ∃ c : Sc, ScC W l c ∧ c.fits := by
  obtain ⟨c0, c1, c2, c3, c4, c5, c6, c7, c8, c9, rfl⟩ : ∃ c0 c1 c2 c3 c4 c5 c6 c7 c8 c9, l = [c0, c1, c2, c3, c4, c5, c6, c7, c8, c9] := by
    match l, hsz with
    | [c0, c1, c2, c3, c4, c5, c6, c7, c8, c9], _ => exact ⟨c0, c1, c2, c3, c4, c5, c6, c7, c8, c9, rfl⟩
  obtain ⟨xs, n, _, _, _, hlen, hfs⟩ := DataW.trod_struct Try.underlying112 hf
  obtain ⟨y0, y1, y2, y3, rfl⟩ : ∃ y0 y1 y2 y3, xs = [y0, y1, y2, y3] := by
    match xs, hlen with
    | [y0, y1, y2, y3], _ => exact ⟨y0, y1, y2, y3, rfl⟩
  have cs : Try.prog.cellsOf 9 = 1 := by kernel_rfl
  have ca : Try.prog.cellsOf 109 = 1 := by kernel_rfl
  have cr : Try.prog.cellsOf 110 = 1 := by kernel_rfl
  have h0 : DataW.trod enc Try.prog W 0 (fun _ => true) true n 9 [c0] = some y0 := by have := hfs 0 _ rfl; simpa [Value.cells, cs] using this
  have h1 : DataW.trod enc Try.prog W 0 (fun _ => true) true n 108 [c1, c2, c3, c4, c5, c6, c7] = some y1 := by have := hfs 1 _ rfl; simpa [Value.cells, cs, cellsSide] using this
  have h2 : DataW.trod enc Try.prog W 0 (fun _ => true) true n 109 [c8] = some y2 := by have := hfs 2 _ rfl; simpa [Value.cells, cs, cellsSide, ca] using this
  have h3 : DataW.trod enc Try.prog W 0 (fun _ => true) true n 110 [c9] = some y3 := by have := hfs 3 _ rfl; simpa [Value.cells, cs, cellsSide, ca, cr] using this
  obtain ⟨x0, f0, _, w0⟩ := DataW.trod_string Try.underlying9 h0
  obtain ⟨sd, hA, w1⟩ := openSdC h1
  obtain ⟨a2, n2, k2, qs, rfl, r2, rfl, l2, f2⟩ := openGs (A := AkC) (fits := Ak.fits) Try.underlying109 cellsAsk (by omega) (fun l y m hl h => openAkC hl h) h2
  obtain ⟨a3, n3, k3, rs, rfl, r3, rfl, l3, f3⟩ := openRcR h3
  simp at f0
  subst f0
  obtain ⟨ua, ub, uc, ud, ue, uf, ug, uh, ui, uj, he⟩ := sd_forms hA
  cases he
  exact ⟨⟨x0, sd, qs, rs⟩, ⟨_, _, _, _, _, _, _, _, _, _, _, _, _, _, rfl, hA, r2, r3⟩, w0, w1, ⟨l2, f2⟩, l3, f3⟩

set_option maxHeartbeats 4000000 in
set_option maxRecDepth 100000 in
theorem szSidecar_any (cs : List Value) (c : Sc) (n : Int) (w : World) (h0 : 0 ≤ n) (hn : n ≤ 1048576) (hf : c.fits) (h : ScC w cs c) :
    Calls Try.prog 67 #[.agg cs.toArray, .int .i64 n] w fun e w' => e = .returned (.int .i64 (leftK n c.size)) ∧ Below w.heap.size w w' := by
  obtain ⟨p1a, p1b, p1c, p1d, p1e, p1f, p1g, p1h, p1i, p1j, p2x, p2z, p3x, p3z, rfl, h2, h3, h4⟩ := h
  obtain ⟨f0, f1, f2, f3⟩ := hf
  have hB0 : Below w.heap.size w (w.alloc (.cells #[.string c.name, .int .i64 c.sd.fo.num, .slice p1a c.sd.fo.pol.length p1b, .slice p1c c.sd.fo.rv.length p1d, .int .i64 c.sd.co, .slice p1e c.sd.ru.length p1f, .slice p1g c.sd.ha.length p1h, .slice p1i c.sd.se.length p1j, .slice p2x c.qu.length p2z, .slice p3x c.lg.length p3z] 112)) := (Below.refl _ w).alloc (Nat.le_refl _) _
  have F1 := Ten.new w (.string c.name) (.int .i64 c.sd.fo.num) (.slice p1a c.sd.fo.pol.length p1b) (.slice p1c c.sd.fo.rv.length p1d) (.int .i64 c.sd.co) (.slice p1e c.sd.ru.length p1f) (.slice p1g c.sd.ha.length p1h) (.slice p1i c.sd.se.length p1j) (.slice p2x c.qu.length p2z) (.slice p3x c.lg.length p3z) 112
  have HI := hid (show leftK n c.size = if (c.size : Int) ≤ n then n - (c.size : Int) else (-1 : Int) from rfl)
  have HZ := hid (show c.size = c.name.size + c.sd.size + gzAll Ak.size c.qu + rczAll c.lg from rfl)
  obtain ⟨N0, HN0⟩ : ∃ N : Nat, Hid (N = c.name.size) := ⟨_, hid rfl⟩
  obtain ⟨N1, HN1⟩ : ∃ N : Nat, Hid (N = c.sd.size) := ⟨_, hid rfl⟩
  obtain ⟨N2, HN2⟩ : ∃ N : Nat, Hid (N = gzAll Ak.size c.qu) := ⟨_, hid rfl⟩
  obtain ⟨N3, HN3⟩ : ∃ N : Nat, Hid (N = rczAll c.lg) := ⟨_, hid rfl⟩
  have HN0' := HN0.out
  have e0 : c.name.size = N0 := HN0'.symm
  have u0 : N0 ≤ 9223372036854775807 := by unfold maxLen at f0; omega
  clear HN0'
  go_enter Try.func67, Try.ntmps67
  by_cases c0 : (N0 : Int) ≤ n
  · have d0 : decide (n - (N0 : Int) < 0) = false := by simp; omega
    go_wp2_with fail
    generalize w.alloc (.cells #[.string c.name, .int .i64 c.sd.fo.num, .slice p1a c.sd.fo.pol.length p1b, .slice p1c c.sd.fo.rv.length p1d, .int .i64 c.sd.co, .slice p1e c.sd.ru.length p1f, .slice p1g c.sd.ha.length p1h, .slice p1i c.sd.se.length p1j, .slice p2x c.qu.length p2z, .slice p3x c.lg.length p3z] 112) = W0 at *
    refine (szSide_any _ c.sd (n - (N0 : Int)) _ (by omega) (by omega) f1 (h2.below hB0)).mono ?_
    rintro e w2 ⟨rfl, hB2⟩
    replace F1 := F1.below hB2
    replace hB0 := below_one hB0 hB2
    clear hB2
    obtain ⟨a0, a1, a2, a3, a4, a5, a6, a7, a8, a9⟩ := F1.c
    by_cases c1 : (N1 : Int) ≤ n - (N0 : Int)
    · rw [show leftSd (n - (N0 : Int)) c.sd = n - (N0 : Int) - (N1 : Int) from (show leftK (n - (N0 : Int)) _ = _ by unfold leftK; rw [← HN1.out]; exact if_pos c1)]
      have d1 : decide (n - (N0 : Int) - (N1 : Int) < 0) = false := by simp; omega
      go_wp2_with fail
      refine (szAskS_any _ c.qu (n - (N0 : Int) - (N1 : Int)) _ (by omega) (by omega) f2.1 f2.2 (GsA.below h3 (fun _ _ h => h.below hB0) hB0)).mono ?_
      rintro e w3 ⟨rfl, hB3⟩
      replace F1 := F1.below hB3
      replace hB0 := below_one hB0 hB3
      clear hB3
      clear a0 a1 a2 a3 a4 a5 a6 a7 a8 a9
      obtain ⟨a0, a1, a2, a3, a4, a5, a6, a7, a8, a9⟩ := F1.c
      by_cases c2 : (N2 : Int) ≤ n - (N0 : Int) - (N1 : Int)
      · rw [show leftK (n - (N0 : Int) - (N1 : Int)) (gzAll Ak.size c.qu) = n - (N0 : Int) - (N1 : Int) - (N2 : Int) from (show leftK (n - (N0 : Int) - (N1 : Int)) _ = _ by unfold leftK; rw [← HN2.out]; exact if_pos c2)]
        have d2 : decide (n - (N0 : Int) - (N1 : Int) - (N2 : Int) < 0) = false := by simp; omega
        go_wp2_with fail
        refine (szRecordS_any _ c.lg (n - (N0 : Int) - (N1 : Int) - (N2 : Int)) _ (by omega) (by omega) f3.1 f3.2 (h4.below hB0)).mono ?_
        rintro e w4 ⟨rfl, hB4⟩
        replace F1 := F1.below hB4
        replace hB0 := below_one hB0 hB4
        clear hB4
        clear a0 a1 a2 a3 a4 a5 a6 a7 a8 a9
        obtain ⟨a0, a1, a2, a3, a4, a5, a6, a7, a8, a9⟩ := F1.c
        by_cases c3 : (N3 : Int) ≤ n - (N0 : Int) - (N1 : Int) - (N2 : Int)
        · rw [show leftRc (n - (N0 : Int) - (N1 : Int) - (N2 : Int)) c.lg = n - (N0 : Int) - (N1 : Int) - (N2 : Int) - (N3 : Int) from (show leftK (n - (N0 : Int) - (N1 : Int) - (N2 : Int)) _ = _ by unfold leftK; rw [← HN3.out]; exact if_pos c3)]
          have d3 : decide (n - (N0 : Int) - (N1 : Int) - (N2 : Int) - (N3 : Int) < 0) = false := by simp; omega
          have HR := hid (show leftK n c.size = n - (N0 : Int) - (N1 : Int) - (N2 : Int) - (N3 : Int) by rw [HI.out, if_pos (by rw [HZ.out, ← HN0.out, ← HN1.out, ← HN2.out, ← HN3.out]; push_cast; omega)]; rw [HZ.out, ← HN0.out, ← HN1.out, ← HN2.out, ← HN3.out]; push_cast; omega)
          go_wp2_with fail
          go_ret
          exact ⟨ret_int HR.out.symm, hB0⟩
        · rw [show leftRc (n - (N0 : Int) - (N1 : Int) - (N2 : Int)) c.lg = -1 from (show leftK (n - (N0 : Int) - (N1 : Int) - (N2 : Int)) _ = _ by unfold leftK; rw [← HN3.out]; exact if_neg c3)]
          have HR := hid (show leftK n c.size = -1 by rw [HI.out, if_neg (by rw [HZ.out, ← HN0.out, ← HN1.out, ← HN2.out, ← HN3.out]; push_cast; omega)])
          go_wp2_with fail
          go_ret
          exact ⟨ret_int HR.out.symm, hB0⟩
      · rw [show leftK (n - (N0 : Int) - (N1 : Int)) (gzAll Ak.size c.qu) = -1 from (show leftK (n - (N0 : Int) - (N1 : Int)) _ = _ by unfold leftK; rw [← HN2.out]; exact if_neg c2)]
        have HR := hid (show leftK n c.size = -1 by rw [HI.out, if_neg (by rw [HZ.out, ← HN0.out, ← HN1.out, ← HN2.out, ← HN3.out]; push_cast; omega)])
        go_wp2_with fail
        go_ret
        exact ⟨ret_int HR.out.symm, hB0⟩
    · rw [show leftSd (n - (N0 : Int)) c.sd = -1 from (show leftK (n - (N0 : Int)) _ = _ by unfold leftK; rw [← HN1.out]; exact if_neg c1)]
      have HR := hid (show leftK n c.size = -1 by rw [HI.out, if_neg (by rw [HZ.out, ← HN0.out, ← HN1.out, ← HN2.out, ← HN3.out]; push_cast; omega)])
      go_wp2_with fail
      go_ret
      exact ⟨ret_int HR.out.symm, hB0⟩
  · have d0 : decide (n - (N0 : Int) < 0) = true := by simp; omega
    have HR := hid (show leftK n c.size = -1 by rw [HI.out, if_neg (by rw [HZ.out, ← HN0.out, ← HN1.out, ← HN2.out, ← HN3.out]; push_cast; omega)])
    go_wp2_with fail
    go_ret
    exact ⟨ret_int HR.out.symm, hB0⟩

set_option maxHeartbeats 4000000 in
set_option maxRecDepth 100000 in
theorem eqSidecar_same (cs cs' : List Value) (c : Sc) (w : World) (hs : c.short) (h : ScC w cs c) (h' : ScC w cs' c) :
    Calls Try.prog 48 #[.agg cs.toArray, .agg cs'.toArray] w fun e w' => e = .returned (.bool true) ∧ Below w.heap.size w w' := by
  obtain ⟨p1a, p1b, p1c, p1d, p1e, p1f, p1g, p1h, p1i, p1j, p2x, p2z, p3x, p3z, rfl, h1, h2, h3⟩ := h
  obtain ⟨q1a, q1b, q1c, q1d, q1e, q1f, q1g, q1h, q1i, q1j, q2x, q2z, q3x, q3z, rfl, h1', h2', h3'⟩ := h'
  obtain ⟨s0, s1, s2, s3⟩ := hs
  have hB0 : Below w.heap.size w ((w.alloc (.cells #[.string c.name, .int .i64 c.sd.fo.num, .slice p1a c.sd.fo.pol.length p1b, .slice p1c c.sd.fo.rv.length p1d, .int .i64 c.sd.co, .slice p1e c.sd.ru.length p1f, .slice p1g c.sd.ha.length p1h, .slice p1i c.sd.se.length p1j, .slice p2x c.qu.length p2z, .slice p3x c.lg.length p3z] 93)).alloc (.cells #[.string c.name, .int .i64 c.sd.fo.num, .slice q1a c.sd.fo.pol.length q1b, .slice q1c c.sd.fo.rv.length q1d, .int .i64 c.sd.co, .slice q1e c.sd.ru.length q1f, .slice q1g c.sd.ha.length q1h, .slice q1i c.sd.se.length q1j, .slice q2x c.qu.length q2z, .slice q3x c.lg.length q3z] 93)) := ((Below.refl _ w).alloc (Nat.le_refl _) _).alloc (by simp) _
  have F1 := (Ten.new w (.string c.name) (.int .i64 c.sd.fo.num) (.slice p1a c.sd.fo.pol.length p1b) (.slice p1c c.sd.fo.rv.length p1d) (.int .i64 c.sd.co) (.slice p1e c.sd.ru.length p1f) (.slice p1g c.sd.ha.length p1h) (.slice p1i c.sd.se.length p1j) (.slice p2x c.qu.length p2z) (.slice p3x c.lg.length p3z) 93).below ((Below.refl _ _).alloc (Nat.le_refl _) (.cells #[.string c.name, .int .i64 c.sd.fo.num, .slice q1a c.sd.fo.pol.length q1b, .slice q1c c.sd.fo.rv.length q1d, .int .i64 c.sd.co, .slice q1e c.sd.ru.length q1f, .slice q1g c.sd.ha.length q1h, .slice q1i c.sd.se.length q1j, .slice q2x c.qu.length q2z, .slice q3x c.lg.length q3z] 93))
  have F2 := Ten.at (w.alloc (.cells #[.string c.name, .int .i64 c.sd.fo.num, .slice p1a c.sd.fo.pol.length p1b, .slice p1c c.sd.fo.rv.length p1d, .int .i64 c.sd.co, .slice p1e c.sd.ru.length p1f, .slice p1g c.sd.ha.length p1h, .slice p1i c.sd.se.length p1j, .slice p2x c.qu.length p2z, .slice p3x c.lg.length p3z] 93)) (.string c.name) (.int .i64 c.sd.fo.num) (.slice q1a c.sd.fo.pol.length q1b) (.slice q1c c.sd.fo.rv.length q1d) (.int .i64 c.sd.co) (.slice q1e c.sd.ru.length q1f) (.slice q1g c.sd.ha.length q1h) (.slice q1i c.sd.se.length q1j) (.slice q2x c.qu.length q2z) (.slice q3x c.lg.length q3z) 93 (k := w.heap.size + 1) (by simp)
  have e0 : (c.name.toList == c.name.toList) = true := by simp
  go_enter Try.func48, Try.ntmps48
  go_wp2_with fail
  generalize (w.alloc (.cells #[.string c.name, .int .i64 c.sd.fo.num, .slice p1a c.sd.fo.pol.length p1b, .slice p1c c.sd.fo.rv.length p1d, .int .i64 c.sd.co, .slice p1e c.sd.ru.length p1f, .slice p1g c.sd.ha.length p1h, .slice p1i c.sd.se.length p1j, .slice p2x c.qu.length p2z, .slice p3x c.lg.length p3z] 93)).alloc (.cells #[.string c.name, .int .i64 c.sd.fo.num, .slice q1a c.sd.fo.pol.length q1b, .slice q1c c.sd.fo.rv.length q1d, .int .i64 c.sd.co, .slice q1e c.sd.ru.length q1f, .slice q1g c.sd.ha.length q1h, .slice q1i c.sd.se.length q1j, .slice q2x c.qu.length q2z, .slice q3x c.lg.length q3z] 93) = W0 at *
  refine (eqSide_same _ _ c.sd _ s1 (h1.below hB0) (h1'.below hB0)).mono ?_
  rintro e w2 ⟨rfl, hB2⟩
  replace F1 := F1.below hB2
  replace F2 := F2.below hB2
  replace hB0 := below_one hB0 hB2
  clear hB2
  obtain ⟨a0, a1, a2, a3, a4, a5, a6, a7, a8, a9⟩ := F1.c
  obtain ⟨c0, c1, c2, c3, c4, c5, c6, c7, c8, c9⟩ := F2.c
  go_wp2_with fail
  refine (eqAskS_same _ _ c.qu _ s2 (GsA.below h2 (fun _ _ h => h.below hB0) hB0) (GsA.below h2' (fun _ _ h => h.below hB0) hB0)).mono ?_
  rintro e w3 ⟨rfl, hB3⟩
  clear a0 a1 a2 a3 a4 a5 a6 a7 a8 a9 c0 c1 c2 c3 c4 c5 c6 c7 c8 c9
  replace F1 := F1.below hB3
  replace F2 := F2.below hB3
  replace hB0 := below_one hB0 hB3
  clear hB3
  obtain ⟨a0, a1, a2, a3, a4, a5, a6, a7, a8, a9⟩ := F1.c
  obtain ⟨c0, c1, c2, c3, c4, c5, c6, c7, c8, c9⟩ := F2.c
  go_wp2_with fail
  refine (eqRecordS_same _ _ c.lg _ (Nat.le_succ_of_le s3.1) (h3.below hB0) (h3'.below hB0)).mono ?_
  rintro e w4 ⟨rfl, hB4⟩
  clear a0 a1 a2 a3 a4 a5 a6 a7 a8 a9 c0 c1 c2 c3 c4 c5 c6 c7 c8 c9
  replace F1 := F1.below hB4
  replace F2 := F2.below hB4
  replace hB0 := below_one hB0 hB4
  clear hB4
  obtain ⟨a0, a1, a2, a3, a4, a5, a6, a7, a8, a9⟩ := F1.c
  obtain ⟨c0, c1, c2, c3, c4, c5, c6, c7, c8, c9⟩ := F2.c
  go_wp2_with fail
  go_ret
  exact ⟨rfl, hB0⟩

set_option maxHeartbeats 16000000 in
set_option maxRecDepth 100000 in
theorem toSidecar_any (cs : List Value) (c : Sc) (w : World) (hs : c.short) (h : ScC w cs c) :
    Calls Try.prog 73 #[.agg cs.toArray] w fun e w' => ∃ cs', e = .returned (.agg cs'.toArray) ∧ ScO w' w.heap.size w'.heap.size cs' c ∧ Below w.heap.size w w' := by
  obtain ⟨p1a, p1b, p1c, p1d, p1e, p1f, p1g, p1h, p1i, p1j, p2x, p2z, p3x, p3z, rfl, h1, h2, h3⟩ := h
  obtain ⟨s0, s1, s2, s3⟩ := hs
  have hB0 : Below w.heap.size w (((w.alloc (.cells #[.string c.name, .int .i64 c.sd.fo.num, .slice p1a c.sd.fo.pol.length p1b, .slice p1c c.sd.fo.rv.length p1d, .int .i64 c.sd.co, .slice p1e c.sd.ru.length p1f, .slice p1g c.sd.ha.length p1h, .slice p1i c.sd.se.length p1j, .slice p2x c.qu.length p2z, .slice p3x c.lg.length p3z] 112)).alloc (.cells #[.string ⟨#[]⟩, .int .i64 0, .slice none 0 0, .slice none 0 0, .int .i64 0, .slice none 0 0, .slice none 0 0, .slice none 0 0, .slice none 0 0, .slice none 0 0] 93)).alloc (.cells #[.string c.name, .int .i64 0, .slice none 0 0, .slice none 0 0, .int .i64 0, .slice none 0 0, .slice none 0 0, .slice none 0 0, .slice none 0 0, .slice none 0 0] 93)) := (((Below.refl _ w).alloc (Nat.le_refl _) _).alloc (by simp) _).alloc (by simp; omega) _
  have F1 := ((Ten.new w (.string c.name) (.int .i64 c.sd.fo.num) (.slice p1a c.sd.fo.pol.length p1b) (.slice p1c c.sd.fo.rv.length p1d) (.int .i64 c.sd.co) (.slice p1e c.sd.ru.length p1f) (.slice p1g c.sd.ha.length p1h) (.slice p1i c.sd.se.length p1j) (.slice p2x c.qu.length p2z) (.slice p3x c.lg.length p3z) 112).below ((Below.refl _ _).alloc (Nat.le_refl _) (.cells #[.string ⟨#[]⟩, .int .i64 0, .slice none 0 0, .slice none 0 0, .int .i64 0, .slice none 0 0, .slice none 0 0, .slice none 0 0, .slice none 0 0, .slice none 0 0] 93))).below ((Below.refl _ _).alloc (Nat.le_refl _) (.cells #[.string c.name, .int .i64 0, .slice none 0 0, .slice none 0 0, .int .i64 0, .slice none 0 0, .slice none 0 0, .slice none 0 0, .slice none 0 0, .slice none 0 0] 93))
  have F2 := (Ten.at (w.alloc (.cells #[.string c.name, .int .i64 c.sd.fo.num, .slice p1a c.sd.fo.pol.length p1b, .slice p1c c.sd.fo.rv.length p1d, .int .i64 c.sd.co, .slice p1e c.sd.ru.length p1f, .slice p1g c.sd.ha.length p1h, .slice p1i c.sd.se.length p1j, .slice p2x c.qu.length p2z, .slice p3x c.lg.length p3z] 112)) (.string ⟨#[]⟩) (.int .i64 0) (.slice none 0 0) (.slice none 0 0) (.int .i64 0) (.slice none 0 0) (.slice none 0 0) (.slice none 0 0) (.slice none 0 0) (.slice none 0 0) 93 (k := w.heap.size + 1) (by simp)).below ((Below.refl _ _).alloc (Nat.le_refl _) (.cells #[.string c.name, .int .i64 0, .slice none 0 0, .slice none 0 0, .int .i64 0, .slice none 0 0, .slice none 0 0, .slice none 0 0, .slice none 0 0, .slice none 0 0] 93))
  have F3 := Ten.at ((w.alloc (.cells #[.string c.name, .int .i64 c.sd.fo.num, .slice p1a c.sd.fo.pol.length p1b, .slice p1c c.sd.fo.rv.length p1d, .int .i64 c.sd.co, .slice p1e c.sd.ru.length p1f, .slice p1g c.sd.ha.length p1h, .slice p1i c.sd.se.length p1j, .slice p2x c.qu.length p2z, .slice p3x c.lg.length p3z] 112)).alloc (.cells #[.string ⟨#[]⟩, .int .i64 0, .slice none 0 0, .slice none 0 0, .int .i64 0, .slice none 0 0, .slice none 0 0, .slice none 0 0, .slice none 0 0, .slice none 0 0] 93)) (.string c.name) (.int .i64 0) (.slice none 0 0) (.slice none 0 0) (.int .i64 0) (.slice none 0 0) (.slice none 0 0) (.slice none 0 0) (.slice none 0 0) (.slice none 0 0) 93 (k := w.heap.size + 1 + 1) (by simp)
  have hK : w.heap.size + 1 + 1 < (((w.alloc (.cells #[.string c.name, .int .i64 c.sd.fo.num, .slice p1a c.sd.fo.pol.length p1b, .slice p1c c.sd.fo.rv.length p1d, .int .i64 c.sd.co, .slice p1e c.sd.ru.length p1f, .slice p1g c.sd.ha.length p1h, .slice p1i c.sd.se.length p1j, .slice p2x c.qu.length p2z, .slice p3x c.lg.length p3z] 112)).alloc (.cells #[.string ⟨#[]⟩, .int .i64 0, .slice none 0 0, .slice none 0 0, .int .i64 0, .slice none 0 0, .slice none 0 0, .slice none 0 0, .slice none 0 0, .slice none 0 0] 93)).alloc (.cells #[.string c.name, .int .i64 0, .slice none 0 0, .slice none 0 0, .int .i64 0, .slice none 0 0, .slice none 0 0, .slice none 0 0, .slice none 0 0, .slice none 0 0] 93)).heap.size := F3.lt
  go_enter Try.func73, Try.ntmps73
  go_wp2_with fail
  generalize ((w.alloc (.cells #[.string c.name, .int .i64 c.sd.fo.num, .slice p1a c.sd.fo.pol.length p1b, .slice p1c c.sd.fo.rv.length p1d, .int .i64 c.sd.co, .slice p1e c.sd.ru.length p1f, .slice p1g c.sd.ha.length p1h, .slice p1i c.sd.se.length p1j, .slice p2x c.qu.length p2z, .slice p3x c.lg.length p3z] 112)).alloc (.cells #[.string ⟨#[]⟩, .int .i64 0, .slice none 0 0, .slice none 0 0, .int .i64 0, .slice none 0 0, .slice none 0 0, .slice none 0 0, .slice none 0 0, .slice none 0 0] 93)).alloc (.cells #[.string c.name, .int .i64 0, .slice none 0 0, .slice none 0 0, .int .i64 0, .slice none 0 0, .slice none 0 0, .slice none 0 0, .slice none 0 0, .slice none 0 0] 93) = W0 at *
  refine (toSide_any _ c.sd _ s1 (h1.below hB0)).mono ?_
  rintro e w1 ⟨v1, rfl, o1, hB1⟩
  obtain ⟨r1a, r1b, r1c, r1d, r1e, r1f, r1g, r1h, r1i, r1j, rfl⟩ := sd_forms o1.a
  replace F1 := F1.below hB1
  replace F2 := F2.below hB1
  replace F3 := F3.below hB1
  replace hB0 := below_one hB0 hB1
  have hs1 := hB1.size
  clear hB1
  obtain ⟨a0, a1, a2, a3, a4, a5, a6, a7, a8, a9⟩ := F1.c
  obtain ⟨c0, c1, c2, c3, c4, c5, c6, c7, c8, c9⟩ := F3.c
  have f1 := F3.f 1
  have f2 := F3.f 2
  have f3 := F3.f 3
  have f4 := F3.f 4
  have f5 := F3.f 5
  have f6 := F3.f 6
  have f7 := F3.f 7
  go_wp2_with fail
  clear a0 a1 a2 a3 a4 a5 a6 a7 a8 a9 c0 c1 c2 c3 c4 c5 c6 c7 c8 c9 f1 f2 f3 f4 f5 f6 f7
  have M1 : Mid (w.heap.size + 1 + 1) (w.heap.size + 1 + 1 + 1) w1 (((((((w1.setCell ⟨w.heap.size + 1 + 1, 1, none⟩ (.int .i64 c.sd.fo.num)).setCell ⟨w.heap.size + 1 + 1, 2, none⟩ (.slice r1a c.sd.fo.pol.length r1b)).setCell ⟨w.heap.size + 1 + 1, 3, none⟩ (.slice r1c c.sd.fo.rv.length r1d)).setCell ⟨w.heap.size + 1 + 1, 4, none⟩ (.int .i64 c.sd.co)).setCell ⟨w.heap.size + 1 + 1, 5, none⟩ (.slice r1e c.sd.ru.length r1f)).setCell ⟨w.heap.size + 1 + 1, 6, none⟩ (.slice r1g c.sd.ha.length r1h)).setCell ⟨w.heap.size + 1 + 1, 7, none⟩ (.slice r1i c.sd.se.length r1j)) := ((((((((Mid.of_below (Below.refl _ _)).set (p := ⟨w.heap.size + 1 + 1, 1, none⟩) (by simp) (by simp) (.int .i64 c.sd.fo.num)).set (p := ⟨w.heap.size + 1 + 1, 2, none⟩) (by simp) (by simp) (.slice r1a c.sd.fo.pol.length r1b)).set (p := ⟨w.heap.size + 1 + 1, 3, none⟩) (by simp) (by simp) (.slice r1c c.sd.fo.rv.length r1d)).set (p := ⟨w.heap.size + 1 + 1, 4, none⟩) (by simp) (by simp) (.int .i64 c.sd.co)).set (p := ⟨w.heap.size + 1 + 1, 5, none⟩) (by simp) (by simp) (.slice r1e c.sd.ru.length r1f)).set (p := ⟨w.heap.size + 1 + 1, 6, none⟩) (by simp) (by simp) (.slice r1g c.sd.ha.length r1h)).set (p := ⟨w.heap.size + 1 + 1, 7, none⟩) (by simp) (by simp) (.slice r1i c.sd.se.length r1j))
  replace F1 := M1.ten F1 (.inl (by omega))
  replace F2 := M1.ten F2 (.inl (by omega))
  replace F3 := (((((((F3.s1 (.int .i64 c.sd.fo.num)).s2 (.slice r1a c.sd.fo.pol.length r1b)).s3 (.slice r1c c.sd.fo.rv.length r1d)).s4 (.int .i64 c.sd.co)).s5 (.slice r1e c.sd.ru.length r1f)).s6 (.slice r1g c.sd.ha.length r1h)).s7 (.slice r1i c.sd.se.length r1j))
  replace hB0 := (((((((hB0.setCell (p := ⟨w.heap.size + 1 + 1, 1, none⟩) (by simp; omega) (.int .i64 c.sd.fo.num)).setCell (p := ⟨w.heap.size + 1 + 1, 2, none⟩) (by simp; omega) (.slice r1a c.sd.fo.pol.length r1b)).setCell (p := ⟨w.heap.size + 1 + 1, 3, none⟩) (by simp; omega) (.slice r1c c.sd.fo.rv.length r1d)).setCell (p := ⟨w.heap.size + 1 + 1, 4, none⟩) (by simp; omega) (.int .i64 c.sd.co)).setCell (p := ⟨w.heap.size + 1 + 1, 5, none⟩) (by simp; omega) (.slice r1e c.sd.ru.length r1f)).setCell (p := ⟨w.heap.size + 1 + 1, 6, none⟩) (by simp; omega) (.slice r1g c.sd.ha.length r1h)).setCell (p := ⟨w.heap.size + 1 + 1, 7, none⟩) (by simp; omega) (.slice r1i c.sd.se.length r1j))
  replace o1 := Mid.sdo M1 o1 (.inl (by omega))
  have hq1 : w1.heap.size ≤ (((((((w1.setCell ⟨w.heap.size + 1 + 1, 1, none⟩ (.int .i64 c.sd.fo.num)).setCell ⟨w.heap.size + 1 + 1, 2, none⟩ (.slice r1a c.sd.fo.pol.length r1b)).setCell ⟨w.heap.size + 1 + 1, 3, none⟩ (.slice r1c c.sd.fo.rv.length r1d)).setCell ⟨w.heap.size + 1 + 1, 4, none⟩ (.int .i64 c.sd.co)).setCell ⟨w.heap.size + 1 + 1, 5, none⟩ (.slice r1e c.sd.ru.length r1f)).setCell ⟨w.heap.size + 1 + 1, 6, none⟩ (.slice r1g c.sd.ha.length r1h)).setCell ⟨w.heap.size + 1 + 1, 7, none⟩ (.slice r1i c.sd.se.length r1j)).heap.size := by simp
  have hp1 : (((((((w1.setCell ⟨w.heap.size + 1 + 1, 1, none⟩ (.int .i64 c.sd.fo.num)).setCell ⟨w.heap.size + 1 + 1, 2, none⟩ (.slice r1a c.sd.fo.pol.length r1b)).setCell ⟨w.heap.size + 1 + 1, 3, none⟩ (.slice r1c c.sd.fo.rv.length r1d)).setCell ⟨w.heap.size + 1 + 1, 4, none⟩ (.int .i64 c.sd.co)).setCell ⟨w.heap.size + 1 + 1, 5, none⟩ (.slice r1e c.sd.ru.length r1f)).setCell ⟨w.heap.size + 1 + 1, 6, none⟩ (.slice r1g c.sd.ha.length r1h)).setCell ⟨w.heap.size + 1 + 1, 7, none⟩ (.slice r1i c.sd.se.length r1j)).heap.size ≤ w1.heap.size := by simp
  clear M1
  generalize ((((((w1.setCell ⟨w.heap.size + 1 + 1, 1, none⟩ (.int .i64 c.sd.fo.num)).setCell ⟨w.heap.size + 1 + 1, 2, none⟩ (.slice r1a c.sd.fo.pol.length r1b)).setCell ⟨w.heap.size + 1 + 1, 3, none⟩ (.slice r1c c.sd.fo.rv.length r1d)).setCell ⟨w.heap.size + 1 + 1, 4, none⟩ (.int .i64 c.sd.co)).setCell ⟨w.heap.size + 1 + 1, 5, none⟩ (.slice r1e c.sd.ru.length r1f)).setCell ⟨w.heap.size + 1 + 1, 6, none⟩ (.slice r1g c.sd.ha.length r1h)).setCell ⟨w.heap.size + 1 + 1, 7, none⟩ (.slice r1i c.sd.se.length r1j) = W1 at *
  refine (toAskS_any _ c.qu _ s2 (GsA.below h2 (fun _ _ h => h.below hB0) hB0)).mono ?_
  rintro e w2 ⟨v2, rfl, o2, hB2⟩
  obtain ⟨r2x, r2z, rfl⟩ := GsO.len o2
  replace F1 := F1.below hB2
  replace F2 := F2.below hB2
  replace F3 := F3.below hB2
  replace o1 := SdO.below o1 hB2
  replace hB0 := below_one hB0 hB2
  have hs2 := hB2.size
  clear hB2
  obtain ⟨a0, a1, a2, a3, a4, a5, a6, a7, a8, a9⟩ := F1.c
  obtain ⟨c0, c1, c2, c3, c4, c5, c6, c7, c8, c9⟩ := F3.c
  have f8 := F3.f 8
  go_wp2_with fail
  clear a0 a1 a2 a3 a4 a5 a6 a7 a8 a9 c0 c1 c2 c3 c4 c5 c6 c7 c8 c9 f8
  have M2 : Mid (w.heap.size + 1 + 1) (w.heap.size + 1 + 1 + 1) w2 (w2.setCell ⟨w.heap.size + 1 + 1, 8, none⟩ (.slice r2x c.qu.length r2z)) := ((Mid.of_below (Below.refl _ _)).set (p := ⟨w.heap.size + 1 + 1, 8, none⟩) (by simp) (by simp) (.slice r2x c.qu.length r2z))
  replace F1 := M2.ten F1 (.inl (by omega))
  replace F2 := M2.ten F2 (.inl (by omega))
  replace F3 := (F3.s8 (.slice r2x c.qu.length r2z))
  replace hB0 := (hB0.setCell (p := ⟨w.heap.size + 1 + 1, 8, none⟩) (by simp; omega) (.slice r2x c.qu.length r2z))
  replace o1 := Mid.sdo M2 o1 (.inl (by omega))
  replace o2 := GsO.mid o2 (fun _ _ _ _ h ho => h.mid M2 ho) M2 (.inl (by omega))
  have hq2 : w2.heap.size ≤ (w2.setCell ⟨w.heap.size + 1 + 1, 8, none⟩ (.slice r2x c.qu.length r2z)).heap.size := by simp
  have hp2 : (w2.setCell ⟨w.heap.size + 1 + 1, 8, none⟩ (.slice r2x c.qu.length r2z)).heap.size ≤ w2.heap.size := by simp
  clear M2
  generalize w2.setCell ⟨w.heap.size + 1 + 1, 8, none⟩ (.slice r2x c.qu.length r2z) = W2 at *
  refine (toRecordS_any _ c.lg _ s3.1 (h3.below hB0)).mono ?_
  rintro e w3 ⟨v3, rfl, o3, hB3⟩
  replace o3 := RoO.of o3
  obtain ⟨r3x, r3z, rfl⟩ := RoO.len o3
  replace F1 := F1.below hB3
  replace F2 := F2.below hB3
  replace F3 := F3.below hB3
  replace o1 := SdO.below o1 hB3
  replace o2 := GsO.mid o2 (fun _ _ _ _ h _ => h.below hB3) (Mid.of_below (lo := 0) (hi := 0) hB3) (.inl (Nat.zero_le _))
  replace hB0 := below_one hB0 hB3
  have hs3 := hB3.size
  clear hB3
  obtain ⟨a0, a1, a2, a3, a4, a5, a6, a7, a8, a9⟩ := F1.c
  obtain ⟨c0, c1, c2, c3, c4, c5, c6, c7, c8, c9⟩ := F3.c
  have f9 := F3.f 9
  have G3 := (F3.s9 (.slice r3x c.lg.length r3z))
  have G2 := (F2.other (k' := w.heap.size + 1 + 1) (by omega) 9 (.slice r3x c.lg.length r3z))
  obtain ⟨m0, m1, m2, m3, m4, m5, m6, m7, m8, m9⟩ := G3.c
  obtain ⟨t0, t1, t2, t3, t4, t5, t6, t7, t8, t9⟩ := G2.c
  have g0 := G2.f 0
  have g1 := G2.f 1
  have g2 := G2.f 2
  have g3 := G2.f 3
  have g4 := G2.f 4
  have g5 := G2.f 5
  have g6 := G2.f 6
  have g7 := G2.f 7
  have g8 := G2.f 8
  have g9 := G2.f 9
  have G := ((((((((((G2.s0 (.string c.name)).s1 (.int .i64 c.sd.fo.num)).s2 (.slice r1a c.sd.fo.pol.length r1b)).s3 (.slice r1c c.sd.fo.rv.length r1d)).s4 (.int .i64 c.sd.co)).s5 (.slice r1e c.sd.ru.length r1f)).s6 (.slice r1g c.sd.ha.length r1h)).s7 (.slice r1i c.sd.se.length r1j)).s8 (.slice r2x c.qu.length r2z)).s9 (.slice r3x c.lg.length r3z))
  have M9 : Mid (w.heap.size + 1) (w.heap.size + 1 + 1 + 1) w3 (((((((((((w3.setCell ⟨w.heap.size + 1 + 1, 9, none⟩ (.slice r3x c.lg.length r3z)).setCell ⟨w.heap.size + 1, 0, none⟩ (.string c.name)).setCell ⟨w.heap.size + 1, 1, none⟩ (.int .i64 c.sd.fo.num)).setCell ⟨w.heap.size + 1, 2, none⟩ (.slice r1a c.sd.fo.pol.length r1b)).setCell ⟨w.heap.size + 1, 3, none⟩ (.slice r1c c.sd.fo.rv.length r1d)).setCell ⟨w.heap.size + 1, 4, none⟩ (.int .i64 c.sd.co)).setCell ⟨w.heap.size + 1, 5, none⟩ (.slice r1e c.sd.ru.length r1f)).setCell ⟨w.heap.size + 1, 6, none⟩ (.slice r1g c.sd.ha.length r1h)).setCell ⟨w.heap.size + 1, 7, none⟩ (.slice r1i c.sd.se.length r1j)).setCell ⟨w.heap.size + 1, 8, none⟩ (.slice r2x c.qu.length r2z)).setCell ⟨w.heap.size + 1, 9, none⟩ (.slice r3x c.lg.length r3z)) := ((((((((((((Mid.of_below (Below.refl _ _)).set (p := ⟨w.heap.size + 1 + 1, 9, none⟩) (by simp) (by simp) (.slice r3x c.lg.length r3z)).set (p := ⟨w.heap.size + 1, 0, none⟩) (by simp) (by simp) (.string c.name)).set (p := ⟨w.heap.size + 1, 1, none⟩) (by simp) (by simp) (.int .i64 c.sd.fo.num)).set (p := ⟨w.heap.size + 1, 2, none⟩) (by simp) (by simp) (.slice r1a c.sd.fo.pol.length r1b)).set (p := ⟨w.heap.size + 1, 3, none⟩) (by simp) (by simp) (.slice r1c c.sd.fo.rv.length r1d)).set (p := ⟨w.heap.size + 1, 4, none⟩) (by simp) (by simp) (.int .i64 c.sd.co)).set (p := ⟨w.heap.size + 1, 5, none⟩) (by simp) (by simp) (.slice r1e c.sd.ru.length r1f)).set (p := ⟨w.heap.size + 1, 6, none⟩) (by simp) (by simp) (.slice r1g c.sd.ha.length r1h)).set (p := ⟨w.heap.size + 1, 7, none⟩) (by simp) (by simp) (.slice r1i c.sd.se.length r1j)).set (p := ⟨w.heap.size + 1, 8, none⟩) (by simp) (by simp) (.slice r2x c.qu.length r2z)).set (p := ⟨w.heap.size + 1, 9, none⟩) (by simp) (by simp) (.slice r3x c.lg.length r3z))
  replace o1 := Mid.sdo M9 o1 (.inl (by omega))
  replace o2 := GsO.mid o2 (fun _ _ _ _ h ho => h.mid M9 ho) M9 (.inl (by omega))
  replace o3 := o3.mid M9 (.inl (by omega))
  replace hB0 := (((((((((((hB0.setCell (p := ⟨w.heap.size + 1 + 1, 9, none⟩) (by simp; omega) (.slice r3x c.lg.length r3z)).setCell (p := ⟨w.heap.size + 1, 0, none⟩) (by simp) (.string c.name)).setCell (p := ⟨w.heap.size + 1, 1, none⟩) (by simp) (.int .i64 c.sd.fo.num)).setCell (p := ⟨w.heap.size + 1, 2, none⟩) (by simp) (.slice r1a c.sd.fo.pol.length r1b)).setCell (p := ⟨w.heap.size + 1, 3, none⟩) (by simp) (.slice r1c c.sd.fo.rv.length r1d)).setCell (p := ⟨w.heap.size + 1, 4, none⟩) (by simp) (.int .i64 c.sd.co)).setCell (p := ⟨w.heap.size + 1, 5, none⟩) (by simp) (.slice r1e c.sd.ru.length r1f)).setCell (p := ⟨w.heap.size + 1, 6, none⟩) (by simp) (.slice r1g c.sd.ha.length r1h)).setCell (p := ⟨w.heap.size + 1, 7, none⟩) (by simp) (.slice r1i c.sd.se.length r1j)).setCell (p := ⟨w.heap.size + 1, 8, none⟩) (by simp) (.slice r2x c.qu.length r2z)).setCell (p := ⟨w.heap.size + 1, 9, none⟩) (by simp) (.slice r3x c.lg.length r3z))
  have hE : w3.heap.size ≤ (((((((((((w3.setCell ⟨w.heap.size + 1 + 1, 9, none⟩ (.slice r3x c.lg.length r3z)).setCell ⟨w.heap.size + 1, 0, none⟩ (.string c.name)).setCell ⟨w.heap.size + 1, 1, none⟩ (.int .i64 c.sd.fo.num)).setCell ⟨w.heap.size + 1, 2, none⟩ (.slice r1a c.sd.fo.pol.length r1b)).setCell ⟨w.heap.size + 1, 3, none⟩ (.slice r1c c.sd.fo.rv.length r1d)).setCell ⟨w.heap.size + 1, 4, none⟩ (.int .i64 c.sd.co)).setCell ⟨w.heap.size + 1, 5, none⟩ (.slice r1e c.sd.ru.length r1f)).setCell ⟨w.heap.size + 1, 6, none⟩ (.slice r1g c.sd.ha.length r1h)).setCell ⟨w.heap.size + 1, 7, none⟩ (.slice r1i c.sd.se.length r1j)).setCell ⟨w.heap.size + 1, 8, none⟩ (.slice r2x c.qu.length r2z)).setCell ⟨w.heap.size + 1, 9, none⟩ (.slice r3x c.lg.length r3z)).heap.size := by simp
  have hW0 : w.heap.size ≤ W0.heap.size := by omega
  clear F1 F2 F3 M9
  go_wp2_with fail
  clear a0 a1 a2 a3 a4 a5 a6 a7 a8 a9 c0 c1 c2 c3 c4 c5 c6 c7 c8 c9 f9 m0 m1 m2 m3 m4 m5 m6 m7 m8 m9 t0 t1 t2 t3 t4 t5 t6 t7 t8 t9 g0 g1 g2 g3 g4 g5 g6 g7 g8 g9
  generalize ((((((((((w3.setCell ⟨w.heap.size + 1 + 1, 9, none⟩ (.slice r3x c.lg.length r3z)).setCell ⟨w.heap.size + 1, 0, none⟩ (.string c.name)).setCell ⟨w.heap.size + 1, 1, none⟩ (.int .i64 c.sd.fo.num)).setCell ⟨w.heap.size + 1, 2, none⟩ (.slice r1a c.sd.fo.pol.length r1b)).setCell ⟨w.heap.size + 1, 3, none⟩ (.slice r1c c.sd.fo.rv.length r1d)).setCell ⟨w.heap.size + 1, 4, none⟩ (.int .i64 c.sd.co)).setCell ⟨w.heap.size + 1, 5, none⟩ (.slice r1e c.sd.ru.length r1f)).setCell ⟨w.heap.size + 1, 6, none⟩ (.slice r1g c.sd.ha.length r1h)).setCell ⟨w.heap.size + 1, 7, none⟩ (.slice r1i c.sd.se.length r1j)).setCell ⟨w.heap.size + 1, 8, none⟩ (.slice r2x c.qu.length r2z)).setCell ⟨w.heap.size + 1, 9, none⟩ (.slice r3x c.lg.length r3z) = WE at *
  obtain ⟨d0, d1, d2, d3, d4, d5, d6, d7, d8, d9⟩ := G.c
  exact bodyPost_ret (v := .agg #[.string c.name, .int .i64 c.sd.fo.num, .slice r1a c.sd.fo.pol.length r1b, .slice r1c c.sd.fo.rv.length r1d, .int .i64 c.sd.co, .slice r1e c.sd.ru.length r1f, .slice r1g c.sd.ha.length r1h, .slice r1i c.sd.se.length r1j, .slice r2x c.qu.length r2z, .slice r3x c.lg.length r3z]) (by simp [results, Try.results73, go_sem, d0, d1, d2, d3, d4, d5, d6, d7, d8, d9]) rfl ⟨_, rfl, ⟨_, _, _, _, _, _, _, _, _, _, _, _, _, _, w1.heap.size, w2.heap.size, rfl, by omega, by omega, by omega, SdO.mono o1 (by omega) (by omega), GsO.mono o2 (by omega) (by omega), o3.mono (by omega) (by omega)⟩, hB0⟩

set_option maxHeartbeats 4000000 in
theorem szSidecarS_any (v : Value) (rs : List Sc) (n : Int) (w : World) (h0 : 0 ≤ n) (h1 : n ≤ 1048576) (hm : rs.length ≤ maxLen) (hf : ∀ r ∈ rs, r.fits) (hr : GsA 10 ScC w v rs) :
    Calls Try.prog 30 #[v, .int .i64 n] w fun e w' => e = .returned (.int .i64 (leftK n (gzAll Sc.size rs))) ∧ Below w.heap.size w w' := by
  obtain ⟨a, cap, rfl⟩ := hr.len
  unfold maxLen at hm
  by_cases c0 : n < rs.length
  · have HR := hid (show leftK n (gzAll Sc.size rs) = -1 from if_neg (by unfold gzAll; omega))
    go_enter Try.func30, Try.ntmps30
    go_wp2
    go_ret
    exact ⟨ret_int HR.out.symm, Below.refl _ _⟩
  · have d0 : decide (n - (rs.length : Int) < 0) = false := by simp; omega
    go_enter Try.func30, Try.ntmps30
    go_wp2
    go_loopw [1, 5] (fun m i wr => ∃ k : Nat, k ≤ rs.length ∧ i = .int .i64 k ∧ m = .int .i64 (n - rs.length - gzTo Sc.size rs k) ∧ 0 ≤ n - rs.length - gzTo Sc.size rs k ∧ Below w.heap.size w wr) (fun _ i _ => rs.length - (intOf i).toNat)
    case atStart => exact ⟨0, Nat.zero_le _, rfl, by rw [gzTo_zero]; go_num, by rw [gzTo_zero]; omega, Below.refl _ _⟩
    case round =>
      obtain ⟨k, hk, rfl, rfl, hp, hB⟩ := hrel
      by_cases hlt : k < rs.length
      · obtain ⟨b, off, cs, rfl, hb, hcap, hq, hA⟩ := (hr.below (fun _ _ h => h.below hB) hB).at hlt
        have hA0 := hA
        obtain ⟨p1a, p1b, p1c, p1d, p1e, p1f, p1g, p1h, p1i, p1j, p2x, p2z, p3x, p3z, hcsq, g1, g2, g3⟩ := hA
        subst hcsq
        have q0 := hq 0 _ rfl
        have q1 := hq 1 _ rfl
        have q2 := hq 2 _ rfl
        have q3 := hq 3 _ rfl
        have q4 := hq 4 _ rfl
        have q5 := hq 5 _ rfl
        have q6 := hq 6 _ rfl
        have q7 := hq 7 _ rfl
        have q8 := hq 8 _ rfl
        have q9 := hq 9 _ rfl
        rw [Nat.add_zero] at q0
        have f1 := hf rs[k] (List.getElem_mem hlt)
        have HS := hid (gzTo_succ (f := Sc.size) hlt)
        have HT := hid (gzTo_le Sc.size rs (k + 1))
        generalize rs[k] = r at *
        clear hq hr
        go_wp2_with fail
        refine (szSidecar_any _ r _ _ hp (by omega) f1 hA0).mono ?_
        rintro e w1 ⟨rfl, hB1⟩
        have hB2 := below_one hB hB1
        by_cases c1 : (r.size : Int) ≤ n - rs.length - gzTo Sc.size rs k
        · have hv : leftK (n - rs.length - gzTo Sc.size rs k) r.size = n - rs.length - gzTo Sc.size rs (k + 1) := by
            rw [HS.out]
            unfold leftK
            rw [if_pos (by omega)]
            omega
          have hq : 0 ≤ n - rs.length - gzTo Sc.size rs (k + 1) := by rw [HS.out]; omega
          rw [hv]
          have d1 : decide (n - (rs.length : Int) - (gzTo Sc.size rs (k + 1) : Int) < 0) = false := by simp; omega
          clear hv hB1 q0 q1 q2 q3 q4 q5 q6 q7 q8 q9 hA0 g1 g2 g3
          go_wp2_with fail
          go_roundw
          case rel => exact ⟨k + 1, by omega, by go_num, rfl, hq, hB2⟩
          case measure => simp [intOf]; omega
        · have hv : leftK (n - rs.length - gzTo Sc.size rs k) r.size = -1 := if_neg (by omega)
          have HR := hid (show leftK n (gzAll Sc.size rs) = -1 from if_neg (by have := HT.out; rw [HS.out] at this; unfold gzAll; omega))
          rw [hv]
          clear hv hB1 q0 q1 q2 q3 q4 q5 q6 q7 q8 q9 hA0 g1 g2 g3
          go_wp2_with fail
          go_ret
          exact ⟨ret_int HR.out.symm, hB2⟩
      · obtain rfl : k = rs.length := by omega
        have HR := hid (show leftK n (gzAll Sc.size rs) = n - rs.length - gzTo Sc.size rs rs.length by unfold leftK gzAll; rw [if_pos (by omega)]; omega)
        go_wp2
        go_ret
        exact ⟨ret_int HR.out.symm, hB⟩

set_option maxHeartbeats 4000000 in
/-- A list is like itself, wherever the two lie. -/
theorem eqSidecarS_same (v v' : Value) (ss : List Sc) (w : World) (hn : gShort Sc.short ss) (hr : GsA 10 ScC w v ss) (hr' : GsA 10 ScC w v' ss) :
    Calls Try.prog 21 #[v, v'] w fun e w' => e = .returned (.bool true) ∧ Below w.heap.size w w' := by
  obtain ⟨a, cap, rfl⟩ := hr.len
  obtain ⟨a', cap', rfl⟩ := hr'.len
  have hn1 := hn.1
  have e0 : ((ss.length : Int) != (ss.length : Int)) = false := by simp
  go_enter Try.func21, Try.ntmps21
  go_wp2
  go_loopw [5] (fun i wr => ∃ j : Nat, j ≤ ss.length ∧ i = .int .i64 j ∧ Below w.heap.size w wr) (fun i _ => ss.length - (intOf i).toNat)
  case atStart => exact ⟨0, Nat.zero_le _, rfl, Below.refl _ _⟩
  case round =>
    obtain ⟨j, hj, rfl, hB⟩ := hrel
    by_cases hlt : j < ss.length
    · obtain ⟨b, off, cs, rfl, hb, hcap, hq, hA⟩ := (hr.below (fun _ _ h => h.below hB) hB).at hlt
      have hA0 := hA
      obtain ⟨p1a, p1b, p1c, p1d, p1e, p1f, p1g, p1h, p1i, p1j, p2x, p2z, p3x, p3z, hcsq, g1, g2, g3⟩ := hA
      subst hcsq
      have q0 := hq 0 _ rfl
      have q1 := hq 1 _ rfl
      have q2 := hq 2 _ rfl
      have q3 := hq 3 _ rfl
      have q4 := hq 4 _ rfl
      have q5 := hq 5 _ rfl
      have q6 := hq 6 _ rfl
      have q7 := hq 7 _ rfl
      have q8 := hq 8 _ rfl
      have q9 := hq 9 _ rfl
      rw [Nat.add_zero] at q0
      obtain ⟨b', off', cs', rfl, hb', hcap', hq', hA'⟩ := (hr'.below (fun _ _ h => h.below hB) hB).at hlt
      have hA1 := hA'
      obtain ⟨q1a, q1b, q1c, q1d, q1e, q1f, q1g, q1h, q1i, q1j, q2x, q2z, q3x, q3z, hcsp, g'1, g'2, g'3⟩ := hA'
      subst hcsp
      have p0 := hq' 0 _ rfl
      have p1 := hq' 1 _ rfl
      have p2 := hq' 2 _ rfl
      have p3 := hq' 3 _ rfl
      have p4 := hq' 4 _ rfl
      have p5 := hq' 5 _ rfl
      have p6 := hq' 6 _ rfl
      have p7 := hq' 7 _ rfl
      have p8 := hq' 8 _ rfl
      have p9 := hq' 9 _ rfl
      rw [Nat.add_zero] at p0
      have hs := hn.2 ss[j] (List.getElem_mem hlt)
      generalize ss[j] = s at *
      clear hq hq' hr hr'
      go_wp2_with fail
      go_region_with (go_at_call 48; refine (eqSidecar_same _ _ s _ hs (hA0.below (Below.refl _ _).drew) (hA1.below (Below.refl _ _).drew)).mono ?_; rintro e w1 ⟨rfl, hB1⟩)
      all_goals go_wp2
      all_goals go_roundw
      all_goals first
        | exact ⟨j + 1, by omega, by go_num, below_one hB (below_drew1 hB1)⟩
        | (simp [intOf]; omega)
    · obtain rfl : j = ss.length := by omega
      go_wp2
      go_ret
      exact ⟨rfl, hB⟩

theorem infoSidecar : (Try.prog.info? 93).map (fun i => (i.zero, i.size, i.bytes)) = some (some (.agg #[.string ⟨#[]⟩, .int .i64 0, .slice none 0 0, .slice none 0 0, .int .i64 0, .slice none 0 0, .slice none 0 0, .slice none 0 0, .slice none 0 0, .slice none 0 0]), 10, 200) := by kernel_rfl
set_option maxHeartbeats 8000000 in
theorem toSidecarS_any (v : Value) (ss : List Sc) (w : World) (hm : gShort Sc.short ss) (hr : GsA 10 ScC w v ss) :
    Calls Try.prog 36 #[v] w fun e w' => ∃ v', e = .returned v' ∧ GsO 93 10 ScO w' w.heap.size w'.heap.size v' ss ∧ Below w.heap.size w w' := by
  obtain ⟨a, cap, rfl⟩ := hr.len
  obtain ⟨i0, hi, hz0, hz1, hz2⟩ := info_parts infoSidecar
  have hm1 := hm.1
  go_enter Try.func36, Try.ntmps36
  go_wp2_with (at_make; refine wpList_make_full _ rfl _ _ 28 rfl w.heap.size 93 i0 _ 10 Try.underlying28 hi hz0 hz1 _ _ _ _ ss.length rfl rfl rfl rfl (by rw [hz2]; omega) (by unfold maxLen; omega) (Nat.le_refl _) ?_; intro w1 hown hgrow)
  have hB1 : Below w.heap.size w w1 := (Below.refl _ w).grown hgrow (Nat.le_refl _) (fun k e => by cases e)
  go_loopw [4] (fun i wr => ∃ k : Nat, k ≤ ss.length ∧ i = .int .i64 k ∧ ∃ ys cs s t, GsK 93 10 ScO wr w.heap.size wr.heap.size (.slice (some ⟨w.heap.size, 0, none⟩) ss.length ss.length) ss.length ss k ys cs s t ∧ Below w.heap.size w wr) (fun i _ => ss.length - (intOf i).toNat)
  case atStart => exact ⟨0, Nat.zero_le _, rfl, _, _, _, _, GsK.start _ _ _ _ _ _ _ _ _ _ hown (fun j hj => (hown.lt j hj).2), hB1⟩
  case round =>
    obtain ⟨k, hk, rfl, ys, cs0, s0, t0', hK, hB⟩ := hrel
    by_cases hlt : k < ss.length
    · obtain ⟨b, off, cs, rfl, hb, hcap, hq, hA⟩ := (hr.below (fun _ _ h => h.below hB) hB).at hlt
      have hA0 := hA
      obtain ⟨p1a, p1b, p1c, p1d, p1e, p1f, p1g, p1h, p1i, p1j, p2x, p2z, p3x, p3z, hcsq, g1, g2, g3⟩ := hA
      subst hcsq
      have q0 := hq 0 _ rfl
      have q1 := hq 1 _ rfl
      have q2 := hq 2 _ rfl
      have q3 := hq 3 _ rfl
      have q4 := hq 4 _ rfl
      have q5 := hq 5 _ rfl
      have q6 := hq 6 _ rfl
      have q7 := hq 7 _ rfl
      have q8 := hq 8 _ rfl
      have q9 := hq 9 _ rfl
      rw [Nat.add_zero] at q0
      have hsh := hm.2 ss[k] (List.getElem_mem hlt)
      have HA := hid (fun (w2 : World) (zs : List Value) (hB2 : Below wr.heap.size wr w2) (hz : zs.length = 10) (hn : ScO w2 wr.heap.size w2.heap.size zs ss[k]) => GsK.add (w2 := w2) (zs := zs) hK hB.size hB2 hlt hlt hz (fun _ _ _ _ _ _ _ M h ho => h.mid M ho) (fun _ _ _ _ h => h.below hB2) hn)
      clear hq hr
      go_wp2_with fail
      refine (toSidecar_any _ ss[k] _ hsh hA0).mono ?_
      rintro e w2 ⟨zs, rfl, hO, hB2⟩
      have hOc := hO
      obtain ⟨o1a, o1b, o1c, o1d, o1e, o1f, o1g, o1h, o1i, o1j, o2x, o2z, o3x, o3z, m1, m2, hzs, l0, l1, l2, o0, o1, o2⟩ := hO
      subst hzs
      have HK := hid (HA.out w2 _ hB2 rfl hOc)
      have hrow2 := ownsRow_below hK.row hB2
      have hB3 := below_one hB hB2
      have hlen : ys.length = ss.length * 10 := hrow2.1
      have s0 := hrow2.cellAt (k * 10) (by omega)
      have s1 := hrow2.cellAt (k * 10 + 1) (by omega)
      have s2 := hrow2.cellAt (k * 10 + 2) (by omega)
      have s3 := hrow2.cellAt (k * 10 + 3) (by omega)
      have s4 := hrow2.cellAt (k * 10 + 4) (by omega)
      have s5 := hrow2.cellAt (k * 10 + 5) (by omega)
      have s6 := hrow2.cellAt (k * 10 + 6) (by omega)
      have s7 := hrow2.cellAt (k * 10 + 7) (by omega)
      have s8 := hrow2.cellAt (k * 10 + 8) (by omega)
      have s9 := hrow2.cellAt (k * 10 + 9) (by omega)
      rw [List.getElem?_eq_getElem (by omega)] at s0 s1 s2 s3 s4 s5 s6 s7 s8 s9
      have t0 := hrow2.frozenAt (k * 10)
      have t1 := hrow2.frozenAt (k * 10 + 1)
      have t2 := hrow2.frozenAt (k * 10 + 2)
      have t3 := hrow2.frozenAt (k * 10 + 3)
      have t4 := hrow2.frozenAt (k * 10 + 4)
      have t5 := hrow2.frozenAt (k * 10 + 5)
      have t6 := hrow2.frozenAt (k * 10 + 6)
      have t7 := hrow2.frozenAt (k * 10 + 7)
      have t8 := hrow2.frozenAt (k * 10 + 8)
      have t9 := hrow2.frozenAt (k * 10 + 9)
      generalize ys[k * 10] = z0 at *
      generalize ys[k * 10 + 1] = z1 at *
      generalize ys[k * 10 + 2] = z2 at *
      generalize ys[k * 10 + 3] = z3 at *
      generalize ys[k * 10 + 4] = z4 at *
      generalize ys[k * 10 + 5] = z5 at *
      generalize ys[k * 10 + 6] = z6 at *
      generalize ys[k * 10 + 7] = z7 at *
      generalize ys[k * 10 + 8] = z8 at *
      generalize ys[k * 10 + 9] = z9 at *
      generalize ss[k] = s at *
      clear q0 q1 q2 q3 q4 q5 q6 q7 q8 q9 hB2 hK HA hA0 g1 g2 g3 l0 l1 l2 o0 o1 o2 hOc
      go_wp2_with fail
      go_roundw
      case rel => exact ⟨k + 1, by omega, by go_num, _, _, _, _, HK.out, ((((((((((hB3.setCell (p := ⟨w.heap.size, _, none⟩) (Nat.le_refl _) _).setCell (p := ⟨w.heap.size, _, none⟩) (Nat.le_refl _) _).setCell (p := ⟨w.heap.size, _, none⟩) (Nat.le_refl _) _).setCell (p := ⟨w.heap.size, _, none⟩) (Nat.le_refl _) _).setCell (p := ⟨w.heap.size, _, none⟩) (Nat.le_refl _) _).setCell (p := ⟨w.heap.size, _, none⟩) (Nat.le_refl _) _).setCell (p := ⟨w.heap.size, _, none⟩) (Nat.le_refl _) _).setCell (p := ⟨w.heap.size, _, none⟩) (Nat.le_refl _) _).setCell (p := ⟨w.heap.size, _, none⟩) (Nat.le_refl _) _).setCell (p := ⟨w.heap.size, _, none⟩) (Nat.le_refl _) _)⟩
      case measure => simp [intOf]; omega
    · obtain rfl : k = ss.length := by omega
      go_wp2
      go_ret
      exact ⟨_, rfl, ⟨ys, cs0, s0, t0', hK⟩, hB⟩

end Go.Proofs.Ytnbojbcljfiamaa

namespace Go.Proofs.Ytnbojbcljfiamaa

/-- A small whole number as a float's bits. -/
def fN (n : Nat) : Nat := floatOfInt .f64 (n : Int)
theorem shl_pow (n k : Nat) : n <<< k = n * 2 ^ k := Nat.shiftLeft_eq n k
theorem kept_eq (n : Nat) : Ieee.Toward.even.cut false n 0 = n := by
  unfold Ieee.Toward.cut
  have h : n % 1 = 0 := Nat.mod_one n
  simp [h]
theorem fN_pos {n : Nat} (h0 : 0 < n) (h : n ≤ 1000000) : fN n = (n.log2 + 1022) * 2 ^ 52 + n * 2 ^ (52 - n.log2) ∧ n.log2 ≤ 20 ∧ 2 ^ 52 ≤ n * 2 ^ (52 - n.log2) ∧ n * 2 ^ (52 - n.log2) < 2 ^ 53 := by
  have hl : n.log2 < 20 := (Nat.log2_lt (by omega)).2 (by omega)
  have a1 : 2 ^ n.log2 ≤ n := Nat.log2_self_le (by omega)
  have a2 : n < 2 ^ (n.log2 + 1) := Nat.lt_log2_self
  have b1 : 2 ^ 52 ≤ n * 2 ^ (52 - n.log2) := by
    have : 2 ^ n.log2 * 2 ^ (52 - n.log2) ≤ n * 2 ^ (52 - n.log2) := Nat.mul_le_mul_right _ a1
    rwa [← Nat.pow_add, show n.log2 + (52 - n.log2) = 52 by omega] at this
  have b2 : n * 2 ^ (52 - n.log2) < 2 ^ 53 := by
    have : n * 2 ^ (52 - n.log2) < 2 ^ (n.log2 + 1) * 2 ^ (52 - n.log2) := Nat.mul_lt_mul_of_pos_right a2 (Nat.two_pow_pos _)
    rwa [← Nat.pow_add, show n.log2 + 1 + (52 - n.log2) = 53 by omega] at this
  refine ⟨?_, by omega, b1, b2⟩
  unfold fN floatOfInt FloatKind.nearest FloatKind.encode Ieee.Format.write
  have hn : decide ((n : Int) < 0) = false := by simp
  simp only [hn, Int.natAbs_natCast]
  unfold Ieee.Format.nearest
  rw [if_neg (by omega)]
  have hlast : max (0 + (n.log2 : Int) - (FloatKind.f64.format.fractionBits : Int)) FloatKind.f64.format.leastPlace = (n.log2 : Int) - 52 := by
    have e1 : (FloatKind.f64.format.fractionBits : Int) = 52 := rfl
    have e2 : FloatKind.f64.format.leastPlace = -1074 := by decide
    rw [e1, e2]
    omega
  simp only [hlast]
  have e3 : (0 - ((n.log2 : Int) - 52)).toNat = 52 - n.log2 := by omega
  have e4 : ((n.log2 : Int) - 52 - 0).toNat = 0 := by omega
  rw [e3, e4, kept_eq, shl_pow]
  have e2 : FloatKind.f64.format.leastPlace = -1074 := by decide
  have e5 : FloatKind.f64.format.binade = 2 ^ 52 := by decide
  have e6 : FloatKind.f64.format.infRung = 2047 * 2 ^ 52 := by decide
  rw [e2, e5, e6, show ((n.log2 : Int) - 52 - -1074).toNat = n.log2 + 1022 by omega]
  unfold Ieee.Format.word
  rw [if_neg (by decide), Nat.min_eq_left]
  omega
theorem read_fN {n : Nat} (h0 : 0 < n) (h : n ≤ 1000000) : FloatKind.f64.format.read (fN n) = .number false (n * 2 ^ (52 - n.log2)) ((n.log2 : Int) - 52) := by
  obtain ⟨e, hl, b1, b2⟩ := fN_pos h0 h
  rw [e]
  generalize hk : n * 2 ^ (52 - n.log2) = k at *
  generalize n.log2 = L at *
  have e2 : FloatKind.f64.format.leastPlace = -1074 := by decide
  have e5 : FloatKind.f64.format.binade = 2 ^ 52 := by decide
  have e6 : FloatKind.f64.format.infRung = 2047 * 2 ^ 52 := by decide
  have e7 : FloatKind.f64.format.signWeight = 2 ^ 63 := by decide
  unfold Ieee.Format.read
  rw [e2, e5, e6, e7]
  have d1 : ((L + 1022) * 2 ^ 52 + k) / 2 ^ 63 = 0 := Nat.div_eq_of_lt (by omega)
  have d2 : ((L + 1022) * 2 ^ 52 + k) % 2 ^ 63 = (L + 1022) * 2 ^ 52 + k := Nat.mod_eq_of_lt (by omega)
  have d3 : ((L + 1022) * 2 ^ 52 + k) % 2 ^ 52 = k - 2 ^ 52 := by omega
  have d4 : ((L + 1022) * 2 ^ 52 + k) / 2 ^ 52 = L + 1023 := by omega
  simp only [d1, d2, d3, d4]
  rw [if_neg (by omega), if_pos (by omega)]
  have d5 : 2 ^ 52 + (k - 2 ^ 52) = k := by omega
  have d6 : (-1074 : Int) + ((L + 1023 - 1 : Nat) : Int) = (L : Int) - 52 := by omega
  rw [d5, d6]
  rfl
theorem read_fN0 : FloatKind.f64.format.read (fN 0) = .number false 0 (-1074) := by decide
theorem z_mul (p : Nat) : 0 = 0 * 2 ^ p := (Nat.zero_mul _).symm
theorem read_any (n : Nat) (h : n ≤ 1000000) : ∃ (k : Nat) (p : Nat), FloatKind.f64.format.read (fN n) = .number false k (-(p : Int)) ∧ k = n * 2 ^ p := by
  by_cases h0 : 0 < n
  · have hl : n.log2 < 20 := (Nat.log2_lt (by omega)).2 (by omega)
    refine ⟨_, 52 - n.log2, ?_, rfl⟩
    rw [read_fN h0 h]
    congr 1
    omega
  · have : n = 0 := by omega
    subst this
    exact ⟨0, 1074, read_fN0, z_mul 1074⟩
theorem cmp_mul (a b p : Nat) : compare ((a * 2 ^ p : Nat) : Int) ((b * 2 ^ p : Nat) : Int) = compare a b := by
  have hp : 0 < 2 ^ p := Nat.two_pow_pos p
  have hA : ∀ x y : Nat, ((x * 2 ^ p : Nat) : Int) < ((y * 2 ^ p : Nat) : Int) ↔ x < y := fun x y => by
    rw [Int.ofNat_lt]
    exact Nat.mul_lt_mul_right hp
  rcases Nat.lt_trichotomy a b with h | h | h
  · rw [Nat.compare_eq_lt.2 h]
    simp only [compare, compareOfLessAndEq]
    rw [if_pos ((hA a b).2 h)]
  · subst h
    rw [Nat.compare_eq_eq.2 rfl]
    simp [compare, compareOfLessAndEq]
  · rw [Nat.compare_eq_gt.2 h]
    simp only [compare, compareOfLessAndEq]
    rw [if_neg (by rw [hA]; omega), if_neg (by intro e; have := (hA b a).2 h; omega)]
theorem order_fN (a b : Nat) (ha : a ≤ 1000000) (hb : b ≤ 1000000) : FloatKind.f64.format.order (fN a) (fN b) = some (compare a b) := by
  obtain ⟨k, p, e, rfl⟩ := read_any a ha
  obtain ⟨l, q, e', rfl⟩ := read_any b hb
  unfold Ieee.Format.order
  rw [e, e']
  unfold Ieee.Datum.order
  simp only [Ieee.signed]
  have h1 : ∃ m : Nat, min (-(p : Int)) (-(q : Int)) = -(m : Int) ∧ p ≤ m ∧ q ≤ m := by
    refine ⟨max p q, by omega, by omega, by omega⟩
  obtain ⟨m, hm, h2, h3⟩ := h1
  rw [hm, show (-(p : Int) - -(m : Int)).toNat = m - p by omega, show (-(q : Int) - -(m : Int)).toNat = m - q by omega, shl_pow, shl_pow, Nat.mul_assoc, ← Nat.pow_add, Nat.mul_assoc, ← Nat.pow_add, show p + (m - p) = m by omega, show q + (m - q) = m by omega]
  simp only [if_neg (by decide : ¬ (false = true))]
  rw [cmp_mul]
theorem neg_fN (a : Nat) (ha : a ≤ 1000000) : (FloatKind.f64.decode (fN a)).neg = false := by
  obtain ⟨k, p, e, _⟩ := read_any a ha
  unfold FloatKind.decode
  rw [e]
  rfl

end Go.Proofs.Ytnbojbcljfiamaa

namespace Go.Proofs.Ytnbojbcljfiamaa

/-- A text is among some. -/
def hasTo (ss : List ByteArray) (s : ByteArray) (n : Nat) : Bool := (ss.take n).any (fun x => x.toList == s.toList)
def hasT (ss : List ByteArray) (s : ByteArray) : Bool := ss.any (fun x => x.toList == s.toList)
theorem hasTo_zero (ss : List ByteArray) (s : ByteArray) : hasTo ss s 0 = false := by simp [hasTo]
theorem hasTo_succ {ss : List ByteArray} {s : ByteArray} {n : Nat} (h : n < ss.length) : hasTo ss s (n + 1) = (hasTo ss s n || (ss[n].toList == s.toList)) := by
  unfold hasTo
  rw [List.take_succ_eq_append_getElem h, List.any_append]
  simp
theorem hasT_yes {ss : List ByteArray} {s : ByteArray} {n : Nat} (h : n < ss.length) (he : (ss[n].toList == s.toList) = true) : hasT ss s = true :=
  List.any_eq_true.2 ⟨ss[n], List.getElem_mem h, he⟩
theorem hasT_end (ss : List ByteArray) (s : ByteArray) : hasTo ss s ss.length = hasT ss s := by
  unfold hasTo hasT
  rw [List.take_length]
/-- All of some texts are among others. -/
def allTo3 (ss ts : List ByteArray) (n : Nat) : Bool := (ts.take n).all (hasT ss)
def allT (ss ts : List ByteArray) : Bool := ts.all (hasT ss)
theorem allTo3_zero (ss ts : List ByteArray) : allTo3 ss ts 0 = true := by simp [allTo3]
theorem allTo3_succ {ss ts : List ByteArray} {n : Nat} (h : n < ts.length) : allTo3 ss ts (n + 1) = (allTo3 ss ts n && hasT ss ts[n]) := by
  unfold allTo3
  rw [List.take_succ_eq_append_getElem h, List.all_append]
  simp
theorem allT_no {ss ts : List ByteArray} {n : Nat} (h : n < ts.length) (he : hasT ss ts[n] = false) : allT ss ts = false :=
  List.all_eq_false.2 ⟨ts[n], List.getElem_mem h, by rw [he]; exact Bool.false_ne_true⟩
theorem allT_end (ss ts : List ByteArray) : allTo3 ss ts ts.length = allT ss ts := by
  unfold allTo3 allT
  rw [List.take_length]
/-- A time lies within all links' times. -/
def tmIn (k : Lk) (nw : Int) : Bool := decide (k.fr ≤ nw ∧ nw ≤ k.un)
def inTo (ks : List Lk) (nw : Int) (n : Nat) : Bool := (ks.take n).all (fun k => tmIn k nw)
def inT (ks : List Lk) (nw : Int) : Bool := ks.all (fun k => tmIn k nw)
theorem inTo_zero (ks : List Lk) (nw : Int) : inTo ks nw 0 = true := by simp [inTo]
theorem inTo_succ {ks : List Lk} {nw : Int} {n : Nat} (h : n < ks.length) : inTo ks nw (n + 1) = (inTo ks nw n && tmIn ks[n] nw) := by
  unfold inTo
  rw [List.take_succ_eq_append_getElem h, List.all_append]
  simp
theorem inT_no {ks : List Lk} {nw : Int} {n : Nat} (h : n < ks.length) (he : tmIn ks[n] nw = false) : inT ks nw = false :=
  List.all_eq_false.2 ⟨ks[n], List.getElem_mem h, by rw [he]; exact Bool.false_ne_true⟩
theorem inT_end (ks : List Lk) (nw : Int) : inTo ks nw ks.length = inT ks nw := by
  unfold inTo inT
  rw [List.take_length]
/-- A serial is revoked. -/
def rvTo (ks : List Lk) (zs : List Int) (n : Nat) : Bool := (ks.take n).any (fun k => isI zs k.se)
def rvB (ks : List Lk) (zs : List Int) : Bool := ks.any (fun k => isI zs k.se)
theorem rvTo_zero (ks : List Lk) (zs : List Int) : rvTo ks zs 0 = false := by simp [rvTo]
theorem rvTo_succ {ks : List Lk} {zs : List Int} {n : Nat} (h : n < ks.length) : rvTo ks zs (n + 1) = (rvTo ks zs n || isI zs ks[n].se) := by
  unfold rvTo
  rw [List.take_succ_eq_append_getElem h, List.any_append]
  simp
theorem rvB_yes {ks : List Lk} {zs : List Int} {n : Nat} (h : n < ks.length) (he : isI zs ks[n].se = true) : rvB ks zs = true :=
  List.any_eq_true.2 ⟨ks[n], List.getElem_mem h, he⟩
theorem rvB_end (ks : List Lk) (zs : List Int) : rvTo ks zs ks.length = rvB ks zs := by
  unfold rvTo rvB
  rw [List.take_length]
/-- It leads where it should. -/
def toOk (ks : List Lk) (at_ : ByteArray) : Bool := match ks[ks.length - 1]? with
  | some k => k.to.toList == at_.toList
  | none => false
theorem toOk_at {ks : List Lk} {at_ : ByteArray} {m : Nat} (h : m < ks.length) (hm : m = ks.length - 1) : toOk ks at_ = (ks[m].to.toList == at_.toList) := by
  unfold toOk
  rw [← hm, List.getElem?_eq_getElem h]

/-- What comes first of what CheckToken tells, of a token that is good. -/
def chk1 (ks : List Lk) (sg ss : List ByteArray) (nw : Int) (zs : List Int) (at_ : ByteArray) : Int :=
  if allT ss sg = false then 2 else if inT ks nw = false then 3 else if rvB ks zs = true then 4 else if toOk ks at_ = false then 5 else 0
def argB (nw : Int) (at_ : ByteArray) (ss : List ByteArray) (zs : List Int) : Bool := tmB nw && (gnB (split at_ 47) && (decide (ss.length ≤ 200) && decide (zs.length ≤ 200)))
def chkX (ks : List Lk) (sg ss : List ByteArray) (nw : Int) (zs : List Int) (at_ : ByteArray) : Int :=
  if (tkB ks && argB nw at_ ss zs) = true then chk1 ks sg ss nw zs at_ else 1
theorem chkX_no1 {ks : List Lk} (sg ss : List ByteArray) (nw : Int) (zs : List Int) (at_ : ByteArray) (h : tkB ks = false) : chkX ks sg ss nw zs at_ = 1 := by
  unfold chkX
  rw [h, if_neg (by simp)]
theorem chkX_no2 (ks : List Lk) (sg : List ByteArray) {ss : List ByteArray} {nw : Int} {zs : List Int} {at_ : ByteArray} (h : argB nw at_ ss zs = false) : chkX ks sg ss nw zs at_ = 1 := by
  unfold chkX
  rw [h, if_neg (by simp)]
theorem chkX_yes {ks : List Lk} (sg : List ByteArray) {ss : List ByteArray} {nw : Int} {zs : List Int} {at_ : ByteArray} (h : tkB ks = true) (h2 : argB nw at_ ss zs = true) : chkX ks sg ss nw zs at_ = chk1 ks sg ss nw zs at_ := by
  unfold chkX
  rw [h, h2, if_pos (by rfl)]

/-! The window of times. -/
def mxF (ks : List Lk) (n : Nat) : Nat := (ks.take n).foldl (fun a k => max a k.fr.toNat) 0
def mnU (ks : List Lk) (n : Nat) : Nat := (ks.take n).foldl (fun a k => min a k.un.toNat) 100000
theorem mxF_zero (ks : List Lk) : mxF ks 0 = 0 := by simp [mxF]
theorem mnU_zero (ks : List Lk) : mnU ks 0 = 100000 := by simp [mnU]
theorem mxF_succ {ks : List Lk} {n : Nat} (h : n < ks.length) : mxF ks (n + 1) = max (mxF ks n) ks[n].fr.toNat := by
  unfold mxF
  rw [List.take_succ_eq_append_getElem h, List.foldl_append]
  rfl
theorem mnU_succ {ks : List Lk} {n : Nat} (h : n < ks.length) : mnU ks (n + 1) = min (mnU ks n) ks[n].un.toNat := by
  unfold mnU
  rw [List.take_succ_eq_append_getElem h, List.foldl_append]
  rfl
theorem win_le {ks : List Lk} (hg : ∀ k ∈ ks, k.good = true) : ∀ n, n ≤ ks.length → mxF ks n ≤ 100000 ∧ mnU ks n ≤ 100000
  | 0, _ => by rw [mxF_zero, mnU_zero]; omega
  | n + 1, h => by
    obtain ⟨h1, h2⟩ := win_le hg n (by omega)
    obtain ⟨_, _, _, b4, b5, _⟩ := (Lk.good_iff _).1 (hg _ (List.getElem_mem (show n < ks.length by omega)))
    rw [mxF_succ (by omega), mnU_succ (by omega)]
    omega
theorem win_in {ks : List Lk} (hg : ∀ k ∈ ks, k.good = true) {nw : Nat} (h : nw ≤ 100000) : ∀ n, n ≤ ks.length → inTo ks nw n = decide (mxF ks n ≤ nw ∧ nw ≤ mnU ks n)
  | 0, _ => by rw [inTo_zero, mxF_zero, mnU_zero]; simp; omega
  | n + 1, hn => by
    have ih := win_in hg h n (by omega)
    obtain ⟨_, _, _, b4, b5, _⟩ := (Lk.good_iff _).1 (hg _ (List.getElem_mem (show n < ks.length by omega)))
    rw [inTo_succ (by omega), ih, mxF_succ (by omega), mnU_succ (by omega)]
    unfold tmIn
    rw [← Bool.decide_and, decide_eq_decide]
    omega

end Go.Proofs.Ytnbojbcljfiamaa

namespace Go.Proofs.Ytnbojbcljfiamaa

/-! The order of bytes. -/
theorem blo_irrefl : ∀ a : List UInt8, Op.bytesLess a a = false
  | [] => rfl
  | x :: a => by
    unfold Op.bytesLess
    simp [blo_irrefl a]
theorem blo_trans : ∀ a b c : List UInt8, Op.bytesLess a b = true → Op.bytesLess b c = true → Op.bytesLess a c = true
  | _, _, [], _, h2 => by simp [Op.bytesLess] at h2
  | _, [], _ :: _, h1, _ => by simp [Op.bytesLess] at h1
  | [], _ :: _, _ :: _, _, _ => rfl
  | x :: a, y :: b, z :: c, h1, h2 => by
    unfold Op.bytesLess at h1 h2 ⊢
    simp only [Bool.or_eq_true, decide_eq_true_eq, Bool.and_eq_true, beq_iff_eq] at h1 h2 ⊢
    rcases h1 with h1 | ⟨rfl, h1⟩
    · rcases h2 with h2 | ⟨rfl, h2⟩
      · exact .inl (UInt8.lt_trans h1 h2)
      · exact .inl h1
    · rcases h2 with h2 | ⟨rfl, h2⟩
      · exact .inl h2
      · exact .inr ⟨rfl, blo_trans a b c h1 h2⟩
theorem blo_total : ∀ a b : List UInt8, Op.bytesLess a b = false → Op.bytesLess b a = false → a = b
  | [], [], _, _ => rfl
  | [], _ :: _, h, _ => by simp [Op.bytesLess] at h
  | _ :: _, [], _, h => by simp [Op.bytesLess] at h
  | x :: a, y :: b, h1, h2 => by
    unfold Op.bytesLess at h1 h2
    simp only [Bool.or_eq_false_iff, decide_eq_false_iff_not, Bool.and_eq_false_iff, beq_eq_false_iff_ne] at h1 h2
    have e : x = y := UInt8.le_antisymm (UInt8.not_lt.1 h2.1) (UInt8.not_lt.1 h1.1)
    subst e
    have h3 : Op.bytesLess a b = false := by
      rcases h1.2 with h | h
      · exact absurd rfl h
      · exact h
    have h4 : Op.bytesLess b a = false := by
      rcases h2.2 with h | h
      · exact absurd rfl h
      · exact h
    rw [blo_total a b h3 h4]
theorem blo_asym {a b : List UInt8} (h : Op.bytesLess a b = true) : Op.bytesLess b a = false := by
  cases h2 : Op.bytesLess b a
  · rfl
  · have := blo_trans a b a h h2
    rw [blo_irrefl] at this
    cases this

/-- A work, and an issuer. -/
structure Wk where
  name : ByteArray
  live : Bool
  se : Int
structure Is where
  ws : List Wk
  nx : Int
  rv : List Int
  sg : List ByteArray
def Is.none : Is := ⟨[], 0, [], []⟩
def blt (a b : ByteArray) : Bool := Op.bytesLess a.toList b.toList
theorem ble_not (a b : ByteArray) : (Op.bytesLess a.toList b.toList || a.toList == b.toList) = !(blt b a) := by
  unfold blt
  cases h : Op.bytesLess b.toList a.toList
  · cases h2 : Op.bytesLess a.toList b.toList
    · have := blo_total _ _ h2 h
      rw [this]
      simp
    · rfl
  · have h2 := blo_asym h
    rw [h2]
    have : (a.toList == b.toList) = false := by
      rw [beq_eq_false_iff_ne]
      intro e
      rw [e, blo_irrefl] at h
      cases h
    rw [this]
    rfl

def wkOk (nx : Int) (x : Wk) : Bool := nmOk x.name && decide (0 ≤ x.se ∧ x.se < nx)
def upB (ws : List Wk) (i : Nat) : Bool := match i with
  | 0 => true
  | i + 1 => match ws[i]?, ws[i + 1]? with
    | some a, some b => blt a.name b.name
    | _, _ => true
theorem upB_succ {ws : List Wk} {i : Nat} (h : i + 1 < ws.length) : upB ws (i + 1) = blt ws[i].name ws[i + 1].name := by
  simp only [upB]
  rw [List.getElem?_eq_getElem h, List.getElem?_eq_getElem (by omega)]
def upW (ws : List Wk) : Bool := (List.range ws.length).all (upB ws)
def okW (nx : Int) (ws : List Wk) : Bool := ws.all (wkOk nx)
def hdB (s : Is) : Bool := decide (s.ws.length ≤ 20) && (decide (1 ≤ s.nx ∧ s.nx ≤ 100000) && decide (s.sg.length ≤ 200))
/-- An issuer is good. -/
def isB (s : Is) : Bool := hdB s && (upW s.ws && (okW s.nx s.ws && (upN s.rv && okN s.nx s.rv)))
theorem upW_no {ws : List Wk} {i : Nat} (h : i < ws.length) (hb : upB ws i = false) : upW ws = false :=
  List.all_eq_false.2 ⟨i, List.mem_range.2 h, by rw [hb]; simp⟩
theorem upW_yes {ws : List Wk} (h : ∀ i, i < ws.length → upB ws i = true) : upW ws = true :=
  List.all_eq_true.2 fun i hi => h i (List.mem_range.1 hi)
theorem okW_no {nx : Int} {ws : List Wk} {i : Nat} (h : i < ws.length) (hb : wkOk nx ws[i] = false) : okW nx ws = false :=
  List.all_eq_false.2 ⟨_, List.getElem_mem h, by rw [hb]; simp⟩
theorem okW_yes {nx : Int} {ws : List Wk} (h : ∀ i (hi : i < ws.length), wkOk nx ws[i] = true) : okW nx ws = true :=
  List.all_eq_true.2 fun x hx => by
    obtain ⟨i, hi, rfl⟩ := List.getElem_of_mem hx
    exact h i hi
theorem isB_parts {s : Is} (h : isB s = true) : hdB s = true ∧ upW s.ws = true ∧ okW s.nx s.ws = true ∧ upN s.rv = true ∧ okN s.nx s.rv = true := by
  unfold isB at h
  simpa [Bool.and_eq_true] using h
theorem isB_hd {s : Is} (h : isB s = true) : s.ws.length ≤ 20 ∧ 1 ≤ s.nx ∧ s.nx ≤ 100000 ∧ s.sg.length ≤ 200 := by
  have := (isB_parts h).1
  unfold hdB at this
  simp at this
  omega
theorem isB_no1 {s : Is} (h : hdB s = false) : isB s = false := by unfold isB; rw [h]; rfl
theorem isB_no2 {s : Is} (h : upW s.ws = false) : isB s = false := by unfold isB; rw [h]; simp
theorem isB_no3 {s : Is} (h : okW s.nx s.ws = false) : isB s = false := by unfold isB; rw [h]; simp
theorem isB_no4 {s : Is} (h : upN s.rv = false) : isB s = false := by unfold isB; rw [h]; simp
theorem isB_no5 {s : Is} (h : okN s.nx s.rv = false) : isB s = false := by unfold isB; rw [h]; simp
theorem isB_yes {s : Is} (h1 : hdB s = true) (h2 : upW s.ws = true) (h3 : okW s.nx s.ws = true) (h4 : upN s.rv = true) (h5 : okN s.nx s.rv = true) : isB s = true := by
  unfold isB; rw [h1, h2, h3, h4, h5]; rfl

/-- Where a work stands or would stand. -/
def atW : List Wk → ByteArray → Nat
  | [], _ => 0
  | x :: r, n => if blt x.name n = true then atW r n + 1 else 0
theorem atW_le : ∀ (ws : List Wk) (n : ByteArray), atW ws n ≤ ws.length
  | [], _ => Nat.le_refl _
  | x :: r, n => by
    have := atW_le r n
    unfold atW
    split <;> simp <;> omega
theorem atW_lt : ∀ {ws : List Wk} {n : ByteArray} {k : Nat} (h : k < ws.length), k < atW ws n → blt ws[k].name n = true
  | [], _, _, h, _ => by simp at h
  | x :: r, n, k, h, hk => by
    unfold atW at hk
    split at hk
    · rename_i hx
      cases k with
      | zero => exact hx
      | succ k => exact atW_lt (ws := r) (by simpa using h) (by omega)
    · omega
theorem atW_at : ∀ {ws : List Wk} {n : ByteArray} {k : Nat} (h : k < ws.length), k = atW ws n → blt ws[k].name n = false
  | [], _, _, h, _ => by simp at h
  | x :: r, n, k, h, hk => by
    unfold atW at hk
    split at hk
    · subst hk
      exact atW_at (ws := r) (by simpa using h) rfl
    · rename_i hx
      subst hk
      simpa using hx
def hasW (ws : List Wk) (n : ByteArray) : Bool := match ws[atW ws n]? with
  | some x => x.name.toList == n.toList
  | Option.none => false
def livW (ws : List Wk) (n : ByteArray) : Bool := match ws[atW ws n]? with
  | some x => (x.name.toList == n.toList) && x.live
  | Option.none => false
theorem hasW_at {ws : List Wk} {n : ByteArray} (h : atW ws n < ws.length) : hasW ws n = (ws[atW ws n].name.toList == n.toList) := by
  unfold hasW
  rw [List.getElem?_eq_getElem h]
theorem hasW_end {ws : List Wk} {n : ByteArray} (h : ¬ atW ws n < ws.length) : hasW ws n = false := by
  unfold hasW
  rw [List.getElem?_eq_none (by omega)]
theorem hasW_lt {ws : List Wk} {n : ByteArray} (h : hasW ws n = true) : atW ws n < ws.length := by
  rcases Nat.lt_or_ge (atW ws n) ws.length with h1 | h1
  · exact h1
  · rw [hasW_end (by omega)] at h
    cases h
theorem livW_at {ws : List Wk} {n : ByteArray} (h : atW ws n < ws.length) : livW ws n = (hasW ws n && ws[atW ws n].live) := by
  rw [hasW_at h]
  unfold livW
  rw [List.getElem?_eq_getElem h]
theorem livW_no {ws : List Wk} {n : ByteArray} (h : hasW ws n = false) : livW ws n = false := by
  rcases Nat.lt_or_ge (atW ws n) ws.length with h1 | h1
  · rw [livW_at h1, h]; rfl
  · unfold livW
    rw [List.getElem?_eq_none (by omega)]
theorem livW_has {ws : List Wk} {n : ByteArray} (h : livW ws n = true) : hasW ws n = true := by
  cases h1 : hasW ws n
  · rw [livW_no h1] at h; cases h
  · rfl
theorem hasW_name {ws : List Wk} {n : ByteArray} (h : hasW ws n = true) (h1 : atW ws n < ws.length) : ws[atW ws n].name = n := by
  rw [hasW_at h1] at h
  have := eq_of_beq h
  rw [toList_data, toList_data] at this
  exact bytes_same this
/-- What EnrolWork tells. -/
def enX (s : Is) (n : ByteArray) : Is × Int :=
  if (isB s && nmOk n) = false then (Is.none, 1)
  else if livW s.ws n = true then (s, 2)
  else if hasW s.ws n = true then (⟨s.ws.set (atW s.ws n) ⟨n, true, 0⟩, s.nx, s.rv, s.sg⟩, 0)
  else if s.ws.length = 20 then (s, 4)
  else (⟨s.ws.take (atW s.ws n) ++ ⟨n, true, 0⟩ :: s.ws.drop (atW s.ws n), s.nx, s.rv, s.sg⟩, 0)
def seSet (ws : List Wk) (a : Nat) (z : Int) : List Wk := match ws[a]? with
  | some x => ws.set a ⟨x.name, x.live, z⟩
  | Option.none => ws
def liSet (ws : List Wk) (a : Nat) (b : Bool) : List Wk := match ws[a]? with
  | some x => ws.set a ⟨x.name, b, x.se⟩
  | Option.none => ws
theorem seSet_at {ws : List Wk} {a : Nat} {z : Int} (h : a < ws.length) : seSet ws a z = ws.set a ⟨ws[a].name, ws[a].live, z⟩ := by
  unfold seSet
  rw [List.getElem?_eq_getElem h]
theorem liSet_at {ws : List Wk} {a : Nat} {b : Bool} (h : a < ws.length) : liSet ws a b = ws.set a ⟨ws[a].name, b, ws[a].se⟩ := by
  unfold liSet
  rw [List.getElem?_eq_getElem h]
/-- A token is signed and counted to a work. -/
def sgX (s : Is) (ks : List Lk) (who : ByteArray) : Is := ⟨seSet s.ws (atW s.ws who) s.nx, s.nx + 1, s.rv, s.sg ++ [tkT ks]⟩
def fullB (s : Is) : Bool := (s.nx == 100000) || decide (s.sg.length = 200)
/-- What RevokeWork tells. -/
def insN (zs : List Int) (z : Int) : List Int := zs.take (atN zs z) ++ z :: zs.drop (atN zs z)
def rvN (zs : List Int) (z : Int) : List Int := if (z != 0 && !(hasN zs z)) = true then insN zs z else zs
def rkX (s : Is) (n : ByteArray) : Is × Int × Int :=
  if (isB s && nmOk n) = false then (Is.none, 0, 1)
  else if livW s.ws n = false then (s, (s.rv.length : Int), 3)
  else match s.ws[atW s.ws n]? with
    | some x => (⟨liSet s.ws (atW s.ws n) false, s.nx, rvN s.rv x.se, s.sg⟩, ((rvN s.rv x.se).length : Int), 0)
    | Option.none => (s, 0, 0)
/-- What SerialsOf tells. -/
def seX (s : Is) (n : ByteArray) : Int × Bool :=
  if isB s = false then (0, false)
  else match s.ws[atW s.ws n]? with
    | some x => if hasW s.ws n = true then (x.se, true) else (0, false)
    | Option.none => (0, false)

end Go.Proofs.Ytnbojbcljfiamaa

namespace Go.Proofs.Ytnbojbcljfiamaa
open Go.RowKit Go.Shelf

abbrev Wk.val (k : Wk) : Value := .agg #[.string k.name, .bool k.live, .int .i64 k.se]
def Wk.fits (k : Wk) : Prop := k.name.size ≤ maxLen
/-- A work lies in memory. -/
def WkAt (w : World) (b o : Nat) (k : Wk) : Prop := w.cell? ⟨b, o, none⟩ = some (.string k.name) ∧ w.cell? ⟨b, o + 1, none⟩ = some (.bool k.live) ∧ w.cell? ⟨b, o + 2, none⟩ = some (.int .i64 k.se)
/-- A slice reads as this list of works. -/
def WkS (w : World) (v : Value) (ks : List Wk) : Prop :=
  (∃ a cap, v = .slice a 0 cap ∧ ks = []) ∨
  ∃ b off cap, v = .slice (some ⟨b, off, none⟩) ks.length cap ∧ b < w.heap.size ∧ ks.length ≤ cap ∧ ∀ i (h : i < ks.length), WkAt w b (off + i * 3) ks[i]
theorem WkAt.below {w w' : World} {b o : Nat} {k : Wk} (h : WkAt w b o k) (hb : b < w.heap.size) (hB : Below w.heap.size w w') : WkAt w' b o k :=
  ⟨(hB.cell (p := ⟨b, o, none⟩) hb).trans h.1, (hB.cell (p := ⟨b, o + 1, none⟩) hb).trans h.2.1, (hB.cell (p := ⟨b, o + 2, none⟩) hb).trans h.2.2⟩
theorem WkS.below {w w' : World} {v : Value} {ks : List Wk} (h : WkS w v ks) (hB : Below w.heap.size w w') : WkS w' v ks := by
  rcases h with h | ⟨b, off, cap, hv, hb, hl, hc⟩
  · exact .inl h
  · exact .inr ⟨b, off, cap, hv, Nat.lt_of_lt_of_le hb hB.size, hl, fun k hk => (hc k hk).below hb hB⟩
theorem WkS.len {w : World} {v : Value} {ks : List Wk} (h : WkS w v ks) : ∃ a cap, v = .slice a ks.length cap := by
  rcases h with ⟨a, cap, hv, rfl⟩ | ⟨b, off, cap, hv, _⟩
  · exact ⟨a, cap, hv⟩
  · exact ⟨_, cap, hv⟩
theorem WkS.at {w : World} {a : Option Addr} {n cap : Nat} {ks : List Wk} (h : WkS w (.slice a n cap) ks) {i : Nat} (hi : i < ks.length) : ∃ b off, a = some ⟨b, off, none⟩ ∧ b < w.heap.size ∧ n ≤ cap ∧ WkAt w b (off + i * 3) ks[i] := by
  rcases h with ⟨_, _, _, rfl⟩ | ⟨b, off, cap, hv, hb, hl, hc⟩
  · simp at hi
  · cases hv
    exact ⟨b, off, rfl, hb, hl, hc i hi⟩

set_option maxRecDepth 100000 in
theorem cellsWork : Try.prog.cellsOf 140 = 3 := by kernel_rfl
set_option maxRecDepth 100000 in
open Go.Deep Go.ChangeShapes Go.WideShapes Go.Joins in
/-- A list of works that comes in. -/
theorem openWkR {H : Type} {enc : TypeId × Value → H} {W : World} {c0 : Value} {d : DataW H × List MemPlace} {fuel : Nat} (hf : DataW.trod enc Try.prog W 0 (fun _ => true) true fuel 36 [c0] = some d) :
    ∃ (a : Option Addr) (n c : Nat) (ks : List Wk), c0 = .slice a n c ∧ WkS W (.slice a n c) ks ∧ ks.length = n ∧ n ≤ maxLen ∧ ∀ k ∈ ks, k.fits := by
  rcases open_slice Try.underlying36 hf with ⟨hcs, _⟩ | ⟨x, n, c, m, k, D, Pl, hcs, _, hl, hm, hmm, _, hx⟩
  · simp at hcs
    subst hcs
    exact ⟨_, _, _, [], rfl, .inl ⟨_, _, rfl, rfl⟩, rfl, Nat.zero_le _, fun r hr => by cases hr⟩
  · simp at hcs
    subst hcs
    have hlm : n ≤ m := by rw [hmm]; simpa using hl
    have each : ∀ i, i < n → ∃ r : Wk, (W.cell? (x.add (i * 3)) = some (.string r.name) ∧ W.cell? (x.add (i * 3 + 1)) = some (.bool r.live) ∧ W.cell? (x.add (i * 3 + 2)) = some (.int .i64 r.se)) ∧ r.fits := by
      intro i hi
      obtain ⟨cs', h1, h2⟩ := hx i (by omega)
      rw [cellsWork] at h1
      obtain ⟨_, hlen, hcell⟩ := World.cells?_some h1
      obtain ⟨xs, m', _, _, _, hxl, hfl⟩ := DataW.trod_struct Try.underlying140 h2
      match cs', hlen, xs, hxl with
      | [v0, v1, v2], _, [y0, y1, y2], _ =>
        have g0 := hfl 0 _ rfl
        have g1 := hfl 1 _ rfl
        have g2 := hfl 2 _ rfl
        have e0 := hcell 0 (by omega)
        have e1 := hcell 1 (by omega)
        have e2 := hcell 2 (by omega)
        rw [add_add] at e0 e1 e2
        have c1 : Try.prog.cellsOf 3 = 1 := by kernel_rfl
        have c2 : Try.prog.cellsOf 9 = 1 := by kernel_rfl
        have c3 : Try.prog.cellsOf 4 = 1 := by kernel_rfl
        simp [c1, c2, c3] at g0 g1 g2
        obtain ⟨x0, f0, _, w0⟩ := DataW.trod_string Try.underlying9 g0
        obtain ⟨x1, f1, _⟩ := DataW.trod_bool Try.underlying4 g1
        obtain ⟨x2, f2, _, _⟩ := DataW.trod_int Try.underlying3 g2
        simp at f0 f1 f2
        subst f0 f1 f2
        exact ⟨⟨x0, x1, x2⟩, ⟨by simpa using e0, by simpa using e1, by simpa using e2⟩, w0⟩
    have hin : Inhabited Wk := ⟨⟨ByteArray.empty, false, 0⟩⟩
    obtain ⟨q, hq⟩ := choose_lt each
    by_cases h0 : n = 0
    · subst h0
      exact ⟨_, _, _, [], rfl, .inl ⟨_, _, rfl, rfl⟩, rfl, Nat.zero_le _, fun r hr => by cases hr⟩
    · obtain ⟨b, off, spot⟩ := x
      have hs : spot = none := by simpa [Addr.add] using World.cell?_spot (hq 0 (by omega)).1.1
      subst hs
      have hlt : b < W.heap.size := by
        have := (hq 0 (by omega)).1.1
        rw [Addr.add_lit] at this
        by_cases hb : b < W.heap.size
        · exact hb
        · simp only [World.cell?] at this
          rw [Array.getElem?_eq_none (by omega)] at this
          cases this
      refine ⟨_, _, _, (List.range n).map q, rfl, .inr ⟨b, off, c, by simp, hlt, by simpa using hl, fun k hk => ?_⟩, by simp, by omega, ?_⟩
      · have hk' : k < n := by simpa using hk
        have := (hq k hk').1
        simp only [Addr.add_lit, ← Nat.add_assoc] at this
        simpa [WkAt] using this
      · intro r hr
        obtain ⟨i, hi, rfl⟩ := List.mem_map.1 hr
        exact (hq i (List.mem_range.1 hi)).2

/-- An issuer in memory: its lists read as these. -/
structure IsA (w : World) (v : Value) (s : Is) : Prop where
  mk ::
  parts : ∃ vw vr vs, v = .agg #[vw, .int .i64 s.nx, vr, vs] ∧ WkS w vw s.ws ∧ VS w vr (nums s.rv) ∧ VS w vs (strs s.sg)
theorem IsA.below {w w' : World} {v : Value} {s : Is} (h : IsA w v s) (hB : Below w.heap.size w w') : IsA w' v s := by
  obtain ⟨vw, vr, vs, rfl, h1, h2, h3⟩ := h.parts
  exact ⟨_, _, _, rfl, h1.below hB, h2.below hB, h3.below hB⟩
def Is.fits (s : Is) : Prop := s.ws.length ≤ maxLen ∧ (∀ k ∈ s.ws, k.fits) ∧ s.rv.length ≤ maxLen ∧ s.sg.length ≤ maxLen ∧ ∀ x ∈ s.sg, x.size ≤ maxLen

set_option maxRecDepth 100000 in
theorem cellsIssuer : Try.prog.cellsOf 38 = 4 := by kernel_rfl
set_option maxRecDepth 100000 in
open Go.Deep Go.ChangeShapes Go.WideShapes Go.ChangeAt Go.Joins in
/-- An issuer that comes in. -/
theorem openIs {H : Type} {enc : TypeId × Value → H} {W : World} {base : Nat} {v : Value} {d : DataW H} {p : List MemPlace} (hv : Value.okWide Try.prog W .any base 38 v) (h : DataW.Trod enc Try.prog W 0 (fun _ => true) true 38 v d p) :
    ∃ s : Is, IsA W v s ∧ s.fits := by
  obtain ⟨c0, c1, c2, c3, y0, y1, y2, y3, m, rfl, _, _, h0, h1, h2, h3⟩ := open_agg4 Try.underlying38 (by kernel_rfl) cellsIssuer hv h
  obtain ⟨a0, n0, k0, ws, rfl, r0, rfl, l0, f0⟩ := openWkR h0
  obtain ⟨x1, e1, _, _⟩ := DataW.trod_int Try.underlying3 h1
  obtain ⟨a2, n2, k2, rv, rfl, r2, rfl, l2⟩ := openInR h2
  obtain ⟨a3, n3, k3, sg, rfl, r3, rfl, l3, f3⟩ := openStR h3
  simp only [List.cons.injEq, and_true] at e1
  subst e1
  exact ⟨⟨ws, x1, rv, sg⟩, ⟨_, _, _, rfl, r0, r2, r3⟩, l0, f0, l2, l3, f3⟩

def wzTo (ks : List Wk) (n : Nat) : Nat := ((ks.take n).map (fun k => k.name.size)).sum
def wzAll (ks : List Wk) : Nat := ks.length + wzTo ks ks.length
theorem wzTo_zero (ks : List Wk) : wzTo ks 0 = 0 := by simp [wzTo]
theorem wzTo_succ {ks : List Wk} {n : Nat} (h : n < ks.length) : wzTo ks (n + 1) = wzTo ks n + ks[n].name.size := by
  unfold wzTo
  rw [List.take_succ_eq_append_getElem h, List.map_append, List.sum_append]
  simp
theorem wzTo_le (ks : List Wk) (n : Nat) : wzTo ks n ≤ wzTo ks ks.length := by
  unfold wzTo
  rw [List.take_length]
  conv => rhs; rw [← List.take_append_drop n ks, List.map_append, List.sum_append]
  omega
theorem wz_mem {ks : List Wk} {k : Wk} (h : k ∈ ks) : k.name.size ≤ wzTo ks ks.length := by
  unfold wzTo
  rw [List.take_length]
  exact sum_mem (List.mem_map.2 ⟨k, h, rfl⟩)
def leftW (n : Int) (ks : List Wk) : Int := if (wzAll ks : Int) ≤ n then n - wzAll ks else -1
/-- What the laws count of an issuer. -/
def Is.size (s : Is) : Nat := wzAll s.ws + s.rv.length + tzAll s.sg
def leftI (n : Int) (s : Is) : Int := if (s.size : Int) ≤ n then n - s.size else -1

set_option maxHeartbeats 1000000 in
theorem szWork_any (k : Wk) (n : Int) (w : World) (h0 : 0 ≤ n) (h1 : n ≤ 1048576) (ha : k.name.size ≤ maxLen) :
    Calls Try.prog 81 #[k.val, .int .i64 n] w fun e w' => e = .returned (.int .i64 (left1 n k.name.size)) ∧ Below w.heap.size w w' := by
  unfold maxLen at ha
  by_cases c1 : n < k.name.size
  · have HR := hid (show left1 n k.name.size = -1 from if_neg (by omega))
    go_enter Try.func81, Try.ntmps81
    go_wp2
    go_ret
    exact ⟨ret_int HR.out.symm, (Below.refl _ w).alloc (Nat.le_refl _) _⟩
  · have HR := hid (show left1 n k.name.size = n - k.name.size from if_pos (by omega))
    go_enter Try.func81, Try.ntmps81
    go_wp2
    go_ret
    exact ⟨ret_int HR.out.symm, (Below.refl _ w).alloc (Nat.le_refl _) _⟩

set_option maxHeartbeats 1000000 in
theorem szWorkS_any (v : Value) (rs : List Wk) (n : Int) (w : World) (h0 : 0 ≤ n) (h1 : n ≤ 1048576) (hm : rs.length ≤ maxLen) (hf : ∀ r ∈ rs, r.fits) (hr : WkS w v rs) :
    Calls Try.prog 63 #[v, .int .i64 n] w fun e w' => e = .returned (.int .i64 (leftW n rs)) ∧ Below w.heap.size w w' := by
  obtain ⟨a, cap, rfl⟩ := hr.len
  unfold maxLen at hm
  by_cases c0 : n < rs.length
  · have HR := hid (show leftW n rs = -1 from if_neg (by unfold wzAll; omega))
    go_enter Try.func63, Try.ntmps63
    go_wp2
    go_ret
    exact ⟨ret_int HR.out.symm, Below.refl _ _⟩
  · have d0 : decide (n - (rs.length : Int) < 0) = false := by simp; omega
    go_enter Try.func63, Try.ntmps63
    go_wp2
    go_loopw [1, 5] (fun m i wr => ∃ k : Nat, k ≤ rs.length ∧ i = .int .i64 k ∧ m = .int .i64 (n - rs.length - wzTo rs k) ∧ 0 ≤ n - rs.length - wzTo rs k ∧ Below w.heap.size w wr) (fun _ i _ => rs.length - (intOf i).toNat)
    case atStart => exact ⟨0, Nat.zero_le _, rfl, by rw [wzTo_zero]; go_num, by rw [wzTo_zero]; omega, Below.refl _ _⟩
    case round =>
      obtain ⟨k, hk, rfl, rfl, hp, hB⟩ := hrel
      by_cases hlt : k < rs.length
      · obtain ⟨b, off, rfl, hb, hcap, q0, q1, q2⟩ := (hr.below hB).at hlt
        have f1 := hf rs[k] (List.getElem_mem hlt)
        have HS := hid (wzTo_succ hlt)
        have HT := hid (wzTo_le rs (k + 1))
        generalize rs[k] = r at *
        go_wp2_with fail
        refine (szWork_any r _ _ hp (by omega) f1).mono ?_
        rintro e w1 ⟨rfl, hB1⟩
        have hB2 := below_one hB hB1
        by_cases c1 : (r.name.size : Int) ≤ n - rs.length - wzTo rs k
        · have hv : left1 (n - rs.length - wzTo rs k) r.name.size = n - rs.length - wzTo rs (k + 1) := by
            rw [HS.out]
            unfold left1
            rw [if_pos (by omega)]
            omega
          have hq : 0 ≤ n - rs.length - wzTo rs (k + 1) := by rw [HS.out]; omega
          rw [hv]
          have d1 : decide (n - (rs.length : Int) - (wzTo rs (k + 1) : Int) < 0) = false := by simp; omega
          clear hv hB1 q0 q1 q2
          go_wp2_with fail
          go_roundw
          case rel => exact ⟨k + 1, by omega, by go_num, rfl, hq, hB2⟩
          case measure => simp [intOf]; omega
        · have hv : left1 (n - rs.length - wzTo rs k) r.name.size = -1 := if_neg (by omega)
          have HR := hid (show leftW n rs = -1 from if_neg (by have := HT.out; rw [HS.out] at this; unfold wzAll; omega))
          rw [hv]
          clear hv hB1 q0 q1 q2
          go_wp2_with fail
          go_ret
          exact ⟨ret_int HR.out.symm, hB2⟩
      · obtain rfl : k = rs.length := by omega
        have HR := hid (show leftW n rs = n - rs.length - wzTo rs rs.length by unfold leftW wzAll; rw [if_pos (by omega)]; omega)
        go_wp2
        go_ret
        exact ⟨ret_int HR.out.symm, hB⟩

abbrev Wk.cells (k : Wk) : List Value := [.string k.name, .bool k.live, .int .i64 k.se]
theorem wflat_len (ks : List Wk) : (ks.flatMap Wk.cells).length = ks.length * 3 := by
  induction ks with
  | nil => rfl
  | cons r rs ih => rw [List.flatMap_cons, List.length_append, ih]; simp; omega
theorem wflat_at (rs : List Wk) : ∀ (k j : Nat) (h : k < rs.length), j < 3 → (rs.flatMap Wk.cells)[k * 3 + j]? = rs[k].cells[j]? := by
  induction rs with
  | nil => intro k j h; simp at h
  | cons r rs ih =>
    intro k j h hj
    rw [List.flatMap_cons]
    cases k with
    | zero => rw [List.getElem?_append_left (by simp; omega)]; simp
    | succ k =>
      rw [List.getElem?_append_right (by simp; omega)]
      have := ih k j (by simpa using h) hj
      rw [show (k + 1) * 3 + j - r.cells.length = k * 3 + j by simp; omega]
      simpa using this
/-- A slice of works of one's own reads as its list. -/
theorem WkS.own {w : World} {base : Nat} {v : Value} {rs : List Wk} (h : w.ownsRow base 129 3 v rs.length (rs.flatMap Wk.cells)) : WkS w v rs := by
  rcases h.2 with ⟨rfl, h0⟩ | ⟨g, cap, cur, rfl, hg, hb, hle, _⟩
  · exact .inl ⟨none, 0, rfl, List.eq_nil_of_length_eq_zero h0⟩
  · refine .inr ⟨g, 0, cap, rfl, (Array.getElem?_eq_some_iff.1 hb).1, hle, fun k hk => ?_⟩
    have hc : ∀ j, j < 3 → w.cell? ⟨g, k * 3 + j, none⟩ = rs[k].cells[j]? := fun j hj => by rw [h.cellAt (k * 3 + j) (by omega), wflat_at rs k j hk hj]
    have h0 := hc 0 (by omega)
    have h1 := hc 1 (by omega)
    have h2 := hc 2 (by omega)
    simp only [Nat.add_zero, List.getElem?_cons_zero, List.getElem?_cons_succ] at h0 h1 h2
    exact ⟨by rw [Nat.zero_add]; exact h0, by rw [Nat.zero_add]; exact h1, by rw [Nat.zero_add]; exact h2⟩
theorem infoWork : (Try.prog.info? 129).map (fun i => (i.zero, i.size, i.bytes)) = some (some (.agg #[.string ByteArray.empty, .bool false, .int .i64 0]), 3, 32) := by kernel_rfl

set_option maxHeartbeats 1000000 in
theorem toWork_any (k : Wk) (w : World) :
    Calls Try.prog 87 #[k.val] w fun e w' => e = .returned k.val ∧ Below w.heap.size w w' := by
  go_enter Try.func87, Try.ntmps87
  go_wp2
  exact bodyPost_ret (v := k.val) (by simp [results, Try.results87, go_sem]) rfl ⟨rfl, (((Below.refl _ w).alloc (Nat.le_refl _) _).alloc (by simp) _).alloc (by simp; omega) _⟩

set_option maxHeartbeats 2000000 in
theorem toWorkS_any (v : Value) (rs : List Wk) (w : World) (hm : rs.length ≤ 1048576) (hr : WkS w v rs) :
    Calls Try.prog 69 #[v] w fun e w' => ∃ v', e = .returned v' ∧ w'.ownsRow w.heap.size 129 3 v' rs.length (rs.flatMap Wk.cells) ∧ Below w.heap.size w w' := by
  obtain ⟨a, cap, rfl⟩ := hr.len
  obtain ⟨i0, hi, hz0, hz1, hz2⟩ := info_parts infoWork
  go_enter Try.func69, Try.ntmps69
  go_wp2_with (at_make; refine wpList_make_full _ rfl _ _ 22 rfl w.heap.size 129 i0 _ 3 Try.underlying22 hi hz0 hz1 _ _ _ _ rs.length rfl rfl rfl rfl (by rw [hz2]; omega) (by unfold maxLen; omega) (Nat.le_refl _) ?_; intro w1 hown hgrow)
  have hB1 : Below w.heap.size w w1 := (Below.refl _ w).grown hgrow (Nat.le_refl _) (fun k e => by cases e)
  go_loopw [4] (fun i wr => ∃ k : Nat, k ≤ rs.length ∧ i = .int .i64 k ∧ ∃ xs, wr.ownsRow w.heap.size 129 3 (.slice (some ⟨w.heap.size, 0, none⟩) rs.length rs.length) rs.length xs ∧ xs.take (k * 3) = (rs.take k).flatMap Wk.cells ∧ Below w.heap.size w wr) (fun i _ => rs.length - (intOf i).toNat)
  case atStart => exact ⟨0, Nat.zero_le _, rfl, _, hown, by simp, hB1⟩
  case round =>
    obtain ⟨k, hk, rfl, xs, hrow, hx, hB⟩ := hrel
    have HX := hid hx
    clear hx
    by_cases hlt : k < rs.length
    · obtain ⟨b, off, rfl, hb, hcap, q0, q1, q2⟩ := (hr.below hB).at hlt
      have HT := hid (List.take_succ_eq_append_getElem hlt)
      generalize rs[k] = r at *
      go_wp2_with fail
      refine (toWork_any r _).mono ?_
      rintro e w2 ⟨rfl, hB2⟩
      have hrow2 := ownsRow_below hrow hB2
      have hB3 := below_one hB hB2
      have hlen : xs.length = rs.length * 3 := hrow2.1
      have s0 := hrow2.cellAt (k * 3) (by omega)
      have s1 := hrow2.cellAt (k * 3 + 1) (by omega)
      have s2 := hrow2.cellAt (k * 3 + 2) (by omega)
      rw [List.getElem?_eq_getElem (by omega)] at s0 s1 s2
      have t0 := hrow2.frozenAt (k * 3)
      have t1 := hrow2.frozenAt (k * 3 + 1)
      have t2 := hrow2.frozenAt (k * 3 + 2)
      generalize xs[k * 3] = y0 at *
      generalize xs[k * 3 + 1] = y1 at *
      generalize xs[k * 3 + 2] = y2 at *
      clear q0 q1 q2 hB2
      go_wp2_with fail
      go_roundw
      case rel =>
        refine ⟨k + 1, by omega, by go_num, _, ((hrow2.stored (k * 3) (.string r.name)).1.stored (k * 3 + 1) (.bool r.live)).1.stored (k * 3 + 2) (.int .i64 r.se) |>.1, ?_, ((hB3.setCell (p := ⟨w.heap.size, _, none⟩) (Nat.le_refl _) _).setCell (p := ⟨w.heap.size, _, none⟩) (Nat.le_refl _) _).setCell (p := ⟨w.heap.size, _, none⟩) (Nat.le_refl _) _⟩
        rw [take_set3 _ _ _ _ _ (by omega), HX.out, HT.out, List.flatMap_append]
        simp
      case measure => simp [intOf]; omega
    · obtain rfl : k = rs.length := by omega
      have HF := hid (show xs = rs.flatMap Wk.cells by have := HX.out; rw [List.take_of_length_le (by have := hrow.1; omega), List.take_length] at this; exact this)
      go_wp2
      go_ret
      exact ⟨_, rfl, by rw [← HF.out]; exact hrow, hB⟩

end Go.Proofs.Ytnbojbcljfiamaa
