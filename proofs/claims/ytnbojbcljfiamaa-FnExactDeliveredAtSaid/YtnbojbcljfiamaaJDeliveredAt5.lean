/-
  Proved: at every argument DeliveredAt answers as the specification, changes nothing, and its answer owns its memory.
-/
import Derived.Test.YtnbojbcljfiamaaJDeliveredAt1
import Derived.Test.YtnbojbcljfiamaaJDeliveredAt4
import Derived.Deep.RegionHeld3
import Derived.Laws.AppendOwn
import Derived.Laws.AppendOwnNone
import Derived.WalkKit
import Derived.Test.YtnbojbcljfiamaaJDeliveredAt0
import Derived.ProofKit
import Derived.Shelf.SlicesE.Clone
import Derived.Maps.AppendAt
import Derived.Test.YtnbojbcljfiamaaRows
import Derived.OpenShut
import Derived.ShutString
import Derived.ChangeOld
import Derived.Below
import Derived.Lib.SmallJoins
import Derived.Deep.Slices
namespace Go.Proofs.Ytnbojbcljfiamaa
open Go.RowKit Go.Shelf

def Ak.many (a : Ak) : Nat := 5 * a.tk.length + 2
def Sc.many (c : Sc) : Nat := 3 + 4 * c.sd.fo.pol.length + c.sd.fo.rv.length + 4 * c.sd.ru.length + c.sd.ha.length + c.sd.se.length + gzTo Ak.many c.qu c.qu.length + 3 * c.lg.length
theorem tyLA : (75 : TypeId) ≠ 65 := by decide

set_option maxHeartbeats 16000000 in
set_option maxRecDepth 100000 in
theorem markAskS_to (v : Value) (xs : List Ak) (k base top : Nat) (w : World) (hs : gShort Ak.short xs) (hk : k + gzTo Ak.many xs xs.length ≤ 8000000) (h : GsO 65 3 AkO w base top v xs) :
    Calls Try.prog 54 #[v, .int .i64 k] w fun e w' => e = .returned (.int .i64 ((k + gzTo Ak.many xs xs.length : Nat) : Int)) ∧ Mid base top w w' := by
  obtain ⟨ys0, cs, s, t, hK⟩ := h
  rcases row_form hK.row with ⟨rfl, h0⟩ | ⟨g, cap, rfl, _, _⟩
  · have : xs = [] := List.eq_nil_of_length_eq_zero h0
    subst this
    go_enter Try.func54, Try.ntmps54
    go_wp2
    refine wp_loop_rounds 1 ?_
    rw [rounds_succ]
    go_wp2
    go_ret
    exact ⟨by simp [gzTo], Mid.of_below (Below.refl _ _)⟩
  · have hn1 := hs.1
    go_enter Try.func54, Try.ntmps54
    go_wp2
    go_loopw [1, 5] (fun kv i wr => ∃ (j c : Nat), j ≤ xs.length ∧ c = k + gzTo Ak.many xs j ∧ kv = .int .i64 c ∧ i = .int .i64 j ∧ (∃ ys, GsR (fun i => j ≤ i) 65 3 AkO wr base top (.slice (some ⟨g, 0, none⟩) xs.length cap) xs.length xs ys cs s t) ∧ Mid base top w wr) (fun _ i _ => xs.length - (intOf i).toNat)
    case atStart => exact ⟨0, k, Nat.zero_le _, by rw [gzTo_zero]; rfl, rfl, rfl, ⟨ys0, hK.r.weaken (fun _ _ => trivial)⟩, Mid.of_below (Below.refl _ _)⟩
    case round =>
      obtain ⟨j, c, hj, hc, rfl, rfl, ⟨ys, hR⟩, MM⟩ := hrel
      have HC0 := hid hc
      by_cases hlt : j < xs.length
      · have HNX := hid (gzTo_succ (f := Ak.many) hlt)
        have HCB := hid (show c + Ak.many xs[j] ≤ 8000000 by have h1 := gzTo_le Ak.many xs (j + 1); rw [gzTo_succ hlt] at h1; omega)
        have HCS := hid (show Ak.many xs[j] = 5 * xs[j].tk.length + 2 from rfl)
        have hsr := hs.2 xs[j] (List.getElem_mem hlt)
        have hO := hR.own j hlt (Nat.le_refl _)
        have hc9 : c ≤ 8000000 := by have := HCB.out; omega
        clear hc hK
        generalize xs[j] = r at *
        have hl := hsr.1.1
        obtain ⟨px, pz, hcs, otk⟩ := hO
        have yc0 := hR.at hlt (Nat.le_refl _) (j := 0) (by rw [hcs]; rfl)
  
        replace hR := hR.weaken (Q := fun i => j < i) (fun i hi => Nat.le_of_lt hi)
        have hP : ∀ i, (fun i => j < i) i → i ≠ j := fun i hi => by dsimp only at hi; omega
        have hap := hR.apart j hlt g rfl
        have hlo := hR.lo j hlt
        have hhi := hR.hi j hlt
        have hgb := (hR.row.lt g rfl).1
        have hgt := hR.rlt g rfl
        clear hcs
        have q0 := (hR.cell hlt (j := 0) (by omega)).1.trans yc0
        rw [Nat.add_zero] at q0
        obtain ⟨u1, q1⟩ := hR.some hlt (j := 1) (by omega)
        obtain ⟨u2, q2⟩ := hR.some hlt (j := 2) (by omega)
        go_wp2_with fail
        clear q0 q1 q2
        refine (markLinkS_to _ r.tk.length c _ _ _ (by omega) (by have := HCB.out; have := HCS.out; omega) otk.1).mono ?_
        rintro e w1 ⟨rfl, oo, gg⟩
        have M1 : Mid (s j) (t j) wr w1 := Mid.of_grown gg (fun k hk => ⟨(otk.1.lt k hk).1, otk.2 k hk⟩)
        replace hR := hR.inn (fun _ _ _ _ _ _ _ M h ho => h.mid M ho) hlt hP M1 (by omega) (by omega)
        replace MM := MM.trans (M1.wide (by omega) (by omega))
        clear M1 gg oo
        clear otk
        clear yc0
        obtain ⟨c1, HC1⟩ : ∃ y : Nat, Hid (y = c + 5 * r.tk.length) := ⟨_, hid rfl⟩
        have hc1 : c1 ≤ 8000000 := by have := HC1.out; have := HCB.out; have := HCS.out; skip; omega
        rw [← HC1.out]
        obtain ⟨u0, q0⟩ := hR.some hlt (j := 0) (by omega)
        rw [Nat.add_zero] at q0
        obtain ⟨u1, q1⟩ := hR.some hlt (j := 1) (by omega)
        obtain ⟨u2, q2⟩ := hR.some hlt (j := 2) (by omega)
        go_wp2_with fail
        clear q0 q1 q2 
        refine (markText_at c1 _ _ rfl (by omega)).mono ?_
        rintro e w2 ⟨rfl, hB1⟩
        replace hR := hR.below (fun _ _ _ _ h => h.below hB1) hB1
        replace MM := MM.trans (Mid.of_below hB1)
        clear hB1
        obtain ⟨u0, q0⟩ := hR.some hlt (j := 0) (by omega)
        rw [Nat.add_zero] at q0
        obtain ⟨u1, q1⟩ := hR.some hlt (j := 1) (by omega)
        obtain ⟨u2, q2⟩ := hR.some hlt (j := 2) (by omega)
        have f1 := (hR.cell hlt (j := 1) (by omega)).2.1
        go_wp2_with fail
        clear q0 q1 q2 f1
        have M1 : Mid g (g + 1) w2 (w2.setCell ⟨g, j * 3 + 1, none⟩ (.string (mkT c1))) := (Mid.of_below (Below.refl _ _)).set (p := ⟨g, _, none⟩) (Nat.le_refl _) (Nat.lt_succ_self _) _
        replace hR := hR.store (fun _ _ _ _ _ _ _ M h ho => h.mid M ho) (j := j) (m := 1) hP (by omega) (.string (mkT c1))
        replace MM := MM.trans (M1.wide (by omega) (by omega))
        clear M1
        generalize w2.setCell ⟨g, j * 3 + 1, none⟩ (.string (mkT c1)) = W3 at *
        refine (markText_at (c1 + 1) _ _ (by push_cast; omega) (by omega)).mono ?_
        rintro e w4 ⟨rfl, hB1⟩
        replace hR := hR.below (fun _ _ _ _ h => h.below hB1) hB1
        replace MM := MM.trans (Mid.of_below hB1)
        clear hB1
        obtain ⟨u0, q0⟩ := hR.some hlt (j := 0) (by omega)
        rw [Nat.add_zero] at q0
        obtain ⟨u1, q1⟩ := hR.some hlt (j := 1) (by omega)
        obtain ⟨u2, q2⟩ := hR.some hlt (j := 2) (by omega)
        have f2 := (hR.cell hlt (j := 2) (by omega)).2.1
        go_wp2_with fail
        clear q0 q1 q2 f2
        have M1 : Mid g (g + 1) w4 (w4.setCell ⟨g, j * 3 + 2, none⟩ (.string (mkT (c1 + 1)))) := (Mid.of_below (Below.refl _ _)).set (p := ⟨g, _, none⟩) (Nat.le_refl _) (Nat.lt_succ_self _) _
        replace hR := hR.store (fun _ _ _ _ _ _ _ M h ho => h.mid M ho) (j := j) (m := 2) hP (by omega) (.string (mkT (c1 + 1)))
        replace MM := MM.trans (M1.wide (by omega) (by omega))
        clear M1
        generalize w4.setCell ⟨g, j * 3 + 2, none⟩ (.string (mkT (c1 + 1))) = W5 at *
        go_roundw
        case rel => exact ⟨j + 1, c1 + 2, by omega, by rw [HNX.out, HCS.out]; have := HC0.out; have := HC1.out; omega, by go_num, by go_num, ⟨_, hR.weaken (fun i hi => hi)⟩, MM⟩
        case measure => simp [intOf]; omega
      · obtain rfl : j = xs.length := by omega
        go_wp2
        go_ret
        exact ⟨ret_int (by rw [HC0.out]), MM⟩

set_option maxHeartbeats 16000000 in
set_option maxRecDepth 100000 in
theorem markSidecarS_to (v : Value) (xs : List Sc) (k base top : Nat) (w : World) (hs : gShort Sc.short xs) (hk : k + gzTo Sc.many xs xs.length ≤ 8000000) (h : GsO 93 10 ScO w base top v xs) :
    Calls Try.prog 24 #[v, .int .i64 k] w fun e w' => e = .returned (.int .i64 ((k + gzTo Sc.many xs xs.length : Nat) : Int)) ∧ Mid base top w w' := by
  obtain ⟨ys0, cs, s, t, hK⟩ := h
  rcases row_form hK.row with ⟨rfl, h0⟩ | ⟨g, cap, rfl, _, _⟩
  · have : xs = [] := List.eq_nil_of_length_eq_zero h0
    subst this
    go_enter Try.func24, Try.ntmps24
    go_wp2
    refine wp_loop_rounds 1 ?_
    rw [rounds_succ]
    go_wp2
    go_ret
    exact ⟨by simp [gzTo], Mid.of_below (Below.refl _ _)⟩
  · have hn1 := hs.1
    go_enter Try.func24, Try.ntmps24
    go_wp2
    go_loopw [1, 5] (fun kv i wr => ∃ (j c : Nat), j ≤ xs.length ∧ c = k + gzTo Sc.many xs j ∧ kv = .int .i64 c ∧ i = .int .i64 j ∧ (∃ ys, GsR (fun i => j ≤ i) 93 10 ScO wr base top (.slice (some ⟨g, 0, none⟩) xs.length cap) xs.length xs ys cs s t) ∧ Mid base top w wr) (fun _ i _ => xs.length - (intOf i).toNat)
    case atStart => exact ⟨0, k, Nat.zero_le _, by rw [gzTo_zero]; rfl, rfl, rfl, ⟨ys0, hK.r.weaken (fun _ _ => trivial)⟩, Mid.of_below (Below.refl _ _)⟩
    case round =>
      obtain ⟨j, c, hj, hc, rfl, rfl, ⟨ys, hR⟩, MM⟩ := hrel
      have HC0 := hid hc
      by_cases hlt : j < xs.length
      · have HNX := hid (gzTo_succ (f := Sc.many) hlt)
        have HCB := hid (show c + Sc.many xs[j] ≤ 8000000 by have h1 := gzTo_le Sc.many xs (j + 1); rw [gzTo_succ hlt] at h1; omega)
        have HCS := hid (show Sc.many xs[j] = 3 + 4 * xs[j].sd.fo.pol.length + xs[j].sd.fo.rv.length + 4 * xs[j].sd.ru.length + xs[j].sd.ha.length + xs[j].sd.se.length + gzTo Ak.many xs[j].qu xs[j].qu.length + 3 * xs[j].lg.length from rfl)
        have hsr := hs.2 xs[j] (List.getElem_mem hlt)
        have hO := hR.own j hlt (Nat.le_refl _)
        have hc9 : c ≤ 8000000 := by have := HCB.out; omega
        clear hc hK
        generalize xs[j] = r at *
        have hl0 := hsr.2.1.1.1
        have hl1 := hsr.2.1.1.2.1
        have hl2 := hsr.2.1.2.1
        have hl3 := hsr.2.1.2.2.1
        have hl4 := hsr.2.1.2.2.2.1
        have hqs := hsr.2.2.1
        have hl5 := hsr.2.2.2.1
        obtain ⟨p1a, p1b, p1c, p1d, p1e, p1f, p1g, p1h, p1i, p1j, p2x, p2z, p3x, p3z, m1, m2, hcs, g0, g1, g2, hSd, oqu, olg⟩ := hO
        obtain ⟨ma, vp, vr, vu, vh, vs, hse, b0, b1, ⟨vp', vr', hpe, o1, o2, t1, t2⟩, o3, o4, o5, t3, t4, t5⟩ := hSd
        cases hse
        cases hpe
        have yc2 := hR.at hlt (Nat.le_refl _) (j := 2) (by rw [hcs]; rfl)
        have yc3 := hR.at hlt (Nat.le_refl _) (j := 3) (by rw [hcs]; rfl)
        have yc5 := hR.at hlt (Nat.le_refl _) (j := 5) (by rw [hcs]; rfl)
        have yc6 := hR.at hlt (Nat.le_refl _) (j := 6) (by rw [hcs]; rfl)
        have yc7 := hR.at hlt (Nat.le_refl _) (j := 7) (by rw [hcs]; rfl)
        have yc8 := hR.at hlt (Nat.le_refl _) (j := 8) (by rw [hcs]; rfl)
        have yc9 := hR.at hlt (Nat.le_refl _) (j := 9) (by rw [hcs]; rfl)
        have opo : RoO 135 4 wr (s j) ma _ _ _ := ⟨o1, t1⟩
        have orv : RoO 3 1 wr (s j) ma _ _ _ := ⟨o2, t2⟩
        have oru : RoO 135 4 wr ma m1 _ _ _ := ⟨o3, t3⟩
        have oha : RoO 4 1 wr ma m1 _ _ _ := ⟨o4, t4⟩
        have ose : RoO 3 1 wr ma m1 _ _ _ := ⟨o5, t5⟩
        clear o1 o2 o3 o4 o5 t1 t2 t3 t4 t5
        replace hR := hR.weaken (Q := fun i => j < i) (fun i hi => Nat.le_of_lt hi)
        have hP : ∀ i, (fun i => j < i) i → i ≠ j := fun i hi => by dsimp only at hi; omega
        have hap := hR.apart j hlt g rfl
        have hlo := hR.lo j hlt
        have hhi := hR.hi j hlt
        have hgb := (hR.row.lt g rfl).1
        have hgt := hR.rlt g rfl
        clear hcs
        obtain ⟨u0, q0⟩ := hR.some hlt (j := 0) (by omega)
        rw [Nat.add_zero] at q0
        obtain ⟨u1, q1⟩ := hR.some hlt (j := 1) (by omega)
        have q2 := (hR.cell hlt (j := 2) (by omega)).1.trans yc2
        have q3 := (hR.cell hlt (j := 3) (by omega)).1.trans yc3
        obtain ⟨u4, q4⟩ := hR.some hlt (j := 4) (by omega)
        have q5 := (hR.cell hlt (j := 5) (by omega)).1.trans yc5
        have q6 := (hR.cell hlt (j := 6) (by omega)).1.trans yc6
        have q7 := (hR.cell hlt (j := 7) (by omega)).1.trans yc7
        have q8 := (hR.cell hlt (j := 8) (by omega)).1.trans yc8
        have q9 := (hR.cell hlt (j := 9) (by omega)).1.trans yc9
        go_wp2_with fail
        clear q0 q1 q2 q3 q4 q5 q6 q7 q8 q9
        refine (markText_at c _ _ rfl (by omega)).mono ?_
        rintro e w1 ⟨rfl, hB1⟩
        replace opo := opo.below hB1
        replace orv := orv.below hB1
        replace oru := oru.below hB1
        replace oha := oha.below hB1
        replace ose := ose.below hB1
        replace oqu := GsO.mid oqu (fun _ _ _ _ h _ => h.below hB1) (Mid.of_below (lo := 0) (hi := 0) hB1) (.inl (Nat.zero_le _))
        replace olg := olg.below hB1
        replace hR := hR.below (fun _ _ _ _ h => h.below hB1) hB1
        replace MM := MM.trans (Mid.of_below hB1)
        clear hB1
        obtain ⟨u0, q0⟩ := hR.some hlt (j := 0) (by omega)
        rw [Nat.add_zero] at q0
        obtain ⟨u1, q1⟩ := hR.some hlt (j := 1) (by omega)
        have q2 := (hR.cell hlt (j := 2) (by omega)).1.trans yc2
        have q3 := (hR.cell hlt (j := 3) (by omega)).1.trans yc3
        obtain ⟨u4, q4⟩ := hR.some hlt (j := 4) (by omega)
        have q5 := (hR.cell hlt (j := 5) (by omega)).1.trans yc5
        have q6 := (hR.cell hlt (j := 6) (by omega)).1.trans yc6
        have q7 := (hR.cell hlt (j := 7) (by omega)).1.trans yc7
        have q8 := (hR.cell hlt (j := 8) (by omega)).1.trans yc8
        have q9 := (hR.cell hlt (j := 9) (by omega)).1.trans yc9
        have f0 := (hR.cell hlt (j := 0) (by omega)).2.1
        rw [Nat.add_zero] at f0
        have f1 := (hR.cell hlt (j := 1) (by omega)).2.1
        go_wp2_with fail
        clear q0 q1 q2 q3 q4 q5 q6 q7 q8 q9 f0 f1
        replace yc2 := (List.getElem?_set_ne (a := (.string (mkT c))) (by omega : j * 10 + 0 ≠ j * 10 + 2)).trans yc2
        replace yc3 := (List.getElem?_set_ne (a := (.string (mkT c))) (by omega : j * 10 + 0 ≠ j * 10 + 3)).trans yc3
        replace yc5 := (List.getElem?_set_ne (a := (.string (mkT c))) (by omega : j * 10 + 0 ≠ j * 10 + 5)).trans yc5
        replace yc6 := (List.getElem?_set_ne (a := (.string (mkT c))) (by omega : j * 10 + 0 ≠ j * 10 + 6)).trans yc6
        replace yc7 := (List.getElem?_set_ne (a := (.string (mkT c))) (by omega : j * 10 + 0 ≠ j * 10 + 7)).trans yc7
        replace yc8 := (List.getElem?_set_ne (a := (.string (mkT c))) (by omega : j * 10 + 0 ≠ j * 10 + 8)).trans yc8
        replace yc9 := (List.getElem?_set_ne (a := (.string (mkT c))) (by omega : j * 10 + 0 ≠ j * 10 + 9)).trans yc9
        have M1 : Mid g (g + 1) w1 (w1.setCell ⟨g, j * 10 + 0, none⟩ (.string (mkT c))) := (Mid.of_below (Below.refl _ _)).set (p := ⟨g, _, none⟩) (Nat.le_refl _) (Nat.lt_succ_self _) _
        replace opo := opo.mid M1 (by omega)
        replace orv := orv.mid M1 (by omega)
        replace oru := oru.mid M1 (by omega)
        replace oha := oha.mid M1 (by omega)
        replace ose := ose.mid M1 (by omega)
        replace oqu := GsO.mid oqu (fun _ _ _ _ h ho => h.mid M1 ho) M1 (by omega)
        replace olg := olg.mid M1 (by omega)
        replace hR := hR.store (fun _ _ _ _ _ _ _ M h ho => h.mid M ho) (j := j) (m := 0) hP (by omega) (.string (mkT c))
        replace MM := MM.trans (M1.wide (by omega) (by omega))
        clear M1
        simp only [Nat.add_zero] at *
        generalize w1.setCell ⟨g, j * 10, none⟩ (.string (mkT c)) = W2 at *
        replace yc2 := (List.getElem?_set_ne (a := (.int .i64 ((c : Int) + 1))) (by omega : j * 10 + 1 ≠ j * 10 + 2)).trans yc2
        replace yc3 := (List.getElem?_set_ne (a := (.int .i64 ((c : Int) + 1))) (by omega : j * 10 + 1 ≠ j * 10 + 3)).trans yc3
        replace yc5 := (List.getElem?_set_ne (a := (.int .i64 ((c : Int) + 1))) (by omega : j * 10 + 1 ≠ j * 10 + 5)).trans yc5
        replace yc6 := (List.getElem?_set_ne (a := (.int .i64 ((c : Int) + 1))) (by omega : j * 10 + 1 ≠ j * 10 + 6)).trans yc6
        replace yc7 := (List.getElem?_set_ne (a := (.int .i64 ((c : Int) + 1))) (by omega : j * 10 + 1 ≠ j * 10 + 7)).trans yc7
        replace yc8 := (List.getElem?_set_ne (a := (.int .i64 ((c : Int) + 1))) (by omega : j * 10 + 1 ≠ j * 10 + 8)).trans yc8
        replace yc9 := (List.getElem?_set_ne (a := (.int .i64 ((c : Int) + 1))) (by omega : j * 10 + 1 ≠ j * 10 + 9)).trans yc9
        have M1 : Mid g (g + 1) W2 (W2.setCell ⟨g, j * 10 + 1, none⟩ (.int .i64 ((c : Int) + 1))) := (Mid.of_below (Below.refl _ _)).set (p := ⟨g, _, none⟩) (Nat.le_refl _) (Nat.lt_succ_self _) _
        replace opo := opo.mid M1 (by omega)
        replace orv := orv.mid M1 (by omega)
        replace oru := oru.mid M1 (by omega)
        replace oha := oha.mid M1 (by omega)
        replace ose := ose.mid M1 (by omega)
        replace oqu := GsO.mid oqu (fun _ _ _ _ h ho => h.mid M1 ho) M1 (by omega)
        replace olg := olg.mid M1 (by omega)
        replace hR := hR.store (fun _ _ _ _ _ _ _ M h ho => h.mid M ho) (j := j) (m := 1) hP (by omega) (.int .i64 ((c : Int) + 1))
        replace MM := MM.trans (M1.wide (by omega) (by omega))
        clear M1
        generalize W2.setCell ⟨g, j * 10 + 1, none⟩ (.int .i64 ((c : Int) + 1)) = W3 at *
        obtain ⟨c1, HC1⟩ : ∃ x : Nat, Hid (x = c + 2) := ⟨_, hid rfl⟩
        have hc1 : c1 ≤ 8000000 := by have := HCB.out; have := HCS.out; have := HC1.out; omega
        first | rw [show ((c : Int) + 1 + 1) = (c1 : Int) by rw [HC1.out]; push_cast; omega] | rw [show ((c : Int) + 2) = (c1 : Int) by rw [HC1.out]; push_cast; omega]
        refine (markRuleS_to _ r.sd.fo.pol.length c1 _ _ _ (by omega) (by have := HCB.out; have := HCS.out; have := HC1.out; omega) opo.1).mono ?_
        rintro e w4 ⟨rfl, oo, gg⟩
        have M1 : Mid (s j) (ma) W3 w4 := Mid.of_grown gg (fun k hk => ⟨(opo.1.lt k hk).1, opo.2 k hk⟩)
        replace orv := RoO.kept orv opo.1 (by decide) gg
        replace oru := oru.mid M1 (by omega)
        replace oha := oha.mid M1 (by omega)
        replace ose := ose.mid M1 (by omega)
        replace oqu := GsO.mid oqu (fun _ _ _ _ h ho => h.mid M1 ho) M1 (by omega)
        replace olg := olg.mid M1 (by omega)
        replace hR := hR.inn (fun _ _ _ _ _ _ _ M h ho => h.mid M ho) hlt hP M1 (by omega) (by omega)
        replace MM := MM.trans (M1.wide (by omega) (by omega))
        clear M1 gg oo
        clear opo
        clear yc2
        obtain ⟨c2, HC2⟩ : ∃ y : Nat, Hid (y = c1 + 4 * r.sd.fo.pol.length) := ⟨_, hid rfl⟩
        have hc2 : c2 ≤ 8000000 := by have := HC2.out; have := HCB.out; have := HCS.out; have := HC1.out; omega
        rw [← HC2.out]
        obtain ⟨u0, q0⟩ := hR.some hlt (j := 0) (by omega)
        rw [Nat.add_zero] at q0
        obtain ⟨u1, q1⟩ := hR.some hlt (j := 1) (by omega)
        obtain ⟨u2, q2⟩ := hR.some hlt (j := 2) (by omega)
        have q3 := (hR.cell hlt (j := 3) (by omega)).1.trans yc3
        obtain ⟨u4, q4⟩ := hR.some hlt (j := 4) (by omega)
        have q5 := (hR.cell hlt (j := 5) (by omega)).1.trans yc5
        have q6 := (hR.cell hlt (j := 6) (by omega)).1.trans yc6
        have q7 := (hR.cell hlt (j := 7) (by omega)).1.trans yc7
        have q8 := (hR.cell hlt (j := 8) (by omega)).1.trans yc8
        have q9 := (hR.cell hlt (j := 9) (by omega)).1.trans yc9
        go_wp2_with fail
        clear q0 q1 q2 q3 q4 q5 q6 q7 q8 q9 
        refine (markIntS_to _ r.sd.fo.rv.length c2 _ _ _ (by omega) (by have := HCB.out; have := HCS.out; have := HC1.out; have := HC2.out; omega) orv.1).mono ?_
        rintro e w5 ⟨rfl, oo, gg⟩
        have M1 : Mid (s j) (ma) w4 w5 := Mid.of_grown gg (fun k hk => ⟨(orv.1.lt k hk).1, orv.2 k hk⟩)
        replace oru := oru.mid M1 (by omega)
        replace oha := oha.mid M1 (by omega)
        replace ose := ose.mid M1 (by omega)
        replace oqu := GsO.mid oqu (fun _ _ _ _ h ho => h.mid M1 ho) M1 (by omega)
        replace olg := olg.mid M1 (by omega)
        replace hR := hR.inn (fun _ _ _ _ _ _ _ M h ho => h.mid M ho) hlt hP M1 (by omega) (by omega)
        replace MM := MM.trans (M1.wide (by omega) (by omega))
        clear M1 gg oo
        clear orv
        clear yc3
        obtain ⟨c3, HC3⟩ : ∃ y : Nat, Hid (y = c2 + r.sd.fo.rv.length) := ⟨_, hid rfl⟩
        have hc3 : c3 ≤ 8000000 := by have := HC3.out; have := HCB.out; have := HCS.out; have := HC1.out; have := HC2.out; omega
        rw [← HC3.out]
        obtain ⟨u0, q0⟩ := hR.some hlt (j := 0) (by omega)
        rw [Nat.add_zero] at q0
        obtain ⟨u1, q1⟩ := hR.some hlt (j := 1) (by omega)
        obtain ⟨u2, q2⟩ := hR.some hlt (j := 2) (by omega)
        obtain ⟨u3, q3⟩ := hR.some hlt (j := 3) (by omega)
        obtain ⟨u4, q4⟩ := hR.some hlt (j := 4) (by omega)
        have q5 := (hR.cell hlt (j := 5) (by omega)).1.trans yc5
        have q6 := (hR.cell hlt (j := 6) (by omega)).1.trans yc6
        have q7 := (hR.cell hlt (j := 7) (by omega)).1.trans yc7
        have q8 := (hR.cell hlt (j := 8) (by omega)).1.trans yc8
        have q9 := (hR.cell hlt (j := 9) (by omega)).1.trans yc9
        have f4 := (hR.cell hlt (j := 4) (by omega)).2.1
        go_wp2_with fail
        clear q0 q1 q2 q3 q4 q5 q6 q7 q8 q9 f4
        replace yc5 := (List.getElem?_set_ne (a := (.int .i64 ((c3 : Int)))) (by omega : j * 10 + 4 ≠ j * 10 + 5)).trans yc5
        replace yc6 := (List.getElem?_set_ne (a := (.int .i64 ((c3 : Int)))) (by omega : j * 10 + 4 ≠ j * 10 + 6)).trans yc6
        replace yc7 := (List.getElem?_set_ne (a := (.int .i64 ((c3 : Int)))) (by omega : j * 10 + 4 ≠ j * 10 + 7)).trans yc7
        replace yc8 := (List.getElem?_set_ne (a := (.int .i64 ((c3 : Int)))) (by omega : j * 10 + 4 ≠ j * 10 + 8)).trans yc8
        replace yc9 := (List.getElem?_set_ne (a := (.int .i64 ((c3 : Int)))) (by omega : j * 10 + 4 ≠ j * 10 + 9)).trans yc9
        have M1 : Mid g (g + 1) w5 (w5.setCell ⟨g, j * 10 + 4, none⟩ (.int .i64 ((c3 : Int)))) := (Mid.of_below (Below.refl _ _)).set (p := ⟨g, _, none⟩) (Nat.le_refl _) (Nat.lt_succ_self _) _
        replace oru := oru.mid M1 (by omega)
        replace oha := oha.mid M1 (by omega)
        replace ose := ose.mid M1 (by omega)
        replace oqu := GsO.mid oqu (fun _ _ _ _ h ho => h.mid M1 ho) M1 (by omega)
        replace olg := olg.mid M1 (by omega)
        replace hR := hR.store (fun _ _ _ _ _ _ _ M h ho => h.mid M ho) (j := j) (m := 4) hP (by omega) (.int .i64 ((c3 : Int)))
        replace MM := MM.trans (M1.wide (by omega) (by omega))
        clear M1
        generalize w5.setCell ⟨g, j * 10 + 4, none⟩ (.int .i64 ((c3 : Int))) = W6 at *
        obtain ⟨c4, HC4⟩ : ∃ x : Nat, Hid (x = c3 + 1) := ⟨_, hid rfl⟩
        have hc4 : c4 ≤ 8000000 := by have := HCB.out; have := HCS.out; have := HC1.out; have := HC2.out; have := HC3.out; have := HC4.out; omega
        first | rw [show ((c3 : Int) + 1) = (c4 : Int) by rw [HC4.out]; push_cast; omega] | rw [show ((c3 : Int) + 1) = (c4 : Int) by rw [HC4.out]; push_cast; omega]
        refine (markRuleS_to _ r.sd.ru.length c4 _ _ _ (by omega) (by have := HCB.out; have := HCS.out; have := HC1.out; have := HC2.out; have := HC3.out; have := HC4.out; omega) oru.1).mono ?_
        rintro e w7 ⟨rfl, oo, gg⟩
        have M1 : Mid (ma) (m1) W6 w7 := Mid.of_grown gg (fun k hk => ⟨(oru.1.lt k hk).1, oru.2 k hk⟩)
        replace oha := RoO.kept oha oru.1 (by decide) gg
        replace ose := RoO.kept ose oru.1 (by decide) gg
        replace oqu := GsO.mid oqu (fun _ _ _ _ h ho => h.mid M1 ho) M1 (by omega)
        replace olg := olg.mid M1 (by omega)
        replace hR := hR.inn (fun _ _ _ _ _ _ _ M h ho => h.mid M ho) hlt hP M1 (by omega) (by omega)
        replace MM := MM.trans (M1.wide (by omega) (by omega))
        clear M1 gg oo
        clear oru
        clear yc5
        obtain ⟨c5, HC5⟩ : ∃ y : Nat, Hid (y = c4 + 4 * r.sd.ru.length) := ⟨_, hid rfl⟩
        have hc5 : c5 ≤ 8000000 := by have := HC5.out; have := HCB.out; have := HCS.out; have := HC1.out; have := HC2.out; have := HC3.out; have := HC4.out; omega
        rw [← HC5.out]
        obtain ⟨u0, q0⟩ := hR.some hlt (j := 0) (by omega)
        rw [Nat.add_zero] at q0
        obtain ⟨u1, q1⟩ := hR.some hlt (j := 1) (by omega)
        obtain ⟨u2, q2⟩ := hR.some hlt (j := 2) (by omega)
        obtain ⟨u3, q3⟩ := hR.some hlt (j := 3) (by omega)
        obtain ⟨u4, q4⟩ := hR.some hlt (j := 4) (by omega)
        obtain ⟨u5, q5⟩ := hR.some hlt (j := 5) (by omega)
        have q6 := (hR.cell hlt (j := 6) (by omega)).1.trans yc6
        have q7 := (hR.cell hlt (j := 7) (by omega)).1.trans yc7
        have q8 := (hR.cell hlt (j := 8) (by omega)).1.trans yc8
        have q9 := (hR.cell hlt (j := 9) (by omega)).1.trans yc9
        go_wp2_with fail
        clear q0 q1 q2 q3 q4 q5 q6 q7 q8 q9 
        refine (markBoolS_to _ r.sd.ha.length c5 _ _ _ (by omega) (by have := HCB.out; have := HCS.out; have := HC1.out; have := HC2.out; have := HC3.out; have := HC4.out; have := HC5.out; omega) oha.1).mono ?_
        rintro e w8 ⟨rfl, oo, gg⟩
        have M1 : Mid (ma) (m1) w7 w8 := Mid.of_grown gg (fun k hk => ⟨(oha.1.lt k hk).1, oha.2 k hk⟩)
        replace ose := RoO.kept ose oha.1 (by decide) gg
        replace oqu := GsO.mid oqu (fun _ _ _ _ h ho => h.mid M1 ho) M1 (by omega)
        replace olg := olg.mid M1 (by omega)
        replace hR := hR.inn (fun _ _ _ _ _ _ _ M h ho => h.mid M ho) hlt hP M1 (by omega) (by omega)
        replace MM := MM.trans (M1.wide (by omega) (by omega))
        clear M1 gg oo
        clear oha
        clear yc6
        obtain ⟨c6, HC6⟩ : ∃ y : Nat, Hid (y = c5 + r.sd.ha.length) := ⟨_, hid rfl⟩
        have hc6 : c6 ≤ 8000000 := by have := HC6.out; have := HCB.out; have := HCS.out; have := HC1.out; have := HC2.out; have := HC3.out; have := HC4.out; have := HC5.out; omega
        rw [← HC6.out]
        obtain ⟨u0, q0⟩ := hR.some hlt (j := 0) (by omega)
        rw [Nat.add_zero] at q0
        obtain ⟨u1, q1⟩ := hR.some hlt (j := 1) (by omega)
        obtain ⟨u2, q2⟩ := hR.some hlt (j := 2) (by omega)
        obtain ⟨u3, q3⟩ := hR.some hlt (j := 3) (by omega)
        obtain ⟨u4, q4⟩ := hR.some hlt (j := 4) (by omega)
        obtain ⟨u5, q5⟩ := hR.some hlt (j := 5) (by omega)
        obtain ⟨u6, q6⟩ := hR.some hlt (j := 6) (by omega)
        have q7 := (hR.cell hlt (j := 7) (by omega)).1.trans yc7
        have q8 := (hR.cell hlt (j := 8) (by omega)).1.trans yc8
        have q9 := (hR.cell hlt (j := 9) (by omega)).1.trans yc9
        go_wp2_with fail
        clear q0 q1 q2 q3 q4 q5 q6 q7 q8 q9 
        refine (markIntS_to _ r.sd.se.length c6 _ _ _ (by omega) (by have := HCB.out; have := HCS.out; have := HC1.out; have := HC2.out; have := HC3.out; have := HC4.out; have := HC5.out; have := HC6.out; omega) ose.1).mono ?_
        rintro e w9 ⟨rfl, oo, gg⟩
        have M1 : Mid (ma) (m1) w8 w9 := Mid.of_grown gg (fun k hk => ⟨(ose.1.lt k hk).1, ose.2 k hk⟩)
        replace oqu := GsO.mid oqu (fun _ _ _ _ h ho => h.mid M1 ho) M1 (by omega)
        replace olg := olg.mid M1 (by omega)
        replace hR := hR.inn (fun _ _ _ _ _ _ _ M h ho => h.mid M ho) hlt hP M1 (by omega) (by omega)
        replace MM := MM.trans (M1.wide (by omega) (by omega))
        clear M1 gg oo
        clear ose
        clear yc7
        obtain ⟨c7, HC7⟩ : ∃ y : Nat, Hid (y = c6 + r.sd.se.length) := ⟨_, hid rfl⟩
        have hc7 : c7 ≤ 8000000 := by have := HC7.out; have := HCB.out; have := HCS.out; have := HC1.out; have := HC2.out; have := HC3.out; have := HC4.out; have := HC5.out; have := HC6.out; omega
        rw [← HC7.out]
        obtain ⟨u0, q0⟩ := hR.some hlt (j := 0) (by omega)
        rw [Nat.add_zero] at q0
        obtain ⟨u1, q1⟩ := hR.some hlt (j := 1) (by omega)
        obtain ⟨u2, q2⟩ := hR.some hlt (j := 2) (by omega)
        obtain ⟨u3, q3⟩ := hR.some hlt (j := 3) (by omega)
        obtain ⟨u4, q4⟩ := hR.some hlt (j := 4) (by omega)
        obtain ⟨u5, q5⟩ := hR.some hlt (j := 5) (by omega)
        obtain ⟨u6, q6⟩ := hR.some hlt (j := 6) (by omega)
        obtain ⟨u7, q7⟩ := hR.some hlt (j := 7) (by omega)
        have q8 := (hR.cell hlt (j := 8) (by omega)).1.trans yc8
        have q9 := (hR.cell hlt (j := 9) (by omega)).1.trans yc9
        go_wp2_with fail
        clear q0 q1 q2 q3 q4 q5 q6 q7 q8 q9 
        refine (markAskS_to _ r.qu c7 _ _ _ (by exact hqs) (by have := HCB.out; have := HCS.out; have := HC1.out; have := HC2.out; have := HC3.out; have := HC4.out; have := HC5.out; have := HC6.out; have := HC7.out; omega) oqu).mono ?_
        rintro e w10 ⟨rfl, M1⟩
        replace olg := olg.mid M1 (by omega)
        replace hR := hR.inn (fun _ _ _ _ _ _ _ M h ho => h.mid M ho) hlt hP M1 (by omega) (by omega)
        replace MM := MM.trans (M1.wide (by omega) (by omega))
        clear M1
        clear oqu
        clear yc8
        obtain ⟨c8, HC8⟩ : ∃ y : Nat, Hid (y = c7 + gzTo Ak.many r.qu r.qu.length) := ⟨_, hid rfl⟩
        have hc8 : c8 ≤ 8000000 := by have := HC8.out; have := HCB.out; have := HCS.out; have := HC1.out; have := HC2.out; have := HC3.out; have := HC4.out; have := HC5.out; have := HC6.out; have := HC7.out; omega
        rw [← HC8.out]
        obtain ⟨u0, q0⟩ := hR.some hlt (j := 0) (by omega)
        rw [Nat.add_zero] at q0
        obtain ⟨u1, q1⟩ := hR.some hlt (j := 1) (by omega)
        obtain ⟨u2, q2⟩ := hR.some hlt (j := 2) (by omega)
        obtain ⟨u3, q3⟩ := hR.some hlt (j := 3) (by omega)
        obtain ⟨u4, q4⟩ := hR.some hlt (j := 4) (by omega)
        obtain ⟨u5, q5⟩ := hR.some hlt (j := 5) (by omega)
        obtain ⟨u6, q6⟩ := hR.some hlt (j := 6) (by omega)
        obtain ⟨u7, q7⟩ := hR.some hlt (j := 7) (by omega)
        obtain ⟨u8, q8⟩ := hR.some hlt (j := 8) (by omega)
        have q9 := (hR.cell hlt (j := 9) (by omega)).1.trans yc9
        go_wp2_with fail
        clear q0 q1 q2 q3 q4 q5 q6 q7 q8 q9 
        refine (markRecordS_to _ r.lg.length c8 _ _ _ (by omega) (by have := HCB.out; have := HCS.out; have := HC1.out; have := HC2.out; have := HC3.out; have := HC4.out; have := HC5.out; have := HC6.out; have := HC7.out; have := HC8.out; omega) olg.1).mono ?_
        rintro e w11 ⟨rfl, oo, gg⟩
        have M1 : Mid (m2) (t j) w10 w11 := Mid.of_grown gg (fun k hk => ⟨(olg.1.lt k hk).1, olg.2 k hk⟩)
        replace hR := hR.inn (fun _ _ _ _ _ _ _ M h ho => h.mid M ho) hlt hP M1 (by omega) (by omega)
        replace MM := MM.trans (M1.wide (by omega) (by omega))
        clear M1 gg oo
        clear olg
        clear yc9
        obtain ⟨c9, HC9⟩ : ∃ y : Nat, Hid (y = c8 + 3 * r.lg.length) := ⟨_, hid rfl⟩
        have hc9 : c9 ≤ 8000000 := by have := HC9.out; have := HCB.out; have := HCS.out; have := HC1.out; have := HC2.out; have := HC3.out; have := HC4.out; have := HC5.out; have := HC6.out; have := HC7.out; have := HC8.out; omega
        rw [← HC9.out]
        obtain ⟨u0, q0⟩ := hR.some hlt (j := 0) (by omega)
        rw [Nat.add_zero] at q0
        obtain ⟨u1, q1⟩ := hR.some hlt (j := 1) (by omega)
        obtain ⟨u2, q2⟩ := hR.some hlt (j := 2) (by omega)
        obtain ⟨u3, q3⟩ := hR.some hlt (j := 3) (by omega)
        obtain ⟨u4, q4⟩ := hR.some hlt (j := 4) (by omega)
        obtain ⟨u5, q5⟩ := hR.some hlt (j := 5) (by omega)
        obtain ⟨u6, q6⟩ := hR.some hlt (j := 6) (by omega)
        obtain ⟨u7, q7⟩ := hR.some hlt (j := 7) (by omega)
        obtain ⟨u8, q8⟩ := hR.some hlt (j := 8) (by omega)
        obtain ⟨u9, q9⟩ := hR.some hlt (j := 9) (by omega)
        go_wp2_with fail
        clear q0 q1 q2 q3 q4 q5 q6 q7 q8 q9 
        go_roundw
        case rel => exact ⟨j + 1, c9, by omega, by rw [HNX.out, HCS.out]; have := HC0.out; have := HC1.out; have := HC2.out; have := HC3.out; have := HC4.out; have := HC5.out; have := HC6.out; have := HC7.out; have := HC8.out; have := HC9.out; omega, by go_num, by go_num, ⟨_, hR.weaken (fun i hi => hi)⟩, MM⟩
        case measure => simp [intOf]; omega
      · obtain rfl : j = xs.length := by omega
        go_wp2
        go_ret
        exact ⟨ret_int (by rw [HC0.out]), MM⟩

end Go.Proofs.Ytnbojbcljfiamaa

namespace Go.Proofs.Ytnbojbcljfiamaa
open Go.RowKit Go.Shelf

set_option maxHeartbeats 2000000 in
set_option maxRecDepth 100000 in
theorem heldLinkS_to (v : Value) (n k : Nat) (w : World) (hn : n ≤ 1048577) (hk : k + 5 * n ≤ 8000000) (hr : LkS w v (mkKs k n)) :
    Calls Try.prog 43 #[v, .int .i64 k] w fun e w' => e = .returned (.int .i64 ((k + 5 * n : Nat) : Int)) ∧ Below w.heap.size w w' := by
  obtain ⟨a, cap, rfl⟩ := hr.len
  have hln := mkKs_len k n
  rw [hln] at hr ⊢
  clear hln
  go_enter Try.func43, Try.ntmps43
  go_wp2
  go_loopw [1, 5] (fun kv i wr => ∃ (j c : Nat), j ≤ n ∧ c = k + 5 * j ∧ kv = .int .i64 c ∧ i = .int .i64 j ∧ Below w.heap.size w wr) (fun _ i _ => n - (intOf i).toNat)
  case atStart => exact ⟨0, k, Nat.zero_le _, by omega, rfl, rfl, Below.refl _ _⟩
  case round =>
    obtain ⟨j, c, hj, hc, rfl, rfl, hB⟩ := hrel
    have HC := hid hc
    clear hc
    have hc9 : c ≤ 8000000 := by have := HC.out; omega
    by_cases hlt : j < n
    · obtain ⟨b, off, rfl, hb, hcap, q0, q1, q2, q3, q4⟩ := (hr.below hB).at (i := j) (by rw [mkKs_len]; exact hlt)
      rw [mkKs_at] at q0 q1 q2 q3 q4
      unfold mkK at q0 q1 q2 q3 q4
      dsimp only at q0 q1 q2 q3 q4
      rw [← HC.out] at q0 q1 q2 q3 q4
      clear hr
      go_wp2_with fail
      go_region_held3 (fun w' => w'.cell? ⟨b, off + j * 5, none⟩ = some (.string (mkT c))) (go_keep) (first | (go_at_call 41; refine (markText_at c _ _ rfl (by omega)).mono ?_; rintro e v1 ⟨rfl, hB1⟩; have r0 := (hB1.cell (p := ⟨b, off + j * 5, none⟩) (by exact hb)).trans (by exact q0); have r1 := (hB1.cell (p := ⟨b, off + j * 5 + 1, none⟩) (by exact hb)).trans (by exact q1); have r2 := (hB1.cell (p := ⟨b, off + j * 5 + 2, none⟩) (by exact hb)).trans (by exact q2); have r3 := (hB1.cell (p := ⟨b, off + j * 5 + 3, none⟩) (by exact hb)).trans (by exact q3); have r4 := (hB1.cell (p := ⟨b, off + j * 5 + 4, none⟩) (by exact hb)).trans (by exact q4); have hb1 := Nat.lt_of_lt_of_le hb hB1.size))
      have hBB1 := below_one hB (below_drew1 hB1)
      clear hB1
      go_wp2_with fail
      go_region_held3 (fun w' => w'.cell? ⟨b, off + j * 5 + 1, none⟩ = some (.string (mkT (c + 1)))) (go_keep) (first | (go_at_call 41; refine (markText_at (c + 1) _ _ (by push_cast; omega) (by omega)).mono ?_; rintro e v2 ⟨rfl, hB2⟩; have t1 := (hB2.cell (p := ⟨b, off + j * 5 + 1, none⟩) (by exact hb1)).trans (by exact r1); have t2 := (hB2.cell (p := ⟨b, off + j * 5 + 2, none⟩) (by exact hb1)).trans (by exact r2); have t3 := (hB2.cell (p := ⟨b, off + j * 5 + 3, none⟩) (by exact hb1)).trans (by exact r3); have t4 := (hB2.cell (p := ⟨b, off + j * 5 + 4, none⟩) (by exact hb1)).trans (by exact r4)))
      have hBB2 := below_one hBB1 (below_drew1 hB2)
      clear hB2
      go_wp2
      go_roundw
      case rel => first | exact ⟨j + 1, c + 5, by omega, by have := HC.out; omega, by go_num, by go_num, hBB2⟩ | ((repeat apply Exists.intro); exact ⟨⟨j + 1, c + 5, by omega, by have := HC.out; omega, by go_num, by go_num, hBB2⟩, rfl⟩)
      case measure => simp [intOf]; omega
    · obtain rfl : j = n := by omega
      go_wp2
      go_ret
      exact ⟨ret_int (by rw [HC.out]), hB⟩

theorem heldLinkS_any (v : Value) (n k : Nat) (w : World) (hn : n ≤ 1048577) (hk : k ≤ 1) (hr : LkS w v (mkKs k n)) :
    Calls Try.prog 43 #[v, .int .i64 k] w fun e w' => e = .returned (.int .i64 ((k + 5 * n : Nat) : Int)) ∧ Below w.heap.size w w' :=
  heldLinkS_to v n k w hn (by omega) hr

end Go.Proofs.Ytnbojbcljfiamaa

namespace Go.Proofs.Ytnbojbcljfiamaa
open Go.RowKit Go.Shelf

def Dv.many (d : Dv) : Nat := 5 * d.ak.tk.length + 5
/-- What lies in a delivery that was marked. -/
def mkDv (k : Nat) (d : Dv) : Dv := ⟨mkT k, ⟨mkKs (k + 1) d.ak.tk.length, mkT (k + 1 + 5 * d.ak.tk.length), mkT (k + 1 + 5 * d.ak.tk.length + 1)⟩, ((k + 1 + 5 * d.ak.tk.length : Nat) : Int) + 1 + 1, ((k + 1 + 5 * d.ak.tk.length : Nat) : Int) + 1 + 1 + 1⟩
def mkDs (k : Nat) : List Dv → List Dv
  | [] => []
  | d :: r => mkDv k d :: mkDs (k + d.many) r
theorem mkDs_len : ∀ (k : Nat) (l : List Dv), (mkDs k l).length = l.length
  | _, [] => rfl
  | k, d :: r => by unfold mkDs; rw [List.length_cons, List.length_cons, mkDs_len (k + d.many) r]
theorem mkDs_app : ∀ (k : Nat) (l : List Dv) (d : Dv), mkDs k (l ++ [d]) = mkDs k l ++ [mkDv (k + (l.map Dv.many).sum) d]
  | k, [], d => rfl
  | k, x :: r, d => by
    rw [List.cons_append]
    unfold mkDs
    rw [mkDs_app (k + x.many) r d, List.map_cons, List.sum_cons, ← Nat.add_assoc]
    rfl
/-- The first j are marked. -/
def mkA (k : Nat) (l : List Dv) (j : Nat) : List Dv := mkDs k (l.take j) ++ l.drop j
theorem mkA_zero (k : Nat) (l : List Dv) : mkA k l 0 = l := by simp [mkA, mkDs]
theorem mkA_end (k : Nat) (l : List Dv) : mkA k l l.length = mkDs k l := by simp [mkA]
theorem mkA_at {k : Nat} {l : List Dv} {j : Nat} (h : j < l.length) : (mkA k l j)[j]? = some l[j] := by
  unfold mkA
  rw [List.getElem?_append_right (by rw [mkDs_len, List.length_take]; omega), mkDs_len, List.length_take, Nat.min_eq_left (by omega), Nat.sub_self, List.getElem?_drop, Nat.add_zero, List.getElem?_eq_getElem h]
theorem mkA_set {k : Nat} {l : List Dv} {j : Nat} (h : j < l.length) : (mkA k l j).set j (mkDv (k + gzTo Dv.many l j) l[j]) = mkA k l (j + 1) := by
  have h1 : (mkDs k (l.take j)).length = j := by rw [mkDs_len, List.length_take]; omega
  have h2 : mkA k l j = mkDs k (l.take j) ++ l[j] :: l.drop (j + 1) := by
    unfold mkA
    rw [List.drop_eq_getElem_cons h]
  have h3 : mkA k l (j + 1) = mkDs k (l.take j) ++ mkDv (k + gzTo Dv.many l j) l[j] :: l.drop (j + 1) := by
    unfold mkA
    rw [List.take_succ_eq_append_getElem h, mkDs_app]
    unfold gzTo
    rw [List.append_assoc]
    rfl
  rw [h2, h3, List.set_append_right _ _ (by omega), h1, Nat.sub_self, List.set_cons_zero]
theorem mkDs_at {k : Nat} {l : List Dv} {j : Nat} (h : j < l.length) : (mkDs k l)[j]? = some (mkDv (k + gzTo Dv.many l j) l[j]) := by
  have h0 : j < (mkDs k (l.take (j + 1))).length := by rw [mkDs_len, List.length_take]; omega
  have h1 : ∀ (k : Nat) (a b : List Dv), mkDs k (a ++ b) = mkDs k a ++ mkDs (k + (a.map Dv.many).sum) b := by
    intro k a
    induction a generalizing k with
    | nil => intro b; simp [mkDs]
    | cons x r ih =>
      intro b
      show mkDv k x :: mkDs (k + x.many) (r ++ b) = (mkDv k x :: mkDs (k + x.many) r) ++ mkDs (k + (List.map Dv.many (x :: r)).sum) b
      rw [ih, List.map_cons, List.sum_cons, ← Nat.add_assoc]
      rfl
  have h2 := h1 k (l.take (j + 1)) (l.drop (j + 1))
  rw [List.take_append_drop] at h2
  have h3 : (mkDs k (l.take j)).length = j := by rw [mkDs_len, List.length_take]; omega
  rw [h2, List.getElem?_append_left h0, List.take_succ_eq_append_getElem h, mkDs_app, List.getElem?_append_right (by omega), h3, Nat.sub_self]
  rfl
theorem mkDv_own {w : World} {lo hi c c1 c2 : Nat} {r : Dv} {px : Option Addr} {pz : Nat} (h : RoO 75 5 w lo hi (.slice px r.ak.tk.length pz) r.ak.tk.length ((mkKs c1 r.ak.tk.length).flatMap Lk.cells)) (h1 : c1 = c + 1) (h2 : c2 = c1 + 5 * r.ak.tk.length) : DvO w lo hi [.string (mkT c), .slice px r.ak.tk.length pz, .string (mkT c2), .string (mkT (c2 + 1)), .int .i64 ((c2 : Int) + 1 + 1), .int .i64 ((c2 : Int) + 1 + 1 + 1)] (mkDv c r) := by
  subst h1 h2
  have hl : (mkDv c r).ak.tk.length = r.ak.tk.length := mkKs_len _ _
  refine ⟨px, pz, ?_, px, pz, ?_, ?_⟩
  · rw [hl]; rfl
  · rw [hl]
  · rw [hl]; exact h

set_option maxHeartbeats 16000000 in
set_option maxRecDepth 100000 in
theorem markDeliveryS_to (v : Value) (xs0 : List Dv) (k base top : Nat) (w : World) (hs : gShort Dv.short xs0) (hk : k + gzTo Dv.many xs0 xs0.length ≤ 8000000) (h : GsO 67 6 DvO w base top v xs0) :
    Calls Try.prog 15 #[v, .int .i64 k] w fun e w' => e = .returned (.int .i64 ((k + gzTo Dv.many xs0 xs0.length : Nat) : Int)) ∧ GsO 67 6 DvO w' base top v (mkDs k xs0) ∧ Mid base top w w' := by
  obtain ⟨ys0, cs0, s, t, hK⟩ := h
  rcases row_form hK.row with ⟨rfl, h0⟩ | ⟨g, cap, rfl, _, _⟩
  · have : xs0 = [] := List.eq_nil_of_length_eq_zero h0
    subst this
    go_enter Try.func15, Try.ntmps15
    go_wp2
    refine wp_loop_rounds 1 ?_
    rw [rounds_succ]
    go_wp2
    go_ret
    exact ⟨by simp [gzTo], GsO.empty _ _ _ _ _ _, Mid.of_below (Below.refl _ _)⟩
  · have hn1 := hs.1
    obtain ⟨n, HN⟩ : ∃ n, Hid (n = xs0.length) := ⟨_, hid rfl⟩
    have hK0 := hK.r
    rw [← HN.out] at hK0 hn1
    go_enter Try.func15, Try.ntmps15
    go_wp2
    rw [← HN.out]
    go_loopw [1, 5] (fun kv i wr => ∃ (j c : Nat), j ≤ n ∧ c = k + gzTo Dv.many xs0 j ∧ kv = .int .i64 c ∧ i = .int .i64 j ∧ (∃ xs ys cs, xs = mkA k xs0 j ∧ GsR (fun _ => True) 67 6 DvO wr base top (.slice (some ⟨g, 0, none⟩) n cap) n xs ys cs s t) ∧ Mid base top w wr) (fun _ i _ => n - (intOf i).toNat)
    case atStart => exact ⟨0, k, Nat.zero_le _, by rw [gzTo_zero]; rfl, rfl, rfl, ⟨xs0, ys0, cs0, (mkA_zero _ _).symm, hK0⟩, Mid.of_below (Below.refl _ _)⟩
    case round =>
      obtain ⟨j, c, hj, hc, rfl, rfl, ⟨xs, ys, cs, hxe, hR⟩, MM⟩ := hrel
      have HC0 := hid hc
      have HXE := hid hxe
      clear hxe
      by_cases hlt : j < n
      · have hlt0 : j < xs0.length := by rw [← HN.out]; exact hlt
        have hlx : j < xs.length := by rw [hR.ln]; exact hlt
        have HNX := hid (gzTo_succ (f := Dv.many) hlt0)
        have HCB := hid (show c + Dv.many xs0[j] ≤ 8000000 by have h1 := gzTo_le Dv.many xs0 (j + 1); rw [gzTo_succ hlt0] at h1; omega)
        have HCS := hid (show Dv.many xs0[j] = 5 * xs0[j].ak.tk.length + 5 from rfl)
        have HSET := hid (mkA_set (k := k) hlt0)
        have hsr := hs.2 xs0[j] (List.getElem_mem hlt0)
        have hxj : xs[j] = xs0[j] := by
          have h1 := mkA_at (k := k) hlt0
          rw [← HXE.out, List.getElem?_eq_getElem hlx] at h1
          exact Option.some.inj h1
        have hO := hR.own j hlx trivial
        rw [hxj] at hO
        have hc9 : c ≤ 8000000 := by have := HCB.out; omega
        have hl := hsr.2.1.1
        clear hc hK hK0 hxj
        generalize xs0[j] = r at *
        obtain ⟨px, pz, hcs, hAk⟩ := hO
        obtain ⟨qx, qz, hqe, otk⟩ := hAk
        cases hqe
        have yc1 := hR.at hlt trivial (j := 1) (by rw [hcs]; rfl)
  
        replace hR := hR.weaken (Q := fun i => i ≠ j) (fun _ _ => trivial)
        have hP : ∀ i, (fun i => i ≠ j) i → i ≠ j := fun i hi => by exact hi
        have hap := hR.apart j hlt g rfl
        have hlo := hR.lo j hlt
        have hhi := hR.hi j hlt
        have hgb := (hR.row.lt g rfl).1
        have hgt := hR.rlt g rfl
        clear hcs
        obtain ⟨u0, q0⟩ := hR.some hlt (j := 0) (by omega)
        rw [Nat.add_zero] at q0
        have q1 := (hR.cell hlt (j := 1) (by omega)).1.trans yc1
        obtain ⟨u2, q2⟩ := hR.some hlt (j := 2) (by omega)
        obtain ⟨u3, q3⟩ := hR.some hlt (j := 3) (by omega)
        obtain ⟨u4, q4⟩ := hR.some hlt (j := 4) (by omega)
        obtain ⟨u5, q5⟩ := hR.some hlt (j := 5) (by omega)
        go_wp2_with fail
        clear q0 q1 q2 q3 q4 q5
        refine (markText_at c _ _ rfl (by omega)).mono ?_
        rintro e w1 ⟨rfl, hB1⟩
        replace otk := otk.below hB1
        replace hR := hR.below (fun _ _ _ _ h => h.below hB1) hB1
        replace MM := MM.trans (Mid.of_below hB1)
        clear hB1
        obtain ⟨u0, q0⟩ := hR.some hlt (j := 0) (by omega)
        rw [Nat.add_zero] at q0
        have q1 := (hR.cell hlt (j := 1) (by omega)).1.trans yc1
        obtain ⟨u2, q2⟩ := hR.some hlt (j := 2) (by omega)
        obtain ⟨u3, q3⟩ := hR.some hlt (j := 3) (by omega)
        obtain ⟨u4, q4⟩ := hR.some hlt (j := 4) (by omega)
        obtain ⟨u5, q5⟩ := hR.some hlt (j := 5) (by omega)
        have f0 := (hR.cell hlt (j := 0) (by omega)).2.1
        rw [Nat.add_zero] at f0
        go_wp2_with fail
        clear q0 q1 q2 q3 q4 q5 f0
        replace yc1 := (List.getElem?_set_ne (a := (.string (mkT c))) (by omega : j * 6 + 0 ≠ j * 6 + 1)).trans yc1
        have yc0 := List.getElem?_set_self (hR.cell hlt (j := 0) (by omega)).2.2 (a := (.string (mkT c)))
        have M1 : Mid g (g + 1) w1 (w1.setCell ⟨g, j * 6 + 0, none⟩ (.string (mkT c))) := (Mid.of_below (Below.refl _ _)).set (p := ⟨g, _, none⟩) (Nat.le_refl _) (Nat.lt_succ_self _) _
        replace otk := otk.mid M1 (by omega)
        replace hR := hR.store (fun _ _ _ _ _ _ _ M h ho => h.mid M ho) (j := j) (m := 0) hP (by omega) (.string (mkT c))
        replace MM := MM.trans (M1.wide (by omega) (by omega))
        clear M1
        simp only [Nat.add_zero] at *
        generalize w1.setCell ⟨g, j * 6, none⟩ (.string (mkT c)) = W2 at *
        obtain ⟨c1, HC1⟩ : ∃ x : Nat, Hid (x = c + 1) := ⟨_, hid rfl⟩
        have hc1 : c1 ≤ 8000000 := by have := HCB.out; have := HCS.out; have := HC1.out; omega
        first | rw [show ((c : Int) + 1) = (c1 : Int) by rw [HC1.out]; push_cast; omega] | rw [show ((c : Int) + 1) = (c1 : Int) by rw [HC1.out]; push_cast; omega]
        refine (markLinkS_to _ r.ak.tk.length c1 _ _ _ (by omega) (by have := HCB.out; have := HCS.out; have := HC1.out; omega) otk.1).mono ?_
        rintro e w3 ⟨rfl, oo, gg⟩
        have M1 : Mid (s j) (t j) W2 w3 := Mid.of_grown gg (fun k hk => ⟨(otk.1.lt k hk).1, otk.2 k hk⟩)
        replace otk : RoO 75 5 w3 (s j) (t j) _ _ _ := ⟨oo, otk.2⟩
        replace hR := hR.inn (fun _ _ _ _ _ _ _ M h ho => h.mid M ho) hlt hP M1 (by omega) (by omega)
        replace MM := MM.trans (M1.wide (by omega) (by omega))
        clear M1 gg
        obtain ⟨c2, HC2⟩ : ∃ y : Nat, Hid (y = c1 + 5 * r.ak.tk.length) := ⟨_, hid rfl⟩
        have hc2 : c2 ≤ 8000000 := by have := HC2.out; have := HCB.out; have := HCS.out; have := HC1.out; omega
        rw [← HC2.out]
        obtain ⟨u0, q0⟩ := hR.some hlt (j := 0) (by omega)
        rw [Nat.add_zero] at q0
        obtain ⟨u1, q1⟩ := hR.some hlt (j := 1) (by omega)
        obtain ⟨u2, q2⟩ := hR.some hlt (j := 2) (by omega)
        obtain ⟨u3, q3⟩ := hR.some hlt (j := 3) (by omega)
        obtain ⟨u4, q4⟩ := hR.some hlt (j := 4) (by omega)
        obtain ⟨u5, q5⟩ := hR.some hlt (j := 5) (by omega)
        go_wp2_with fail
        clear q0 q1 q2 q3 q4 q5 
        refine (markText_at c2 _ _ rfl (by omega)).mono ?_
        rintro e w4 ⟨rfl, hB1⟩
        replace otk := otk.below hB1
        replace hR := hR.below (fun _ _ _ _ h => h.below hB1) hB1
        replace MM := MM.trans (Mid.of_below hB1)
        clear hB1
        obtain ⟨u0, q0⟩ := hR.some hlt (j := 0) (by omega)
        rw [Nat.add_zero] at q0
        obtain ⟨u1, q1⟩ := hR.some hlt (j := 1) (by omega)
        obtain ⟨u2, q2⟩ := hR.some hlt (j := 2) (by omega)
        obtain ⟨u3, q3⟩ := hR.some hlt (j := 3) (by omega)
        obtain ⟨u4, q4⟩ := hR.some hlt (j := 4) (by omega)
        obtain ⟨u5, q5⟩ := hR.some hlt (j := 5) (by omega)
        have f2 := (hR.cell hlt (j := 2) (by omega)).2.1
        go_wp2_with fail
        clear q0 q1 q2 q3 q4 q5 f2
        replace yc0 := (List.getElem?_set_ne (a := (.string (mkT c2))) (by omega : j * 6 + 2 ≠ j * 6 + 0)).trans yc0
        replace yc1 := (List.getElem?_set_ne (a := (.string (mkT c2))) (by omega : j * 6 + 2 ≠ j * 6 + 1)).trans yc1
        have yc2 := List.getElem?_set_self (hR.cell hlt (j := 2) (by omega)).2.2 (a := (.string (mkT c2)))
        have M1 : Mid g (g + 1) w4 (w4.setCell ⟨g, j * 6 + 2, none⟩ (.string (mkT c2))) := (Mid.of_below (Below.refl _ _)).set (p := ⟨g, _, none⟩) (Nat.le_refl _) (Nat.lt_succ_self _) _
        replace otk := otk.mid M1 (by omega)
        replace hR := hR.store (fun _ _ _ _ _ _ _ M h ho => h.mid M ho) (j := j) (m := 2) hP (by omega) (.string (mkT c2))
        replace MM := MM.trans (M1.wide (by omega) (by omega))
        clear M1
        generalize w4.setCell ⟨g, j * 6 + 2, none⟩ (.string (mkT c2)) = W5 at *
        refine (markText_at (c2 + 1) _ _ (by push_cast; omega) (by omega)).mono ?_
        rintro e w6 ⟨rfl, hB1⟩
        replace otk := otk.below hB1
        replace hR := hR.below (fun _ _ _ _ h => h.below hB1) hB1
        replace MM := MM.trans (Mid.of_below hB1)
        clear hB1
        obtain ⟨u0, q0⟩ := hR.some hlt (j := 0) (by omega)
        rw [Nat.add_zero] at q0
        obtain ⟨u1, q1⟩ := hR.some hlt (j := 1) (by omega)
        obtain ⟨u2, q2⟩ := hR.some hlt (j := 2) (by omega)
        obtain ⟨u3, q3⟩ := hR.some hlt (j := 3) (by omega)
        obtain ⟨u4, q4⟩ := hR.some hlt (j := 4) (by omega)
        obtain ⟨u5, q5⟩ := hR.some hlt (j := 5) (by omega)
        have f3 := (hR.cell hlt (j := 3) (by omega)).2.1
        have f4 := (hR.cell hlt (j := 4) (by omega)).2.1
        have f5 := (hR.cell hlt (j := 5) (by omega)).2.1
        go_wp2_with fail
        clear q0 q1 q2 q3 q4 q5 f3 f4 f5
        replace yc0 := (List.getElem?_set_ne (a := (.string (mkT (c2 + 1)))) (by omega : j * 6 + 3 ≠ j * 6 + 0)).trans yc0
        replace yc1 := (List.getElem?_set_ne (a := (.string (mkT (c2 + 1)))) (by omega : j * 6 + 3 ≠ j * 6 + 1)).trans yc1
        replace yc2 := (List.getElem?_set_ne (a := (.string (mkT (c2 + 1)))) (by omega : j * 6 + 3 ≠ j * 6 + 2)).trans yc2
        have yc3 := List.getElem?_set_self (hR.cell hlt (j := 3) (by omega)).2.2 (a := (.string (mkT (c2 + 1))))
        have M1 : Mid g (g + 1) w6 (w6.setCell ⟨g, j * 6 + 3, none⟩ (.string (mkT (c2 + 1)))) := (Mid.of_below (Below.refl _ _)).set (p := ⟨g, _, none⟩) (Nat.le_refl _) (Nat.lt_succ_self _) _
        replace otk := otk.mid M1 (by omega)
        replace hR := hR.store (fun _ _ _ _ _ _ _ M h ho => h.mid M ho) (j := j) (m := 3) hP (by omega) (.string (mkT (c2 + 1)))
        replace MM := MM.trans (M1.wide (by omega) (by omega))
        clear M1
        generalize w6.setCell ⟨g, j * 6 + 3, none⟩ (.string (mkT (c2 + 1))) = W7 at *
        replace yc0 := (List.getElem?_set_ne (a := (.int .i64 ((c2 : Int) + 1 + 1))) (by omega : j * 6 + 4 ≠ j * 6 + 0)).trans yc0
        replace yc1 := (List.getElem?_set_ne (a := (.int .i64 ((c2 : Int) + 1 + 1))) (by omega : j * 6 + 4 ≠ j * 6 + 1)).trans yc1
        replace yc2 := (List.getElem?_set_ne (a := (.int .i64 ((c2 : Int) + 1 + 1))) (by omega : j * 6 + 4 ≠ j * 6 + 2)).trans yc2
        replace yc3 := (List.getElem?_set_ne (a := (.int .i64 ((c2 : Int) + 1 + 1))) (by omega : j * 6 + 4 ≠ j * 6 + 3)).trans yc3
        have yc4 := List.getElem?_set_self (hR.cell hlt (j := 4) (by omega)).2.2 (a := (.int .i64 ((c2 : Int) + 1 + 1)))
        have M1 : Mid g (g + 1) W7 (W7.setCell ⟨g, j * 6 + 4, none⟩ (.int .i64 ((c2 : Int) + 1 + 1))) := (Mid.of_below (Below.refl _ _)).set (p := ⟨g, _, none⟩) (Nat.le_refl _) (Nat.lt_succ_self _) _
        replace otk := otk.mid M1 (by omega)
        replace hR := hR.store (fun _ _ _ _ _ _ _ M h ho => h.mid M ho) (j := j) (m := 4) hP (by omega) (.int .i64 ((c2 : Int) + 1 + 1))
        replace MM := MM.trans (M1.wide (by omega) (by omega))
        clear M1
        generalize W7.setCell ⟨g, j * 6 + 4, none⟩ (.int .i64 ((c2 : Int) + 1 + 1)) = W8 at *
        replace yc0 := (List.getElem?_set_ne (a := (.int .i64 ((c2 : Int) + 1 + 1 + 1))) (by omega : j * 6 + 5 ≠ j * 6 + 0)).trans yc0
        replace yc1 := (List.getElem?_set_ne (a := (.int .i64 ((c2 : Int) + 1 + 1 + 1))) (by omega : j * 6 + 5 ≠ j * 6 + 1)).trans yc1
        replace yc2 := (List.getElem?_set_ne (a := (.int .i64 ((c2 : Int) + 1 + 1 + 1))) (by omega : j * 6 + 5 ≠ j * 6 + 2)).trans yc2
        replace yc3 := (List.getElem?_set_ne (a := (.int .i64 ((c2 : Int) + 1 + 1 + 1))) (by omega : j * 6 + 5 ≠ j * 6 + 3)).trans yc3
        replace yc4 := (List.getElem?_set_ne (a := (.int .i64 ((c2 : Int) + 1 + 1 + 1))) (by omega : j * 6 + 5 ≠ j * 6 + 4)).trans yc4
        have yc5 := List.getElem?_set_self (hR.cell hlt (j := 5) (by omega)).2.2 (a := (.int .i64 ((c2 : Int) + 1 + 1 + 1)))
        have M1 : Mid g (g + 1) W8 (W8.setCell ⟨g, j * 6 + 5, none⟩ (.int .i64 ((c2 : Int) + 1 + 1 + 1))) := (Mid.of_below (Below.refl _ _)).set (p := ⟨g, _, none⟩) (Nat.le_refl _) (Nat.lt_succ_self _) _
        replace otk := otk.mid M1 (by omega)
        replace hR := hR.store (fun _ _ _ _ _ _ _ M h ho => h.mid M ho) (j := j) (m := 5) hP (by omega) (.int .i64 ((c2 : Int) + 1 + 1 + 1))
        replace MM := MM.trans (M1.wide (by omega) (by omega))
        clear M1
        generalize W8.setCell ⟨g, j * 6 + 5, none⟩ (.int .i64 ((c2 : Int) + 1 + 1 + 1)) = W9 at *
        have HF := hid (hR.fill hlt (zs := [.string (mkT c), .slice px r.ak.tk.length pz, .string (mkT c2), .string (mkT (c2 + 1)), .int .i64 ((c2 : Int) + 1 + 1), .int .i64 ((c2 : Int) + 1 + 1 + 1)]) (x := mkDv c r) rfl (fun m hm => by
          match m, hm with
          | 0, _ => simpa using yc0
          | 1, _ => exact yc1
          | 2, _ => exact yc2
          | 3, _ => exact yc3
          | 4, _ => exact yc4
          | 5, _ => exact yc5) (mkDv_own otk HC1.out HC2.out))
        clear hR otk yc0 yc1 yc2 yc3 yc4 yc5
        go_roundw
        case rel => exact ⟨j + 1, c2 + 4, by omega, by rw [HNX.out, HCS.out]; have := HC0.out; have := HC1.out; have := HC2.out; omega, by go_num, by go_num, ⟨xs.set j (mkDv c r), _, _, by rw [← HSET.out, ← HXE.out, ← HC0.out], HF.out⟩, MM⟩
        case measure => simp [intOf]; omega
      · obtain rfl : j = n := by omega
        have HG : Hid (GsO 67 6 DvO wr base top (.slice (some ⟨g, 0, none⟩) j cap) (mkDs k xs0)) := hid (by
          have h1 : xs = mkDs k xs0 := by rw [HXE.out, HN.out]; exact mkA_end _ _
          have hl2 := hR.ln
          subst h1
          rw [← hl2] at hR ⊢
          exact ⟨_, _, _, _, hR.k⟩)
        go_wp2
        go_ret
        exact ⟨ret_int (by rw [HC0.out, HN.out]), by rw [← HN.out]; exact HG.out, MM⟩

set_option maxHeartbeats 4000000 in
set_option maxRecDepth 100000 in
theorem heldDeliveryS_to (v : Value) (xs0 : List Dv) (k : Nat) (w : World) (hs : gShort Dv.short xs0) (hk : k + gzTo Dv.many xs0 xs0.length ≤ 8000000) (hr : GsA 6 DvC w v (mkDs k xs0)) :
    Calls Try.prog 16 #[v, .int .i64 k] w fun e w' => e = .returned (.int .i64 ((k + gzTo Dv.many xs0 xs0.length : Nat) : Int)) ∧ Below w.heap.size w w' := by
  obtain ⟨a, cap, rfl⟩ := hr.len
  have hn1 := hs.1
  obtain ⟨n, HN⟩ : ∃ n, Hid (n = xs0.length) := ⟨_, hid rfl⟩
  rw [mkDs_len, ← HN.out] at hr ⊢
  rw [← HN.out] at hn1
  go_enter Try.func16, Try.ntmps16
  go_wp2
  go_loopw [1, 5] (fun kv i wr => ∃ (j c : Nat), j ≤ n ∧ c = k + gzTo Dv.many xs0 j ∧ kv = .int .i64 c ∧ i = .int .i64 j ∧ Below w.heap.size w wr) (fun _ i _ => n - (intOf i).toNat)
  case atStart => exact ⟨0, k, Nat.zero_le _, by rw [gzTo_zero]; rfl, rfl, rfl, Below.refl _ _⟩
  case round =>
    obtain ⟨j, c, hj, hc, rfl, rfl, hB⟩ := hrel
    have HC0 := hid hc
    by_cases hlt : j < n
    · have hlt0 : j < xs0.length := by rw [← HN.out]; exact hlt
      have hltm : j < (mkDs k xs0).length := by rw [mkDs_len]; exact hlt0
      have HNX := hid (gzTo_succ (f := Dv.many) hlt0)
      have HCB := hid (show c + Dv.many xs0[j] ≤ 8000000 by have h1 := gzTo_le Dv.many xs0 (j + 1); rw [gzTo_succ hlt0] at h1; omega)
      have HCS := hid (show Dv.many xs0[j] = 5 * xs0[j].ak.tk.length + 5 from rfl)
      have hsr := hs.2 xs0[j] (List.getElem_mem hlt0)
      have hc9 : c ≤ 8000000 := by have := HCB.out; omega
      have hl := hsr.2.1.1
      obtain ⟨b, off, cd, rfl, hb, hcap, hq, hA⟩ := (hr.below (fun _ _ h => h.below hB) hB).at hltm
      have hxj : (mkDs k xs0)[j] = mkDv c xs0[j] := by
        have h1 := mkDs_at (k := k) hlt0
        rw [List.getElem?_eq_getElem hltm, ← HC0.out] at h1
        exact Option.some.inj h1
      rw [hxj] at hA
      clear hxj hc hr
      generalize xs0[j] = r at *
      obtain ⟨px, pz, hcd, hAk⟩ := hA
      obtain ⟨qx, qz, hqe, htk⟩ := hAk
      cases hqe
      subst hcd
      obtain ⟨c1, HC1⟩ : ∃ x, Hid (x = c + 1) := ⟨_, hid rfl⟩
      obtain ⟨c2, HC2⟩ : ∃ x, Hid (x = c1 + 5 * r.ak.tk.length) := ⟨_, hid rfl⟩
      have hc1 : c1 ≤ 8000000 := by have := HCB.out; have := HCS.out; have := HC1.out; omega
      have hc2 : c2 ≤ 8000000 := by have := HCB.out; have := HCS.out; have := HC1.out; have := HC2.out; omega
      have e2 : c + 1 + 5 * r.ak.tk.length = c2 := by rw [HC2.out, HC1.out]
      have hl9 : (mkDv c r).ak.tk.length = r.ak.tk.length := mkKs_len _ _
      have q0 := hq 0 _ rfl
      have q1 := hq 1 _ rfl
      have q2 := hq 2 _ rfl
      have q3 := hq 3 _ rfl
      have q4 := hq 4 _ rfl
      have q5 := hq 5 _ rfl
      rw [Nat.add_zero] at q0
      rw [hl9] at q1 htk
      unfold mkDv at q0 q2 q3 q4 q5 htk
      dsimp only at q0 q2 q3 q4 q5 htk
      rw [e2] at q2 q3 q4 q5
      rw [← HC1.out] at htk
      clear hq e2 hl9
      go_wp2_with fail
      go_region_held3 (fun w' => w'.cell? ⟨b, off + j * 6, none⟩ = some (.string (mkT c))) (go_keep) (first | (go_at_call 41; refine (markText_at c _ _ rfl (by omega)).mono ?_; rintro e v0 ⟨rfl, hB0⟩; have r0 := (hB0.cell (p := ⟨b, off + j * 6, none⟩) (by exact hb)).trans (by exact q0); have r1 := (hB0.cell (p := ⟨b, off + j * 6 + 1, none⟩) (by exact hb)).trans (by exact q1); have r2 := (hB0.cell (p := ⟨b, off + j * 6 + 2, none⟩) (by exact hb)).trans (by exact q2); have r3 := (hB0.cell (p := ⟨b, off + j * 6 + 3, none⟩) (by exact hb)).trans (by exact q3); have r4 := (hB0.cell (p := ⟨b, off + j * 6 + 4, none⟩) (by exact hb)).trans (by exact q4); have r5 := (hB0.cell (p := ⟨b, off + j * 6 + 5, none⟩) (by exact hb)).trans (by exact q5); have hbr := Nat.lt_of_lt_of_le hb hB0.size))
      have hB1 : Below w.heap.size w v0 := below_one hB (below_drew1 hB0)
      have ht0 : LkS v0 _ _ := htk.below (below_drew1 hB0)
      clear hB0 htk
      go_wp2_with fail
      rw [show ((c : Int) + 1) = (c1 : Int) by rw [HC1.out]; push_cast; rfl]
      refine (heldLinkS_to _ r.ak.tk.length c1 _ (by omega) (by have := HCB.out; have := HCS.out; have := HC1.out; omega) ht0).mono ?_
      rintro e v1 ⟨rfl, hBh⟩
      rw [← HC2.out]
      have dk : decide ((c2 : Int) < 0) = false := by simp
      have s0 := (hBh.cell (p := ⟨b, off + j * 6, none⟩) (by exact hbr)).trans r0
      have s1 := (hBh.cell (p := ⟨b, off + j * 6 + 1, none⟩) (by exact hbr)).trans r1
      have s2 := (hBh.cell (p := ⟨b, off + j * 6 + 2, none⟩) (by exact hbr)).trans r2
      have s3 := (hBh.cell (p := ⟨b, off + j * 6 + 3, none⟩) (by exact hbr)).trans r3
      have s4 := (hBh.cell (p := ⟨b, off + j * 6 + 4, none⟩) (by exact hbr)).trans r4
      have s5 := (hBh.cell (p := ⟨b, off + j * 6 + 5, none⟩) (by exact hbr)).trans r5
      clear r0 r1 r2 r3 r4 r5 q0 q1 q2 q3 q4 q5
      replace hB1 := below_one hB1 hBh
      have hbs := Nat.lt_of_lt_of_le hbr hBh.size
      clear hBh ht0
      go_wp2_with fail
      go_region_held3 (fun w' => w'.cell? ⟨b, off + j * 6 + 2, none⟩ = some (.string (mkT c2))) (go_keep) (first | (go_at_call 41; refine (markText_at c2 _ _ rfl (by omega)).mono ?_; rintro e v2 ⟨rfl, hB2⟩; have t0 := (hB2.cell (p := ⟨b, off + j * 6, none⟩) (by exact hbs)).trans (by exact s0); have t1 := (hB2.cell (p := ⟨b, off + j * 6 + 1, none⟩) (by exact hbs)).trans (by exact s1); have t2 := (hB2.cell (p := ⟨b, off + j * 6 + 2, none⟩) (by exact hbs)).trans (by exact s2); have t3 := (hB2.cell (p := ⟨b, off + j * 6 + 3, none⟩) (by exact hbs)).trans (by exact s3); have t4 := (hB2.cell (p := ⟨b, off + j * 6 + 4, none⟩) (by exact hbs)).trans (by exact s4); have t5 := (hB2.cell (p := ⟨b, off + j * 6 + 5, none⟩) (by exact hbs)).trans (by exact s5); have hbt := Nat.lt_of_lt_of_le hbs hB2.size))
      replace hB1 : Below w.heap.size w v2 := below_one hB1 (below_drew1 hB2)
      clear hB2
      go_wp2_with fail
      go_region_held3 (fun w' => w'.cell? ⟨b, off + j * 6 + 3, none⟩ = some (.string (mkT (c2 + 1)))) (go_keep) (first | (go_at_call 41; refine (markText_at (c2 + 1) _ _ (by push_cast; omega) (by omega)).mono ?_; rintro e v3 ⟨rfl, hB3⟩; have x0 := (hB3.cell (p := ⟨b, off + j * 6, none⟩) (by exact hbt)).trans (by exact t0); have x1 := (hB3.cell (p := ⟨b, off + j * 6 + 1, none⟩) (by exact hbt)).trans (by exact t1); have x2 := (hB3.cell (p := ⟨b, off + j * 6 + 2, none⟩) (by exact hbt)).trans (by exact t2); have x3 := (hB3.cell (p := ⟨b, off + j * 6 + 3, none⟩) (by exact hbt)).trans (by exact t3); have x4 := (hB3.cell (p := ⟨b, off + j * 6 + 4, none⟩) (by exact hbt)).trans (by exact t4); have x5 := (hB3.cell (p := ⟨b, off + j * 6 + 5, none⟩) (by exact hbt)).trans (by exact t5); have hbx := Nat.lt_of_lt_of_le hbt hB3.size))
      replace hB1 : Below w.heap.size w v3 := below_one hB1 (below_drew1 hB3)
      clear hB3
      go_wp2
      go_roundw
      case rel => first | exact ⟨j + 1, c2 + 4, by omega, by rw [HNX.out, HCS.out]; have := HC0.out; have := HC1.out; have := HC2.out; omega, by go_num, by go_num, hB1⟩ | ((repeat apply Exists.intro); exact ⟨⟨j + 1, c2 + 4, by omega, by rw [HNX.out, HCS.out]; have := HC0.out; have := HC1.out; have := HC2.out; omega, by go_num, by go_num, hB1⟩, rfl⟩)
      case measure => simp [intOf]; omega
    · obtain rfl : j = n := by omega
      go_wp2
      go_ret
      exact ⟨ret_int (by rw [HC0.out, HN.out]), hB⟩

end Go.Proofs.Ytnbojbcljfiamaa

namespace Go.Proofs.Ytnbojbcljfiamaa
open Go.RowKit Go.Shelf

/-- A mesh is as said. -/
def msB (m : Ms) : Bool := decide ((m.sc.length : Int) ≤ 10) && decide ((m.dl.length : Int) ≤ 240)
theorem ms_no1 {m : Ms} (h : decide ((m.sc.length : Int) ≤ 10) = false) : msB m = false := by unfold msB; rw [h]; rfl
theorem ms_no2 {m : Ms} (h : decide ((m.dl.length : Int) ≤ 240) = false) : msB m = false := by unfold msB; rw [h]; simp
theorem ms_yes {m : Ms} (h : decide ((m.sc.length : Int) ≤ 10) = true) (h2 : decide ((m.dl.length : Int) ≤ 240) = true) : msB m = true := by unfold msB; rw [h, h2]; rfl

set_option maxHeartbeats 2000000 in
theorem l8Said_any (cs : List Value) (m : Ms) (w : World) (h : MsC w cs m) :
    Calls Try.prog 32 #[.agg cs.toArray] w fun e w' => e = .returned (.bool (msB m)) ∧ Below w.heap.size w w' := by
  obtain ⟨p1a, p1b, p1c, p1d, p1e, p1f, p2x, p2z, p3x, p3z, p4x, p4z, rfl, h1, h2, h3, h4⟩ := h
  have hBB : Below w.heap.size w (w.alloc (.cells #[.int .i64 m.now, .slice p1a m.iss.ws.length p1b, .int .i64 m.iss.nx, .slice p1c m.iss.rv.length p1d, .slice p1e m.iss.sg.length p1f, .slice p2x m.vs.length p2z, .slice p3x m.sc.length p3z, .slice p4x m.dl.length p4z] 31)) := (Below.refl _ w).alloc (Nat.le_refl _) _
  cases c1 : decide ((m.sc.length : Int) ≤ 10)
  · have HR := hid (ms_no1 c1)
    go_enter Try.func32, Try.ntmps32
    go_wp2
    go_ret
    exact ⟨ret_bool HR.out.symm, hBB⟩
  · cases c2 : decide ((m.dl.length : Int) ≤ 240)
    · have HR := hid (ms_no2 c2)
      go_enter Try.func32, Try.ntmps32
      go_wp2
      go_ret
      exact ⟨ret_bool HR.out.symm, hBB⟩
    · have HR := hid (ms_yes c1 c2)
      go_enter Try.func32, Try.ntmps32
      go_wp2
      go_ret
      exact ⟨ret_bool HR.out.symm, hBB⟩

set_option maxHeartbeats 2000000 in
theorem fitsMesh_any (cs : List Value) (m : Ms) (w : World) (h : MsC w cs m) :
    Calls Try.prog 38 #[.agg cs.toArray] w fun e w' => e = .returned (.bool (msB m)) ∧ Below w.heap.size w w' := by
  obtain ⟨p1a, p1b, p1c, p1d, p1e, p1f, p2x, p2z, p3x, p3z, p4x, p4z, rfl, h1, h2, h3, h4⟩ := h
  have hBB : Below w.heap.size w (w.alloc (.cells #[.int .i64 m.now, .slice p1a m.iss.ws.length p1b, .int .i64 m.iss.nx, .slice p1c m.iss.rv.length p1d, .slice p1e m.iss.sg.length p1f, .slice p2x m.vs.length p2z, .slice p3x m.sc.length p3z, .slice p4x m.dl.length p4z] 31)) := (Below.refl _ w).alloc (Nat.le_refl _) _
  cases c1 : decide ((m.sc.length : Int) ≤ 10)
  · have HR := hid (ms_no1 c1)
    go_enter Try.func38, Try.ntmps38
    go_wp2
    go_ret
    exact ⟨ret_bool HR.out.symm, hBB⟩
  · cases c2 : decide ((m.dl.length : Int) ≤ 240)
    · have HR := hid (ms_no2 c2)
      go_enter Try.func38, Try.ntmps38
      go_wp2
      go_ret
      exact ⟨ret_bool HR.out.symm, hBB⟩
    · have HR := hid (ms_yes c1 c2)
      go_enter Try.func38, Try.ntmps38
      go_wp2
      go_ret
      exact ⟨ret_bool HR.out.symm, hBB⟩

end Go.Proofs.Ytnbojbcljfiamaa

namespace Go.Proofs.Ytnbojbcljfiamaa
open Go.RowKit Go.Shelf

/-- append(v, u...): a row of one's own, and one that can be read. -/
theorem wpList_append_rd {P : Program} {w : World} {ops : Array Oper} {rest : List Oper} {o : Oper} {a : Act} {Q : Exit → Act → World → Prop} (hgd : o.guard = none) (s x : Operand) (t : TypeId)
    (ho : o.op = .call { callee := .builtin .append, args := #[s, x], argTypes := #[t, t] })
    (base : Nat) (e : TypeId) (i : TypeInfo) (z : Value) (size bytes : Nat) (ht : P.underlying t = some (.slice e)) (hi : P.info? e = some i) (hz : i.zero = some z)
    (hsize : i.size = size) (hby : i.bytes = bytes) (hzs : z.cells.size = size) (hsz : 0 < size)
    (v u : Value) (n m : Nat) (xs ys : List Value) (hs : a.eval s = v) (hown : w.ownsRow base e size v n xs) (hx : a.eval x = u)
    (hsrc : (u = .slice none 0 0 ∧ m = 0 ∧ ys = []) ∨ ∃ b off cap, u = .slice (some ⟨b, off, none⟩) m cap ∧ ys.length = m * size ∧ ∀ j y, ys[j]? = some y → w.cell? ⟨b, off + j, none⟩ = some y) (h1 : ∀ y ∈ ys, y.oneCell' = true)
    (h63 : n + m ≤ maxLen) (hbytes : (n + m) * bytes ≤ 140737488355328) (hbase : base ≤ w.heap.size)
    (h : ∀ v' w', w'.ownsRow base e size v' (n + m) (xs ++ ys) → w.grownBy w' v.ownBlock → wpList P ops Q rest (a.put o.dst v') w') : wpList P ops Q (o :: rest) a w := by
  rcases hsrc with ⟨rfl, rfl, rfl⟩ | ⟨b, off, cap, rfl, hl, hc⟩
  · exact wpList_append_own_none hgd s x t ho base e i size ht hi v n xs hs hown hx (h v w (by simpa using hown) (grown_self _ _))
  · exact wpList_append_own _ hgd s x t ho base e i z size bytes ht hi hz hsize hby hzs hsz v n xs hs hown ⟨b, off, none⟩ m cap ys hx hl (fun j y hj => by rw [Addr.add_lit]; exact hc j y hj) h1 h63 hbytes hbase (fun v' w' h1 h2 _ => h v' w' h1 h2)
theorem row_void0 (w : World) (e : TypeId) (size n : Nat) {base : Nat} (hn : n = w.heap.size) (hb : base ≤ w.heap.size) : (w.alloc (.cells #[] e)).ownsRow base e size (.slice (some ⟨n, 0, none⟩) 0 0) 0 [] := by
  subst hn
  exact ⟨by simp, .inr ⟨w.heap.size, 0, #[], rfl, hb, by show (w.heap.push _)[w.heap.size]? = _; rw [Array.getElem?_push_size], Nat.le_refl _, by unfold maxLen; omega, by simp, by simp⟩⟩
/-- What was there stays behind an append onto a row of one's own. -/
theorem below_app {w W w2 : World} {n : Nat} {base : Nat} {e : TypeId} {size m : Nat} {v : Value} {xs : List Value} (h : Below n w W) (hown : W.ownsRow base e size v m xs) (hg : W.grownBy w2 v.ownBlock) (hb : n ≤ base) (hn : n ≤ W.heap.size) : Below n w w2 :=
  h.grown hg hn (fun k hk => Nat.le_trans hb (hown.lt k hk).1)

end Go.Proofs.Ytnbojbcljfiamaa

namespace Go.Proofs.Ytnbojbcljfiamaa
open Go.RowKit Go.Shelf

theorem at_drop {ops : Array Oper} {i : Nat} {o : Oper} (h : (ops.toList.drop i).head? = some o) : ops[i]? = some o := by
  rw [List.head?_drop] at h
  simpa using h
theorem takeW {P : Program} {ops : Array Oper} {Q : Exit → Act → World → Prop} {md : Region.Mode} {S : World → Prop} (i : Nat) {oi : Oper} {v : Value} {fuel : Nat} {listed : Array Bool} {a : Act} {w : World} (hi : (ops.toList.drop i).head? = some oi)
    (hs : Region.noSelect ops = true) (hf : Region.free md ops listed i = true) (hr : (Region.ready md ops listed).contains i = true)
    (hQ : ∀ c a w, Q (.panic c) (a.put oi.dst v) w → Q (.panic c) a w) (hw : Region.wanted oi (yielded ops a.tmps) = true) (hS : S w) (hy : ∀ w, S w → (execOp a.eval oi).run P w = .ok (.value v) w)
    (h : wpAnyH P md ops Q S fuel (listed.setIfInBounds i true) (a.put oi.dst v) w) : wpAnyH P md ops Q S (fuel + 1) listed a w :=
  wpAnyH_take (at_drop hi) hs hf hr hQ (Or.inl ⟨hw, hy⟩) hS h
theorem takeX {P : Program} {ops : Array Oper} {Q : Exit → Act → World → Prop} {md : Region.Mode} {S : World → Prop} (i : Nat) {oi : Oper} {fuel : Nat} {listed : Array Bool} {a : Act} {w : World} (hi : (ops.toList.drop i).head? = some oi)
    (hs : Region.noSelect ops = true) (hf : Region.free md ops listed i = true) (hr : (Region.ready md ops listed).contains i = true)
    (hQ : ∀ c a w, Q (.panic c) (a.put oi.dst undef) w → Q (.panic c) a w) (hw : Region.wanted oi (yielded ops a.tmps) = false) (hS : S w)
    (h : wpAnyH P md ops Q S fuel (listed.setIfInBounds i true) (a.put oi.dst undef) w) : wpAnyH P md ops Q S (fuel + 1) listed a w :=
  wpAnyH_take (at_drop hi) hs hf hr hQ (Or.inr ⟨hw, rfl⟩) hS h
theorem takeC {P : Program} {ops : Array Oper} {Q : Exit → Act → World → Prop} {md : Region.Mode} {S : World → Prop} (i : Nat) {oi : Oper} {fuel : Nat} {listed : Array Bool} {a : Act} {w : World} (hr : Region.ready md ops listed = [i]) (hi : (ops.toList.drop i).head? = some oi)
    (h : ∀ K' : Act → World → Prop, Shut (∀ a w, S w → (S w → wpAnyH P md ops Q S fuel (listed.setIfInBounds i true) a w) → K' a w) → if Region.wanted oi (yielded ops a.tmps) = true then Oper.wp P oi a w K' Q else K' (a.put oi.dst undef) w) : wpAnyH P md ops Q S (fuel + 1) listed a w :=
  wpAnyH_ready hr (by simp) (AllReadyH.cons (at_drop hi) h AllReadyH.nil)
/-- Two operations, either of which may come first. -/
theorem takeC2 {P : Program} {ops : Array Oper} {Q : Exit → Act → World → Prop} {md : Region.Mode} {S : World → Prop} (i j : Nat) {oi oj : Oper} {fuel : Nat} {listed : Array Bool} {a : Act} {w : World} (hr : Region.ready md ops listed = [i, j]) (hi : (ops.toList.drop i).head? = some oi) (hj : (ops.toList.drop j).head? = some oj)
    (h : ∀ K' : Act → World → Prop, Shut (∀ a w, S w → (S w → wpAnyH P md ops Q S fuel (listed.setIfInBounds i true) a w) → K' a w) → if Region.wanted oi (yielded ops a.tmps) = true then Oper.wp P oi a w K' Q else K' (a.put oi.dst undef) w)
    (h' : ∀ K' : Act → World → Prop, Shut (∀ a w, S w → (S w → wpAnyH P md ops Q S fuel (listed.setIfInBounds j true) a w) → K' a w) → if Region.wanted oj (yielded ops a.tmps) = true then Oper.wp P oj a w K' Q else K' (a.put oj.dst undef) w) : wpAnyH P md ops Q S (fuel + 1) listed a w :=
  wpAnyH_ready hr (by simp) (AllReadyH.cons (at_drop hi) h (AllReadyH.cons (at_drop hj) h' AllReadyH.nil))

def inB (lo hi n : Int) : Bool := decide (lo ≤ n ∧ n ≤ hi)

end Go.Proofs.Ytnbojbcljfiamaa

namespace Go.Proofs.Ytnbojbcljfiamaa
open Go.RowKit Go.Shelf

/-- A link as a hop. -/
abbrev Lk.hop (k : Lk) : Value := .agg #[.string k.who, .string k.to, .int .i64 k.fr, .int .i64 k.un, .int .i64 k.se]

def timB (a b : Int) : Bool := tmB a && (tmB b && decide (a ≤ b))

theorem good_parts (k : Lk) : k.good = ((nmOk k.who && nmOk k.to) && (timB k.fr k.un && seB k.se)) := by
  unfold Lk.good timB
  cases nmOk k.who <;> cases nmOk k.to <;> cases seB k.se <;> cases tmB k.fr <;> cases tmB k.un <;> cases decide (k.fr ≤ k.un) <;> rfl

end Go.Proofs.Ytnbojbcljfiamaa

namespace Go.Proofs.Ytnbojbcljfiamaa
open Go.RowKit Go.Shelf

end Go.Proofs.Ytnbojbcljfiamaa

namespace Go.Proofs.Ytnbojbcljfiamaa
open Go.RowKit Go.Shelf

theorem cell_old {w w1 : World} {o : Obj} (h : Below (w.alloc o).heap.size (w.alloc o).drew w1) {b i : Nat} (hb : b < w.heap.size) : w1.cell? ⟨b, i, none⟩ = w.cell? ⟨b, i, none⟩ :=
  ((below_drew1 h).cell (p := ⟨b, i, none⟩) (by simp; omega)).trans (((Below.refl w.heap.size w).alloc (Nat.le_refl _) o).cell (p := ⟨b, i, none⟩) hb)

end Go.Proofs.Ytnbojbcljfiamaa

namespace Go.Proofs.Ytnbojbcljfiamaa
open Go.RowKit Go.Shelf

end Go.Proofs.Ytnbojbcljfiamaa

namespace Go.Proofs.Ytnbojbcljfiamaa
open Go.RowKit Go.Shelf

/-- The lesser of two. -/
def mnI (a b : Int) : Int := min a b
theorem mnI_lt {a b : Int} (h : b < a) : mnI a b = b := by unfold mnI; omega
theorem mnI_ge {a b : Int} (h : ¬ b < a) : mnI a b = a := by unfold mnI; omega
/-- The link that comes next. -/
def ext1 (k : Lk) (to : ByteArray) (se nw li : Int) : Lk := ⟨k.to, to, se, nw, mnI (nw + li) k.un⟩
def extB (ks : List Lk) (to : ByteArray) (se nw li : Int) : Bool := match ks[ks.length - 1]? with
  | some k => tkB ks && (tmB nw && (tmB li && tkB (ks ++ [ext1 k to se nw li])))
  | none => false
def extL (ks : List Lk) (to : ByteArray) (se nw li : Int) : List Lk := match ks[ks.length - 1]? with
  | some k => if extB ks to se nw li = true then ks ++ [ext1 k to se nw li] else []
  | none => []
theorem extL_le (ks : List Lk) (to : ByteArray) (se nw li : Int) : (extL ks to se nw li).length ≤ ks.length + 1 := by
  unfold extL
  split
  · split
    · simp
    · exact Nat.zero_le _
  · exact Nat.zero_le _
theorem ext_no {ks : List Lk} {to : ByteArray} {se nw li : Int} (h : extB ks to se nw li = false) : extL ks to se nw li = [] := by
  unfold extL
  split
  · rw [if_neg (by rw [h]; exact Bool.false_ne_true)]
  · rfl
theorem ext_at {ks : List Lk} {m : Nat} (hm : m < ks.length) (hl : m = ks.length - 1) (to : ByteArray) (se nw li : Int) : extB ks to se nw li = (tkB ks && (tmB nw && (tmB li && tkB (ks ++ [ext1 ks[m] to se nw li])))) := by
  unfold extB
  rw [← hl, List.getElem?_eq_getElem hm]
theorem ext_yes {ks : List Lk} {m : Nat} (hm : m < ks.length) (hl : m = ks.length - 1) {to : ByteArray} {se nw li : Int} (h : extB ks to se nw li = true) : extL ks to se nw li = ks ++ [ext1 ks[m] to se nw li] := by
  unfold extL
  rw [← hl, List.getElem?_eq_getElem hm]
  simp only
  rw [if_pos h]
theorem ext_tk {ks : List Lk} {to : ByteArray} {se nw li : Int} (h : tkB ks = false) : extB ks to se nw li = false := by
  unfold extB
  split
  · rw [h]
    rfl
  · rfl
theorem ext_nw {ks : List Lk} {to : ByteArray} {se nw li : Int} (h : tmB nw = false) : extB ks to se nw li = false := by
  unfold extB
  split
  · rw [h, Bool.false_and, Bool.and_false]
  · rfl
theorem ext_li {ks : List Lk} {to : ByteArray} {se nw li : Int} (h : tmB li = false) : extB ks to se nw li = false := by
  unfold extB
  split
  · rw [h, Bool.false_and, Bool.and_false, Bool.and_false]
  · rfl
theorem last_good {ks : List Lk} {k : Lk} (h : tkB (ks ++ [k]) = true) : k.good = true := tkB_good h k (by simp)
theorem ext_to {ks : List Lk} {to : ByteArray} {se nw li : Int} (h : gnB (split to 47) = false) : extB ks to se nw li = false := by
  unfold extB
  split
  · rename_i k _
    cases ht : tkB (ks ++ [ext1 k to se nw li])
    · rw [Bool.and_false, Bool.and_false, Bool.and_false]
    · have := ((Lk.good_iff _).1 (last_good ht)).2.1
      unfold nmOk ext1 at this
      simp only at this
      rw [h] at this
      cases this
  · rfl
theorem ext_se {ks : List Lk} {to : ByteArray} {se nw li : Int} (h : seB se = false) : extB ks to se nw li = false := by
  unfold extB
  split
  · rename_i k _
    cases ht : tkB (ks ++ [ext1 k to se nw li])
    · rw [Bool.and_false, Bool.and_false, Bool.and_false]
    · have := ((Lk.good_iff _).1 (last_good ht)).2.2.1
      unfold seB at h
      simp only [ext1] at this
      exact absurd this (of_decide_eq_false h)
  · rfl
theorem lks_cells {w : World} {b off n c : Nat} {ks : List Lk} (h : LkS w (.slice (some ⟨b, off, none⟩) n c) ks) : ∀ j u, (ks.flatMap Lk.cells)[j]? = some u → w.cell? ((⟨b, off, none⟩ : Addr).add j) = some u := by
  intro j u hu
  have hj : j < (ks.flatMap Lk.cells).length := (List.getElem?_eq_some_iff.1 hu).1
  rw [lflat_len] at hj
  have hi : j / 5 < ks.length := by omega
  obtain ⟨b', off', he, _, _, q0, q1, q2, q3, q4⟩ := h.at hi
  cases he
  have hr : j = j / 5 * 5 + j % 5 := by omega
  have hm : j % 5 < 5 := Nat.mod_lt _ (by decide)
  rw [hr, lflat_at ks (j / 5) (j % 5) hi hm] at hu
  rw [Addr.add_lit]
  have hx : off + j = off + j / 5 * 5 + j % 5 := by omega
  rw [hx]
  obtain h0 | h0 | h0 | h0 | h0 : j % 5 = 0 ∨ j % 5 = 1 ∨ j % 5 = 2 ∨ j % 5 = 3 ∨ j % 5 = 4 := by omega
  all_goals rw [h0] at hu ⊢
  all_goals simp at hu
  all_goals subst hu
  all_goals first | exact q0 | exact q1 | exact q2 | exact q3 | exact q4
theorem cells_one3 {ks : List Lk} : ∀ u ∈ ks.flatMap Lk.cells, u.oneCell' = true := by
  intro u hu
  rw [List.mem_flatMap] at hu
  obtain ⟨r, _, hr⟩ := hu
  simp at hr
  rcases hr with rfl | rfl | rfl | rfl | rfl <;> rfl

theorem cloneLinks_any (b off n cap : Nat) (ks : List Lk) (w : World) (hn : ks.length ≤ 1048577) (hr : LkS w (.slice (some ⟨b, off, none⟩) n cap) ks) (hnl : n = ks.length) :
    Calls Try.prog 39 #[.slice (some ⟨b, off, none⟩) n cap] w fun e w' => ∃ v', e = .returned v' ∧ w'.ownsRow w.heap.size 75 5 v' ks.length (ks.flatMap Lk.cells) ∧ v' ≠ .slice none 0 0 ∧ Below w.heap.size w w' := by
  obtain ⟨i0, hi, hz0, hz1, hz2⟩ := info_parts infoLink
  subst hnl
  exact AnyE.slices_Clone Try.cloneLk i0 _ 5 56 hi hz0 hz1 hz2 rfl (by decide) Try.sizeOf75 b off ks.length cap (ks.flatMap Lk.cells) w (by rw [lflat_len]) (by unfold maxLen; omega) (by omega)
    (fun j u hu => by have := lks_cells hr j u hu; rw [Addr.add_lit] at this; exact this) cells_one3

end Go.Proofs.Ytnbojbcljfiamaa

namespace Go.Proofs.Ytnbojbcljfiamaa
open Go.RowKit Go.Shelf

def dlTo (m : Ms) (q : ByteArray) (n : Nat) : List Dv := (m.dl.take n).filter (fun d => d.at_.toList == q.toList)
def dlX (m : Ms) (q : ByteArray) : List Dv := if msB m = true then m.dl.filter (fun d => d.at_.toList == q.toList) else []
theorem dlTo_zero (m : Ms) (q : ByteArray) : dlTo m q 0 = [] := by simp [dlTo]
theorem dlTo_hit {m : Ms} {q : ByteArray} {n : Nat} (h : n < m.dl.length) (he : (m.dl[n].at_.toList == q.toList) = true) : dlTo m q (n + 1) = dlTo m q n ++ [m.dl[n]] := by
  unfold dlTo
  rw [List.take_succ_eq_append_getElem h, List.filter_append]
  congr 1
  exact List.filter_cons_of_pos he
theorem dlTo_miss {m : Ms} {q : ByteArray} {n : Nat} (h : n < m.dl.length) (he : (m.dl[n].at_.toList == q.toList) = false) : dlTo m q (n + 1) = dlTo m q n := by
  unfold dlTo
  rw [List.take_succ_eq_append_getElem h, List.filter_append]
  have : [m.dl[n]].filter (fun d => d.at_.toList == q.toList) = [] := List.filter_cons_of_neg (by rw [he]; simp)
  rw [this, List.append_nil]
theorem dlTo_len (m : Ms) (q : ByteArray) (n : Nat) : (dlTo m q n).length ≤ m.dl.length := by
  unfold dlTo
  exact Nat.le_trans (List.length_filter_le _ _) (by rw [List.length_take]; omega)
theorem dl_end {m : Ms} (q : ByteArray) (h : msB m = true) : dlX m q = dlTo m q m.dl.length := by
  unfold dlX dlTo
  rw [if_pos h, List.take_length]
theorem dl_no {m : Ms} (q : ByteArray) (h : msB m = false) : dlX m q = [] := if_neg (by rw [h]; simp)
/-- The links of a token that is one's own, as a list to be appended. -/
theorem ret_bl {v : Value} {x y : Bool} (h : x = y) : Ending.returned (.tuple #[v, .bool x]) = .returned (.tuple #[v, .bool y]) := by rw [h]
theorem kept_three {w w1 : World} {t : TypeId} {k g : Nat} {a b c : Value} {n cap : Nat} (h : Three w t k a b c) (hg : w.grownBy w1 (Value.slice (some ⟨g, 0, none⟩) n cap).ownBlock) (hk : k ≠ g) : Three w1 t k a b c :=
  (Mid.of_grown (lo := g) (hi := g + 1) hg (fun j hj => by have : g = j := (by simpa [Value.ownBlock] using hj); omega)).three h (by omega)
theorem RoO.src {w : World} {lo hi : Nat} {v : Value} {ks : List Lk} (h : RoO 75 5 w lo hi v ks.length (ks.flatMap Lk.cells)) : (v = .slice none 0 0 ∧ ks.length = 0 ∧ ks.flatMap Lk.cells = []) ∨ ∃ b off cap, v = .slice (some ⟨b, off, none⟩) ks.length cap ∧ (ks.flatMap Lk.cells).length = ks.length * 5 ∧ ∀ j y, (ks.flatMap Lk.cells)[j]? = some y → w.cell? ⟨b, off + j, none⟩ = some y := by
  rcases row_form h.1 with ⟨hv, h0⟩ | ⟨g, cap, hv, hg, hcap⟩
  · exact .inl ⟨hv, h0, by rw [List.eq_nil_of_length_eq_zero h0]; rfl⟩
  · refine .inr ⟨g, 0, cap, hv, lflat_len ks, fun j y hy => ?_⟩
    have h1 := h.1
    rw [hv] at h1
    rw [Nat.zero_add, h1.cellAt j (by rw [← lflat_len]; exact (List.getElem?_eq_some_iff.1 hy).1)]
    exact hy

theorem cloneLk_any (v : Value) (ks : List Lk) (lo hi : Nat) (w : World) (hn : ks.length ≤ 1048577) (h : RoO 75 5 w lo hi v ks.length (ks.flatMap Lk.cells)) :
    Calls Try.prog 39 #[v] w fun e w' => ∃ v', e = .returned v' ∧ w'.ownsRow w.heap.size 75 5 v' ks.length (ks.flatMap Lk.cells) ∧ Below w.heap.size w w' := by
  rcases row_form h.1 with ⟨rfl, h0⟩ | ⟨g, cap, rfl, hg, hcap⟩
  · have : ks = [] := List.eq_nil_of_length_eq_zero h0
    subst this
    refine (AnyE.slices_Clone_nil Try.cloneLk 0 0 w).mono ?_
    rintro e w' ⟨rfl, rfl⟩
    exact ⟨_, rfl, World.ownsRow_nil _ _ _ _, Below.refl _ _⟩
  · refine (cloneLinks_any g 0 ks.length cap ks w hn (LkS.own h.1) rfl).mono ?_
    rintro e w' ⟨v', rfl, h1, _, h2⟩
    exact ⟨v', rfl, h1, h2⟩

set_option maxHeartbeats 4000000 in
theorem l8OwnAsk_any (cs : List Value) (a : Ak) (lo hi : Nat) (w : World) (hs : a.short) (h : AkO w lo hi cs a) :
    Calls Try.prog 33 #[.agg cs.toArray] w fun e w' => ∃ cs', e = .returned (.agg cs'.toArray) ∧ AkO w' w.heap.size w'.heap.size cs' a ∧ Below w.heap.size w w' := by
  obtain ⟨px, pz, rfl, h0⟩ := h
  obtain ⟨i0, hi0, hz0, hz1, hz2⟩ := info_parts infoLink
  have hl := hs.1.1
  have hBB : Below w.heap.size w (((w.alloc (.cells #[.slice px a.tk.length pz, .string a.me, .string a.pa] 65)).alloc (.cells #[.slice none 0 0, .string ⟨#[]⟩, .string ⟨#[]⟩] 65)).alloc (.cells #[] 75)) := (((Below.refl _ w).alloc (Nat.le_refl _) _).alloc (by simp) _).alloc (by simp; omega) _
  have F1 := ((Three.new w (.slice px a.tk.length pz) (.string a.me) (.string a.pa) 65).below ((Below.refl _ _).alloc (Nat.le_refl _) (.cells #[.slice none 0 0, .string ⟨#[]⟩, .string ⟨#[]⟩] 65))).below ((Below.refl _ _).alloc (Nat.le_refl _) (.cells #[] 75))
  have F2 := (Three.at (w.alloc (.cells #[.slice px a.tk.length pz, .string a.me, .string a.pa] 65)) (.slice none 0 0) (.string ⟨#[]⟩) (.string ⟨#[]⟩) 65 (k := w.heap.size + 1) (by simp)).below ((Below.refl _ _).alloc (Nat.le_refl _) (.cells #[] 75))
  have r0 := row_void0 ((w.alloc (.cells #[.slice px a.tk.length pz, .string a.me, .string a.pa] 65)).alloc (.cells #[.slice none 0 0, .string ⟨#[]⟩, .string ⟨#[]⟩] 65)) 75 5 (w.heap.size + 1 + 1) (base := w.heap.size + 1 + 1) (by simp) (by simp)
  have hsrc := (h0.below hBB).src
  obtain ⟨a0, a1, a2⟩ := F1.c
  go_enter Try.func33, Try.ntmps33
  go_wp2_with (at_builtin; refine wpList_append_rd rfl _ _ 63 rfl (w.heap.size + 1 + 1) 75 i0 _ 5 56 Try.underlying63 hi0 hz0 hz1 hz2 rfl (by decide) _ _ 0 a.tk.length [] (a.tk.flatMap Lk.cells) rfl r0 rfl hsrc cells_one3 (by unfold maxLen; omega) (by omega) (by simp) ?_; intro v1 w1 hown1 hg1; clear a0 a1 a2; rw [Nat.zero_add, List.nil_append] at hown1; obtain ⟨x1, z1, rfl⟩ := RoO.len (RoO.of hown1); replace F1 := kept_three F1 hg1 (by omega); replace F2 := kept_three F2 hg1 (by omega); obtain ⟨a0, a1, a2⟩ := F1.c; have f0 := F1.f 0; have G1 := F1.s0 (.slice x1 a.tk.length z1); have G2 := F2.other (k' := w.heap.size) (by omega) 0 (.slice x1 a.tk.length z1); obtain ⟨c0, c1, c2⟩ := G1.c; obtain ⟨b0, b1, b2⟩ := G2.c; have g0 := G2.f 0; have g1 := G2.f 1; have g2 := G2.f 2)
  have hBW : Below w.heap.size w w1 := below_app hBB r0 hg1 (by omega) (by simp; omega)
  have hs1 := hBW.size
  have G := ((G2.s0 (.slice x1 a.tk.length z1)).s1 (.string a.me)).s2 (.string a.pa)
  have hown2 := ownsRow_setCell_below hown1 (a := ⟨w.heap.size, 0, none⟩) (by simp; omega) (.slice x1 a.tk.length z1)
  have hown3 := row_three hown2 (k := w.heap.size + 1) (by omega) (.slice x1 a.tk.length z1) (.string a.me) (.string a.pa)
  have hBE := below_three (hBW.setCell (p := ⟨w.heap.size, 0, none⟩) (Nat.le_refl _) (.slice x1 a.tk.length z1)) (k := w.heap.size + 1) (by omega) (.slice x1 a.tk.length z1) (.string a.me) (.string a.pa)
  obtain ⟨d0, d1, d2⟩ := G.c
  exact bodyPost_ret (v := .agg #[.slice x1 a.tk.length z1, .string a.me, .string a.pa]) (by simp [results, Try.results33, go_sem, d0, d1, d2]) rfl ⟨_, rfl, ⟨_, _, rfl, (RoO.of hown3).mono (by omega) (Nat.le_refl _)⟩, hBE⟩

theorem cell_six_w (w : World) (x0 x1 x2 x3 x4 x5 : Value) : ∀ j u, [x0, x1, x2, x3, x4, x5][j]? = some u → (w.alloc (.cells #[x0, x1, x2, x3, x4, x5] 67)).cell? ((⟨w.heap.size, 0, none⟩ : Addr).add j) = some u := by
  intro j u hu
  rw [Addr.add_lit, Nat.zero_add]
  have hj : j < 6 := by
    have := (List.getElem?_eq_some_iff.1 hu).1
    simpa using this
  obtain ⟨c0, c1, c2, c3, c4, c5⟩ := (Six.new w x0 x1 x2 x3 x4 x5 67).c
  match j, hj with
  | 0, _ => rw [c0]; exact hu
  | 1, _ => rw [c1]; exact hu
  | 2, _ => rw [c2]; exact hu
  | 3, _ => rw [c3]; exact hu
  | 4, _ => rw [c4]; exact hu
  | 5, _ => rw [c5]; exact hu

set_option maxHeartbeats 16000000 in
set_option maxRecDepth 100000 in
theorem specDelivered_any (cs : List Value) (m : Ms) (q : ByteArray) (w : World) {base top : Nat} (hs : m.short) (h : MsO w base top cs m) :
    Calls Try.prog 11 #[.agg cs.toArray, .string q] w fun e w' => ∃ v', e = .returned (.tuple #[v', .bool (msB m)]) ∧ GsO 67 6 DvO w' w.heap.size w'.heap.size v' (dlX m q) ∧ Below w.heap.size w w' := by
  have hM := h.a
  obtain ⟨p1a, p1b, p1c, p1d, p1e, p1f, p2x, p2z, p3x, p3z, p4x, p4z, m1, m2, m3, rfl, _, _, _, _, h1, h2, h3, h4⟩ := h
  obtain ⟨i0, hi, hz0, hz1, hz2⟩ := info_parts infoDelivery
  have hsl := hs.2.2.2.1
  have hsd0 := hs.2.2.2.2
  have hBB : Below w.heap.size w (w.alloc (.cells #[.int .i64 m.now, .slice p1a m.iss.ws.length p1b, .int .i64 m.iss.nx, .slice p1c m.iss.rv.length p1d, .slice p1e m.iss.sg.length p1f, .slice p2x m.vs.length p2z, .slice p3x m.sc.length p3z, .slice p4x m.dl.length p4z] 31)) := (Below.refl _ w).alloc (Nat.le_refl _) _
  have F := Eight.new w (.int .i64 m.now) (.slice p1a m.iss.ws.length p1b) (.int .i64 m.iss.nx) (.slice p1c m.iss.rv.length p1d) (.slice p1e m.iss.sg.length p1f) (.slice p2x m.vs.length p2z) (.slice p3x m.sc.length p3z) (.slice p4x m.dl.length p4z) 31
  obtain ⟨ok, HO⟩ : ∃ ok, Hid (msB m = ok) := ⟨_, hid rfl⟩
  cases ok
  · go_enter Try.func11, Try.ntmps11
    go_wp2_with fail
    generalize w.alloc (.cells #[.int .i64 m.now, .slice p1a m.iss.ws.length p1b, .int .i64 m.iss.nx, .slice p1c m.iss.rv.length p1d, .slice p1e m.iss.sg.length p1f, .slice p2x m.vs.length p2z, .slice p3x m.sc.length p3z, .slice p4x m.dl.length p4z] 31) = W0 at *
    refine (l8Said_any _ m _ (hM.below hBB)).mono ?_
    rintro e w1 ⟨rfl, hB1⟩
    rw [HO.out]
    go_wp2_with fail
    go_ret2
    exact ⟨_, ret_bl HO.out.symm, by rw [dl_no q HO.out]; exact GsO.empty _ _ _ _ _ _, below_one hBB hB1⟩
  go_enter Try.func11, Try.ntmps11
  go_wp2_with fail
  generalize w.alloc (.cells #[.int .i64 m.now, .slice p1a m.iss.ws.length p1b, .int .i64 m.iss.nx, .slice p1c m.iss.rv.length p1d, .slice p1e m.iss.sg.length p1f, .slice p2x m.vs.length p2z, .slice p3x m.sc.length p3z, .slice p4x m.dl.length p4z] 31) = W0 at *
  refine (l8Said_any _ m _ (hM.below hBB)).mono ?_
  rintro e w1 ⟨rfl, hB1⟩
  rw [HO.out]
  replace F := F.below hB1
  replace hBB := below_one hBB hB1
  clear hB1
  obtain ⟨a0, a1, a2, a3, a4, a5, a6, a7⟩ := F.c
  go_wp2_with fail
  clear a0 a1 a2 a3 a4 a5 a6 a7
  go_loopw [6, 15] (fun o i wr => ∃ n : Nat, n ≤ m.dl.length ∧ i = .int .i64 n ∧ GsO 67 6 DvO wr w1.heap.size wr.heap.size o (dlTo m q n) ∧ Below w1.heap.size w1 wr) (fun _ i _ => m.dl.length - (intOf i).toNat)
  case atStart => exact ⟨0, Nat.zero_le _, rfl, by rw [dlTo_zero]; exact GsO.empty _ _ _ _ _ _, Below.refl _ _⟩
  case round =>
    obtain ⟨n, hn, rfl, hG, hB⟩ := hrel
    have hBw := below_one hBB hB
    by_cases hlt : n < m.dl.length
    · obtain ⟨b, cd, lo, hi', hbe, _, hb, hcap, hq, hA⟩ := (GsO.mid h4 (fun _ _ _ _ h _ => h.below hBw) (Mid.of_below (lo := 0) (hi := 0) hBw) (.inl (Nat.zero_le _))).at hlt
      subst hbe
      obtain ⟨dx, dz, hcd, hAk⟩ := hA
      subst hcd
      have q0 := hq 0 _ rfl
      have q1 := hq 1 _ rfl
      have q2 := hq 2 _ rfl
      have q3 := hq 3 _ rfl
      have q4 := hq 4 _ rfl
      have q5 := hq 5 _ rfl
      rw [Nat.add_zero] at q0
      have hsd := (hsd0 m.dl[n] (List.getElem_mem hlt)).2
      have hll := dlTo_len m q n
      have HH := hid (fun he => dlTo_hit (m := m) (q := q) hlt he)
      have HMM := hid (fun he => dlTo_miss (m := m) (q := q) hlt he)
      generalize m.dl[n] = d at *
      obtain ⟨lx, HLX⟩ : ∃ l, Hid (l = dlTo m q n) := ⟨_, hid rfl⟩
      rw [← HLX.out] at hG hll
      have hBa : Below wr.heap.size wr (wr.alloc (.cells #[.string d.at_, .slice dx d.ak.tk.length dz, .string d.ak.me, .string d.ak.pa, .int .i64 d.ver, .int .i64 d.tim] 67)) := (Below.refl _ wr).alloc (Nat.le_refl _) _
      have S6 := Six.new wr (.string d.at_) (.slice dx d.ak.tk.length dz) (.string d.ak.me) (.string d.ak.pa) (.int .i64 d.ver) (.int .i64 d.tim) 67
      clear hq h4
      have hTk : RoO 75 5 wr lo hi' (.slice dx d.ak.tk.length dz) d.ak.tk.length (d.ak.tk.flatMap Lk.cells) := by
        obtain ⟨_, _, he, h9⟩ := id hAk
        cases he
        exact h9
      cases e1 : (d.at_.toList == q.toList)
      · have HE := hid (show lx = dlTo m q (n + 1) by rw [HMM.out e1, HLX.out])
        clear HH HMM HLX
        go_wp2_with fail
        generalize wr.alloc (.cells #[.string d.at_, .slice dx d.ak.tk.length dz, .string d.ak.me, .string d.ak.pa, .int .i64 d.ver, .int .i64 d.tim] 67) = Wr at *
        have hG2 : GsO 67 6 DvO Wr w1.heap.size Wr.heap.size _ lx := GsO.mono (GsO.mid hG (fun _ _ _ _ h _ => h.below hBa) (Mid.of_below (lo := 0) (hi := 0) hBa) (.inl (Nat.zero_le _))) (Nat.le_refl _) hBa.size
        go_roundw
        case rel => exact ⟨n + 1, by omega, by go_num, by rw [← HE.out]; exact hG2, below_one hB hBa⟩
        case measure => simp [intOf]; omega
      · have HE := hid (show lx ++ [d] = dlTo m q (n + 1) by rw [HH.out e1, HLX.out])
        clear HH HMM HLX
        go_wp2_with fail
        generalize wr.alloc (.cells #[.string d.at_, .slice dx d.ak.tk.length dz, .string d.ak.me, .string d.ak.pa, .int .i64 d.ver, .int .i64 d.tim] 67) = Wr at *
        have hza : wr.heap.size < Wr.heap.size := S6.lt
        refine (l8OwnAsk_any _ d.ak _ _ _ hsd (hAk.below hBa)).mono ?_
        rintro e w2 ⟨cs2, rfl, hO2, hBc⟩
        obtain ⟨rx, rz, hcs2, _⟩ := id hO2
        subst hcs2
        replace S6 := S6.below hBc
        have hB2 := below_one hBa hBc
        have hsz2 := hBc.size
        have M2 : Mid wr.heap.size (wr.heap.size + 1) w2 (((w2.setCell ⟨wr.heap.size, 1, none⟩ (.slice rx d.ak.tk.length rz)).setCell ⟨wr.heap.size, 2, none⟩ (.string d.ak.me)).setCell ⟨wr.heap.size, 3, none⟩ (.string d.ak.pa)) := ((((Mid.of_below (Below.refl _ _)).set (p := ⟨wr.heap.size, 1, none⟩) (by simp) (by simp) (.slice rx d.ak.tk.length rz)).set (p := ⟨wr.heap.size, 2, none⟩) (by simp) (by simp) (.string d.ak.me)).set (p := ⟨wr.heap.size, 3, none⟩) (by simp) (by simp) (.string d.ak.pa))
        have hO3 : AkO (((w2.setCell ⟨wr.heap.size, 1, none⟩ (.slice rx d.ak.tk.length rz)).setCell ⟨wr.heap.size, 2, none⟩ (.string d.ak.me)).setCell ⟨wr.heap.size, 3, none⟩ (.string d.ak.pa)) Wr.heap.size w2.heap.size [.slice rx d.ak.tk.length rz, .string d.ak.me, .string d.ak.pa] d.ak := hO2.mid M2 (.inl (by omega))
        have hB3 : Below wr.heap.size wr (((w2.setCell ⟨wr.heap.size, 1, none⟩ (.slice rx d.ak.tk.length rz)).setCell ⟨wr.heap.size, 2, none⟩ (.string d.ak.me)).setCell ⟨wr.heap.size, 3, none⟩ (.string d.ak.pa)) := (((hB2.setCell (p := ⟨wr.heap.size, 1, none⟩) (by simp) (.slice rx d.ak.tk.length rz)).setCell (p := ⟨wr.heap.size, 2, none⟩) (by simp) (.string d.ak.me)).setCell (p := ⟨wr.heap.size, 3, none⟩) (by simp) (.string d.ak.pa))
        have hz3 : (((w2.setCell ⟨wr.heap.size, 1, none⟩ (.slice rx d.ak.tk.length rz)).setCell ⟨wr.heap.size, 2, none⟩ (.string d.ak.me)).setCell ⟨wr.heap.size, 3, none⟩ (.string d.ak.pa)).heap.size = w2.heap.size := by simp
        have G6 := (((S6.s1 (.slice rx d.ak.tk.length rz)).s2 (.string d.ak.me)).s3 (.string d.ak.pa))
        obtain ⟨s0, s1, s2, s3, s4, s5⟩ := S6.c
        obtain ⟨g0, g1, g2, g3, g4, g5⟩ := G6.c
        have f1 := S6.f 1
        have f2 := S6.f 2
        have f3 := S6.f 3
        have hn3 : DvO (((w2.setCell ⟨wr.heap.size, 1, none⟩ (.slice rx d.ak.tk.length rz)).setCell ⟨wr.heap.size, 2, none⟩ (.string d.ak.me)).setCell ⟨wr.heap.size, 3, none⟩ (.string d.ak.pa)) wr.heap.size (((w2.setCell ⟨wr.heap.size, 1, none⟩ (.slice rx d.ak.tk.length rz)).setCell ⟨wr.heap.size, 2, none⟩ (.string d.ak.me)).setCell ⟨wr.heap.size, 3, none⟩ (.string d.ak.pa)).heap.size [.string d.at_, .slice rx d.ak.tk.length rz, .string d.ak.me, .string d.ak.pa, .int .i64 d.ver, .int .i64 d.tim] d := ⟨_, _, rfl, hO3.mono (by omega) (by omega)⟩
        obtain ⟨ys, cz, sz, tz, hK⟩ := hG
        have HA := hid (fun (w5 : World) (v' : Value) (tmp : Obj) => GsK.app (x := d) (w3 := w5) (v' := v') (tmp := tmp) hK hB.size hB3 rfl (fun _ _ _ _ _ _ _ M h ho => h.mid M ho) (fun _ _ _ _ h => h.below hB3) hn3)
        have hrow2 := ownsRow_below hK.row hB3
        have hBY := below_one hB hB3
        have hzY := hBY.size
        have HZ3 := hid hz3
        clear hK hO2 hO3 hn3 hAk hTk hBa hBc hB2 M2 hB3 hz3 S6 G6 q0 q1 q2 q3 q4 q5
        generalize hw3 : (((w2.setCell ⟨wr.heap.size, 1, none⟩ (.slice rx d.ak.tk.length rz)).setCell ⟨wr.heap.size, 2, none⟩ (.string d.ak.me)).setCell ⟨wr.heap.size, 3, none⟩ (.string d.ak.pa)) = w3 at *
        go_wp2_with (at_builtin; refine wpList_append_own_at _ rfl _ _ 29 rfl w1.heap.size 67 i0 _ 6 88 Try.underlying29 hi hz0 hz1 hz2 rfl (by decide) _ _ _ rfl (hrow2.alloc _) ⟨w3.heap.size, 0, none⟩ 1 1 [.string d.at_, .slice rx d.ak.tk.length rz, .string d.ak.me, .string d.ak.pa, .int .i64 d.ver, .int .i64 d.tim] rfl rfl (cell_six_w w3 _ _ _ _ _ _) (by intro u hu; simp at hu; rcases hu with rfl | rfl | rfl | rfl | rfl | rfl <;> rfl) (by unfold maxLen; omega) (by omega) (by simp; omega) ?_; intro v5 w5 hown5 hg5 _ hat5)
        have hBE : Below w1.heap.size w1 w5 := hBY.trans (below_appended hzY hrow2 hg5)
        have HG := hid (HA.out w5 v5 _ hown5 hg5 hat5)
        clear HA hown5 hg5 hat5 hrow2 hBY HZ3
        go_wp2_with fail
        go_roundw
        case rel => exact ⟨n + 1, by omega, by go_num, by rw [← HE.out]; exact HG.out, hBE⟩
        case measure => simp [intOf]; omega
    · obtain rfl : n = m.dl.length := by omega
      have hsz := hBB.size
      go_wp2_with fail
      go_ret2
      exact ⟨_, ret_bl HO.out.symm, by rw [dl_end q HO.out]; exact GsO.mono hG hsz (Nat.le_refl _), hBw⟩

set_option maxHeartbeats 16000000 in
set_option maxRecDepth 100000 in
theorem implDelivered_any (cs : List Value) (m : Ms) (q : ByteArray) (w : World) {base top : Nat} (hs : m.short) (h : MsO w base top cs m) :
    Calls Try.prog 13 #[.agg cs.toArray, .string q] w fun e w' => ∃ v', e = .returned (.tuple #[v', .bool (msB m)]) ∧ GsO 67 6 DvO w' w.heap.size w'.heap.size v' (dlX m q) ∧ Below w.heap.size w w' := by
  have hM := h.a
  obtain ⟨p1a, p1b, p1c, p1d, p1e, p1f, p2x, p2z, p3x, p3z, p4x, p4z, m1, m2, m3, rfl, _, _, _, _, h1, h2, h3, h4⟩ := h
  obtain ⟨i0, hi, hz0, hz1, hz2⟩ := info_parts infoDelivery
  have hsl := hs.2.2.2.1
  have hsd0 := hs.2.2.2.2
  have hBB : Below w.heap.size w (w.alloc (.cells #[.int .i64 m.now, .slice p1a m.iss.ws.length p1b, .int .i64 m.iss.nx, .slice p1c m.iss.rv.length p1d, .slice p1e m.iss.sg.length p1f, .slice p2x m.vs.length p2z, .slice p3x m.sc.length p3z, .slice p4x m.dl.length p4z] 31)) := (Below.refl _ w).alloc (Nat.le_refl _) _
  have F := Eight.new w (.int .i64 m.now) (.slice p1a m.iss.ws.length p1b) (.int .i64 m.iss.nx) (.slice p1c m.iss.rv.length p1d) (.slice p1e m.iss.sg.length p1f) (.slice p2x m.vs.length p2z) (.slice p3x m.sc.length p3z) (.slice p4x m.dl.length p4z) 31
  obtain ⟨ok, HO⟩ : ∃ ok, Hid (msB m = ok) := ⟨_, hid rfl⟩
  cases ok
  · go_enter Try.func13, Try.ntmps13
    go_wp2_with fail
    generalize w.alloc (.cells #[.int .i64 m.now, .slice p1a m.iss.ws.length p1b, .int .i64 m.iss.nx, .slice p1c m.iss.rv.length p1d, .slice p1e m.iss.sg.length p1f, .slice p2x m.vs.length p2z, .slice p3x m.sc.length p3z, .slice p4x m.dl.length p4z] 31) = W0 at *
    refine (fitsMesh_any _ m _ (hM.below hBB)).mono ?_
    rintro e w1 ⟨rfl, hB1⟩
    rw [HO.out]
    go_wp2_with fail
    go_ret2
    exact ⟨_, ret_bl HO.out.symm, by rw [dl_no q HO.out]; exact GsO.empty _ _ _ _ _ _, below_one hBB hB1⟩
  go_enter Try.func13, Try.ntmps13
  go_wp2_with fail
  generalize w.alloc (.cells #[.int .i64 m.now, .slice p1a m.iss.ws.length p1b, .int .i64 m.iss.nx, .slice p1c m.iss.rv.length p1d, .slice p1e m.iss.sg.length p1f, .slice p2x m.vs.length p2z, .slice p3x m.sc.length p3z, .slice p4x m.dl.length p4z] 31) = W0 at *
  refine (fitsMesh_any _ m _ (hM.below hBB)).mono ?_
  rintro e w1 ⟨rfl, hB1⟩
  rw [HO.out]
  replace F := F.below hB1
  replace hBB := below_one hBB hB1
  clear hB1
  obtain ⟨a0, a1, a2, a3, a4, a5, a6, a7⟩ := F.c
  go_wp2_with fail
  clear a0 a1 a2 a3 a4 a5 a6 a7
  go_loopw [6, 15] (fun o i wr => ∃ n : Nat, n ≤ m.dl.length ∧ i = .int .i64 n ∧ GsO 67 6 DvO wr w1.heap.size wr.heap.size o (dlTo m q n) ∧ Below w1.heap.size w1 wr) (fun _ i _ => m.dl.length - (intOf i).toNat)
  case atStart => exact ⟨0, Nat.zero_le _, rfl, by rw [dlTo_zero]; exact GsO.empty _ _ _ _ _ _, Below.refl _ _⟩
  case round =>
    obtain ⟨n, hn, rfl, hG, hB⟩ := hrel
    have hBw := below_one hBB hB
    by_cases hlt : n < m.dl.length
    · obtain ⟨b, cd, lo, hi', hbe, _, hb, hcap, hq, hA⟩ := (GsO.mid h4 (fun _ _ _ _ h _ => h.below hBw) (Mid.of_below (lo := 0) (hi := 0) hBw) (.inl (Nat.zero_le _))).at hlt
      subst hbe
      obtain ⟨dx, dz, hcd, hAk⟩ := hA
      subst hcd
      have q0 := hq 0 _ rfl
      have q1 := hq 1 _ rfl
      have q2 := hq 2 _ rfl
      have q3 := hq 3 _ rfl
      have q4 := hq 4 _ rfl
      have q5 := hq 5 _ rfl
      rw [Nat.add_zero] at q0
      have hsd := (hsd0 m.dl[n] (List.getElem_mem hlt)).2
      have hll := dlTo_len m q n
      have HH := hid (fun he => dlTo_hit (m := m) (q := q) hlt he)
      have HMM := hid (fun he => dlTo_miss (m := m) (q := q) hlt he)
      generalize m.dl[n] = d at *
      obtain ⟨lx, HLX⟩ : ∃ l, Hid (l = dlTo m q n) := ⟨_, hid rfl⟩
      rw [← HLX.out] at hG hll
      have hBa : Below wr.heap.size wr (wr.alloc (.cells #[.string d.at_, .slice dx d.ak.tk.length dz, .string d.ak.me, .string d.ak.pa, .int .i64 d.ver, .int .i64 d.tim] 67)) := (Below.refl _ wr).alloc (Nat.le_refl _) _
      have S6 := Six.new wr (.string d.at_) (.slice dx d.ak.tk.length dz) (.string d.ak.me) (.string d.ak.pa) (.int .i64 d.ver) (.int .i64 d.tim) 67
      clear hq h4
      have hTk : RoO 75 5 wr lo hi' (.slice dx d.ak.tk.length dz) d.ak.tk.length (d.ak.tk.flatMap Lk.cells) := by
        obtain ⟨_, _, he, h9⟩ := id hAk
        cases he
        exact h9
      cases e1 : (d.at_.toList == q.toList)
      · have HE := hid (show lx = dlTo m q (n + 1) by rw [HMM.out e1, HLX.out])
        clear HH HMM HLX
        go_wp2_with fail
        generalize wr.alloc (.cells #[.string d.at_, .slice dx d.ak.tk.length dz, .string d.ak.me, .string d.ak.pa, .int .i64 d.ver, .int .i64 d.tim] 67) = Wr at *
        have hG2 : GsO 67 6 DvO Wr w1.heap.size Wr.heap.size _ lx := GsO.mono (GsO.mid hG (fun _ _ _ _ h _ => h.below hBa) (Mid.of_below (lo := 0) (hi := 0) hBa) (.inl (Nat.zero_le _))) (Nat.le_refl _) hBa.size
        go_roundw
        case rel => exact ⟨n + 1, by omega, by go_num, by rw [← HE.out]; exact hG2, below_one hB hBa⟩
        case measure => simp [intOf]; omega
      · have HE := hid (show lx ++ [d] = dlTo m q (n + 1) by rw [HH.out e1, HLX.out])
        clear HH HMM HLX
        go_wp2_with fail
        generalize wr.alloc (.cells #[.string d.at_, .slice dx d.ak.tk.length dz, .string d.ak.me, .string d.ak.pa, .int .i64 d.ver, .int .i64 d.tim] 67) = Wr at *
        have hza : wr.heap.size < Wr.heap.size := S6.lt
        refine (cloneLk_any _ d.ak.tk _ _ _ (Nat.le_succ_of_le hsd.1.1) (hTk.below hBa)).mono ?_
        rintro e w2 ⟨v2, rfl, hO2', hBc⟩
        obtain ⟨rx, rz, rfl⟩ := RoO.len (RoO.of hO2')
        have hO2 : AkO w2 Wr.heap.size w2.heap.size [.slice rx d.ak.tk.length rz, .string d.ak.me, .string d.ak.pa] d.ak := ⟨_, _, rfl, RoO.of hO2'⟩
        replace S6 := S6.below hBc
        have hB2 := below_one hBa hBc
        have hsz2 := hBc.size
        have M2 : Mid wr.heap.size (wr.heap.size + 1) w2 (w2.setCell ⟨wr.heap.size, 1, none⟩ (.slice rx d.ak.tk.length rz)) := ((Mid.of_below (Below.refl _ _)).set (p := ⟨wr.heap.size, 1, none⟩) (by simp) (by simp) (.slice rx d.ak.tk.length rz))
        have hO3 : AkO (w2.setCell ⟨wr.heap.size, 1, none⟩ (.slice rx d.ak.tk.length rz)) Wr.heap.size w2.heap.size [.slice rx d.ak.tk.length rz, .string d.ak.me, .string d.ak.pa] d.ak := hO2.mid M2 (.inl (by omega))
        have hB3 : Below wr.heap.size wr (w2.setCell ⟨wr.heap.size, 1, none⟩ (.slice rx d.ak.tk.length rz)) := (hB2.setCell (p := ⟨wr.heap.size, 1, none⟩) (by simp) (.slice rx d.ak.tk.length rz))
        have hz3 : (w2.setCell ⟨wr.heap.size, 1, none⟩ (.slice rx d.ak.tk.length rz)).heap.size = w2.heap.size := by simp
        have G6 := (S6.s1 (.slice rx d.ak.tk.length rz))
        obtain ⟨s0, s1, s2, s3, s4, s5⟩ := S6.c
        obtain ⟨g0, g1, g2, g3, g4, g5⟩ := G6.c
        have f1 := S6.f 1
        have f2 := S6.f 2
        have f3 := S6.f 3
        have hn3 : DvO (w2.setCell ⟨wr.heap.size, 1, none⟩ (.slice rx d.ak.tk.length rz)) wr.heap.size (w2.setCell ⟨wr.heap.size, 1, none⟩ (.slice rx d.ak.tk.length rz)).heap.size [.string d.at_, .slice rx d.ak.tk.length rz, .string d.ak.me, .string d.ak.pa, .int .i64 d.ver, .int .i64 d.tim] d := ⟨_, _, rfl, hO3.mono (by omega) (by omega)⟩
        obtain ⟨ys, cz, sz, tz, hK⟩ := hG
        have HA := hid (fun (w5 : World) (v' : Value) (tmp : Obj) => GsK.app (x := d) (w3 := w5) (v' := v') (tmp := tmp) hK hB.size hB3 rfl (fun _ _ _ _ _ _ _ M h ho => h.mid M ho) (fun _ _ _ _ h => h.below hB3) hn3)
        have hrow2 := ownsRow_below hK.row hB3
        have hBY := below_one hB hB3
        have hzY := hBY.size
        have HZ3 := hid hz3
        clear hK hO2 hO3 hn3 hAk hTk hBa hBc hB2 M2 hB3 hz3 S6 G6 q0 q1 q2 q3 q4 q5
        generalize hw3 : (w2.setCell ⟨wr.heap.size, 1, none⟩ (.slice rx d.ak.tk.length rz)) = w3 at *
        go_wp2_with (at_builtin; refine wpList_append_own_at _ rfl _ _ 29 rfl w1.heap.size 67 i0 _ 6 88 Try.underlying29 hi hz0 hz1 hz2 rfl (by decide) _ _ _ rfl (hrow2.alloc _) ⟨w3.heap.size, 0, none⟩ 1 1 [.string d.at_, .slice rx d.ak.tk.length rz, .string d.ak.me, .string d.ak.pa, .int .i64 d.ver, .int .i64 d.tim] rfl rfl (cell_six_w w3 _ _ _ _ _ _) (by intro u hu; simp at hu; rcases hu with rfl | rfl | rfl | rfl | rfl | rfl <;> rfl) (by unfold maxLen; omega) (by omega) (by simp; omega) ?_; intro v5 w5 hown5 hg5 _ hat5)
        have hBE : Below w1.heap.size w1 w5 := hBY.trans (below_appended hzY hrow2 hg5)
        have HG := hid (HA.out w5 v5 _ hown5 hg5 hat5)
        clear HA hown5 hg5 hat5 hrow2 hBY HZ3
        go_wp2_with fail
        go_roundw
        case rel => exact ⟨n + 1, by omega, by go_num, by rw [← HE.out]; exact HG.out, hBE⟩
        case measure => simp [intOf]; omega
    · obtain rfl : n = m.dl.length := by omega
      have hsz := hBB.size
      go_wp2_with fail
      go_ret2
      exact ⟨_, ret_bl HO.out.symm, by rw [dl_end q HO.out]; exact GsO.mono hG hsz (Nat.le_refl _), hBw⟩

end Go.Proofs.Ytnbojbcljfiamaa

namespace Go.Proofs.Ytnbojbcljfiamaa
open Go.RowKit Go.Shelf

def Ms.many (m : Ms) : Nat := m.iss.many + mvTo m.vs m.vs.length + gzTo Sc.many m.sc m.sc.length + gzTo Dv.many m.dl m.dl.length
theorem gz_five {X : Type} (f g : X → Nat) (h : ∀ x, g x ≤ 5 * f x + 5) (xs : List X) : gzTo g xs xs.length ≤ 5 * gzAll f xs := by
  have : ∀ l : List X, (l.map g).sum ≤ 5 * l.length + 5 * (l.map f).sum := by
    intro l
    induction l with
    | nil => simp
    | cons x r ih =>
      rw [List.map_cons, List.map_cons, List.sum_cons, List.sum_cons, List.length_cons]
      have := h x
      omega
  unfold gzAll gzTo
  rw [List.take_length]
  have := this xs
  omega
theorem Ak.many_le (a : Ak) : a.many ≤ 5 * a.size + 5 := by
  unfold Ak.many Ak.size lzAll
  omega
theorem Dv.many_le (d : Dv) : d.many ≤ 5 * d.size + 5 := by
  unfold Dv.many Dv.size Ak.size lzAll
  omega
theorem Sc.many_le (c : Sc) : c.many ≤ 5 * c.size + 5 := by
  have := gz_five Ak.size Ak.many Ak.many_le c.qu
  unfold Sc.many Sc.size Sd.size Sn.size szAll rczAll
  omega
theorem Ms.many_le {m : Ms} (h : m.size ≤ 1048576) : 1 + m.many ≤ 8000000 := by
  have h1 := mvTo_size m.vs
  have h2 := gz_five Sc.size Sc.many Sc.many_le m.sc
  have h3 := gz_five Dv.size Dv.many Dv.many_le m.dl
  unfold Ms.size Is.size wzAll tzAll at h
  unfold Ms.many Is.many
  omega
/-- Deliveries of one's own. -/
def DlO (w : World) (base top : Nat) (v : Value) (l : List Dv) : Prop := GsO 67 6 DvO w base top v l
theorem DlO.below {w w1 : World} {base top : Nat} {v : Value} {l : List Dv} (h : DlO w base top v l) (hB : Below w.heap.size w w1) : DlO w1 base top v l := GsO.mid h (fun _ _ _ _ h _ => h.below hB) (Mid.of_below (lo := 0) (hi := 0) hB) (.inl (Nat.zero_le _))
theorem Mid.dlo {lo hi : Nat} {w w1 : World} (M : Mid lo hi w w1) {base top : Nat} {v : Value} {l : List Dv} (h : DlO w base top v l) (ho : hi ≤ base ∨ top ≤ lo) : DlO w1 base top v l := GsO.mid h (fun _ _ _ _ h ho => h.mid M ho) M ho
theorem DlO.a {w : World} {base top : Nat} {v : Value} {l : List Dv} (h : DlO w base top v l) : GsA 6 DvC w v l := GsO.a (fun _ _ _ _ h => h.a) h
theorem Mid.mso {lo hi : Nat} {w w1 : World} (M : Mid lo hi w w1) {base top : Nat} {cs : List Value} {m : Ms} (h : MsO w base top cs m) (ho : hi ≤ base ∨ top ≤ lo) : MsO w1 base top cs m := h.mid M ho
theorem dlX_mem {m : Ms} {q : ByteArray} {d : Dv} (h : d ∈ dlX m q) : d ∈ m.dl := by
  unfold dlX at h
  split at h
  · exact (List.mem_filter.1 h).1
  · cases h
theorem dlX_len (m : Ms) (q : ByteArray) : (dlX m q).length ≤ m.dl.length := by
  unfold dlX
  split
  · exact List.length_filter_le _ _
  · exact Nat.zero_le _
theorem dlX_short {m : Ms} (q : ByteArray) (h : m.short) : gShort Dv.short (dlX m q) := ⟨Nat.le_trans (dlX_len m q) h.2.2.2.1, fun d hd => h.2.2.2.2 d (dlX_mem hd)⟩
theorem sum_filter_le {X : Type} (f : X → Nat) (p : X → Bool) (l : List X) : ((l.filter p).map f).sum ≤ (l.map f).sum := by
  induction l with
  | nil => simp
  | cons x r ih =>
    rw [List.filter_cons]
    split
    · rw [List.map_cons, List.sum_cons, List.map_cons, List.sum_cons]; omega
    · rw [List.map_cons, List.sum_cons]; omega
theorem dlX_many {m : Ms} (q : ByteArray) (h : m.size ≤ 1048576) : 1 + gzTo Dv.many (dlX m q) (dlX m q).length ≤ 8000000 := by
  have h0 := Ms.many_le h
  have h1 : gzTo Dv.many (dlX m q) (dlX m q).length ≤ gzTo Dv.many m.dl m.dl.length := by
    unfold gzTo
    rw [List.take_length, List.take_length]
    unfold dlX
    split
    · exact sum_filter_le _ _ _
    · simp
  unfold Ms.many at h0
  omega

set_option maxHeartbeats 8000000 in
set_option maxRecDepth 100000 in
theorem markMesh_to (cs : List Value) (m : Ms) (k base top : Nat) (w : World) (hs : m.short) (hk : k + m.many ≤ 8000000) (ht : top ≤ w.heap.size) (h : MsO w base top cs m) :
    Calls Try.prog 8 #[.agg cs.toArray, .int .i64 k] w fun e w' => e = .returned (.int .i64 ((k + m.many : Nat) : Int)) ∧ Mid base top w w' := by
  obtain ⟨p1a, p1b, p1c, p1d, p1e, p1f, p2x, p2z, p3x, p3z, p4x, p4z, m1, m2, m3, rfl, l0, l1, l2, l3, h1, h2, h3, h4⟩ := h
  have hBa : Below w.heap.size w (w.alloc (.cells #[.int .i64 m.now, .slice p1a m.iss.ws.length p1b, .int .i64 m.iss.nx, .slice p1c m.iss.rv.length p1d, .slice p1e m.iss.sg.length p1f, .slice p2x m.vs.length p2z, .slice p3x m.sc.length p3z, .slice p4x m.dl.length p4z] 31)) := (Below.refl _ w).alloc (Nat.le_refl _) _
  have F := Eight.new w (.int .i64 m.now) (.slice p1a m.iss.ws.length p1b) (.int .i64 m.iss.nx) (.slice p1c m.iss.rv.length p1d) (.slice p1e m.iss.sg.length p1f) (.slice p2x m.vs.length p2z) (.slice p3x m.sc.length p3z) (.slice p4x m.dl.length p4z) 31
  have HM := hid (show m.many = m.iss.many + mvTo m.vs m.vs.length + gzTo Sc.many m.sc m.sc.length + gzTo Dv.many m.dl m.dl.length from rfl)
  obtain ⟨c1, HC1⟩ : ∃ x, Hid (x = k + m.iss.many) := ⟨_, hid rfl⟩
  obtain ⟨c2, HC2⟩ : ∃ x, Hid (x = c1 + mvTo m.vs m.vs.length) := ⟨_, hid rfl⟩
  obtain ⟨c3, HC3⟩ : ∃ x, Hid (x = c2 + gzTo Sc.many m.sc m.sc.length) := ⟨_, hid rfl⟩
  have hb1 : k + m.iss.many ≤ 8000000 := by have := HM.out; omega
  have hb2 : c1 + mvTo m.vs m.vs.length ≤ 8000000 := by have := HM.out; have := HC1.out; omega
  have hb3 : c2 + gzTo Sc.many m.sc m.sc.length ≤ 8000000 := by have := HM.out; have := HC1.out; have := HC2.out; omega
  have hb4 : c3 + gzTo Dv.many m.dl m.dl.length ≤ 8000000 := by have := HM.out; have := HC1.out; have := HC2.out; have := HC3.out; omega
  have HK := hid (show k + m.many = c3 + gzTo Dv.many m.dl m.dl.length by have := HM.out; have := HC1.out; have := HC2.out; have := HC3.out; omega)
  have MM : Mid base top w (w.alloc (.cells #[.int .i64 m.now, .slice p1a m.iss.ws.length p1b, .int .i64 m.iss.nx, .slice p1c m.iss.rv.length p1d, .slice p1e m.iss.sg.length p1f, .slice p2x m.vs.length p2z, .slice p3x m.sc.length p3z, .slice p4x m.dl.length p4z] 31)) := Mid.of_below hBa
  replace h1 := h1.below hBa
  replace h2 := h2.below hBa
  replace h3 := GsO.mid h3 (fun _ _ _ _ h _ => h.below hBa) (Mid.of_below (lo := 0) (hi := 0) hBa) (.inl (Nat.zero_le _))
  replace h4 := GsO.mid h4 (fun _ _ _ _ h _ => h.below hBa) (Mid.of_below (lo := 0) (hi := 0) hBa) (.inl (Nat.zero_le _))
  have hsz := hBa.size
  clear hBa
  go_enter Try.func8, Try.ntmps8
  go_wp2_with fail
  generalize w.alloc (.cells #[.int .i64 m.now, .slice p1a m.iss.ws.length p1b, .int .i64 m.iss.nx, .slice p1c m.iss.rv.length p1d, .slice p1e m.iss.sg.length p1f, .slice p2x m.vs.length p2z, .slice p3x m.sc.length p3z, .slice p4x m.dl.length p4z] 31) = W0 at *
  refine (markIssuer_any _ m.iss k _ _ _ (Is.short_of hs.1) hb1 (by omega) h1).mono ?_
  rintro e w1 ⟨rfl, _, M1⟩
  rw [← HC1.out]
  replace h2 := M1.sso h2 (by omega)
  replace h3 := GsO.mid h3 (fun _ _ _ _ h ho => h.mid M1 ho) M1 (by omega)
  replace h4 := GsO.mid h4 (fun _ _ _ _ h ho => h.mid M1 ho) M1 (by omega)
  replace F := M1.eight F (by omega)
  replace MM := MM.trans (M1.wide (by omega) (by omega))
  clear M1
  obtain ⟨a0, a1, a2, a3, a4, a5, a6, a7⟩ := F.c
  go_wp2_with fail
  clear a0 a1 a2 a3 a4 a5 a6 a7
  refine (markSnapshotS_any _ m.vs c1 _ _ _ hs.2.1 hb2 h2).mono ?_
  rintro e w2 ⟨rfl, _, M1⟩
  rw [← HC2.out]
  replace h3 := GsO.mid h3 (fun _ _ _ _ h ho => h.mid M1 ho) M1 (by omega)
  replace h4 := GsO.mid h4 (fun _ _ _ _ h ho => h.mid M1 ho) M1 (by omega)
  replace F := M1.eight F (by omega)
  replace MM := MM.trans (M1.wide (by omega) (by omega))
  clear M1
  obtain ⟨a0, a1, a2, a3, a4, a5, a6, a7⟩ := F.c
  go_wp2_with fail
  clear a0 a1 a2 a3 a4 a5 a6 a7
  refine (markSidecarS_to _ m.sc c2 _ _ _ hs.2.2.1 hb3 h3).mono ?_
  rintro e w3 ⟨rfl, M1⟩
  rw [← HC3.out]
  replace h4 := GsO.mid h4 (fun _ _ _ _ h ho => h.mid M1 ho) M1 (by omega)
  replace F := M1.eight F (by omega)
  replace MM := MM.trans (M1.wide (by omega) (by omega))
  clear M1
  obtain ⟨a0, a1, a2, a3, a4, a5, a6, a7⟩ := F.c
  go_wp2_with fail
  clear a0 a1 a2 a3 a4 a5 a6 a7
  refine (markDeliveryS_to _ m.dl c3 _ _ _ hs.2.2.2 hb4 h4).mono ?_
  rintro e w4 ⟨rfl, _, M1⟩
  replace MM := MM.trans (M1.wide (by omega) (by omega))
  go_wp2_with fail
  go_ret
  exact ⟨ret_int (by rw [HK.out]; push_cast; rfl), MM⟩

end Go.Proofs.Ytnbojbcljfiamaa

namespace Go.Proofs.Ytnbojbcljfiamaa.fnExactDeliveredAt
open Go.ChangeShapes Go.WideShapes Go.ChangeAt Go.RowKit Go.Joins Go.Deep Go.Proofs.Ytnbojbcljfiamaa
open Go.ChangeMaps (open_string shut_string)

theorem own : ownKnob Try.prog.godebug = none := by kernel_rfl
theorem laidOut : laidOutB Try.prog = true := by kernel_rfl

set_option maxHeartbeats 32000000 in
set_option maxRecDepth 100000 in
theorem walk (cs : List Value) (m : Ms) (q : ByteArray) (w : World) (hA : MsC w cs m) (hfs : m.fits) (_w1 : q.size ≤ maxLen) :
    Calls Try.prog 4 #[.agg cs.toArray, .string q] w fun e w' => e = .returned (.bool true) ∧ Below w.heap.size w w' := by
  obtain ⟨p1a, p1b, p1c, p1d, p1e, p1f, p2x, p2z, p3x, p3z, p4x, p4z, hcs, _⟩ := id hA
  subst hcs
  have hBB : Below w.heap.size w (w.alloc (.cells #[.int .i64 m.now, .slice p1a m.iss.ws.length p1b, .int .i64 m.iss.nx, .slice p1c m.iss.rv.length p1d, .slice p1e m.iss.sg.length p1f, .slice p2x m.vs.length p2z, .slice p3x m.sc.length p3z, .slice p4x m.dl.length p4z] 43)) := (Below.refl _ w).alloc (Nat.le_refl _) _
  have F := Eight.new w (.int .i64 m.now) (.slice p1a m.iss.ws.length p1b) (.int .i64 m.iss.nx) (.slice p1c m.iss.rv.length p1d) (.slice p1e m.iss.sg.length p1f) (.slice p2x m.vs.length p2z) (.slice p3x m.sc.length p3z) (.slice p4x m.dl.length p4z) 43
  by_cases q4 : q.size ≤ 1048576
  case neg =>
    have dq : decide ((1048576 : Int) < (q.size : Int)) = true := by simp; omega
    go_enter Try.func4, Try.ntmps4
    go_wp2_with fail
    go_ret
    exact ⟨rfl, hBB⟩
  have dq : decide ((1048576 : Int) < (q.size : Int)) = false := by simp; omega
  by_cases hC : m.size ≤ 1048576
  case neg =>
    have HU := hid (show leftK 1048576 m.size = -1 from if_neg (by omega))
    go_enter Try.func4, Try.ntmps4
    go_wp2_with fail
    generalize w.alloc (.cells #[.int .i64 m.now, .slice p1a m.iss.ws.length p1b, .int .i64 m.iss.nx, .slice p1c m.iss.rv.length p1d, .slice p1e m.iss.sg.length p1f, .slice p2x m.vs.length p2z, .slice p3x m.sc.length p3z, .slice p4x m.dl.length p4z] 43) = W0 at *
    refine (szMesh_any _ m _ hfs (hA.below hBB)).mono ?_
    rintro e w1 ⟨rfl, hB1⟩
    rw [HU.out]
    replace hBB := below_one hBB hB1
    go_wp2_with fail
    go_ret
    exact ⟨rfl, hBB⟩
  have HU := hid (show leftK 1048576 m.size = 1048576 - m.size from if_pos (by omega))
  have d1 : decide ((1048576 : Int) - (m.size : Int) < 0) = false := by simp; omega
  have hS := Ms.short_of hC
  have hmm := Ms.many_le hC
  have hLs := dlX_short q hS
  have hLm := dlX_many q hC
  obtain ⟨L, HL⟩ : ∃ L, Hid (L = dlX m q) := ⟨_, hid rfl⟩
  rw [← HL.out] at hLs hLm
  obtain ⟨ok, HO⟩ : ∃ ok, Hid (msB m = ok) := ⟨_, hid rfl⟩
  go_enter Try.func4, Try.ntmps4
  go_wp2_with fail
  generalize w.alloc (.cells #[.int .i64 m.now, .slice p1a m.iss.ws.length p1b, .int .i64 m.iss.nx, .slice p1c m.iss.rv.length p1d, .slice p1e m.iss.sg.length p1f, .slice p2x m.vs.length p2z, .slice p3x m.sc.length p3z, .slice p4x m.dl.length p4z] 43) = W0 at *
  refine (szMesh_any _ m _ hfs (hA.below hBB)).mono ?_
  rintro e w1 ⟨rfl, hB1⟩
  rw [HU.out]
  have z1 := hB1.size
  replace F := F.below hB1
  replace hBB := below_one hBB hB1
  clear hB1
  obtain ⟨a0, a1, a2, a3, a4, a5, a6, a7⟩ := F.c
  go_wp2_with fail
  refine (toMesh_any _ m _ hS (hA.below hBB)).mono ?_
  rintro e w2 ⟨cs2, rfl, O2, hB2⟩
  obtain ⟨y1a, y1b, y1c, y1d, y1e, y1f, y2x, y2z, y3x, y3z, y4x, y4z, hcs2, _⟩ := O2.a
  subst hcs2
  have z2 := hB2.size
  replace F := F.below hB2
  replace hBB := below_one hBB hB2
  clear hB2 a0 a1 a2 a3 a4 a5 a6 a7
  go_wp2_with fail
  refine (specDelivered_any _ m q _ hS O2).mono ?_
  rintro e w3 ⟨v3, he, OW, hB3⟩
  rw [HO.out] at he
  subst he
  rw [← HL.out] at OW
  obtain ⟨x3, y3, rfl⟩ := GsO.len OW
  replace OW : DlO w3 w2.heap.size w3.heap.size _ L := OW
  have z3 := hB3.size
  replace F := F.below hB3
  replace hBB := below_one hBB hB3
  clear hB3 O2
  have z0 := F.lt
  obtain ⟨a0, a1, a2, a3, a4, a5, a6, a7⟩ := F.c
  go_wp2_with fail
  refine (toMesh_any _ m _ hS (hA.below hBB)).mono ?_
  rintro e w4 ⟨cs4, rfl, OX, hB4⟩
  obtain ⟨x1a, x1b, x1c, x1d, x1e, x1f, x2x, x2z, x3x, x3z, x4x, x4z, hcs4, _⟩ := OX.a
  subst hcs4
  have z4 := hB4.size
  replace F := F.below hB4
  replace OW := OW.below hB4
  replace hBB := below_one hBB hB4
  clear hB4 a0 a1 a2 a3 a4 a5 a6 a7
  have hBv : Below w4.heap.size w4 (w4.alloc (.cells #[.int .i64 m.now, .slice x1a m.iss.ws.length x1b, .int .i64 m.iss.nx, .slice x1c m.iss.rv.length x1d, .slice x1e m.iss.sg.length x1f, .slice x2x m.vs.length x2z, .slice x3x m.sc.length x3z, .slice x4x m.dl.length x4z] 31)) := (Below.refl _ w4).alloc (Nat.le_refl _) _
  have FX := Eight.new w4 (.int .i64 m.now) (.slice x1a m.iss.ws.length x1b) (.int .i64 m.iss.nx) (.slice x1c m.iss.rv.length x1d) (.slice x1e m.iss.sg.length x1f) (.slice x2x m.vs.length x2z) (.slice x3x m.sc.length x3z) (.slice x4x m.dl.length x4z) 31
  replace F := F.below hBv
  replace OW := OW.below hBv
  replace OX := OX.below hBv
  replace hBB := below_one hBB hBv
  clear hBv
  obtain ⟨a0, a1, a2, a3, a4, a5, a6, a7⟩ := FX.c
  go_wp2_with fail
  generalize w4.alloc (.cells #[.int .i64 m.now, .slice x1a m.iss.ws.length x1b, .int .i64 m.iss.nx, .slice x1c m.iss.rv.length x1d, .slice x1e m.iss.sg.length x1f, .slice x2x m.vs.length x2z, .slice x3x m.sc.length x3z, .slice x4x m.dl.length x4z] 31) = W4 at *
  generalize w4.heap.size = kx at *
  have zx := FX.lt
  refine (implDelivered_any _ m q _ hS OX).mono ?_
  rintro e w6 ⟨v6, he, OG, hB6⟩
  rw [HO.out] at he
  subst he
  rw [← HL.out] at OG
  obtain ⟨x6, y6, rfl⟩ := GsO.len OG
  replace OG : DlO w6 W4.heap.size w6.heap.size _ L := OG
  have z6 := hB6.size
  replace F := F.below hB6
  replace OW := OW.below hB6
  replace OX := OX.below hB6
  replace FX := FX.below hB6
  replace hBB := below_one hBB hB6
  clear hB6 a0 a1 a2 a3 a4 a5 a6 a7
  have eo : (ok != ok) = false := by simp
  go_wp2_with fail
  refine (eqDeliveryS_same _ _ L _ hLs OG.a OW.a).mono ?_
  rintro e w7 ⟨rfl, hB7⟩
  have z7 := hB7.size
  replace F := F.below hB7
  replace OW := OW.below hB7
  replace OX := OX.below hB7
  replace FX := FX.below hB7
  replace OG := OG.below hB7
  replace hBB := below_one hBB hB7
  clear hB7
  obtain ⟨a0, a1, a2, a3, a4, a5, a6, a7⟩ := F.c
  obtain ⟨b0, b1, b2, b3, b4, b5, b6, b7⟩ := FX.c
  go_wp2_with fail
  refine wp_region_held_drew (S := fun w' => w'.cell? ⟨kx, 0, none⟩ = some (.int .i64 m.now) ∧ w'.cell? ⟨kx, 1, none⟩ = some (.slice x1a m.iss.ws.length x1b) ∧ w'.cell? ⟨kx, 2, none⟩ = some (.int .i64 m.iss.nx) ∧ w'.cell? ⟨kx, 3, none⟩ = some (.slice x1c m.iss.rv.length x1d) ∧ w'.cell? ⟨kx, 4, none⟩ = some (.slice x1e m.iss.sg.length x1f) ∧ w'.cell? ⟨kx, 5, none⟩ = some (.slice x2x m.vs.length x2z) ∧ w'.cell? ⟨kx, 6, none⟩ = some (.slice x3x m.sc.length x3z) ∧ w'.cell? ⟨kx, 7, none⟩ = some (.slice x4x m.dl.length x4z) ∧ w'.cell? ⟨w.heap.size, 0, none⟩ = some (.int .i64 m.now) ∧ w'.cell? ⟨w.heap.size, 1, none⟩ = some (.slice p1a m.iss.ws.length p1b) ∧ w'.cell? ⟨w.heap.size, 2, none⟩ = some (.int .i64 m.iss.nx) ∧ w'.cell? ⟨w.heap.size, 3, none⟩ = some (.slice p1c m.iss.rv.length p1d) ∧ w'.cell? ⟨w.heap.size, 4, none⟩ = some (.slice p1e m.iss.sg.length p1f) ∧ w'.cell? ⟨w.heap.size, 5, none⟩ = some (.slice p2x m.vs.length p2z) ∧ w'.cell? ⟨w.heap.size, 6, none⟩ = some (.slice p3x m.sc.length p3z) ∧ w'.cell? ⟨w.heap.size, 7, none⟩ = some (.slice p4x m.dl.length p4z)) (by kernel_rfl) ?_ (fun hHeld => ?_)
  · go_keep
  refine takeW 0 (v := ?v1) rfl (by kernel_rfl) (by kernel_rfl) (by kernel_rfl) (fun _ _ _ h => h) (by rfl) (by assumption) ?hy1 ?rest1
  case hy1 => intro w' hSw; (try dsimp only at hSw); go_simp; try with_reducible rfl
  try simp only [Act.put, List.setIfInBounds_toArray, List.set_cons_zero, List.set_cons_succ]
  refine takeW 1 (v := ?v2) rfl (by kernel_rfl) (by kernel_rfl) (by kernel_rfl) (fun _ _ _ h => h) (by rfl) (by assumption) ?hy2 ?rest2
  case hy2 => intro w' hSw; (try dsimp only at hSw); go_simp; try with_reducible rfl
  try simp only [Act.put, List.setIfInBounds_toArray, List.set_cons_zero, List.set_cons_succ]
  refine takeC 2 (by kernel_rfl) rfl (fun K hK => ?_)
  go_simp
  refine (toMesh_any _ m _ hS (by exact (hA.below hBB).below (Below.refl _ _).drew)).mono ?_; rintro e w8 ⟨cs9, rfl, O9, hB9⟩; obtain ⟨z1a, z1b, z1c, z1d, z1e, z1f, z2x, z2z, z3x, z3z, z4x, z4z, hcs9, _⟩ := O9.a; subst hcs9; have hcx := fun o => hB9.cell (p := ⟨kx, o, none⟩) (by exact FX.lt); have hca := fun o => hB9.cell (p := ⟨w.heap.size, o, none⟩) (by exact F.lt)
  refine hK.out _ _ ?_ (fun hHeld => ?_)
  · go_keep
  clear hK K
  try simp only [Act.put, List.setIfInBounds_toArray, List.set_cons_zero, List.set_cons_succ]
  refine takeC 3 (by kernel_rfl) rfl (fun K hK => ?_)
  go_simp
  refine (eqMesh_same _ _ m _ hS (by exact (OX.below (below_drew1 hB9)).a) O9.a).mono ?_; rintro e w9 ⟨rfl, hB10⟩; have hcx2 := fun o => hB10.cell (p := ⟨kx, o, none⟩) (by exact Nat.lt_of_lt_of_le FX.lt (below_drew1 hB9).size); have hca2 := fun o => hB10.cell (p := ⟨w.heap.size, o, none⟩) (by exact Nat.lt_of_lt_of_le F.lt (below_drew1 hB9).size)
  refine hK.out _ _ ?_ (fun hHeld => ?_)
  · go_keep
  clear hK K
  try simp only [Act.put, List.setIfInBounds_toArray, List.set_cons_zero, List.set_cons_succ]
  refine takeW 4 (v := ?v3) rfl (by kernel_rfl) (by kernel_rfl) (by kernel_rfl) (fun _ _ _ h => h) (by rfl) (by assumption) ?hy3 ?rest3
  case hy3 => intro w' hSw; (try dsimp only at hSw); go_simp; try with_reducible rfl
  try simp only [Act.put, List.setIfInBounds_toArray, List.set_cons_zero, List.set_cons_succ]
  refine wpAnyH_done (by kernel_rfl) ?_ _
  have hBd : Below w7.heap.size w7 w9 := below_one (below_drew1 hB9) hB10
  have z9 := hBd.size
  clear hcx hca hcx2 hca2 hB9 hB10 hHeld O9 a0 a1 a2 a3 a4 a5 a6 a7 b0 b1 b2 b3 b4 b5 b6 b7
  replace F := F.below hBd
  replace OW := OW.below hBd
  replace OX := OX.below hBd
  replace FX := FX.below hBd
  replace OG := OG.below hBd
  replace hBB := below_one hBB hBd
  clear hBd
  obtain ⟨a0, a1, a2, a3, a4, a5, a6, a7⟩ := FX.c
  go_wp2_with fail
  obtain ⟨c1, HC1⟩ : ∃ c, Hid (c = 1 + m.many) := ⟨_, hid rfl⟩
  obtain ⟨c2, HC2⟩ : ∃ c, Hid (c = 1 + gzTo Dv.many L L.length) := ⟨_, hid rfl⟩
  refine (markMesh_to _ m 1 _ _ _ hS hmm (by omega) OX).mono ?_
  rintro e w12 ⟨rfl, M1⟩
  rw [← HC1.out]
  have z12 := M1.size
  clear OX
  replace F := M1.eight F (by omega)
  replace OW := M1.dlo OW (by omega)
  replace FX := M1.eight FX (by omega)
  replace OG := M1.dlo OG (by omega)
  replace hBB := hBB.trans (M1.below (n := w.heap.size) (by omega) hBB.size)
  clear M1 a0 a1 a2 a3 a4 a5 a6 a7
  have dk : decide ((c1 : Int) < 0) = false := by simp
  go_wp2_with fail
  refine (eqDeliveryS_same _ _ L _ hLs OG.a OW.a).mono ?_
  rintro e w14 ⟨rfl, hB14⟩
  have z14 := hB14.size
  replace F := F.below hB14
  replace OW := OW.below hB14
  replace FX := FX.below hB14
  replace OG := OG.below hB14
  replace hBB := below_one hBB hB14
  clear hB14
  go_wp2_with fail
  refine (markDeliveryS_to _ L 1 _ _ _ hLs hLm OG).mono ?_
  rintro e w15 ⟨rfl, OK0, M3⟩
  rw [← HC2.out]
  have OK' : DlO w15 W4.heap.size w6.heap.size _ (mkDs 1 L) := OK0
  have z15 := M3.size
  clear OK0
  clear OG
  replace F := M3.eight F (by omega)
  replace OW := M3.dlo OW (by omega)
  replace FX := M3.eight FX (by omega)
  replace hBB := hBB.trans (M3.below (n := w.heap.size) (by omega) hBB.size)
  clear M3
  have dk2 : decide ((c2 : Int) < 0) = false := by simp
  have ek : ((c2 : Int) != (c2 : Int)) = false := by simp
  go_wp2_with fail
  refine (heldDeliveryS_to _ L 1 _ hLs hLm OK'.a).mono ?_
  rintro e w16 ⟨rfl, hB16⟩
  rw [← HC2.out]
  have z16 := hB16.size
  replace F := F.below hB16
  replace OW := OW.below hB16
  replace FX := FX.below hB16
  replace OK' := OK'.below hB16
  replace hBB := below_one hBB hB16
  clear hB16
  obtain ⟨a0, a1, a2, a3, a4, a5, a6, a7⟩ := F.c
  go_wp2_with fail
  refine (toMesh_any _ m _ hS (hA.below hBB)).mono ?_
  rintro e w17 ⟨cs17, rfl, O17, hB17⟩
  obtain ⟨h1a, h1b, h1c, h1d, h1e, h1f, h2x, h2z, h3x, h3z, h4x, h4z, hcs17, _⟩ := O17.a
  subst hcs17
  replace F := F.below hB17
  replace OW := OW.below hB17
  replace FX := FX.below hB17
  replace OK' := OK'.below hB17
  replace hBB := below_one hBB hB17
  clear hB17 a0 a1 a2 a3 a4 a5 a6 a7
  go_wp2_with fail
  refine (implDelivered_any _ m q _ hS O17).mono ?_
  rintro e w18 ⟨v18, he, OH, hB18⟩
  rw [HO.out] at he
  subst he
  rw [← HL.out] at OH
  obtain ⟨x18, y18, rfl⟩ := GsO.len OH
  replace OH : DlO w18 w17.heap.size w18.heap.size _ L := OH
  replace F := F.below hB18
  replace OW := OW.below hB18
  replace FX := FX.below hB18
  replace OK' := OK'.below hB18
  replace hBB := below_one hBB hB18
  clear hB18 O17
  go_wp2_with fail
  refine (eqDeliveryS_same _ _ L _ hLs OH.a OW.a).mono ?_
  rintro e w19 ⟨rfl, hB19⟩
  replace F := F.below hB19
  replace OW := OW.below hB19
  replace FX := FX.below hB19
  replace OK' := OK'.below hB19
  replace hBB := below_one hBB hB19
  clear hB19 OH
  go_wp2_with fail
  refine (heldDeliveryS_to _ L 1 _ hLs hLm OK'.a).mono ?_
  rintro e w20 ⟨rfl, hB20⟩
  rw [← HC2.out]
  replace hBB := below_one hBB hB20
  go_wp2_with fail
  go_ret
  exact ⟨rfl, hBB⟩

set_option maxRecDepth 100000 in
theorem lifted (os : Os) (started : os.Started) (H : Type) (enc : TypeId × Value → H) :
    ReturnsInHanded {} Try.checked os 4 .any (Rows.fnExactDeliveredAtSpec.pre6 enc Try.prog Try.f4 Rows.fnExactDeliveredAtRow.domain false) (Rows.fnExactDeliveredAtSpec.post enc Try.prog Try.f4 false true false false) := by
  refine returnsInHanded_of_change (C := Try.checked) own started (by kernel_rfl) Try.func4
    (ChangeSpec.witness6 (enc := enc) (C := Try.checked) false ⟨#[], #[.agg #[.int .i64 0, .slice none 0 0, .int .i64 0, .slice none 0 0, .slice none 0 0, .slice none 0 0, .slice none 0 0, .slice none 0 0], .string ByteArray.empty], []⟩ 8 (by kernel_rfl) (by kernel_rfl) (by kernel_rfl) (by kernel_rfl)) ?_
  intro W base args ds gs before hval0 hW hcnd _
  have hval : ∀ (j : Nat) t v, Try.f4.params[j]? = some t → args[j]? = some v → Value.okWide Try.prog W .any base t v := hval0
  have hW' := hW
  obtain ⟨p, q, hA0, hV, rfl, _, _⟩ := hW
  have hA : DataW.TrodAll enc Try.prog W 0 (fun _ => true) true Try.f4.params.toList args.toList ds p := hA0
  rw [Try.params4] at hA hval
  obtain ⟨v0, vs0, d0, ds0, p0, q0, hargs, rfl, rfl, h0, r0⟩ := trodAll_cons hA
  obtain ⟨v1, vs1, d1, ds1, p1, q1, rfl, rfl, rfl, h1, r1⟩ := trodAll_cons r0
  obtain ⟨rfl, rfl, rfl⟩ := trodAll_nil r1
  obtain rfl : args = #[v0, v1] := by cases args; simp_all
  obtain ⟨rfl, rfl⟩ := trodVars_none hV
  have k0 := h0
  have lt0 : ∀ x ∈ p0, x.block < W.heap.size := by obtain ⟨m, hm⟩ := k0; exact DataW.trod_lt m _ _ _ hm
  obtain ⟨cs0, a0, rfl, w0, f0⟩ := openMs (hval 0 43 v0 rfl rfl) h0
  have k1 := h1
  have lt1 : ∀ x ∈ p1, x.block < W.heap.size := by obtain ⟨m, hm⟩ := k1; exact DataW.trod_lt m _ _ _ hm
  obtain ⟨a1, rfl, _, _, w1⟩ := open_string Try.underlying9 (hval 1 9 v1 rfl rfl) h1
  clear hA0 hval0
  refine (walk cs0 a0 a1 W w0 f0 w1).mono fun e W' ⟨he, bel⟩ => ?_
  subst he
  exact ⟨_, rfl, _, _, _, [], _, [], hW', trodAll_mk1 (shut_bool Try.underlying4 _), (trodAll_cons_mk (Below.trod laidOut (by kernel_rfl) (of_decide_eq_true (by kernel_rfl)) k0 bel lt0) (trodAll_cons_mk (Below.trod laidOut (by kernel_rfl) (of_decide_eq_true (by kernel_rfl)) k1 bel lt1) trodAll_mk0)), rfl, bel.frame _, fun h => by cases h⟩

theorem over : Rows.fnExactDeliveredAtRow.holds Try.pinned (OpenSpec.ofChange Rows.fnExactDeliveredAtSpec) :=
  OpenClaim.holds_of_wide 4 Try.f4 rfl rfl rfl rfl rfl rfl rfl ⟨rfl, rfl, rfl, rfl, rfl⟩ rfl rfl rfl rfl rfl (by kernel_rfl) Try.func4 (by kernel_rfl)
    (of_decide_eq_true (by kernel_rfl)) (by unfold Func.isWrapper; first | (rw [if_pos (by decide +kernel)]; kernel_rfl) | (rw [if_neg (by decide +kernel)]; exact ⟨rfl, rfl⟩))
    (fun os started H enc _ => lifted os started H enc)

end Go.Proofs.Ytnbojbcljfiamaa.fnExactDeliveredAt
namespace Go.Proofs.Ytnbojbcljfiamaa
theorem fnExactDeliveredAt_holds : Rows.FnExactDeliveredAtSaid := fnExactDeliveredAt.over
#print axioms fnExactDeliveredAt_holds
end Go.Proofs.Ytnbojbcljfiamaa
