/-
  Chapter 6: the side that mails came to, whether a place lacks, what a mail tells, by the program.
-/
import Derived.Deep.DeepCutAuto
import Derived.Test.YtjnajdilllkpcaaGreatJTaken7
import Derived.Laws.CopyOwn
import Derived.Test.YtjnajdilllkpcaaGreatJTaken4
import Derived.Test.YtjnajdilllkpcaaGreatJTaken3
import Derived.Test.YtjnajdilllkpcaaGreatJTaken6
import Derived.Test.YtjnajdilllkpcaaGreatJTaken5
namespace Go.Proofs.YtjnajdilllkpcaaGreat
open Go.RowKit Go.Shelf

set_option maxHeartbeats 16000000 in
set_option maxRecDepth 100000 in
theorem drawTM_any (a : Option Addr) (n c : Nat) (w : World) (hle : n ≤ c) (hB : ByS w a n) (hap : ∀ p, a = some p → p.block < w.heap.size) :
    Calls Tryz.prog 4 #[.slice a n c] w fun e w' => ∃ (v : Value) (s : Sd) (m : Ml), e = .returned (.tuple #[v, m.val]) ∧ s.short ∧ (sdB s = true → loB s) ∧ m.ru.size ≤ 1048576 ∧ SdR w' v s ∧ Below w.heap.size w w' := by
  obtain ⟨W, hW⟩ : ∃ W, W = ((w.alloc (.cells #[.int .i64 0, .slice none 0 0, .slice none 0 0, .int .i64 0, .slice none 0 0, .slice none 0 0, .slice none 0 0] 29)).alloc (.cells #[.int .i64 0, .int .i64 0, .int .i64 0, .bool false, .string ⟨#[]⟩, .string ⟨#[]⟩, .string ⟨#[]⟩, .int .i64 0] 33)) := ⟨_, rfl⟩
  have hWs : W.heap.size = w.heap.size + 1 + 1 := by rw [hW]; simp
  have hBw : Below w.heap.size w W := by rw [hW]; exact ((Below.refl _ w).alloc (Nat.le_refl _) _).alloc (by simp) _
  have F2 : Seven W 29 w.heap.size (.int .i64 0) (.slice none 0 0) (.slice none 0 0) (.int .i64 0) (.slice none 0 0) (.slice none 0 0) (.slice none 0 0) := by rw [hW]; exact (Seven.new w (.int .i64 0) (.slice none 0 0) (.slice none 0 0) (.int .i64 0) (.slice none 0 0) (.slice none 0 0) (.slice none 0 0) 29).below ((Below.refl _ _).alloc (Nat.le_refl _) _)
  have FM : Eight W 33 (w.heap.size + 1) (.int .i64 0) (.int .i64 0) (.int .i64 0) (.bool false) (.string ⟨#[]⟩) (.string ⟨#[]⟩) (.string ⟨#[]⟩) (.int .i64 0) := by rw [hW]; exact Eight.at (w.alloc (.cells #[.int .i64 0, .slice none 0 0, .slice none 0 0, .int .i64 0, .slice none 0 0, .slice none 0 0, .slice none 0 0] 29)) (.int .i64 0) (.int .i64 0) (.int .i64 0) (.bool false) (.string ⟨#[]⟩) (.string ⟨#[]⟩) (.string ⟨#[]⟩) (.int .i64 0) 33 (by simp)
  have hBl : Below W.heap.size W (W.alloc (.cells #[.slice a n c, .int .i64 0, .int .u64 0] 47)) := (Below.refl _ W).alloc (Nat.le_refl _) _
  have Cu : CurB (W.alloc (.cells #[.slice a n c, .int .i64 0, .int .u64 0] 47)) W.heap.size a n c 0 := ⟨hle, by simp, by simp, ⟨0, by simp⟩, by simp, by simp, fun p hp => by have := hap p hp; omega⟩
  have By := (hB.below hBw).below hBl
  replace F2 := F2.below hBl
  replace FM := FM.below hBl
  have hbc : W.heap.size < (W.alloc (.cells #[.slice a n c, .int .i64 0, .int .u64 0] 47)).heap.size := by simp
  have hBB := hBw.trans (hBl.mono hBw.size)
  go_enter Tryz.func4, Tryz.ntmps4
  go_upto_region 1 with fail
  rw [← hW]
  have hW1 : w.heap.size + 1 < W.heap.size := by omega
  clear hB hap hW hWs hBw hBl
  go_upto_region 2 with fail
  generalize W.alloc (.cells #[.slice a n c, .int .i64 0, .int .u64 0] 47) = W1 at *
  generalize W.heap.size = b at *
  go_wp2_with fail
  refine (drawSide_any b a n c 0 _ By Cu (by omega)).mono ?_
  rintro e w1 ⟨v, s, q, rfl, hsh, hlo, hq, ⟨base, top, hbase, htop, O⟩, By1, Cu1, hg1⟩
  obtain ⟨p1, c1, p2, c2, p3, c3, p4, c4, p5, c5, rfl⟩ := sd_forms O.a
  have hM : Mid b (b + 1) W1 w1 := Mid.of_grown hg1 (fun k hk => by cases hk; omega)
  replace F2 := hM.seven F2 (.inl (by omega))
  replace FM := hM.eight FM (.inl (by omega))
  replace hBB := hBB.grown hg1 hBB.size (fun k e => by cases e; omega)
  have hs1 := hg1.size
  replace By := By1
  replace Cu := Cu1
  clear hM hg1 By1 Cu1
  have hBa : Below w1.heap.size w1 (w1.alloc (.cells #[.int .i64 s.fo.num, .slice p1 s.fo.pol.length c1, .slice p2 s.fo.rv.length c2, .int .i64 s.co, .slice p3 s.ru.length c3, .slice p4 s.ha.length c4, .slice p5 s.se.length c5] 29)) := (Below.refl _ _).alloc (Nat.le_refl _) _
  have F5 := Seven.new w1 (.int .i64 s.fo.num) (.slice p1 s.fo.pol.length c1) (.slice p2 s.fo.rv.length c2) (.int .i64 s.co) (.slice p3 s.ru.length c3) (.slice p4 s.ha.length c4) (.slice p5 s.se.length c5) 29
  replace F2 := F2.below hBa
  replace FM := FM.below hBa
  replace O := O.below hBa
  replace By := By.below hBa
  replace Cu := Cu.below hBa
  replace hBB := below_one hBB hBa
  have hk5 := F5.lt
  clear hBa
  go_upto_region 3 with fail
  generalize w1.alloc (.cells #[.int .i64 s.fo.num, .slice p1 s.fo.pol.length c1, .slice p2 s.fo.rv.length c2, .int .i64 s.co, .slice p3 s.ru.length c3, .slice p4 s.ha.length c4, .slice p5 s.se.length c5] 29) = W2 at *
  have hb5 : b < w1.heap.size := by omega
  clear hs1
  generalize w1.heap.size = k5 at *
  go_wp2_with fail
  refine (pick_any b a n c (q) 4 _ (by omega) (by omega) By Cu (by omega)).mono ?_
  rintro e u1 ⟨x1, hx1, rfl, Cu1, hg1⟩
  replace By := curB_grown By Cu.apart Cu.lt hg1
  replace Cu := Cu1
  clear Cu1
  have hM : Mid b (b + 1) W2 u1 := Mid.of_grown hg1 (fun k hk => by cases hk; omega)
  replace F2 := hM.seven F2 (.inl (by omega))
  replace FM := hM.eight FM (.inl (by omega))
  replace F5 := hM.seven F5 (.inr (by omega))
  replace O := hM.sdo O (.inl (by omega))
  replace hk5 := Nat.lt_of_lt_of_le hk5 hg1.size
  replace hBB := hBB.grown hg1 hBB.size (fun k e => by cases e; omega)
  clear hM hg1
  go_wp2_with fail
  refine (pick_any b a n c (q + 1) 8 _ (by omega) (by omega) By Cu (by omega)).mono ?_
  rintro e u2 ⟨x2, hx2, rfl, Cu2, hg2⟩
  replace By := curB_grown By Cu.apart Cu.lt hg2
  replace Cu := Cu2
  clear Cu2
  have hM : Mid b (b + 1) u1 u2 := Mid.of_grown hg2 (fun k hk => by cases hk; omega)
  replace F2 := hM.seven F2 (.inl (by omega))
  replace FM := hM.eight FM (.inl (by omega))
  replace F5 := hM.seven F5 (.inr (by omega))
  replace O := hM.sdo O (.inl (by omega))
  replace hk5 := Nat.lt_of_lt_of_le hk5 hg2.size
  replace hBB := hBB.grown hg2 hBB.size (fun k e => by cases e; omega)
  clear hM hg2
  go_wp2_with fail
  refine (pick_any b a n c (q + 1 + 1) 5 _ (by omega) (by omega) By Cu (by omega)).mono ?_
  rintro e u3 ⟨x3, hx3, rfl, Cu3, hg3⟩
  replace By := curB_grown By Cu.apart Cu.lt hg3
  replace Cu := Cu3
  clear Cu3
  have hM : Mid b (b + 1) u2 u3 := Mid.of_grown hg3 (fun k hk => by cases hk; omega)
  replace F2 := hM.seven F2 (.inl (by omega))
  replace FM := hM.eight FM (.inl (by omega))
  replace F5 := hM.seven F5 (.inr (by omega))
  replace O := hM.sdo O (.inl (by omega))
  replace hk5 := Nat.lt_of_lt_of_le hk5 hg3.size
  replace hBB := hBB.grown hg3 hBB.size (fun k e => by cases e; omega)
  clear hM hg3
  go_wp2_with fail
  refine (drawRule_any b a n c (q + 1 + 1 + 1) _ By Cu (by omega)).mono ?_
  rintro e u4 ⟨r, hr, rfl, By4, ⟨q4, hq4, Cu4⟩, hg4⟩
  replace By := By4
  replace Cu := Cu4
  clear By4 Cu4
  have hM : Mid b (b + 1) u3 u4 := Mid.of_grown hg4 (fun k hk => by cases hk; omega)
  replace F2 := hM.seven F2 (.inl (by omega))
  replace FM := hM.eight FM (.inl (by omega))
  replace F5 := hM.seven F5 (.inr (by omega))
  replace O := hM.sdo O (.inl (by omega))
  replace hk5 := Nat.lt_of_lt_of_le hk5 hg4.size
  replace hBB := hBB.grown hg4 hBB.size (fun k e => by cases e; omega)
  clear hM hg4
  go_wp2_with fail
  refine (pick_any b a n c (q4) 9 _ (by omega) (by omega) By Cu (by omega)).mono ?_
  rintro e u5 ⟨x5, hx5, rfl, Cu5, hg5⟩
  replace By := curB_grown By Cu.apart Cu.lt hg5
  replace Cu := Cu5
  clear Cu5
  have hM : Mid b (b + 1) u4 u5 := Mid.of_grown hg5 (fun k hk => by cases hk; omega)
  replace F2 := hM.seven F2 (.inl (by omega))
  replace FM := hM.eight FM (.inl (by omega))
  replace F5 := hM.seven F5 (.inr (by omega))
  replace O := hM.sdo O (.inl (by omega))
  replace hk5 := Nat.lt_of_lt_of_le hk5 hg5.size
  replace hBB := hBB.grown hg5 hBB.size (fun k e => by cases e; omega)
  clear hM hg5
  have hBa : Below u5.heap.size u5 (u5.alloc (.cells #[.int .i64 (1 + (x1 : Int)), .int .i64 (x2 : Int), .int .i64 (x3 : Int), .bool r.deny, .string r.who, .string r.method, .string r.path, .int .i64 (1 + (x5 : Int))] 33)) := (Below.refl _ _).alloc (Nat.le_refl _) _
  have F6 := Eight.new u5 (.int .i64 (1 + (x1 : Int))) (.int .i64 (x2 : Int)) (.int .i64 (x3 : Int)) (.bool r.deny) (.string r.who) (.string r.method) (.string r.path) (.int .i64 (1 + (x5 : Int))) 33
  replace F2 := F2.below hBa
  replace FM := FM.below hBa
  replace F5 := F5.below hBa
  replace O := O.below hBa
  replace By := By.below hBa
  replace Cu := Cu.below hBa
  replace hBB := below_one hBB hBa
  have hk6 := F6.lt
  have hr9 : r.size ≤ 1048576 := by omega
  have hk56 : k5 < u5.heap.size := hk5
  replace hk5 := Nat.lt_trans hk5 hk6
  clear hBa
  go_upto_region 4 with fail
  generalize u5.alloc (.cells #[.int .i64 (1 + (x1 : Int)), .int .i64 (x2 : Int), .int .i64 (x3 : Int), .bool r.deny, .string r.who, .string r.method, .string r.path, .int .i64 (1 + (x5 : Int))] 33) = W3 at *
  generalize u5.heap.size = k6 at *
  go_wp2_with fail
  refine (pick_any b a n c (q4 + 1) 6 _ (by omega) (by omega) By Cu (by omega)).mono ?_
  rintro e u6 ⟨x6, hx6, rfl, Cu6, hg6⟩
  replace By := curB_grown By Cu.apart Cu.lt hg6
  replace Cu := Cu6
  clear Cu6
  have hM : Mid b (b + 1) W3 u6 := Mid.of_grown hg6 (fun k hk => by cases hk; omega)
  replace F2 := hM.seven F2 (.inl (by omega))
  replace FM := hM.eight FM (.inl (by omega))
  replace F5 := hM.seven F5 (.inr (by omega))
  replace O := hM.sdo O (.inl (by omega))
  replace hk5 := Nat.lt_of_lt_of_le hk5 hg6.size
  replace F6 := hM.eight F6 (.inr (by omega))
  replace hk6 := Nat.lt_of_lt_of_le hk6 hg6.size
  replace hBB := hBB.grown hg6 hBB.size (fun k e => by cases e; omega)
  clear hM hg6
  have ht6 : top ≤ k5 := htop
  by_cases y0 : x6 = 0
  · subst y0
    obtain ⟨a0, a1, a2, a3, a4, a5, a6⟩ := F5.c
    have ff := F6.f 1
    obtain ⟨m0, m1, m2, m3, m4, m5, m6, m7⟩ := F6.c
    have hM0 : Mid k6 (k6 + 1) u6 u6 := Mid.of_below (Below.refl u6.heap.size u6)
    have hM : Mid k6 (k6 + 1) u6 (u6.setCell ⟨k6, 1, none⟩ (.int .i64 s.co)) := hM0.set (by simp) (by simp) _
    replace F2 := hM.seven F2 (.inl (by omega))
    replace FM := hM.eight FM (.inl (by omega))
    replace F5 := hM.seven F5 (.inl (by omega))
    replace O := hM.sdo O (.inr (by omega))
    have hBz := hM.below (n := k6) (Nat.le_refl _) (by omega)
    replace By := By.belowN hBz (fun p hp => by have := Cu.apart p hp; omega)
    replace Cu := Cu.belowN hBz (by omega)
    replace hBB := hBB.trans (hBz.mono (by have := hBB.size; omega))
    replace F6 := F6.s1 (.int .i64 s.co)
    replace hk6 := Nat.lt_of_lt_of_le hk6 hM.size
    replace hk5 := Nat.lt_of_lt_of_le hk5 hM.size
    clear hM hM0 hBz
    go_upto_region 14 with fail
    clear ff m0 m1 m2 m3 m4 m5 m6 m7
    generalize u6.setCell ⟨k6, 1, none⟩ (.int .i64 s.co) = WA at *
    clear a0 a1 a2 a3 a4 a5 a6
    go_upto_region 14 with fail
    have h2 : Seven WA.drew _ _ _ _ _ _ _ _ _ := World.ownsRow.drew F2
    have hm : Eight WA.drew _ _ _ _ _ _ _ _ _ _ := World.ownsRow.drew FM
    have h5 : Seven WA.drew _ _ _ _ _ _ _ _ _ := World.ownsRow.drew F5
    have h6 : Eight WA.drew _ _ _ _ _ _ _ _ _ _ := World.ownsRow.drew F6
    have hO : SdO WA.drew base top (.agg #[.int .i64 s.fo.num, .slice p1 s.fo.pol.length c1, .slice p2 s.fo.rv.length c2, .int .i64 s.co, .slice p3 s.ru.length c3, .slice p4 s.ha.length c4, .slice p5 s.se.length c5]) s := O
    have hB9 : Below w.heap.size w WA.drew := ⟨hBB.os, hBB.tape, hBB.output, hBB.size, hBB.block⟩
    clear F2 FM F5 F6 O hBB By Cu
    refine wp_region_held_drew (S := fun W => (W.cell? ⟨k5, 0, none⟩ = some (.int .i64 s.fo.num) ∧ W.cell? ⟨k5, 1, none⟩ = some (.slice p1 s.fo.pol.length c1) ∧ W.cell? ⟨k5, 2, none⟩ = some (.slice p2 s.fo.rv.length c2) ∧ W.cell? ⟨k5, 3, none⟩ = some (.int .i64 s.co) ∧ W.cell? ⟨k5, 4, none⟩ = some (.slice p3 s.ru.length c3) ∧ W.cell? ⟨k5, 5, none⟩ = some (.slice p4 s.ha.length c4) ∧ W.cell? ⟨k5, 6, none⟩ = some (.slice p5 s.se.length c5)) ∧ (W.cell? ⟨k6, 0, none⟩ = some (.int .i64 (1 + (x1 : Int))) ∧ W.cell? ⟨k6, 1, none⟩ = some (.int .i64 s.co) ∧ W.cell? ⟨k6, 2, none⟩ = some (.int .i64 (x3 : Int)) ∧ W.cell? ⟨k6, 3, none⟩ = some (.bool r.deny) ∧ W.cell? ⟨k6, 4, none⟩ = some (.string r.who) ∧ W.cell? ⟨k6, 5, none⟩ = some (.string r.method) ∧ W.cell? ⟨k6, 6, none⟩ = some (.string r.path) ∧ W.cell? ⟨k6, 7, none⟩ = some (.int .i64 (1 + (x5 : Int))))) (by kernel_rfl) (by exact ⟨h5.c, h6.c⟩) (fun hHeld => ?_)
    generalize WA.drew = We at *
    refine takeW 0 (v := ?v1) rfl (by kernel_rfl) (by kernel_rfl) (by kernel_rfl) (fun _ _ _ h => h) (by rfl) (by assumption) ?hy1 ?rest1
    case hy1 => intro w' hSw; (try dsimp only at hSw); go_simp; try with_reducible rfl
    try simp only [Act.put, List.setIfInBounds_toArray, List.set_cons_zero, List.set_cons_succ]
    refine takeW 1 (v := ?v2) rfl (by kernel_rfl) (by kernel_rfl) (by kernel_rfl) (fun _ _ _ h => h) (by rfl) (by assumption) ?hy2 ?rest2
    case hy2 => intro w' hSw; (try dsimp only at hSw); go_simp; try with_reducible rfl
    try simp only [Act.put, List.setIfInBounds_toArray, List.set_cons_zero, List.set_cons_succ]
    refine takeC 2 (by kernel_rfl) rfl (fun K hK => ?_)
    obtain ⟨r0, r1, r2, r3, r4, r5, r6⟩ := h2.c
    have f0 := h2.f 0
    have f1 := h2.f 1
    have f2 := h2.f 2
    have f3 := h2.f 3
    have f4 := h2.f 4
    have f5 := h2.f 5
    have f6 := h2.f 6
    replace h5 := (((((((h5.other (k' := w.heap.size) (by omega) 0 (.int .i64 s.fo.num)).other (k' := w.heap.size) (by omega) 1 (.slice p1 s.fo.pol.length c1)).other (k' := w.heap.size) (by omega) 2 (.slice p2 s.fo.rv.length c2)).other (k' := w.heap.size) (by omega) 3 (.int .i64 s.co)).other (k' := w.heap.size) (by omega) 4 (.slice p3 s.ru.length c3)).other (k' := w.heap.size) (by omega) 5 (.slice p4 s.ha.length c4)).other (k' := w.heap.size) (by omega) 6 (.slice p5 s.se.length c5))
    replace h6 := (((((((h6.other (k' := w.heap.size) (by omega) 0 (.int .i64 s.fo.num)).other (k' := w.heap.size) (by omega) 1 (.slice p1 s.fo.pol.length c1)).other (k' := w.heap.size) (by omega) 2 (.slice p2 s.fo.rv.length c2)).other (k' := w.heap.size) (by omega) 3 (.int .i64 s.co)).other (k' := w.heap.size) (by omega) 4 (.slice p3 s.ru.length c3)).other (k' := w.heap.size) (by omega) 5 (.slice p4 s.ha.length c4)).other (k' := w.heap.size) (by omega) 6 (.slice p5 s.se.length c5))
    replace hm := (((((((hm.other (k' := w.heap.size) (by omega) 0 (.int .i64 s.fo.num)).other (k' := w.heap.size) (by omega) 1 (.slice p1 s.fo.pol.length c1)).other (k' := w.heap.size) (by omega) 2 (.slice p2 s.fo.rv.length c2)).other (k' := w.heap.size) (by omega) 3 (.int .i64 s.co)).other (k' := w.heap.size) (by omega) 4 (.slice p3 s.ru.length c3)).other (k' := w.heap.size) (by omega) 5 (.slice p4 s.ha.length c4)).other (k' := w.heap.size) (by omega) 6 (.slice p5 s.se.length c5))
    replace h2 := (((((((h2.s0 (.int .i64 s.fo.num)).s1 (.slice p1 s.fo.pol.length c1)).s2 (.slice p2 s.fo.rv.length c2)).s3 (.int .i64 s.co)).s4 (.slice p3 s.ru.length c3)).s5 (.slice p4 s.ha.length c4)).s6 (.slice p5 s.se.length c5))
    replace hO := (sdo_set (sdo_set (sdo_set (sdo_set (sdo_set (sdo_set (sdo_set hO (p := ⟨w.heap.size, 0, none⟩) (by show w.heap.size < _; omega) (.int .i64 s.fo.num)) (p := ⟨w.heap.size, 1, none⟩) (by show w.heap.size < _; omega) (.slice p1 s.fo.pol.length c1)) (p := ⟨w.heap.size, 2, none⟩) (by show w.heap.size < _; omega) (.slice p2 s.fo.rv.length c2)) (p := ⟨w.heap.size, 3, none⟩) (by show w.heap.size < _; omega) (.int .i64 s.co)) (p := ⟨w.heap.size, 4, none⟩) (by show w.heap.size < _; omega) (.slice p3 s.ru.length c3)) (p := ⟨w.heap.size, 5, none⟩) (by show w.heap.size < _; omega) (.slice p4 s.ha.length c4)) (p := ⟨w.heap.size, 6, none⟩) (by show w.heap.size < _; omega) (.slice p5 s.se.length c5))
    replace hB9 := below_seven hB9 (k := w.heap.size) (Nat.le_refl _) (.int .i64 s.fo.num) (.slice p1 s.fo.pol.length c1) (.slice p2 s.fo.rv.length c2) (.int .i64 s.co) (.slice p3 s.ru.length c3) (.slice p4 s.ha.length c4) (.slice p5 s.se.length c5)
    go_simp
    refine hK.out _ _ ?_ (fun hHeld => ?_)
    · exact ⟨h5.c, h6.c⟩
    clear hK K
    try simp only [Act.put, List.setIfInBounds_toArray, List.set_cons_zero, List.set_cons_succ]
    clear r0 r1 r2 r3 r4 r5 r6 f0 f1 f2 f3 f4 f5 f6
    generalize ((((((We.setCell ⟨w.heap.size, 0, none⟩ (.int .i64 s.fo.num)).setCell ⟨w.heap.size, 1, none⟩ (.slice p1 s.fo.pol.length c1)).setCell ⟨w.heap.size, 2, none⟩ (.slice p2 s.fo.rv.length c2)).setCell ⟨w.heap.size, 3, none⟩ (.int .i64 s.co)).setCell ⟨w.heap.size, 4, none⟩ (.slice p3 s.ru.length c3)).setCell ⟨w.heap.size, 5, none⟩ (.slice p4 s.ha.length c4)).setCell ⟨w.heap.size, 6, none⟩ (.slice p5 s.se.length c5) = Wf at *
    refine takeC 3 (by kernel_rfl) rfl (fun K hK => ?_)
    obtain ⟨s0, s1, s2, s3, s4, s5, s6, s7⟩ := hm.c
    have k0 := hm.f 0
    have k1 := hm.f 1
    have k2 := hm.f 2
    have k3 := hm.f 3
    have k4 := hm.f 4
    have k5' := hm.f 5
    have k6' := hm.f 6
    have k7 := hm.f 7
    replace h5 := ((((((((h5.other (k' := w.heap.size + 1) (by omega) 0 (.int .i64 (1 + (x1 : Int)))).other (k' := w.heap.size + 1) (by omega) 1 (.int .i64 s.co)).other (k' := w.heap.size + 1) (by omega) 2 (.int .i64 (x3 : Int))).other (k' := w.heap.size + 1) (by omega) 3 (.bool r.deny)).other (k' := w.heap.size + 1) (by omega) 4 (.string r.who)).other (k' := w.heap.size + 1) (by omega) 5 (.string r.method)).other (k' := w.heap.size + 1) (by omega) 6 (.string r.path)).other (k' := w.heap.size + 1) (by omega) 7 (.int .i64 (1 + (x5 : Int))))
    replace h6 := ((((((((h6.other (k' := w.heap.size + 1) (by omega) 0 (.int .i64 (1 + (x1 : Int)))).other (k' := w.heap.size + 1) (by omega) 1 (.int .i64 s.co)).other (k' := w.heap.size + 1) (by omega) 2 (.int .i64 (x3 : Int))).other (k' := w.heap.size + 1) (by omega) 3 (.bool r.deny)).other (k' := w.heap.size + 1) (by omega) 4 (.string r.who)).other (k' := w.heap.size + 1) (by omega) 5 (.string r.method)).other (k' := w.heap.size + 1) (by omega) 6 (.string r.path)).other (k' := w.heap.size + 1) (by omega) 7 (.int .i64 (1 + (x5 : Int))))
    replace h2 := ((((((((h2.other (k' := w.heap.size + 1) (by omega) 0 (.int .i64 (1 + (x1 : Int)))).other (k' := w.heap.size + 1) (by omega) 1 (.int .i64 s.co)).other (k' := w.heap.size + 1) (by omega) 2 (.int .i64 (x3 : Int))).other (k' := w.heap.size + 1) (by omega) 3 (.bool r.deny)).other (k' := w.heap.size + 1) (by omega) 4 (.string r.who)).other (k' := w.heap.size + 1) (by omega) 5 (.string r.method)).other (k' := w.heap.size + 1) (by omega) 6 (.string r.path)).other (k' := w.heap.size + 1) (by omega) 7 (.int .i64 (1 + (x5 : Int))))
    replace hm := ((((((((hm.s0 (.int .i64 (1 + (x1 : Int)))).s1 (.int .i64 s.co)).s2 (.int .i64 (x3 : Int))).s3 (.bool r.deny)).s4 (.string r.who)).s5 (.string r.method)).s6 (.string r.path)).s7 (.int .i64 (1 + (x5 : Int))))
    replace hO := (sdo_set (sdo_set (sdo_set (sdo_set (sdo_set (sdo_set (sdo_set (sdo_set hO (p := ⟨w.heap.size + 1, 0, none⟩) (by show w.heap.size + 1 < _; omega) (.int .i64 (1 + (x1 : Int)))) (p := ⟨w.heap.size + 1, 1, none⟩) (by show w.heap.size + 1 < _; omega) (.int .i64 s.co)) (p := ⟨w.heap.size + 1, 2, none⟩) (by show w.heap.size + 1 < _; omega) (.int .i64 (x3 : Int))) (p := ⟨w.heap.size + 1, 3, none⟩) (by show w.heap.size + 1 < _; omega) (.bool r.deny)) (p := ⟨w.heap.size + 1, 4, none⟩) (by show w.heap.size + 1 < _; omega) (.string r.who)) (p := ⟨w.heap.size + 1, 5, none⟩) (by show w.heap.size + 1 < _; omega) (.string r.method)) (p := ⟨w.heap.size + 1, 6, none⟩) (by show w.heap.size + 1 < _; omega) (.string r.path)) (p := ⟨w.heap.size + 1, 7, none⟩) (by show w.heap.size + 1 < _; omega) (.int .i64 (1 + (x5 : Int))))
    replace hB9 := below_eight hB9 (k := w.heap.size + 1) (by omega) (.int .i64 (1 + (x1 : Int))) (.int .i64 s.co) (.int .i64 (x3 : Int)) (.bool r.deny) (.string r.who) (.string r.method) (.string r.path) (.int .i64 (1 + (x5 : Int)))
    go_simp
    refine hK.out _ _ ?_ (fun hHeld => ?_)
    · exact ⟨h5.c, h6.c⟩
    clear hK K
    try simp only [Act.put, List.setIfInBounds_toArray, List.set_cons_zero, List.set_cons_succ]
    clear s0 s1 s2 s3 s4 s5 s6 s7 k0 k1 k2 k3 k4 k5' k6' k7
    refine wpAnyH_done (by kernel_rfl) ?_ _
    obtain ⟨d0, d1, d2, d3, d4, d5, d6⟩ := h2.c
    obtain ⟨e0, e1, e2, e3, e4, e5, e6, e7⟩ := hm.c
    clear hHeld h5 h6 h2 hm
    generalize (((((((Wf.setCell ⟨w.heap.size + 1, 0, none⟩ (.int .i64 (1 + (x1 : Int)))).setCell ⟨w.heap.size + 1, 1, none⟩ (.int .i64 s.co)).setCell ⟨w.heap.size + 1, 2, none⟩ (.int .i64 (x3 : Int))).setCell ⟨w.heap.size + 1, 3, none⟩ (.bool r.deny)).setCell ⟨w.heap.size + 1, 4, none⟩ (.string r.who)).setCell ⟨w.heap.size + 1, 5, none⟩ (.string r.method)).setCell ⟨w.heap.size + 1, 6, none⟩ (.string r.path)).setCell ⟨w.heap.size + 1, 7, none⟩ (.int .i64 (1 + (x5 : Int))) = W9 at *
    go_wp2_with fail
    exact bodyPost_ret (v := .tuple #[.agg #[.int .i64 s.fo.num, .slice p1 s.fo.pol.length c1, .slice p2 s.fo.rv.length c2, .int .i64 s.co, .slice p3 s.ru.length c3, .slice p4 s.ha.length c4, .slice p5 s.se.length c5], .agg #[.int .i64 (1 + (x1 : Int)), .int .i64 s.co, .int .i64 (x3 : Int), .bool r.deny, .string r.who, .string r.method, .string r.path, .int .i64 (1 + (x5 : Int))]]) (by simp [results, Tryz.results4, go_sem, d0, d1, d2, d3, d4, d5, d6, e0, e1, e2, e3, e4, e5, e6, e7]) rfl ⟨_, s, ⟨(1 + (x1 : Int)), s.co, (x3 : Int), r, (1 + (x5 : Int))⟩, rfl, hsh, hlo, hr9, hO.r, hB9⟩
  by_cases y1 : x6 = 1
  · subst y1
    obtain ⟨a0, a1, a2, a3, a4, a5, a6⟩ := F5.c
    have ff := F6.f 1
    obtain ⟨m0, m1, m2, m3, m4, m5, m6, m7⟩ := F6.c
    have hM0 : Mid k6 (k6 + 1) u6 u6 := Mid.of_below (Below.refl u6.heap.size u6)
    have hM : Mid k6 (k6 + 1) u6 (u6.setCell ⟨k6, 1, none⟩ (.int .i64 s.co)) := hM0.set (by simp) (by simp) _
    replace F2 := hM.seven F2 (.inl (by omega))
    replace FM := hM.eight FM (.inl (by omega))
    replace F5 := hM.seven F5 (.inl (by omega))
    replace O := hM.sdo O (.inr (by omega))
    have hBz := hM.below (n := k6) (Nat.le_refl _) (by omega)
    replace By := By.belowN hBz (fun p hp => by have := Cu.apart p hp; omega)
    replace Cu := Cu.belowN hBz (by omega)
    replace hBB := hBB.trans (hBz.mono (by have := hBB.size; omega))
    replace F6 := F6.s1 (.int .i64 s.co)
    replace hk6 := Nat.lt_of_lt_of_le hk6 hM.size
    replace hk5 := Nat.lt_of_lt_of_le hk5 hM.size
    clear hM hM0 hBz
    go_upto_region 9 with fail
    clear ff m0 m1 m2 m3 m4 m5 m6 m7
    generalize u6.setCell ⟨k6, 1, none⟩ (.int .i64 s.co) = WA at *
    clear a0 a1 a2 a3 a4 a5 a6
    have ff := F6.f 0
    obtain ⟨m0, m1, m2, m3, m4, m5, m6, m7⟩ := F6.c
    have hM0 : Mid k6 (k6 + 1) WA WA := Mid.of_below (Below.refl WA.heap.size WA)
    have hM : Mid k6 (k6 + 1) WA (WA.setCell ⟨k6, 0, none⟩ (.int .i64 4)) := hM0.set (by simp) (by simp) _
    replace F2 := hM.seven F2 (.inl (by omega))
    replace FM := hM.eight FM (.inl (by omega))
    replace F5 := hM.seven F5 (.inl (by omega))
    replace O := hM.sdo O (.inr (by omega))
    have hBz := hM.below (n := k6) (Nat.le_refl _) (by omega)
    replace By := By.belowN hBz (fun p hp => by have := Cu.apart p hp; omega)
    replace Cu := Cu.belowN hBz (by omega)
    replace hBB := hBB.trans (hBz.mono (by have := hBB.size; omega))
    replace F6 := F6.s0 (.int .i64 4)
    replace hk6 := Nat.lt_of_lt_of_le hk6 hM.size
    replace hk5 := Nat.lt_of_lt_of_le hk5 hM.size
    clear hM hM0 hBz
    go_upto_region 10 with fail
    clear ff m0 m1 m2 m3 m4 m5 m6 m7
    generalize WA.setCell ⟨k6, 0, none⟩ (.int .i64 4) = WB at *
    obtain ⟨a0, a1, a2, a3, a4, a5, a6⟩ := F5.c
    have ff := F6.f 2
    obtain ⟨m0, m1, m2, m3, m4, m5, m6, m7⟩ := F6.c
    have hM0 : Mid k6 (k6 + 1) WB WB := Mid.of_below (Below.refl WB.heap.size WB)
    have hM : Mid k6 (k6 + 1) WB (WB.setCell ⟨k6, 2, none⟩ (.int .i64 (s.ha.length : Int))) := hM0.set (by simp) (by simp) _
    replace F2 := hM.seven F2 (.inl (by omega))
    replace FM := hM.eight FM (.inl (by omega))
    replace F5 := hM.seven F5 (.inl (by omega))
    replace O := hM.sdo O (.inr (by omega))
    have hBz := hM.below (n := k6) (Nat.le_refl _) (by omega)
    replace By := By.belowN hBz (fun p hp => by have := Cu.apart p hp; omega)
    replace Cu := Cu.belowN hBz (by omega)
    replace hBB := hBB.trans (hBz.mono (by have := hBB.size; omega))
    replace F6 := F6.s2 (.int .i64 (s.ha.length : Int))
    replace hk6 := Nat.lt_of_lt_of_le hk6 hM.size
    replace hk5 := Nat.lt_of_lt_of_le hk5 hM.size
    clear hM hM0 hBz
    go_upto_region 14 with fail
    clear ff m0 m1 m2 m3 m4 m5 m6 m7
    generalize WB.setCell ⟨k6, 2, none⟩ (.int .i64 (s.ha.length : Int)) = WC at *
    clear a0 a1 a2 a3 a4 a5 a6
    go_upto_region 14 with fail
    have h2 : Seven WC.drew _ _ _ _ _ _ _ _ _ := World.ownsRow.drew F2
    have hm : Eight WC.drew _ _ _ _ _ _ _ _ _ _ := World.ownsRow.drew FM
    have h5 : Seven WC.drew _ _ _ _ _ _ _ _ _ := World.ownsRow.drew F5
    have h6 : Eight WC.drew _ _ _ _ _ _ _ _ _ _ := World.ownsRow.drew F6
    have hO : SdO WC.drew base top (.agg #[.int .i64 s.fo.num, .slice p1 s.fo.pol.length c1, .slice p2 s.fo.rv.length c2, .int .i64 s.co, .slice p3 s.ru.length c3, .slice p4 s.ha.length c4, .slice p5 s.se.length c5]) s := O
    have hB9 : Below w.heap.size w WC.drew := ⟨hBB.os, hBB.tape, hBB.output, hBB.size, hBB.block⟩
    clear F2 FM F5 F6 O hBB By Cu
    refine wp_region_held_drew (S := fun W => (W.cell? ⟨k5, 0, none⟩ = some (.int .i64 s.fo.num) ∧ W.cell? ⟨k5, 1, none⟩ = some (.slice p1 s.fo.pol.length c1) ∧ W.cell? ⟨k5, 2, none⟩ = some (.slice p2 s.fo.rv.length c2) ∧ W.cell? ⟨k5, 3, none⟩ = some (.int .i64 s.co) ∧ W.cell? ⟨k5, 4, none⟩ = some (.slice p3 s.ru.length c3) ∧ W.cell? ⟨k5, 5, none⟩ = some (.slice p4 s.ha.length c4) ∧ W.cell? ⟨k5, 6, none⟩ = some (.slice p5 s.se.length c5)) ∧ (W.cell? ⟨k6, 0, none⟩ = some (.int .i64 4) ∧ W.cell? ⟨k6, 1, none⟩ = some (.int .i64 s.co) ∧ W.cell? ⟨k6, 2, none⟩ = some (.int .i64 (s.ha.length : Int)) ∧ W.cell? ⟨k6, 3, none⟩ = some (.bool r.deny) ∧ W.cell? ⟨k6, 4, none⟩ = some (.string r.who) ∧ W.cell? ⟨k6, 5, none⟩ = some (.string r.method) ∧ W.cell? ⟨k6, 6, none⟩ = some (.string r.path) ∧ W.cell? ⟨k6, 7, none⟩ = some (.int .i64 (1 + (x5 : Int))))) (by kernel_rfl) (by exact ⟨h5.c, h6.c⟩) (fun hHeld => ?_)
    generalize WC.drew = We at *
    refine takeW 0 (v := ?v3) rfl (by kernel_rfl) (by kernel_rfl) (by kernel_rfl) (fun _ _ _ h => h) (by rfl) (by assumption) ?hy3 ?rest3
    case hy3 => intro w' hSw; (try dsimp only at hSw); go_simp; try with_reducible rfl
    try simp only [Act.put, List.setIfInBounds_toArray, List.set_cons_zero, List.set_cons_succ]
    refine takeW 1 (v := ?v4) rfl (by kernel_rfl) (by kernel_rfl) (by kernel_rfl) (fun _ _ _ h => h) (by rfl) (by assumption) ?hy4 ?rest4
    case hy4 => intro w' hSw; (try dsimp only at hSw); go_simp; try with_reducible rfl
    try simp only [Act.put, List.setIfInBounds_toArray, List.set_cons_zero, List.set_cons_succ]
    refine takeC 2 (by kernel_rfl) rfl (fun K hK => ?_)
    obtain ⟨r0, r1, r2, r3, r4, r5, r6⟩ := h2.c
    have f0 := h2.f 0
    have f1 := h2.f 1
    have f2 := h2.f 2
    have f3 := h2.f 3
    have f4 := h2.f 4
    have f5 := h2.f 5
    have f6 := h2.f 6
    replace h5 := (((((((h5.other (k' := w.heap.size) (by omega) 0 (.int .i64 s.fo.num)).other (k' := w.heap.size) (by omega) 1 (.slice p1 s.fo.pol.length c1)).other (k' := w.heap.size) (by omega) 2 (.slice p2 s.fo.rv.length c2)).other (k' := w.heap.size) (by omega) 3 (.int .i64 s.co)).other (k' := w.heap.size) (by omega) 4 (.slice p3 s.ru.length c3)).other (k' := w.heap.size) (by omega) 5 (.slice p4 s.ha.length c4)).other (k' := w.heap.size) (by omega) 6 (.slice p5 s.se.length c5))
    replace h6 := (((((((h6.other (k' := w.heap.size) (by omega) 0 (.int .i64 s.fo.num)).other (k' := w.heap.size) (by omega) 1 (.slice p1 s.fo.pol.length c1)).other (k' := w.heap.size) (by omega) 2 (.slice p2 s.fo.rv.length c2)).other (k' := w.heap.size) (by omega) 3 (.int .i64 s.co)).other (k' := w.heap.size) (by omega) 4 (.slice p3 s.ru.length c3)).other (k' := w.heap.size) (by omega) 5 (.slice p4 s.ha.length c4)).other (k' := w.heap.size) (by omega) 6 (.slice p5 s.se.length c5))
    replace hm := (((((((hm.other (k' := w.heap.size) (by omega) 0 (.int .i64 s.fo.num)).other (k' := w.heap.size) (by omega) 1 (.slice p1 s.fo.pol.length c1)).other (k' := w.heap.size) (by omega) 2 (.slice p2 s.fo.rv.length c2)).other (k' := w.heap.size) (by omega) 3 (.int .i64 s.co)).other (k' := w.heap.size) (by omega) 4 (.slice p3 s.ru.length c3)).other (k' := w.heap.size) (by omega) 5 (.slice p4 s.ha.length c4)).other (k' := w.heap.size) (by omega) 6 (.slice p5 s.se.length c5))
    replace h2 := (((((((h2.s0 (.int .i64 s.fo.num)).s1 (.slice p1 s.fo.pol.length c1)).s2 (.slice p2 s.fo.rv.length c2)).s3 (.int .i64 s.co)).s4 (.slice p3 s.ru.length c3)).s5 (.slice p4 s.ha.length c4)).s6 (.slice p5 s.se.length c5))
    replace hO := (sdo_set (sdo_set (sdo_set (sdo_set (sdo_set (sdo_set (sdo_set hO (p := ⟨w.heap.size, 0, none⟩) (by show w.heap.size < _; omega) (.int .i64 s.fo.num)) (p := ⟨w.heap.size, 1, none⟩) (by show w.heap.size < _; omega) (.slice p1 s.fo.pol.length c1)) (p := ⟨w.heap.size, 2, none⟩) (by show w.heap.size < _; omega) (.slice p2 s.fo.rv.length c2)) (p := ⟨w.heap.size, 3, none⟩) (by show w.heap.size < _; omega) (.int .i64 s.co)) (p := ⟨w.heap.size, 4, none⟩) (by show w.heap.size < _; omega) (.slice p3 s.ru.length c3)) (p := ⟨w.heap.size, 5, none⟩) (by show w.heap.size < _; omega) (.slice p4 s.ha.length c4)) (p := ⟨w.heap.size, 6, none⟩) (by show w.heap.size < _; omega) (.slice p5 s.se.length c5))
    replace hB9 := below_seven hB9 (k := w.heap.size) (Nat.le_refl _) (.int .i64 s.fo.num) (.slice p1 s.fo.pol.length c1) (.slice p2 s.fo.rv.length c2) (.int .i64 s.co) (.slice p3 s.ru.length c3) (.slice p4 s.ha.length c4) (.slice p5 s.se.length c5)
    go_simp
    refine hK.out _ _ ?_ (fun hHeld => ?_)
    · exact ⟨h5.c, h6.c⟩
    clear hK K
    try simp only [Act.put, List.setIfInBounds_toArray, List.set_cons_zero, List.set_cons_succ]
    clear r0 r1 r2 r3 r4 r5 r6 f0 f1 f2 f3 f4 f5 f6
    generalize ((((((We.setCell ⟨w.heap.size, 0, none⟩ (.int .i64 s.fo.num)).setCell ⟨w.heap.size, 1, none⟩ (.slice p1 s.fo.pol.length c1)).setCell ⟨w.heap.size, 2, none⟩ (.slice p2 s.fo.rv.length c2)).setCell ⟨w.heap.size, 3, none⟩ (.int .i64 s.co)).setCell ⟨w.heap.size, 4, none⟩ (.slice p3 s.ru.length c3)).setCell ⟨w.heap.size, 5, none⟩ (.slice p4 s.ha.length c4)).setCell ⟨w.heap.size, 6, none⟩ (.slice p5 s.se.length c5) = Wf at *
    refine takeC 3 (by kernel_rfl) rfl (fun K hK => ?_)
    obtain ⟨s0, s1, s2, s3, s4, s5, s6, s7⟩ := hm.c
    have k0 := hm.f 0
    have k1 := hm.f 1
    have k2 := hm.f 2
    have k3 := hm.f 3
    have k4 := hm.f 4
    have k5' := hm.f 5
    have k6' := hm.f 6
    have k7 := hm.f 7
    replace h5 := ((((((((h5.other (k' := w.heap.size + 1) (by omega) 0 (.int .i64 4)).other (k' := w.heap.size + 1) (by omega) 1 (.int .i64 s.co)).other (k' := w.heap.size + 1) (by omega) 2 (.int .i64 (s.ha.length : Int))).other (k' := w.heap.size + 1) (by omega) 3 (.bool r.deny)).other (k' := w.heap.size + 1) (by omega) 4 (.string r.who)).other (k' := w.heap.size + 1) (by omega) 5 (.string r.method)).other (k' := w.heap.size + 1) (by omega) 6 (.string r.path)).other (k' := w.heap.size + 1) (by omega) 7 (.int .i64 (1 + (x5 : Int))))
    replace h6 := ((((((((h6.other (k' := w.heap.size + 1) (by omega) 0 (.int .i64 4)).other (k' := w.heap.size + 1) (by omega) 1 (.int .i64 s.co)).other (k' := w.heap.size + 1) (by omega) 2 (.int .i64 (s.ha.length : Int))).other (k' := w.heap.size + 1) (by omega) 3 (.bool r.deny)).other (k' := w.heap.size + 1) (by omega) 4 (.string r.who)).other (k' := w.heap.size + 1) (by omega) 5 (.string r.method)).other (k' := w.heap.size + 1) (by omega) 6 (.string r.path)).other (k' := w.heap.size + 1) (by omega) 7 (.int .i64 (1 + (x5 : Int))))
    replace h2 := ((((((((h2.other (k' := w.heap.size + 1) (by omega) 0 (.int .i64 4)).other (k' := w.heap.size + 1) (by omega) 1 (.int .i64 s.co)).other (k' := w.heap.size + 1) (by omega) 2 (.int .i64 (s.ha.length : Int))).other (k' := w.heap.size + 1) (by omega) 3 (.bool r.deny)).other (k' := w.heap.size + 1) (by omega) 4 (.string r.who)).other (k' := w.heap.size + 1) (by omega) 5 (.string r.method)).other (k' := w.heap.size + 1) (by omega) 6 (.string r.path)).other (k' := w.heap.size + 1) (by omega) 7 (.int .i64 (1 + (x5 : Int))))
    replace hm := ((((((((hm.s0 (.int .i64 4)).s1 (.int .i64 s.co)).s2 (.int .i64 (s.ha.length : Int))).s3 (.bool r.deny)).s4 (.string r.who)).s5 (.string r.method)).s6 (.string r.path)).s7 (.int .i64 (1 + (x5 : Int))))
    replace hO := (sdo_set (sdo_set (sdo_set (sdo_set (sdo_set (sdo_set (sdo_set (sdo_set hO (p := ⟨w.heap.size + 1, 0, none⟩) (by show w.heap.size + 1 < _; omega) (.int .i64 4)) (p := ⟨w.heap.size + 1, 1, none⟩) (by show w.heap.size + 1 < _; omega) (.int .i64 s.co)) (p := ⟨w.heap.size + 1, 2, none⟩) (by show w.heap.size + 1 < _; omega) (.int .i64 (s.ha.length : Int))) (p := ⟨w.heap.size + 1, 3, none⟩) (by show w.heap.size + 1 < _; omega) (.bool r.deny)) (p := ⟨w.heap.size + 1, 4, none⟩) (by show w.heap.size + 1 < _; omega) (.string r.who)) (p := ⟨w.heap.size + 1, 5, none⟩) (by show w.heap.size + 1 < _; omega) (.string r.method)) (p := ⟨w.heap.size + 1, 6, none⟩) (by show w.heap.size + 1 < _; omega) (.string r.path)) (p := ⟨w.heap.size + 1, 7, none⟩) (by show w.heap.size + 1 < _; omega) (.int .i64 (1 + (x5 : Int))))
    replace hB9 := below_eight hB9 (k := w.heap.size + 1) (by omega) (.int .i64 4) (.int .i64 s.co) (.int .i64 (s.ha.length : Int)) (.bool r.deny) (.string r.who) (.string r.method) (.string r.path) (.int .i64 (1 + (x5 : Int)))
    go_simp
    refine hK.out _ _ ?_ (fun hHeld => ?_)
    · exact ⟨h5.c, h6.c⟩
    clear hK K
    try simp only [Act.put, List.setIfInBounds_toArray, List.set_cons_zero, List.set_cons_succ]
    clear s0 s1 s2 s3 s4 s5 s6 s7 k0 k1 k2 k3 k4 k5' k6' k7
    refine wpAnyH_done (by kernel_rfl) ?_ _
    obtain ⟨d0, d1, d2, d3, d4, d5, d6⟩ := h2.c
    obtain ⟨e0, e1, e2, e3, e4, e5, e6, e7⟩ := hm.c
    clear hHeld h5 h6 h2 hm
    generalize (((((((Wf.setCell ⟨w.heap.size + 1, 0, none⟩ (.int .i64 4)).setCell ⟨w.heap.size + 1, 1, none⟩ (.int .i64 s.co)).setCell ⟨w.heap.size + 1, 2, none⟩ (.int .i64 (s.ha.length : Int))).setCell ⟨w.heap.size + 1, 3, none⟩ (.bool r.deny)).setCell ⟨w.heap.size + 1, 4, none⟩ (.string r.who)).setCell ⟨w.heap.size + 1, 5, none⟩ (.string r.method)).setCell ⟨w.heap.size + 1, 6, none⟩ (.string r.path)).setCell ⟨w.heap.size + 1, 7, none⟩ (.int .i64 (1 + (x5 : Int))) = W9 at *
    go_wp2_with fail
    exact bodyPost_ret (v := .tuple #[.agg #[.int .i64 s.fo.num, .slice p1 s.fo.pol.length c1, .slice p2 s.fo.rv.length c2, .int .i64 s.co, .slice p3 s.ru.length c3, .slice p4 s.ha.length c4, .slice p5 s.se.length c5], .agg #[.int .i64 4, .int .i64 s.co, .int .i64 (s.ha.length : Int), .bool r.deny, .string r.who, .string r.method, .string r.path, .int .i64 (1 + (x5 : Int))]]) (by simp [results, Tryz.results4, go_sem, d0, d1, d2, d3, d4, d5, d6, e0, e1, e2, e3, e4, e5, e6, e7]) rfl ⟨_, s, ⟨4, s.co, (s.ha.length : Int), r, (1 + (x5 : Int))⟩, rfl, hsh, hlo, hr9, hO.r, hB9⟩
  by_cases y2 : x6 = 2
  · subst y2
    go_wp2_with fail
    refine (pick_any b a n c (q4 + 1 + 1) 7 _ (by omega) (by omega) By Cu (by omega)).mono ?_
    rintro e u7 ⟨x7, hx7, rfl, Cu7, hg7⟩
    replace By := curB_grown By Cu.apart Cu.lt hg7
    replace Cu := Cu7
    clear Cu7
    have hM : Mid b (b + 1) u6 u7 := Mid.of_grown hg7 (fun k hk => by cases hk; omega)
    replace F2 := hM.seven F2 (.inl (by omega))
    replace FM := hM.eight FM (.inl (by omega))
    replace F5 := hM.seven F5 (.inr (by omega))
    replace O := hM.sdo O (.inl (by omega))
    replace hk5 := Nat.lt_of_lt_of_le hk5 hg7.size
    replace F6 := hM.eight F6 (.inr (by omega))
    replace hk6 := Nat.lt_of_lt_of_le hk6 hg7.size
    replace hBB := hBB.grown hg7 hBB.size (fun k e => by cases e; omega)
    clear hM hg7
    have ff := F6.f 0
    obtain ⟨m0, m1, m2, m3, m4, m5, m6, m7⟩ := F6.c
    have hM0 : Mid k6 (k6 + 1) u7 u7 := Mid.of_below (Below.refl u7.heap.size u7)
    have hM : Mid k6 (k6 + 1) u7 (u7.setCell ⟨k6, 0, none⟩ (.int .i64 (x7 : Int))) := hM0.set (by simp) (by simp) _
    replace F2 := hM.seven F2 (.inl (by omega))
    replace FM := hM.eight FM (.inl (by omega))
    replace F5 := hM.seven F5 (.inl (by omega))
    replace O := hM.sdo O (.inr (by omega))
    have hBz := hM.below (n := k6) (Nat.le_refl _) (by omega)
    replace By := By.belowN hBz (fun p hp => by have := Cu.apart p hp; omega)
    replace Cu := Cu.belowN hBz (by omega)
    replace hBB := hBB.trans (hBz.mono (by have := hBB.size; omega))
    replace F6 := F6.s0 (.int .i64 (x7 : Int))
    replace hk6 := Nat.lt_of_lt_of_le hk6 hM.size
    replace hk5 := Nat.lt_of_lt_of_le hk5 hM.size
    clear hM hM0 hBz
    go_upto_region 13 with fail
    clear ff m0 m1 m2 m3 m4 m5 m6 m7
    generalize u7.setCell ⟨k6, 0, none⟩ (.int .i64 (x7 : Int)) = WA at *
    go_wp2_with fail
    refine (pick_any b a n c (q4 + 1 + 1 + 1) 3 _ (by omega) (by omega) By Cu (by omega)).mono ?_
    rintro e u8 ⟨x8, hx8, rfl, Cu8, hg8⟩
    replace By := curB_grown By Cu.apart Cu.lt hg8
    replace Cu := Cu8
    clear Cu8
    have hM : Mid b (b + 1) WA u8 := Mid.of_grown hg8 (fun k hk => by cases hk; omega)
    replace F2 := hM.seven F2 (.inl (by omega))
    replace FM := hM.eight FM (.inl (by omega))
    replace F5 := hM.seven F5 (.inr (by omega))
    replace O := hM.sdo O (.inl (by omega))
    replace hk5 := Nat.lt_of_lt_of_le hk5 hg8.size
    replace F6 := hM.eight F6 (.inr (by omega))
    replace hk6 := Nat.lt_of_lt_of_le hk6 hg8.size
    replace hBB := hBB.grown hg8 hBB.size (fun k e => by cases e; omega)
    clear hM hg8
    have ff := F6.f 7
    obtain ⟨m0, m1, m2, m3, m4, m5, m6, m7⟩ := F6.c
    have hM0 : Mid k6 (k6 + 1) u8 u8 := Mid.of_below (Below.refl u8.heap.size u8)
    have hM : Mid k6 (k6 + 1) u8 (u8.setCell ⟨k6, 7, none⟩ (.int .i64 ((x8 : Int) - 1))) := hM0.set (by simp) (by simp) _
    replace F2 := hM.seven F2 (.inl (by omega))
    replace FM := hM.eight FM (.inl (by omega))
    replace F5 := hM.seven F5 (.inl (by omega))
    replace O := hM.sdo O (.inr (by omega))
    have hBz := hM.below (n := k6) (Nat.le_refl _) (by omega)
    replace By := By.belowN hBz (fun p hp => by have := Cu.apart p hp; omega)
    replace Cu := Cu.belowN hBz (by omega)
    replace hBB := hBB.trans (hBz.mono (by have := hBB.size; omega))
    replace F6 := F6.s7 (.int .i64 ((x8 : Int) - 1))
    replace hk6 := Nat.lt_of_lt_of_le hk6 hM.size
    replace hk5 := Nat.lt_of_lt_of_le hk5 hM.size
    clear hM hM0 hBz
    go_upto_region 14 with fail
    clear ff m0 m1 m2 m3 m4 m5 m6 m7
    generalize u8.setCell ⟨k6, 7, none⟩ (.int .i64 ((x8 : Int) - 1)) = WB at *
    go_upto_region 14 with fail
    have h2 : Seven WB.drew _ _ _ _ _ _ _ _ _ := World.ownsRow.drew F2
    have hm : Eight WB.drew _ _ _ _ _ _ _ _ _ _ := World.ownsRow.drew FM
    have h5 : Seven WB.drew _ _ _ _ _ _ _ _ _ := World.ownsRow.drew F5
    have h6 : Eight WB.drew _ _ _ _ _ _ _ _ _ _ := World.ownsRow.drew F6
    have hO : SdO WB.drew base top (.agg #[.int .i64 s.fo.num, .slice p1 s.fo.pol.length c1, .slice p2 s.fo.rv.length c2, .int .i64 s.co, .slice p3 s.ru.length c3, .slice p4 s.ha.length c4, .slice p5 s.se.length c5]) s := O
    have hB9 : Below w.heap.size w WB.drew := ⟨hBB.os, hBB.tape, hBB.output, hBB.size, hBB.block⟩
    clear F2 FM F5 F6 O hBB By Cu
    refine wp_region_held_drew (S := fun W => (W.cell? ⟨k5, 0, none⟩ = some (.int .i64 s.fo.num) ∧ W.cell? ⟨k5, 1, none⟩ = some (.slice p1 s.fo.pol.length c1) ∧ W.cell? ⟨k5, 2, none⟩ = some (.slice p2 s.fo.rv.length c2) ∧ W.cell? ⟨k5, 3, none⟩ = some (.int .i64 s.co) ∧ W.cell? ⟨k5, 4, none⟩ = some (.slice p3 s.ru.length c3) ∧ W.cell? ⟨k5, 5, none⟩ = some (.slice p4 s.ha.length c4) ∧ W.cell? ⟨k5, 6, none⟩ = some (.slice p5 s.se.length c5)) ∧ (W.cell? ⟨k6, 0, none⟩ = some (.int .i64 (x7 : Int)) ∧ W.cell? ⟨k6, 1, none⟩ = some (.int .i64 (x2 : Int)) ∧ W.cell? ⟨k6, 2, none⟩ = some (.int .i64 (x3 : Int)) ∧ W.cell? ⟨k6, 3, none⟩ = some (.bool r.deny) ∧ W.cell? ⟨k6, 4, none⟩ = some (.string r.who) ∧ W.cell? ⟨k6, 5, none⟩ = some (.string r.method) ∧ W.cell? ⟨k6, 6, none⟩ = some (.string r.path) ∧ W.cell? ⟨k6, 7, none⟩ = some (.int .i64 ((x8 : Int) - 1)))) (by kernel_rfl) (by exact ⟨h5.c, h6.c⟩) (fun hHeld => ?_)
    generalize WB.drew = We at *
    refine takeW 0 (v := ?v5) rfl (by kernel_rfl) (by kernel_rfl) (by kernel_rfl) (fun _ _ _ h => h) (by rfl) (by assumption) ?hy5 ?rest5
    case hy5 => intro w' hSw; (try dsimp only at hSw); go_simp; try with_reducible rfl
    try simp only [Act.put, List.setIfInBounds_toArray, List.set_cons_zero, List.set_cons_succ]
    refine takeW 1 (v := ?v6) rfl (by kernel_rfl) (by kernel_rfl) (by kernel_rfl) (fun _ _ _ h => h) (by rfl) (by assumption) ?hy6 ?rest6
    case hy6 => intro w' hSw; (try dsimp only at hSw); go_simp; try with_reducible rfl
    try simp only [Act.put, List.setIfInBounds_toArray, List.set_cons_zero, List.set_cons_succ]
    refine takeC 2 (by kernel_rfl) rfl (fun K hK => ?_)
    obtain ⟨r0, r1, r2, r3, r4, r5, r6⟩ := h2.c
    have f0 := h2.f 0
    have f1 := h2.f 1
    have f2 := h2.f 2
    have f3 := h2.f 3
    have f4 := h2.f 4
    have f5 := h2.f 5
    have f6 := h2.f 6
    replace h5 := (((((((h5.other (k' := w.heap.size) (by omega) 0 (.int .i64 s.fo.num)).other (k' := w.heap.size) (by omega) 1 (.slice p1 s.fo.pol.length c1)).other (k' := w.heap.size) (by omega) 2 (.slice p2 s.fo.rv.length c2)).other (k' := w.heap.size) (by omega) 3 (.int .i64 s.co)).other (k' := w.heap.size) (by omega) 4 (.slice p3 s.ru.length c3)).other (k' := w.heap.size) (by omega) 5 (.slice p4 s.ha.length c4)).other (k' := w.heap.size) (by omega) 6 (.slice p5 s.se.length c5))
    replace h6 := (((((((h6.other (k' := w.heap.size) (by omega) 0 (.int .i64 s.fo.num)).other (k' := w.heap.size) (by omega) 1 (.slice p1 s.fo.pol.length c1)).other (k' := w.heap.size) (by omega) 2 (.slice p2 s.fo.rv.length c2)).other (k' := w.heap.size) (by omega) 3 (.int .i64 s.co)).other (k' := w.heap.size) (by omega) 4 (.slice p3 s.ru.length c3)).other (k' := w.heap.size) (by omega) 5 (.slice p4 s.ha.length c4)).other (k' := w.heap.size) (by omega) 6 (.slice p5 s.se.length c5))
    replace hm := (((((((hm.other (k' := w.heap.size) (by omega) 0 (.int .i64 s.fo.num)).other (k' := w.heap.size) (by omega) 1 (.slice p1 s.fo.pol.length c1)).other (k' := w.heap.size) (by omega) 2 (.slice p2 s.fo.rv.length c2)).other (k' := w.heap.size) (by omega) 3 (.int .i64 s.co)).other (k' := w.heap.size) (by omega) 4 (.slice p3 s.ru.length c3)).other (k' := w.heap.size) (by omega) 5 (.slice p4 s.ha.length c4)).other (k' := w.heap.size) (by omega) 6 (.slice p5 s.se.length c5))
    replace h2 := (((((((h2.s0 (.int .i64 s.fo.num)).s1 (.slice p1 s.fo.pol.length c1)).s2 (.slice p2 s.fo.rv.length c2)).s3 (.int .i64 s.co)).s4 (.slice p3 s.ru.length c3)).s5 (.slice p4 s.ha.length c4)).s6 (.slice p5 s.se.length c5))
    replace hO := (sdo_set (sdo_set (sdo_set (sdo_set (sdo_set (sdo_set (sdo_set hO (p := ⟨w.heap.size, 0, none⟩) (by show w.heap.size < _; omega) (.int .i64 s.fo.num)) (p := ⟨w.heap.size, 1, none⟩) (by show w.heap.size < _; omega) (.slice p1 s.fo.pol.length c1)) (p := ⟨w.heap.size, 2, none⟩) (by show w.heap.size < _; omega) (.slice p2 s.fo.rv.length c2)) (p := ⟨w.heap.size, 3, none⟩) (by show w.heap.size < _; omega) (.int .i64 s.co)) (p := ⟨w.heap.size, 4, none⟩) (by show w.heap.size < _; omega) (.slice p3 s.ru.length c3)) (p := ⟨w.heap.size, 5, none⟩) (by show w.heap.size < _; omega) (.slice p4 s.ha.length c4)) (p := ⟨w.heap.size, 6, none⟩) (by show w.heap.size < _; omega) (.slice p5 s.se.length c5))
    replace hB9 := below_seven hB9 (k := w.heap.size) (Nat.le_refl _) (.int .i64 s.fo.num) (.slice p1 s.fo.pol.length c1) (.slice p2 s.fo.rv.length c2) (.int .i64 s.co) (.slice p3 s.ru.length c3) (.slice p4 s.ha.length c4) (.slice p5 s.se.length c5)
    go_simp
    refine hK.out _ _ ?_ (fun hHeld => ?_)
    · exact ⟨h5.c, h6.c⟩
    clear hK K
    try simp only [Act.put, List.setIfInBounds_toArray, List.set_cons_zero, List.set_cons_succ]
    clear r0 r1 r2 r3 r4 r5 r6 f0 f1 f2 f3 f4 f5 f6
    generalize ((((((We.setCell ⟨w.heap.size, 0, none⟩ (.int .i64 s.fo.num)).setCell ⟨w.heap.size, 1, none⟩ (.slice p1 s.fo.pol.length c1)).setCell ⟨w.heap.size, 2, none⟩ (.slice p2 s.fo.rv.length c2)).setCell ⟨w.heap.size, 3, none⟩ (.int .i64 s.co)).setCell ⟨w.heap.size, 4, none⟩ (.slice p3 s.ru.length c3)).setCell ⟨w.heap.size, 5, none⟩ (.slice p4 s.ha.length c4)).setCell ⟨w.heap.size, 6, none⟩ (.slice p5 s.se.length c5) = Wf at *
    refine takeC 3 (by kernel_rfl) rfl (fun K hK => ?_)
    obtain ⟨s0, s1, s2, s3, s4, s5, s6, s7⟩ := hm.c
    have k0 := hm.f 0
    have k1 := hm.f 1
    have k2 := hm.f 2
    have k3 := hm.f 3
    have k4 := hm.f 4
    have k5' := hm.f 5
    have k6' := hm.f 6
    have k7 := hm.f 7
    replace h5 := ((((((((h5.other (k' := w.heap.size + 1) (by omega) 0 (.int .i64 (x7 : Int))).other (k' := w.heap.size + 1) (by omega) 1 (.int .i64 (x2 : Int))).other (k' := w.heap.size + 1) (by omega) 2 (.int .i64 (x3 : Int))).other (k' := w.heap.size + 1) (by omega) 3 (.bool r.deny)).other (k' := w.heap.size + 1) (by omega) 4 (.string r.who)).other (k' := w.heap.size + 1) (by omega) 5 (.string r.method)).other (k' := w.heap.size + 1) (by omega) 6 (.string r.path)).other (k' := w.heap.size + 1) (by omega) 7 (.int .i64 ((x8 : Int) - 1)))
    replace h6 := ((((((((h6.other (k' := w.heap.size + 1) (by omega) 0 (.int .i64 (x7 : Int))).other (k' := w.heap.size + 1) (by omega) 1 (.int .i64 (x2 : Int))).other (k' := w.heap.size + 1) (by omega) 2 (.int .i64 (x3 : Int))).other (k' := w.heap.size + 1) (by omega) 3 (.bool r.deny)).other (k' := w.heap.size + 1) (by omega) 4 (.string r.who)).other (k' := w.heap.size + 1) (by omega) 5 (.string r.method)).other (k' := w.heap.size + 1) (by omega) 6 (.string r.path)).other (k' := w.heap.size + 1) (by omega) 7 (.int .i64 ((x8 : Int) - 1)))
    replace h2 := ((((((((h2.other (k' := w.heap.size + 1) (by omega) 0 (.int .i64 (x7 : Int))).other (k' := w.heap.size + 1) (by omega) 1 (.int .i64 (x2 : Int))).other (k' := w.heap.size + 1) (by omega) 2 (.int .i64 (x3 : Int))).other (k' := w.heap.size + 1) (by omega) 3 (.bool r.deny)).other (k' := w.heap.size + 1) (by omega) 4 (.string r.who)).other (k' := w.heap.size + 1) (by omega) 5 (.string r.method)).other (k' := w.heap.size + 1) (by omega) 6 (.string r.path)).other (k' := w.heap.size + 1) (by omega) 7 (.int .i64 ((x8 : Int) - 1)))
    replace hm := ((((((((hm.s0 (.int .i64 (x7 : Int))).s1 (.int .i64 (x2 : Int))).s2 (.int .i64 (x3 : Int))).s3 (.bool r.deny)).s4 (.string r.who)).s5 (.string r.method)).s6 (.string r.path)).s7 (.int .i64 ((x8 : Int) - 1)))
    replace hO := (sdo_set (sdo_set (sdo_set (sdo_set (sdo_set (sdo_set (sdo_set (sdo_set hO (p := ⟨w.heap.size + 1, 0, none⟩) (by show w.heap.size + 1 < _; omega) (.int .i64 (x7 : Int))) (p := ⟨w.heap.size + 1, 1, none⟩) (by show w.heap.size + 1 < _; omega) (.int .i64 (x2 : Int))) (p := ⟨w.heap.size + 1, 2, none⟩) (by show w.heap.size + 1 < _; omega) (.int .i64 (x3 : Int))) (p := ⟨w.heap.size + 1, 3, none⟩) (by show w.heap.size + 1 < _; omega) (.bool r.deny)) (p := ⟨w.heap.size + 1, 4, none⟩) (by show w.heap.size + 1 < _; omega) (.string r.who)) (p := ⟨w.heap.size + 1, 5, none⟩) (by show w.heap.size + 1 < _; omega) (.string r.method)) (p := ⟨w.heap.size + 1, 6, none⟩) (by show w.heap.size + 1 < _; omega) (.string r.path)) (p := ⟨w.heap.size + 1, 7, none⟩) (by show w.heap.size + 1 < _; omega) (.int .i64 ((x8 : Int) - 1)))
    replace hB9 := below_eight hB9 (k := w.heap.size + 1) (by omega) (.int .i64 (x7 : Int)) (.int .i64 (x2 : Int)) (.int .i64 (x3 : Int)) (.bool r.deny) (.string r.who) (.string r.method) (.string r.path) (.int .i64 ((x8 : Int) - 1))
    go_simp
    refine hK.out _ _ ?_ (fun hHeld => ?_)
    · exact ⟨h5.c, h6.c⟩
    clear hK K
    try simp only [Act.put, List.setIfInBounds_toArray, List.set_cons_zero, List.set_cons_succ]
    clear s0 s1 s2 s3 s4 s5 s6 s7 k0 k1 k2 k3 k4 k5' k6' k7
    refine wpAnyH_done (by kernel_rfl) ?_ _
    obtain ⟨d0, d1, d2, d3, d4, d5, d6⟩ := h2.c
    obtain ⟨e0, e1, e2, e3, e4, e5, e6, e7⟩ := hm.c
    clear hHeld h5 h6 h2 hm
    generalize (((((((Wf.setCell ⟨w.heap.size + 1, 0, none⟩ (.int .i64 (x7 : Int))).setCell ⟨w.heap.size + 1, 1, none⟩ (.int .i64 (x2 : Int))).setCell ⟨w.heap.size + 1, 2, none⟩ (.int .i64 (x3 : Int))).setCell ⟨w.heap.size + 1, 3, none⟩ (.bool r.deny)).setCell ⟨w.heap.size + 1, 4, none⟩ (.string r.who)).setCell ⟨w.heap.size + 1, 5, none⟩ (.string r.method)).setCell ⟨w.heap.size + 1, 6, none⟩ (.string r.path)).setCell ⟨w.heap.size + 1, 7, none⟩ (.int .i64 ((x8 : Int) - 1)) = W9 at *
    go_wp2_with fail
    exact bodyPost_ret (v := .tuple #[.agg #[.int .i64 s.fo.num, .slice p1 s.fo.pol.length c1, .slice p2 s.fo.rv.length c2, .int .i64 s.co, .slice p3 s.ru.length c3, .slice p4 s.ha.length c4, .slice p5 s.se.length c5], .agg #[.int .i64 (x7 : Int), .int .i64 (x2 : Int), .int .i64 (x3 : Int), .bool r.deny, .string r.who, .string r.method, .string r.path, .int .i64 ((x8 : Int) - 1)]]) (by simp [results, Tryz.results4, go_sem, d0, d1, d2, d3, d4, d5, d6, e0, e1, e2, e3, e4, e5, e6, e7]) rfl ⟨_, s, ⟨(x7 : Int), (x2 : Int), (x3 : Int), r, ((x8 : Int) - 1)⟩, rfl, hsh, hlo, hr9, hO.r, hB9⟩
  have d0 : ((x6 : Int) == 0) = false := by simpa using y0
  have d1 : ((x6 : Int) == 1) = false := by simp only [beq_eq_false_iff_ne, ne_eq]; omega
  have d2 : ((x6 : Int) == 2) = false := by simp only [beq_eq_false_iff_ne, ne_eq]; omega
  go_upto_region 14 with fail
  have h2 : Seven u6.drew _ _ _ _ _ _ _ _ _ := World.ownsRow.drew F2
  have hm : Eight u6.drew _ _ _ _ _ _ _ _ _ _ := World.ownsRow.drew FM
  have h5 : Seven u6.drew _ _ _ _ _ _ _ _ _ := World.ownsRow.drew F5
  have h6 : Eight u6.drew _ _ _ _ _ _ _ _ _ _ := World.ownsRow.drew F6
  have hO : SdO u6.drew base top (.agg #[.int .i64 s.fo.num, .slice p1 s.fo.pol.length c1, .slice p2 s.fo.rv.length c2, .int .i64 s.co, .slice p3 s.ru.length c3, .slice p4 s.ha.length c4, .slice p5 s.se.length c5]) s := O
  have hB9 : Below w.heap.size w u6.drew := ⟨hBB.os, hBB.tape, hBB.output, hBB.size, hBB.block⟩
  clear F2 FM F5 F6 O hBB By Cu
  refine wp_region_held_drew (S := fun W => (W.cell? ⟨k5, 0, none⟩ = some (.int .i64 s.fo.num) ∧ W.cell? ⟨k5, 1, none⟩ = some (.slice p1 s.fo.pol.length c1) ∧ W.cell? ⟨k5, 2, none⟩ = some (.slice p2 s.fo.rv.length c2) ∧ W.cell? ⟨k5, 3, none⟩ = some (.int .i64 s.co) ∧ W.cell? ⟨k5, 4, none⟩ = some (.slice p3 s.ru.length c3) ∧ W.cell? ⟨k5, 5, none⟩ = some (.slice p4 s.ha.length c4) ∧ W.cell? ⟨k5, 6, none⟩ = some (.slice p5 s.se.length c5)) ∧ (W.cell? ⟨k6, 0, none⟩ = some (.int .i64 (1 + (x1 : Int))) ∧ W.cell? ⟨k6, 1, none⟩ = some (.int .i64 (x2 : Int)) ∧ W.cell? ⟨k6, 2, none⟩ = some (.int .i64 (x3 : Int)) ∧ W.cell? ⟨k6, 3, none⟩ = some (.bool r.deny) ∧ W.cell? ⟨k6, 4, none⟩ = some (.string r.who) ∧ W.cell? ⟨k6, 5, none⟩ = some (.string r.method) ∧ W.cell? ⟨k6, 6, none⟩ = some (.string r.path) ∧ W.cell? ⟨k6, 7, none⟩ = some (.int .i64 (1 + (x5 : Int))))) (by kernel_rfl) (by exact ⟨h5.c, h6.c⟩) (fun hHeld => ?_)
  generalize u6.drew = We at *
  refine takeW 0 (v := ?v7) rfl (by kernel_rfl) (by kernel_rfl) (by kernel_rfl) (fun _ _ _ h => h) (by rfl) (by assumption) ?hy7 ?rest7
  case hy7 => intro w' hSw; (try dsimp only at hSw); go_simp; try with_reducible rfl
  try simp only [Act.put, List.setIfInBounds_toArray, List.set_cons_zero, List.set_cons_succ]
  refine takeW 1 (v := ?v8) rfl (by kernel_rfl) (by kernel_rfl) (by kernel_rfl) (fun _ _ _ h => h) (by rfl) (by assumption) ?hy8 ?rest8
  case hy8 => intro w' hSw; (try dsimp only at hSw); go_simp; try with_reducible rfl
  try simp only [Act.put, List.setIfInBounds_toArray, List.set_cons_zero, List.set_cons_succ]
  refine takeC 2 (by kernel_rfl) rfl (fun K hK => ?_)
  obtain ⟨r0, r1, r2, r3, r4, r5, r6⟩ := h2.c
  have f0 := h2.f 0
  have f1 := h2.f 1
  have f2 := h2.f 2
  have f3 := h2.f 3
  have f4 := h2.f 4
  have f5 := h2.f 5
  have f6 := h2.f 6
  replace h5 := (((((((h5.other (k' := w.heap.size) (by omega) 0 (.int .i64 s.fo.num)).other (k' := w.heap.size) (by omega) 1 (.slice p1 s.fo.pol.length c1)).other (k' := w.heap.size) (by omega) 2 (.slice p2 s.fo.rv.length c2)).other (k' := w.heap.size) (by omega) 3 (.int .i64 s.co)).other (k' := w.heap.size) (by omega) 4 (.slice p3 s.ru.length c3)).other (k' := w.heap.size) (by omega) 5 (.slice p4 s.ha.length c4)).other (k' := w.heap.size) (by omega) 6 (.slice p5 s.se.length c5))
  replace h6 := (((((((h6.other (k' := w.heap.size) (by omega) 0 (.int .i64 s.fo.num)).other (k' := w.heap.size) (by omega) 1 (.slice p1 s.fo.pol.length c1)).other (k' := w.heap.size) (by omega) 2 (.slice p2 s.fo.rv.length c2)).other (k' := w.heap.size) (by omega) 3 (.int .i64 s.co)).other (k' := w.heap.size) (by omega) 4 (.slice p3 s.ru.length c3)).other (k' := w.heap.size) (by omega) 5 (.slice p4 s.ha.length c4)).other (k' := w.heap.size) (by omega) 6 (.slice p5 s.se.length c5))
  replace hm := (((((((hm.other (k' := w.heap.size) (by omega) 0 (.int .i64 s.fo.num)).other (k' := w.heap.size) (by omega) 1 (.slice p1 s.fo.pol.length c1)).other (k' := w.heap.size) (by omega) 2 (.slice p2 s.fo.rv.length c2)).other (k' := w.heap.size) (by omega) 3 (.int .i64 s.co)).other (k' := w.heap.size) (by omega) 4 (.slice p3 s.ru.length c3)).other (k' := w.heap.size) (by omega) 5 (.slice p4 s.ha.length c4)).other (k' := w.heap.size) (by omega) 6 (.slice p5 s.se.length c5))
  replace h2 := (((((((h2.s0 (.int .i64 s.fo.num)).s1 (.slice p1 s.fo.pol.length c1)).s2 (.slice p2 s.fo.rv.length c2)).s3 (.int .i64 s.co)).s4 (.slice p3 s.ru.length c3)).s5 (.slice p4 s.ha.length c4)).s6 (.slice p5 s.se.length c5))
  replace hO := (sdo_set (sdo_set (sdo_set (sdo_set (sdo_set (sdo_set (sdo_set hO (p := ⟨w.heap.size, 0, none⟩) (by show w.heap.size < _; omega) (.int .i64 s.fo.num)) (p := ⟨w.heap.size, 1, none⟩) (by show w.heap.size < _; omega) (.slice p1 s.fo.pol.length c1)) (p := ⟨w.heap.size, 2, none⟩) (by show w.heap.size < _; omega) (.slice p2 s.fo.rv.length c2)) (p := ⟨w.heap.size, 3, none⟩) (by show w.heap.size < _; omega) (.int .i64 s.co)) (p := ⟨w.heap.size, 4, none⟩) (by show w.heap.size < _; omega) (.slice p3 s.ru.length c3)) (p := ⟨w.heap.size, 5, none⟩) (by show w.heap.size < _; omega) (.slice p4 s.ha.length c4)) (p := ⟨w.heap.size, 6, none⟩) (by show w.heap.size < _; omega) (.slice p5 s.se.length c5))
  replace hB9 := below_seven hB9 (k := w.heap.size) (Nat.le_refl _) (.int .i64 s.fo.num) (.slice p1 s.fo.pol.length c1) (.slice p2 s.fo.rv.length c2) (.int .i64 s.co) (.slice p3 s.ru.length c3) (.slice p4 s.ha.length c4) (.slice p5 s.se.length c5)
  go_simp
  refine hK.out _ _ ?_ (fun hHeld => ?_)
  · exact ⟨h5.c, h6.c⟩
  clear hK K
  try simp only [Act.put, List.setIfInBounds_toArray, List.set_cons_zero, List.set_cons_succ]
  clear r0 r1 r2 r3 r4 r5 r6 f0 f1 f2 f3 f4 f5 f6
  generalize ((((((We.setCell ⟨w.heap.size, 0, none⟩ (.int .i64 s.fo.num)).setCell ⟨w.heap.size, 1, none⟩ (.slice p1 s.fo.pol.length c1)).setCell ⟨w.heap.size, 2, none⟩ (.slice p2 s.fo.rv.length c2)).setCell ⟨w.heap.size, 3, none⟩ (.int .i64 s.co)).setCell ⟨w.heap.size, 4, none⟩ (.slice p3 s.ru.length c3)).setCell ⟨w.heap.size, 5, none⟩ (.slice p4 s.ha.length c4)).setCell ⟨w.heap.size, 6, none⟩ (.slice p5 s.se.length c5) = Wf at *
  refine takeC 3 (by kernel_rfl) rfl (fun K hK => ?_)
  obtain ⟨s0, s1, s2, s3, s4, s5, s6, s7⟩ := hm.c
  have k0 := hm.f 0
  have k1 := hm.f 1
  have k2 := hm.f 2
  have k3 := hm.f 3
  have k4 := hm.f 4
  have k5' := hm.f 5
  have k6' := hm.f 6
  have k7 := hm.f 7
  replace h5 := ((((((((h5.other (k' := w.heap.size + 1) (by omega) 0 (.int .i64 (1 + (x1 : Int)))).other (k' := w.heap.size + 1) (by omega) 1 (.int .i64 (x2 : Int))).other (k' := w.heap.size + 1) (by omega) 2 (.int .i64 (x3 : Int))).other (k' := w.heap.size + 1) (by omega) 3 (.bool r.deny)).other (k' := w.heap.size + 1) (by omega) 4 (.string r.who)).other (k' := w.heap.size + 1) (by omega) 5 (.string r.method)).other (k' := w.heap.size + 1) (by omega) 6 (.string r.path)).other (k' := w.heap.size + 1) (by omega) 7 (.int .i64 (1 + (x5 : Int))))
  replace h6 := ((((((((h6.other (k' := w.heap.size + 1) (by omega) 0 (.int .i64 (1 + (x1 : Int)))).other (k' := w.heap.size + 1) (by omega) 1 (.int .i64 (x2 : Int))).other (k' := w.heap.size + 1) (by omega) 2 (.int .i64 (x3 : Int))).other (k' := w.heap.size + 1) (by omega) 3 (.bool r.deny)).other (k' := w.heap.size + 1) (by omega) 4 (.string r.who)).other (k' := w.heap.size + 1) (by omega) 5 (.string r.method)).other (k' := w.heap.size + 1) (by omega) 6 (.string r.path)).other (k' := w.heap.size + 1) (by omega) 7 (.int .i64 (1 + (x5 : Int))))
  replace h2 := ((((((((h2.other (k' := w.heap.size + 1) (by omega) 0 (.int .i64 (1 + (x1 : Int)))).other (k' := w.heap.size + 1) (by omega) 1 (.int .i64 (x2 : Int))).other (k' := w.heap.size + 1) (by omega) 2 (.int .i64 (x3 : Int))).other (k' := w.heap.size + 1) (by omega) 3 (.bool r.deny)).other (k' := w.heap.size + 1) (by omega) 4 (.string r.who)).other (k' := w.heap.size + 1) (by omega) 5 (.string r.method)).other (k' := w.heap.size + 1) (by omega) 6 (.string r.path)).other (k' := w.heap.size + 1) (by omega) 7 (.int .i64 (1 + (x5 : Int))))
  replace hm := ((((((((hm.s0 (.int .i64 (1 + (x1 : Int)))).s1 (.int .i64 (x2 : Int))).s2 (.int .i64 (x3 : Int))).s3 (.bool r.deny)).s4 (.string r.who)).s5 (.string r.method)).s6 (.string r.path)).s7 (.int .i64 (1 + (x5 : Int))))
  replace hO := (sdo_set (sdo_set (sdo_set (sdo_set (sdo_set (sdo_set (sdo_set (sdo_set hO (p := ⟨w.heap.size + 1, 0, none⟩) (by show w.heap.size + 1 < _; omega) (.int .i64 (1 + (x1 : Int)))) (p := ⟨w.heap.size + 1, 1, none⟩) (by show w.heap.size + 1 < _; omega) (.int .i64 (x2 : Int))) (p := ⟨w.heap.size + 1, 2, none⟩) (by show w.heap.size + 1 < _; omega) (.int .i64 (x3 : Int))) (p := ⟨w.heap.size + 1, 3, none⟩) (by show w.heap.size + 1 < _; omega) (.bool r.deny)) (p := ⟨w.heap.size + 1, 4, none⟩) (by show w.heap.size + 1 < _; omega) (.string r.who)) (p := ⟨w.heap.size + 1, 5, none⟩) (by show w.heap.size + 1 < _; omega) (.string r.method)) (p := ⟨w.heap.size + 1, 6, none⟩) (by show w.heap.size + 1 < _; omega) (.string r.path)) (p := ⟨w.heap.size + 1, 7, none⟩) (by show w.heap.size + 1 < _; omega) (.int .i64 (1 + (x5 : Int))))
  replace hB9 := below_eight hB9 (k := w.heap.size + 1) (by omega) (.int .i64 (1 + (x1 : Int))) (.int .i64 (x2 : Int)) (.int .i64 (x3 : Int)) (.bool r.deny) (.string r.who) (.string r.method) (.string r.path) (.int .i64 (1 + (x5 : Int)))
  go_simp
  refine hK.out _ _ ?_ (fun hHeld => ?_)
  · exact ⟨h5.c, h6.c⟩
  clear hK K
  try simp only [Act.put, List.setIfInBounds_toArray, List.set_cons_zero, List.set_cons_succ]
  clear s0 s1 s2 s3 s4 s5 s6 s7 k0 k1 k2 k3 k4 k5' k6' k7
  refine wpAnyH_done (by kernel_rfl) ?_ _
  obtain ⟨d0, d1, d2, d3, d4, d5, d6⟩ := h2.c
  obtain ⟨e0, e1, e2, e3, e4, e5, e6, e7⟩ := hm.c
  clear hHeld h5 h6 h2 hm
  generalize (((((((Wf.setCell ⟨w.heap.size + 1, 0, none⟩ (.int .i64 (1 + (x1 : Int)))).setCell ⟨w.heap.size + 1, 1, none⟩ (.int .i64 (x2 : Int))).setCell ⟨w.heap.size + 1, 2, none⟩ (.int .i64 (x3 : Int))).setCell ⟨w.heap.size + 1, 3, none⟩ (.bool r.deny)).setCell ⟨w.heap.size + 1, 4, none⟩ (.string r.who)).setCell ⟨w.heap.size + 1, 5, none⟩ (.string r.method)).setCell ⟨w.heap.size + 1, 6, none⟩ (.string r.path)).setCell ⟨w.heap.size + 1, 7, none⟩ (.int .i64 (1 + (x5 : Int))) = W9 at *
  go_wp2_with fail
  exact bodyPost_ret (v := .tuple #[.agg #[.int .i64 s.fo.num, .slice p1 s.fo.pol.length c1, .slice p2 s.fo.rv.length c2, .int .i64 s.co, .slice p3 s.ru.length c3, .slice p4 s.ha.length c4, .slice p5 s.se.length c5], .agg #[.int .i64 (1 + (x1 : Int)), .int .i64 (x2 : Int), .int .i64 (x3 : Int), .bool r.deny, .string r.who, .string r.method, .string r.path, .int .i64 (1 + (x5 : Int))]]) (by simp [results, Tryz.results4, go_sem, d0, d1, d2, d3, d4, d5, d6, e0, e1, e2, e3, e4, e5, e6, e7]) rfl ⟨_, s, ⟨(1 + (x1 : Int)), (x2 : Int), (x3 : Int), r, (1 + (x5 : Int))⟩, rfl, hsh, hlo, hr9, hO.r, hB9⟩

end Go.Proofs.YtjnajdilllkpcaaGreat

namespace Go.Proofs.YtjnajdilllkpcaaGreat
open Go.RowKit Go.Shelf

/-- A place. -/
structure Pl where
  h : Bool
  r : Ru
  z : Int
abbrev Pl.cells (p : Pl) : List Value := [.bool p.h, .bool p.r.deny, .string p.r.who, .string p.r.method, .string p.r.path, .int .i64 p.z]
def plZ : Pl := ⟨false, zrU, 0⟩
def plS (s : Sd) (i : Nat) : Pl := ⟨(s.ha[i]?).getD false, (s.ru[i]?).getD zrU, (s.se[i]?).getD 0⟩
/-- The places of a side, the first k of them. -/
def arT (s : Sd) (k : Nat) : List Pl := (List.range 230).map (fun i => if i < k then plS s i else plZ)
def arP (s : Sd) : List Pl := (List.range 230).map (plS s)
def arC (num : Int) (vp vr : Value) (co pl : Int) (ps : List Pl) : List Value := .int .i64 num :: vp :: vr :: .int .i64 co :: .int .i64 pl :: ps.flatMap Pl.cells
theorem pl_len : ∀ ps : List Pl, (ps.flatMap Pl.cells).length = ps.length * 6
  | [] => rfl
  | p :: ps => by rw [List.flatMap_cons, List.length_append, pl_len ps]; simp; omega
theorem pl_cell : ∀ (ps : List Pl) (i j : Nat) (h : i < ps.length), j < 6 → (ps.flatMap Pl.cells)[i * 6 + j]? = ps[i].cells[j]?
  | p :: ps, 0, j, _, hj => by rw [List.flatMap_cons, List.getElem?_append_left (by simpa using hj)]; simp
  | p :: ps, i + 1, j, h, hj => by
    have e : (i + 1) * 6 + j = p.cells.length + (i * 6 + j) := by show (i + 1) * 6 + j = 6 + (i * 6 + j); omega
    rw [List.flatMap_cons, e, List.getElem?_append_right (by omega), Nat.add_sub_cancel_left, pl_cell ps i j (by simpa using h) hj]
    simp
theorem pl_set : ∀ (ks : List Pl) (i j : Nat) (u : Value) (k : Pl) (hi : i < ks.length), j < 6 → k.cells = ks[i].cells.set j u → (ks.flatMap Pl.cells).set (i * 6 + j) u = (ks.set i k).flatMap Pl.cells
  | k0 :: ks, 0, j, u, k, _, hj, hu => by
    have hu : k.cells = k0.cells.set j u := hu
    rw [List.flatMap_cons, List.set_append_left _ _ (by simp; omega), List.set_cons_zero, List.flatMap_cons, hu]
    simp
  | k0 :: ks, i + 1, j, u, k, hi, hj, hu => by
    rw [List.flatMap_cons, List.set_append_right _ _ (by simp; omega), List.set_cons_succ, List.flatMap_cons, ← pl_set ks i j u k (by simpa using hi) hj (by simpa using hu)]
    congr 2
    simp; omega
theorem pl_put {ks : List Pl} {i : Nat} (hi : i < ks.length) (p : Pl) : ((((((ks.flatMap Pl.cells).set (i * 6 + 0) (.bool p.h)).set (i * 6 + 1) (.bool p.r.deny)).set (i * 6 + 2) (.string p.r.who)).set (i * 6 + 3) (.string p.r.method)).set (i * 6 + 4) (.string p.r.path)).set (i * 6 + 5) (.int .i64 p.z) = (ks.set i p).flatMap Pl.cells := by
  obtain ⟨⟨h0, ⟨d0, w0, m0, t0⟩, z0⟩, hq⟩ : ∃ q, q = ks[i] := ⟨_, rfl⟩
  obtain ⟨h, ⟨d, w, m, t⟩, z⟩ := p
  rw [pl_set ks i 0 (.bool h) ⟨h, ⟨d0, w0, m0, t0⟩, z0⟩ hi (by omega) (by rw [← hq]; rfl),
    pl_set _ i 1 (.bool d) ⟨h, ⟨d, w0, m0, t0⟩, z0⟩ (by simpa using hi) (by omega) (by simp), List.set_set,
    pl_set _ i 2 (.string w) ⟨h, ⟨d, w, m0, t0⟩, z0⟩ (by simpa using hi) (by omega) (by simp), List.set_set,
    pl_set _ i 3 (.string m) ⟨h, ⟨d, w, m, t0⟩, z0⟩ (by simpa using hi) (by omega) (by simp), List.set_set,
    pl_set _ i 4 (.string t) ⟨h, ⟨d, w, m, t⟩, z0⟩ (by simpa using hi) (by omega) (by simp), List.set_set,
    pl_set _ i 5 (.int .i64 z) ⟨h, ⟨d, w, m, t⟩, z⟩ (by simpa using hi) (by omega) (by simp), List.set_set]
theorem arC_len {num : Int} {vp vr : Value} {co pl : Int} {ps : List Pl} (h : ps.length = 230) : (arC num vp vr co pl ps).length = 1385 := by
  unfold arC
  simp only [List.length_cons, pl_len, h]
theorem arC_put {num : Int} {vp vr : Value} {co pl : Int} {ps : List Pl} {i : Nat} (hi : i < ps.length) (p : Pl) : ((((((arC num vp vr co pl ps).set (5 + i * 6) (.bool p.h)).set (5 + i * 6 + 1) (.bool p.r.deny)).set (5 + i * 6 + 2) (.string p.r.who)).set (5 + i * 6 + 3) (.string p.r.method)).set (5 + i * 6 + 4) (.string p.r.path)).set (5 + i * 6 + 5) (.int .i64 p.z) = arC num vp vr co pl (ps.set i p) := by
  unfold arC
  rw [← pl_put hi p]
  have e : ∀ j, 5 + i * 6 + j = i * 6 + j + 1 + 1 + 1 + 1 + 1 := fun j => by omega
  rw [e 1, e 2, e 3, e 4, e 5, show 5 + i * 6 = i * 6 + 0 + 1 + 1 + 1 + 1 + 1 by omega]
  simp only [List.set_cons_succ]
  rfl
theorem arC_at {num : Int} {vp vr : Value} {co pl : Int} {ps : List Pl} {i : Nat} (hi : i < ps.length) {j : Nat} (hj : j < 6) : (arC num vp vr co pl ps)[5 + i * 6 + j]? = ps[i].cells[j]? := by
  rw [← pl_cell ps i j hi hj]
  unfold arC
  rw [show 5 + i * 6 + j = i * 6 + j + 1 + 1 + 1 + 1 + 1 by omega]
  simp only [List.getElem?_cons_succ]
theorem arC_one {num : Int} {vp vr : Value} {co pl : Int} {ps : List Pl} (h1 : vp.oneCell' = true) (h2 : vr.oneCell' = true) : ∀ u ∈ arC num vp vr co pl ps, u.oneCell' = true := by
  intro u hu
  unfold arC at hu
  simp only [List.mem_cons] at hu
  rcases hu with rfl | rfl | rfl | rfl | rfl | hu
  · rfl
  · exact h1
  · exact h2
  · rfl
  · rfl
  · obtain ⟨p, _, hp⟩ := List.mem_flatMap.1 hu
    simp only [Pl.cells, List.mem_cons, List.not_mem_nil, or_false] at hp
    rcases hp with rfl | rfl | rfl | rfl | rfl | rfl <;> rfl

/-- A block that is such a side. -/
def ArB (w : World) (k : Nat) (num : Int) (vp vr : Value) (co pl : Int) (ps : List Pl) : Prop := ps.length = 230 ∧ w.ownsRow k 55 1385 (.slice (some ⟨k, 0, none⟩) 1 1) 1 (arC num vp vr co pl ps)
section
variable {w w' : World} {k : Nat} {num : Int} {vp vr : Value} {co pl : Int} {ps : List Pl}
theorem ArB.below (h : ArB w k num vp vr co pl ps) (hB : Below w.heap.size w w') : ArB w' k num vp vr co pl ps := ⟨h.1, ownsRow_below h.2 hB⟩
theorem ArB.low {B : Nat} (h : ArB w k num vp vr co pl ps) (hB : Below B w w') (hk : k < B) : ArB w' k num vp vr co pl ps := ⟨h.1, row_low h.2 hB (fun j e => by simp [Value.ownBlock] at e; omega)⟩
theorem ArB.lt (h : ArB w k num vp vr co pl ps) : k < w.heap.size := (World.ownsRow.lt h.2 k rfl).2
theorem ArB.f (h : ArB w k num vp vr co pl ps) (j : Nat) : w.frozen? ⟨k, j, none⟩ = false := World.ownsRow.frozenAt h.2 j
theorem ArB.c (h : ArB w k num vp vr co pl ps) : w.cell? ⟨k, 0, none⟩ = some (.int .i64 num) ∧ w.cell? ⟨k, 1, none⟩ = some vp ∧ w.cell? ⟨k, 2, none⟩ = some vr ∧ w.cell? ⟨k, 3, none⟩ = some (.int .i64 co) ∧ w.cell? ⟨k, 4, none⟩ = some (.int .i64 pl) :=
  ⟨World.ownsRow.cellAt h.2 0 (by omega), World.ownsRow.cellAt h.2 1 (by omega), World.ownsRow.cellAt h.2 2 (by omega), World.ownsRow.cellAt h.2 3 (by omega), World.ownsRow.cellAt h.2 4 (by omega)⟩
theorem ArB.at (h : ArB w k num vp vr co pl ps) {i : Nat} (hi : i < 230) (hp : i < ps.length) : w.cell? ⟨k, 5 + i * 6, none⟩ = some (.bool ps[i].h) ∧ w.cell? ⟨k, 5 + i * 6 + 1, none⟩ = some (.bool ps[i].r.deny) ∧ w.cell? ⟨k, 5 + i * 6 + 2, none⟩ = some (.string ps[i].r.who) ∧ w.cell? ⟨k, 5 + i * 6 + 3, none⟩ = some (.string ps[i].r.method) ∧ w.cell? ⟨k, 5 + i * 6 + 4, none⟩ = some (.string ps[i].r.path) ∧ w.cell? ⟨k, 5 + i * 6 + 5, none⟩ = some (.int .i64 ps[i].z) :=
  ⟨(World.ownsRow.cellAt h.2 (5 + i * 6) (by omega)).trans (arC_at hp (j := 0) (by omega)), (World.ownsRow.cellAt h.2 (5 + i * 6 + 1) (by omega)).trans (arC_at hp (j := 1) (by omega)), (World.ownsRow.cellAt h.2 (5 + i * 6 + 2) (by omega)).trans (arC_at hp (j := 2) (by omega)), (World.ownsRow.cellAt h.2 (5 + i * 6 + 3) (by omega)).trans (arC_at hp (j := 3) (by omega)), (World.ownsRow.cellAt h.2 (5 + i * 6 + 4) (by omega)).trans (arC_at hp (j := 4) (by omega)), (World.ownsRow.cellAt h.2 (5 + i * 6 + 5) (by omega)).trans (arC_at hp (j := 5) (by omega))⟩
theorem ArB.put (h : ArB w k num vp vr co pl ps) {i : Nat} (hi : i < 230) (p : Pl) : ArB ((((((w.setCell ⟨k, 5 + i * 6, none⟩ (.bool p.h)).setCell ⟨k, 5 + i * 6 + 1, none⟩ (.bool p.r.deny)).setCell ⟨k, 5 + i * 6 + 2, none⟩ (.string p.r.who)).setCell ⟨k, 5 + i * 6 + 3, none⟩ (.string p.r.method)).setCell ⟨k, 5 + i * 6 + 4, none⟩ (.string p.r.path)).setCell ⟨k, 5 + i * 6 + 5, none⟩ (.int .i64 p.z)) k num vp vr co pl (ps.set i p) := by
  have q := (World.ownsRow.stored (World.ownsRow.stored (World.ownsRow.stored (World.ownsRow.stored (World.ownsRow.stored (World.ownsRow.stored h.2 (5 + i * 6) (.bool p.h)).1 (5 + i * 6 + 1) (.bool p.r.deny)).1 (5 + i * 6 + 2) (.string p.r.who)).1 (5 + i * 6 + 3) (.string p.r.method)).1 (5 + i * 6 + 4) (.string p.r.path)).1 (5 + i * 6 + 5) (.int .i64 p.z)).1
  rw [arC_put (by rw [h.1]; exact hi)] at q
  exact ⟨by rw [List.length_set]; exact h.1, q⟩
theorem ArB.heap (h : ArB w k num vp vr co pl ps) : w.heap[k]? = some (.cells (arC num vp vr co pl ps).toArray 55 (0, 0)) := by
  obtain ⟨hl, hr⟩ := h.2
  rcases hr with ⟨e, _⟩ | ⟨g, cap, cur, e, _, hh, _, _, hcs, ht⟩
  · cases e
  · cases e
    rw [hh, ← ht, List.take_of_length_le (by simp; omega)]
theorem ArB.of_heap (hh : w.heap[k]? = some (.cells (arC num vp vr co pl ps).toArray 55 (0, 0))) (hl : ps.length = 230) : ArB w k num vp vr co pl ps := by
  have e := arC_len (num := num) (vp := vp) (vr := vr) (co := co) (pl := pl) hl
  exact ⟨hl, e, .inr ⟨k, 1, _, rfl, Nat.le_refl _, hh, Nat.le_refl _, by unfold maxLen; omega, by simp [e], List.take_of_length_le (by simp [e])⟩⟩
theorem ArB.grown {r : Option Nat} (h : ArB w k num vp vr co pl ps) (hg : w.grownBy w' r) (hr : some k ≠ r) : ArB w' k num vp vr co pl ps := ⟨h.1, World.ownsRow.kept h.2 hg (.inr hr)⟩
theorem ArB.other (h : ArB w k num vp vr co pl ps) {k' : Nat} (hk : k ≠ k') (j : Nat) (x : Value) : ArB (w.setCell ⟨k', j, none⟩ x) k num vp vr co pl ps := ⟨h.1, ownsRow_setCell_other h.2 (by simpa [Value.ownBlock] using hk) x⟩
end
theorem row_setRow {w : World} {base : Nat} {e : TypeId} {size n : Nat} {v : Value} {xs : List Value} (h : w.ownsRow base e size v n xs) {g : Nat} (hg : ∀ k, v.ownBlock = some k → k ≠ g) (cs : Array Value) : (w.setRow g cs).ownsRow base e size v n xs := by
  obtain ⟨hl, hr⟩ := h
  refine ⟨hl, ?_⟩
  rcases hr with h0 | ⟨k, cap, cur, rfl, hb, hh, hrest⟩
  · exact .inl h0
  · exact .inr ⟨k, cap, cur, rfl, hb, (setRow_other w g k cs (hg k rfl)).trans hh, hrest⟩
/-- The great block is written whole. -/
theorem ArB.row {w : World} {k : Nat} {num num' : Int} {vp vr vp' vr' : Value} {co pl co' pl' : Int} {ps ps' : List Pl} (h : ArB w k num vp vr co pl ps) (hl : ps'.length = 230) : ArB (w.setRow k (arC num' vp' vr' co' pl' ps').toArray) k num' vp' vr' co' pl' ps' :=
  ArB.of_heap (setRow_heap w k _ _ _ _ h.heap) hl
def plZs : List Pl := List.replicate 230 plZ
theorem plZs_len : plZs.length = 230 := by unfold plZs; rw [List.length_replicate]
def arZ : Array Value := (arC 0 (.slice none 0 0) (.slice none 0 0) 0 0 plZs).toArray

set_option maxRecDepth 100000 in
theorem infoAr : (Tryz.prog.info? 55).map (fun i => (i.zero, i.size)) = some (some (.agg arZ), 1385) := by kernel_rfl

set_option maxRecDepth 100000 in
theorem builtAr3 (num : Int) (a c : Value) (co pl : Int) : Tryz.prog.built 55 [(0, .agg #[.int .i64 num, a, c]), (1, .int .i64 co), (2, .int .i64 pl)] = some (arC num a c co pl plZs).toArray := by kernel_rfl

set_option maxRecDepth 100000 in
theorem builtAr1 (num : Int) (a c : Value) : Tryz.prog.built 55 [(0, .agg #[.int .i64 num, a, c])] = some (arC num a c 0 0 plZs).toArray := by kernel_rfl

theorem arP_len (s : Sd) : (arP s).length = 230 := by simp [arP]
theorem arT_len (s : Sd) (k : Nat) : (arT s k).length = 230 := by simp [arT]
theorem arT_zero (s : Sd) : arT s 0 = plZs := by
  apply List.ext_getElem?
  intro i
  unfold arT plZs
  rw [List.getElem?_map, List.getElem?_replicate]
  by_cases h : i < 230
  · rw [List.getElem?_range h, if_pos h]
    simp
  · rw [List.getElem?_eq_none (by rw [List.length_range]; omega), if_neg h]
    rfl
theorem arT_succ (s : Sd) (k : Nat) (hk : k < 230) : arT s (k + 1) = (arT s k).set k (plS s k) := by
  apply List.ext_getElem?
  intro i
  by_cases h : k = i
  · subst h
    rw [List.getElem?_set_self (by rw [arT_len]; exact hk)]
    simp [arT, hk]
  · rw [List.getElem?_set_ne h]
    by_cases hi : i < 230
    · have e : (i < k + 1) = (i < k) := by apply propext; omega
      simp [arT, hi, e]
    · simp [arT, hi]
theorem plS_out {s : Sd} {i : Nat} (h : s.ha.length ≤ i) (h1 : s.ru.length = s.ha.length) (h2 : s.se.length = s.ha.length) : plS s i = plZ := by
  unfold plS plZ
  rw [List.getElem?_eq_none h, List.getElem?_eq_none (by omega), List.getElem?_eq_none (by omega)]
  rfl
theorem arT_end {s : Sd} (h1 : s.ru.length = s.ha.length) (h2 : s.se.length = s.ha.length) : arT s s.ha.length = arP s := by
  unfold arT arP
  apply List.map_congr_left
  intro i _
  by_cases h : i < s.ha.length
  · simp [h]
  · simp [h, plS_out (Nat.le_of_not_lt h) h1 h2]

end Go.Proofs.YtjnajdilllkpcaaGreat

namespace Go.Proofs.YtjnajdilllkpcaaGreat
open Go.RowKit Go.Shelf

theorem wpList_alloc_great {P : Program} {w : World} {ops : Array Oper} {rest : List Oper} {o : Oper} {a : Act} {Q : Exit → Act → World → Prop} (hgd : o.guard = none) (t : TypeId) (ho : o.op = .alloc t) (i : TypeInfo) (cs : Array Value) (hi : P.info? t = some i) (hz : i.zero = some (.agg cs)) {k : Nat} (hk : k = w.heap.size)
    (h : wpList P ops Q rest (a.put o.dst (.pointer (some ⟨k, 0, none⟩))) (w.alloc (.cells cs t))) : wpList P ops Q (o :: rest) a w := by
  subst hk
  refine wpList_plain hgd fun K hK => ?_
  unfold Oper.wp execOp
  simp [ho, Instr.alloc, zeroValue, typeInfo, hi, hz, newVar, newRow, Value.cells, Result.andThen]
  exact hK _ _ h
theorem step_alloc {P : Program} {w : World} {ops : Array Oper} {o : Oper} {a : Act} {K : Act → World → Prop} {Q : Exit → Act → World → Prop} {E : Prop} (hgd : o.guard = none) (t : TypeId) (ho : o.op = .alloc t) (i : TypeInfo) (cs : Array Value) (hi : P.info? t = some i) (hz : i.zero = some (.agg cs))
    (h : K (a.put o.dst (.pointer (some ⟨w.heap.size, 0, none⟩))) (w.alloc (.cells cs t))) : if Region.wanted o (yielded ops a.tmps) = true then Oper.wp P o a w K Q else E := by
  have hw : Region.wanted o (yielded ops a.tmps) = true := by simp [Region.wanted, hgd]
  rw [if_pos hw]
  unfold Oper.wp execOp
  simp [ho, Instr.alloc, zeroValue, typeInfo, hi, hz, newVar, newRow, Value.cells, Result.andThen]
  exact h
theorem step_store {P : Program} {w : World} {ops : Array Oper} {o : Oper} {a : Act} {K : Act → World → Prop} {Q : Exit → Act → World → Prop} {E : Prop} (hgd : o.guard = none) (ty : TypeId) (x y : Operand) (ho : o.op = .store ty x y)
    (g : Nat) (cells : Array Value) (hx : a.eval x = .pointer (some ⟨g, 0, none⟩)) (hy : a.eval y = .agg cells)
    (t : TypeId) (old : Array Value) (hg : w.heap[g]? = some (.cells old t (0, 0))) (hi : (P.info? ty).map (·.size) = some cells.size)
    (hold : old.size = cells.size) (h1 : cells.all (·.oneCell') = true)
    (h : K (a.put o.dst undef) (w.setRow g cells)) : if Region.wanted o (yielded ops a.tmps) = true then Oper.wp P o a w K Q else E := by
  have hw : Region.wanted o (yielded ops a.tmps) = true := by simp [Region.wanted, hgd]
  rw [if_pos hw]
  exact wp_store_row ty x y ho g cells hx hy t old hg hi hold h1 h
theorem exec_build {P : Program} {ρ : Operand → Value} {o : Oper} (t : TypeId) (parts : Array (Nat × Operand)) (ho : o.op = .build t parts) (cells : Array Value) (hc : P.built t (parts.toList.map fun p => (p.1, ρ p.2)) = some cells) (w : World) : (execOp ρ o).run P w = .ok (.value (.agg cells)) w := by
  have hc : P.built t (parts.map fun (i, x) => (i, ρ x)).toList = some cells := by rw [Array.toList_map]; exact hc
  unfold execOp
  simp only [ho, Sem.run_bind, run_build w t _ cells hc, Result.andThen_ok]
  rfl
theorem ArB.new (w : World) {k : Nat} (hk : k = w.heap.size) : ArB (w.alloc (.cells arZ 55)) k 0 (.slice none 0 0) (.slice none 0 0) 0 0 plZs := by
  subst hk
  exact ArB.of_heap (heap_alloc_new w _) plZs_len
theorem ar_all {num : Int} {vp vr : Value} {co pl : Int} {ps : List Pl} (h1 : vp.oneCell' = true) (h2 : vr.oneCell' = true) : (arC num vp vr co pl ps).toArray.all (·.oneCell') = true := by
  rw [List.all_toArray, List.all_eq_true]
  exact arC_one h1 h2
theorem ar_size {num : Int} {vp vr : Value} {co pl : Int} {ps : List Pl} (h : ps.length = 230) : (Tryz.prog.info? 55).map (·.size) = some (arC num vp vr co pl ps).toArray.size := by
  have e := infoAr
  rw [List.size_toArray, arC_len h]
  cases hq : Tryz.prog.info? 55 with
  | none => rw [hq] at e; simp at e
  | some i =>
    rw [hq] at e
    simp only [Option.map_some, Option.some.injEq, Prod.mk.injEq] at e ⊢
    exact e.2
theorem ar_zero : ∃ i, Tryz.prog.info? 55 = some i ∧ i.zero = some (.agg arZ) := by
  have e := infoAr
  cases hq : Tryz.prog.info? 55 with
  | none => rw [hq] at e; simp at e
  | some i =>
    rw [hq] at e
    simp only [Option.map_some, Option.some.injEq, Prod.mk.injEq] at e
    exact ⟨i, rfl, e.1⟩
theorem ar_same {num num' : Int} {vp vr vp' vr' : Value} {co pl co' pl' : Int} {ps ps' : List Pl} (h : ps.length = 230) (h' : ps'.length = 230) : (arC num vp vr co pl ps).toArray.size = (arC num' vp' vr' co' pl' ps').toArray.size := by
  rw [List.size_toArray, List.size_toArray, arC_len h, arC_len h']
theorem plS_at {s : Sd} {k : Nat} (h : k < s.ha.length) (hr : k < s.ru.length) (hz : k < s.se.length) : plS s k = ⟨s.ha[k], s.ru[k], s.se[k]⟩ := by
  unfold plS
  rw [List.getElem?_eq_getElem h, List.getElem?_eq_getElem hr, List.getElem?_eq_getElem hz]
  rfl

set_option maxHeartbeats 8000000 in
set_option maxRecDepth 100000 in
theorem arrivalAt_any (v : Value) (s : Sd) (w : World) (hs : s.short) (hg : sdB s = true) (h : SdR w v s) :
    Calls Tryz.prog 14 #[v] w fun e w' => ∃ vp vr, e = .returned (.agg (arC s.fo.num vp vr s.co (s.ha.length : Int) (arP s)).toArray) ∧ SnO w' w.heap.size w'.heap.size (.agg #[.int .i64 s.fo.num, vp, vr]) s.fo ∧ Below w.heap.size w w' := by
  have h' := h
  obtain ⟨e1, e2, e3⟩ := lnB_parts (sd_parts hg).2.1
  obtain ⟨vp, vr, vu, vh, vs, rfl, h1, h2, h3, h4, h5⟩ := h
  have hs' := hs
  obtain ⟨hf, l3, l4, l5, lr⟩ := hs
  obtain ⟨ap, cp, rfl⟩ := h1.len
  obtain ⟨ar, cr, rfl⟩ := h2.len
  obtain ⟨au, cu, rfl⟩ := h3.len
  obtain ⟨ah, ch, rfl⟩ := h4.s.bolLen
  obtain ⟨ai, ci, rfl⟩ := h5.len
  obtain ⟨iA, hiA, hzA⟩ := ar_zero
  have HE := hid (arT_end e1 e2)
  have E1 := hid e1
  have E2 := hid e2
  clear e1 e2
  have hB0 : Below w.heap.size w ((w.alloc (.cells #[.int .i64 s.fo.num, .slice ap s.fo.pol.length cp, .slice ar s.fo.rv.length cr, .int .i64 s.co, .slice au s.ru.length cu, .slice ah s.ha.length ch, .slice ai s.se.length ci] 29)).alloc (.cells arZ 55)) := ((Below.refl _ w).alloc (Nat.le_refl _) _).alloc (by simp) _
  have F := (Seven.new w (.int .i64 s.fo.num) (.slice ap s.fo.pol.length cp) (.slice ar s.fo.rv.length cr) (.int .i64 s.co) (.slice au s.ru.length cu) (.slice ah s.ha.length ch) (.slice ai s.se.length ci) 29).below ((Below.refl _ _).alloc (Nat.le_refl _) (.cells arZ 55))
  have F2 : ArB ((w.alloc (.cells #[.int .i64 s.fo.num, .slice ap s.fo.pol.length cp, .slice ar s.fo.rv.length cr, .int .i64 s.co, .slice au s.ru.length cu, .slice ah s.ha.length ch, .slice ai s.se.length ci] 29)).alloc (.cells arZ 55)) (w.heap.size + 1) 0 (.slice none 0 0) (.slice none 0 0) 0 0 plZs := ArB.new (w.alloc (.cells #[.int .i64 s.fo.num, .slice ap s.fo.pol.length cp, .slice ar s.fo.rv.length cr, .int .i64 s.co, .slice au s.ru.length cu, .slice ah s.ha.length ch, .slice ai s.se.length ci] 29)) (by simp)
  have hk2 := F2.lt
  go_enter Tryz.func14, Tryz.ntmps14
  go_upto_region 1 with (refine wpList_alloc_great rfl 55 rfl iA arZ hiA hzA (k := w.heap.size + 1) (by simp) ?_; try simp only [Act.put, List.setIfInBounds_toArray, List.set_cons_zero, List.set_cons_succ])
  generalize (w.alloc (.cells #[.int .i64 s.fo.num, .slice ap s.fo.pol.length cp, .slice ar s.fo.rv.length cr, .int .i64 s.co, .slice au s.ru.length cu, .slice ah s.ha.length ch, .slice ai s.se.length ci] 29)).alloc (.cells arZ 55) = W0 at *
  go_cut [3] (fun s3 wx => ∃ (k3 : Nat) (x1 : Option Addr) (z1 : Nat) (x2 : Option Addr) (z2 base top : Nat), s3 = .pointer (some ⟨k3, 0, none⟩) ∧ ArB wx k3 s.fo.num (.slice x1 s.fo.pol.length z1) (.slice x2 s.fo.rv.length z2) s.co (s.ha.length : Int) plZs ∧ W0.heap.size ≤ k3 ∧ Seven wx 29 w.heap.size (.int .i64 s.fo.num) (.slice ap s.fo.pol.length cp) (.slice ar s.fo.rv.length cr) (.int .i64 s.co) (.slice au s.ru.length cu) (.slice ah s.ha.length ch) (.slice ai s.se.length ci) ∧ ArB wx (w.heap.size + 1) 0 (.slice none 0 0) (.slice none 0 0) 0 0 plZs ∧ W0.heap.size ≤ base ∧ top ≤ wx.heap.size ∧ (k3 + 1 ≤ base ∨ top ≤ k3) ∧ SnO wx base top (.agg #[.int .i64 s.fo.num, .slice x1 s.fo.pol.length z1, .slice x2 s.fo.rv.length z2]) s.fo ∧ Below w.heap.size w wx)
  case first =>
    have gF : Seven W0.drew _ _ _ _ _ _ _ _ _ := World.ownsRow.drew F
    have g2 : ArB W0.drew (w.heap.size + 1) 0 (.slice none 0 0) (.slice none 0 0) 0 0 plZs := ⟨F2.1, World.ownsRow.drew F2.2⟩
    have gB : Below w.heap.size w W0.drew := ⟨hB0.os, hB0.tape, hB0.output, hB0.size, hB0.block⟩
    have gs : W0.heap.size ≤ W0.drew.heap.size := Nat.le_refl _
    have gk : w.heap.size + 1 < W0.drew.heap.size := hk2
    clear F F2 hB0
    refine wp_region_held_drew (S := fun W => W.cell? ⟨w.heap.size, 0, none⟩ = some (.int .i64 s.fo.num) ∧ W.cell? ⟨w.heap.size, 1, none⟩ = some (.slice ap s.fo.pol.length cp) ∧ W.cell? ⟨w.heap.size, 2, none⟩ = some (.slice ar s.fo.rv.length cr) ∧ W.cell? ⟨w.heap.size, 3, none⟩ = some (.int .i64 s.co) ∧ W.cell? ⟨w.heap.size, 5, none⟩ = some (.slice ah s.ha.length ch)) (by kernel_rfl) (by exact ⟨gF.c.1, gF.c.2.1, gF.c.2.2.1, gF.c.2.2.2.1, gF.c.2.2.2.2.2.1⟩) (fun hHeld => ?_)
    generalize W0.drew = We at *
    refine takeW 0 (v := ?v1) rfl (by kernel_rfl) (by kernel_rfl) (by kernel_rfl) (fun _ _ _ h => h) (by rfl) (by assumption) ?hy1 ?rest1
    case hy1 => intro w' hSw; (try dsimp only at hSw); go_simp; try with_reducible rfl
    try simp only [Act.put, List.setIfInBounds_toArray, List.set_cons_zero, List.set_cons_succ]
    refine takeW 1 (v := ?v2) rfl (by kernel_rfl) (by kernel_rfl) (by kernel_rfl) (fun _ _ _ h => h) (by rfl) (by assumption) ?hy2 ?rest2
    case hy2 => intro w' hSw; (try dsimp only at hSw); go_simp; try with_reducible rfl
    try simp only [Act.put, List.setIfInBounds_toArray, List.set_cons_zero, List.set_cons_succ]
    refine takeW 3 (v := ?v3) rfl (by kernel_rfl) (by kernel_rfl) (by kernel_rfl) (fun _ _ _ h => h) (by rfl) (by assumption) ?hy3 ?rest3
    case hy3 => intro w' hSw; (try dsimp only at hSw); go_simp; try with_reducible rfl
    try simp only [Act.put, List.setIfInBounds_toArray, List.set_cons_zero, List.set_cons_succ]
    refine takeW 4 (v := ?v4) rfl (by kernel_rfl) (by kernel_rfl) (by kernel_rfl) (fun _ _ _ h => h) (by rfl) (by assumption) ?hy4 ?rest4
    case hy4 => intro w' hSw; (try dsimp only at hSw); go_simp; try with_reducible rfl
    try simp only [Act.put, List.setIfInBounds_toArray, List.set_cons_zero, List.set_cons_succ]
    refine takeW 5 (v := ?v5) rfl (by kernel_rfl) (by kernel_rfl) (by kernel_rfl) (fun _ _ _ h => h) (by rfl) (by assumption) ?hy5 ?rest5
    case hy5 => intro w' hSw; (try dsimp only at hSw); go_simp; try with_reducible rfl
    try simp only [Act.put, List.setIfInBounds_toArray, List.set_cons_zero, List.set_cons_succ]
    refine takeW 6 (v := ?v6) rfl (by kernel_rfl) (by kernel_rfl) (by kernel_rfl) (fun _ _ _ h => h) (by rfl) (by assumption) ?hy6 ?rest6
    case hy6 => intro w' hSw; (try dsimp only at hSw); go_simp; try with_reducible rfl
    try simp only [Act.put, List.setIfInBounds_toArray, List.set_cons_zero, List.set_cons_succ]
    refine takeW 7 (v := ?v7) rfl (by kernel_rfl) (by kernel_rfl) (by kernel_rfl) (fun _ _ _ h => h) (by rfl) (by assumption) ?hy7 ?rest7
    case hy7 => intro w' hSw; (try dsimp only at hSw); go_simp; try with_reducible rfl
    try simp only [Act.put, List.setIfInBounds_toArray, List.set_cons_zero, List.set_cons_succ]
    refine takeC2 2 9 (by kernel_rfl) rfl rfl (fun K hK => ?_) (fun K hK => ?_)
    · go_simp
      refine (copySnapshot_any _ s.fo _ hf ((h'.below gB).fo)).mono ?_; rintro e w2 ⟨v2, rfl, O2, hB2⟩; obtain ⟨x1, z1, x2, z2, rfl⟩ := sn_forms O2.a; replace gF := gF.below hB2; replace g2 := g2.below hB2; replace gB := below_one gB hB2; have gs2 := hB2.size
      refine hK.out _ _ ?_ (fun hHeld => ?_)
      · exact ⟨gF.c.1, gF.c.2.1, gF.c.2.2.1, gF.c.2.2.2.1, gF.c.2.2.2.2.2.1⟩
      clear hK K
      try simp only [Act.put, List.setIfInBounds_toArray, List.set_cons_zero, List.set_cons_succ]
      refine takeW 8 (v := .agg (arC s.fo.num (.slice x1 s.fo.pol.length z1) (.slice x2 s.fo.rv.length z2) s.co (s.ha.length : Int) plZs).toArray) rfl (by kernel_rfl) (by kernel_rfl) (by kernel_rfl) (fun _ _ _ h => h) (by rfl) (by assumption) (fun w' _ => exec_build 55 _ rfl _ (builtAr3 s.fo.num (.slice x1 s.fo.pol.length z1) (.slice x2 s.fo.rv.length z2) s.co (s.ha.length : Int)) w') ?_
      try simp only [Act.put, List.setIfInBounds_toArray, List.set_cons_zero, List.set_cons_succ]
      refine takeC 9 (by kernel_rfl) rfl (fun K hK => ?_)
      refine step_alloc rfl 55 rfl iA arZ hiA hzA ?_; replace gF := gF.below ((Below.refl _ w2).alloc (Nat.le_refl _) (.cells arZ 55)); replace g2 := g2.below ((Below.refl _ w2).alloc (Nat.le_refl _) (.cells arZ 55)); replace gB := gB.alloc gB.size (.cells arZ 55); replace O2 := O2.below ((Below.refl _ w2).alloc (Nat.le_refl _) (.cells arZ 55)); have gA0 : ArB (w2.alloc (.cells arZ 55)) w2.heap.size 0 (.slice none 0 0) (.slice none 0 0) 0 0 plZs := ArB.new w2 rfl; have hwz : w2.heap.size < (w2.alloc (.cells arZ 55)).heap.size := by simp
      refine hK.out _ _ ?_ (fun hHeld => ?_)
      · exact ⟨gF.c.1, gF.c.2.1, gF.c.2.2.1, gF.c.2.2.2.1, gF.c.2.2.2.2.2.1⟩
      clear hK K
      try simp only [Act.put, List.setIfInBounds_toArray, List.set_cons_zero, List.set_cons_succ]
      generalize w2.alloc (.cells arZ 55) = Wz at *
      generalize w2.heap.size = k3 at *
      have gA : ArB Wz k3 0 (.slice none 0 0) (.slice none 0 0) 0 0 plZs := gA0
      have hkk : k3 < Wz.heap.size := gA.lt
      replace gF : Seven (Wz.setRow k3 _) _ _ _ _ _ _ _ _ _ := row_setRow gF (fun j e => by simp [Value.ownBlock] at e; omega) (arC s.fo.num (.slice x1 s.fo.pol.length z1) (.slice x2 s.fo.rv.length z2) s.co (s.ha.length : Int) plZs).toArray
      replace g2 : ArB (Wz.setRow k3 _) _ _ _ _ _ _ _ := ⟨g2.1, row_setRow g2.2 (fun j e => by simp [Value.ownBlock] at e; omega) (arC s.fo.num (.slice x1 s.fo.pol.length z1) (.slice x2 s.fo.rv.length z2) s.co (s.ha.length : Int) plZs).toArray⟩
      have gA2 := gA.row (num' := s.fo.num) (vp' := .slice x1 s.fo.pol.length z1) (vr' := .slice x2 s.fo.rv.length z2) (co' := s.co) (pl' := (s.ha.length : Int)) plZs_len
      replace gB := below_setRow gB (g := k3) (by omega) (arC s.fo.num (.slice x1 s.fo.pol.length z1) (.slice x2 s.fo.rv.length z2) s.co (s.ha.length : Int) plZs).toArray
      obtain ⟨_, _, e9, o1, o2, t1, t2⟩ := O2
      cases e9
      have z1' := row_setRow o1 (g := k3) (fun j e => by have := t1 j e; omega) (arC s.fo.num (.slice x1 s.fo.pol.length z1) (.slice x2 s.fo.rv.length z2) s.co (s.ha.length : Int) plZs).toArray
      have z2' := row_setRow o2 (g := k3) (fun j e => by have := t2 j e; omega) (arC s.fo.num (.slice x1 s.fo.pol.length z1) (.slice x2 s.fo.rv.length z2) s.co (s.ha.length : Int) plZs).toArray
      refine takeC 10 (by kernel_rfl) rfl (fun K hK => ?_)
      refine step_store rfl 55 (.tmp 3) (.tmp 13) rfl k3 _ rfl rfl 55 _ gA.heap (ar_size plZs_len) (ar_same plZs_len plZs_len) (ar_all rfl rfl) ?_
      refine hK.out _ _ ?_ (fun hHeld => ?_)
      · exact ⟨gF.c.1, gF.c.2.1, gF.c.2.2.1, gF.c.2.2.2.1, gF.c.2.2.2.2.2.1⟩
      clear hK K
      try simp only [Act.put]
      refine wpAnyH_done (by kernel_rfl) ?_ _
      go_wp2_with fail
      go_meet
      exact ⟨k3, x1, z1, x2, z2, We.heap.size, k3, rfl, gA2, by omega, gF, g2, by omega, by simp <;> omega, .inr (by omega), ⟨_, _, rfl, z1', z2', t1, t2⟩, gB⟩
    · refine step_alloc rfl 55 rfl iA arZ hiA hzA ?_; replace gF := gF.below ((Below.refl _ We).alloc (Nat.le_refl _) (.cells arZ 55)); replace g2 := g2.below ((Below.refl _ We).alloc (Nat.le_refl _) (.cells arZ 55)); replace gB := gB.alloc gB.size (.cells arZ 55); have gA0 : ArB (We.alloc (.cells arZ 55)) We.heap.size 0 (.slice none 0 0) (.slice none 0 0) 0 0 plZs := ArB.of_heap (heap_alloc_new _ _) plZs_len; have hwz : We.heap.size < (We.alloc (.cells arZ 55)).heap.size := by simp
      refine hK.out _ _ ?_ (fun hHeld => ?_)
      · exact ⟨gF.c.1, gF.c.2.1, gF.c.2.2.1, gF.c.2.2.2.1, gF.c.2.2.2.2.2.1⟩
      clear hK K
      try simp only [Act.put, List.setIfInBounds_toArray, List.set_cons_zero, List.set_cons_succ]
      generalize We.alloc (.cells arZ 55) = Wq at *
      generalize We.heap.size = k3 at *
      refine takeC 2 (by kernel_rfl) rfl (fun K hK => ?_)
      go_simp
      refine (copySnapshot_any _ s.fo _ hf ((h'.below gB).fo)).mono ?_; rintro e w2 ⟨v2, rfl, O2, hB2⟩; obtain ⟨x1, z1, x2, z2, rfl⟩ := sn_forms O2.a; replace gF := gF.below hB2; replace g2 := g2.below hB2; replace gB := below_one gB hB2; have gs2 := hB2.size; replace gA0 := gA0.below hB2
      refine hK.out _ _ ?_ (fun hHeld => ?_)
      · exact ⟨gF.c.1, gF.c.2.1, gF.c.2.2.1, gF.c.2.2.2.1, gF.c.2.2.2.2.2.1⟩
      clear hK K
      try simp only [Act.put, List.setIfInBounds_toArray, List.set_cons_zero, List.set_cons_succ]
      have gA : ArB w2 k3 0 (.slice none 0 0) (.slice none 0 0) 0 0 plZs := gA0
      have hkk : k3 < w2.heap.size := gA.lt
      refine takeW 8 (v := .agg (arC s.fo.num (.slice x1 s.fo.pol.length z1) (.slice x2 s.fo.rv.length z2) s.co (s.ha.length : Int) plZs).toArray) rfl (by kernel_rfl) (by kernel_rfl) (by kernel_rfl) (fun _ _ _ h => h) (by rfl) (by assumption) (fun w' _ => exec_build 55 _ rfl _ (builtAr3 s.fo.num (.slice x1 s.fo.pol.length z1) (.slice x2 s.fo.rv.length z2) s.co (s.ha.length : Int)) w') ?_
      try simp only [Act.put, List.setIfInBounds_toArray, List.set_cons_zero, List.set_cons_succ]
      replace gF : Seven (w2.setRow k3 _) _ _ _ _ _ _ _ _ _ := row_setRow gF (fun j e => by simp [Value.ownBlock] at e; omega) (arC s.fo.num (.slice x1 s.fo.pol.length z1) (.slice x2 s.fo.rv.length z2) s.co (s.ha.length : Int) plZs).toArray
      replace g2 : ArB (w2.setRow k3 _) _ _ _ _ _ _ _ := ⟨g2.1, row_setRow g2.2 (fun j e => by simp [Value.ownBlock] at e; omega) (arC s.fo.num (.slice x1 s.fo.pol.length z1) (.slice x2 s.fo.rv.length z2) s.co (s.ha.length : Int) plZs).toArray⟩
      have gA2 := gA.row (num' := s.fo.num) (vp' := .slice x1 s.fo.pol.length z1) (vr' := .slice x2 s.fo.rv.length z2) (co' := s.co) (pl' := (s.ha.length : Int)) plZs_len
      replace gB := below_setRow gB (g := k3) (by omega) (arC s.fo.num (.slice x1 s.fo.pol.length z1) (.slice x2 s.fo.rv.length z2) s.co (s.ha.length : Int) plZs).toArray
      obtain ⟨_, _, e9, o1, o2, t1, t2⟩ := O2
      cases e9
      have z1' := row_setRow o1 (g := k3) (fun j e => by have := (o1.lt j e).1; omega) (arC s.fo.num (.slice x1 s.fo.pol.length z1) (.slice x2 s.fo.rv.length z2) s.co (s.ha.length : Int) plZs).toArray
      have z2' := row_setRow o2 (g := k3) (fun j e => by have := (o2.lt j e).1; omega) (arC s.fo.num (.slice x1 s.fo.pol.length z1) (.slice x2 s.fo.rv.length z2) s.co (s.ha.length : Int) plZs).toArray
      refine takeC 10 (by kernel_rfl) rfl (fun K hK => ?_)
      refine step_store rfl 55 (.tmp 3) (.tmp 13) rfl k3 _ rfl rfl 55 _ gA.heap (ar_size plZs_len) (ar_same plZs_len plZs_len) (ar_all rfl rfl) ?_
      refine hK.out _ _ ?_ (fun hHeld => ?_)
      · exact ⟨gF.c.1, gF.c.2.1, gF.c.2.2.1, gF.c.2.2.2.1, gF.c.2.2.2.2.2.1⟩
      clear hK K
      try simp only [Act.put]
      refine wpAnyH_done (by kernel_rfl) ?_ _
      go_wp2_with fail
      go_meet
      exact ⟨k3, x1, z1, x2, z2, Wq.heap.size, w2.heap.size, rfl, gA2, by omega, gF, g2, by omega, by simp <;> omega, .inl (by omega), ⟨_, _, rfl, z1', z2', t1, t2⟩, gB⟩
  case rest =>
    obtain ⟨k3, x1, z1, x2, z2, base, top, rfl, A, hk3, F, F2, hb, ht, hap, O, hB⟩ := hcut
    clear hB0
    obtain ⟨a0, a1, a2, a3, a4, a5, a6⟩ := F.c
    go_wp2_with fail
    clear a0 a1 a2 a3 a4 a5 a6
    go_loopw [17] (fun i wr => ∃ k : Nat, k ≤ s.ha.length ∧ i = .int .i64 k ∧ ArB wr k3 s.fo.num (.slice x1 s.fo.pol.length z1) (.slice x2 s.fo.rv.length z2) s.co (s.ha.length : Int) (arT s k) ∧ Mid k3 (k3 + 1) wc wr) (fun i _ => s.ha.length - (intOf i).toNat)
    case atStart => exact ⟨0, Nat.zero_le _, rfl, by rw [arT_zero]; exact A, Mid.of_below (Below.refl _ _)⟩
    case round =>
      obtain ⟨k, hk, rfl, A', hM⟩ := hrel
      have F' := hM.seven F (.inl (by omega))
      have hBr : Below w.heap.size w wr := hB.trans (hM.below (by omega) hB.size)
      by_cases hlt : k < s.ha.length
      · have hlr : k < s.ru.length := by rw [E1.out]; exact hlt
        have hlz : k < s.se.length := by rw [E2.out]; exact hlt
        have hk9 : k < 230 := by omega
        have HP := hid (plS_at hlt hlr hlz)
        have HS := hid (arT_succ s k hk9)
        have hC := fun W hW => spotAt_any (.agg #[.int .i64 s.fo.num, .slice ap s.fo.pol.length cp, .slice ar s.fo.rv.length cr, .int .i64 s.co, .slice au s.ru.length cu, .slice ah s.ha.length ch, .slice ai s.se.length ci]) s k W hs' hW hlt hlr hlz
        generalize s.ha[k] = x0 at *
        generalize s.ru[k] = r at *
        generalize s.se[k] = z at *
        obtain ⟨a0, a1, a2, a3, a4, a5, a6⟩ := F'.c
        go_wp2_with fail
        refine (hC _ (h'.below hBr)).mono ?_
        rintro e w3 ⟨rfl, hB3⟩
        have A3 := A'.below hB3
        obtain ⟨d0, d1, d2, d3, d4, d5⟩ := A3.at (i := k) hk9 (by rw [A3.1]; exact hk9)
        have f0 := A3.f (5 + k * 6)
        have f1 := A3.f (5 + k * 6 + 1)
        have f2 := A3.f (5 + k * 6 + 2)
        have f3 := A3.f (5 + k * 6 + 3)
        have f4 := A3.f (5 + k * 6 + 4)
        have f5 := A3.f (5 + k * 6 + 5)
        have A4 := A3.put (i := k) hk9 ⟨x0, r, z⟩
        have hM3 := hM.trans (Mid.of_below hB3)
        clear hC a0 a1 a2 a3 a4 a5 a6 A'
        go_wp2_with fail
        go_roundw
        case rel => exact ⟨k + 1, by omega, by go_num, by rw [HS.out, HP.out]; exact A4, (((((hM3.set (by simp) (by simp) _).set (by simp) (by simp) _).set (by simp) (by simp) _).set (by simp) (by simp) _).set (by simp) (by simp) _).set (by simp) (by simp) _⟩
        case measure => simp [intOf]; omega
      · obtain rfl : k = s.ha.length := by omega
        rw [HE.out] at A'
        have G2 : ArB wr (w.heap.size + 1) 0 (.slice none 0 0) (.slice none 0 0) 0 0 plZs := ⟨F2.1, hM.row F2.2 (fun j e => by simp [Value.ownBlock] at e; omega)⟩
        have O' := hM.sno O hap
        obtain ⟨_, _, e9, o1, o2, t1, t2⟩ := O'
        cases e9
        have q1 := row_setRow o1 (g := w.heap.size + 1) (fun j e => by have := (o1.lt j e).1; omega) (arC s.fo.num (.slice x1 s.fo.pol.length z1) (.slice x2 s.fo.rv.length z2) s.co (s.ha.length : Int) (arP s)).toArray
        have q2 := row_setRow o2 (g := w.heap.size + 1) (fun j e => by have := (o2.lt j e).1; omega) (arC s.fo.num (.slice x1 s.fo.pol.length z1) (.slice x2 s.fo.rv.length z2) s.co (s.ha.length : Int) (arP s)).toArray
        have G3 := G2.row (num' := s.fo.num) (vp' := .slice x1 s.fo.pol.length z1) (vr' := .slice x2 s.fo.rv.length z2) (co' := s.co) (pl' := (s.ha.length : Int)) (arP_len s)
        have pB := below_setRow hBr (g := w.heap.size + 1) (by omega) (arC s.fo.num (.slice x1 s.fo.pol.length z1) (.slice x2 s.fo.rv.length z2) s.co (s.ha.length : Int) (arP s)).toArray
        go_wp2_with (first | (refine wpList_load_row rfl 55 (.tmp 3) rfl k3 rfl 55 _ (0, 0) _ A'.heap Tryz.underlying55 rfl (ar_size (arP_len s)) ?_) | (refine wpList_store_row rfl 55 (.tmp 2) (.tmp 27) rfl (w.heap.size + 1) _ rfl rfl 55 _ G2.heap (ar_size (arP_len s)) (ar_same plZs_len (arP_len s)) (ar_all rfl rfl) ?_))
        exact bodyPost_ret (v := .agg _) (results_cell_row rfl _ _ (w.heap.size + 1) 55 _ (0, 0) _ rfl G3.heap Tryz.underlying55 rfl (ar_size (arP_len s))) rfl ⟨_, _, rfl, ⟨_, _, rfl, Go.Joins.ownsRow_le q1 (by omega), Go.Joins.ownsRow_le q2 (by omega), fun j e => (q1.lt j e).2, fun j e => (q2.lt j e).2⟩, pB⟩

end Go.Proofs.YtjnajdilllkpcaaGreat

namespace Go.Proofs.YtjnajdilllkpcaaGreat
open Go.RowKit Go.Shelf

/-- A side that comes together: its block, its lists. -/
structure SdI (W wr : World) (k5 : Nat) (num : Int) (vp vr : Value) (co : Int) (vu vh vs : Value) (ru : List Ru) (ha : List Bool) (se : List Int) : Prop where
  t : Seven wr 29 k5 (.int .i64 num) vp vr (.int .i64 co) vu vh vs
  r : wr.ownsRow W.heap.size 31 4 vu ru.length (ru.flatMap Ru.cells)
  h : wr.ownsRow W.heap.size 4 1 vh ha.length (bls ha)
  n : wr.ownsRow W.heap.size 3 1 vs se.length (nums se)
  b : Below k5 W wr
  k : k5 < W.heap.size
section
variable {W wr w3 : World} {k5 : Nat} {num co : Int} {vp vr vu vh vs v3 : Value} {ru : List Ru} {ha : List Bool} {se : List Int}
theorem SdI.new (h : SdI W wr k5 num vp vr co vu vh vs ru ha se) (o : Obj) : SdI W (wr.alloc o) k5 num vp vr co vu vh vs ru ha se :=
  ⟨World.ownsRow.alloc h.t o, h.r.alloc o, h.h.alloc o, h.n.alloc o, h.b.alloc (Nat.le_trans (Nat.le_of_lt h.k) h.b.size) o, h.k⟩
theorem SdI.putR {r : Ru} (h : SdI W wr k5 num vp vr co vu vh vs ru ha se) (o3 : w3.ownsRow W.heap.size 31 4 v3 (ru.length + 1) (ru.flatMap Ru.cells ++ r.cells)) (g3 : wr.grownBy w3 vu.ownBlock) : SdI W (w3.setCell ⟨k5, 4, none⟩ v3) k5 num vp vr co v3 vh vs (ru ++ [r]) ha se := by
  have hk := h.k
  have t3 : Seven w3 29 k5 (.int .i64 num) vp vr (.int .i64 co) vu vh vs := World.ownsRow.kept h.t g3 (.inr (fun e => by have h1 := (h.r.lt k5 e.symm).1; omega))
  have q := ownsRow_setCell_below o3 (a := ⟨k5, 4, none⟩) (by simpa using hk) v3
  exact ⟨t3.s4 v3, by simpa using q, ownsRow_setCell_below (kept_apart h.h g3 (row_apart h.h h.r (by decide))) (by simpa using hk) v3, ownsRow_setCell_below (kept_apart h.n g3 (row_apart h.n h.r (by decide))) (by simpa using hk) v3, (h.b.grown g3 (Nat.le_trans (Nat.le_of_lt hk) h.b.size) (fun j e => by have := (h.r.lt j e).1; omega)).setCell (by simp) v3, hk⟩
theorem SdI.putH {x : Bool} (h : SdI W wr k5 num vp vr co vu vh vs ru ha se) (o3 : w3.ownsRow W.heap.size 4 1 v3 (ha.length + 1) (bls ha ++ [.bool x])) (g3 : wr.grownBy w3 vh.ownBlock) : SdI W (w3.setCell ⟨k5, 5, none⟩ v3) k5 num vp vr co vu v3 vs ru (ha ++ [x]) se := by
  have hk := h.k
  have t3 : Seven w3 29 k5 (.int .i64 num) vp vr (.int .i64 co) vu vh vs := World.ownsRow.kept h.t g3 (.inr (fun e => by have h1 := (h.h.lt k5 e.symm).1; omega))
  have q := ownsRow_setCell_below o3 (a := ⟨k5, 5, none⟩) (by simpa using hk) v3
  exact ⟨t3.s5 v3, ownsRow_setCell_below (kept_apart h.r g3 (row_apart h.r h.h (by decide))) (by simpa using hk) v3, by simpa [bls] using q, ownsRow_setCell_below (kept_apart h.n g3 (row_apart h.n h.h (by decide))) (by simpa using hk) v3, (h.b.grown g3 (Nat.le_trans (Nat.le_of_lt hk) h.b.size) (fun j e => by have := (h.h.lt j e).1; omega)).setCell (by simp) v3, hk⟩
theorem SdI.putN {z : Int} (h : SdI W wr k5 num vp vr co vu vh vs ru ha se) (o3 : w3.ownsRow W.heap.size 3 1 v3 (se.length + 1) (nums se ++ [.int .i64 z])) (g3 : wr.grownBy w3 vs.ownBlock) : SdI W (w3.setCell ⟨k5, 6, none⟩ v3) k5 num vp vr co vu vh v3 ru ha (se ++ [z]) := by
  have hk := h.k
  have t3 : Seven w3 29 k5 (.int .i64 num) vp vr (.int .i64 co) vu vh vs := World.ownsRow.kept h.t g3 (.inr (fun e => by have h1 := (h.n.lt k5 e.symm).1; omega))
  have q := ownsRow_setCell_below o3 (a := ⟨k5, 6, none⟩) (by simpa using hk) v3
  exact ⟨t3.s6 v3, ownsRow_setCell_below (kept_apart h.r g3 (row_apart h.r h.n (by decide))) (by simpa using hk) v3, ownsRow_setCell_below (kept_apart h.h g3 (row_apart h.h h.n (by decide))) (by simpa using hk) v3, by simpa [nums] using q, (h.b.grown g3 (Nat.le_trans (Nat.le_of_lt hk) h.b.size) (fun j e => by have := (h.n.lt j e).1; omega)).setCell (by simp) v3, hk⟩
end
theorem step_small {P : Program} {w : World} {ops : Array Oper} {o : Oper} {a : Act} {K : Act → World → Prop} {Q : Exit → Act → World → Prop} {E : Prop} (hgd : o.guard = none) (h : Oper.wp P o a w K Q) : if Region.wanted o (yielded ops a.tmps) = true then Oper.wp P o a w K Q else E := by
  have hw : Region.wanted o (yielded ops a.tmps) = true := by simp [Region.wanted, hgd]
  rw [if_pos hw]
  exact h

set_option maxHeartbeats 1000000 in
theorem lacks_any (k : Nat) (num : Int) (vp vr : Value) (s : Sd) (p : Int) (w : World) (hl : s.ha.length ≤ 230) (h : ArB w k num vp vr s.co (s.ha.length : Int) (arP s)) :
    Calls Tryz.prog 34 #[.pointer (some ⟨k, 0, none⟩), .int .i64 p] w fun e w' => e = .returned (.bool (lkB s p)) ∧ w' = w := by
  obtain ⟨c0, c1, c2, c3, c4⟩ := h.c
  by_cases h0 : 0 ≤ p
  · obtain ⟨n, rfl⟩ := Int.eq_ofNat_of_zero_le h0
    have d0 : decide ((n : Int) ≥ 0) = true := by simp
    by_cases h1 : n < s.ha.length
    · have hn : n < 230 := by omega
      obtain ⟨d0, d1, d2, d3, d4, d5⟩ := h.at (i := n) hn (by rw [h.1]; exact hn)
      have e1 : (arP s)[n]'(by rw [h.1]; exact hn) = plS s n := by simp [arP]
      rw [e1] at d0
      have e2 : (plS s n).h = s.ha[n] := by unfold plS; rw [List.getElem?_eq_getElem h1]; rfl
      rw [e2] at d0
      clear d1 d2 d3 d4 d5 e1 e2
      have HR1 := hid (fun h => lk_no2 (s := s) h1 h)
      have HR2 := hid (fun h => lk_yes (s := s) h1 h)
      generalize s.ha[n] = x at *
      cases x
      · have HR := hid (HR2.out rfl)
        go_enter Tryz.func34, Tryz.ntmps34
        go_wp2
        go_ret
        exact ⟨ret_bool HR.out.symm, rfl⟩
      · have HR := hid (HR1.out rfl)
        go_enter Tryz.func34, Tryz.ntmps34
        go_wp2
        go_ret
        exact ⟨ret_bool HR.out.symm, rfl⟩
    · have HR := hid (show lkB s (n : Int) = false by unfold lkB; rw [decide_eq_false (by omega)]; rfl)
      go_enter Tryz.func34, Tryz.ntmps34
      go_wp2
      go_ret
      exact ⟨ret_bool HR.out.symm, rfl⟩
  · have HR := hid (show lkB s p = false by unfold lkB; rw [decide_eq_false (by omega)]; rfl)
    go_enter Tryz.func34, Tryz.ntmps34
    go_wp2
    go_ret
    exact ⟨ret_bool HR.out.symm, rfl⟩

set_option maxHeartbeats 8000000 in
set_option maxRecDepth 100000 in
theorem side_any (k : Nat) (num : Int) (a1 : Option Addr) (n1 c1 : Nat) (a2 : Option Addr) (n2 c2 : Nat) (co : Int) (n : Nat) (ps : List Pl) (w : World) (hn : n ≤ 230) (h : ArB w k num (.slice a1 n1 c1) (.slice a2 n2 c2) co (n : Int) ps) :
    Calls Tryz.prog 16 #[.pointer (some ⟨k, 0, none⟩)] w fun e w' => ∃ vu vh vs, e = .returned (.agg #[.int .i64 num, .slice a1 n1 c1, .slice a2 n2 c2, .int .i64 co, vu, vh, vs]) ∧ w'.ownsRow w.heap.size 31 4 vu ((ps.take n).map (·.r)).length (((ps.take n).map (·.r)).flatMap Ru.cells) ∧ w'.ownsRow w.heap.size 4 1 vh ((ps.take n).map (·.h)).length (bls ((ps.take n).map (·.h))) ∧ w'.ownsRow w.heap.size 3 1 vs ((ps.take n).map (·.z)).length (nums ((ps.take n).map (·.z))) ∧ Below w.heap.size w w' := by
  obtain ⟨iw, hiw, hw0, hw1, hw2⟩ := info_parts infoRule
  obtain ⟨ib, hib, hb0, hb1, hb2⟩ := info_parts infoBool
  obtain ⟨ii, hii, hi0, hi1, hi2⟩ := info_parts infoInt
  have hk := h.lt
  have hB0 : Below w.heap.size w (w.alloc (.cells #[.int .i64 0, .slice none 0 0, .slice none 0 0, .int .i64 0, .slice none 0 0, .slice none 0 0, .slice none 0 0] 29)) := (Below.refl _ w).alloc (Nat.le_refl _) _
  have F2 := Seven.new w (.int .i64 0) (.slice none 0 0) (.slice none 0 0) (.int .i64 0) (.slice none 0 0) (.slice none 0 0) (.slice none 0 0) 29
  have A := h.below hB0
  have hs0 : w.heap.size < (w.alloc (.cells #[.int .i64 0, .slice none 0 0, .slice none 0 0, .int .i64 0, .slice none 0 0, .slice none 0 0, .slice none 0 0] 29)).heap.size := F2.lt
  go_enter Tryz.func16, Tryz.ntmps16
  go_upto_region 1 with fail
  generalize w.alloc (.cells #[.int .i64 0, .slice none 0 0, .slice none 0 0, .int .i64 0, .slice none 0 0, .slice none 0 0, .slice none 0 0] 29) = W0 at *
  clear h
  go_cut [3] (fun s3 wx => ∃ k3 : Nat, s3 = .pointer (some ⟨k3, 0, none⟩) ∧ w.heap.size < k3 ∧ k3 < wx.heap.size ∧ Seven wx 29 k3 (.int .i64 num) (.slice a1 n1 c1) (.slice a2 n2 c2) (.int .i64 co) (.slice none 0 0) (.slice none 0 0) (.slice none 0 0) ∧ ArB wx k num (.slice a1 n1 c1) (.slice a2 n2 c2) co (n : Int) ps ∧ Seven wx 29 w.heap.size (.int .i64 0) (.slice none 0 0) (.slice none 0 0) (.int .i64 0) (.slice none 0 0) (.slice none 0 0) (.slice none 0 0) ∧ Below w.heap.size w wx)
  case first =>
    have gA : ArB W0.drew k num (.slice a1 n1 c1) (.slice a2 n2 c2) co (n : Int) ps := ⟨A.1, World.ownsRow.drew A.2⟩
    have g2 : Seven W0.drew _ _ _ _ _ _ _ _ _ := World.ownsRow.drew F2
    have gB : Below w.heap.size w W0.drew := ⟨hB0.os, hB0.tape, hB0.output, hB0.size, hB0.block⟩
    have gs : w.heap.size < W0.drew.heap.size := hs0
    clear A F2 hB0 hs0
    refine wp_region_held_drew (S := fun W => W.cell? ⟨k, 0, none⟩ = some (.int .i64 num) ∧ W.cell? ⟨k, 1, none⟩ = some (.slice a1 n1 c1) ∧ W.cell? ⟨k, 2, none⟩ = some (.slice a2 n2 c2) ∧ W.cell? ⟨k, 3, none⟩ = some (.int .i64 co)) (by kernel_rfl) (by exact ⟨gA.c.1, gA.c.2.1, gA.c.2.2.1, gA.c.2.2.2.1⟩) (fun hHeld => ?_)
    generalize W0.drew = We at *
    refine takeW 0 (v := ?v1) rfl (by kernel_rfl) (by kernel_rfl) (by kernel_rfl) (fun _ _ _ h => h) (by rfl) (by assumption) ?hy1 ?rest1
    case hy1 => intro w' hSw; (try dsimp only at hSw); go_simp; try with_reducible rfl
    try simp only [Act.put, List.setIfInBounds_toArray, List.set_cons_zero, List.set_cons_succ]
    refine takeW 1 (v := ?v2) rfl (by kernel_rfl) (by kernel_rfl) (by kernel_rfl) (fun _ _ _ h => h) (by rfl) (by assumption) ?hy2 ?rest2
    case hy2 => intro w' hSw; (try dsimp only at hSw); go_simp; try with_reducible rfl
    try simp only [Act.put, List.setIfInBounds_toArray, List.set_cons_zero, List.set_cons_succ]
    refine takeW 2 (v := ?v3) rfl (by kernel_rfl) (by kernel_rfl) (by kernel_rfl) (fun _ _ _ h => h) (by rfl) (by assumption) ?hy3 ?rest3
    case hy3 => intro w' hSw; (try dsimp only at hSw); go_simp; try with_reducible rfl
    try simp only [Act.put, List.setIfInBounds_toArray, List.set_cons_zero, List.set_cons_succ]
    refine takeW 3 (v := ?v4) rfl (by kernel_rfl) (by kernel_rfl) (by kernel_rfl) (fun _ _ _ h => h) (by rfl) (by assumption) ?hy4 ?rest4
    case hy4 => intro w' hSw; (try dsimp only at hSw); go_simp; try with_reducible rfl
    try simp only [Act.put, List.setIfInBounds_toArray, List.set_cons_zero, List.set_cons_succ]
    refine takeW 4 (v := ?v5) rfl (by kernel_rfl) (by kernel_rfl) (by kernel_rfl) (fun _ _ _ h => h) (by rfl) (by assumption) ?hy5 ?rest5
    case hy5 => intro w' hSw; (try dsimp only at hSw); go_simp; try with_reducible rfl
    try simp only [Act.put, List.setIfInBounds_toArray, List.set_cons_zero, List.set_cons_succ]
    refine takeW 5 (v := ?v6) rfl (by kernel_rfl) (by kernel_rfl) (by kernel_rfl) (fun _ _ _ h => h) (by rfl) (by assumption) ?hy6 ?rest6
    case hy6 => intro w' hSw; (try dsimp only at hSw); go_simp; try with_reducible rfl
    try simp only [Act.put, List.setIfInBounds_toArray, List.set_cons_zero, List.set_cons_succ]
    refine takeW 6 (v := ?v7) rfl (by kernel_rfl) (by kernel_rfl) (by kernel_rfl) (fun _ _ _ h => h) (by rfl) (by assumption) ?hy7 ?rest7
    case hy7 => intro w' hSw; (try dsimp only at hSw); go_simp; try with_reducible rfl
    try simp only [Act.put, List.setIfInBounds_toArray, List.set_cons_zero, List.set_cons_succ]
    refine takeW 7 (v := ?v8) rfl (by kernel_rfl) (by kernel_rfl) (by kernel_rfl) (fun _ _ _ h => h) (by rfl) (by assumption) ?hy8 ?rest8
    case hy8 => intro w' hSw; (try dsimp only at hSw); go_simp; try with_reducible rfl
    try simp only [Act.put, List.setIfInBounds_toArray, List.set_cons_zero, List.set_cons_succ]
    refine takeW 8 (v := ?v9) rfl (by kernel_rfl) (by kernel_rfl) (by kernel_rfl) (fun _ _ _ h => h) (by rfl) (by assumption) ?hy9 ?rest9
    case hy9 => intro w' hSw; (try dsimp only at hSw); go_simp; try with_reducible rfl
    try simp only [Act.put, List.setIfInBounds_toArray, List.set_cons_zero, List.set_cons_succ]
    refine takeC 9 (by kernel_rfl) rfl (fun K hK => ?_)
    go_simp
    have gA2 := gA
    replace gA := gA.below ((Below.refl _ We).alloc (Nat.le_refl _) (.cells #[.int .i64 0, .slice none 0 0, .slice none 0 0, .int .i64 0, .slice none 0 0, .slice none 0 0, .slice none 0 0] 29))
    replace g2 := g2.below ((Below.refl _ We).alloc (Nat.le_refl _) (.cells #[.int .i64 0, .slice none 0 0, .slice none 0 0, .int .i64 0, .slice none 0 0, .slice none 0 0, .slice none 0 0] 29))
    replace gB := gB.alloc gB.size (.cells #[.int .i64 0, .slice none 0 0, .slice none 0 0, .int .i64 0, .slice none 0 0, .slice none 0 0, .slice none 0 0] 29)
    have g3 := Seven.new We (.int .i64 0) (.slice none 0 0) (.slice none 0 0) (.int .i64 0) (.slice none 0 0) (.slice none 0 0) (.slice none 0 0) 29
    have g4 := g3.lt
    refine hK.out _ _ ?_ (fun hHeld => ?_)
    · exact ⟨gA.c.1, gA.c.2.1, gA.c.2.2.1, gA.c.2.2.2.1⟩
    clear hK K
    try simp only [Act.put, List.setIfInBounds_toArray, List.set_cons_zero, List.set_cons_succ]
    generalize hWq : We.alloc (.cells #[.int .i64 0, .slice none 0 0, .slice none 0 0, .int .i64 0, .slice none 0 0, .slice none 0 0, .slice none 0 0] 29) = Wq at *
    obtain ⟨r0, r1, r2, r3, r4, r5, r6⟩ := g3.c
    have hkq : We.heap.size < Wq.heap.size := g4
    generalize We.heap.size = k3 at *
    have f0 := g3.f 0
    have f1 := g3.f 1
    have f2 := g3.f 2
    have f3 := g3.f 3
    have f4 := g3.f 4
    have f5 := g3.f 5
    have f6 := g3.f 6
    have h3 := (((((((g3.s0 (.int .i64 num)).s1 (.slice a1 n1 c1)).s2 (.slice a2 n2 c2)).s3 (.int .i64 co)).s4 (.slice none 0 0)).s5 (.slice none 0 0)).s6 (.slice none 0 0))
    replace gA := (((((((gA.other (k' := k3) (by omega) 0 (.int .i64 num)).other (k' := k3) (by omega) 1 (.slice a1 n1 c1)).other (k' := k3) (by omega) 2 (.slice a2 n2 c2)).other (k' := k3) (by omega) 3 (.int .i64 co)).other (k' := k3) (by omega) 4 (.slice none 0 0)).other (k' := k3) (by omega) 5 (.slice none 0 0)).other (k' := k3) (by omega) 6 (.slice none 0 0))
    replace g2 := (((((((g2.other (k' := k3) (by omega) 0 (.int .i64 num)).other (k' := k3) (by omega) 1 (.slice a1 n1 c1)).other (k' := k3) (by omega) 2 (.slice a2 n2 c2)).other (k' := k3) (by omega) 3 (.int .i64 co)).other (k' := k3) (by omega) 4 (.slice none 0 0)).other (k' := k3) (by omega) 5 (.slice none 0 0)).other (k' := k3) (by omega) 6 (.slice none 0 0))
    replace gB := below_seven gB (k := k3) (by omega) (.int .i64 num) (.slice a1 n1 c1) (.slice a2 n2 c2) (.int .i64 co) (.slice none 0 0) (.slice none 0 0) (.slice none 0 0)
    have hsz : Wq.heap.size ≤ (((((((Wq.setCell ⟨k3, 0, none⟩ (.int .i64 num)).setCell ⟨k3, 1, none⟩ (.slice a1 n1 c1)).setCell ⟨k3, 2, none⟩ (.slice a2 n2 c2)).setCell ⟨k3, 3, none⟩ (.int .i64 co)).setCell ⟨k3, 4, none⟩ (.slice none 0 0)).setCell ⟨k3, 5, none⟩ (.slice none 0 0)).setCell ⟨k3, 6, none⟩ (.slice none 0 0)).heap.size := by simp
    refine takeC 10 (by kernel_rfl) rfl (fun K hK => ?_)
    go_simp
    skip
    refine hK.out _ _ ?_ (fun hHeld => ?_)
    · exact ⟨gA.c.1, gA.c.2.1, gA.c.2.2.1, gA.c.2.2.2.1⟩
    clear hK K
    try simp only [Act.put, List.setIfInBounds_toArray, List.set_cons_zero, List.set_cons_succ]
    refine wpAnyH_done (by kernel_rfl) ?_ _
    go_wp2_with fail
    go_meet
    exact ⟨k3, rfl, by omega, by omega, h3, gA, g2, gB⟩
  case rest =>
    obtain ⟨k3, rfl, hk3, hk4, F3, A, F2, hB⟩ := hcut
    clear hB0 hs0
    obtain ⟨b0, b1, b2, b3, b4⟩ := A.c
    have hnn : (n : Int) ≤ 230 := by omega
    go_upto_region 2 with fail
    go_quiet (fail)
    have hBq := below_draws1 wc nq
    replace F3 := F3.below hBq
    replace A := A.below hBq
    replace F2 := F2.below hBq
    replace hB := below_one hB hBq
    replace hk4 := Nat.lt_of_lt_of_le hk4 hBq.size
    clear hBq b0 b1 b2 b3 b4
    generalize wc.drewN nq = W2 at *
    go_wp2_with fail
    go_loopw [24] (fun i wr => ∃ (j : Nat) (vu vh vs : Value), j ≤ n ∧ i = .int .i64 j ∧ SdI W2 wr k3 num (.slice a1 n1 c1) (.slice a2 n2 c2) co vu vh vs ((ps.take j).map (·.r)) ((ps.take j).map (·.h)) ((ps.take j).map (·.z)) ∧ (j = 0 → vu = .slice none 0 0 ∧ vh = .slice none 0 0 ∧ vs = .slice none 0 0)) (fun i _ => n - (intOf i).toNat)
    case atStart => exact ⟨0, _, _, _, Nat.zero_le _, rfl, ⟨F3, World.ownsRow_nil _ _ _ _, World.ownsRow_nil _ _ _ _, World.ownsRow_nil _ _ _ _, Below.refl _ _, hk4⟩, fun _ => ⟨rfl, rfl, rfl⟩⟩
    case round =>
      obtain ⟨j, vu, vh, vs, hj, rfl, C, hnil⟩ := hrel
      have A' := A.low C.b (by omega)
      have hpl := A.1
      have hWs := C.b.size
      by_cases hlt : j < n
      · have hj9 : j < 230 := by omega
        have hjp : j < ps.length := by omega
        have HT := hid (List.take_succ_eq_append_getElem hjp)
        obtain ⟨d0, d1, d2, d3, d4, d5⟩ := A'.at (i := j) hj9 hjp
        have hlR : ((ps.take j).map (·.r)).length = j := by rw [List.length_map, List.length_take]; omega
        have hlH : ((ps.take j).map (·.h)).length = j := by rw [List.length_map, List.length_take]; omega
        have hlZ : ((ps.take j).map (·.z)).length = j := by rw [List.length_map, List.length_take]; omega
        have HLR := hid hlR
        have HLH := hid hlH
        have HLZ := hid hlZ
        clear hlR hlH hlZ
        generalize ps[j] = p at *
        obtain ⟨ph, pr, pz⟩ := p
        have HTr := hid (show (ps.take (j + 1)).map (·.r) = (ps.take j).map (·.r) ++ [pr] by rw [HT.out]; simp)
        have HTh := hid (show (ps.take (j + 1)).map (·.h) = (ps.take j).map (·.h) ++ [ph] by rw [HT.out]; simp)
        have HTz := hid (show (ps.take (j + 1)).map (·.z) = (ps.take j).map (·.z) ++ [pz] by rw [HT.out]; simp)
        clear HT
        generalize (ps.take j).map (·.r) = lr at *
        generalize (ps.take j).map (·.h) = lh at *
        generalize (ps.take j).map (·.z) = lz at *
        dsimp only at d0 d1 d2 d3 d4 d5
        have FS := Six.new wr (.bool ph) (.bool pr.deny) (.string pr.who) (.string pr.method) (.string pr.path) (.int .i64 pz) 52
        have C0 := C.new (.cells #[.bool ph, .bool pr.deny, .string pr.who, .string pr.method, .string pr.path, .int .i64 pz] 52)
        have hkl := FS.lt
        go_upto_region 5 with fail
        have bR : ∀ q, vu.ownBlock = some q → q < wr.heap.size := fun q e => (C.r.lt q e).2
        have bH : ∀ q, vh.ownBlock = some q → q < wr.heap.size := fun q e => (C.h.lt q e).2
        have bZ : ∀ q, vs.ownBlock = some q → q < wr.heap.size := fun q e => (C.n.lt q e).2
        clear d0 d1 d2 d3 d4 d5 A' C
        have hk5 : k3 < wr.heap.size := by omega
        generalize wr.alloc (.cells #[.bool ph, .bool pr.deny, .string pr.who, .string pr.method, .string pr.path, .int .i64 pz] 52) = Wr at *
        have hcase : j = 0 ∨ ∃ i, j = i + 1 := by cases j with | zero => exact .inl rfl | succ i => exact .inr ⟨i, rfl⟩
        rcases hcase with hj0 | ⟨i, hji⟩
        · have HJ := hid hj0
          clear hj0
          obtain rfl : lr = [] := List.eq_nil_of_length_eq_zero (HLR.out.trans HJ.out)
          obtain rfl : lh = [] := List.eq_nil_of_length_eq_zero (HLH.out.trans HJ.out)
          obtain rfl : lz = [] := List.eq_nil_of_length_eq_zero (HLZ.out.trans HJ.out)
          obtain ⟨rfl, rfl, rfl⟩ := hnil HJ.out
          obtain ⟨g0, g1, g2, g3, g4, g5, g6⟩ := C0.t.c
          obtain ⟨t0, t1, t2, t3, t4, t5⟩ := FS.c
          have hll : ([] : List Ru).length ≤ 230 := by rw [HLR.out]; omega
          have hws := C0.b.size
          go_wp2_with (at_builtin; refine wpList_append_own _ rfl _ _ 23 rfl W2.heap.size 31 iw _ 4 56 Tryz.underlying23 hiw hw0 hw1 hw2 rfl (by decide) _ _ _ rfl (C0.r.alloc _) ⟨Wr.heap.size, 0, none⟩ 1 1 (pr.cells) rfl rfl (cell_four_new _ _) (Ru.ones pr) (by unfold maxLen; first | omega | (simp <;> omega)) (by first | omega | (simp <;> omega)) (by first | omega | (simp <;> omega)) ?_)
          intro u' w3 o3 q3 _
          obtain ⟨g', cap3, rfl⟩ := ownsRow_succ o3
          clear g0 g1 g2 g3 g4 g5 g6 t0 t1 t2 t3 t4 t5 hll hws
          have C1 := (C0.new (.cells #[.bool pr.deny, .string pr.who, .string pr.method, .string pr.path] 31)).putR (r := pr) o3 q3
          have s3 : Seven w3 _ _ _ _ _ _ _ _ _ := World.ownsRow.kept (C0.t.below ((Below.refl _ Wr).alloc (Nat.le_refl _) (.cells #[.bool pr.deny, .string pr.who, .string pr.method, .string pr.path] 31))) q3 (.inr (fun e => by cases e))
          replace FS : Six w3 _ _ _ _ _ _ _ _ := World.ownsRow.kept (FS.below ((Below.refl _ Wr).alloc (Nat.le_refl _) (.cells #[.bool pr.deny, .string pr.who, .string pr.method, .string pr.path] 31))) q3 (.inr (fun e => by cases e))
          have cx := s3.c.2.2.2.2.1
          have fx := s3.f 4
          replace FS := FS.other (k' := k3) (by omega) 4 (.slice (some ⟨g', 0, none⟩) (([] : List Ru).length + 1) cap3)
          go_upto_region 6 with fail
          clear cx fx s3 C0 o3 q3
          generalize w3.setCell ⟨k3, 4, none⟩ (.slice (some ⟨g', 0, none⟩) (([] : List Ru).length + 1) cap3) = Ws at *
          obtain ⟨g0, g1, g2, g3, g4, g5, g6⟩ := C1.t.c
          obtain ⟨t0, t1, t2, t3, t4, t5⟩ := FS.c
          have hll : ([] : List Bool).length ≤ 230 := by rw [HLH.out]; omega
          have hws := C1.b.size
          go_wp2_with (at_builtin; refine wpList_append_own _ rfl _ _ 27 rfl W2.heap.size 4 ib _ 1 1 Tryz.underlying27 hib hb0 hb1 hb2 rfl (by decide) _ _ _ rfl (C1.h.alloc _) ⟨Ws.heap.size, 0, none⟩ 1 1 ([.bool ph]) rfl rfl (cell_one_new _ _ _) (by intro u hu; simp at hu; subst hu; rfl) (by unfold maxLen; first | omega | (simp <;> omega)) (by first | omega | (simp <;> omega)) (by first | omega | (simp <;> omega)) ?_)
          intro u' w3 o3 q3 _
          obtain ⟨g', cap3, rfl⟩ := ownsRow_succ o3
          clear g0 g1 g2 g3 g4 g5 g6 t0 t1 t2 t3 t4 t5 hll hws
          have C2 := (C1.new (.cells #[.bool ph] 4)).putH (x := ph) o3 q3
          have s3 : Seven w3 _ _ _ _ _ _ _ _ _ := World.ownsRow.kept (C1.t.below ((Below.refl _ Ws).alloc (Nat.le_refl _) (.cells #[.bool ph] 4))) q3 (.inr (fun e => by cases e))
          replace FS : Six w3 _ _ _ _ _ _ _ _ := World.ownsRow.kept (FS.below ((Below.refl _ Ws).alloc (Nat.le_refl _) (.cells #[.bool ph] 4))) q3 (.inr (fun e => by cases e))
          have cx := s3.c.2.2.2.2.2.1
          have fx := s3.f 5
          replace FS := FS.other (k' := k3) (by omega) 5 (.slice (some ⟨g', 0, none⟩) (([] : List Bool).length + 1) cap3)
          go_upto_region 7 with fail
          clear cx fx s3 C1 o3 q3
          generalize w3.setCell ⟨k3, 5, none⟩ (.slice (some ⟨g', 0, none⟩) (([] : List Bool).length + 1) cap3) = Wt at *
          obtain ⟨g0, g1, g2, g3, g4, g5, g6⟩ := C2.t.c
          obtain ⟨t0, t1, t2, t3, t4, t5⟩ := FS.c
          have hll : ([] : List Int).length ≤ 230 := by rw [HLZ.out]; omega
          have hws := C2.b.size
          go_wp2_with (at_builtin; refine wpList_append_own _ rfl _ _ 24 rfl W2.heap.size 3 ii _ 1 8 Tryz.underlying24 hii hi0 hi1 hi2 rfl (by decide) _ _ _ rfl (C2.n.alloc _) ⟨Wt.heap.size, 0, none⟩ 1 1 ([.int .i64 pz]) rfl rfl (cell_one_new _ _ _) (by intro u hu; simp at hu; subst hu; rfl) (by unfold maxLen; first | omega | (simp <;> omega)) (by first | omega | (simp <;> omega)) (by first | omega | (simp <;> omega)) ?_)
          intro u' w3 o3 q3 _
          obtain ⟨g', cap3, rfl⟩ := ownsRow_succ o3
          clear g0 g1 g2 g3 g4 g5 g6 t0 t1 t2 t3 t4 t5 hll hws
          have C3 := (C2.new (.cells #[.int .i64 pz] 3)).putN (z := pz) o3 q3
          have s3 : Seven w3 _ _ _ _ _ _ _ _ _ := World.ownsRow.kept (C2.t.below ((Below.refl _ Wt).alloc (Nat.le_refl _) (.cells #[.int .i64 pz] 3))) q3 (.inr (fun e => by cases e))
          replace FS : Six w3 _ _ _ _ _ _ _ _ := World.ownsRow.kept (FS.below ((Below.refl _ Wt).alloc (Nat.le_refl _) (.cells #[.int .i64 pz] 3))) q3 (.inr (fun e => by cases e))
          have cx := s3.c.2.2.2.2.2.2
          have fx := s3.f 6
          replace FS := FS.other (k' := k3) (by omega) 6 (.slice (some ⟨g', 0, none⟩) (([] : List Int).length + 1) cap3)
          go_wp2_with fail
          go_roundw
          case rel => exact ⟨j + 1, _, _, _, by omega, by go_num, by rw [HTr.out, HTh.out, HTz.out]; exact C3, fun h => absurd h (by omega)⟩
          case measure => simp [intOf]; omega
        · have HJ := hid hji
          clear hji hnil
          rcases row_form C0.r with ⟨_, h0⟩ | ⟨gu, cu, rfl, _, _⟩
          · exact absurd (h0.symm.trans (HLR.out.trans HJ.out)) (by omega)
          rcases row_form C0.h with ⟨_, h0⟩ | ⟨gh, ch, rfl, _, _⟩
          · exact absurd (h0.symm.trans (HLH.out.trans HJ.out)) (by omega)
          rcases row_form C0.n with ⟨_, h0⟩ | ⟨gz, cz, rfl, _, _⟩
          · exact absurd (h0.symm.trans (HLZ.out.trans HJ.out)) (by omega)
          obtain ⟨g0, g1, g2, g3, g4, g5, g6⟩ := C0.t.c
          obtain ⟨t0, t1, t2, t3, t4, t5⟩ := FS.c
          have hll : lr.length ≤ 230 := by rw [HLR.out]; omega
          have hws := C0.b.size
          go_wp2_with (at_builtin; refine wpList_append_own _ rfl _ _ 23 rfl W2.heap.size 31 iw _ 4 56 Tryz.underlying23 hiw hw0 hw1 hw2 rfl (by decide) _ _ _ rfl (C0.r.alloc _) ⟨Wr.heap.size, 0, none⟩ 1 1 (pr.cells) rfl rfl (cell_four_new _ _) (Ru.ones pr) (by unfold maxLen; first | omega | (simp <;> omega)) (by first | omega | (simp <;> omega)) (by first | omega | (simp <;> omega)) ?_)
          intro u' w3 o3 q3 _
          obtain ⟨g', cap3, rfl⟩ := ownsRow_succ o3
          clear g0 g1 g2 g3 g4 g5 g6 t0 t1 t2 t3 t4 t5 hll hws
          have C1 := (C0.new (.cells #[.bool pr.deny, .string pr.who, .string pr.method, .string pr.path] 31)).putR (r := pr) o3 q3
          have s3 : Seven w3 _ _ _ _ _ _ _ _ _ := World.ownsRow.kept (C0.t.below ((Below.refl _ Wr).alloc (Nat.le_refl _) (.cells #[.bool pr.deny, .string pr.who, .string pr.method, .string pr.path] 31))) q3 (.inr (fun e => by have h1 := (C0.r.lt k3 e.symm).1; have := C0.k; omega))
          replace FS : Six w3 _ _ _ _ _ _ _ _ := World.ownsRow.kept (FS.below ((Below.refl _ Wr).alloc (Nat.le_refl _) (.cells #[.bool pr.deny, .string pr.who, .string pr.method, .string pr.path] 31))) q3 (.inr (fun e => by have h1 := bR wr.heap.size e.symm; omega))
          have cx := s3.c.2.2.2.2.1
          have fx := s3.f 4
          replace FS := FS.other (k' := k3) (by omega) 4 (.slice (some ⟨g', 0, none⟩) (lr.length + 1) cap3)
          go_upto_region 6 with fail
          clear cx fx s3 C0 o3 q3
          generalize w3.setCell ⟨k3, 4, none⟩ (.slice (some ⟨g', 0, none⟩) (lr.length + 1) cap3) = Ws at *
          obtain ⟨g0, g1, g2, g3, g4, g5, g6⟩ := C1.t.c
          obtain ⟨t0, t1, t2, t3, t4, t5⟩ := FS.c
          have hll : lh.length ≤ 230 := by rw [HLH.out]; omega
          have hws := C1.b.size
          go_wp2_with (at_builtin; refine wpList_append_own _ rfl _ _ 27 rfl W2.heap.size 4 ib _ 1 1 Tryz.underlying27 hib hb0 hb1 hb2 rfl (by decide) _ _ _ rfl (C1.h.alloc _) ⟨Ws.heap.size, 0, none⟩ 1 1 ([.bool ph]) rfl rfl (cell_one_new _ _ _) (by intro u hu; simp at hu; subst hu; rfl) (by unfold maxLen; first | omega | (simp <;> omega)) (by first | omega | (simp <;> omega)) (by first | omega | (simp <;> omega)) ?_)
          intro u' w3 o3 q3 _
          obtain ⟨g', cap3, rfl⟩ := ownsRow_succ o3
          clear g0 g1 g2 g3 g4 g5 g6 t0 t1 t2 t3 t4 t5 hll hws
          have C2 := (C1.new (.cells #[.bool ph] 4)).putH (x := ph) o3 q3
          have s3 : Seven w3 _ _ _ _ _ _ _ _ _ := World.ownsRow.kept (C1.t.below ((Below.refl _ Ws).alloc (Nat.le_refl _) (.cells #[.bool ph] 4))) q3 (.inr (fun e => by have h1 := (C1.h.lt k3 e.symm).1; have := C1.k; omega))
          replace FS : Six w3 _ _ _ _ _ _ _ _ := World.ownsRow.kept (FS.below ((Below.refl _ Ws).alloc (Nat.le_refl _) (.cells #[.bool ph] 4))) q3 (.inr (fun e => by have h1 := bH wr.heap.size e.symm; omega))
          have cx := s3.c.2.2.2.2.2.1
          have fx := s3.f 5
          replace FS := FS.other (k' := k3) (by omega) 5 (.slice (some ⟨g', 0, none⟩) (lh.length + 1) cap3)
          go_upto_region 7 with fail
          clear cx fx s3 C1 o3 q3
          generalize w3.setCell ⟨k3, 5, none⟩ (.slice (some ⟨g', 0, none⟩) (lh.length + 1) cap3) = Wt at *
          obtain ⟨g0, g1, g2, g3, g4, g5, g6⟩ := C2.t.c
          obtain ⟨t0, t1, t2, t3, t4, t5⟩ := FS.c
          have hll : lz.length ≤ 230 := by rw [HLZ.out]; omega
          have hws := C2.b.size
          go_wp2_with (at_builtin; refine wpList_append_own _ rfl _ _ 24 rfl W2.heap.size 3 ii _ 1 8 Tryz.underlying24 hii hi0 hi1 hi2 rfl (by decide) _ _ _ rfl (C2.n.alloc _) ⟨Wt.heap.size, 0, none⟩ 1 1 ([.int .i64 pz]) rfl rfl (cell_one_new _ _ _) (by intro u hu; simp at hu; subst hu; rfl) (by unfold maxLen; first | omega | (simp <;> omega)) (by first | omega | (simp <;> omega)) (by first | omega | (simp <;> omega)) ?_)
          intro u' w3 o3 q3 _
          obtain ⟨g', cap3, rfl⟩ := ownsRow_succ o3
          clear g0 g1 g2 g3 g4 g5 g6 t0 t1 t2 t3 t4 t5 hll hws
          have C3 := (C2.new (.cells #[.int .i64 pz] 3)).putN (z := pz) o3 q3
          have s3 : Seven w3 _ _ _ _ _ _ _ _ _ := World.ownsRow.kept (C2.t.below ((Below.refl _ Wt).alloc (Nat.le_refl _) (.cells #[.int .i64 pz] 3))) q3 (.inr (fun e => by have h1 := (C2.n.lt k3 e.symm).1; have := C2.k; omega))
          replace FS : Six w3 _ _ _ _ _ _ _ _ := World.ownsRow.kept (FS.below ((Below.refl _ Wt).alloc (Nat.le_refl _) (.cells #[.int .i64 pz] 3))) q3 (.inr (fun e => by have h1 := bZ wr.heap.size e.symm; omega))
          have cx := s3.c.2.2.2.2.2.2
          have fx := s3.f 6
          replace FS := FS.other (k' := k3) (by omega) 6 (.slice (some ⟨g', 0, none⟩) (lz.length + 1) cap3)
          go_wp2_with fail
          go_roundw
          case rel => exact ⟨j + 1, _, _, _, by omega, by go_num, by rw [HTr.out, HTh.out, HTz.out]; exact C3, fun h => absurd h (by omega)⟩
          case measure => simp [intOf]; omega
      · obtain rfl : j = n := by omega
        obtain ⟨xu, yu, zu, rfl⟩ := row_slice C.r
        obtain ⟨xh, yh, zh, rfl⟩ := row_slice C.h
        obtain ⟨xs, ys, zs, rfl⟩ := row_slice C.n
        have G2 : Seven wr _ _ _ _ _ _ _ _ _ := row_low F2 C.b (fun j e => by simp [Value.ownBlock] at e; omega)
        have hBr : Below w.heap.size w wr := hB.trans (C.b.mono (by omega))
        obtain ⟨g0, g1, g2, g3, g4, g5, g6⟩ := C.t.c
        obtain ⟨r0, r1, r2, r3, r4, r5, r6⟩ := G2.c
        have f0 := G2.f 0
        have f1 := G2.f 1
        have f2 := G2.f 2
        have f3 := G2.f 3
        have f4 := G2.f 4
        have f5 := G2.f 5
        have f6 := G2.f 6
        have G3 := (((((((G2.s0 (.int .i64 num)).s1 (.slice a1 n1 c1)).s2 (.slice a2 n2 c2)).s3 (.int .i64 co)).s4 (.slice xu yu zu)).s5 (.slice xh yh zh)).s6 (.slice xs ys zs))
        have q1 := row_seven C.r (k := w.heap.size) (by omega) (.int .i64 num) (.slice a1 n1 c1) (.slice a2 n2 c2) (.int .i64 co) (.slice xu yu zu) (.slice xh yh zh) (.slice xs ys zs)
        have q2 := row_seven C.h (k := w.heap.size) (by omega) (.int .i64 num) (.slice a1 n1 c1) (.slice a2 n2 c2) (.int .i64 co) (.slice xu yu zu) (.slice xh yh zh) (.slice xs ys zs)
        have q3 := row_seven C.n (k := w.heap.size) (by omega) (.int .i64 num) (.slice a1 n1 c1) (.slice a2 n2 c2) (.int .i64 co) (.slice xu yu zu) (.slice xh yh zh) (.slice xs ys zs)
        have pB := below_seven hBr (k := w.heap.size) (Nat.le_refl _) (.int .i64 num) (.slice a1 n1 c1) (.slice a2 n2 c2) (.int .i64 co) (.slice xu yu zu) (.slice xh yh zh) (.slice xs ys zs)
        go_wp2_with fail
        clear g0 g1 g2 g3 g4 g5 g6 r0 r1 r2 r3 r4 r5 r6 f0 f1 f2 f3 f4 f5 f6
        generalize ((((((wr.setCell ⟨w.heap.size, 0, none⟩ (.int .i64 num)).setCell ⟨w.heap.size, 1, none⟩ (.slice a1 n1 c1)).setCell ⟨w.heap.size, 2, none⟩ (.slice a2 n2 c2)).setCell ⟨w.heap.size, 3, none⟩ (.int .i64 co)).setCell ⟨w.heap.size, 4, none⟩ (.slice xu yu zu)).setCell ⟨w.heap.size, 5, none⟩ (.slice xh yh zh)).setCell ⟨w.heap.size, 6, none⟩ (.slice xs ys zs) = W9 at *
        obtain ⟨d0, d1, d2, d3, d4, d5, d6⟩ := G3.c
        exact bodyPost_ret (v := .agg #[.int .i64 num, .slice a1 n1 c1, .slice a2 n2 c2, .int .i64 co, .slice xu yu zu, .slice xh yh zh, .slice xs ys zs]) (by simp [results, Tryz.results16, go_sem, d0, d1, d2, d3, d4, d5, d6]) rfl ⟨_, _, _, rfl, Go.Joins.ownsRow_le q1 (by omega), Go.Joins.ownsRow_le q2 (by omega), Go.Joins.ownsRow_le q3 (by omega), pB⟩

end Go.Proofs.YtjnajdilllkpcaaGreat
