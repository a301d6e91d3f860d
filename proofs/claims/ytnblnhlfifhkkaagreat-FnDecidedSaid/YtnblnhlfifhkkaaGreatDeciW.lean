/-
  The law FnDecided, walked.
-/
import Derived.Deep.AppendLies
import Derived.Test.YtnblnhlfifhkkaaGreatDeciM
import Derived.Test.YtnblnhlfifhkkaaGreatCurC
import Derived.Test.YtnblnhlfifhkkaaGreatImplI
import Derived.Test.YtnblnhlfifhkkaaGreatNeverI
namespace Go.Proofs.YtnblnhlfifhkkaaGreat
open Go.RowKit Go.Shelf

theorem below_3 {w W w1 : World} (h : Below w.heap.size w W) (h1 : Below W.heap.size W w1) : Below w.heap.size w w1 := h.trans (h1.mono h.size)
theorem step_append_own {P : Program} {w : World} {ops : Array Oper} {o : Oper} {a : Act} {K : Act → World → Prop} {Q : Exit → Act → World → Prop} {E : Prop} (hgd : o.guard = none) (s x : Operand) (t : TypeId)
    (ho : o.op = .call { callee := .builtin .append, args := #[s, x], argTypes := #[t, t] })
    (base : Nat) (e : TypeId) (i : TypeInfo) (z : Value) (size bytes : Nat) (ht : P.underlying t = some (.slice e)) (hi : P.info? e = some i) (hz : i.zero = some z)
    (hsize : i.size = size) (hby : i.bytes = bytes) (hzs : z.cells.size = size) (hsz : 0 < size)
    (v : Value) (n : Nat) (xs : List Value) (hs : a.eval s = v) (hown : w.ownsRow base e size v n xs)
    (ad : Addr) (m c : Nat) (news : List Value) (hx : a.eval x = .slice (some ad) m c) (hl : news.length = m * size) (hnews : ∀ j u, news[j]? = some u → w.cell? (ad.add j) = some u) (h1 : ∀ u ∈ news, u.oneCell' = true)
    (h63 : n + m ≤ maxLen) (hbytes : (n + m) * bytes ≤ 140737488355328) (hbase : base ≤ w.heap.size)
    (h : ∀ v' w', w'.ownsRow base e size v' (n + m) (xs ++ news) → w.grownBy w' v.ownBlock → K (a.put o.dst v') w') :
    if Region.wanted o (yielded ops a.tmps) = true then Oper.wp P o a w K Q else E := by
  have hw : Region.wanted o (yielded ops a.tmps) = true := by simp [Region.wanted, hgd]
  rw [if_pos hw]
  exact wp_append_own w s x t ho base e i z size bytes ht hi hz hsize hby hzs hsz v n xs hs hown ad m c news hx hl hnews h1 h63 hbytes hbase (fun v' w' h1 h2 _ => h v' w' h1 h2)

theorem below_row {n₀ : Nat} {w W w1 : World} {e : TypeId} {size k : Nat} {v : Value} {xs : List Value} (hB : Below n₀ w W) (hs : n₀ ≤ W.heap.size) (hrow : W.ownsRow n₀ e size v k xs) (hg : W.grownBy w1 v.ownBlock) : Below n₀ w w1 := by
  refine hB.grown hg hs fun j ej => ?_
  rcases hrow.2 with ⟨rfl, _⟩ | ⟨g, cap, cur, rfl, hb, _, _⟩
  · simp [Value.ownBlock] at ej
  · obtain rfl : g = j := by simpa [Value.ownBlock] using ej
    exact hb
theorem row_none (w : World) : (w.alloc (.cells #[] 52)).drew.ownsRow w.heap.size 52 4 (.slice (some ⟨w.heap.size, 0, none⟩) 0 0) 0 [] :=
  ⟨rfl, .inr ⟨w.heap.size, 0, #[], rfl, Nat.le_refl _, by show (w.heap.push _)[w.heap.size]? = _; rw [Array.getElem?_push_size], Nat.le_refl _, by unfold maxLen; omega, by simp, by simp⟩⟩
theorem take_cells {w : World} {base g c k : Nat} {rs : List Ru} (h : w.ownsRow base 52 4 (.slice (some ⟨g, 0, none⟩) rs.length c) rs.length (rs.flatMap Ru.cells)) (hk : k ≤ rs.length) : ∀ j u, ((rs.take k).flatMap Ru.cells)[j]? = some u → w.cell? ((⟨g, 0, none⟩ : Addr).add j) = some u := by
  intro j u hu
  have hj : j < ((rs.take k).flatMap Ru.cells).length := (List.getElem?_eq_some_iff.1 hu).1
  have hl : ((rs.take k).flatMap Ru.cells).length = k * 4 := by rw [flat_len, List.length_take]; omega
  rw [Addr.add_lit, Nat.zero_add, h.cellAt j (by omega)]
  conv => lhs; rw [← List.take_append_drop k rs, List.flatMap_append]
  rw [List.getElem?_append_left hj]
  exact hu
theorem drop_cells {w : World} {base g c k : Nat} {rs : List Ru} (h : w.ownsRow base 52 4 (.slice (some ⟨g, 0, none⟩) rs.length c) rs.length (rs.flatMap Ru.cells)) (hk : k ≤ rs.length) : ∀ j u, ((rs.drop k).flatMap Ru.cells)[j]? = some u → w.cell? ((⟨g, k * 4, none⟩ : Addr).add j) = some u := by
  intro j u hu
  have hj : j < ((rs.drop k).flatMap Ru.cells).length := (List.getElem?_eq_some_iff.1 hu).1
  have hl : ((rs.take k).flatMap Ru.cells).length = k * 4 := by rw [flat_len, List.length_take]; omega
  have hl' : ((rs.drop k).flatMap Ru.cells).length = (rs.length - k) * 4 := by rw [flat_len, List.length_drop]
  rw [Addr.add_lit, h.cellAt (k * 4 + j) (by omega)]
  conv => lhs; rw [← List.take_append_drop k rs, List.flatMap_append]
  rw [List.getElem?_append_right (by omega), hl, Nat.add_sub_cancel_left]
  exact hu
theorem cells_one2 {rs : List Ru} : ∀ u ∈ rs.flatMap Ru.cells, u.oneCell' = true := by
  intro u hu
  rw [List.mem_flatMap] at hu
  obtain ⟨r, _, hr⟩ := hu
  simp at hr
  rcases hr with rfl | rfl | rfl | rfl <;> rfl
theorem rmv_row {w : World} {base k : Nat} {v : Value} {rs : List Ru} (hk : k < rs.length) (h : w.ownsRow base 52 4 v (0 + k + (rs.length - (k + 1))) ([] ++ (rs.take k).flatMap Ru.cells ++ (rs.drop (k + 1)).flatMap Ru.cells)) : w.ownsRow base 52 4 v (rmv rs k).length ((rmv rs k).flatMap Ru.cells) := by
  rw [rmv_len hk]
  unfold rmv
  rw [List.flatMap_append]
  rw [List.nil_append, show 0 + k + (rs.length - (k + 1)) = rs.length - 1 by omega] at h
  exact h

theorem rmv_row0 {w : World} {base k : Nat} {v : Value} {rs : List Ru} (hk : rs.length = k + 1) (h : w.ownsRow base 52 4 v (0 + k + 0) ([] ++ (rs.take k).flatMap Ru.cells ++ [])) : w.ownsRow base 52 4 v (rmv rs k).length ((rmv rs k).flatMap Ru.cells) := by
  rw [rmv_len (by omega)]
  unfold rmv
  rw [List.drop_eq_nil_of_le (by omega), List.append_nil]
  rw [List.nil_append, List.append_nil, show 0 + k + 0 = rs.length - 1 by omega] at h
  exact h

set_option maxHeartbeats 4000000 in
set_option maxRecDepth 100000 in
theorem decidedWalk (a : Option Addr) (n c : Nat) (w : World) (hle : n ≤ c) (hn : n ≤ 1048576) (hB : ByS w a n) (hap : ∀ p, a = some p → p.block < w.heap.size) :
    Calls Tryz.prog 3 #[.slice a n c] w fun e w' => e = .returned (.bool true) ∧ Below w.heap.size w w' := by
  obtain ⟨i0, hi, hz0, hz1, hz2⟩ := info_parts infoRule
  go_enter Tryz.func3, Tryz.ntmps3
  go_wp2_with fail
  refine (drawDC_any a n c w hle hB hap).mono ?_
  rintro e w0 ⟨v, rs, x, rfl, hlen, hsm, hxz, hrow0, hB0⟩
  have hf : ∀ r ∈ rs, r.size ≤ 1048576 := fun r hr => by have := hsm r hr; omega
  have hx1 : x.size ≤ 1048576 := by omega
  obtain ⟨a1, c1, rfl⟩ := ownsRow_len hrow0
  have hBa : Below w0.heap.size w0 (w0.alloc (.cells #[.string x.who, .string x.method, .string x.path] 25)) := (Below.refl _ w0).alloc (Nat.le_refl _) _
  have hX1 := boxC_new w0 25 x.who x.method x.path
  have hrow1 := ownsRow_below hrow0 hBa
  have hBB1 := below_3 hB0 hBa
  clear hB hap hrow0 hB0 hBa
  go_upto_region 4 with fail
  generalize (w0.alloc (.cells #[.string x.who, .string x.method, .string x.path] 25)) = w1 at *
  generalize w0.heap.size = bx at *
  obtain ⟨_, x0, x1, x2, _, _, _⟩ := id hX1
  go_wp2_with fail
  refine (implDecideCall_any _ rs x _ (by omega) hf hx1 (RuS.own hrow1)).mono ?_
  rintro e w2 ⟨rfl, hB2⟩
  have hrow2 := ownsRow_below hrow1 hB2
  have hX2 := hX1.below hB2
  have hBB2 := below_3 hBB1 hB2
  clear x0 x1 x2 hX1 hrow1 hBB1 hB2
  obtain ⟨_, x0, x1, x2, _, _, _⟩ := id hX2
  go_wp2_with fail
  refine (specDecideCall_any _ rs x _ (by omega) hf hx1 (RuS.own hrow2)).mono ?_
  rintro e w3 ⟨rfl, hB3⟩
  have hrow3 := ownsRow_below hrow2 hB3
  have hX3 := hX2.below hB3
  have hBB3 := below_3 hBB2 hB3
  clear x0 x1 x2 hX2 hrow2 hBB2 hB3
  obtain ⟨_, x0, x1, x2, _, _, _⟩ := id hX3
  cases hok : dOk rs x
  · have HN := hid (d_no (List.range rs.length) hok)
    rw [HN.out.1, HN.out.2]
    go_wp2
    go_ret
    exact ⟨rfl, hBB3⟩
  · have hok' := hok
    unfold dOk at hok'
    rw [Bool.and_eq_true] at hok'
    obtain ⟨hpol, hgc⟩ := hok'
    have HY := hid (d_yes (List.range rs.length) hok)
    have HI := hid (d_yes (idxTo rs (fstB x.path) rs.length) hok)
    have HJ := hid (idx_dec hpol hgc)
    have HP := hid (plX_pol hpol)
    have HM := hid (fun r => plX_mem hpol r)
    have HL := hid (pol_all (plX_pol hpol)).2
    have hokP : dOk (plX rs) x = true := by unfold dOk; rw [HP.out, hgc]; rfl
    have HQ := hid (show dC (plX rs) x (List.range (plX rs).length) = decC rs x (List.range rs.length) by rw [(d_yes _ hokP).1]; exact plain_dec hpol x)
    rw [HY.out.1, HY.out.2]
    have HV := hid (fun (k : Nat) (hk : k < rs.length) (h : ncTo rs k rs.length = true) => (show dC (rmv rs k) x (List.range (rmv rs k).length) = decC rs x (List.range rs.length) ∧ dOk (rmv rs k) x = true by
      have ho : dOk (rmv rs k) x = true := by unfold dOk; rw [rmv_pol hk hpol, hgc]; rfl
      exact ⟨by rw [(d_yes _ ho).1]; exact never_dec hpol hgc hk h, ho⟩))
    have HC := hid (fun (k : Nat) (hk : k < rs.length) => (show ncOk rs (k : Int) = true ∧ ncB rs (k : Int) = ncTo rs k rs.length by
      have ho : ncOk rs (k : Int) = true := by unfold ncOk inB; rw [hpol, decide_eq_true (by omega), decide_eq_true (by omega)]; rfl
      refine ⟨ho, ?_⟩
      unfold ncB
      rw [ho]
      rfl))
    generalize decC rs x (List.range rs.length) = dc at *
    generalize decK rs x (List.range rs.length) = dk at *
    go_wp2_with fail
    refine (implDecideByIndex_any _ rs x _ (by omega) hf hx1 (RuS.own hrow3)).mono ?_
    rintro e w4 ⟨rfl, hB4⟩
    rw [HI.out.1, HI.out.2, HJ.out.1, HJ.out.2, hok]
    have hrow4 := ownsRow_below hrow3 hB4
    have hX4 := hX3.below hB4
    have hBB4 := below_3 hBB3 hB4
    clear x0 x1 x2 hX3 hrow3 hBB3 hB4
    go_wp2_with fail
    refine (implPlainPolicy_any _ rs _ _ (by omega) hf hrow4).mono ?_
    rintro e w5 ⟨v5, rfl, hrowP, hB5⟩
    rw [hpol]
    have hrow5 := ownsRow_below hrow4 hB5
    have hX5 := hX4.below hB5
    have hBB5 := below_3 hBB4 hB5
    clear hX4 hrow4 hBB4 hB5
    obtain ⟨_, x0, x1, x2, _, _, _⟩ := id hX5
    obtain ⟨a5, c5, rfl⟩ := ownsRow_len hrowP
    go_wp2_with fail
    refine (implDecideCall_any _ (plX rs) x _ (by have := HL.out; omega) (fun r hr => hf r ((HM.out r).1 hr)) hx1 (RuS.own hrowP)).mono ?_
    rintro e w6 ⟨rfl, hB6⟩
    rw [HQ.out, hokP]
    have hrow6 := ownsRow_below hrow5 hB6
    have hX6 := hX5.below hB6
    have hBB6 := below_3 hBB5 hB6
    clear x0 x1 x2 hX5 hrow5 hBB5 hB6 hrowP
    go_wp2_with fail
    go_loopw [108] (fun i wr => ∃ k : Nat, k ≤ rs.length ∧ i = .int .i64 k ∧ Below w6.heap.size w6 wr) (fun i _ => rs.length - (intOf i).toNat)
    case atStart => exact ⟨0, Nat.zero_le _, rfl, Below.refl _ _⟩
    case round =>
      obtain ⟨k, hk, rfl, hBr⟩ := hrel
      by_cases hlt : k < rs.length
      · have hrow7 := ownsRow_below hrow6 hBr
        obtain ⟨hnok, hnb⟩ := HC.out k hlt
        have HNB := hid hnb
        have HVK := hid (HV.out k hlt)
        clear hnb
        go_wp2_with fail
        refine (implNeverCounts_any _ rs (k : Int) _ (by omega) hf (RuS.own hrow7)).mono ?_
        rintro e w7 ⟨rfl, hB7⟩
        rw [hnok, HNB.out]
        have hB7' := below_3 hBr hB7
        cases hnc : ncTo rs k rs.length
        · go_wp2
          go_roundw
          case rel => exact ⟨k + 1, by omega, by go_num, hB7'⟩
          case measure => simp [intOf]; omega
        · have HE := hid (HVK.out hnc)
          have hrow8 := ownsRow_below hrow7 hB7
          have hX8 := hX6.below hB7'
          obtain ⟨_, x0, x1, x2, _, _, _⟩ := id hX8
          obtain ⟨g, rfl, hgb, hcap⟩ : ∃ g, a1 = some ⟨g, 0, none⟩ ∧ g < w7.heap.size ∧ rs.length ≤ c1 := by
            rcases hrow8.2 with ⟨h1, _⟩ | ⟨g, cp, cur, h1, _, hb, hc, _⟩
            · injection h1 with _ h2 _
              omega
            · injection h1 with h1 _ h2
              subst h2
              exact ⟨g, h1, (Array.getElem?_eq_some_iff.1 hb).1, hc⟩
          go_upto_region 24 with fail
          go_cut [22, 23, 24] (fun s1 s2 s3 wx => s1 = .int .i64 dc ∧ (∃ z : Int, s2 = .int .i64 z) ∧ s3 = .bool true ∧ Below w7.heap.size w7 wx)
          case first =>
            have hbx := hX8.lt
            have hown0 := row_none w7
            have hB9 : Below w7.heap.size w7 (w7.alloc (.cells #[] 52)).drew := ((Below.refl _ w7).alloc (Nat.le_refl _) _).drew
            have hsz9 := hB9.size
            have hrow9 := ownsRow_below hrow8 hB9
            have hl1 : ((rs.take k).flatMap Ru.cells).length = k * 4 := by rw [flat_len, List.length_take]; omega
            have hl2 : ((rs.drop (k + 1)).flatMap Ru.cells).length = (rs.length - (k + 1)) * 4 := by rw [flat_len, List.length_drop]
            have hkc : k ≤ c1 := by omega
            have hk1 : k + 1 ≤ rs.length := by omega
            have hwr : IntKind.i64.wrap ((k : Int) + 1) = (k : Int) + 1 := by rw [IntKind.wrap_i64]; omega
            have hge : (0 : Int) ≤ (k : Int) + 1 := by omega
            have hle2 : (k : Int) + 1 ≤ (rs.length : Int) := by omega
            have htn : ((k : Int) + 1).toNat = k + 1 := by omega
            by_cases hcm : c1 = k + 1
            · subst hcm
              have hI1 : (k : Int) ≤ (k : Int) + 1 := by omega
              have HKL := hid (show rs.length = k + 1 by omega)
              go_region_held3 (fun w' => w'.cell? ⟨bx, 0, none⟩ = some (.string x.who) ∧ w'.cell? ⟨bx, 1, none⟩ = some (.string x.method) ∧ w'.cell? ⟨bx, 2, none⟩ = some (.string x.path)) (go_keep) (first
              | (refine step_append_own rfl (.tmp 121) (.tmp 124) 23 rfl w7.heap.size 52 i0 _ 4 56 Tryz.underlying23 hi hz0 hz1 hz2 rfl (by decide) _ 0 [] rfl hown0 ⟨g, 0, none⟩ k (k + 1) ((rs.take k).flatMap Ru.cells) rfl hl1 (take_cells hrow9 hk) cells_one2 (by unfold maxLen; omega) (by omega) hsz9 ?_; intro v1 w8 hown1 hgrow1; have hB8 := below_row hB9 hsz9 hown0 hgrow1; have y0 := (hB8.cell (p := ⟨bx, 0, none⟩) hbx).trans x0; have y1 := (hB8.cell (p := ⟨bx, 1, none⟩) hbx).trans x1; have y2 := (hB8.cell (p := ⟨bx, 2, none⟩) hbx).trans x2; have hrowA := ownsRow_below hrow8 hB8)
              | (refine step_append_own rfl (.tmp 125) (.tmp 129) 23 rfl w7.heap.size 52 i0 _ 4 56 Tryz.underlying23 hi hz0 hz1 hz2 rfl (by decide) _ (0 + k) _ rfl hown1 ⟨g, 0, none⟩ 0 0 [] rfl rfl (fun j u h => by simp at h) (fun u h => by cases h) (by unfold maxLen; omega) (by omega) (by have := hB8.size; omega) ?_; intro v2 w9 hown2 hgrow2; have hB10 := below_row hB8 (by have := hB8.size; omega) hown1 hgrow2; have z0 := (hB10.cell (p := ⟨bx, 0, none⟩) hbx).trans x0; have z1 := (hB10.cell (p := ⟨bx, 1, none⟩) hbx).trans x1; have z2 := (hB10.cell (p := ⟨bx, 2, none⟩) hbx).trans x2)
              | (go_at_call 5; refine (implDecideCall_any _ (rmv rs k) x _ (by rw [rmv_len hlt]; omega) (fun r hr => hf r (rmv_sub hr)) hx1 (RuS.own (rmv_row0 HKL.out hown2))).mono ?_; rintro e w10 ⟨rfl, hB11⟩; have q0 := (hB11.cell (p := ⟨bx, 0, none⟩) (by have := hB10.size; exact Nat.lt_of_lt_of_le hbx this)).trans z0; have q1 := (hB11.cell (p := ⟨bx, 1, none⟩) (by have := hB10.size; exact Nat.lt_of_lt_of_le hbx this)).trans z1; have q2 := (hB11.cell (p := ⟨bx, 2, none⟩) (by have := hB10.size; exact Nat.lt_of_lt_of_le hbx this)).trans z2; rw [HE.out.1, HE.out.2]))
              all_goals (try go_wp2_with fail)
              all_goals go_meet
              all_goals exact ⟨rfl, ⟨_, rfl⟩, rfl, below_3 hB10 hB11⟩
            · go_region_held3 (fun w' => w'.cell? ⟨bx, 0, none⟩ = some (.string x.who) ∧ w'.cell? ⟨bx, 1, none⟩ = some (.string x.method) ∧ w'.cell? ⟨bx, 2, none⟩ = some (.string x.path)) (go_keep) (first
              | (refine step_append_own rfl (.tmp 121) (.tmp 124) 23 rfl w7.heap.size 52 i0 _ 4 56 Tryz.underlying23 hi hz0 hz1 hz2 rfl (by decide) _ 0 [] rfl hown0 ⟨g, 0, none⟩ k c1 ((rs.take k).flatMap Ru.cells) rfl hl1 (take_cells hrow9 hk) cells_one2 (by unfold maxLen; omega) (by omega) hsz9 ?_; intro v1 w8 hown1 hgrow1; have hB8 := below_row hB9 hsz9 hown0 hgrow1; have y0 := (hB8.cell (p := ⟨bx, 0, none⟩) hbx).trans x0; have y1 := (hB8.cell (p := ⟨bx, 1, none⟩) hbx).trans x1; have y2 := (hB8.cell (p := ⟨bx, 2, none⟩) hbx).trans x2; have hrowA := ownsRow_below hrow8 hB8)
              | (refine step_append_own rfl (.tmp 125) (.tmp 129) 23 rfl w7.heap.size 52 i0 _ 4 56 Tryz.underlying23 hi hz0 hz1 hz2 rfl (by decide) _ (0 + k) _ rfl hown1 ⟨g, (k + 1) * 4, none⟩ (rs.length - (k + 1)) (c1 - (k + 1)) ((rs.drop (k + 1)).flatMap Ru.cells) rfl hl2 (drop_cells hrowA hk1) cells_one2 (by unfold maxLen; omega) (by omega) (by have := hB8.size; omega) ?_; intro v2 w9 hown2 hgrow2; have hB10 := below_row hB8 (by have := hB8.size; omega) hown1 hgrow2; have z0 := (hB10.cell (p := ⟨bx, 0, none⟩) hbx).trans x0; have z1 := (hB10.cell (p := ⟨bx, 1, none⟩) hbx).trans x1; have z2 := (hB10.cell (p := ⟨bx, 2, none⟩) hbx).trans x2)
              | (go_at_call 5; refine (implDecideCall_any _ (rmv rs k) x _ (by rw [rmv_len hlt]; omega) (fun r hr => hf r (rmv_sub hr)) hx1 (RuS.own (rmv_row hlt hown2))).mono ?_; rintro e w10 ⟨rfl, hB11⟩; have q0 := (hB11.cell (p := ⟨bx, 0, none⟩) (by have := hB10.size; exact Nat.lt_of_lt_of_le hbx this)).trans z0; have q1 := (hB11.cell (p := ⟨bx, 1, none⟩) (by have := hB10.size; exact Nat.lt_of_lt_of_le hbx this)).trans z1; have q2 := (hB11.cell (p := ⟨bx, 2, none⟩) (by have := hB10.size; exact Nat.lt_of_lt_of_le hbx this)).trans z2; rw [HE.out.1, HE.out.2]))
              all_goals (try go_wp2_with fail)
              all_goals go_meet
              all_goals exact ⟨rfl, ⟨_, rfl⟩, rfl, below_3 hB10 hB11⟩
          case rest =>
            obtain ⟨rfl, ⟨z, rfl⟩, rfl, hB9⟩ := hcut
            go_wp2
            go_roundw
            case rel => exact ⟨k + 1, by omega, by go_num, below_3 hB7' hB9⟩
            case measure => simp [intOf]; omega
      · obtain rfl : k = rs.length := by omega
        go_wp2
        go_ret
        exact ⟨rfl, below_3 hBB6 hBr⟩

end Go.Proofs.YtnblnhlfifhkkaaGreat
