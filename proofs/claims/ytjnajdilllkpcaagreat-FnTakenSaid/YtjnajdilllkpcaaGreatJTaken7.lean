/-
  The cursor's sides: what is drawn is short, and where it is good rules stand at the first places alone.
-/
import Derived.Deep.DeepCutAuto
import Derived.Maps.AppendAt
import Derived.Laws.AppendOwnNone
import Derived.Test.YtjnajdilllkpcaaGreatJTaken6
import Derived.Test.YtjnajdilllkpcaaGreatJTaken5
namespace Go.Proofs.YtjnajdilllkpcaaGreat
open Go.RowKit Go.Shelf

theorem pu_short2 {ss : List Sn} {rs : List Ru} {zs : List Int} (h : shortS ss) (hf : ∀ r ∈ rs, r.size ≤ 1048576) : shortS (puX ss rs zs) ∧ (puX ss rs zs).length ≤ 20 := by
  unfold puX
  split
  · rename_i hb
    have hb' := hb
    unfold puB lsB at hb'
    simp only [Bool.and_eq_true, decide_eq_true_eq] at hb'
    refine ⟨⟨by simp; omega, fun s hs => ?_⟩, by simp; omega⟩
    have hs' := List.mem_of_mem_drop hs
    rw [List.mem_append, List.mem_singleton] at hs'
    rcases hs' with hs' | rfl
    · exact h.2 s hs'
    · exact nwS_short hb'.1.2.1 hb'.1.2.2 hf
  · exact ⟨⟨by simp, fun s hs => by cases hs⟩, by simp⟩
theorem SsT.r {w : World} {base top : Nat} {v : Value} {ss : List Sn} (h : SsT w base top v ss) : SsR w v ss := by
  rcases h with h | ⟨g, n, cap, ss', h, h1, h2, rfl, rfl⟩
  · exact h.r
  · have hr := h.r
    obtain ⟨a, c, hv⟩ := hr.len
    cases hv
    have := SsR.drop hr (k := 1) (c' := cap - 1) h1 (by omega)
    simpa using this
theorem sso_sn {w : World} {base top : Nat} {v : Value} {ss : List Sn} (h : SsO w base top v ss) {i : Nat} (hi : i < ss.length) : ∃ g cap vp vr, v = .slice (some ⟨g, 0, none⟩) ss.length cap ∧ base ≤ g ∧ g < w.heap.size ∧ ss.length ≤ cap ∧ w.cell? ⟨g, i * 3, none⟩ = some (.int .i64 ss[i].num) ∧ w.cell? ⟨g, i * 3 + 1, none⟩ = some vp ∧ w.cell? ⟨g, i * 3 + 2, none⟩ = some vr ∧ SnO w base top (.agg #[.int .i64 ss[i].num, vp, vr]) ss[i] := by
  obtain ⟨xs, vp, vr, h⟩ := h
  rcases row_form h.row with ⟨_, hz⟩ | ⟨g, cap', hv, hg, hcap⟩
  · omega
  · subst hv
    have hc := h.cs i hi hi
    have c0 := h.row.cellAt (i * 3) (by omega)
    have c1 := h.row.cellAt (i * 3 + 1) (by omega)
    have c2 := h.row.cellAt (i * 3 + 2) (by omega)
    rw [hc.1] at c0
    rw [hc.2.1] at c1
    rw [hc.2.2] at c2
    exact ⟨g, cap', vp i, vr i, rfl, hg, (h.row.lt g rfl).2, hcap, c0, c1, c2, _, _, rfl, h.pol i hi hi, h.num i hi hi, h.plt i hi hi, h.nlt i hi hi⟩
/-- A version of the list. -/
theorem SsT.sn {w : World} {base top : Nat} {a : Option Addr} {m cap : Nat} {ss : List Sn} (h : SsT w base top (.slice a m cap) ss) {i : Nat} (hi : i < ss.length) : ∃ g off ap cp ar cr, a = some ⟨g, off, none⟩ ∧ base ≤ g ∧ g < w.heap.size ∧ m ≤ cap ∧ w.cell? ⟨g, off + i * 3, none⟩ = some (.int .i64 ss[i].num) ∧ w.cell? ⟨g, off + i * 3 + 1, none⟩ = some (.slice ap ss[i].pol.length cp) ∧ w.cell? ⟨g, off + i * 3 + 2, none⟩ = some (.slice ar ss[i].rv.length cr) ∧ SnO w base top (.agg #[.int .i64 ss[i].num, .slice ap ss[i].pol.length cp, .slice ar ss[i].rv.length cr]) ss[i] := by
  rcases h with h | ⟨g, n', cap', ss', h, h1, h2, hv, rfl⟩
  · obtain ⟨g, cap', vp, vr, hv, hg, hlt, hcap, c0, c1, c2, hs⟩ := sso_sn h hi
    cases hv
    obtain ⟨ap, cp, ar, cr, he⟩ := sn_forms hs.a
    simp only [Value.agg.injEq, Array.mk.injEq, List.cons.injEq, and_true, true_and] at he
    obtain ⟨rfl, rfl⟩ := he
    exact ⟨g, 0, ap, cp, ar, cr, rfl, hg, hlt, hcap, by rw [Nat.zero_add]; exact c0, by rw [Nat.zero_add]; exact c1, by rw [Nat.zero_add]; exact c2, hs⟩
  · simp only [Value.slice.injEq] at hv
    obtain ⟨rfl, rfl, rfl⟩ := hv
    have hi' : 1 + i < ss'.length := by rw [List.length_drop] at hi; omega
    obtain ⟨g', cap2, vp, vr, hv, hg, hlt, hcap, c0, c1, c2, hs⟩ := sso_sn h hi'
    cases hv
    obtain ⟨ap, cp, ar, cr, he⟩ := sn_forms hs.a
    simp only [Value.agg.injEq, Array.mk.injEq, List.cons.injEq, and_true, true_and] at he
    obtain ⟨rfl, rfl⟩ := he
    have e : (ss'.drop 1)[i] = ss'[1 + i] := List.getElem_drop
    rw [e]
    exact ⟨g, 3, ap, cp, ar, cr, rfl, hg, hlt, by omega, by rw [show 3 + i * 3 = (1 + i) * 3 by omega]; exact c0, by rw [show 3 + i * 3 = (1 + i) * 3 by omega]; exact c1, by rw [show 3 + i * 3 = (1 + i) * 3 by omega]; exact c2, hs⟩
/-- A list of versions is being drawn, with a policy and numbers beside it. -/
structure VD (w : World) (b : Nat) (a : Option Addr) (n c : Nat) (wr : World) (lv pv zv : Value) (ss : List Sn) (rs : List Ru) (zs : List Int) (bl tl q : Nat) : Prop where
  lst : SsT wr bl tl lv ss
  pol : wr.ownsRow w.heap.size 31 4 pv rs.length (rs.flatMap Ru.cells)
  num : wr.ownsRow w.heap.size 3 1 zv zs.length (nums zs)
  pap : ∀ k, pv.ownBlock = some k → k < bl ∨ tl ≤ k
  zap : ∀ k, zv.ownBlock = some k → k < bl ∨ tl ≤ k
  lo : w.heap.size ≤ bl
  hi : tl ≤ wr.heap.size
  small : ∀ r ∈ rs, r.size ≤ 300
  sh : shortS ss
  len : ss.length ≤ 20
  by_ : ByS wr a n
  cur : CurB wr b a n c q
  gr : w.grownBy wr (some b)
theorem VD.grown {w wr w' : World} {b : Nat} {a : Option Addr} {n c q q' bl tl : Nat} {lv pv zv : Value} {ss : List Sn} {rs : List Ru} {zs : List Int} (h : VD w b a n c wr lv pv zv ss rs zs bl tl q) (hb : b < w.heap.size) (hg : wr.grownBy w' (some b)) (hB : ByS w' a n) (hC : CurB w' b a n c q') : VD w b a n c w' lv pv zv ss rs zs bl tl q' :=
  ⟨(Mid.of_grown (lo := b) (hi := b + 1) hg (fun k hk => by cases hk; omega)).sst h.lst (.inl (by have := h.lo; omega)),
   kept_apart (v2 := .slice (some ⟨b, 0, none⟩) 0 0) h.pol hg (fun k h1 h2 => by have := (h.pol.lt k h1).1; have h3 : some b = some k := h2; have := Option.some.inj h3; omega),
   kept_apart (v2 := .slice (some ⟨b, 0, none⟩) 0 0) h.num hg (fun k h1 h2 => by have := (h.num.lt k h1).1; have h3 : some b = some k := h2; have := Option.some.inj h3; omega),
   h.pap, h.zap, h.lo, Nat.le_trans h.hi hg.size, h.small, h.sh, h.len, hB, hC, g2 h.gr hg⟩
theorem VD.below {w wr w' : World} {b : Nat} {a : Option Addr} {n c q bl tl : Nat} {lv pv zv : Value} {ss : List Sn} {rs : List Ru} {zs : List Int} (h : VD w b a n c wr lv pv zv ss rs zs bl tl q) (hB : Below wr.heap.size wr w') : VD w b a n c w' lv pv zv ss rs zs bl tl q :=
  ⟨h.lst.below hB, ownsRow_below h.pol hB, ownsRow_below h.num hB, h.pap, h.zap, h.lo, Nat.le_trans h.hi hB.size, h.small, h.sh, h.len, h.by_.below hB, h.cur.below hB, gB h.gr hB⟩
theorem grown_low {w wr w' : World} {v : Value} {base : Nat} {e : TypeId} {size n : Nat} {xs : List Value} (hrow : wr.ownsRow base e size v n xs) (hb : w.heap.size ≤ base) (hs : w.heap.size ≤ wr.heap.size) (hg : wr.grownBy w' v.ownBlock) : Below w.heap.size wr w' :=
  (Below.refl _ wr).grown hg hs (fun k hk => Nat.le_trans hb (hrow.lt k hk).1)
theorem sst_grown {wr w' : World} {v lv : Value} {ss : List Sn} {bl tl : Nat} (h : SsT wr bl tl lv ss) (hap : ∀ k, v.ownBlock = some k → k < bl ∨ tl ≤ k) (hg : wr.grownBy w' v.ownBlock) : SsT w' bl tl lv ss := by
  cases hv : v.ownBlock with
  | none =>
    rw [hv] at hg
    exact (Mid.of_grown (lo := 0) (hi := 0) hg (fun k hk => by cases hk)).sst h (.inl (Nat.zero_le _))
  | some k =>
    rw [hv] at hg
    have := hap k hv
    refine (Mid.of_grown (lo := k) (hi := k + 1) hg (fun j hj => by cases hj; omega)).sst h ?_
    omega
/-- The policy grows. -/
theorem VD.polApp {w wr wa w' : World} {b : Nat} {a : Option Addr} {n c q bl tl : Nat} {lv pv pv' zv : Value} {ss : List Sn} {rs rs' : List Ru} {zs : List Int} (h : VD w b a n c wr lv pv zv ss rs zs bl tl q) (hb : b < w.heap.size) (hA : Below wr.heap.size wr wa) (hg : wa.grownBy w' pv.ownBlock)
    (hown : w'.ownsRow w.heap.size 31 4 pv' rs'.length (rs'.flatMap Ru.cells)) (hat : pv'.ownBlock = pv.ownBlock ∨ pv'.ownBlock = some wa.heap.size) (hs : ∀ r ∈ rs', r.size ≤ 300) : VD w b a n c w' lv pv' zv ss rs' zs bl tl q := by
  have ha := h.below hA
  have hL := grown_low ha.pol (Nat.le_refl _) ha.gr.size hg
  refine ⟨sst_grown ha.lst ha.pap hg, hown, kept_apart ha.num hg (row_apart ha.num ha.pol tyRN.symm), fun k hk => ?_, ha.zap, ha.lo, Nat.le_trans ha.hi hg.size, hs, ha.sh, ha.len, ha.by_.belowN hL (fun p hp => Nat.lt_trans (ha.cur.apart p hp) hb), ha.cur.belowN hL hb, gBN ha.gr hL⟩
  rcases hat with e | e
  · exact ha.pap k (by rw [← e]; exact hk)
  · rw [e] at hk
    cases hk
    exact .inr ha.hi
/-- The numbers grow. -/
theorem VD.numApp {w wr wa w' : World} {b : Nat} {a : Option Addr} {n c q bl tl : Nat} {lv pv zv zv' : Value} {ss : List Sn} {rs : List Ru} {zs zs' : List Int} (h : VD w b a n c wr lv pv zv ss rs zs bl tl q) (hb : b < w.heap.size) (hA : Below wr.heap.size wr wa) (hg : wa.grownBy w' zv.ownBlock)
    (hown : w'.ownsRow w.heap.size 3 1 zv' zs'.length (nums zs')) (hat : zv'.ownBlock = zv.ownBlock ∨ zv'.ownBlock = some wa.heap.size) : VD w b a n c w' lv pv zv' ss rs zs' bl tl q := by
  have ha := h.below hA
  have hL := grown_low ha.num (Nat.le_refl _) ha.gr.size hg
  refine ⟨sst_grown ha.lst ha.zap hg, kept_apart ha.pol hg (row_apart ha.pol ha.num tyRN), hown, ha.pap, fun k hk => ?_, ha.lo, Nat.le_trans ha.hi hg.size, ha.small, ha.sh, ha.len, ha.by_.belowN hL (fun p hp => Nat.lt_trans (ha.cur.apart p hp) hb), ha.cur.belowN hL hb, gBN ha.gr hL⟩
  rcases hat with e | e
  · exact ha.zap k (by rw [← e]; exact hk)
  · rw [e] at hk
    cases hk
    exact .inr ha.hi
/-- A policy that was drawn anew. -/
theorem VD.polNew {w wr w' : World} {b : Nat} {a : Option Addr} {n c q q' bl tl : Nat} {lv pv pv' zv : Value} {ss : List Sn} {rs rs' : List Ru} {zs : List Int} (h : VD w b a n c wr lv pv zv ss rs zs bl tl q) (hb : b < w.heap.size) (hP : PS wr b a n c w' pv' rs' q') : VD w b a n c w' lv pv' zv ss rs' zs bl tl q' := by
  have h2 := h.grown hb hP.gr hP.by_ hP.cur
  exact ⟨h2.lst, Go.Joins.ownsRow_le hP.row h.gr.size, h2.num, fun k hk => .inr (Nat.le_trans h.hi (hP.row.lt k hk).1), h2.zap, h2.lo, h2.hi, hP.small, h2.sh, h2.len, h2.by_, h2.cur, h2.gr⟩
theorem VD.polNil {w wr : World} {b : Nat} {a : Option Addr} {n c q bl tl : Nat} {lv pv zv : Value} {ss : List Sn} {rs : List Ru} {zs : List Int} (h : VD w b a n c wr lv pv zv ss rs zs bl tl q) : VD w b a n c wr lv (.slice none 0 0) zv ss [] zs bl tl q :=
  ⟨h.lst, World.ownsRow_nil _ _ _ _, h.num, (fun k hk => by cases hk), h.zap, h.lo, h.hi, (fun r hr => by cases hr), h.sh, h.len, h.by_, h.cur, h.gr⟩
/-- A version was put behind. -/
theorem VD.put {w wr w' : World} {b : Nat} {a : Option Addr} {n c q bl tl : Nat} {lv lv' pv zv : Value} {ss ss' : List Sn} {rs : List Ru} {zs : List Int} (h : VD w b a n c wr lv pv zv ss rs zs bl tl q) (hB : Below wr.heap.size wr w') (hT : SsT w' wr.heap.size w'.heap.size lv' ss') (hs : shortS ss') (hl : ss'.length ≤ 20) : VD w b a n c w' lv' pv zv ss' rs zs wr.heap.size w'.heap.size q := by
  have h2 := h.below hB
  exact ⟨hT, h2.pol, h2.num, fun k hk => .inl (h.pol.lt k hk).2, fun k hk => .inl (h.num.lt k hk).2, h.gr.size, Nat.le_refl _, h2.small, hs, hl, h2.by_, h2.cur, h2.gr⟩

/-- append(v, u...), both rows of one's own; where the new row lies. -/
theorem wpList_append_row_at {P : Program} {w : World} {ops : Array Oper} {rest : List Oper} {o : Oper} {a : Act} {Q : Exit → Act → World → Prop} (hgd : o.guard = none) (s x : Operand) (t : TypeId)
    (ho : o.op = .call { callee := .builtin .append, args := #[s, x], argTypes := #[t, t] })
    (base b2 : Nat) (e : TypeId) (i : TypeInfo) (z : Value) (size bytes : Nat) (ht : P.underlying t = some (.slice e)) (hi : P.info? e = some i) (hz : i.zero = some z)
    (hsize : i.size = size) (hby : i.bytes = bytes) (hzs : z.cells.size = size) (hsz : 0 < size)
    (v u : Value) (n m : Nat) (xs ys : List Value) (hs : a.eval s = v) (hown : w.ownsRow base e size v n xs) (hx : a.eval x = u) (hsrc : w.ownsRow b2 e size u m ys) (h1 : ∀ y ∈ ys, y.oneCell' = true)
    (h63 : n + m ≤ maxLen) (hbytes : (n + m) * bytes ≤ 140737488355328) (hbase : base ≤ w.heap.size)
    (h : ∀ v' w', w'.ownsRow base e size v' (n + m) (xs ++ ys) → w.grownBy w' v.ownBlock → (v'.ownBlock = v.ownBlock ∨ v'.ownBlock = some w.heap.size) → wpList P ops Q rest (a.put o.dst v') w') : wpList P ops Q (o :: rest) a w := by
  rcases row_form hsrc with ⟨rfl, rfl⟩ | ⟨g, cap, rfl, _, _⟩
  · have hy : ys = [] := List.eq_nil_of_length_eq_zero (by have := hsrc.1; omega)
    subst hy
    exact wpList_append_own_none hgd s x t ho base e i size ht hi v n xs hs hown hx (h v w (by simpa using hown) (grown_self _ _) (.inl rfl))
  · exact wpList_append_own_at _ hgd s x t ho base e i z size bytes ht hi hz hsize hby hzs hsz v n xs hs hown ⟨g, 0, none⟩ m cap ys hx hsrc.1 (fun j y hj => hsrc.cells (g := g) rfl j y hj) h1 h63 hbytes hbase (fun v' w' h1 h2 _ h4 => h v' w' h1 h2 h4)
theorem num_ones {zs : List Int} : ∀ y ∈ nums zs, y.oneCell' = true := by
  intro y hy
  unfold nums at hy
  obtain ⟨z, _, rfl⟩ := List.mem_map.1 hy
  rfl
theorem nums_app (a b : List Int) : nums (a ++ b) = nums a ++ nums b := by simp [nums]
/-- The first version's number may be set. -/
theorem SsT.set0 {w : World} {bl tl : Nat} {a : Option Addr} {m cap : Nat} {ss : List Sn} (h : SsT w bl tl (.slice a m cap) ss) (h0 : 0 < ss.length) : ∃ g off, a = some ⟨g, off, none⟩ ∧ bl ≤ g ∧ g < w.heap.size ∧ w.frozen? ⟨g, off, none⟩ = false ∧ (∃ u, w.cell? ⟨g, off, none⟩ = some u) ∧ ∀ z : Int, SsT (w.setCell ⟨g, off, none⟩ (.int .i64 z)) bl tl (.slice a m cap) (ss.set 0 ⟨z, ss[0].pol, ss[0].rv⟩) := by
  rcases h with ⟨xs, vp, vr, h⟩ | ⟨g, n', cap', ss', ⟨xs, vp, vr, h⟩, h1, h2, hv, rfl⟩
  · rcases row_form h.row with ⟨_, hz⟩ | ⟨g, cap', hv, hg, _⟩
    · omega
    · cases hv
      have hc := h.row.cellAt (0 * 3) (by omega)
      rw [(h.cs 0 h0 h0).1] at hc
      rw [Nat.zero_mul] at hc
      refine ⟨g, 0, rfl, hg, (h.row.lt g rfl).2, by have := h.row.frozenAt (0 * 3); rwa [Nat.zero_mul] at this, ⟨_, hc⟩, fun z => .inl ?_⟩
      have hs := h.setNum rfl h0 z
      rw [Nat.zero_mul] at hs
      have hl : (ss.set 0 ⟨z, ss[0].pol, ss[0].rv⟩).length = ss.length := List.length_set
      exact ⟨_, _, _, by rw [hl]; exact hs⟩
  · simp only [Value.slice.injEq] at hv
    obtain ⟨rfl, rfl, rfl⟩ := hv
    have hn' : n' = ss'.length := by
      rcases row_form h.row with ⟨hv, _⟩ | ⟨_, _, hv, _, _⟩
      · cases hv
      · cases hv
        rfl
    subst hn'
    have h2' : 2 ≤ ss'.length := by rw [List.length_drop] at h0; omega
    have hj : 1 < ss'.length := h2'
    have hc := h.row.cellAt (1 * 3) (by omega)
    rw [(h.cs 1 hj hj).1] at hc
    refine ⟨g, 3, rfl, (h.row.lt g rfl).1, (h.row.lt g rfl).2, h.row.frozenAt (1 * 3), ⟨_, hc⟩, fun z => .inr ?_⟩
    have hs := h.setNum rfl hj z
    have hl : (ss'.set 1 ⟨z, ss'[1].pol, ss'[1].rv⟩).length = ss'.length := List.length_set
    have e : (ss'.set 1 ⟨z, ss'[1].pol, ss'[1].rv⟩).drop 1 = (ss'.drop 1).set 0 ⟨z, (ss'.drop 1)[0].pol, (ss'.drop 1)[0].rv⟩ := by
      rw [List.drop_set]
      simp
    exact ⟨g, ss'.length, cap', ss'.set 1 ⟨z, ss'[1].pol, ss'[1].rv⟩, ⟨_, _, _, by rw [hl]; exact hs⟩, by rw [hl]; omega, by rw [hl]; omega, by rw [hl], e.symm⟩

set_option maxHeartbeats 8000000 in
set_option maxRecDepth 100000 in
theorem drawSnaps_any (b : Nat) (a : Option Addr) (n c k : Nat) (w : World) (hB : ByS w a n) (hC : CurB w b a n c k) (hk : k ≤ 1000) :
    Calls Tryz.prog 25 #[.pointer (some ⟨b, 0, none⟩)] w fun e w' => ∃ (v : Value) (ss : List Sn) (q : Nat), e = .returned v ∧ ss.length ≤ 20 ∧ shortS ss ∧ q ≤ k + 90000 ∧ (∃ bl tl, w.heap.size ≤ bl ∧ SsT w' bl tl v ss) ∧ ByS w' a n ∧ CurB w' b a n c q ∧ w.grownBy w' (some b) := by
  obtain ⟨ir, hir, hr0, hr1, hr2⟩ := info_parts infoRule
  obtain ⟨ii, hii, hi0, hi1, hi2⟩ := info_parts infoInt
  have hbl := hC.lt
  go_enter Tryz.func25, Tryz.ntmps25
  go_wp2_with fail
  refine (pick_any b a n c k 6 w (by omega) (by omega) hB hC (by omega)).mono ?_
  rintro e w1 ⟨p1, hp1, rfl, hC1, hg1⟩
  have hB1 := curB_grown hB hC.apart hC.lt hg1
  clear hB hC
  go_wp2_with fail
  refine (one_any b a n c (k + 1) 20 w1 (by omega) (by omega) hB1 hC1 (by omega)).mono ?_
  rintro e w2 ⟨o1, rfl, hC2, hg2⟩
  have hB2 := curB_grown hB1 hC1.apart hC1.lt hg2
  have hG2 := g2 hg1 hg2
  clear hB1 hC1 hg1 hg2
  have hK0 : VD w b a n c w2 (.slice none 0 0) (.slice none 0 0) (.slice none 0 0) [] [] [] w.heap.size w.heap.size (k + 1 + 1) :=
    ⟨.inl (SsO.none _ _ _), World.ownsRow_nil _ _ _ _, World.ownsRow_nil _ _ _ _, (fun k hk => by cases hk), (fun k hk => by cases hk), Nat.le_refl _, hG2.size, (fun r hr => by cases hr), ⟨by simp, fun s hs => by cases hs⟩, by simp, hB2, hC2, hG2⟩
  clear hB2 hC2 hG2
  go_upto_if 12 with fail
  go_cut [6] (fun s6 wx => w2 = wx ∧ ∃ N : Nat, N ≤ 22 ∧ s6 = .int .i64 (N : Int))
  case first =>
    cases o1
    · go_wp2
      go_meet
      exact ⟨rfl, p1, by omega, rfl⟩
    · go_wp2
      go_meet
      exact ⟨rfl, 22, by omega, rfl⟩
  case rest =>
  obtain ⟨rfl, N, hN, rfl⟩ := hcut
  go_wp2_with fail
  go_loopw [3, 4, 5, 6] (fun sl sp sz nv wr => ∃ (lv pv zv : Value) (ss : List Sn) (rs : List Ru) (zs : List Int) (bl tl j q : Nat), lv = sl ∧ pv = sp ∧ zv = sz ∧ nv = .int .i64 j ∧ j ≤ 22 ∧ rs.length + j ≤ 86 ∧ zs.length + 4 * j ≤ 88 ∧ q + 3500 * j ≤ k + 78000 ∧ VD w b a n c wr lv pv zv ss rs zs bl tl q) (fun _ _ _ nv _ => (intOf nv).toNat)
  case atStart => exact ⟨_, _, _, _, _, _, _, _, N, _, rfl, rfl, rfl, rfl, by omega, by simp; omega, by simp; omega, by omega, hK0⟩
  case round =>
    obtain ⟨lv, pv, zv, ss, rs, zs, bl, tl, j, q, rfl, rfl, rfl, rfl, hj, hrl, hzl, hq, hK⟩ := hrel
    clear hK0
    obtain ⟨al, cl, rfl⟩ := hK.lst.r.len
    obtain ⟨ap, cp, rfl⟩ := ownsRow_len hK.pol
    obtain ⟨az, cz, rfl⟩ := ownsRow_len hK.num
    by_cases hjz : 0 < j
    · have d0 : decide ((j : Int) > 0) = true := by simp; omega
      go_wp2_with fail
      refine (drawRule_any b a n c q wr hK.by_ hK.cur (by omega)).mono ?_
      rintro e u1 ⟨r, hr, rfl, hB1, ⟨q1, hq1, hC1⟩, hg1⟩
      have hK1 := hK.grown hbl hg1 hB1 hC1
      clear hK hB1 hC1 hg1
      have hsz1 := hK1.gr.size
      go_wp2_with (at_builtin; refine wpList_append_own_at _ rfl _ _ 23 rfl w.heap.size 31 ir _ 4 56 Tryz.underlying23 hir hr0 hr1 hr2 rfl (by decide) _ _ _ rfl (hK1.pol.alloc _) ⟨u1.heap.size, 0, none⟩ 1 1 r.cells rfl rfl (cell_four_q u1 r) (by intro u hu; simp at hu; rcases hu with rfl | rfl | rfl | rfl <;> rfl) (by unfold maxLen; omega) (by omega) (by simp; omega) ?_; intro pv2 u2 hown2 hg2 _ hat2)
      have hK2 : VD w b a n c u2 _ pv2 _ ss (rs ++ [r]) zs bl tl q1 := hK1.polApp hbl ((Below.refl _ u1).alloc (Nat.le_refl _) _) hg2 (by simpa using hown2) hat2 (fun x hx => by
        rw [List.mem_append, List.mem_singleton] at hx
        rcases hx with hx | rfl
        · exact hK1.small x hx
        · exact hr)
      have hrl2 : (rs ++ [r]).length + j ≤ 87 := by simp; omega
      clear hK1 hg2 hat2
      generalize rs ++ [r] = rs2 at *
      obtain ⟨ap2, cp2, rfl⟩ := ownsRow_len hown2
      clear hown2
      go_wp2_with fail
      refine (one_any b a n c q1 3 u2 (by omega) (by omega) hK2.by_ hK2.cur (by omega)).mono ?_
      rintro e u3 ⟨o2, rfl, hC3, hg3⟩
      have hK3 := hK2.grown hbl hg3 (curB_grown hK2.by_ hK2.cur.apart hK2.cur.lt hg3) hC3
      clear hK2 hC3 hg3
      go_upto_if 23 with fail
      go_cut [4] (fun s4 wx => ∃ (pv3 : Value) (rs3 : List Ru) (q3 : Nat), pv3 = s4 ∧ rs3.length + j ≤ 87 ∧ q3 ≤ q + 3200 ∧ VD w b a n c wx (.slice al ss.length cl) pv3 (.slice az zs.length cz) ss rs3 zs bl tl q3)
      case first =>
        cases o2
        · go_wp2
          go_meet
          exact ⟨_, rs2, _, rfl, hrl2, by omega, hK3⟩
        · go_wp2_with fail
          refine (drawPolicy_any b a n c (q1 + 1) u3 hK3.by_ hK3.cur (by omega)).mono ?_
          rintro e u4 ⟨pv4, rs4, q4, rfl, hl4, hq4, hP⟩
          have hK4 := hK3.polNew hbl hP
          obtain ⟨ap4, cp4, rfl⟩ := ownsRow_len hP.row
          clear hK3 hP
          go_wp2
          go_meet
          exact ⟨_, rs4, q4, rfl, by omega, by omega, hK4⟩
      case rest =>
      obtain ⟨pv3, rs3, q3, rfl, hrl3, hq3, hK4⟩ := hcut
      clear hK3
      obtain ⟨ap3, cp3, rfl⟩ := ownsRow_len hK4.pol
      go_wp2_with fail
      refine (numbers_any b a n c q3 _ hK4.by_ hK4.cur (by omega)).mono ?_
      rintro e u5 ⟨zv5, zs5, q5, rfl, hl5, hq5, hN5⟩
      have hK5 := hK4.grown hbl hN5.gr hN5.by_ hN5.cur
      have hrow5 := hN5.row
      have hsz5 := hK5.gr.size
      clear hK4 hN5
      obtain ⟨a5, c5, rfl⟩ := ownsRow_len hrow5
      go_wp2_with (at_builtin; refine wpList_append_row_at rfl _ _ 24 rfl w.heap.size _ 3 ii _ 1 8 Tryz.underlying24 hii hi0 hi1 hi2 rfl (by decide) _ _ _ _ _ _ rfl hK5.num rfl hrow5 num_ones (by unfold maxLen; omega) (by omega) hsz5 ?_; intro zv6 u6 hown6 hg6 hat6)
      rw [← nums_app] at hown6
      have hK6 := hK5.numApp (zs' := zs ++ zs5) hbl (Below.refl _ _) hg6 (by rw [List.length_append]; exact hown6) hat6
      have hzl6 : (zs ++ zs5).length + 4 * (j - 1) ≤ 88 := by rw [List.length_append]; omega
      clear hK5 hg6 hat6 hrow5
      rw [← List.length_append] at hown6
      generalize zs ++ zs5 = zs6 at *
      obtain ⟨az6, cz6, rfl⟩ := ownsRow_len hown6
      clear hown6
      go_wp2_with fail
      refine (specPut_any _ _ _ ss rs3 zs6 u6 hK6.sh (by omega) (fun r h => by have := hK6.small r h; omega) (by omega) hK6.lst.r (RuR.own hK6.pol) (NuR.own hK6.num)).mono ?_
      rintro e u7 ⟨lv7, rfl, hT7, hB7⟩
      have HS := hid (pu_short2 (ss := ss) (rs := rs3) (zs := zs6) hK6.sh (fun r h => by have := hK6.small r h; omega))
      obtain ⟨a7, c7, rfl⟩ := hT7.r.len
      cases hPB : puB ss rs3 zs6
      · have hK7 := (hK6.below hB7).polNil
        clear hK6 hT7 hB7
        go_wp2_with fail
        go_roundw
        case rel => exact ⟨_, _, _, ss, [], zs6, bl, tl, j - 1, q5, rfl, rfl, rfl, by go_num, by omega, by simp; omega, by omega, by omega, hK7⟩
        case measure => simp [intOf]; omega
      · have hK7 := hK6.put hB7 hT7 HS.out.1 HS.out.2
        clear hK6 hT7
        go_wp2_with fail
        go_roundw
        case rel => exact ⟨_, _, _, puX ss rs3 zs6, rs3, zs6, _, _, j - 1, q5, rfl, rfl, rfl, by go_num, by omega, by omega, by omega, by omega, hK7⟩
        case measure => simp [intOf]; omega
    · obtain rfl : j = 0 := by omega
      have d0 : decide (((0 : Nat) : Int) > 0) = false := by decide
      go_wp2_with fail
      refine (one_any b a n c q 30 wr (by omega) (by omega) hK.by_ hK.cur (by omega)).mono ?_
      rintro e u1 ⟨o3, rfl, hC1, hg1⟩
      have hK1 := hK.grown hbl hg1 (curB_grown hK.by_ hK.cur.apart hK.cur.lt hg1) hC1
      clear hK hC1 hg1
      cases o3
      · go_wp2_with fail
        go_ret
        exact ⟨_, ss, _, rfl, hK1.len, hK1.sh, by omega, ⟨bl, tl, hK1.lo, hK1.lst⟩, hK1.by_, hK1.cur, hK1.gr⟩
      · by_cases hl0 : 0 < ss.length
        · have hp0 : (0 : Int) < (ss.length : Int) := by omega
          go_wp2_with fail
          refine (amongNew_any b a n c (q + 1) [0, 1, 100000] u1 (by decide) (by decide) hK1.by_ hK1.cur (by omega)).mono ?_
          rintro e u2 ⟨z, _, rfl, hB2, hC2, hg2⟩
          have hK2 := hK1.grown hbl hg2 hB2 hC2
          clear hK1 hB2 hC2 hg2
          obtain ⟨g, off, hal, hg, hglt, hfz, ⟨u, hu⟩, hset⟩ := hK2.lst.set0 hl0
          subst hal
          have hR := hset z
          have hL : Below w.heap.size u2 (u2.setCell ⟨g, off, none⟩ (.int .i64 z)) := (Below.refl _ u2).setCell (p := ⟨g, off, none⟩) (Nat.le_trans hK2.lo hg) _
          have hby := hK2.by_.belowN hL (fun p hp => Nat.lt_trans (hK2.cur.apart p hp) hbl)
          have hcu := hK2.cur.belowN hL hbl
          have hgr := gBN hK2.gr hL
          have hsh : shortS (ss.set 0 ⟨z, ss[0].pol, ss[0].rv⟩) := by
            refine ⟨by rw [List.length_set]; exact hK2.sh.1, fun s hs => ?_⟩
            rcases List.mem_or_eq_of_mem_set hs with hs | rfl
            · exact hK2.sh.2 s hs
            · exact hK2.sh.2 ss[0] (List.getElem_mem hl0)
          have hlen : (ss.set 0 ⟨z, ss[0].pol, ss[0].rv⟩).length ≤ 20 := by rw [List.length_set]; exact hK2.len
          have HR := hid hR
          have hlo := hK2.lo
          clear hR hset hK2
          generalize ss.set 0 ⟨z, ss[0].pol, ss[0].rv⟩ = ss2 at *
          go_wp2_with fail
          go_ret
          exact ⟨_, ss2, _, rfl, hlen, hsh, by omega, ⟨bl, tl, hlo, HR.out⟩, hby, hcu, hgr⟩
        · have hp0 : ¬ (0 : Int) < (ss.length : Int) := by omega
          go_wp2_with fail
          go_ret
          exact ⟨_, ss, _, rfl, hK1.len, hK1.sh, by omega, ⟨bl, tl, hK1.lo, hK1.lst⟩, hK1.by_, hK1.cur, hK1.gr⟩

end Go.Proofs.YtjnajdilllkpcaaGreat

namespace Go.Proofs.YtjnajdilllkpcaaGreat
open Go.RowKit Go.Shelf

theorem sno_grown {w w' : World} {b base top : Nat} {v : Value} {s : Sn} (h : SnO w base top v s) (hb : b < base) (hg : w.grownBy w' (some b)) : SnO w' base top v s :=
  (Mid.of_grown (lo := b) (hi := b + 1) hg (fun k hk => by cases hk; omega)).sno h (.inl (by omega))
theorem sstc_grown {w w' : World} {b base top : Nat} {v : Value} {ss : List Sn} (h : SsT w base top v ss) (hb : b < base) (hg : w.grownBy w' (some b)) : SsT w' base top v ss :=
  (Mid.of_grown (lo := b) (hi := b + 1) hg (fun k hk => by cases hk; omega)).sst h (.inl (by omega))
theorem three_grown {w w' : World} {t : TypeId} {k b : Nat} {x y z : Value} (h : Three w t k x y z) (hb : k ≠ b) (hg : w.grownBy w' (some b)) : Three w' t k x y z :=
  (Mid.of_grown (lo := b) (hi := b + 1) hg (fun j hj => by cases hj; omega)).three h (by omega)
theorem sno_three {w : World} {base top : Nat} {v : Value} {s : Sn} (h : SnO w base top v s) {k : Nat} (hk : k < base) (x0 x1 x2 : Value) : SnO (((w.setCell ⟨k, 0, none⟩ x0).setCell ⟨k, 1, none⟩ x1).setCell ⟨k, 2, none⟩ x2) base top v s := by
  obtain ⟨vp, vr, rfl, h1, h2, t1, t2⟩ := h
  exact ⟨vp, vr, rfl, row_three h1 hk x0 x1 x2, row_three h2 hk x0 x1 x2, t1, t2⟩

end Go.Proofs.YtjnajdilllkpcaaGreat

namespace Go.Proofs.YtjnajdilllkpcaaGreat
open Go.RowKit Go.Shelf

theorem ml_ok {s : Sn} (hs : s.short) (hg : snB s = true) : ∀ m ∈ mls s, ((m.kd == 2) = true → m.no < 30) ∧ m.ru.size ≤ 1048576 := by
  have hz : ruZ.size ≤ 1048576 := by decide +kernel
  have hp := (snB_parts hg).2.1
  have h30 : s.pol.length ≤ 30 := by
    unfold polB at hp
    rw [Bool.and_eq_true, decide_eq_true_eq] at hp
    exact hp.2
  intro m hm
  unfold mls mlB mlE mlR mlZ at hm
  simp only [List.cons_append, List.mem_cons, List.mem_append, List.mem_map, List.mem_range, List.not_mem_nil, or_false] at hm
  rcases hm with rfl | (⟨i, hi, rfl⟩ | ⟨i, hi, rfl⟩) | rfl
  · exact ⟨fun h => by simp at h, hz⟩
  · refine ⟨fun _ => by show (i : Int) < 30; omega, ?_⟩
    show ((s.pol[i]?).getD ruZ).size ≤ 1048576
    rw [List.getElem?_eq_getElem hi, Option.getD_some]
    exact hs.2.2 _ (List.getElem_mem hi)
  · exact ⟨fun h => by simp at h, hz⟩
  · exact ⟨fun h => by simp at h, hz⟩
theorem sd_none_good : sdB Sd.none = true := by decide +kernel
theorem sd_none_short : Sd.none.short := ⟨⟨Nat.zero_le _, Nat.zero_le _, fun r h => by cases h⟩, Nat.zero_le _, Nat.zero_le _, Nat.zero_le _, fun r h => by cases h⟩
theorem mid_seven (w : World) (k : Nat) (x0 x1 x2 x3 x4 x5 x6 : Value) : Mid k (k + 1) w (((((((w.setCell ⟨k, 0, none⟩ x0).setCell ⟨k, 1, none⟩ x1).setCell ⟨k, 2, none⟩ x2).setCell ⟨k, 3, none⟩ x3).setCell ⟨k, 4, none⟩ x4).setCell ⟨k, 5, none⟩ x5).setCell ⟨k, 6, none⟩ x6) := by
  have h0 : Mid k (k + 1) w w := Mid.of_below (Below.refl _ _)
  exact ((((((h0.set (by simp) (by simp) _).set (by simp) (by simp) _).set (by simp) (by simp) _).set (by simp) (by simp) _).set (by simp) (by simp) _).set (by simp) (by simp) _).set (by simp) (by simp) _
set_option maxHeartbeats 2000000 in
theorem pickA_any (b : Nat) (a : Option Addr) (n c k m : Nat) (w : World) (hm : 1 ≤ m) (hm2 : m ≤ 1000) (hB : ByS w a n) (hC : CurB w b a n c k) (hk : k ≤ 10000000) :
    Calls Tryz.prog 12 #[.pointer (some ⟨b, 0, none⟩), .int .i64 m] w fun e w' => ∃ x : Nat, x < m ∧ e = .returned (.int .i64 x) ∧ (∃ k', k' ≤ k + 2 ∧ CurB w' b a n c k') ∧ w.grownBy w' (some b) := by
  by_cases h2 : m ≤ 200
  · refine (pick1_any b a n c k m w hm h2 hB hC (by omega)).mono ?_
    rintro e w1 ⟨x, hx, rfl, _, ⟨k', hk', hC1⟩, hg1⟩
    exact ⟨x, hx, rfl, ⟨k', by omega, hC1⟩, hg1⟩
  · have d1 : decide ((m : Int) ≤ 1) = false := by simp; omega
    have d2 : decide ((m : Int) > 200) = true := by simp; omega
    go_enter Tryz.func12, Tryz.ntmps12
    go_wp2_with fail
    refine (next_any b a n c k _ hB hC (by omega)).mono ?_
    rintro e w1 ⟨x, hx, rfl, hC1, hg1⟩
    have hB1 := curB_grown hB hC.apart hC.lt hg1
    go_wp2_with fail
    refine (next_any b a n c (k + 1) _ hB1 hC1 (by omega)).mono ?_
    rintro e w2 ⟨y, hy, rfl, hC2, hg2⟩
    go_wp2_with fail
    go_ret
    exact ⟨(x * 256 + y) % m, Nat.mod_lt _ (by omega), by simp, ⟨_, by omega, hC2⟩, g2 hg1 hg2⟩
theorem sdo_co {w : World} {base top : Nat} {num co : Int} {vp vr vu vh vs : Value} {s : Sd} (h : SdO w base top (.agg #[.int .i64 num, vp, vr, .int .i64 co, vu, vh, vs]) s) (z : Int) : SdO w base top (.agg #[.int .i64 num, vp, vr, .int .i64 z, vu, vh, vs]) ⟨s.fo, z, s.ru, s.ha, s.se⟩ := by
  obtain ⟨m, _, _, _, _, _, e0, hm, hmt, ⟨_, _, ee, o1, o2, t1, t2⟩, h3, h4, h5, t3⟩ := h
  cases e0
  cases ee
  exact ⟨m, _, _, _, _, _, rfl, hm, hmt, ⟨_, _, rfl, o1, o2, t1, t2⟩, h3, h4, h5, t3⟩
theorem sdo_num {w : World} {base top : Nat} {num co : Int} {vp vr vu vh vs : Value} {s : Sd} (h : SdO w base top (.agg #[.int .i64 num, vp, vr, .int .i64 co, vu, vh, vs]) s) (z : Int) : SdO w base top (.agg #[.int .i64 z, vp, vr, .int .i64 co, vu, vh, vs]) ⟨⟨z, s.fo.pol, s.fo.rv⟩, s.co, s.ru, s.ha, s.se⟩ := by
  obtain ⟨m, _, _, _, _, _, e0, hm, hmt, ⟨_, _, ee, o1, o2, t1, t2⟩, h3, h4, h5, t3⟩ := h
  cases e0
  cases ee
  exact ⟨m, _, _, _, _, _, rfl, hm, hmt, ⟨_, _, rfl, o1, o2, t1, t2⟩, h3, h4, h5, t3⟩
theorem sd_more {s : Sd} (h : sdB s = true) : sdB ⟨s.fo, s.co, s.ru, s.ha ++ [true], s.se⟩ = false := by
  obtain ⟨e1, _, _⟩ := lnB_parts (sd_parts h).2.1
  refine sd_no2 ?_
  cases hq : lnB ⟨s.fo, s.co, s.ru, s.ha ++ [true], s.se⟩
  · rfl
  · have := (lnB_parts hq).1
    simp at this
    omega
def ScO (w wr : World) (s : Sd) : Prop := ∃ p1 c1 p2 c2 p3 c3 p4 c4 p5 c5 base top, Seven wr 29 (w.heap.size + 1) (.int .i64 s.fo.num) (.slice p1 s.fo.pol.length c1) (.slice p2 s.fo.rv.length c2) (.int .i64 s.co) (.slice p3 s.ru.length c3) (.slice p4 s.ha.length c4) (.slice p5 s.se.length c5) ∧ SdO wr base top (.agg #[.int .i64 s.fo.num, .slice p1 s.fo.pol.length c1, .slice p2 s.fo.rv.length c2, .int .i64 s.co, .slice p3 s.ru.length c3, .slice p4 s.ha.length c4, .slice p5 s.se.length c5]) s ∧ w.heap.size + 1 < base ∧ top ≤ wr.heap.size
/-- A side is being drawn. -/
structure SC (w wr : World) (b : Nat) (a : Option Addr) (n c q : Nat) (s : Sd) : Prop where
  f2 : Seven wr 29 w.heap.size (.int .i64 0) (.slice none 0 0) (.slice none 0 0) (.int .i64 0) (.slice none 0 0) (.slice none 0 0) (.slice none 0 0)
  so : ScO w wr s
  by_ : ByS wr a n
  cur : CurB wr b a n c q
  gr : w.grownBy wr (some b)
  gd : sdB s = true
  lo : loB s
  sh : s.short
theorem SC.grown {w wr w' : World} {b : Nat} {a : Option Addr} {n c q q' : Nat} {s : Sd} (h : SC w wr b a n c q s) (hb : b < w.heap.size) (hg : wr.grownBy w' (some b)) (hC : CurB w' b a n c q') : SC w w' b a n c q' s := by
  have hM : Mid b (b + 1) wr w' := Mid.of_grown hg (fun k hk => by cases hk; omega)
  obtain ⟨p1, c1, p2, c2, p3, c3, p4, c4, p5, c5, base, top, F, O, hbase, htop⟩ := h.so
  exact ⟨hM.seven h.f2 (.inr (by omega)), ⟨p1, c1, p2, c2, p3, c3, p4, c4, p5, c5, base, top, hM.seven F (.inr (by omega)), hM.sdo O (.inl (by omega)), hbase, Nat.le_trans htop hg.size⟩, curB_grown h.by_ h.cur.apart h.cur.lt hg, hC, g2 h.gr hg, h.gd, h.lo, h.sh⟩
theorem SC.below {w wr w' : World} {b : Nat} {a : Option Addr} {n c q : Nat} {s : Sd} (h : SC w wr b a n c q s) (hB : Below wr.heap.size wr w') : SC w w' b a n c q s := by
  obtain ⟨p1, c1, p2, c2, p3, c3, p4, c4, p5, c5, base, top, F, O, hbase, htop⟩ := h.so
  exact ⟨h.f2.below hB, ⟨p1, c1, p2, c2, p3, c3, p4, c4, p5, c5, base, top, F.below hB, O.below hB, hbase, Nat.le_trans htop hB.size⟩, h.by_.below hB, h.cur.below hB, gB h.gr hB, h.gd, h.lo, h.sh⟩
theorem SC.put {w wr w' : World} {b : Nat} {a : Option Addr} {n c q : Nat} {s X : Sd} {y1 : Option Addr} {x1 : Nat} {y2 : Option Addr} {x2 : Nat} {y3 : Option Addr} {x3 : Nat} {y4 : Option Addr} {x4 : Nat} {y5 : Option Addr} {x5 : Nat} (h : SC w wr b a n c q s) (hb : b < w.heap.size) (hB : Below wr.heap.size wr w') (O : SdO w' wr.heap.size w'.heap.size (.agg #[.int .i64 X.fo.num, .slice y1 X.fo.pol.length x1, .slice y2 X.fo.rv.length x2, .int .i64 X.co, .slice y3 X.ru.length x3, .slice y4 X.ha.length x4, .slice y5 X.se.length x5]) X) (h1 : sdB X = true) (h2 : loB X) (h3 : X.short) :
    SC w (((((((w'.setCell ⟨w.heap.size + 1, 0, none⟩ (.int .i64 X.fo.num)).setCell ⟨w.heap.size + 1, 1, none⟩ (.slice y1 X.fo.pol.length x1)).setCell ⟨w.heap.size + 1, 2, none⟩ (.slice y2 X.fo.rv.length x2)).setCell ⟨w.heap.size + 1, 3, none⟩ (.int .i64 X.co)).setCell ⟨w.heap.size + 1, 4, none⟩ (.slice y3 X.ru.length x3)).setCell ⟨w.heap.size + 1, 5, none⟩ (.slice y4 X.ha.length x4)).setCell ⟨w.heap.size + 1, 6, none⟩ (.slice y5 X.se.length x5)) b a n c q X := by
  obtain ⟨p1, c1, p2, c2, p3, c3, p4, c4, p5, c5, base, top, F, _, hbase, _⟩ := h.so
  have hk := F.lt
  have hs := hB.size
  have hg := h.gr.size
  have F' := F.below hB
  have G2 := h.f2.below hB
  have hBs : Below w.heap.size w' (((((((w'.setCell ⟨w.heap.size + 1, 0, none⟩ (.int .i64 X.fo.num)).setCell ⟨w.heap.size + 1, 1, none⟩ (.slice y1 X.fo.pol.length x1)).setCell ⟨w.heap.size + 1, 2, none⟩ (.slice y2 X.fo.rv.length x2)).setCell ⟨w.heap.size + 1, 3, none⟩ (.int .i64 X.co)).setCell ⟨w.heap.size + 1, 4, none⟩ (.slice y3 X.ru.length x3)).setCell ⟨w.heap.size + 1, 5, none⟩ (.slice y4 X.ha.length x4)).setCell ⟨w.heap.size + 1, 6, none⟩ (.slice y5 X.se.length x5)) := below_seven (Below.refl _ w') (k := w.heap.size + 1) (by omega) (.int .i64 X.fo.num) (.slice y1 X.fo.pol.length x1) (.slice y2 X.fo.rv.length x2) (.int .i64 X.co) (.slice y3 X.ru.length x3) (.slice y4 X.ha.length x4) (.slice y5 X.se.length x5)
  exact ⟨(((((((G2.other (k' := w.heap.size + 1) (by omega) 0 (.int .i64 X.fo.num)).other (k' := w.heap.size + 1) (by omega) 1 (.slice y1 X.fo.pol.length x1)).other (k' := w.heap.size + 1) (by omega) 2 (.slice y2 X.fo.rv.length x2)).other (k' := w.heap.size + 1) (by omega) 3 (.int .i64 X.co)).other (k' := w.heap.size + 1) (by omega) 4 (.slice y3 X.ru.length x3)).other (k' := w.heap.size + 1) (by omega) 5 (.slice y4 X.ha.length x4)).other (k' := w.heap.size + 1) (by omega) 6 (.slice y5 X.se.length x5)), ⟨y1, x1, y2, x2, y3, x3, y4, x4, y5, x5, wr.heap.size, w'.heap.size, (((((((F'.s0 (.int .i64 X.fo.num)).s1 (.slice y1 X.fo.pol.length x1)).s2 (.slice y2 X.fo.rv.length x2)).s3 (.int .i64 X.co)).s4 (.slice y3 X.ru.length x3)).s5 (.slice y4 X.ha.length x4)).s6 (.slice y5 X.se.length x5)), (sdo_set (sdo_set (sdo_set (sdo_set (sdo_set (sdo_set (sdo_set O (p := ⟨w.heap.size + 1, 0, none⟩) (by show w.heap.size + 1 < _; omega) (.int .i64 X.fo.num)) (p := ⟨w.heap.size + 1, 1, none⟩) (by show w.heap.size + 1 < _; omega) (.slice y1 X.fo.pol.length x1)) (p := ⟨w.heap.size + 1, 2, none⟩) (by show w.heap.size + 1 < _; omega) (.slice y2 X.fo.rv.length x2)) (p := ⟨w.heap.size + 1, 3, none⟩) (by show w.heap.size + 1 < _; omega) (.int .i64 X.co)) (p := ⟨w.heap.size + 1, 4, none⟩) (by show w.heap.size + 1 < _; omega) (.slice y3 X.ru.length x3)) (p := ⟨w.heap.size + 1, 5, none⟩) (by show w.heap.size + 1 < _; omega) (.slice y4 X.ha.length x4)) (p := ⟨w.heap.size + 1, 6, none⟩) (by show w.heap.size + 1 < _; omega) (.slice y5 X.se.length x5)), hk, by simp⟩, (h.by_.below hB).belowN hBs (fun p hp => Nat.lt_trans (h.cur.apart p hp) hb), (h.cur.below hB).belowN hBs hb, gBN (gB h.gr hB) hBs, h1, h2, h3⟩

set_option maxHeartbeats 16000000 in
set_option maxRecDepth 100000 in
theorem drawSide_any (b : Nat) (a : Option Addr) (n c k : Nat) (w : World) (hB : ByS w a n) (hC : CurB w b a n c k) (hk : k ≤ 1000) :
    Calls Tryz.prog 11 #[.pointer (some ⟨b, 0, none⟩)] w fun e w' => ∃ (v : Value) (s : Sd) (q : Nat), e = .returned v ∧ s.short ∧ (sdB s = true → loB s) ∧ q ≤ k + 100000 ∧ (∃ base top, w.heap.size ≤ base ∧ top ≤ w'.heap.size ∧ SdO w' base top v s) ∧ ByS w' a n ∧ CurB w' b a n c q ∧ w.grownBy w' (some b) := by
  have hb := hC.lt
  obtain ⟨ib, hib, hb0, hb1, hb2⟩ := info_parts infoBool
  have hB0 : Below w.heap.size w ((w.alloc (.cells #[.int .i64 0, .slice none 0 0, .slice none 0 0, .int .i64 0, .slice none 0 0, .slice none 0 0, .slice none 0 0] 29)).alloc (.cells #[.int .i64 0, .slice none 0 0, .slice none 0 0, .int .i64 0, .slice none 0 0, .slice none 0 0, .slice none 0 0] 29)) := ((Below.refl _ w).alloc (Nat.le_refl _) _).alloc (by simp) _
  have F2 := (Seven.new w (.int .i64 0) (.slice none 0 0) (.slice none 0 0) (.int .i64 0) (.slice none 0 0) (.slice none 0 0) (.slice none 0 0) 29).below ((Below.refl _ _).alloc (Nat.le_refl _) (.cells #[.int .i64 0, .slice none 0 0, .slice none 0 0, .int .i64 0, .slice none 0 0, .slice none 0 0, .slice none 0 0] 29))
  have F3 := Seven.at (w.alloc (.cells #[.int .i64 0, .slice none 0 0, .slice none 0 0, .int .i64 0, .slice none 0 0, .slice none 0 0, .slice none 0 0] 29)) (.int .i64 0) (.slice none 0 0) (.slice none 0 0) (.int .i64 0) (.slice none 0 0) (.slice none 0 0) (.slice none 0 0) 29 (k := w.heap.size + 1) (by simp)
  have hk3 := F3.lt
  go_enter Tryz.func11, Tryz.ntmps11
  go_upto_region 2 with fail
  generalize (w.alloc (.cells #[.int .i64 0, .slice none 0 0, .slice none 0 0, .int .i64 0, .slice none 0 0, .slice none 0 0, .slice none 0 0] 29)).alloc (.cells #[.int .i64 0, .slice none 0 0, .slice none 0 0, .int .i64 0, .slice none 0 0, .slice none 0 0, .slice none 0 0] 29) = W0 at *
  have h0 : SC w W0 b a n c k Sd.none := ⟨F2, ⟨none, 0, none, 0, none, 0, none, 0, none, 0, W0.heap.size, W0.heap.size, F3, SdO.none _ _ _ (Nat.le_refl _), hk3, Nat.le_refl _⟩, hB.below hB0, hC.below hB0, gB (grown_self w _) hB0, sd_none_good, loB_none, sd_none_short⟩
  clear F2 F3
  go_wp2_with fail
  refine (drawSnaps_any b a n c k _ h0.by_ h0.cur hk).mono ?_
  rintro e w1 ⟨lv, ss, q1, rfl, hlen, hsh, hq1, ⟨bl, tl, hbl, hT⟩, hB1, hC1, hg1⟩
  have h1 := h0.grown hb hg1 hC1
  clear h0 hB1 hC1 hg1 hB0
  obtain ⟨al, cl, rfl⟩ := hT.r.len
  go_wp2_with fail
  refine (pick_any b a n c q1 12 _ (by omega) (by omega) h1.by_ h1.cur (by omega)).mono ?_
  rintro e w2 ⟨j0, hj0, rfl, hC2, hg2⟩
  have h2 := h1.grown hb hg2 hC2
  replace hT := sstc_grown hT (by omega) hg2
  have hbl2 : w.heap.size + 1 < bl := by omega
  clear h1 hC2 hg2
  go_wp2_with fail
  go_loopw [5] (fun i wr => ∃ (j q : Nat) (s : Sd), i = .int .i64 j ∧ j ≤ 12 ∧ q + 4 * j ≤ k + 90060 ∧ SC w wr b a n c q s ∧ SsT wr bl tl (.slice al ss.length cl) ss) (fun i _ => (intOf i).toNat)
  case atStart => exact ⟨j0, _, _, rfl, by omega, by omega, h2, hT⟩
  case round =>
    clear h2 hT
    obtain ⟨j, q, s, rfl, hj, hq, h, hT⟩ := hrel
    go_upto_region 4 with fail
    go_cut [22] (fun s22 wx => wr = wx ∧ ∃ z : Bool, s22 = .bool z ∧ (z = true → 0 < j ∧ 0 < ss.length))
    case first =>
      by_cases c1 : j = 0
      · have d1 : decide (0 < j) = false := by simp [c1]
        go_wp2_with fail
        go_meet
        exact ⟨rfl, false, rfl, fun h => by cases h⟩
      · have d1 : decide (0 < j) = true := by simp; omega
        by_cases c2 : ss.length = 0
        · have d2 : decide (0 < ss.length) = false := by simp only [decide_eq_false_iff_not]; omega
          go_wp2_with fail
          go_meet
          exact ⟨rfl, false, rfl, fun h => by cases h⟩
        · have d2 : decide (0 < ss.length) = true := by simp only [decide_eq_true_eq]; omega
          go_wp2_with fail
          go_meet
          exact ⟨rfl, true, rfl, fun _ => ⟨by omega, by omega⟩⟩
    case rest =>
      obtain ⟨rfl, z, rfl, hz⟩ := hcut
      cases z
      case true =>
        obtain ⟨hj1, hl1⟩ := hz rfl
        go_wp2_with fail
        refine (pick1_any b a n c q ss.length _ (by omega) (by omega) h.by_ h.cur (by omega)).mono ?_
        rintro e w3 ⟨x, hx, rfl, _, ⟨q3, hq3, hC3⟩, hg3⟩
        have h3 := h.grown hb hg3 hC3
        have hT3 := sstc_grown hT (by omega) hg3
        clear h hT hC3 hg3
        have hT4 := hT3
        obtain ⟨g, off, ap, cp, ar, cr, eq, hg, hglt, hcap, d0, d1, d2, hS⟩ := hT3.sn hx
        cases eq
        have hshx := hsh.2 ss[x] (List.getElem_mem hx)
        generalize ss[x] = t at *
        have hBa : Below w3.heap.size w3 (w3.alloc (.cells #[.int .i64 t.num, .slice ap t.pol.length cp, .slice ar t.rv.length cr] 26)) := (Below.refl _ _).alloc (Nat.le_refl _) _
        have F6 := Three.new w3 (.int .i64 t.num) (.slice ap t.pol.length cp) (.slice ar t.rv.length cr) 26
        have h4 := h3.below hBa
        have hT5 := hT4.below hBa
        have hS4 := hS.below hBa
        clear h3 hT3 hT4 hS hBa
        go_upto_region 7 with fail
        clear d0 d1 d2
        generalize w3.alloc (.cells #[.int .i64 t.num, .slice ap t.pol.length cp, .slice ar t.rv.length cr] 26) = W4 at *
        obtain ⟨g0, g1, g2'⟩ := F6.c
        go_wp2_with fail
        refine (specMailsOf_any _ t _ hshx hS4.a).mono ?_
        rintro e w5 ⟨u, rfl, o5, hB5⟩
        have h5 := h4.below hB5
        have hT6 := hT5.below hB5
        have hk5 : w.heap.size + 1 < W4.heap.size := by obtain ⟨_, _, _, _, _, _, _, _, _, _, _, _, F, _, _, _⟩ := h4.so; exact F.lt
        clear g0 g1 g2' h4 hT5 hB5 hS4 F6
        obtain ⟨au, cu, rfl⟩ := (MlS.own o5).len
        cases hG : snB t
        case false =>
          go_wp2_with fail
          go_roundw
          case rel => exact ⟨j - 1, q3, s, by go_num, by omega, by omega, h5, hT6⟩
          case measure => simp [intOf]; omega
        have hml := ml_ok hshx hG
        rw [mlX_yes hG] at o5
        rw [mlX_yes hG]
        have hmlen : (mls t).length ≤ 300 := by have := mls_len t; have := (snB_parts hG).2.1; unfold polB at this; rw [Bool.and_eq_true, decide_eq_true_eq] at this; have h9 := (snB_parts hG).2.2.2.1; unfold fewB at h9; rw [Bool.and_eq_true, decide_eq_true_eq] at h9; omega
        have hmpos : 0 < (mls t).length := by have := mls_len t; omega
        generalize mls t = ms at *
        go_wp2_with fail
        refine (one_any b a n c q3 4 _ (by omega) (by omega) h5.by_ h5.cur (by omega)).mono ?_
        rintro e w6 ⟨o, rfl, hC6, hg6⟩
        have h6 := h5.grown hb hg6 hC6
        have hT7 := sstc_grown hT6 (by omega) hg6
        have o6 := World.ownsRow.kept o5 hg6 (by cases hv : (Value.slice au ms.length cu).ownBlock with | none => exact .inl rfl | some y => exact .inr (fun he => by have h7 := (o5.lt y hv).1; cases he; omega))
        clear h5 hT6 o5 hC6 hg6
        cases o
        case true =>
          go_wp2_with fail
          go_loopw [43] (fun i wx => ∃ (l : Nat) (s' : Sd), i = .int .i64 l ∧ l ≤ ms.length ∧ SC w wx b a n c (q3 + 1) s' ∧ SsT wx bl tl (.slice (some ⟨g, off, none⟩) ss.length cl) ss ∧ wx.ownsRow W4.heap.size 33 8 (.slice au ms.length cu) ms.length (ms.flatMap Ml.cells)) (fun i _ => ms.length - (intOf i).toNat)
          case atStart => exact ⟨0, s, rfl, Nat.zero_le _, h6, hT7, o6⟩
          case round =>
            clear h6 hT7 o6
            obtain ⟨l, s', rfl, hl, h7, hT8, o7⟩ := hrel
            by_cases hlt : l < ms.length
            · obtain ⟨gm, om, em, hgm, hcm, e0, e1, e2, e3, e4, e5, e6, e7⟩ := (MlS.own o7).at hlt
              cases em
              obtain ⟨hm1, hm2⟩ := hml ms[l] (List.getElem_mem hlt)
              generalize ms[l] = m at *
              have hBm : Below wr.heap.size wr (wr.alloc (.cells #[.int .i64 m.kd, .int .i64 m.ver, .int .i64 m.no, .bool m.ru.deny, .string m.ru.who, .string m.ru.method, .string m.ru.path, .int .i64 m.se] 33)) := (Below.refl _ _).alloc (Nat.le_refl _) _
              have FM := Eight.new wr (.int .i64 m.kd) (.int .i64 m.ver) (.int .i64 m.no) (.bool m.ru.deny) (.string m.ru.who) (.string m.ru.method) (.string m.ru.path) (.int .i64 m.se) 33
              have h8 := h7.below hBm
              have hT9 := hT8.below hBm
              have o8 := ownsRow_below o7 hBm
              clear h7 hT8 o7 hBm
              go_upto_region 13 with fail
              clear e0 e1 e2 e3 e4 e5 e6 e7
              generalize wr.alloc (.cells #[.int .i64 m.kd, .int .i64 m.ver, .int .i64 m.no, .bool m.ru.deny, .string m.ru.who, .string m.ru.method, .string m.ru.path, .int .i64 m.se] 33) = Wm at *
              obtain ⟨m0, m1, m2, m3, m4, m5, m6, m7⟩ := FM.c
              obtain ⟨p1, c1, p2, c2, p3, c3, p4, c4, p5, c5, base, top, F3, O3, hbase, htop⟩ := h8.so
              obtain ⟨a0, a1, a2, a3, a4, a5, a6⟩ := F3.c
              have hTk := specTake_any (.agg #[.int .i64 s'.fo.num, .slice p1 s'.fo.pol.length c1, .slice p2 s'.fo.rv.length c2, .int .i64 s'.co, .slice p3 s'.ru.length c3, .slice p4 s'.ha.length c4, .slice p5 s'.se.length c5]) s' m Wm h8.sh (fun _ => h8.lo) hm2 O3.r
              rw [h8.gd] at hTk
              go_wp2_with fail
              refine hTk.mono ?_
              rintro e w9 ⟨v9, rfl, O9, hB9⟩
              obtain ⟨y1, x1, y2, x2, y3, x3, y4, x4, y5, x5, rfl⟩ := sd_forms O9.a
              have hX1 : sdB (tmX s' m) = true := by rw [tmX_yes h8.gd]; exact tk_good h8.gd
              have hX2 : loB (tmX s' m) := by rw [tmX_yes h8.gd]; exact tk_low h8.gd h8.lo hm1
              have hX3 : (tmX s' m).short := by rw [tmX_yes h8.gd]; exact tk_short h8.gd h8.sh hm2
              generalize tmX s' m = X at *
              have h9 := h8.put hb hB9 O9 hX1 hX2 hX3
              have G3 := F3.below hB9
              have hk9 := G3.lt
              have hT10 := (mid_seven w9 (w.heap.size + 1) (.int .i64 X.fo.num) (.slice y1 X.fo.pol.length x1) (.slice y2 X.fo.rv.length x2) (.int .i64 X.co) (.slice y3 X.ru.length x3) (.slice y4 X.ha.length x4) (.slice y5 X.se.length x5)).sst (hT9.below hB9) (.inl (by omega))
              have o9 := row_seven (ownsRow_below o8 hB9) (k := w.heap.size + 1) (by omega) (.int .i64 X.fo.num) (.slice y1 X.fo.pol.length x1) (.slice y2 X.fo.rv.length x2) (.int .i64 X.co) (.slice y3 X.ru.length x3) (.slice y4 X.ha.length x4) (.slice y5 X.se.length x5)
              clear hTk a0 a1 a2 a3 a4 a5 a6 m0 m1 m2 m3 m4 m5 m6 m7 F3 O3 O9 hB9 h8 hT9 o8 FM
              obtain ⟨a0, a1, a2, a3, a4, a5, a6⟩ := G3.c
              have f0 := G3.f 0
              have f1 := G3.f 1
              have f2 := G3.f 2
              have f3 := G3.f 3
              have f4 := G3.f 4
              have f5 := G3.f 5
              have f6 := G3.f 6
              go_wp2_with fail
              go_roundw
              case rel => exact ⟨l + 1, X, by go_num, by omega, h9, hT10, o9⟩
              case measure => simp [intOf]; omega
            · go_wp2_with fail
              go_roundw
              case rel => exact ⟨j - 1, q3 + 1, s', by go_num, by omega, by omega, h7, hT8⟩
              case measure => simp [intOf]; omega
        go_upto_region 15 with fail
        have hBd : Below w6.heap.size w6 w6.drew := below_drew1 (Below.refl _ _)
        have h7 := h6.below hBd
        have hT8 := hT7.below hBd
        have o7 := ownsRow_below o6 hBd
        clear h6 hT7 o6 hBd
        refine wp_region_held_drew (S := fun _ => True) (by kernel_rfl) trivial (fun hHeld => ?_)
        generalize w6.drew = We at *
        obtain ⟨p1, c1, p2, c2, p3, c3, p4, c4, p5, c5, base, top, F3, O3, hbase, htop⟩ := h7.so
        refine takeW 1 (v := ?v1) rfl (by kernel_rfl) (by kernel_rfl) (by kernel_rfl) (fun _ _ _ h => h) (by rfl) (by assumption) ?hy1 ?rest1
        case hy1 => intro w' hSw; (try dsimp only at hSw); go_simp; try with_reducible rfl
        try simp only [Act.put, List.setIfInBounds_toArray, List.set_cons_zero, List.set_cons_succ]
        refine takeW 2 (v := ?v2) rfl (by kernel_rfl) (by kernel_rfl) (by kernel_rfl) (fun _ _ _ h => h) (by rfl) (by assumption) ?hy2 ?rest2
        case hy2 => intro w' hSw; (try dsimp only at hSw); go_simp; try with_reducible rfl
        try simp only [Act.put, List.setIfInBounds_toArray, List.set_cons_zero, List.set_cons_succ]
        refine takeW 3 (v := ?v3) rfl (by kernel_rfl) (by kernel_rfl) (by kernel_rfl) (fun _ _ _ h => h) (by rfl) (by assumption) ?hy3 ?rest3
        case hy3 => intro w' hSw; (try dsimp only at hSw); go_simp; try with_reducible rfl
        try simp only [Act.put, List.setIfInBounds_toArray, List.set_cons_zero, List.set_cons_succ]
        refine takeW 4 (v := ?v4) rfl (by kernel_rfl) (by kernel_rfl) (by kernel_rfl) (fun _ _ _ h => h) (by rfl) (by assumption) ?hy4 ?rest4
        case hy4 => intro w' hSw; (try dsimp only at hSw); go_simp; try with_reducible rfl
        try simp only [Act.put, List.setIfInBounds_toArray, List.set_cons_zero, List.set_cons_succ]
        refine takeC2 0 5 (by kernel_rfl) rfl rfl (fun K hK => ?_) (fun K hK => ?_)
        · obtain ⟨a0, a1, a2, a3, a4, a5, a6⟩ := F3.c
          go_simp
          refine hK.out _ _ ?_ (fun hHeld => ?_)
          · trivial
          clear hK K
          try simp only [Act.put, List.setIfInBounds_toArray, List.set_cons_zero, List.set_cons_succ]
          clear a0 a1 a2 a3 a4 a5 a6
          refine takeC 5 (by kernel_rfl) rfl (fun K hK => ?_)
          go_simp
          refine (pickA_any b a n c (q3 + 1) ms.length _ (by omega) (by omega) h7.by_ h7.cur (by omega)).mono ?_
          rintro e w7 ⟨l, hlt, rfl, ⟨q7, hq7, hC7⟩, hg7⟩
          have hM7 : Mid b (b + 1) We w7 := Mid.of_grown hg7 (fun k hk => by cases hk; omega)
          replace h7 := h7.grown hb hg7 hC7
          replace hT8 := sstc_grown hT8 (by omega) hg7
          replace o7 := hM7.row o7 (fun y hy => by have := (o7.lt y hy).1; omega)
          replace F3 := hM7.seven F3 (.inr (by omega))
          replace O3 := hM7.sdo O3 (.inl (by omega))
          obtain ⟨gm, om, em, hgm, hcm, e0, e1, e2, e3, e4, e5, e6, e7⟩ := (MlS.own o7).at hlt
          cases em
          obtain ⟨hm1, hm2⟩ := hml ms[l] (List.getElem_mem hlt)
          generalize ms[l] = m at *
          clear hC7 hg7 hM7
          refine hK.out _ _ ?_ (fun hHeld => ?_)
          · trivial
          clear hK K
          try simp only [Act.put, List.setIfInBounds_toArray, List.set_cons_zero, List.set_cons_succ]
          refine takeW 6 (v := ?v5) rfl (by kernel_rfl) (by kernel_rfl) (by kernel_rfl) (fun _ _ _ h => h) (by rfl) (by assumption) ?hy5 ?rest5
          case hy5 => intro w' hSw; (try dsimp only at hSw); go_simp; try with_reducible rfl
          try simp only [Act.put, List.setIfInBounds_toArray, List.set_cons_zero, List.set_cons_succ]
          refine takeC 7 (by kernel_rfl) rfl (fun K hK => ?_)
          go_simp
          refine hK.out _ _ ?_ (fun hHeld => ?_)
          · trivial
          clear hK K
          try simp only [Act.put, List.setIfInBounds_toArray, List.set_cons_zero, List.set_cons_succ]
          clear e0 e1 e2 e3 e4 e5 e6 e7
          refine takeC 8 (by kernel_rfl) rfl (fun K hK => ?_)
          have hTk := specTake_any (.agg #[.int .i64 s.fo.num, .slice p1 s.fo.pol.length c1, .slice p2 s.fo.rv.length c2, .int .i64 s.co, .slice p3 s.ru.length c3, .slice p4 s.ha.length c4, .slice p5 s.se.length c5]) s m w7 h7.sh (fun _ => h7.lo) hm2 O3.r
          rw [h7.gd] at hTk
          go_simp
          refine hTk.mono ?_
          rintro e w9 ⟨v9, rfl, O9, hB9⟩
          obtain ⟨y1, x1, y2, x2, y3, x3, y4, x4, y5, x5, rfl⟩ := sd_forms O9.a
          have hX1 : sdB (tmX s m) = true := by rw [tmX_yes h7.gd]; exact tk_good h7.gd
          have hX2 : loB (tmX s m) := by rw [tmX_yes h7.gd]; exact tk_low h7.gd h7.lo hm1
          have hX3 : (tmX s m).short := by rw [tmX_yes h7.gd]; exact tk_short h7.gd h7.sh hm2
          generalize tmX s m = X at *
          have h9 := h7.put hb hB9 O9 hX1 hX2 hX3
          have G3 := F3.below hB9
          have hk9 := G3.lt
          have hT10 := (mid_seven w9 (w.heap.size + 1) (.int .i64 X.fo.num) (.slice y1 X.fo.pol.length x1) (.slice y2 X.fo.rv.length x2) (.int .i64 X.co) (.slice y3 X.ru.length x3) (.slice y4 X.ha.length x4) (.slice y5 X.se.length x5)).sst (hT8.below hB9) (.inl (by omega))
          clear hTk F3 O3 O9 hB9 h7 hT8 o7
          refine hK.out _ _ ?_ (fun hHeld => ?_)
          · trivial
          clear hK K
          try simp only [Act.put, List.setIfInBounds_toArray, List.set_cons_zero, List.set_cons_succ]
          refine takeW 9 (v := ?v6) rfl (by kernel_rfl) (by kernel_rfl) (by kernel_rfl) (fun _ _ _ h => h) (by rfl) (by assumption) ?hy6 ?rest6
          case hy6 => intro w' hSw; (try dsimp only at hSw); go_simp; try with_reducible rfl
          try simp only [Act.put, List.setIfInBounds_toArray, List.set_cons_zero, List.set_cons_succ]
          refine takeW 10 (v := ?v7) rfl (by kernel_rfl) (by kernel_rfl) (by kernel_rfl) (fun _ _ _ h => h) (by rfl) (by assumption) ?hy7 ?rest7
          case hy7 => intro w' hSw; (try dsimp only at hSw); go_simp; try with_reducible rfl
          try simp only [Act.put, List.setIfInBounds_toArray, List.set_cons_zero, List.set_cons_succ]
          refine takeW 11 (v := ?v8) rfl (by kernel_rfl) (by kernel_rfl) (by kernel_rfl) (fun _ _ _ h => h) (by rfl) (by assumption) ?hy8 ?rest8
          case hy8 => intro w' hSw; (try dsimp only at hSw); go_simp; try with_reducible rfl
          try simp only [Act.put, List.setIfInBounds_toArray, List.set_cons_zero, List.set_cons_succ]
          obtain ⟨a0, a1, a2, a3, a4, a5, a6⟩ := G3.c
          have f0 := G3.f 0
          have f1 := G3.f 1
          have f2 := G3.f 2
          have f3 := G3.f 3
          have f4 := G3.f 4
          have f5 := G3.f 5
          have f6 := G3.f 6
          refine takeC 12 (by kernel_rfl) rfl (fun K hK => ?_)
          go_simp
          skip
          refine hK.out _ _ ?_ (fun hHeld => ?_)
          · trivial
          clear hK K
          try simp only [Act.put, List.setIfInBounds_toArray, List.set_cons_zero, List.set_cons_succ]
          refine wpAnyH_done (by kernel_rfl) ?_ _
          go_wp2_with fail
          go_roundw
          case rel => exact ⟨j - 1, q7, X, by go_num, by omega, by omega, h9, hT10⟩
          case measure => simp [intOf]; omega
        · go_simp
          refine (pickA_any b a n c (q3 + 1) ms.length _ (by omega) (by omega) h7.by_ h7.cur (by omega)).mono ?_
          rintro e w7 ⟨l, hlt, rfl, ⟨q7, hq7, hC7⟩, hg7⟩
          have hM7 : Mid b (b + 1) We w7 := Mid.of_grown hg7 (fun k hk => by cases hk; omega)
          replace h7 := h7.grown hb hg7 hC7
          replace hT8 := sstc_grown hT8 (by omega) hg7
          replace o7 := hM7.row o7 (fun y hy => by have := (o7.lt y hy).1; omega)
          replace F3 := hM7.seven F3 (.inr (by omega))
          replace O3 := hM7.sdo O3 (.inl (by omega))
          obtain ⟨gm, om, em, hgm, hcm, e0, e1, e2, e3, e4, e5, e6, e7⟩ := (MlS.own o7).at hlt
          cases em
          obtain ⟨hm1, hm2⟩ := hml ms[l] (List.getElem_mem hlt)
          generalize ms[l] = m at *
          clear hC7 hg7 hM7
          refine hK.out _ _ ?_ (fun hHeld => ?_)
          · trivial
          clear hK K
          try simp only [Act.put, List.setIfInBounds_toArray, List.set_cons_zero, List.set_cons_succ]
          refine takeW 6 (v := ?v9) rfl (by kernel_rfl) (by kernel_rfl) (by kernel_rfl) (fun _ _ _ h => h) (by rfl) (by assumption) ?hy9 ?rest9
          case hy9 => intro w' hSw; (try dsimp only at hSw); go_simp; try with_reducible rfl
          try simp only [Act.put, List.setIfInBounds_toArray, List.set_cons_zero, List.set_cons_succ]
          refine takeC2 0 7 (by kernel_rfl) rfl rfl (fun K hK => ?_) (fun K hK => ?_)
          · obtain ⟨a0, a1, a2, a3, a4, a5, a6⟩ := F3.c
            go_simp
            refine hK.out _ _ ?_ (fun hHeld => ?_)
            · trivial
            clear hK K
            try simp only [Act.put, List.setIfInBounds_toArray, List.set_cons_zero, List.set_cons_succ]
            clear a0 a1 a2 a3 a4 a5 a6
            refine takeC 7 (by kernel_rfl) rfl (fun K hK => ?_)
            go_simp
            refine hK.out _ _ ?_ (fun hHeld => ?_)
            · trivial
            clear hK K
            try simp only [Act.put, List.setIfInBounds_toArray, List.set_cons_zero, List.set_cons_succ]
            clear e0 e1 e2 e3 e4 e5 e6 e7
            refine takeC 8 (by kernel_rfl) rfl (fun K hK => ?_)
            have hTk := specTake_any (.agg #[.int .i64 s.fo.num, .slice p1 s.fo.pol.length c1, .slice p2 s.fo.rv.length c2, .int .i64 s.co, .slice p3 s.ru.length c3, .slice p4 s.ha.length c4, .slice p5 s.se.length c5]) s m w7 h7.sh (fun _ => h7.lo) hm2 O3.r
            rw [h7.gd] at hTk
            go_simp
            refine hTk.mono ?_
            rintro e w9 ⟨v9, rfl, O9, hB9⟩
            obtain ⟨y1, x1, y2, x2, y3, x3, y4, x4, y5, x5, rfl⟩ := sd_forms O9.a
            have hX1 : sdB (tmX s m) = true := by rw [tmX_yes h7.gd]; exact tk_good h7.gd
            have hX2 : loB (tmX s m) := by rw [tmX_yes h7.gd]; exact tk_low h7.gd h7.lo hm1
            have hX3 : (tmX s m).short := by rw [tmX_yes h7.gd]; exact tk_short h7.gd h7.sh hm2
            generalize tmX s m = X at *
            have h9 := h7.put hb hB9 O9 hX1 hX2 hX3
            have G3 := F3.below hB9
            have hk9 := G3.lt
            have hT10 := (mid_seven w9 (w.heap.size + 1) (.int .i64 X.fo.num) (.slice y1 X.fo.pol.length x1) (.slice y2 X.fo.rv.length x2) (.int .i64 X.co) (.slice y3 X.ru.length x3) (.slice y4 X.ha.length x4) (.slice y5 X.se.length x5)).sst (hT8.below hB9) (.inl (by omega))
            clear hTk F3 O3 O9 hB9 h7 hT8 o7
            refine hK.out _ _ ?_ (fun hHeld => ?_)
            · trivial
            clear hK K
            try simp only [Act.put, List.setIfInBounds_toArray, List.set_cons_zero, List.set_cons_succ]
            refine takeW 9 (v := ?v10) rfl (by kernel_rfl) (by kernel_rfl) (by kernel_rfl) (fun _ _ _ h => h) (by rfl) (by assumption) ?hy10 ?rest10
            case hy10 => intro w' hSw; (try dsimp only at hSw); go_simp; try with_reducible rfl
            try simp only [Act.put, List.setIfInBounds_toArray, List.set_cons_zero, List.set_cons_succ]
            refine takeW 10 (v := ?v11) rfl (by kernel_rfl) (by kernel_rfl) (by kernel_rfl) (fun _ _ _ h => h) (by rfl) (by assumption) ?hy11 ?rest11
            case hy11 => intro w' hSw; (try dsimp only at hSw); go_simp; try with_reducible rfl
            try simp only [Act.put, List.setIfInBounds_toArray, List.set_cons_zero, List.set_cons_succ]
            refine takeW 11 (v := ?v12) rfl (by kernel_rfl) (by kernel_rfl) (by kernel_rfl) (fun _ _ _ h => h) (by rfl) (by assumption) ?hy12 ?rest12
            case hy12 => intro w' hSw; (try dsimp only at hSw); go_simp; try with_reducible rfl
            try simp only [Act.put, List.setIfInBounds_toArray, List.set_cons_zero, List.set_cons_succ]
            obtain ⟨a0, a1, a2, a3, a4, a5, a6⟩ := G3.c
            have f0 := G3.f 0
            have f1 := G3.f 1
            have f2 := G3.f 2
            have f3 := G3.f 3
            have f4 := G3.f 4
            have f5 := G3.f 5
            have f6 := G3.f 6
            refine takeC 12 (by kernel_rfl) rfl (fun K hK => ?_)
            go_simp
            skip
            refine hK.out _ _ ?_ (fun hHeld => ?_)
            · trivial
            clear hK K
            try simp only [Act.put, List.setIfInBounds_toArray, List.set_cons_zero, List.set_cons_succ]
            refine wpAnyH_done (by kernel_rfl) ?_ _
            go_wp2_with fail
            go_roundw
            case rel => exact ⟨j - 1, q7, X, by go_num, by omega, by omega, h9, hT10⟩
            case measure => simp [intOf]; omega
          · go_simp
            refine hK.out _ _ ?_ (fun hHeld => ?_)
            · trivial
            clear hK K
            try simp only [Act.put, List.setIfInBounds_toArray, List.set_cons_zero, List.set_cons_succ]
            clear e0 e1 e2 e3 e4 e5 e6 e7
            refine takeC 0 (by kernel_rfl) rfl (fun K hK => ?_)
            obtain ⟨a0, a1, a2, a3, a4, a5, a6⟩ := F3.c
            go_simp
            refine hK.out _ _ ?_ (fun hHeld => ?_)
            · trivial
            clear hK K
            try simp only [Act.put, List.setIfInBounds_toArray, List.set_cons_zero, List.set_cons_succ]
            clear a0 a1 a2 a3 a4 a5 a6
            refine takeC 8 (by kernel_rfl) rfl (fun K hK => ?_)
            have hTk := specTake_any (.agg #[.int .i64 s.fo.num, .slice p1 s.fo.pol.length c1, .slice p2 s.fo.rv.length c2, .int .i64 s.co, .slice p3 s.ru.length c3, .slice p4 s.ha.length c4, .slice p5 s.se.length c5]) s m w7 h7.sh (fun _ => h7.lo) hm2 O3.r
            rw [h7.gd] at hTk
            go_simp
            refine hTk.mono ?_
            rintro e w9 ⟨v9, rfl, O9, hB9⟩
            obtain ⟨y1, x1, y2, x2, y3, x3, y4, x4, y5, x5, rfl⟩ := sd_forms O9.a
            have hX1 : sdB (tmX s m) = true := by rw [tmX_yes h7.gd]; exact tk_good h7.gd
            have hX2 : loB (tmX s m) := by rw [tmX_yes h7.gd]; exact tk_low h7.gd h7.lo hm1
            have hX3 : (tmX s m).short := by rw [tmX_yes h7.gd]; exact tk_short h7.gd h7.sh hm2
            generalize tmX s m = X at *
            have h9 := h7.put hb hB9 O9 hX1 hX2 hX3
            have G3 := F3.below hB9
            have hk9 := G3.lt
            have hT10 := (mid_seven w9 (w.heap.size + 1) (.int .i64 X.fo.num) (.slice y1 X.fo.pol.length x1) (.slice y2 X.fo.rv.length x2) (.int .i64 X.co) (.slice y3 X.ru.length x3) (.slice y4 X.ha.length x4) (.slice y5 X.se.length x5)).sst (hT8.below hB9) (.inl (by omega))
            clear hTk F3 O3 O9 hB9 h7 hT8 o7
            refine hK.out _ _ ?_ (fun hHeld => ?_)
            · trivial
            clear hK K
            try simp only [Act.put, List.setIfInBounds_toArray, List.set_cons_zero, List.set_cons_succ]
            refine takeW 9 (v := ?v13) rfl (by kernel_rfl) (by kernel_rfl) (by kernel_rfl) (fun _ _ _ h => h) (by rfl) (by assumption) ?hy13 ?rest13
            case hy13 => intro w' hSw; (try dsimp only at hSw); go_simp; try with_reducible rfl
            try simp only [Act.put, List.setIfInBounds_toArray, List.set_cons_zero, List.set_cons_succ]
            refine takeW 10 (v := ?v14) rfl (by kernel_rfl) (by kernel_rfl) (by kernel_rfl) (fun _ _ _ h => h) (by rfl) (by assumption) ?hy14 ?rest14
            case hy14 => intro w' hSw; (try dsimp only at hSw); go_simp; try with_reducible rfl
            try simp only [Act.put, List.setIfInBounds_toArray, List.set_cons_zero, List.set_cons_succ]
            refine takeW 11 (v := ?v15) rfl (by kernel_rfl) (by kernel_rfl) (by kernel_rfl) (fun _ _ _ h => h) (by rfl) (by assumption) ?hy15 ?rest15
            case hy15 => intro w' hSw; (try dsimp only at hSw); go_simp; try with_reducible rfl
            try simp only [Act.put, List.setIfInBounds_toArray, List.set_cons_zero, List.set_cons_succ]
            obtain ⟨a0, a1, a2, a3, a4, a5, a6⟩ := G3.c
            have f0 := G3.f 0
            have f1 := G3.f 1
            have f2 := G3.f 2
            have f3 := G3.f 3
            have f4 := G3.f 4
            have f5 := G3.f 5
            have f6 := G3.f 6
            refine takeC 12 (by kernel_rfl) rfl (fun K hK => ?_)
            go_simp
            skip
            refine hK.out _ _ ?_ (fun hHeld => ?_)
            · trivial
            clear hK K
            try simp only [Act.put, List.setIfInBounds_toArray, List.set_cons_zero, List.set_cons_succ]
            refine wpAnyH_done (by kernel_rfl) ?_ _
            go_wp2_with fail
            go_roundw
            case rel => exact ⟨j - 1, q7, X, by go_num, by omega, by omega, h9, hT10⟩
            case measure => simp [intOf]; omega
      go_wp2_with fail
      refine (pick_any b a n c q 40 _ (by omega) (by omega) h.by_ h.cur (by omega)).mono ?_
      rintro e w3 ⟨x, hx, rfl, hC3, hg3⟩
      have h3 := h.grown hb hg3 hC3
      clear h hT hC3 hg3
      obtain ⟨p1, c1, p2, c2, p3, c3, p4, c4, p5, c5, base, top, F3, O3, hbase, htop⟩ := h3.so
      by_cases x0 : x = 0
      · subst x0
        have hBa : Below w3.heap.size w3 (w3.alloc (.cells #[.int .i64 (-1), .int .i64 0, .int .i64 1, .int .i64 100001] 3)) := (Below.refl _ _).alloc (Nat.le_refl _) _
        have h4 := h3.below hBa
        have F4 := F3.below hBa
        have O4 := O3.below hBa
        have hR : (w3.alloc (.cells #[.int .i64 (-1), .int .i64 0, .int .i64 1, .int .i64 100001] 3)).ownsRow w3.heap.size 3 1 (.slice (some ⟨w3.heap.size, 0, none⟩) 4 4) [(-1 : Int), 0, 1, 100001].length (([(-1 : Int), 0, 1, 100001] : List Int).map (Value.int .i64)) := ⟨rfl, .inr ⟨w3.heap.size, 4, _, rfl, Nat.le_refl _, heap_alloc_new _ _, Nat.le_refl _, by unfold maxLen; omega, rfl, rfl⟩⟩
        have hb3 : b < w3.heap.size := h3.cur.lt
        go_wp2_with fail
        refine (among_any b a n c (q + 1) [-1, 0, 1, 100001] w3.heap.size _ _ (by simp) (by simp) hb3 h4.by_ h4.cur (by omega) hR).mono ?_
        rintro e w5 ⟨z, _, rfl, hC5, hg5⟩
        have h5 := h4.grown hb hg5 hC5
        have hM5 : Mid b (b + 1) _ w5 := Mid.of_grown hg5 (fun k hk => by cases hk; omega)
        have F5 := hM5.seven F4 (.inr (by omega))
        have O5 := hM5.sdo O4 (.inl (by omega))
        have hs5 := h5.gr.size
        have ff := F5.f 3
        have cc := F5.c.2.2.2.1
        have G := F5.s3 (.int .i64 z)
        have G2 := h5.f2.other (k' := w.heap.size + 1) (by omega) 3 (.int .i64 z)
        have OA := sdo_co (sdo_set O5 (p := ⟨w.heap.size + 1, 3, none⟩) (by show w.heap.size + 1 < _; omega) (.int .i64 z)) z
        have hBz : Below w.heap.size w5 (w5.setCell ⟨w.heap.size + 1, 3, none⟩ (.int .i64 z)) := (Below.refl _ w5).setCell (by simp) _
        have ByA := h5.by_.belowN hBz (fun p hp => Nat.lt_trans (h5.cur.apart p hp) hb)
        have CuA := h5.cur.belowN hBz hb
        have GrA := gBN h5.gr hBz
        have hlo := h5.lo
        have hshs := h5.sh
        have ht9 : top ≤ (w5.setCell ⟨w.heap.size + 1, 3, none⟩ (.int .i64 z)).heap.size := by have := hBa.size; have := hg5.size; simp; omega
        clear hR h3 h4 F3 F4 O3 O4 O5 hM5 hg5 hC5 F5
        go_upto_region 23 with fail
        clear ff cc h5
        generalize w5.setCell ⟨w.heap.size + 1, 3, none⟩ (.int .i64 z) = WA at *
        obtain ⟨a0, a1, a2, a3, a4, a5, a6⟩ := G.c
        obtain ⟨r0, r1, r2, r3, r4, r5, r6⟩ := G2.c
        have f0 := G2.f 0
        have f1 := G2.f 1
        have f2 := G2.f 2
        have f3 := G2.f 3
        have f4 := G2.f 4
        have f5 := G2.f 5
        have f6 := G2.f 6
        have hsW := GrA.size
        have G3 := (((((((G2.s0 (.int .i64 s.fo.num)).s1 (.slice p1 s.fo.pol.length c1)).s2 (.slice p2 s.fo.rv.length c2)).s3 (.int .i64 z)).s4 (.slice p3 s.ru.length c3)).s5 (.slice p4 s.ha.length c4)).s6 (.slice p5 s.se.length c5))
        have O9 := (sdo_set (sdo_set (sdo_set (sdo_set (sdo_set (sdo_set (sdo_set OA (p := ⟨w.heap.size, 0, none⟩) (by show w.heap.size < _; omega) (.int .i64 s.fo.num)) (p := ⟨w.heap.size, 1, none⟩) (by show w.heap.size < _; omega) (.slice p1 s.fo.pol.length c1)) (p := ⟨w.heap.size, 2, none⟩) (by show w.heap.size < _; omega) (.slice p2 s.fo.rv.length c2)) (p := ⟨w.heap.size, 3, none⟩) (by show w.heap.size < _; omega) (.int .i64 z)) (p := ⟨w.heap.size, 4, none⟩) (by show w.heap.size < _; omega) (.slice p3 s.ru.length c3)) (p := ⟨w.heap.size, 5, none⟩) (by show w.heap.size < _; omega) (.slice p4 s.ha.length c4)) (p := ⟨w.heap.size, 6, none⟩) (by show w.heap.size < _; omega) (.slice p5 s.se.length c5))
        have hBs : Below w.heap.size WA (((((((WA.setCell ⟨w.heap.size, 0, none⟩ (.int .i64 s.fo.num)).setCell ⟨w.heap.size, 1, none⟩ (.slice p1 s.fo.pol.length c1)).setCell ⟨w.heap.size, 2, none⟩ (.slice p2 s.fo.rv.length c2)).setCell ⟨w.heap.size, 3, none⟩ (.int .i64 z)).setCell ⟨w.heap.size, 4, none⟩ (.slice p3 s.ru.length c3)).setCell ⟨w.heap.size, 5, none⟩ (.slice p4 s.ha.length c4)).setCell ⟨w.heap.size, 6, none⟩ (.slice p5 s.se.length c5)) := below_seven (Below.refl _ WA) (k := w.heap.size) (Nat.le_refl _) (.int .i64 s.fo.num) (.slice p1 s.fo.pol.length c1) (.slice p2 s.fo.rv.length c2) (.int .i64 z) (.slice p3 s.ru.length c3) (.slice p4 s.ha.length c4) (.slice p5 s.se.length c5)
        have By9 := ByA.belowN hBs (fun p hp => Nat.lt_trans (CuA.apart p hp) hb)
        have Cu9 := CuA.belowN hBs hb
        have Gr9 := gBN GrA hBs
        have hT9 : top ≤ (((((((WA.setCell ⟨w.heap.size, 0, none⟩ (.int .i64 s.fo.num)).setCell ⟨w.heap.size, 1, none⟩ (.slice p1 s.fo.pol.length c1)).setCell ⟨w.heap.size, 2, none⟩ (.slice p2 s.fo.rv.length c2)).setCell ⟨w.heap.size, 3, none⟩ (.int .i64 z)).setCell ⟨w.heap.size, 4, none⟩ (.slice p3 s.ru.length c3)).setCell ⟨w.heap.size, 5, none⟩ (.slice p4 s.ha.length c4)).setCell ⟨w.heap.size, 6, none⟩ (.slice p5 s.se.length c5)).heap.size := by simp <;> omega
        go_wp2_with fail
        clear a0 a1 a2 a3 a4 a5 a6 r0 r1 r2 r3 r4 r5 r6 f0 f1 f2 f3 f4 f5 f6
        generalize ((((((WA.setCell ⟨w.heap.size, 0, none⟩ (.int .i64 s.fo.num)).setCell ⟨w.heap.size, 1, none⟩ (.slice p1 s.fo.pol.length c1)).setCell ⟨w.heap.size, 2, none⟩ (.slice p2 s.fo.rv.length c2)).setCell ⟨w.heap.size, 3, none⟩ (.int .i64 z)).setCell ⟨w.heap.size, 4, none⟩ (.slice p3 s.ru.length c3)).setCell ⟨w.heap.size, 5, none⟩ (.slice p4 s.ha.length c4)).setCell ⟨w.heap.size, 6, none⟩ (.slice p5 s.se.length c5) = W9 at *
        obtain ⟨d0, d1, d2, d3, d4, d5, d6⟩ := G3.c
        exact bodyPost_ret (v := .agg #[.int .i64 s.fo.num, .slice p1 s.fo.pol.length c1, .slice p2 s.fo.rv.length c2, .int .i64 z, .slice p3 s.ru.length c3, .slice p4 s.ha.length c4, .slice p5 s.se.length c5]) (by simp [results, Tryz.results11, go_sem, d0, d1, d2, d3, d4, d5, d6]) rfl ⟨_, ⟨s.fo, z, s.ru, s.ha, s.se⟩, q + 1 + 1, rfl, hshs, fun _ => hlo, by omega, ⟨_, _, by omega, hT9, O9⟩, By9, Cu9, Gr9⟩
      by_cases x1 : x = 1
      · subst x1
        obtain ⟨mm, _, _, _, _, _, e9, hm1, hm2, OS, oR, oH, oZ, tR, tH, tZ⟩ := O3
        cases e9
        have hlh := (lnB_parts (sd_parts h3.gd).2.1).2.2
        have hs3 := h3.gr.size
        have hk3' := F3.lt
        rcases row_form oH with ⟨e9, hz9⟩ | ⟨gH, cH, e9, hgH, hcH⟩
        · have hha : s.ha = [] := List.eq_nil_of_length_eq_zero hz9
          obtain ⟨fo, co, ru, ha, se⟩ := s
          dsimp only at *
          subst hha
          cases e9
          have hby := h3.by_
          have hcu := h3.cur
          have hgr := h3.gr
          have hf2 := h3.f2
          have hshs := h3.sh
          have hmore := sd_more h3.gd
          clear h3
          obtain ⟨_, _, ee, o1, o2, t1, t2⟩ := OS
          cases ee
          obtain ⟨g0, g1, g2', g3, g4, g5, g6⟩ := F3.c
          go_wp2_with (at_builtin; refine wpList_append_own _ rfl _ _ 27 rfl mm 4 ib _ 1 1 Tryz.underlying27 hib hb0 hb1 hb2 rfl (by decide) _ _ _ rfl (oH.alloc _) ⟨w3.heap.size, 0, none⟩ 1 1 [.bool true] rfl rfl (cell_one_new _ _ _) (by intro u hu; simp at hu; subst hu; rfl) (by unfold maxLen; first | omega | (simp <;> omega)) (by first | omega | (simp <;> omega)) (by first | omega | (simp <;> omega)) ?_)
          intro u' w4 o4 q4 _
          obtain ⟨g', cap4, rfl⟩ := ownsRow_succ o4
          clear g0 g1 g2' g3 g4 g5 g6
          have hBa : Below w3.heap.size w3 (w3.alloc (.cells #[.bool true] 4)) := (Below.refl _ w3).alloc (Nat.le_refl _) _
          have F4 : Seven w4 _ _ _ _ _ _ _ _ _ := World.ownsRow.kept (F3.below hBa) q4 (.inr (fun e => by cases e))
          have f24 : Seven w4 _ _ _ _ _ _ _ _ _ := World.ownsRow.kept (hf2.below hBa) q4 (.inr (fun e => by cases e))
          have b1 := kept_apart (ownsRow_below o1 hBa) q4 (row_apart o1 oH (by decide))
          have b2 := kept_apart (ownsRow_below o2 hBa) q4 (row_apart o2 oH (by decide))
          have b3 := kept_apart (ownsRow_below oR hBa) q4 (row_apart oR oH (by decide))
          have b5 := kept_apart (ownsRow_below oZ hBa) q4 (row_apart oZ oH (by decide))
          have hB4 : Below w.heap.size w3 w4 := ((Below.refl w.heap.size w3).alloc hs3 (.cells #[.bool true] 4)).grown q4 (by simp <;> omega) (fun y e => by have := (oH.lt y e).1; omega)
          have hs4 : w3.heap.size ≤ w4.heap.size := hB4.size
          have ff := F4.f 5
          have cc := F4.c.2.2.2.2.2.1
          have G := F4.s5 (.slice (some ⟨g', 0, none⟩) (([] : List Bool).length + 1) cap4)
          have G2 := f24.other (k' := w.heap.size + 1) (by omega) 5 (.slice (some ⟨g', 0, none⟩) (([] : List Bool).length + 1) cap4)
          have q1 := ownsRow_setCell_below b1 (a := ⟨w.heap.size + 1, 5, none⟩) (by show w.heap.size + 1 < _; omega) (.slice (some ⟨g', 0, none⟩) (([] : List Bool).length + 1) cap4)
          have q2 := ownsRow_setCell_below b2 (a := ⟨w.heap.size + 1, 5, none⟩) (by show w.heap.size + 1 < _; omega) (.slice (some ⟨g', 0, none⟩) (([] : List Bool).length + 1) cap4)
          have q3 := ownsRow_setCell_below b3 (a := ⟨w.heap.size + 1, 5, none⟩) (by show w.heap.size + 1 < _; omega) (.slice (some ⟨g', 0, none⟩) (([] : List Bool).length + 1) cap4)
          have q5 := ownsRow_setCell_below b5 (a := ⟨w.heap.size + 1, 5, none⟩) (by show w.heap.size + 1 < _; omega) (.slice (some ⟨g', 0, none⟩) (([] : List Bool).length + 1) cap4)
          have q4' := ownsRow_setCell_below o4 (a := ⟨w.heap.size + 1, 5, none⟩) (by show w.heap.size + 1 < _; omega) (.slice (some ⟨g', 0, none⟩) (([] : List Bool).length + 1) cap4)
          have hsA : w4.heap.size ≤ (w4.setCell ⟨w.heap.size + 1, 5, none⟩ (.slice (some ⟨g', 0, none⟩) (([] : List Bool).length + 1) cap4)).heap.size := by simp
          have hBz := hB4.setCell (p := ⟨w.heap.size + 1, 5, none⟩) (by simp) (.slice (some ⟨g', 0, none⟩) (([] : List Bool).length + 1) cap4)
          have ByA := hby.belowN hBz (fun p hp => Nat.lt_trans (hcu.apart p hp) hb)
          have CuA := hcu.belowN hBz hb
          have GrA := gBN hgr hBz
          clear hBa b1 b2 b3 b5 o1 o2 oR oZ oH F3 hf2 hby hcu hgr f24 o4 q4 hB4 hBz
          go_upto_region 23 with fail
          clear ff cc F4
          generalize w4.setCell ⟨w.heap.size + 1, 5, none⟩ (.slice (some ⟨g', 0, none⟩) (([] : List Bool).length + 1) cap4) = WA at *
          have OA : SdO WA base WA.heap.size (.agg #[.int .i64 fo.num, .slice p1 fo.pol.length c1, .slice p2 fo.rv.length c2, .int .i64 co, .slice p3 ru.length c3, .slice (some ⟨g', 0, none⟩) (([] : List Bool).length + 1) cap4, .slice p5 se.length c5]) ⟨fo, co, ru, ([] : List Bool) ++ [true], se⟩ := ⟨mm, _, _, _, _, _, rfl, hm1, by omega, ⟨_, _, rfl, q1, q2, t1, t2⟩, q3, row_castN (by simpa [bls] using q4') (by simp), q5, fun y e => (q3.lt y e).2, fun y e => (q4'.lt y e).2, fun y e => (q5.lt y e).2⟩
          have hsh9 : Sd.short ⟨fo, co, ru, ([] : List Bool) ++ [true], se⟩ := ⟨hshs.1, hshs.2.1, by simp <;> omega, hshs.2.2.2.1, hshs.2.2.2.2⟩
          obtain ⟨a0, a1, a2, a3, a4, a5, a6⟩ := G.c
          obtain ⟨r0, r1, r2, r3, r4, r5, r6⟩ := G2.c
          have f0 := G2.f 0
          have f1 := G2.f 1
          have f2 := G2.f 2
          have f3 := G2.f 3
          have f4 := G2.f 4
          have f5 := G2.f 5
          have f6 := G2.f 6
          have hsW := GrA.size
          have G3 := (((((((G2.s0 (.int .i64 fo.num)).s1 (.slice p1 fo.pol.length c1)).s2 (.slice p2 fo.rv.length c2)).s3 (.int .i64 co)).s4 (.slice p3 ru.length c3)).s5 (.slice (some ⟨g', 0, none⟩) (([] : List Bool).length + 1) cap4)).s6 (.slice p5 se.length c5))
          have O9 := (sdo_set (sdo_set (sdo_set (sdo_set (sdo_set (sdo_set (sdo_set OA (p := ⟨w.heap.size, 0, none⟩) (by show w.heap.size < _; omega) (.int .i64 fo.num)) (p := ⟨w.heap.size, 1, none⟩) (by show w.heap.size < _; omega) (.slice p1 fo.pol.length c1)) (p := ⟨w.heap.size, 2, none⟩) (by show w.heap.size < _; omega) (.slice p2 fo.rv.length c2)) (p := ⟨w.heap.size, 3, none⟩) (by show w.heap.size < _; omega) (.int .i64 co)) (p := ⟨w.heap.size, 4, none⟩) (by show w.heap.size < _; omega) (.slice p3 ru.length c3)) (p := ⟨w.heap.size, 5, none⟩) (by show w.heap.size < _; omega) (.slice (some ⟨g', 0, none⟩) (([] : List Bool).length + 1) cap4)) (p := ⟨w.heap.size, 6, none⟩) (by show w.heap.size < _; omega) (.slice p5 se.length c5))
          have hBs : Below w.heap.size WA (((((((WA.setCell ⟨w.heap.size, 0, none⟩ (.int .i64 fo.num)).setCell ⟨w.heap.size, 1, none⟩ (.slice p1 fo.pol.length c1)).setCell ⟨w.heap.size, 2, none⟩ (.slice p2 fo.rv.length c2)).setCell ⟨w.heap.size, 3, none⟩ (.int .i64 co)).setCell ⟨w.heap.size, 4, none⟩ (.slice p3 ru.length c3)).setCell ⟨w.heap.size, 5, none⟩ (.slice (some ⟨g', 0, none⟩) (([] : List Bool).length + 1) cap4)).setCell ⟨w.heap.size, 6, none⟩ (.slice p5 se.length c5)) := below_seven (Below.refl _ WA) (k := w.heap.size) (Nat.le_refl _) (.int .i64 fo.num) (.slice p1 fo.pol.length c1) (.slice p2 fo.rv.length c2) (.int .i64 co) (.slice p3 ru.length c3) (.slice (some ⟨g', 0, none⟩) (([] : List Bool).length + 1) cap4) (.slice p5 se.length c5)
          have By9 := ByA.belowN hBs (fun p hp => Nat.lt_trans (CuA.apart p hp) hb)
          have Cu9 := CuA.belowN hBs hb
          have Gr9 := gBN GrA hBs
          have hT9 : WA.heap.size ≤ (((((((WA.setCell ⟨w.heap.size, 0, none⟩ (.int .i64 fo.num)).setCell ⟨w.heap.size, 1, none⟩ (.slice p1 fo.pol.length c1)).setCell ⟨w.heap.size, 2, none⟩ (.slice p2 fo.rv.length c2)).setCell ⟨w.heap.size, 3, none⟩ (.int .i64 co)).setCell ⟨w.heap.size, 4, none⟩ (.slice p3 ru.length c3)).setCell ⟨w.heap.size, 5, none⟩ (.slice (some ⟨g', 0, none⟩) (([] : List Bool).length + 1) cap4)).setCell ⟨w.heap.size, 6, none⟩ (.slice p5 se.length c5)).heap.size := by simp <;> omega
          go_wp2_with fail
          clear a0 a1 a2 a3 a4 a5 a6 r0 r1 r2 r3 r4 r5 r6 f0 f1 f2 f3 f4 f5 f6
          generalize ((((((WA.setCell ⟨w.heap.size, 0, none⟩ (.int .i64 fo.num)).setCell ⟨w.heap.size, 1, none⟩ (.slice p1 fo.pol.length c1)).setCell ⟨w.heap.size, 2, none⟩ (.slice p2 fo.rv.length c2)).setCell ⟨w.heap.size, 3, none⟩ (.int .i64 co)).setCell ⟨w.heap.size, 4, none⟩ (.slice p3 ru.length c3)).setCell ⟨w.heap.size, 5, none⟩ (.slice (some ⟨g', 0, none⟩) (([] : List Bool).length + 1) cap4)).setCell ⟨w.heap.size, 6, none⟩ (.slice p5 se.length c5) = W9 at *
          obtain ⟨d0, d1, d2, d3, d4, d5, d6⟩ := G3.c
          exact bodyPost_ret (v := .agg #[.int .i64 fo.num, .slice p1 fo.pol.length c1, .slice p2 fo.rv.length c2, .int .i64 co, .slice p3 ru.length c3, .slice (some ⟨g', 0, none⟩) (([] : List Bool).length + 1) cap4, .slice p5 se.length c5]) (by simp [results, Tryz.results11, go_sem, d0, d1, d2, d3, d4, d5, d6]) rfl ⟨_, ⟨fo, co, ru, ([] : List Bool) ++ [true], se⟩, q + 1, rfl, hsh9, fun h => absurd h (by rw [hmore]; simp), by omega, ⟨_, _, by omega, hT9, O9⟩, By9, Cu9, Gr9⟩
        · cases e9
          have hby := h3.by_
          have hcu := h3.cur
          have hgr := h3.gr
          have hf2 := h3.f2
          have hshs := h3.sh
          have hmore := sd_more h3.gd
          clear h3
          obtain ⟨_, _, ee, o1, o2, t1, t2⟩ := OS
          cases ee
          obtain ⟨g0, g1, g2', g3, g4, g5, g6⟩ := F3.c
          go_wp2_with (at_builtin; refine wpList_append_own _ rfl _ _ 27 rfl mm 4 ib _ 1 1 Tryz.underlying27 hib hb0 hb1 hb2 rfl (by decide) _ _ _ rfl (oH.alloc _) ⟨w3.heap.size, 0, none⟩ 1 1 [.bool true] rfl rfl (cell_one_new _ _ _) (by intro u hu; simp at hu; subst hu; rfl) (by unfold maxLen; first | omega | (simp <;> omega)) (by first | omega | (simp <;> omega)) (by first | omega | (simp <;> omega)) ?_)
          intro u' w4 o4 q4 _
          obtain ⟨g', cap4, rfl⟩ := ownsRow_succ o4
          clear g0 g1 g2' g3 g4 g5 g6
          have hBa : Below w3.heap.size w3 (w3.alloc (.cells #[.bool true] 4)) := (Below.refl _ w3).alloc (Nat.le_refl _) _
          have F4 : Seven w4 _ _ _ _ _ _ _ _ _ := World.ownsRow.kept (F3.below hBa) q4 (.inr (fun e => by have h1 := (oH.lt (w.heap.size + 1) e.symm).1; omega))
          have f24 : Seven w4 _ _ _ _ _ _ _ _ _ := World.ownsRow.kept (hf2.below hBa) q4 (.inr (fun e => by have h1 := (oH.lt w.heap.size e.symm).1; omega))
          have b1 := kept_apart (ownsRow_below o1 hBa) q4 (row_apart o1 oH (by decide))
          have b2 := kept_apart (ownsRow_below o2 hBa) q4 (row_apart o2 oH (by decide))
          have b3 := kept_apart (ownsRow_below oR hBa) q4 (row_apart oR oH (by decide))
          have b5 := kept_apart (ownsRow_below oZ hBa) q4 (row_apart oZ oH (by decide))
          have hB4 : Below w.heap.size w3 w4 := ((Below.refl w.heap.size w3).alloc hs3 (.cells #[.bool true] 4)).grown q4 (by simp <;> omega) (fun y e => by have := (oH.lt y e).1; omega)
          have hs4 : w3.heap.size ≤ w4.heap.size := hB4.size
          have ff := F4.f 5
          have cc := F4.c.2.2.2.2.2.1
          have G := F4.s5 (.slice (some ⟨g', 0, none⟩) (s.ha.length + 1) cap4)
          have G2 := f24.other (k' := w.heap.size + 1) (by omega) 5 (.slice (some ⟨g', 0, none⟩) (s.ha.length + 1) cap4)
          have q1 := ownsRow_setCell_below b1 (a := ⟨w.heap.size + 1, 5, none⟩) (by show w.heap.size + 1 < _; omega) (.slice (some ⟨g', 0, none⟩) (s.ha.length + 1) cap4)
          have q2 := ownsRow_setCell_below b2 (a := ⟨w.heap.size + 1, 5, none⟩) (by show w.heap.size + 1 < _; omega) (.slice (some ⟨g', 0, none⟩) (s.ha.length + 1) cap4)
          have q3 := ownsRow_setCell_below b3 (a := ⟨w.heap.size + 1, 5, none⟩) (by show w.heap.size + 1 < _; omega) (.slice (some ⟨g', 0, none⟩) (s.ha.length + 1) cap4)
          have q5 := ownsRow_setCell_below b5 (a := ⟨w.heap.size + 1, 5, none⟩) (by show w.heap.size + 1 < _; omega) (.slice (some ⟨g', 0, none⟩) (s.ha.length + 1) cap4)
          have q4' := ownsRow_setCell_below o4 (a := ⟨w.heap.size + 1, 5, none⟩) (by show w.heap.size + 1 < _; omega) (.slice (some ⟨g', 0, none⟩) (s.ha.length + 1) cap4)
          have hsA : w4.heap.size ≤ (w4.setCell ⟨w.heap.size + 1, 5, none⟩ (.slice (some ⟨g', 0, none⟩) (s.ha.length + 1) cap4)).heap.size := by simp
          have hBz := hB4.setCell (p := ⟨w.heap.size + 1, 5, none⟩) (by simp) (.slice (some ⟨g', 0, none⟩) (s.ha.length + 1) cap4)
          have ByA := hby.belowN hBz (fun p hp => Nat.lt_trans (hcu.apart p hp) hb)
          have CuA := hcu.belowN hBz hb
          have GrA := gBN hgr hBz
          clear hBa b1 b2 b3 b5 o1 o2 oR oZ oH F3 hf2 hby hcu hgr f24 o4 q4 hB4 hBz
          go_upto_region 23 with fail
          clear ff cc F4
          generalize w4.setCell ⟨w.heap.size + 1, 5, none⟩ (.slice (some ⟨g', 0, none⟩) (s.ha.length + 1) cap4) = WA at *
          have OA : SdO WA base WA.heap.size (.agg #[.int .i64 s.fo.num, .slice p1 s.fo.pol.length c1, .slice p2 s.fo.rv.length c2, .int .i64 s.co, .slice p3 s.ru.length c3, .slice (some ⟨g', 0, none⟩) (s.ha.length + 1) cap4, .slice p5 s.se.length c5]) ⟨s.fo, s.co, s.ru, s.ha ++ [true], s.se⟩ := ⟨mm, _, _, _, _, _, rfl, hm1, by omega, ⟨_, _, rfl, q1, q2, t1, t2⟩, q3, row_castN (by simpa [bls] using q4') (by simp), q5, fun y e => (q3.lt y e).2, fun y e => (q4'.lt y e).2, fun y e => (q5.lt y e).2⟩
          have hsh9 : Sd.short ⟨s.fo, s.co, s.ru, s.ha ++ [true], s.se⟩ := ⟨hshs.1, hshs.2.1, by simp <;> omega, hshs.2.2.2.1, hshs.2.2.2.2⟩
          obtain ⟨a0, a1, a2, a3, a4, a5, a6⟩ := G.c
          obtain ⟨r0, r1, r2, r3, r4, r5, r6⟩ := G2.c
          have f0 := G2.f 0
          have f1 := G2.f 1
          have f2 := G2.f 2
          have f3 := G2.f 3
          have f4 := G2.f 4
          have f5 := G2.f 5
          have f6 := G2.f 6
          have hsW := GrA.size
          have G3 := (((((((G2.s0 (.int .i64 s.fo.num)).s1 (.slice p1 s.fo.pol.length c1)).s2 (.slice p2 s.fo.rv.length c2)).s3 (.int .i64 s.co)).s4 (.slice p3 s.ru.length c3)).s5 (.slice (some ⟨g', 0, none⟩) (s.ha.length + 1) cap4)).s6 (.slice p5 s.se.length c5))
          have O9 := (sdo_set (sdo_set (sdo_set (sdo_set (sdo_set (sdo_set (sdo_set OA (p := ⟨w.heap.size, 0, none⟩) (by show w.heap.size < _; omega) (.int .i64 s.fo.num)) (p := ⟨w.heap.size, 1, none⟩) (by show w.heap.size < _; omega) (.slice p1 s.fo.pol.length c1)) (p := ⟨w.heap.size, 2, none⟩) (by show w.heap.size < _; omega) (.slice p2 s.fo.rv.length c2)) (p := ⟨w.heap.size, 3, none⟩) (by show w.heap.size < _; omega) (.int .i64 s.co)) (p := ⟨w.heap.size, 4, none⟩) (by show w.heap.size < _; omega) (.slice p3 s.ru.length c3)) (p := ⟨w.heap.size, 5, none⟩) (by show w.heap.size < _; omega) (.slice (some ⟨g', 0, none⟩) (s.ha.length + 1) cap4)) (p := ⟨w.heap.size, 6, none⟩) (by show w.heap.size < _; omega) (.slice p5 s.se.length c5))
          have hBs : Below w.heap.size WA (((((((WA.setCell ⟨w.heap.size, 0, none⟩ (.int .i64 s.fo.num)).setCell ⟨w.heap.size, 1, none⟩ (.slice p1 s.fo.pol.length c1)).setCell ⟨w.heap.size, 2, none⟩ (.slice p2 s.fo.rv.length c2)).setCell ⟨w.heap.size, 3, none⟩ (.int .i64 s.co)).setCell ⟨w.heap.size, 4, none⟩ (.slice p3 s.ru.length c3)).setCell ⟨w.heap.size, 5, none⟩ (.slice (some ⟨g', 0, none⟩) (s.ha.length + 1) cap4)).setCell ⟨w.heap.size, 6, none⟩ (.slice p5 s.se.length c5)) := below_seven (Below.refl _ WA) (k := w.heap.size) (Nat.le_refl _) (.int .i64 s.fo.num) (.slice p1 s.fo.pol.length c1) (.slice p2 s.fo.rv.length c2) (.int .i64 s.co) (.slice p3 s.ru.length c3) (.slice (some ⟨g', 0, none⟩) (s.ha.length + 1) cap4) (.slice p5 s.se.length c5)
          have By9 := ByA.belowN hBs (fun p hp => Nat.lt_trans (CuA.apart p hp) hb)
          have Cu9 := CuA.belowN hBs hb
          have Gr9 := gBN GrA hBs
          have hT9 : WA.heap.size ≤ (((((((WA.setCell ⟨w.heap.size, 0, none⟩ (.int .i64 s.fo.num)).setCell ⟨w.heap.size, 1, none⟩ (.slice p1 s.fo.pol.length c1)).setCell ⟨w.heap.size, 2, none⟩ (.slice p2 s.fo.rv.length c2)).setCell ⟨w.heap.size, 3, none⟩ (.int .i64 s.co)).setCell ⟨w.heap.size, 4, none⟩ (.slice p3 s.ru.length c3)).setCell ⟨w.heap.size, 5, none⟩ (.slice (some ⟨g', 0, none⟩) (s.ha.length + 1) cap4)).setCell ⟨w.heap.size, 6, none⟩ (.slice p5 s.se.length c5)).heap.size := by simp <;> omega
          go_wp2_with fail
          clear a0 a1 a2 a3 a4 a5 a6 r0 r1 r2 r3 r4 r5 r6 f0 f1 f2 f3 f4 f5 f6
          generalize ((((((WA.setCell ⟨w.heap.size, 0, none⟩ (.int .i64 s.fo.num)).setCell ⟨w.heap.size, 1, none⟩ (.slice p1 s.fo.pol.length c1)).setCell ⟨w.heap.size, 2, none⟩ (.slice p2 s.fo.rv.length c2)).setCell ⟨w.heap.size, 3, none⟩ (.int .i64 s.co)).setCell ⟨w.heap.size, 4, none⟩ (.slice p3 s.ru.length c3)).setCell ⟨w.heap.size, 5, none⟩ (.slice (some ⟨g', 0, none⟩) (s.ha.length + 1) cap4)).setCell ⟨w.heap.size, 6, none⟩ (.slice p5 s.se.length c5) = W9 at *
          obtain ⟨d0, d1, d2, d3, d4, d5, d6⟩ := G3.c
          exact bodyPost_ret (v := .agg #[.int .i64 s.fo.num, .slice p1 s.fo.pol.length c1, .slice p2 s.fo.rv.length c2, .int .i64 s.co, .slice p3 s.ru.length c3, .slice (some ⟨g', 0, none⟩) (s.ha.length + 1) cap4, .slice p5 s.se.length c5]) (by simp [results, Tryz.results11, go_sem, d0, d1, d2, d3, d4, d5, d6]) rfl ⟨_, ⟨s.fo, s.co, s.ru, s.ha ++ [true], s.se⟩, q + 1, rfl, hsh9, fun h => absurd h (by rw [hmore]; simp), by omega, ⟨_, _, by omega, hT9, O9⟩, By9, Cu9, Gr9⟩
      by_cases x2 : x = 2
      · subst x2
        go_wp2_with fail
        refine (pick_any b a n c (q + 1) 3 _ (by omega) (by omega) h3.by_ h3.cur (by omega)).mono ?_
        rintro e w5 ⟨y, hy, rfl, hC5, hg5⟩
        have h5 := h3.grown hb hg5 hC5
        have hM5 : Mid b (b + 1) w3 w5 := Mid.of_grown hg5 (fun k hk => by cases hk; omega)
        have F5 := hM5.seven F3 (.inr (by omega))
        have O5 := hM5.sdo O3 (.inl (by omega))
        have hs5 := h5.gr.size
        have ff := F5.f 0
        have cc := F5.c.1
        have G := F5.s0 (.int .i64 (y : Int))
        have G2 := h5.f2.other (k' := w.heap.size + 1) (by omega) 0 (.int .i64 (y : Int))
        have OA := sdo_num (sdo_set O5 (p := ⟨w.heap.size + 1, 0, none⟩) (by show w.heap.size + 1 < _; omega) (.int .i64 (y : Int))) (y : Int)
        have hBz : Below w.heap.size w5 (w5.setCell ⟨w.heap.size + 1, 0, none⟩ (.int .i64 (y : Int))) := (Below.refl _ w5).setCell (by simp) _
        have ByA := h5.by_.belowN hBz (fun p hp => Nat.lt_trans (h5.cur.apart p hp) hb)
        have CuA := h5.cur.belowN hBz hb
        have GrA := gBN h5.gr hBz
        have hlo := h5.lo
        have hshs := h5.sh
        have ht9 : top ≤ (w5.setCell ⟨w.heap.size + 1, 0, none⟩ (.int .i64 (y : Int))).heap.size := by have := hg5.size; simp; omega
        clear h3 F3 O3 O5 hM5 hg5 hC5 F5
        go_upto_region 23 with fail
        clear ff cc h5
        generalize w5.setCell ⟨w.heap.size + 1, 0, none⟩ (.int .i64 (y : Int)) = WA at *
        obtain ⟨a0, a1, a2, a3, a4, a5, a6⟩ := G.c
        obtain ⟨r0, r1, r2, r3, r4, r5, r6⟩ := G2.c
        have f0 := G2.f 0
        have f1 := G2.f 1
        have f2 := G2.f 2
        have f3 := G2.f 3
        have f4 := G2.f 4
        have f5 := G2.f 5
        have f6 := G2.f 6
        have hsW := GrA.size
        have G3 := (((((((G2.s0 (.int .i64 (y : Int))).s1 (.slice p1 s.fo.pol.length c1)).s2 (.slice p2 s.fo.rv.length c2)).s3 (.int .i64 s.co)).s4 (.slice p3 s.ru.length c3)).s5 (.slice p4 s.ha.length c4)).s6 (.slice p5 s.se.length c5))
        have O9 := (sdo_set (sdo_set (sdo_set (sdo_set (sdo_set (sdo_set (sdo_set OA (p := ⟨w.heap.size, 0, none⟩) (by show w.heap.size < _; omega) (.int .i64 (y : Int))) (p := ⟨w.heap.size, 1, none⟩) (by show w.heap.size < _; omega) (.slice p1 s.fo.pol.length c1)) (p := ⟨w.heap.size, 2, none⟩) (by show w.heap.size < _; omega) (.slice p2 s.fo.rv.length c2)) (p := ⟨w.heap.size, 3, none⟩) (by show w.heap.size < _; omega) (.int .i64 s.co)) (p := ⟨w.heap.size, 4, none⟩) (by show w.heap.size < _; omega) (.slice p3 s.ru.length c3)) (p := ⟨w.heap.size, 5, none⟩) (by show w.heap.size < _; omega) (.slice p4 s.ha.length c4)) (p := ⟨w.heap.size, 6, none⟩) (by show w.heap.size < _; omega) (.slice p5 s.se.length c5))
        have hBs : Below w.heap.size WA (((((((WA.setCell ⟨w.heap.size, 0, none⟩ (.int .i64 (y : Int))).setCell ⟨w.heap.size, 1, none⟩ (.slice p1 s.fo.pol.length c1)).setCell ⟨w.heap.size, 2, none⟩ (.slice p2 s.fo.rv.length c2)).setCell ⟨w.heap.size, 3, none⟩ (.int .i64 s.co)).setCell ⟨w.heap.size, 4, none⟩ (.slice p3 s.ru.length c3)).setCell ⟨w.heap.size, 5, none⟩ (.slice p4 s.ha.length c4)).setCell ⟨w.heap.size, 6, none⟩ (.slice p5 s.se.length c5)) := below_seven (Below.refl _ WA) (k := w.heap.size) (Nat.le_refl _) (.int .i64 (y : Int)) (.slice p1 s.fo.pol.length c1) (.slice p2 s.fo.rv.length c2) (.int .i64 s.co) (.slice p3 s.ru.length c3) (.slice p4 s.ha.length c4) (.slice p5 s.se.length c5)
        have By9 := ByA.belowN hBs (fun p hp => Nat.lt_trans (CuA.apart p hp) hb)
        have Cu9 := CuA.belowN hBs hb
        have Gr9 := gBN GrA hBs
        have hT9 : top ≤ (((((((WA.setCell ⟨w.heap.size, 0, none⟩ (.int .i64 (y : Int))).setCell ⟨w.heap.size, 1, none⟩ (.slice p1 s.fo.pol.length c1)).setCell ⟨w.heap.size, 2, none⟩ (.slice p2 s.fo.rv.length c2)).setCell ⟨w.heap.size, 3, none⟩ (.int .i64 s.co)).setCell ⟨w.heap.size, 4, none⟩ (.slice p3 s.ru.length c3)).setCell ⟨w.heap.size, 5, none⟩ (.slice p4 s.ha.length c4)).setCell ⟨w.heap.size, 6, none⟩ (.slice p5 s.se.length c5)).heap.size := by simp <;> omega
        go_wp2_with fail
        clear a0 a1 a2 a3 a4 a5 a6 r0 r1 r2 r3 r4 r5 r6 f0 f1 f2 f3 f4 f5 f6
        generalize ((((((WA.setCell ⟨w.heap.size, 0, none⟩ (.int .i64 (y : Int))).setCell ⟨w.heap.size, 1, none⟩ (.slice p1 s.fo.pol.length c1)).setCell ⟨w.heap.size, 2, none⟩ (.slice p2 s.fo.rv.length c2)).setCell ⟨w.heap.size, 3, none⟩ (.int .i64 s.co)).setCell ⟨w.heap.size, 4, none⟩ (.slice p3 s.ru.length c3)).setCell ⟨w.heap.size, 5, none⟩ (.slice p4 s.ha.length c4)).setCell ⟨w.heap.size, 6, none⟩ (.slice p5 s.se.length c5) = W9 at *
        obtain ⟨d0, d1, d2, d3, d4, d5, d6⟩ := G3.c
        exact bodyPost_ret (v := .agg #[.int .i64 (y : Int), .slice p1 s.fo.pol.length c1, .slice p2 s.fo.rv.length c2, .int .i64 s.co, .slice p3 s.ru.length c3, .slice p4 s.ha.length c4, .slice p5 s.se.length c5]) (by simp [results, Tryz.results11, go_sem, d0, d1, d2, d3, d4, d5, d6]) rfl ⟨_, ⟨⟨(y : Int), s.fo.pol, s.fo.rv⟩, s.co, s.ru, s.ha, s.se⟩, q + 1 + 1, rfl, hshs, fun _ => hlo, by omega, ⟨_, _, by omega, hT9, O9⟩, By9, Cu9, Gr9⟩
      have d0 : ((x : Int) == 0) = false := by simpa using x0
      have d1 : ((x : Int) == 1) = false := by simp only [beq_eq_false_iff_ne, ne_eq]; omega
      have d2 : ((x : Int) == 2) = false := by simp only [beq_eq_false_iff_ne, ne_eq]; omega
      have hs3 := h3.gr.size
      have hf2 := h3.f2
      have hby := h3.by_
      have hcu := h3.cur
      have hgr := h3.gr
      have hlo := h3.lo
      have hshs := h3.sh
      go_upto_region 23 with fail
      clear d0 d1 d2
      obtain ⟨a0, a1, a2, a3, a4, a5, a6⟩ := F3.c
      obtain ⟨r0, r1, r2, r3, r4, r5, r6⟩ := hf2.c
      have f0 := hf2.f 0
      have f1 := hf2.f 1
      have f2 := hf2.f 2
      have f3 := hf2.f 3
      have f4 := hf2.f 4
      have f5 := hf2.f 5
      have f6 := hf2.f 6
      have hsW := hgr.size
      have G3 := (((((((hf2.s0 (.int .i64 s.fo.num)).s1 (.slice p1 s.fo.pol.length c1)).s2 (.slice p2 s.fo.rv.length c2)).s3 (.int .i64 s.co)).s4 (.slice p3 s.ru.length c3)).s5 (.slice p4 s.ha.length c4)).s6 (.slice p5 s.se.length c5))
      have O9 := (sdo_set (sdo_set (sdo_set (sdo_set (sdo_set (sdo_set (sdo_set O3 (p := ⟨w.heap.size, 0, none⟩) (by show w.heap.size < _; omega) (.int .i64 s.fo.num)) (p := ⟨w.heap.size, 1, none⟩) (by show w.heap.size < _; omega) (.slice p1 s.fo.pol.length c1)) (p := ⟨w.heap.size, 2, none⟩) (by show w.heap.size < _; omega) (.slice p2 s.fo.rv.length c2)) (p := ⟨w.heap.size, 3, none⟩) (by show w.heap.size < _; omega) (.int .i64 s.co)) (p := ⟨w.heap.size, 4, none⟩) (by show w.heap.size < _; omega) (.slice p3 s.ru.length c3)) (p := ⟨w.heap.size, 5, none⟩) (by show w.heap.size < _; omega) (.slice p4 s.ha.length c4)) (p := ⟨w.heap.size, 6, none⟩) (by show w.heap.size < _; omega) (.slice p5 s.se.length c5))
      have hBs : Below w.heap.size w3 (((((((w3.setCell ⟨w.heap.size, 0, none⟩ (.int .i64 s.fo.num)).setCell ⟨w.heap.size, 1, none⟩ (.slice p1 s.fo.pol.length c1)).setCell ⟨w.heap.size, 2, none⟩ (.slice p2 s.fo.rv.length c2)).setCell ⟨w.heap.size, 3, none⟩ (.int .i64 s.co)).setCell ⟨w.heap.size, 4, none⟩ (.slice p3 s.ru.length c3)).setCell ⟨w.heap.size, 5, none⟩ (.slice p4 s.ha.length c4)).setCell ⟨w.heap.size, 6, none⟩ (.slice p5 s.se.length c5)) := below_seven (Below.refl _ w3) (k := w.heap.size) (Nat.le_refl _) (.int .i64 s.fo.num) (.slice p1 s.fo.pol.length c1) (.slice p2 s.fo.rv.length c2) (.int .i64 s.co) (.slice p3 s.ru.length c3) (.slice p4 s.ha.length c4) (.slice p5 s.se.length c5)
      have By9 := hby.belowN hBs (fun p hp => Nat.lt_trans (hcu.apart p hp) hb)
      have Cu9 := hcu.belowN hBs hb
      have Gr9 := gBN hgr hBs
      have hT9 : top ≤ (((((((w3.setCell ⟨w.heap.size, 0, none⟩ (.int .i64 s.fo.num)).setCell ⟨w.heap.size, 1, none⟩ (.slice p1 s.fo.pol.length c1)).setCell ⟨w.heap.size, 2, none⟩ (.slice p2 s.fo.rv.length c2)).setCell ⟨w.heap.size, 3, none⟩ (.int .i64 s.co)).setCell ⟨w.heap.size, 4, none⟩ (.slice p3 s.ru.length c3)).setCell ⟨w.heap.size, 5, none⟩ (.slice p4 s.ha.length c4)).setCell ⟨w.heap.size, 6, none⟩ (.slice p5 s.se.length c5)).heap.size := by simp <;> omega
      go_wp2_with fail
      clear a0 a1 a2 a3 a4 a5 a6 r0 r1 r2 r3 r4 r5 r6 f0 f1 f2 f3 f4 f5 f6
      generalize ((((((w3.setCell ⟨w.heap.size, 0, none⟩ (.int .i64 s.fo.num)).setCell ⟨w.heap.size, 1, none⟩ (.slice p1 s.fo.pol.length c1)).setCell ⟨w.heap.size, 2, none⟩ (.slice p2 s.fo.rv.length c2)).setCell ⟨w.heap.size, 3, none⟩ (.int .i64 s.co)).setCell ⟨w.heap.size, 4, none⟩ (.slice p3 s.ru.length c3)).setCell ⟨w.heap.size, 5, none⟩ (.slice p4 s.ha.length c4)).setCell ⟨w.heap.size, 6, none⟩ (.slice p5 s.se.length c5) = W9 at *
      obtain ⟨d0, d1, d2, d3, d4, d5, d6⟩ := G3.c
      exact bodyPost_ret (v := .agg #[.int .i64 s.fo.num, .slice p1 s.fo.pol.length c1, .slice p2 s.fo.rv.length c2, .int .i64 s.co, .slice p3 s.ru.length c3, .slice p4 s.ha.length c4, .slice p5 s.se.length c5]) (by simp [results, Tryz.results11, go_sem, d0, d1, d2, d3, d4, d5, d6]) rfl ⟨_, s, q + 1, rfl, hshs, fun _ => hlo, by omega, ⟨_, _, by omega, hT9, O9⟩, By9, Cu9, Gr9⟩

end Go.Proofs.YtjnajdilllkpcaaGreat
