/-
  Chapter 5: one more version behind a list of them.
-/
import Derived.Laws.AppendOwn
import Derived.Deep.RegionLawGrows
import Derived.Test.YtmmjiocmldnamaaGreatLstC
import Derived.Test.YtmmjiocmldnamaaGreatEachO
namespace Go.Proofs.YtmmjiocmldnamaaGreat
open Go.RowKit Go.Shelf

theorem SsK.ext {w : World} {base top : Nat} {v : Value} {n : Nat} {ss : List Sn} {k : Nat} {xs : List Value} {vp vr : Nat → Value} (h : SsK w base top v n ss k xs vp vr) (hk : k ≤ ss.length) (t : List Sn) : SsK w base top v n (ss ++ t) k xs vp vr := by
  have e : ∀ i (hi : i < (ss ++ t).length) (hik : i < k), (ss ++ t)[i] = ss[i]'(by omega) := fun i hi hik => List.getElem_append_left (by omega)
  exact ⟨h.row, h.rlt, fun i hi hik => by rw [e i hi hik]; exact h.cs i (by omega) hik, fun i hi hik => by rw [e i hi hik]; exact h.pol i (by omega) hik, fun i hi hik => by rw [e i hi hik]; exact h.num i (by omega) hik, fun i hi hik => h.plt i (by omega) hik, fun i hi hik => h.nlt i (by omega) hik, fun i j hi hj hik hjk => h.pap i j (by omega) (by omega) hik hjk, fun i j hi hj hik hjk => h.nap i j (by omega) (by omega) hik hjk⟩
/-- One more version, whose lists were there before the row, is put behind it. -/
theorem SsK.app2 {w w3 : World} {base b2 : Nat} {v v' : Value} {ss : List Sn} {k : Nat} {xs : List Value} {vp vr : Nat → Value} {p r : Value} (h : SsK w b2 w.heap.size v k ss k xs vp vr) (hk : k < ss.length) (hb : base ≤ b2)
    (hp : w.ownsRow base 71 4 p ss[k].pol.length (ss[k].pol.flatMap Ru.cells)) (hr : w.ownsRow base 3 1 r ss[k].rv.length (nums ss[k].rv)) (hpl : ∀ j, p.ownBlock = some j → j < b2) (hrl : ∀ j, r.ownBlock = some j → j < b2)
    (hown : w3.ownsRow base 48 3 v' (k + 1) (xs ++ [.int .i64 ss[k].num, p, r])) (hg : w.grownBy w3 v.ownBlock) :
    SsK w3 base w3.heap.size v' (k + 1) ss (k + 1) (xs ++ [.int .i64 ss[k].num, p, r]) (fun i => if i = k then p else vp i) (fun i => if i = k then r else vr i) := by
  have hlen : xs.length = k * 3 := h.row.1
  have keep : ∀ {b : Nat} {e : TypeId} {s m : Nat} {u : Value} {x : List Value}, w.ownsRow b e s u m x → e ≠ 48 → w3.ownsRow b e s u m x := fun hu hne => kept_apart hu hg (fun j h1 h2 => row_apart hu h.row hne j h1 h2)
  have pk := keep hp tyR
  have rk := keep hr tyN
  refine ⟨hown, fun j hj => (hown.lt j hj).2, ?_, ?_, ?_, ?_, ?_, ?_, ?_⟩
  · intro i hi hik
    by_cases e : i = k
    · subst e
      rw [if_pos rfl, if_pos rfl]
      refine ⟨?_, ?_, ?_⟩
      · rw [List.getElem?_append_right (by omega), hlen, Nat.sub_self]; rfl
      · rw [List.getElem?_append_right (by omega), hlen, Nat.add_sub_cancel_left]; rfl
      · rw [List.getElem?_append_right (by omega), hlen, Nat.add_sub_cancel_left]; rfl
    · rw [if_neg e, if_neg e]
      obtain ⟨c0, c1, c2⟩ := h.cs i hi (by omega)
      exact ⟨by rw [List.getElem?_append_left (by omega)]; exact c0, by rw [List.getElem?_append_left (by omega)]; exact c1, by rw [List.getElem?_append_left (by omega)]; exact c2⟩
  · intro i hi hik
    by_cases e : i = k
    · subst e
      rw [if_pos rfl]
      exact pk
    · rw [if_neg e]
      exact Go.Joins.ownsRow_le (keep (h.pol i hi (by omega)) tyR) hb
  · intro i hi hik
    by_cases e : i = k
    · subst e
      rw [if_pos rfl]
      exact rk
    · rw [if_neg e]
      exact Go.Joins.ownsRow_le (keep (h.num i hi (by omega)) tyN) hb
  · intro i hi hik j hj
    by_cases e : i = k
    · rw [if_pos e] at hj
      exact (pk.lt j hj).2
    · rw [if_neg e] at hj
      exact ((keep (h.pol i hi (by omega)) tyR).lt j hj).2
  · intro i hi hik j hj
    by_cases e : i = k
    · rw [if_pos e] at hj
      exact (rk.lt j hj).2
    · rw [if_neg e] at hj
      exact ((keep (h.num i hi (by omega)) tyN).lt j hj).2
  · intro i j hi hj hik hjk hij b h1 h2'
    by_cases e : i = k
    · rw [if_pos e] at h1
      rw [if_neg (by omega)] at h2'
      have := hpl b h1
      have := ((h.pol j hj (by omega)).lt b h2').1
      omega
    · rw [if_neg e] at h1
      by_cases e2 : j = k
      · rw [if_pos e2] at h2'
        have := hpl b h2'
        have := ((h.pol i hi (by omega)).lt b h1).1
        omega
      · rw [if_neg e2] at h2'
        exact h.pap i j hi hj (by omega) (by omega) hij b h1 h2'
  · intro i j hi hj hik hjk hij b h1 h2'
    by_cases e : i = k
    · rw [if_pos e] at h1
      rw [if_neg (by omega)] at h2'
      have := hrl b h1
      have := ((h.num j hj (by omega)).lt b h2').1
      omega
    · rw [if_neg e] at h1
      by_cases e2 : j = k
      · rw [if_pos e2] at h2'
        have := hrl b h2'
        have := ((h.num i hi (by omega)).lt b h1).1
        omega
      · rw [if_neg e2] at h2'
        exact h.nap i j hi hj (by omega) (by omega) hij b h1 h2'

theorem SsK.put {w w3 : World} {base b2 : Nat} {v v' : Value} {ss : List Sn} {xs : List Value} {vp vr : Nat → Value} {p r : Value} {s : Sn} (h : SsK w b2 w.heap.size v ss.length ss ss.length xs vp vr) (hb : base ≤ b2)
    (hp : w.ownsRow base 71 4 p s.pol.length (s.pol.flatMap Ru.cells)) (hr : w.ownsRow base 3 1 r s.rv.length (nums s.rv)) (hpl : ∀ j, p.ownBlock = some j → j < b2) (hrl : ∀ j, r.ownBlock = some j → j < b2)
    (hown : w3.ownsRow base 48 3 v' (ss.length + 1) (xs ++ [.int .i64 s.num, p, r])) (hg : w.grownBy w3 v.ownBlock) :
    ∃ xs' vp' vr', SsK w3 base w3.heap.size v' (ss.length + 1) (ss ++ [s]) (ss.length + 1) xs' vp' vr' := by
  have e : (ss ++ [s])[ss.length]'(by simp) = s := by simp
  exact ⟨_, _, _, (h.ext (Nat.le_refl _) [s]).app2 (by simp) hb (by rw [e]; exact hp) (by rw [e]; exact hr) hpl hrl (by rw [e]; exact hown) hg⟩

/-- A list of one's own, or such a one without its first. -/
def SsT (w : World) (base top : Nat) (v : Value) (ss : List Sn) : Prop :=
  SsO w base top v ss ∨ ∃ g n cap ss', SsO w base top (.slice (some ⟨g, 0, none⟩) n cap) ss' ∧ 1 ≤ ss'.length ∧ ss'.length ≤ cap ∧ v = .slice (some ⟨g, 3, none⟩) (ss'.length - 1) (cap - 1) ∧ ss = ss'.drop 1
theorem SsT.below {w w' : World} {base top : Nat} {v : Value} {ss : List Sn} (h : SsT w base top v ss) (hB : Below w.heap.size w w') : SsT w' base top v ss := by
  rcases h with h | ⟨g, n, cap, ss', h, h1, h2, h3, h4⟩
  · exact .inl (h.below hB)
  · exact .inr ⟨g, n, cap, ss', h.below hB, h1, h2, h3, h4⟩
theorem Mid.sst {lo hi : Nat} {w w1 : World} (hM : Mid lo hi w w1) {base top : Nat} {v : Value} {ss : List Sn} (h : SsT w base top v ss) (ho : hi ≤ base ∨ top ≤ lo) : SsT w1 base top v ss := by
  rcases h with h | ⟨g, n, cap, ss', h, h1, h2, h3, h4⟩
  · exact .inl (hM.sso h ho)
  · exact .inr ⟨g, n, cap, ss', hM.sso h ho, h1, h2, h3, h4⟩
theorem SsT.a {w : World} {base top : Nat} {v : Value} {ss : List Sn} (h : SsT w base top v ss) : SsA w v ss := by
  rcases h with h | ⟨g, n, cap, ss', h, h1, h2, rfl, rfl⟩
  · exact h.a
  · have := (h.r.drop (k := 1) (c' := cap - 1) h1 (by omega)).a
    simpa using this
theorem SsT.mono {w : World} {base base' top top' : Nat} {v : Value} {ss : List Sn} (h : SsT w base top v ss) (hb : base' ≤ base) (ht : top ≤ top') : SsT w base' top' v ss := by
  rcases h with h | ⟨g, n, cap, ss', h, h1, h2, h3, h4⟩
  · exact .inl (h.mono hb ht)
  · exact .inr ⟨g, n, cap, ss', h.mono hb ht, h1, h2, h3, h4⟩

theorem SsK.top {w : World} {base top top' : Nat} {v : Value} {n : Nat} {ss : List Sn} {k : Nat} {xs : List Value} {vp vr : Nat → Value} (h : SsK w base top v n ss k xs vp vr) (ht : top ≤ top') : SsK w base top' v n ss k xs vp vr :=
  ⟨h.row, fun j hj => Nat.lt_of_lt_of_le (h.rlt j hj) ht, h.cs, h.pol, h.num, fun i hi hik j hj => Nat.lt_of_lt_of_le (h.plt i hi hik j hj) ht, fun i hi hik j hj => Nat.lt_of_lt_of_le (h.nlt i hi hik j hj) ht, h.pap, h.nap⟩
theorem step_app_own {P : Program} {w : World} {ops : Array Oper} {o : Oper} {a : Act} {K : Act → World → Prop} {Q : Exit → Act → World → Prop} {E : Prop} (hgd : o.guard = none) (s x : Operand) (t : TypeId)
    (ho : o.op = .call { callee := .builtin .append, args := #[s, x], argTypes := #[t, t] })
    (base : Nat) (e : TypeId) (i : TypeInfo) (z : Value) (size bytes : Nat) (ht : P.underlying t = some (.slice e)) (hi : P.info? e = some i) (hz : i.zero = some z)
    (hsize : i.size = size) (hby : i.bytes = bytes) (hzs : z.cells.size = size) (hsz : 0 < size)
    (v : Value) (n : Nat) (xs : List Value) (hs : a.eval s = v) (hown : w.ownsRow base e size v n xs)
    (ad : Addr) (m c : Nat) (news : List Value) (hx : a.eval x = .slice (some ad) m c) (hl : news.length = m * size) (hnews : ∀ j u, news[j]? = some u → w.cell? (ad.add j) = some u) (h1 : ∀ u ∈ news, u.oneCell' = true)
    (h63 : n + m ≤ maxLen) (hbytes : (n + m) * bytes ≤ 140737488355328) (hbase : base ≤ w.heap.size)
    (h : ∀ v' w', w'.ownsRow base e size v' (n + m) (xs ++ news) → w.grownBy w' v.ownBlock → K (a.put o.dst v') w') :
    if Region.wanted o (yielded ops a.tmps) = true then Oper.wp P o a w K Q else E := by
  have hw : Region.wanted o (yielded ops a.tmps) = true := by simp [Region.wanted, hgd]
  rw [if_pos hw]
  exact wp_append_own w s x t ho base e i z size bytes ht hi hz hsize hby hzs hsz v n xs hs hown ad m c news hx hl hnews h1 h63 hbytes hbase (fun v' w' h1 h2 _ => h v' w' h1 h2)
theorem nwS_short {ss : List Sn} {rs : List Ru} {zs : List Int} (hp : polB rs = true) (hz : fewB zs = true) (hf : ∀ r ∈ rs, r.size ≤ 1048576) : (nwS ss rs zs).short := by
  have h30 := (pol_all hp).2
  have hl : ∀ k, k ≤ rs.length → (plTo rs k).length ≤ k := fun k => by
    induction k with
    | zero => intro _; simp [plTo]
    | succ k ih =>
      intro hk
      rw [plTo_succ (by omega)]
      have := insU_length (rs[k]'(by omega)) (plTo rs k)
      have := ih (by omega)
      omega
  have h1 := hl _ (Nat.le_refl _)
  have h2 := srN_len zs
  have h3 := fewB_len hz
  refine ⟨?_, ?_, ?_⟩
  · show (plX rs).length ≤ _
    rw [plX_yes hp]
    omega
  · show (srN zs).length ≤ _
    omega
  · intro r hr
    refine hf r ?_
    have hr' : r ∈ plX rs := hr
    rw [plX_yes hp, plTo_mem _ (Nat.le_refl _), List.take_length] at hr'
    exact hr'
theorem nxN_at {ss : List Sn} {n : Nat} (h : ss.length = n + 1) : nxN ss = (ss[n]'(by omega)).num + 1 := by
  unfold nxN
  rw [List.getLast?_eq_getElem?, show ss.length - 1 = n by omega, List.getElem?_eq_getElem (by omega)]
theorem lsB_num {ss : List Sn} (h : lsB ss = true) : ∀ s ∈ ss, 1 ≤ s.num ∧ s.num ≤ 100000 := fun s hs => by
  have := lsB_mem h s hs
  unfold snB at this
  rw [Bool.and_eq_true] at this
  exact of_decide_eq_true this.1
theorem puB_no1 {ss : List Sn} {rs : List Ru} {zs : List Int} (h : lsB ss = false) : puB ss rs zs = false := by unfold puB; rw [h]; rfl
theorem puB_no2 {ss : List Sn} {rs : List Ru} {zs : List Int} (h : polB rs = false) : puB ss rs zs = false := by unfold puB; rw [h]; simp
theorem puB_no3 {ss : List Sn} {rs : List Ru} {zs : List Int} (h : fewB zs = false) : puB ss rs zs = false := by unfold puB; rw [h]; simp
theorem puB_no4 {ss : List Sn} {rs : List Ru} {zs : List Int} (h : snB (nwS ss rs zs) = false) : puB ss rs zs = false := by unfold puB; rw [h]; simp
theorem puB_yes {ss : List Sn} {rs : List Ru} {zs : List Int} (h1 : lsB ss = true) (h2 : polB rs = true) (h3 : fewB zs = true) (h4 : snB (nwS ss rs zs) = true) : puB ss rs zs = true := by unfold puB; rw [h1, h2, h3, h4]; rfl
theorem puX_no {ss : List Sn} {rs : List Ru} {zs : List Int} (h : puB ss rs zs = false) : puX ss rs zs = [] := if_neg (by rw [h]; exact Bool.false_ne_true)
theorem puX_few {ss : List Sn} {rs : List Ru} {zs : List Int} (h : puB ss rs zs = true) (hl : ss.length ≤ 19) : puX ss rs zs = ss ++ [nwS ss rs zs] := by
  unfold puX
  rw [if_pos h, show ss.length + 1 - 20 = 0 by omega, List.drop_zero]
theorem puX_many {ss : List Sn} {rs : List Ru} {zs : List Int} (h : puB ss rs zs = true) (hl : ss.length = 20) : puX ss rs zs = (ss ++ [nwS ss rs zs]).drop 1 := by
  unfold puX
  rw [if_pos h, hl]

theorem SsR.cells {w : World} {v : Value} {ss : List Sn} (h : SsR w v ss) : ∃ xs : List Value, xs.length = ss.length * 3 ∧ (∀ i (hi : i < ss.length), ∃ vp vr, xs[i * 3]? = some (.int .i64 ss[i].num) ∧ xs[i * 3 + 1]? = some vp ∧ xs[i * 3 + 2]? = some vr ∧ RuR w vp ss[i].pol ∧ NuR w vr ss[i].rv) ∧ ∀ a n c, v = .slice a n c → ∀ b, a = some b → ∀ j u, xs[j]? = some u → w.cell? (b.add j) = some u := by
  rcases h with ⟨rfl, rfl⟩ | ⟨b, off, cap, rfl, hb, hl, hc⟩
  · exact ⟨[], rfl, fun i hi => by simp at hi, fun a n c e b hb => by cases e; cases hb⟩
  · have hg : ∀ j, j < ss.length * 3 → ((List.range (ss.length * 3)).map (fun j => (w.cell? ⟨b, off + j, none⟩).getD .nilIface))[j]? = some ((w.cell? ⟨b, off + j, none⟩).getD .nilIface) := fun j hj => by simp [hj]
    refine ⟨(List.range (ss.length * 3)).map (fun j => (w.cell? ⟨b, off + j, none⟩).getD .nilIface), by simp, fun i hi => ?_, fun a n c e b' hb' j u hu => ?_⟩
    · obtain ⟨vp, vr, c0, c1, c2, h1, h2⟩ := hc i hi
      refine ⟨vp, vr, ?_, ?_, ?_, h1, h2⟩
      · rw [hg _ (by omega), c0]; rfl
      · rw [hg _ (by omega), ← Nat.add_assoc, c1]; rfl
      · rw [hg _ (by omega), ← Nat.add_assoc, c2]; rfl
    · cases e
      cases hb'
      have hj : j < ss.length * 3 := by
        have := (List.getElem?_eq_some_iff.1 hu).1
        simpa using this
      rw [hg j hj] at hu
      rw [Addr.add_lit]
      obtain ⟨vp, vr, c0, c1, c2, _, _⟩ := hc (j / 3) (by omega)
      have hs : ∃ x, w.cell? ⟨b, off + j, none⟩ = some x := by
        obtain h3 | h3 | h3 : j = j / 3 * 3 ∨ j = j / 3 * 3 + 1 ∨ j = j / 3 * 3 + 2 := by omega
        · rw [h3]; exact ⟨_, c0⟩
        · rw [h3, ← Nat.add_assoc]; exact ⟨_, c1⟩
        · rw [h3, ← Nat.add_assoc]; exact ⟨_, c2⟩
      obtain ⟨x, hx⟩ := hs
      rw [hx] at hu ⊢
      simpa using hu
theorem SsR.put {w w' : World} {base : Nat} {v' p r : Value} {ss : List Sn} {s : Sn} {xs : List Value} (hl : xs.length = ss.length * 3) (hc : ∀ i (hi : i < ss.length), ∃ vp vr, xs[i * 3]? = some (.int .i64 ss[i].num) ∧ xs[i * 3 + 1]? = some vp ∧ xs[i * 3 + 2]? = some vr ∧ RuR w vp ss[i].pol ∧ NuR w vr ss[i].rv)
    (hp : RuR w p s.pol) (hr : NuR w r s.rv) (hown : w'.ownsRow base 48 3 v' (ss.length + 1) (xs ++ [.int .i64 s.num, p, r])) (hB : Below w.heap.size w w') : SsR w' v' (ss ++ [s]) := by
  rcases row_form hown with ⟨_, h0⟩ | ⟨g, cap, rfl, hg, hcap⟩
  · omega
  · refine .inr ⟨g, 0, cap, by simp, (hown.lt g rfl).2, by simpa using hcap, fun i hi => ?_⟩
    have hi' : i < ss.length + 1 := by simpa using hi
    have c0 := hown.cellAt (i * 3) (by omega)
    have c1 := hown.cellAt (i * 3 + 1) (by omega)
    have c2 := hown.cellAt (i * 3 + 2) (by omega)
    rw [Nat.zero_add]
    by_cases e : i < ss.length
    · obtain ⟨vp, vr, x0, x1, x2, h1, h2⟩ := hc i e
      rw [List.getElem?_append_left (by omega)] at c0 c1 c2
      rw [List.getElem_append_left e]
      exact ⟨vp, vr, c0.trans x0, c1.trans x1, c2.trans x2, h1.below hB, h2.below hB⟩
    · obtain rfl : i = ss.length := by omega
      rw [List.getElem?_append_right (by omega), hl] at c0 c1 c2
      rw [List.getElem_append_right (Nat.le_refl _)]
      simp only [Nat.sub_self, Nat.add_sub_cancel_left] at c0 c1 c2
      simp only [Nat.sub_self, List.getElem_cons_zero]
      exact ⟨p, r, c0, c1, c2, hp.below hB, hr.below hB⟩

theorem nextNumber_any (v : Value) (ss : List Sn) (w : World) (hm : ss.length ≤ 1048576) (hg : lsB ss = true) (hr : SsR w v ss) :
    Calls Tryz.prog 45 #[v] w fun e w' => e = .returned (.int .i64 (nxN ss)) ∧ w' = w := by
  obtain ⟨a, cap, rfl⟩ := hr.len
  rcases Nat.eq_zero_or_pos ss.length with h0 | hpos
  · have HNX := hid (show (1 : Int) = nxN ss by rw [List.eq_nil_of_length_eq_zero h0]; rfl)
    clear hr
    go_enter Tryz.func45, Tryz.ntmps45
    go_wp2
    go_ret
    exact ⟨by rw [← HNX.out]; rfl, rfl⟩
  · obtain ⟨m, hmm⟩ : ∃ m, ss.length = m + 1 := ⟨ss.length - 1, by omega⟩
    have hml : m < ss.length := by omega
    have HNX := hid (show nxN ss = (ss[m]'hml).num + 1 from nxN_at hmm)
    have hne : ¬ ss = [] := fun e => by rw [e] at hml; simp at hml
    obtain ⟨b, off, xp, cp', xr, cr, rfl, hb, hcap, q0, q1, q2, _, _⟩ := hr.at (i := m) hml
    have hnb := lsB_num hg (ss[m]'hml) (List.getElem_mem _)
    have hw1 : IntKind.i64.wrap ((ss.length : Int) - 1) = (m : Int) := by rw [IntKind.wrap_i64]; omega
    have hl1 : (m : Int) < (ss.length : Int) := by omega
    have h00 : ((ss.length : Int) == 0) = false := by simp; exact hne
    clear q1 q2 hmm hpos hr
    generalize (ss[m]'hml).num = nm at *
    have hw2 : IntKind.i64.wrap (nm + 1) = nm + 1 := by rw [IntKind.wrap_i64]; omega
    go_enter Tryz.func45, Tryz.ntmps45
    go_wp2
    go_ret
    exact ⟨by rw [HNX.out]; rfl, rfl⟩

theorem cutFromL_any (v : Value) (ss : List Sn) (k : Nat) (w : World) (hm : ss.length ≤ 1048576) (hk : k < ss.length ∨ (k = 0 ∧ ss = [])) (hr : SsR w v ss) :
    Calls Tryz.prog 49 #[v, .int .i64 k] w fun e w' => ∃ a, e = .returned (.slice a (ss.length - k) (ss.length - k)) ∧ w' = w ∧ SsR w (.slice a (ss.length - k) (ss.length - k)) (ss.drop k) := by
  rcases hk with hk | ⟨rfl, rfl⟩
  · obtain ⟨a, cap, rfl⟩ := hr.len
    obtain ⟨b, off, _, _, _, _, rfl, hb, hcap, _⟩ := hr.at hk
    refine (cutFrom_any b off ss.length cap k w (by omega) hk hcap).mono ?_
    rintro e w' ⟨rfl, rfl⟩
    exact ⟨_, rfl, rfl, hr.drop (by omega) (Nat.le_refl _)⟩
  · rcases hr with ⟨rfl, _⟩ | ⟨b, off, cap, rfl, hb, hl, hc⟩
    · go_enter Tryz.func49, Tryz.ntmps49
      go_wp2
      go_ret
      exact ⟨_, rfl, rfl, .inl ⟨rfl, rfl⟩⟩
    · go_enter Tryz.func49, Tryz.ntmps49
      go_wp2
      go_ret
      exact ⟨_, rfl, rfl, .inr ⟨b, off, 0, rfl, hb, Nat.le_refl _, fun i hi => by simp at hi⟩⟩

end Go.Proofs.YtmmjiocmldnamaaGreat
