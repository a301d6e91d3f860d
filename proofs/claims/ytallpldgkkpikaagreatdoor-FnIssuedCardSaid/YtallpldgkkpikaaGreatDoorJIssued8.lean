/-
  The cursor's issuers: what is drawn is an issuer of one's own, and small.
-/
import Derived.Deep.DeepCutAuto
import Derived.Maps.AppendAt
import Derived.Test.YtallpldgkkpikaaGreatDoorJIssued3
import Derived.Test.YtallpldgkkpikaaGreatDoorJIssued6
import Derived.Test.YtallpldgkkpikaaGreatDoorJIssued7
import Derived.Lib.AppendZerosOnto
import Derived.Shelf.RegionOpen
import Derived.Deep.CutBlock
namespace Go.Proofs.YtallpldgkkpikaaGreatDoor
open Go.RowKit Go.Shelf

/-- An issuer of at most i works, revoked ones and signed texts, with short names. -/
def Is.small (i : Nat) (s : Is) : Prop := s.ws.length ≤ i ∧ s.rv.length ≤ i ∧ s.sg.length ≤ i ∧ ∀ k ∈ s.ws, k.name.size ≤ 100
theorem Is.small.up {i j : Nat} {s : Is} (h : s.small i) (hij : i ≤ j) : s.small j := ⟨by have := h.1; omega, by have := h.2.1; omega, by have := h.2.2.1; omega, h.2.2.2⟩
theorem Is.small.short {i : Nat} {s : Is} (h : s.small i) (hi : i ≤ 1000) : s.short := ⟨by have := h.1; omega, by have := h.2.1; omega, by have := h.2.2.1; omega⟩
theorem Is.small.named {i : Nat} {s : Is} (h : s.small i) : s.named := fun k hk => by have := h.2.2.2 k hk; omega
theorem set_small {ws : List Wk} {a : Nat} {x : Wk} (h : ∀ k ∈ ws, k.name.size ≤ 100) (hx : x.name.size ≤ 100) : ∀ k ∈ ws.set a x, k.name.size ≤ 100 := fun k hk => by
  rcases List.mem_or_eq_of_mem_set hk with h1 | rfl
  · exact h k h1
  · exact hx
theorem seSet_small {ws : List Wk} {a : Nat} {z : Int} (h : ∀ k ∈ ws, k.name.size ≤ 100) : (seSet ws a z).length = ws.length ∧ ∀ k ∈ seSet ws a z, k.name.size ≤ 100 := by
  unfold seSet
  cases hx : ws[a]? with
  | none => exact ⟨rfl, h⟩
  | some x => exact ⟨List.length_set, set_small h (h x (List.mem_of_getElem? hx))⟩
theorem liSet_small {ws : List Wk} {a : Nat} {z : Bool} (h : ∀ k ∈ ws, k.name.size ≤ 100) : (liSet ws a z).length = ws.length ∧ ∀ k ∈ liSet ws a z, k.name.size ≤ 100 := by
  unfold liSet
  cases hx : ws[a]? with
  | none => exact ⟨rfl, h⟩
  | some x => exact ⟨List.length_set, set_small h (h x (List.mem_of_getElem? hx))⟩
theorem en_small {i : Nat} {s : Is} {n : ByteArray} (h : s.small i) (hn : n.size ≤ 100) : (enX s n).1.small (i + 1) := by
  obtain ⟨h1, h2, h3, h4⟩ := h
  unfold enX
  split
  · exact ⟨by simp [Is.none], by simp [Is.none], by simp [Is.none], fun k hk => by simp [Is.none] at hk⟩
  · split
    · exact ⟨by show s.ws.length ≤ i + 1; omega, by show s.rv.length ≤ i + 1; omega, by show s.sg.length ≤ i + 1; omega, h4⟩
    · split
      · exact ⟨by show (s.ws.set _ _).length ≤ i + 1; rw [List.length_set]; omega, by show s.rv.length ≤ i + 1; omega, by show s.sg.length ≤ i + 1; omega, set_small h4 hn⟩
      · split
        · exact ⟨by show s.ws.length ≤ i + 1; omega, by show s.rv.length ≤ i + 1; omega, by show s.sg.length ≤ i + 1; omega, h4⟩
        · refine ⟨?_, by show s.rv.length ≤ i + 1; omega, by show s.sg.length ≤ i + 1; omega, ?_⟩
          · show (s.ws.take _ ++ _ :: s.ws.drop _).length ≤ i + 1
            rw [List.length_append, List.length_cons, List.length_take, List.length_drop]
            omega
          · intro k hk
            have hk' : k ∈ s.ws.take (atW s.ws n) ++ ⟨n, true, 0⟩ :: s.ws.drop (atW s.ws n) := hk
            rw [List.mem_append, List.mem_cons] at hk'
            rcases hk' with h5 | rfl | h5
            · exact h4 k (List.mem_of_mem_take h5)
            · exact hn
            · exact h4 k (List.mem_of_mem_drop h5)
theorem sg_small {i : Nat} {s : Is} (ks : List Lk) (who : ByteArray) (h : s.small i) : (sgX s ks who).small (i + 1) := by
  obtain ⟨h1, h2, h3, h4⟩ := h
  have h5 := seSet_small (a := atW s.ws who) (z := s.nx) h4
  exact ⟨by show (seSet _ _ _).length ≤ i + 1; rw [h5.1]; omega, by show s.rv.length ≤ i + 1; omega, by show (s.sg ++ _).length ≤ i + 1; rw [List.length_append, List.length_singleton]; omega, h5.2⟩
theorem hd_small {i : Nat} {s : Is} (x : Er) (ks : List Lk) (who : ByteArray) (h : s.small i) : (hdX x s ks who).small (i + 1) := by
  unfold hdX
  split
  · exact ⟨by simp [Is.none], by simp [Is.none], by simp [Is.none], fun k hk => by simp [Is.none] at hk⟩
  · exact sg_small ks who h
  · exact h.up (by omega)
theorem rvN_len (zs : List Int) (z : Int) : (rvN zs z).length ≤ zs.length + 1 := by
  unfold rvN
  split
  · unfold insN
    rw [List.length_append, List.length_cons, List.length_take, List.length_drop]
    omega
  · omega
theorem rk_small {i : Nat} {s : Is} {n : ByteArray} (h : s.small i) : (rkX s n).1.small (i + 1) := by
  have hu := h.up (Nat.le_succ i)
  obtain ⟨h1, h2, h3, h4⟩ := h
  unfold rkX
  split
  · exact ⟨by simp [Is.none], by simp [Is.none], by simp [Is.none], fun k hk => by simp [Is.none] at hk⟩
  · split
    · exact hu
    · split
      · rename_i x hx
        have h5 := liSet_small (a := atW s.ws n) (z := false) h4
        have h6 := rvN_len s.rv x.se
        exact ⟨by show (liSet _ _ _).length ≤ i + 1; rw [h5.1]; omega, by show (rvN _ _).length ≤ i + 1; omega, by show s.sg.length ≤ i + 1; omega, h5.2⟩
      · exact hu
theorem it_drawn {s : Is} {name tq : ByteArray} {nw li : Int} (hn : name.size ≤ 100) (ht : tq.size ≤ 100 ∧ noN tq) : (itL s name tq nw li).length ≤ 1 ∧ ∀ k ∈ itL s name tq nw li, k.drawn := by
  unfold itL
  split
  · exact ⟨by simp, fun k hk => by rw [List.mem_singleton] at hk; subst hk; exact ⟨hn, ht.1, ht.2⟩⟩
  · exact ⟨by simp, fun k hk => by cases hk⟩
theorem hp_drawn {s : Is} {ks : List Lk} {tq : ByteArray} {nw li : Int} (h : ∀ k ∈ ks, k.drawn) (ht : tq.size ≤ 100 ∧ noN tq) : (hpL s ks tq nw li).length ≤ ks.length + 1 ∧ ∀ k ∈ hpL s ks tq nw li, k.drawn := by
  unfold hpL
  split
  · refine ⟨?_, ext_drawn h ht⟩
    unfold extL
    cases hk : ks[ks.length - 1]? with
    | none => simp
    | some k0 =>
      simp only
      split
      · rw [List.length_append, List.length_singleton]; omega
      · simp
  · exact ⟨by simp, fun k hk => by cases hk⟩

theorem keep_cellU {w w' : World} {b g : Nat} (hg : w.grownBy w' (some b)) (hlt : g < w.heap.size) (hne : g ≠ b) (o : Nat) : w'.cell? ⟨g, o, none⟩ = w.cell? ⟨g, o, none⟩ := by
  simp only [World.cell?]
  rw [hg.block g hlt (by simpa using hne)]
theorem ByS.belowU {w w' : World} {N : Nat} {a : Option Addr} {n : Nat} (h : ByS w a n) (hB : Below N w w') (ha : ∀ p, a = some p → p.block < N) : ByS w' a n :=
  ⟨h.len, fun i hi => by
    obtain ⟨blk, off, x, h1, h2, h3⟩ := h.at_ i hi
    exact ⟨blk, off, x, h1, h2, (hB.cell (p := ⟨blk, off + i, none⟩) (by have := ha _ h1; exact this)).trans h3⟩⟩
/-- An issuer is being drawn from the world w on: it lies in the block k4, its lists from bl on, below tl; a token beside it from tb on, below tt. -/
structure ID (w : World) (b : Nat) (a : Option Addr) (n c : Nat) (wr : World) (k4 : Nat) (s : Is) (aw : Option Addr) (cw : Nat) (ar : Option Addr) (cr : Nat) (ag : Option Addr) (cg : Nat) (vl : Value) (ks : List Lk) (bl tl tb tt q i : Nat) : Prop where
  box : Four wr 27 k4 (.slice aw s.ws.length cw) (.int .i64 s.nx) (.slice ar s.rv.length cr) (.slice ag s.sg.length cg)
  iss : IsO wr bl tl (.agg #[.slice aw s.ws.length cw, .int .i64 s.nx, .slice ar s.rv.length cr, .slice ag s.sg.length cg]) s
  res : Four wr 27 w.heap.size (.slice none 0 0) (.int .i64 0) (.slice none 0 0) (.slice none 0 0)
  tok : RoO 38 5 wr tb tt vl ks.length (ks.flatMap Lk.cells)
  lo : k4 < bl
  lt : k4 < tb
  hi : tl ≤ wr.heap.size
  ht : tt ≤ wr.heap.size
  bt : bl ≤ wr.heap.size
  kw : w.heap.size < k4
  sm : s.small i
  ts : ∀ k ∈ ks, k.drawn
  tn : ks.length ≤ i + 1
  by_ : ByS wr a n
  cur : CurB wr b a n c q
  gr : w.grownBy wr (some b)
theorem ID.grown {w wr w' : World} {b : Nat} {a : Option Addr} {n c k4 : Nat} {s : Is} {aw : Option Addr} {cw : Nat} {ar : Option Addr} {cr : Nat} {ag : Option Addr} {cg : Nat} {vl : Value} {ks : List Lk} {bl tl tb tt q q' i : Nat} (h : ID w b a n c wr k4 s aw cw ar cr ag cg vl ks bl tl tb tt q i) (hb : b < w.heap.size) (hg : wr.grownBy w' (some b)) (hB : ByS w' a n) (hC : CurB w' b a n c q') : ID w b a n c w' k4 s aw cw ar cr ag cg vl ks bl tl tb tt q' i := by
  have M : Mid b (b + 1) wr w' := Mid.of_grown hg (fun k hk => by cases hk; omega)
  have := h.lo
  have := h.lt
  have := h.kw
  exact ⟨M.four h.box (by omega), M.iso h.iss (by omega), M.four h.res (by omega), h.tok.mid M (by omega), h.lo, h.lt, Nat.le_trans h.hi hg.size, Nat.le_trans h.ht hg.size, Nat.le_trans h.bt hg.size, h.kw, h.sm, h.ts, h.tn, hB, hC, g2 h.gr hg⟩
theorem ID.below {w wr w' : World} {b : Nat} {a : Option Addr} {n c k4 : Nat} {s : Is} {aw : Option Addr} {cw : Nat} {ar : Option Addr} {cr : Nat} {ag : Option Addr} {cg : Nat} {vl : Value} {ks : List Lk} {bl tl tb tt q i : Nat} (h : ID w b a n c wr k4 s aw cw ar cr ag cg vl ks bl tl tb tt q i) (hB : Below wr.heap.size wr w') : ID w b a n c w' k4 s aw cw ar cr ag cg vl ks bl tl tb tt q i :=
  ⟨h.box.below hB, h.iss.below hB, h.res.below hB, h.tok.below hB, h.lo, h.lt, Nat.le_trans h.hi hB.size, Nat.le_trans h.ht hB.size, Nat.le_trans h.bt hB.size, h.kw, h.sm, h.ts, h.tn, h.by_.below hB, h.cur.below hB, gB h.gr hB⟩
/-- Only blocks behind all of it have turned. -/
theorem ID.mid {w wr w' : World} {b : Nat} {a : Option Addr} {n c k4 : Nat} {s : Is} {aw : Option Addr} {cw : Nat} {ar : Option Addr} {cr : Nat} {ag : Option Addr} {cg : Nat} {vl : Value} {ks : List Lk} {bl tl tb tt q i lo hi : Nat} (h : ID w b a n c wr k4 s aw cw ar cr ag cg vl ks bl tl tb tt q i) (hb : b < w.heap.size) (M : Mid lo hi wr w') (h1 : tl ≤ lo) (h2 : tt ≤ lo) (h3 : k4 < lo) : ID w b a n c w' k4 s aw cw ar cr ag cg vl ks bl tl tb tt q i := by
  have hkw := h.kw
  have hL : Below w.heap.size wr w' := M.below (n := w.heap.size) (by omega) h.gr.size
  exact ⟨M.four h.box (by omega), M.iso h.iss (by omega), M.four h.res (by omega), h.tok.mid M (by omega), h.lo, h.lt, Nat.le_trans h.hi M.size, Nat.le_trans h.ht M.size, Nat.le_trans h.bt M.size, h.kw, h.sm, h.ts, h.tn, h.by_.belowU hL (fun p hp => Nat.lt_trans (h.cur.apart p hp) hb), h.cur.belowM hL hb, gBM h.gr hL⟩
/-- The issuer is another one now. -/
theorem ID.set {w wr : World} {b : Nat} {a : Option Addr} {n c k4 : Nat} {s : Is} {aw : Option Addr} {cw : Nat} {ar : Option Addr} {cr : Nat} {ag : Option Addr} {cg : Nat} {vl : Value} {ks : List Lk} {bl tl tb tt q i : Nat} (h : ID w b a n c wr k4 s aw cw ar cr ag cg vl ks bl tl tb tt q i) (hb : b < w.heap.size) {s' : Is} {aw' : Option Addr} {cw' : Nat} {ar' : Option Addr} {cr' : Nat} {ag' : Option Addr} {cg' bl' tl' : Nat}
    (hI : IsO wr bl' tl' (.agg #[.slice aw' s'.ws.length cw', .int .i64 s'.nx, .slice ar' s'.rv.length cr', .slice ag' s'.sg.length cg']) s') (hl : k4 < bl') (ht' : tl' ≤ wr.heap.size) (hb' : bl' ≤ wr.heap.size) (hs : s'.small (i + 1)) :
    ID w b a n c ((((wr.setCell ⟨k4, 0, none⟩ (.slice aw' s'.ws.length cw')).setCell ⟨k4, 1, none⟩ (.int .i64 s'.nx)).setCell ⟨k4, 2, none⟩ (.slice ar' s'.rv.length cr')).setCell ⟨k4, 3, none⟩ (.slice ag' s'.sg.length cg')) k4 s' aw' cw' ar' cr' ag' cg' vl ks bl' tl' tb tt q (i + 1) := by
  have M : Mid k4 (k4 + 1) wr ((((wr.setCell ⟨k4, 0, none⟩ (.slice aw' s'.ws.length cw')).setCell ⟨k4, 1, none⟩ (.int .i64 s'.nx)).setCell ⟨k4, 2, none⟩ (.slice ar' s'.rv.length cr')).setCell ⟨k4, 3, none⟩ (.slice ag' s'.sg.length cg')) :=
    ((((Mid.of_below (Below.refl _ _)).set (p := ⟨k4, 0, none⟩) (Nat.le_refl _) (Nat.lt_succ_self _) _).set (p := ⟨k4, 1, none⟩) (Nat.le_refl _) (Nat.lt_succ_self _) _).set (p := ⟨k4, 2, none⟩) (Nat.le_refl _) (Nat.lt_succ_self _) _).set (p := ⟨k4, 3, none⟩) (Nat.le_refl _) (Nat.lt_succ_self _) _
  have hkw := h.kw
  have hlt := h.lt
  have hL := M.below (n := w.heap.size) (by omega) h.gr.size
  exact ⟨(((h.box.s0 _).s1 _).s2 _).s3 _, M.iso hI (by omega), M.four h.res (by omega), h.tok.mid M (by omega), hl, h.lt, Nat.le_trans ht' M.size, Nat.le_trans h.ht M.size, Nat.le_trans hb' M.size, h.kw, hs, h.ts, by have := h.tn; omega, h.by_.belowU hL (fun p hp => Nat.lt_trans (h.cur.apart p hp) hb), h.cur.belowM hL hb, gBM h.gr hL⟩
theorem ID.up {w wr : World} {b : Nat} {a : Option Addr} {n c k4 : Nat} {s : Is} {aw : Option Addr} {cw : Nat} {ar : Option Addr} {cr : Nat} {ag : Option Addr} {cg : Nat} {vl : Value} {ks : List Lk} {bl tl tb tt q i : Nat} (h : ID w b a n c wr k4 s aw cw ar cr ag cg vl ks bl tl tb tt q i) : ID w b a n c wr k4 s aw cw ar cr ag cg vl ks bl tl tb tt q (i + 1) :=
  ⟨h.box, h.iss, h.res, h.tok, h.lo, h.lt, h.hi, h.ht, h.bt, h.kw, h.sm.up (Nat.le_succ _), h.ts, by have := h.tn; omega, h.by_, h.cur, h.gr⟩
theorem ID.tokNew {w wr : World} {b : Nat} {a : Option Addr} {n c k4 : Nat} {s : Is} {aw : Option Addr} {cw : Nat} {ar : Option Addr} {cr : Nat} {ag : Option Addr} {cg : Nat} {vl vl' : Value} {ks ks' : List Lk} {bl tl tb tt tb' tt' q i : Nat} (h : ID w b a n c wr k4 s aw cw ar cr ag cg vl ks bl tl tb tt q i) (hr : RoO 38 5 wr tb' tt' vl' ks'.length (ks'.flatMap Lk.cells)) (hl : k4 < tb') (ht' : tt' ≤ wr.heap.size) (hd : ∀ k ∈ ks', k.drawn) (hn : ks'.length ≤ i + 1) : ID w b a n c wr k4 s aw cw ar cr ag cg vl' ks' bl tl tb' tt' q i :=
  ⟨h.box, h.iss, h.res, hr, h.lo, hl, h.hi, ht', h.bt, h.kw, h.sm, hd, hn, h.by_, h.cur, h.gr⟩
/-- What lies there when an act was tried: the issuer as it was, what came of it in the block k7, and a token. -/
structure IJ (w : World) (b : Nat) (a : Option Addr) (n c : Nat) (wx : World) (k4 k7 : Nat) (s : Is) (aw : Option Addr) (cw : Nat) (ar : Option Addr) (cr : Nat) (ag : Option Addr) (cg : Nat) (vl : Value) (ks : List Lk) (bl tl tb tt q i : Nat) (s' : Is) (aw' : Option Addr) (cw' : Nat) (ar' : Option Addr) (cr' : Nat) (ag' : Option Addr) (cg' : Nat) (bl' tl' : Nat) (vl' : Value) (ks' : List Lk) (tb' tt' : Nat) : Prop where
  id : ID w b a n c wx k4 s aw cw ar cr ag cg vl ks bl tl tb tt q i
  box : Four wx 27 k7 (.slice aw' s'.ws.length cw') (.int .i64 s'.nx) (.slice ar' s'.rv.length cr') (.slice ag' s'.sg.length cg')
  iss : IsO wx bl' tl' (.agg #[.slice aw' s'.ws.length cw', .int .i64 s'.nx, .slice ar' s'.rv.length cr', .slice ag' s'.sg.length cg']) s'
  lo : k4 < bl'
  hi : tl' ≤ wx.heap.size
  bt : bl' ≤ wx.heap.size
  sm : s'.small (i + 1)
  tok : RoO 38 5 wx tb' tt' vl' ks'.length (ks'.flatMap Lk.cells)
  lt : k4 < tb'
  ht : tt' ≤ wx.heap.size
  ts : ∀ k ∈ ks', k.drawn
  tn : ks'.length ≤ i + 2
/-- Nothing was tried. -/
theorem IJ.idle {w wx : World} {b : Nat} {a : Option Addr} {n c k4 k7 : Nat} {s : Is} {aw : Option Addr} {cw : Nat} {ar : Option Addr} {cr : Nat} {ag : Option Addr} {cg : Nat} {vl : Value} {ks : List Lk} {bl tl tb tt q i : Nat} (h : ID w b a n c wx k4 s aw cw ar cr ag cg vl ks bl tl tb tt q i) (hF : Four wx 27 k7 (.slice aw s.ws.length cw) (.int .i64 s.nx) (.slice ar s.rv.length cr) (.slice ag s.sg.length cg)) : IJ w b a n c wx k4 k7 s aw cw ar cr ag cg vl ks bl tl tb tt q i s aw cw ar cr ag cg bl tl (.slice none 0 0) [] (k4 + 1) 0 :=
  ⟨h, hF, h.iss, h.lo, h.hi, h.bt, h.sm.up (Nat.le_succ _), ⟨World.ownsRow_nil _ _ _ _, fun k hk => by simp [Value.ownBlock] at hk⟩, by omega, by omega, (fun k hk => by cases hk), by simp⟩
/-- What an act told is stored into the block k7. -/
theorem IJ.done {w z : World} {b : Nat} {a : Option Addr} {n c k4 k7 : Nat} {s : Is} {aw : Option Addr} {cw : Nat} {ar : Option Addr} {cr : Nat} {ag : Option Addr} {cg : Nat} {vl : Value} {ks : List Lk} {bl tl tb tt q i : Nat} (h : ID w b a n c z k4 s aw cw ar cr ag cg vl ks bl tl tb tt q i) (hb : b < w.heap.size) {x0 x1 x2 x3 : Value} (hF : Four z 27 k7 x0 x1 x2 x3) (h1 : tl ≤ k7) (h2 : tt ≤ k7) (h3 : k4 < k7)
    {s' : Is} {aw' : Option Addr} {cw' : Nat} {ar' : Option Addr} {cr' : Nat} {ag' : Option Addr} {cg' y : Nat} (hI : IsO z y z.heap.size (.agg #[.slice aw' s'.ws.length cw', .int .i64 s'.nx, .slice ar' s'.rv.length cr', .slice ag' s'.sg.length cg']) s') (hy : k7 < y) (hyz : y ≤ z.heap.size) (hs : s'.small (i + 1)) {vl' : Value} {ks' : List Lk} (hr : RoO 38 5 z y z.heap.size vl' ks'.length (ks'.flatMap Lk.cells)) (hd : ∀ k ∈ ks', k.drawn) (hn : ks'.length ≤ i + 2) :
    IJ w b a n c ((((z.setCell ⟨k7, 0, none⟩ (.slice aw' s'.ws.length cw')).setCell ⟨k7, 1, none⟩ (.int .i64 s'.nx)).setCell ⟨k7, 2, none⟩ (.slice ar' s'.rv.length cr')).setCell ⟨k7, 3, none⟩ (.slice ag' s'.sg.length cg')) k4 k7 s aw cw ar cr ag cg vl ks bl tl tb tt q i s' aw' cw' ar' cr' ag' cg' y z.heap.size vl' ks' y z.heap.size := by
  have M : Mid k7 (k7 + 1) z ((((z.setCell ⟨k7, 0, none⟩ (.slice aw' s'.ws.length cw')).setCell ⟨k7, 1, none⟩ (.int .i64 s'.nx)).setCell ⟨k7, 2, none⟩ (.slice ar' s'.rv.length cr')).setCell ⟨k7, 3, none⟩ (.slice ag' s'.sg.length cg')) :=
    ((((Mid.of_below (Below.refl _ _)).set (p := ⟨k7, 0, none⟩) (Nat.le_refl _) (Nat.lt_succ_self _) _).set (p := ⟨k7, 1, none⟩) (Nat.le_refl _) (Nat.lt_succ_self _) _).set (p := ⟨k7, 2, none⟩) (Nat.le_refl _) (Nat.lt_succ_self _) _).set (p := ⟨k7, 3, none⟩) (Nat.le_refl _) (Nat.lt_succ_self _) _
  exact ⟨h.mid hb M h1 h2 h3, (((hF.s0 _).s1 _).s2 _).s3 _, M.iso hI (by omega), by omega, M.size, Nat.le_trans hyz M.size, hs, hr.mid M (by omega), by omega, M.size, hd, hn⟩

theorem IJ.set {w wx : World} {b : Nat} {a : Option Addr} {n c k4 k7 : Nat} {s : Is} {aw : Option Addr} {cw : Nat} {ar : Option Addr} {cr : Nat} {ag : Option Addr} {cg : Nat} {vl : Value} {ks : List Lk} {bl tl tb tt q i : Nat} {s' : Is} {aw' : Option Addr} {cw' : Nat} {ar' : Option Addr} {cr' : Nat} {ag' : Option Addr} {cg' bl' tl' : Nat} {vl' : Value} {ks' : List Lk} {tb' tt' : Nat} (h : IJ w b a n c wx k4 k7 s aw cw ar cr ag cg vl ks bl tl tb tt q i s' aw' cw' ar' cr' ag' cg' bl' tl' vl' ks' tb' tt') (hb : b < w.heap.size) : ID w b a n c ((((wx.setCell ⟨k4, 0, none⟩ (.slice aw' s'.ws.length cw')).setCell ⟨k4, 1, none⟩ (.int .i64 s'.nx)).setCell ⟨k4, 2, none⟩ (.slice ar' s'.rv.length cr')).setCell ⟨k4, 3, none⟩ (.slice ag' s'.sg.length cg')) k4 s' aw' cw' ar' cr' ag' cg' vl ks bl' tl' tb tt q (i + 1) := h.id.set hb h.iss h.lo h.hi h.bt h.sm
theorem IJ.setTok {w wx : World} {b : Nat} {a : Option Addr} {n c k4 k7 : Nat} {s : Is} {aw : Option Addr} {cw : Nat} {ar : Option Addr} {cr : Nat} {ag : Option Addr} {cg : Nat} {vl : Value} {ks : List Lk} {bl tl tb tt q i : Nat} {s' : Is} {aw' : Option Addr} {cw' : Nat} {ar' : Option Addr} {cr' : Nat} {ag' : Option Addr} {cg' bl' tl' : Nat} {vl' : Value} {ks' : List Lk} {tb' tt' : Nat} (h : IJ w b a n c wx k4 k7 s aw cw ar cr ag cg vl ks bl tl tb tt q i s' aw' cw' ar' cr' ag' cg' bl' tl' vl' ks' tb' tt') (hb : b < w.heap.size) : ID w b a n c ((((wx.setCell ⟨k4, 0, none⟩ (.slice aw' s'.ws.length cw')).setCell ⟨k4, 1, none⟩ (.int .i64 s'.nx)).setCell ⟨k4, 2, none⟩ (.slice ar' s'.rv.length cr')).setCell ⟨k4, 3, none⟩ (.slice ag' s'.sg.length cg')) k4 s' aw' cw' ar' cr' ag' cg' vl' ks' bl' tl' tb' tt' q (i + 1) := by
  have M : Mid k4 (k4 + 1) wx ((((wx.setCell ⟨k4, 0, none⟩ (.slice aw' s'.ws.length cw')).setCell ⟨k4, 1, none⟩ (.int .i64 s'.nx)).setCell ⟨k4, 2, none⟩ (.slice ar' s'.rv.length cr')).setCell ⟨k4, 3, none⟩ (.slice ag' s'.sg.length cg')) :=
    ((((Mid.of_below (Below.refl _ _)).set (p := ⟨k4, 0, none⟩) (Nat.le_refl _) (Nat.lt_succ_self _) _).set (p := ⟨k4, 1, none⟩) (Nat.le_refl _) (Nat.lt_succ_self _) _).set (p := ⟨k4, 2, none⟩) (Nat.le_refl _) (Nat.lt_succ_self _) _).set (p := ⟨k4, 3, none⟩) (Nat.le_refl _) (Nat.lt_succ_self _) _
  have hlt := h.lt
  exact (h.set hb).tokNew (h.tok.mid M (by omega)) h.lt (Nat.le_trans h.ht M.size) h.ts h.tn
theorem IJ.tokNew {w wx : World} {b : Nat} {a : Option Addr} {n c k4 k7 : Nat} {s : Is} {aw : Option Addr} {cw : Nat} {ar : Option Addr} {cr : Nat} {ag : Option Addr} {cg : Nat} {vl : Value} {ks : List Lk} {bl tl tb tt q i : Nat} {s' : Is} {aw' : Option Addr} {cw' : Nat} {ar' : Option Addr} {cr' : Nat} {ag' : Option Addr} {cg' bl' tl' : Nat} {vl' : Value} {ks' : List Lk} {tb' tt' : Nat} (h : IJ w b a n c wx k4 k7 s aw cw ar cr ag cg vl ks bl tl tb tt q i s' aw' cw' ar' cr' ag' cg' bl' tl' vl' ks' tb' tt') (_hb : b < w.heap.size) : ID w b a n c wx k4 s aw cw ar cr ag cg vl' ks' bl tl tb' tt' q (i + 1) := h.id.up.tokNew h.tok h.lt h.ht h.ts h.tn
/-- What is told lies in the block of the answer. -/
theorem ID.out {w wr W : World} {b : Nat} {a : Option Addr} {n c k4 : Nat} {s : Is} {aw : Option Addr} {cw : Nat} {ar : Option Addr} {cr : Nat} {ag : Option Addr} {cg : Nat} {vl : Value} {ks : List Lk} {bl tl tb tt q i : Nat} (h : ID w b a n c wr k4 s aw cw ar cr ag cg vl ks bl tl tb tt q i) (hb : b < w.heap.size) (M : Mid w.heap.size (w.heap.size + 1) wr W) : w.heap.size ≤ bl ∧ IsO W bl tl (.agg #[.slice aw s.ws.length cw, .int .i64 s.nx, .slice ar s.rv.length cr, .slice ag s.sg.length cg]) s ∧ ByS W a n ∧ CurB W b a n c q ∧ w.grownBy W (some b) := by
  have hkw := h.kw
  have hlo := h.lo
  have hL := M.below (n := w.heap.size) (Nat.le_refl _) h.gr.size
  exact ⟨by omega, M.iso h.iss (by omega), h.by_.belowU hL (fun p hp => Nat.lt_trans (h.cur.apart p hp) hb), h.cur.belowM hL hb, gBM h.gr hL⟩
theorem four_mid (wr : World) (k : Nat) (x0 x1 x2 x3 : Value) : Mid k (k + 1) wr ((((wr.setCell ⟨k, 0, none⟩ x0).setCell ⟨k, 1, none⟩ x1).setCell ⟨k, 2, none⟩ x2).setCell ⟨k, 3, none⟩ x3) :=
  ((((Mid.of_below (Below.refl _ _)).set (p := ⟨k, 0, none⟩) (Nat.le_refl _) (Nat.lt_succ_self _) _).set (p := ⟨k, 1, none⟩) (Nat.le_refl _) (Nat.lt_succ_self _) _).set (p := ⟨k, 2, none⟩) (Nat.le_refl _) (Nat.lt_succ_self _) _).set (p := ⟨k, 3, none⟩) (Nat.le_refl _) (Nat.lt_succ_self _) _

/-- What is left of it behind changes of blocks that were made from w on. -/
theorem ID.outL {w wr W : World} {b : Nat} {a : Option Addr} {n c k4 : Nat} {s : Is} {aw : Option Addr} {cw : Nat} {ar : Option Addr} {cr : Nat} {ag : Option Addr} {cg : Nat} {vl : Value} {ks : List Lk} {bl tl tb tt q i : Nat} (h : ID w b a n c wr k4 s aw cw ar cr ag cg vl ks bl tl tb tt q i) (hb : b < w.heap.size) (hL : Below w.heap.size wr W) : ByS W a n ∧ CurB W b a n c q ∧ w.grownBy W (some b) :=
  ⟨h.by_.belowU hL (fun p hp => Nat.lt_trans (h.cur.apart p hp) hb), h.cur.belowM hL hb, gBM h.gr hL⟩
theorem mid_cell {lo hi : Nat} {w w1 : World} (M : Mid lo hi w w1) {g : Nat} (hg : g < w.heap.size) (h : g < lo ∨ hi ≤ g) (o : Nat) : w1.cell? ⟨g, o, none⟩ = w.cell? ⟨g, o, none⟩ := by
  simp only [World.cell?]
  rw [M.block g hg h]
theorem IsO.next {w : World} {bl tl : Nat} {vw vr vs : Value} {s : Is} (h : IsO w bl tl (.agg #[vw, .int .i64 s.nx, vr, vs]) s) (z : Int) : IsO w bl tl (.agg #[vw, .int .i64 z, vr, vs]) ⟨s.ws, z, s.rv, s.sg⟩ := by
  obtain ⟨_, _, _, he, r⟩ := h
  cases he
  exact ⟨_, _, _, rfl, r⟩
/-- One more revoked number. -/
theorem IsO.appR {w w1 : World} {bl tl : Nat} {vw vr vs vr' : Value} {s : Is} {z : Int} (h : IsO w bl tl (.agg #[vw, .int .i64 s.nx, vr, vs]) s) (hg : w.grownBy w1 vr.ownBlock) (hown : w1.ownsRow bl 3 1 vr' (s.rv.length + 1) (nums s.rv ++ [.int .i64 z])) : IsO w1 bl w1.heap.size (.agg #[vw, .int .i64 s.nx, vr', vs]) ⟨s.ws, s.nx, s.rv ++ [z], s.sg⟩ := by
  obtain ⟨_, _, _, he, r1, r2, r3, _, _, _⟩ := h
  cases he
  have k1 := kept_apart r1 hg (row_apart r1 r2 (by decide))
  have k3 := kept_apart r3 hg (row_apart r3 r2 (by decide))
  have k2 : w1.ownsRow bl 3 1 vr' (s.rv ++ [z]).length (nums (s.rv ++ [z])) := by simpa [nums] using hown
  exact ⟨_, _, _, rfl, k1, k2, k3, fun k hk => (k1.lt k hk).2, fun k hk => (k2.lt k hk).2, fun k hk => (k3.lt k hk).2⟩
/-- One more work. -/
theorem IsO.appW {w w1 : World} {bl tl : Nat} {vw vr vs vw' : Value} {s : Is} {x : Wk} (h : IsO w bl tl (.agg #[vw, .int .i64 s.nx, vr, vs]) s) (hg : w.grownBy w1 vw.ownBlock) (hown : w1.ownsRow bl 64 3 vw' (s.ws.length + 1) (s.ws.flatMap Wk.cells ++ x.cells)) : IsO w1 bl w1.heap.size (.agg #[vw', .int .i64 s.nx, vr, vs]) ⟨s.ws ++ [x], s.nx, s.rv, s.sg⟩ := by
  obtain ⟨_, _, _, he, r1, r2, r3, _, _, _⟩ := h
  cases he
  have k2 := kept_apart r2 hg (row_apart r2 r1 (by decide))
  have k3 := kept_apart r3 hg (row_apart r3 r1 (by decide))
  have k1 : w1.ownsRow bl 64 3 vw' (s.ws ++ [x]).length ((s.ws ++ [x]).flatMap Wk.cells) := by simpa using hown
  exact ⟨_, _, _, rfl, k1, k2, k3, fun k hk => (k1.lt k hk).2, fun k hk => (k2.lt k hk).2, fun k hk => (k3.lt k hk).2⟩
theorem IsO.rows {w : World} {bl tl : Nat} {vw vr vs : Value} {s : Is} (h : IsO w bl tl (.agg #[vw, .int .i64 s.nx, vr, vs]) s) : w.ownsRow bl 64 3 vw s.ws.length (s.ws.flatMap Wk.cells) ∧ w.ownsRow bl 3 1 vr s.rv.length (nums s.rv) ∧ w.ownsRow bl 9 1 vs s.sg.length (strs s.sg) := by
  obtain ⟨_, _, _, he, r1, r2, r3, _⟩ := h
  cases he
  exact ⟨r1, r2, r3⟩

end Go.Proofs.YtallpldgkkpikaaGreatDoor

namespace Go.Proofs.YtallpldgkkpikaaGreatDoor
open Go.RowKit Go.Shelf

theorem run_append_room_zeros {P : Program} (w : World) (t tn ty e : TypeId) (i : TypeInfo) (z : Value) (kq kn : IntKind) (ht : P.underlying t = some (.slice e)) (htn : P.underlying tn = some (.int kn)) (hi : P.info? e = some i) (hz : i.zero = some z)
    (g sLen sCap : Nat) (cur : Array Value) (hg : w.heap[g]? = some (.cells cur e (0, 0))) (k : Nat) (h0 : 0 < k) (hs : 0 < i.size) (h63 : ((k : Nat) : Int) ≤ 9223372036854775807) (h48 : k * i.bytes ≤ 281474976710656)
    (news : List Value) (hnw : news = (Builtin.zeroCells z.cells k).toList) (h1 : ∀ u ∈ news, u.oneCell' = true) (hroom : sLen + k ≤ sCap) (hfit : sLen * i.size + news.length ≤ cur.size) :
    (Builtin.append_ #[t, tn] ty #[.slice (some ⟨g, 0, none⟩) sLen sCap, .int kq k]).run P w =
      .ok (.slice (some ⟨g, 0, none⟩) (sLen + k) sCap) (w.setRow g (cur.toList.take (sLen * i.size) ++ news ++ cur.toList.drop (sLen * i.size + news.length)).toArray) := by
  have hst := run_storeCells_at P g (sLen * i.size) e news 0 cur w hg (by simpa using hfit) h1
  simp only [Nat.add_zero] at hst
  have hk : k ≠ 0 := by omega
  have hw : IntKind.i64.wrap (k : Int) = k := by rw [IntKind.wrap_i64]; omega
  have h48i : ¬ (281474976710656 < (k : Int) * (i.bytes : Int)) := by
    rw [← Int.natCast_mul]
    omega
  have hneg : ¬ ((k : Int) < 0) := by omega
  have hns : ¬ (k * i.size = 0) := Nat.mul_ne_zero hk (by omega)
  simp [Builtin.append_, run_underlying ht, run_underlying htn, sizeOf, typeInfo, zeroValue, hi, hz, asInt, asIntOf, hw, hneg, hns, h48i, hroom, Addr.add_lit, ← hnw, hst]

theorem run_append_own_zeros {P : Program} (w : World) (base : Nat) (t tn ty e : TypeId) (i : TypeInfo) (z : Value) (kq kn : IntKind) (size bytes : Nat) (ht : P.underlying t = some (.slice e)) (htn : P.underlying tn = some (.int kn)) (hi : P.info? e = some i) (hz : i.zero = some z)
    (hsize : i.size = size) (hby : i.bytes = bytes) (hzs : z.cells.size = size) (hsz : 0 < size)
    (v : Value) (n : Nat) (xs : List Value) (hown : w.ownsRow base e size v n xs) (m : Nat) (h0 : 0 < m)
    (news : List Value) (hnw : news = (Builtin.zeroCells z.cells m).toList) (h1 : ∀ u ∈ news, u.oneCell' = true)
    (h63 : n + m ≤ maxLen) (hbytes : (n + m) * bytes ≤ 140737488355328) (hbase : base ≤ w.heap.size) :
    ∃ v' w', (Builtin.append_ #[t, tn] ty #[v, .int kq m]).run P w = .ok v' w' ∧ w'.ownsRow base e size v' (n + m) (xs ++ news) ∧ w.grownBy w' v.ownBlock := by
  subst hsize
  subst hby
  have hl : news.length = m * i.size := by rw [hnw, Array.length_toList, size_zeroCells, hzs]
  have hsmall : n + m ≤ 9223372036854775807 := by simp only [maxLen] at h63; omega
  have hmb : m * i.bytes ≤ (n + m) * i.bytes := Nat.mul_le_mul_right _ (by omega)
  have hlen : (xs ++ news).length = (n + m) * i.size := by rw [List.length_append, hown.1, hl, Nat.add_mul]
  have hza : Builtin.zeroCells z.cells m = news.toArray := by rw [hnw]
  have grown : ∀ (old : Nat), old < n + m → ∀ (row : Option Nat),
      (w.drew.alloc (.cells (xs.toArray ++ news.toArray ++ Builtin.zeroCells z.cells (grownCap w (n + m) old e - (n + m))) e)).ownsRow base e i.size
        (.slice (some ⟨w.heap.size, 0, none⟩) (n + m) (grownCap w (n + m) old e)) (n + m) (xs ++ news) ∧
      w.grownBy (w.drew.alloc (.cells (xs.toArray ++ news.toArray ++ Builtin.zeroCells z.cells (grownCap w (n + m) old e - (n + m))) e)) row := by
    intro old ho row
    have hge := grownCap_ge w (n + m) old e
    have hcm : grownCap w (n + m) old e ≤ maxLen := grownCap_le_maxLen w (n + m) old e h63
    refine ⟨⟨hlen, .inr ⟨w.heap.size, _, _, rfl, hbase, heap_alloc_new w.drew _, hge, hcm, ?_, ?_⟩⟩, ⟨rfl, rfl, rfl, by simp, fun k hk _ => by first | exact heap_alloc_old w.drew _ k hk | exact heap_alloc_old w.drew _ hk⟩⟩
    · simp only [Array.size_append, List.size_toArray, size_zeroCells, hzs, hown.1, hl, ← Nat.add_mul]
      congr 1
      omega
    · simp only [Array.toList_append, List.append_assoc]
      rw [← List.append_assoc, ← hlen]
      exact List.take_left
  rcases hown.2 with ⟨rfl, rfl⟩ | ⟨g, cap, cur, rfl, hbg, hg, hnc, hcm, hcs, htake⟩
  · have hx : xs = [] := List.eq_nil_of_length_eq_zero (by simpa using hown.1)
    subst hx
    have hr := Lib.run_append_nil_zeros (P := P) w t tn ty e i z kq kn ht htn hi hz m h0 hsz (by omega) (by omega)
    have hgr := grown 0 (by omega) (Value.ownBlock (.slice none 0 0))
    rw [hza] at hr
    simp only [Nat.zero_add, List.nil_append, Array.empty_append] at hgr ⊢
    exact ⟨_, _, hr, hgr.1, hgr.2⟩
  · by_cases hroom : n + m ≤ cap
    · have hfit : n * i.size + news.length ≤ cur.size := by rw [hl, hcs, ← Nat.add_mul]; exact Nat.mul_le_mul_right _ hroom
      have hr := run_append_room_zeros (P := P) w t tn ty e i z kq kn ht htn hi hz g n cap cur hg m h0 hsz (by omega) (by omega) news hnw h1 hroom hfit
      refine ⟨_, _, hr, ⟨hlen, .inr ⟨g, cap, _, rfl, hbg, setRow_heap w g cur _ e _ hg, hroom, hcm, ?_, ?_⟩⟩, ⟨rfl, rfl, rfl, by simp, fun k _ hk => setRow_other w g k _ (fun e => hk (by simp [Value.ownBlock, e]))⟩⟩
      · simp only [List.size_toArray, List.length_append, List.length_take, List.length_drop, Array.length_toList]
        omega
      · rw [htake, ← hlen]
        exact List.take_left
    · have holds : ∀ j u, xs[j]? = some u → w.drew.cell? ((⟨g, 0, none⟩ : Addr).add j) = some u := hown.cells (g := g) rfl
      have hf := run_firstCells_some (P := P) w.drew i.size n ⟨g, 0, none⟩ n cap xs hown.1 holds
      have hr := Lib.run_append_grow_zeros (P := P) w t tn ty e i z kq kn ht htn hi hz (some ⟨g, 0, none⟩) n cap xs hf m h0 hsz (by omega) (by omega) (by omega) (growslice_fits (by omega) hbytes)
      have hgr := grown cap (by omega) (Value.ownBlock (.slice (some ⟨g, 0, none⟩) n cap))
      rw [hza] at hr
      exact ⟨_, _, hr, hgr.1, hgr.2⟩

theorem step_append_zeros {P : Program} {w : World} {ops : Array Oper} {o : Oper} {a : Act} {K : Act → World → Prop} {Q : Exit → Act → World → Prop} {E : Prop} (hgd : o.guard = none) (s x : Operand) (t tn : TypeId)
    (ho : o.op = .call { callee := .builtin .append, args := #[s, x], argTypes := #[t, tn] })
    (base : Nat) (e : TypeId) (i : TypeInfo) (z : Value) (kq kn : IntKind) (size bytes : Nat) (ht : P.underlying t = some (.slice e)) (htn : P.underlying tn = some (.int kn)) (hi : P.info? e = some i) (hz : i.zero = some z)
    (hsize : i.size = size) (hby : i.bytes = bytes) (hzs : z.cells.size = size) (hsz : 0 < size)
    (v : Value) (n : Nat) (xs : List Value) (hs : a.eval s = v) (hown : w.ownsRow base e size v n xs) (m : Nat) (h0 : 0 < m) (hx : a.eval x = .int kq m)
    (news : List Value) (hnw : news = (Builtin.zeroCells z.cells m).toList) (h1 : ∀ u ∈ news, u.oneCell' = true)
    (h63 : n + m ≤ maxLen) (hbytes : (n + m) * bytes ≤ 140737488355328) (hbase : base ≤ w.heap.size)
    (h : ∀ v' w', w'.ownsRow base e size v' (n + m) (xs ++ news) → w.grownBy w' v.ownBlock → K (a.put o.dst v') w') :
    if Region.wanted o (yielded ops a.tmps) = true then Oper.wp P o a w K Q else E := by
  have hw : Region.wanted o (yielded ops a.tmps) = true := by simp [Region.wanted, hgd]
  rw [if_pos hw]
  obtain ⟨v', w', hr, h2, h3⟩ := run_append_own_zeros (P := P) w base t tn o.type e i z kq kn size bytes ht htn hi hz hsize hby hzs hsz v n xs hown m h0 news hnw h1 h63 hbytes hbase
  exact Lib.wp_append_run w s x t tn ho v (.int kq m) hs hx v' w' hr (h v' w' h2 h3)

end Go.Proofs.YtallpldgkkpikaaGreatDoor

namespace Go.Proofs.YtallpldgkkpikaaGreatDoor
open Go.RowKit Go.Shelf

theorem specNewI (w : World) :
    Calls Tryz.prog 43 #[] w fun e w' => e = .returned (.agg #[.slice none 0 0, .int .i64 1, .slice none 0 0, .slice none 0 0]) ∧ Below w.heap.size w w' := by
  go_enter Tryz.func43, Tryz.ntmps43
  go_wp2
  exact bodyPost_ret (v := .agg #[.slice none 0 0, .int .i64 1, .slice none 0 0, .slice none 0 0]) (by simp [results, Tryz.results43, go_sem]) rfl ⟨rfl, (Below.refl _ w).alloc (Nat.le_refl _) _⟩
def isNew : Is := ⟨[], 1, [], []⟩
theorem cell_wk_new (w : World) (x : Wk) : ∀ j u, x.cells[j]? = some u → (w.alloc (.cells #[.string x.name, .bool x.live, .int .i64 x.se] 64)).cell? ((⟨w.heap.size, 0, none⟩ : Addr).add j) = some u := by
  intro j u hu
  rw [Addr.add_lit, Nat.zero_add]
  obtain ⟨c0, c1, c2⟩ := (Three.new w (.string x.name) (.bool x.live) (.int .i64 x.se) 64).c
  match j with
  | 0 => rw [c0]; exact hu
  | 1 => rw [c1]; exact hu
  | 2 => rw [c2]; exact hu
  | j + 3 => simp [Wk.cells] at hu

theorem w190 (z : Nat) (hz : z < 20) : IntKind.i64.wrap (190 + (z : Int)) = ((190 + z : Nat) : Int) := by
  rw [IntKind.wrap_i64]
  omega
theorem z190 (z : Nat) (hz : z < 20) : Value.int .i64 (IntKind.i64.wrap (190 + (z : Int))) = .int .i64 ((190 + z : Nat) : Int) := congrArg (Value.int .i64) (w190 z hz)
theorem zeros_strs (m : Nat) : strs (List.replicate m ByteArray.empty) = (Builtin.zeroCells (Value.string ByteArray.empty).cells m).toList := by
  have h : (Value.string ByteArray.empty).cells = #[.string ByteArray.empty] := rfl
  rw [h]
  simp [Builtin.zeroCells, strs, Nat.mod_one, List.map_const']
theorem IsO.appS {w w1 : World} {bl tl m : Nat} {vw vr vs vs' : Value} {s : Is} (h : IsO w bl tl (.agg #[vw, .int .i64 s.nx, vr, vs]) s) (hg : w.grownBy w1 vs.ownBlock) (hown : w1.ownsRow bl 9 1 vs' (s.sg.length + m) (strs s.sg ++ strs (List.replicate m ByteArray.empty))) : IsO w1 bl w1.heap.size (.agg #[vw, .int .i64 s.nx, vr, vs']) ⟨s.ws, s.nx, s.rv, s.sg ++ List.replicate m ByteArray.empty⟩ := by
  obtain ⟨_, _, _, he, r1, r2, r3, _, _, _⟩ := h
  cases he
  have k1 := kept_apart r1 hg (row_apart r1 r3 (by decide))
  have k2 := kept_apart r2 hg (row_apart r2 r3 (by decide))
  have k3 : w1.ownsRow bl 9 1 vs' (s.sg ++ List.replicate m ByteArray.empty).length (strs (s.sg ++ List.replicate m ByteArray.empty)) := by simpa [strs] using hown
  exact ⟨_, _, _, rfl, k1, k2, k3, fun k hk => (k1.lt k hk).2, fun k hk => (k2.lt k hk).2, fun k hk => (k3.lt k hk).2⟩

set_option maxHeartbeats 16000000 in
set_option maxRecDepth 100000 in
theorem drawIssuer_any (b : Nat) (a : Option Addr) (n c k : Nat) (w : World) (hB : ByS w a n) (hC : CurB w b a n c k) (hk : k ≤ 1000) :
    Calls Tryz.prog 12 #[.pointer (some ⟨b, 0, none⟩)] w fun e w' => ∃ (v vl : Value) (s : Is) (bl tl q : Nat), e = .returned (.tuple #[v, vl]) ∧ q ≤ k + 2000 ∧ w.heap.size ≤ bl ∧ IsO w' bl tl v s ∧ s.ws.length ≤ 20 ∧ s.rv.length ≤ 20 ∧ s.sg.length ≤ 300 ∧ (∀ k ∈ s.ws, k.name.size ≤ 100) ∧ ByS w' a n ∧ CurB w' b a n c q ∧ w.grownBy w' (some b) := by
  have hbl := hC.lt
  have hBa : Below w.heap.size w (w.alloc (.cells #[.slice none 0 0, .int .i64 0, .slice none 0 0, .slice none 0 0] 27)) := (Below.refl _ w).alloc (Nat.le_refl _) _
  have FR := Four.new w (.slice none 0 0) (.int .i64 0) (.slice none 0 0) (.slice none 0 0) 27
  go_enter Tryz.func12, Tryz.ntmps12
  go_wp2_with fail
  generalize w.alloc (.cells #[.slice none 0 0, .int .i64 0, .slice none 0 0, .slice none 0 0] 27) = W0 at *
  have hz0 := FR.lt
  refine (specNewI _).mono ?_
  rintro e w1 ⟨rfl, hB1'⟩
  have hBv : Below w1.heap.size w1 (w1.alloc (.cells #[.slice none 0 0, .int .i64 1, .slice none 0 0, .slice none 0 0] 27)) := (Below.refl _ w1).alloc (Nat.le_refl _) _
  have FX := Four.new w1 (.slice none 0 0) (.int .i64 1) (.slice none 0 0) (.slice none 0 0) 27
  replace FR := (FR.below hB1').below hBv
  have hz1 := hB1'.size
  have hBB := below_one (below_one hBa hB1') hBv
  go_wp2_with fail
  generalize w1.alloc (.cells #[.slice none 0 0, .int .i64 1, .slice none 0 0, .slice none 0 0] 27) = W1 at *
  generalize hk4e : w1.heap.size = k4 at *
  have hk4 : k4 < W1.heap.size := FX.lt
  have hkw : w.heap.size < k4 := by omega
  clear hBa hB1' hBv hz0 hz1 hk4e
  have hK0 : ID w b a n c W1 k4 isNew none 0 none 0 none 0 (.slice none 0 0) [] (k4 + 1) (k4 + 1) (k4 + 1) (k4 + 1) k 0 :=
    ⟨FX, ⟨_, _, _, rfl, World.ownsRow_nil _ _ _ _, World.ownsRow_nil _ _ _ _, World.ownsRow_nil _ _ _ _, fun _ h => by simp [Value.ownBlock] at h, fun _ h => by simp [Value.ownBlock] at h, fun _ h => by simp [Value.ownBlock] at h⟩, FR, ⟨World.ownsRow_nil _ _ _ _, fun _ h => by simp [Value.ownBlock] at h⟩, by omega, by omega, by omega, by omega, by omega, hkw, ⟨by simp [isNew], by simp [isNew], by simp [isNew], fun k hk => by simp [isNew] at hk⟩, (fun k hk => by cases hk), by simp, hB.below hBB, hC.below hBB, gB (grown_self _ _) hBB⟩
  clear FX FR hB hC hBB
  refine (pick_any b a n c k 16 W1 (by omega) (by omega) hK0.by_ hK0.cur (by omega)).mono ?_
  rintro e w2 ⟨N, hN, rfl, hC2, hg2⟩
  replace hK0 := hK0.grown hbl hg2 (curB_grown hK0.by_ hK0.cur.apart hK0.cur.lt hg2) hC2
  clear hC2 hg2
  go_wp2_with fail
  go_loopw [5, 6] (fun lv nv wr => ∃ (vl : Value) (s : Is) (aw : Option Addr) (cw : Nat) (ar : Option Addr) (cr : Nat) (ag : Option Addr) (cg : Nat) (ks : List Lk) (bl tl tb tt q j i : Nat), vl = lv ∧ nv = .int .i64 j ∧ j + i ≤ 15 ∧ q + 60 * j ≤ k + 1000 ∧ ID w b a n c wr k4 s aw cw ar cr ag cg vl ks bl tl tb tt q i) (fun _ nv _ => (intOf nv).toNat)
  case atStart => exact ⟨_, isNew, none, 0, none, 0, none, 0, [], _, _, _, _, _, N, 0, rfl, rfl, by omega, by omega, hK0⟩
  case round =>
    obtain ⟨vl, s, aw, cw, ar, cr, ag, cg, ks, bl, tl, tb, tt, q, j, i, rfl, rfl, hji, hq, hK⟩ := hrel
    clear hK0
    obtain ⟨al, cl, rfl⟩ := RoO.len hK.tok
    have hss := hK.sm.short (by omega)
    have hsn := hK.sm.named
    by_cases hjz : 0 < j
    · have d0 : decide ((j : Int) > 0) = true := by simp; omega
      have hBa : Below wr.heap.size wr (wr.alloc (.cells #[.slice aw s.ws.length cw, .int .i64 s.nx, .slice ar s.rv.length cr, .slice ag s.sg.length cg] 27)) := (Below.refl _ wr).alloc (Nat.le_refl _) _
      have F7 := Four.new wr (.slice aw s.ws.length cw) (.int .i64 s.nx) (.slice ar s.rv.length cr) (.slice ag s.sg.length cg) 27
      have h1 := hK.hi
      have h2 := hK.ht
      have h3 := hK.box.lt
      obtain ⟨x0, x1, x2, x3⟩ := hK.box.c
      go_wp2_with fail
      clear x0 x1 x2 x3
      generalize wr.alloc (.cells #[.slice aw s.ws.length cw, .int .i64 s.nx, .slice ar s.rv.length cr, .slice ag s.sg.length cg] 27) = W7 at *
      replace hK := hK.below hBa
      generalize wr.heap.size = k7 at *
      clear hBa
      refine (pick_any b a n c q 6 W7 (by omega) (by omega) hK.by_ hK.cur (by omega)).mono ?_
      rintro e u1 ⟨x6, hx6, rfl, hC1, hg1⟩
      have hB1 := curB_grown hK.by_ hK.cur.apart hK.cur.lt hg1
      have hK1 := hK.grown hbl hg1 hB1 hC1
      replace F7 := (Mid.of_grown (lo := b) (hi := b + 1) hg1 (fun k hk => by cases hk; omega)).four F7 (by omega)
      clear hK hg1
      have hb4 : k4 ≠ b := by omega
      have hk4 : k4 < u1.heap.size := hK1.box.lt
      have hkf : ∀ k ∈ ks, k.size ≤ 1048576 := fun k hk => (hK1.ts k hk).fits
      have htn := hK1.tn
      go_upto_block 2 with fail
      go_cut [8, 9] (fun s8 s9 wx => ∃ (cd : Int) (s' : Is) (aw' : Option Addr) (cw' : Nat) (ar' : Option Addr) (cr' : Nat) (ag' : Option Addr) (cg' : Nat) (bl' tl' : Nat) (vl' : Value) (ks' : List Lk) (tb' tt' q' : Nat), s8 = .int .i64 cd ∧ vl' = s9 ∧ q' ≤ q + 50 ∧ IJ w b a n c wx k4 k7 s aw cw ar cr ag cg (.slice al ks.length cl) ks bl tl tb tt q' i s' aw' cw' ar' cr' ag' cg' bl' tl' vl' ks' tb' tt')
      case first =>
        obtain ⟨x0, x1, x2, x3⟩ := hK1.box.c
        have hx : x6 = 0 ∨ x6 = 1 ∨ x6 = 2 ∨ x6 = 3 ∨ x6 = 4 ∨ x6 = 5 := by omega
        rcases hx with rfl | rfl | rfl | rfl | rfl | rfl
        · go_wp2_with fail
          refine wp_region_held_drew (S := fun w' => w'.cell? ⟨k4, 0, none⟩ = some (.slice aw s.ws.length cw) ∧ w'.cell? ⟨k4, 1, none⟩ = some (.int .i64 s.nx) ∧ w'.cell? ⟨k4, 2, none⟩ = some (.slice ar s.rv.length cr) ∧ w'.cell? ⟨k4, 3, none⟩ = some (.slice ag s.sg.length cg)) (by kernel_rfl) ?_ (fun hHeld => ?_)
          · go_keep
          refine takeW 0 (v := ?v20) rfl (by kernel_rfl) (by kernel_rfl) (by kernel_rfl) (fun _ _ _ h => h) (by rfl) (by assumption) ?hy20 ?rest20
          case hy20 => intro w' hSw; (try dsimp only at hSw); go_simp; try with_reducible rfl
          try simp only [Act.put, List.setIfInBounds_toArray, List.set_cons_zero, List.set_cons_succ]
          refine takeW 1 (v := ?v21) rfl (by kernel_rfl) (by kernel_rfl) (by kernel_rfl) (fun _ _ _ h => h) (by rfl) (by assumption) ?hy21 ?rest21
          case hy21 => intro w' hSw; (try dsimp only at hSw); go_simp; try with_reducible rfl
          try simp only [Act.put, List.setIfInBounds_toArray, List.set_cons_zero, List.set_cons_succ]
          refine takeC 2 (by kernel_rfl) rfl (fun K hK => ?_)
          go_simp
          refine (drawNm_any b a n c (q + 1) _ (hB1.below (Below.refl _ _).drew) (hC1.below (Below.refl _ _).drew) (by omega)).mono ?_; rintro e y1 ⟨nm, hnm, rfl, hBy1, ⟨q1, hq1, hCy1⟩, hgy1⟩; have kk1 := fun o => keep_cellU hgy1 (g := k4) (by exact hk4) hb4 o; have hk4_1 := Nat.lt_of_lt_of_le hk4 hgy1.size; have G1 : u1.grownBy y1 (some b) := g2 (gB (grown_self _ _) (Below.refl _ _).drew) hgy1
          refine hK.out _ _ ?_ (fun hHeld => ?_)
          · go_keep
          clear hK K
          try simp only [Act.put, List.setIfInBounds_toArray, List.set_cons_zero, List.set_cons_succ]
          refine takeC 3 (by kernel_rfl) rfl (fun K hK => ?_)
          go_simp
          have hD := hK1.grown hbl G1 hBy1 hCy1; have hI := hD.iss; have hT := hD.tok; refine (specEnrol_any _ s nm _ _ _ hss hsn (by omega) hI).mono ?_; rintro e z1 ⟨v2, rfl, hO, hBz⟩; have kkz := fun o => hBz.cell (p := ⟨k4, o, none⟩) (by exact hk4_1); have hkz := Nat.lt_of_lt_of_le hk4_1 hBz.size
          refine hK.out _ _ ?_ (fun hHeld => ?_)
          · go_keep
          clear hK K
          try simp only [Act.put, List.setIfInBounds_toArray, List.set_cons_zero, List.set_cons_succ]
          have hm7 : k7 < y1.heap.size := Nat.lt_of_lt_of_le F7.lt G1.size
          have F8 := ((Mid.of_grown (lo := b) (hi := b + 1) G1 (fun k hk => by cases hk; omega)).four F7 (by omega)).below hBz
          replace hD := hD.below hBz
          have hsm : ((enX s nm).1).small (i + 1) := en_small hK1.sm hnm.1
          generalize (enX s nm).1 = s' at *
          generalize (enX s nm).2 = cd at *
          obtain ⟨aw', cw', ar', cr', ag', cg', rfl⟩ := is_forms hO.a
          have hJ := IJ.done hD hbl F8 (by omega) (by omega) (by omega) hO hm7 hBz.size hsm (vl' := .slice none 0 0) (ks' := []) ⟨World.ownsRow_nil _ _ _ _, fun k hk => by simp [Value.ownBlock] at hk⟩ (fun k hk => by cases hk) (by simp)
          obtain ⟨e0, e1, e2, e3⟩ := F8.c
          have g0 := F8.f 0
          have g1 := F8.f 1
          have g2' := F8.f 2
          have g3 := F8.f 3
          have m4 : k4 ≠ k7 := (by omega)
          have m4' : k7 ≠ k4 := (by omega)
          refine takeW 4 (v := ?v22) rfl (by kernel_rfl) (by kernel_rfl) (by kernel_rfl) (fun _ _ _ h => h) (by rfl) (by assumption) ?hy22 ?rest22
          case hy22 => intro w' hSw; (try dsimp only at hSw); go_simp; try with_reducible rfl
          try simp only [Act.put, List.setIfInBounds_toArray, List.set_cons_zero, List.set_cons_succ]
          refine takeW 5 (v := ?v23) rfl (by kernel_rfl) (by kernel_rfl) (by kernel_rfl) (fun _ _ _ h => h) (by rfl) (by assumption) ?hy23 ?rest23
          case hy23 => intro w' hSw; (try dsimp only at hSw); go_simp; try with_reducible rfl
          try simp only [Act.put, List.setIfInBounds_toArray, List.set_cons_zero, List.set_cons_succ]
          refine takeW 6 (v := ?v24) rfl (by kernel_rfl) (by kernel_rfl) (by kernel_rfl) (fun _ _ _ h => h) (by rfl) (by assumption) ?hy24 ?rest24
          case hy24 => intro w' hSw; (try dsimp only at hSw); go_simp; try with_reducible rfl
          try simp only [Act.put, List.setIfInBounds_toArray, List.set_cons_zero, List.set_cons_succ]
          refine takeC 7 (by kernel_rfl) rfl (fun K hK => ?_)
          go_simp
          skip
          refine hK.out _ _ ?_ (fun hHeld => ?_)
          · go_keep
          clear hK K
          try simp only [Act.put, List.setIfInBounds_toArray, List.set_cons_zero, List.set_cons_succ]
          refine takeW 8 (v := ?v25) rfl (by kernel_rfl) (by kernel_rfl) (by kernel_rfl) (fun _ _ _ h => h) (by rfl) (by assumption) ?hy25 ?rest25
          case hy25 => intro w' hSw; (try dsimp only at hSw); go_simp; try with_reducible rfl
          try simp only [Act.put, List.setIfInBounds_toArray, List.set_cons_zero, List.set_cons_succ]
          refine wpAnyH_done (by kernel_rfl) ?_ _
          clear e0 e1 e2 e3 g0 g1 g2' g3
          generalize (((z1.setCell ⟨k7, 0, none⟩ (.slice aw' s'.ws.length cw')).setCell ⟨k7, 1, none⟩ (.int .i64 s'.nx)).setCell ⟨k7, 2, none⟩ (.slice ar' s'.rv.length cr')).setCell ⟨k7, 3, none⟩ (.slice ag' s'.sg.length cg') = Wx at *
          go_wp2_with fail
          go_meet
          exact ⟨cd, _, _, _, _, _, _, _, _, _, _, [], _, _, _, rfl, rfl, by omega, hJ⟩
        · go_wp2_with fail
          refine wp_region_held_drew (S := fun w' => w'.cell? ⟨k4, 0, none⟩ = some (.slice aw s.ws.length cw) ∧ w'.cell? ⟨k4, 1, none⟩ = some (.int .i64 s.nx) ∧ w'.cell? ⟨k4, 2, none⟩ = some (.slice ar s.rv.length cr) ∧ w'.cell? ⟨k4, 3, none⟩ = some (.slice ag s.sg.length cg)) (by kernel_rfl) ?_ (fun hHeld => ?_)
          · go_keep
          refine takeW 0 (v := ?v26) rfl (by kernel_rfl) (by kernel_rfl) (by kernel_rfl) (fun _ _ _ h => h) (by rfl) (by assumption) ?hy26 ?rest26
          case hy26 => intro w' hSw; (try dsimp only at hSw); go_simp; try with_reducible rfl
          try simp only [Act.put, List.setIfInBounds_toArray, List.set_cons_zero, List.set_cons_succ]
          refine takeW 1 (v := ?v27) rfl (by kernel_rfl) (by kernel_rfl) (by kernel_rfl) (fun _ _ _ h => h) (by rfl) (by assumption) ?hy27 ?rest27
          case hy27 => intro w' hSw; (try dsimp only at hSw); go_simp; try with_reducible rfl
          try simp only [Act.put, List.setIfInBounds_toArray, List.set_cons_zero, List.set_cons_succ]
          refine takeC 2 (by kernel_rfl) rfl (fun K hK => ?_)
          go_simp
          refine (drawNm_any b a n c (q + 1) _ (hB1.below (Below.refl _ _).drew) (hC1.below (Below.refl _ _).drew) (by omega)).mono ?_; rintro e y1 ⟨nm, hnm, rfl, hBy1, ⟨q1, hq1, hCy1⟩, hgy1⟩; have kk1 := fun o => keep_cellU hgy1 (g := k4) (by exact hk4) hb4 o; have hk4_1 := Nat.lt_of_lt_of_le hk4 hgy1.size; have G1 : u1.grownBy y1 (some b) := g2 (gB (grown_self _ _) (Below.refl _ _).drew) hgy1
          refine hK.out _ _ ?_ (fun hHeld => ?_)
          · go_keep
          clear hK K
          try simp only [Act.put, List.setIfInBounds_toArray, List.set_cons_zero, List.set_cons_succ]
          refine takeC 3 (by kernel_rfl) rfl (fun K hK => ?_)
          go_simp
          have hD := hK1.grown hbl G1 hBy1 hCy1; have hI := hD.iss; have hT := hD.tok; refine (specEnrol_any _ s nm _ _ _ hss hsn (by omega) hI).mono ?_; rintro e z1 ⟨v2, rfl, hO, hBz⟩; have kkz := fun o => hBz.cell (p := ⟨k4, o, none⟩) (by exact hk4_1); have hkz := Nat.lt_of_lt_of_le hk4_1 hBz.size
          refine hK.out _ _ ?_ (fun hHeld => ?_)
          · go_keep
          clear hK K
          try simp only [Act.put, List.setIfInBounds_toArray, List.set_cons_zero, List.set_cons_succ]
          have hm7 : k7 < y1.heap.size := Nat.lt_of_lt_of_le F7.lt G1.size
          have F8 := ((Mid.of_grown (lo := b) (hi := b + 1) G1 (fun k hk => by cases hk; omega)).four F7 (by omega)).below hBz
          replace hD := hD.below hBz
          have hsm : ((enX s nm).1).small (i + 1) := en_small hK1.sm hnm.1
          generalize (enX s nm).1 = s' at *
          generalize (enX s nm).2 = cd at *
          obtain ⟨aw', cw', ar', cr', ag', cg', rfl⟩ := is_forms hO.a
          have hJ := IJ.done hD hbl F8 (by omega) (by omega) (by omega) hO hm7 hBz.size hsm (vl' := .slice none 0 0) (ks' := []) ⟨World.ownsRow_nil _ _ _ _, fun k hk => by simp [Value.ownBlock] at hk⟩ (fun k hk => by cases hk) (by simp)
          obtain ⟨e0, e1, e2, e3⟩ := F8.c
          have g0 := F8.f 0
          have g1 := F8.f 1
          have g2' := F8.f 2
          have g3 := F8.f 3
          have m4 : k4 ≠ k7 := (by omega)
          have m4' : k7 ≠ k4 := (by omega)
          refine takeW 4 (v := ?v28) rfl (by kernel_rfl) (by kernel_rfl) (by kernel_rfl) (fun _ _ _ h => h) (by rfl) (by assumption) ?hy28 ?rest28
          case hy28 => intro w' hSw; (try dsimp only at hSw); go_simp; try with_reducible rfl
          try simp only [Act.put, List.setIfInBounds_toArray, List.set_cons_zero, List.set_cons_succ]
          refine takeW 5 (v := ?v29) rfl (by kernel_rfl) (by kernel_rfl) (by kernel_rfl) (fun _ _ _ h => h) (by rfl) (by assumption) ?hy29 ?rest29
          case hy29 => intro w' hSw; (try dsimp only at hSw); go_simp; try with_reducible rfl
          try simp only [Act.put, List.setIfInBounds_toArray, List.set_cons_zero, List.set_cons_succ]
          refine takeW 6 (v := ?v30) rfl (by kernel_rfl) (by kernel_rfl) (by kernel_rfl) (fun _ _ _ h => h) (by rfl) (by assumption) ?hy30 ?rest30
          case hy30 => intro w' hSw; (try dsimp only at hSw); go_simp; try with_reducible rfl
          try simp only [Act.put, List.setIfInBounds_toArray, List.set_cons_zero, List.set_cons_succ]
          refine takeC 7 (by kernel_rfl) rfl (fun K hK => ?_)
          go_simp
          skip
          refine hK.out _ _ ?_ (fun hHeld => ?_)
          · go_keep
          clear hK K
          try simp only [Act.put, List.setIfInBounds_toArray, List.set_cons_zero, List.set_cons_succ]
          refine takeW 8 (v := ?v31) rfl (by kernel_rfl) (by kernel_rfl) (by kernel_rfl) (fun _ _ _ h => h) (by rfl) (by assumption) ?hy31 ?rest31
          case hy31 => intro w' hSw; (try dsimp only at hSw); go_simp; try with_reducible rfl
          try simp only [Act.put, List.setIfInBounds_toArray, List.set_cons_zero, List.set_cons_succ]
          refine wpAnyH_done (by kernel_rfl) ?_ _
          clear e0 e1 e2 e3 g0 g1 g2' g3
          generalize (((z1.setCell ⟨k7, 0, none⟩ (.slice aw' s'.ws.length cw')).setCell ⟨k7, 1, none⟩ (.int .i64 s'.nx)).setCell ⟨k7, 2, none⟩ (.slice ar' s'.rv.length cr')).setCell ⟨k7, 3, none⟩ (.slice ag' s'.sg.length cg') = Wx at *
          go_wp2_with fail
          go_meet
          exact ⟨cd, _, _, _, _, _, _, _, _, _, _, [], _, _, _, rfl, rfl, by omega, hJ⟩
        · go_wp2_with fail
          refine wp_region_held_drew (S := fun w' => w'.cell? ⟨k4, 0, none⟩ = some (.slice aw s.ws.length cw) ∧ w'.cell? ⟨k4, 1, none⟩ = some (.int .i64 s.nx) ∧ w'.cell? ⟨k4, 2, none⟩ = some (.slice ar s.rv.length cr) ∧ w'.cell? ⟨k4, 3, none⟩ = some (.slice ag s.sg.length cg)) (by kernel_rfl) ?_ (fun hHeld => ?_)
          · go_keep
          refine takeW 0 (v := ?v32) rfl (by kernel_rfl) (by kernel_rfl) (by kernel_rfl) (fun _ _ _ h => h) (by rfl) (by assumption) ?hy32 ?rest32
          case hy32 => intro w' hSw; (try dsimp only at hSw); go_simp; try with_reducible rfl
          try simp only [Act.put, List.setIfInBounds_toArray, List.set_cons_zero, List.set_cons_succ]
          refine takeW 1 (v := ?v33) rfl (by kernel_rfl) (by kernel_rfl) (by kernel_rfl) (fun _ _ _ h => h) (by rfl) (by assumption) ?hy33 ?rest33
          case hy33 => intro w' hSw; (try dsimp only at hSw); go_simp; try with_reducible rfl
          try simp only [Act.put, List.setIfInBounds_toArray, List.set_cons_zero, List.set_cons_succ]
          refine takeW 3 (v := ?v34) rfl (by kernel_rfl) (by kernel_rfl) (by kernel_rfl) (fun _ _ _ h => h) (by rfl) (by assumption) ?hy34 ?rest34
          case hy34 => intro w' hSw; (try dsimp only at hSw); go_simp; try with_reducible rfl
          try simp only [Act.put, List.setIfInBounds_toArray, List.set_cons_zero, List.set_cons_succ]
          refine takeW 5 (v := ?v35) rfl (by kernel_rfl) (by kernel_rfl) (by kernel_rfl) (fun _ _ _ h => h) (by rfl) (by assumption) ?hy35 ?rest35
          case hy35 => intro w' hSw; (try dsimp only at hSw); go_simp; try with_reducible rfl
          try simp only [Act.put, List.setIfInBounds_toArray, List.set_cons_zero, List.set_cons_succ]
          refine takeW 7 (v := ?v36) rfl (by kernel_rfl) (by kernel_rfl) (by kernel_rfl) (fun _ _ _ h => h) (by rfl) (by assumption) ?hy36 ?rest36
          case hy36 => intro w' hSw; (try dsimp only at hSw); go_simp; try with_reducible rfl
          try simp only [Act.put, List.setIfInBounds_toArray, List.set_cons_zero, List.set_cons_succ]
          refine takeC 2 (by kernel_rfl) rfl (fun K hK => ?_)
          go_simp
          refine (drawNm_any b a n c (q + 1) _ (hB1.below (Below.refl _ _).drew) (hC1.below (Below.refl _ _).drew) (by omega)).mono ?_; rintro e y1 ⟨nm, hnm, rfl, hBy1, ⟨q1, hq1, hCy1⟩, hgy1⟩; have kk1 := fun o => keep_cellU hgy1 (g := k4) (by exact hk4) hb4 o; have hk4_1 := Nat.lt_of_lt_of_le hk4 hgy1.size; have G1 : u1.grownBy y1 (some b) := g2 (gB (grown_self _ _) (Below.refl _ _).drew) hgy1
          refine hK.out _ _ ?_ (fun hHeld => ?_)
          · go_keep
          clear hK K
          try simp only [Act.put, List.setIfInBounds_toArray, List.set_cons_zero, List.set_cons_succ]
          refine takeC 4 (by kernel_rfl) rfl (fun K hK => ?_)
          go_simp
          refine (drawNm_any b a n c (q1) _ hBy1 hCy1 (by omega)).mono ?_; rintro e y2 ⟨tq, htq, rfl, hBy2, ⟨q2, hq2, hCy2⟩, hgy2⟩; have kk2 := fun o => keep_cellU hgy2 (g := k4) (by exact hk4_1) hb4 o; have hk4_2 := Nat.lt_of_lt_of_le hk4_1 hgy2.size; have G2 : u1.grownBy y2 (some b) := g2 G1 hgy2
          refine hK.out _ _ ?_ (fun hHeld => ?_)
          · go_keep
          clear hK K
          try simp only [Act.put, List.setIfInBounds_toArray, List.set_cons_zero, List.set_cons_succ]
          refine takeC 6 (by kernel_rfl) rfl (fun K hK => ?_)
          go_simp
          refine (pick_any b a n c (q2) 20 _ (by omega) (by omega) hBy2 hCy2 (by omega)).mono ?_; rintro e y3 ⟨nw, hnw, rfl, hCy3, hgy3⟩; have hBy3 := curB_grown hBy2 hCy2.apart hCy2.lt hgy3; have kk3 := fun o => keep_cellU hgy3 (g := k4) (by exact hk4_2) hb4 o; have hk4_3 := Nat.lt_of_lt_of_le hk4_2 hgy3.size; have G3 : u1.grownBy y3 (some b) := g2 G2 hgy3
          refine hK.out _ _ ?_ (fun hHeld => ?_)
          · go_keep
          clear hK K
          try simp only [Act.put, List.setIfInBounds_toArray, List.set_cons_zero, List.set_cons_succ]
          refine takeC 8 (by kernel_rfl) rfl (fun K hK => ?_)
          go_simp
          refine (pick_any b a n c ((q2) + 1) 60 _ (by omega) (by omega) hBy3 hCy3 (by omega)).mono ?_; rintro e y4 ⟨li, hli, rfl, hCy4, hgy4⟩; have hBy4 := curB_grown hBy3 hCy3.apart hCy3.lt hgy4; have kk4 := fun o => keep_cellU hgy4 (g := k4) (by exact hk4_3) hb4 o; have hk4_4 := Nat.lt_of_lt_of_le hk4_3 hgy4.size; have G4 : u1.grownBy y4 (some b) := g2 G3 hgy4
          refine hK.out _ _ ?_ (fun hHeld => ?_)
          · go_keep
          clear hK K
          try simp only [Act.put, List.setIfInBounds_toArray, List.set_cons_zero, List.set_cons_succ]
          refine takeC 9 (by kernel_rfl) rfl (fun K hK => ?_)
          go_simp
          have hD := hK1.grown hbl G4 hBy4 hCy4; have hI := hD.iss; have hT := hD.tok; refine (specIssue_any _ s nm tq nw li _ _ _ hss hsn (by omega) (by omega) hI).mono ?_; rintro e z1 ⟨v2, vk, rfl, hO, hRk, hBz⟩; have kkz := fun o => hBz.cell (p := ⟨k4, o, none⟩) (by exact hk4_4); have hkz := Nat.lt_of_lt_of_le hk4_4 hBz.size
          refine hK.out _ _ ?_ (fun hHeld => ?_)
          · go_keep
          clear hK K
          try simp only [Act.put, List.setIfInBounds_toArray, List.set_cons_zero, List.set_cons_succ]
          have hm7 : k7 < y4.heap.size := Nat.lt_of_lt_of_le F7.lt G4.size
          have F8 := ((Mid.of_grown (lo := b) (hi := b + 1) G4 (fun k hk => by cases hk; omega)).four F7 (by omega)).below hBz
          replace hD := hD.below hBz
          have hsm : (hdX (itE s nm tq nw li) s [itK s nm tq nw li] nm).small (i + 1) := hd_small _ _ _ hK1.sm
          generalize hdX (itE s nm tq nw li) s [itK s nm tq nw li] nm = s' at *
          generalize (itE s nm tq nw li).code = cd at *
          obtain ⟨aw', cw', ar', cr', ag', cg', rfl⟩ := is_forms hO.a
          have htd := it_drawn (s := s) (nw := nw) (li := li) hnm.1 htq
          generalize itL s nm tq nw li = ks' at *
          obtain ⟨ak, ck, rfl⟩ := ownsRow_len hRk
          have hJ := IJ.done hD hbl F8 (by omega) (by omega) (by omega) hO hm7 hBz.size hsm (RoO.of hRk) htd.2 (by have := htd.1; have := hK1.tn; omega)
          obtain ⟨e0, e1, e2, e3⟩ := F8.c
          have g0 := F8.f 0
          have g1 := F8.f 1
          have g2' := F8.f 2
          have g3 := F8.f 3
          have m4 : k4 ≠ k7 := (by omega)
          have m4' : k7 ≠ k4 := (by omega)
          refine takeW 10 (v := ?v37) rfl (by kernel_rfl) (by kernel_rfl) (by kernel_rfl) (fun _ _ _ h => h) (by rfl) (by assumption) ?hy37 ?rest37
          case hy37 => intro w' hSw; (try dsimp only at hSw); go_simp; try with_reducible rfl
          try simp only [Act.put, List.setIfInBounds_toArray, List.set_cons_zero, List.set_cons_succ]
          refine takeW 11 (v := ?v38) rfl (by kernel_rfl) (by kernel_rfl) (by kernel_rfl) (fun _ _ _ h => h) (by rfl) (by assumption) ?hy38 ?rest38
          case hy38 => intro w' hSw; (try dsimp only at hSw); go_simp; try with_reducible rfl
          try simp only [Act.put, List.setIfInBounds_toArray, List.set_cons_zero, List.set_cons_succ]
          refine takeW 12 (v := ?v39) rfl (by kernel_rfl) (by kernel_rfl) (by kernel_rfl) (fun _ _ _ h => h) (by rfl) (by assumption) ?hy39 ?rest39
          case hy39 => intro w' hSw; (try dsimp only at hSw); go_simp; try with_reducible rfl
          try simp only [Act.put, List.setIfInBounds_toArray, List.set_cons_zero, List.set_cons_succ]
          refine takeW 13 (v := ?v40) rfl (by kernel_rfl) (by kernel_rfl) (by kernel_rfl) (fun _ _ _ h => h) (by rfl) (by assumption) ?hy40 ?rest40
          case hy40 => intro w' hSw; (try dsimp only at hSw); go_simp; try with_reducible rfl
          try simp only [Act.put, List.setIfInBounds_toArray, List.set_cons_zero, List.set_cons_succ]
          refine takeC 14 (by kernel_rfl) rfl (fun K hK => ?_)
          go_simp
          skip
          refine hK.out _ _ ?_ (fun hHeld => ?_)
          · go_keep
          clear hK K
          try simp only [Act.put, List.setIfInBounds_toArray, List.set_cons_zero, List.set_cons_succ]
          refine takeW 15 (v := ?v41) rfl (by kernel_rfl) (by kernel_rfl) (by kernel_rfl) (fun _ _ _ h => h) (by rfl) (by assumption) ?hy41 ?rest41
          case hy41 => intro w' hSw; (try dsimp only at hSw); go_simp; try with_reducible rfl
          try simp only [Act.put, List.setIfInBounds_toArray, List.set_cons_zero, List.set_cons_succ]
          refine takeW 16 (v := ?v42) rfl (by kernel_rfl) (by kernel_rfl) (by kernel_rfl) (fun _ _ _ h => h) (by rfl) (by assumption) ?hy42 ?rest42
          case hy42 => intro w' hSw; (try dsimp only at hSw); go_simp; try with_reducible rfl
          try simp only [Act.put, List.setIfInBounds_toArray, List.set_cons_zero, List.set_cons_succ]
          refine wpAnyH_done (by kernel_rfl) ?_ _
          clear e0 e1 e2 e3 g0 g1 g2' g3
          generalize (((z1.setCell ⟨k7, 0, none⟩ (.slice aw' s'.ws.length cw')).setCell ⟨k7, 1, none⟩ (.int .i64 s'.nx)).setCell ⟨k7, 2, none⟩ (.slice ar' s'.rv.length cr')).setCell ⟨k7, 3, none⟩ (.slice ag' s'.sg.length cg') = Wx at *
          go_wp2_with fail
          go_meet
          exact ⟨cd, _, _, _, _, _, _, _, _, _, _, _, _, _, _, rfl, rfl, by omega, hJ⟩
        · by_cases hl0 : 0 < ks.length
          · have hp0 : decide ((ks.length : Int) > 0) = true := by simp; omega
            go_wp2_with fail
            refine wp_region_held_drew (S := fun w' => w'.cell? ⟨k4, 0, none⟩ = some (.slice aw s.ws.length cw) ∧ w'.cell? ⟨k4, 1, none⟩ = some (.int .i64 s.nx) ∧ w'.cell? ⟨k4, 2, none⟩ = some (.slice ar s.rv.length cr) ∧ w'.cell? ⟨k4, 3, none⟩ = some (.slice ag s.sg.length cg)) (by kernel_rfl) ?_ (fun hHeld => ?_)
            · go_keep
            refine takeW 0 (v := ?v43) rfl (by kernel_rfl) (by kernel_rfl) (by kernel_rfl) (fun _ _ _ h => h) (by rfl) (by assumption) ?hy43 ?rest43
            case hy43 => intro w' hSw; (try dsimp only at hSw); go_simp; try with_reducible rfl
            try simp only [Act.put, List.setIfInBounds_toArray, List.set_cons_zero, List.set_cons_succ]
            refine takeW 1 (v := ?v44) rfl (by kernel_rfl) (by kernel_rfl) (by kernel_rfl) (fun _ _ _ h => h) (by rfl) (by assumption) ?hy44 ?rest44
            case hy44 => intro w' hSw; (try dsimp only at hSw); go_simp; try with_reducible rfl
            try simp only [Act.put, List.setIfInBounds_toArray, List.set_cons_zero, List.set_cons_succ]
            refine takeW 2 (v := ?v45) rfl (by kernel_rfl) (by kernel_rfl) (by kernel_rfl) (fun _ _ _ h => h) (by rfl) (by assumption) ?hy45 ?rest45
            case hy45 => intro w' hSw; (try dsimp only at hSw); go_simp; try with_reducible rfl
            try simp only [Act.put, List.setIfInBounds_toArray, List.set_cons_zero, List.set_cons_succ]
            refine takeW 4 (v := ?v46) rfl (by kernel_rfl) (by kernel_rfl) (by kernel_rfl) (fun _ _ _ h => h) (by rfl) (by assumption) ?hy46 ?rest46
            case hy46 => intro w' hSw; (try dsimp only at hSw); go_simp; try with_reducible rfl
            try simp only [Act.put, List.setIfInBounds_toArray, List.set_cons_zero, List.set_cons_succ]
            refine takeW 6 (v := ?v47) rfl (by kernel_rfl) (by kernel_rfl) (by kernel_rfl) (fun _ _ _ h => h) (by rfl) (by assumption) ?hy47 ?rest47
            case hy47 => intro w' hSw; (try dsimp only at hSw); go_simp; try with_reducible rfl
            try simp only [Act.put, List.setIfInBounds_toArray, List.set_cons_zero, List.set_cons_succ]
            refine takeC 3 (by kernel_rfl) rfl (fun K hK => ?_)
            go_simp
            refine (drawNm_any b a n c (q + 1) _ (hB1.below (Below.refl _ _).drew) (hC1.below (Below.refl _ _).drew) (by omega)).mono ?_; rintro e y1 ⟨tq, htq, rfl, hBy1, ⟨q1, hq1, hCy1⟩, hgy1⟩; have kk1 := fun o => keep_cellU hgy1 (g := k4) (by exact hk4) hb4 o; have hk4_1 := Nat.lt_of_lt_of_le hk4 hgy1.size; have G1 : u1.grownBy y1 (some b) := g2 (gB (grown_self _ _) (Below.refl _ _).drew) hgy1
            refine hK.out _ _ ?_ (fun hHeld => ?_)
            · go_keep
            clear hK K
            try simp only [Act.put, List.setIfInBounds_toArray, List.set_cons_zero, List.set_cons_succ]
            refine takeC 5 (by kernel_rfl) rfl (fun K hK => ?_)
            go_simp
            refine (pick_any b a n c (q1) 20 _ (by omega) (by omega) hBy1 hCy1 (by omega)).mono ?_; rintro e y2 ⟨nw, hnw, rfl, hCy2, hgy2⟩; have hBy2 := curB_grown hBy1 hCy1.apart hCy1.lt hgy2; have kk2 := fun o => keep_cellU hgy2 (g := k4) (by exact hk4_1) hb4 o; have hk4_2 := Nat.lt_of_lt_of_le hk4_1 hgy2.size; have G2 : u1.grownBy y2 (some b) := g2 G1 hgy2
            refine hK.out _ _ ?_ (fun hHeld => ?_)
            · go_keep
            clear hK K
            try simp only [Act.put, List.setIfInBounds_toArray, List.set_cons_zero, List.set_cons_succ]
            refine takeC 7 (by kernel_rfl) rfl (fun K hK => ?_)
            go_simp
            refine (pick_any b a n c ((q1) + 1) 60 _ (by omega) (by omega) hBy2 hCy2 (by omega)).mono ?_; rintro e y3 ⟨li, hli, rfl, hCy3, hgy3⟩; have hBy3 := curB_grown hBy2 hCy2.apart hCy2.lt hgy3; have kk3 := fun o => keep_cellU hgy3 (g := k4) (by exact hk4_2) hb4 o; have hk4_3 := Nat.lt_of_lt_of_le hk4_2 hgy3.size; have G3 : u1.grownBy y3 (some b) := g2 G2 hgy3
            refine hK.out _ _ ?_ (fun hHeld => ?_)
            · go_keep
            clear hK K
            try simp only [Act.put, List.setIfInBounds_toArray, List.set_cons_zero, List.set_cons_succ]
            refine takeC 8 (by kernel_rfl) rfl (fun K hK => ?_)
            go_simp
            have hD := hK1.grown hbl G3 hBy3 hCy3; have hI := hD.iss; have hT := hD.tok; refine (specHop_any _ s _ ks tq nw li _ _ _ hss hsn (by omega) hkf (by omega) hI (LkS.own hT.1)).mono ?_; rintro e z1 ⟨v2, vk, rfl, hO, hRk, hBz⟩; have kkz := fun o => hBz.cell (p := ⟨k4, o, none⟩) (by exact hk4_3); have hkz := Nat.lt_of_lt_of_le hk4_3 hBz.size
            refine hK.out _ _ ?_ (fun hHeld => ?_)
            · go_keep
            clear hK K
            try simp only [Act.put, List.setIfInBounds_toArray, List.set_cons_zero, List.set_cons_succ]
            have hm7 : k7 < y3.heap.size := Nat.lt_of_lt_of_le F7.lt G3.size
            have F8 := ((Mid.of_grown (lo := b) (hi := b + 1) G3 (fun k hk => by cases hk; omega)).four F7 (by omega)).below hBz
            replace hD := hD.below hBz
            have hsm : (hdX (hpE s ks tq nw li) s (extL ks tq s.nx nw li) (hpW ks)).small (i + 1) := hd_small _ _ _ hK1.sm
            generalize hdX (hpE s ks tq nw li) s (extL ks tq s.nx nw li) (hpW ks) = s' at *
            generalize (hpE s ks tq nw li).code = cd at *
            obtain ⟨aw', cw', ar', cr', ag', cg', rfl⟩ := is_forms hO.a
            have htd := hp_drawn (s := s) (nw := nw) (li := li) hK1.ts htq
            generalize hpL s ks tq nw li = ks' at *
            obtain ⟨ak, ck, rfl⟩ := ownsRow_len hRk
            have hJ := IJ.done hD hbl F8 (by omega) (by omega) (by omega) hO hm7 hBz.size hsm (RoO.of hRk) htd.2 (by have := htd.1; have := hK1.tn; omega)
            obtain ⟨e0, e1, e2, e3⟩ := F8.c
            have g0 := F8.f 0
            have g1 := F8.f 1
            have g2' := F8.f 2
            have g3 := F8.f 3
            have m4 : k4 ≠ k7 := (by omega)
            have m4' : k7 ≠ k4 := (by omega)
            refine takeW 9 (v := ?v48) rfl (by kernel_rfl) (by kernel_rfl) (by kernel_rfl) (fun _ _ _ h => h) (by rfl) (by assumption) ?hy48 ?rest48
            case hy48 => intro w' hSw; (try dsimp only at hSw); go_simp; try with_reducible rfl
            try simp only [Act.put, List.setIfInBounds_toArray, List.set_cons_zero, List.set_cons_succ]
            refine takeW 10 (v := ?v49) rfl (by kernel_rfl) (by kernel_rfl) (by kernel_rfl) (fun _ _ _ h => h) (by rfl) (by assumption) ?hy49 ?rest49
            case hy49 => intro w' hSw; (try dsimp only at hSw); go_simp; try with_reducible rfl
            try simp only [Act.put, List.setIfInBounds_toArray, List.set_cons_zero, List.set_cons_succ]
            refine takeW 11 (v := ?v50) rfl (by kernel_rfl) (by kernel_rfl) (by kernel_rfl) (fun _ _ _ h => h) (by rfl) (by assumption) ?hy50 ?rest50
            case hy50 => intro w' hSw; (try dsimp only at hSw); go_simp; try with_reducible rfl
            try simp only [Act.put, List.setIfInBounds_toArray, List.set_cons_zero, List.set_cons_succ]
            refine takeW 12 (v := ?v51) rfl (by kernel_rfl) (by kernel_rfl) (by kernel_rfl) (fun _ _ _ h => h) (by rfl) (by assumption) ?hy51 ?rest51
            case hy51 => intro w' hSw; (try dsimp only at hSw); go_simp; try with_reducible rfl
            try simp only [Act.put, List.setIfInBounds_toArray, List.set_cons_zero, List.set_cons_succ]
            refine takeC 13 (by kernel_rfl) rfl (fun K hK => ?_)
            go_simp
            skip
            refine hK.out _ _ ?_ (fun hHeld => ?_)
            · go_keep
            clear hK K
            try simp only [Act.put, List.setIfInBounds_toArray, List.set_cons_zero, List.set_cons_succ]
            refine takeW 14 (v := ?v52) rfl (by kernel_rfl) (by kernel_rfl) (by kernel_rfl) (fun _ _ _ h => h) (by rfl) (by assumption) ?hy52 ?rest52
            case hy52 => intro w' hSw; (try dsimp only at hSw); go_simp; try with_reducible rfl
            try simp only [Act.put, List.setIfInBounds_toArray, List.set_cons_zero, List.set_cons_succ]
            refine takeW 15 (v := ?v53) rfl (by kernel_rfl) (by kernel_rfl) (by kernel_rfl) (fun _ _ _ h => h) (by rfl) (by assumption) ?hy53 ?rest53
            case hy53 => intro w' hSw; (try dsimp only at hSw); go_simp; try with_reducible rfl
            try simp only [Act.put, List.setIfInBounds_toArray, List.set_cons_zero, List.set_cons_succ]
            refine wpAnyH_done (by kernel_rfl) ?_ _
            clear e0 e1 e2 e3 g0 g1 g2' g3
            generalize (((z1.setCell ⟨k7, 0, none⟩ (.slice aw' s'.ws.length cw')).setCell ⟨k7, 1, none⟩ (.int .i64 s'.nx)).setCell ⟨k7, 2, none⟩ (.slice ar' s'.rv.length cr')).setCell ⟨k7, 3, none⟩ (.slice ag' s'.sg.length cg') = Wx at *
            go_wp2_with fail
            go_meet
            exact ⟨cd, _, _, _, _, _, _, _, _, _, _, _, _, _, _, rfl, rfl, by omega, hJ⟩
          · have hp0 : decide ((ks.length : Int) > 0) = false := decide_eq_false (by omega)
            go_wp2_with fail
            go_meet
            exact ⟨0, _, _, _, _, _, _, _, _, _, _, [], _, _, _, rfl, rfl, by omega, IJ.idle hK1 F7⟩
        · go_wp2_with fail
          refine (one_any b a n c (q + 1) 2 u1 (by omega) (by omega) hB1 hC1 (by omega)).mono ?_
          rintro e u2 ⟨o2, rfl, hC1', hg2⟩
          have hB1' := curB_grown hB1 hC1.apart hC1.lt hg2
          replace hK1 := hK1.grown hbl hg2 hB1' hC1'
          replace F7 := (Mid.of_grown (lo := b) (hi := b + 1) hg2 (fun k hk => by cases hk; omega)).four F7 (by omega)
          replace hk4 : k4 < u2.heap.size := hK1.box.lt
          clear hB1 hC1 hg2 x0 x1 x2 x3
          have hB1 := hB1'
          have hC1 := hC1'
          clear hB1' hC1'
          obtain ⟨x0, x1, x2, x3⟩ := hK1.box.c
          cases o2
          · go_wp2_with fail
            go_meet
            exact ⟨0, _, _, _, _, _, _, _, _, _, _, [], _, _, _, rfl, rfl, by omega, IJ.idle hK1 F7⟩
          · go_wp2_with fail
            refine wp_region_held_drew (S := fun w' => w'.cell? ⟨k4, 0, none⟩ = some (.slice aw s.ws.length cw) ∧ w'.cell? ⟨k4, 1, none⟩ = some (.int .i64 s.nx) ∧ w'.cell? ⟨k4, 2, none⟩ = some (.slice ar s.rv.length cr) ∧ w'.cell? ⟨k4, 3, none⟩ = some (.slice ag s.sg.length cg)) (by kernel_rfl) ?_ (fun hHeld => ?_)
            · go_keep
            refine takeW 0 (v := ?v54) rfl (by kernel_rfl) (by kernel_rfl) (by kernel_rfl) (fun _ _ _ h => h) (by rfl) (by assumption) ?hy54 ?rest54
            case hy54 => intro w' hSw; (try dsimp only at hSw); go_simp; try with_reducible rfl
            try simp only [Act.put, List.setIfInBounds_toArray, List.set_cons_zero, List.set_cons_succ]
            refine takeW 1 (v := ?v55) rfl (by kernel_rfl) (by kernel_rfl) (by kernel_rfl) (fun _ _ _ h => h) (by rfl) (by assumption) ?hy55 ?rest55
            case hy55 => intro w' hSw; (try dsimp only at hSw); go_simp; try with_reducible rfl
            try simp only [Act.put, List.setIfInBounds_toArray, List.set_cons_zero, List.set_cons_succ]
            refine takeC 2 (by kernel_rfl) rfl (fun K hK => ?_)
            go_simp
            refine (drawNm_any b a n c (q + 1 + 1) _ (hB1.below (Below.refl _ _).drew) (hC1.below (Below.refl _ _).drew) (by omega)).mono ?_; rintro e y1 ⟨nm, hnm, rfl, hBy1, ⟨q1, hq1, hCy1⟩, hgy1⟩; have kk1 := fun o => keep_cellU hgy1 (g := k4) (by exact hk4) hb4 o; have hk4_1 := Nat.lt_of_lt_of_le hk4 hgy1.size; have G1 : u2.grownBy y1 (some b) := g2 (gB (grown_self _ _) (Below.refl _ _).drew) hgy1
            refine hK.out _ _ ?_ (fun hHeld => ?_)
            · go_keep
            clear hK K
            try simp only [Act.put, List.setIfInBounds_toArray, List.set_cons_zero, List.set_cons_succ]
            refine takeC 3 (by kernel_rfl) rfl (fun K hK => ?_)
            go_simp
            have hD := hK1.grown hbl G1 hBy1 hCy1; have hI := hD.iss; have hT := hD.tok; refine (specRevoke_any _ s nm _ _ _ hss hsn (by omega) hI).mono ?_; rintro e z1 ⟨v2, rfl, hO, hBz⟩; have kkz := fun o => hBz.cell (p := ⟨k4, o, none⟩) (by exact hk4_1); have hkz := Nat.lt_of_lt_of_le hk4_1 hBz.size
            refine hK.out _ _ ?_ (fun hHeld => ?_)
            · go_keep
            clear hK K
            try simp only [Act.put, List.setIfInBounds_toArray, List.set_cons_zero, List.set_cons_succ]
            have hm7 : k7 < y1.heap.size := Nat.lt_of_lt_of_le F7.lt G1.size
            have F8 := ((Mid.of_grown (lo := b) (hi := b + 1) G1 (fun k hk => by cases hk; omega)).four F7 (by omega)).below hBz
            replace hD := hD.below hBz
            have hsm : ((rkX s nm).1).small (i + 1) := rk_small hK1.sm
            generalize (rkX s nm).1 = s' at *
            generalize (rkX s nm).2.2 = cd at *
            obtain ⟨aw', cw', ar', cr', ag', cg', rfl⟩ := is_forms hO.a
            have hJ := IJ.done hD hbl F8 (by omega) (by omega) (by omega) hO hm7 hBz.size hsm (vl' := .slice none 0 0) (ks' := []) ⟨World.ownsRow_nil _ _ _ _, fun k hk => by simp [Value.ownBlock] at hk⟩ (fun k hk => by cases hk) (by simp)
            obtain ⟨e0, e1, e2, e3⟩ := F8.c
            have g0 := F8.f 0
            have g1 := F8.f 1
            have g2' := F8.f 2
            have g3 := F8.f 3
            have m4 : k4 ≠ k7 := (by omega)
            have m4' : k7 ≠ k4 := (by omega)
            refine takeW 4 (v := ?v56) rfl (by kernel_rfl) (by kernel_rfl) (by kernel_rfl) (fun _ _ _ h => h) (by rfl) (by assumption) ?hy56 ?rest56
            case hy56 => intro w' hSw; (try dsimp only at hSw); go_simp; try with_reducible rfl
            try simp only [Act.put, List.setIfInBounds_toArray, List.set_cons_zero, List.set_cons_succ]
            refine takeW 5 (v := ?v57) rfl (by kernel_rfl) (by kernel_rfl) (by kernel_rfl) (fun _ _ _ h => h) (by rfl) (by assumption) ?hy57 ?rest57
            case hy57 => intro w' hSw; (try dsimp only at hSw); go_simp; try with_reducible rfl
            try simp only [Act.put, List.setIfInBounds_toArray, List.set_cons_zero, List.set_cons_succ]
            refine takeW 6 (v := ?v58) rfl (by kernel_rfl) (by kernel_rfl) (by kernel_rfl) (fun _ _ _ h => h) (by rfl) (by assumption) ?hy58 ?rest58
            case hy58 => intro w' hSw; (try dsimp only at hSw); go_simp; try with_reducible rfl
            try simp only [Act.put, List.setIfInBounds_toArray, List.set_cons_zero, List.set_cons_succ]
            refine takeW 7 (v := ?v59) rfl (by kernel_rfl) (by kernel_rfl) (by kernel_rfl) (fun _ _ _ h => h) (by rfl) (by assumption) ?hy59 ?rest59
            case hy59 => intro w' hSw; (try dsimp only at hSw); go_simp; try with_reducible rfl
            try simp only [Act.put, List.setIfInBounds_toArray, List.set_cons_zero, List.set_cons_succ]
            refine takeC 8 (by kernel_rfl) rfl (fun K hK => ?_)
            go_simp
            skip
            refine hK.out _ _ ?_ (fun hHeld => ?_)
            · go_keep
            clear hK K
            try simp only [Act.put, List.setIfInBounds_toArray, List.set_cons_zero, List.set_cons_succ]
            refine takeW 9 (v := ?v60) rfl (by kernel_rfl) (by kernel_rfl) (by kernel_rfl) (fun _ _ _ h => h) (by rfl) (by assumption) ?hy60 ?rest60
            case hy60 => intro w' hSw; (try dsimp only at hSw); go_simp; try with_reducible rfl
            try simp only [Act.put, List.setIfInBounds_toArray, List.set_cons_zero, List.set_cons_succ]
            refine wpAnyH_done (by kernel_rfl) ?_ _
            clear e0 e1 e2 e3 g0 g1 g2' g3
            generalize (((z1.setCell ⟨k7, 0, none⟩ (.slice aw' s'.ws.length cw')).setCell ⟨k7, 1, none⟩ (.int .i64 s'.nx)).setCell ⟨k7, 2, none⟩ (.slice ar' s'.rv.length cr')).setCell ⟨k7, 3, none⟩ (.slice ag' s'.sg.length cg') = Wx at *
            go_wp2_with fail
            go_meet
            exact ⟨cd, _, _, _, _, _, _, _, _, _, _, [], _, _, _, rfl, rfl, by omega, hJ⟩
        · go_wp2_with fail
          go_meet
          exact ⟨0, _, _, _, _, _, _, _, _, _, _, [], _, _, _, rfl, rfl, by omega, IJ.idle hK1 F7⟩
      case rest =>
      obtain ⟨cd, s', aw', cw', ar', cr', ag', cg', bl', tl', vl', ks', tb', tt', q', rfl, rfl, hq', hJ⟩ := hcut
      clear hK1 F7 hB1 hC1
      obtain ⟨ak', ck', rfl⟩ := RoO.len hJ.tok
      by_cases hl9 : 0 < ks'.length
      · have hp9 : decide ((ks'.length : Int) > 0) = true := decide_eq_true (by omega)
        cases e8 : (cd == 0)
        · have hI0 := hJ.tokNew hbl
          clear hJ
          go_wp2_with fail
          go_roundw
          case rel => exact ⟨_, s, _, _, _, _, _, _, ks', _, _, _, _, _, j - 1, i + 1, rfl, by go_num, by omega, by omega, hI0⟩
          case measure => simp [intOf]; omega
        · obtain ⟨t0, t1, t2, t3⟩ := hJ.box.c
          obtain ⟨x0, x1, x2, x3⟩ := hJ.id.box.c
          have f0 := hJ.id.box.f 0
          have f1 := hJ.id.box.f 1
          have f2 := hJ.id.box.f 2
          have f3 := hJ.id.box.f 3
          have hI0 := hJ.setTok hbl
          clear hJ
          go_wp2_with fail
          go_roundw
          case rel => exact ⟨_, s', _, _, _, _, _, _, ks', _, _, _, _, _, j - 1, i + 1, rfl, by go_num, by omega, by omega, hI0⟩
          case measure => simp [intOf]; omega
      · have hp9 : decide ((ks'.length : Int) > 0) = false := decide_eq_false (by omega)
        cases e8 : (cd == 0)
        · have hI0 := hJ.id.up
          clear hJ
          go_wp2_with fail
          go_roundw
          case rel => exact ⟨_, s, _, _, _, _, _, _, ks, _, _, _, _, _, j - 1, i + 1, rfl, by go_num, by omega, by omega, hI0⟩
          case measure => simp [intOf]; omega
        · obtain ⟨t0, t1, t2, t3⟩ := hJ.box.c
          obtain ⟨x0, x1, x2, x3⟩ := hJ.id.box.c
          have f0 := hJ.id.box.f 0
          have f1 := hJ.id.box.f 1
          have f2 := hJ.id.box.f 2
          have f3 := hJ.id.box.f 3
          have hI0 := hJ.set hbl
          clear hJ
          go_wp2_with fail
          go_roundw
          case rel => exact ⟨_, s', _, _, _, _, _, _, ks, _, _, _, _, _, j - 1, i + 1, rfl, by go_num, by omega, by omega, hI0⟩
          case measure => simp [intOf]; omega
    · obtain rfl : j = 0 := by omega
      have d0 : decide (((0 : Nat) : Int) > 0) = false := by decide
      go_wp2_with fail
      refine (pick_any b a n c q 40 wr (by omega) (by omega) hK.by_ hK.cur (by omega)).mono ?_
      rintro e u1 ⟨x4, hx4, rfl, hC1, hg1⟩
      have hB1 := curB_grown hK.by_ hK.cur.apart hK.cur.lt hg1
      replace hK := hK.grown hbl hg1 hB1 hC1
      clear hg1
      have hsm := hK.sm
      have hx : x4 = 0 ∨ x4 = 1 ∨ x4 = 2 ∨ x4 = 3 ∨ 4 ≤ x4 := by omega
      rcases hx with rfl | rfl | rfl | rfl | hx
      · go_wp2_with fail
        refine (amongNew_any b a n c (q + 1) [0, 1, 99999, 100000, 100001] u1 (by decide) (by decide) hB1 hC1 (by omega)).mono ?_
        rintro e u2 ⟨z, _, rfl, hB2, hC2, hg2⟩
        replace hK := hK.grown hbl hg2 hB2 hC2
        clear hB1 hC1 hB2 hC2 hg2
        have hbox : (Four u2 27 k4 (.slice aw s.ws.length cw) (.int .i64 s.nx) (.slice ar s.rv.length cr) (.slice ag s.sg.length cg) ∧ Four u2 27 w.heap.size (.slice none 0 0) (.int .i64 0) (.slice none 0 0) (.slice none 0 0)) ∧ w.heap.size < k4 ∧ k4 < bl := ⟨⟨hK.box, hK.res⟩, hK.kw, hK.lo⟩
        have hI := hK.iss.next z
        have hL0 : Below w.heap.size u2 u2 := Below.refl _ _
        have hkw := hbox.2.1
        have hlo := hbox.2.2
        obtain ⟨x0, x1, x2, x3⟩ := hbox.1.1.c
        obtain ⟨r0, r1, r2, r3⟩ := hbox.1.2.c
        have b0 := hbox.1.1.f 1
        have f0 := hbox.1.2.f 0
        have f1 := hbox.1.2.f 1
        have f2 := hbox.1.2.f 2
        have f3 := hbox.1.2.f 3
        have M1 : Mid k4 (k4 + 1) u2 (u2.setCell ⟨k4, 1, none⟩ (.int .i64 z)) := (Mid.of_below (Below.refl _ _)).set (p := ⟨k4, 1, none⟩) (Nat.le_refl _) (Nat.lt_succ_self _) _
        have G1 := M1.four hbox.1.2 (by omega)
        obtain ⟨u0, u1', u2', u3'⟩ := G1.c
        have v0 := G1.f 0
        have v1 := G1.f 1
        have v2' := G1.f 2
        have v3 := G1.f 3
        have G := (((G1.s0 (.slice aw s.ws.length cw)).s1 (.int .i64 z)).s2 (.slice ar s.rv.length cr)).s3 (.slice ag s.sg.length cg)
        have M2 := four_mid (u2.setCell ⟨k4, 1, none⟩ (.int .i64 z)) w.heap.size (.slice aw s.ws.length cw) (.int .i64 z) (.slice ar s.rv.length cr) (.slice ag s.sg.length cg)
        have hI2 := M2.iso (M1.iso hI (by omega)) (by omega)
        have hsz9 := hL0.size
        have hsw := hK.gr.size
        have hL := hL0.trans ((M1.below (n := w.heap.size) (by omega) (by omega)).trans (M2.below (n := w.heap.size) (Nat.le_refl _) (by rw [World.size_setCell]; omega)))
        have hO := hK.outL hbl hL
        clear hbox M1 M2 hL hL0 G1 hI
        go_wp2_with fail
        clear x0 x1 x2 x3 r0 r1 r2 r3 f0 f1 f2 f3 b0 u0 u1' u2' u3' v0 v1 v2' v3
        obtain ⟨g0, g1, g2', g3⟩ := G.c
        exact bodyPost_ret (v := .tuple #[.agg #[.slice aw s.ws.length cw, .int .i64 z, .slice ar s.rv.length cr, .slice ag s.sg.length cg], .slice al ks.length cl]) (by simp [results, Tryz.results12, go_sem, g0, g1, g2', g3]) rfl ⟨_, _, ⟨s.ws, z, s.rv, s.sg⟩, bl, tl, _, rfl, by omega, by omega, hI2, by have := hsm.1; show s.ws.length ≤ 20; omega, by have := hsm.2.1; show s.rv.length ≤ 20; omega, by have := hsm.2.2.1; show s.sg.length ≤ 300; omega, hsm.2.2.2, hO.1, hO.2.1, hO.2.2⟩
      · have hK1 := hK
        clear hK
        go_wp2_with fail
        obtain ⟨i0, hi, hz0, hz1, hz2⟩ := info_parts infoInt
        refine wp_region_held_drew (S := fun _ => True) (by kernel_rfl) trivial (fun hHeld => ?_)
        have hD0 := hK1.below (Below.refl _ _).drew
        have hB0 := hB1.below (Below.refl _ u1).drew
        have hC0 := hC1.below (Below.refl _ u1).drew
        clear hK1 hB1 hC1
        generalize u1.drew = We at *
        refine takeW 0 (v := ?v1) rfl (by kernel_rfl) (by kernel_rfl) (by kernel_rfl) (fun _ _ _ h => h) (by rfl) (by assumption) ?hy1 ?rest1
        case hy1 => intro w' hSw; (try dsimp only at hSw); go_simp; try with_reducible rfl
        try simp only [Act.put, List.setIfInBounds_toArray, List.set_cons_zero, List.set_cons_succ]
        refine takeW 2 (v := ?v2) rfl (by kernel_rfl) (by kernel_rfl) (by kernel_rfl) (fun _ _ _ h => h) (by rfl) (by assumption) ?hy2 ?rest2
        case hy2 => intro w' hSw; (try dsimp only at hSw); go_simp; try with_reducible rfl
        try simp only [Act.put, List.setIfInBounds_toArray, List.set_cons_zero, List.set_cons_succ]
        obtain ⟨x0, x1, x2, x3⟩ := hD0.box.c
        refine takeC2 1 3 (by kernel_rfl) rfl rfl (fun K hK => ?_) (fun K hK => ?_)
        · go_simp
          skip
          refine hK.out _ _ ?_ (fun hHeld => ?_)
          · trivial
          clear hK K
          try simp only [Act.put, List.setIfInBounds_toArray, List.set_cons_zero, List.set_cons_succ]
          clear x0 x1 x2 x3
          refine takeC 3 (by kernel_rfl) rfl (fun K hK => ?_)
          go_simp
          skip
          refine hK.out _ _ ?_ (fun hHeld => ?_)
          · trivial
          clear hK K
          try simp only [Act.put, List.setIfInBounds_toArray, List.set_cons_zero, List.set_cons_succ]
          have hD1 := hD0.below ((Below.refl _ We).alloc (Nat.le_refl _) (.cells #[.int .i64 0, .int .i64 1, .int .i64 5] 3))
          refine takeC 4 (by kernel_rfl) rfl (fun K hK => ?_)
          go_simp
          refine (amongNew_any b a n c (q + 1) [0, 1, 5] We (by decide) (by decide) hB0 hC0 (by omega)).mono ?_; rintro e y1 ⟨z, _, rfl, hB2, hC2, hg2⟩
          refine hK.out _ _ ?_ (fun hHeld => ?_)
          · trivial
          clear hK K
          try simp only [Act.put, List.setIfInBounds_toArray, List.set_cons_zero, List.set_cons_succ]
          have hD2 := hD0.grown hbl hg2 hB2 hC2
          refine takeC 5 (by kernel_rfl) rfl (fun K hK => ?_)
          go_simp
          skip
          refine hK.out _ _ ?_ (fun hHeld => ?_)
          · trivial
          clear hK K
          try simp only [Act.put, List.setIfInBounds_toArray, List.set_cons_zero, List.set_cons_succ]
          have hD3 := hD2.below ((Below.refl _ y1).alloc (Nat.le_refl _) (.cells #[.int .i64 z] 3))
          refine takeC 6 (by kernel_rfl) rfl (fun K hK => ?_)
          refine step_append3 rfl (.tmp 94) (.tmp 98) 24 rfl bl 3 i0 _ 1 8 Tryz.underlying24 hi hz0 hz1 hz2 rfl (by decide) _ s.rv.length (nums s.rv) rfl (hD3.iss.rows.2.1) ⟨y1.heap.size, 0, none⟩ 1 1 [.int .i64 z] rfl rfl (cell_one_new y1 _ _) (by intro u hu; simp at hu; first | (subst hu; rfl) | (rcases hu with rfl | rfl | rfl <;> rfl)) (by unfold maxLen; have := hsm.1; have := hsm.2.1; omega) (by have := hsm.1; have := hsm.2.1; omega) hD3.bt ?_; intro v5 w5 hown5 hg5; have M5 := Mid.of_grown hg5 (fun k hk => hD3.iss.rows.2.1.lt k hk); have hkw := hD3.kw; have hlo := hD3.lo; obtain ⟨x5, z5, rfl⟩ := ownsRow_len hown5
          refine hK.out _ _ ?_ (fun hHeld => ?_)
          · trivial
          clear hK K
          try simp only [Act.put, List.setIfInBounds_toArray, List.set_cons_zero, List.set_cons_succ]
          have hX5 := M5.four hD3.box (by omega)
          have hR5 := M5.four hD3.res (by omega)
          obtain ⟨x0', x1', x2', x3'⟩ := hX5.c
          have b0 := hX5.f 2
          refine takeW 7 (v := ?v3) rfl (by kernel_rfl) (by kernel_rfl) (by kernel_rfl) (fun _ _ _ h => h) (by rfl) (by assumption) ?hy3 ?rest3
          case hy3 => intro w' hSw; (try dsimp only at hSw); go_simp; try with_reducible rfl
          try simp only [Act.put, List.setIfInBounds_toArray, List.set_cons_zero, List.set_cons_succ]
          refine takeC 8 (by kernel_rfl) rfl (fun K hK => ?_)
          go_simp
          skip
          refine hK.out _ _ ?_ (fun hHeld => ?_)
          · trivial
          clear hK K
          try simp only [Act.put, List.setIfInBounds_toArray, List.set_cons_zero, List.set_cons_succ]
          refine wpAnyH_done (by kernel_rfl) ?_ _
          have hI := IsO.appR hD3.iss hg5 hown5
          have hL0 : Below w.heap.size (y1.alloc (.cells #[.int .i64 z] 3)) w5 := M5.below (n := w.heap.size) (by omega) hD3.gr.size
          have M1 : Mid k4 (k4 + 1) w5 (w5.setCell ⟨k4, 2, none⟩ (.slice x5 (s.rv.length + 1) z5)) := (Mid.of_below (Below.refl _ _)).set (p := ⟨k4, 2, none⟩) (Nat.le_refl _) (Nat.lt_succ_self _) _
          have G1 := M1.four hR5 (by omega)
          have X1 := hX5.s2 (.slice x5 (s.rv.length + 1) z5)
          have M2 := four_mid (w5.setCell ⟨k4, 2, none⟩ (.slice x5 (s.rv.length + 1) z5)) w.heap.size (.slice aw s.ws.length cw) (.int .i64 s.nx) (.slice x5 (s.rv.length + 1) z5) (.slice ag s.sg.length cg)
          have hI2 := M2.iso (M1.iso hI (by omega)) (by omega)
          have hsz9 := hL0.size
          have hsw := hD3.gr.size
          have hL := hL0.trans ((M1.below (n := w.heap.size) (by omega) (by omega)).trans (M2.below (n := w.heap.size) (Nat.le_refl _) (by rw [World.size_setCell]; omega)))
          have hO := hD3.outL hbl hL
          have G := (((G1.s0 (.slice aw s.ws.length cw)).s1 (.int .i64 s.nx)).s2 (.slice x5 (s.rv.length + 1) z5)).s3 (.slice ag s.sg.length cg)
          clear hI hL0 hR5 hX5 M1 M2 hL M5 x0' x1' x2' x3' b0 hown5 hg5
          generalize w5.setCell ⟨k4, 2, none⟩ (.slice x5 (s.rv.length + 1) z5) = V1 at *
          obtain ⟨x0, x1, x2, x3⟩ := X1.c
          obtain ⟨r0, r1, r2, r3⟩ := G1.c
          have f0 := G1.f 0
          have f1 := G1.f 1
          have f2 := G1.f 2
          have f3 := G1.f 3
          clear X1 G1
          go_wp2_with fail
          clear x0 x1 x2 x3 r0 r1 r2 r3 f0 f1 f2 f3
          obtain ⟨g0, g1, g2', g3⟩ := G.c
          exact bodyPost_ret (v := .tuple #[.agg #[.slice aw s.ws.length cw, .int .i64 s.nx, .slice x5 (s.rv.length + 1) z5, .slice ag s.sg.length cg], .slice al ks.length cl]) (by simp [results, Tryz.results12, go_sem, g0, g1, g2', g3]) rfl ⟨_, _, ⟨s.ws, s.nx, s.rv ++ [z], s.sg⟩, bl, _, _, rfl, by omega, by omega, hI2, by have := hsm.1; show s.ws.length ≤ 20; omega, by have := hsm.2.1; show (s.rv ++ [z]).length ≤ 20; rw [List.length_append, List.length_singleton]; omega, by have := hsm.2.2.1; show s.sg.length ≤ 300; omega, hsm.2.2.2, hO.1, hO.2.1, hO.2.2⟩
        · go_simp
          skip
          refine hK.out _ _ ?_ (fun hHeld => ?_)
          · trivial
          clear hK K
          try simp only [Act.put, List.setIfInBounds_toArray, List.set_cons_zero, List.set_cons_succ]
          clear x0 x1 x2 x3
          have hD1 := hD0.below ((Below.refl _ We).alloc (Nat.le_refl _) (.cells #[.int .i64 0, .int .i64 1, .int .i64 5] 3))
          obtain ⟨x0, x1, x2, x3⟩ := hD1.box.c
          refine takeC2 1 4 (by kernel_rfl) rfl rfl (fun K hK => ?_) (fun K hK => ?_)
          · go_simp
            skip
            refine hK.out _ _ ?_ (fun hHeld => ?_)
            · trivial
            clear hK K
            try simp only [Act.put, List.setIfInBounds_toArray, List.set_cons_zero, List.set_cons_succ]
            clear x0 x1 x2 x3
            refine takeC 4 (by kernel_rfl) rfl (fun K hK => ?_)
            go_simp
            refine (amongNew_any b a n c (q + 1) [0, 1, 5] We (by decide) (by decide) hB0 hC0 (by omega)).mono ?_; rintro e y1 ⟨z, _, rfl, hB2, hC2, hg2⟩
            refine hK.out _ _ ?_ (fun hHeld => ?_)
            · trivial
            clear hK K
            try simp only [Act.put, List.setIfInBounds_toArray, List.set_cons_zero, List.set_cons_succ]
            have hD2 := hD0.grown hbl hg2 hB2 hC2
            refine takeC 5 (by kernel_rfl) rfl (fun K hK => ?_)
            go_simp
            skip
            refine hK.out _ _ ?_ (fun hHeld => ?_)
            · trivial
            clear hK K
            try simp only [Act.put, List.setIfInBounds_toArray, List.set_cons_zero, List.set_cons_succ]
            have hD3 := hD2.below ((Below.refl _ y1).alloc (Nat.le_refl _) (.cells #[.int .i64 z] 3))
            refine takeC 6 (by kernel_rfl) rfl (fun K hK => ?_)
            refine step_append3 rfl (.tmp 94) (.tmp 98) 24 rfl bl 3 i0 _ 1 8 Tryz.underlying24 hi hz0 hz1 hz2 rfl (by decide) _ s.rv.length (nums s.rv) rfl (hD3.iss.rows.2.1) ⟨y1.heap.size, 0, none⟩ 1 1 [.int .i64 z] rfl rfl (cell_one_new y1 _ _) (by intro u hu; simp at hu; first | (subst hu; rfl) | (rcases hu with rfl | rfl | rfl <;> rfl)) (by unfold maxLen; have := hsm.1; have := hsm.2.1; omega) (by have := hsm.1; have := hsm.2.1; omega) hD3.bt ?_; intro v5 w5 hown5 hg5; have M5 := Mid.of_grown hg5 (fun k hk => hD3.iss.rows.2.1.lt k hk); have hkw := hD3.kw; have hlo := hD3.lo; obtain ⟨x5, z5, rfl⟩ := ownsRow_len hown5
            refine hK.out _ _ ?_ (fun hHeld => ?_)
            · trivial
            clear hK K
            try simp only [Act.put, List.setIfInBounds_toArray, List.set_cons_zero, List.set_cons_succ]
            have hX5 := M5.four hD3.box (by omega)
            have hR5 := M5.four hD3.res (by omega)
            obtain ⟨x0', x1', x2', x3'⟩ := hX5.c
            have b0 := hX5.f 2
            refine takeW 7 (v := ?v4) rfl (by kernel_rfl) (by kernel_rfl) (by kernel_rfl) (fun _ _ _ h => h) (by rfl) (by assumption) ?hy4 ?rest4
            case hy4 => intro w' hSw; (try dsimp only at hSw); go_simp; try with_reducible rfl
            try simp only [Act.put, List.setIfInBounds_toArray, List.set_cons_zero, List.set_cons_succ]
            refine takeC 8 (by kernel_rfl) rfl (fun K hK => ?_)
            go_simp
            skip
            refine hK.out _ _ ?_ (fun hHeld => ?_)
            · trivial
            clear hK K
            try simp only [Act.put, List.setIfInBounds_toArray, List.set_cons_zero, List.set_cons_succ]
            refine wpAnyH_done (by kernel_rfl) ?_ _
            have hI := IsO.appR hD3.iss hg5 hown5
            have hL0 : Below w.heap.size (y1.alloc (.cells #[.int .i64 z] 3)) w5 := M5.below (n := w.heap.size) (by omega) hD3.gr.size
            have M1 : Mid k4 (k4 + 1) w5 (w5.setCell ⟨k4, 2, none⟩ (.slice x5 (s.rv.length + 1) z5)) := (Mid.of_below (Below.refl _ _)).set (p := ⟨k4, 2, none⟩) (Nat.le_refl _) (Nat.lt_succ_self _) _
            have G1 := M1.four hR5 (by omega)
            have X1 := hX5.s2 (.slice x5 (s.rv.length + 1) z5)
            have M2 := four_mid (w5.setCell ⟨k4, 2, none⟩ (.slice x5 (s.rv.length + 1) z5)) w.heap.size (.slice aw s.ws.length cw) (.int .i64 s.nx) (.slice x5 (s.rv.length + 1) z5) (.slice ag s.sg.length cg)
            have hI2 := M2.iso (M1.iso hI (by omega)) (by omega)
            have hsz9 := hL0.size
            have hsw := hD3.gr.size
            have hL := hL0.trans ((M1.below (n := w.heap.size) (by omega) (by omega)).trans (M2.below (n := w.heap.size) (Nat.le_refl _) (by rw [World.size_setCell]; omega)))
            have hO := hD3.outL hbl hL
            have G := (((G1.s0 (.slice aw s.ws.length cw)).s1 (.int .i64 s.nx)).s2 (.slice x5 (s.rv.length + 1) z5)).s3 (.slice ag s.sg.length cg)
            clear hI hL0 hR5 hX5 M1 M2 hL M5 x0' x1' x2' x3' b0 hown5 hg5
            generalize w5.setCell ⟨k4, 2, none⟩ (.slice x5 (s.rv.length + 1) z5) = V1 at *
            obtain ⟨x0, x1, x2, x3⟩ := X1.c
            obtain ⟨r0, r1, r2, r3⟩ := G1.c
            have f0 := G1.f 0
            have f1 := G1.f 1
            have f2 := G1.f 2
            have f3 := G1.f 3
            clear X1 G1
            go_wp2_with fail
            clear x0 x1 x2 x3 r0 r1 r2 r3 f0 f1 f2 f3
            obtain ⟨g0, g1, g2', g3⟩ := G.c
            exact bodyPost_ret (v := .tuple #[.agg #[.slice aw s.ws.length cw, .int .i64 s.nx, .slice x5 (s.rv.length + 1) z5, .slice ag s.sg.length cg], .slice al ks.length cl]) (by simp [results, Tryz.results12, go_sem, g0, g1, g2', g3]) rfl ⟨_, _, ⟨s.ws, s.nx, s.rv ++ [z], s.sg⟩, bl, _, _, rfl, by omega, by omega, hI2, by have := hsm.1; show s.ws.length ≤ 20; omega, by have := hsm.2.1; show (s.rv ++ [z]).length ≤ 20; rw [List.length_append, List.length_singleton]; omega, by have := hsm.2.2.1; show s.sg.length ≤ 300; omega, hsm.2.2.2, hO.1, hO.2.1, hO.2.2⟩
          · go_simp
            refine (amongNew_any b a n c (q + 1) [0, 1, 5] We (by decide) (by decide) hB0 hC0 (by omega)).mono ?_; rintro e y1 ⟨z, _, rfl, hB2, hC2, hg2⟩
            refine hK.out _ _ ?_ (fun hHeld => ?_)
            · trivial
            clear hK K
            try simp only [Act.put, List.setIfInBounds_toArray, List.set_cons_zero, List.set_cons_succ]
            clear x0 x1 x2 x3
            have hD2 := hD0.grown hbl hg2 hB2 hC2
            obtain ⟨x0, x1, x2, x3⟩ := hD2.box.c
            refine takeC2 1 5 (by kernel_rfl) rfl rfl (fun K hK => ?_) (fun K hK => ?_)
            · go_simp
              skip
              refine hK.out _ _ ?_ (fun hHeld => ?_)
              · trivial
              clear hK K
              try simp only [Act.put, List.setIfInBounds_toArray, List.set_cons_zero, List.set_cons_succ]
              clear x0 x1 x2 x3
              refine takeC 5 (by kernel_rfl) rfl (fun K hK => ?_)
              go_simp
              skip
              refine hK.out _ _ ?_ (fun hHeld => ?_)
              · trivial
              clear hK K
              try simp only [Act.put, List.setIfInBounds_toArray, List.set_cons_zero, List.set_cons_succ]
              have hD3 := hD2.below ((Below.refl _ y1).alloc (Nat.le_refl _) (.cells #[.int .i64 z] 3))
              refine takeC 6 (by kernel_rfl) rfl (fun K hK => ?_)
              refine step_append3 rfl (.tmp 94) (.tmp 98) 24 rfl bl 3 i0 _ 1 8 Tryz.underlying24 hi hz0 hz1 hz2 rfl (by decide) _ s.rv.length (nums s.rv) rfl (hD3.iss.rows.2.1) ⟨y1.heap.size, 0, none⟩ 1 1 [.int .i64 z] rfl rfl (cell_one_new y1 _ _) (by intro u hu; simp at hu; first | (subst hu; rfl) | (rcases hu with rfl | rfl | rfl <;> rfl)) (by unfold maxLen; have := hsm.1; have := hsm.2.1; omega) (by have := hsm.1; have := hsm.2.1; omega) hD3.bt ?_; intro v5 w5 hown5 hg5; have M5 := Mid.of_grown hg5 (fun k hk => hD3.iss.rows.2.1.lt k hk); have hkw := hD3.kw; have hlo := hD3.lo; obtain ⟨x5, z5, rfl⟩ := ownsRow_len hown5
              refine hK.out _ _ ?_ (fun hHeld => ?_)
              · trivial
              clear hK K
              try simp only [Act.put, List.setIfInBounds_toArray, List.set_cons_zero, List.set_cons_succ]
              have hX5 := M5.four hD3.box (by omega)
              have hR5 := M5.four hD3.res (by omega)
              obtain ⟨x0', x1', x2', x3'⟩ := hX5.c
              have b0 := hX5.f 2
              refine takeW 7 (v := ?v5) rfl (by kernel_rfl) (by kernel_rfl) (by kernel_rfl) (fun _ _ _ h => h) (by rfl) (by assumption) ?hy5 ?rest5
              case hy5 => intro w' hSw; (try dsimp only at hSw); go_simp; try with_reducible rfl
              try simp only [Act.put, List.setIfInBounds_toArray, List.set_cons_zero, List.set_cons_succ]
              refine takeC 8 (by kernel_rfl) rfl (fun K hK => ?_)
              go_simp
              skip
              refine hK.out _ _ ?_ (fun hHeld => ?_)
              · trivial
              clear hK K
              try simp only [Act.put, List.setIfInBounds_toArray, List.set_cons_zero, List.set_cons_succ]
              refine wpAnyH_done (by kernel_rfl) ?_ _
              have hI := IsO.appR hD3.iss hg5 hown5
              have hL0 : Below w.heap.size (y1.alloc (.cells #[.int .i64 z] 3)) w5 := M5.below (n := w.heap.size) (by omega) hD3.gr.size
              have M1 : Mid k4 (k4 + 1) w5 (w5.setCell ⟨k4, 2, none⟩ (.slice x5 (s.rv.length + 1) z5)) := (Mid.of_below (Below.refl _ _)).set (p := ⟨k4, 2, none⟩) (Nat.le_refl _) (Nat.lt_succ_self _) _
              have G1 := M1.four hR5 (by omega)
              have X1 := hX5.s2 (.slice x5 (s.rv.length + 1) z5)
              have M2 := four_mid (w5.setCell ⟨k4, 2, none⟩ (.slice x5 (s.rv.length + 1) z5)) w.heap.size (.slice aw s.ws.length cw) (.int .i64 s.nx) (.slice x5 (s.rv.length + 1) z5) (.slice ag s.sg.length cg)
              have hI2 := M2.iso (M1.iso hI (by omega)) (by omega)
              have hsz9 := hL0.size
              have hsw := hD3.gr.size
              have hL := hL0.trans ((M1.below (n := w.heap.size) (by omega) (by omega)).trans (M2.below (n := w.heap.size) (Nat.le_refl _) (by rw [World.size_setCell]; omega)))
              have hO := hD3.outL hbl hL
              have G := (((G1.s0 (.slice aw s.ws.length cw)).s1 (.int .i64 s.nx)).s2 (.slice x5 (s.rv.length + 1) z5)).s3 (.slice ag s.sg.length cg)
              clear hI hL0 hR5 hX5 M1 M2 hL M5 x0' x1' x2' x3' b0 hown5 hg5
              generalize w5.setCell ⟨k4, 2, none⟩ (.slice x5 (s.rv.length + 1) z5) = V1 at *
              obtain ⟨x0, x1, x2, x3⟩ := X1.c
              obtain ⟨r0, r1, r2, r3⟩ := G1.c
              have f0 := G1.f 0
              have f1 := G1.f 1
              have f2 := G1.f 2
              have f3 := G1.f 3
              clear X1 G1
              go_wp2_with fail
              clear x0 x1 x2 x3 r0 r1 r2 r3 f0 f1 f2 f3
              obtain ⟨g0, g1, g2', g3⟩ := G.c
              exact bodyPost_ret (v := .tuple #[.agg #[.slice aw s.ws.length cw, .int .i64 s.nx, .slice x5 (s.rv.length + 1) z5, .slice ag s.sg.length cg], .slice al ks.length cl]) (by simp [results, Tryz.results12, go_sem, g0, g1, g2', g3]) rfl ⟨_, _, ⟨s.ws, s.nx, s.rv ++ [z], s.sg⟩, bl, _, _, rfl, by omega, by omega, hI2, by have := hsm.1; show s.ws.length ≤ 20; omega, by have := hsm.2.1; show (s.rv ++ [z]).length ≤ 20; rw [List.length_append, List.length_singleton]; omega, by have := hsm.2.2.1; show s.sg.length ≤ 300; omega, hsm.2.2.2, hO.1, hO.2.1, hO.2.2⟩
            · go_simp
              skip
              refine hK.out _ _ ?_ (fun hHeld => ?_)
              · trivial
              clear hK K
              try simp only [Act.put, List.setIfInBounds_toArray, List.set_cons_zero, List.set_cons_succ]
              clear x0 x1 x2 x3
              have hD3 := hD2.below ((Below.refl _ y1).alloc (Nat.le_refl _) (.cells #[.int .i64 z] 3))
              obtain ⟨x0, x1, x2, x3⟩ := hD3.box.c
              refine takeC 1 (by kernel_rfl) rfl (fun K hK => ?_)
              go_simp
              skip
              refine hK.out _ _ ?_ (fun hHeld => ?_)
              · trivial
              clear hK K
              try simp only [Act.put, List.setIfInBounds_toArray, List.set_cons_zero, List.set_cons_succ]
              clear x0 x1 x2 x3
              refine takeC 6 (by kernel_rfl) rfl (fun K hK => ?_)
              refine step_append3 rfl (.tmp 94) (.tmp 98) 24 rfl bl 3 i0 _ 1 8 Tryz.underlying24 hi hz0 hz1 hz2 rfl (by decide) _ s.rv.length (nums s.rv) rfl (hD3.iss.rows.2.1) ⟨y1.heap.size, 0, none⟩ 1 1 [.int .i64 z] rfl rfl (cell_one_new y1 _ _) (by intro u hu; simp at hu; first | (subst hu; rfl) | (rcases hu with rfl | rfl | rfl <;> rfl)) (by unfold maxLen; have := hsm.1; have := hsm.2.1; omega) (by have := hsm.1; have := hsm.2.1; omega) hD3.bt ?_; intro v5 w5 hown5 hg5; have M5 := Mid.of_grown hg5 (fun k hk => hD3.iss.rows.2.1.lt k hk); have hkw := hD3.kw; have hlo := hD3.lo; obtain ⟨x5, z5, rfl⟩ := ownsRow_len hown5
              refine hK.out _ _ ?_ (fun hHeld => ?_)
              · trivial
              clear hK K
              try simp only [Act.put, List.setIfInBounds_toArray, List.set_cons_zero, List.set_cons_succ]
              have hX5 := M5.four hD3.box (by omega)
              have hR5 := M5.four hD3.res (by omega)
              obtain ⟨x0', x1', x2', x3'⟩ := hX5.c
              have b0 := hX5.f 2
              refine takeW 7 (v := ?v6) rfl (by kernel_rfl) (by kernel_rfl) (by kernel_rfl) (fun _ _ _ h => h) (by rfl) (by assumption) ?hy6 ?rest6
              case hy6 => intro w' hSw; (try dsimp only at hSw); go_simp; try with_reducible rfl
              try simp only [Act.put, List.setIfInBounds_toArray, List.set_cons_zero, List.set_cons_succ]
              refine takeC 8 (by kernel_rfl) rfl (fun K hK => ?_)
              go_simp
              skip
              refine hK.out _ _ ?_ (fun hHeld => ?_)
              · trivial
              clear hK K
              try simp only [Act.put, List.setIfInBounds_toArray, List.set_cons_zero, List.set_cons_succ]
              refine wpAnyH_done (by kernel_rfl) ?_ _
              have hI := IsO.appR hD3.iss hg5 hown5
              have hL0 : Below w.heap.size (y1.alloc (.cells #[.int .i64 z] 3)) w5 := M5.below (n := w.heap.size) (by omega) hD3.gr.size
              have M1 : Mid k4 (k4 + 1) w5 (w5.setCell ⟨k4, 2, none⟩ (.slice x5 (s.rv.length + 1) z5)) := (Mid.of_below (Below.refl _ _)).set (p := ⟨k4, 2, none⟩) (Nat.le_refl _) (Nat.lt_succ_self _) _
              have G1 := M1.four hR5 (by omega)
              have X1 := hX5.s2 (.slice x5 (s.rv.length + 1) z5)
              have M2 := four_mid (w5.setCell ⟨k4, 2, none⟩ (.slice x5 (s.rv.length + 1) z5)) w.heap.size (.slice aw s.ws.length cw) (.int .i64 s.nx) (.slice x5 (s.rv.length + 1) z5) (.slice ag s.sg.length cg)
              have hI2 := M2.iso (M1.iso hI (by omega)) (by omega)
              have hsz9 := hL0.size
              have hsw := hD3.gr.size
              have hL := hL0.trans ((M1.below (n := w.heap.size) (by omega) (by omega)).trans (M2.below (n := w.heap.size) (Nat.le_refl _) (by rw [World.size_setCell]; omega)))
              have hO := hD3.outL hbl hL
              have G := (((G1.s0 (.slice aw s.ws.length cw)).s1 (.int .i64 s.nx)).s2 (.slice x5 (s.rv.length + 1) z5)).s3 (.slice ag s.sg.length cg)
              clear hI hL0 hR5 hX5 M1 M2 hL M5 x0' x1' x2' x3' b0 hown5 hg5
              generalize w5.setCell ⟨k4, 2, none⟩ (.slice x5 (s.rv.length + 1) z5) = V1 at *
              obtain ⟨x0, x1, x2, x3⟩ := X1.c
              obtain ⟨r0, r1, r2, r3⟩ := G1.c
              have f0 := G1.f 0
              have f1 := G1.f 1
              have f2 := G1.f 2
              have f3 := G1.f 3
              clear X1 G1
              go_wp2_with fail
              clear x0 x1 x2 x3 r0 r1 r2 r3 f0 f1 f2 f3
              obtain ⟨g0, g1, g2', g3⟩ := G.c
              exact bodyPost_ret (v := .tuple #[.agg #[.slice aw s.ws.length cw, .int .i64 s.nx, .slice x5 (s.rv.length + 1) z5, .slice ag s.sg.length cg], .slice al ks.length cl]) (by simp [results, Tryz.results12, go_sem, g0, g1, g2', g3]) rfl ⟨_, _, ⟨s.ws, s.nx, s.rv ++ [z], s.sg⟩, bl, _, _, rfl, by omega, by omega, hI2, by have := hsm.1; show s.ws.length ≤ 20; omega, by have := hsm.2.1; show (s.rv ++ [z]).length ≤ 20; rw [List.length_append, List.length_singleton]; omega, by have := hsm.2.2.1; show s.sg.length ≤ 300; omega, hsm.2.2.2, hO.1, hO.2.1, hO.2.2⟩
      · have hK1 := hK
        clear hK
        go_wp2_with fail
        obtain ⟨i0, hi, hz0, hz1, hz2⟩ := info_parts infoStr
        refine wp_region_held_drew (S := fun _ => True) (by kernel_rfl) trivial (fun hHeld => ?_)
        have hD0 := hK1.below (Below.refl _ _).drew
        have hB0 := hB1.below (Below.refl _ u1).drew
        have hC0 := hC1.below (Below.refl _ u1).drew
        clear hK1 hB1 hC1
        generalize u1.drew = We at *
        refine takeW 0 (v := ?v14) rfl (by kernel_rfl) (by kernel_rfl) (by kernel_rfl) (fun _ _ _ h => h) (by rfl) (by assumption) ?hy14 ?rest14
        case hy14 => intro w' hSw; (try dsimp only at hSw); go_simp; try with_reducible rfl
        try simp only [Act.put, List.setIfInBounds_toArray, List.set_cons_zero, List.set_cons_succ]
        refine takeW 2 (v := ?v15) rfl (by kernel_rfl) (by kernel_rfl) (by kernel_rfl) (fun _ _ _ h => h) (by rfl) (by assumption) ?hy15 ?rest15
        case hy15 => intro w' hSw; (try dsimp only at hSw); go_simp; try with_reducible rfl
        try simp only [Act.put, List.setIfInBounds_toArray, List.set_cons_zero, List.set_cons_succ]
        obtain ⟨x0, x1, x2, x3⟩ := hD0.box.c
        refine takeC2 1 3 (by kernel_rfl) rfl rfl (fun K hK => ?_) (fun K hK => ?_)
        · go_simp
          skip
          refine hK.out _ _ ?_ (fun hHeld => ?_)
          · trivial
          clear hK K
          try simp only [Act.put, List.setIfInBounds_toArray, List.set_cons_zero, List.set_cons_succ]
          clear x0 x1 x2 x3
          refine takeC 3 (by kernel_rfl) rfl (fun K hK => ?_)
          go_simp
          refine (pick_any b a n c (q + 1) 20 We (by omega) (by omega) hB0 hC0 (by omega)).mono ?_; rintro e y1 ⟨z, hz9, rfl, hC2, hg2⟩
          refine hK.out _ _ ?_ (fun hHeld => ?_)
          · trivial
          clear hK K
          try simp only [Act.put, List.setIfInBounds_toArray, List.set_cons_zero, List.set_cons_succ]
          have hB2 := curB_grown hB0 hC0.apart hC0.lt hg2
          have hD1 := hD0.grown hbl hg2 hB2 hC2
          refine takeW 4 (v := ?v16) rfl (by kernel_rfl) (by kernel_rfl) (by kernel_rfl) (fun _ _ _ h => h) (by rfl) (by assumption) ?hy16 ?rest16
          case hy16 => intro w' hSw; (try dsimp only at hSw); go_simp; try with_reducible rfl
          try simp only [Act.put, List.setIfInBounds_toArray, List.set_cons_zero, List.set_cons_succ]
          refine takeC 5 (by kernel_rfl) rfl (fun K hK => ?_)
          refine step_append_zeros rfl (.tmp 104) (.tmp 107) 25 3 rfl bl 9 i0 _ .i64 .i64 1 16 Tryz.underlying25 Tryz.underlying3 hi hz0 hz1 hz2 rfl (by decide) _ s.sg.length (strs s.sg) rfl hD1.iss.rows.2.2 (190 + z) (by omega) (z190 z hz9) (strs (List.replicate (190 + z) ByteArray.empty)) (zeros_strs _) (by intro u hu; obtain ⟨x, _, rfl⟩ := List.mem_map.1 hu; rfl) (by unfold maxLen; have := hsm.2.2.1; omega) (by have := hsm.2.2.1; omega) hD1.bt ?_; intro v5 w5 hown5 hg5; have M5 := Mid.of_grown hg5 (fun k hk => hD1.iss.rows.2.2.lt k hk); have hkw := hD1.kw; have hlo := hD1.lo; obtain ⟨x5, z5, rfl⟩ := ownsRow_len hown5
          refine hK.out _ _ ?_ (fun hHeld => ?_)
          · trivial
          clear hK K
          try simp only [Act.put, List.setIfInBounds_toArray, List.set_cons_zero, List.set_cons_succ]
          have hX5 := M5.four hD1.box (by omega)
          have hR5 := M5.four hD1.res (by omega)
          obtain ⟨x0', x1', x2', x3'⟩ := hX5.c
          have b0 := hX5.f 3
          refine takeW 6 (v := ?v17) rfl (by kernel_rfl) (by kernel_rfl) (by kernel_rfl) (fun _ _ _ h => h) (by rfl) (by assumption) ?hy17 ?rest17
          case hy17 => intro w' hSw; (try dsimp only at hSw); go_simp; try with_reducible rfl
          try simp only [Act.put, List.setIfInBounds_toArray, List.set_cons_zero, List.set_cons_succ]
          refine takeC 7 (by kernel_rfl) rfl (fun K hK => ?_)
          go_simp
          skip
          refine hK.out _ _ ?_ (fun hHeld => ?_)
          · trivial
          clear hK K
          try simp only [Act.put, List.setIfInBounds_toArray, List.set_cons_zero, List.set_cons_succ]
          refine wpAnyH_done (by kernel_rfl) ?_ _
          have hI := IsO.appS hD1.iss hg5 hown5
          have hL0 : Below w.heap.size y1 w5 := M5.below (n := w.heap.size) (by omega) hD1.gr.size
          have M1 : Mid k4 (k4 + 1) w5 (w5.setCell ⟨k4, 3, none⟩ (.slice x5 (s.sg.length + (190 + z)) z5)) := (Mid.of_below (Below.refl _ _)).set (p := ⟨k4, 3, none⟩) (Nat.le_refl _) (Nat.lt_succ_self _) _
          have G1 := M1.four hR5 (by omega)
          have X1 := hX5.s3 (.slice x5 (s.sg.length + (190 + z)) z5)
          have M2 := four_mid (w5.setCell ⟨k4, 3, none⟩ (.slice x5 (s.sg.length + (190 + z)) z5)) w.heap.size (.slice aw s.ws.length cw) (.int .i64 s.nx) (.slice ar s.rv.length cr) (.slice x5 (s.sg.length + (190 + z)) z5)
          have hI2 := M2.iso (M1.iso hI (by omega)) (by omega)
          have hsz9 := hL0.size
          have hsw := hD1.gr.size
          have hL := hL0.trans ((M1.below (n := w.heap.size) (by omega) (by omega)).trans (M2.below (n := w.heap.size) (Nat.le_refl _) (by rw [World.size_setCell]; omega)))
          have hO := hD1.outL hbl hL
          have G := (((G1.s0 (.slice aw s.ws.length cw)).s1 (.int .i64 s.nx)).s2 (.slice ar s.rv.length cr)).s3 (.slice x5 (s.sg.length + (190 + z)) z5)
          clear hI hL0 hR5 hX5 M1 M2 hL M5 x0' x1' x2' x3' b0 hown5 hg5
          generalize w5.setCell ⟨k4, 3, none⟩ (.slice x5 (s.sg.length + (190 + z)) z5) = V1 at *
          obtain ⟨x0, x1, x2, x3⟩ := X1.c
          obtain ⟨r0, r1, r2, r3⟩ := G1.c
          have f0 := G1.f 0
          have f1 := G1.f 1
          have f2 := G1.f 2
          have f3 := G1.f 3
          clear X1 G1
          go_wp2_with fail
          clear x0 x1 x2 x3 r0 r1 r2 r3 f0 f1 f2 f3
          obtain ⟨g0, g1, g2', g3⟩ := G.c
          exact bodyPost_ret (v := .tuple #[.agg #[.slice aw s.ws.length cw, .int .i64 s.nx, .slice ar s.rv.length cr, .slice x5 (s.sg.length + (190 + z)) z5], .slice al ks.length cl]) (by simp [results, Tryz.results12, go_sem, g0, g1, g2', g3]) rfl ⟨_, _, ⟨s.ws, s.nx, s.rv, s.sg ++ List.replicate (190 + z) ByteArray.empty⟩, bl, _, _, rfl, by omega, by omega, hI2, by have := hsm.1; show s.ws.length ≤ 20; omega, by have := hsm.2.1; show s.rv.length ≤ 20; omega, by have := hsm.2.2.1; show (s.sg ++ List.replicate (190 + z) ByteArray.empty).length ≤ 300; rw [List.length_append, List.length_replicate]; omega, hsm.2.2.2, hO.1, hO.2.1, hO.2.2⟩
        · go_simp
          refine (pick_any b a n c (q + 1) 20 We (by omega) (by omega) hB0 hC0 (by omega)).mono ?_; rintro e y1 ⟨z, hz9, rfl, hC2, hg2⟩
          refine hK.out _ _ ?_ (fun hHeld => ?_)
          · trivial
          clear hK K
          try simp only [Act.put, List.setIfInBounds_toArray, List.set_cons_zero, List.set_cons_succ]
          clear x0 x1 x2 x3
          have hB2 := curB_grown hB0 hC0.apart hC0.lt hg2
          have hD1 := hD0.grown hbl hg2 hB2 hC2
          refine takeW 4 (v := ?v18) rfl (by kernel_rfl) (by kernel_rfl) (by kernel_rfl) (fun _ _ _ h => h) (by rfl) (by assumption) ?hy18 ?rest18
          case hy18 => intro w' hSw; (try dsimp only at hSw); go_simp; try with_reducible rfl
          try simp only [Act.put, List.setIfInBounds_toArray, List.set_cons_zero, List.set_cons_succ]
          obtain ⟨x0, x1, x2, x3⟩ := hD1.box.c
          refine takeC 1 (by kernel_rfl) rfl (fun K hK => ?_)
          go_simp
          skip
          refine hK.out _ _ ?_ (fun hHeld => ?_)
          · trivial
          clear hK K
          try simp only [Act.put, List.setIfInBounds_toArray, List.set_cons_zero, List.set_cons_succ]
          clear x0 x1 x2 x3
          refine takeC 5 (by kernel_rfl) rfl (fun K hK => ?_)
          refine step_append_zeros rfl (.tmp 104) (.tmp 107) 25 3 rfl bl 9 i0 _ .i64 .i64 1 16 Tryz.underlying25 Tryz.underlying3 hi hz0 hz1 hz2 rfl (by decide) _ s.sg.length (strs s.sg) rfl hD1.iss.rows.2.2 (190 + z) (by omega) (z190 z hz9) (strs (List.replicate (190 + z) ByteArray.empty)) (zeros_strs _) (by intro u hu; obtain ⟨x, _, rfl⟩ := List.mem_map.1 hu; rfl) (by unfold maxLen; have := hsm.2.2.1; omega) (by have := hsm.2.2.1; omega) hD1.bt ?_; intro v5 w5 hown5 hg5; have M5 := Mid.of_grown hg5 (fun k hk => hD1.iss.rows.2.2.lt k hk); have hkw := hD1.kw; have hlo := hD1.lo; obtain ⟨x5, z5, rfl⟩ := ownsRow_len hown5
          refine hK.out _ _ ?_ (fun hHeld => ?_)
          · trivial
          clear hK K
          try simp only [Act.put, List.setIfInBounds_toArray, List.set_cons_zero, List.set_cons_succ]
          have hX5 := M5.four hD1.box (by omega)
          have hR5 := M5.four hD1.res (by omega)
          obtain ⟨x0', x1', x2', x3'⟩ := hX5.c
          have b0 := hX5.f 3
          refine takeW 6 (v := ?v19) rfl (by kernel_rfl) (by kernel_rfl) (by kernel_rfl) (fun _ _ _ h => h) (by rfl) (by assumption) ?hy19 ?rest19
          case hy19 => intro w' hSw; (try dsimp only at hSw); go_simp; try with_reducible rfl
          try simp only [Act.put, List.setIfInBounds_toArray, List.set_cons_zero, List.set_cons_succ]
          refine takeC 7 (by kernel_rfl) rfl (fun K hK => ?_)
          go_simp
          skip
          refine hK.out _ _ ?_ (fun hHeld => ?_)
          · trivial
          clear hK K
          try simp only [Act.put, List.setIfInBounds_toArray, List.set_cons_zero, List.set_cons_succ]
          refine wpAnyH_done (by kernel_rfl) ?_ _
          have hI := IsO.appS hD1.iss hg5 hown5
          have hL0 : Below w.heap.size y1 w5 := M5.below (n := w.heap.size) (by omega) hD1.gr.size
          have M1 : Mid k4 (k4 + 1) w5 (w5.setCell ⟨k4, 3, none⟩ (.slice x5 (s.sg.length + (190 + z)) z5)) := (Mid.of_below (Below.refl _ _)).set (p := ⟨k4, 3, none⟩) (Nat.le_refl _) (Nat.lt_succ_self _) _
          have G1 := M1.four hR5 (by omega)
          have X1 := hX5.s3 (.slice x5 (s.sg.length + (190 + z)) z5)
          have M2 := four_mid (w5.setCell ⟨k4, 3, none⟩ (.slice x5 (s.sg.length + (190 + z)) z5)) w.heap.size (.slice aw s.ws.length cw) (.int .i64 s.nx) (.slice ar s.rv.length cr) (.slice x5 (s.sg.length + (190 + z)) z5)
          have hI2 := M2.iso (M1.iso hI (by omega)) (by omega)
          have hsz9 := hL0.size
          have hsw := hD1.gr.size
          have hL := hL0.trans ((M1.below (n := w.heap.size) (by omega) (by omega)).trans (M2.below (n := w.heap.size) (Nat.le_refl _) (by rw [World.size_setCell]; omega)))
          have hO := hD1.outL hbl hL
          have G := (((G1.s0 (.slice aw s.ws.length cw)).s1 (.int .i64 s.nx)).s2 (.slice ar s.rv.length cr)).s3 (.slice x5 (s.sg.length + (190 + z)) z5)
          clear hI hL0 hR5 hX5 M1 M2 hL M5 x0' x1' x2' x3' b0 hown5 hg5
          generalize w5.setCell ⟨k4, 3, none⟩ (.slice x5 (s.sg.length + (190 + z)) z5) = V1 at *
          obtain ⟨x0, x1, x2, x3⟩ := X1.c
          obtain ⟨r0, r1, r2, r3⟩ := G1.c
          have f0 := G1.f 0
          have f1 := G1.f 1
          have f2 := G1.f 2
          have f3 := G1.f 3
          clear X1 G1
          go_wp2_with fail
          clear x0 x1 x2 x3 r0 r1 r2 r3 f0 f1 f2 f3
          obtain ⟨g0, g1, g2', g3⟩ := G.c
          exact bodyPost_ret (v := .tuple #[.agg #[.slice aw s.ws.length cw, .int .i64 s.nx, .slice ar s.rv.length cr, .slice x5 (s.sg.length + (190 + z)) z5], .slice al ks.length cl]) (by simp [results, Tryz.results12, go_sem, g0, g1, g2', g3]) rfl ⟨_, _, ⟨s.ws, s.nx, s.rv, s.sg ++ List.replicate (190 + z) ByteArray.empty⟩, bl, _, _, rfl, by omega, by omega, hI2, by have := hsm.1; show s.ws.length ≤ 20; omega, by have := hsm.2.1; show s.rv.length ≤ 20; omega, by have := hsm.2.2.1; show (s.sg ++ List.replicate (190 + z) ByteArray.empty).length ≤ 300; rw [List.length_append, List.length_replicate]; omega, hsm.2.2.2, hO.1, hO.2.1, hO.2.2⟩
      · have hK1 := hK
        clear hK
        go_wp2_with fail
        obtain ⟨i0, hi, hz0, hz1, hz2⟩ := info_parts infoWork
        refine wp_region_held_drew (S := fun _ => True) (by kernel_rfl) trivial (fun hHeld => ?_)
        have hD0 := hK1.below (Below.refl _ _).drew
        have hB0 := hB1.below (Below.refl _ u1).drew
        have hC0 := hC1.below (Below.refl _ u1).drew
        clear hK1 hB1 hC1
        generalize u1.drew = We at *
        refine takeW 0 (v := ?v7) rfl (by kernel_rfl) (by kernel_rfl) (by kernel_rfl) (fun _ _ _ h => h) (by rfl) (by assumption) ?hy7 ?rest7
        case hy7 => intro w' hSw; (try dsimp only at hSw); go_simp; try with_reducible rfl
        try simp only [Act.put, List.setIfInBounds_toArray, List.set_cons_zero, List.set_cons_succ]
        refine takeW 2 (v := ?v8) rfl (by kernel_rfl) (by kernel_rfl) (by kernel_rfl) (fun _ _ _ h => h) (by rfl) (by assumption) ?hy8 ?rest8
        case hy8 => intro w' hSw; (try dsimp only at hSw); go_simp; try with_reducible rfl
        try simp only [Act.put, List.setIfInBounds_toArray, List.set_cons_zero, List.set_cons_succ]
        obtain ⟨x0, x1, x2, x3⟩ := hD0.box.c
        refine takeC2 1 3 (by kernel_rfl) rfl rfl (fun K hK => ?_) (fun K hK => ?_)
        · go_simp
          skip
          refine hK.out _ _ ?_ (fun hHeld => ?_)
          · trivial
          clear hK K
          try simp only [Act.put, List.setIfInBounds_toArray, List.set_cons_zero, List.set_cons_succ]
          clear x0 x1 x2 x3
          refine takeC 3 (by kernel_rfl) rfl (fun K hK => ?_)
          go_simp
          refine (drawNm_any b a n c (q + 1) We hB0 hC0 (by omega)).mono ?_; rintro e y1 ⟨nm, hnm, rfl, hB2, ⟨q2, hq2, hC2⟩, hg2⟩
          refine hK.out _ _ ?_ (fun hHeld => ?_)
          · trivial
          clear hK K
          try simp only [Act.put, List.setIfInBounds_toArray, List.set_cons_zero, List.set_cons_succ]
          have hD1 := hD0.grown hbl hg2 hB2 hC2
          refine takeW 4 (v := ?v9) rfl (by kernel_rfl) (by kernel_rfl) (by kernel_rfl) (fun _ _ _ h => h) (by rfl) (by assumption) ?hy9 ?rest9
          case hy9 => intro w' hSw; (try dsimp only at hSw); go_simp; try with_reducible rfl
          try simp only [Act.put, List.setIfInBounds_toArray, List.set_cons_zero, List.set_cons_succ]
          refine takeC 5 (by kernel_rfl) rfl (fun K hK => ?_)
          go_simp
          skip
          refine hK.out _ _ ?_ (fun hHeld => ?_)
          · trivial
          clear hK K
          try simp only [Act.put, List.setIfInBounds_toArray, List.set_cons_zero, List.set_cons_succ]
          have hD2 := hD1.below ((Below.refl _ y1).alloc (Nat.le_refl _) (.cells #[.string nm, .bool false, .int .i64 0] 64))
          refine takeC 6 (by kernel_rfl) rfl (fun K hK => ?_)
          refine step_append3 rfl (.tmp 113) (.tmp 117) 23 rfl bl 64 i0 _ 3 32 Tryz.underlying23 hi hz0 hz1 hz2 rfl (by decide) _ s.ws.length (s.ws.flatMap Wk.cells) rfl (hD2.iss.rows.1) ⟨y1.heap.size, 0, none⟩ 1 1 (Wk.mk nm false 0).cells rfl rfl (cell_wk_new y1 ⟨nm, false, 0⟩) (by intro u hu; simp at hu; first | (subst hu; rfl) | (rcases hu with rfl | rfl | rfl <;> rfl)) (by unfold maxLen; have := hsm.1; have := hsm.2.1; omega) (by have := hsm.1; have := hsm.2.1; omega) hD2.bt ?_; intro v5 w5 hown5 hg5; have M5 := Mid.of_grown hg5 (fun k hk => hD2.iss.rows.1.lt k hk); have hkw := hD2.kw; have hlo := hD2.lo; obtain ⟨x5, z5, rfl⟩ := ownsRow_len hown5
          refine hK.out _ _ ?_ (fun hHeld => ?_)
          · trivial
          clear hK K
          try simp only [Act.put, List.setIfInBounds_toArray, List.set_cons_zero, List.set_cons_succ]
          have hX5 := M5.four hD2.box (by omega)
          have hR5 := M5.four hD2.res (by omega)
          obtain ⟨x0', x1', x2', x3'⟩ := hX5.c
          have b0 := hX5.f 0
          refine takeW 7 (v := ?v10) rfl (by kernel_rfl) (by kernel_rfl) (by kernel_rfl) (fun _ _ _ h => h) (by rfl) (by assumption) ?hy10 ?rest10
          case hy10 => intro w' hSw; (try dsimp only at hSw); go_simp; try with_reducible rfl
          try simp only [Act.put, List.setIfInBounds_toArray, List.set_cons_zero, List.set_cons_succ]
          refine takeC 8 (by kernel_rfl) rfl (fun K hK => ?_)
          go_simp
          skip
          refine hK.out _ _ ?_ (fun hHeld => ?_)
          · trivial
          clear hK K
          try simp only [Act.put, List.setIfInBounds_toArray, List.set_cons_zero, List.set_cons_succ]
          refine wpAnyH_done (by kernel_rfl) ?_ _
          have hI := IsO.appW (x := ⟨nm, false, 0⟩) hD2.iss hg5 hown5
          have hL0 : Below w.heap.size (y1.alloc (.cells #[.string nm, .bool false, .int .i64 0] 64)) w5 := M5.below (n := w.heap.size) (by omega) hD2.gr.size
          have M1 : Mid k4 (k4 + 1) w5 (w5.setCell ⟨k4, 0, none⟩ (.slice x5 (s.ws.length + 1) z5)) := (Mid.of_below (Below.refl _ _)).set (p := ⟨k4, 0, none⟩) (Nat.le_refl _) (Nat.lt_succ_self _) _
          have G1 := M1.four hR5 (by omega)
          have X1 := hX5.s0 (.slice x5 (s.ws.length + 1) z5)
          have M2 := four_mid (w5.setCell ⟨k4, 0, none⟩ (.slice x5 (s.ws.length + 1) z5)) w.heap.size (.slice x5 (s.ws.length + 1) z5) (.int .i64 s.nx) (.slice ar s.rv.length cr) (.slice ag s.sg.length cg)
          have hI2 := M2.iso (M1.iso hI (by omega)) (by omega)
          have hsz9 := hL0.size
          have hsw := hD2.gr.size
          have hL := hL0.trans ((M1.below (n := w.heap.size) (by omega) (by omega)).trans (M2.below (n := w.heap.size) (Nat.le_refl _) (by rw [World.size_setCell]; omega)))
          have hO := hD2.outL hbl hL
          have G := (((G1.s0 (.slice x5 (s.ws.length + 1) z5)).s1 (.int .i64 s.nx)).s2 (.slice ar s.rv.length cr)).s3 (.slice ag s.sg.length cg)
          clear hI hL0 hR5 hX5 M1 M2 hL M5 x0' x1' x2' x3' b0 hown5 hg5
          generalize w5.setCell ⟨k4, 0, none⟩ (.slice x5 (s.ws.length + 1) z5) = V1 at *
          obtain ⟨x0, x1, x2, x3⟩ := X1.c
          obtain ⟨r0, r1, r2, r3⟩ := G1.c
          have f0 := G1.f 0
          have f1 := G1.f 1
          have f2 := G1.f 2
          have f3 := G1.f 3
          clear X1 G1
          go_wp2_with fail
          clear x0 x1 x2 x3 r0 r1 r2 r3 f0 f1 f2 f3
          obtain ⟨g0, g1, g2', g3⟩ := G.c
          exact bodyPost_ret (v := .tuple #[.agg #[.slice x5 (s.ws.length + 1) z5, .int .i64 s.nx, .slice ar s.rv.length cr, .slice ag s.sg.length cg], .slice al ks.length cl]) (by simp [results, Tryz.results12, go_sem, g0, g1, g2', g3]) rfl ⟨_, _, ⟨s.ws ++ [⟨nm, false, 0⟩], s.nx, s.rv, s.sg⟩, bl, _, _, rfl, by omega, by omega, hI2, by have := hsm.1; show (s.ws ++ [_]).length ≤ 20; rw [List.length_append, List.length_singleton]; omega, by have := hsm.2.1; show s.rv.length ≤ 20; omega, by have := hsm.2.2.1; show s.sg.length ≤ 300; omega, (fun k hk => by rcases List.mem_append.1 hk with h | h; exact hsm.2.2.2 k h; rw [List.mem_singleton] at h; subst h; exact hnm.1), hO.1, hO.2.1, hO.2.2⟩
        · go_simp
          refine (drawNm_any b a n c (q + 1) We hB0 hC0 (by omega)).mono ?_; rintro e y1 ⟨nm, hnm, rfl, hB2, ⟨q2, hq2, hC2⟩, hg2⟩
          refine hK.out _ _ ?_ (fun hHeld => ?_)
          · trivial
          clear hK K
          try simp only [Act.put, List.setIfInBounds_toArray, List.set_cons_zero, List.set_cons_succ]
          clear x0 x1 x2 x3
          have hD1 := hD0.grown hbl hg2 hB2 hC2
          refine takeW 4 (v := ?v11) rfl (by kernel_rfl) (by kernel_rfl) (by kernel_rfl) (fun _ _ _ h => h) (by rfl) (by assumption) ?hy11 ?rest11
          case hy11 => intro w' hSw; (try dsimp only at hSw); go_simp; try with_reducible rfl
          try simp only [Act.put, List.setIfInBounds_toArray, List.set_cons_zero, List.set_cons_succ]
          obtain ⟨x0, x1, x2, x3⟩ := hD1.box.c
          refine takeC2 1 5 (by kernel_rfl) rfl rfl (fun K hK => ?_) (fun K hK => ?_)
          · go_simp
            skip
            refine hK.out _ _ ?_ (fun hHeld => ?_)
            · trivial
            clear hK K
            try simp only [Act.put, List.setIfInBounds_toArray, List.set_cons_zero, List.set_cons_succ]
            clear x0 x1 x2 x3
            refine takeC 5 (by kernel_rfl) rfl (fun K hK => ?_)
            go_simp
            skip
            refine hK.out _ _ ?_ (fun hHeld => ?_)
            · trivial
            clear hK K
            try simp only [Act.put, List.setIfInBounds_toArray, List.set_cons_zero, List.set_cons_succ]
            have hD2 := hD1.below ((Below.refl _ y1).alloc (Nat.le_refl _) (.cells #[.string nm, .bool false, .int .i64 0] 64))
            refine takeC 6 (by kernel_rfl) rfl (fun K hK => ?_)
            refine step_append3 rfl (.tmp 113) (.tmp 117) 23 rfl bl 64 i0 _ 3 32 Tryz.underlying23 hi hz0 hz1 hz2 rfl (by decide) _ s.ws.length (s.ws.flatMap Wk.cells) rfl (hD2.iss.rows.1) ⟨y1.heap.size, 0, none⟩ 1 1 (Wk.mk nm false 0).cells rfl rfl (cell_wk_new y1 ⟨nm, false, 0⟩) (by intro u hu; simp at hu; first | (subst hu; rfl) | (rcases hu with rfl | rfl | rfl <;> rfl)) (by unfold maxLen; have := hsm.1; have := hsm.2.1; omega) (by have := hsm.1; have := hsm.2.1; omega) hD2.bt ?_; intro v5 w5 hown5 hg5; have M5 := Mid.of_grown hg5 (fun k hk => hD2.iss.rows.1.lt k hk); have hkw := hD2.kw; have hlo := hD2.lo; obtain ⟨x5, z5, rfl⟩ := ownsRow_len hown5
            refine hK.out _ _ ?_ (fun hHeld => ?_)
            · trivial
            clear hK K
            try simp only [Act.put, List.setIfInBounds_toArray, List.set_cons_zero, List.set_cons_succ]
            have hX5 := M5.four hD2.box (by omega)
            have hR5 := M5.four hD2.res (by omega)
            obtain ⟨x0', x1', x2', x3'⟩ := hX5.c
            have b0 := hX5.f 0
            refine takeW 7 (v := ?v12) rfl (by kernel_rfl) (by kernel_rfl) (by kernel_rfl) (fun _ _ _ h => h) (by rfl) (by assumption) ?hy12 ?rest12
            case hy12 => intro w' hSw; (try dsimp only at hSw); go_simp; try with_reducible rfl
            try simp only [Act.put, List.setIfInBounds_toArray, List.set_cons_zero, List.set_cons_succ]
            refine takeC 8 (by kernel_rfl) rfl (fun K hK => ?_)
            go_simp
            skip
            refine hK.out _ _ ?_ (fun hHeld => ?_)
            · trivial
            clear hK K
            try simp only [Act.put, List.setIfInBounds_toArray, List.set_cons_zero, List.set_cons_succ]
            refine wpAnyH_done (by kernel_rfl) ?_ _
            have hI := IsO.appW (x := ⟨nm, false, 0⟩) hD2.iss hg5 hown5
            have hL0 : Below w.heap.size (y1.alloc (.cells #[.string nm, .bool false, .int .i64 0] 64)) w5 := M5.below (n := w.heap.size) (by omega) hD2.gr.size
            have M1 : Mid k4 (k4 + 1) w5 (w5.setCell ⟨k4, 0, none⟩ (.slice x5 (s.ws.length + 1) z5)) := (Mid.of_below (Below.refl _ _)).set (p := ⟨k4, 0, none⟩) (Nat.le_refl _) (Nat.lt_succ_self _) _
            have G1 := M1.four hR5 (by omega)
            have X1 := hX5.s0 (.slice x5 (s.ws.length + 1) z5)
            have M2 := four_mid (w5.setCell ⟨k4, 0, none⟩ (.slice x5 (s.ws.length + 1) z5)) w.heap.size (.slice x5 (s.ws.length + 1) z5) (.int .i64 s.nx) (.slice ar s.rv.length cr) (.slice ag s.sg.length cg)
            have hI2 := M2.iso (M1.iso hI (by omega)) (by omega)
            have hsz9 := hL0.size
            have hsw := hD2.gr.size
            have hL := hL0.trans ((M1.below (n := w.heap.size) (by omega) (by omega)).trans (M2.below (n := w.heap.size) (Nat.le_refl _) (by rw [World.size_setCell]; omega)))
            have hO := hD2.outL hbl hL
            have G := (((G1.s0 (.slice x5 (s.ws.length + 1) z5)).s1 (.int .i64 s.nx)).s2 (.slice ar s.rv.length cr)).s3 (.slice ag s.sg.length cg)
            clear hI hL0 hR5 hX5 M1 M2 hL M5 x0' x1' x2' x3' b0 hown5 hg5
            generalize w5.setCell ⟨k4, 0, none⟩ (.slice x5 (s.ws.length + 1) z5) = V1 at *
            obtain ⟨x0, x1, x2, x3⟩ := X1.c
            obtain ⟨r0, r1, r2, r3⟩ := G1.c
            have f0 := G1.f 0
            have f1 := G1.f 1
            have f2 := G1.f 2
            have f3 := G1.f 3
            clear X1 G1
            go_wp2_with fail
            clear x0 x1 x2 x3 r0 r1 r2 r3 f0 f1 f2 f3
            obtain ⟨g0, g1, g2', g3⟩ := G.c
            exact bodyPost_ret (v := .tuple #[.agg #[.slice x5 (s.ws.length + 1) z5, .int .i64 s.nx, .slice ar s.rv.length cr, .slice ag s.sg.length cg], .slice al ks.length cl]) (by simp [results, Tryz.results12, go_sem, g0, g1, g2', g3]) rfl ⟨_, _, ⟨s.ws ++ [⟨nm, false, 0⟩], s.nx, s.rv, s.sg⟩, bl, _, _, rfl, by omega, by omega, hI2, by have := hsm.1; show (s.ws ++ [_]).length ≤ 20; rw [List.length_append, List.length_singleton]; omega, by have := hsm.2.1; show s.rv.length ≤ 20; omega, by have := hsm.2.2.1; show s.sg.length ≤ 300; omega, (fun k hk => by rcases List.mem_append.1 hk with h | h; exact hsm.2.2.2 k h; rw [List.mem_singleton] at h; subst h; exact hnm.1), hO.1, hO.2.1, hO.2.2⟩
          · go_simp
            skip
            refine hK.out _ _ ?_ (fun hHeld => ?_)
            · trivial
            clear hK K
            try simp only [Act.put, List.setIfInBounds_toArray, List.set_cons_zero, List.set_cons_succ]
            clear x0 x1 x2 x3
            have hD2 := hD1.below ((Below.refl _ y1).alloc (Nat.le_refl _) (.cells #[.string nm, .bool false, .int .i64 0] 64))
            obtain ⟨x0, x1, x2, x3⟩ := hD2.box.c
            refine takeC 1 (by kernel_rfl) rfl (fun K hK => ?_)
            go_simp
            skip
            refine hK.out _ _ ?_ (fun hHeld => ?_)
            · trivial
            clear hK K
            try simp only [Act.put, List.setIfInBounds_toArray, List.set_cons_zero, List.set_cons_succ]
            clear x0 x1 x2 x3
            refine takeC 6 (by kernel_rfl) rfl (fun K hK => ?_)
            refine step_append3 rfl (.tmp 113) (.tmp 117) 23 rfl bl 64 i0 _ 3 32 Tryz.underlying23 hi hz0 hz1 hz2 rfl (by decide) _ s.ws.length (s.ws.flatMap Wk.cells) rfl (hD2.iss.rows.1) ⟨y1.heap.size, 0, none⟩ 1 1 (Wk.mk nm false 0).cells rfl rfl (cell_wk_new y1 ⟨nm, false, 0⟩) (by intro u hu; simp at hu; first | (subst hu; rfl) | (rcases hu with rfl | rfl | rfl <;> rfl)) (by unfold maxLen; have := hsm.1; have := hsm.2.1; omega) (by have := hsm.1; have := hsm.2.1; omega) hD2.bt ?_; intro v5 w5 hown5 hg5; have M5 := Mid.of_grown hg5 (fun k hk => hD2.iss.rows.1.lt k hk); have hkw := hD2.kw; have hlo := hD2.lo; obtain ⟨x5, z5, rfl⟩ := ownsRow_len hown5
            refine hK.out _ _ ?_ (fun hHeld => ?_)
            · trivial
            clear hK K
            try simp only [Act.put, List.setIfInBounds_toArray, List.set_cons_zero, List.set_cons_succ]
            have hX5 := M5.four hD2.box (by omega)
            have hR5 := M5.four hD2.res (by omega)
            obtain ⟨x0', x1', x2', x3'⟩ := hX5.c
            have b0 := hX5.f 0
            refine takeW 7 (v := ?v13) rfl (by kernel_rfl) (by kernel_rfl) (by kernel_rfl) (fun _ _ _ h => h) (by rfl) (by assumption) ?hy13 ?rest13
            case hy13 => intro w' hSw; (try dsimp only at hSw); go_simp; try with_reducible rfl
            try simp only [Act.put, List.setIfInBounds_toArray, List.set_cons_zero, List.set_cons_succ]
            refine takeC 8 (by kernel_rfl) rfl (fun K hK => ?_)
            go_simp
            skip
            refine hK.out _ _ ?_ (fun hHeld => ?_)
            · trivial
            clear hK K
            try simp only [Act.put, List.setIfInBounds_toArray, List.set_cons_zero, List.set_cons_succ]
            refine wpAnyH_done (by kernel_rfl) ?_ _
            have hI := IsO.appW (x := ⟨nm, false, 0⟩) hD2.iss hg5 hown5
            have hL0 : Below w.heap.size (y1.alloc (.cells #[.string nm, .bool false, .int .i64 0] 64)) w5 := M5.below (n := w.heap.size) (by omega) hD2.gr.size
            have M1 : Mid k4 (k4 + 1) w5 (w5.setCell ⟨k4, 0, none⟩ (.slice x5 (s.ws.length + 1) z5)) := (Mid.of_below (Below.refl _ _)).set (p := ⟨k4, 0, none⟩) (Nat.le_refl _) (Nat.lt_succ_self _) _
            have G1 := M1.four hR5 (by omega)
            have X1 := hX5.s0 (.slice x5 (s.ws.length + 1) z5)
            have M2 := four_mid (w5.setCell ⟨k4, 0, none⟩ (.slice x5 (s.ws.length + 1) z5)) w.heap.size (.slice x5 (s.ws.length + 1) z5) (.int .i64 s.nx) (.slice ar s.rv.length cr) (.slice ag s.sg.length cg)
            have hI2 := M2.iso (M1.iso hI (by omega)) (by omega)
            have hsz9 := hL0.size
            have hsw := hD2.gr.size
            have hL := hL0.trans ((M1.below (n := w.heap.size) (by omega) (by omega)).trans (M2.below (n := w.heap.size) (Nat.le_refl _) (by rw [World.size_setCell]; omega)))
            have hO := hD2.outL hbl hL
            have G := (((G1.s0 (.slice x5 (s.ws.length + 1) z5)).s1 (.int .i64 s.nx)).s2 (.slice ar s.rv.length cr)).s3 (.slice ag s.sg.length cg)
            clear hI hL0 hR5 hX5 M1 M2 hL M5 x0' x1' x2' x3' b0 hown5 hg5
            generalize w5.setCell ⟨k4, 0, none⟩ (.slice x5 (s.ws.length + 1) z5) = V1 at *
            obtain ⟨x0, x1, x2, x3⟩ := X1.c
            obtain ⟨r0, r1, r2, r3⟩ := G1.c
            have f0 := G1.f 0
            have f1 := G1.f 1
            have f2 := G1.f 2
            have f3 := G1.f 3
            clear X1 G1
            go_wp2_with fail
            clear x0 x1 x2 x3 r0 r1 r2 r3 f0 f1 f2 f3
            obtain ⟨g0, g1, g2', g3⟩ := G.c
            exact bodyPost_ret (v := .tuple #[.agg #[.slice x5 (s.ws.length + 1) z5, .int .i64 s.nx, .slice ar s.rv.length cr, .slice ag s.sg.length cg], .slice al ks.length cl]) (by simp [results, Tryz.results12, go_sem, g0, g1, g2', g3]) rfl ⟨_, _, ⟨s.ws ++ [⟨nm, false, 0⟩], s.nx, s.rv, s.sg⟩, bl, _, _, rfl, by omega, by omega, hI2, by have := hsm.1; show (s.ws ++ [_]).length ≤ 20; rw [List.length_append, List.length_singleton]; omega, by have := hsm.2.1; show s.rv.length ≤ 20; omega, by have := hsm.2.2.1; show s.sg.length ≤ 300; omega, (fun k hk => by rcases List.mem_append.1 hk with h | h; exact hsm.2.2.2 k h; rw [List.mem_singleton] at h; subst h; exact hnm.1), hO.1, hO.2.1, hO.2.2⟩
      · have e0 : ((x4 : Int) == 0) = false := by rw [beq_eq_false_iff_ne]; omega
        have e1 : ((x4 : Int) == 1) = false := by rw [beq_eq_false_iff_ne]; omega
        have e2 : ((x4 : Int) == 2) = false := by rw [beq_eq_false_iff_ne]; omega
        have e3 : ((x4 : Int) == 3) = false := by rw [beq_eq_false_iff_ne]; omega
        obtain ⟨x0, x1, x2, x3⟩ := hK.box.c
        obtain ⟨r0, r1, r2, r3⟩ := hK.res.c
        have f0 := hK.res.f 0
        have f1 := hK.res.f 1
        have f2 := hK.res.f 2
        have f3 := hK.res.f 3
        have G := (((hK.res.s0 (.slice aw s.ws.length cw)).s1 (.int .i64 s.nx)).s2 (.slice ar s.rv.length cr)).s3 (.slice ag s.sg.length cg)
        have hO := hK.out hbl (four_mid u1 w.heap.size (.slice aw s.ws.length cw) (.int .i64 s.nx) (.slice ar s.rv.length cr) (.slice ag s.sg.length cg))
        clear hK hB1 hC1
        go_wp2_with fail
        clear x0 x1 x2 x3 r0 r1 r2 r3 f0 f1 f2 f3
        obtain ⟨g0, g1, g2', g3⟩ := G.c
        exact bodyPost_ret (v := .tuple #[.agg #[.slice aw s.ws.length cw, .int .i64 s.nx, .slice ar s.rv.length cr, .slice ag s.sg.length cg], .slice al ks.length cl]) (by simp [results, Tryz.results12, go_sem, g0, g1, g2', g3]) rfl ⟨_, _, s, bl, tl, q + 1, rfl, by omega, hO.1, hO.2.1, by have := hsm.1; omega, by have := hsm.2.1; omega, by have := hsm.2.2.1; omega, hsm.2.2.2, hO.2.2.1, hO.2.2.2.1, hO.2.2.2.2⟩

end Go.Proofs.YtallpldgkkpikaaGreatDoor
