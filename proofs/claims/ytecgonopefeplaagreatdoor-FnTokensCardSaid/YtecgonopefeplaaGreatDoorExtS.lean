/-
  Chapter 3: ExtendToken, by the specification.
-/
import Derived.Test.YtecgonopefeplaaGreatDoorTake
import Derived.Test.YtecgonopefeplaaGreatDoorExtT
namespace Go.Proofs.YtecgonopefeplaaGreatDoor
open Go.RowKit Go.Shelf

theorem step_append3 {P : Program} {w : World} {ops : Array Oper} {o : Oper} {a : Act} {K : Act → World → Prop} {Q : Exit → Act → World → Prop} {E : Prop} (hgd : o.guard = none) (s x : Operand) (t : TypeId)
    (ho : o.op = .call { callee := .builtin .append, args := #[s, x], argTypes := #[t, t] })
    (base : Nat) (e : TypeId) (i : TypeInfo) (z : Value) (size bytes : Nat) (ht : P.underlying t = some (.slice e)) (hi : P.info? e = some i) (hz : i.zero = some z)
    (hsize : i.size = size) (hby : i.bytes = bytes) (hzs : z.cells.size = size) (hsz : 0 < size)
    (v : Value) (n : Nat) (xs : List Value) (hs : a.eval s = v) (hown : w.ownsRow base e size v n xs)
    (ad : Addr) (m c : Nat) (news : List Value) (hx : a.eval x = .slice (some ad) m c) (hl : news.length = m * size) (hnews : ∀ j u, news[j]? = some u → w.cell? (ad.add j) = some u) (h1 : ∀ u ∈ news, u.oneCell' = true)
    (h63 : n + m ≤ maxLen) (hbytes : (n + m) * bytes ≤ 140737488355328) (hbase : base ≤ w.heap.size)
    (h : ∀ v' w', w'.ownsRow base e size v' (n + m) (xs ++ news) → w.grownBy w' v.ownBlock → K (a.put o.dst v') w') :
    if Region.wanted o (yielded ops a.tmps) = true then Oper.wp P o a w K Q else E := by
  have hw : Region.wanted o (yielded ops a.tmps) = true := by simp [Region.wanted, hgd]
  rw [if_pos hw]
  exact wp_append_own w s x t ho base e i z size bytes ht hi hz hsize hby hzs hsz v n xs hs hown ad m c news hx hl hnews h1 h63 hbytes hbase (fun v' w' h1 h2 _ => h v' w' h1 h2)
theorem grown_cell {w w' : World} {r : Option Nat} (h : w.grownBy w' r) {b o : Nat} (hb : b < w.heap.size) (hne : r ≠ some b) : w'.cell? ⟨b, o, none⟩ = w.cell? ⟨b, o, none⟩ := by
  simp only [World.cell?]
  rw [h.block b hb hne.symm]
theorem below_row3 {n₀ : Nat} {w W w1 : World} {e : TypeId} {size k : Nat} {v : Value} {xs : List Value} (hB : Below n₀ w W) (hs : n₀ ≤ W.heap.size) (hrow : W.ownsRow n₀ e size v k xs) (hg : W.grownBy w1 v.ownBlock) : Below n₀ w w1 := by
  refine hB.grown hg hs fun j ej => ?_
  rcases hrow.2 with ⟨rfl, _⟩ | ⟨g, cap, cur, rfl, hb, _, _⟩
  · simp [Value.ownBlock] at ej
  · obtain rfl : g = j := by simpa [Value.ownBlock] using ej
    exact hb
theorem cell_five_k (w : World) (r : Lk) : ∀ j u, r.cells[j]? = some u → (w.alloc (.cells #[.string r.who, .string r.to, .int .i64 r.se, .int .i64 r.fr, .int .i64 r.un] 35)).cell? ((⟨w.heap.size, 0, none⟩ : Addr).add j) = some u := by
  intro j u hu
  have hj : j < 5 := by have := (List.getElem?_eq_some_iff.1 hu).1; simpa using this
  obtain h | h | h | h | h : j = 0 ∨ j = 1 ∨ j = 2 ∨ j = 3 ∨ j = 4 := by omega
  all_goals subst h
  all_goals simp at hu
  all_goals subst hu
  all_goals simp [Addr.add]
theorem cell_five_n (w : World) (r : Lk) (n : Nat) (hn : n = w.heap.size) : ∀ j u, r.cells[j]? = some u → (w.alloc (.cells #[.string r.who, .string r.to, .int .i64 r.se, .int .i64 r.fr, .int .i64 r.un] 35)).cell? ((⟨n, 0, none⟩ : Addr).add j) = some u := by
  subst hn
  exact cell_five_k w r
theorem oldf5 {w : World} {o : Obj} {b : Nat} {r : Lk} (h : ∀ j u, r.cells[j]? = some u → w.cell? ((⟨b, 0, none⟩ : Addr).add j) = some u) (hb : b < w.heap.size) : ∀ j u, r.cells[j]? = some u → (w.alloc o).cell? ((⟨b, 0, none⟩ : Addr).add j) = some u := fun j u hu => by
  have := h j u hu
  rw [Addr.add_lit] at this ⊢
  exact (((Below.refl w.heap.size w).alloc (Nat.le_refl _) o).cell (p := ⟨b, 0 + j, none⟩) hb).trans this
theorem kept5 {w w' : World} {q : Option Nat} (hg : w.grownBy w' q) {b : Nat} {r : Lk} (h : ∀ j u, r.cells[j]? = some u → w.cell? ((⟨b, 0, none⟩ : Addr).add j) = some u) (hb : b < w.heap.size) (hne : q ≠ some b) : ∀ j u, r.cells[j]? = some u → w'.cell? ((⟨b, 0, none⟩ : Addr).add j) = some u := fun j u hu => by
  have := h j u hu
  rw [Addr.add_lit] at this ⊢
  exact (grown_cell hg hb hne).trans this
theorem rowE (w : World) {n : Nat} (hn : n = w.heap.size) : (w.alloc (.cells #[] 35)).ownsRow w.heap.size 35 5 (.slice (some ⟨n, 0, none⟩) 0 0) 0 [] := by
  subst hn
  exact ⟨rfl, .inr ⟨w.heap.size, 0, #[], rfl, Nat.le_refl _, by show (w.heap.push _)[w.heap.size]? = _; rw [Array.getElem?_push_size], Nat.le_refl _, by unfold maxLen; omega, by simp, by simp⟩⟩
theorem rowE2 (w : World) (n : Nat) {base : Nat} (hn : n = w.heap.size) (hb : base ≤ w.heap.size) : (w.alloc (.cells #[] 35)).ownsRow base 35 5 (.slice (some ⟨n, 0, none⟩) 0 0) 0 [] := by
  subst hn
  exact ⟨rfl, .inr ⟨w.heap.size, 0, #[], rfl, hb, by show (w.heap.push _)[w.heap.size]? = _; rw [Array.getElem?_push_size], Nat.le_refl _, by unfold maxLen; omega, by simp, by simp⟩⟩
theorem belE (w : World) : Below w.heap.size w (w.alloc (.cells #[] 35)) := (Below.refl _ w).alloc (Nat.le_refl _) _

set_option maxHeartbeats 4000000 in
theorem l3Extend_any (v : Value) (ks : List Lk) (to : ByteArray) (se nw li : Int) (m : Nat) (w : World) (h6 : ks.length ≤ 6) (hm : m < ks.length) (hl : m = ks.length - 1) (h1 : tmB nw = true) (h2 : tmB li = true) (hr : LkS w v ks) :
    Calls Tryz.prog 68 #[v, .string to, .int .i64 se, .int .i64 nw, .int .i64 li] w fun e w' => ∃ v', e = .returned v' ∧ w'.ownsRow w.heap.size 35 5 v' (ks ++ [ext1 ks[m] to se nw li]).length ((ks ++ [ext1 ks[m] to se nw li]).flatMap Lk.cells) ∧ Below w.heap.size w w' := by
  obtain ⟨a, cap, rfl⟩ := hr.len
  obtain ⟨i0, hi, hz0, hz1, hz2⟩ := info_parts infoLink
  have b1 := of_decide_eq_true h1
  have b2 := of_decide_eq_true h2
  obtain ⟨b, off, rfl, hb, hcap, q0, q1, q2, q3, q4⟩ := hr.at hm
  have hw1 : IntKind.i64.wrap ((ks.length : Int) - 1) = (m : Int) := by rw [IntKind.wrap_i64]; omega
  have hw2 : (m : Int) < (ks.length : Int) := by omega
  have hw3 : IntKind.i64.wrap (nw + li) = nw + li := by rw [IntKind.wrap_i64]; omega
  generalize hk : ks[m] = k at *
  clear hk hl
  have hB0 : Below w.heap.size w (w.alloc (.cells #[.string k.who, .string k.to, .int .i64 k.se, .int .i64 k.fr, .int .i64 k.un] 35)) := (Below.refl _ w).alloc (Nat.le_refl _) _
  by_cases hc : k.un < nw + li
  · have HE := hid (show ext1 k to se nw li = ⟨k.to, to, se, nw, k.un⟩ by unfold ext1; rw [mnI_lt hc])
    have hfin : ∀ {W : World} {base : Nat} {v' : Value}, W.ownsRow base 35 5 v' (0 + ks.length + 1) ([] ++ ks.flatMap Lk.cells ++ Lk.cells ⟨k.to, to, se, nw, k.un⟩) → base = w.heap.size + 1 → W.ownsRow w.heap.size 35 5 v' (ks ++ [ext1 k to se nw li]).length ((ks ++ [ext1 k to se nw li]).flatMap Lk.cells) := fun {W base v'} h hb => by
      rw [HE.out]
      have := Go.Joins.ownsRow_le h (show w.heap.size ≤ base by omega)
      simpa using this
    go_enter Tryz.func68, Tryz.ntmps68
    go_wp2_with fail
    have hx1 : (w.alloc (.cells #[.string k.who, .string k.to, .int .i64 k.se, .int .i64 k.fr, .int .i64 k.un] 35)).drew.cell? ⟨w.heap.size, 1, none⟩ = some (.string k.to) := by simp
    have hW1s : (w.alloc (.cells #[.string k.who, .string k.to, .int .i64 k.se, .int .i64 k.fr, .int .i64 k.un] 35)).drew.heap.size = w.heap.size + 1 := by simp
    have hBw : Below w.heap.size w (w.alloc (.cells #[.string k.who, .string k.to, .int .i64 k.se, .int .i64 k.fr, .int .i64 k.un] 35)).drew := hB0.drew
    have hrW := hr.below hBw
    have hbx : w.heap.size < (w.alloc (.cells #[.string k.who, .string k.to, .int .i64 k.se, .int .i64 k.fr, .int .i64 k.un] 35)).drew.heap.size := by simp
    generalize w.alloc (.cells #[.string k.who, .string k.to, .int .i64 k.se, .int .i64 k.fr, .int .i64 k.un] 35) = Wb at *
    have HWs := hid hW1s
    clear hB0 q0 q1 q2 q3 q4 hW1s
    refine wp_region_held_drew (S := fun w' => w'.cell? ⟨w.heap.size, 1, none⟩ = some (.string k.to)) (by kernel_rfl) ?_ (fun hHeld => ?_)
    · exact hx1
    clear hHeld
    generalize Wb.drew = W1 at *
    have hHeld := hx1
    refine takeW 1 (v := ?v1) rfl (by kernel_rfl) (by kernel_rfl) (by kernel_rfl) (fun _ _ _ h => h) (by rfl) (by assumption) ?hy1 ?rest1
    case hy1 => intro w' hSw; (try dsimp only at hSw); go_simp; try with_reducible rfl
    try simp only [Act.put, List.setIfInBounds_toArray, List.set_cons_zero, List.set_cons_succ]
    refine takeW 3 (v := ?v2) rfl (by kernel_rfl) (by kernel_rfl) (by kernel_rfl) (fun _ _ _ h => h) (by rfl) (by assumption) ?hy2 ?rest2
    case hy2 => intro w' hSw; (try dsimp only at hSw); go_simp; try with_reducible rfl
    try simp only [Act.put, List.setIfInBounds_toArray, List.set_cons_zero, List.set_cons_succ]
    refine takeW 4 (v := ?v3) rfl (by kernel_rfl) (by kernel_rfl) (by kernel_rfl) (fun _ _ _ h => h) (by rfl) (by assumption) ?hy3 ?rest3
    case hy3 => intro w' hSw; (try dsimp only at hSw); go_simp; try with_reducible rfl
    try simp only [Act.put, List.setIfInBounds_toArray, List.set_cons_zero, List.set_cons_succ]
    refine takeW 5 (v := ?v4) rfl (by kernel_rfl) (by kernel_rfl) (by kernel_rfl) (fun _ _ _ h => h) (by rfl) (by assumption) ?hy4 ?rest4
    case hy4 => intro w' hSw; (try dsimp only at hSw); go_simp; try with_reducible rfl
    try simp only [Act.put, List.setIfInBounds_toArray, List.set_cons_zero, List.set_cons_succ]
    refine takeW 6 (v := ?v5) rfl (by kernel_rfl) (by kernel_rfl) (by kernel_rfl) (fun _ _ _ h => h) (by rfl) (by assumption) ?hy5 ?rest5
    case hy5 => intro w' hSw; (try dsimp only at hSw); go_simp; try with_reducible rfl
    try simp only [Act.put, List.setIfInBounds_toArray, List.set_cons_zero, List.set_cons_succ]
    refine takeW 7 (v := ?v6) rfl (by kernel_rfl) (by kernel_rfl) (by kernel_rfl) (fun _ _ _ h => h) (by rfl) (by assumption) ?hy6 ?rest6
    case hy6 => intro w' hSw; (try dsimp only at hSw); go_simp; try with_reducible rfl
    try simp only [Act.put, List.setIfInBounds_toArray, List.set_cons_zero, List.set_cons_succ]
    refine takeW 8 (v := ?v7) rfl (by kernel_rfl) (by kernel_rfl) (by kernel_rfl) (fun _ _ _ h => h) (by rfl) (by assumption) ?hy7 ?rest7
    case hy7 => intro w' hSw; (try dsimp only at hSw); go_simp; try with_reducible rfl
    try simp only [Act.put, List.setIfInBounds_toArray, List.set_cons_zero, List.set_cons_succ]
    refine takeW 9 (v := ?v8) rfl (by kernel_rfl) (by kernel_rfl) (by kernel_rfl) (fun _ _ _ h => h) (by rfl) (by assumption) ?hy8 ?rest8
    case hy8 => intro w' hSw; (try dsimp only at hSw); go_simp; try with_reducible rfl
    try simp only [Act.put, List.setIfInBounds_toArray, List.set_cons_zero, List.set_cons_succ]
    refine wpAnyH_ready (rs := [0, 10]) (by kernel_rfl) (by simp) ?_
    refine AllReadyH.cons (at_drop rfl) (fun K hK => ?_) (AllReadyH.cons (at_drop rfl) (fun K hK => ?_) AllReadyH.nil)
    · go_simp
      skip
      refine hK.out _ _ ?_ (fun hHeld => ?_)
      · go_keep
      clear hK K
      try simp only [Act.put, List.setIfInBounds_toArray, List.set_cons_zero, List.set_cons_succ]
      refine wpAnyH_ready (rs := [2, 10]) (by kernel_rfl) (by simp) ?_
      refine AllReadyH.cons (at_drop rfl) (fun K hK => ?_) (AllReadyH.cons (at_drop rfl) (fun K hK => ?_) AllReadyH.nil)
      · refine step_append3 rfl (.tmp 28) (.tmp 29) 23 rfl W1.heap.size 35 i0 _ 5 56 Tryz.underlying23 hi hz0 hz1 hz2 rfl (by decide) _ 0 [] rfl (rowE W1 rfl) ⟨b, off, none⟩ ks.length cap (ks.flatMap Lk.cells) rfl (by rw [lflat_len]) (lks_cells (hrW.below (belE W1))) cells_one3 (by unfold maxLen; omega) (by omega) (by simp <;> omega) ?_; intro v1 w3 hown1 hgrow1; have hC3 := below_row3 (belE W1) (by simp) (rowE W1 rfl) hgrow1; have x3 := (hC3.cell (p := ⟨w.heap.size, 1, none⟩) hbx).trans hx1
        refine hK.out _ _ ?_ (fun hHeld => ?_)
        · go_keep
        clear hK K
        try simp only [Act.put, List.setIfInBounds_toArray, List.set_cons_zero, List.set_cons_succ]
        refine takeC 10 (by kernel_rfl) rfl (fun K hK => ?_)
        go_simp
        have hC4 : Below W1.heap.size W1 (w3.alloc (.cells #[.string k.to, .string to, .int .i64 se, .int .i64 nw, .int .i64 (k.un)] 35)) := hC3.alloc hC3.size _
        refine hK.out _ _ ?_ (fun hHeld => ?_)
        · go_keep
        clear hK K
        try simp only [Act.put, List.setIfInBounds_toArray, List.set_cons_zero, List.set_cons_succ]
        refine takeC 11 (by kernel_rfl) rfl (fun K hK => ?_)
        refine step_append3 rfl (.tmp 30) (.tmp 38) 23 rfl W1.heap.size 35 i0 _ 5 56 Tryz.underlying23 hi hz0 hz1 hz2 rfl (by decide) _ (0 + ks.length) _ rfl (hown1.alloc _) ⟨w3.heap.size, 0, none⟩ 1 1 (Lk.cells ⟨k.to, to, se, nw, k.un⟩) rfl rfl (cell_five_k w3 ⟨k.to, to, se, nw, k.un⟩) (by intro u hu; simp at hu; rcases hu with rfl | rfl | rfl | rfl | rfl <;> rfl) (by unfold maxLen; omega) (by omega) (by have := hC3.size; simp; omega) ?_; intro v2 w5 hown2 hgrow2; have hC5 := below_row3 hC4 hC4.size (hown1.alloc _) hgrow2; have x5 := (hC5.cell (p := ⟨w.heap.size, 1, none⟩) hbx).trans hx1
        refine hK.out _ _ ?_ (fun hHeld => ?_)
        · go_keep
        clear hK K
        try simp only [Act.put, List.setIfInBounds_toArray, List.set_cons_zero, List.set_cons_succ]
        refine takeW 12 (v := ?v9) rfl (by kernel_rfl) (by kernel_rfl) (by kernel_rfl) (fun _ _ _ h => h) (by rfl) (by assumption) ?hy9 ?rest9
        case hy9 => intro w' hSw; (try dsimp only at hSw); go_simp; try with_reducible rfl
        try simp only [Act.put, List.setIfInBounds_toArray, List.set_cons_zero, List.set_cons_succ]
        refine wpAnyH_done (by kernel_rfl) ?_ _
        go_wp2
        go_ret
        exact ⟨_, rfl, hfin hown2 HWs.out, below_one hBw hC5⟩
      · go_simp
        have hC3 : Below W1.heap.size W1 ((W1.alloc (.cells #[] 35)).alloc (.cells #[.string k.to, .string to, .int .i64 se, .int .i64 nw, .int .i64 (k.un)] 35)) := (belE W1).alloc (belE W1).size _
        refine hK.out _ _ ?_ (fun hHeld => ?_)
        · go_keep
        clear hK K
        try simp only [Act.put, List.setIfInBounds_toArray, List.set_cons_zero, List.set_cons_succ]
        refine takeC 2 (by kernel_rfl) rfl (fun K hK => ?_)
        refine step_append3 rfl (.tmp 28) (.tmp 29) 23 rfl W1.heap.size 35 i0 _ 5 56 Tryz.underlying23 hi hz0 hz1 hz2 rfl (by decide) _ 0 [] rfl ((rowE W1 rfl).alloc _) ⟨b, off, none⟩ ks.length cap (ks.flatMap Lk.cells) rfl (by rw [lflat_len]) (lks_cells (hrW.below hC3)) cells_one3 (by unfold maxLen; omega) (by omega) (by simp <;> omega) ?_; intro v1 w3 hown1 hgrow1; have hC4 := below_row3 hC3 hC3.size ((rowE W1 rfl).alloc _) hgrow1; have x4 := (hC4.cell (p := ⟨w.heap.size, 1, none⟩) hbx).trans hx1
        refine hK.out _ _ ?_ (fun hHeld => ?_)
        · go_keep
        clear hK K
        try simp only [Act.put, List.setIfInBounds_toArray, List.set_cons_zero, List.set_cons_succ]
        refine takeC 11 (by kernel_rfl) rfl (fun K hK => ?_)
        refine step_append3 rfl (.tmp 30) (.tmp 38) 23 rfl W1.heap.size 35 i0 _ 5 56 Tryz.underlying23 hi hz0 hz1 hz2 rfl (by decide) _ (0 + ks.length) _ rfl hown1 ⟨W1.heap.size + 1, 0, none⟩ 1 1 (Lk.cells ⟨k.to, to, se, nw, k.un⟩) rfl rfl (kept5 hgrow1 (cell_five_n (W1.alloc (.cells #[] 35)) ⟨k.to, to, se, nw, k.un⟩ (W1.heap.size + 1) (by simp)) (by simp) (show (Value.slice (some ⟨W1.heap.size, 0, none⟩) 0 0).ownBlock ≠ some (W1.heap.size + 1) from by simp [Value.ownBlock])) (by intro u hu; simp at hu; rcases hu with rfl | rfl | rfl | rfl | rfl <;> rfl) (by unfold maxLen; omega) (by omega) hC4.size ?_; intro v2 w5 hown2 hgrow2; have hC5 := below_row3 hC4 hC4.size hown1 hgrow2; have x5 := (hC5.cell (p := ⟨w.heap.size, 1, none⟩) hbx).trans hx1
        refine hK.out _ _ ?_ (fun hHeld => ?_)
        · go_keep
        clear hK K
        try simp only [Act.put, List.setIfInBounds_toArray, List.set_cons_zero, List.set_cons_succ]
        refine takeW 12 (v := ?v10) rfl (by kernel_rfl) (by kernel_rfl) (by kernel_rfl) (fun _ _ _ h => h) (by rfl) (by assumption) ?hy10 ?rest10
        case hy10 => intro w' hSw; (try dsimp only at hSw); go_simp; try with_reducible rfl
        try simp only [Act.put, List.setIfInBounds_toArray, List.set_cons_zero, List.set_cons_succ]
        refine wpAnyH_done (by kernel_rfl) ?_ _
        go_wp2
        go_ret
        exact ⟨_, rfl, hfin hown2 HWs.out, below_one hBw hC5⟩
    · go_simp
      have hC2 : Below W1.heap.size W1 (W1.alloc (.cells #[.string k.to, .string to, .int .i64 se, .int .i64 nw, .int .i64 (k.un)] 35)) := (Below.refl _ W1).alloc (Nat.le_refl _) _
      refine hK.out _ _ ?_ (fun hHeld => ?_)
      · go_keep
      clear hK K
      try simp only [Act.put, List.setIfInBounds_toArray, List.set_cons_zero, List.set_cons_succ]
      refine takeC 0 (by kernel_rfl) rfl (fun K hK => ?_)
      go_simp
      have hC3 : Below W1.heap.size W1 ((W1.alloc (.cells #[.string k.to, .string to, .int .i64 se, .int .i64 nw, .int .i64 (k.un)] 35)).alloc (.cells #[] 35)) := hC2.alloc hC2.size _
      refine hK.out _ _ ?_ (fun hHeld => ?_)
      · go_keep
      clear hK K
      try simp only [Act.put, List.setIfInBounds_toArray, List.set_cons_zero, List.set_cons_succ]
      refine takeC 2 (by kernel_rfl) rfl (fun K hK => ?_)
      refine step_append3 rfl (.tmp 28) (.tmp 29) 23 rfl W1.heap.size 35 i0 _ 5 56 Tryz.underlying23 hi hz0 hz1 hz2 rfl (by decide) _ 0 [] rfl (rowE2 (W1.alloc (.cells #[.string k.to, .string to, .int .i64 se, .int .i64 nw, .int .i64 (k.un)] 35)) (W1.heap.size + 1) (by simp) (by simp)) ⟨b, off, none⟩ ks.length cap (ks.flatMap Lk.cells) rfl (by rw [lflat_len]) (lks_cells (hrW.below hC3)) cells_one3 (by unfold maxLen; omega) (by omega) (by simp <;> omega) ?_; intro v1 w3 hown1 hgrow1; have hC4 := below_row3 hC3 hC3.size (rowE2 (W1.alloc (.cells #[.string k.to, .string to, .int .i64 se, .int .i64 nw, .int .i64 (k.un)] 35)) (W1.heap.size + 1) (by simp) (by simp)) hgrow1; have x4 := (hC4.cell (p := ⟨w.heap.size, 1, none⟩) hbx).trans hx1
      refine hK.out _ _ ?_ (fun hHeld => ?_)
      · go_keep
      clear hK K
      try simp only [Act.put, List.setIfInBounds_toArray, List.set_cons_zero, List.set_cons_succ]
      refine takeC 11 (by kernel_rfl) rfl (fun K hK => ?_)
      refine step_append3 rfl (.tmp 30) (.tmp 38) 23 rfl W1.heap.size 35 i0 _ 5 56 Tryz.underlying23 hi hz0 hz1 hz2 rfl (by decide) _ (0 + ks.length) _ rfl hown1 ⟨W1.heap.size, 0, none⟩ 1 1 (Lk.cells ⟨k.to, to, se, nw, k.un⟩) rfl rfl (kept5 hgrow1 (oldf5 (cell_five_n W1 ⟨k.to, to, se, nw, k.un⟩ W1.heap.size rfl) (by simp)) (by simp; omega) (show (Value.slice (some ⟨W1.heap.size + 1, 0, none⟩) 0 0).ownBlock ≠ some W1.heap.size from by simp [Value.ownBlock])) (by intro u hu; simp at hu; rcases hu with rfl | rfl | rfl | rfl | rfl <;> rfl) (by unfold maxLen; omega) (by omega) hC4.size ?_; intro v2 w5 hown2 hgrow2; have hC5 := below_row3 hC4 hC4.size hown1 hgrow2; have x5 := (hC5.cell (p := ⟨w.heap.size, 1, none⟩) hbx).trans hx1
      refine hK.out _ _ ?_ (fun hHeld => ?_)
      · go_keep
      clear hK K
      try simp only [Act.put, List.setIfInBounds_toArray, List.set_cons_zero, List.set_cons_succ]
      refine takeW 12 (v := ?v11) rfl (by kernel_rfl) (by kernel_rfl) (by kernel_rfl) (fun _ _ _ h => h) (by rfl) (by assumption) ?hy11 ?rest11
      case hy11 => intro w' hSw; (try dsimp only at hSw); go_simp; try with_reducible rfl
      try simp only [Act.put, List.setIfInBounds_toArray, List.set_cons_zero, List.set_cons_succ]
      refine wpAnyH_done (by kernel_rfl) ?_ _
      go_wp2
      go_ret
      exact ⟨_, rfl, hfin hown2 HWs.out, below_one hBw hC5⟩
  · have HE := hid (show ext1 k to se nw li = ⟨k.to, to, se, nw, nw + li⟩ by unfold ext1; rw [mnI_ge hc])
    have hfin : ∀ {W : World} {base : Nat} {v' : Value}, W.ownsRow base 35 5 v' (0 + ks.length + 1) ([] ++ ks.flatMap Lk.cells ++ Lk.cells ⟨k.to, to, se, nw, nw + li⟩) → base = w.heap.size + 1 → W.ownsRow w.heap.size 35 5 v' (ks ++ [ext1 k to se nw li]).length ((ks ++ [ext1 k to se nw li]).flatMap Lk.cells) := fun {W base v'} h hb => by
      rw [HE.out]
      have := Go.Joins.ownsRow_le h (show w.heap.size ≤ base by omega)
      simpa using this
    go_enter Tryz.func68, Tryz.ntmps68
    go_wp2_with fail
    have hx1 : (w.alloc (.cells #[.string k.who, .string k.to, .int .i64 k.se, .int .i64 k.fr, .int .i64 k.un] 35)).drew.cell? ⟨w.heap.size, 1, none⟩ = some (.string k.to) := by simp
    have hW1s : (w.alloc (.cells #[.string k.who, .string k.to, .int .i64 k.se, .int .i64 k.fr, .int .i64 k.un] 35)).drew.heap.size = w.heap.size + 1 := by simp
    have hBw : Below w.heap.size w (w.alloc (.cells #[.string k.who, .string k.to, .int .i64 k.se, .int .i64 k.fr, .int .i64 k.un] 35)).drew := hB0.drew
    have hrW := hr.below hBw
    have hbx : w.heap.size < (w.alloc (.cells #[.string k.who, .string k.to, .int .i64 k.se, .int .i64 k.fr, .int .i64 k.un] 35)).drew.heap.size := by simp
    generalize w.alloc (.cells #[.string k.who, .string k.to, .int .i64 k.se, .int .i64 k.fr, .int .i64 k.un] 35) = Wb at *
    have HWs := hid hW1s
    clear hB0 q0 q1 q2 q3 q4 hW1s
    refine wp_region_held_drew (S := fun w' => w'.cell? ⟨w.heap.size, 1, none⟩ = some (.string k.to)) (by kernel_rfl) ?_ (fun hHeld => ?_)
    · exact hx1
    clear hHeld
    generalize Wb.drew = W1 at *
    have hHeld := hx1
    refine takeW 1 (v := ?v12) rfl (by kernel_rfl) (by kernel_rfl) (by kernel_rfl) (fun _ _ _ h => h) (by rfl) (by assumption) ?hy12 ?rest12
    case hy12 => intro w' hSw; (try dsimp only at hSw); go_simp; try with_reducible rfl
    try simp only [Act.put, List.setIfInBounds_toArray, List.set_cons_zero, List.set_cons_succ]
    refine takeW 3 (v := ?v13) rfl (by kernel_rfl) (by kernel_rfl) (by kernel_rfl) (fun _ _ _ h => h) (by rfl) (by assumption) ?hy13 ?rest13
    case hy13 => intro w' hSw; (try dsimp only at hSw); go_simp; try with_reducible rfl
    try simp only [Act.put, List.setIfInBounds_toArray, List.set_cons_zero, List.set_cons_succ]
    refine takeW 4 (v := ?v14) rfl (by kernel_rfl) (by kernel_rfl) (by kernel_rfl) (fun _ _ _ h => h) (by rfl) (by assumption) ?hy14 ?rest14
    case hy14 => intro w' hSw; (try dsimp only at hSw); go_simp; try with_reducible rfl
    try simp only [Act.put, List.setIfInBounds_toArray, List.set_cons_zero, List.set_cons_succ]
    refine takeW 5 (v := ?v15) rfl (by kernel_rfl) (by kernel_rfl) (by kernel_rfl) (fun _ _ _ h => h) (by rfl) (by assumption) ?hy15 ?rest15
    case hy15 => intro w' hSw; (try dsimp only at hSw); go_simp; try with_reducible rfl
    try simp only [Act.put, List.setIfInBounds_toArray, List.set_cons_zero, List.set_cons_succ]
    refine takeW 6 (v := ?v16) rfl (by kernel_rfl) (by kernel_rfl) (by kernel_rfl) (fun _ _ _ h => h) (by rfl) (by assumption) ?hy16 ?rest16
    case hy16 => intro w' hSw; (try dsimp only at hSw); go_simp; try with_reducible rfl
    try simp only [Act.put, List.setIfInBounds_toArray, List.set_cons_zero, List.set_cons_succ]
    refine takeW 7 (v := ?v17) rfl (by kernel_rfl) (by kernel_rfl) (by kernel_rfl) (fun _ _ _ h => h) (by rfl) (by assumption) ?hy17 ?rest17
    case hy17 => intro w' hSw; (try dsimp only at hSw); go_simp; try with_reducible rfl
    try simp only [Act.put, List.setIfInBounds_toArray, List.set_cons_zero, List.set_cons_succ]
    refine takeW 8 (v := ?v18) rfl (by kernel_rfl) (by kernel_rfl) (by kernel_rfl) (fun _ _ _ h => h) (by rfl) (by assumption) ?hy18 ?rest18
    case hy18 => intro w' hSw; (try dsimp only at hSw); go_simp; try with_reducible rfl
    try simp only [Act.put, List.setIfInBounds_toArray, List.set_cons_zero, List.set_cons_succ]
    refine takeW 9 (v := ?v19) rfl (by kernel_rfl) (by kernel_rfl) (by kernel_rfl) (fun _ _ _ h => h) (by rfl) (by assumption) ?hy19 ?rest19
    case hy19 => intro w' hSw; (try dsimp only at hSw); go_simp; try with_reducible rfl
    try simp only [Act.put, List.setIfInBounds_toArray, List.set_cons_zero, List.set_cons_succ]
    refine wpAnyH_ready (rs := [0, 10]) (by kernel_rfl) (by simp) ?_
    refine AllReadyH.cons (at_drop rfl) (fun K hK => ?_) (AllReadyH.cons (at_drop rfl) (fun K hK => ?_) AllReadyH.nil)
    · go_simp
      skip
      refine hK.out _ _ ?_ (fun hHeld => ?_)
      · go_keep
      clear hK K
      try simp only [Act.put, List.setIfInBounds_toArray, List.set_cons_zero, List.set_cons_succ]
      refine wpAnyH_ready (rs := [2, 10]) (by kernel_rfl) (by simp) ?_
      refine AllReadyH.cons (at_drop rfl) (fun K hK => ?_) (AllReadyH.cons (at_drop rfl) (fun K hK => ?_) AllReadyH.nil)
      · refine step_append3 rfl (.tmp 28) (.tmp 29) 23 rfl W1.heap.size 35 i0 _ 5 56 Tryz.underlying23 hi hz0 hz1 hz2 rfl (by decide) _ 0 [] rfl (rowE W1 rfl) ⟨b, off, none⟩ ks.length cap (ks.flatMap Lk.cells) rfl (by rw [lflat_len]) (lks_cells (hrW.below (belE W1))) cells_one3 (by unfold maxLen; omega) (by omega) (by simp <;> omega) ?_; intro v1 w3 hown1 hgrow1; have hC3 := below_row3 (belE W1) (by simp) (rowE W1 rfl) hgrow1; have x3 := (hC3.cell (p := ⟨w.heap.size, 1, none⟩) hbx).trans hx1
        refine hK.out _ _ ?_ (fun hHeld => ?_)
        · go_keep
        clear hK K
        try simp only [Act.put, List.setIfInBounds_toArray, List.set_cons_zero, List.set_cons_succ]
        refine takeC 10 (by kernel_rfl) rfl (fun K hK => ?_)
        go_simp
        have hC4 : Below W1.heap.size W1 (w3.alloc (.cells #[.string k.to, .string to, .int .i64 se, .int .i64 nw, .int .i64 (nw + li)] 35)) := hC3.alloc hC3.size _
        refine hK.out _ _ ?_ (fun hHeld => ?_)
        · go_keep
        clear hK K
        try simp only [Act.put, List.setIfInBounds_toArray, List.set_cons_zero, List.set_cons_succ]
        refine takeC 11 (by kernel_rfl) rfl (fun K hK => ?_)
        refine step_append3 rfl (.tmp 30) (.tmp 38) 23 rfl W1.heap.size 35 i0 _ 5 56 Tryz.underlying23 hi hz0 hz1 hz2 rfl (by decide) _ (0 + ks.length) _ rfl (hown1.alloc _) ⟨w3.heap.size, 0, none⟩ 1 1 (Lk.cells ⟨k.to, to, se, nw, nw + li⟩) rfl rfl (cell_five_k w3 ⟨k.to, to, se, nw, nw + li⟩) (by intro u hu; simp at hu; rcases hu with rfl | rfl | rfl | rfl | rfl <;> rfl) (by unfold maxLen; omega) (by omega) (by have := hC3.size; simp; omega) ?_; intro v2 w5 hown2 hgrow2; have hC5 := below_row3 hC4 hC4.size (hown1.alloc _) hgrow2; have x5 := (hC5.cell (p := ⟨w.heap.size, 1, none⟩) hbx).trans hx1
        refine hK.out _ _ ?_ (fun hHeld => ?_)
        · go_keep
        clear hK K
        try simp only [Act.put, List.setIfInBounds_toArray, List.set_cons_zero, List.set_cons_succ]
        refine takeW 12 (v := ?v20) rfl (by kernel_rfl) (by kernel_rfl) (by kernel_rfl) (fun _ _ _ h => h) (by rfl) (by assumption) ?hy20 ?rest20
        case hy20 => intro w' hSw; (try dsimp only at hSw); go_simp; try with_reducible rfl
        try simp only [Act.put, List.setIfInBounds_toArray, List.set_cons_zero, List.set_cons_succ]
        refine wpAnyH_done (by kernel_rfl) ?_ _
        go_wp2
        go_ret
        exact ⟨_, rfl, hfin hown2 HWs.out, below_one hBw hC5⟩
      · go_simp
        have hC3 : Below W1.heap.size W1 ((W1.alloc (.cells #[] 35)).alloc (.cells #[.string k.to, .string to, .int .i64 se, .int .i64 nw, .int .i64 (nw + li)] 35)) := (belE W1).alloc (belE W1).size _
        refine hK.out _ _ ?_ (fun hHeld => ?_)
        · go_keep
        clear hK K
        try simp only [Act.put, List.setIfInBounds_toArray, List.set_cons_zero, List.set_cons_succ]
        refine takeC 2 (by kernel_rfl) rfl (fun K hK => ?_)
        refine step_append3 rfl (.tmp 28) (.tmp 29) 23 rfl W1.heap.size 35 i0 _ 5 56 Tryz.underlying23 hi hz0 hz1 hz2 rfl (by decide) _ 0 [] rfl ((rowE W1 rfl).alloc _) ⟨b, off, none⟩ ks.length cap (ks.flatMap Lk.cells) rfl (by rw [lflat_len]) (lks_cells (hrW.below hC3)) cells_one3 (by unfold maxLen; omega) (by omega) (by simp <;> omega) ?_; intro v1 w3 hown1 hgrow1; have hC4 := below_row3 hC3 hC3.size ((rowE W1 rfl).alloc _) hgrow1; have x4 := (hC4.cell (p := ⟨w.heap.size, 1, none⟩) hbx).trans hx1
        refine hK.out _ _ ?_ (fun hHeld => ?_)
        · go_keep
        clear hK K
        try simp only [Act.put, List.setIfInBounds_toArray, List.set_cons_zero, List.set_cons_succ]
        refine takeC 11 (by kernel_rfl) rfl (fun K hK => ?_)
        refine step_append3 rfl (.tmp 30) (.tmp 38) 23 rfl W1.heap.size 35 i0 _ 5 56 Tryz.underlying23 hi hz0 hz1 hz2 rfl (by decide) _ (0 + ks.length) _ rfl hown1 ⟨W1.heap.size + 1, 0, none⟩ 1 1 (Lk.cells ⟨k.to, to, se, nw, nw + li⟩) rfl rfl (kept5 hgrow1 (cell_five_n (W1.alloc (.cells #[] 35)) ⟨k.to, to, se, nw, nw + li⟩ (W1.heap.size + 1) (by simp)) (by simp) (show (Value.slice (some ⟨W1.heap.size, 0, none⟩) 0 0).ownBlock ≠ some (W1.heap.size + 1) from by simp [Value.ownBlock])) (by intro u hu; simp at hu; rcases hu with rfl | rfl | rfl | rfl | rfl <;> rfl) (by unfold maxLen; omega) (by omega) hC4.size ?_; intro v2 w5 hown2 hgrow2; have hC5 := below_row3 hC4 hC4.size hown1 hgrow2; have x5 := (hC5.cell (p := ⟨w.heap.size, 1, none⟩) hbx).trans hx1
        refine hK.out _ _ ?_ (fun hHeld => ?_)
        · go_keep
        clear hK K
        try simp only [Act.put, List.setIfInBounds_toArray, List.set_cons_zero, List.set_cons_succ]
        refine takeW 12 (v := ?v21) rfl (by kernel_rfl) (by kernel_rfl) (by kernel_rfl) (fun _ _ _ h => h) (by rfl) (by assumption) ?hy21 ?rest21
        case hy21 => intro w' hSw; (try dsimp only at hSw); go_simp; try with_reducible rfl
        try simp only [Act.put, List.setIfInBounds_toArray, List.set_cons_zero, List.set_cons_succ]
        refine wpAnyH_done (by kernel_rfl) ?_ _
        go_wp2
        go_ret
        exact ⟨_, rfl, hfin hown2 HWs.out, below_one hBw hC5⟩
    · go_simp
      have hC2 : Below W1.heap.size W1 (W1.alloc (.cells #[.string k.to, .string to, .int .i64 se, .int .i64 nw, .int .i64 (nw + li)] 35)) := (Below.refl _ W1).alloc (Nat.le_refl _) _
      refine hK.out _ _ ?_ (fun hHeld => ?_)
      · go_keep
      clear hK K
      try simp only [Act.put, List.setIfInBounds_toArray, List.set_cons_zero, List.set_cons_succ]
      refine takeC 0 (by kernel_rfl) rfl (fun K hK => ?_)
      go_simp
      have hC3 : Below W1.heap.size W1 ((W1.alloc (.cells #[.string k.to, .string to, .int .i64 se, .int .i64 nw, .int .i64 (nw + li)] 35)).alloc (.cells #[] 35)) := hC2.alloc hC2.size _
      refine hK.out _ _ ?_ (fun hHeld => ?_)
      · go_keep
      clear hK K
      try simp only [Act.put, List.setIfInBounds_toArray, List.set_cons_zero, List.set_cons_succ]
      refine takeC 2 (by kernel_rfl) rfl (fun K hK => ?_)
      refine step_append3 rfl (.tmp 28) (.tmp 29) 23 rfl W1.heap.size 35 i0 _ 5 56 Tryz.underlying23 hi hz0 hz1 hz2 rfl (by decide) _ 0 [] rfl (rowE2 (W1.alloc (.cells #[.string k.to, .string to, .int .i64 se, .int .i64 nw, .int .i64 (nw + li)] 35)) (W1.heap.size + 1) (by simp) (by simp)) ⟨b, off, none⟩ ks.length cap (ks.flatMap Lk.cells) rfl (by rw [lflat_len]) (lks_cells (hrW.below hC3)) cells_one3 (by unfold maxLen; omega) (by omega) (by simp <;> omega) ?_; intro v1 w3 hown1 hgrow1; have hC4 := below_row3 hC3 hC3.size (rowE2 (W1.alloc (.cells #[.string k.to, .string to, .int .i64 se, .int .i64 nw, .int .i64 (nw + li)] 35)) (W1.heap.size + 1) (by simp) (by simp)) hgrow1; have x4 := (hC4.cell (p := ⟨w.heap.size, 1, none⟩) hbx).trans hx1
      refine hK.out _ _ ?_ (fun hHeld => ?_)
      · go_keep
      clear hK K
      try simp only [Act.put, List.setIfInBounds_toArray, List.set_cons_zero, List.set_cons_succ]
      refine takeC 11 (by kernel_rfl) rfl (fun K hK => ?_)
      refine step_append3 rfl (.tmp 30) (.tmp 38) 23 rfl W1.heap.size 35 i0 _ 5 56 Tryz.underlying23 hi hz0 hz1 hz2 rfl (by decide) _ (0 + ks.length) _ rfl hown1 ⟨W1.heap.size, 0, none⟩ 1 1 (Lk.cells ⟨k.to, to, se, nw, nw + li⟩) rfl rfl (kept5 hgrow1 (oldf5 (cell_five_n W1 ⟨k.to, to, se, nw, nw + li⟩ W1.heap.size rfl) (by simp)) (by simp; omega) (show (Value.slice (some ⟨W1.heap.size + 1, 0, none⟩) 0 0).ownBlock ≠ some W1.heap.size from by simp [Value.ownBlock])) (by intro u hu; simp at hu; rcases hu with rfl | rfl | rfl | rfl | rfl <;> rfl) (by unfold maxLen; omega) (by omega) hC4.size ?_; intro v2 w5 hown2 hgrow2; have hC5 := below_row3 hC4 hC4.size hown1 hgrow2; have x5 := (hC5.cell (p := ⟨w.heap.size, 1, none⟩) hbx).trans hx1
      refine hK.out _ _ ?_ (fun hHeld => ?_)
      · go_keep
      clear hK K
      try simp only [Act.put, List.setIfInBounds_toArray, List.set_cons_zero, List.set_cons_succ]
      refine takeW 12 (v := ?v22) rfl (by kernel_rfl) (by kernel_rfl) (by kernel_rfl) (fun _ _ _ h => h) (by rfl) (by assumption) ?hy22 ?rest22
      case hy22 => intro w' hSw; (try dsimp only at hSw); go_simp; try with_reducible rfl
      try simp only [Act.put, List.setIfInBounds_toArray, List.set_cons_zero, List.set_cons_succ]
      refine wpAnyH_done (by kernel_rfl) ?_ _
      go_wp2
      go_ret
      exact ⟨_, rfl, hfin hown2 HWs.out, below_one hBw hC5⟩

end Go.Proofs.YtecgonopefeplaaGreatDoor
