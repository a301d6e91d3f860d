/-
  Chapter 3: a token read from its text, by the specification.
-/
import Derived.Test.YtecgonopefeplafDoorRdN
import Derived.Test.YtecgonopefeplafDoorTake
namespace Go.Proofs.YtecgonopefeplafDoor
open Go.RowKit Go.Shelf

theorem step_append3 {P : Program} {w : World} {ops : Array Oper} {o : Oper} {a : Act} {K : Act → World → Prop} {Q : Exit → Act → World → Prop} {E : Prop} (hgd : o.guard = none) (s x : Operand) (t : TypeId)
    (ho : o.op = .call { callee := .builtin .append, args := #[s, x], argTypes := #[t, t] })
    (base : Nat) (e : TypeId) (i : TypeInfo) (z : Value) (size bytes : Nat) (ht : P.underlying t = some (.slice e)) (hi : P.info? e = some i) (hz : i.zero = some z)
    (hsize : i.size = size) (hby : i.bytes = bytes) (hzs : z.cells.size = size) (hsz : 0 < size)
    (v : Value) (n : Nat) (xs : List Value) (hs : a.eval s = v) (hown : w.ownsRow base e size v n xs)
    (ad : Addr) (m c : Nat) (news : List Value) (hx : a.eval x = .slice (some ad) m c) (hl : news.length = m * size) (hnews : ∀ j u, news[j]? = some u → w.cell? (ad.add j) = some u) (h1 : ∀ u ∈ news, u.oneCell' = true)
    (h63 : n + m ≤ maxLen) (hbytes : (n + m) * bytes ≤ 140737488355328) (hbase : base ≤ w.heap.size)
    (h : ∀ v' w', w'.ownsRow base e size v' (n + m) (xs ++ news) → w.grownBy w' v.ownBlock → K (a.put o.dst v') w') :
    if Region.wanted o (yielded ops a.tmps) = true then Oper.wp P o a w K Q else E := by
  have hw : Region.wanted o (yielded ops a.tmps) = true := by simp [Region.wanted, hgd]
  rw [if_pos hw]
  exact wp_append_own w s x t ho base e i z size bytes ht hi hz hsize hby hzs hsz v n xs hs hown ad m c news hx hl hnews h1 h63 hbytes hbase (fun v' w' h1 h2 _ => h v' w' h1 h2)
theorem grown_cell {w w' : World} {r : Option Nat} (h : w.grownBy w' r) {b o : Nat} (hb : b < w.heap.size) (hne : r ≠ some b) : w'.cell? ⟨b, o, none⟩ = w.cell? ⟨b, o, none⟩ := by
  simp only [World.cell?]
  rw [h.block b hb hne.symm]
theorem below_row3 {n₀ : Nat} {w W w1 : World} {e : TypeId} {size k : Nat} {v : Value} {xs : List Value} (hB : Below n₀ w W) (hs : n₀ ≤ W.heap.size) (hrow : W.ownsRow n₀ e size v k xs) (hg : W.grownBy w1 v.ownBlock) : Below n₀ w w1 := by
  refine hB.grown hg hs fun j ej => ?_
  rcases hrow.2 with ⟨rfl, _⟩ | ⟨g, cap, cur, rfl, hb, _, _⟩
  · simp [Value.ownBlock] at ej
  · obtain rfl : g = j := by simpa [Value.ownBlock] using ej
    exact hb
theorem cell_five_k (w : World) (r : Lk) : ∀ j u, r.cells[j]? = some u → (w.alloc (.cells #[.string r.who, .string r.to, .int .i64 r.se, .int .i64 r.fr, .int .i64 r.un] 48)).cell? ((⟨w.heap.size, 0, none⟩ : Addr).add j) = some u := by
  intro j u hu
  have hj : j < 5 := by have := (List.getElem?_eq_some_iff.1 hu).1; simpa using this
  obtain h | h | h | h | h : j = 0 ∨ j = 1 ∨ j = 2 ∨ j = 3 ∨ j = 4 := by omega
  all_goals subst h
  all_goals simp at hu
  all_goals subst hu
  all_goals simp [Addr.add]
theorem rdLk_size {f : ByteArray → Option Int} {p : ByteArray} {k : Lk} (h : rdLk f p = some k) : k.size ≤ p.size := by
  by_cases hl : (split p 32).length = 5
  · obtain ⟨a, b, c, d, e, he⟩ := five hl
    have hj := join_split 32 _ p (Nat.le_refl _)
    rw [he] at hj
    rw [rdLk_five he] at h
    split at h
    · cases h
      have h1 : p.data.toList.length = p.size := by simp
      rw [← hj] at h1
      simp only [joinL, List.length_append, List.length_cons] at h1
      have h2 : a.data.toList.length = a.size := by simp
      have h3 : b.data.toList.length = b.size := by simp
      unfold Lk.size
      simp only
      omega
    · cases h
  · rw [rdLk_other hl] at h
    cases h
theorem rdSp_fail {s : ByteArray} {k : Nat} (h : rdAll ((split s 59).dropLast.take k) = none) : rdSp s = ([], false) := by
  unfold rdSp
  rw [rdAll_pre (List.take_prefix k _) h]
theorem rdSp_some {s : ByteArray} {ks : List Lk} (h : rdAll (split s 59).dropLast = some ks) : rdSp s = if (tkB ks && ((tkT ks).toList == s.toList)) = true then (ks, true) else ([], false) := by
  unfold rdSp
  rw [h]
theorem rdAll_step {ls : List ByteArray} {k : Nat} {acc : List Lk} (hk : k < ls.length) (h : rdAll (ls.take k) = some acc) : rdAll (ls.take (k + 1)) = match rdLk (fun s => some (numR s)) ls[k] with
    | some x => some (acc ++ [x])
    | none => none := by
  rw [List.take_succ_eq_append_getElem hk, rdAll_snoc, h]
  cases rdLk (fun s => some (numR s)) ls[k] <;> rfl

set_option maxHeartbeats 4000000 in
theorem l3Read_any (s : ByteArray) (w : World) (hs : s.size ≤ 1048576) :
    Calls Tryd.prog 29 #[.string s] w fun e w' => ∃ v', e = .returned (.tuple #[v', .bool (rdSp s).2]) ∧ w'.ownsRow w.heap.size 48 5 v' (rdSp s).1.length ((rdSp s).1.flatMap Lk.cells) ∧ Below w.heap.size w w' := by
  obtain ⟨i0, hi, hz0, hz1, hz2⟩ := info_parts infoLink
  have HF := hid (fun k h => rdSp_fail (s := s) (k := k) h)
  have HS := hid (fun ks h => rdSp_some (s := s) (ks := ks) h)
  have hsl := split_len s 59
  have hss := split_size s 59
  obtain ⟨x0, r0, hsp⟩ := split_ne s 59
  have hpos : 1 ≤ (split s 59).length := by rw [hsp]; simp
  clear hsp
  go_enter Tryd.func29, Tryd.ntmps29
  go_wp2_with fail
  refine (l1Split_any s 59 59 rfl _ hs).mono ?_
  rintro e w1 ⟨v1, rfl, hrow1, hB1⟩
  obtain ⟨g, cap, rfl⟩ : ∃ g cap, v1 = .slice (some ⟨g, 0, none⟩) (split s 59).length cap := by
    rcases row_form hrow1 with ⟨_, h⟩ | ⟨g, cap, h, _, _⟩
    · omega
    · exact ⟨g, cap, h⟩
  have hcap : (split s 59).length ≤ cap := by
    rcases row_form hrow1 with ⟨h, _⟩ | ⟨g', cap', h, _, hc⟩
    · cases h
    · cases h
      exact hc
  have hcell : ∀ k (h : k < (split s 59).dropLast.length), w1.cell? ⟨g, k, none⟩ = some (.string (split s 59).dropLast[k]) := fun k h => by
    have h' : k < (split s 59).length := by rw [List.length_dropLast] at h; omega
    have := hrow1.cellAt k (by omega)
    rw [List.getElem?_map, List.getElem?_eq_getElem h'] at this
    rw [List.getElem_dropLast]
    exact this
  have hgl : g < w1.heap.size := by
    have h' : 0 < (split s 59).length := by omega
    have := hrow1.cellAt 0 (by omega)
    rw [List.getElem?_map, List.getElem?_eq_getElem h'] at this
    exact World.block_lt_of_cell? w1 ⟨g, 0, none⟩ this
  have hszs : ∀ x ∈ (split s 59).dropLast, x.size ≤ 1048576 := fun x hx => Nat.le_trans (hss x ((List.dropLast_sublist _).subset hx)) hs
  obtain ⟨N, hN⟩ : ∃ N, N = (split s 59).dropLast.length := ⟨_, rfl⟩
  have hN1 : N = (split s 59).length - 1 := by rw [hN, List.length_dropLast]
  have hw1 : IntKind.i64.wrap (((split s 59).length : Int) - 1) = (N : Int) := by rw [IntKind.wrap_i64]; omega
  have hw2 : (N : Int) ≤ (cap : Int) := by omega
  have hNl : N ≤ 1048577 := by omega
  have HN := hid hN
  generalize hL : (split s 59).dropLast = ls at *
  clear hrow1 hN hN1 hss hL hsl
  go_wp2_with fail
  go_loopw [4, 17] (fun out i wr => ∃ (k : Nat) (acc : List Lk), k ≤ N ∧ i = .int .i64 k ∧ acc.length = k ∧ wr.ownsRow w1.heap.size 48 5 out acc.length (acc.flatMap Lk.cells) ∧ rdAll (ls.take k) = some acc ∧ (∀ x ∈ acc, x.size ≤ 1048576) ∧ Below w1.heap.size w1 wr) (fun _ i _ => N - (intOf i).toNat)
  case atStart => exact ⟨0, [], Nat.zero_le _, rfl, rfl, World.ownsRow_nil _ _ _ _, rfl, (fun x hx => by cases hx), Below.refl _ _⟩
  case round =>
    obtain ⟨k, acc, hk, rfl, hak, hrow, hrd, hfa, hB⟩ := hrel
    have HA := hid hak
    have hal : acc.length ≤ 1048577 := by omega
    have HRD := hid hrd
    have hBB := below_one hB1 hB
    clear hak hrd
    by_cases hlt : k < N
    · have hlt' : k < ls.length := by have := HN.out; omega
      have q := (hB.cell (p := ⟨g, k, none⟩) hgl).trans (hcell k hlt')
      have hxz := hszs ls[k] (List.getElem_mem hlt')
      have HST := hid (rdAll_step hlt' HRD.out)
      generalize ls[k] = x at *
      clear hcell hszs
      by_cases h5 : (split x 32).length = 5
      · obtain ⟨a, b, c, d, e, he⟩ := five h5
        have hza : a.size ≤ 1048576 := Nat.le_trans (split_size x 32 a (by rw [he]; simp)) hxz
        have hzc : c.size ≤ 1048576 := Nat.le_trans (split_size x 32 c (by rw [he]; simp)) hxz
        have hzd : d.size ≤ 1048576 := Nat.le_trans (split_size x 32 d (by rw [he]; simp)) hxz
        have hze : e.size ≤ 1048576 := Nat.le_trans (split_size x 32 e (by rw [he]; simp)) hxz
        have hrk : rdLk (fun s => some (numR s)) x = some ⟨a, b, numR c, numR d, numR e⟩ := rdLk_five he
        have hrz := rdLk_size hrk
        have HX := hid (show rdAll (ls.take (k + 1)) = some (acc ++ [⟨a, b, numR c, numR d, numR e⟩]) by rw [HST.out, hrk])
        clear hrk
        go_wp2_with fail
        refine (l1Split_any x 32 32 rfl _ hxz).mono ?_
        rintro e' w2 ⟨v2, rfl, hrow2, hB2⟩
        rw [he] at hrow2
        obtain ⟨gw, capw, rfl, hgb, hcw⟩ : ∃ g cap, v2 = .slice (some ⟨g, 0, none⟩) 5 cap ∧ wr.heap.size ≤ g ∧ 5 ≤ cap := by
          rcases row_form hrow2 with ⟨_, h⟩ | ⟨g, cap, h, hb, hc⟩
          · simp at h
          · exact ⟨g, cap, h, hb, hc⟩
        have q0 : w2.cell? ⟨gw, 0, none⟩ = some (.string a) := by have := hrow2.cellAt 0 (by simp); simpa using this
        have q1 : w2.cell? ⟨gw, 1, none⟩ = some (.string b) := by have := hrow2.cellAt 1 (by simp); simpa using this
        have q2 : w2.cell? ⟨gw, 2, none⟩ = some (.string c) := by have := hrow2.cellAt 2 (by simp); simpa using this
        have q3 : w2.cell? ⟨gw, 3, none⟩ = some (.string d) := by have := hrow2.cellAt 3 (by simp); simpa using this
        have q4 : w2.cell? ⟨gw, 4, none⟩ = some (.string e) := by have := hrow2.cellAt 4 (by simp); simpa using this
        have hgw : gw < w2.heap.size := World.block_lt_of_cell? w2 ⟨gw, 0, none⟩ q0
        have hlt2 := hrow.lt
        have hrowW := ownsRow_below hrow hB2
        have hBB2 := below_one hB hB2
        have hzw2 := hBB2.size
        clear he h5 hrow hrow2
        have hrowX : (w2.drew.alloc (.cells #[.string a, .string b, .int .i64 (numR c), .int .i64 (numR d), .int .i64 (numR e)] 48)).ownsRow w1.heap.size 48 5 u4 acc.length (acc.flatMap Lk.cells) := (ownsRow_below hrowW ((Below.refl w2.heap.size w2).drew)).alloc _
        have hszX : w1.heap.size ≤ (w2.drew.alloc (.cells #[.string a, .string b, .int .i64 (numR c), .int .i64 (numR d), .int .i64 (numR e)] 48)).heap.size := by simp; omega
        have hgwX : gw < (w2.drew.alloc (.cells #[.string a, .string b, .int .i64 (numR c), .int .i64 (numR d), .int .i64 (numR e)] 48)).heap.size := by simp; omega
        have hneX : u4.ownBlock ≠ some gw := fun h => by have := (hlt2 gw h).2; omega
        have hcf : ∀ j u, (Lk.cells ⟨a, b, numR c, numR d, numR e⟩)[j]? = some u → (w2.drew.alloc (.cells #[.string a, .string b, .int .i64 (numR c), .int .i64 (numR d), .int .i64 (numR e)] 48)).cell? ((⟨w2.heap.size, 0, none⟩ : Addr).add j) = some u := cell_five_k w2.drew ⟨a, b, numR c, numR d, numR e⟩
        have x0 : (w2.drew.alloc (.cells #[.string a, .string b, .int .i64 (numR c), .int .i64 (numR d), .int .i64 (numR e)] 48)).cell? ⟨gw, 0, none⟩ = some (.string a) := ((((Below.refl w2.heap.size w2).drew).alloc (Nat.le_refl _) _).cell (p := ⟨gw, 0, none⟩) hgw).trans q0
        have x1 : (w2.drew.alloc (.cells #[.string a, .string b, .int .i64 (numR c), .int .i64 (numR d), .int .i64 (numR e)] 48)).cell? ⟨gw, 1, none⟩ = some (.string b) := ((((Below.refl w2.heap.size w2).drew).alloc (Nat.le_refl _) _).cell (p := ⟨gw, 1, none⟩) hgw).trans q1
        have x2 : (w2.drew.alloc (.cells #[.string a, .string b, .int .i64 (numR c), .int .i64 (numR d), .int .i64 (numR e)] 48)).cell? ⟨gw, 2, none⟩ = some (.string c) := ((((Below.refl w2.heap.size w2).drew).alloc (Nat.le_refl _) _).cell (p := ⟨gw, 2, none⟩) hgw).trans q2
        have x3 : (w2.drew.alloc (.cells #[.string a, .string b, .int .i64 (numR c), .int .i64 (numR d), .int .i64 (numR e)] 48)).cell? ⟨gw, 3, none⟩ = some (.string d) := ((((Below.refl w2.heap.size w2).drew).alloc (Nat.le_refl _) _).cell (p := ⟨gw, 3, none⟩) hgw).trans q3
        have x4 : (w2.drew.alloc (.cells #[.string a, .string b, .int .i64 (numR c), .int .i64 (numR d), .int .i64 (numR e)] 48)).cell? ⟨gw, 4, none⟩ = some (.string e) := ((((Below.refl w2.heap.size w2).drew).alloc (Nat.le_refl _) _).cell (p := ⟨gw, 4, none⟩) hgw).trans q4
        have hBX : Below w1.heap.size w1 (w2.drew.alloc (.cells #[.string a, .string b, .int .i64 (numR c), .int .i64 (numR d), .int .i64 (numR e)] 48)) := (hBB2.drew).alloc (by simp; omega) _
        clear hlt2
        go_wp2_with fail
        refine wp_region_held_drew (S := fun w' => w'.cell? ⟨gw, 0, none⟩ = some (.string a) ∧ w'.cell? ⟨gw, 1, none⟩ = some (.string b) ∧ w'.cell? ⟨gw, 2, none⟩ = some (.string c) ∧ w'.cell? ⟨gw, 3, none⟩ = some (.string d) ∧ w'.cell? ⟨gw, 4, none⟩ = some (.string e)) (by kernel_rfl) ?_ (fun hHeld => ?_)
        · go_keep
        refine takeW 0 (v := ?v1) rfl (by kernel_rfl) (by kernel_rfl) (by kernel_rfl) (fun _ _ _ h => h) (by rfl) (by assumption) ?hy1 ?rest1
        case hy1 => intro w' hSw; (try dsimp only at hSw); go_simp; try with_reducible rfl
        try simp only [Act.put, List.setIfInBounds_toArray, List.set_cons_zero, List.set_cons_succ]
        refine takeW 1 (v := ?v2) rfl (by kernel_rfl) (by kernel_rfl) (by kernel_rfl) (fun _ _ _ h => h) (by rfl) (by assumption) ?hy2 ?rest2
        case hy2 => intro w' hSw; (try dsimp only at hSw); go_simp; try with_reducible rfl
        try simp only [Act.put, List.setIfInBounds_toArray, List.set_cons_zero, List.set_cons_succ]
        refine takeW 2 (v := ?v3) rfl (by kernel_rfl) (by kernel_rfl) (by kernel_rfl) (fun _ _ _ h => h) (by rfl) (by assumption) ?hy3 ?rest3
        case hy3 => intro w' hSw; (try dsimp only at hSw); go_simp; try with_reducible rfl
        try simp only [Act.put, List.setIfInBounds_toArray, List.set_cons_zero, List.set_cons_succ]
        refine takeW 3 (v := ?v4) rfl (by kernel_rfl) (by kernel_rfl) (by kernel_rfl) (fun _ _ _ h => h) (by rfl) (by assumption) ?hy4 ?rest4
        case hy4 => intro w' hSw; (try dsimp only at hSw); go_simp; try with_reducible rfl
        try simp only [Act.put, List.setIfInBounds_toArray, List.set_cons_zero, List.set_cons_succ]
        refine takeW 4 (v := ?v5) rfl (by kernel_rfl) (by kernel_rfl) (by kernel_rfl) (fun _ _ _ h => h) (by rfl) (by assumption) ?hy5 ?rest5
        case hy5 => intro w' hSw; (try dsimp only at hSw); go_simp; try with_reducible rfl
        try simp only [Act.put, List.setIfInBounds_toArray, List.set_cons_zero, List.set_cons_succ]
        refine takeW 5 (v := ?v6) rfl (by kernel_rfl) (by kernel_rfl) (by kernel_rfl) (fun _ _ _ h => h) (by rfl) (by assumption) ?hy6 ?rest6
        case hy6 => intro w' hSw; (try dsimp only at hSw); go_simp; try with_reducible rfl
        try simp only [Act.put, List.setIfInBounds_toArray, List.set_cons_zero, List.set_cons_succ]
        refine takeW 6 (v := ?v7) rfl (by kernel_rfl) (by kernel_rfl) (by kernel_rfl) (fun _ _ _ h => h) (by rfl) (by assumption) ?hy7 ?rest7
        case hy7 => intro w' hSw; (try dsimp only at hSw); go_simp; try with_reducible rfl
        try simp only [Act.put, List.setIfInBounds_toArray, List.set_cons_zero, List.set_cons_succ]
        refine takeW 7 (v := ?v8) rfl (by kernel_rfl) (by kernel_rfl) (by kernel_rfl) (fun _ _ _ h => h) (by rfl) (by assumption) ?hy8 ?rest8
        case hy8 => intro w' hSw; (try dsimp only at hSw); go_simp; try with_reducible rfl
        try simp only [Act.put, List.setIfInBounds_toArray, List.set_cons_zero, List.set_cons_succ]
        refine takeW 8 (v := ?v9) rfl (by kernel_rfl) (by kernel_rfl) (by kernel_rfl) (fun _ _ _ h => h) (by rfl) (by assumption) ?hy9 ?rest9
        case hy9 => intro w' hSw; (try dsimp only at hSw); go_simp; try with_reducible rfl
        try simp only [Act.put, List.setIfInBounds_toArray, List.set_cons_zero, List.set_cons_succ]
        refine takeW 9 (v := ?v10) rfl (by kernel_rfl) (by kernel_rfl) (by kernel_rfl) (fun _ _ _ h => h) (by rfl) (by assumption) ?hy10 ?rest10
        case hy10 => intro w' hSw; (try dsimp only at hSw); go_simp; try with_reducible rfl
        try simp only [Act.put, List.setIfInBounds_toArray, List.set_cons_zero, List.set_cons_succ]
        refine takeW 11 (v := ?v11) rfl (by kernel_rfl) (by kernel_rfl) (by kernel_rfl) (fun _ _ _ h => h) (by rfl) (by assumption) ?hy11 ?rest11
        case hy11 => intro w' hSw; (try dsimp only at hSw); go_simp; try with_reducible rfl
        try simp only [Act.put, List.setIfInBounds_toArray, List.set_cons_zero, List.set_cons_succ]
        refine takeW 12 (v := ?v12) rfl (by kernel_rfl) (by kernel_rfl) (by kernel_rfl) (fun _ _ _ h => h) (by rfl) (by assumption) ?hy12 ?rest12
        case hy12 => intro w' hSw; (try dsimp only at hSw); go_simp; try with_reducible rfl
        try simp only [Act.put, List.setIfInBounds_toArray, List.set_cons_zero, List.set_cons_succ]
        refine takeW 13 (v := ?v13) rfl (by kernel_rfl) (by kernel_rfl) (by kernel_rfl) (fun _ _ _ h => h) (by rfl) (by assumption) ?hy13 ?rest13
        case hy13 => intro w' hSw; (try dsimp only at hSw); go_simp; try with_reducible rfl
        try simp only [Act.put, List.setIfInBounds_toArray, List.set_cons_zero, List.set_cons_succ]
        refine takeW 15 (v := ?v14) rfl (by kernel_rfl) (by kernel_rfl) (by kernel_rfl) (fun _ _ _ h => h) (by rfl) (by assumption) ?hy14 ?rest14
        case hy14 => intro w' hSw; (try dsimp only at hSw); go_simp; try with_reducible rfl
        try simp only [Act.put, List.setIfInBounds_toArray, List.set_cons_zero, List.set_cons_succ]
        refine takeW 16 (v := ?v15) rfl (by kernel_rfl) (by kernel_rfl) (by kernel_rfl) (fun _ _ _ h => h) (by rfl) (by assumption) ?hy15 ?rest15
        case hy15 => intro w' hSw; (try dsimp only at hSw); go_simp; try with_reducible rfl
        try simp only [Act.put, List.setIfInBounds_toArray, List.set_cons_zero, List.set_cons_succ]
        refine takeW 17 (v := ?v16) rfl (by kernel_rfl) (by kernel_rfl) (by kernel_rfl) (fun _ _ _ h => h) (by rfl) (by assumption) ?hy16 ?rest16
        case hy16 => intro w' hSw; (try dsimp only at hSw); go_simp; try with_reducible rfl
        try simp only [Act.put, List.setIfInBounds_toArray, List.set_cons_zero, List.set_cons_succ]
        refine takeC 10 (by kernel_rfl) rfl (fun K hK => ?_)
        go_simp
        refine (l3Number_any c _ hzc).mono ?_; rintro e' wx ⟨rfl, rfl⟩
        refine hK.out _ _ ?_ (fun hHeld => ?_)
        · go_keep
        clear hK K
        try simp only [Act.put, List.setIfInBounds_toArray, List.set_cons_zero, List.set_cons_succ]
        refine takeC 14 (by kernel_rfl) rfl (fun K hK => ?_)
        go_simp
        refine (l3Number_any d _ hzd).mono ?_; rintro e' wx ⟨rfl, rfl⟩
        refine hK.out _ _ ?_ (fun hHeld => ?_)
        · go_keep
        clear hK K
        try simp only [Act.put, List.setIfInBounds_toArray, List.set_cons_zero, List.set_cons_succ]
        refine takeC 18 (by kernel_rfl) rfl (fun K hK => ?_)
        go_simp
        refine (l3Number_any e _ hze).mono ?_; rintro e' wx ⟨rfl, rfl⟩
        refine hK.out _ _ ?_ (fun hHeld => ?_)
        · go_keep
        clear hK K
        try simp only [Act.put, List.setIfInBounds_toArray, List.set_cons_zero, List.set_cons_succ]
        refine takeW 19 (v := ?v17) rfl (by kernel_rfl) (by kernel_rfl) (by kernel_rfl) (fun _ _ _ h => h) (by rfl) (by assumption) ?hy17 ?rest17
        case hy17 => intro w' hSw; (try dsimp only at hSw); go_simp; try with_reducible rfl
        try simp only [Act.put, List.setIfInBounds_toArray, List.set_cons_zero, List.set_cons_succ]
        refine takeC 20 (by kernel_rfl) rfl (fun K hK => ?_)
        go_simp
        skip
        refine hK.out _ _ ?_ (fun hHeld => ?_)
        · go_keep
        clear hK K
        try simp only [Act.put, List.setIfInBounds_toArray, List.set_cons_zero, List.set_cons_succ]
        refine takeC 21 (by kernel_rfl) rfl (fun K hK => ?_)
        refine step_append3 rfl (.tmp 26) (.tmp 46) 26 rfl w1.heap.size 48 i0 _ 5 56 Tryd.underlying26 hi hz0 hz1 hz2 rfl (by decide) _ acc.length (acc.flatMap Lk.cells) rfl hrowX ⟨w2.heap.size, 0, none⟩ 1 1 (Lk.cells ⟨a, b, numR c, numR d, numR e⟩) rfl rfl hcf (by intro u hu; simp at hu; rcases hu with rfl | rfl | rfl | rfl | rfl <;> rfl) (by unfold maxLen; omega) (by omega) hszX ?_; intro v' w3 hown' hgrow; have y0 := (grown_cell hgrow (b := gw) (o := 0) hgwX hneX).trans x0; have y1 := (grown_cell hgrow (b := gw) (o := 1) hgwX hneX).trans x1; have y2 := (grown_cell hgrow (b := gw) (o := 2) hgwX hneX).trans x2; have y3 := (grown_cell hgrow (b := gw) (o := 3) hgwX hneX).trans x3; have y4 := (grown_cell hgrow (b := gw) (o := 4) hgwX hneX).trans x4
        refine hK.out _ _ ?_ (fun hHeld => ?_)
        · go_keep
        clear hK K
        try simp only [Act.put, List.setIfInBounds_toArray, List.set_cons_zero, List.set_cons_succ]
        refine takeW 22 (v := ?v18) rfl (by kernel_rfl) (by kernel_rfl) (by kernel_rfl) (fun _ _ _ h => h) (by rfl) (by assumption) ?hy18 ?rest18
        case hy18 => intro w' hSw; (try dsimp only at hSw); go_simp; try with_reducible rfl
        try simp only [Act.put, List.setIfInBounds_toArray, List.set_cons_zero, List.set_cons_succ]
        refine wpAnyH_done (by kernel_rfl) ?_ _
        have hB3 := below_row3 hBX hszX hrowX hgrow
        clear hHeld
        go_wp2
        go_roundw
        case rel =>
          refine ⟨k + 1, acc ++ [⟨a, b, numR c, numR d, numR e⟩], by omega, by go_num, by simp; exact HA.out, ?_, HX.out, ?_, hB3⟩
          · simpa using hown'
          · intro y hy
            rcases List.mem_append.1 hy with h | h
            · exact hfa y h
            · rw [List.mem_singleton.1 h]
              exact Nat.le_trans hrz hxz
        case measure => simp [intOf]; omega
      · have HX := hid (HF.out (k + 1) (by rw [HST.out, rdLk_other h5]))
        have e5 : (((split x 32).length : Int) != 5) = true := by simp; omega
        go_wp2_with fail
        refine (l1Split_any x 32 32 rfl _ hxz).mono ?_
        rintro e' w2 ⟨v2, rfl, hrow2, hB2⟩
        obtain ⟨a2, cap2, rfl⟩ := ownsRow_len hrow2
        go_wp2_with fail
        go_ret2
        rw [HX.out]
        exact ⟨_, rfl, World.ownsRow_nil _ _ _ _, below_one hBB hB2⟩
    · obtain rfl : k = N := by omega
      have HE := hid (HS.out acc (by have := HRD.out; rw [HN.out, List.take_length] at this; exact this))
      obtain ⟨ao, capo, rfl⟩ := ownsRow_len hrow
      cases hb : tkB acc
      · have HX := hid (show rdSp s = ([], false) by rw [HE.out, hb]; rfl)
        go_wp2_with fail
        refine (specGoodToken_any _ acc _ hal hfa (LkS.own hrow)).mono ?_
        rintro e' w2 ⟨rfl, hB2⟩
        rw [hb]
        go_wp2_with fail
        go_ret2
        rw [HX.out]
        exact ⟨_, rfl, World.ownsRow_nil _ _ _ _, below_one hBB hB2⟩
      · have hgd := tkB_good hb
        cases ht : ((tkT acc).toList == s.toList)
        · have HX := hid (show rdSp s = ([], false) by rw [HE.out, hb, ht]; rfl)
          go_wp2_with fail
          refine (specGoodToken_any _ acc _ hal hfa (LkS.own hrow)).mono ?_
          rintro e' w2 ⟨rfl, hB2⟩
          rw [hb]
          go_wp2_with fail
          refine (l3Text_any _ acc _ hal hgd hfa (LkS.own (ownsRow_below hrow hB2))).mono ?_
          rintro e' w3 ⟨rfl, hB3⟩
          go_wp2_with fail
          go_ret2
          rw [HX.out]
          exact ⟨_, rfl, World.ownsRow_nil _ _ _ _, below_one (below_one hBB hB2) hB3⟩
        · have HX := hid (show rdSp s = (acc, true) by rw [HE.out, hb, ht]; rfl)
          go_wp2_with fail
          refine (specGoodToken_any _ acc _ hal hfa (LkS.own hrow)).mono ?_
          rintro e' w2 ⟨rfl, hB2⟩
          rw [hb]
          go_wp2_with fail
          refine (l3Text_any _ acc _ hal hgd hfa (LkS.own (ownsRow_below hrow hB2))).mono ?_
          rintro e' w3 ⟨rfl, hB3⟩
          go_wp2_with fail
          go_ret2
          rw [HX.out]
          exact ⟨_, rfl, Go.Joins.ownsRow_le (ownsRow_below (ownsRow_below hrow hB2) hB3) hB1.size, below_one (below_one hBB hB2) hB3⟩

theorem specReadToken_any (s : ByteArray) (w : World) (hs : s.size ≤ 1048576) :
    Calls Tryd.prog 11 #[.string s] w fun e w' => ∃ v', e = .returned (.tuple #[v', .bool (rdSp s).2]) ∧ w'.ownsRow w.heap.size 48 5 v' (rdSp s).1.length ((rdSp s).1.flatMap Lk.cells) ∧ Below w.heap.size w w' := by
  go_enter Tryd.func11, Tryd.ntmps11
  go_wp2_with fail
  refine (l3Read_any s _ hs).mono ?_
  rintro e w1 ⟨v', rfl, hrow, hB⟩
  obtain ⟨a, cap, rfl⟩ := ownsRow_len hrow
  go_wp2_with fail
  go_ret2
  exact ⟨_, rfl, hrow, hB⟩

end Go.Proofs.YtecgonopefeplafDoor
