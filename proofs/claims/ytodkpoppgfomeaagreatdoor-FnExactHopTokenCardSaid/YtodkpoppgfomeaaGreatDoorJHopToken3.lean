/-
  Chapter 4: the issuer that an answer goes on from.
-/
import Derived.Lib.AppendIntMem
import Derived.Shelf.Strconv.Itoa3
import Derived.Shelf.Strings.OnBuilder
import Derived.Test.YtodkpoppgfomeaaGreatDoorJHopToken1
import Derived.Test.YtodkpoppgfomeaaGreatDoorJHopToken2
import Derived.Lay
import Derived.Deep.RegionHeld3
import Derived.WalkLawsBesides
import Derived.Test.YtodkpoppgfomeaaGreatDoorJHopToken0
import Derived.Shelf.SlicesE.Clone
namespace Go.Proofs.YtodkpoppgfomeaaGreatDoor
open Go.RowKit Go.Shelf

/-- The library's table of powers of ten is as its text lays it. -/
def Tab (w : World) : Prop := Lib.TabIs Tryz.prog w "internal/strconv.uint64pow10" .u64 Lib.pow10Tab
theorem Tab.on {w w' : World} (h : Tab w) (hB : Below w.heap.size w w') : Tab w' := Lib.tabBelow_of_tabIs h w' hB
theorem Tab.on' {w w' : World} (h : Tab w) (hB : Below w.heap.size w.drew w') : Tab w' := h.on (below_drew1 hB)

theorem itoa_any (n : Int) (w : World) (h0 : -9223372036854775808 ≤ n) (h1 : n ≤ 9223372036854775807) (ht : Tab w) :
    Calls Tryz.prog 115 #[.int .i64 n] w fun e w' => e = .returned (.string (numT n)) ∧ Below w.heap.size w w' := by
  have h := Any.strconv_Itoa Tryz.lays171 n h0 h1 w ht
  refine h.mono ?_
  rintro e w' ⟨rfl, k, os, rfl⟩
  exact ⟨rfl, Lib.below_grow _ _ (Nat.le_refl _) k os⟩

theorem text_len (k : Lk) (h : k.good = true) : k.text.size ≤ k.size + 23 := by
  obtain ⟨_, _, h3, h4, h5, _⟩ := (Lk.good_iff k).1 h
  have a1 := (itoa_len6 (show 0 ≤ k.se by omega) (by omega)).2
  have a2 := (itoa_len6 (show 0 ≤ k.fr by omega) (by omega)).2
  have a3 := (itoa_len6 (show 0 ≤ k.un by omega) (by omega)).2
  unfold Lk.text Lk.size
  simp only [ByteArray.size_append, numT_size, show (⟨#[32]⟩ : ByteArray).size = 1 from rfl, show (⟨#[59]⟩ : ByteArray).size = 1 from rfl]
  omega
theorem tkT_size {ks : List Lk} (hg : ∀ k ∈ ks, k.good = true) (hf : ∀ k ∈ ks, k.size ≤ 1048576) : ∀ n, n ≤ ks.length → (tkT (ks.take n)).size ≤ n * 1048600
  | 0, _ => by simp [tkT, tkL]; rfl
  | n + 1, hn => by
    have ih := tkT_size hg hf n (by omega)
    have hm := List.getElem_mem (show n < ks.length by omega)
    have h1 := text_len ks[n] (hg _ hm)
    have h2 := hf _ hm
    rw [tkT_succ (by omega), ByteArray.size_append]
    omega

set_option maxHeartbeats 4000000 in
theorem l3Text_any (v : Value) (ks : List Lk) (w : World) (hm : ks.length ≤ 1048577) (hg : ∀ k ∈ ks, k.good = true) (hf : ∀ k ∈ ks, k.size ≤ 1048576) (hr : LkS w v ks) :
    Calls Tryz.prog 84 #[v] w fun e w' => e = .returned (.string (tkT ks)) ∧ Below w.heap.size w w' := by
  obtain ⟨a, cap, rfl⟩ := hr.len
  have HZ := hid (fun n hn => tkT_size hg hf n hn)
  go_enter Tryz.func84, Tryz.ntmps84
  go_wp2
  go_loopw [3, 8] (fun s i wr => ∃ n : Nat, n ≤ ks.length ∧ s = .string (tkT (ks.take n)) ∧ i = .int .i64 n ∧ Below w.heap.size w wr) (fun _ i _ => ks.length - (intOf i).toNat)
  case atStart => exact ⟨0, Nat.zero_le _, by rw [List.take_zero, tkT_nil], rfl, Below.refl _ _⟩
  case round =>
    obtain ⟨n, hn, rfl, rfl, hB⟩ := hrel
    by_cases hlt : n < ks.length
    · obtain ⟨b, off, rfl, hb, hcap, q0, q1, q2, q3, q4⟩ := (hr.below hB).at hlt
      have hz := hf ks[n] (List.getElem_mem hlt)
      obtain ⟨_, _, b3, b4, b5, _⟩ := (Lk.good_iff ks[n]).1 (hg ks[n] (List.getElem_mem hlt))
      have hs := HZ.out n hn
      have hs2 : n * 1048600 ≤ 2000000000000 := by omega
      have HT := hid (tkT_succ hlt)
      generalize ks[n] = k at *
      generalize tkT (ks.take n) = s at *
      have h1n := fun W => l1Num_any k.se W (by omega) (by omega)
      have h2n := fun W => l1Num_any k.fr W (by omega) (by omega)
      have h3n := fun W => l1Num_any k.un W (by omega) (by omega)
      have z1 := (itoa_len6 (show 0 ≤ k.se by omega) (by omega)).2
      have z2 := (itoa_len6 (show 0 ≤ k.fr by omega) (by omega)).2
      have z3 := (itoa_len6 (show 0 ≤ k.un by omega) (by omega)).2
      rw [← numT_size] at z1 z2 z3
      have HX := hid (show k.text = k.who ++ ⟨#[32]⟩ ++ k.to ++ ⟨#[32]⟩ ++ numT k.se ++ ⟨#[32]⟩ ++ numT k.fr ++ ⟨#[32]⟩ ++ numT k.un ++ ⟨#[59]⟩ from rfl)
      generalize numT k.se = x1 at *
      generalize numT k.fr = x2 at *
      generalize numT k.un = x3 at *
      unfold Lk.size at hz
      have g1 : ¬9223372036854775807 < k.who.size + 1 := by omega
      have g2 : ¬9223372036854775807 < k.who.size + 1 + k.to.size := by omega
      have g3 : ¬9223372036854775807 < k.who.size + 1 + k.to.size + 1 := by omega
      have g4 : ¬9223372036854775807 < k.who.size + 1 + k.to.size + 1 + x1.size := by omega
      have g5 : ¬9223372036854775807 < k.who.size + 1 + k.to.size + 1 + x1.size + 1 := by omega
      have g6 : ¬9223372036854775807 < k.who.size + 1 + k.to.size + 1 + x1.size + 1 + x2.size := by omega
      have g7 : ¬9223372036854775807 < k.who.size + 1 + k.to.size + 1 + x1.size + 1 + x2.size + 1 := by omega
      have g8 : ¬9223372036854775807 < k.who.size + 1 + k.to.size + 1 + x1.size + 1 + x2.size + 1 + x3.size := by omega
      have g9 : ¬9223372036854775807 < k.who.size + 1 + k.to.size + 1 + x1.size + 1 + x2.size + 1 + x3.size + 1 := by omega
      have g10 : ¬9223372036854775807 < s.size + (k.who.size + 1 + k.to.size + 1 + x1.size + 1 + x2.size + 1 + x3.size + 1) := by omega
      have hBa : Below w.heap.size w (wr.alloc (.cells #[.string k.who, .string k.to, .int .i64 k.se, .int .i64 k.fr, .int .i64 k.un] 52)) := hB.alloc hB.size _
      go_wp2_with fail
      refine wp_region_held_drew (S := fun w' => w'.cell? ⟨wr.heap.size, 0, none⟩ = some (.string k.who) ∧ w'.cell? ⟨wr.heap.size, 1, none⟩ = some (.string k.to) ∧ w'.cell? ⟨wr.heap.size, 2, none⟩ = some (.int .i64 k.se) ∧ w'.cell? ⟨wr.heap.size, 3, none⟩ = some (.int .i64 k.fr) ∧ w'.cell? ⟨wr.heap.size, 4, none⟩ = some (.int .i64 k.un)) (by kernel_rfl) ?_ (fun hHeld => ?_)
      · go_keep
      refine takeW 0 (v := ?v1) rfl (by kernel_rfl) (by kernel_rfl) (by kernel_rfl) (fun _ _ _ h => h) (by rfl) (by assumption) ?hy1 ?rest1
      case hy1 => intro w' hSw; (try dsimp only at hSw); go_simp; try with_reducible rfl
      try simp only [Act.put, List.setIfInBounds_toArray, List.set_cons_zero, List.set_cons_succ]
      refine takeW 1 (v := ?v2) rfl (by kernel_rfl) (by kernel_rfl) (by kernel_rfl) (fun _ _ _ h => h) (by rfl) (by assumption) ?hy2 ?rest2
      case hy2 => intro w' hSw; (try dsimp only at hSw); go_simp; try with_reducible rfl
      try simp only [Act.put, List.setIfInBounds_toArray, List.set_cons_zero, List.set_cons_succ]
      refine takeW 2 (v := ?v3) rfl (by kernel_rfl) (by kernel_rfl) (by kernel_rfl) (fun _ _ _ h => h) (by rfl) (by assumption) ?hy3 ?rest3
      case hy3 => intro w' hSw; (try dsimp only at hSw); go_simp; try with_reducible rfl
      try simp only [Act.put, List.setIfInBounds_toArray, List.set_cons_zero, List.set_cons_succ]
      refine takeW 3 (v := ?v4) rfl (by kernel_rfl) (by kernel_rfl) (by kernel_rfl) (fun _ _ _ h => h) (by rfl) (by assumption) ?hy4 ?rest4
      case hy4 => intro w' hSw; (try dsimp only at hSw); go_simp; try with_reducible rfl
      try simp only [Act.put, List.setIfInBounds_toArray, List.set_cons_zero, List.set_cons_succ]
      refine takeW 4 (v := ?v5) rfl (by kernel_rfl) (by kernel_rfl) (by kernel_rfl) (fun _ _ _ h => h) (by rfl) (by assumption) ?hy5 ?rest5
      case hy5 => intro w' hSw; (try dsimp only at hSw); go_simp; try with_reducible rfl
      try simp only [Act.put, List.setIfInBounds_toArray, List.set_cons_zero, List.set_cons_succ]
      refine takeW 5 (v := ?v6) rfl (by kernel_rfl) (by kernel_rfl) (by kernel_rfl) (fun _ _ _ h => h) (by rfl) (by assumption) ?hy6 ?rest6
      case hy6 => intro w' hSw; (try dsimp only at hSw); go_simp; try with_reducible rfl
      try simp only [Act.put, List.setIfInBounds_toArray, List.set_cons_zero, List.set_cons_succ]
      refine takeW 6 (v := ?v7) rfl (by kernel_rfl) (by kernel_rfl) (by kernel_rfl) (fun _ _ _ h => h) (by rfl) (by assumption) ?hy7 ?rest7
      case hy7 => intro w' hSw; (try dsimp only at hSw); go_simp; try with_reducible rfl
      try simp only [Act.put, List.setIfInBounds_toArray, List.set_cons_zero, List.set_cons_succ]
      refine takeW 7 (v := ?v8) rfl (by kernel_rfl) (by kernel_rfl) (by kernel_rfl) (fun _ _ _ h => h) (by rfl) (by assumption) ?hy8 ?rest8
      case hy8 => intro w' hSw; (try dsimp only at hSw); go_simp; try with_reducible rfl
      try simp only [Act.put, List.setIfInBounds_toArray, List.set_cons_zero, List.set_cons_succ]
      refine takeW 8 (v := ?v9) rfl (by kernel_rfl) (by kernel_rfl) (by kernel_rfl) (fun _ _ _ h => h) (by rfl) (by assumption) ?hy9 ?rest9
      case hy9 => intro w' hSw; (try dsimp only at hSw); go_simp; try with_reducible rfl
      try simp only [Act.put, List.setIfInBounds_toArray, List.set_cons_zero, List.set_cons_succ]
      refine takeW 9 (v := ?v10) rfl (by kernel_rfl) (by kernel_rfl) (by kernel_rfl) (fun _ _ _ h => h) (by rfl) (by assumption) ?hy10 ?rest10
      case hy10 => intro w' hSw; (try dsimp only at hSw); go_simp; try with_reducible rfl
      try simp only [Act.put, List.setIfInBounds_toArray, List.set_cons_zero, List.set_cons_succ]
      refine takeW 13 (v := ?v11) rfl (by kernel_rfl) (by kernel_rfl) (by kernel_rfl) (fun _ _ _ h => h) (by rfl) (by assumption) ?hy11 ?rest11
      case hy11 => intro w' hSw; (try dsimp only at hSw); go_simp; try with_reducible rfl
      try simp only [Act.put, List.setIfInBounds_toArray, List.set_cons_zero, List.set_cons_succ]
      refine takeW 14 (v := ?v12) rfl (by kernel_rfl) (by kernel_rfl) (by kernel_rfl) (fun _ _ _ h => h) (by rfl) (by assumption) ?hy12 ?rest12
      case hy12 => intro w' hSw; (try dsimp only at hSw); go_simp; try with_reducible rfl
      try simp only [Act.put, List.setIfInBounds_toArray, List.set_cons_zero, List.set_cons_succ]
      refine takeW 18 (v := ?v13) rfl (by kernel_rfl) (by kernel_rfl) (by kernel_rfl) (fun _ _ _ h => h) (by rfl) (by assumption) ?hy13 ?rest13
      case hy13 => intro w' hSw; (try dsimp only at hSw); go_simp; try with_reducible rfl
      try simp only [Act.put, List.setIfInBounds_toArray, List.set_cons_zero, List.set_cons_succ]
      refine takeW 19 (v := ?v14) rfl (by kernel_rfl) (by kernel_rfl) (by kernel_rfl) (fun _ _ _ h => h) (by rfl) (by assumption) ?hy14 ?rest14
      case hy14 => intro w' hSw; (try dsimp only at hSw); go_simp; try with_reducible rfl
      try simp only [Act.put, List.setIfInBounds_toArray, List.set_cons_zero, List.set_cons_succ]
      refine takeC 10 (by kernel_rfl) rfl (fun K hK => ?_)
      go_simp
      refine (h1n _).mono ?_; rintro e w1 ⟨rfl, hB1⟩; have hc1 := fun o => hB1.cell (p := ⟨wr.heap.size, o, none⟩) (by simp); have hz1 : wr.heap.size < w1.heap.size := by have := hB1.size; simp at this; omega
      refine hK.out _ _ ?_ (fun hHeld => ?_)
      · go_keep
      clear hK K
      try simp only [Act.put, List.setIfInBounds_toArray, List.set_cons_zero, List.set_cons_succ]
      refine takeW 11 (v := ?v15) rfl (by kernel_rfl) (by kernel_rfl) (by kernel_rfl) (fun _ _ _ h => h) (by rfl) (by assumption) ?hy15 ?rest15
      case hy15 => intro w' hSw; (try dsimp only at hSw); go_simp; try with_reducible rfl
      try simp only [Act.put, List.setIfInBounds_toArray, List.set_cons_zero, List.set_cons_succ]
      refine takeW 12 (v := ?v16) rfl (by kernel_rfl) (by kernel_rfl) (by kernel_rfl) (fun _ _ _ h => h) (by rfl) (by assumption) ?hy16 ?rest16
      case hy16 => intro w' hSw; (try dsimp only at hSw); go_simp; try with_reducible rfl
      try simp only [Act.put, List.setIfInBounds_toArray, List.set_cons_zero, List.set_cons_succ]
      refine takeC 15 (by kernel_rfl) rfl (fun K hK => ?_)
      go_simp
      refine (h2n _).mono ?_; rintro e w2 ⟨rfl, hB2⟩; have hc2 := fun o => hB2.cell (p := ⟨wr.heap.size, o, none⟩) hz1; have hz2 : wr.heap.size < w2.heap.size := by have := hB2.size; omega
      refine hK.out _ _ ?_ (fun hHeld => ?_)
      · go_keep
      clear hK K
      try simp only [Act.put, List.setIfInBounds_toArray, List.set_cons_zero, List.set_cons_succ]
      refine takeW 16 (v := ?v17) rfl (by kernel_rfl) (by kernel_rfl) (by kernel_rfl) (fun _ _ _ h => h) (by rfl) (by assumption) ?hy17 ?rest17
      case hy17 => intro w' hSw; (try dsimp only at hSw); go_simp; try with_reducible rfl
      try simp only [Act.put, List.setIfInBounds_toArray, List.set_cons_zero, List.set_cons_succ]
      refine takeW 17 (v := ?v18) rfl (by kernel_rfl) (by kernel_rfl) (by kernel_rfl) (fun _ _ _ h => h) (by rfl) (by assumption) ?hy18 ?rest18
      case hy18 => intro w' hSw; (try dsimp only at hSw); go_simp; try with_reducible rfl
      try simp only [Act.put, List.setIfInBounds_toArray, List.set_cons_zero, List.set_cons_succ]
      refine takeC 20 (by kernel_rfl) rfl (fun K hK => ?_)
      go_simp
      refine (h3n _).mono ?_; rintro e w3 ⟨rfl, hB3⟩; have hc3 := fun o => hB3.cell (p := ⟨wr.heap.size, o, none⟩) hz2; have hz3 : wr.heap.size < w3.heap.size := by have := hB3.size; omega
      refine hK.out _ _ ?_ (fun hHeld => ?_)
      · go_keep
      clear hK K
      try simp only [Act.put, List.setIfInBounds_toArray, List.set_cons_zero, List.set_cons_succ]
      refine takeW 21 (v := ?v19) rfl (by kernel_rfl) (by kernel_rfl) (by kernel_rfl) (fun _ _ _ h => h) (by rfl) (by assumption) ?hy19 ?rest19
      case hy19 => intro w' hSw; (try dsimp only at hSw); go_simp; try with_reducible rfl
      try simp only [Act.put, List.setIfInBounds_toArray, List.set_cons_zero, List.set_cons_succ]
      refine takeW 22 (v := ?v20) rfl (by kernel_rfl) (by kernel_rfl) (by kernel_rfl) (fun _ _ _ h => h) (by rfl) (by assumption) ?hy20 ?rest20
      case hy20 => intro w' hSw; (try dsimp only at hSw); go_simp; try with_reducible rfl
      try simp only [Act.put, List.setIfInBounds_toArray, List.set_cons_zero, List.set_cons_succ]
      refine takeW 23 (v := ?v21) rfl (by kernel_rfl) (by kernel_rfl) (by kernel_rfl) (fun _ _ _ h => h) (by rfl) (by assumption) ?hy21 ?rest21
      case hy21 => intro w' hSw; (try dsimp only at hSw); go_simp; try with_reducible rfl
      try simp only [Act.put, List.setIfInBounds_toArray, List.set_cons_zero, List.set_cons_succ]
      refine takeW 24 (v := ?v22) rfl (by kernel_rfl) (by kernel_rfl) (by kernel_rfl) (fun _ _ _ h => h) (by rfl) (by assumption) ?hy22 ?rest22
      case hy22 => intro w' hSw; (try dsimp only at hSw); go_simp; try with_reducible rfl
      try simp only [Act.put, List.setIfInBounds_toArray, List.set_cons_zero, List.set_cons_succ]
      refine wpAnyH_done (by kernel_rfl) ?_ _
      have hBB := below_one (below_two hBa (below_drew1 hB1) hB2) hB3
      go_wp2
      go_roundw
      case rel => first | exact ⟨n + 1, by omega, by rw [HT.out, HX.out], by go_num, hBB⟩ | ((repeat apply Exists.intro); exact ⟨⟨n + 1, by omega, by rw [HT.out, HX.out], by go_num, hBB⟩, rfl⟩)
      case measure => simp [intOf]; omega
    · obtain rfl : n = ks.length := by omega
      have HE := hid (show tkT (ks.take ks.length) = tkT ks by rw [List.take_length])
      go_wp2
      go_ret
      exact ⟨ret_str HE.out, hB⟩

theorem strs5 (k : Lk) : Lib.join ([k.who, k.to, numT k.se, numT k.fr, numT k.un].map (·.data.toList)) (⟨#[32]⟩ : ByteArray).data.toList = k.body := by
  simp [Lib.join, Lk.body, numT]
/-- The five words of a link put together. -/
theorem join5_any (k : Lk) (g : Nat) (w : World) (hs : k.size ≤ 1048576) (hg : k.good = true) (hlt : g < w.heap.size)
    (h0 : w.cell? ⟨g, 0, none⟩ = some (.string k.who)) (h1 : w.cell? ⟨g, 1, none⟩ = some (.string k.to)) (h2 : w.cell? ⟨g, 2, none⟩ = some (.string (numT k.se))) (h3 : w.cell? ⟨g, 3, none⟩ = some (.string (numT k.fr))) (h4 : w.cell? ⟨g, 4, none⟩ = some (.string (numT k.un))) :
    Calls Tryz.prog 117 #[.slice (some ⟨g, 0, none⟩) 5 5, .string ⟨#[32]⟩] w fun e w' => e = .returned (.string ⟨k.body.toArray⟩) ∧ Below w.heap.size w w' := by
  have hl : k.body.length ≤ 1048600 := by
    have := text_len k hg
    have h : k.text.size = k.body.length + 1 := by
      show k.text.data.size = _
      rw [← Array.length_toList, Lk.text_list]
      simp
    omega
  have h := Any.strings_Join Tryz.lays156 Tryz.Builder_Extra_156 g 0 5 [k.who, k.to, numT k.se, numT k.fr, numT k.un] ⟨#[32]⟩ w (by
    intro j x hx
    match j, hx with
    | 0, hx => simp at hx; subst hx; simpa using h0
    | 1, hx => simp at hx; subst hx; simpa using h1
    | 2, hx => simp at hx; subst hx; simpa using h2
    | 3, hx => simp at hx; subst hx; simpa using h3
    | 4, hx => simp at hx; subst hx; simpa using h4
    | j + 5, hx => simp at hx) hlt (by simp) (by simp) (by rw [strs5]; omega)
  rw [strs5] at h
  exact h

/-- The builder as it is made. -/
theorem built_new3 (w : World) : Lib.IsBuilder 149 5 w.heap.size w.heap.size [] (w.alloc (.cells #[.pointer none, .slice none 0 0] 149)) :=
  .inl ⟨Nat.le_refl _, .slice none 0 0, by show (w.heap.push _)[w.heap.size]? = some _; simp, World.ownsRow_nil _ _ _ _, by simp [Value.ownBlock]⟩
theorem cells_link (k : Lk) (l : List UInt8) : (Lib.byteCells l ++ Lib.strCells ⟨k.body.toArray⟩) ++ [.int .u8 59] = Lib.byteCells (l ++ k.text.data.toList) := by
  rw [Lib.strCells_eq, Lk.text_list, Lib.byteCells_append, Lib.byteCells_append, List.append_assoc]
  rfl
theorem tkL_succ {ks : List Lk} {n : Nat} (h : n < ks.length) : tkL (ks.take (n + 1)) = tkL (ks.take n) ++ ks[n].text.data.toList := by
  unfold tkL
  rw [List.take_succ_eq_append_getElem h, List.flatMap_append]
  simp
theorem tkL_len (ks : List Lk) : (tkL ks).length = (tkT ks).size := by
  unfold tkT
  show _ = (tkL ks).toArray.size
  simp

set_option maxHeartbeats 4000000 in
theorem textOfToken_any (v : Value) (ks : List Lk) (w : World) (hm : ks.length ≤ 1048577) (hg : ∀ k ∈ ks, k.good = true) (hf : ∀ k ∈ ks, k.size ≤ 1048576) (hr : LkS w v ks) (ht : Tab w) :
    Calls Tryz.prog 90 #[v] w fun e w' => e = .returned (.string (tkT ks)) ∧ Below w.heap.size w w' := by
  obtain ⟨a, cap, rfl⟩ := hr.len
  have HZ := hid (fun n hn => tkT_size hg hf n hn)
  have hN := built_new3 w
  have hBn : Below w.heap.size w (w.alloc (.cells #[.pointer none, .slice none 0 0] 149)) := (Below.refl _ w).alloc (Nat.le_refl _) _
  have HTB := hid ht
  clear ht
  go_enter Tryz.func90, Tryz.ntmps90
  go_wp2
  go_loopw [9] (fun i wr => ∃ n : Nat, n ≤ ks.length ∧ i = .int .i64 n ∧ Lib.IsBuilder 149 5 w.heap.size w.heap.size (Lib.byteCells (tkL (ks.take n))) wr ∧ Below w.heap.size w wr) (fun i _ => ks.length - (intOf i).toNat)
  case atStart => exact ⟨0, Nat.zero_le _, rfl, hN, hBn⟩
  case round =>
    obtain ⟨n, hn, rfl, hI, hB⟩ := hrel
    have hs := HZ.out n hn
    rw [← tkL_len] at hs
    have hs2 : n * 1048600 ≤ 2000000000000 := by omega
    by_cases hlt : n < ks.length
    · obtain ⟨b, off, rfl, hb, hcap, q0, q1, q2, q3, q4⟩ := (hr.below hB).at hlt
      have hz := hf ks[n] (List.getElem_mem hlt)
      have hgd := hg ks[n] (List.getElem_mem hlt)
      obtain ⟨_, _, b3, b4, b5, _⟩ := (Lk.good_iff ks[n]).1 hgd
      have HS := hid (tkL_succ hlt)
      have HC := hid (cells_link ks[n] (tkL (ks.take n)))
      have htx := text_len ks[n] hgd
      generalize ks[n] = k at *
      generalize tkL (ks.take n) = l at *
      have h1n := fun W => itoa_any k.se W (by omega) (by omega)
      have h2n := fun W => itoa_any k.fr W (by omega) (by omega)
      have h3n := fun W => itoa_any k.un W (by omega) (by omega)
      have hJ := fun g W => join5_any k g W hz hgd
      have hbl : k.body.length ≤ 1048600 := by
        have h : k.text.size = k.body.length + 1 := by
          show k.text.data.size = _
          rw [← Array.length_toList, Lk.text_list]
          simp
        omega
      generalize numT k.se = x1 at *
      generalize numT k.fr = x2 at *
      generalize numT k.un = x3 at *
      have hBw : Below wr.heap.size wr (wr.alloc (.cells #[.string k.who, .string k.to, .int .i64 k.se, .int .i64 k.fr, .int .i64 k.un] 52)) := (Below.refl _ wr).alloc (Nat.le_refl _) _
      have hBa := below_one hB hBw
      have hIa := isB_below hI hBw
      have htr : Tab (wr.alloc (.cells #[.string k.who, .string k.to, .int .i64 k.se, .int .i64 k.fr, .int .i64 k.un] 52)).drew := HTB.out.on (hBa.drew)
      go_wp2_with fail
      refine wp_region_held_drew (S := fun w' => w'.cell? ⟨wr.heap.size, 0, none⟩ = some (.string k.who) ∧ w'.cell? ⟨wr.heap.size, 1, none⟩ = some (.string k.to) ∧ w'.cell? ⟨wr.heap.size, 2, none⟩ = some (.int .i64 k.se) ∧ w'.cell? ⟨wr.heap.size, 3, none⟩ = some (.int .i64 k.fr) ∧ w'.cell? ⟨wr.heap.size, 4, none⟩ = some (.int .i64 k.un)) (by kernel_rfl) ?_ (fun hHeld => ?_)
      · go_keep
      refine takeW 0 (v := ?v23) rfl (by kernel_rfl) (by kernel_rfl) (by kernel_rfl) (fun _ _ _ h => h) (by rfl) (by assumption) ?hy23 ?rest23
      case hy23 => intro w' hSw; (try dsimp only at hSw); go_simp; try with_reducible rfl
      try simp only [Act.put, List.setIfInBounds_toArray, List.set_cons_zero, List.set_cons_succ]
      refine takeW 1 (v := ?v24) rfl (by kernel_rfl) (by kernel_rfl) (by kernel_rfl) (fun _ _ _ h => h) (by rfl) (by assumption) ?hy24 ?rest24
      case hy24 => intro w' hSw; (try dsimp only at hSw); go_simp; try with_reducible rfl
      try simp only [Act.put, List.setIfInBounds_toArray, List.set_cons_zero, List.set_cons_succ]
      refine takeW 2 (v := ?v25) rfl (by kernel_rfl) (by kernel_rfl) (by kernel_rfl) (fun _ _ _ h => h) (by rfl) (by assumption) ?hy25 ?rest25
      case hy25 => intro w' hSw; (try dsimp only at hSw); go_simp; try with_reducible rfl
      try simp only [Act.put, List.setIfInBounds_toArray, List.set_cons_zero, List.set_cons_succ]
      refine takeW 3 (v := ?v26) rfl (by kernel_rfl) (by kernel_rfl) (by kernel_rfl) (fun _ _ _ h => h) (by rfl) (by assumption) ?hy26 ?rest26
      case hy26 => intro w' hSw; (try dsimp only at hSw); go_simp; try with_reducible rfl
      try simp only [Act.put, List.setIfInBounds_toArray, List.set_cons_zero, List.set_cons_succ]
      refine takeW 4 (v := ?v27) rfl (by kernel_rfl) (by kernel_rfl) (by kernel_rfl) (fun _ _ _ h => h) (by rfl) (by assumption) ?hy27 ?rest27
      case hy27 => intro w' hSw; (try dsimp only at hSw); go_simp; try with_reducible rfl
      try simp only [Act.put, List.setIfInBounds_toArray, List.set_cons_zero, List.set_cons_succ]
      refine takeW 5 (v := ?v28) rfl (by kernel_rfl) (by kernel_rfl) (by kernel_rfl) (fun _ _ _ h => h) (by rfl) (by assumption) ?hy28 ?rest28
      case hy28 => intro w' hSw; (try dsimp only at hSw); go_simp; try with_reducible rfl
      try simp only [Act.put, List.setIfInBounds_toArray, List.set_cons_zero, List.set_cons_succ]
      refine takeW 7 (v := ?v29) rfl (by kernel_rfl) (by kernel_rfl) (by kernel_rfl) (fun _ _ _ h => h) (by rfl) (by assumption) ?hy29 ?rest29
      case hy29 => intro w' hSw; (try dsimp only at hSw); go_simp; try with_reducible rfl
      try simp only [Act.put, List.setIfInBounds_toArray, List.set_cons_zero, List.set_cons_succ]
      refine takeW 8 (v := ?v30) rfl (by kernel_rfl) (by kernel_rfl) (by kernel_rfl) (fun _ _ _ h => h) (by rfl) (by assumption) ?hy30 ?rest30
      case hy30 => intro w' hSw; (try dsimp only at hSw); go_simp; try with_reducible rfl
      try simp only [Act.put, List.setIfInBounds_toArray, List.set_cons_zero, List.set_cons_succ]
      refine takeW 10 (v := ?v31) rfl (by kernel_rfl) (by kernel_rfl) (by kernel_rfl) (fun _ _ _ h => h) (by rfl) (by assumption) ?hy31 ?rest31
      case hy31 => intro w' hSw; (try dsimp only at hSw); go_simp; try with_reducible rfl
      try simp only [Act.put, List.setIfInBounds_toArray, List.set_cons_zero, List.set_cons_succ]
      refine takeW 11 (v := ?v32) rfl (by kernel_rfl) (by kernel_rfl) (by kernel_rfl) (fun _ _ _ h => h) (by rfl) (by assumption) ?hy32 ?rest32
      case hy32 => intro w' hSw; (try dsimp only at hSw); go_simp; try with_reducible rfl
      try simp only [Act.put, List.setIfInBounds_toArray, List.set_cons_zero, List.set_cons_succ]
      refine takeC 6 (by kernel_rfl) rfl (fun K hK => ?_)
      go_simp
      refine (h1n _ htr).mono ?_; rintro e w1 ⟨rfl, hB1⟩; have hc1 := fun o => hB1.cell (p := ⟨wr.heap.size, o, none⟩) (by simp); have hz1 : wr.heap.size < w1.heap.size := by have := hB1.size; simp at this; omega
      refine hK.out _ _ ?_ (fun hHeld => ?_)
      · go_keep
      clear hK K
      try simp only [Act.put, List.setIfInBounds_toArray, List.set_cons_zero, List.set_cons_succ]
      refine takeC 9 (by kernel_rfl) rfl (fun K hK => ?_)
      go_simp
      refine (h2n _ (htr.on hB1)).mono ?_; rintro e w2 ⟨rfl, hB2⟩; have hc2 := fun o => hB2.cell (p := ⟨wr.heap.size, o, none⟩) hz1; have hz2 : wr.heap.size < w2.heap.size := by have := hB2.size; omega
      refine hK.out _ _ ?_ (fun hHeld => ?_)
      · go_keep
      clear hK K
      try simp only [Act.put, List.setIfInBounds_toArray, List.set_cons_zero, List.set_cons_succ]
      refine takeC 12 (by kernel_rfl) rfl (fun K hK => ?_)
      go_simp
      refine (h3n _ ((htr.on hB1).on hB2)).mono ?_; rintro e w3 ⟨rfl, hB3⟩; have hc3 := fun o => hB3.cell (p := ⟨wr.heap.size, o, none⟩) hz2; have hz3 : wr.heap.size < w3.heap.size := by have := hB3.size; omega
      refine hK.out _ _ ?_ (fun hHeld => ?_)
      · go_keep
      clear hK K
      try simp only [Act.put, List.setIfInBounds_toArray, List.set_cons_zero, List.set_cons_succ]
      refine takeC 13 (by kernel_rfl) rfl (fun K hK => ?_)
      go_simp
      skip
      refine hK.out _ _ ?_ (fun hHeld => ?_)
      · go_keep
      clear hK K
      try simp only [Act.put, List.setIfInBounds_toArray, List.set_cons_zero, List.set_cons_succ]
      refine takeW 14 (v := ?v33) rfl (by kernel_rfl) (by kernel_rfl) (by kernel_rfl) (fun _ _ _ h => h) (by rfl) (by assumption) ?hy33 ?rest33
      case hy33 => intro w' hSw; (try dsimp only at hSw); go_simp; try with_reducible rfl
      try simp only [Act.put, List.setIfInBounds_toArray, List.set_cons_zero, List.set_cons_succ]
      refine wpAnyH_done (by kernel_rfl) ?_ _
      have hB01 : Below (wr.alloc (.cells #[.string k.who, .string k.to, .int .i64 k.se, .int .i64 k.fr, .int .i64 k.un] 52)).heap.size (wr.alloc (.cells #[.string k.who, .string k.to, .int .i64 k.se, .int .i64 k.fr, .int .i64 k.un] 52)) w1 := below_drew1 hB1
      have hB123 := below_one (below_one hB01 hB2) hB3
      have hI3 := isB_below hIa hB123
      have hBB3 := below_one hBa hB123
      have hBw4 : Below w3.heap.size w3 (w3.alloc (.cells #[.string k.who, .string k.to, .string x1, .string x2, .string x3] 9)) := (Below.refl _ w3).alloc (Nat.le_refl _) _
      have hI4 := isB_below hI3 hBw4
      have hBB4 := below_one hBB3 hBw4
      have hJ4 := hJ w3.heap.size (w3.alloc (.cells #[.string k.who, .string k.to, .string x1, .string x2, .string x3] 9)) (by simp) (by simp) (by simp) (by simp) (by simp) (by simp)
      clear hB hBw hBa hIa hI hB01 hB1 hB2 hB3 hB123 hI3 hBB3 hBw4 q0 q1 q2 q3 q4 hJ h1n h2n h3n hc1 hc2 hc3 hz1 hz2 hz3
      go_wp2_with fail
      refine hJ4.mono ?_
      rintro e w5 ⟨rfl, hB5⟩
      have hI5 := isB_below hI4 hB5
      have hBB5 := below_one hBB4 hB5
      have hz5 := hBB5.size
      clear hI4 hBB4 hB5 hJ4
      go_wp2_with fail
      refine (writeString_any w.heap.size w.heap.size _ ⟨k.body.toArray⟩ _ hI5 (by rw [Lib.byteCells_length]; show _ + k.body.toArray.size ≤ _; rw [List.size_toArray]; omega) hz5).mono ?_
      rintro e w6 ⟨rfl, hI6, hB6⟩
      have hBB6 := hBB5.trans hB6
      have hz6 := hBB6.size
      clear hI5 hBB5 hz5 hB6
      go_wp2_with fail
      refine (writeByte_any w.heap.size w.heap.size _ 59 _ (.inr hI6) (by rw [List.length_append, Lib.byteCells_length, Lib.strCells_length]; show _ + k.body.toArray.size + 1 ≤ _; rw [List.size_toArray]; omega) hz6).mono ?_
      rintro e w7 ⟨rfl, hI7, hB7⟩
      have hBB7 := hBB6.trans hB7
      rw [HC.out] at hI7
      clear hI6 hBB6 hz6 hB7
      go_wp2
      go_roundw
      case rel => exact ⟨n + 1, by omega, by go_num, by rw [HS.out]; exact .inr hI7, hBB7⟩
      case measure => simp [intOf]; omega
    · obtain rfl : n = ks.length := by omega
      have hzz := hB.size
      have HE := hid (show (⟨(tkL ks).toArray⟩ : ByteArray) = tkT ks from rfl)
      go_wp2_with fail
      refine (bString_any w.heap.size w.heap.size _ _ hI hzz).mono ?_
      rintro e w6 ⟨rfl, hB6⟩
      go_wp2_with fail
      go_ret
      exact ⟨ret_str HE.out, hB.trans hB6⟩

/-- The text of a token, none of what is none. -/
def ttX (ks : List Lk) : ByteArray := if tkB ks = true then tkT ks else ⟨#[]⟩
theorem ttX_no {ks : List Lk} (h : tkB ks = false) : ttX ks = ⟨#[]⟩ := if_neg (by rw [h]; exact Bool.false_ne_true)
theorem ttX_yes {ks : List Lk} (h : tkB ks = true) : ttX ks = tkT ks := if_pos h

end Go.Proofs.YtodkpoppgfomeaaGreatDoor

namespace Go.Proofs.YtodkpoppgfomeaaGreatDoor
open Go.ChangeShapes Go.WideShapes Go.RowKit Go.Shelf
open Go.Extern.Stop Go.Stop Go.Extern

abbrev fltS7 : List (String × DataW Unit) := [("math/bits.deBruijn32tab", Rows.laid_math_bits_deBruijn32tab), ("math/bits.deBruijn64tab", Rows.laid_math_bits_deBruijn64tab), ("internal/strconv.uint64pow10", Rows.laid_internal_strconv_uint64pow10), ("loop.example/g00167/impl.errNotGood", Rows.laid_loop_example_g00167_impl_errNotGood), ("loop.example/g00167/impl.errTwice", Rows.laid_loop_example_g00167_impl_errTwice), ("loop.example/g00167/impl.errNoWork", Rows.laid_loop_example_g00167_impl_errNoWork), ("loop.example/g00167/impl.errFull", Rows.laid_loop_example_g00167_impl_errFull)]
abbrev fltTL : List (String × DataW Unit) := [("math/bits.deBruijn32tab", Rows.laid_math_bits_deBruijn32tab), ("math/bits.deBruijn64tab", Rows.laid_math_bits_deBruijn64tab), ("internal/strconv.uint64pow10", Rows.laid_internal_strconv_uint64pow10), ("errors.errorType", Rows.laid_errors_errorType), ("loop.example/g00167/impl.errNotGood", Rows.laid_loop_example_g00167_impl_errNotGood), ("loop.example/g00167/impl.errTwice", Rows.laid_loop_example_g00167_impl_errTwice), ("loop.example/g00167/impl.errNoWork", Rows.laid_loop_example_g00167_impl_errNoWork), ("loop.example/g00167/impl.errFull", Rows.laid_loop_example_g00167_impl_errFull)]
theorem fltT_same : (Rows.laid_internal_strconv_uint64pow10 : DataW Unit) = Lib.tabData .u64 Lib.pow10Tab := by kernel_rfl
/-- The table of powers of ten, as the row lists it. -/
theorem fltT_tab {W : World} {rest : List (String × DataW Unit)} (h : laidMet Tryz.prog (("internal/strconv.uint64pow10", Rows.laid_internal_strconv_uint64pow10) :: rest) W) : Tab W :=
  Lib.tabIs_of_head (g := 5) (t := 204) (e := 87) (n := 20) (by kernel_rfl) (by kernel_rfl) Tryz.underlying204 Tryz.underlying87 (by kernel_rfl) (by kernel_rfl) (fltT_same ▸ h)
theorem fltT_of {W : World} (h : laidMetH Tryz.prog fltTL W) : (∃ p0 p1 p2 p3, ErA W p0 p1 p2 p3) ∧ Tab W := by
  have h' : laidMet Tryz.prog fltS7 W ∧ handlesMet Tryz.prog [("errors.errorType", Rows.laid_errors_errorType)] W := h
  have hf : laidMetH Tryz.prog fltL W := ⟨h'.1.tail.tail.tail, h'.2⟩
  exact ⟨era_of hf, fltT_tab h'.1.tail.tail⟩

noncomputable def fltT0 (os : Os) : World :=
  let w0 := World.holding Tryz.prog os ⟨#[], #[], []⟩
  { w0 with heap := w0.heap.modify 4 fun
      | .cells _ t frozen => .cells #[.iface 179 (typ 69)] t frozen
      | o => o }
/-- A world for the witness. -/
noncomputable def fltTWorld (os : Os) : World := (fltT0 os).layVars Tryz.prog fltS7
theorem fltT_met7 (os : Os) (args : Array Value) : laidMet Tryz.prog fltS7 ((fltTWorld os).forCall (fun _ _ => 0) ⟨#[], args, []⟩).memory := by
  have e1 : (fltS7.filter fun x => (fltS7.map (·.1)).contains x.1) = fltS7 := List.filter_eq_self.2 fun x hx => List.contains_iff_mem.2 (List.mem_map.2 ⟨x, hx, rfl⟩)
  have e2 : (fltS7.filter fun x => !(fltS7.map (·.1)).contains x.1) = [] := List.filter_eq_nil_iff.2 fun x hx => by rw [List.contains_iff_mem.2 (List.mem_map.2 ⟨x, hx, rfl⟩)]; simp
  have hf : (fltT0 os).layFits Tryz.prog fltS7 [] = true := by kernel_rfl
  have hi : (fltT0 os).layIfaces Tryz.prog fltS7 (fltTWorld os) = true := by kernel_rfl
  have h : laidMet Tryz.prog fltS7 (fltTWorld os) := laidMet_layVars (w0 := fltT0 os) (fltS7.map (·.1)) [] (by rw [e1]; rfl) (by rw [e1]; exact hf) (by rw [e1]; exact hi) (by rw [e2]; exact LaidIn.none)
  exact h.of_heap (by simp [World.memory, World.forCall, Input.heap])
theorem fltT_met (os : Os) (args : Array Value) : laidMetH Tryz.prog fltTL ((fltTWorld os).forCall (fun _ _ => 0) ⟨#[], args, []⟩).memory :=
  laidMetH_of_parts (fltT_met7 os args) (by kernel_rfl)

end Go.Proofs.YtodkpoppgfomeaaGreatDoor

namespace Go.Proofs.YtodkpoppgfomeaaGreatDoor
open Go.RowKit Go.Shelf

theorem itself_any (n : Int) (w : World) :
    Calls Tryz.prog 66 #[.int .i64 n] w fun e w' => e = .returned (.int .i64 n) ∧ w' = w := by
  go_enter Tryz.func66, Tryz.ntmps66
  go_wp2
  go_ret
  exact ⟨rfl, rfl⟩

set_option maxHeartbeats 2000000 in
set_option maxRecDepth 100000 in
theorem risingN_any (v : Value) (zs : List Int) (w : World) (hm : zs.length ≤ 1048577) (hr : VS w v (nums zs)) :
    Calls Tryz.prog 65 #[v, .func (.func 66) #[] #[]] w fun e w' => e = .returned (.bool (upN zs)) ∧ Below w.heap.size w w' := by
  obtain ⟨a, cap, rfl⟩ := hr.numLen
  go_enter Tryz.func65, Tryz.ntmps65
  go_wp2
  go_loopw [5] (fun i wr => ∃ m : Nat, (m ≤ zs.length ∨ m = 1) ∧ 1 ≤ m ∧ i = .int .i64 m ∧ (∀ j, j < m → upI zs j = true) ∧ Below w.heap.size w wr) (fun i _ => zs.length - (intOf i).toNat)
  case atStart => exact ⟨1, .inr rfl, Nat.le_refl _, rfl, fun j hj => (by obtain rfl : j = 0 := Nat.lt_one_iff.1 hj; rfl), Below.refl _ _⟩
  case round =>
    obtain ⟨m, hm2, hm1, rfl, hu, hB⟩ := hrel
    have HU := hid hu
    clear hu
    obtain ⟨n, hn⟩ : ∃ n, m = n + 1 := ⟨m - 1, by omega⟩
    by_cases hlt : m < zs.length
    · obtain ⟨b, off, rfl, hb, hcap, q0⟩ := (hr.below hB).num hlt
      obtain ⟨b', off', hbo, _, _, p0⟩ := (hr.below hB).num (i := n) (by omega)
      cases hbo
      have HS := hid (show upI zs m = decide ((zs[n]'(by omega)) < zs[m]) by subst hn; exact upI_succ hlt)
      have HN := hid (fun h => upN_no (zs := zs) (i := m) hlt h)
      have hw1 : IntKind.i64.wrap ((m : Int) - 1) = (n : Int) := by rw [IntKind.wrap_i64]; omega
      have hl1 : (m : Int) < (zs.length : Int) := by omega
      have hl2 : (n : Int) < (zs.length : Int) := by omega
      generalize zs[m] = k at *
      generalize zs[n] = p at *
      clear hn
      by_cases hc : k ≤ p
      · have HR := hid (HN.out (by rw [HS.out]; exact decide_eq_false (by omega)))
        have dc : decide (k ≤ p) = true := decide_eq_true hc
        go_wp2_with fail
        refine wp_region_held_drew (S := fun w' => w'.cell? ⟨b, off + m, none⟩ = some (.int .i64 k) ∧ w'.cell? ⟨b, off + n, none⟩ = some (.int .i64 p)) (by kernel_rfl) ?_ (fun hHeld => ?_)
        · go_keep
        refine takeW 0 (v := ?v25) rfl (by kernel_rfl) (by kernel_rfl) (by kernel_rfl) (fun _ _ _ h => h) (by rfl) (by assumption) ?hy25 ?rest25
        case hy25 => intro w' hSw; (try dsimp only at hSw); go_simp; try with_reducible rfl
        try simp only [Act.put, List.setIfInBounds_toArray, List.set_cons_zero, List.set_cons_succ]
        refine takeW 1 (v := ?v26) rfl (by kernel_rfl) (by kernel_rfl) (by kernel_rfl) (fun _ _ _ h => h) (by rfl) (by assumption) ?hy26 ?rest26
        case hy26 => intro w' hSw; (try dsimp only at hSw); go_simp; try with_reducible rfl
        try simp only [Act.put, List.setIfInBounds_toArray, List.set_cons_zero, List.set_cons_succ]
        refine takeW 2 (v := ?v27) rfl (by kernel_rfl) (by kernel_rfl) (by kernel_rfl) (fun _ _ _ h => h) (by rfl) (by assumption) ?hy27 ?rest27
        case hy27 => intro w' hSw; (try dsimp only at hSw); go_simp; try with_reducible rfl
        try simp only [Act.put, List.setIfInBounds_toArray, List.set_cons_zero, List.set_cons_succ]
        refine takeW 3 (v := ?v28) rfl (by kernel_rfl) (by kernel_rfl) (by kernel_rfl) (fun _ _ _ h => h) (by rfl) (by assumption) ?hy28 ?rest28
        case hy28 => intro w' hSw; (try dsimp only at hSw); go_simp; try with_reducible rfl
        try simp only [Act.put, List.setIfInBounds_toArray, List.set_cons_zero, List.set_cons_succ]
        refine takeW 4 (v := ?v29) rfl (by kernel_rfl) (by kernel_rfl) (by kernel_rfl) (fun _ _ _ h => h) (by rfl) (by assumption) ?hy29 ?rest29
        case hy29 => intro w' hSw; (try dsimp only at hSw); go_simp; try with_reducible rfl
        try simp only [Act.put, List.setIfInBounds_toArray, List.set_cons_zero, List.set_cons_succ]
        refine takeW 6 (v := ?v30) rfl (by kernel_rfl) (by kernel_rfl) (by kernel_rfl) (fun _ _ _ h => h) (by rfl) (by assumption) ?hy30 ?rest30
        case hy30 => intro w' hSw; (try dsimp only at hSw); go_simp; try with_reducible rfl
        try simp only [Act.put, List.setIfInBounds_toArray, List.set_cons_zero, List.set_cons_succ]
        refine takeW 7 (v := ?v31) rfl (by kernel_rfl) (by kernel_rfl) (by kernel_rfl) (fun _ _ _ h => h) (by rfl) (by assumption) ?hy31 ?rest31
        case hy31 => intro w' hSw; (try dsimp only at hSw); go_simp; try with_reducible rfl
        try simp only [Act.put, List.setIfInBounds_toArray, List.set_cons_zero, List.set_cons_succ]
        refine takeW 8 (v := ?v32) rfl (by kernel_rfl) (by kernel_rfl) (by kernel_rfl) (fun _ _ _ h => h) (by rfl) (by assumption) ?hy32 ?rest32
        case hy32 => intro w' hSw; (try dsimp only at hSw); go_simp; try with_reducible rfl
        try simp only [Act.put, List.setIfInBounds_toArray, List.set_cons_zero, List.set_cons_succ]
        refine takeW 9 (v := ?v33) rfl (by kernel_rfl) (by kernel_rfl) (by kernel_rfl) (fun _ _ _ h => h) (by rfl) (by assumption) ?hy33 ?rest33
        case hy33 => intro w' hSw; (try dsimp only at hSw); go_simp; try with_reducible rfl
        try simp only [Act.put, List.setIfInBounds_toArray, List.set_cons_zero, List.set_cons_succ]
        refine takeW 10 (v := ?v34) rfl (by kernel_rfl) (by kernel_rfl) (by kernel_rfl) (fun _ _ _ h => h) (by rfl) (by assumption) ?hy34 ?rest34
        case hy34 => intro w' hSw; (try dsimp only at hSw); go_simp; try with_reducible rfl
        try simp only [Act.put, List.setIfInBounds_toArray, List.set_cons_zero, List.set_cons_succ]
        refine takeW 11 (v := ?v35) rfl (by kernel_rfl) (by kernel_rfl) (by kernel_rfl) (fun _ _ _ h => h) (by rfl) (by assumption) ?hy35 ?rest35
        case hy35 => intro w' hSw; (try dsimp only at hSw); go_simp; try with_reducible rfl
        try simp only [Act.put, List.setIfInBounds_toArray, List.set_cons_zero, List.set_cons_succ]
        refine takeC 5 (by kernel_rfl) rfl (fun K hK => ?_)
        go_simp
        refine (itself_any k _).mono ?_; rintro e w1 ⟨rfl, rfl⟩
        refine hK.out _ _ ?_ (fun hHeld => ?_)
        · go_keep
        clear hK K
        try simp only [Act.put, List.setIfInBounds_toArray, List.set_cons_zero, List.set_cons_succ]
        refine takeC 12 (by kernel_rfl) rfl (fun K hK => ?_)
        go_simp
        refine (itself_any p _).mono ?_; rintro e w2 ⟨rfl, rfl⟩
        refine hK.out _ _ ?_ (fun hHeld => ?_)
        · go_keep
        clear hK K
        try simp only [Act.put, List.setIfInBounds_toArray, List.set_cons_zero, List.set_cons_succ]
        refine takeW 13 (v := ?v36) rfl (by kernel_rfl) (by kernel_rfl) (by kernel_rfl) (fun _ _ _ h => h) (by rfl) (by assumption) ?hy36 ?rest36
        case hy36 => intro w' hSw; (try dsimp only at hSw); go_simp; try with_reducible rfl
        try simp only [Act.put, List.setIfInBounds_toArray, List.set_cons_zero, List.set_cons_succ]
        refine wpAnyH_done (by kernel_rfl) ?_ _
        all_goals go_wp2
        all_goals go_ret
        all_goals exact ⟨ret_bool HR.out.symm, below_one hB (Below.refl _ wr).drew⟩
      · have HR := hid (show ∀ j, j < m + 1 → upI zs j = true from fun j hj => (by
          by_cases e : j = m
          · subst e
            rw [HS.out]
            exact decide_eq_true (by omega)
          · exact HU.out j (by omega)))
        have dc : decide (k ≤ p) = false := decide_eq_false hc
        go_wp2_with fail
        refine wp_region_held_drew (S := fun w' => w'.cell? ⟨b, off + m, none⟩ = some (.int .i64 k) ∧ w'.cell? ⟨b, off + n, none⟩ = some (.int .i64 p)) (by kernel_rfl) ?_ (fun hHeld => ?_)
        · go_keep
        refine takeW 0 (v := ?v37) rfl (by kernel_rfl) (by kernel_rfl) (by kernel_rfl) (fun _ _ _ h => h) (by rfl) (by assumption) ?hy37 ?rest37
        case hy37 => intro w' hSw; (try dsimp only at hSw); go_simp; try with_reducible rfl
        try simp only [Act.put, List.setIfInBounds_toArray, List.set_cons_zero, List.set_cons_succ]
        refine takeW 1 (v := ?v38) rfl (by kernel_rfl) (by kernel_rfl) (by kernel_rfl) (fun _ _ _ h => h) (by rfl) (by assumption) ?hy38 ?rest38
        case hy38 => intro w' hSw; (try dsimp only at hSw); go_simp; try with_reducible rfl
        try simp only [Act.put, List.setIfInBounds_toArray, List.set_cons_zero, List.set_cons_succ]
        refine takeW 2 (v := ?v39) rfl (by kernel_rfl) (by kernel_rfl) (by kernel_rfl) (fun _ _ _ h => h) (by rfl) (by assumption) ?hy39 ?rest39
        case hy39 => intro w' hSw; (try dsimp only at hSw); go_simp; try with_reducible rfl
        try simp only [Act.put, List.setIfInBounds_toArray, List.set_cons_zero, List.set_cons_succ]
        refine takeW 3 (v := ?v40) rfl (by kernel_rfl) (by kernel_rfl) (by kernel_rfl) (fun _ _ _ h => h) (by rfl) (by assumption) ?hy40 ?rest40
        case hy40 => intro w' hSw; (try dsimp only at hSw); go_simp; try with_reducible rfl
        try simp only [Act.put, List.setIfInBounds_toArray, List.set_cons_zero, List.set_cons_succ]
        refine takeW 4 (v := ?v41) rfl (by kernel_rfl) (by kernel_rfl) (by kernel_rfl) (fun _ _ _ h => h) (by rfl) (by assumption) ?hy41 ?rest41
        case hy41 => intro w' hSw; (try dsimp only at hSw); go_simp; try with_reducible rfl
        try simp only [Act.put, List.setIfInBounds_toArray, List.set_cons_zero, List.set_cons_succ]
        refine takeW 6 (v := ?v42) rfl (by kernel_rfl) (by kernel_rfl) (by kernel_rfl) (fun _ _ _ h => h) (by rfl) (by assumption) ?hy42 ?rest42
        case hy42 => intro w' hSw; (try dsimp only at hSw); go_simp; try with_reducible rfl
        try simp only [Act.put, List.setIfInBounds_toArray, List.set_cons_zero, List.set_cons_succ]
        refine takeW 7 (v := ?v43) rfl (by kernel_rfl) (by kernel_rfl) (by kernel_rfl) (fun _ _ _ h => h) (by rfl) (by assumption) ?hy43 ?rest43
        case hy43 => intro w' hSw; (try dsimp only at hSw); go_simp; try with_reducible rfl
        try simp only [Act.put, List.setIfInBounds_toArray, List.set_cons_zero, List.set_cons_succ]
        refine takeW 8 (v := ?v44) rfl (by kernel_rfl) (by kernel_rfl) (by kernel_rfl) (fun _ _ _ h => h) (by rfl) (by assumption) ?hy44 ?rest44
        case hy44 => intro w' hSw; (try dsimp only at hSw); go_simp; try with_reducible rfl
        try simp only [Act.put, List.setIfInBounds_toArray, List.set_cons_zero, List.set_cons_succ]
        refine takeW 9 (v := ?v45) rfl (by kernel_rfl) (by kernel_rfl) (by kernel_rfl) (fun _ _ _ h => h) (by rfl) (by assumption) ?hy45 ?rest45
        case hy45 => intro w' hSw; (try dsimp only at hSw); go_simp; try with_reducible rfl
        try simp only [Act.put, List.setIfInBounds_toArray, List.set_cons_zero, List.set_cons_succ]
        refine takeW 10 (v := ?v46) rfl (by kernel_rfl) (by kernel_rfl) (by kernel_rfl) (fun _ _ _ h => h) (by rfl) (by assumption) ?hy46 ?rest46
        case hy46 => intro w' hSw; (try dsimp only at hSw); go_simp; try with_reducible rfl
        try simp only [Act.put, List.setIfInBounds_toArray, List.set_cons_zero, List.set_cons_succ]
        refine takeW 11 (v := ?v47) rfl (by kernel_rfl) (by kernel_rfl) (by kernel_rfl) (fun _ _ _ h => h) (by rfl) (by assumption) ?hy47 ?rest47
        case hy47 => intro w' hSw; (try dsimp only at hSw); go_simp; try with_reducible rfl
        try simp only [Act.put, List.setIfInBounds_toArray, List.set_cons_zero, List.set_cons_succ]
        refine takeC 5 (by kernel_rfl) rfl (fun K hK => ?_)
        go_simp
        refine (itself_any k _).mono ?_; rintro e w1 ⟨rfl, rfl⟩
        refine hK.out _ _ ?_ (fun hHeld => ?_)
        · go_keep
        clear hK K
        try simp only [Act.put, List.setIfInBounds_toArray, List.set_cons_zero, List.set_cons_succ]
        refine takeC 12 (by kernel_rfl) rfl (fun K hK => ?_)
        go_simp
        refine (itself_any p _).mono ?_; rintro e w2 ⟨rfl, rfl⟩
        refine hK.out _ _ ?_ (fun hHeld => ?_)
        · go_keep
        clear hK K
        try simp only [Act.put, List.setIfInBounds_toArray, List.set_cons_zero, List.set_cons_succ]
        refine takeW 13 (v := ?v48) rfl (by kernel_rfl) (by kernel_rfl) (by kernel_rfl) (fun _ _ _ h => h) (by rfl) (by assumption) ?hy48 ?rest48
        case hy48 => intro w' hSw; (try dsimp only at hSw); go_simp; try with_reducible rfl
        try simp only [Act.put, List.setIfInBounds_toArray, List.set_cons_zero, List.set_cons_succ]
        refine wpAnyH_done (by kernel_rfl) ?_ _
        all_goals go_wp2
        all_goals go_roundw
        all_goals first
          | exact ⟨m + 1, .inl hlt, by omega, by go_num, HR.out, below_one hB (Below.refl _ wr).drew⟩
          | ((repeat apply Exists.intro); exact ⟨⟨m + 1, .inl hlt, by omega, by go_num, HR.out, below_one hB (Below.refl _ wr).drew⟩, rfl⟩)
          | (simp [intOf]; omega)
    · have HR := hid (show upN zs = true from upN_yes fun i hi => HU.out i (by omega))
      have hl1 : ¬ (m : Int) < (zs.length : Int) := by omega
      go_wp2
      go_ret
      exact ⟨ret_bool HR.out.symm, hB⟩

end Go.Proofs.YtodkpoppgfomeaaGreatDoor

namespace Go.Proofs.YtodkpoppgfomeaaGreatDoor
open Go.RowKit Go.Shelf

theorem nameOfWork_any (k : Wk) (w : World) :
    Calls Tryz.prog 63 #[k.val] w fun e w' => e = .returned (.string k.name) ∧ Below w.heap.size w w' := by
  go_enter Tryz.func63, Tryz.ntmps63
  go_wp2
  go_ret
  exact ⟨rfl, (Below.refl _ w).alloc (Nat.le_refl _) _⟩

set_option maxHeartbeats 2000000 in
set_option maxRecDepth 100000 in
theorem risingW_any (v : Value) (ws : List Wk) (w : World) (hm : ws.length ≤ 1048577) (hr : WkS w v ws) :
    Calls Tryz.prog 64 #[v, .func (.func 63) #[] #[]] w fun e w' => e = .returned (.bool (upW ws)) ∧ Below w.heap.size w w' := by
  obtain ⟨a, cap, rfl⟩ := hr.len
  go_enter Tryz.func64, Tryz.ntmps64
  go_wp2
  go_loopw [5] (fun i wr => ∃ m : Nat, (m ≤ ws.length ∨ m = 1) ∧ 1 ≤ m ∧ i = .int .i64 m ∧ (∀ j, j < m → upB ws j = true) ∧ Below w.heap.size w wr) (fun i _ => ws.length - (intOf i).toNat)
  case atStart => exact ⟨1, .inr rfl, Nat.le_refl _, rfl, fun j hj => (by obtain rfl : j = 0 := Nat.lt_one_iff.1 hj; rfl), Below.refl _ _⟩
  case round =>
    obtain ⟨m, hm2, hm1, rfl, hu, hB⟩ := hrel
    have HU := hid hu
    clear hu
    obtain ⟨n, hn⟩ : ∃ n, m = n + 1 := ⟨m - 1, by omega⟩
    by_cases hlt : m < ws.length
    · obtain ⟨b, off, rfl, hb, hcap, q0, q1, q2⟩ := (hr.below hB).at hlt
      obtain ⟨b', off', hbo, _, _, p0, p1, p2⟩ := (hr.below hB).at (i := n) (by omega)
      cases hbo
      have HS := hid (show upB ws m = blt (ws[n]'(by omega)).name ws[m].name by subst hn; exact upB_succ hlt)
      have HN := hid (fun h => upW_no (ws := ws) (i := m) hlt h)
      have hw1 : IntKind.i64.wrap ((m : Int) - 1) = (n : Int) := by rw [IntKind.wrap_i64]; omega
      have hl1 : (m : Int) < (ws.length : Int) := by omega
      have hl2 : (n : Int) < (ws.length : Int) := by omega
      generalize ws[m] = k at *
      generalize ws[n] = p at *
      clear hn
      have hle := ble_not k.name p.name
      cases hc : blt p.name k.name
      · rw [hc] at hle
        have HR := hid (HN.out (by rw [HS.out, hc]))
        go_wp2_with fail
        refine wp_region_held_drew (S := fun w' => w'.cell? ⟨b, off + m * 3, none⟩ = some (.string k.name) ∧ w'.cell? ⟨b, off + m * 3 + 1, none⟩ = some (.bool k.live) ∧ w'.cell? ⟨b, off + m * 3 + 2, none⟩ = some (.int .i64 k.se) ∧ w'.cell? ⟨b, off + n * 3, none⟩ = some (.string p.name) ∧ w'.cell? ⟨b, off + n * 3 + 1, none⟩ = some (.bool p.live) ∧ w'.cell? ⟨b, off + n * 3 + 2, none⟩ = some (.int .i64 p.se)) (by kernel_rfl) ?_ (fun hHeld => ?_)
        · go_keep
        refine takeW 0 (v := ?v1) rfl (by kernel_rfl) (by kernel_rfl) (by kernel_rfl) (fun _ _ _ h => h) (by rfl) (by assumption) ?hy1 ?rest1
        case hy1 => intro w' hSw; (try dsimp only at hSw); go_simp; try with_reducible rfl
        try simp only [Act.put, List.setIfInBounds_toArray, List.set_cons_zero, List.set_cons_succ]
        refine takeW 1 (v := ?v2) rfl (by kernel_rfl) (by kernel_rfl) (by kernel_rfl) (fun _ _ _ h => h) (by rfl) (by assumption) ?hy2 ?rest2
        case hy2 => intro w' hSw; (try dsimp only at hSw); go_simp; try with_reducible rfl
        try simp only [Act.put, List.setIfInBounds_toArray, List.set_cons_zero, List.set_cons_succ]
        refine takeW 2 (v := ?v3) rfl (by kernel_rfl) (by kernel_rfl) (by kernel_rfl) (fun _ _ _ h => h) (by rfl) (by assumption) ?hy3 ?rest3
        case hy3 => intro w' hSw; (try dsimp only at hSw); go_simp; try with_reducible rfl
        try simp only [Act.put, List.setIfInBounds_toArray, List.set_cons_zero, List.set_cons_succ]
        refine takeW 3 (v := ?v4) rfl (by kernel_rfl) (by kernel_rfl) (by kernel_rfl) (fun _ _ _ h => h) (by rfl) (by assumption) ?hy4 ?rest4
        case hy4 => intro w' hSw; (try dsimp only at hSw); go_simp; try with_reducible rfl
        try simp only [Act.put, List.setIfInBounds_toArray, List.set_cons_zero, List.set_cons_succ]
        refine takeW 4 (v := ?v5) rfl (by kernel_rfl) (by kernel_rfl) (by kernel_rfl) (fun _ _ _ h => h) (by rfl) (by assumption) ?hy5 ?rest5
        case hy5 => intro w' hSw; (try dsimp only at hSw); go_simp; try with_reducible rfl
        try simp only [Act.put, List.setIfInBounds_toArray, List.set_cons_zero, List.set_cons_succ]
        refine takeW 6 (v := ?v6) rfl (by kernel_rfl) (by kernel_rfl) (by kernel_rfl) (fun _ _ _ h => h) (by rfl) (by assumption) ?hy6 ?rest6
        case hy6 => intro w' hSw; (try dsimp only at hSw); go_simp; try with_reducible rfl
        try simp only [Act.put, List.setIfInBounds_toArray, List.set_cons_zero, List.set_cons_succ]
        refine takeW 7 (v := ?v7) rfl (by kernel_rfl) (by kernel_rfl) (by kernel_rfl) (fun _ _ _ h => h) (by rfl) (by assumption) ?hy7 ?rest7
        case hy7 => intro w' hSw; (try dsimp only at hSw); go_simp; try with_reducible rfl
        try simp only [Act.put, List.setIfInBounds_toArray, List.set_cons_zero, List.set_cons_succ]
        refine takeW 8 (v := ?v8) rfl (by kernel_rfl) (by kernel_rfl) (by kernel_rfl) (fun _ _ _ h => h) (by rfl) (by assumption) ?hy8 ?rest8
        case hy8 => intro w' hSw; (try dsimp only at hSw); go_simp; try with_reducible rfl
        try simp only [Act.put, List.setIfInBounds_toArray, List.set_cons_zero, List.set_cons_succ]
        refine takeW 9 (v := ?v9) rfl (by kernel_rfl) (by kernel_rfl) (by kernel_rfl) (fun _ _ _ h => h) (by rfl) (by assumption) ?hy9 ?rest9
        case hy9 => intro w' hSw; (try dsimp only at hSw); go_simp; try with_reducible rfl
        try simp only [Act.put, List.setIfInBounds_toArray, List.set_cons_zero, List.set_cons_succ]
        refine takeW 10 (v := ?v10) rfl (by kernel_rfl) (by kernel_rfl) (by kernel_rfl) (fun _ _ _ h => h) (by rfl) (by assumption) ?hy10 ?rest10
        case hy10 => intro w' hSw; (try dsimp only at hSw); go_simp; try with_reducible rfl
        try simp only [Act.put, List.setIfInBounds_toArray, List.set_cons_zero, List.set_cons_succ]
        refine takeW 11 (v := ?v11) rfl (by kernel_rfl) (by kernel_rfl) (by kernel_rfl) (fun _ _ _ h => h) (by rfl) (by assumption) ?hy11 ?rest11
        case hy11 => intro w' hSw; (try dsimp only at hSw); go_simp; try with_reducible rfl
        try simp only [Act.put, List.setIfInBounds_toArray, List.set_cons_zero, List.set_cons_succ]
        refine takeC 5 (by kernel_rfl) rfl (fun K hK => ?_)
        go_simp
        refine (nameOfWork_any k _).mono ?_; rintro e w1 ⟨rfl, hB1⟩; have hcb := fun o => hB1.cell (p := ⟨b, o, none⟩) (by exact hb); have hb1 : b < w1.heap.size := Nat.lt_of_lt_of_le hb hB1.size
        refine hK.out _ _ ?_ (fun hHeld => ?_)
        · go_keep
        clear hK K
        try simp only [Act.put, List.setIfInBounds_toArray, List.set_cons_zero, List.set_cons_succ]
        refine takeC 12 (by kernel_rfl) rfl (fun K hK => ?_)
        go_simp
        refine (nameOfWork_any p _).mono ?_; rintro e w2 ⟨rfl, hB2⟩; have hcb2 := fun o => hB2.cell (p := ⟨b, o, none⟩) (by exact hb1)
        refine hK.out _ _ ?_ (fun hHeld => ?_)
        · go_keep
        clear hK K
        try simp only [Act.put, List.setIfInBounds_toArray, List.set_cons_zero, List.set_cons_succ]
        refine takeW 13 (v := ?v12) rfl (by kernel_rfl) (by kernel_rfl) (by kernel_rfl) (fun _ _ _ h => h) (by rfl) (by assumption) ?hy12 ?rest12
        case hy12 => intro w' hSw; (try dsimp only at hSw); go_simp; try with_reducible rfl
        try simp only [Act.put, List.setIfInBounds_toArray, List.set_cons_zero, List.set_cons_succ]
        refine wpAnyH_done (by kernel_rfl) ?_ _
        have hBB := below_two hB (below_drew1 hB1) hB2
        clear hcb hcb2 hB1 hB2
        all_goals go_wp2
        all_goals go_ret
        all_goals exact ⟨ret_bool HR.out.symm, hBB⟩
      · rw [hc] at hle
        have HR := hid (show ∀ j, j < m + 1 → upB ws j = true from fun j hj => (by
          by_cases e : j = m
          · subst e
            rw [HS.out, hc]
          · exact HU.out j (by omega)))
        go_wp2_with fail
        refine wp_region_held_drew (S := fun w' => w'.cell? ⟨b, off + m * 3, none⟩ = some (.string k.name) ∧ w'.cell? ⟨b, off + m * 3 + 1, none⟩ = some (.bool k.live) ∧ w'.cell? ⟨b, off + m * 3 + 2, none⟩ = some (.int .i64 k.se) ∧ w'.cell? ⟨b, off + n * 3, none⟩ = some (.string p.name) ∧ w'.cell? ⟨b, off + n * 3 + 1, none⟩ = some (.bool p.live) ∧ w'.cell? ⟨b, off + n * 3 + 2, none⟩ = some (.int .i64 p.se)) (by kernel_rfl) ?_ (fun hHeld => ?_)
        · go_keep
        refine takeW 0 (v := ?v13) rfl (by kernel_rfl) (by kernel_rfl) (by kernel_rfl) (fun _ _ _ h => h) (by rfl) (by assumption) ?hy13 ?rest13
        case hy13 => intro w' hSw; (try dsimp only at hSw); go_simp; try with_reducible rfl
        try simp only [Act.put, List.setIfInBounds_toArray, List.set_cons_zero, List.set_cons_succ]
        refine takeW 1 (v := ?v14) rfl (by kernel_rfl) (by kernel_rfl) (by kernel_rfl) (fun _ _ _ h => h) (by rfl) (by assumption) ?hy14 ?rest14
        case hy14 => intro w' hSw; (try dsimp only at hSw); go_simp; try with_reducible rfl
        try simp only [Act.put, List.setIfInBounds_toArray, List.set_cons_zero, List.set_cons_succ]
        refine takeW 2 (v := ?v15) rfl (by kernel_rfl) (by kernel_rfl) (by kernel_rfl) (fun _ _ _ h => h) (by rfl) (by assumption) ?hy15 ?rest15
        case hy15 => intro w' hSw; (try dsimp only at hSw); go_simp; try with_reducible rfl
        try simp only [Act.put, List.setIfInBounds_toArray, List.set_cons_zero, List.set_cons_succ]
        refine takeW 3 (v := ?v16) rfl (by kernel_rfl) (by kernel_rfl) (by kernel_rfl) (fun _ _ _ h => h) (by rfl) (by assumption) ?hy16 ?rest16
        case hy16 => intro w' hSw; (try dsimp only at hSw); go_simp; try with_reducible rfl
        try simp only [Act.put, List.setIfInBounds_toArray, List.set_cons_zero, List.set_cons_succ]
        refine takeW 4 (v := ?v17) rfl (by kernel_rfl) (by kernel_rfl) (by kernel_rfl) (fun _ _ _ h => h) (by rfl) (by assumption) ?hy17 ?rest17
        case hy17 => intro w' hSw; (try dsimp only at hSw); go_simp; try with_reducible rfl
        try simp only [Act.put, List.setIfInBounds_toArray, List.set_cons_zero, List.set_cons_succ]
        refine takeW 6 (v := ?v18) rfl (by kernel_rfl) (by kernel_rfl) (by kernel_rfl) (fun _ _ _ h => h) (by rfl) (by assumption) ?hy18 ?rest18
        case hy18 => intro w' hSw; (try dsimp only at hSw); go_simp; try with_reducible rfl
        try simp only [Act.put, List.setIfInBounds_toArray, List.set_cons_zero, List.set_cons_succ]
        refine takeW 7 (v := ?v19) rfl (by kernel_rfl) (by kernel_rfl) (by kernel_rfl) (fun _ _ _ h => h) (by rfl) (by assumption) ?hy19 ?rest19
        case hy19 => intro w' hSw; (try dsimp only at hSw); go_simp; try with_reducible rfl
        try simp only [Act.put, List.setIfInBounds_toArray, List.set_cons_zero, List.set_cons_succ]
        refine takeW 8 (v := ?v20) rfl (by kernel_rfl) (by kernel_rfl) (by kernel_rfl) (fun _ _ _ h => h) (by rfl) (by assumption) ?hy20 ?rest20
        case hy20 => intro w' hSw; (try dsimp only at hSw); go_simp; try with_reducible rfl
        try simp only [Act.put, List.setIfInBounds_toArray, List.set_cons_zero, List.set_cons_succ]
        refine takeW 9 (v := ?v21) rfl (by kernel_rfl) (by kernel_rfl) (by kernel_rfl) (fun _ _ _ h => h) (by rfl) (by assumption) ?hy21 ?rest21
        case hy21 => intro w' hSw; (try dsimp only at hSw); go_simp; try with_reducible rfl
        try simp only [Act.put, List.setIfInBounds_toArray, List.set_cons_zero, List.set_cons_succ]
        refine takeW 10 (v := ?v22) rfl (by kernel_rfl) (by kernel_rfl) (by kernel_rfl) (fun _ _ _ h => h) (by rfl) (by assumption) ?hy22 ?rest22
        case hy22 => intro w' hSw; (try dsimp only at hSw); go_simp; try with_reducible rfl
        try simp only [Act.put, List.setIfInBounds_toArray, List.set_cons_zero, List.set_cons_succ]
        refine takeW 11 (v := ?v23) rfl (by kernel_rfl) (by kernel_rfl) (by kernel_rfl) (fun _ _ _ h => h) (by rfl) (by assumption) ?hy23 ?rest23
        case hy23 => intro w' hSw; (try dsimp only at hSw); go_simp; try with_reducible rfl
        try simp only [Act.put, List.setIfInBounds_toArray, List.set_cons_zero, List.set_cons_succ]
        refine takeC 5 (by kernel_rfl) rfl (fun K hK => ?_)
        go_simp
        refine (nameOfWork_any k _).mono ?_; rintro e w1 ⟨rfl, hB1⟩; have hcb := fun o => hB1.cell (p := ⟨b, o, none⟩) (by exact hb); have hb1 : b < w1.heap.size := Nat.lt_of_lt_of_le hb hB1.size
        refine hK.out _ _ ?_ (fun hHeld => ?_)
        · go_keep
        clear hK K
        try simp only [Act.put, List.setIfInBounds_toArray, List.set_cons_zero, List.set_cons_succ]
        refine takeC 12 (by kernel_rfl) rfl (fun K hK => ?_)
        go_simp
        refine (nameOfWork_any p _).mono ?_; rintro e w2 ⟨rfl, hB2⟩; have hcb2 := fun o => hB2.cell (p := ⟨b, o, none⟩) (by exact hb1)
        refine hK.out _ _ ?_ (fun hHeld => ?_)
        · go_keep
        clear hK K
        try simp only [Act.put, List.setIfInBounds_toArray, List.set_cons_zero, List.set_cons_succ]
        refine takeW 13 (v := ?v24) rfl (by kernel_rfl) (by kernel_rfl) (by kernel_rfl) (fun _ _ _ h => h) (by rfl) (by assumption) ?hy24 ?rest24
        case hy24 => intro w' hSw; (try dsimp only at hSw); go_simp; try with_reducible rfl
        try simp only [Act.put, List.setIfInBounds_toArray, List.set_cons_zero, List.set_cons_succ]
        refine wpAnyH_done (by kernel_rfl) ?_ _
        have hBB := below_two hB (below_drew1 hB1) hB2
        clear hcb hcb2 hB1 hB2
        all_goals go_wp2
        all_goals go_roundw
        all_goals first
          | exact ⟨m + 1, .inl hlt, by omega, by go_num, HR.out, hBB⟩
          | ((repeat apply Exists.intro); exact ⟨⟨m + 1, .inl hlt, by omega, by go_num, HR.out, hBB⟩, rfl⟩)
          | (simp [intOf]; omega)
    · have HR := hid (show upW ws = true from upW_yes fun i hi => HU.out i (by omega))
      have hl1 : ¬ (m : Int) < (ws.length : Int) := by omega
      go_wp2
      go_ret
      exact ⟨ret_bool HR.out.symm, hB⟩


end Go.Proofs.YtodkpoppgfomeaaGreatDoor

namespace Go.Proofs.YtodkpoppgfomeaaGreatDoor
open Go.RowKit Go.Shelf

theorem hd_no {s : Is} (h : 20 < s.ws.length ∨ s.nx < 1 ∨ 100000 < s.nx ∨ 200 < s.sg.length) : isB s = false := by
  apply isB_no1
  cases hh : hdB s
  · rfl
  · exfalso
    unfold hdB at hh
    simp at hh
    omega
theorem hd_yes {s : Is} (h1 : ¬ 20 < s.ws.length) (h2 : ¬ s.nx < 1) (h3 : ¬ 100000 < s.nx) (h4 : ¬ 200 < s.sg.length) : hdB s = true := by
  unfold hdB
  simp
  omega
/-- The names of an issuer's works are texts that the walks take. -/
def Is.named (s : Is) : Prop := ∀ k ∈ s.ws, k.name.size ≤ 1048576
theorem wk_no1 {nx : Int} {k : Wk} (h : gnB (split k.name 47) = false) : wkOk nx k = false := by unfold wkOk nmOk; rw [h]; rfl
theorem wk_no2 {nx : Int} {k : Wk} (h : ¬ (0 ≤ k.se ∧ k.se < nx)) : wkOk nx k = false := by unfold wkOk; rw [decide_eq_false h, Bool.and_false]
theorem wk_yes {nx : Int} {k : Wk} (h : gnB (split k.name 47) = true) (h2 : 0 ≤ k.se ∧ k.se < nx) : wkOk nx k = true := by unfold wkOk nmOk; rw [h, decide_eq_true h2]; rfl
theorem cells3 (w : World) (a b c : Value) (t : TypeId) : (w.alloc (.cells #[a, b, c] t)).cell? ⟨w.heap.size, 0, none⟩ = some a ∧ (w.alloc (.cells #[a, b, c] t)).cell? ⟨w.heap.size, 1, none⟩ = some b ∧ (w.alloc (.cells #[a, b, c] t)).cell? ⟨w.heap.size, 2, none⟩ = some c := by
  refine ⟨?_, ?_, ?_⟩ <;> simp

set_option maxHeartbeats 4000000 in
theorem implGoodIssuer_any (v : Value) (s : Is) (w : World) (hs : s.short) (hn : s.named) (h : IsA w v s) :
    Calls Tryz.prog 23 #[v] w fun e w' => e = .returned (.bool (isB s)) ∧ Below w.heap.size w w' := by
  obtain ⟨vw, vr, vs, rfl, h1, h2, h3⟩ := h.parts
  obtain ⟨l1, l2, l3⟩ := hs
  obtain ⟨aw, cw, rfl⟩ := h1.len
  obtain ⟨ar, cr, rfl⟩ := h2.numLen
  obtain ⟨ag, cg, rfl⟩ := h3.strLen
  have hB0 : Below w.heap.size w (w.alloc (.cells #[.slice aw s.ws.length cw, .int .i64 s.nx, .slice ar s.rv.length cr, .slice ag s.sg.length cg] 30)) := (Below.refl _ w).alloc (Nat.le_refl _) _
  have F := Four.new w (.slice aw s.ws.length cw) (.int .i64 s.nx) (.slice ar s.rv.length cr) (.slice ag s.sg.length cg) 30
  by_cases c1 : s.nx < 1
  · have HR := hid (hd_no (s := s) (by omega))
    go_enter Tryz.func23, Tryz.ntmps23
    go_wp2
    go_ret
    exact ⟨ret_bool HR.out.symm, hB0⟩
  by_cases c2 : 100000 < s.nx
  · have HR := hid (hd_no (s := s) (by omega))
    go_enter Tryz.func23, Tryz.ntmps23
    go_wp2
    go_ret
    exact ⟨ret_bool HR.out.symm, hB0⟩
  by_cases c3 : 20 < s.ws.length
  · have HR := hid (hd_no (s := s) (by omega))
    go_enter Tryz.func23, Tryz.ntmps23
    go_wp2
    go_ret
    exact ⟨ret_bool HR.out.symm, hB0⟩
  by_cases c4 : 200 < s.sg.length
  · have HR := hid (hd_no (s := s) (by omega))
    go_enter Tryz.func23, Tryz.ntmps23
    go_wp2
    go_ret
    exact ⟨ret_bool HR.out.symm, hB0⟩
  have HD := hid (hd_yes c3 c1 c2 c4)
  go_enter Tryz.func23, Tryz.ntmps23
  go_wp2_with fail
  generalize w.alloc (.cells #[.slice aw s.ws.length cw, .int .i64 s.nx, .slice ar s.rv.length cr, .slice ag s.sg.length cg] 30) = W0 at *
  refine (risingW_any _ s.ws _ l1 (h1.below hB0)).mono ?_
  rintro e w1 ⟨rfl, hB1⟩
  replace F := F.below hB1
  have hBB1 := below_one hB0 hB1
  clear hB1 hB0
  obtain ⟨a0, a1, a2, a3⟩ := F.c
  cases hu : upW s.ws
  · have HR := hid (isB_no2 hu)
    go_wp2_with fail
    go_ret
    exact ⟨ret_bool HR.out.symm, hBB1⟩
  have HU := hid hu
  clear hu
  go_wp2_with fail
  refine (risingN_any _ s.rv _ l2 (h2.below hBB1)).mono ?_
  rintro e w2 ⟨rfl, hB2⟩
  replace F := F.below hB2
  have hBB2 := below_one hBB1 hB2
  clear hB2 hBB1 a0 a1 a2 a3
  obtain ⟨a0, a1, a2, a3⟩ := F.c
  cases hv : upN s.rv
  · have HR := hid (isB_no4 hv)
    go_wp2_with fail
    go_ret
    exact ⟨ret_bool HR.out.symm, hBB2⟩
  have HV := hid hv
  clear hv
  go_wp2_with fail
  clear a0 a1 a2 a3
  go_loopw [40] (fun i wr => ∃ n : Nat, n ≤ s.ws.length ∧ i = .int .i64 n ∧ (∀ j (hj : j < s.ws.length), j < n → wkOk s.nx s.ws[j] = true) ∧ Below w2.heap.size w2 wr) (fun i _ => s.ws.length - (intOf i).toNat)
  case atStart => exact ⟨0, Nat.zero_le _, rfl, fun _ _ h => absurd h (Nat.not_lt_zero _), Below.refl _ _⟩
  case round =>
    obtain ⟨n, hnl, rfl, hk, hB⟩ := hrel
    have HK := hid hk
    clear hk
    have hBr := below_one hBB2 hB
    have Fr := F.below hB
    by_cases hlt : n < s.ws.length
    · obtain ⟨b, off, rfl, hb, hcap, q0, q1, q2⟩ := (h1.below hBr).at hlt
      have hz := hn s.ws[n] (List.getElem_mem hlt)
      have HN := hid (fun h => okW_no (nx := s.nx) (ws := s.ws) hlt h)
      have HY := hid (show wkOk s.nx s.ws[n] = true → ∀ j (hj : j < s.ws.length), j < n + 1 → wkOk s.nx s.ws[j] = true from fun hh j hj hjn => (by
        by_cases e : j = n
        · subst e
          exact hh
        · exact HK.out j hj (by omega)))
      generalize s.ws[n] = k at *
      have hBa : Below wr.heap.size wr (wr.alloc (.cells #[.string k.name, .bool k.live, .int .i64 k.se] 97)) := (Below.refl _ wr).alloc (Nat.le_refl _) _
      obtain ⟨x0, x1, x2⟩ := cells3 wr (.string k.name) (.bool k.live) (.int .i64 k.se) 97
      have hzw : wr.heap.size < (wr.alloc (.cells #[.string k.name, .bool k.live, .int .i64 k.se] 97)).heap.size := by simp
      have Fa := Fr.below hBa
      have hBA := below_one hB hBa
      go_wp2_with fail
      generalize wr.alloc (.cells #[.string k.name, .bool k.live, .int .i64 k.se] 97) = Wa at *
      refine (implGoodName_any k.name _ hz).mono ?_
      rintro e w3 ⟨rfl, hB3⟩
      have y2 := (hB3.cell (p := ⟨wr.heap.size, 2, none⟩) hzw).trans x2
      have F3 := Fa.below hB3
      have hBB3 := below_one hBA hB3
      clear x0 x1 x2 q0 q1 q2 hB3 Fa hBa
      obtain ⟨a0, a1, a2, a3⟩ := F3.c
      cases hg : gnB (split k.name 47)
      · have HR := hid (isB_no3 (HN.out (wk_no1 hg)))
        go_wp2_with fail
        go_ret
        exact ⟨ret_bool HR.out.symm, below_one hBB2 hBB3⟩
      · by_cases d1 : k.se < 0
        · have HR := hid (isB_no3 (HN.out (wk_no2 (by omega))))
          go_wp2_with fail
          go_ret
          exact ⟨ret_bool HR.out.symm, below_one hBB2 hBB3⟩
        · by_cases d2 : s.nx ≤ k.se
          · have HR := hid (isB_no3 (HN.out (wk_no2 (by omega))))
            go_wp2_with fail
            go_ret
            exact ⟨ret_bool HR.out.symm, below_one hBB2 hBB3⟩
          · have HR := hid (HY.out (wk_yes hg (by omega)))
            go_wp2_with fail
            go_roundw
            case rel => exact ⟨n + 1, by omega, by go_num, HR.out, hBB3⟩
            case measure => simp [intOf]; omega
    · obtain rfl : n = s.ws.length := by omega
      have HW := hid (show okW s.nx s.ws = true from okW_yes fun i hi => HK.out i hi hi)
      obtain ⟨a0, a1, a2, a3⟩ := Fr.c
      go_wp2_with fail
      clear a0 a2 a3
      go_loopw [64] (fun i wq => ∃ n : Nat, n ≤ s.rv.length ∧ i = .int .i64 n ∧ (∀ j (hj : j < s.rv.length), j < n → 1 ≤ s.rv[j] ∧ s.rv[j] < s.nx) ∧ wq = wr) (fun i _ => s.rv.length - (intOf i).toNat)
      case atStart => exact ⟨0, Nat.zero_le _, rfl, fun _ _ h => absurd h (Nat.not_lt_zero _), rfl⟩
      case round =>
        obtain ⟨n, hnl, rfl, hk, rfl⟩ := hrel
        have HQ := hid hk
        clear hk
        by_cases hlt : n < s.rv.length
        · obtain ⟨b, off, rfl, hb, hcap, q0⟩ := (h2.below hBr).num hlt
          have HN := hid (fun h => okN_no (nx := s.nx) (zs := s.rv) hlt h)
          have HY := hid (show (1 ≤ s.rv[n] ∧ s.rv[n] < s.nx) → ∀ j (hj : j < s.rv.length), j < n + 1 → 1 ≤ s.rv[j] ∧ s.rv[j] < s.nx from fun hh j hj hjn => (by
            by_cases e : j = n
            · subst e
              exact hh
            · exact HQ.out j hj (by omega)))
          generalize s.rv[n] = z at *
          by_cases d1 : z < 1
          · have HR := hid (isB_no5 (HN.out (by omega)))
            go_wp2_with fail
            go_ret
            exact ⟨ret_bool HR.out.symm, hBr⟩
          · by_cases d2 : s.nx ≤ z
            · have HR := hid (isB_no5 (HN.out (by omega)))
              go_wp2_with fail
              go_ret
              exact ⟨ret_bool HR.out.symm, hBr⟩
            · have HR := hid (HY.out (by omega))
              go_wp2_with fail
              go_roundw
              case rel => exact ⟨n + 1, by omega, by go_num, HR.out, by trivial⟩
              case measure => simp [intOf]; omega
        · obtain rfl : n = s.rv.length := by omega
          have HR := hid (isB_yes HD.out HU.out HW.out HV.out (okN_yes fun i hi => HQ.out i hi hi))
          go_wp2_with fail
          go_ret
          exact ⟨ret_bool HR.out.symm, hBr⟩

/-- The forms of an issuer's parts. -/
theorem is_forms {w : World} {v : Value} {s : Is} (h : IsA w v s) : ∃ aw cw ar cr ag cg, v = .agg #[.slice aw s.ws.length cw, .int .i64 s.nx, .slice ar s.rv.length cr, .slice ag s.sg.length cg] := by
  obtain ⟨vw, vr, vs, rfl, h1, h2, h3⟩ := h.parts
  obtain ⟨aw, cw, rfl⟩ := h1.len
  obtain ⟨ar, cr, rfl⟩ := h2.numLen
  obtain ⟨ag, cg, rfl⟩ := h3.strLen
  exact ⟨_, _, _, _, _, _, rfl⟩
theorem is_named {s : Is} (h : s.size ≤ 1048576) : s.named := fun k hk => by
  have := wz_mem hk
  unfold Is.size wzAll at h
  omega
theorem is_short {s : Is} (h : s.size ≤ 1048576) : s.short := by
  unfold Is.size wzAll tzAll at h
  exact ⟨by omega, by omega, by omega⟩

end Go.Proofs.YtodkpoppgfomeaaGreatDoor

namespace Go.Proofs.YtodkpoppgfomeaaGreatDoor
open Go.RowKit Go.Shelf

theorem ret_ib {a b : Int} {c d : Bool} (h : a = b) (h' : c = d) : Ending.returned (.tuple #[.int .i64 a, .bool c]) = .returned (.tuple #[.int .i64 b, .bool d]) := by rw [h, h']

set_option maxHeartbeats 2000000 in
set_option maxRecDepth 100000 in
theorem placeW_any (v : Value) (ws : List Wk) (name : ByteArray) (w : World) (hm : ws.length ≤ 1048577) (hr : WkS w v ws) :
    Calls Tryz.prog 62 #[v, .func (.func 63) #[] #[], .string name] w fun e w' => e = .returned (.tuple #[.int .i64 (atW ws name : Nat), .bool (hasW ws name)]) ∧ Below w.heap.size w w' := by
  obtain ⟨a, cap, rfl⟩ := hr.len
  have hle := atW_le ws name
  go_enter Tryz.func62, Tryz.ntmps62
  go_wp2
  go_loopw [13] (fun i wr => ∃ n : Nat, n ≤ atW ws name ∧ i = .int .i64 n ∧ Below w.heap.size w wr) (fun i _ => ws.length - (intOf i).toNat)
  case atStart => exact ⟨0, Nat.zero_le _, rfl, Below.refl _ _⟩
  case round =>
    obtain ⟨n, hn, rfl, hB⟩ := hrel
    by_cases hlt : n < ws.length
    · obtain ⟨b, off, rfl, hb, hcap, q0, q1, q2⟩ := (hr.below hB).at hlt
      have HL := hid (fun h => atW_lt (n := name) hlt h)
      have HA := hid (fun h => atW_at (n := name) hlt h)
      have HW := hid (fun (h : n = atW ws name) => (show hasW ws name = (ws[n].name.toList == name.toList) by subst h; exact hasW_at hlt))
      generalize ws[n] = k at *
      have hBa : Below wr.heap.size wr (wr.alloc (.cells #[.string k.name, .bool k.live, .int .i64 k.se] 97)) := (Below.refl _ wr).alloc (Nat.le_refl _) _
      have hBA := below_one hB hBa
      go_wp2_with fail
      generalize wr.alloc (.cells #[.string k.name, .bool k.live, .int .i64 k.se] 97) = Wa at *
      refine (nameOfWork_any k _).mono ?_
      rintro e w1 ⟨rfl, hB1⟩
      have hBB := below_one hBA hB1
      clear hB1 hBA hBa q0 q1 q2
      by_cases hna : n < atW ws name
      · have hc : Op.bytesLess k.name.toList name.toList = true := HL.out hna
        go_wp2_with fail
        go_roundw
        case rel => exact ⟨n + 1, by omega, by go_num, hBB⟩
        case measure => simp [intOf]; omega
      · have hne : n = atW ws name := by omega
        have hc : Op.bytesLess k.name.toList name.toList = false := HA.out hne
        have HR := hid (HW.out hne)
        have HN := hid hne
        clear hne hna HL HA HW
        go_wp2_with fail
        go_ret2
        exact ⟨ret_ib (by rw [HN.out]) (by rw [HR.out]), hBB⟩
    · have hne : ws.length = atW ws name := by omega
      have HR := hid (hasW_end (ws := ws) (n := name) (by omega))
      have HN := hid hne
      clear hne
      go_wp2_with fail
      go_ret2
      exact ⟨ret_ib (by rw [HN.out]) (by rw [HR.out]), hB⟩

set_option maxHeartbeats 2000000 in
set_option maxRecDepth 100000 in
theorem placeN_any (v : Value) (zs : List Int) (z : Int) (w : World) (hm : zs.length ≤ 1048577) (hr : VS w v (nums zs)) :
    Calls Tryz.prog 77 #[v, .func (.func 66) #[] #[], .int .i64 z] w fun e w' => e = .returned (.tuple #[.int .i64 (atN zs z : Nat), .bool (hasN zs z)]) ∧ w' = w := by
  obtain ⟨a, cap, rfl⟩ := hr.numLen
  have hle := atN_le zs z
  go_enter Tryz.func77, Tryz.ntmps77
  go_wp2
  go_loopw [13] (fun i wr => ∃ n : Nat, n ≤ atN zs z ∧ i = .int .i64 n ∧ wr = w) (fun i _ => zs.length - (intOf i).toNat)
  case atStart => exact ⟨0, Nat.zero_le _, rfl, rfl⟩
  case round =>
    obtain ⟨n, hn, rfl, rfl⟩ := hrel
    by_cases hlt : n < zs.length
    · obtain ⟨b, off, rfl, hb, hcap, q0⟩ := hr.num hlt
      have HL := hid (fun h => atN_lt (n := z) hlt h)
      have HA := hid (fun h => atN_at (n := z) hlt h)
      have HW := hid (fun (h : n = atN zs z) => (show hasN zs z = (zs[n] == z) by subst h; exact hasN_at hlt))
      generalize zs[n] = k at *
      by_cases hna : n < atN zs z
      · have hc : decide (z ≤ k) = false := by have := HL.out hna; simp; omega
        go_wp2_with (go_at_call 66; refine (itself_any k _).mono ?_; rintro e w1 ⟨rfl, rfl⟩)
        go_roundw
        case rel => exact ⟨n + 1, by omega, by go_num, by trivial⟩
        case measure => simp [intOf]; omega
      · have hne : n = atN zs z := by omega
        have hc : decide (z ≤ k) = true := by have := HA.out hne; simp; omega
        have HR := hid (HW.out hne)
        have HN := hid hne
        clear hne hna HL HA HW
        go_wp2_with (go_at_call 66; refine (itself_any k _).mono ?_; rintro e w1 ⟨rfl, rfl⟩)
        go_ret2
        exact ⟨ret_ib (by rw [HN.out]) (by rw [HR.out]), rfl⟩
    · have hne : zs.length = atN zs z := by omega
      have HR := hid (hasN_end (zs := zs) (n := z) (by omega))
      have HN := hid hne
      clear hne
      go_wp2_with fail
      go_ret2
      exact ⟨ret_ib (by rw [HN.out]) (by rw [HR.out]), rfl⟩

set_option maxHeartbeats 2000000 in
set_option maxRecDepth 100000 in
theorem l4At_any (v : Value) (s : Is) (name : ByteArray) (w : World) (hm : s.ws.length ≤ 1048577) (h : IsA w v s) :
    Calls Tryz.prog 83 #[v, .string name] w fun e w' => e = .returned (.tuple #[.int .i64 (atW s.ws name : Nat), .bool (hasW s.ws name)]) ∧ Below w.heap.size w w' := by
  obtain ⟨vw, vr, vs, rfl, h1, h2, h3⟩ := h.parts
  obtain ⟨aw, cw, rfl⟩ := h1.len
  have hle := atW_le s.ws name
  have hB0 : Below w.heap.size w (w.alloc (.cells #[.slice aw s.ws.length cw, .int .i64 s.nx, vr, vs] 30)) := (Below.refl _ w).alloc (Nat.le_refl _) _
  have F := Four.new w (.slice aw s.ws.length cw) (.int .i64 s.nx) vr vs 30
  go_enter Tryz.func83, Tryz.ntmps83
  go_wp2
  generalize w.alloc (.cells #[.slice aw s.ws.length cw, .int .i64 s.nx, vr, vs] 30) = W0 at *
  obtain ⟨a0, a1, a2, a3⟩ := F.c
  go_loopw [6] (fun i wr => ∃ n : Nat, n ≤ atW s.ws name ∧ i = .int .i64 n ∧ wr = W0) (fun i _ => s.ws.length - (intOf i).toNat)
  case atStart => exact ⟨0, Nat.zero_le _, rfl, rfl⟩
  case round =>
    obtain ⟨n, hn, rfl, rfl⟩ := hrel
    by_cases hlt : n < s.ws.length
    · obtain ⟨b, off, rfl, hb, hcap, q0, q1, q2⟩ := (h1.below hB0).at hlt
      have HL := hid (fun h => atW_lt (n := name) hlt h)
      have HA := hid (fun h => atW_at (n := name) hlt h)
      have HW := hid (fun (h : n = atW s.ws name) => (show hasW s.ws name = (s.ws[n].name.toList == name.toList) by subst h; exact hasW_at hlt))
      generalize s.ws[n] = k at *
      have dl : decide ((n : Int) < (s.ws.length : Int)) = true := by simp; omega
      by_cases hna : n < atW s.ws name
      · have hc : Op.bytesLess k.name.toList name.toList = true := HL.out hna
        go_wp2_with fail
        go_roundw
        case rel => exact ⟨n + 1, by omega, by go_num, by trivial⟩
        case measure => simp [intOf]; omega
      · have hne : n = atW s.ws name := by omega
        have hc : Op.bytesLess k.name.toList name.toList = false := HA.out hne
        have HR := hid (HW.out hne)
        have HN := hid hne
        clear hne hna HL HA HW
        go_wp2_with fail
        go_quiet (fail)
        go_wp2_with fail
        go_ret2
        exact ⟨ret_ib (by rw [HN.out]) (by rw [HR.out]), below_drewn hB0 _⟩
    · have hne : n = atW s.ws name := by omega
      have HR := hid (hasW_end (ws := s.ws) (n := name) (by omega))
      have HN := hid hne
      have dl : decide ((n : Int) < (s.ws.length : Int)) = false := by simp; omega
      clear hne
      go_wp2_with fail
      go_quiet (fail)
      go_wp2_with fail
      go_ret2
      exact ⟨ret_ib (by rw [HN.out]) (by rw [HR.out]), below_drewn hB0 _⟩

set_option maxHeartbeats 2000000 in
theorem isLive_any (v : Value) (s : Is) (name : ByteArray) (w : World) (hm : s.ws.length ≤ 1048577) (h : IsA w v s) :
    Calls Tryz.prog 106 #[v, .string name] w fun e w' => e = .returned (.bool (livW s.ws name)) ∧ Below w.heap.size w w' := by
  obtain ⟨vw, vr, vs, rfl, h1, h2, h3⟩ := h.parts
  obtain ⟨aw, cw, rfl⟩ := h1.len
  have hB0 : Below w.heap.size w (w.alloc (.cells #[.slice aw s.ws.length cw, .int .i64 s.nx, vr, vs] 30)) := (Below.refl _ w).alloc (Nat.le_refl _) _
  have F := Four.new w (.slice aw s.ws.length cw) (.int .i64 s.nx) vr vs 30
  go_enter Tryz.func106, Tryz.ntmps106
  go_wp2_with fail
  generalize w.alloc (.cells #[.slice aw s.ws.length cw, .int .i64 s.nx, vr, vs] 30) = W0 at *
  refine (placeW_any _ s.ws name _ hm (h1.below hB0)).mono ?_
  rintro e w1 ⟨rfl, hB1⟩
  replace F := F.below hB1
  have hBB := below_one hB0 hB1
  clear hB0 hB1
  obtain ⟨a0, a1, a2, a3⟩ := F.c
  cases hh : hasW s.ws name
  · have HR := hid (livW_no hh)
    go_wp2_with fail
    go_ret
    exact ⟨ret_bool HR.out.symm, hBB⟩
  · have hlt := hasW_lt hh
    obtain ⟨b, off, rfl, hb, hcap, q0, q1, q2⟩ := (h1.below hBB).at hlt
    have HR := hid (show livW s.ws name = s.ws[atW s.ws name].live by rw [livW_at hlt, hh]; rfl)
    have hl2 : ((atW s.ws name : Nat) : Int) < (s.ws.length : Int) := by omega
    generalize s.ws[atW s.ws name] = k at *
    generalize atW s.ws name = n at *
    go_wp2_with fail
    go_ret
    exact ⟨ret_bool HR.out.symm, hBB⟩

set_option maxHeartbeats 2000000 in
theorem l4Live_any (v : Value) (s : Is) (name : ByteArray) (w : World) (hm : s.ws.length ≤ 1048577) (h : IsA w v s) :
    Calls Tryz.prog 33 #[v, .string name] w fun e w' => e = .returned (.bool (livW s.ws name)) ∧ Below w.heap.size w w' := by
  obtain ⟨vw, vr, vs, rfl, h1, h2, h3⟩ := h.parts
  obtain ⟨aw, cw, rfl⟩ := h1.len
  have hB0 : Below w.heap.size w (w.alloc (.cells #[.slice aw s.ws.length cw, .int .i64 s.nx, vr, vs] 30)) := (Below.refl _ w).alloc (Nat.le_refl _) _
  have F := Four.new w (.slice aw s.ws.length cw) (.int .i64 s.nx) vr vs 30
  go_enter Tryz.func33, Tryz.ntmps33
  go_wp2_with fail
  generalize w.alloc (.cells #[.slice aw s.ws.length cw, .int .i64 s.nx, vr, vs] 30) = W0 at *
  refine (l4At_any _ s name _ hm (h.below hB0)).mono ?_
  rintro e w1 ⟨rfl, hB1⟩
  replace F := F.below hB1
  have hBB := below_one hB0 hB1
  clear hB0 hB1
  obtain ⟨a0, a1, a2, a3⟩ := F.c
  cases hh : hasW s.ws name
  · have HR := hid (livW_no hh)
    go_wp2_with fail
    go_ret
    exact ⟨ret_bool HR.out.symm, hBB⟩
  · have hlt := hasW_lt hh
    obtain ⟨b, off, rfl, hb, hcap, q0, q1, q2⟩ := (h1.below hBB).at hlt
    have HR := hid (show livW s.ws name = s.ws[atW s.ws name].live by rw [livW_at hlt, hh]; rfl)
    have hl2 : ((atW s.ws name : Nat) : Int) < (s.ws.length : Int) := by omega
    generalize s.ws[atW s.ws name] = k at *
    generalize atW s.ws name = n at *
    go_wp2_with fail
    go_ret
    exact ⟨ret_bool HR.out.symm, hBB⟩

end Go.Proofs.YtodkpoppgfomeaaGreatDoor

namespace Go.Proofs.YtodkpoppgfomeaaGreatDoor
open Go.RowKit Go.Shelf

def enE (s : Is) (n : ByteArray) : Er :=
  if (isB s && nmOk n) = false then .bad
  else if livW s.ws n = true then .twice
  else if hasW s.ws n = true then .nil
  else if s.ws.length = 20 then .full
  else .nil
def rkE (s : Is) (n : ByteArray) : Er :=
  if (isB s && nmOk n) = false then .bad
  else if livW s.ws n = true then .nil
  else .noWork
theorem ret_er {x y : Er} {p0 p1 p2 p3 : Addr} (h : y = x) : Ending.returned (x.val p0 p1 p2 p3) = .returned (y.val p0 p1 p2 p3) := by rw [h]

set_option maxHeartbeats 4000000 in
theorem mayRevoke_any (v : Value) (s : Is) (name : ByteArray) (p0 p1 p2 p3 : Addr) (w : World) (hs : s.short) (hn : s.named) (hm : name.size ≤ 1048576) (hE : ErA w p0 p1 p2 p3) (h : IsA w v s) :
    Calls Tryz.prog 74 #[v, .string name] w fun e w' => e = .returned ((rkE s name).val p0 p1 p2 p3) ∧ Below w.heap.size w w' := by
  obtain ⟨aw, cw, ar, cr, ag, cg, rfl⟩ := is_forms h
  have hB0 : Below w.heap.size w (w.alloc (.cells #[.slice aw s.ws.length cw, .int .i64 s.nx, .slice ar s.rv.length cr, .slice ag s.sg.length cg] 30)) := (Below.refl _ w).alloc (Nat.le_refl _) _
  have F := Four.new w (.slice aw s.ws.length cw) (.int .i64 s.nx) (.slice ar s.rv.length cr) (.slice ag s.sg.length cg) 30
  go_enter Tryz.func74, Tryz.ntmps74
  go_wp2_with fail
  generalize w.alloc (.cells #[.slice aw s.ws.length cw, .int .i64 s.nx, .slice ar s.rv.length cr, .slice ag s.sg.length cg] 30) = W0 at *
  refine (implGoodIssuer_any _ s _ hs hn (h.below hB0)).mono ?_
  rintro e w1 ⟨rfl, hB1⟩
  replace F := F.below hB1
  have hBB1 := below_one hB0 hB1
  clear hB0 hB1
  obtain ⟨a0, a1, a2, a3⟩ := F.c
  cases hg : isB s
  · have HR := hid (show rkE s name = .bad by unfold rkE; rw [hg]; rfl)
    have g0 := (hE.below hBB1).g0
    go_wp2_with fail
    go_ret
    exact ⟨ret_er (x := .bad) HR.out, hBB1⟩
  go_wp2_with fail
  refine (implGoodName_any name _ hm).mono ?_
  rintro e w2 ⟨rfl, hB2⟩
  replace F := F.below hB2
  have hBB2 := below_one hBB1 hB2
  clear hB2 hBB1 a0 a1 a2 a3
  obtain ⟨a0, a1, a2, a3⟩ := F.c
  cases hg2 : gnB (split name 47)
  · have HR := hid (show rkE s name = .bad by unfold rkE nmOk; rw [hg, hg2]; rfl)
    have g0 := (hE.below hBB2).g0
    go_wp2_with fail
    go_ret
    exact ⟨ret_er (x := .bad) HR.out, hBB2⟩
  have HX := hid (show rkE s name = if livW s.ws name = true then .nil else .noWork by unfold rkE nmOk; rw [hg, hg2]; rfl)
  clear hg hg2
  go_wp2_with fail
  refine (isLive_any _ s name _ hs.1 (h.below hBB2)).mono ?_
  rintro e w4 ⟨rfl, hB4⟩
  replace F := F.below hB4
  have hBB4 := below_one hBB2 hB4
  have g3 := (hE.below hBB4).g3
  cases hl : livW s.ws name
  · have HR := hid (show rkE s name = .noWork by rw [HX.out, hl]; rfl)
    go_wp2_with fail
    go_ret
    exact ⟨ret_er (x := .noWork) HR.out, hBB4⟩
  · have HR := hid (show rkE s name = .nil by rw [HX.out, hl]; rfl)
    go_wp2_with fail
    go_ret
    exact ⟨ret_er (x := .nil) HR.out, hBB4⟩

end Go.Proofs.YtodkpoppgfomeaaGreatDoor

namespace Go.Proofs.YtodkpoppgfomeaaGreatDoor
open Go.RowKit Go.Shelf

/-- The lesser of two. -/
def mnI (a b : Int) : Int := min a b
theorem mnI_lt {a b : Int} (h : b < a) : mnI a b = b := by unfold mnI; omega
theorem mnI_ge {a b : Int} (h : ¬ b < a) : mnI a b = a := by unfold mnI; omega
/-- The link that comes next. -/
def ext1 (k : Lk) (to : ByteArray) (se nw li : Int) : Lk := ⟨k.to, to, se, nw, mnI (nw + li) k.un⟩
def extB (ks : List Lk) (to : ByteArray) (se nw li : Int) : Bool := match ks[ks.length - 1]? with
  | some k => tkB ks && (tmB nw && (tmB li && tkB (ks ++ [ext1 k to se nw li])))
  | none => false
def extL (ks : List Lk) (to : ByteArray) (se nw li : Int) : List Lk := match ks[ks.length - 1]? with
  | some k => if extB ks to se nw li = true then ks ++ [ext1 k to se nw li] else []
  | none => []
theorem extL_le (ks : List Lk) (to : ByteArray) (se nw li : Int) : (extL ks to se nw li).length ≤ ks.length + 1 := by
  unfold extL
  split
  · split
    · simp
    · exact Nat.zero_le _
  · exact Nat.zero_le _
theorem ext_no {ks : List Lk} {to : ByteArray} {se nw li : Int} (h : extB ks to se nw li = false) : extL ks to se nw li = [] := by
  unfold extL
  split
  · rw [if_neg (by rw [h]; exact Bool.false_ne_true)]
  · rfl
theorem ext_at {ks : List Lk} {m : Nat} (hm : m < ks.length) (hl : m = ks.length - 1) (to : ByteArray) (se nw li : Int) : extB ks to se nw li = (tkB ks && (tmB nw && (tmB li && tkB (ks ++ [ext1 ks[m] to se nw li])))) := by
  unfold extB
  rw [← hl, List.getElem?_eq_getElem hm]
theorem ext_yes {ks : List Lk} {m : Nat} (hm : m < ks.length) (hl : m = ks.length - 1) {to : ByteArray} {se nw li : Int} (h : extB ks to se nw li = true) : extL ks to se nw li = ks ++ [ext1 ks[m] to se nw li] := by
  unfold extL
  rw [← hl, List.getElem?_eq_getElem hm]
  simp only
  rw [if_pos h]
theorem ext_tk {ks : List Lk} {to : ByteArray} {se nw li : Int} (h : tkB ks = false) : extB ks to se nw li = false := by
  unfold extB
  split
  · rw [h]
    rfl
  · rfl
theorem ext_nw {ks : List Lk} {to : ByteArray} {se nw li : Int} (h : tmB nw = false) : extB ks to se nw li = false := by
  unfold extB
  split
  · rw [h, Bool.false_and, Bool.and_false]
  · rfl
theorem ext_li {ks : List Lk} {to : ByteArray} {se nw li : Int} (h : tmB li = false) : extB ks to se nw li = false := by
  unfold extB
  split
  · rw [h, Bool.false_and, Bool.and_false, Bool.and_false]
  · rfl
theorem last_good {ks : List Lk} {k : Lk} (h : tkB (ks ++ [k]) = true) : k.good = true := tkB_good h k (by simp)
theorem ext_to {ks : List Lk} {to : ByteArray} {se nw li : Int} (h : gnB (split to 47) = false) : extB ks to se nw li = false := by
  unfold extB
  split
  · rename_i k _
    cases ht : tkB (ks ++ [ext1 k to se nw li])
    · rw [Bool.and_false, Bool.and_false, Bool.and_false]
    · have := ((Lk.good_iff _).1 (last_good ht)).2.1
      unfold nmOk ext1 at this
      simp only at this
      rw [h] at this
      cases this
  · rfl
theorem ext_se {ks : List Lk} {to : ByteArray} {se nw li : Int} (h : seB se = false) : extB ks to se nw li = false := by
  unfold extB
  split
  · rename_i k _
    cases ht : tkB (ks ++ [ext1 k to se nw li])
    · rw [Bool.and_false, Bool.and_false, Bool.and_false]
    · have := ((Lk.good_iff _).1 (last_good ht)).2.2.1
      unfold seB at h
      simp only [ext1] at this
      exact absurd this (of_decide_eq_false h)
  · rfl
theorem lks_cells {w : World} {b off n c : Nat} {ks : List Lk} (h : LkS w (.slice (some ⟨b, off, none⟩) n c) ks) : ∀ j u, (ks.flatMap Lk.cells)[j]? = some u → w.cell? ((⟨b, off, none⟩ : Addr).add j) = some u := by
  intro j u hu
  have hj : j < (ks.flatMap Lk.cells).length := (List.getElem?_eq_some_iff.1 hu).1
  rw [lflat_len] at hj
  have hi : j / 5 < ks.length := by omega
  obtain ⟨b', off', he, _, _, q0, q1, q2, q3, q4⟩ := h.at hi
  cases he
  have hr : j = j / 5 * 5 + j % 5 := by omega
  have hm : j % 5 < 5 := Nat.mod_lt _ (by decide)
  rw [hr, lflat_at ks (j / 5) (j % 5) hi hm] at hu
  rw [Addr.add_lit]
  have hx : off + j = off + j / 5 * 5 + j % 5 := by omega
  rw [hx]
  obtain h0 | h0 | h0 | h0 | h0 : j % 5 = 0 ∨ j % 5 = 1 ∨ j % 5 = 2 ∨ j % 5 = 3 ∨ j % 5 = 4 := by omega
  all_goals rw [h0] at hu ⊢
  all_goals simp at hu
  all_goals subst hu
  all_goals first | exact q0 | exact q1 | exact q2 | exact q3 | exact q4
theorem cells_one3 {ks : List Lk} : ∀ u ∈ ks.flatMap Lk.cells, u.oneCell' = true := by
  intro u hu
  rw [List.mem_flatMap] at hu
  obtain ⟨r, _, hr⟩ := hu
  simp at hr
  rcases hr with rfl | rfl | rfl | rfl | rfl <;> rfl

set_option maxHeartbeats 1000000 in
theorem onTo_any (a b to : ByteArray) (w : World) :
    Calls Tryz.prog 122 #[.agg #[.string a, .string b], .string to] w fun e w' => e = .returned (.agg #[.string b, .string to]) ∧ Below w.heap.size w w' := by
  go_enter Tryz.func122, Tryz.ntmps122
  go_wp2
  exact bodyPost_ret (v := .agg #[.string b, .string to]) (by simp [results, Tryz.results122, go_sem]) rfl ⟨rfl, ((Below.refl _ w).alloc (Nat.le_refl _) _).alloc (by simp) _⟩

set_option maxHeartbeats 1000000 in
theorem onFrom_any (f u nw li : Int) (w : World) (h1 : tmB nw = true) (h2 : tmB li = true) :
    Calls Tryz.prog 88 #[.agg #[.int .i64 f, .int .i64 u], .int .i64 nw, .int .i64 li] w fun e w' => e = .returned (.agg #[.int .i64 nw, .int .i64 (mnI (nw + li) u)]) ∧ Below w.heap.size w w' := by
  have b1 := of_decide_eq_true h1
  have b2 := of_decide_eq_true h2
  have hw : IntKind.i64.wrap (nw + li) = nw + li := by rw [IntKind.wrap_i64]; omega
  go_enter Tryz.func88, Tryz.ntmps88
  go_wp2
  refine bodyPost_ret (v := .agg #[.int .i64 nw, .int .i64 (mnI (nw + li) u)]) (by simp [results, Tryz.results88, go_sem, mnI, *]) rfl ⟨rfl, ((Below.refl _ w).alloc (Nat.le_refl _) _).alloc (by simp) _⟩

theorem cloneLinks_any (b off n cap : Nat) (ks : List Lk) (w : World) (hn : ks.length ≤ 1048577) (hr : LkS w (.slice (some ⟨b, off, none⟩) n cap) ks) (hnl : n = ks.length) :
    Calls Tryz.prog 123 #[.slice (some ⟨b, off, none⟩) n cap] w fun e w' => ∃ v', e = .returned v' ∧ w'.ownsRow w.heap.size 52 5 v' ks.length (ks.flatMap Lk.cells) ∧ v' ≠ .slice none 0 0 ∧ Below w.heap.size w w' := by
  obtain ⟨i0, hi, hz0, hz1, hz2⟩ := info_parts infoLink
  subst hnl
  exact AnyE.slices_Clone Tryz.cloneLk i0 _ 5 56 hi hz0 hz1 hz2 rfl (by decide) Tryz.sizeOf52 b off ks.length cap (ks.flatMap Lk.cells) w (by rw [lflat_len]) (by unfold maxLen; omega) (by omega)
    (fun j u hu => by have := lks_cells hr j u hu; rw [Addr.add_lit] at this; exact this) cells_one3

end Go.Proofs.YtodkpoppgfomeaaGreatDoor

namespace Go.Proofs.YtodkpoppgfomeaaGreatDoor
open Go.RowKit Go.Shelf

/-- 3 cells that are a block of their own. -/
def Three (w : World) (t : TypeId) (k : Nat) (a b c : Value) : Prop := w.ownsRow k t 3 (.slice (some ⟨k, 0, none⟩) 1 1) 1 [a, b, c]
theorem Three.at (w : World) (a b c : Value) (t : TypeId) {k : Nat} (hk : k = w.heap.size) : Three (w.alloc (.cells #[a, b, c] t)) t k a b c := by
  subst hk
  exact ⟨rfl, .inr ⟨w.heap.size, 1, #[a, b, c], rfl, Nat.le_refl _, by show (w.heap.push _)[w.heap.size]? = _; rw [Array.getElem?_push_size], Nat.le_refl _, by unfold maxLen; omega, rfl, rfl⟩⟩
theorem Three.new (w : World) (a b c : Value) (t : TypeId) : Three (w.alloc (.cells #[a, b, c] t)) t w.heap.size a b c := Three.at w a b c t rfl
theorem Three.below {w' : World} {w : World} {t : TypeId} {k : Nat} {a b c : Value} (h : Three w t k a b c) (hB : Below w.heap.size w w') : Three w' t k a b c := ownsRow_below h hB
theorem Three.c {w : World} {t : TypeId} {k : Nat} {a b c : Value} (h : Three w t k a b c) : w.cell? ⟨k, 0, none⟩ = some a ∧ w.cell? ⟨k, 1, none⟩ = some b ∧ w.cell? ⟨k, 2, none⟩ = some c :=
  ⟨World.ownsRow.cellAt h 0 (by omega), World.ownsRow.cellAt h 1 (by omega), World.ownsRow.cellAt h 2 (by omega)⟩
theorem Three.f {w : World} {t : TypeId} {k : Nat} {a b c : Value} (h : Three w t k a b c) (j : Nat) : w.frozen? ⟨k, j, none⟩ = false := World.ownsRow.frozenAt h j
theorem Three.s0 {w : World} {t : TypeId} {k : Nat} {a b c : Value} (h : Three w t k a b c) (x : Value) : Three (w.setCell ⟨k, 0, none⟩ x) t k x b c := (World.ownsRow.stored h 0 x).1
theorem Three.s1 {w : World} {t : TypeId} {k : Nat} {a b c : Value} (h : Three w t k a b c) (x : Value) : Three (w.setCell ⟨k, 1, none⟩ x) t k a x c := (World.ownsRow.stored h 1 x).1
theorem Three.s2 {w : World} {t : TypeId} {k : Nat} {a b c : Value} (h : Three w t k a b c) (x : Value) : Three (w.setCell ⟨k, 2, none⟩ x) t k a b x := (World.ownsRow.stored h 2 x).1
theorem Three.other {w : World} {t : TypeId} {k : Nat} {a b c : Value} (h : Three w t k a b c) {k' : Nat} (hk : k ≠ k') (j : Nat) (x : Value) : Three (w.setCell ⟨k', j, none⟩ x) t k a b c := ownsRow_setCell_other h (by simpa [Value.ownBlock] using hk) x
theorem Three.lt {w : World} {t : TypeId} {k : Nat} {a b c : Value} (h : Three w t k a b c) : k < w.heap.size := (World.ownsRow.lt h k rfl).2
theorem Mid.three {lo hi : Nat} {w1 : World} {w : World} {t : TypeId} {k : Nat} {a b c : Value} (h : Mid lo hi w w1) (hr : Three w t k a b c) (ho : k < lo ∨ hi ≤ k) : Three w1 t k a b c :=
  h.row hr (fun j hj => by simp [Value.ownBlock] at hj; omega)
theorem row_three {w : World} {base : Nat} {e : TypeId} {size n : Nat} {v : Value} {xs : List Value} (h : w.ownsRow base e size v n xs) {k : Nat} (hk : k < base) (x0 x1 x2 : Value) : (((w.setCell ⟨k, 0, none⟩ x0).setCell ⟨k, 1, none⟩ x1).setCell ⟨k, 2, none⟩ x2).ownsRow base e size v n xs :=
  (ownsRow_setCell_below (ownsRow_setCell_below (ownsRow_setCell_below h (a := ⟨k, 0, none⟩) hk x0) (a := ⟨k, 1, none⟩) hk x1) (a := ⟨k, 2, none⟩) hk x2)
theorem below_three {n k : Nat} {w W : World} (h : Below n w W) (hk : n ≤ k) (x0 x1 x2 : Value) : Below n w (((W.setCell ⟨k, 0, none⟩ x0).setCell ⟨k, 1, none⟩ x1).setCell ⟨k, 2, none⟩ x2) :=
  (((h.setCell (p := ⟨k, 0, none⟩) hk x0).setCell (p := ⟨k, 1, none⟩) hk x1).setCell (p := ⟨k, 2, none⟩) hk x2)

/-- 5 cells that are a block of their own. -/
def Five (w : World) (t : TypeId) (k : Nat) (a b c d e : Value) : Prop := w.ownsRow k t 5 (.slice (some ⟨k, 0, none⟩) 1 1) 1 [a, b, c, d, e]
theorem Five.at (w : World) (a b c d e : Value) (t : TypeId) {k : Nat} (hk : k = w.heap.size) : Five (w.alloc (.cells #[a, b, c, d, e] t)) t k a b c d e := by
  subst hk
  exact ⟨rfl, .inr ⟨w.heap.size, 1, #[a, b, c, d, e], rfl, Nat.le_refl _, by show (w.heap.push _)[w.heap.size]? = _; rw [Array.getElem?_push_size], Nat.le_refl _, by unfold maxLen; omega, rfl, rfl⟩⟩
theorem Five.new (w : World) (a b c d e : Value) (t : TypeId) : Five (w.alloc (.cells #[a, b, c, d, e] t)) t w.heap.size a b c d e := Five.at w a b c d e t rfl
theorem Five.below {w' : World} {w : World} {t : TypeId} {k : Nat} {a b c d e : Value} (h : Five w t k a b c d e) (hB : Below w.heap.size w w') : Five w' t k a b c d e := ownsRow_below h hB
theorem Five.c {w : World} {t : TypeId} {k : Nat} {a b c d e : Value} (h : Five w t k a b c d e) : w.cell? ⟨k, 0, none⟩ = some a ∧ w.cell? ⟨k, 1, none⟩ = some b ∧ w.cell? ⟨k, 2, none⟩ = some c ∧ w.cell? ⟨k, 3, none⟩ = some d ∧ w.cell? ⟨k, 4, none⟩ = some e :=
  ⟨World.ownsRow.cellAt h 0 (by omega), World.ownsRow.cellAt h 1 (by omega), World.ownsRow.cellAt h 2 (by omega), World.ownsRow.cellAt h 3 (by omega), World.ownsRow.cellAt h 4 (by omega)⟩
theorem Five.f {w : World} {t : TypeId} {k : Nat} {a b c d e : Value} (h : Five w t k a b c d e) (j : Nat) : w.frozen? ⟨k, j, none⟩ = false := World.ownsRow.frozenAt h j
theorem Five.s0 {w : World} {t : TypeId} {k : Nat} {a b c d e : Value} (h : Five w t k a b c d e) (x : Value) : Five (w.setCell ⟨k, 0, none⟩ x) t k x b c d e := (World.ownsRow.stored h 0 x).1
theorem Five.s1 {w : World} {t : TypeId} {k : Nat} {a b c d e : Value} (h : Five w t k a b c d e) (x : Value) : Five (w.setCell ⟨k, 1, none⟩ x) t k a x c d e := (World.ownsRow.stored h 1 x).1
theorem Five.s2 {w : World} {t : TypeId} {k : Nat} {a b c d e : Value} (h : Five w t k a b c d e) (x : Value) : Five (w.setCell ⟨k, 2, none⟩ x) t k a b x d e := (World.ownsRow.stored h 2 x).1
theorem Five.s3 {w : World} {t : TypeId} {k : Nat} {a b c d e : Value} (h : Five w t k a b c d e) (x : Value) : Five (w.setCell ⟨k, 3, none⟩ x) t k a b c x e := (World.ownsRow.stored h 3 x).1
theorem Five.s4 {w : World} {t : TypeId} {k : Nat} {a b c d e : Value} (h : Five w t k a b c d e) (x : Value) : Five (w.setCell ⟨k, 4, none⟩ x) t k a b c d x := (World.ownsRow.stored h 4 x).1
theorem Five.other {w : World} {t : TypeId} {k : Nat} {a b c d e : Value} (h : Five w t k a b c d e) {k' : Nat} (hk : k ≠ k') (j : Nat) (x : Value) : Five (w.setCell ⟨k', j, none⟩ x) t k a b c d e := ownsRow_setCell_other h (by simpa [Value.ownBlock] using hk) x
theorem Five.lt {w : World} {t : TypeId} {k : Nat} {a b c d e : Value} (h : Five w t k a b c d e) : k < w.heap.size := (World.ownsRow.lt h k rfl).2
theorem Mid.five {lo hi : Nat} {w1 : World} {w : World} {t : TypeId} {k : Nat} {a b c d e : Value} (h : Mid lo hi w w1) (hr : Five w t k a b c d e) (ho : k < lo ∨ hi ≤ k) : Five w1 t k a b c d e :=
  h.row hr (fun j hj => by simp [Value.ownBlock] at hj; omega)
theorem row_five {w : World} {base : Nat} {e : TypeId} {size n : Nat} {v : Value} {xs : List Value} (h : w.ownsRow base e size v n xs) {k : Nat} (hk : k < base) (x0 x1 x2 x3 x4 : Value) : (((((w.setCell ⟨k, 0, none⟩ x0).setCell ⟨k, 1, none⟩ x1).setCell ⟨k, 2, none⟩ x2).setCell ⟨k, 3, none⟩ x3).setCell ⟨k, 4, none⟩ x4).ownsRow base e size v n xs :=
  (ownsRow_setCell_below (ownsRow_setCell_below (ownsRow_setCell_below (ownsRow_setCell_below (ownsRow_setCell_below h (a := ⟨k, 0, none⟩) hk x0) (a := ⟨k, 1, none⟩) hk x1) (a := ⟨k, 2, none⟩) hk x2) (a := ⟨k, 3, none⟩) hk x3) (a := ⟨k, 4, none⟩) hk x4)
theorem below_five {n k : Nat} {w W : World} (h : Below n w W) (hk : n ≤ k) (x0 x1 x2 x3 x4 : Value) : Below n w (((((W.setCell ⟨k, 0, none⟩ x0).setCell ⟨k, 1, none⟩ x1).setCell ⟨k, 2, none⟩ x2).setCell ⟨k, 3, none⟩ x3).setCell ⟨k, 4, none⟩ x4) :=
  (((((h.setCell (p := ⟨k, 0, none⟩) hk x0).setCell (p := ⟨k, 1, none⟩) hk x1).setCell (p := ⟨k, 2, none⟩) hk x2).setCell (p := ⟨k, 3, none⟩) hk x3).setCell (p := ⟨k, 4, none⟩) hk x4)

end Go.Proofs.YtodkpoppgfomeaaGreatDoor

namespace Go.Proofs.YtodkpoppgfomeaaGreatDoor
open Go.RowKit Go.Shelf

/-- Whether a token may be issued to a work. -/
def maE (s : Is) (name : ByteArray) : Er := if livW s.ws name = true then (if fullB s = true then .full else .nil) else .noWork
def itB (s : Is) (name tq : ByteArray) (nw li : Int) : Bool := isB s && ((nmOk name && nmOk tq) && (tmB nw && tmB li))
def itE (s : Is) (name tq : ByteArray) (nw li : Int) : Er := if itB s name tq nw li = true then maE s name else .bad
def itK (s : Is) (name tq : ByteArray) (nw li : Int) : Lk := ⟨name, tq, s.nx, nw, mnI (nw + li) 100000⟩
def itL (s : Is) (name tq : ByteArray) (nw li : Int) : List Lk := match itE s name tq nw li with
  | .nil => [itK s name tq nw li]
  | _ => []
/-- What is handed out beside what was found. -/
def hdX (x : Er) (s : Is) (ks : List Lk) (who : ByteArray) : Is := match x with
  | .bad => Is.none
  | .nil => sgX s ks who
  | _ => s
theorem maE_no {s : Is} {name : ByteArray} (h : livW s.ws name = false) : maE s name = .noWork := by unfold maE; rw [h]; rfl
theorem maE_full {s : Is} {name : ByteArray} (h : livW s.ws name = true) (h2 : fullB s = true) : maE s name = .full := by unfold maE; rw [if_pos h, if_pos h2]
theorem maE_yes {s : Is} {name : ByteArray} (h : livW s.ws name = true) (h2 : fullB s = false) : maE s name = .nil := by unfold maE; rw [if_pos h, if_neg (by rw [h2]; exact Bool.false_ne_true)]
theorem full1 {s : Is} (h : (s.nx == 100000) = true) : fullB s = true := by unfold fullB; rw [h]; rfl
theorem full2 {s : Is} (h : ((s.sg.length : Int) == 200) = true) : fullB s = true := by
  unfold fullB
  rw [decide_eq_true (p := s.sg.length = 200) (by have := eq_of_beq h; omega)]
  simp
theorem full3 {s : Is} (h : (s.nx == 100000) = false) (h2 : ((s.sg.length : Int) == 200) = false) : fullB s = false := by
  unfold fullB
  rw [h, decide_eq_false (p := s.sg.length = 200) (by have := ne_of_beq_false h2; omega)]
  rfl
theorem maE_nil {s : Is} {name : ByteArray} (h : maE s name = .nil) : livW s.ws name = true ∧ fullB s = false := by
  unfold maE at h
  split at h
  · rename_i h1
    split at h
    · cases h
    · rename_i h2
      exact ⟨h1, by simpa using h2⟩
  · cases h
theorem maE_not (s : Is) (name : ByteArray) : maE s name ≠ .bad ∧ maE s name ≠ .twice := by
  unfold maE
  split
  · split <;> exact ⟨fun h => (by cases h), fun h => (by cases h)⟩
  · exact ⟨fun h => (by cases h), fun h => (by cases h)⟩
theorem itE_nil {s : Is} {name tq : ByteArray} {nw li : Int} (h : itE s name tq nw li = .nil) : itB s name tq nw li = true ∧ livW s.ws name = true ∧ fullB s = false := by
  unfold itE at h
  split at h
  · rename_i h1
    exact ⟨h1, maE_nil h⟩
  · cases h
theorem itE_not (s : Is) (name tq : ByteArray) (nw li : Int) : itE s name tq nw li ≠ .twice := by
  unfold itE
  split
  · exact (maE_not s name).2
  · exact fun h => (by cases h)
theorem itB_parts {s : Is} {name tq : ByteArray} {nw li : Int} (h : itB s name tq nw li = true) : isB s = true ∧ nmOk name = true ∧ nmOk tq = true ∧ tmB nw = true ∧ tmB li = true := by
  unfold itB at h
  simp only [Bool.and_eq_true] at h
  exact ⟨h.1, h.2.1.1, h.2.1.2, h.2.2.1, h.2.2.2⟩
/-- A link that is issued is good. -/
theorem itK_good {s : Is} {name tq : ByteArray} {nw li : Int} (h : itB s name tq nw li = true) : (itK s name tq nw li).good = true := by
  obtain ⟨h1, h2, h3, h4, h5⟩ := itB_parts h
  have a1 := isB_hd h1
  have a4 := of_decide_eq_true h4
  have a5 := of_decide_eq_true h5
  rw [Lk.good_iff]
  have hm : nw ≤ mnI (nw + li) 100000 ∧ mnI (nw + li) 100000 ≤ 100000 := by unfold mnI; omega
  exact ⟨h2, h3, ⟨a1.2.1, a1.2.2.1⟩, a4, ⟨by show 0 ≤ mnI (nw + li) 100000; omega, hm.2⟩, hm.1⟩

/-- 2 cells that are a block of their own. -/
def Two (w : World) (t : TypeId) (k : Nat) (a b : Value) : Prop := w.ownsRow k t 2 (.slice (some ⟨k, 0, none⟩) 1 1) 1 [a, b]
theorem Two.at (w : World) (a b : Value) (t : TypeId) {k : Nat} (hk : k = w.heap.size) : Two (w.alloc (.cells #[a, b] t)) t k a b := by
  subst hk
  exact ⟨rfl, .inr ⟨w.heap.size, 1, #[a, b], rfl, Nat.le_refl _, by show (w.heap.push _)[w.heap.size]? = _; rw [Array.getElem?_push_size], Nat.le_refl _, by unfold maxLen; omega, rfl, rfl⟩⟩
theorem Two.new (w : World) (a b : Value) (t : TypeId) : Two (w.alloc (.cells #[a, b] t)) t w.heap.size a b := Two.at w a b t rfl
theorem Two.below {w' : World} {w : World} {t : TypeId} {k : Nat} {a b : Value} (h : Two w t k a b) (hB : Below w.heap.size w w') : Two w' t k a b := ownsRow_below h hB
theorem Two.c {w : World} {t : TypeId} {k : Nat} {a b : Value} (h : Two w t k a b) : w.cell? ⟨k, 0, none⟩ = some a ∧ w.cell? ⟨k, 1, none⟩ = some b :=
  ⟨World.ownsRow.cellAt h 0 (by omega), World.ownsRow.cellAt h 1 (by omega)⟩
theorem Two.f {w : World} {t : TypeId} {k : Nat} {a b : Value} (h : Two w t k a b) (j : Nat) : w.frozen? ⟨k, j, none⟩ = false := World.ownsRow.frozenAt h j
theorem Two.s0 {w : World} {t : TypeId} {k : Nat} {a b : Value} (h : Two w t k a b) (x : Value) : Two (w.setCell ⟨k, 0, none⟩ x) t k x b := (World.ownsRow.stored h 0 x).1
theorem Two.s1 {w : World} {t : TypeId} {k : Nat} {a b : Value} (h : Two w t k a b) (x : Value) : Two (w.setCell ⟨k, 1, none⟩ x) t k a x := (World.ownsRow.stored h 1 x).1
theorem Two.other {w : World} {t : TypeId} {k : Nat} {a b : Value} (h : Two w t k a b) {k' : Nat} (hk : k ≠ k') (j : Nat) (x : Value) : Two (w.setCell ⟨k', j, none⟩ x) t k a b := ownsRow_setCell_other h (by simpa [Value.ownBlock] using hk) x
theorem Two.lt {w : World} {t : TypeId} {k : Nat} {a b : Value} (h : Two w t k a b) : k < w.heap.size := (World.ownsRow.lt h k rfl).2
theorem Mid.two {lo hi : Nat} {w1 : World} {w : World} {t : TypeId} {k : Nat} {a b : Value} (h : Mid lo hi w w1) (hr : Two w t k a b) (ho : k < lo ∨ hi ≤ k) : Two w1 t k a b :=
  h.row hr (fun j hj => by simp [Value.ownBlock] at hj; omega)

end Go.Proofs.YtodkpoppgfomeaaGreatDoor

namespace Go.Proofs.YtodkpoppgfomeaaGreatDoor
open Go.RowKit Go.Shelf

set_option maxHeartbeats 2000000 in
theorem mayIssue_any (v : Value) (s : Is) (name : ByteArray) (p0 p1 p2 p3 : Addr) (w : World) (hs : s.short) (hE : ErA w p0 p1 p2 p3) (h : IsA w v s) :
    Calls Tryz.prog 87 #[v, .string name] w fun e w' => e = .returned ((maE s name).val p0 p1 p2 p3) ∧ Below w.heap.size w w' := by
  obtain ⟨aw, cw, ar, cr, ag, cg, rfl⟩ := is_forms h
  have l3 := hs.2.2
  have hB0 : Below w.heap.size w (w.alloc (.cells #[.slice aw s.ws.length cw, .int .i64 s.nx, .slice ar s.rv.length cr, .slice ag s.sg.length cg] 30)) := (Below.refl _ w).alloc (Nat.le_refl _) _
  have F := Four.new w (.slice aw s.ws.length cw) (.int .i64 s.nx) (.slice ar s.rv.length cr) (.slice ag s.sg.length cg) 30
  go_enter Tryz.func87, Tryz.ntmps87
  go_wp2_with fail
  generalize w.alloc (.cells #[.slice aw s.ws.length cw, .int .i64 s.nx, .slice ar s.rv.length cr, .slice ag s.sg.length cg] 30) = W0 at *
  refine (isLive_any _ s name _ hs.1 (h.below hB0)).mono ?_
  rintro e w1 ⟨rfl, hB1⟩
  replace F := F.below hB1
  replace hB0 := below_one hB0 hB1
  clear hB1
  have E1 := hE.below hB0
  have g2 := E1.g2
  have g3 := E1.g3
  obtain ⟨a0, a1, a2, a3⟩ := F.c
  cases hl : livW s.ws name
  · have HR := hid (maE_no hl)
    go_wp2_with fail
    go_ret
    exact ⟨ret_er (x := .noWork) HR.out, hB0⟩
  cases e1 : (s.nx == 100000)
  · cases e2 : ((s.sg.length : Int) == 200)
    · have HR := hid (maE_yes hl (full3 e1 e2))
      go_wp2_with fail
      go_ret
      exact ⟨ret_er (x := .nil) HR.out, hB0⟩
    · have HR := hid (maE_full hl (full2 e2))
      go_wp2_with fail
      go_ret
      exact ⟨ret_er (x := .full) HR.out, hB0⟩
  · have HR := hid (maE_full hl (full1 e1))
    go_wp2_with fail
    go_ret
    exact ⟨ret_er (x := .full) HR.out, hB0⟩

theorem itL_no {s : Is} {name tq : ByteArray} {nw li : Int} {x : Er} (h : itE s name tq nw li = x) (hx : x ≠ .nil) : itL s name tq nw li = [] := by
  unfold itL
  rw [h]
  cases x
  · exact absurd rfl hx
  all_goals rfl
theorem itL_yes {s : Is} {name tq : ByteArray} {nw li : Int} (h : itE s name tq nw li = .nil) : itL s name tq nw li = [itK s name tq nw li] := by
  unfold itL
  rw [h]
theorem it_bad {s : Is} {name tq : ByteArray} {nw li : Int} (h : itB s name tq nw li = false) : itE s name tq nw li = .bad := by unfold itE; rw [h]; rfl
theorem row_five5 (W : World) (k : Lk) : (W.alloc (.cells #[.string k.who, .string k.to, .int .i64 k.se, .int .i64 k.fr, .int .i64 k.un] 52)).ownsRow W.heap.size 52 5 (.slice (some ⟨W.heap.size, 0, none⟩) 1 1) 1 k.cells :=
  ⟨rfl, .inr ⟨W.heap.size, 1, #[.string k.who, .string k.to, .int .i64 k.se, .int .i64 k.fr, .int .i64 k.un], rfl, Nat.le_refl _, by show (W.heap.push _)[W.heap.size]? = _; rw [Array.getElem?_push_size], Nat.le_refl _, by unfold maxLen; omega, rfl, rfl⟩⟩

set_option maxHeartbeats 8000000 in
set_option maxRecDepth 100000 in
theorem firstToken_any (v : Value) (s : Is) (name tq : ByteArray) (nw li : Int) (p0 p1 p2 p3 : Addr) (w : World) (hs : s.short) (hn : s.named) (hm : name.size ≤ 1048576) (hm2 : tq.size ≤ 1048576) (hE : ErA w p0 p1 p2 p3) (h : IsA w v s) :
    Calls Tryz.prog 39 #[v, .string name, .string tq, .int .i64 nw, .int .i64 li] w fun e w' => ∃ vl, e = .returned (.tuple #[vl, (itE s name tq nw li).val p0 p1 p2 p3]) ∧ w'.ownsRow w.heap.size 52 5 vl (itL s name tq nw li).length ((itL s name tq nw li).flatMap Lk.cells) ∧ (itE s name tq nw li ≠ .nil → vl = .slice none 0 0) ∧ Below w.heap.size w w' := by
  obtain ⟨aw, cw, ar, cr, ag, cg, rfl⟩ := is_forms h
  have hBB : Below w.heap.size w ((w.alloc (.cells #[.slice aw s.ws.length cw, .int .i64 s.nx, .slice ar s.rv.length cr, .slice ag s.sg.length cg] 30)).alloc (.cells #[.string name, .string tq] 119)) := ((Below.refl _ w).alloc (Nat.le_refl _) _).alloc (by simp) _
  have F1 := (Four.new w (.slice aw s.ws.length cw) (.int .i64 s.nx) (.slice ar s.rv.length cr) (.slice ag s.sg.length cg) 30).below ((Below.refl _ _).alloc (Nat.le_refl _) (.cells #[.string name, .string tq] 119))
  have F2 := Two.at (w.alloc (.cells #[.slice aw s.ws.length cw, .int .i64 s.nx, .slice ar s.rv.length cr, .slice ag s.sg.length cg] 30)) (.string name) (.string tq) 119 (k := w.heap.size + 1) (by simp)
  obtain ⟨a0, a1, a2, a3⟩ := F1.c
  go_enter Tryz.func39, Tryz.ntmps39
  go_wp2_with fail
  generalize (w.alloc (.cells #[.slice aw s.ws.length cw, .int .i64 s.nx, .slice ar s.rv.length cr, .slice ag s.sg.length cg] 30)).alloc (.cells #[.string name, .string tq] 119) = W0 at *
  refine (implGoodIssuer_any _ s _ hs hn (h.below hBB)).mono ?_
  rintro e w1 ⟨rfl, hB1⟩
  replace F1 := F1.below hB1
  replace F2 := F2.below hB1
  replace hBB := below_one hBB hB1
  clear hB1 a0 a1 a2 a3
  obtain ⟨b0, b1⟩ := F2.c
  cases hg : isB s
  case false =>
    have HR := hid (it_bad (s := s) (name := name) (tq := tq) (nw := nw) (li := li) (by unfold itB; rw [hg]; rfl))
    have HL := hid (itL_no HR.out (by intro h; cases h))
    have g0 := (hE.below hBB).g0
    go_wp2_with fail
    go_quiet (fail)
    go_wp2
    go_ret2
    exact ⟨_, by rw [HR.out]; rfl, by rw [HL.out]; exact World.ownsRow_nil _ _ _ _, fun _ => rfl, below_drewn hBB _⟩
  go_wp2_with fail
  refine (named_any name tq _ hm hm2).mono ?_
  rintro e w2 ⟨rfl, hB2⟩
  replace F1 := F1.below hB2
  replace F2 := F2.below hB2
  replace hBB := below_one hBB hB2
  clear hB2 b0 b1
  cases hg2 : (nmOk name && nmOk tq)
  case false =>
    have HR := hid (it_bad (s := s) (name := name) (tq := tq) (nw := nw) (li := li) (by unfold itB; rw [hg2]; simp))
    have HL := hid (itL_no HR.out (by intro h; cases h))
    have g0 := (hE.below hBB).g0
    go_wp2_with fail
    go_quiet (fail)
    go_wp2
    go_ret2
    exact ⟨_, by rw [HR.out]; rfl, by rw [HL.out]; exact World.ownsRow_nil _ _ _ _, fun _ => rfl, below_drewn hBB _⟩
  go_wp2_with fail
  refine (goodTime_any nw _).mono ?_
  rintro e w3 ⟨rfl, rfl⟩
  cases hg3 : tmB nw
  case false =>
    have HR := hid (it_bad (s := s) (name := name) (tq := tq) (nw := nw) (li := li) (by unfold itB; rw [hg3]; simp))
    have HL := hid (itL_no HR.out (by intro h; cases h))
    have g0 := (hE.below hBB).g0
    go_wp2_with fail
    go_quiet (fail)
    go_wp2
    go_ret2
    exact ⟨_, by rw [HR.out]; rfl, by rw [HL.out]; exact World.ownsRow_nil _ _ _ _, fun _ => rfl, below_drewn hBB _⟩
  go_wp2_with fail
  refine (goodTime_any li _).mono ?_
  rintro e w4 ⟨rfl, rfl⟩
  cases hg4 : tmB li
  case false =>
    have HR := hid (it_bad (s := s) (name := name) (tq := tq) (nw := nw) (li := li) (by unfold itB; rw [hg4]; simp))
    have HL := hid (itL_no HR.out (by intro h; cases h))
    have g0 := (hE.below hBB).g0
    go_wp2_with fail
    go_quiet (fail)
    go_wp2
    go_ret2
    exact ⟨_, by rw [HR.out]; rfl, by rw [HL.out]; exact World.ownsRow_nil _ _ _ _, fun _ => rfl, below_drewn hBB _⟩
  have HB := hid (show itB s name tq nw li = true by unfold itB; rw [hg, hg2, hg3, hg4]; rfl)
  have HM := hid (show itE s name tq nw li = maE s name by unfold itE; rw [if_pos HB.out])
  obtain ⟨a0, a1, a2, a3⟩ := F1.c
  go_wp2_with fail
  refine (mayIssue_any _ s name p0 p1 p2 p3 _ hs (hE.below hBB) (h.below hBB)).mono ?_
  rintro e w5 ⟨rfl, hB5⟩
  replace F1 := F1.below hB5
  replace F2 := F2.below hB5
  replace hBB := below_one hBB hB5
  clear hB5 a0 a1 a2 a3
  cases hma : maE s name with
  | bad => exact absurd hma (maE_not s name).1
  | twice => exact absurd hma (maE_not s name).2
  | noWork =>
    have HR := hid (show itE s name tq nw li = .noWork by rw [HM.out, hma])
    have HL := hid (itL_no HR.out (by intro h; cases h))
    go_wp2_with fail
    go_ret2
    exact ⟨_, by rw [HR.out]; rfl, by rw [HL.out]; exact World.ownsRow_nil _ _ _ _, fun _ => rfl, hBB⟩
  | full =>
    have HR := hid (show itE s name tq nw li = .full by rw [HM.out, hma])
    have HL := hid (itL_no HR.out (by intro h; cases h))
    go_wp2_with fail
    go_ret2
    exact ⟨_, by rw [HR.out]; rfl, by rw [HL.out]; exact World.ownsRow_nil _ _ _ _, fun _ => rfl, hBB⟩
  | nil =>
    have HR := hid (show itE s name tq nw li = .nil by rw [HM.out, hma])
    have HL := hid (itL_yes HR.out)
    obtain ⟨mm, HMM⟩ : ∃ m, Hid (m = mnI (nw + li) 100000) := ⟨_, hid rfl⟩
    have hBs : Below w5.heap.size w5 (w5.alloc (.cells #[.int .i64 0, .int .i64 100000] 122)) := (Below.refl _ w5).alloc (Nat.le_refl _) _
    have F3 := Two.new w5 (.int .i64 0) (.int .i64 100000) 122
    replace F1 := F1.below hBs
    replace F2 := F2.below hBs
    replace hBB := below_one hBB hBs
    have hk2 := F2.lt
    clear hBs hma HM
    go_wp2_with fail
    generalize w5.alloc (.cells #[.int .i64 0, .int .i64 100000] 122) = W6 at *
    generalize w5.heap.size = ks at *
    have hBd : Below W6.heap.size W6 W6.drew := (Below.refl _ _).drew
    replace F1 := F1.below hBd
    replace F2 := F2.below hBd
    replace F3 := F3.below hBd
    replace hBB := below_one hBB hBd
    clear hBd
    obtain ⟨a0, a1, a2, a3⟩ := F1.c
    obtain ⟨b0, b1⟩ := F2.c
    obtain ⟨c0, c1⟩ := F3.c
    refine wp_region_held_drew (S := fun w' => w'.cell? ⟨w.heap.size + 1, 0, none⟩ = some (.string name) ∧ w'.cell? ⟨w.heap.size + 1, 1, none⟩ = some (.string tq) ∧ w'.cell? ⟨ks, 0, none⟩ = some (.int .i64 0) ∧ w'.cell? ⟨ks, 1, none⟩ = some (.int .i64 100000) ∧ w'.cell? ⟨w.heap.size, 1, none⟩ = some (.int .i64 s.nx)) (by kernel_rfl) ?_ (fun hHeld => ?_)
    · exact ⟨b0, b1, c0, c1, a1⟩
    generalize W6.drew = Wd at *
    clear a0 a1 a2 a3 b0 b1 c0 c1
    have hBz : Below Wd.heap.size Wd (Wd.alloc (.cells #[.string ⟨#[]⟩, .string ⟨#[]⟩, .int .i64 0, .int .i64 0, .int .i64 0] 125)) := (Below.refl _ Wd).alloc (Nat.le_refl _) _
    have Z1 := F1.below hBz
    have Z2 := F2.below hBz
    have Z3 := F3.below hBz
    refine takeW 0 (v := ?v1) rfl (by kernel_rfl) (by kernel_rfl) (by kernel_rfl) (fun _ _ _ h => h) (by rfl) (by assumption) ?hy1 ?rest1
    case hy1 => intro w' hSw; (try dsimp only at hSw); go_simp; try with_reducible rfl
    try simp only [Act.put, List.setIfInBounds_toArray, List.set_cons_zero, List.set_cons_succ]
    refine takeW 1 (v := ?v2) rfl (by kernel_rfl) (by kernel_rfl) (by kernel_rfl) (fun _ _ _ h => h) (by rfl) (by assumption) ?hy2 ?rest2
    case hy2 => intro w' hSw; (try dsimp only at hSw); go_simp; try with_reducible rfl
    try simp only [Act.put, List.setIfInBounds_toArray, List.set_cons_zero, List.set_cons_succ]
    refine takeW 2 (v := ?v3) rfl (by kernel_rfl) (by kernel_rfl) (by kernel_rfl) (fun _ _ _ h => h) (by rfl) (by assumption) ?hy3 ?rest3
    case hy3 => intro w' hSw; (try dsimp only at hSw); go_simp; try with_reducible rfl
    try simp only [Act.put, List.setIfInBounds_toArray, List.set_cons_zero, List.set_cons_succ]
    refine takeW 3 (v := ?v4) rfl (by kernel_rfl) (by kernel_rfl) (by kernel_rfl) (fun _ _ _ h => h) (by rfl) (by assumption) ?hy4 ?rest4
    case hy4 => intro w' hSw; (try dsimp only at hSw); go_simp; try with_reducible rfl
    try simp only [Act.put, List.setIfInBounds_toArray, List.set_cons_zero, List.set_cons_succ]
    refine takeW 5 (v := ?v5) rfl (by kernel_rfl) (by kernel_rfl) (by kernel_rfl) (fun _ _ _ h => h) (by rfl) (by assumption) ?hy5 ?rest5
    case hy5 => intro w' hSw; (try dsimp only at hSw); go_simp; try with_reducible rfl
    try simp only [Act.put, List.setIfInBounds_toArray, List.set_cons_zero, List.set_cons_succ]
    refine takeW 6 (v := ?v6) rfl (by kernel_rfl) (by kernel_rfl) (by kernel_rfl) (fun _ _ _ h => h) (by rfl) (by assumption) ?hy6 ?rest6
    case hy6 => intro w' hSw; (try dsimp only at hSw); go_simp; try with_reducible rfl
    try simp only [Act.put, List.setIfInBounds_toArray, List.set_cons_zero, List.set_cons_succ]
    refine takeC2 4 8 (by kernel_rfl) rfl rfl (fun K hK => ?_) (fun K hK => ?_)
    · go_simp
      refine (onFrom_any 0 100000 nw li _ hg3 hg4).mono ?_; rintro e w7 ⟨rfl, hB7⟩; have G1 := F1.below hB7; have G2 := F2.below hB7; have G3 := F3.below hB7
      refine hK.out _ _ ?_ (fun hHeld => ?_)
      · exact ⟨G2.c.1, G2.c.2, G3.c.1, G3.c.2, G1.c.2.1⟩
      clear hK K
      try simp only [Act.put, List.setIfInBounds_toArray, List.set_cons_zero, List.set_cons_succ]
      rw [← HMM.out]
      have hBh : Below w7.heap.size w7 (w7.alloc (.cells #[.string name, .string tq, .int .i64 nw, .int .i64 mm, .int .i64 s.nx] 125)) := (Below.refl _ w7).alloc (Nat.le_refl _) _
      have H1 := G1.below hBh
      have H2 := G2.below hBh
      have H3 := G3.below hBh
      have hBy : Below w7.heap.size w7 (w7.alloc (.cells #[.string ⟨#[]⟩, .string ⟨#[]⟩, .int .i64 0, .int .i64 0, .int .i64 0] 125)) := (Below.refl _ w7).alloc (Nat.le_refl _) _
      have Y1 := G1.below hBy
      have Y2 := G2.below hBy
      have Y3 := G3.below hBy
      clear hBy
      refine takeW 7 (v := ?v7) rfl (by kernel_rfl) (by kernel_rfl) (by kernel_rfl) (fun _ _ _ h => h) (by rfl) (by assumption) ?hy7 ?rest7
      case hy7 => intro w' hSw; (try dsimp only at hSw); go_simp; try with_reducible rfl
      try simp only [Act.put, List.setIfInBounds_toArray, List.set_cons_zero, List.set_cons_succ]
      refine takeC 8 (by kernel_rfl) rfl (fun K hK => ?_)
      go_simp
      skip
      refine hK.out _ _ ?_ (fun hHeld => ?_)
      · exact ⟨Y2.c.1, Y2.c.2, Y3.c.1, Y3.c.2, Y1.c.2.1⟩
      clear hK K
      try simp only [Act.put, List.setIfInBounds_toArray, List.set_cons_zero, List.set_cons_succ]
      refine takeC 9 (by kernel_rfl) rfl (fun K hK => ?_)
      go_simp
      skip
      refine hK.out _ _ ?_ (fun hHeld => ?_)
      · exact ⟨H2.c.1, H2.c.2, H3.c.1, H3.c.2, H1.c.2.1⟩
      clear hK K
      try simp only [Act.put, List.setIfInBounds_toArray, List.set_cons_zero, List.set_cons_succ]
      refine wpAnyH_done (by kernel_rfl) ?_ _
      have F4 := Five.new w7 (.string name) (.string tq) (.int .i64 nw) (.int .i64 mm) (.int .i64 s.nx) 125
      replace hBB := below_one (below_one hBB hB7) hBh
      clear hHeld H1 H2 H3 G1 G2 G3 Y1 Y2 Y3 hBh hB7 F1 F2 F3 hBz Z1 Z2 Z3
      generalize w7.alloc (.cells #[.string name, .string tq, .int .i64 nw, .int .i64 mm, .int .i64 s.nx] 125) = W8 at *
      generalize w7.heap.size = kh at *
      rw [HMM.out] at F4
      obtain ⟨e0, e1, e2, e3, e4⟩ := F4.c
      go_wp2_with fail
      refine (link_any (itK s name tq nw li) _).mono ?_
      rintro e w8 ⟨rfl, hB8⟩
      clear e0 e1 e2 e3 e4
      have hb8 := below_one hBB hB8
      have hbz := hb8.size
      go_wp2_with fail
      go_ret2
      exact ⟨_, by rw [HR.out]; rfl, by rw [HL.out]; exact Go.Joins.ownsRow_le (by simpa using row_five5 w8 (itK s name tq nw li)) hbz, fun h => absurd HR.out h, hb8.alloc hbz _⟩
    · go_simp
      skip
      refine hK.out _ _ ?_ (fun hHeld => ?_)
      · exact ⟨Z2.c.1, Z2.c.2, Z3.c.1, Z3.c.2, Z1.c.2.1⟩
      clear hK K
      try simp only [Act.put, List.setIfInBounds_toArray, List.set_cons_zero, List.set_cons_succ]
      have F4 := Five.new Wd (.string ⟨#[]⟩) (.string ⟨#[]⟩) (.int .i64 0) (.int .i64 0) (.int .i64 0) 125
      replace hBB := below_one hBB hBz
      have hkd : w.heap.size + 1 < Wd.heap.size := F2.lt
      have hkd3 := F3.lt
      clear F1 F2 F3 hBz
      generalize Wd.alloc (.cells #[.string ⟨#[]⟩, .string ⟨#[]⟩, .int .i64 0, .int .i64 0, .int .i64 0] 125) = We at *
      generalize Wd.heap.size = kh at *
      have F1 := Z1
      have F2 := Z2
      have F3 := Z3
      clear Z1 Z2 Z3
      refine takeC 4 (by kernel_rfl) rfl (fun K hK => ?_)
      go_simp
      refine (onFrom_any 0 100000 nw li _ hg3 hg4).mono ?_; rintro e w7 ⟨rfl, hB7⟩; have G1 := F1.below hB7; have G2 := F2.below hB7; have G3 := F3.below hB7
      refine hK.out _ _ ?_ (fun hHeld => ?_)
      · exact ⟨G2.c.1, G2.c.2, G3.c.1, G3.c.2, G1.c.2.1⟩
      clear hK K
      try simp only [Act.put, List.setIfInBounds_toArray, List.set_cons_zero, List.set_cons_succ]
      rw [← HMM.out]
      replace F4 := F4.below hB7
      obtain ⟨e0, e1, e2, e3, e4⟩ := F4.c
      have f0 := F4.f 0
      have f1 := F4.f 1
      have f2 := F4.f 2
      have f3 := F4.f 3
      have f4 := F4.f 4
      have n1 : w.heap.size ≠ kh := by omega
      have n2 : w.heap.size + 1 ≠ kh := by omega
      have n3 : ks ≠ kh := by omega
      have H1 := ((((G1.other n1 0 (.string name)).other n1 1 (.string tq)).other n1 2 (.int .i64 nw)).other n1 3 (.int .i64 mm)).other n1 4 (.int .i64 s.nx)
      have H2 := ((((G2.other n2 0 (.string name)).other n2 1 (.string tq)).other n2 2 (.int .i64 nw)).other n2 3 (.int .i64 mm)).other n2 4 (.int .i64 s.nx)
      have H3 := ((((G3.other n3 0 (.string name)).other n3 1 (.string tq)).other n3 2 (.int .i64 nw)).other n3 3 (.int .i64 mm)).other n3 4 (.int .i64 s.nx)
      refine takeW 7 (v := ?v8) rfl (by kernel_rfl) (by kernel_rfl) (by kernel_rfl) (fun _ _ _ h => h) (by rfl) (by assumption) ?hy8 ?rest8
      case hy8 => intro w' hSw; (try dsimp only at hSw); go_simp; try with_reducible rfl
      try simp only [Act.put, List.setIfInBounds_toArray, List.set_cons_zero, List.set_cons_succ]
      refine takeC 9 (by kernel_rfl) rfl (fun K hK => ?_)
      go_simp
      skip
      refine hK.out _ _ ?_ (fun hHeld => ?_)
      · exact ⟨H2.c.1, H2.c.2, H3.c.1, H3.c.2, H1.c.2.1⟩
      clear hK K
      try simp only [Act.put, List.setIfInBounds_toArray, List.set_cons_zero, List.set_cons_succ]
      refine wpAnyH_done (by kernel_rfl) ?_ _
      replace F4 := ((((F4.s0 (.string name)).s1 (.string tq)).s2 (.int .i64 nw)).s3 (.int .i64 mm)).s4 (.int .i64 s.nx)
      replace hBB := below_five (below_one hBB hB7) (k := kh) (by omega) (.string name) (.string tq) (.int .i64 nw) (.int .i64 mm) (.int .i64 s.nx)
      clear hHeld H1 H2 H3 G1 G2 G3 hB7 F1 F2 F3 e0 e1 e2 e3 e4 f0 f1 f2 f3 f4
      generalize ((((w7.setCell ⟨kh, 0, none⟩ (.string name)).setCell ⟨kh, 1, none⟩ (.string tq)).setCell ⟨kh, 2, none⟩ (.int .i64 nw)).setCell ⟨kh, 3, none⟩ (.int .i64 mm)).setCell ⟨kh, 4, none⟩ (.int .i64 s.nx) = W8 at *
      rw [HMM.out] at F4
      obtain ⟨e0, e1, e2, e3, e4⟩ := F4.c
      go_wp2_with fail
      refine (link_any (itK s name tq nw li) _).mono ?_
      rintro e w8 ⟨rfl, hB8⟩
      clear e0 e1 e2 e3 e4
      have hb8 := below_one hBB hB8
      have hbz := hb8.size
      go_wp2_with fail
      go_ret2
      exact ⟨_, by rw [HR.out]; rfl, by rw [HL.out]; exact Go.Joins.ownsRow_le (by simpa using row_five5 w8 (itK s name tq nw li)) hbz, fun h => absurd HR.out h, hb8.alloc hbz _⟩

end Go.Proofs.YtodkpoppgfomeaaGreatDoor

namespace Go.Proofs.YtodkpoppgfomeaaGreatDoor
open Go.RowKit Go.Shelf

theorem row_len {w : World} {base : Nat} {e : TypeId} {size n m c : Nat} {a : Option Addr} {xs : List Value} (h : w.ownsRow base e size (.slice a m c) n xs) : m = n := by
  rcases h.2 with ⟨hv, h0⟩ | ⟨g, cap, cur, hv, _⟩
  · injection hv with _ h2 _
    omega
  · injection hv
theorem one_w {ws : List Wk} : ∀ u ∈ ws.flatMap Wk.cells, u.oneCell' = true := by
  intro u hu
  rw [List.mem_flatMap] at hu
  obtain ⟨r, _, hr⟩ := hu
  simp at hr
  rcases hr with rfl | rfl | rfl <;> rfl
theorem one_n {zs : List Int} : ∀ u ∈ nums zs, u.oneCell' = true := by
  intro u hu
  obtain ⟨z, _, rfl⟩ := List.mem_map.1 hu
  rfl
theorem one_s {ss : List ByteArray} : ∀ u ∈ strs ss, u.oneCell' = true := by
  intro u hu
  obtain ⟨z, _, rfl⟩ := List.mem_map.1 hu
  rfl

set_option maxHeartbeats 4000000 in
set_option maxRecDepth 100000 in
theorem beside_nil (v : Value) (s : Is) (base top : Nat) (w : World) (hs : s.short) (h : IsO w base top v s) :
    Calls Tryz.prog 75 #[v, .nilIface] w fun e w' => ∃ v', e = .returned v' ∧ IsO w' w.heap.size w'.heap.size v' s ∧ Below w.heap.size w w' := by
  obtain ⟨vw, vr, vs, rfl, h1, h2, h3, t1, t2, t3⟩ := h
  obtain ⟨l1, l2, l3⟩ := hs
  obtain ⟨aw, nw, cw, rfl⟩ := row_slice h1
  obtain ⟨ar, nr, cr, rfl⟩ := row_slice h2
  obtain ⟨ag, ng, cg, rfl⟩ := row_slice h3
  obtain rfl : nw = s.ws.length := row_len h1
  obtain rfl : nr = s.rv.length := row_len h2
  obtain rfl : ng = s.sg.length := row_len h3
  have one3 : ∀ u ∈ s.ws.flatMap Wk.cells, u.oneCell' = true := one_w
  have oneN : ∀ u ∈ nums s.rv, u.oneCell' = true := one_n
  have oneS : ∀ u ∈ strs s.sg, u.oneCell' = true := one_s
  have hB0 : Below w.heap.size w (((w.alloc (.cells #[.slice aw s.ws.length cw, .int .i64 s.nx, .slice ar s.rv.length cr, .slice ag s.sg.length cg] 30)).alloc (.cells #[.slice none 0 0, .int .i64 0, .slice none 0 0, .slice none 0 0] 30)).alloc (.cells #[.nilIface] 131)) := (((Below.refl _ w).alloc (Nat.le_refl _) _).alloc (by simp) _).alloc (by simp; omega) _
  have F1 := ((Four.new w (.slice aw s.ws.length cw) (.int .i64 s.nx) (.slice ar s.rv.length cr) (.slice ag s.sg.length cg) 30).below ((Below.refl _ _).alloc (Nat.le_refl _) (.cells #[.slice none 0 0, .int .i64 0, .slice none 0 0, .slice none 0 0] 30))).below ((Below.refl _ _).alloc (Nat.le_refl _) (.cells #[.nilIface] 131))
  have F2 := (Four.at (w.alloc (.cells #[.slice aw s.ws.length cw, .int .i64 s.nx, .slice ar s.rv.length cr, .slice ag s.sg.length cg] 30)) (.slice none 0 0) (.int .i64 0) (.slice none 0 0) (.slice none 0 0) 30 (k := w.heap.size + 1) (by simp)).below ((Below.refl _ _).alloc (Nat.le_refl _) (.cells #[.nilIface] 131))
  go_enter Tryz.func75, Tryz.ntmps75
  go_wp2_with fail
  have hBB1 := hB0
  have h1' := ownsRow_below h1 hB0
  have h2' := ownsRow_below h2 hB0
  have h3' := ownsRow_below h3 hB0
  clear hB0
  generalize ((w.alloc (.cells #[.slice aw s.ws.length cw, .int .i64 s.nx, .slice ar s.rv.length cr, .slice ag s.sg.length cg] 30)).alloc (.cells #[.slice none 0 0, .int .i64 0, .slice none 0 0, .slice none 0 0] 30)).alloc (.cells #[.nilIface] 131) = W1 at *
  obtain ⟨a0, a1, a2, a3⟩ := F1.c
  refine wp_region_held_drew (S := fun w' => w'.cell? ⟨w.heap.size, 0, none⟩ = some (.slice aw s.ws.length cw) ∧ w'.cell? ⟨w.heap.size, 1, none⟩ = some (.int .i64 s.nx) ∧ w'.cell? ⟨w.heap.size, 2, none⟩ = some (.slice ar s.rv.length cr) ∧ w'.cell? ⟨w.heap.size, 3, none⟩ = some (.slice ag s.sg.length cg)) (by kernel_rfl) ?_ (fun hHeld => ?_)
  · go_keep
  refine takeW 0 (v := ?v1) rfl (by kernel_rfl) (by kernel_rfl) (by kernel_rfl) (fun _ _ _ h => h) (by rfl) (by assumption) ?hy1 ?rest1
  case hy1 => intro w' hSw; (try dsimp only at hSw); go_simp; try with_reducible rfl
  try simp only [Act.put, List.setIfInBounds_toArray, List.set_cons_zero, List.set_cons_succ]
  refine takeW 1 (v := ?v2) rfl (by kernel_rfl) (by kernel_rfl) (by kernel_rfl) (fun _ _ _ h => h) (by rfl) (by assumption) ?hy2 ?rest2
  case hy2 => intro w' hSw; (try dsimp only at hSw); go_simp; try with_reducible rfl
  try simp only [Act.put, List.setIfInBounds_toArray, List.set_cons_zero, List.set_cons_succ]
  refine takeW 3 (v := ?v3) rfl (by kernel_rfl) (by kernel_rfl) (by kernel_rfl) (fun _ _ _ h => h) (by rfl) (by assumption) ?hy3 ?rest3
  case hy3 => intro w' hSw; (try dsimp only at hSw); go_simp; try with_reducible rfl
  try simp only [Act.put, List.setIfInBounds_toArray, List.set_cons_zero, List.set_cons_succ]
  refine takeW 4 (v := ?v4) rfl (by kernel_rfl) (by kernel_rfl) (by kernel_rfl) (fun _ _ _ h => h) (by rfl) (by assumption) ?hy4 ?rest4
  case hy4 => intro w' hSw; (try dsimp only at hSw); go_simp; try with_reducible rfl
  try simp only [Act.put, List.setIfInBounds_toArray, List.set_cons_zero, List.set_cons_succ]
  refine takeW 5 (v := ?v5) rfl (by kernel_rfl) (by kernel_rfl) (by kernel_rfl) (fun _ _ _ h => h) (by rfl) (by assumption) ?hy5 ?rest5
  case hy5 => intro w' hSw; (try dsimp only at hSw); go_simp; try with_reducible rfl
  try simp only [Act.put, List.setIfInBounds_toArray, List.set_cons_zero, List.set_cons_succ]
  refine takeW 6 (v := ?v6) rfl (by kernel_rfl) (by kernel_rfl) (by kernel_rfl) (fun _ _ _ h => h) (by rfl) (by assumption) ?hy6 ?rest6
  case hy6 => intro w' hSw; (try dsimp only at hSw); go_simp; try with_reducible rfl
  try simp only [Act.put, List.setIfInBounds_toArray, List.set_cons_zero, List.set_cons_succ]
  refine takeW 8 (v := ?v7) rfl (by kernel_rfl) (by kernel_rfl) (by kernel_rfl) (fun _ _ _ h => h) (by rfl) (by assumption) ?hy7 ?rest7
  case hy7 => intro w' hSw; (try dsimp only at hSw); go_simp; try with_reducible rfl
  try simp only [Act.put, List.setIfInBounds_toArray, List.set_cons_zero, List.set_cons_succ]
  refine takeW 9 (v := ?v8) rfl (by kernel_rfl) (by kernel_rfl) (by kernel_rfl) (fun _ _ _ h => h) (by rfl) (by assumption) ?hy8 ?rest8
  case hy8 => intro w' hSw; (try dsimp only at hSw); go_simp; try with_reducible rfl
  try simp only [Act.put, List.setIfInBounds_toArray, List.set_cons_zero, List.set_cons_succ]
  refine takeC 2 (by kernel_rfl) rfl (fun K hK => ?_)
  go_simp
  refine (cloneW_any _ base _ _ _ l1 one3 (by exact h1')).mono ?_; rintro e w2 ⟨v2, rfl, o2, hB2⟩; obtain ⟨x2, y2, z2, rfl⟩ := row_slice o2; have hc2 := fun o => hB2.cell (p := ⟨w.heap.size, o, none⟩) (by exact F1.lt); have G1 : Four w2 _ _ _ _ _ _ := F1.below (below_drew1 hB2); have G2 : Four w2 _ _ _ _ _ _ := F2.below (below_drew1 hB2); have hBB2 := below_one hBB1 (below_drew1 hB2); have h2'' := ownsRow_below h2' (below_drew1 hB2); have h3'' := ownsRow_below h3' (below_drew1 hB2)
  refine hK.out _ _ ?_ (fun hHeld => ?_)
  · go_keep
  clear hK K
  try simp only [Act.put, List.setIfInBounds_toArray, List.set_cons_zero, List.set_cons_succ]
  refine takeC 7 (by kernel_rfl) rfl (fun K hK => ?_)
  go_simp
  refine (cloneN_any _ base _ _ _ l2 oneN (by exact h2'')).mono ?_; rintro e w3 ⟨v3, rfl, o3, hB3⟩; obtain ⟨x3, y3, z3, rfl⟩ := row_slice o3; have hc3 := fun o => hB3.cell (p := ⟨w.heap.size, o, none⟩) (by exact G1.lt); have I1 := G1.below hB3; have I2 := G2.below hB3; have hBB3 := below_one hBB2 hB3; have h3''' := ownsRow_below h3'' hB3; have o2' := ownsRow_below o2 hB3
  refine hK.out _ _ ?_ (fun hHeld => ?_)
  · go_keep
  clear hK K
  try simp only [Act.put, List.setIfInBounds_toArray, List.set_cons_zero, List.set_cons_succ]
  refine takeC 10 (by kernel_rfl) rfl (fun K hK => ?_)
  go_simp
  refine (cloneS_any _ base _ _ _ l3 oneS (by exact h3''')).mono ?_; rintro e w4 ⟨v4, rfl, o4, hB4⟩; obtain ⟨x4, y4, z4, rfl⟩ := row_slice o4; have hc4 := fun o => hB4.cell (p := ⟨w.heap.size, o, none⟩) (by exact I1.lt); have J2 := I2.below hB4; have hBB4 := below_one hBB3 hB4; have o2'' := ownsRow_below o2' hB4; have o3' := ownsRow_below o3 hB4; obtain ⟨r0, r1, r2, r3⟩ := J2.c; have f0 := J2.f 0; have f1 := J2.f 1; have f2 := J2.f 2; have f3 := J2.f 3
  refine hK.out _ _ ?_ (fun hHeld => ?_)
  · go_keep
  clear hK K
  try simp only [Act.put, List.setIfInBounds_toArray, List.set_cons_zero, List.set_cons_succ]
  refine takeW 11 (v := ?v9) rfl (by kernel_rfl) (by kernel_rfl) (by kernel_rfl) (fun _ _ _ h => h) (by rfl) (by assumption) ?hy9 ?rest9
  case hy9 => intro w' hSw; (try dsimp only at hSw); go_simp; try with_reducible rfl
  try simp only [Act.put, List.setIfInBounds_toArray, List.set_cons_zero, List.set_cons_succ]
  refine takeC 12 (by kernel_rfl) rfl (fun K hK => ?_)
  go_simp
  skip
  refine hK.out _ _ ?_ (fun hHeld => ?_)
  · go_keep
  clear hK K
  try simp only [Act.put, List.setIfInBounds_toArray, List.set_cons_zero, List.set_cons_succ]
  refine wpAnyH_done (by kernel_rfl) ?_ _
  have G := (((J2.s0 (.slice x2 y2 z2)).s1 (.int .i64 s.nx)).s2 (.slice x3 y3 z3)).s3 (.slice x4 y4 z4)
  have p1 := row_four o2'' (k := w.heap.size + 1) (by exact F2.lt) (.slice x2 y2 z2) (.int .i64 s.nx) (.slice x3 y3 z3) (.slice x4 y4 z4)
  have p2 := row_four o3' (k := w.heap.size + 1) G2.lt (.slice x2 y2 z2) (.int .i64 s.nx) (.slice x3 y3 z3) (.slice x4 y4 z4)
  have p3 := row_four o4 (k := w.heap.size + 1) I2.lt (.slice x2 y2 z2) (.int .i64 s.nx) (.slice x3 y3 z3) (.slice x4 y4 z4)
  have pB := below_four hBB4 (k := w.heap.size + 1) (by omega) (.slice x2 y2 z2) (.int .i64 s.nx) (.slice x3 y3 z3) (.slice x4 y4 z4)
  go_wp2_with fail
  have s1 := hBB1.size
  have s2 := hBB2.size
  have s3 := hBB3.size
  clear r0 r1 r2 r3 f0 f1 f2 f3 hHeld hc2 hc3 hc4
  generalize (((w4.setCell ⟨w.heap.size + 1, 0, none⟩ (.slice x2 y2 z2)).setCell ⟨w.heap.size + 1, 1, none⟩ (.int .i64 s.nx)).setCell ⟨w.heap.size + 1, 2, none⟩ (.slice x3 y3 z3)).setCell ⟨w.heap.size + 1, 3, none⟩ (.slice x4 y4 z4) = W5 at *
  obtain ⟨d0, d1, d2, d3⟩ := G.c
  exact bodyPost_ret (v := .agg #[(.slice x2 y2 z2), .int .i64 s.nx, (.slice x3 y3 z3), (.slice x4 y4 z4)]) (by simp [results, Tryz.results75, go_sem, d0, d1, d2, d3]) rfl ⟨_, rfl, IsO.of (Go.Joins.ownsRow_le p1 s1) (Go.Joins.ownsRow_le p2 s2) (Go.Joins.ownsRow_le p3 s3), pB⟩

set_option maxHeartbeats 4000000 in
set_option maxRecDepth 100000 in
theorem beside_ref (v : Value) (s : Is) (p p0 p1 p2 p3 : Addr) (base top : Nat) (w : World) (hs : s.short) (hE : ErA w p0 p1 p2 p3) (h : IsO w base top v s) :
    Calls Tryz.prog 75 #[v, rV p] w fun e w' => ∃ v', e = .returned v' ∧ IsO w' w.heap.size w'.heap.size v' s ∧ Below w.heap.size w w' := by
  obtain ⟨vw, vr, vs, rfl, h1, h2, h3, t1, t2, t3⟩ := h
  obtain ⟨l1, l2, l3⟩ := hs
  obtain ⟨aw, nw, cw, rfl⟩ := row_slice h1
  obtain ⟨ar, nr, cr, rfl⟩ := row_slice h2
  obtain ⟨ag, ng, cg, rfl⟩ := row_slice h3
  obtain rfl : nw = s.ws.length := row_len h1
  obtain rfl : nr = s.rv.length := row_len h2
  obtain rfl : ng = s.sg.length := row_len h3
  have one3 : ∀ u ∈ s.ws.flatMap Wk.cells, u.oneCell' = true := one_w
  have oneN : ∀ u ∈ nums s.rv, u.oneCell' = true := one_n
  have oneS : ∀ u ∈ strs s.sg, u.oneCell' = true := one_s
  have hB0 : Below w.heap.size w (((w.alloc (.cells #[.slice aw s.ws.length cw, .int .i64 s.nx, .slice ar s.rv.length cr, .slice ag s.sg.length cg] 30)).alloc (.cells #[.slice none 0 0, .int .i64 0, .slice none 0 0, .slice none 0 0] 30)).alloc (.cells #[.nilIface] 131)) := (((Below.refl _ w).alloc (Nat.le_refl _) _).alloc (by simp) _).alloc (by simp; omega) _
  have F1 := ((Four.new w (.slice aw s.ws.length cw) (.int .i64 s.nx) (.slice ar s.rv.length cr) (.slice ag s.sg.length cg) 30).below ((Below.refl _ _).alloc (Nat.le_refl _) (.cells #[.slice none 0 0, .int .i64 0, .slice none 0 0, .slice none 0 0] 30))).below ((Below.refl _ _).alloc (Nat.le_refl _) (.cells #[.nilIface] 131))
  have F2 := (Four.at (w.alloc (.cells #[.slice aw s.ws.length cw, .int .i64 s.nx, .slice ar s.rv.length cr, .slice ag s.sg.length cg] 30)) (.slice none 0 0) (.int .i64 0) (.slice none 0 0) (.slice none 0 0) 30 (k := w.heap.size + 1) (by simp)).below ((Below.refl _ _).alloc (Nat.le_refl _) (.cells #[.nilIface] 131))
  have E0 := hE.below hB0
  have ht0 : (((w.alloc (.cells #[.slice aw s.ws.length cw, .int .i64 s.nx, .slice ar s.rv.length cr, .slice ag s.sg.length cg] 30)).alloc (.cells #[.slice none 0 0, .int .i64 0, .slice none 0 0, .slice none 0 0] 30)).alloc (.cells #[.nilIface] 131)).cell? ⟨w.heap.size + 1 + 1, 0, none⟩ = some .nilIface := by rw [World.cell?_alloc_at _ _ _ _ (by simp)]; rfl
  have hf0 : (((w.alloc (.cells #[.slice aw s.ws.length cw, .int .i64 s.nx, .slice ar s.rv.length cr, .slice ag s.sg.length cg] 30)).alloc (.cells #[.slice none 0 0, .int .i64 0, .slice none 0 0, .slice none 0 0] 30)).alloc (.cells #[.nilIface] 131)).frozen? ⟨w.heap.size + 1 + 1, 0, none⟩ = false := World.frozen?_alloc_at _ _ _ _ (by simp)
  go_enter Tryz.func75, Tryz.ntmps75
  go_wp2_with fail
  generalize ((w.alloc (.cells #[.slice aw s.ws.length cw, .int .i64 s.nx, .slice ar s.rv.length cr, .slice ag s.sg.length cg] 30)).alloc (.cells #[.slice none 0 0, .int .i64 0, .slice none 0 0, .slice none 0 0] 30)).alloc (.cells #[.nilIface] 131) = Wz at *
  refine (as_hit p ⟨w.heap.size + 1 + 1, 0, none⟩ .nilIface _ E0.gt ht0 hf0).mono ?_
  rintro e W1 ⟨rfl, hg1⟩
  have hBB1 : Below w.heap.size w W1 := hB0.grown hg1 hB0.size (fun k hk => by simp at hk; omega)
  replace F1 : Four W1 _ _ _ _ _ _ := World.ownsRow.kept F1 hg1 (.inr (by simp [Value.ownBlock] <;> omega))
  replace F2 : Four W1 _ _ _ _ _ _ := World.ownsRow.kept F2 hg1 (.inr (by simp [Value.ownBlock] <;> omega))
  have h1' := ownsRow_below h1 hBB1
  have h2' := ownsRow_below h2 hBB1
  have h3' := ownsRow_below h3 hBB1
  clear hB0 hg1 ht0 hf0
  obtain ⟨a0, a1, a2, a3⟩ := F1.c
  go_wp2_with fail
  refine wp_region_held_drew (S := fun w' => w'.cell? ⟨w.heap.size, 0, none⟩ = some (.slice aw s.ws.length cw) ∧ w'.cell? ⟨w.heap.size, 1, none⟩ = some (.int .i64 s.nx) ∧ w'.cell? ⟨w.heap.size, 2, none⟩ = some (.slice ar s.rv.length cr) ∧ w'.cell? ⟨w.heap.size, 3, none⟩ = some (.slice ag s.sg.length cg)) (by kernel_rfl) ?_ (fun hHeld => ?_)
  · go_keep
  refine takeW 0 (v := ?v10) rfl (by kernel_rfl) (by kernel_rfl) (by kernel_rfl) (fun _ _ _ h => h) (by rfl) (by assumption) ?hy10 ?rest10
  case hy10 => intro w' hSw; (try dsimp only at hSw); go_simp; try with_reducible rfl
  try simp only [Act.put, List.setIfInBounds_toArray, List.set_cons_zero, List.set_cons_succ]
  refine takeW 1 (v := ?v11) rfl (by kernel_rfl) (by kernel_rfl) (by kernel_rfl) (fun _ _ _ h => h) (by rfl) (by assumption) ?hy11 ?rest11
  case hy11 => intro w' hSw; (try dsimp only at hSw); go_simp; try with_reducible rfl
  try simp only [Act.put, List.setIfInBounds_toArray, List.set_cons_zero, List.set_cons_succ]
  refine takeW 3 (v := ?v12) rfl (by kernel_rfl) (by kernel_rfl) (by kernel_rfl) (fun _ _ _ h => h) (by rfl) (by assumption) ?hy12 ?rest12
  case hy12 => intro w' hSw; (try dsimp only at hSw); go_simp; try with_reducible rfl
  try simp only [Act.put, List.setIfInBounds_toArray, List.set_cons_zero, List.set_cons_succ]
  refine takeW 4 (v := ?v13) rfl (by kernel_rfl) (by kernel_rfl) (by kernel_rfl) (fun _ _ _ h => h) (by rfl) (by assumption) ?hy13 ?rest13
  case hy13 => intro w' hSw; (try dsimp only at hSw); go_simp; try with_reducible rfl
  try simp only [Act.put, List.setIfInBounds_toArray, List.set_cons_zero, List.set_cons_succ]
  refine takeW 5 (v := ?v14) rfl (by kernel_rfl) (by kernel_rfl) (by kernel_rfl) (fun _ _ _ h => h) (by rfl) (by assumption) ?hy14 ?rest14
  case hy14 => intro w' hSw; (try dsimp only at hSw); go_simp; try with_reducible rfl
  try simp only [Act.put, List.setIfInBounds_toArray, List.set_cons_zero, List.set_cons_succ]
  refine takeW 6 (v := ?v15) rfl (by kernel_rfl) (by kernel_rfl) (by kernel_rfl) (fun _ _ _ h => h) (by rfl) (by assumption) ?hy15 ?rest15
  case hy15 => intro w' hSw; (try dsimp only at hSw); go_simp; try with_reducible rfl
  try simp only [Act.put, List.setIfInBounds_toArray, List.set_cons_zero, List.set_cons_succ]
  refine takeW 8 (v := ?v16) rfl (by kernel_rfl) (by kernel_rfl) (by kernel_rfl) (fun _ _ _ h => h) (by rfl) (by assumption) ?hy16 ?rest16
  case hy16 => intro w' hSw; (try dsimp only at hSw); go_simp; try with_reducible rfl
  try simp only [Act.put, List.setIfInBounds_toArray, List.set_cons_zero, List.set_cons_succ]
  refine takeW 9 (v := ?v17) rfl (by kernel_rfl) (by kernel_rfl) (by kernel_rfl) (fun _ _ _ h => h) (by rfl) (by assumption) ?hy17 ?rest17
  case hy17 => intro w' hSw; (try dsimp only at hSw); go_simp; try with_reducible rfl
  try simp only [Act.put, List.setIfInBounds_toArray, List.set_cons_zero, List.set_cons_succ]
  refine takeC 2 (by kernel_rfl) rfl (fun K hK => ?_)
  go_simp
  refine (cloneW_any _ base _ _ _ l1 one3 (by exact h1')).mono ?_; rintro e w2 ⟨v2, rfl, o2, hB2⟩; obtain ⟨x2, y2, z2, rfl⟩ := row_slice o2; have hc2 := fun o => hB2.cell (p := ⟨w.heap.size, o, none⟩) (by exact F1.lt); have G1 : Four w2 _ _ _ _ _ _ := F1.below (below_drew1 hB2); have G2 : Four w2 _ _ _ _ _ _ := F2.below (below_drew1 hB2); have hBB2 := below_one hBB1 (below_drew1 hB2); have h2'' := ownsRow_below h2' (below_drew1 hB2); have h3'' := ownsRow_below h3' (below_drew1 hB2)
  refine hK.out _ _ ?_ (fun hHeld => ?_)
  · go_keep
  clear hK K
  try simp only [Act.put, List.setIfInBounds_toArray, List.set_cons_zero, List.set_cons_succ]
  refine takeC 7 (by kernel_rfl) rfl (fun K hK => ?_)
  go_simp
  refine (cloneN_any _ base _ _ _ l2 oneN (by exact h2'')).mono ?_; rintro e w3 ⟨v3, rfl, o3, hB3⟩; obtain ⟨x3, y3, z3, rfl⟩ := row_slice o3; have hc3 := fun o => hB3.cell (p := ⟨w.heap.size, o, none⟩) (by exact G1.lt); have I1 := G1.below hB3; have I2 := G2.below hB3; have hBB3 := below_one hBB2 hB3; have h3''' := ownsRow_below h3'' hB3; have o2' := ownsRow_below o2 hB3
  refine hK.out _ _ ?_ (fun hHeld => ?_)
  · go_keep
  clear hK K
  try simp only [Act.put, List.setIfInBounds_toArray, List.set_cons_zero, List.set_cons_succ]
  refine takeC 10 (by kernel_rfl) rfl (fun K hK => ?_)
  go_simp
  refine (cloneS_any _ base _ _ _ l3 oneS (by exact h3''')).mono ?_; rintro e w4 ⟨v4, rfl, o4, hB4⟩; obtain ⟨x4, y4, z4, rfl⟩ := row_slice o4; have hc4 := fun o => hB4.cell (p := ⟨w.heap.size, o, none⟩) (by exact I1.lt); have J2 := I2.below hB4; have hBB4 := below_one hBB3 hB4; have o2'' := ownsRow_below o2' hB4; have o3' := ownsRow_below o3 hB4; obtain ⟨r0, r1, r2, r3⟩ := J2.c; have f0 := J2.f 0; have f1 := J2.f 1; have f2 := J2.f 2; have f3 := J2.f 3
  refine hK.out _ _ ?_ (fun hHeld => ?_)
  · go_keep
  clear hK K
  try simp only [Act.put, List.setIfInBounds_toArray, List.set_cons_zero, List.set_cons_succ]
  refine takeW 11 (v := ?v18) rfl (by kernel_rfl) (by kernel_rfl) (by kernel_rfl) (fun _ _ _ h => h) (by rfl) (by assumption) ?hy18 ?rest18
  case hy18 => intro w' hSw; (try dsimp only at hSw); go_simp; try with_reducible rfl
  try simp only [Act.put, List.setIfInBounds_toArray, List.set_cons_zero, List.set_cons_succ]
  refine takeC 12 (by kernel_rfl) rfl (fun K hK => ?_)
  go_simp
  skip
  refine hK.out _ _ ?_ (fun hHeld => ?_)
  · go_keep
  clear hK K
  try simp only [Act.put, List.setIfInBounds_toArray, List.set_cons_zero, List.set_cons_succ]
  refine wpAnyH_done (by kernel_rfl) ?_ _
  have G := (((J2.s0 (.slice x2 y2 z2)).s1 (.int .i64 s.nx)).s2 (.slice x3 y3 z3)).s3 (.slice x4 y4 z4)
  have p1 := row_four o2'' (k := w.heap.size + 1) (by exact F2.lt) (.slice x2 y2 z2) (.int .i64 s.nx) (.slice x3 y3 z3) (.slice x4 y4 z4)
  have p2 := row_four o3' (k := w.heap.size + 1) G2.lt (.slice x2 y2 z2) (.int .i64 s.nx) (.slice x3 y3 z3) (.slice x4 y4 z4)
  have p3 := row_four o4 (k := w.heap.size + 1) I2.lt (.slice x2 y2 z2) (.int .i64 s.nx) (.slice x3 y3 z3) (.slice x4 y4 z4)
  have pB := below_four hBB4 (k := w.heap.size + 1) (by omega) (.slice x2 y2 z2) (.int .i64 s.nx) (.slice x3 y3 z3) (.slice x4 y4 z4)
  go_wp2_with fail
  have s1 := hBB1.size
  have s2 := hBB2.size
  have s3 := hBB3.size
  clear r0 r1 r2 r3 f0 f1 f2 f3 hHeld hc2 hc3 hc4
  generalize (((w4.setCell ⟨w.heap.size + 1, 0, none⟩ (.slice x2 y2 z2)).setCell ⟨w.heap.size + 1, 1, none⟩ (.int .i64 s.nx)).setCell ⟨w.heap.size + 1, 2, none⟩ (.slice x3 y3 z3)).setCell ⟨w.heap.size + 1, 3, none⟩ (.slice x4 y4 z4) = W5 at *
  obtain ⟨d0, d1, d2, d3⟩ := G.c
  exact bodyPost_ret (v := .agg #[(.slice x2 y2 z2), .int .i64 s.nx, (.slice x3 y3 z3), (.slice x4 y4 z4)]) (by simp [results, Tryz.results75, go_sem, d0, d1, d2, d3]) rfl ⟨_, rfl, IsO.of (Go.Joins.ownsRow_le p1 s1) (Go.Joins.ownsRow_le p2 s2) (Go.Joins.ownsRow_le p3 s3), pB⟩

set_option maxHeartbeats 4000000 in
theorem beside_bad (v : Value) (s : Is) (p p0 p1 p2 p3 : Addr) (base top : Nat) (w : World) (hE : ErA w p0 p1 p2 p3) (h : IsO w base top v s) :
    Calls Tryz.prog 75 #[v, eV p] w fun e w' => e = .returned (.agg #[.slice none 0 0, .int .i64 0, .slice none 0 0, .slice none 0 0]) ∧ Below w.heap.size w w' := by
  obtain ⟨vw, vr, vs, rfl, h1, h2, h3, t1, t2, t3⟩ := h
  obtain ⟨aw, nw, cw, rfl⟩ := row_slice h1
  obtain ⟨ar, nr, cr, rfl⟩ := row_slice h2
  obtain ⟨ag, ng, cg, rfl⟩ := row_slice h3
  obtain rfl : nw = s.ws.length := row_len h1
  obtain rfl : nr = s.rv.length := row_len h2
  obtain rfl : ng = s.sg.length := row_len h3
  have one3 : ∀ u ∈ s.ws.flatMap Wk.cells, u.oneCell' = true := one_w
  have oneN : ∀ u ∈ nums s.rv, u.oneCell' = true := one_n
  have oneS : ∀ u ∈ strs s.sg, u.oneCell' = true := one_s
  have hB0 : Below w.heap.size w (((w.alloc (.cells #[.slice aw s.ws.length cw, .int .i64 s.nx, .slice ar s.rv.length cr, .slice ag s.sg.length cg] 30)).alloc (.cells #[.slice none 0 0, .int .i64 0, .slice none 0 0, .slice none 0 0] 30)).alloc (.cells #[.nilIface] 131)) := (((Below.refl _ w).alloc (Nat.le_refl _) _).alloc (by simp) _).alloc (by simp; omega) _
  have F1 := ((Four.new w (.slice aw s.ws.length cw) (.int .i64 s.nx) (.slice ar s.rv.length cr) (.slice ag s.sg.length cg) 30).below ((Below.refl _ _).alloc (Nat.le_refl _) (.cells #[.slice none 0 0, .int .i64 0, .slice none 0 0, .slice none 0 0] 30))).below ((Below.refl _ _).alloc (Nat.le_refl _) (.cells #[.nilIface] 131))
  have F2 := (Four.at (w.alloc (.cells #[.slice aw s.ws.length cw, .int .i64 s.nx, .slice ar s.rv.length cr, .slice ag s.sg.length cg] 30)) (.slice none 0 0) (.int .i64 0) (.slice none 0 0) (.slice none 0 0) 30 (k := w.heap.size + 1) (by simp)).below ((Below.refl _ _).alloc (Nat.le_refl _) (.cells #[.nilIface] 131))
  have E0 := hE.below hB0
  go_enter Tryz.func75, Tryz.ntmps75
  go_wp2_with fail
  generalize ((w.alloc (.cells #[.slice aw s.ws.length cw, .int .i64 s.nx, .slice ar s.rv.length cr, .slice ag s.sg.length cg] 30)).alloc (.cells #[.slice none 0 0, .int .i64 0, .slice none 0 0, .slice none 0 0] 30)).alloc (.cells #[.nilIface] 131) = Wz at *
  refine (as_miss p ⟨w.heap.size + 1 + 1, 0, none⟩ _ E0.gt).mono ?_
  rintro e W1 ⟨rfl, hB1⟩
  have hBB1 := below_one hB0 hB1
  replace F2 := F2.below hB1
  obtain ⟨r0, r1, r2, r3⟩ := F2.c
  have f0 := F2.f 0
  have f1 := F2.f 1
  have f2 := F2.f 2
  have f3 := F2.f 3
  have G := (((F2.s0 (.slice none 0 0)).s1 (.int .i64 0)).s2 (.slice none 0 0)).s3 (.slice none 0 0)
  have pB := below_four hBB1 (k := w.heap.size + 1) (by omega) (.slice none 0 0) (.int .i64 0) (.slice none 0 0) (.slice none 0 0)
  go_wp2_with fail
  clear r0 r1 r2 r3 f0 f1 f2 f3
  generalize (((W1.setCell ⟨w.heap.size + 1, 0, none⟩ (.slice none 0 0)).setCell ⟨w.heap.size + 1, 1, none⟩ (.int .i64 0)).setCell ⟨w.heap.size + 1, 2, none⟩ (.slice none 0 0)).setCell ⟨w.heap.size + 1, 3, none⟩ (.slice none 0 0) = W5 at *
  obtain ⟨d0, d1, d2, d3⟩ := G.c
  exact bodyPost_ret (v := .agg #[.slice none 0 0, .int .i64 0, .slice none 0 0, .slice none 0 0]) (by simp [results, Tryz.results75, go_sem, d0, d1, d2, d3]) rfl ⟨rfl, pB⟩

end Go.Proofs.YtodkpoppgfomeaaGreatDoor
