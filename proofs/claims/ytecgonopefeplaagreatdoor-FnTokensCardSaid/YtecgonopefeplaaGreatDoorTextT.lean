/-
  Chapter 3: the text of a token, by the specification and by the program.
-/
import Derived.Lib.AppendIntMem
import Derived.Shelf.Strconv.Itoa3
import Derived.Shelf.Strings.OnBuilder
import Derived.Test.YtecgonopefeplaaGreatDoorNumW
import Derived.Test.YtecgonopefeplaaGreatDoorBuildW
import Derived.Test.YtecgonopefeplaaGreatDoorTokJ
namespace Go.Proofs.YtecgonopefeplaaGreatDoor
open Go.RowKit Go.Shelf

/-- The library's table of powers of ten is as its text lays it. -/
def Tab (w : World) : Prop := Lib.TabIs Tryz.prog w "internal/strconv.uint64pow10" .u64 Lib.pow10Tab
theorem Tab.on {w w' : World} (h : Tab w) (hB : Below w.heap.size w w') : Tab w' := Lib.tabBelow_of_tabIs h w' hB
theorem Tab.on' {w w' : World} (h : Tab w) (hB : Below w.heap.size w.drew w') : Tab w' := h.on (below_drew1 hB)

theorem itoa_any (n : Int) (w : World) (h0 : -9223372036854775808 ≤ n) (h1 : n ≤ 9223372036854775807) (ht : Tab w) :
    Calls Tryz.prog 29 #[.int .i64 n] w fun e w' => e = .returned (.string (numT n)) ∧ Below w.heap.size w w' := by
  have h := Any.strconv_Itoa Tryz.lays171 n h0 h1 w ht
  refine h.mono ?_
  rintro e w' ⟨rfl, k, os, rfl⟩
  exact ⟨rfl, Lib.below_grow _ _ (Nat.le_refl _) k os⟩

theorem text_len (k : Lk) (h : k.good = true) : k.text.size ≤ k.size + 23 := by
  obtain ⟨_, _, h3, h4, h5, _⟩ := (Lk.good_iff k).1 h
  have a1 := (itoa_len6 (show 0 ≤ k.se by omega) (by omega)).2
  have a2 := (itoa_len6 (show 0 ≤ k.fr by omega) (by omega)).2
  have a3 := (itoa_len6 (show 0 ≤ k.un by omega) (by omega)).2
  unfold Lk.text Lk.size
  simp only [ByteArray.size_append, numT_size, show (⟨#[32]⟩ : ByteArray).size = 1 from rfl, show (⟨#[59]⟩ : ByteArray).size = 1 from rfl]
  omega
theorem tkT_size {ks : List Lk} (hg : ∀ k ∈ ks, k.good = true) (hf : ∀ k ∈ ks, k.size ≤ 1048576) : ∀ n, n ≤ ks.length → (tkT (ks.take n)).size ≤ n * 1048600
  | 0, _ => by simp [tkT, tkL]; rfl
  | n + 1, hn => by
    have ih := tkT_size hg hf n (by omega)
    have hm := List.getElem_mem (show n < ks.length by omega)
    have h1 := text_len ks[n] (hg _ hm)
    have h2 := hf _ hm
    rw [tkT_succ (by omega), ByteArray.size_append]
    omega

set_option maxHeartbeats 4000000 in
theorem l3Text_any (v : Value) (ks : List Lk) (w : World) (hm : ks.length ≤ 1048577) (hg : ∀ k ∈ ks, k.good = true) (hf : ∀ k ∈ ks, k.size ≤ 1048576) (hr : LkS w v ks) :
    Calls Tryz.prog 17 #[v] w fun e w' => e = .returned (.string (tkT ks)) ∧ Below w.heap.size w w' := by
  obtain ⟨a, cap, rfl⟩ := hr.len
  have HZ := hid (fun n hn => tkT_size hg hf n hn)
  go_enter Tryz.func17, Tryz.ntmps17
  go_wp2
  go_loopw [3, 8] (fun s i wr => ∃ n : Nat, n ≤ ks.length ∧ s = .string (tkT (ks.take n)) ∧ i = .int .i64 n ∧ Below w.heap.size w wr) (fun _ i _ => ks.length - (intOf i).toNat)
  case atStart => exact ⟨0, Nat.zero_le _, by rw [List.take_zero, tkT_nil], rfl, Below.refl _ _⟩
  case round =>
    obtain ⟨n, hn, rfl, rfl, hB⟩ := hrel
    by_cases hlt : n < ks.length
    · obtain ⟨b, off, rfl, hb, hcap, q0, q1, q2, q3, q4⟩ := (hr.below hB).at hlt
      have hz := hf ks[n] (List.getElem_mem hlt)
      obtain ⟨_, _, b3, b4, b5, _⟩ := (Lk.good_iff ks[n]).1 (hg ks[n] (List.getElem_mem hlt))
      have hs := HZ.out n hn
      have hs2 : n * 1048600 ≤ 2000000000000 := by omega
      have HT := hid (tkT_succ hlt)
      generalize ks[n] = k at *
      generalize tkT (ks.take n) = s at *
      have h1n := fun W => l1Num_any k.se W (by omega) (by omega)
      have h2n := fun W => l1Num_any k.fr W (by omega) (by omega)
      have h3n := fun W => l1Num_any k.un W (by omega) (by omega)
      have z1 := (itoa_len6 (show 0 ≤ k.se by omega) (by omega)).2
      have z2 := (itoa_len6 (show 0 ≤ k.fr by omega) (by omega)).2
      have z3 := (itoa_len6 (show 0 ≤ k.un by omega) (by omega)).2
      rw [← numT_size] at z1 z2 z3
      have HX := hid (show k.text = k.who ++ ⟨#[32]⟩ ++ k.to ++ ⟨#[32]⟩ ++ numT k.se ++ ⟨#[32]⟩ ++ numT k.fr ++ ⟨#[32]⟩ ++ numT k.un ++ ⟨#[59]⟩ from rfl)
      generalize numT k.se = x1 at *
      generalize numT k.fr = x2 at *
      generalize numT k.un = x3 at *
      unfold Lk.size at hz
      have g1 : ¬9223372036854775807 < k.who.size + 1 := by omega
      have g2 : ¬9223372036854775807 < k.who.size + 1 + k.to.size := by omega
      have g3 : ¬9223372036854775807 < k.who.size + 1 + k.to.size + 1 := by omega
      have g4 : ¬9223372036854775807 < k.who.size + 1 + k.to.size + 1 + x1.size := by omega
      have g5 : ¬9223372036854775807 < k.who.size + 1 + k.to.size + 1 + x1.size + 1 := by omega
      have g6 : ¬9223372036854775807 < k.who.size + 1 + k.to.size + 1 + x1.size + 1 + x2.size := by omega
      have g7 : ¬9223372036854775807 < k.who.size + 1 + k.to.size + 1 + x1.size + 1 + x2.size + 1 := by omega
      have g8 : ¬9223372036854775807 < k.who.size + 1 + k.to.size + 1 + x1.size + 1 + x2.size + 1 + x3.size := by omega
      have g9 : ¬9223372036854775807 < k.who.size + 1 + k.to.size + 1 + x1.size + 1 + x2.size + 1 + x3.size + 1 := by omega
      have g10 : ¬9223372036854775807 < s.size + (k.who.size + 1 + k.to.size + 1 + x1.size + 1 + x2.size + 1 + x3.size + 1) := by omega
      have hBa : Below w.heap.size w (wr.alloc (.cells #[.string k.who, .string k.to, .int .i64 k.se, .int .i64 k.fr, .int .i64 k.un] 35)) := hB.alloc hB.size _
      go_wp2_with fail
      refine wp_region_held_drew (S := fun w' => w'.cell? ⟨wr.heap.size, 0, none⟩ = some (.string k.who) ∧ w'.cell? ⟨wr.heap.size, 1, none⟩ = some (.string k.to) ∧ w'.cell? ⟨wr.heap.size, 2, none⟩ = some (.int .i64 k.se) ∧ w'.cell? ⟨wr.heap.size, 3, none⟩ = some (.int .i64 k.fr) ∧ w'.cell? ⟨wr.heap.size, 4, none⟩ = some (.int .i64 k.un)) (by kernel_rfl) ?_ (fun hHeld => ?_)
      · go_keep
      refine takeW 0 (v := ?v1) rfl (by kernel_rfl) (by kernel_rfl) (by kernel_rfl) (fun _ _ _ h => h) (by rfl) (by assumption) ?hy1 ?rest1
      case hy1 => intro w' hSw; (try dsimp only at hSw); go_simp; try with_reducible rfl
      try simp only [Act.put, List.setIfInBounds_toArray, List.set_cons_zero, List.set_cons_succ]
      refine takeW 1 (v := ?v2) rfl (by kernel_rfl) (by kernel_rfl) (by kernel_rfl) (fun _ _ _ h => h) (by rfl) (by assumption) ?hy2 ?rest2
      case hy2 => intro w' hSw; (try dsimp only at hSw); go_simp; try with_reducible rfl
      try simp only [Act.put, List.setIfInBounds_toArray, List.set_cons_zero, List.set_cons_succ]
      refine takeW 2 (v := ?v3) rfl (by kernel_rfl) (by kernel_rfl) (by kernel_rfl) (fun _ _ _ h => h) (by rfl) (by assumption) ?hy3 ?rest3
      case hy3 => intro w' hSw; (try dsimp only at hSw); go_simp; try with_reducible rfl
      try simp only [Act.put, List.setIfInBounds_toArray, List.set_cons_zero, List.set_cons_succ]
      refine takeW 3 (v := ?v4) rfl (by kernel_rfl) (by kernel_rfl) (by kernel_rfl) (fun _ _ _ h => h) (by rfl) (by assumption) ?hy4 ?rest4
      case hy4 => intro w' hSw; (try dsimp only at hSw); go_simp; try with_reducible rfl
      try simp only [Act.put, List.setIfInBounds_toArray, List.set_cons_zero, List.set_cons_succ]
      refine takeW 4 (v := ?v5) rfl (by kernel_rfl) (by kernel_rfl) (by kernel_rfl) (fun _ _ _ h => h) (by rfl) (by assumption) ?hy5 ?rest5
      case hy5 => intro w' hSw; (try dsimp only at hSw); go_simp; try with_reducible rfl
      try simp only [Act.put, List.setIfInBounds_toArray, List.set_cons_zero, List.set_cons_succ]
      refine takeW 5 (v := ?v6) rfl (by kernel_rfl) (by kernel_rfl) (by kernel_rfl) (fun _ _ _ h => h) (by rfl) (by assumption) ?hy6 ?rest6
      case hy6 => intro w' hSw; (try dsimp only at hSw); go_simp; try with_reducible rfl
      try simp only [Act.put, List.setIfInBounds_toArray, List.set_cons_zero, List.set_cons_succ]
      refine takeW 6 (v := ?v7) rfl (by kernel_rfl) (by kernel_rfl) (by kernel_rfl) (fun _ _ _ h => h) (by rfl) (by assumption) ?hy7 ?rest7
      case hy7 => intro w' hSw; (try dsimp only at hSw); go_simp; try with_reducible rfl
      try simp only [Act.put, List.setIfInBounds_toArray, List.set_cons_zero, List.set_cons_succ]
      refine takeW 7 (v := ?v8) rfl (by kernel_rfl) (by kernel_rfl) (by kernel_rfl) (fun _ _ _ h => h) (by rfl) (by assumption) ?hy8 ?rest8
      case hy8 => intro w' hSw; (try dsimp only at hSw); go_simp; try with_reducible rfl
      try simp only [Act.put, List.setIfInBounds_toArray, List.set_cons_zero, List.set_cons_succ]
      refine takeW 8 (v := ?v9) rfl (by kernel_rfl) (by kernel_rfl) (by kernel_rfl) (fun _ _ _ h => h) (by rfl) (by assumption) ?hy9 ?rest9
      case hy9 => intro w' hSw; (try dsimp only at hSw); go_simp; try with_reducible rfl
      try simp only [Act.put, List.setIfInBounds_toArray, List.set_cons_zero, List.set_cons_succ]
      refine takeW 9 (v := ?v10) rfl (by kernel_rfl) (by kernel_rfl) (by kernel_rfl) (fun _ _ _ h => h) (by rfl) (by assumption) ?hy10 ?rest10
      case hy10 => intro w' hSw; (try dsimp only at hSw); go_simp; try with_reducible rfl
      try simp only [Act.put, List.setIfInBounds_toArray, List.set_cons_zero, List.set_cons_succ]
      refine takeW 13 (v := ?v11) rfl (by kernel_rfl) (by kernel_rfl) (by kernel_rfl) (fun _ _ _ h => h) (by rfl) (by assumption) ?hy11 ?rest11
      case hy11 => intro w' hSw; (try dsimp only at hSw); go_simp; try with_reducible rfl
      try simp only [Act.put, List.setIfInBounds_toArray, List.set_cons_zero, List.set_cons_succ]
      refine takeW 14 (v := ?v12) rfl (by kernel_rfl) (by kernel_rfl) (by kernel_rfl) (fun _ _ _ h => h) (by rfl) (by assumption) ?hy12 ?rest12
      case hy12 => intro w' hSw; (try dsimp only at hSw); go_simp; try with_reducible rfl
      try simp only [Act.put, List.setIfInBounds_toArray, List.set_cons_zero, List.set_cons_succ]
      refine takeW 18 (v := ?v13) rfl (by kernel_rfl) (by kernel_rfl) (by kernel_rfl) (fun _ _ _ h => h) (by rfl) (by assumption) ?hy13 ?rest13
      case hy13 => intro w' hSw; (try dsimp only at hSw); go_simp; try with_reducible rfl
      try simp only [Act.put, List.setIfInBounds_toArray, List.set_cons_zero, List.set_cons_succ]
      refine takeW 19 (v := ?v14) rfl (by kernel_rfl) (by kernel_rfl) (by kernel_rfl) (fun _ _ _ h => h) (by rfl) (by assumption) ?hy14 ?rest14
      case hy14 => intro w' hSw; (try dsimp only at hSw); go_simp; try with_reducible rfl
      try simp only [Act.put, List.setIfInBounds_toArray, List.set_cons_zero, List.set_cons_succ]
      refine takeC 10 (by kernel_rfl) rfl (fun K hK => ?_)
      go_simp
      refine (h1n _).mono ?_; rintro e w1 ⟨rfl, hB1⟩; have hc1 := fun o => hB1.cell (p := ⟨wr.heap.size, o, none⟩) (by simp); have hz1 : wr.heap.size < w1.heap.size := by have := hB1.size; simp at this; omega
      refine hK.out _ _ ?_ (fun hHeld => ?_)
      · go_keep
      clear hK K
      try simp only [Act.put, List.setIfInBounds_toArray, List.set_cons_zero, List.set_cons_succ]
      refine takeW 11 (v := ?v15) rfl (by kernel_rfl) (by kernel_rfl) (by kernel_rfl) (fun _ _ _ h => h) (by rfl) (by assumption) ?hy15 ?rest15
      case hy15 => intro w' hSw; (try dsimp only at hSw); go_simp; try with_reducible rfl
      try simp only [Act.put, List.setIfInBounds_toArray, List.set_cons_zero, List.set_cons_succ]
      refine takeW 12 (v := ?v16) rfl (by kernel_rfl) (by kernel_rfl) (by kernel_rfl) (fun _ _ _ h => h) (by rfl) (by assumption) ?hy16 ?rest16
      case hy16 => intro w' hSw; (try dsimp only at hSw); go_simp; try with_reducible rfl
      try simp only [Act.put, List.setIfInBounds_toArray, List.set_cons_zero, List.set_cons_succ]
      refine takeC 15 (by kernel_rfl) rfl (fun K hK => ?_)
      go_simp
      refine (h2n _).mono ?_; rintro e w2 ⟨rfl, hB2⟩; have hc2 := fun o => hB2.cell (p := ⟨wr.heap.size, o, none⟩) hz1; have hz2 : wr.heap.size < w2.heap.size := by have := hB2.size; omega
      refine hK.out _ _ ?_ (fun hHeld => ?_)
      · go_keep
      clear hK K
      try simp only [Act.put, List.setIfInBounds_toArray, List.set_cons_zero, List.set_cons_succ]
      refine takeW 16 (v := ?v17) rfl (by kernel_rfl) (by kernel_rfl) (by kernel_rfl) (fun _ _ _ h => h) (by rfl) (by assumption) ?hy17 ?rest17
      case hy17 => intro w' hSw; (try dsimp only at hSw); go_simp; try with_reducible rfl
      try simp only [Act.put, List.setIfInBounds_toArray, List.set_cons_zero, List.set_cons_succ]
      refine takeW 17 (v := ?v18) rfl (by kernel_rfl) (by kernel_rfl) (by kernel_rfl) (fun _ _ _ h => h) (by rfl) (by assumption) ?hy18 ?rest18
      case hy18 => intro w' hSw; (try dsimp only at hSw); go_simp; try with_reducible rfl
      try simp only [Act.put, List.setIfInBounds_toArray, List.set_cons_zero, List.set_cons_succ]
      refine takeC 20 (by kernel_rfl) rfl (fun K hK => ?_)
      go_simp
      refine (h3n _).mono ?_; rintro e w3 ⟨rfl, hB3⟩; have hc3 := fun o => hB3.cell (p := ⟨wr.heap.size, o, none⟩) hz2; have hz3 : wr.heap.size < w3.heap.size := by have := hB3.size; omega
      refine hK.out _ _ ?_ (fun hHeld => ?_)
      · go_keep
      clear hK K
      try simp only [Act.put, List.setIfInBounds_toArray, List.set_cons_zero, List.set_cons_succ]
      refine takeW 21 (v := ?v19) rfl (by kernel_rfl) (by kernel_rfl) (by kernel_rfl) (fun _ _ _ h => h) (by rfl) (by assumption) ?hy19 ?rest19
      case hy19 => intro w' hSw; (try dsimp only at hSw); go_simp; try with_reducible rfl
      try simp only [Act.put, List.setIfInBounds_toArray, List.set_cons_zero, List.set_cons_succ]
      refine takeW 22 (v := ?v20) rfl (by kernel_rfl) (by kernel_rfl) (by kernel_rfl) (fun _ _ _ h => h) (by rfl) (by assumption) ?hy20 ?rest20
      case hy20 => intro w' hSw; (try dsimp only at hSw); go_simp; try with_reducible rfl
      try simp only [Act.put, List.setIfInBounds_toArray, List.set_cons_zero, List.set_cons_succ]
      refine takeW 23 (v := ?v21) rfl (by kernel_rfl) (by kernel_rfl) (by kernel_rfl) (fun _ _ _ h => h) (by rfl) (by assumption) ?hy21 ?rest21
      case hy21 => intro w' hSw; (try dsimp only at hSw); go_simp; try with_reducible rfl
      try simp only [Act.put, List.setIfInBounds_toArray, List.set_cons_zero, List.set_cons_succ]
      refine takeW 24 (v := ?v22) rfl (by kernel_rfl) (by kernel_rfl) (by kernel_rfl) (fun _ _ _ h => h) (by rfl) (by assumption) ?hy22 ?rest22
      case hy22 => intro w' hSw; (try dsimp only at hSw); go_simp; try with_reducible rfl
      try simp only [Act.put, List.setIfInBounds_toArray, List.set_cons_zero, List.set_cons_succ]
      refine wpAnyH_done (by kernel_rfl) ?_ _
      have hBB := below_one (below_two hBa (below_drew1 hB1) hB2) hB3
      go_wp2
      go_roundw
      case rel => first | exact ⟨n + 1, by omega, by rw [HT.out, HX.out], by go_num, hBB⟩ | ((repeat apply Exists.intro); exact ⟨⟨n + 1, by omega, by rw [HT.out, HX.out], by go_num, hBB⟩, rfl⟩)
      case measure => simp [intOf]; omega
    · obtain rfl : n = ks.length := by omega
      have HE := hid (show tkT (ks.take ks.length) = tkT ks by rw [List.take_length])
      go_wp2
      go_ret
      exact ⟨ret_str HE.out, hB⟩

theorem strs5 (k : Lk) : Lib.join ([k.who, k.to, numT k.se, numT k.fr, numT k.un].map (·.data.toList)) (⟨#[32]⟩ : ByteArray).data.toList = k.body := by
  simp [Lib.join, Lk.body, numT]
/-- The five words of a link put together. -/
theorem join5_any (k : Lk) (g : Nat) (w : World) (hs : k.size ≤ 1048576) (hg : k.good = true) (hlt : g < w.heap.size)
    (h0 : w.cell? ⟨g, 0, none⟩ = some (.string k.who)) (h1 : w.cell? ⟨g, 1, none⟩ = some (.string k.to)) (h2 : w.cell? ⟨g, 2, none⟩ = some (.string (numT k.se))) (h3 : w.cell? ⟨g, 3, none⟩ = some (.string (numT k.fr))) (h4 : w.cell? ⟨g, 4, none⟩ = some (.string (numT k.un))) :
    Calls Tryz.prog 31 #[.slice (some ⟨g, 0, none⟩) 5 5, .string ⟨#[32]⟩] w fun e w' => e = .returned (.string ⟨k.body.toArray⟩) ∧ Below w.heap.size w w' := by
  have hl : k.body.length ≤ 1048600 := by
    have := text_len k hg
    have h : k.text.size = k.body.length + 1 := by
      show k.text.data.size = _
      rw [← Array.length_toList, Lk.text_list]
      simp
    omega
  have h := Any.strings_Join Tryz.lays156 Tryz.Builder_Extra_156 g 0 5 [k.who, k.to, numT k.se, numT k.fr, numT k.un] ⟨#[32]⟩ w (by
    intro j x hx
    match j, hx with
    | 0, hx => simp at hx; subst hx; simpa using h0
    | 1, hx => simp at hx; subst hx; simpa using h1
    | 2, hx => simp at hx; subst hx; simpa using h2
    | 3, hx => simp at hx; subst hx; simpa using h3
    | 4, hx => simp at hx; subst hx; simpa using h4
    | j + 5, hx => simp at hx) hlt (by simp) (by simp) (by rw [strs5]; omega)
  rw [strs5] at h
  exact h

/-- The builder as it is made. -/
theorem built_new3 (w : World) : Lib.IsBuilder 67 5 w.heap.size w.heap.size [] (w.alloc (.cells #[.pointer none, .slice none 0 0] 67)) :=
  .inl ⟨Nat.le_refl _, .slice none 0 0, by show (w.heap.push _)[w.heap.size]? = some _; simp, World.ownsRow_nil _ _ _ _, by simp [Value.ownBlock]⟩
theorem cells_link (k : Lk) (l : List UInt8) : (Lib.byteCells l ++ Lib.strCells ⟨k.body.toArray⟩) ++ [.int .u8 59] = Lib.byteCells (l ++ k.text.data.toList) := by
  rw [Lib.strCells_eq, Lk.text_list, Lib.byteCells_append, Lib.byteCells_append, List.append_assoc]
  rfl
theorem tkL_succ {ks : List Lk} {n : Nat} (h : n < ks.length) : tkL (ks.take (n + 1)) = tkL (ks.take n) ++ ks[n].text.data.toList := by
  unfold tkL
  rw [List.take_succ_eq_append_getElem h, List.flatMap_append]
  simp
theorem tkL_len (ks : List Lk) : (tkL ks).length = (tkT ks).size := by
  unfold tkT
  show _ = (tkL ks).toArray.size
  simp

set_option maxHeartbeats 4000000 in
theorem textOfToken_any (v : Value) (ks : List Lk) (w : World) (hm : ks.length ≤ 1048577) (hg : ∀ k ∈ ks, k.good = true) (hf : ∀ k ∈ ks, k.size ≤ 1048576) (hr : LkS w v ks) (ht : Tab w) :
    Calls Tryz.prog 15 #[v] w fun e w' => e = .returned (.string (tkT ks)) ∧ Below w.heap.size w w' := by
  obtain ⟨a, cap, rfl⟩ := hr.len
  have HZ := hid (fun n hn => tkT_size hg hf n hn)
  have hN := built_new3 w
  have hBn : Below w.heap.size w (w.alloc (.cells #[.pointer none, .slice none 0 0] 67)) := (Below.refl _ w).alloc (Nat.le_refl _) _
  have HTB := hid ht
  clear ht
  go_enter Tryz.func15, Tryz.ntmps15
  go_wp2
  go_loopw [9] (fun i wr => ∃ n : Nat, n ≤ ks.length ∧ i = .int .i64 n ∧ Lib.IsBuilder 67 5 w.heap.size w.heap.size (Lib.byteCells (tkL (ks.take n))) wr ∧ Below w.heap.size w wr) (fun i _ => ks.length - (intOf i).toNat)
  case atStart => exact ⟨0, Nat.zero_le _, rfl, hN, hBn⟩
  case round =>
    obtain ⟨n, hn, rfl, hI, hB⟩ := hrel
    have hs := HZ.out n hn
    rw [← tkL_len] at hs
    have hs2 : n * 1048600 ≤ 2000000000000 := by omega
    by_cases hlt : n < ks.length
    · obtain ⟨b, off, rfl, hb, hcap, q0, q1, q2, q3, q4⟩ := (hr.below hB).at hlt
      have hz := hf ks[n] (List.getElem_mem hlt)
      have hgd := hg ks[n] (List.getElem_mem hlt)
      obtain ⟨_, _, b3, b4, b5, _⟩ := (Lk.good_iff ks[n]).1 hgd
      have HS := hid (tkL_succ hlt)
      have HC := hid (cells_link ks[n] (tkL (ks.take n)))
      have htx := text_len ks[n] hgd
      generalize ks[n] = k at *
      generalize tkL (ks.take n) = l at *
      have h1n := fun W => itoa_any k.se W (by omega) (by omega)
      have h2n := fun W => itoa_any k.fr W (by omega) (by omega)
      have h3n := fun W => itoa_any k.un W (by omega) (by omega)
      have hJ := fun g W => join5_any k g W hz hgd
      have hbl : k.body.length ≤ 1048600 := by
        have h : k.text.size = k.body.length + 1 := by
          show k.text.data.size = _
          rw [← Array.length_toList, Lk.text_list]
          simp
        omega
      generalize numT k.se = x1 at *
      generalize numT k.fr = x2 at *
      generalize numT k.un = x3 at *
      have hBw : Below wr.heap.size wr (wr.alloc (.cells #[.string k.who, .string k.to, .int .i64 k.se, .int .i64 k.fr, .int .i64 k.un] 35)) := (Below.refl _ wr).alloc (Nat.le_refl _) _
      have hBa := below_one hB hBw
      have hIa := isB_below hI hBw
      have htr : Tab (wr.alloc (.cells #[.string k.who, .string k.to, .int .i64 k.se, .int .i64 k.fr, .int .i64 k.un] 35)).drew := HTB.out.on (hBa.drew)
      go_wp2_with fail
      refine wp_region_held_drew (S := fun w' => w'.cell? ⟨wr.heap.size, 0, none⟩ = some (.string k.who) ∧ w'.cell? ⟨wr.heap.size, 1, none⟩ = some (.string k.to) ∧ w'.cell? ⟨wr.heap.size, 2, none⟩ = some (.int .i64 k.se) ∧ w'.cell? ⟨wr.heap.size, 3, none⟩ = some (.int .i64 k.fr) ∧ w'.cell? ⟨wr.heap.size, 4, none⟩ = some (.int .i64 k.un)) (by kernel_rfl) ?_ (fun hHeld => ?_)
      · go_keep
      refine takeW 0 (v := ?v23) rfl (by kernel_rfl) (by kernel_rfl) (by kernel_rfl) (fun _ _ _ h => h) (by rfl) (by assumption) ?hy23 ?rest23
      case hy23 => intro w' hSw; (try dsimp only at hSw); go_simp; try with_reducible rfl
      try simp only [Act.put, List.setIfInBounds_toArray, List.set_cons_zero, List.set_cons_succ]
      refine takeW 1 (v := ?v24) rfl (by kernel_rfl) (by kernel_rfl) (by kernel_rfl) (fun _ _ _ h => h) (by rfl) (by assumption) ?hy24 ?rest24
      case hy24 => intro w' hSw; (try dsimp only at hSw); go_simp; try with_reducible rfl
      try simp only [Act.put, List.setIfInBounds_toArray, List.set_cons_zero, List.set_cons_succ]
      refine takeW 2 (v := ?v25) rfl (by kernel_rfl) (by kernel_rfl) (by kernel_rfl) (fun _ _ _ h => h) (by rfl) (by assumption) ?hy25 ?rest25
      case hy25 => intro w' hSw; (try dsimp only at hSw); go_simp; try with_reducible rfl
      try simp only [Act.put, List.setIfInBounds_toArray, List.set_cons_zero, List.set_cons_succ]
      refine takeW 3 (v := ?v26) rfl (by kernel_rfl) (by kernel_rfl) (by kernel_rfl) (fun _ _ _ h => h) (by rfl) (by assumption) ?hy26 ?rest26
      case hy26 => intro w' hSw; (try dsimp only at hSw); go_simp; try with_reducible rfl
      try simp only [Act.put, List.setIfInBounds_toArray, List.set_cons_zero, List.set_cons_succ]
      refine takeW 4 (v := ?v27) rfl (by kernel_rfl) (by kernel_rfl) (by kernel_rfl) (fun _ _ _ h => h) (by rfl) (by assumption) ?hy27 ?rest27
      case hy27 => intro w' hSw; (try dsimp only at hSw); go_simp; try with_reducible rfl
      try simp only [Act.put, List.setIfInBounds_toArray, List.set_cons_zero, List.set_cons_succ]
      refine takeW 5 (v := ?v28) rfl (by kernel_rfl) (by kernel_rfl) (by kernel_rfl) (fun _ _ _ h => h) (by rfl) (by assumption) ?hy28 ?rest28
      case hy28 => intro w' hSw; (try dsimp only at hSw); go_simp; try with_reducible rfl
      try simp only [Act.put, List.setIfInBounds_toArray, List.set_cons_zero, List.set_cons_succ]
      refine takeW 7 (v := ?v29) rfl (by kernel_rfl) (by kernel_rfl) (by kernel_rfl) (fun _ _ _ h => h) (by rfl) (by assumption) ?hy29 ?rest29
      case hy29 => intro w' hSw; (try dsimp only at hSw); go_simp; try with_reducible rfl
      try simp only [Act.put, List.setIfInBounds_toArray, List.set_cons_zero, List.set_cons_succ]
      refine takeW 8 (v := ?v30) rfl (by kernel_rfl) (by kernel_rfl) (by kernel_rfl) (fun _ _ _ h => h) (by rfl) (by assumption) ?hy30 ?rest30
      case hy30 => intro w' hSw; (try dsimp only at hSw); go_simp; try with_reducible rfl
      try simp only [Act.put, List.setIfInBounds_toArray, List.set_cons_zero, List.set_cons_succ]
      refine takeW 10 (v := ?v31) rfl (by kernel_rfl) (by kernel_rfl) (by kernel_rfl) (fun _ _ _ h => h) (by rfl) (by assumption) ?hy31 ?rest31
      case hy31 => intro w' hSw; (try dsimp only at hSw); go_simp; try with_reducible rfl
      try simp only [Act.put, List.setIfInBounds_toArray, List.set_cons_zero, List.set_cons_succ]
      refine takeW 11 (v := ?v32) rfl (by kernel_rfl) (by kernel_rfl) (by kernel_rfl) (fun _ _ _ h => h) (by rfl) (by assumption) ?hy32 ?rest32
      case hy32 => intro w' hSw; (try dsimp only at hSw); go_simp; try with_reducible rfl
      try simp only [Act.put, List.setIfInBounds_toArray, List.set_cons_zero, List.set_cons_succ]
      refine takeC 6 (by kernel_rfl) rfl (fun K hK => ?_)
      go_simp
      refine (h1n _ htr).mono ?_; rintro e w1 ⟨rfl, hB1⟩; have hc1 := fun o => hB1.cell (p := ⟨wr.heap.size, o, none⟩) (by simp); have hz1 : wr.heap.size < w1.heap.size := by have := hB1.size; simp at this; omega
      refine hK.out _ _ ?_ (fun hHeld => ?_)
      · go_keep
      clear hK K
      try simp only [Act.put, List.setIfInBounds_toArray, List.set_cons_zero, List.set_cons_succ]
      refine takeC 9 (by kernel_rfl) rfl (fun K hK => ?_)
      go_simp
      refine (h2n _ (htr.on hB1)).mono ?_; rintro e w2 ⟨rfl, hB2⟩; have hc2 := fun o => hB2.cell (p := ⟨wr.heap.size, o, none⟩) hz1; have hz2 : wr.heap.size < w2.heap.size := by have := hB2.size; omega
      refine hK.out _ _ ?_ (fun hHeld => ?_)
      · go_keep
      clear hK K
      try simp only [Act.put, List.setIfInBounds_toArray, List.set_cons_zero, List.set_cons_succ]
      refine takeC 12 (by kernel_rfl) rfl (fun K hK => ?_)
      go_simp
      refine (h3n _ ((htr.on hB1).on hB2)).mono ?_; rintro e w3 ⟨rfl, hB3⟩; have hc3 := fun o => hB3.cell (p := ⟨wr.heap.size, o, none⟩) hz2; have hz3 : wr.heap.size < w3.heap.size := by have := hB3.size; omega
      refine hK.out _ _ ?_ (fun hHeld => ?_)
      · go_keep
      clear hK K
      try simp only [Act.put, List.setIfInBounds_toArray, List.set_cons_zero, List.set_cons_succ]
      refine takeC 13 (by kernel_rfl) rfl (fun K hK => ?_)
      go_simp
      skip
      refine hK.out _ _ ?_ (fun hHeld => ?_)
      · go_keep
      clear hK K
      try simp only [Act.put, List.setIfInBounds_toArray, List.set_cons_zero, List.set_cons_succ]
      refine takeW 14 (v := ?v33) rfl (by kernel_rfl) (by kernel_rfl) (by kernel_rfl) (fun _ _ _ h => h) (by rfl) (by assumption) ?hy33 ?rest33
      case hy33 => intro w' hSw; (try dsimp only at hSw); go_simp; try with_reducible rfl
      try simp only [Act.put, List.setIfInBounds_toArray, List.set_cons_zero, List.set_cons_succ]
      refine wpAnyH_done (by kernel_rfl) ?_ _
      have hB01 : Below (wr.alloc (.cells #[.string k.who, .string k.to, .int .i64 k.se, .int .i64 k.fr, .int .i64 k.un] 35)).heap.size (wr.alloc (.cells #[.string k.who, .string k.to, .int .i64 k.se, .int .i64 k.fr, .int .i64 k.un] 35)) w1 := below_drew1 hB1
      have hB123 := below_one (below_one hB01 hB2) hB3
      have hI3 := isB_below hIa hB123
      have hBB3 := below_one hBa hB123
      have hBw4 : Below w3.heap.size w3 (w3.alloc (.cells #[.string k.who, .string k.to, .string x1, .string x2, .string x3] 9)) := (Below.refl _ w3).alloc (Nat.le_refl _) _
      have hI4 := isB_below hI3 hBw4
      have hBB4 := below_one hBB3 hBw4
      have hJ4 := hJ w3.heap.size (w3.alloc (.cells #[.string k.who, .string k.to, .string x1, .string x2, .string x3] 9)) (by simp) (by simp) (by simp) (by simp) (by simp) (by simp)
      clear hB hBw hBa hIa hI hB01 hB1 hB2 hB3 hB123 hI3 hBB3 hBw4 q0 q1 q2 q3 q4 hJ h1n h2n h3n hc1 hc2 hc3 hz1 hz2 hz3
      go_wp2_with fail
      refine hJ4.mono ?_
      rintro e w5 ⟨rfl, hB5⟩
      have hI5 := isB_below hI4 hB5
      have hBB5 := below_one hBB4 hB5
      have hz5 := hBB5.size
      clear hI4 hBB4 hB5 hJ4
      go_wp2_with fail
      refine (writeString_any w.heap.size w.heap.size _ ⟨k.body.toArray⟩ _ hI5 (by rw [Lib.byteCells_length]; show _ + k.body.toArray.size ≤ _; rw [List.size_toArray]; omega) hz5).mono ?_
      rintro e w6 ⟨rfl, hI6, hB6⟩
      have hBB6 := hBB5.trans hB6
      have hz6 := hBB6.size
      clear hI5 hBB5 hz5 hB6
      go_wp2_with fail
      refine (writeByte_any w.heap.size w.heap.size _ 59 _ (.inr hI6) (by rw [List.length_append, Lib.byteCells_length, Lib.strCells_length]; show _ + k.body.toArray.size + 1 ≤ _; rw [List.size_toArray]; omega) hz6).mono ?_
      rintro e w7 ⟨rfl, hI7, hB7⟩
      have hBB7 := hBB6.trans hB7
      rw [HC.out] at hI7
      clear hI6 hBB6 hz6 hB7
      go_wp2
      go_roundw
      case rel => exact ⟨n + 1, by omega, by go_num, by rw [HS.out]; exact .inr hI7, hBB7⟩
      case measure => simp [intOf]; omega
    · obtain rfl : n = ks.length := by omega
      have hzz := hB.size
      have HE := hid (show (⟨(tkL ks).toArray⟩ : ByteArray) = tkT ks from rfl)
      go_wp2_with fail
      refine (bString_any w.heap.size w.heap.size _ _ hI hzz).mono ?_
      rintro e w6 ⟨rfl, hB6⟩
      go_wp2_with fail
      go_ret
      exact ⟨ret_str HE.out, hB.trans hB6⟩

/-- The text of a token, none of what is none. -/
def ttX (ks : List Lk) : ByteArray := if tkB ks = true then tkT ks else ⟨#[]⟩
theorem ttX_no {ks : List Lk} (h : tkB ks = false) : ttX ks = ⟨#[]⟩ := if_neg (by rw [h]; exact Bool.false_ne_true)
theorem ttX_yes {ks : List Lk} (h : tkB ks = true) : ttX ks = tkT ks := if_pos h

set_option maxHeartbeats 1000000 in
theorem specTokenText_any (v : Value) (ks : List Lk) (w : World) (hm : ks.length ≤ 1048577) (hf : ∀ k ∈ ks, k.size ≤ 1048576) (hr : LkS w v ks) :
    Calls Tryz.prog 6 #[v] w fun e w' => e = .returned (.tuple #[.string (ttX ks), .bool (tkB ks)]) ∧ Below w.heap.size w w' := by
  obtain ⟨a, cap, rfl⟩ := hr.len
  cases hg : tkB ks
  · have HX := hid (ttX_no hg)
    go_enter Tryz.func6, Tryz.ntmps6
    go_wp2_with fail
    refine (specGoodToken_any _ ks _ hm hf hr).mono ?_
    rintro e w1 ⟨rfl, hB1⟩
    rw [hg]
    go_wp2_with fail
    go_ret2
    exact ⟨ret_strb HX.out.symm rfl, hB1⟩
  · have HX := hid (ttX_yes hg)
    have hgd := tkB_good hg
    go_enter Tryz.func6, Tryz.ntmps6
    go_wp2_with fail
    refine (specGoodToken_any _ ks _ hm hf hr).mono ?_
    rintro e w1 ⟨rfl, hB1⟩
    rw [hg]
    have hr1 := hr.below hB1
    go_wp2_with fail
    refine (l3Text_any _ ks _ hm hgd hf hr1).mono ?_
    rintro e w2 ⟨rfl, hB2⟩
    go_wp2_with fail
    go_ret2
    exact ⟨ret_strb HX.out.symm rfl, below_one hB1 hB2⟩

set_option maxHeartbeats 1000000 in
theorem implTokenText_any (v : Value) (ks : List Lk) (w : World) (hm : ks.length ≤ 1048577) (hf : ∀ k ∈ ks, k.size ≤ 1048576) (hr : LkS w v ks) (ht : Tab w) :
    Calls Tryz.prog 5 #[v] w fun e w' => e = .returned (.tuple #[.string (ttX ks), .bool (tkB ks)]) ∧ Below w.heap.size w w' := by
  obtain ⟨a, cap, rfl⟩ := hr.len
  cases hg : tkB ks
  · have HX := hid (ttX_no hg)
    go_enter Tryz.func5, Tryz.ntmps5
    go_wp2_with fail
    refine (implGoodToken_any _ ks _ hm hf hr).mono ?_
    rintro e w1 ⟨rfl, hB1⟩
    rw [hg]
    go_wp2_with fail
    go_ret2
    exact ⟨ret_strb HX.out.symm rfl, hB1⟩
  · have HX := hid (ttX_yes hg)
    have hgd := tkB_good hg
    go_enter Tryz.func5, Tryz.ntmps5
    go_wp2_with fail
    refine (implGoodToken_any _ ks _ hm hf hr).mono ?_
    rintro e w1 ⟨rfl, hB1⟩
    rw [hg]
    have hr1 := hr.below hB1
    go_wp2_with fail
    refine (textOfToken_any _ ks _ hm hgd hf hr1 (ht.on hB1)).mono ?_
    rintro e w2 ⟨rfl, hB2⟩
    go_wp2_with fail
    go_ret2
    exact ⟨ret_strb HX.out.symm rfl, below_one hB1 hB2⟩

end Go.Proofs.YtecgonopefeplaaGreatDoor
