/-
  Chapter 6: good sides, by the program.
-/
import Derived.Lib.AppendIntMem
import Derived.Shelf.Strconv.Itoa3
import Derived.Shelf.Strings.OnBuilder
import Derived.Test.YtnbojbcljfiamaaGreatDoorJDecideAsk5
import Derived.Test.YtnbojbcljfiamaaGreatDoorJDecideAsk0
import Derived.Test.YtnbojbcljfiamaaGreatDoorJDecideAsk1
import Derived.Test.YtnbojbcljfiamaaGreatDoorJDecideAsk4
import Derived.Test.YtnbojbcljfiamaaGreatDoorJDecideAsk2
import Derived.Laws.FloatArith
import Derived.WalkLawsBesides
import Derived.Shelf.Slices.Turned
import Derived.Test.YtnbojbcljfiamaaGreatDoorJDecideAsk3
namespace Go.Proofs.YtnbojbcljfiamaaGreatDoor
open Go.RowKit Go.Shelf

theorem text_len (k : Lk) (h : k.good = true) : k.text.size ≤ k.size + 23 := by
  obtain ⟨_, _, h3, h4, h5, _⟩ := (Lk.good_iff k).1 h
  have a1 := (itoa_len6 (show 0 ≤ k.se by omega) (by omega)).2
  have a2 := (itoa_len6 (show 0 ≤ k.fr by omega) (by omega)).2
  have a3 := (itoa_len6 (show 0 ≤ k.un by omega) (by omega)).2
  unfold Lk.text Lk.size
  simp only [ByteArray.size_append, numT_size, show (⟨#[32]⟩ : ByteArray).size = 1 from rfl, show (⟨#[59]⟩ : ByteArray).size = 1 from rfl]
  omega
theorem tkT_size {ks : List Lk} (hg : ∀ k ∈ ks, k.good = true) (hf : ∀ k ∈ ks, k.size ≤ 1048576) : ∀ n, n ≤ ks.length → (tkT (ks.take n)).size ≤ n * 1048600
  | 0, _ => by simp [tkT, tkL]; rfl
  | n + 1, hn => by
    have ih := tkT_size hg hf n (by omega)
    have hm := List.getElem_mem (show n < ks.length by omega)
    have h1 := text_len ks[n] (hg _ hm)
    have h2 := hf _ hm
    rw [tkT_succ (by omega), ByteArray.size_append]
    omega

set_option maxHeartbeats 4000000 in
theorem l3Text_any (v : Value) (ks : List Lk) (w : World) (hm : ks.length ≤ 1048577) (hg : ∀ k ∈ ks, k.good = true) (hf : ∀ k ∈ ks, k.size ≤ 1048576) (hr : LkS w v ks) :
    Calls Tryz.prog 161 #[v] w fun e w' => e = .returned (.string (tkT ks)) ∧ Below w.heap.size w w' := by
  obtain ⟨a, cap, rfl⟩ := hr.len
  have HZ := hid (fun n hn => tkT_size hg hf n hn)
  go_enter Tryz.func161, Tryz.ntmps161
  go_wp2
  go_loopw [3, 8] (fun s i wr => ∃ n : Nat, n ≤ ks.length ∧ s = .string (tkT (ks.take n)) ∧ i = .int .i64 n ∧ Below w.heap.size w wr) (fun _ i _ => ks.length - (intOf i).toNat)
  case atStart => exact ⟨0, Nat.zero_le _, by rw [List.take_zero, tkT_nil], rfl, Below.refl _ _⟩
  case round =>
    obtain ⟨n, hn, rfl, rfl, hB⟩ := hrel
    by_cases hlt : n < ks.length
    · obtain ⟨b, off, rfl, hb, hcap, q0, q1, q2, q3, q4⟩ := (hr.below hB).at hlt
      have hz := hf ks[n] (List.getElem_mem hlt)
      obtain ⟨_, _, b3, b4, b5, _⟩ := (Lk.good_iff ks[n]).1 (hg ks[n] (List.getElem_mem hlt))
      have hs := HZ.out n hn
      have hs2 : n * 1048600 ≤ 2000000000000 := by omega
      have HT := hid (tkT_succ hlt)
      generalize ks[n] = k at *
      generalize tkT (ks.take n) = s at *
      have h1n := fun W => l1Num_any k.se W (by omega) (by omega)
      have h2n := fun W => l1Num_any k.fr W (by omega) (by omega)
      have h3n := fun W => l1Num_any k.un W (by omega) (by omega)
      have z1 := (itoa_len6 (show 0 ≤ k.se by omega) (by omega)).2
      have z2 := (itoa_len6 (show 0 ≤ k.fr by omega) (by omega)).2
      have z3 := (itoa_len6 (show 0 ≤ k.un by omega) (by omega)).2
      rw [← numT_size] at z1 z2 z3
      have HX := hid (show k.text = k.who ++ ⟨#[32]⟩ ++ k.to ++ ⟨#[32]⟩ ++ numT k.se ++ ⟨#[32]⟩ ++ numT k.fr ++ ⟨#[32]⟩ ++ numT k.un ++ ⟨#[59]⟩ from rfl)
      generalize numT k.se = x1 at *
      generalize numT k.fr = x2 at *
      generalize numT k.un = x3 at *
      unfold Lk.size at hz
      have g1 : ¬9223372036854775807 < k.who.size + 1 := by omega
      have g2 : ¬9223372036854775807 < k.who.size + 1 + k.to.size := by omega
      have g3 : ¬9223372036854775807 < k.who.size + 1 + k.to.size + 1 := by omega
      have g4 : ¬9223372036854775807 < k.who.size + 1 + k.to.size + 1 + x1.size := by omega
      have g5 : ¬9223372036854775807 < k.who.size + 1 + k.to.size + 1 + x1.size + 1 := by omega
      have g6 : ¬9223372036854775807 < k.who.size + 1 + k.to.size + 1 + x1.size + 1 + x2.size := by omega
      have g7 : ¬9223372036854775807 < k.who.size + 1 + k.to.size + 1 + x1.size + 1 + x2.size + 1 := by omega
      have g8 : ¬9223372036854775807 < k.who.size + 1 + k.to.size + 1 + x1.size + 1 + x2.size + 1 + x3.size := by omega
      have g9 : ¬9223372036854775807 < k.who.size + 1 + k.to.size + 1 + x1.size + 1 + x2.size + 1 + x3.size + 1 := by omega
      have g10 : ¬9223372036854775807 < s.size + (k.who.size + 1 + k.to.size + 1 + x1.size + 1 + x2.size + 1 + x3.size + 1) := by omega
      have hBa : Below w.heap.size w (wr.alloc (.cells #[.string k.who, .string k.to, .int .i64 k.se, .int .i64 k.fr, .int .i64 k.un] 126)) := hB.alloc hB.size _
      go_wp2_with fail
      refine wp_region_held_drew (S := fun w' => w'.cell? ⟨wr.heap.size, 0, none⟩ = some (.string k.who) ∧ w'.cell? ⟨wr.heap.size, 1, none⟩ = some (.string k.to) ∧ w'.cell? ⟨wr.heap.size, 2, none⟩ = some (.int .i64 k.se) ∧ w'.cell? ⟨wr.heap.size, 3, none⟩ = some (.int .i64 k.fr) ∧ w'.cell? ⟨wr.heap.size, 4, none⟩ = some (.int .i64 k.un)) (by kernel_rfl) ?_ (fun hHeld => ?_)
      · go_keep
      refine takeW 0 (v := ?v1) rfl (by kernel_rfl) (by kernel_rfl) (by kernel_rfl) (fun _ _ _ h => h) (by rfl) (by assumption) ?hy1 ?rest1
      case hy1 => intro w' hSw; (try dsimp only at hSw); go_simp; try with_reducible rfl
      try simp only [Act.put, List.setIfInBounds_toArray, List.set_cons_zero, List.set_cons_succ]
      refine takeW 1 (v := ?v2) rfl (by kernel_rfl) (by kernel_rfl) (by kernel_rfl) (fun _ _ _ h => h) (by rfl) (by assumption) ?hy2 ?rest2
      case hy2 => intro w' hSw; (try dsimp only at hSw); go_simp; try with_reducible rfl
      try simp only [Act.put, List.setIfInBounds_toArray, List.set_cons_zero, List.set_cons_succ]
      refine takeW 2 (v := ?v3) rfl (by kernel_rfl) (by kernel_rfl) (by kernel_rfl) (fun _ _ _ h => h) (by rfl) (by assumption) ?hy3 ?rest3
      case hy3 => intro w' hSw; (try dsimp only at hSw); go_simp; try with_reducible rfl
      try simp only [Act.put, List.setIfInBounds_toArray, List.set_cons_zero, List.set_cons_succ]
      refine takeW 3 (v := ?v4) rfl (by kernel_rfl) (by kernel_rfl) (by kernel_rfl) (fun _ _ _ h => h) (by rfl) (by assumption) ?hy4 ?rest4
      case hy4 => intro w' hSw; (try dsimp only at hSw); go_simp; try with_reducible rfl
      try simp only [Act.put, List.setIfInBounds_toArray, List.set_cons_zero, List.set_cons_succ]
      refine takeW 4 (v := ?v5) rfl (by kernel_rfl) (by kernel_rfl) (by kernel_rfl) (fun _ _ _ h => h) (by rfl) (by assumption) ?hy5 ?rest5
      case hy5 => intro w' hSw; (try dsimp only at hSw); go_simp; try with_reducible rfl
      try simp only [Act.put, List.setIfInBounds_toArray, List.set_cons_zero, List.set_cons_succ]
      refine takeW 5 (v := ?v6) rfl (by kernel_rfl) (by kernel_rfl) (by kernel_rfl) (fun _ _ _ h => h) (by rfl) (by assumption) ?hy6 ?rest6
      case hy6 => intro w' hSw; (try dsimp only at hSw); go_simp; try with_reducible rfl
      try simp only [Act.put, List.setIfInBounds_toArray, List.set_cons_zero, List.set_cons_succ]
      refine takeW 6 (v := ?v7) rfl (by kernel_rfl) (by kernel_rfl) (by kernel_rfl) (fun _ _ _ h => h) (by rfl) (by assumption) ?hy7 ?rest7
      case hy7 => intro w' hSw; (try dsimp only at hSw); go_simp; try with_reducible rfl
      try simp only [Act.put, List.setIfInBounds_toArray, List.set_cons_zero, List.set_cons_succ]
      refine takeW 7 (v := ?v8) rfl (by kernel_rfl) (by kernel_rfl) (by kernel_rfl) (fun _ _ _ h => h) (by rfl) (by assumption) ?hy8 ?rest8
      case hy8 => intro w' hSw; (try dsimp only at hSw); go_simp; try with_reducible rfl
      try simp only [Act.put, List.setIfInBounds_toArray, List.set_cons_zero, List.set_cons_succ]
      refine takeW 8 (v := ?v9) rfl (by kernel_rfl) (by kernel_rfl) (by kernel_rfl) (fun _ _ _ h => h) (by rfl) (by assumption) ?hy9 ?rest9
      case hy9 => intro w' hSw; (try dsimp only at hSw); go_simp; try with_reducible rfl
      try simp only [Act.put, List.setIfInBounds_toArray, List.set_cons_zero, List.set_cons_succ]
      refine takeW 9 (v := ?v10) rfl (by kernel_rfl) (by kernel_rfl) (by kernel_rfl) (fun _ _ _ h => h) (by rfl) (by assumption) ?hy10 ?rest10
      case hy10 => intro w' hSw; (try dsimp only at hSw); go_simp; try with_reducible rfl
      try simp only [Act.put, List.setIfInBounds_toArray, List.set_cons_zero, List.set_cons_succ]
      refine takeW 13 (v := ?v11) rfl (by kernel_rfl) (by kernel_rfl) (by kernel_rfl) (fun _ _ _ h => h) (by rfl) (by assumption) ?hy11 ?rest11
      case hy11 => intro w' hSw; (try dsimp only at hSw); go_simp; try with_reducible rfl
      try simp only [Act.put, List.setIfInBounds_toArray, List.set_cons_zero, List.set_cons_succ]
      refine takeW 14 (v := ?v12) rfl (by kernel_rfl) (by kernel_rfl) (by kernel_rfl) (fun _ _ _ h => h) (by rfl) (by assumption) ?hy12 ?rest12
      case hy12 => intro w' hSw; (try dsimp only at hSw); go_simp; try with_reducible rfl
      try simp only [Act.put, List.setIfInBounds_toArray, List.set_cons_zero, List.set_cons_succ]
      refine takeW 18 (v := ?v13) rfl (by kernel_rfl) (by kernel_rfl) (by kernel_rfl) (fun _ _ _ h => h) (by rfl) (by assumption) ?hy13 ?rest13
      case hy13 => intro w' hSw; (try dsimp only at hSw); go_simp; try with_reducible rfl
      try simp only [Act.put, List.setIfInBounds_toArray, List.set_cons_zero, List.set_cons_succ]
      refine takeW 19 (v := ?v14) rfl (by kernel_rfl) (by kernel_rfl) (by kernel_rfl) (fun _ _ _ h => h) (by rfl) (by assumption) ?hy14 ?rest14
      case hy14 => intro w' hSw; (try dsimp only at hSw); go_simp; try with_reducible rfl
      try simp only [Act.put, List.setIfInBounds_toArray, List.set_cons_zero, List.set_cons_succ]
      refine takeC 10 (by kernel_rfl) rfl (fun K hK => ?_)
      go_simp
      refine (h1n _).mono ?_; rintro e w1 ⟨rfl, hB1⟩; have hc1 := fun o => hB1.cell (p := ⟨wr.heap.size, o, none⟩) (by simp); have hz1 : wr.heap.size < w1.heap.size := by have := hB1.size; simp at this; omega
      refine hK.out _ _ ?_ (fun hHeld => ?_)
      · go_keep
      clear hK K
      try simp only [Act.put, List.setIfInBounds_toArray, List.set_cons_zero, List.set_cons_succ]
      refine takeW 11 (v := ?v15) rfl (by kernel_rfl) (by kernel_rfl) (by kernel_rfl) (fun _ _ _ h => h) (by rfl) (by assumption) ?hy15 ?rest15
      case hy15 => intro w' hSw; (try dsimp only at hSw); go_simp; try with_reducible rfl
      try simp only [Act.put, List.setIfInBounds_toArray, List.set_cons_zero, List.set_cons_succ]
      refine takeW 12 (v := ?v16) rfl (by kernel_rfl) (by kernel_rfl) (by kernel_rfl) (fun _ _ _ h => h) (by rfl) (by assumption) ?hy16 ?rest16
      case hy16 => intro w' hSw; (try dsimp only at hSw); go_simp; try with_reducible rfl
      try simp only [Act.put, List.setIfInBounds_toArray, List.set_cons_zero, List.set_cons_succ]
      refine takeC 15 (by kernel_rfl) rfl (fun K hK => ?_)
      go_simp
      refine (h2n _).mono ?_; rintro e w2 ⟨rfl, hB2⟩; have hc2 := fun o => hB2.cell (p := ⟨wr.heap.size, o, none⟩) hz1; have hz2 : wr.heap.size < w2.heap.size := by have := hB2.size; omega
      refine hK.out _ _ ?_ (fun hHeld => ?_)
      · go_keep
      clear hK K
      try simp only [Act.put, List.setIfInBounds_toArray, List.set_cons_zero, List.set_cons_succ]
      refine takeW 16 (v := ?v17) rfl (by kernel_rfl) (by kernel_rfl) (by kernel_rfl) (fun _ _ _ h => h) (by rfl) (by assumption) ?hy17 ?rest17
      case hy17 => intro w' hSw; (try dsimp only at hSw); go_simp; try with_reducible rfl
      try simp only [Act.put, List.setIfInBounds_toArray, List.set_cons_zero, List.set_cons_succ]
      refine takeW 17 (v := ?v18) rfl (by kernel_rfl) (by kernel_rfl) (by kernel_rfl) (fun _ _ _ h => h) (by rfl) (by assumption) ?hy18 ?rest18
      case hy18 => intro w' hSw; (try dsimp only at hSw); go_simp; try with_reducible rfl
      try simp only [Act.put, List.setIfInBounds_toArray, List.set_cons_zero, List.set_cons_succ]
      refine takeC 20 (by kernel_rfl) rfl (fun K hK => ?_)
      go_simp
      refine (h3n _).mono ?_; rintro e w3 ⟨rfl, hB3⟩; have hc3 := fun o => hB3.cell (p := ⟨wr.heap.size, o, none⟩) hz2; have hz3 : wr.heap.size < w3.heap.size := by have := hB3.size; omega
      refine hK.out _ _ ?_ (fun hHeld => ?_)
      · go_keep
      clear hK K
      try simp only [Act.put, List.setIfInBounds_toArray, List.set_cons_zero, List.set_cons_succ]
      refine takeW 21 (v := ?v19) rfl (by kernel_rfl) (by kernel_rfl) (by kernel_rfl) (fun _ _ _ h => h) (by rfl) (by assumption) ?hy19 ?rest19
      case hy19 => intro w' hSw; (try dsimp only at hSw); go_simp; try with_reducible rfl
      try simp only [Act.put, List.setIfInBounds_toArray, List.set_cons_zero, List.set_cons_succ]
      refine takeW 22 (v := ?v20) rfl (by kernel_rfl) (by kernel_rfl) (by kernel_rfl) (fun _ _ _ h => h) (by rfl) (by assumption) ?hy20 ?rest20
      case hy20 => intro w' hSw; (try dsimp only at hSw); go_simp; try with_reducible rfl
      try simp only [Act.put, List.setIfInBounds_toArray, List.set_cons_zero, List.set_cons_succ]
      refine takeW 23 (v := ?v21) rfl (by kernel_rfl) (by kernel_rfl) (by kernel_rfl) (fun _ _ _ h => h) (by rfl) (by assumption) ?hy21 ?rest21
      case hy21 => intro w' hSw; (try dsimp only at hSw); go_simp; try with_reducible rfl
      try simp only [Act.put, List.setIfInBounds_toArray, List.set_cons_zero, List.set_cons_succ]
      refine takeW 24 (v := ?v22) rfl (by kernel_rfl) (by kernel_rfl) (by kernel_rfl) (fun _ _ _ h => h) (by rfl) (by assumption) ?hy22 ?rest22
      case hy22 => intro w' hSw; (try dsimp only at hSw); go_simp; try with_reducible rfl
      try simp only [Act.put, List.setIfInBounds_toArray, List.set_cons_zero, List.set_cons_succ]
      refine wpAnyH_done (by kernel_rfl) ?_ _
      have hBB := below_one (below_two hBa (below_drew1 hB1) hB2) hB3
      go_wp2
      go_roundw
      case rel => first | exact ⟨n + 1, by omega, by rw [HT.out, HX.out], by go_num, hBB⟩ | ((repeat apply Exists.intro); exact ⟨⟨n + 1, by omega, by rw [HT.out, HX.out], by go_num, hBB⟩, rfl⟩)
      case measure => simp [intOf]; omega
    · obtain rfl : n = ks.length := by omega
      have HE := hid (show tkT (ks.take ks.length) = tkT ks by rw [List.take_length])
      go_wp2
      go_ret
      exact ⟨ret_str HE.out, hB⟩

theorem strs5 (k : Lk) : Lib.join ([k.who, k.to, numT k.se, numT k.fr, numT k.un].map (·.data.toList)) (⟨#[32]⟩ : ByteArray).data.toList = k.body := by
  simp [Lib.join, Lk.body, numT]
/-- The five words of a link put together. -/
theorem join5_any (k : Lk) (g : Nat) (w : World) (hs : k.size ≤ 1048576) (hg : k.good = true) (hlt : g < w.heap.size)
    (h0 : w.cell? ⟨g, 0, none⟩ = some (.string k.who)) (h1 : w.cell? ⟨g, 1, none⟩ = some (.string k.to)) (h2 : w.cell? ⟨g, 2, none⟩ = some (.string (numT k.se))) (h3 : w.cell? ⟨g, 3, none⟩ = some (.string (numT k.fr))) (h4 : w.cell? ⟨g, 4, none⟩ = some (.string (numT k.un))) :
    Calls Tryz.prog 151 #[.slice (some ⟨g, 0, none⟩) 5 5, .string ⟨#[32]⟩] w fun e w' => e = .returned (.string ⟨k.body.toArray⟩) ∧ Below w.heap.size w w' := by
  have hl : k.body.length ≤ 1048600 := by
    have := text_len k hg
    have h : k.text.size = k.body.length + 1 := by
      show k.text.data.size = _
      rw [← Array.length_toList, Lk.text_list]
      simp
    omega
  have h := Any.strings_Join Tryz.lays156 Tryz.Builder_Extra_156 g 0 5 [k.who, k.to, numT k.se, numT k.fr, numT k.un] ⟨#[32]⟩ w (by
    intro j x hx
    match j, hx with
    | 0, hx => simp at hx; subst hx; simpa using h0
    | 1, hx => simp at hx; subst hx; simpa using h1
    | 2, hx => simp at hx; subst hx; simpa using h2
    | 3, hx => simp at hx; subst hx; simpa using h3
    | 4, hx => simp at hx; subst hx; simpa using h4
    | j + 5, hx => simp at hx) hlt (by simp) (by simp) (by rw [strs5]; omega)
  rw [strs5] at h
  exact h

/-- The builder as it is made. -/
theorem built_new3 (w : World) : Lib.IsBuilder 206 5 w.heap.size w.heap.size [] (w.alloc (.cells #[.pointer none, .slice none 0 0] 206)) :=
  .inl ⟨Nat.le_refl _, .slice none 0 0, by show (w.heap.push _)[w.heap.size]? = some _; simp, World.ownsRow_nil _ _ _ _, by simp [Value.ownBlock]⟩
theorem cells_link (k : Lk) (l : List UInt8) : (Lib.byteCells l ++ Lib.strCells ⟨k.body.toArray⟩) ++ [.int .u8 59] = Lib.byteCells (l ++ k.text.data.toList) := by
  rw [Lib.strCells_eq, Lk.text_list, Lib.byteCells_append, Lib.byteCells_append, List.append_assoc]
  rfl
theorem tkL_succ {ks : List Lk} {n : Nat} (h : n < ks.length) : tkL (ks.take (n + 1)) = tkL (ks.take n) ++ ks[n].text.data.toList := by
  unfold tkL
  rw [List.take_succ_eq_append_getElem h, List.flatMap_append]
  simp
theorem tkL_len (ks : List Lk) : (tkL ks).length = (tkT ks).size := by
  unfold tkT
  show _ = (tkL ks).toArray.size
  simp

set_option maxHeartbeats 4000000 in
theorem textOfToken_any (v : Value) (ks : List Lk) (w : World) (hm : ks.length ≤ 1048577) (hg : ∀ k ∈ ks, k.good = true) (hf : ∀ k ∈ ks, k.size ≤ 1048576) (hr : LkS w v ks) (ht : Tab w) :
    Calls Tryz.prog 114 #[v] w fun e w' => e = .returned (.string (tkT ks)) ∧ Below w.heap.size w w' := by
  obtain ⟨a, cap, rfl⟩ := hr.len
  have HZ := hid (fun n hn => tkT_size hg hf n hn)
  have hN := built_new3 w
  have hBn : Below w.heap.size w (w.alloc (.cells #[.pointer none, .slice none 0 0] 206)) := (Below.refl _ w).alloc (Nat.le_refl _) _
  have HTB := hid ht
  clear ht
  go_enter Tryz.func114, Tryz.ntmps114
  go_wp2
  go_loopw [9] (fun i wr => ∃ n : Nat, n ≤ ks.length ∧ i = .int .i64 n ∧ Lib.IsBuilder 206 5 w.heap.size w.heap.size (Lib.byteCells (tkL (ks.take n))) wr ∧ Below w.heap.size w wr) (fun i _ => ks.length - (intOf i).toNat)
  case atStart => exact ⟨0, Nat.zero_le _, rfl, hN, hBn⟩
  case round =>
    obtain ⟨n, hn, rfl, hI, hB⟩ := hrel
    have hs := HZ.out n hn
    rw [← tkL_len] at hs
    have hs2 : n * 1048600 ≤ 2000000000000 := by omega
    by_cases hlt : n < ks.length
    · obtain ⟨b, off, rfl, hb, hcap, q0, q1, q2, q3, q4⟩ := (hr.below hB).at hlt
      have hz := hf ks[n] (List.getElem_mem hlt)
      have hgd := hg ks[n] (List.getElem_mem hlt)
      obtain ⟨_, _, b3, b4, b5, _⟩ := (Lk.good_iff ks[n]).1 hgd
      have HS := hid (tkL_succ hlt)
      have HC := hid (cells_link ks[n] (tkL (ks.take n)))
      have htx := text_len ks[n] hgd
      generalize ks[n] = k at *
      generalize tkL (ks.take n) = l at *
      have h1n := fun W => itoa_any k.se W (by omega) (by omega)
      have h2n := fun W => itoa_any k.fr W (by omega) (by omega)
      have h3n := fun W => itoa_any k.un W (by omega) (by omega)
      have hJ := fun g W => join5_any k g W hz hgd
      have hbl : k.body.length ≤ 1048600 := by
        have h : k.text.size = k.body.length + 1 := by
          show k.text.data.size = _
          rw [← Array.length_toList, Lk.text_list]
          simp
        omega
      generalize numT k.se = x1 at *
      generalize numT k.fr = x2 at *
      generalize numT k.un = x3 at *
      have hBw : Below wr.heap.size wr (wr.alloc (.cells #[.string k.who, .string k.to, .int .i64 k.se, .int .i64 k.fr, .int .i64 k.un] 126)) := (Below.refl _ wr).alloc (Nat.le_refl _) _
      have hBa := below_one hB hBw
      have hIa := isB_below hI hBw
      have htr : Tab (wr.alloc (.cells #[.string k.who, .string k.to, .int .i64 k.se, .int .i64 k.fr, .int .i64 k.un] 126)).drew := HTB.out.on (hBa.drew)
      go_wp2_with fail
      refine wp_region_held_drew (S := fun w' => w'.cell? ⟨wr.heap.size, 0, none⟩ = some (.string k.who) ∧ w'.cell? ⟨wr.heap.size, 1, none⟩ = some (.string k.to) ∧ w'.cell? ⟨wr.heap.size, 2, none⟩ = some (.int .i64 k.se) ∧ w'.cell? ⟨wr.heap.size, 3, none⟩ = some (.int .i64 k.fr) ∧ w'.cell? ⟨wr.heap.size, 4, none⟩ = some (.int .i64 k.un)) (by kernel_rfl) ?_ (fun hHeld => ?_)
      · go_keep
      refine takeW 0 (v := ?v23) rfl (by kernel_rfl) (by kernel_rfl) (by kernel_rfl) (fun _ _ _ h => h) (by rfl) (by assumption) ?hy23 ?rest23
      case hy23 => intro w' hSw; (try dsimp only at hSw); go_simp; try with_reducible rfl
      try simp only [Act.put, List.setIfInBounds_toArray, List.set_cons_zero, List.set_cons_succ]
      refine takeW 1 (v := ?v24) rfl (by kernel_rfl) (by kernel_rfl) (by kernel_rfl) (fun _ _ _ h => h) (by rfl) (by assumption) ?hy24 ?rest24
      case hy24 => intro w' hSw; (try dsimp only at hSw); go_simp; try with_reducible rfl
      try simp only [Act.put, List.setIfInBounds_toArray, List.set_cons_zero, List.set_cons_succ]
      refine takeW 2 (v := ?v25) rfl (by kernel_rfl) (by kernel_rfl) (by kernel_rfl) (fun _ _ _ h => h) (by rfl) (by assumption) ?hy25 ?rest25
      case hy25 => intro w' hSw; (try dsimp only at hSw); go_simp; try with_reducible rfl
      try simp only [Act.put, List.setIfInBounds_toArray, List.set_cons_zero, List.set_cons_succ]
      refine takeW 3 (v := ?v26) rfl (by kernel_rfl) (by kernel_rfl) (by kernel_rfl) (fun _ _ _ h => h) (by rfl) (by assumption) ?hy26 ?rest26
      case hy26 => intro w' hSw; (try dsimp only at hSw); go_simp; try with_reducible rfl
      try simp only [Act.put, List.setIfInBounds_toArray, List.set_cons_zero, List.set_cons_succ]
      refine takeW 4 (v := ?v27) rfl (by kernel_rfl) (by kernel_rfl) (by kernel_rfl) (fun _ _ _ h => h) (by rfl) (by assumption) ?hy27 ?rest27
      case hy27 => intro w' hSw; (try dsimp only at hSw); go_simp; try with_reducible rfl
      try simp only [Act.put, List.setIfInBounds_toArray, List.set_cons_zero, List.set_cons_succ]
      refine takeW 5 (v := ?v28) rfl (by kernel_rfl) (by kernel_rfl) (by kernel_rfl) (fun _ _ _ h => h) (by rfl) (by assumption) ?hy28 ?rest28
      case hy28 => intro w' hSw; (try dsimp only at hSw); go_simp; try with_reducible rfl
      try simp only [Act.put, List.setIfInBounds_toArray, List.set_cons_zero, List.set_cons_succ]
      refine takeW 7 (v := ?v29) rfl (by kernel_rfl) (by kernel_rfl) (by kernel_rfl) (fun _ _ _ h => h) (by rfl) (by assumption) ?hy29 ?rest29
      case hy29 => intro w' hSw; (try dsimp only at hSw); go_simp; try with_reducible rfl
      try simp only [Act.put, List.setIfInBounds_toArray, List.set_cons_zero, List.set_cons_succ]
      refine takeW 8 (v := ?v30) rfl (by kernel_rfl) (by kernel_rfl) (by kernel_rfl) (fun _ _ _ h => h) (by rfl) (by assumption) ?hy30 ?rest30
      case hy30 => intro w' hSw; (try dsimp only at hSw); go_simp; try with_reducible rfl
      try simp only [Act.put, List.setIfInBounds_toArray, List.set_cons_zero, List.set_cons_succ]
      refine takeW 10 (v := ?v31) rfl (by kernel_rfl) (by kernel_rfl) (by kernel_rfl) (fun _ _ _ h => h) (by rfl) (by assumption) ?hy31 ?rest31
      case hy31 => intro w' hSw; (try dsimp only at hSw); go_simp; try with_reducible rfl
      try simp only [Act.put, List.setIfInBounds_toArray, List.set_cons_zero, List.set_cons_succ]
      refine takeW 11 (v := ?v32) rfl (by kernel_rfl) (by kernel_rfl) (by kernel_rfl) (fun _ _ _ h => h) (by rfl) (by assumption) ?hy32 ?rest32
      case hy32 => intro w' hSw; (try dsimp only at hSw); go_simp; try with_reducible rfl
      try simp only [Act.put, List.setIfInBounds_toArray, List.set_cons_zero, List.set_cons_succ]
      refine takeC 6 (by kernel_rfl) rfl (fun K hK => ?_)
      go_simp
      refine (h1n _ htr).mono ?_; rintro e w1 ⟨rfl, hB1⟩; have hc1 := fun o => hB1.cell (p := ⟨wr.heap.size, o, none⟩) (by simp); have hz1 : wr.heap.size < w1.heap.size := by have := hB1.size; simp at this; omega
      refine hK.out _ _ ?_ (fun hHeld => ?_)
      · go_keep
      clear hK K
      try simp only [Act.put, List.setIfInBounds_toArray, List.set_cons_zero, List.set_cons_succ]
      refine takeC 9 (by kernel_rfl) rfl (fun K hK => ?_)
      go_simp
      refine (h2n _ (htr.on hB1)).mono ?_; rintro e w2 ⟨rfl, hB2⟩; have hc2 := fun o => hB2.cell (p := ⟨wr.heap.size, o, none⟩) hz1; have hz2 : wr.heap.size < w2.heap.size := by have := hB2.size; omega
      refine hK.out _ _ ?_ (fun hHeld => ?_)
      · go_keep
      clear hK K
      try simp only [Act.put, List.setIfInBounds_toArray, List.set_cons_zero, List.set_cons_succ]
      refine takeC 12 (by kernel_rfl) rfl (fun K hK => ?_)
      go_simp
      refine (h3n _ ((htr.on hB1).on hB2)).mono ?_; rintro e w3 ⟨rfl, hB3⟩; have hc3 := fun o => hB3.cell (p := ⟨wr.heap.size, o, none⟩) hz2; have hz3 : wr.heap.size < w3.heap.size := by have := hB3.size; omega
      refine hK.out _ _ ?_ (fun hHeld => ?_)
      · go_keep
      clear hK K
      try simp only [Act.put, List.setIfInBounds_toArray, List.set_cons_zero, List.set_cons_succ]
      refine takeC 13 (by kernel_rfl) rfl (fun K hK => ?_)
      go_simp
      skip
      refine hK.out _ _ ?_ (fun hHeld => ?_)
      · go_keep
      clear hK K
      try simp only [Act.put, List.setIfInBounds_toArray, List.set_cons_zero, List.set_cons_succ]
      refine takeW 14 (v := ?v33) rfl (by kernel_rfl) (by kernel_rfl) (by kernel_rfl) (fun _ _ _ h => h) (by rfl) (by assumption) ?hy33 ?rest33
      case hy33 => intro w' hSw; (try dsimp only at hSw); go_simp; try with_reducible rfl
      try simp only [Act.put, List.setIfInBounds_toArray, List.set_cons_zero, List.set_cons_succ]
      refine wpAnyH_done (by kernel_rfl) ?_ _
      have hB01 : Below (wr.alloc (.cells #[.string k.who, .string k.to, .int .i64 k.se, .int .i64 k.fr, .int .i64 k.un] 126)).heap.size (wr.alloc (.cells #[.string k.who, .string k.to, .int .i64 k.se, .int .i64 k.fr, .int .i64 k.un] 126)) w1 := below_drew1 hB1
      have hB123 := below_one (below_one hB01 hB2) hB3
      have hI3 := isB_below hIa hB123
      have hBB3 := below_one hBa hB123
      have hBw4 : Below w3.heap.size w3 (w3.alloc (.cells #[.string k.who, .string k.to, .string x1, .string x2, .string x3] 9)) := (Below.refl _ w3).alloc (Nat.le_refl _) _
      have hI4 := isB_below hI3 hBw4
      have hBB4 := below_one hBB3 hBw4
      have hJ4 := hJ w3.heap.size (w3.alloc (.cells #[.string k.who, .string k.to, .string x1, .string x2, .string x3] 9)) (by simp) (by simp) (by simp) (by simp) (by simp) (by simp)
      clear hB hBw hBa hIa hI hB01 hB1 hB2 hB3 hB123 hI3 hBB3 hBw4 q0 q1 q2 q3 q4 hJ h1n h2n h3n hc1 hc2 hc3 hz1 hz2 hz3
      go_wp2_with fail
      refine hJ4.mono ?_
      rintro e w5 ⟨rfl, hB5⟩
      have hI5 := isB_below hI4 hB5
      have hBB5 := below_one hBB4 hB5
      have hz5 := hBB5.size
      clear hI4 hBB4 hB5 hJ4
      go_wp2_with fail
      refine (writeString_any w.heap.size w.heap.size _ ⟨k.body.toArray⟩ _ hI5 (by rw [Lib.byteCells_length]; show _ + k.body.toArray.size ≤ _; rw [List.size_toArray]; omega) hz5).mono ?_
      rintro e w6 ⟨rfl, hI6, hB6⟩
      have hBB6 := hBB5.trans hB6
      have hz6 := hBB6.size
      clear hI5 hBB5 hz5 hB6
      go_wp2_with fail
      refine (writeByte_any w.heap.size w.heap.size _ 59 _ (.inr hI6) (by rw [List.length_append, Lib.byteCells_length, Lib.strCells_length]; show _ + k.body.toArray.size + 1 ≤ _; rw [List.size_toArray]; omega) hz6).mono ?_
      rintro e w7 ⟨rfl, hI7, hB7⟩
      have hBB7 := hBB6.trans hB7
      rw [HC.out] at hI7
      clear hI6 hBB6 hz6 hB7
      go_wp2
      go_roundw
      case rel => exact ⟨n + 1, by omega, by go_num, by rw [HS.out]; exact .inr hI7, hBB7⟩
      case measure => simp [intOf]; omega
    · obtain rfl : n = ks.length := by omega
      have hzz := hB.size
      have HE := hid (show (⟨(tkL ks).toArray⟩ : ByteArray) = tkT ks from rfl)
      go_wp2_with fail
      refine (bString_any w.heap.size w.heap.size _ _ hI hzz).mono ?_
      rintro e w6 ⟨rfl, hB6⟩
      go_wp2_with fail
      go_ret
      exact ⟨ret_str HE.out, hB.trans hB6⟩

/-- The text of a token, none of what is none. -/
def ttX (ks : List Lk) : ByteArray := if tkB ks = true then tkT ks else ⟨#[]⟩
theorem ttX_no {ks : List Lk} (h : tkB ks = false) : ttX ks = ⟨#[]⟩ := if_neg (by rw [h]; exact Bool.false_ne_true)
theorem ttX_yes {ks : List Lk} (h : tkB ks = true) : ttX ks = tkT ks := if_pos h

end Go.Proofs.YtnbojbcljfiamaaGreatDoor

namespace Go.Proofs.YtnbojbcljfiamaaGreatDoor
open Go.RowKit Go.Shelf

/-- The texts of the first links. -/
def sgTo (ks : List Lk) (n : Nat) : List ByteArray := (List.range n).map (fun i => tkT (ks.take (i + 1)))
theorem sgTo_succ (ks : List Lk) (n : Nat) : sgTo ks (n + 1) = sgTo ks n ++ [tkT (ks.take (n + 1))] := by
  unfold sgTo
  rw [List.range_succ, List.map_append]
  rfl
theorem sgTo_len (ks : List Lk) (n : Nat) : (sgTo ks n).length = n := by simp [sgTo]
/-- What is signed of a token. -/
def sigL (ks : List Lk) : List ByteArray := if tkB ks = true then sgTo ks ks.length else []
theorem sigL_yes {ks : List Lk} (h : tkB ks = true) : sigL ks = sgTo ks ks.length := if_pos h
theorem sigL_no {ks : List Lk} (h : tkB ks = false) : sigL ks = [] := if_neg (by rw [h]; exact Bool.false_ne_true)
theorem sigL_le (ks : List Lk) : (sigL ks).length ≤ ks.length := by
  unfold sigL
  split
  · rw [sgTo_len]
    exact Nat.le_refl _
  · exact Nat.zero_le _
theorem row_base3 {w : World} {base base' : Nat} {e : TypeId} {size n : Nat} {v : Value} {xs : List Value} (hb : base' ≤ base) (h : w.ownsRow base e size v n xs) : w.ownsRow base' e size v n xs := by
  refine ⟨h.1, h.2.imp id ?_⟩
  rintro ⟨g, cap, cur, hv, hg, hrest⟩
  exact ⟨g, cap, cur, hv, Nat.le_trans hb hg, hrest⟩

set_option maxHeartbeats 2000000 in
theorem l3Signed_any (v : Value) (ks : List Lk) (w : World) (hm : ks.length ≤ 1048577) (hgd : ∀ k ∈ ks, k.good = true) (hf : ∀ k ∈ ks, k.size ≤ 1048576) (hr1 : LkS w v ks) :
    Calls Tryz.prog 133 #[v] w fun e w' => ∃ v', e = .returned v' ∧ w'.ownsRow w.heap.size 9 1 v' (sgTo ks ks.length).length (strs (sgTo ks ks.length)) ∧ Below w.heap.size w w' := by
  obtain ⟨a, cap, rfl⟩ := hr1.len
  obtain ⟨i0, hi, hz0, hz1, hz2⟩ := info_parts infoStr
  go_enter Tryz.func133, Tryz.ntmps133
  go_wp2
  go_loopw [3, 7] (fun out i wr => ∃ n : Nat, n ≤ ks.length ∧ i = .int .i64 n ∧ wr.ownsRow w.heap.size 9 1 out (sgTo ks n).length (strs (sgTo ks n)) ∧ Below w.heap.size w wr) (fun _ i _ => ks.length - (intOf i).toNat)
  case atStart => exact ⟨0, Nat.zero_le _, rfl, World.ownsRow_nil _ _ _ _, Below.refl _ _⟩
  case round =>
    obtain ⟨n, hn, rfl, hrow, hB⟩ := hrel
    by_cases hlt : n < ks.length
    · have hrB := hr1.below hB
      obtain ⟨b, off, rfl, hb, hcap, q0, q1, q2, q3, q4⟩ := hrB.at hlt
      have HT := hid (sgTo_succ ks n)
      have hln := sgTo_len ks n
      have hrT := hrB.take (n + 1) cap (by omega) (by omega)
      have hgT : ∀ k ∈ ks.take (n + 1), k.good = true := fun k hk => hgd k (List.mem_of_mem_take hk)
      have hfT : ∀ k ∈ ks.take (n + 1), k.size ≤ 1048576 := fun k hk => hf k (List.mem_of_mem_take hk)
      have hmT : (ks.take (n + 1)).length ≤ 1048577 := by rw [List.length_take]; omega
      have hc1 : (n : Int) + 1 ≤ (cap : Int) := by omega
      clear q0 q1 q2 q3 q4
      go_wp2_with fail
      refine (l3Text_any _ (ks.take (n + 1)) _ hmT hgT hfT hrT).mono ?_
      rintro e w2 ⟨rfl, hB2⟩
      have hrow2 := ownsRow_below hrow hB2
      have hBB := below_one hB hB2
      have hz3 := hBB.size
      generalize tkT (ks.take (n + 1)) = x at *
      clear hrow hB hB2 hrB hrT hgT hfT hmT
      go_wp2_with (at_builtin; refine wpList_append_own _ rfl _ _ 32 rfl w.heap.size 9 i0 (.string ByteArray.empty) 1 16 Tryz.underlying32 hi hz0 hz1 hz2 rfl (by decide) _ _ _ rfl (hrow2.alloc _) ⟨w2.heap.size, 0, none⟩ 1 1 [.string x] rfl rfl (cell_one_new _ _ _) (by simp [Value.oneCell']) (by simp [maxLen]; omega) (by omega) (by simp; omega) ?_; intro v' w3 hown' hgrow _; obtain ⟨g', cap', rfl⟩ := ownsRow_succ hown')
      go_roundw
      case rel =>
        refine ⟨n + 1, by omega, by go_num, ?_, hBB.trans (below_appended hz3 hrow2 hgrow)⟩
        rw [HT.out]
        simpa [strs, hln] using hown'
      case measure => simp [intOf]; omega
    · obtain rfl : n = ks.length := by omega
      go_wp2
      go_ret
      exact ⟨_, rfl, hrow, hB⟩

set_option maxHeartbeats 2000000 in
theorem implSignedOf_any (v : Value) (ks : List Lk) (w : World) (hm : ks.length ≤ 1048577) (hf : ∀ k ∈ ks, k.size ≤ 1048576) (hr : LkS w v ks) (ht : Tab w) :
    Calls Tryz.prog 78 #[v] w fun e w' => ∃ v', e = .returned (.tuple #[v', .bool (tkB ks)]) ∧ w'.ownsRow w.heap.size 9 1 v' (sigL ks).length (strs (sigL ks)) ∧ Below w.heap.size w w' := by
  obtain ⟨a, cap, rfl⟩ := hr.len
  obtain ⟨i0, hi, hz0, hz1, hz2⟩ := info_parts infoStr
  have HTB := hid ht
  clear ht
  cases hg : tkB ks
  · have HC := hid (sigL_no hg)
    go_enter Tryz.func78, Tryz.ntmps78
    go_wp2_with fail
    refine (implGoodToken_any _ ks _ hm hf hr).mono ?_
    rintro e w1 ⟨rfl, hB1⟩
    rw [hg]
    go_wp2_with fail
    go_ret2
    exact ⟨_, rfl, by rw [HC.out]; exact World.ownsRow_nil _ _ _ _, hB1⟩
  · have HC := hid (sigL_yes hg)
    have hgd := tkB_good hg
    go_enter Tryz.func78, Tryz.ntmps78
    go_wp2_with fail
    refine (implGoodToken_any _ ks _ hm hf hr).mono ?_
    rintro e w1 ⟨rfl, hB1⟩
    rw [hg]
    have hr1 := hr.below hB1
    clear hr
    go_wp2_with fail
    go_loopw [4, 11] (fun out i wr => ∃ n : Nat, n ≤ ks.length ∧ i = .int .i64 n ∧ wr.ownsRow w1.heap.size 9 1 out (sgTo ks n).length (strs (sgTo ks n)) ∧ Below w1.heap.size w1 wr) (fun _ i _ => ks.length - (intOf i).toNat)
    case atStart => exact ⟨0, Nat.zero_le _, rfl, World.ownsRow_nil _ _ _ _, Below.refl _ _⟩
    case round =>
      obtain ⟨n, hn, rfl, hrow, hB⟩ := hrel
      by_cases hlt : n < ks.length
      · have hrB := hr1.below hB
        obtain ⟨b, off, rfl, hb, hcap, q0, q1, q2, q3, q4⟩ := hrB.at hlt
        have HT := hid (sgTo_succ ks n)
        have hln := sgTo_len ks n
        have hrT := hrB.take (n + 1) cap (by omega) (by omega)
        have hgT : ∀ k ∈ ks.take (n + 1), k.good = true := fun k hk => hgd k (List.mem_of_mem_take hk)
        have hfT : ∀ k ∈ ks.take (n + 1), k.size ≤ 1048576 := fun k hk => hf k (List.mem_of_mem_take hk)
        have hmT : (ks.take (n + 1)).length ≤ 1048577 := by rw [List.length_take]; omega
        have hc1 : (n : Int) + 1 ≤ (cap : Int) := by omega
        clear q0 q1 q2 q3 q4
        go_wp2_with fail
        refine (textOfToken_any _ (ks.take (n + 1)) _ hmT hgT hfT hrT (HTB.out.on (below_one hB1 hB))).mono ?_
        rintro e w2 ⟨rfl, hB2⟩
        have hrow2 := ownsRow_below hrow hB2
        have hBB := below_one hB hB2
        have hz3 := hBB.size
        generalize tkT (ks.take (n + 1)) = x at *
        clear hrow hB hB2 hrB hrT hgT hfT hmT
        go_wp2_with (at_builtin; refine wpList_append_own _ rfl _ _ 32 rfl w1.heap.size 9 i0 (.string ByteArray.empty) 1 16 Tryz.underlying32 hi hz0 hz1 hz2 rfl (by decide) _ _ _ rfl (hrow2.alloc _) ⟨w2.heap.size, 0, none⟩ 1 1 [.string x] rfl rfl (cell_one_new _ _ _) (by simp [Value.oneCell']) (by simp [maxLen]; omega) (by omega) (by simp; omega) ?_; intro v' w3 hown' hgrow _; obtain ⟨g', cap', rfl⟩ := ownsRow_succ hown')
        go_roundw
        case rel =>
          refine ⟨n + 1, by omega, by go_num, ?_, hBB.trans (below_appended hz3 hrow2 hgrow)⟩
          rw [HT.out]
          simpa [strs, hln] using hown'
        case measure => simp [intOf]; omega
      · obtain rfl : n = ks.length := by omega
        go_wp2
        go_ret2
        exact ⟨_, rfl, by rw [HC.out]; exact row_base3 hB1.size hrow, below_one hB1 hB⟩

end Go.Proofs.YtnbojbcljfiamaaGreatDoor

namespace Go.Proofs.YtnbojbcljfiamaaGreatDoor
open Go.RowKit Go.Shelf

/-- An ask is one of a method and a path. -/
def rqB (a : Ak) : Bool := mthB a.me && gpB a.pa
def clO (a : Ak) (k : Lk) : Ca := ⟨k.who, a.me, a.pa⟩
/-- What is decided of one caller. -/
def clC (rs : List Ru) (a : Ak) (k : Lk) : Int := dC rs (clO a k) (List.range rs.length)
/-- None of the first n callers is denied. -/
def ndTo (rs : List Ru) (a : Ak) (n : Nat) : Bool := (a.tk.take n).all (fun k => !(clC rs a k == 2))
theorem ndTo_zero (rs : List Ru) (a : Ak) : ndTo rs a 0 = true := by simp [ndTo]
theorem ndTo_succ {rs : List Ru} {a : Ak} {n : Nat} (h : n < a.tk.length) : ndTo rs a (n + 1) = (ndTo rs a n && !(clC rs a a.tk[n] == 2)) := by
  unfold ndTo
  rw [List.take_succ_eq_append_getElem h, List.all_append]
  simp
/-- What is decided of the last of the first n callers, nothing yet where there is none. -/
def lsC (rs : List Ru) (a : Ak) (n : Nat) : Int := match n with
  | 0 => 3
  | n + 1 => match a.tk[n]? with
    | some k => clC rs a k
    | none => 3
theorem lsC_succ {rs : List Ru} {a : Ak} {n : Nat} (h : n < a.tk.length) : lsC rs a (n + 1) = clC rs a a.tk[n] := by
  show (match a.tk[n]? with | some k => clC rs a k | none => 3) = _
  rw [List.getElem?_eq_getElem h]
/-- What is decided of all callers. -/
def dcX (rs : List Ru) (a : Ak) : Int := if ndTo rs a a.tk.length = true then lsC rs a a.tk.length else 2
theorem nd_no {rs : List Ru} {a : Ak} {n : Nat} (h : n < a.tk.length) (hd : (clC rs a a.tk[n] == 2) = true) : dcX rs a = 2 := by
  unfold dcX
  have : ndTo rs a a.tk.length = false := by
    unfold ndTo
    rw [List.take_length]
    exact List.all_eq_false.2 ⟨a.tk[n], List.getElem_mem h, by rw [hd]; simp⟩
  rw [this, if_neg (by simp)]
theorem nd_end {rs : List Ru} {a : Ak} (h : ndTo rs a a.tk.length = true) : dcX rs a = lsC rs a a.tk.length := if_pos h
/-- What is told of a good side and an ask of a method and a path. -/
def dkY (s : Sd) (a : Ak) (ss : List ByteArray) (nw : Int) (q : ByteArray) : Int × Int :=
  if (s.fo.num == 0) = true then (4, 0) else if (s.co == 0) = false then (5, 0)
  else if (chkX a.tk (sgTo a.tk a.tk.length) ss nw s.fo.rv q == 0) = false then (6, chkX a.tk (sgTo a.tk a.tk.length) ss nw s.fo.rv q)
  else if (dcX s.fo.pol a == 1) = false then (7, dcX s.fo.pol a) else (0, 0)
def dkX (s : Sd) (a : Ak) (ss : List ByteArray) (nw : Int) (q : ByteArray) : Int × Int := if (sdB s && rqB a) = true then dkY s a ss nw q else (1, 0)
theorem dkX_no {s : Sd} {a : Ak} (ss : List ByteArray) (nw : Int) (q : ByteArray) (h : (sdB s && rqB a) = false) : dkX s a ss nw q = (1, 0) := if_neg (by rw [h]; simp)
theorem dkX_yes {s : Sd} {a : Ak} (ss : List ByteArray) (nw : Int) (q : ByteArray) (h : sdB s = true) (h2 : rqB a = true) : dkX s a ss nw q = dkY s a ss nw q := if_pos (by rw [h, h2]; rfl)
theorem dkY_4 {s : Sd} (a : Ak) (ss : List ByteArray) (nw : Int) (q : ByteArray) (h : (s.fo.num == 0) = true) : dkY s a ss nw q = (4, 0) := if_pos h
theorem dkY_5 {s : Sd} (a : Ak) (ss : List ByteArray) (nw : Int) (q : ByteArray) (h : (s.fo.num == 0) = false) (h2 : (s.co == 0) = false) : dkY s a ss nw q = (5, 0) := by
  unfold dkY; rw [if_neg (by rw [h]; simp), if_pos h2]
theorem dkY_6 {s : Sd} {a : Ak} {ss : List ByteArray} {nw : Int} {q : ByteArray} (h : (s.fo.num == 0) = false) (h2 : (s.co == 0) = true) (h3 : (chkX a.tk (sgTo a.tk a.tk.length) ss nw s.fo.rv q == 0) = false) : dkY s a ss nw q = (6, chkX a.tk (sgTo a.tk a.tk.length) ss nw s.fo.rv q) := by
  unfold dkY; rw [if_neg (by rw [h]; simp), if_neg (by rw [h2]; simp), if_pos h3]
theorem dkY_7 {s : Sd} {a : Ak} {ss : List ByteArray} {nw : Int} {q : ByteArray} (h : (s.fo.num == 0) = false) (h2 : (s.co == 0) = true) (h3 : (chkX a.tk (sgTo a.tk a.tk.length) ss nw s.fo.rv q == 0) = true) (h4 : (dcX s.fo.pol a == 1) = false) : dkY s a ss nw q = (7, dcX s.fo.pol a) := by
  unfold dkY; rw [if_neg (by rw [h]; simp), if_neg (by rw [h2]; simp), if_neg (by rw [h3]; simp), if_pos h4]
theorem dkY_0 {s : Sd} {a : Ak} {ss : List ByteArray} {nw : Int} {q : ByteArray} (h : (s.fo.num == 0) = false) (h2 : (s.co == 0) = true) (h3 : (chkX a.tk (sgTo a.tk a.tk.length) ss nw s.fo.rv q == 0) = true) (h4 : (dcX s.fo.pol a == 1) = true) : dkY s a ss nw q = (0, 0) := by
  unfold dkY; rw [if_neg (by rw [h]; simp), if_neg (by rw [h2]; simp), if_neg (by rw [h3]; simp), if_neg (by rw [h4]; simp)]
theorem chk_tk {ks : List Lk} {sg ss : List ByteArray} {nw : Int} {zs : List Int} {q : ByteArray} (h : (chkX ks sg ss nw zs q == 0) = true) : tkB ks = true := by
  cases hb : tkB ks
  · rw [chkX_no1 sg ss nw zs q hb] at h
    exact absurd h (by decide)
  · rfl
theorem ret2 {x y : Int} {p : Int × Int} (h : p = (x, y)) : Ending.returned (.tuple #[.int .i64 x, .int .i64 y]) = .returned (.tuple #[.int .i64 p.1, .int .i64 p.2]) := by rw [h]

end Go.Proofs.YtnbojbcljfiamaaGreatDoor

namespace Go.Proofs.YtnbojbcljfiamaaGreatDoor
open Go.RowKit Go.Shelf

/-- A rule's patterns match a call. -/
def mcB (r : Ru) (c : Ca) : Bool := (cmB r.method c.method && mtnB r.who c.who) && mtpB r.path c.path
theorem mtn_mn {s t : ByteArray} (h1 : nmB (split s 47) = true) (h2 : gnB (split t 47) = true) : mtnB s t = mnB (split s 47) (split t 47) := by
  have h3 := gn_nm h2
  obtain ⟨x, y, he⟩ := nm_two h1
  obtain ⟨u, v, hf⟩ := nm_two h3
  unfold mtnB cnOk cnB
  rw [h1, h2, h3, he, hf]
  rw [he] at h1
  rw [hf] at h3
  rw [cv_names h1 h3]
  simp [mnB]
theorem spk_eq {r : Ru} {c : Ca} (hr : r.good = true) (hc : c.good = true) : mcB r c = spkB r c := by
  unfold Ru.good at hr
  unfold Ca.good at hc
  simp only [Bool.and_eq_true] at hr hc
  unfold mcB spkB cmB
  rw [mtn_mn hr.1.1 hc.1.1, mt_lm hr.1.2 hc.1.2]
  cases mnB (split r.who 47) (split c.who 47) <;> cases lmB (wL r.path) (wL c.path) <;> cases (starB r.method || eqB r.method c.method) <;> rfl

set_option maxHeartbeats 1000000 in
theorem matchesCall_any (r : Ru) (c : Ca) (w : World) (hr : r.size ≤ 1048576) (hc : c.size ≤ 1048576) :
    Calls Tryz.prog 232 #[r.val, c.val] w fun e w' => e = .returned (.bool (mcB r c)) ∧ Below w.heap.size w w' := by
  have hw1 : r.who.size ≤ 1048576 := by unfold Ru.size at hr; omega
  have hw2 : c.who.size ≤ 1048576 := by unfold Ca.size at hc; omega
  have hp1 : r.path.size ≤ 1048576 := by unfold Ru.size at hr; omega
  have hp2 : c.path.size ≤ 1048576 := by unfold Ca.size at hc; omega
  have hBa : Below w.heap.size w ((w.alloc (.cells #[.bool r.deny, .string r.who, .string r.method, .string r.path] 122)).alloc (.cells #[.string c.who, .string c.method, .string c.path] 130)) := ((Below.refl _ w).alloc (Nat.le_refl _) _).alloc (by simp) _
  have x3 : ((w.alloc (.cells #[.bool r.deny, .string r.who, .string r.method, .string r.path] 122)).alloc (.cells #[.string c.who, .string c.method, .string c.path] 130)).cell? ⟨w.heap.size, 3, none⟩ = some (.string r.path) := by simp
  have y2 : ((w.alloc (.cells #[.bool r.deny, .string r.who, .string r.method, .string r.path] 122)).alloc (.cells #[.string c.who, .string c.method, .string c.path] 130)).cell? ⟨w.heap.size + 1, 2, none⟩ = some (.string c.path) := by simp
  have hz : ((w.alloc (.cells #[.bool r.deny, .string r.who, .string r.method, .string r.path] 122)).alloc (.cells #[.string c.who, .string c.method, .string c.path] 130)).heap.size = w.heap.size + 2 := by simp
  have HZ := hid hz
  clear hz
  cases m1 : cmB r.method c.method
  · have HR := hid (show mcB r c = false by unfold mcB; rw [m1]; rfl)
    go_enter Tryz.func232, Tryz.ntmps232
    go_wp2_with fail
    refine (coversMethod_any _ _ _).mono ?_
    rintro e w1 ⟨rfl, rfl⟩
    rw [m1]
    go_wp2_with fail
    go_ret
    exact ⟨ret_bool HR.out.symm, hBa⟩
  · cases m2 : mtnB r.who c.who
    · have HR := hid (show mcB r c = false by unfold mcB; rw [m1, m2]; rfl)
      go_enter Tryz.func232, Tryz.ntmps232
      go_wp2_with fail
      refine (coversMethod_any _ _ _).mono ?_
      rintro e w1 ⟨rfl, rfl⟩
      rw [m1]
      go_wp2_with fail
      refine (implMatchName_any _ _ _ hw1 hw2).mono ?_
      rintro e w2 ⟨rfl, hB2⟩
      rw [m2]
      have hBB := below_one hBa hB2
      go_wp2_with fail
      go_ret
      exact ⟨ret_bool HR.out.symm, hBB⟩
    · have HR := hid (show mcB r c = mtpB r.path c.path by unfold mcB; rw [m1, m2]; rfl)
      go_enter Tryz.func232, Tryz.ntmps232
      go_wp2_with fail
      refine (coversMethod_any _ _ _).mono ?_
      rintro e w1 ⟨rfl, rfl⟩
      rw [m1]
      go_wp2_with fail
      refine (implMatchName_any _ _ _ hw1 hw2).mono ?_
      rintro e w2 ⟨rfl, hB2⟩
      rw [m2]
      have hBB := below_one hBa hB2
      have q3 := (hB2.cell (p := ⟨w.heap.size, 3, none⟩) (by have := HZ.out; simp only; omega)).trans x3
      have q2 := (hB2.cell (p := ⟨w.heap.size + 1, 2, none⟩) (by have := HZ.out; simp only; omega)).trans y2
      clear hB2 x3 y2
      go_wp2_with fail
      refine (implMatchPath_any _ _ _ hp1 hp2).mono ?_
      rintro e w3 ⟨rfl, hB3⟩
      go_wp2_with fail
      go_ret
      exact ⟨ret_bool HR.out.symm, below_one hBB hB3⟩

theorem methSpeaksA (v : Value) (w : World) : (method 386 234 v "loop.example/g00167/impl.speaksOf").run Tryz.prog w = .ok (243, v) w := by kernel_rfl
theorem methDecidesA (v : Value) (w : World) : (method 386 234 v "loop.example/g00167/impl.decides").run Tryz.prog w = .ok (241, v) w := by kernel_rfl

set_option maxHeartbeats 400000 in
theorem decidesA_any (a b p : ByteArray) (w : World) :
    Calls Tryz.prog 241 #[.agg #[.bool false, .string a, .string b, .string p]] w fun e w' => e = .returned (.int .i64 1) ∧ Below w.heap.size w w' := by
  go_enter Tryz.func241, Tryz.ntmps241
  go_wp2
  go_ret
  exact ⟨rfl, (Below.refl _ w).alloc (Nat.le_refl _) _⟩

set_option maxHeartbeats 400000 in
theorem speaksOfA_any (a b p : ByteArray) (c : Ca) (w : World) (hr : a.size + b.size + p.size ≤ 1048576) (hc : c.size ≤ 1048576) :
    Calls Tryz.prog 243 #[.agg #[.bool false, .string a, .string b, .string p], c.val] w fun e w' => e = .returned (.bool (mcB ⟨false, a, b, p⟩ c)) ∧ Below w.heap.size w w' := by
  have hBa : Below w.heap.size w ((w.alloc (.cells #[.bool false, .string a, .string b, .string p] 234)).alloc (.cells #[.string c.who, .string c.method, .string c.path] 130)) := ((Below.refl _ w).alloc (Nat.le_refl _) _).alloc (by simp) _
  go_enter Tryz.func243, Tryz.ntmps243
  go_wp2_with fail
  refine (matchesCall_any ⟨false, a, b, p⟩ c _ hr hc).mono ?_
  rintro e w1 ⟨rfl, hB1⟩
  go_wp2_with fail
  go_ret
  exact ⟨rfl, below_one hBa hB1⟩

theorem methSpeaksD (v : Value) (w : World) : (method 386 233 v "loop.example/g00167/impl.speaksOf").run Tryz.prog w = .ok (230, v) w := by kernel_rfl
theorem methDecidesD (v : Value) (w : World) : (method 386 233 v "loop.example/g00167/impl.decides").run Tryz.prog w = .ok (228, v) w := by kernel_rfl

set_option maxHeartbeats 400000 in
theorem decidesD_any (a b p : ByteArray) (w : World) :
    Calls Tryz.prog 228 #[.agg #[.bool true, .string a, .string b, .string p]] w fun e w' => e = .returned (.int .i64 2) ∧ Below w.heap.size w w' := by
  go_enter Tryz.func228, Tryz.ntmps228
  go_wp2
  go_ret
  exact ⟨rfl, (Below.refl _ w).alloc (Nat.le_refl _) _⟩

set_option maxHeartbeats 400000 in
theorem speaksOfD_any (a b p : ByteArray) (c : Ca) (w : World) (hr : a.size + b.size + p.size ≤ 1048576) (hc : c.size ≤ 1048576) :
    Calls Tryz.prog 230 #[.agg #[.bool true, .string a, .string b, .string p], c.val] w fun e w' => e = .returned (.bool (mcB ⟨true, a, b, p⟩ c)) ∧ Below w.heap.size w w' := by
  have hBa : Below w.heap.size w ((w.alloc (.cells #[.bool true, .string a, .string b, .string p] 233)).alloc (.cells #[.string c.who, .string c.method, .string c.path] 130)) := ((Below.refl _ w).alloc (Nat.le_refl _) _).alloc (by simp) _
  go_enter Tryz.func230, Tryz.ntmps230
  go_wp2_with fail
  refine (matchesCall_any ⟨true, a, b, p⟩ c _ hr hc).mono ?_
  rintro e w1 ⟨rfl, hB1⟩
  go_wp2_with fail
  go_ret
  exact ⟨rfl, below_one hBa hB1⟩

/-- The first rule that allows, so far. -/
def alI : Option Nat → Int
  | some k => k
  | none => -1
theorem al_no {rs : List Ru} {c : Ca} {of : List Nat} {m : Nat} (h : m < of.length) (hh : hitAt rs c false of[m] = false) : (of.take (m + 1)).find? (hitAt rs c false) = (of.take m).find? (hitAt rs c false) := by
  rw [List.take_succ_eq_append_getElem h, List.find?_append, List.find?_cons, hh]
  simp
theorem al_new {rs : List Ru} {c : Ca} {of : List Nat} {m : Nat} (h : m < of.length) (hn : (of.take m).find? (hitAt rs c false) = none) (hh : hitAt rs c false of[m] = true) : (of.take (m + 1)).find? (hitAt rs c false) = some of[m] := by
  rw [List.take_succ_eq_append_getElem h, List.find?_append, List.find?_cons, hh, hn]
  rfl
theorem al_old {rs : List Ru} {c : Ca} {of : List Nat} {m j : Nat} (h : m < of.length) (hn : (of.take m).find? (hitAt rs c false) = some j) : (of.take (m + 1)).find? (hitAt rs c false) = some j := by
  rw [List.take_succ_eq_append_getElem h, List.find?_append, hn]
  rfl

set_option maxHeartbeats 2000000 in
theorem decideAmong_any (v vo : Value) (rs : List Ru) (of : List Nat) (c : Ca) (base : Nat) (w : World) (_hm : rs.length ≤ 1048577) (hmo : of.length ≤ 1048577) (hfz : ∀ r ∈ rs, r.size ≤ 1048576) (hc : c.size ≤ 1048576) (hgood : ∀ r ∈ rs, r.good = true) (hcg : c.good = true) (hof : ∀ k ∈ of, k < rs.length) (hr : RuS w v rs) (hro : w.ownsRow base 3 1 vo of.length (ints of)) :
    Calls Tryz.prog 120 #[v, vo, c.val] w fun e w' => e = .returned (.tuple #[.int .i64 (decC rs c of), .int .i64 (decK rs c of)]) ∧ Below w.heap.size w w' := by
  obtain ⟨a, cap, rfl⟩ := hr.len
  obtain ⟨ao, capo, rfl⟩ := ownsRow_len hro
  have hA := methSpeaksA
  have hD := methSpeaksD
  have hA' := methDecidesA
  have hD' := methDecidesD
  have hW0 : Below w.heap.size w (w.alloc (.cells #[.string c.who, .string c.method, .string c.path] 130)) := (Below.refl _ w).alloc (Nat.le_refl _) _
  have b0 : (w.alloc (.cells #[.string c.who, .string c.method, .string c.path] 130)).cell? ⟨w.heap.size, 0, none⟩ = some (.string c.who) := by simp
  have b1 : (w.alloc (.cells #[.string c.who, .string c.method, .string c.path] 130)).cell? ⟨w.heap.size, 1, none⟩ = some (.string c.method) := by simp
  have b2 : (w.alloc (.cells #[.string c.who, .string c.method, .string c.path] 130)).cell? ⟨w.heap.size, 2, none⟩ = some (.string c.path) := by simp
  have HW0s := hid (show (w.alloc (.cells #[.string c.who, .string c.method, .string c.path] 130)).heap.size = w.heap.size + 1 by simp)
  have hr0 := hr.below hW0
  have hrow0 := ownsRow_below hro hW0
  go_enter Tryz.func120, Tryz.ntmps120
  go_wp2
  generalize (w.alloc (.cells #[.string c.who, .string c.method, .string c.path] 130)) = W0 at *
  clear hr hro
  go_loopw [8, 14] (fun av i wr => ∃ (m : Nat) (al : Option Nat), m ≤ of.length ∧ av = .int .i64 (alI al) ∧ i = .int .i64 m ∧ noTo rs c true of m = true ∧ (of.take m).find? (hitAt rs c false) = al ∧ Below W0.heap.size W0 wr) (fun _ i _ => of.length - (intOf i).toNat)
  case atStart => exact ⟨0, none, Nat.zero_le _, rfl, rfl, noTo_zero _ _ _ _, by simp, Below.refl _ _⟩
  case round =>
    obtain ⟨m, al, hm1, rfl, rfl, hno, hal, hB⟩ := hrel
    have HN := hid hno
    have HA := hid hal
    clear hno hal
    by_cases hlt : m < of.length
    · have hkk := hof of[m] (List.getElem_mem hlt)
      obtain ⟨go, rfl⟩ := row_some hrow0 hlt
      have ho := (hB.cell (p := ⟨go, m, none⟩) (cell_lt (int_cell hrow0 hlt))).trans (int_cell hrow0 hlt)
      have HS := hid (noTo_succ (rs := rs) (c := c) (d := true) hlt)
      have HF := hid (fun h => find_at (rs := rs) (c := c) (d := true) (k := m) hlt HN.out h)
      have HAn := hid (fun h => al_no (rs := rs) (c := c) hlt h)
      have HAw := hid (fun h h' => al_new (rs := rs) (c := c) hlt h h')
      have HAo := hid (fun (j : Nat) h => al_old (rs := rs) (c := c) (j := j) hlt h)
      generalize of[m] = kk at *
      obtain ⟨b, off, rfl, hb, hcap, q0, q1, q2, q3⟩ := (hr0.below hB).at hkk
      have HKt := hid (hitAt_lt (c := c) (d := true) hkk)
      have HKf := hid (hitAt_lt (c := c) (d := false) hkk)
      have hz := hfz rs[kk] (List.getElem_mem hkk)
      have HM := hid (spk_eq (hgood rs[kk] (List.getElem_mem hkk)) hcg)
      generalize rs[kk] = r at *
      have x0 := (hB.cell (p := ⟨w.heap.size, 0, none⟩) (by rw [HW0s.out]; simp)).trans b0
      have x1 := (hB.cell (p := ⟨w.heap.size, 1, none⟩) (by rw [HW0s.out]; simp)).trans b1
      have x2 := (hB.cell (p := ⟨w.heap.size, 2, none⟩) (by rw [HW0s.out]; simp)).trans b2
      have hzz : w.heap.size < wr.heap.size := by have := hB.size; have := HW0s.out; omega
      obtain ⟨dd, wh, me, pa⟩ := r
      dsimp only at q0 q1 q2 q3
      unfold Ru.size at hz
      dsimp only at hz
      cases dd
      · cases hs' : spkB ⟨false, wh, me, pa⟩ c
        · have HN1 := hid (show noTo rs c true of (m + 1) = true by rw [HS.out, HN.out, HKt.out, hs']; rfl)
          have HA1 := hid (show (of.take (m + 1)).find? (hitAt rs c false) = al from (HAn.out (by rw [HKf.out, hs']; rfl)).trans HA.out)
          have hs := HM.out.trans hs'
          go_wp2_with fail
          refine (voiceOfA_any wh me pa _).mono ?_
          rintro e w1 ⟨rfl, rfl⟩
          have hv : Below wr.heap.size wr (wr.alloc (.cells #[.bool false, .string wh, .string me, .string pa] 122)) := (Below.refl _ wr).alloc (Nat.le_refl _) _
          have z0 := (hv.cell (p := ⟨w.heap.size, 0, none⟩) hzz).trans x0
          have z1 := (hv.cell (p := ⟨w.heap.size, 1, none⟩) hzz).trans x1
          have z2 := (hv.cell (p := ⟨w.heap.size, 2, none⟩) hzz).trans x2
          have hBv := below_one hB hv
          clear hv
          generalize wr.alloc (.cells #[.bool false, .string wh, .string me, .string pa] 122) = w1 at *
          go_wp2_with fail
          refine (speaksOfA_any wh me pa c _ hz hc).mono ?_
          rintro e w2 ⟨rfl, hB2⟩
          rw [hs]
          have hBB2 := below_one hBv hB2
          clear hB2 z0 z1 z2
          go_wp2
          go_roundw
          case rel => exact ⟨m + 1, al, by omega, rfl, by go_num, HN1.out, HA1.out, hBB2⟩
          case measure => simp [intOf]; omega
        · have HN1 := hid (show noTo rs c true of (m + 1) = true by rw [HS.out, HN.out, HKt.out]; rfl)
          have hh := hid (show hitAt rs c false kk = true by rw [HKf.out, hs']; rfl)
          have hs := HM.out.trans hs'
          cases al with
          | none =>
            have HA1 := hid (HAw.out HA.out hh.out)
            unfold alI
            go_wp2_with fail
            refine (voiceOfA_any wh me pa _).mono ?_
            rintro e w1 ⟨rfl, rfl⟩
            have hv : Below wr.heap.size wr (wr.alloc (.cells #[.bool false, .string wh, .string me, .string pa] 122)) := (Below.refl _ wr).alloc (Nat.le_refl _) _
            have z0 := (hv.cell (p := ⟨w.heap.size, 0, none⟩) hzz).trans x0
            have z1 := (hv.cell (p := ⟨w.heap.size, 1, none⟩) hzz).trans x1
            have z2 := (hv.cell (p := ⟨w.heap.size, 2, none⟩) hzz).trans x2
            have hBv := below_one hB hv
            clear hv
            generalize wr.alloc (.cells #[.bool false, .string wh, .string me, .string pa] 122) = w1 at *
            go_wp2_with fail
            refine (speaksOfA_any wh me pa c _ hz hc).mono ?_
            rintro e w2 ⟨rfl, hB2⟩
            rw [hs]
            have hBB2 := below_one hBv hB2
            clear hB2 z0 z1 z2
            go_wp2_with fail
            refine (decidesA_any wh me pa _).mono ?_
            rintro e w3 ⟨rfl, hB3⟩
            have hBB3 := below_one hBB2 hB3
            clear hB3
            go_wp2
            go_roundw
            case rel => exact ⟨m + 1, some kk, by omega, rfl, by go_num, HN1.out, HA1.out, hBB3⟩
            case measure => simp [intOf]; omega
          | some j =>
            have HA1 := hid (HAo.out j HA.out)
            have hd0 : decide ((j : Int) < 0) = false := by simp
            unfold alI
            go_wp2_with fail
            refine (voiceOfA_any wh me pa _).mono ?_
            rintro e w1 ⟨rfl, rfl⟩
            have hv : Below wr.heap.size wr (wr.alloc (.cells #[.bool false, .string wh, .string me, .string pa] 122)) := (Below.refl _ wr).alloc (Nat.le_refl _) _
            have z0 := (hv.cell (p := ⟨w.heap.size, 0, none⟩) hzz).trans x0
            have z1 := (hv.cell (p := ⟨w.heap.size, 1, none⟩) hzz).trans x1
            have z2 := (hv.cell (p := ⟨w.heap.size, 2, none⟩) hzz).trans x2
            have hBv := below_one hB hv
            clear hv
            generalize wr.alloc (.cells #[.bool false, .string wh, .string me, .string pa] 122) = w1 at *
            go_wp2_with fail
            refine (speaksOfA_any wh me pa c _ hz hc).mono ?_
            rintro e w2 ⟨rfl, hB2⟩
            rw [hs]
            have hBB2 := below_one hBv hB2
            clear hB2 z0 z1 z2
            go_wp2_with fail
            refine (decidesA_any wh me pa _).mono ?_
            rintro e w3 ⟨rfl, hB3⟩
            have hBB3 := below_one hBB2 hB3
            clear hB3
            go_wp2
            go_roundw
            case rel => exact ⟨m + 1, some j, by omega, rfl, by go_num, HN1.out, HA1.out, hBB3⟩
            case measure => simp [intOf]; omega
      · cases hs' : spkB ⟨true, wh, me, pa⟩ c
        · have HN1 := hid (show noTo rs c true of (m + 1) = true by rw [HS.out, HN.out, HKt.out, hs']; rfl)
          have HA1 := hid (show (of.take (m + 1)).find? (hitAt rs c false) = al from (HAn.out (by rw [HKf.out, hs']; rfl)).trans HA.out)
          have hs := HM.out.trans hs'
          go_wp2_with fail
          refine (voiceOfD_any wh me pa _).mono ?_
          rintro e w1 ⟨rfl, rfl⟩
          have hv : Below wr.heap.size wr (wr.alloc (.cells #[.bool true, .string wh, .string me, .string pa] 122)) := (Below.refl _ wr).alloc (Nat.le_refl _) _
          have z0 := (hv.cell (p := ⟨w.heap.size, 0, none⟩) hzz).trans x0
          have z1 := (hv.cell (p := ⟨w.heap.size, 1, none⟩) hzz).trans x1
          have z2 := (hv.cell (p := ⟨w.heap.size, 2, none⟩) hzz).trans x2
          have hBv := below_one hB hv
          clear hv
          generalize wr.alloc (.cells #[.bool true, .string wh, .string me, .string pa] 122) = w1 at *
          go_wp2_with fail
          refine (speaksOfD_any wh me pa c _ hz hc).mono ?_
          rintro e w2 ⟨rfl, hB2⟩
          rw [hs]
          have hBB2 := below_one hBv hB2
          clear hB2 z0 z1 z2
          go_wp2
          go_roundw
          case rel => exact ⟨m + 1, al, by omega, rfl, by go_num, HN1.out, HA1.out, hBB2⟩
          case measure => simp [intOf]; omega
        · have HF1 := hid (HF.out (by rw [HKt.out, hs']; rfl))
          have hs := HM.out.trans hs'
          go_wp2_with fail
          refine (voiceOfD_any wh me pa _).mono ?_
          rintro e w1 ⟨rfl, rfl⟩
          have hv : Below wr.heap.size wr (wr.alloc (.cells #[.bool true, .string wh, .string me, .string pa] 122)) := (Below.refl _ wr).alloc (Nat.le_refl _) _
          have z0 := (hv.cell (p := ⟨w.heap.size, 0, none⟩) hzz).trans x0
          have z1 := (hv.cell (p := ⟨w.heap.size, 1, none⟩) hzz).trans x1
          have z2 := (hv.cell (p := ⟨w.heap.size, 2, none⟩) hzz).trans x2
          have hBv := below_one hB hv
          clear hv
          generalize wr.alloc (.cells #[.bool true, .string wh, .string me, .string pa] 122) = w1 at *
          go_wp2_with fail
          refine (speaksOfD_any wh me pa c _ hz hc).mono ?_
          rintro e w2 ⟨rfl, hB2⟩
          rw [hs]
          have hBB2 := below_one hBv hB2
          clear hB2 z0 z1 z2
          go_wp2_with fail
          refine (decidesD_any wh me pa _).mono ?_
          rintro e w3 ⟨rfl, hB3⟩
          have hBB3 := below_one hBB2 hB3
          clear hB3
          go_wp2
          go_ret2
          exact ⟨ret_ints (dec_deny HF1.out), below_one hW0 hBB3⟩
    · obtain rfl : m = of.length := by omega
      have HD := hid (find_none HN.out)
      have HA2 := hid (show of.find? (hitAt rs c false) = al by have := HA.out; rwa [List.take_length] at this)
      cases al with
      | none =>
        unfold alI
        go_wp2
        go_ret2
        exact ⟨ret_ints (dec_none HD.out HA2.out), below_one hW0 hB⟩
      | some j =>
        have hd0 : decide ((j : Int) < 0) = false := by simp
        unfold alI
        go_wp2
        go_ret2
        exact ⟨ret_ints (dec_allow HD.out HA2.out), below_one hW0 hB⟩

end Go.Proofs.YtnbojbcljfiamaaGreatDoor

namespace Go.Proofs.YtnbojbcljfiamaaGreatDoor
open Go.RowKit Go.Shelf

theorem pol_good {rs : List Ru} (h : polB rs = true) : ∀ r ∈ rs, r.good = true := by
  unfold polB at h
  rw [Bool.and_eq_true, List.all_eq_true] at h
  exact h.1

set_option maxHeartbeats 1000000 in
theorem implDecideCall_any (v : Value) (rs : List Ru) (c : Ca) (w : World) (hm : rs.length ≤ 1048577) (hfz : ∀ r ∈ rs, r.size ≤ 1048576) (hc : c.size ≤ 1048576) (hr : RuS w v rs) :
    Calls Tryz.prog 85 #[v, c.val] w fun e w' => e = .returned (.tuple #[.int .i64 (dC rs c (List.range rs.length)), .int .i64 (dK rs c (List.range rs.length)), .bool (dOk rs c)]) ∧ Below w.heap.size w w' := by
  obtain ⟨a, cap, rfl⟩ := hr.len
  have hBa : Below w.heap.size w (w.alloc (.cells #[.string c.who, .string c.method, .string c.path] 130)) := (Below.refl _ w).alloc (Nat.le_refl _) _
  have hr0 := hr.below hBa
  have b0 : (w.alloc (.cells #[.string c.who, .string c.method, .string c.path] 130)).cell? ⟨w.heap.size, 0, none⟩ = some (.string c.who) := by simp
  have b1 : (w.alloc (.cells #[.string c.who, .string c.method, .string c.path] 130)).cell? ⟨w.heap.size, 1, none⟩ = some (.string c.method) := by simp
  have b2 : (w.alloc (.cells #[.string c.who, .string c.method, .string c.path] 130)).cell? ⟨w.heap.size, 2, none⟩ = some (.string c.path) := by simp
  clear hr
  cases h1 : polB rs
  · have ho : dOk rs c = false := by unfold dOk; rw [h1]; rfl
    have HO := hid ho
    have HD := hid (d_no (List.range rs.length) ho)
    clear ho
    go_enter Tryz.func85, Tryz.ntmps85
    go_wp2_with fail
    refine (goodPolicy_any _ rs _ hm hfz hr0).mono ?_
    rintro e w1 ⟨rfl, hB1⟩
    rw [h1]
    go_wp2_with fail
    go_ret3
    exact ⟨ret_dec HD.out.1.symm HD.out.2.symm HO.out.symm, below_one hBa hB1⟩
  · cases h2 : c.good
    · have ho : dOk rs c = false := by unfold dOk; rw [h1, h2]; rfl
      have HO := hid ho
      have HD := hid (d_no (List.range rs.length) ho)
      clear ho
      go_enter Tryz.func85, Tryz.ntmps85
      go_wp2_with fail
      refine (goodPolicy_any _ rs _ hm hfz hr0).mono ?_
      rintro e w1 ⟨rfl, hB1⟩
      rw [h1]
      have c0 := (hB1.cell (p := ⟨w.heap.size, 0, none⟩) (by simp)).trans b0
      have c1 := (hB1.cell (p := ⟨w.heap.size, 1, none⟩) (by simp)).trans b1
      have c2 := (hB1.cell (p := ⟨w.heap.size, 2, none⟩) (by simp)).trans b2
      have hBB1 := below_one hBa hB1
      clear b0 b1 b2 hr0 hB1
      go_wp2_with fail
      refine (implGoodCall_any c _ hc).mono ?_
      rintro e w2 ⟨rfl, hB2⟩
      rw [h2]
      have hBB2 := below_one hBB1 hB2
      clear hBB1 hB2
      go_wp2_with fail
      go_ret3
      exact ⟨ret_dec HD.out.1.symm HD.out.2.symm HO.out.symm, hBB2⟩
    · have ho : dOk rs c = true := by unfold dOk; rw [h1, h2]; rfl
      have HO := hid ho
      have HD := hid (d_yes (List.range rs.length) ho)
      have hgood := pol_good h1
      have hlr : (List.range rs.length).length ≤ 1048577 := by rw [List.length_range]; exact hm
      have hof : ∀ k ∈ List.range rs.length, k < rs.length := fun k hk => List.mem_range.1 hk
      obtain ⟨i0, hi, hz0, hz1', hz2'⟩ := info_parts infoIntP
      clear ho
      go_enter Tryz.func85, Tryz.ntmps85
      go_wp2_with fail
      refine (goodPolicy_any _ rs _ hm hfz hr0).mono ?_
      rintro e w1 ⟨rfl, hB1⟩
      rw [h1]
      have c0 := (hB1.cell (p := ⟨w.heap.size, 0, none⟩) (by simp)).trans b0
      have c1 := (hB1.cell (p := ⟨w.heap.size, 1, none⟩) (by simp)).trans b1
      have c2 := (hB1.cell (p := ⟨w.heap.size, 2, none⟩) (by simp)).trans b2
      have hz1 : w.heap.size < w1.heap.size := by have := hB1.size; simp at this; omega
      have hr1 := hr0.below hB1
      have hBB1 := below_one hBa hB1
      clear b0 b1 b2 hr0 hB1 hBa
      go_wp2_with fail
      refine (implGoodCall_any c _ hc).mono ?_
      rintro e w2 ⟨rfl, hB2⟩
      rw [h2]
      replace c0 := (hB2.cell (p := ⟨w.heap.size, 0, none⟩) hz1).trans c0
      replace c1 := (hB2.cell (p := ⟨w.heap.size, 1, none⟩) hz1).trans c1
      replace c2 := (hB2.cell (p := ⟨w.heap.size, 2, none⟩) hz1).trans c2
      have hr2 := hr1.below hB2
      have hBB2 := below_one hBB1 hB2
      have hz2 : w.heap.size < w2.heap.size := Nat.lt_of_lt_of_le hz1 hB2.size
      clear hr1 hBB1 hB2 hz1
      go_wp2
      go_loopw [7, 21] (fun out i wr => ∃ k : Nat, k ≤ rs.length ∧ i = .int .i64 k ∧ wr.ownsRow w2.heap.size 3 1 out (List.range k).length (ints (List.range k)) ∧ Below w2.heap.size w2 wr) (fun _ i _ => rs.length - (intOf i).toNat)
      case atStart => exact ⟨0, Nat.zero_le _, rfl, World.ownsRow_nil _ _ _ _, Below.refl _ _⟩
      case round =>
        obtain ⟨k, hk, rfl, hrow, hB⟩ := hrel
        have hz := hB.size
        have hl : (List.range k).length = k := List.length_range
        have hl1 : (List.range k).length ≤ k := by omega
        have HL := hid hl
        clear hl
        by_cases hlt : k < rs.length
        · go_wp2_with (at_builtin; refine wpList_append_own _ rfl _ _ 23 rfl w2.heap.size 3 i0 (.int .i64 0) 1 8 Tryz.underlying23 hi hz0 hz1' hz2' rfl (by decide) _ _ _ rfl (hrow.alloc _) ⟨wr.heap.size, 0, none⟩ 1 1 [.int .i64 (k : Int)] rfl rfl (cell_one_new _ _ _) (by simp [Value.oneCell']) (by simp [maxLen]; omega) (by omega) (by simp; omega) ?_; intro v' w1 hown' hgrow _; obtain ⟨g', cap', rfl⟩ := ownsRow_succ hown')
          go_roundw
          case rel =>
            refine ⟨k + 1, by omega, by go_num, ?_, hB.trans (below_appended hz hrow hgrow)⟩
            rw [List.range_succ]
            simpa [ints] using hown'
          case measure => simp [intOf]; omega
        · obtain rfl : k = rs.length := by omega
          have hr3 := hr2.below hB
          have d0 := (hB.cell (p := ⟨w.heap.size, 0, none⟩) hz2).trans c0
          have d1 := (hB.cell (p := ⟨w.heap.size, 1, none⟩) hz2).trans c1
          have d2 := (hB.cell (p := ⟨w.heap.size, 2, none⟩) hz2).trans c2
          have hBB3 := below_one hBB2 hB
          clear hB hl1 hz
          go_wp2_with fail
          refine (decideAmong_any _ _ rs (List.range rs.length) c w2.heap.size _ hm hlr hfz hc hgood h2 hof hr3 hrow).mono ?_
          rintro e w5 ⟨rfl, hB5⟩
          have hBB5 := below_one hBB3 hB5
          clear hB5 hBB3
          go_wp2
          go_ret3
          exact ⟨ret_dec HD.out.1.symm HD.out.2.symm HO.out.symm, hBB5⟩

end Go.Proofs.YtnbojbcljfiamaaGreatDoor

namespace Go.Proofs.YtnbojbcljfiamaaGreatDoor
open Go.RowKit Go.Shelf

set_option maxHeartbeats 1000000 in
theorem l3HasText_any (v : Value) (ss : List ByteArray) (s : ByteArray) (w : World) (hm : ss.length ≤ 1048577) (hr : VS w v (strs ss)) :
    Calls Tryz.prog 134 #[v, .string s] w fun e w' => e = .returned (.bool (hasT ss s)) ∧ w' = w := by
  obtain ⟨a, cap, rfl⟩ := hr.strLen
  go_enter Tryz.func134, Tryz.ntmps134
  go_wp2
  go_loop [9] (fun i => ∃ n : Nat, n ≤ ss.length ∧ i = .int .i64 n ∧ hasTo ss s n = false) (fun i => ss.length - (intOf i).toNat)
  case atStart => exact ⟨0, Nat.zero_le _, rfl, hasTo_zero _ _⟩
  case round =>
    obtain ⟨n, hn, rfl, ht⟩ := hrel
    have HT := hid ht
    clear ht
    by_cases hlt : n < ss.length
    · obtain ⟨b, off, rfl, hb, hcap, q0⟩ := hr.str hlt
      have HS := hid (hasTo_succ (s := s) hlt)
      have HY := hid (fun h => hasT_yes (s := s) hlt h)
      generalize ss[n] = x at *
      cases he : (x.toList == s.toList)
      · have HR := hid (show hasTo ss s (n + 1) = false by rw [HS.out, HT.out, he]; rfl)
        go_wp2
        exact ⟨⟨n + 1, by omega, by go_num, HR.out⟩, by simp [intOf]; omega⟩
      · have HR := hid (HY.out he)
        go_wp2
        go_ret
        exact ⟨ret_bool HR.out.symm, rfl⟩
    · obtain rfl : n = ss.length := by omega
      have HR := hid (show hasT ss s = false by rw [← hasT_end, HT.out])
      go_wp2
      go_ret
      exact ⟨ret_bool HR.out.symm, rfl⟩

theorem containsS_hasT (ss : List ByteArray) (s : ByteArray) : Lib.containsS ss s = hasT ss s := by
  rw [Bool.eq_iff_iff, Lib.containsS_iff]
  unfold hasT
  rw [List.any_eq_true]
  constructor
  · intro h
    exact ⟨s, h, by simp⟩
  · rintro ⟨x, hx, he⟩
    have : x = s := bytes_same (by simpa [toList_data] using he)
    rw [← this]
    exact hx

theorem contS_any (v : Value) (ss : List ByteArray) (s : ByteArray) (w : World) (hm : ss.length ≤ 1048577) (hr : VS w v (strs ss)) :
    Calls Tryz.prog 116 #[v, .string s] w fun e w' => e = .returned (.bool (hasT ss s)) ∧ w' = w := by
  rcases hr with ⟨a, cap, rfl, h0⟩ | ⟨b, off, cap, rfl, hb, hl, hc⟩
  · have : ss = [] := by simpa [strs] using h0
    subst this
    exact Any.slices_Contains_string_empty Tryz.lays110 a cap s w
  · have h := Any.slices_Contains_string Tryz.lays110 b off ss.length cap ss s w (Nat.le_refl _) (by omega) (fun j hj => by
      have := hc j (by rw [strs_len]; exact hj)
      rw [this]
      simp [strs, hj])
    rw [List.take_length, containsS_hasT] at h
    rw [strs_len]
    exact h

set_option maxHeartbeats 1000000 in
theorem hasAll_any (v v' : Value) (ss ts : List ByteArray) (w : World) (hm : ss.length ≤ 1048577) (hm' : ts.length ≤ 1048577) (hr : VS w v (strs ss)) (hr' : VS w v' (strs ts)) :
    Calls Tryz.prog 81 #[v, v'] w fun e w' => e = .returned (.bool (allT ss ts)) ∧ w' = w := by
  obtain ⟨a, cap, rfl⟩ := hr'.strLen
  go_enter Tryz.func81, Tryz.ntmps81
  go_wp2
  go_loop [9] (fun i => ∃ n : Nat, n ≤ ts.length ∧ i = .int .i64 n ∧ allTo3 ss ts n = true) (fun i => ts.length - (intOf i).toNat)
  case atStart => exact ⟨0, Nat.zero_le _, rfl, allTo3_zero _ _⟩
  case round =>
    obtain ⟨n, hn, rfl, ht⟩ := hrel
    have HT := hid ht
    clear ht
    by_cases hlt : n < ts.length
    · obtain ⟨b, off, rfl, hb, hcap, q0⟩ := hr'.str hlt
      have HS := hid (allTo3_succ (ss := ss) hlt)
      have HY := hid (fun h => allT_no (ss := ss) hlt h)
      generalize ts[n] = x at *
      have hC := contS_any v ss x w hm hr
      cases he : hasT ss x
      · have HR := hid (HY.out he)
        rw [he] at hC
        go_wp2_with (go_at_call 116; refine hC.mono ?_; rintro e w1 ⟨rfl, rfl⟩)
        go_ret
        exact ⟨ret_bool HR.out.symm, rfl⟩
      · have HR := hid (show allTo3 ss ts (n + 1) = true by rw [HS.out, HT.out, he]; rfl)
        rw [he] at hC
        go_wp2_with (go_at_call 116; refine hC.mono ?_; rintro e w1 ⟨rfl, rfl⟩)
        exact ⟨⟨n + 1, by omega, by go_num, HR.out⟩, by simp [intOf]; omega⟩
    · obtain rfl : n = ts.length := by omega
      have HR := hid (show allT ss ts = true by rw [← allT_end, HT.out])
      go_wp2
      go_ret
      exact ⟨ret_bool HR.out.symm, rfl⟩

set_option maxHeartbeats 1000000 in
theorem anyRevoked_any (v v' : Value) (ks : List Lk) (zs : List Int) (w : World) (hm : ks.length ≤ 1048577) (hm' : zs.length ≤ 1048577) (hr : LkS w v ks) (hr' : VS w v' (nums zs)) :
    Calls Tryz.prog 84 #[v, v'] w fun e w' => e = .returned (.bool (rvB ks zs)) ∧ Below w.heap.size w w' := by
  obtain ⟨a, cap, rfl⟩ := hr.len
  go_enter Tryz.func84, Tryz.ntmps84
  go_wp2
  go_loopw [9] (fun i wr => ∃ n : Nat, n ≤ ks.length ∧ i = .int .i64 n ∧ rvTo ks zs n = false ∧ Below w.heap.size w wr) (fun i _ => ks.length - (intOf i).toNat)
  case atStart => exact ⟨0, Nat.zero_le _, rfl, rvTo_zero _ _, Below.refl _ _⟩
  case round =>
    obtain ⟨n, hn, rfl, ht, hB⟩ := hrel
    have HT := hid ht
    clear ht
    by_cases hlt : n < ks.length
    · obtain ⟨b, off, rfl, hb, hcap, q0, q1, q2, q3, q4⟩ := (hr.below hB).at hlt
      have HS := hid (rvTo_succ (zs := zs) hlt)
      have HY := hid (fun h => rvB_yes (zs := zs) hlt h)
      generalize ks[n] = k at *
      have hBw : Below wr.heap.size wr (wr.alloc (.cells #[.string k.who, .string k.to, .int .i64 k.se, .int .i64 k.fr, .int .i64 k.un] 126)) := (Below.refl _ wr).alloc (Nat.le_refl _) _
      have hBa := below_one hB hBw
      have hC := contI_any v' zs k.se _ hm' (hr'.below hBa)
      cases he : isI zs k.se
      · have HR := hid (show rvTo ks zs (n + 1) = false by rw [HS.out, HT.out, he]; rfl)
        rw [he] at hC
        go_wp2_with (go_at_call 117; refine hC.mono ?_; rintro e w1 ⟨rfl, rfl⟩)
        go_roundw
        case rel => exact ⟨n + 1, by omega, by go_num, HR.out, hBa⟩
        case measure => simp [intOf]; omega
      · have HR := hid (HY.out he)
        rw [he] at hC
        go_wp2_with (go_at_call 117; refine hC.mono ?_; rintro e w1 ⟨rfl, rfl⟩)
        go_ret
        exact ⟨ret_bool HR.out.symm, hBa⟩
    · obtain rfl : n = ks.length := by omega
      have HR := hid (show rvB ks zs = false by rw [← rvB_end, HT.out])
      go_wp2
      go_ret
      exact ⟨ret_bool HR.out.symm, hB⟩

end Go.Proofs.YtnbojbcljfiamaaGreatDoor

namespace Go.Proofs.YtnbojbcljfiamaaGreatDoor
open Go.RowKit Go.Shelf

/-- What is told of a token, good or not. -/
def chk0 (ks : List Lk) (ss : List ByteArray) (nw : Int) (zs : List Int) (at_ : ByteArray) : Int := if tkB ks = true then chk1 ks (sgTo ks ks.length) ss nw zs at_ else 1
theorem chk0_no {ks : List Lk} (ss : List ByteArray) (nw : Int) (zs : List Int) (at_ : ByteArray) (h : tkB ks = false) : chk0 ks ss nw zs at_ = 1 := if_neg (by rw [h]; exact Bool.false_ne_true)
theorem chk0_2 {ks : List Lk} {ss : List ByteArray} (nw : Int) (zs : List Int) (at_ : ByteArray) (h : tkB ks = true) (h2 : allT ss (sgTo ks ks.length) = false) : chk0 ks ss nw zs at_ = 2 := by
  unfold chk0 chk1
  rw [if_pos h, if_pos h2]
theorem chk0_3 {ks : List Lk} {ss : List ByteArray} {nw : Int} (zs : List Int) (at_ : ByteArray) (h : tkB ks = true) (h2 : allT ss (sgTo ks ks.length) = true) (h3 : inT ks nw = false) : chk0 ks ss nw zs at_ = 3 := by
  unfold chk0 chk1
  rw [if_pos h, if_neg (by rw [h2]; decide), if_pos h3]
theorem chk0_4 {ks : List Lk} {ss : List ByteArray} {nw : Int} {zs : List Int} (at_ : ByteArray) (h : tkB ks = true) (h2 : allT ss (sgTo ks ks.length) = true) (h3 : inT ks nw = true) (h4 : rvB ks zs = true) : chk0 ks ss nw zs at_ = 4 := by
  unfold chk0 chk1
  rw [if_pos h, if_neg (by rw [h2]; decide), if_neg (by rw [h3]; decide), if_pos h4]
theorem chk0_5 {ks : List Lk} {ss : List ByteArray} {nw : Int} {zs : List Int} {at_ : ByteArray} (h : tkB ks = true) (h2 : allT ss (sgTo ks ks.length) = true) (h3 : inT ks nw = true) (h4 : rvB ks zs = false) (h5 : toOk ks at_ = false) : chk0 ks ss nw zs at_ = 5 := by
  unfold chk0 chk1
  rw [if_pos h, if_neg (by rw [h2]; decide), if_neg (by rw [h3]; decide), if_neg (by rw [h4]; decide), if_pos h5]
theorem chk0_0 {ks : List Lk} {ss : List ByteArray} {nw : Int} {zs : List Int} {at_ : ByteArray} (h : tkB ks = true) (h2 : allT ss (sgTo ks ks.length) = true) (h3 : inT ks nw = true) (h4 : rvB ks zs = false) (h5 : toOk ks at_ = true) : chk0 ks ss nw zs at_ = 0 := by
  unfold chk0 chk1
  rw [if_pos h, if_neg (by rw [h2]; decide), if_neg (by rw [h3]; decide), if_neg (by rw [h4]; decide), if_neg (by rw [h5]; decide)]

set_option maxHeartbeats 4000000 in
theorem l3Check_any (v v1 v3 : Value) (ks : List Lk) (ss : List ByteArray) (nw : Int) (zs : List Int) (at_ : ByteArray) (w : World) (hm : ks.length ≤ 1048577) (hms : ss.length ≤ 1048577) (hmz : zs.length ≤ 1048577) (hf : ∀ k ∈ ks, k.size ≤ 1048576) (hr : LkS w v ks) (hrs : VS w v1 (strs ss)) (hrz : VS w v3 (nums zs)) :
    Calls Tryz.prog 104 #[v, v1, .int .i64 nw, v3, .string at_] w fun e w' => e = .returned (.int .i64 (chk0 ks ss nw zs at_)) ∧ Below w.heap.size w w' := by
  obtain ⟨a, cap, rfl⟩ := hr.len
  cases hg : tkB ks
  · have HR := hid (chk0_no ss nw zs at_ hg)
    go_enter Tryz.func104, Tryz.ntmps104
    go_wp2_with fail
    refine (specGoodToken_any _ ks _ hm hf hr).mono ?_
    rintro e w1 ⟨rfl, hB1⟩
    rw [hg]
    go_wp2_with fail
    go_ret
    exact ⟨ret_int HR.out.symm, hB1⟩
  · have hgd := tkB_good hg
    have hl := tkB_len hg
    have HG := hid hg
    have hsl : (sgTo ks ks.length).length ≤ 1048577 := by rw [sgTo_len]; exact hm
    go_enter Tryz.func104, Tryz.ntmps104
    go_wp2_with fail
    refine (specGoodToken_any _ ks _ hm hf hr).mono ?_
    rintro e w1 ⟨rfl, hB1⟩
    rw [hg]
    go_wp2_with fail
    refine (l3Signed_any _ ks _ hm hgd hf (hr.below hB1)).mono ?_
    rintro e w2 ⟨v2, rfl, hrow, hB2⟩
    have hBB2 := below_one hB1 hB2
    have hr2 := hr.below hBB2
    have hrs2 := hrs.below hBB2
    have hrz2 := hrz.below hBB2
    have hrg2 := VS.ownS hrow
    obtain ⟨a2, cap2, rfl⟩ := ownsRow_len hrow
    clear hr hrs hrz hrow hB1 hB2 hg
    have H2 := hid (fun h => chk0_2 (ks := ks) (ss := ss) nw zs at_ HG.out h)
    have H3 := hid (fun h h' => chk0_3 (ks := ks) (ss := ss) (nw := nw) zs at_ HG.out h h')
    have H4 := hid (fun h h' h4 => chk0_4 (ks := ks) (ss := ss) (nw := nw) (zs := zs) at_ HG.out h h' h4)
    have H5 := hid (fun h h' h4 h5 => chk0_5 (ks := ks) (ss := ss) (nw := nw) (zs := zs) (at_ := at_) HG.out h h' h4 h5)
    have H0 := hid (fun h h' h4 h5 => chk0_0 (ks := ks) (ss := ss) (nw := nw) (zs := zs) (at_ := at_) HG.out h h' h4 h5)
    generalize sgTo ks ks.length = sg at *
    go_wp2_with fail
    go_loopw [23] (fun i wr => ∃ n : Nat, n ≤ sg.length ∧ i = .int .i64 n ∧ allTo3 ss sg n = true ∧ Below w2.heap.size w2 wr) (fun i _ => sg.length - (intOf i).toNat)
    case atStart => exact ⟨0, Nat.zero_le _, rfl, allTo3_zero _ _, Below.refl _ _⟩
    case round =>
      obtain ⟨n, hn, rfl, ht, hB⟩ := hrel
      have HT := hid ht
      clear ht
      by_cases hlt : n < sg.length
      · obtain ⟨b, off, rfl, hb, hcap, q0⟩ := (hrg2.below hB).str hlt
        have HS := hid (allTo3_succ (ss := ss) hlt)
        have HY := hid (fun h => allT_no (ss := ss) hlt h)
        generalize sg[n] = x at *
        have hC := l3HasText_any v1 ss x wr hms (hrs2.below hB)
        cases he : hasT ss x
        · have HR := hid (H2.out (HY.out he))
          rw [he] at hC
          go_wp2_with (go_at_call 134; refine hC.mono ?_; rintro e w3 ⟨rfl, rfl⟩)
          go_ret
          exact ⟨ret_int HR.out.symm, below_one hBB2 hB⟩
        · have HR := hid (show allTo3 ss sg (n + 1) = true by rw [HS.out, HT.out, he]; rfl)
          rw [he] at hC
          go_wp2_with (go_at_call 134; refine hC.mono ?_; rintro e w3 ⟨rfl, rfl⟩)
          go_roundw
          case rel => exact ⟨n + 1, by omega, by go_num, HR.out, hB⟩
          case measure => simp [intOf]; omega
      · obtain rfl : n = sg.length := by omega
        have HA := hid (show allT ss sg = true by rw [← allT_end, HT.out])
        clear HT
        go_wp2_with fail
        go_loopw [34] (fun i wr => ∃ n : Nat, n ≤ ks.length ∧ i = .int .i64 n ∧ inTo ks nw n = true ∧ Below w2.heap.size w2 wr) (fun i _ => ks.length - (intOf i).toNat)
        case atStart => exact ⟨0, Nat.zero_le _, rfl, inTo_zero _ _, hB⟩
        case round =>
          obtain ⟨n, hn, rfl, ht, hB⟩ := hrel
          have HT := hid ht
          clear ht
          by_cases hlt : n < ks.length
          · obtain ⟨b, off, rfl, hb, hcap, q0, q1, q2, q3, q4⟩ := (hr2.below hB).at hlt
            have HS := hid (inTo_succ (nw := nw) hlt)
            have HY := hid (fun h => inT_no (nw := nw) hlt h)
            generalize ks[n] = k at *
            have hBa : Below w2.heap.size w2 (wr.alloc (.cells #[.string k.who, .string k.to, .int .i64 k.se, .int .i64 k.fr, .int .i64 k.un] 126)) := hB.alloc hB.size _
            have hC := fun W => l1In_any nw k.fr k.un W
            have hI : inB k.fr k.un nw = tmIn k nw := rfl
            rw [hI] at hC
            clear hI
            cases he : tmIn k nw
            · have HR := hid (H3.out HA.out (HY.out he))
              rw [he] at hC
              go_wp2_with (go_at_call 64; refine (hC _).mono ?_; rintro e w3 ⟨rfl, rfl⟩)
              go_ret
              exact ⟨ret_int HR.out.symm, below_one hBB2 hBa⟩
            · have HR := hid (show inTo ks nw (n + 1) = true by rw [HS.out, HT.out, he]; rfl)
              rw [he] at hC
              go_wp2_with (go_at_call 64; refine (hC _).mono ?_; rintro e w3 ⟨rfl, rfl⟩)
              go_roundw
              case rel => first | exact ⟨n + 1, by omega, by go_num, HR.out, hBa⟩ | ((repeat apply Exists.intro); exact ⟨⟨n + 1, by omega, by go_num, HR.out, hBa⟩, rfl⟩)
              case measure => simp [intOf]; omega
          · obtain rfl : n = ks.length := by omega
            have HI := hid (show inT ks nw = true by rw [← inT_end, HT.out])
            clear HT
            go_wp2_with fail
            go_loopw [48] (fun i wr => ∃ n : Nat, n ≤ ks.length ∧ i = .int .i64 n ∧ rvTo ks zs n = false ∧ Below w2.heap.size w2 wr) (fun i _ => ks.length - (intOf i).toNat)
            case atStart => exact ⟨0, Nat.zero_le _, rfl, rvTo_zero _ _, hB⟩
            case round =>
              obtain ⟨n, hn, rfl, ht, hB⟩ := hrel
              have HT := hid ht
              clear ht
              by_cases hlt : n < ks.length
              · obtain ⟨b, off, rfl, hb, hcap, q0, q1, q2, q3, q4⟩ := (hr2.below hB).at hlt
                have HS := hid (rvTo_succ (zs := zs) hlt)
                have HY := hid (fun h => rvB_yes (zs := zs) hlt h)
                generalize ks[n] = k at *
                have hBw : Below wr.heap.size wr (wr.alloc (.cells #[.string k.who, .string k.to, .int .i64 k.se, .int .i64 k.fr, .int .i64 k.un] 126)) := (Below.refl _ wr).alloc (Nat.le_refl _) _
                have hBa := below_one hB hBw
                have hC := l1Has_any v3 zs k.se _ hmz (hrz2.below hBa)
                cases he : isI zs k.se
                · have HR := hid (show rvTo ks zs (n + 1) = false by rw [HS.out, HT.out, he]; rfl)
                  rw [he] at hC
                  go_wp2_with (go_at_call 135; refine hC.mono ?_; rintro e w3 ⟨rfl, rfl⟩)
                  go_roundw
                  case rel => first | exact ⟨n + 1, by omega, by go_num, HR.out, hBa⟩ | ((repeat apply Exists.intro); exact ⟨⟨n + 1, by omega, by go_num, HR.out, hBa⟩, rfl⟩)
                  case measure => simp [intOf]; omega
                · have HR := hid (H4.out HA.out HI.out (HY.out he))
                  rw [he] at hC
                  go_wp2_with (go_at_call 135; refine hC.mono ?_; rintro e w3 ⟨rfl, rfl⟩)
                  go_ret
                  exact ⟨ret_int HR.out.symm, below_one hBB2 hBa⟩
              · obtain rfl : n = ks.length := by omega
                have HV := hid (show rvB ks zs = false by rw [← rvB_end, HT.out])
                clear HT
                obtain ⟨m, hmm⟩ : ∃ m, m = ks.length - 1 := ⟨_, rfl⟩
                have hlm : m < ks.length := by omega
                obtain ⟨b, off, rfl, hb, hcap, _, q1, _, _, _⟩ := (hr2.below hB).at hlm
                have HO := hid (toOk_at (at_ := at_) hlm hmm)
                have hw1 : IntKind.i64.wrap ((ks.length : Int) - 1) = (m : Int) := by rw [IntKind.wrap_i64]; omega
                have hw2 : (m : Int) < (ks.length : Int) := by omega
                generalize ks[m] = k at *
                clear hmm
                cases he : (k.to.toList == at_.toList)
                · have HR := hid (H5.out HA.out HI.out HV.out (by rw [HO.out, he]))
                  go_wp2
                  go_ret
                  exact ⟨ret_int HR.out.symm, below_one hBB2 hB⟩
                · have HR := hid (H0.out HA.out HI.out HV.out (by rw [HO.out, he]))
                  go_wp2
                  go_ret
                  exact ⟨ret_int HR.out.symm, below_one hBB2 hB⟩

theorem chkX_0 (ks : List Lk) (ss : List ByteArray) {nw : Int} {zs : List Int} {at_ : ByteArray} (h : argB nw at_ ss zs = true) : chkX ks (sgTo ks ks.length) ss nw zs at_ = chk0 ks ss nw zs at_ := by
  unfold chkX chk0
  rw [h, Bool.and_true]

set_option maxHeartbeats 2000000 in
theorem specCheckToken_any (v v1 v3 : Value) (ks : List Lk) (ss : List ByteArray) (nw : Int) (zs : List Int) (at_ : ByteArray) (w : World) (hm : ks.length ≤ 1048577) (hms : ss.length ≤ 1048577) (hmz : zs.length ≤ 1048577) (hat : at_.size ≤ 1048576) (hf : ∀ k ∈ ks, k.size ≤ 1048576) (hr : LkS w v ks) (hrs : VS w v1 (strs ss)) (hrz : VS w v3 (nums zs)) :
    Calls Tryz.prog 69 #[v, v1, .int .i64 nw, v3, .string at_] w fun e w' => e = .returned (.int .i64 (chkX ks (sgTo ks ks.length) ss nw zs at_)) ∧ Below w.heap.size w w' := by
  obtain ⟨a1, cap1, rfl⟩ := hrs.strLen
  obtain ⟨a3, cap3, rfl⟩ := hrz.numLen
  cases h1 : tmB nw
  · have HR := hid (show chkX ks (sgTo ks ks.length) ss nw zs at_ = 1 from chkX_no2 ks _ (by unfold argB; rw [h1]; rfl))
    go_enter Tryz.func69, Tryz.ntmps69
    go_wp2_with (first | (go_at_call 102; refine (l3Time_any _ _).mono ?_; rintro e w1 ⟨rfl, rfl⟩) | (go_at_call 103; refine (specGoodName_any at_ _ hat).mono ?_; rintro e w2 ⟨rfl, hB2⟩))
    go_ret
    exact ⟨ret_int HR.out.symm, Below.refl _ _⟩
  · cases h2 : gnB (split at_ 47)
    · have HR := hid (show chkX ks (sgTo ks ks.length) ss nw zs at_ = 1 from chkX_no2 ks _ (by unfold argB; rw [h1, h2]; rfl))
      go_enter Tryz.func69, Tryz.ntmps69
      go_wp2_with (first | (go_at_call 102; refine (l3Time_any _ _).mono ?_; rintro e w1 ⟨rfl, rfl⟩) | (go_at_call 103; refine (specGoodName_any at_ _ hat).mono ?_; rintro e w2 ⟨rfl, hB2⟩))
      go_ret
      exact ⟨ret_int HR.out.symm, hB2⟩
    · cases h3 : decide (ss.length ≤ 200)
      · have HR := hid (show chkX ks (sgTo ks ks.length) ss nw zs at_ = 1 from chkX_no2 ks _ (by unfold argB; rw [h1, h2, h3]; rfl))
        have d3 : decide ((200 : Int) < (ss.length : Int)) = true := by have := of_decide_eq_false h3; simp; omega
        clear h3
        go_enter Tryz.func69, Tryz.ntmps69
        go_wp2_with (first | (go_at_call 102; refine (l3Time_any _ _).mono ?_; rintro e w1 ⟨rfl, rfl⟩) | (go_at_call 103; refine (specGoodName_any at_ _ hat).mono ?_; rintro e w2 ⟨rfl, hB2⟩))
        go_ret
        exact ⟨ret_int HR.out.symm, hB2⟩
      · cases h4 : decide (zs.length ≤ 200)
        · have HR := hid (show chkX ks (sgTo ks ks.length) ss nw zs at_ = 1 from chkX_no2 ks _ (by unfold argB; rw [h1, h2, h3, h4]; rfl))
          have d3 : decide ((200 : Int) < (ss.length : Int)) = false := by have := of_decide_eq_true h3; simp; omega
          have d4 : decide ((200 : Int) < (zs.length : Int)) = true := by have := of_decide_eq_false h4; simp; omega
          clear h3 h4
          go_enter Tryz.func69, Tryz.ntmps69
          go_wp2_with (first | (go_at_call 102; refine (l3Time_any _ _).mono ?_; rintro e w1 ⟨rfl, rfl⟩) | (go_at_call 103; refine (specGoodName_any at_ _ hat).mono ?_; rintro e w2 ⟨rfl, hB2⟩))
          go_ret
          exact ⟨ret_int HR.out.symm, hB2⟩
        · have HR := hid (show chkX ks (sgTo ks ks.length) ss nw zs at_ = chk0 ks ss nw zs at_ from chkX_0 ks ss (by unfold argB; rw [h1, h2, h3, h4]; rfl))
          have d3 : decide ((200 : Int) < (ss.length : Int)) = false := by have := of_decide_eq_true h3; simp; omega
          have d4 : decide ((200 : Int) < (zs.length : Int)) = false := by have := of_decide_eq_true h4; simp; omega
          clear h3 h4
          go_enter Tryz.func69, Tryz.ntmps69
          go_wp2_with (first | (go_at_call 102; refine (l3Time_any _ _).mono ?_; rintro e w1 ⟨rfl, rfl⟩) | (go_at_call 103; refine (specGoodName_any at_ _ hat).mono ?_; rintro e w2 ⟨rfl, hB2⟩) | (go_at_call 104; refine (l3Check_any _ _ _ ks ss nw zs at_ _ hm hms hmz hf (hr.below hB2) (hrs.below hB2) (hrz.below hB2)).mono ?_; rintro e w3 ⟨rfl, hB3⟩))
          go_ret
          exact ⟨ret_int HR.out.symm, below_one hB2 hB3⟩

end Go.Proofs.YtnbojbcljfiamaaGreatDoor

namespace Go.Proofs.YtnbojbcljfiamaaGreatDoor
open Go.RowKit Go.Shelf

theorem fN_zero : (0 : Nat) = fN 0 := by decide
theorem fN_most : (4681608360884174848 : Nat) = fN 100000 := by
  have h : Nat.log2 100000 = 16 := by decide
  rw [(fN_pos (n := 100000) (by omega) (by omega)).1, h]
theorem max_run (ts : Array TypeId) (t : TypeId) {a b : Nat} (ha : a ≤ 100000) (hb : b ≤ 100000) (W : World) : (Builtin.max_ ts t #[.float .f64 (fN a), .float .f64 (fN b)]).run Tryz.prog W = .ok (.float .f64 (fN (max a b))) W := by
  have ho := order_fN a b (by omega) (by omega)
  have hn := neg_fN a (by omega)
  rcases Nat.lt_trichotomy a b with h | h | h
  · rw [Nat.compare_eq_lt.2 h] at ho
    rw [Nat.max_eq_right (by omega)]
    simp [Builtin.max_, Builtin.max2, ho]
  · subst h
    rw [Nat.compare_eq_eq.2 rfl] at ho
    rw [Nat.max_self]
    simp [Builtin.max_, Builtin.max2, ho]
  · rw [Nat.compare_eq_gt.2 h] at ho
    rw [Nat.max_eq_left (by omega)]
    simp [Builtin.max_, Builtin.max2, ho]
theorem min_run (ts : Array TypeId) (t : TypeId) {a b : Nat} (ha : a ≤ 100000) (hb : b ≤ 100000) (W : World) : (Builtin.min_ ts t #[.float .f64 (fN a), .float .f64 (fN b)]).run Tryz.prog W = .ok (.float .f64 (fN (min a b))) W := by
  have ho := order_fN a b (by omega) (by omega)
  have hn := neg_fN a (by omega)
  rcases Nat.lt_trichotomy a b with h | h | h
  · rw [Nat.compare_eq_lt.2 h] at ho
    rw [Nat.min_eq_left (by omega)]
    simp [Builtin.min_, Builtin.min2, ho]
  · subst h
    rw [Nat.compare_eq_eq.2 rfl] at ho
    rw [Nat.min_self]
    simp [Builtin.min_, Builtin.min2, ho]
  · rw [Nat.compare_eq_gt.2 h] at ho
    rw [Nat.min_eq_right (by omega)]
    simp [Builtin.min_, Builtin.min2, ho]

set_option maxHeartbeats 1000000 in
theorem windowOf_any (v : Value) (ks : List Lk) (w : World) (hm : ks.length ≤ 1048577) (hg : ∀ k ∈ ks, k.good = true) (hr : LkS w v ks) :
    Calls Tryz.prog 83 #[v] w fun e w' => e = .returned (.complex .f64 (fN (mxF ks ks.length)) (fN (mnU ks ks.length))) ∧ Below w.heap.size w w' := by
  obtain ⟨a, cap, rfl⟩ := hr.len
  have HW := hid (fun n hn => win_le hg n hn)
  go_enter Tryz.func83, Tryz.ntmps83
  go_wp2
  go_loopw [3, 10] (fun c i wr => ∃ n : Nat, n ≤ ks.length ∧ i = .int .i64 n ∧ c = .complex .f64 (fN (mxF ks n)) (fN (mnU ks n)) ∧ Below w.heap.size w wr) (fun _ i _ => ks.length - (intOf i).toNat)
  case atStart => exact ⟨0, Nat.zero_le _, rfl, by rw [mxF_zero, mnU_zero, ← fN_zero, ← fN_most], Below.refl _ _⟩
  case round =>
    obtain ⟨n, hn, rfl, rfl, hB⟩ := hrel
    by_cases hlt : n < ks.length
    · obtain ⟨b, off, rfl, hb, hcap, q0, q1, q2, q3, q4⟩ := (hr.below hB).at hlt
      obtain ⟨_, _, _, b4, b5, _⟩ := (Lk.good_iff ks[n]).1 (hg ks[n] (List.getElem_mem hlt))
      obtain ⟨hx, hy⟩ := HW.out n hn
      have HX := hid (mxF_succ hlt)
      have HY := hid (mnU_succ hlt)
      generalize ks[n] = k at *
      generalize mxF ks n = x at *
      generalize mnU ks n = y at *
      obtain ⟨wh, tq, se, fr, un⟩ := k
      dsimp only at *
      obtain ⟨f, rfl⟩ := Int.eq_ofNat_of_zero_le b4.1
      obtain ⟨u, rfl⟩ := Int.eq_ofNat_of_zero_le b5.1
      rw [Int.toNat_natCast] at HX HY
      have hBa : Below w.heap.size w (wr.alloc (.cells #[.string wh, .string tq, .int .i64 se, .int .i64 (f : Int), .int .i64 (u : Int)] 126)) := hB.alloc hB.size _
      have c1 : floatOfInt FloatKind.f64 (f : Int) = fN f := rfl
      have c2 : floatOfInt FloatKind.f64 (u : Int) = fN u := rfl
      have m1 := fun ts t W => max_run ts t (a := x) (b := f) hx (by omega) W
      have m2 := fun ts t W => min_run ts t (a := y) (b := u) hy (by omega) W
      generalize max x f = x' at *
      generalize min y u = y' at *
      go_wp2
      go_roundw
      case rel => exact ⟨n + 1, by omega, by go_num, by rw [HX.out, HY.out], hBa⟩
      case measure => simp [intOf]; omega
    · obtain rfl : n = ks.length := by omega
      go_wp2
      go_ret
      exact ⟨rfl, hB⟩

set_option maxHeartbeats 1000000 in
theorem within_any (x y nw : Nat) (w : World) (hx : x ≤ 100000) (hy : y ≤ 100000) (hn : nw ≤ 100000) :
    Calls Tryz.prog 82 #[.complex .f64 (fN x) (fN y), .int .i64 (nw : Int)] w fun e w' => e = .returned (.bool (decide (x ≤ nw ∧ nw ≤ y))) ∧ w' = w := by
  have c1 : floatOfInt FloatKind.f64 (nw : Int) = fN nw := rfl
  have o1 := order_fN nw x (by omega) (by omega)
  have o2 := order_fN nw y (by omega) (by omega)
  have HR := hid (show decide (x ≤ nw ∧ nw ≤ y) = (decide (x ≤ nw) && decide (nw ≤ y)) from Bool.decide_and _ _)
  generalize decide (x ≤ nw ∧ nw ≤ y) = res at *
  rcases Nat.lt_trichotomy nw x with h | h | h
  · rw [Nat.compare_eq_lt.2 h] at o1
    have HQ := hid (show res = false by rw [HR.out, decide_eq_false (by omega)]; rfl)
    go_enter Tryz.func82, Tryz.ntmps82
    go_wp2
    go_ret
    exact ⟨ret_bool HQ.out.symm, rfl⟩
  · rw [Nat.compare_eq_eq.2 h] at o1
    rcases Nat.lt_trichotomy nw y with h2 | h2 | h2
    · rw [Nat.compare_eq_lt.2 h2] at o2
      have HQ := hid (show res = true by rw [HR.out, decide_eq_true (by omega), decide_eq_true (by omega)]; rfl)
      clear h h2
      go_enter Tryz.func82, Tryz.ntmps82
      go_wp2
      go_ret
      exact ⟨ret_bool HQ.out.symm, rfl⟩
    · rw [Nat.compare_eq_eq.2 h2] at o2
      have HQ := hid (show res = true by rw [HR.out, decide_eq_true (by omega), decide_eq_true (by omega)]; rfl)
      clear h h2
      go_enter Tryz.func82, Tryz.ntmps82
      go_wp2
      go_ret
      exact ⟨ret_bool HQ.out.symm, rfl⟩
    · rw [Nat.compare_eq_gt.2 h2] at o2
      have HQ := hid (show res = false by rw [HR.out, decide_eq_true (by omega), decide_eq_false (by omega)]; rfl)
      clear h h2
      go_enter Tryz.func82, Tryz.ntmps82
      go_wp2
      go_ret
      exact ⟨ret_bool HQ.out.symm, rfl⟩
  · rw [Nat.compare_eq_gt.2 h] at o1
    rcases Nat.lt_trichotomy nw y with h2 | h2 | h2
    · rw [Nat.compare_eq_lt.2 h2] at o2
      have HQ := hid (show res = true by rw [HR.out, decide_eq_true (by omega), decide_eq_true (by omega)]; rfl)
      clear h h2
      go_enter Tryz.func82, Tryz.ntmps82
      go_wp2
      go_ret
      exact ⟨ret_bool HQ.out.symm, rfl⟩
    · rw [Nat.compare_eq_eq.2 h2] at o2
      have HQ := hid (show res = true by rw [HR.out, decide_eq_true (by omega), decide_eq_true (by omega)]; rfl)
      clear h h2
      go_enter Tryz.func82, Tryz.ntmps82
      go_wp2
      go_ret
      exact ⟨ret_bool HQ.out.symm, rfl⟩
    · rw [Nat.compare_eq_gt.2 h2] at o2
      have HQ := hid (show res = false by rw [HR.out, decide_eq_true (by omega), decide_eq_false (by omega)]; rfl)
      clear h h2
      go_enter Tryz.func82, Tryz.ntmps82
      go_wp2
      go_ret
      exact ⟨ret_bool HQ.out.symm, rfl⟩

end Go.Proofs.YtnbojbcljfiamaaGreatDoor

namespace Go.Proofs.YtnbojbcljfiamaaGreatDoor
open Go.RowKit Go.Shelf

set_option maxHeartbeats 4000000 in
theorem implCheckToken_any (v v1 v3 : Value) (ks : List Lk) (ss : List ByteArray) (nw : Int) (zs : List Int) (at_ : ByteArray) (w : World) (hm : ks.length ≤ 1048577) (hms : ss.length ≤ 1048577) (hmz : zs.length ≤ 1048577) (hat : at_.size ≤ 1048576) (hf : ∀ k ∈ ks, k.size ≤ 1048576) (hr : LkS w v ks) (hrs : VS w v1 (strs ss)) (hrz : VS w v3 (nums zs)) (ht : Tab w) :
    Calls Tryz.prog 39 #[v, v1, .int .i64 nw, v3, .string at_] w fun e w' => e = .returned (.int .i64 (chkX ks (sgTo ks ks.length) ss nw zs at_)) ∧ Below w.heap.size w w' := by
  obtain ⟨a, cap, rfl⟩ := hr.len
  obtain ⟨a1, cap1, rfl⟩ := hrs.strLen
  obtain ⟨a3, cap3, rfl⟩ := hrz.numLen
  cases hg : tkB ks
  · have HR := hid (chkX_no1 (sgTo ks ks.length) ss nw zs at_ hg)
    go_enter Tryz.func39, Tryz.ntmps39
    go_wp2_with fail
    refine (implSignedOf_any _ ks _ hm hf hr ht).mono ?_
    rintro e w1 ⟨v1', rfl, hrow, hB1⟩
    obtain ⟨a', cap', rfl⟩ := ownsRow_len hrow
    rw [hg]
    go_wp2_with fail
    go_ret
    exact ⟨ret_int HR.out.symm, hB1⟩
  · have HG := hid hg
    have HSG := hid (sigL_yes hg)
    have hgd := tkB_good hg
    have hl := tkB_len hg
    cases h1 : tmB nw
    · have HR := hid (show chkX ks (sgTo ks ks.length) ss nw zs at_ = 1 from chkX_no2 ks _ (by unfold argB; rw [h1]; rfl))
      go_enter Tryz.func39, Tryz.ntmps39
      go_wp2_with fail
      refine (implSignedOf_any _ ks _ hm hf hr ht).mono ?_
      rintro e w1 ⟨v1', rfl, hrow, hB1⟩
      rw [HSG.out] at hrow
      obtain ⟨a', cap', rfl⟩ := ownsRow_len hrow
      rw [hg]
      go_wp2_with (first | (go_at_call 79; refine (goodTime_any _ _).mono ?_; rintro e wx ⟨rfl, rfl⟩) | (go_at_call 80; refine (implGoodName_any at_ _ hat).mono ?_; rintro e w2 ⟨rfl, hB2⟩))
      go_ret
      exact ⟨ret_int HR.out.symm, hB1⟩
    · cases h2 : gnB (split at_ 47)
      · have HR := hid (show chkX ks (sgTo ks ks.length) ss nw zs at_ = 1 from chkX_no2 ks _ (by unfold argB; rw [h1, h2]; rfl))
        go_enter Tryz.func39, Tryz.ntmps39
        go_wp2_with fail
        refine (implSignedOf_any _ ks _ hm hf hr ht).mono ?_
        rintro e w1 ⟨v1', rfl, hrow, hB1⟩
        rw [HSG.out] at hrow
        obtain ⟨a', cap', rfl⟩ := ownsRow_len hrow
        rw [hg]
        go_wp2_with (first | (go_at_call 79; refine (goodTime_any _ _).mono ?_; rintro e wx ⟨rfl, rfl⟩) | (go_at_call 80; refine (implGoodName_any at_ _ hat).mono ?_; rintro e w2 ⟨rfl, hB2⟩))
        go_ret
        exact ⟨ret_int HR.out.symm, below_one hB1 hB2⟩
      · cases h3 : decide (ss.length ≤ 200)
        · have HR := hid (show chkX ks (sgTo ks ks.length) ss nw zs at_ = 1 from chkX_no2 ks _ (by unfold argB; rw [h1, h2, h3]; rfl))
          have d3 : decide ((200 : Int) < (ss.length : Int)) = true := by have := of_decide_eq_false h3; simp; omega
          clear h3
          go_enter Tryz.func39, Tryz.ntmps39
          go_wp2_with fail
          refine (implSignedOf_any _ ks _ hm hf hr ht).mono ?_
          rintro e w1 ⟨v1', rfl, hrow, hB1⟩
          rw [HSG.out] at hrow
          obtain ⟨a', cap', rfl⟩ := ownsRow_len hrow
          rw [hg]
          go_wp2_with (first | (go_at_call 79; refine (goodTime_any _ _).mono ?_; rintro e wx ⟨rfl, rfl⟩) | (go_at_call 80; refine (implGoodName_any at_ _ hat).mono ?_; rintro e w2 ⟨rfl, hB2⟩))
          go_ret
          exact ⟨ret_int HR.out.symm, below_one hB1 hB2⟩
        · cases h4 : decide (zs.length ≤ 200)
          · have HR := hid (show chkX ks (sgTo ks ks.length) ss nw zs at_ = 1 from chkX_no2 ks _ (by unfold argB; rw [h1, h2, h3, h4]; rfl))
            have d3 : decide ((200 : Int) < (ss.length : Int)) = false := by have := of_decide_eq_true h3; simp; omega
            have d4 : decide ((200 : Int) < (zs.length : Int)) = true := by have := of_decide_eq_false h4; simp; omega
            clear h3 h4
            go_enter Tryz.func39, Tryz.ntmps39
            go_wp2_with fail
            refine (implSignedOf_any _ ks _ hm hf hr ht).mono ?_
            rintro e w1 ⟨v1', rfl, hrow, hB1⟩
            rw [HSG.out] at hrow
            obtain ⟨a', cap', rfl⟩ := ownsRow_len hrow
            rw [hg]
            go_wp2_with (first | (go_at_call 79; refine (goodTime_any _ _).mono ?_; rintro e wx ⟨rfl, rfl⟩) | (go_at_call 80; refine (implGoodName_any at_ _ hat).mono ?_; rintro e w2 ⟨rfl, hB2⟩))
            go_ret
            exact ⟨ret_int HR.out.symm, below_one hB1 hB2⟩
          · have HX := hid (show chkX ks (sgTo ks ks.length) ss nw zs at_ = chk0 ks ss nw zs at_ from chkX_0 ks ss (by unfold argB; rw [h1, h2, h3, h4]; rfl))
            have d3 : decide ((200 : Int) < (ss.length : Int)) = false := by have := of_decide_eq_true h3; simp; omega
            have d4 : decide ((200 : Int) < (zs.length : Int)) = false := by have := of_decide_eq_true h4; simp; omega
            have hnn := of_decide_eq_true h1
            obtain ⟨nn, hnn'⟩ := Int.eq_ofNat_of_zero_le hnn.1
            have hn1 : nn ≤ 100000 := by omega
            have HWI := hid (show inT ks nw = decide (mxF ks ks.length ≤ nn ∧ nn ≤ mnU ks ks.length) by rw [← inT_end, hnn']; exact win_in hgd hn1 ks.length (Nat.le_refl _))
            have HN := hid hnn'
            have hwl := win_le hgd ks.length (Nat.le_refl _)
            clear h3 h4 hnn hnn'
            have H2 := hid (fun h => chk0_2 (ks := ks) (ss := ss) nw zs at_ HG.out h)
            have H3 := hid (fun h h' => chk0_3 (ks := ks) (ss := ss) (nw := nw) zs at_ HG.out h h')
            have H4 := hid (fun h h' h4 => chk0_4 (ks := ks) (ss := ss) (nw := nw) (zs := zs) at_ HG.out h h' h4)
            have H5 := hid (fun h h' h4 h5 => chk0_5 (ks := ks) (ss := ss) (nw := nw) (zs := zs) (at_ := at_) HG.out h h' h4 h5)
            have H0 := hid (fun h h' h4 h5 => chk0_0 (ks := ks) (ss := ss) (nw := nw) (zs := zs) (at_ := at_) HG.out h h' h4 h5)
            have hsl : (sgTo ks ks.length).length ≤ 1048577 := by rw [sgTo_len]; exact hm
            obtain ⟨m, hmm⟩ : ∃ m, m = ks.length - 1 := ⟨_, rfl⟩
            have hlm : m < ks.length := by omega
            have HO := hid (toOk_at (at_ := at_) hlm hmm)
            have hw1 : IntKind.i64.wrap ((ks.length : Int) - 1) = (m : Int) := by rw [IntKind.wrap_i64]; omega
            have hw2 : (m : Int) < (ks.length : Int) := by omega
            clear hmm
            cases hA : allT ss (sgTo ks ks.length)
            · have HR := hid (HX.out.trans (H2.out hA))
              go_enter Tryz.func39, Tryz.ntmps39
              go_wp2_with fail
              refine (implSignedOf_any _ ks _ hm hf hr ht).mono ?_
              rintro e w1 ⟨v1', rfl, hrow, hB1⟩
              rw [HSG.out] at hrow
              obtain ⟨a', cap', rfl⟩ := ownsRow_len hrow
              rw [hg]
              go_wp2_with (first | (go_at_call 79; refine (goodTime_any _ _).mono ?_; rintro e wx ⟨rfl, rfl⟩) | (go_at_call 80; refine (implGoodName_any at_ _ hat).mono ?_; rintro e w2 ⟨rfl, hB2⟩))
              have hB12 := below_one hB1 hB2
              refine (hasAll_any _ _ ss (sgTo ks ks.length) _ hms hsl (hrs.below hB12) (VS.ownS (ownsRow_below hrow hB2))).mono ?_
              rintro e w3 ⟨rfl, rfl⟩
              rw [hA]
              go_wp2_with fail
              go_ret
              exact ⟨ret_int HR.out.symm, hB12⟩
            · cases hI : inT ks nw
              · have HR := hid (HX.out.trans (H3.out hA hI))
                have hI' : decide (mxF ks ks.length ≤ nn ∧ nn ≤ mnU ks ks.length) = false := by rw [← HWI.out, hI]
                go_enter Tryz.func39, Tryz.ntmps39
                go_wp2_with fail
                refine (implSignedOf_any _ ks _ hm hf hr ht).mono ?_
                rintro e w1 ⟨v1', rfl, hrow, hB1⟩
                rw [HSG.out] at hrow
                obtain ⟨a', cap', rfl⟩ := ownsRow_len hrow
                rw [hg]
                go_wp2_with (first | (go_at_call 79; refine (goodTime_any _ _).mono ?_; rintro e wx ⟨rfl, rfl⟩) | (go_at_call 80; refine (implGoodName_any at_ _ hat).mono ?_; rintro e w2 ⟨rfl, hB2⟩))
                have hB12 := below_one hB1 hB2
                refine (hasAll_any _ _ ss (sgTo ks ks.length) _ hms hsl (hrs.below hB12) (VS.ownS (ownsRow_below hrow hB2))).mono ?_
                rintro e w3 ⟨rfl, rfl⟩
                rw [hA]
                go_wp2_with fail
                refine (windowOf_any _ ks _ hm hgd (hr.below hB12)).mono ?_
                rintro e w4 ⟨rfl, hB4⟩
                have hB14 := below_one hB12 hB4
                go_wp2_with fail
                have hnx : (Value.int .i64 nw) = .int .i64 (nn : Int) := by rw [HN.out]
                rw [hnx]
                refine (within_any _ _ nn _ hwl.1 hwl.2 hn1).mono ?_
                rintro e w5 ⟨rfl, rfl⟩
                rw [hI']
                go_wp2_with fail
                go_ret
                exact ⟨ret_int HR.out.symm, hB14⟩
              · cases hV : rvB ks zs
                · obtain ⟨k, hk⟩ : ∃ k, k = ks[m] := ⟨_, rfl⟩
                  cases he : (ks[m].to.toList == at_.toList)
                  · have HR := hid (HX.out.trans (H5.out hA hI hV (by rw [HO.out, he])))
                    have hI' : decide (mxF ks ks.length ≤ nn ∧ nn ≤ mnU ks ks.length) = true := by rw [← HWI.out, hI]
                    go_enter Tryz.func39, Tryz.ntmps39
                    go_wp2_with fail
                    refine (implSignedOf_any _ ks _ hm hf hr ht).mono ?_
                    rintro e w1 ⟨v1', rfl, hrow, hB1⟩
                    rw [HSG.out] at hrow
                    obtain ⟨a', cap', rfl⟩ := ownsRow_len hrow
                    rw [hg]
                    go_wp2_with (first | (go_at_call 79; refine (goodTime_any _ _).mono ?_; rintro e wx ⟨rfl, rfl⟩) | (go_at_call 80; refine (implGoodName_any at_ _ hat).mono ?_; rintro e w2 ⟨rfl, hB2⟩))
                    have hB12 := below_one hB1 hB2
                    refine (hasAll_any _ _ ss (sgTo ks ks.length) _ hms hsl (hrs.below hB12) (VS.ownS (ownsRow_below hrow hB2))).mono ?_
                    rintro e w3 ⟨rfl, rfl⟩
                    rw [hA]
                    go_wp2_with fail
                    refine (windowOf_any _ ks _ hm hgd (hr.below hB12)).mono ?_
                    rintro e w4 ⟨rfl, hB4⟩
                    have hB14 := below_one hB12 hB4
                    go_wp2_with fail
                    have hnx : (Value.int .i64 nw) = .int .i64 (nn : Int) := by rw [HN.out]
                    rw [hnx]
                    refine (within_any _ _ nn _ hwl.1 hwl.2 hn1).mono ?_
                    rintro e w5 ⟨rfl, rfl⟩
                    rw [hI']
                    go_wp2_with fail
                    refine (anyRevoked_any _ _ ks zs _ hm hmz (hr.below hB14) (hrz.below hB14)).mono ?_
                    rintro e w6 ⟨rfl, hB6⟩
                    have hB16 := below_one hB14 hB6
                    rw [hV]
                    obtain ⟨b, off, rfl, hb, hcap, _, q1, _, _, _⟩ := (hr.below hB16).at hlm
                    rw [← hk] at q1 he
                    clear hk
                    go_wp2_with fail
                    go_ret
                    exact ⟨ret_int HR.out.symm, hB16⟩
                  · have HR := hid (HX.out.trans (H0.out hA hI hV (by rw [HO.out, he])))
                    have hI' : decide (mxF ks ks.length ≤ nn ∧ nn ≤ mnU ks ks.length) = true := by rw [← HWI.out, hI]
                    go_enter Tryz.func39, Tryz.ntmps39
                    go_wp2_with fail
                    refine (implSignedOf_any _ ks _ hm hf hr ht).mono ?_
                    rintro e w1 ⟨v1', rfl, hrow, hB1⟩
                    rw [HSG.out] at hrow
                    obtain ⟨a', cap', rfl⟩ := ownsRow_len hrow
                    rw [hg]
                    go_wp2_with (first | (go_at_call 79; refine (goodTime_any _ _).mono ?_; rintro e wx ⟨rfl, rfl⟩) | (go_at_call 80; refine (implGoodName_any at_ _ hat).mono ?_; rintro e w2 ⟨rfl, hB2⟩))
                    have hB12 := below_one hB1 hB2
                    refine (hasAll_any _ _ ss (sgTo ks ks.length) _ hms hsl (hrs.below hB12) (VS.ownS (ownsRow_below hrow hB2))).mono ?_
                    rintro e w3 ⟨rfl, rfl⟩
                    rw [hA]
                    go_wp2_with fail
                    refine (windowOf_any _ ks _ hm hgd (hr.below hB12)).mono ?_
                    rintro e w4 ⟨rfl, hB4⟩
                    have hB14 := below_one hB12 hB4
                    go_wp2_with fail
                    have hnx : (Value.int .i64 nw) = .int .i64 (nn : Int) := by rw [HN.out]
                    rw [hnx]
                    refine (within_any _ _ nn _ hwl.1 hwl.2 hn1).mono ?_
                    rintro e w5 ⟨rfl, rfl⟩
                    rw [hI']
                    go_wp2_with fail
                    refine (anyRevoked_any _ _ ks zs _ hm hmz (hr.below hB14) (hrz.below hB14)).mono ?_
                    rintro e w6 ⟨rfl, hB6⟩
                    have hB16 := below_one hB14 hB6
                    rw [hV]
                    obtain ⟨b, off, rfl, hb, hcap, _, q1, _, _, _⟩ := (hr.below hB16).at hlm
                    rw [← hk] at q1 he
                    clear hk
                    go_wp2_with fail
                    go_ret
                    exact ⟨ret_int HR.out.symm, hB16⟩
                · have HR := hid (HX.out.trans (H4.out hA hI hV))
                  have hI' : decide (mxF ks ks.length ≤ nn ∧ nn ≤ mnU ks ks.length) = true := by rw [← HWI.out, hI]
                  go_enter Tryz.func39, Tryz.ntmps39
                  go_wp2_with fail
                  refine (implSignedOf_any _ ks _ hm hf hr ht).mono ?_
                  rintro e w1 ⟨v1', rfl, hrow, hB1⟩
                  rw [HSG.out] at hrow
                  obtain ⟨a', cap', rfl⟩ := ownsRow_len hrow
                  rw [hg]
                  go_wp2_with (first | (go_at_call 79; refine (goodTime_any _ _).mono ?_; rintro e wx ⟨rfl, rfl⟩) | (go_at_call 80; refine (implGoodName_any at_ _ hat).mono ?_; rintro e w2 ⟨rfl, hB2⟩))
                  have hB12 := below_one hB1 hB2
                  refine (hasAll_any _ _ ss (sgTo ks ks.length) _ hms hsl (hrs.below hB12) (VS.ownS (ownsRow_below hrow hB2))).mono ?_
                  rintro e w3 ⟨rfl, rfl⟩
                  rw [hA]
                  go_wp2_with fail
                  refine (windowOf_any _ ks _ hm hgd (hr.below hB12)).mono ?_
                  rintro e w4 ⟨rfl, hB4⟩
                  have hB14 := below_one hB12 hB4
                  go_wp2_with fail
                  have hnx : (Value.int .i64 nw) = .int .i64 (nn : Int) := by rw [HN.out]
                  rw [hnx]
                  refine (within_any _ _ nn _ hwl.1 hwl.2 hn1).mono ?_
                  rintro e w5 ⟨rfl, rfl⟩
                  rw [hI']
                  go_wp2_with fail
                  refine (anyRevoked_any _ _ ks zs _ hm hmz (hr.below hB14) (hrz.below hB14)).mono ?_
                  rintro e w6 ⟨rfl, hB6⟩
                  have hB16 := below_one hB14 hB6
                  rw [hV]
                  go_wp2_with fail
                  go_ret
                  exact ⟨ret_int HR.out.symm, hB16⟩

end Go.Proofs.YtnbojbcljfiamaaGreatDoor

namespace Go.Proofs.YtnbojbcljfiamaaGreatDoor
open Go.RowKit Go.Shelf

set_option maxHeartbeats 8000000 in
set_option maxRecDepth 100000 in
theorem spotAt_any (v : Value) (s : Sd) (k : Nat) (w : World) (hs : s.short) (h : SdR w v s) (hk : k < s.ha.length) (hkr : k < s.ru.length) (hkz : k < s.se.length) :
    Calls Tryz.prog 74 #[v, .int .i64 k] w fun e w' => e = .returned (.agg #[.bool s.ha[k], .bool (s.ru[k]).deny, .string (s.ru[k]).who, .string (s.ru[k]).method, .string (s.ru[k]).path, .int .i64 s.se[k]]) ∧ Below w.heap.size w w' := by
  obtain ⟨vp, vr, vu, vh, vs, rfl, h1, h2, h3, h4, h5⟩ := h
  obtain ⟨hf, l3, l4, l5, lr⟩ := hs
  have hS : SnR w (.agg #[.int .i64 s.fo.num, vp, vr]) s.fo := ⟨_, _, rfl, h1, h2⟩
  obtain ⟨ap, cp, rfl⟩ := h1.len
  obtain ⟨ar, cr, rfl⟩ := h2.len
  obtain ⟨au, cu, rfl⟩ := h3.len
  obtain ⟨ah, ch, rfl⟩ := h4.s.bolLen
  obtain ⟨ai, ci, rfl⟩ := h5.len
  have hB0 : Below w.heap.size w ((w.alloc (.cells #[.int .i64 s.fo.num, .slice ap s.fo.pol.length cp, .slice ar s.fo.rv.length cr, .int .i64 s.co, .slice au s.ru.length cu, .slice ah s.ha.length ch, .slice ai s.se.length ci] 42)).alloc (.cells #[.bool false, .bool false, .string ⟨#[]⟩, .string ⟨#[]⟩, .string ⟨#[]⟩, .int .i64 0] 134)) := ((Below.refl _ w).alloc (Nat.le_refl _) _).alloc (by simp) _
  have F1 := (Seven.new w (.int .i64 s.fo.num) (.slice ap s.fo.pol.length cp) (.slice ar s.fo.rv.length cr) (.int .i64 s.co) (.slice au s.ru.length cu) (.slice ah s.ha.length ch) (.slice ai s.se.length ci) 42).below ((Below.refl _ _).alloc (Nat.le_refl _) (.cells #[.bool false, .bool false, .string ⟨#[]⟩, .string ⟨#[]⟩, .string ⟨#[]⟩, .int .i64 0] 134))
  have F2 := Six.at (w.alloc (.cells #[.int .i64 s.fo.num, .slice ap s.fo.pol.length cp, .slice ar s.fo.rv.length cr, .int .i64 s.co, .slice au s.ru.length cu, .slice ah s.ha.length ch, .slice ai s.se.length ci] 42)) (.bool false) (.bool false) (.string ⟨#[]⟩) (.string ⟨#[]⟩) (.string ⟨#[]⟩) (.int .i64 0) 134 (k := w.heap.size + 1) (by simp)
  obtain ⟨bu, ou, rfl, hbu, _⟩ := h3.s.at hkr
  obtain ⟨bh, oh, rfl, hbh, _⟩ := h4.s.bol hk
  obtain ⟨bi, oi, rfl, hbi, _⟩ := h5.s.num hkz
  obtain ⟨_, _, ee, _, hcu, q0, q1, q2, q3⟩ := (h3.s.below hB0).at hkr
  cases ee
  obtain ⟨_, _, ee, _, hch, q4⟩ := (h4.s.below hB0).bol hk
  cases ee
  obtain ⟨_, _, ee, _, hci, q5⟩ := (h5.s.below hB0).num hkz
  cases ee
  have m1 : bu ≠ w.heap.size + 1 := by omega
  have m1' : w.heap.size + 1 ≠ bu := by omega
  have m2 : bh ≠ w.heap.size + 1 := by omega
  have m2' : w.heap.size + 1 ≠ bh := by omega
  have m3 : bi ≠ w.heap.size + 1 := by omega
  have m3' : w.heap.size + 1 ≠ bi := by omega
  have m4 : w.heap.size ≠ w.heap.size + 1 := by omega
  have m4' : w.heap.size + 1 ≠ w.heap.size := by omega
  generalize s.ru[k] = r at *
  generalize s.ha[k] = h at *
  generalize s.se[k] = z at *
  go_enter Tryz.func74, Tryz.ntmps74
  go_wp2_with fail
  generalize (w.alloc (.cells #[.int .i64 s.fo.num, .slice ap s.fo.pol.length cp, .slice ar s.fo.rv.length cr, .int .i64 s.co, .slice (some ⟨bu, ou, none⟩) s.ru.length cu, .slice (some ⟨bh, oh, none⟩) s.ha.length ch, .slice (some ⟨bi, oi, none⟩) s.se.length ci] 42)).alloc (.cells #[.bool false, .bool false, .string ⟨#[]⟩, .string ⟨#[]⟩, .string ⟨#[]⟩, .int .i64 0] 134) = W0 at *
  obtain ⟨a0, a1, a2, a3, a4, a5, a6⟩ := F1.c
  have hBd : Below W0.heap.size W0 W0.drew := (Below.refl _ _).drew
  replace F2 := F2.below hBd
  replace hB0 := below_one hB0 hBd
  clear hBd F1
  refine wp_region_held_drew (S := fun w' => w'.cell? ⟨w.heap.size, 4, none⟩ = some (.slice (some ⟨bu, ou, none⟩) s.ru.length cu) ∧ w'.cell? ⟨w.heap.size, 5, none⟩ = some (.slice (some ⟨bh, oh, none⟩) s.ha.length ch) ∧ w'.cell? ⟨w.heap.size, 6, none⟩ = some (.slice (some ⟨bi, oi, none⟩) s.se.length ci) ∧ w'.cell? ⟨bh, oh + k, none⟩ = some (.bool h) ∧ w'.cell? ⟨bu, ou + k * 4, none⟩ = some (.bool r.deny) ∧ w'.cell? ⟨bu, ou + k * 4 + 1, none⟩ = some (.string r.who) ∧ w'.cell? ⟨bu, ou + k * 4 + 2, none⟩ = some (.string r.method) ∧ w'.cell? ⟨bu, ou + k * 4 + 3, none⟩ = some (.string r.path) ∧ w'.cell? ⟨bi, oi + k, none⟩ = some (.int .i64 z)) (by kernel_rfl) ?_ (fun hHeld => ?_)
  · go_keep
  generalize W0.drew = Wd at *
  clear q0 q1 q2 q3 q4 q5 a0 a1 a2 a3 a4 a5 a6
  obtain ⟨c0, c1, c2, c3, c4, c5⟩ := F2.c
  have f0 := F2.f 0
  have f1 := F2.f 1
  have f2 := F2.f 2
  have f3 := F2.f 3
  have f4 := F2.f 4
  have f5 := F2.f 5
  refine takeW 0 (v := ?v1) rfl (by kernel_rfl) (by kernel_rfl) (by kernel_rfl) (fun _ _ _ h => h) (by rfl) (by assumption) ?hy1 ?rest1
  case hy1 => intro w' hSw; (try dsimp only at hSw); go_simp; try with_reducible rfl
  try simp only [Act.put, List.setIfInBounds_toArray, List.set_cons_zero, List.set_cons_succ]
  refine takeW 1 (v := ?v2) rfl (by kernel_rfl) (by kernel_rfl) (by kernel_rfl) (fun _ _ _ h => h) (by rfl) (by assumption) ?hy2 ?rest2
  case hy2 => intro w' hSw; (try dsimp only at hSw); go_simp; try with_reducible rfl
  try simp only [Act.put, List.setIfInBounds_toArray, List.set_cons_zero, List.set_cons_succ]
  refine takeW 2 (v := ?v3) rfl (by kernel_rfl) (by kernel_rfl) (by kernel_rfl) (fun _ _ _ h => h) (by rfl) (by assumption) ?hy3 ?rest3
  case hy3 => intro w' hSw; (try dsimp only at hSw); go_simp; try with_reducible rfl
  try simp only [Act.put, List.setIfInBounds_toArray, List.set_cons_zero, List.set_cons_succ]
  refine takeW 3 (v := ?v4) rfl (by kernel_rfl) (by kernel_rfl) (by kernel_rfl) (fun _ _ _ h => h) (by rfl) (by assumption) ?hy4 ?rest4
  case hy4 => intro w' hSw; (try dsimp only at hSw); go_simp; try with_reducible rfl
  try simp only [Act.put, List.setIfInBounds_toArray, List.set_cons_zero, List.set_cons_succ]
  refine takeW 4 (v := ?v5) rfl (by kernel_rfl) (by kernel_rfl) (by kernel_rfl) (fun _ _ _ h => h) (by rfl) (by assumption) ?hy5 ?rest5
  case hy5 => intro w' hSw; (try dsimp only at hSw); go_simp; try with_reducible rfl
  try simp only [Act.put, List.setIfInBounds_toArray, List.set_cons_zero, List.set_cons_succ]
  refine takeW 5 (v := ?v6) rfl (by kernel_rfl) (by kernel_rfl) (by kernel_rfl) (fun _ _ _ h => h) (by rfl) (by assumption) ?hy6 ?rest6
  case hy6 => intro w' hSw; (try dsimp only at hSw); go_simp; try with_reducible rfl
  try simp only [Act.put, List.setIfInBounds_toArray, List.set_cons_zero, List.set_cons_succ]
  refine takeW 6 (v := ?v7) rfl (by kernel_rfl) (by kernel_rfl) (by kernel_rfl) (fun _ _ _ h => h) (by rfl) (by assumption) ?hy7 ?rest7
  case hy7 => intro w' hSw; (try dsimp only at hSw); go_simp; try with_reducible rfl
  try simp only [Act.put, List.setIfInBounds_toArray, List.set_cons_zero, List.set_cons_succ]
  refine takeW 7 (v := ?v8) rfl (by kernel_rfl) (by kernel_rfl) (by kernel_rfl) (fun _ _ _ h => h) (by rfl) (by assumption) ?hy8 ?rest8
  case hy8 => intro w' hSw; (try dsimp only at hSw); go_simp; try with_reducible rfl
  try simp only [Act.put, List.setIfInBounds_toArray, List.set_cons_zero, List.set_cons_succ]
  refine takeW 8 (v := ?v9) rfl (by kernel_rfl) (by kernel_rfl) (by kernel_rfl) (fun _ _ _ h => h) (by rfl) (by assumption) ?hy9 ?rest9
  case hy9 => intro w' hSw; (try dsimp only at hSw); go_simp; try with_reducible rfl
  try simp only [Act.put, List.setIfInBounds_toArray, List.set_cons_zero, List.set_cons_succ]
  refine takeW 9 (v := ?v10) rfl (by kernel_rfl) (by kernel_rfl) (by kernel_rfl) (fun _ _ _ h => h) (by rfl) (by assumption) ?hy10 ?rest10
  case hy10 => intro w' hSw; (try dsimp only at hSw); go_simp; try with_reducible rfl
  try simp only [Act.put, List.setIfInBounds_toArray, List.set_cons_zero, List.set_cons_succ]
  refine takeW 10 (v := ?v11) rfl (by kernel_rfl) (by kernel_rfl) (by kernel_rfl) (fun _ _ _ h => h) (by rfl) (by assumption) ?hy11 ?rest11
  case hy11 => intro w' hSw; (try dsimp only at hSw); go_simp; try with_reducible rfl
  try simp only [Act.put, List.setIfInBounds_toArray, List.set_cons_zero, List.set_cons_succ]
  refine takeW 11 (v := ?v12) rfl (by kernel_rfl) (by kernel_rfl) (by kernel_rfl) (fun _ _ _ h => h) (by rfl) (by assumption) ?hy12 ?rest12
  case hy12 => intro w' hSw; (try dsimp only at hSw); go_simp; try with_reducible rfl
  try simp only [Act.put, List.setIfInBounds_toArray, List.set_cons_zero, List.set_cons_succ]
  refine takeW 12 (v := ?v13) rfl (by kernel_rfl) (by kernel_rfl) (by kernel_rfl) (fun _ _ _ h => h) (by rfl) (by assumption) ?hy13 ?rest13
  case hy13 => intro w' hSw; (try dsimp only at hSw); go_simp; try with_reducible rfl
  try simp only [Act.put, List.setIfInBounds_toArray, List.set_cons_zero, List.set_cons_succ]
  refine takeW 13 (v := ?v14) rfl (by kernel_rfl) (by kernel_rfl) (by kernel_rfl) (fun _ _ _ h => h) (by rfl) (by assumption) ?hy14 ?rest14
  case hy14 => intro w' hSw; (try dsimp only at hSw); go_simp; try with_reducible rfl
  try simp only [Act.put, List.setIfInBounds_toArray, List.set_cons_zero, List.set_cons_succ]
  refine takeW 14 (v := ?v15) rfl (by kernel_rfl) (by kernel_rfl) (by kernel_rfl) (fun _ _ _ h => h) (by rfl) (by assumption) ?hy15 ?rest15
  case hy15 => intro w' hSw; (try dsimp only at hSw); go_simp; try with_reducible rfl
  try simp only [Act.put, List.setIfInBounds_toArray, List.set_cons_zero, List.set_cons_succ]
  refine takeW 15 (v := ?v16) rfl (by kernel_rfl) (by kernel_rfl) (by kernel_rfl) (fun _ _ _ h => h) (by rfl) (by assumption) ?hy16 ?rest16
  case hy16 => intro w' hSw; (try dsimp only at hSw); go_simp; try with_reducible rfl
  try simp only [Act.put, List.setIfInBounds_toArray, List.set_cons_zero, List.set_cons_succ]
  refine takeC 16 (by kernel_rfl) rfl (fun K hK => ?_)
  go_simp
  skip
  refine hK.out _ _ ?_ (fun hHeld => ?_)
  · go_keep
  clear hK K
  try simp only [Act.put, List.setIfInBounds_toArray, List.set_cons_zero, List.set_cons_succ]
  refine wpAnyH_done (by kernel_rfl) ?_ _
  clear hHeld
  have G := (((((F2.s0 (.bool h)).s1 (.bool r.deny)).s2 (.string r.who)).s3 (.string r.method)).s4 (.string r.path)).s5 (.int .i64 z)
  have pB := below_six hB0 (k := w.heap.size + 1) (by omega) (.bool h) (.bool r.deny) (.string r.who) (.string r.method) (.string r.path) (.int .i64 z)
  go_wp2_with fail
  obtain ⟨d0, d1, d2, d3, d4, d5⟩ := G.c
  exact bodyPost_ret (v := .agg #[.bool h, .bool r.deny, .string r.who, .string r.method, .string r.path, .int .i64 z]) (by simp [results, Tryz.results74, go_sem, d0, d1, d2, d3, d4, d5]) rfl ⟨rfl, pB⟩

end Go.Proofs.YtnbojbcljfiamaaGreatDoor

namespace Go.Proofs.YtnbojbcljfiamaaGreatDoor
open Go.RowKit Go.Shelf

theorem eql_sp (h : Bool) (r : Ru) (z : Int) (w : World) : (binOp .eql 134 (.agg #[.bool h, .bool r.deny, .string r.who, .string r.method, .string r.path, .int .i64 z]) (.agg #[.bool false, .bool false, .string ⟨#[]⟩, .string ⟨#[]⟩, .string ⟨#[]⟩, .int .i64 0])).run Tryz.prog w = .ok (.bool ((h == false) && (r.same zrU && (z == 0)))) w := by
  rw [run_eql_struct]
  simp [go_sem, Tryz.underlying134, Tryz.underlying122]
  unfold Ru.same eqB zrU
  repeat' split
  all_goals simp_all

set_option maxHeartbeats 2000000 in
theorem spotGood_any (h : Bool) (r : Ru) (z : Int) (w : World) (hr : r.size ≤ 1048576) :
    Calls Tryz.prog 75 #[.agg #[.bool h, .bool r.deny, .string r.who, .string r.method, .string r.path, .int .i64 z]] w fun e w' => e = .returned (.bool (spotB h r z)) ∧ Below w.heap.size w w' := by
  have hB0 : Below w.heap.size w (w.alloc (.cells #[.bool h, .bool r.deny, .string r.who, .string r.method, .string r.path, .int .i64 z] 134)) := (Below.refl _ w).alloc (Nat.le_refl _) _
  have F := Six.new w (.bool h) (.bool r.deny) (.string r.who) (.string r.method) (.string r.path) (.int .i64 z) 134
  cases h
  · have HR := hid (show spotB false r z = ((false == false) && (r.same zrU && (z == 0))) from rfl)
    have hse := eql_sp false r z
    go_enter Tryz.func75, Tryz.ntmps75
    go_wp2
    go_ret
    exact ⟨ret_bool HR.out.symm, hB0⟩
  · cases e0 : (z == 0)
    · cases e1 : r.same zrU
      · have HR := hid (show spotB true r z = false by unfold spotB; rw [if_pos rfl, if_neg (by rw [e0]; exact Bool.false_ne_true), e1]; rfl)
        have hse := eql_zr r
        go_enter Tryz.func75, Tryz.ntmps75
        go_wp2
        go_ret
        exact ⟨ret_bool HR.out.symm, hB0⟩
      · have HR := hid (show spotB true r z = numB z by unfold spotB; rw [if_pos rfl, if_neg (by rw [e0]; exact Bool.false_ne_true), e1]; rfl)
        have hse := eql_zr r
        go_enter Tryz.func75, Tryz.ntmps75
        go_wp2_with (go_at_call 110; refine (okSerial_any z _).mono ?_; rintro e w1 ⟨rfl, rfl⟩)
        go_ret
        exact ⟨ret_bool ((show okS z = spotB true r z by rw [HR.out]; unfold okS numB; exact decide_eq_decide.2 (by omega))), hB0⟩
    · have HR := hid (show spotB true r z = r.good by unfold spotB; rw [if_pos rfl, if_pos e0])
      go_enter Tryz.func75, Tryz.ntmps75
      go_wp2_with fail
      generalize w.alloc (.cells #[.bool true, .bool r.deny, .string r.who, .string r.method, .string r.path, .int .i64 z] 134) = W0 at *
      refine (implGoodRule_any r _ hr).mono ?_
      rintro e w1 ⟨rfl, hB1⟩
      go_wp2_with fail
      go_ret
      exact ⟨ret_bool HR.out.symm, below_one hB0 hB1⟩

set_option maxHeartbeats 8000000 in
set_option maxRecDepth 100000 in
theorem implGoodSide_any (v : Value) (s : Sd) (w : World) (hs : s.short) (h : SdR w v s) :
    Calls Tryz.prog 37 #[v] w fun e w' => e = .returned (.bool (sdB s)) ∧ Below w.heap.size w w' := by
  have hSd := h
  have hs' := hs
  obtain ⟨vp, vr, vu, vh, vs, rfl, h1, h2, h3, h4, h5⟩ := h
  obtain ⟨hf, l3, l4, l5, lr⟩ := hs
  have hS : SnR w (.agg #[.int .i64 s.fo.num, vp, vr]) s.fo := ⟨_, _, rfl, h1, h2⟩
  obtain ⟨ap, cp, rfl⟩ := h1.len
  obtain ⟨ar, cr, rfl⟩ := h2.len
  obtain ⟨au, cu, rfl⟩ := h3.len
  obtain ⟨ah, ch, rfl⟩ := h4.s.bolLen
  obtain ⟨ai, ci, rfl⟩ := h5.len
  have hB0 : Below w.heap.size w (w.alloc (.cells #[.int .i64 s.fo.num, .slice ap s.fo.pol.length cp, .slice ar s.fo.rv.length cr, .int .i64 s.co, .slice au s.ru.length cu, .slice ah s.ha.length ch, .slice ai s.se.length ci] 42)) := (Below.refl _ w).alloc (Nat.le_refl _) _
  have F := Seven.new w (.int .i64 s.fo.num) (.slice ap s.fo.pol.length cp) (.slice ar s.fo.rv.length cr) (.int .i64 s.co) (.slice au s.ru.length cu) (.slice ah s.ha.length ch) (.slice ai s.se.length ci) 42
  go_enter Tryz.func37, Tryz.ntmps37
  go_wp2_with fail
  generalize w.alloc (.cells #[.int .i64 s.fo.num, .slice ap s.fo.pol.length cp, .slice ar s.fo.rv.length cr, .int .i64 s.co, .slice au s.ru.length cu, .slice ah s.ha.length ch, .slice ai s.se.length ci] 42) = W0 at *
  have hBw := hB0
  have F0 := F
  have hBW := Below.refl W0.heap.size W0
  refine (goodForce_any _ s.fo _ hf (hS.below hB0)).mono ?_
  rintro e w1 ⟨rfl, hB1⟩
  replace F := F.below hB1
  replace hB0 := below_one hB0 hB1
  replace hBW := below_one hBW hB1
  clear hB1
  obtain ⟨a0, a1, a2, a3, a4, a5, a6⟩ := F.c
  cases hfo : foB s.fo
  case false =>
    have HR := hid (show sdB s = false from sd_no1 hfo)
    go_wp2_with fail
    go_ret
    exact ⟨ret_bool HR.out.symm, hB0⟩
  have HFO := hid hfo
  have hnum := foB_num HFO.out
  cases m1 : ((s.ru.length : Int) != (s.ha.length : Int))
  case true =>
    have HR := hid (show sdB s = false from sd_no2 (ln_no1 m1))
    go_wp2_with fail
    go_ret
    exact ⟨ret_bool HR.out.symm, hB0⟩
  cases m2 : ((s.se.length : Int) != (s.ha.length : Int))
  case true =>
    have HR := hid (show sdB s = false from sd_no2 (ln_no2 m2))
    go_wp2_with fail
    go_ret
    exact ⟨ret_bool HR.out.symm, hB0⟩
  cases m3 : decide ((230 : Int) < (s.ha.length : Int))
  case true =>
    have HR := hid (show sdB s = false from sd_no2 (ln_no3 m3))
    go_wp2_with fail
    go_ret
    exact ⟨ret_bool HR.out.symm, hB0⟩
  have HL := hid (ln_yes m1 m2 m3)
  have hln := lnB_parts HL.out
  obtain ⟨hl1, hl2, hl3⟩ := hln
  have hq1 : s.ha.length ≤ s.ru.length := by omega
  have hq2 : s.ha.length ≤ s.se.length := by omega
  clear hl1 hl2
  cases m4 : (s.co == 0)
  case true =>
    have HR := hid (show sdB s = ((s.ha.length : Int) == 0) by
      cases m5 : ((s.ha.length : Int) == 0)
      · exact sd_no3 (co_no1 m4 m5)
      · refine sd_yes HFO.out HL.out (co_yes1 m4 m5) ?_
        have h0 : s.ha.length = 0 := by have := eq_of_beq m5; omega
        rw [h0]
        exact plT_zero s)
    go_wp2_with fail
    go_ret
    exact ⟨ret_bool HR.out.symm, hB0⟩
  cases m5 : decide (s.co ≤ s.fo.num)
  case true =>
    have HR := hid (show sdB s = false from sd_no3 (co_no2 m4 (fun hh => by have := of_decide_eq_true m5; omega)))
    go_wp2_with fail
    go_ret
    exact ⟨ret_bool HR.out.symm, hB0⟩
  cases m6 : decide ((100000 : Int) < s.co)
  case true =>
    have HR := hid (show sdB s = false from sd_no3 (co_no2 m4 (fun hh => by have := of_decide_eq_true m6; omega)))
    go_wp2_with fail
    go_ret
    exact ⟨ret_bool HR.out.symm, hB0⟩
  have HCO := hid (co_yes2 m4 (by have := of_decide_eq_false m5; omega) (by have := of_decide_eq_false m6; omega))
  go_wp2_with fail
  clear a0 a1 a2 a3 a4 a5 a6
  go_loopw [47] (fun i wr => ∃ k : Nat, k ≤ s.ha.length ∧ i = .int .i64 k ∧ plT s k = true ∧ Below W0.heap.size W0 wr) (fun i _ => s.ha.length - (intOf i).toNat)
  case atStart => exact ⟨0, Nat.zero_le _, rfl, plT_zero _, hBW⟩
  case round =>
    obtain ⟨k, hk, rfl, ht, hB⟩ := hrel
    have HT := hid ht
    have hBr := hB
    clear ht
    replace F := F0.below hB
    replace hB0 := below_one hBw hB
    clear hB
    obtain ⟨a0, a1, a2, a3, a4, a5, a6⟩ := F.c
    by_cases hlt : k < s.ha.length
    · have hlr : k < s.ru.length := by omega
      have hlz : k < s.se.length := by omega
      have HA := hid (plA_at hlt hlr hlz)
      have hrs := lr _ (List.getElem_mem hlr)
      have hSp := spotAt_any _ s k wr hs' (hSd.below hB0) hlt hlr hlz
      generalize s.ru[k] = r at *
      generalize s.ha[k] = hh at *
      generalize s.se[k] = z at *
      have HN := hid (plT_succ s k)
      have HB := hid (fun h => sd_no4 (s := s) hlt h)
      cases hp : spotB hh r z
      · have HR := hid (show sdB s = false from HB.out (by rw [HA.out, hp]))
        go_wp2_with fail
        refine hSp.mono ?_
        rintro e w5 ⟨rfl, hB5⟩
        go_wp2_with fail
        refine (spotGood_any hh r z _ hrs).mono ?_
        rintro e w6 ⟨rfl, hB6⟩
        rw [hp]
        clear hSp
        go_wp2_with fail
        go_ret
        exact ⟨ret_bool HR.out.symm, below_two hB0 hB5 hB6⟩
      · have HR := hid (show plT s (k + 1) = true by rw [HN.out, HT.out, HA.out, hp]; rfl)
        go_wp2_with fail
        refine hSp.mono ?_
        rintro e w5 ⟨rfl, hB5⟩
        go_wp2_with fail
        refine (spotGood_any hh r z _ hrs).mono ?_
        rintro e w6 ⟨rfl, hB6⟩
        rw [hp]
        clear hSp
        go_wp2_with fail
        go_roundw
        case rel => exact ⟨k + 1, by omega, by go_num, HR.out, below_two hBr hB5 hB6⟩
        case measure => simp [intOf]; omega
    · obtain rfl : k = s.ha.length := by omega
      have HR := hid (show sdB s = true from sd_yes HFO.out HL.out HCO.out HT.out)
      go_wp2_with fail
      go_ret
      exact ⟨ret_bool HR.out.symm, hB0⟩

end Go.Proofs.YtnbojbcljfiamaaGreatDoor
