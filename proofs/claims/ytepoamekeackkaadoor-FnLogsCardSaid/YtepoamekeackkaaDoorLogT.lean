/-
  Chapter 7: the text of a record and of a log, by the specification and by the program.
-/
import Derived.Deep.RegionHeld3
import Derived.Test.YtepoamekeackkaaDoorBuildW
import Derived.Test.YtepoamekeackkaaDoorTake
import Derived.Test.YtepoamekeackkaaDoorHexF
import Derived.Test.YtepoamekeackkaaDoorLogI
namespace Go.Proofs.YtepoamekeackkaaDoor
open Go.RowKit Go.Shelf

theorem hx8_size (n : Nat) : (⟨(hxW 8 n).toArray⟩ : ByteArray).size = 8 := by
  show (hxW 8 n).toArray.size = 8
  rw [List.size_toArray, hxW_len]
theorem num_size' {z : Int} (h0 : 0 ≤ z) (h1 : z ≤ 1000) : (numT z).size ≤ 7 := by
  have := (itoa_len6 h0 (by omega)).2
  rw [numT_size]
  omega
theorem rlT_size {r : Rc} (h0 : 0 ≤ r.num) (h1 : r.num ≤ 1000) : (rlT r).size ≤ r.note.size + 17 := by
  have := num_size' h0 h1
  have h8 := hx8_size r.su
  unfold rlT
  simp only [ByteArray.size_append, h8, show (⟨#[32]⟩ : ByteArray).size = 1 from rfl]
  omega
/-- What is asked of the records that are written. -/
def Rc.wr (r : Rc) : Prop := 0 ≤ r.num ∧ r.num ≤ 1000 ∧ r.note.size ≤ 1048576 ∧ r.su < 4294967296
theorem ltT_succ {l : List Rc} {k : Nat} (h : k < l.length) : ltT (l.take (k + 1)) = ltT (l.take k) ++ (rlT l[k] ++ ⟨#[10]⟩) := by
  rw [List.take_succ_eq_append_getElem h, ltT_snoc]
theorem ltT_size {l : List Rc} (hg : ∀ r ∈ l, r.wr) : ∀ k, k ≤ l.length → (ltT (l.take k)).size ≤ k * 1048600
  | 0, _ => by simp [ltT]; rfl
  | k + 1, hk => by
    have ih := ltT_size hg k (by omega)
    obtain ⟨h0, h1, h2, _⟩ := hg _ (List.getElem_mem (show k < l.length by omega))
    have := rlT_size h0 h1
    rw [ltT_succ (by omega), ByteArray.size_append, ByteArray.size_append, show (⟨#[10]⟩ : ByteArray).size = 1 from rfl]
    omega

set_option maxHeartbeats 4000000 in
set_option maxRecDepth 100000 in
theorem l7Text_any (v : Value) (l : List Rc) (w : World) (hm : l.length ≤ 60) (hg : ∀ r ∈ l, r.wr) (hr : RcS w v l) :
    Calls Tryd.prog 46 #[v] w fun e w' => e = .returned (.string (ltT l)) ∧ Below w.heap.size w w' := by
  obtain ⟨a, cap, rfl⟩ := hr.len
  have HZ := hid (fun n hn => ltT_size hg n hn)
  go_enter Tryd.func46, Tryd.ntmps46
  go_wp2
  go_loopw [3, 8] (fun s i wr => ∃ n : Nat, n ≤ l.length ∧ s = .string (ltT (l.take n)) ∧ i = .int .i64 n ∧ Below w.heap.size w wr) (fun _ i _ => l.length - (intOf i).toNat)
  case atStart => exact ⟨0, Nat.zero_le _, rfl, rfl, Below.refl _ _⟩
  case round =>
    obtain ⟨n, hn, rfl, rfl, hB⟩ := hrel
    by_cases hlt : n < l.length
    · obtain ⟨b, off, rfl, hb, hcap, q0, q1, q2⟩ := (hr.below hB).at hlt
      obtain ⟨b0, b1, b2, b3⟩ := hg l[n] (List.getElem_mem hlt)
      have hs := HZ.out n hn
      have hs2 : n * 1048600 ≤ 2000000000000 := by omega
      have HT := hid (ltT_succ hlt)
      generalize l[n] = r at *
      generalize ltT (l.take n) = s at *
      have hnum := fun W => l1Num_any r.num W b0 (by omega)
      have hhex := fun W => l7Hex_any r.su W b3
      have z1 := num_size' b0 b1
      have z2 := hx8_size r.su
      have HX := hid (show rlT r = numT r.num ++ ⟨#[32]⟩ ++ ⟨(hxW 8 r.su).toArray⟩ ++ ⟨#[32]⟩ ++ r.note from rfl)
      generalize numT r.num = x1 at *
      generalize (⟨(hxW 8 r.su).toArray⟩ : ByteArray) = x2 at *
      have g1 : ¬9223372036854775807 < x1.size + 1 := by omega
      have g2 : ¬9223372036854775807 < x1.size + 1 + x2.size := by omega
      have g3 : ¬9223372036854775807 < x1.size + 1 + x2.size + 1 := by omega
      have g4 : ¬9223372036854775807 < x1.size + 1 + x2.size + 1 + r.note.size := by omega
      have g5 : ¬9223372036854775807 < x1.size + 1 + x2.size + 1 + r.note.size + 1 := by omega
      have g6 : ¬9223372036854775807 < s.size + (x1.size + 1 + x2.size + 1 + r.note.size + 1) := by omega
      have hBa : Below w.heap.size w (wr.alloc (.cells #[.int .i64 r.num, .string r.note, .int .u32 (r.su : Int)] 34)) := hB.alloc hB.size _
      clear z2
      go_wp2_with fail
      refine wp_region_held_drew (S := fun w' => w'.cell? ⟨wr.heap.size, 0, none⟩ = some (.int .i64 r.num) ∧ w'.cell? ⟨wr.heap.size, 1, none⟩ = some (.string r.note) ∧ w'.cell? ⟨wr.heap.size, 2, none⟩ = some (.int .u32 (r.su : Int))) (by kernel_rfl) ?_ (fun hHeld => ?_)
      · go_keep
      refine takeW 0 (v := ?v1) rfl (by kernel_rfl) (by kernel_rfl) (by kernel_rfl) (fun _ _ _ h => h) (by rfl) (by assumption) ?hy1 ?rest1
      case hy1 => intro w' hSw; (try dsimp only at hSw); go_simp; try with_reducible rfl
      try simp only [Act.put, List.setIfInBounds_toArray, List.set_cons_zero, List.set_cons_succ]
      refine takeW 1 (v := ?v2) rfl (by kernel_rfl) (by kernel_rfl) (by kernel_rfl) (fun _ _ _ h => h) (by rfl) (by assumption) ?hy2 ?rest2
      case hy2 => intro w' hSw; (try dsimp only at hSw); go_simp; try with_reducible rfl
      try simp only [Act.put, List.setIfInBounds_toArray, List.set_cons_zero, List.set_cons_succ]
      refine takeW 2 (v := ?v3) rfl (by kernel_rfl) (by kernel_rfl) (by kernel_rfl) (fun _ _ _ h => h) (by rfl) (by assumption) ?hy3 ?rest3
      case hy3 => intro w' hSw; (try dsimp only at hSw); go_simp; try with_reducible rfl
      try simp only [Act.put, List.setIfInBounds_toArray, List.set_cons_zero, List.set_cons_succ]
      refine takeW 5 (v := ?v4) rfl (by kernel_rfl) (by kernel_rfl) (by kernel_rfl) (fun _ _ _ h => h) (by rfl) (by assumption) ?hy4 ?rest4
      case hy4 => intro w' hSw; (try dsimp only at hSw); go_simp; try with_reducible rfl
      try simp only [Act.put, List.setIfInBounds_toArray, List.set_cons_zero, List.set_cons_succ]
      refine takeW 6 (v := ?v5) rfl (by kernel_rfl) (by kernel_rfl) (by kernel_rfl) (fun _ _ _ h => h) (by rfl) (by assumption) ?hy5 ?rest5
      case hy5 => intro w' hSw; (try dsimp only at hSw); go_simp; try with_reducible rfl
      try simp only [Act.put, List.setIfInBounds_toArray, List.set_cons_zero, List.set_cons_succ]
      refine takeW 10 (v := ?v6) rfl (by kernel_rfl) (by kernel_rfl) (by kernel_rfl) (fun _ _ _ h => h) (by rfl) (by assumption) ?hy6 ?rest6
      case hy6 => intro w' hSw; (try dsimp only at hSw); go_simp; try with_reducible rfl
      try simp only [Act.put, List.setIfInBounds_toArray, List.set_cons_zero, List.set_cons_succ]
      refine takeW 11 (v := ?v7) rfl (by kernel_rfl) (by kernel_rfl) (by kernel_rfl) (fun _ _ _ h => h) (by rfl) (by assumption) ?hy7 ?rest7
      case hy7 => intro w' hSw; (try dsimp only at hSw); go_simp; try with_reducible rfl
      try simp only [Act.put, List.setIfInBounds_toArray, List.set_cons_zero, List.set_cons_succ]
      refine takeC 3 (by kernel_rfl) rfl (fun K hK => ?_)
      go_simp
      refine (hnum _).mono ?_; rintro e w1 ⟨rfl, hB1⟩; have hc1 := fun o => hB1.cell (p := ⟨wr.heap.size, o, none⟩) (by simp)
      refine hK.out _ _ ?_ (fun hHeld => ?_)
      · go_keep
      clear hK K
      try simp only [Act.put, List.setIfInBounds_toArray, List.set_cons_zero, List.set_cons_succ]
      refine takeW 4 (v := ?v8) rfl (by kernel_rfl) (by kernel_rfl) (by kernel_rfl) (fun _ _ _ h => h) (by rfl) (by assumption) ?hy8 ?rest8
      case hy8 => intro w' hSw; (try dsimp only at hSw); go_simp; try with_reducible rfl
      try simp only [Act.put, List.setIfInBounds_toArray, List.set_cons_zero, List.set_cons_succ]
      refine takeC 7 (by kernel_rfl) rfl (fun K hK => ?_)
      go_simp
      refine (hhex _).mono ?_; rintro e w2 ⟨rfl, hw2⟩; rw [hw2]
      refine hK.out _ _ ?_ (fun hHeld => ?_)
      · go_keep
      clear hK K
      try simp only [Act.put, List.setIfInBounds_toArray, List.set_cons_zero, List.set_cons_succ]
      refine takeW 8 (v := ?v9) rfl (by kernel_rfl) (by kernel_rfl) (by kernel_rfl) (fun _ _ _ h => h) (by rfl) (by assumption) ?hy9 ?rest9
      case hy9 => intro w' hSw; (try dsimp only at hSw); go_simp; try with_reducible rfl
      try simp only [Act.put, List.setIfInBounds_toArray, List.set_cons_zero, List.set_cons_succ]
      refine takeW 9 (v := ?v10) rfl (by kernel_rfl) (by kernel_rfl) (by kernel_rfl) (fun _ _ _ h => h) (by rfl) (by assumption) ?hy10 ?rest10
      case hy10 => intro w' hSw; (try dsimp only at hSw); go_simp; try with_reducible rfl
      try simp only [Act.put, List.setIfInBounds_toArray, List.set_cons_zero, List.set_cons_succ]
      refine takeW 12 (v := ?v11) rfl (by kernel_rfl) (by kernel_rfl) (by kernel_rfl) (fun _ _ _ h => h) (by rfl) (by assumption) ?hy11 ?rest11
      case hy11 => intro w' hSw; (try dsimp only at hSw); go_simp; try with_reducible rfl
      try simp only [Act.put, List.setIfInBounds_toArray, List.set_cons_zero, List.set_cons_succ]
      refine takeW 13 (v := ?v12) rfl (by kernel_rfl) (by kernel_rfl) (by kernel_rfl) (fun _ _ _ h => h) (by rfl) (by assumption) ?hy12 ?rest12
      case hy12 => intro w' hSw; (try dsimp only at hSw); go_simp; try with_reducible rfl
      try simp only [Act.put, List.setIfInBounds_toArray, List.set_cons_zero, List.set_cons_succ]
      refine takeW 14 (v := ?v13) rfl (by kernel_rfl) (by kernel_rfl) (by kernel_rfl) (fun _ _ _ h => h) (by rfl) (by assumption) ?hy13 ?rest13
      case hy13 => intro w' hSw; (try dsimp only at hSw); go_simp; try with_reducible rfl
      try simp only [Act.put, List.setIfInBounds_toArray, List.set_cons_zero, List.set_cons_succ]
      refine takeW 15 (v := ?v14) rfl (by kernel_rfl) (by kernel_rfl) (by kernel_rfl) (fun _ _ _ h => h) (by rfl) (by assumption) ?hy14 ?rest14
      case hy14 => intro w' hSw; (try dsimp only at hSw); go_simp; try with_reducible rfl
      try simp only [Act.put, List.setIfInBounds_toArray, List.set_cons_zero, List.set_cons_succ]
      refine wpAnyH_done (by kernel_rfl) ?_ _
      have hB2 := below_one hBa (below_drew1 hB1)
      clear hB1
      go_wp2_with fail
      go_roundw
      case rel => exact ⟨n + 1, by omega, by rw [HT.out, HX.out], by go_num, hB2⟩
      case measure => simp [intOf]; omega
    · obtain rfl : n = l.length := by omega
      have HR := hid (show ltT (l.take l.length) = ltT l by rw [List.take_length])
      go_wp2
      go_ret
      exact ⟨ret_str HR.out, hB⟩

set_option maxHeartbeats 4000000 in
set_option maxRecDepth 100000 in
theorem textOfRecord_any (r : Rc) (w : World) (ht : Tab w) (ht2 : Tab2 w) (hg : r.wr) :
    Calls Tryd.prog 33 #[r.val] w fun e w' => e = .returned (.string (rlT r)) ∧ Below w.heap.size w w' := by
  obtain ⟨b0, b1, b2, b3⟩ := hg
  have HT := hid ht
  have HT2 := hid ht2
  clear ht ht2
  have hBa : Below w.heap.size w (w.alloc (.cells #[.int .i64 r.num, .string r.note, .int .u32 (r.su : Int)] 34)) := (Below.refl _ w).alloc (Nat.le_refl _) _
  have hnum := fun W (hT : Tab W) => itoa_any r.num W (by omega) (by omega) hT
  have z1 := num_size' b0 b1
  have hlen := hxL_len 7 r.su
  have hpad := hx_pad 7 r.su (by simpa using b3)
  have HX := hid (show rlT r = numT r.num ++ ⟨#[32]⟩ ++ ⟨(List.replicate (8 - (hxL 7 r.su).length) (48 : UInt8)).toArray⟩ ++ ⟨(hxL 7 r.su).toArray⟩ ++ ⟨#[32]⟩ ++ r.note by
    unfold rlT
    rw [← hpad]
    apply bytes_same
    simp)
  clear hpad
  have HF := hid (fun W (hT : Tab2 W) => formatUint_16 r.su W b3 hT)
  have hsz : (⟨(hxL 7 r.su).toArray⟩ : ByteArray).size = (hxL 7 r.su).length := by
    show (hxL 7 r.su).toArray.size = _
    rw [List.size_toArray]
  have HRP := hid (fun (z : Int) W (hz : z = ((8 - (hxL 7 r.su).length : Nat) : Int)) => show Calls Tryd.prog 53 #[.string ⟨#[48]⟩, .int .i64 z] W fun e w' => e = .returned (.string ⟨(List.replicate (8 - (hxL 7 r.su).length) (48 : UInt8)).toArray⟩) ∧ w' = W by subst hz; exact repeat_0 _ W (by omega))
  have hsr : (⟨(List.replicate (8 - (hxL 7 r.su).length) (48 : UInt8)).toArray⟩ : ByteArray).size ≤ 8 := by
    show (List.replicate (8 - (hxL 7 r.su).length) (48 : UInt8)).toArray.size ≤ 8
    rw [List.size_toArray, List.length_replicate]
    omega
  generalize (⟨(List.replicate (8 - (hxL 7 r.su).length) (48 : UInt8)).toArray⟩ : ByteArray) = x3 at *
  generalize (⟨(hxL 7 r.su).toArray⟩ : ByteArray) = x2 at *
  generalize (hxL 7 r.su).length = m at *
  generalize numT r.num = x1 at *
  have hsz8 : x2.size ≤ 8 := by omega
  have ec : IntKind.u64.wrap (r.su : Int) = (r.su : Int) := by rw [IntKind.wrap_u64]; omega
  go_enter Tryd.func33, Tryd.ntmps33
  go_wp2_with fail
  refine (HF.out _ (HT2.out.on hBa)).mono ?_
  rintro e w3 ⟨rfl, hB1⟩
  have hB3 := below_one hBa hB1
  have c0 := hB1.cell (p := ⟨w.heap.size, 0, none⟩) (by simp)
  have c1 := hB1.cell (p := ⟨w.heap.size, 1, none⟩) (by simp)
  have c2 := hB1.cell (p := ⟨w.heap.size, 2, none⟩) (by simp)
  have hz3 := hB1.size
  simp [go_sem] at c0 c1 c2 hz3
  clear hB1 hBa
  have ez : IntKind.i64.wrap (8 - (x2.size : Int)) = 8 - (x2.size : Int) := by rw [IntKind.wrap_i64]; omega
  go_wp2_with fail
  refine (HRP.out _ _ (by omega)).mono ?_
  rintro e w4 ⟨rfl, hw4⟩
  rw [hw4]
  clear hw4 ez ec
  have g1 : ¬9223372036854775807 < x1.size + 1 := by omega
  have g2 : ¬9223372036854775807 < x1.size + 1 + x3.size := by omega
  have g3 : ¬9223372036854775807 < x1.size + 1 + x3.size + x2.size := by omega
  have g4 : ¬9223372036854775807 < x1.size + 1 + x3.size + x2.size + 1 := by omega
  have g5 : ¬9223372036854775807 < x1.size + 1 + x3.size + x2.size + 1 + r.note.size := by omega
  have hB3d : Below w.heap.size w w3.drew := hB3.drew
  clear hsz
  go_wp2_with fail
  refine wp_region_held_drew (S := fun w' => w'.cell? ⟨w.heap.size, 0, none⟩ = some (.int .i64 r.num) ∧ w'.cell? ⟨w.heap.size, 1, none⟩ = some (.string r.note) ∧ w'.cell? ⟨w.heap.size, 2, none⟩ = some (.int .u32 (r.su : Int))) (by kernel_rfl) ?_ (fun hHeld => ?_)
  · go_keep
  refine takeW 0 (v := ?v15) rfl (by kernel_rfl) (by kernel_rfl) (by kernel_rfl) (fun _ _ _ h => h) (by rfl) (by assumption) ?hy15 ?rest15
  case hy15 => intro w' hSw; (try dsimp only at hSw); go_simp; try with_reducible rfl
  try simp only [Act.put, List.setIfInBounds_toArray, List.set_cons_zero, List.set_cons_succ]
  refine takeW 1 (v := ?v16) rfl (by kernel_rfl) (by kernel_rfl) (by kernel_rfl) (fun _ _ _ h => h) (by rfl) (by assumption) ?hy16 ?rest16
  case hy16 => intro w' hSw; (try dsimp only at hSw); go_simp; try with_reducible rfl
  try simp only [Act.put, List.setIfInBounds_toArray, List.set_cons_zero, List.set_cons_succ]
  refine takeW 4 (v := ?v17) rfl (by kernel_rfl) (by kernel_rfl) (by kernel_rfl) (fun _ _ _ h => h) (by rfl) (by assumption) ?hy17 ?rest17
  case hy17 => intro w' hSw; (try dsimp only at hSw); go_simp; try with_reducible rfl
  try simp only [Act.put, List.setIfInBounds_toArray, List.set_cons_zero, List.set_cons_succ]
  refine takeW 6 (v := ?v18) rfl (by kernel_rfl) (by kernel_rfl) (by kernel_rfl) (fun _ _ _ h => h) (by rfl) (by assumption) ?hy18 ?rest18
  case hy18 => intro w' hSw; (try dsimp only at hSw); go_simp; try with_reducible rfl
  try simp only [Act.put, List.setIfInBounds_toArray, List.set_cons_zero, List.set_cons_succ]
  refine takeW 9 (v := ?v19) rfl (by kernel_rfl) (by kernel_rfl) (by kernel_rfl) (fun _ _ _ h => h) (by rfl) (by assumption) ?hy19 ?rest19
  case hy19 => intro w' hSw; (try dsimp only at hSw); go_simp; try with_reducible rfl
  try simp only [Act.put, List.setIfInBounds_toArray, List.set_cons_zero, List.set_cons_succ]
  refine takeW 10 (v := ?v20) rfl (by kernel_rfl) (by kernel_rfl) (by kernel_rfl) (fun _ _ _ h => h) (by rfl) (by assumption) ?hy20 ?rest20
  case hy20 => intro w' hSw; (try dsimp only at hSw); go_simp; try with_reducible rfl
  try simp only [Act.put, List.setIfInBounds_toArray, List.set_cons_zero, List.set_cons_succ]
  refine takeC 2 (by kernel_rfl) rfl (fun K hK => ?_)
  go_simp
  refine (hnum _ (HT.out.on hB3d)).mono ?_; rintro e w4 ⟨rfl, hB4⟩; have hc4 := fun o => hB4.cell (p := ⟨w.heap.size, o, none⟩) (by simp; omega)
  refine hK.out _ _ ?_ (fun hHeld => ?_)
  · go_keep
  clear hK K
  try simp only [Act.put, List.setIfInBounds_toArray, List.set_cons_zero, List.set_cons_succ]
  refine takeW 3 (v := ?v21) rfl (by kernel_rfl) (by kernel_rfl) (by kernel_rfl) (fun _ _ _ h => h) (by rfl) (by assumption) ?hy21 ?rest21
  case hy21 => intro w' hSw; (try dsimp only at hSw); go_simp; try with_reducible rfl
  try simp only [Act.put, List.setIfInBounds_toArray, List.set_cons_zero, List.set_cons_succ]
  refine takeW 5 (v := ?v22) rfl (by kernel_rfl) (by kernel_rfl) (by kernel_rfl) (fun _ _ _ h => h) (by rfl) (by assumption) ?hy22 ?rest22
  case hy22 => intro w' hSw; (try dsimp only at hSw); go_simp; try with_reducible rfl
  try simp only [Act.put, List.setIfInBounds_toArray, List.set_cons_zero, List.set_cons_succ]
  refine takeW 7 (v := ?v23) rfl (by kernel_rfl) (by kernel_rfl) (by kernel_rfl) (fun _ _ _ h => h) (by rfl) (by assumption) ?hy23 ?rest23
  case hy23 => intro w' hSw; (try dsimp only at hSw); go_simp; try with_reducible rfl
  try simp only [Act.put, List.setIfInBounds_toArray, List.set_cons_zero, List.set_cons_succ]
  refine takeW 8 (v := ?v24) rfl (by kernel_rfl) (by kernel_rfl) (by kernel_rfl) (fun _ _ _ h => h) (by rfl) (by assumption) ?hy24 ?rest24
  case hy24 => intro w' hSw; (try dsimp only at hSw); go_simp; try with_reducible rfl
  try simp only [Act.put, List.setIfInBounds_toArray, List.set_cons_zero, List.set_cons_succ]
  refine takeW 11 (v := ?v25) rfl (by kernel_rfl) (by kernel_rfl) (by kernel_rfl) (fun _ _ _ h => h) (by rfl) (by assumption) ?hy25 ?rest25
  case hy25 => intro w' hSw; (try dsimp only at hSw); go_simp; try with_reducible rfl
  try simp only [Act.put, List.setIfInBounds_toArray, List.set_cons_zero, List.set_cons_succ]
  refine takeW 12 (v := ?v26) rfl (by kernel_rfl) (by kernel_rfl) (by kernel_rfl) (fun _ _ _ h => h) (by rfl) (by assumption) ?hy26 ?rest26
  case hy26 => intro w' hSw; (try dsimp only at hSw); go_simp; try with_reducible rfl
  try simp only [Act.put, List.setIfInBounds_toArray, List.set_cons_zero, List.set_cons_succ]
  refine wpAnyH_done (by kernel_rfl) ?_ _
  have hB5 := below_one hB3 (below_drew1 hB4)
  clear hB4
  go_wp2_with fail
  go_ret
  exact ⟨ret_str HX.out.symm, hB5⟩

end Go.Proofs.YtepoamekeackkaaDoor
