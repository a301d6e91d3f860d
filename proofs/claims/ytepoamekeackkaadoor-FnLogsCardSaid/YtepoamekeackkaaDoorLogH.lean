/-
  Chapter 7: the first broken record, by the specification and by the program (which gives up by a panic and catches it); GoodLog and FirstBroken.
-/
import Derived.Deep.RegionHeld3
import Derived.Defers
import Derived.Recover
import Derived.Laws.Pointers
import Derived.Test.YtepoamekeackkaaDoorTake
import Derived.Test.YtepoamekeackkaaDoorLogG
namespace Go.Proofs.YtepoamekeackkaaDoor
open Go.RowKit Go.Shelf

theorem neq_rc (o r : Rc) (w : World) : (binOp .neq 34 o.val r.val).run Tryd.prog w = .ok (.bool (!(o.same r))) w := by
  rw [run_neq_struct]
  simp [go_sem, Tryd.underlying34]
  unfold Rc.same
  repeat' split
  all_goals simp_all

theorem pv_succ {l : List Rc} {k : Nat} (h : k < l.length) : pvS l (k + 1) = l[k].su := by
  unfold pvS
  rw [if_neg (by omega), Nat.add_sub_cancel, List.getElem?_eq_getElem h]
theorem pv_zero (l : List Rc) : pvS l 0 = 2166136261 := rfl
theorem pv_lt {l : List Rc} {k : Nat} (hk : k ≤ l.length) (hf : ∀ r ∈ l, r.su < 4294967296) : pvS l k < 4294967296 := by
  cases k with
  | zero => rw [pv_zero]; omega
  | succ k => rw [pv_succ (by omega)]; exact hf _ (List.getElem_mem _)
/-- What l7Broken tells. -/
def bkI (l : List Rc) : Int := match brX l with | some k => (k : Int) | none => -1

set_option maxHeartbeats 2000000 in
theorem l7Broken_any (v : Value) (l : List Rc) (w : World) (hm : l.length ≤ 60) (hf : ∀ r ∈ l, r.note.size ≤ 1048576) (hu : ∀ r ∈ l, r.su < 4294967296) (hr : RcS w v l) :
    Calls Tryd.prog 42 #[v] w fun e w' => e = .returned (.int .i64 (bkI l)) ∧ Below w.heap.size w w' := by
  obtain ⟨a, cap, rfl⟩ := hr.len
  go_enter Tryd.func42, Tryd.ntmps42
  go_wp2
  go_loopw [3, 8] (fun h i wr => ∃ k : Nat, k ≤ l.length ∧ i = .int .i64 k ∧ h = .int .u32 (pvS l k : Int) ∧ (∀ j, j < k → okA l j = true) ∧ Below w.heap.size w wr) (fun _ i _ => l.length - (intOf i).toNat)
  case atStart => exact ⟨0, Nat.zero_le _, rfl, rfl, fun j hj => by omega, Below.refl _ _⟩
  case round =>
    obtain ⟨k, hk, rfl, rfl, hn, hB⟩ := hrel
    have HN := hid hn
    clear hn
    by_cases hlt : k < l.length
    · obtain ⟨b, off, rfl, hb, hcap, q0, q1, q2⟩ := (hr.below hB).at hlt
      have hz := hf l[k] (List.getElem_mem hlt)
      have hh := pv_lt hk hu
      have HO := hid (okA_at hlt)
      have HP := hid (pv_succ hlt)
      have HX := hid (fun h => brX_at hlt HN.out h)
      generalize pvS l k = h at *
      generalize l[k] = r at *
      have hBa : Below w.heap.size w (wr.alloc (.cells #[.int .i64 r.num, .string r.note, .int .u32 (r.su : Int)] 34)) := hB.alloc hB.size _
      have ew : IntKind.i64.wrap ((k : Int) + 1) = (k : Int) + 1 := by rw [IntKind.wrap_i64]; omega
      have hse := neq_rc r (rcN h k r.note)
      cases hc : r.same (rcN h k r.note)
      all_goals rw [hc] at hse
      · have HR := hid (show bkI l = (k : Int) by unfold bkI; rw [HX.out (by rw [HO.out, hc])])
        clear hr
        go_wp2_with fail
        refine wp_region_held_drew (S := fun w' => w'.cell? ⟨wr.heap.size, 0, none⟩ = some (.int .i64 r.num) ∧ w'.cell? ⟨wr.heap.size, 1, none⟩ = some (.string r.note) ∧ w'.cell? ⟨wr.heap.size, 2, none⟩ = some (.int .u32 (r.su : Int))) (by kernel_rfl) ?_ (fun hHeld => ?_)
        · go_keep
        refine takeW 0 (v := ?v1) rfl (by kernel_rfl) (by kernel_rfl) (by kernel_rfl) (fun _ _ _ h => h) (by rfl) (by assumption) ?hy1 ?rest1
        case hy1 => intro w' hSw; (try dsimp only at hSw); go_simp; try with_reducible rfl
        try simp only [Act.put, List.setIfInBounds_toArray, List.set_cons_zero, List.set_cons_succ]
        refine takeW 1 (v := ?v2) rfl (by kernel_rfl) (by kernel_rfl) (by kernel_rfl) (fun _ _ _ h => h) (by rfl) (by assumption) ?hy2 ?rest2
        case hy2 => intro w' hSw; (try dsimp only at hSw); go_simp; try with_reducible rfl
        try simp only [Act.put, List.setIfInBounds_toArray, List.set_cons_zero, List.set_cons_succ]
        refine takeW 2 (v := ?v3) rfl (by kernel_rfl) (by kernel_rfl) (by kernel_rfl) (fun _ _ _ h => h) (by rfl) (by assumption) ?hy3 ?rest3
        case hy3 => intro w' hSw; (try dsimp only at hSw); go_simp; try with_reducible rfl
        try simp only [Act.put, List.setIfInBounds_toArray, List.set_cons_zero, List.set_cons_succ]
        refine takeW 3 (v := ?v4) rfl (by kernel_rfl) (by kernel_rfl) (by kernel_rfl) (fun _ _ _ h => h) (by rfl) (by assumption) ?hy4 ?rest4
        case hy4 => intro w' hSw; (try dsimp only at hSw); go_simp; try with_reducible rfl
        try simp only [Act.put, List.setIfInBounds_toArray, List.set_cons_zero, List.set_cons_succ]
        refine takeW 4 (v := ?v5) rfl (by kernel_rfl) (by kernel_rfl) (by kernel_rfl) (fun _ _ _ h => h) (by rfl) (by assumption) ?hy5 ?rest5
        case hy5 => intro w' hSw; (try dsimp only at hSw); go_simp; try with_reducible rfl
        try simp only [Act.put, List.setIfInBounds_toArray, List.set_cons_zero, List.set_cons_succ]
        refine takeW 5 (v := ?v6) rfl (by kernel_rfl) (by kernel_rfl) (by kernel_rfl) (fun _ _ _ h => h) (by rfl) (by assumption) ?hy6 ?rest6
        case hy6 => intro w' hSw; (try dsimp only at hSw); go_simp; try with_reducible rfl
        try simp only [Act.put, List.setIfInBounds_toArray, List.set_cons_zero, List.set_cons_succ]
        refine takeC 6 (by kernel_rfl) rfl (fun K hK => ?_)
        go_simp
        refine (l7Record_any h k _ r.note _ hh (by omega) (by omega) hz).mono ?_; rintro e w1 ⟨rfl, hB1⟩; have hc1 := fun o => hB1.cell (p := ⟨wr.heap.size, o, none⟩) (by simp)
        refine hK.out _ _ ?_ (fun hHeld => ?_)
        · go_keep
        clear hK K
        try simp only [Act.put, List.setIfInBounds_toArray, List.set_cons_zero, List.set_cons_succ]
        refine takeW 7 (v := ?v7) rfl (by kernel_rfl) (by kernel_rfl) (by kernel_rfl) (fun _ _ _ h => h) (by rfl) (by assumption) ?hy7 ?rest7
        case hy7 => intro w' hSw; (try dsimp only at hSw); go_simp; try with_reducible rfl
        try simp only [Act.put, List.setIfInBounds_toArray, List.set_cons_zero, List.set_cons_succ]
        refine wpAnyH_done (by kernel_rfl) ?_ _
        have hB2 := below_one hBa (below_drew1 hB1)
        clear hB1
        go_wp2_with fail
        go_ret
        exact ⟨ret_int HR.out.symm, hB2⟩
      · have HR := hid (show ∀ j, j < k + 1 → okA l j = true by
          intro j hj
          rcases Nat.lt_or_ge j k with h1 | h1
          · exact HN.out j h1
          · obtain rfl : j = k := by omega
            rw [HO.out, hc])
        go_wp2_with fail
        refine wp_region_held_drew (S := fun w' => w'.cell? ⟨wr.heap.size, 0, none⟩ = some (.int .i64 r.num) ∧ w'.cell? ⟨wr.heap.size, 1, none⟩ = some (.string r.note) ∧ w'.cell? ⟨wr.heap.size, 2, none⟩ = some (.int .u32 (r.su : Int))) (by kernel_rfl) ?_ (fun hHeld => ?_)
        · go_keep
        refine takeW 0 (v := ?v8) rfl (by kernel_rfl) (by kernel_rfl) (by kernel_rfl) (fun _ _ _ h => h) (by rfl) (by assumption) ?hy8 ?rest8
        case hy8 => intro w' hSw; (try dsimp only at hSw); go_simp; try with_reducible rfl
        try simp only [Act.put, List.setIfInBounds_toArray, List.set_cons_zero, List.set_cons_succ]
        refine takeW 1 (v := ?v9) rfl (by kernel_rfl) (by kernel_rfl) (by kernel_rfl) (fun _ _ _ h => h) (by rfl) (by assumption) ?hy9 ?rest9
        case hy9 => intro w' hSw; (try dsimp only at hSw); go_simp; try with_reducible rfl
        try simp only [Act.put, List.setIfInBounds_toArray, List.set_cons_zero, List.set_cons_succ]
        refine takeW 2 (v := ?v10) rfl (by kernel_rfl) (by kernel_rfl) (by kernel_rfl) (fun _ _ _ h => h) (by rfl) (by assumption) ?hy10 ?rest10
        case hy10 => intro w' hSw; (try dsimp only at hSw); go_simp; try with_reducible rfl
        try simp only [Act.put, List.setIfInBounds_toArray, List.set_cons_zero, List.set_cons_succ]
        refine takeW 3 (v := ?v11) rfl (by kernel_rfl) (by kernel_rfl) (by kernel_rfl) (fun _ _ _ h => h) (by rfl) (by assumption) ?hy11 ?rest11
        case hy11 => intro w' hSw; (try dsimp only at hSw); go_simp; try with_reducible rfl
        try simp only [Act.put, List.setIfInBounds_toArray, List.set_cons_zero, List.set_cons_succ]
        refine takeW 4 (v := ?v12) rfl (by kernel_rfl) (by kernel_rfl) (by kernel_rfl) (fun _ _ _ h => h) (by rfl) (by assumption) ?hy12 ?rest12
        case hy12 => intro w' hSw; (try dsimp only at hSw); go_simp; try with_reducible rfl
        try simp only [Act.put, List.setIfInBounds_toArray, List.set_cons_zero, List.set_cons_succ]
        refine takeW 5 (v := ?v13) rfl (by kernel_rfl) (by kernel_rfl) (by kernel_rfl) (fun _ _ _ h => h) (by rfl) (by assumption) ?hy13 ?rest13
        case hy13 => intro w' hSw; (try dsimp only at hSw); go_simp; try with_reducible rfl
        try simp only [Act.put, List.setIfInBounds_toArray, List.set_cons_zero, List.set_cons_succ]
        refine takeC 6 (by kernel_rfl) rfl (fun K hK => ?_)
        go_simp
        refine (l7Record_any h k _ r.note _ hh (by omega) (by omega) hz).mono ?_; rintro e w1 ⟨rfl, hB1⟩; have hc1 := fun o => hB1.cell (p := ⟨wr.heap.size, o, none⟩) (by simp)
        refine hK.out _ _ ?_ (fun hHeld => ?_)
        · go_keep
        clear hK K
        try simp only [Act.put, List.setIfInBounds_toArray, List.set_cons_zero, List.set_cons_succ]
        refine takeW 7 (v := ?v14) rfl (by kernel_rfl) (by kernel_rfl) (by kernel_rfl) (fun _ _ _ h => h) (by rfl) (by assumption) ?hy14 ?rest14
        case hy14 => intro w' hSw; (try dsimp only at hSw); go_simp; try with_reducible rfl
        try simp only [Act.put, List.setIfInBounds_toArray, List.set_cons_zero, List.set_cons_succ]
        refine wpAnyH_done (by kernel_rfl) ?_ _
        have hB2 := below_one hBa (below_drew1 hB1)
        have s2 := hc1 2
        simp [go_sem] at s2
        clear hB1
        go_wp2_with fail
        go_roundw
        case rel => exact ⟨k + 1, by omega, by go_num, by rw [HP.out], HR.out, hB2⟩
        case measure => simp [intOf]; omega
    · obtain rfl : k = l.length := by omega
      have HR := hid (show bkI l = -1 by unfold bkI; rw [brX_none HN.out])
      go_wp2
      go_ret
      exact ⟨ret_int HR.out.symm, hB⟩

/-- How followEach ends. -/
def foE (l : List Rc) : Ending := match brX l with | some k => .panicked [{ v := .iface 86 (.agg #[.int .i64 (k : Int)]), recovered := false }] | none => .returned (.tuple #[])
theorem rb_any (a : Option Addr) (cap c : Nat) (l : List Rc) (k : Nat) (note : ByteArray) (w : World) (ht : Tab w) (hm : l.length ≤ 60) (hk : k ≤ l.length) (hs : note.size ≤ 1048576) (hu : ∀ r ∈ l, r.su < 4294967296) (hr : RcS w (.slice a l.length cap) l) :
    Calls Tryd.prog 29 #[.slice a k c, .string note] w fun e w' => e = .returned (rcN (pvS l k) k note).val ∧ Below w.heap.size w w' := by
  cases k with
  | zero => exact recordBehind_zero a c _ note w ht (pv_zero l) hs
  | succ m =>
    obtain ⟨b, off, rfl, hb, _, _, _, q2⟩ := hr.at (i := m) (by omega)
    rw [pv_succ (by omega)]
    exact recordBehind_succ b off m c _ note w ht (hu _ (List.getElem_mem _)) (by omega) hb hs q2

set_option maxHeartbeats 2000000 in
theorem followEach_any (v : Value) (l : List Rc) (w : World) (ht : Tab w) (hm : l.length ≤ 60) (hf : ∀ r ∈ l, r.note.size ≤ 1048576) (hu : ∀ r ∈ l, r.su < 4294967296) (hr : RcS w v l) :
    Calls Tryd.prog 57 #[v] w fun e w' => e = foE l ∧ Below w.heap.size w w' := by
  obtain ⟨a, cap, rfl⟩ := hr.len
  have HT := hid ht
  clear ht
  go_enter Tryd.func57, Tryd.ntmps57
  go_wp2
  go_loopw [6] (fun i wr => ∃ k : Nat, k ≤ l.length ∧ i = .int .i64 k ∧ (∀ j, j < k → okA l j = true) ∧ Below w.heap.size w wr) (fun i _ => l.length - (intOf i).toNat)
  case atStart => exact ⟨0, Nat.zero_le _, rfl, fun j hj => by omega, Below.refl _ _⟩
  case round =>
    obtain ⟨k, hk, rfl, hn, hB⟩ := hrel
    have HN := hid hn
    clear hn
    by_cases hlt : k < l.length
    · have hrb := hr.below hB
      obtain ⟨b, off, rfl, hb, hcap, q0, q1, q2⟩ := hrb.at hlt
      have hz := hf l[k] (List.getElem_mem hlt)
      have HO := hid (okA_at hlt)
      have HX := hid (fun h => brX_at hlt HN.out h)
      have hBa : Below w.heap.size w (wr.alloc (.cells #[.int .i64 l[k].num, .string l[k].note, .int .u32 (l[k].su : Int)] 34)) := hB.alloc hB.size _
      have HRB := hid (fun c W (hW : Below w.heap.size w W) => rb_any (some ⟨b, off, none⟩) cap c l k l[k].note W (HT.out.on hW) hm hk hz hu (hr.below hW))
      have hBd := hBa.drew
      have hse := neq_rc l[k] (rcN (pvS l k) k l[k].note)
      have hc1 : ((k : Nat) : Int) ≤ (cap : Int) := by omega
      generalize rcN (pvS l k) k l[k].note = rc at *
      generalize l[k] = r at *
      clear hr hrb
      cases hc : r.same rc
      all_goals rw [hc] at hse
      · have HR := hid (show foE l = .panicked [{ v := .iface 86 (.agg #[.int .i64 (k : Int)]), recovered := false }] by unfold foE; rw [HX.out (by rw [HO.out, hc])])
        go_wp2_with fail
        refine wp_region_held_drew (S := fun w' => w'.cell? ⟨wr.heap.size, 0, none⟩ = some (.int .i64 r.num) ∧ w'.cell? ⟨wr.heap.size, 1, none⟩ = some (.string r.note) ∧ w'.cell? ⟨wr.heap.size, 2, none⟩ = some (.int .u32 (r.su : Int))) (by kernel_rfl) ?_ (fun hHeld => ?_)
        · go_keep
        refine takeW 0 (v := ?v15) rfl (by kernel_rfl) (by kernel_rfl) (by kernel_rfl) (fun _ _ _ h => h) (by rfl) (by assumption) ?hy15 ?rest15
        case hy15 => intro w' hSw; (try dsimp only at hSw); go_simp; try with_reducible rfl
        try simp only [Act.put, List.setIfInBounds_toArray, List.set_cons_zero, List.set_cons_succ]
        refine takeW 1 (v := ?v16) rfl (by kernel_rfl) (by kernel_rfl) (by kernel_rfl) (fun _ _ _ h => h) (by rfl) (by assumption) ?hy16 ?rest16
        case hy16 => intro w' hSw; (try dsimp only at hSw); go_simp; try with_reducible rfl
        try simp only [Act.put, List.setIfInBounds_toArray, List.set_cons_zero, List.set_cons_succ]
        refine takeW 2 (v := ?v17) rfl (by kernel_rfl) (by kernel_rfl) (by kernel_rfl) (fun _ _ _ h => h) (by rfl) (by assumption) ?hy17 ?rest17
        case hy17 => intro w' hSw; (try dsimp only at hSw); go_simp; try with_reducible rfl
        try simp only [Act.put, List.setIfInBounds_toArray, List.set_cons_zero, List.set_cons_succ]
        refine takeW 3 (v := ?v18) rfl (by kernel_rfl) (by kernel_rfl) (by kernel_rfl) (fun _ _ _ h => h) (by rfl) (by assumption) ?hy18 ?rest18
        case hy18 => intro w' hSw; (try dsimp only at hSw); go_simp; try with_reducible rfl
        try simp only [Act.put, List.setIfInBounds_toArray, List.set_cons_zero, List.set_cons_succ]
        refine takeW 4 (v := ?v19) rfl (by kernel_rfl) (by kernel_rfl) (by kernel_rfl) (fun _ _ _ h => h) (by rfl) (by assumption) ?hy19 ?rest19
        case hy19 => intro w' hSw; (try dsimp only at hSw); go_simp; try with_reducible rfl
        try simp only [Act.put, List.setIfInBounds_toArray, List.set_cons_zero, List.set_cons_succ]
        refine takeW 5 (v := ?v20) rfl (by kernel_rfl) (by kernel_rfl) (by kernel_rfl) (fun _ _ _ h => h) (by rfl) (by assumption) ?hy20 ?rest20
        case hy20 => intro w' hSw; (try dsimp only at hSw); go_simp; try with_reducible rfl
        try simp only [Act.put, List.setIfInBounds_toArray, List.set_cons_zero, List.set_cons_succ]
        refine takeC 6 (by kernel_rfl) rfl (fun K hK => ?_)
        go_simp
        refine (HRB.out _ _ hBd).mono ?_; rintro e w1 ⟨rfl, hB1⟩; have hc1 := fun o => hB1.cell (p := ⟨wr.heap.size, o, none⟩) (by simp)
        refine hK.out _ _ ?_ (fun hHeld => ?_)
        · go_keep
        clear hK K
        try simp only [Act.put, List.setIfInBounds_toArray, List.set_cons_zero, List.set_cons_succ]
        refine takeW 7 (v := ?v21) rfl (by kernel_rfl) (by kernel_rfl) (by kernel_rfl) (fun _ _ _ h => h) (by rfl) (by assumption) ?hy21 ?rest21
        case hy21 => intro w' hSw; (try dsimp only at hSw); go_simp; try with_reducible rfl
        try simp only [Act.put, List.setIfInBounds_toArray, List.set_cons_zero, List.set_cons_succ]
        refine wpAnyH_done (by kernel_rfl) ?_ _
        have hB2 := below_one hBa (below_drew1 hB1)
        clear hB1
        go_wp2_with fail
        exact ⟨rfl, by rw [HR.out], hB2⟩
      · have HR := hid (show ∀ j, j < k + 1 → okA l j = true by
          intro j hj
          rcases Nat.lt_or_ge j k with h1 | h1
          · exact HN.out j h1
          · obtain rfl : j = k := by omega
            rw [HO.out, hc])
        go_wp2_with fail
        refine wp_region_held_drew (S := fun w' => w'.cell? ⟨wr.heap.size, 0, none⟩ = some (.int .i64 r.num) ∧ w'.cell? ⟨wr.heap.size, 1, none⟩ = some (.string r.note) ∧ w'.cell? ⟨wr.heap.size, 2, none⟩ = some (.int .u32 (r.su : Int))) (by kernel_rfl) ?_ (fun hHeld => ?_)
        · go_keep
        refine takeW 0 (v := ?v22) rfl (by kernel_rfl) (by kernel_rfl) (by kernel_rfl) (fun _ _ _ h => h) (by rfl) (by assumption) ?hy22 ?rest22
        case hy22 => intro w' hSw; (try dsimp only at hSw); go_simp; try with_reducible rfl
        try simp only [Act.put, List.setIfInBounds_toArray, List.set_cons_zero, List.set_cons_succ]
        refine takeW 1 (v := ?v23) rfl (by kernel_rfl) (by kernel_rfl) (by kernel_rfl) (fun _ _ _ h => h) (by rfl) (by assumption) ?hy23 ?rest23
        case hy23 => intro w' hSw; (try dsimp only at hSw); go_simp; try with_reducible rfl
        try simp only [Act.put, List.setIfInBounds_toArray, List.set_cons_zero, List.set_cons_succ]
        refine takeW 2 (v := ?v24) rfl (by kernel_rfl) (by kernel_rfl) (by kernel_rfl) (fun _ _ _ h => h) (by rfl) (by assumption) ?hy24 ?rest24
        case hy24 => intro w' hSw; (try dsimp only at hSw); go_simp; try with_reducible rfl
        try simp only [Act.put, List.setIfInBounds_toArray, List.set_cons_zero, List.set_cons_succ]
        refine takeW 3 (v := ?v25) rfl (by kernel_rfl) (by kernel_rfl) (by kernel_rfl) (fun _ _ _ h => h) (by rfl) (by assumption) ?hy25 ?rest25
        case hy25 => intro w' hSw; (try dsimp only at hSw); go_simp; try with_reducible rfl
        try simp only [Act.put, List.setIfInBounds_toArray, List.set_cons_zero, List.set_cons_succ]
        refine takeW 4 (v := ?v26) rfl (by kernel_rfl) (by kernel_rfl) (by kernel_rfl) (fun _ _ _ h => h) (by rfl) (by assumption) ?hy26 ?rest26
        case hy26 => intro w' hSw; (try dsimp only at hSw); go_simp; try with_reducible rfl
        try simp only [Act.put, List.setIfInBounds_toArray, List.set_cons_zero, List.set_cons_succ]
        refine takeW 5 (v := ?v27) rfl (by kernel_rfl) (by kernel_rfl) (by kernel_rfl) (fun _ _ _ h => h) (by rfl) (by assumption) ?hy27 ?rest27
        case hy27 => intro w' hSw; (try dsimp only at hSw); go_simp; try with_reducible rfl
        try simp only [Act.put, List.setIfInBounds_toArray, List.set_cons_zero, List.set_cons_succ]
        refine takeC 6 (by kernel_rfl) rfl (fun K hK => ?_)
        go_simp
        refine (HRB.out _ _ hBd).mono ?_; rintro e w1 ⟨rfl, hB1⟩; have hc1 := fun o => hB1.cell (p := ⟨wr.heap.size, o, none⟩) (by simp)
        refine hK.out _ _ ?_ (fun hHeld => ?_)
        · go_keep
        clear hK K
        try simp only [Act.put, List.setIfInBounds_toArray, List.set_cons_zero, List.set_cons_succ]
        refine takeW 7 (v := ?v28) rfl (by kernel_rfl) (by kernel_rfl) (by kernel_rfl) (fun _ _ _ h => h) (by rfl) (by assumption) ?hy28 ?rest28
        case hy28 => intro w' hSw; (try dsimp only at hSw); go_simp; try with_reducible rfl
        try simp only [Act.put, List.setIfInBounds_toArray, List.set_cons_zero, List.set_cons_succ]
        refine wpAnyH_done (by kernel_rfl) ?_ _
        have hB2 := below_one hBa (below_drew1 hB1)
        clear hB1
        go_wp2_with fail
        go_roundw
        case rel => exact ⟨k + 1, by omega, by go_num, HR.out, hB2⟩
        case measure => simp [intOf]; omega
    · obtain rfl : k = l.length := by omega
      have HR := hid (show foE l = .returned (.tuple #[]) by unfold foE; rw [brX_none HN.out])
      go_wp2
      go_end0
      exact ⟨by rw [HR.out], hB⟩

end Go.Proofs.YtepoamekeackkaaDoor
