/-
  Chapter 2, the program's side: DecideCall.
-/
import Derived.Test.YtnbojbcljfiamaaGreatDoorJPermittedBy5
import Derived.Test.YtnbojbcljfiamaaGreatDoorJPermittedBy6
import Derived.Lib.AppendIntMem
import Derived.Shelf.Strconv.Itoa3
import Derived.Test.YtnbojbcljfiamaaGreatDoorJPermittedBy0
import Derived.Test.YtnbojbcljfiamaaGreatDoorJPermittedBy2
import Derived.Shelf.Strings.OnBuilder
import Derived.Test.YtnbojbcljfiamaaGreatDoorJPermittedBy3
import Derived.Test.YtnbojbcljfiamaaGreatDoorJPermittedBy4
import Derived.Test.YtnbojbcljfiamaaGreatDoorJPermittedBy1
namespace Go.Proofs.YtnbojbcljfiamaaGreatDoor
open Go.RowKit Go.Shelf

theorem cell_old {w w1 : World} {o : Obj} (h : Below (w.alloc o).heap.size (w.alloc o).drew w1) {b i : Nat} (hb : b < w.heap.size) : w1.cell? ⟨b, i, none⟩ = w.cell? ⟨b, i, none⟩ :=
  ((below_drew1 h).cell (p := ⟨b, i, none⟩) (by simp; omega)).trans (((Below.refl w.heap.size w).alloc (Nat.le_refl _) o).cell (p := ⟨b, i, none⟩) hb)

set_option maxHeartbeats 2000000 in
theorem specGoodToken_fit (v : Value) (ks : List Lk) (w : World) (hm : ks.length ≤ 1048577) (hf : ∀ k ∈ ks, k.who.size ≤ 1048576 ∧ k.to.size ≤ 1048576) (hr : LkS w v ks) :
    Calls Tryz.prog 132 #[v] w fun e w' => e = .returned (.bool (tkB ks)) ∧ Below w.heap.size w w' := by
  obtain ⟨a, cap, rfl⟩ := hr.len
  go_enter Tryz.func132, Tryz.ntmps132
  go_wp2
  go_loopw [7] (fun i wr => ∃ n : Nat, n ≤ ks.length ∧ i = .int .i64 n ∧ tkTo ks n = true ∧ Below w.heap.size w wr) (fun i _ => ks.length - (intOf i).toNat)
  case atStart => exact ⟨0, Nat.zero_le _, rfl, tkTo_zero _, Below.refl _ _⟩
  case round =>
    obtain ⟨n, hn, rfl, ht, hB⟩ := hrel
    have HT := hid ht
    clear ht
    by_cases hlt : n < ks.length
    · obtain ⟨b, off, rfl, hb, hcap, q0, q1, q2, q3, q4⟩ := (hr.below hB).at hlt
      have hz := hf ks[n] (List.getElem_mem hlt)
      have HS := hid (tkTo_succ ks n)
      have HBd := hid (fun h => tk_bad (ks := ks) (n := n) hlt h)
      by_cases hn0 : n = 0
      · have HA := hid (show lkAt ks n = ks[n].good by subst hn0; exact lkAt_zero hlt)
        have dn : decide (0 < n) = false := by simp; omega
        clear hn0
        generalize ks[n] = k at *
        have hs1 : k.who.size ≤ 1048576 := hz.1
        have hs2 : k.to.size ≤ 1048576 := hz.2
        cases hg : k.good
        · have HR := hid (HBd.out (by rw [HA.out, hg]))
          go_wp2_with fail
          refine wp_region_held_drew (S := fun w' => w'.cell? ⟨wr.heap.size, 0, none⟩ = some (.string k.who) ∧ w'.cell? ⟨wr.heap.size, 1, none⟩ = some (.string k.to) ∧ w'.cell? ⟨wr.heap.size, 2, none⟩ = some (.int .i64 k.se) ∧ w'.cell? ⟨wr.heap.size, 3, none⟩ = some (.int .i64 k.fr) ∧ w'.cell? ⟨wr.heap.size, 4, none⟩ = some (.int .i64 k.un)) (by kernel_rfl) ?_ (fun hHeld => ?_)
          · go_keep
          refine takeW 0 (v := ?v1) rfl (by kernel_rfl) (by kernel_rfl) (by kernel_rfl) (fun _ _ _ h => h) (by rfl) (by assumption) ?hy1 ?rest1
          case hy1 => intro w' hSw; (try dsimp only at hSw); go_simp; try with_reducible rfl
          try simp only [Act.put, List.setIfInBounds_toArray, List.set_cons_zero, List.set_cons_succ]
          refine takeC 1 (by kernel_rfl) rfl (fun K hK => ?_)
          go_simp
          refine (l3Link_any k _ hs1 hs2).mono ?_; rintro e w1 ⟨he1, hB1⟩; rw [hg] at he1; subst he1; have hcn := fun o => hB1.cell (p := ⟨wr.heap.size, o, none⟩) (by simp); have hcb := fun o => cell_old hB1 (b := b) (i := o) hb
          refine hK.out _ _ ?_ (fun hHeld => ?_)
          · go_keep
          clear hK K
          try simp only [Act.put, List.setIfInBounds_toArray, List.set_cons_zero, List.set_cons_succ]
          refine takeW 2 (v := ?v2) rfl (by kernel_rfl) (by kernel_rfl) (by kernel_rfl) (fun _ _ _ h => h) (by rfl) (by assumption) ?hy2 ?rest2
          case hy2 => intro w' hSw; (try dsimp only at hSw); go_simp; try with_reducible rfl
          try simp only [Act.put, List.setIfInBounds_toArray, List.set_cons_zero, List.set_cons_succ]
          refine takeW 3 (v := ?v3) rfl (by kernel_rfl) (by kernel_rfl) (by kernel_rfl) (fun _ _ _ h => h) (by rfl) (by assumption) ?hy3 ?rest3
          case hy3 => intro w' hSw; (try dsimp only at hSw); go_simp; try with_reducible rfl
          try simp only [Act.put, List.setIfInBounds_toArray, List.set_cons_zero, List.set_cons_succ]
          refine takeX 4 rfl (by kernel_rfl) (by kernel_rfl) (by kernel_rfl) (fun _ _ _ h => h) (by rfl) (by assumption) ?_
          try simp only [Act.put, List.setIfInBounds_toArray, List.set_cons_zero, List.set_cons_succ]
          refine takeX 5 rfl (by kernel_rfl) (by kernel_rfl) (by kernel_rfl) (fun _ _ _ h => h) (by rfl) (by assumption) ?_
          try simp only [Act.put, List.setIfInBounds_toArray, List.set_cons_zero, List.set_cons_succ]
          refine takeX 6 rfl (by kernel_rfl) (by kernel_rfl) (by kernel_rfl) (fun _ _ _ h => h) (by rfl) (by assumption) ?_
          try simp only [Act.put, List.setIfInBounds_toArray, List.set_cons_zero, List.set_cons_succ]
          refine takeX 7 rfl (by kernel_rfl) (by kernel_rfl) (by kernel_rfl) (fun _ _ _ h => h) (by rfl) (by assumption) ?_
          try simp only [Act.put, List.setIfInBounds_toArray, List.set_cons_zero, List.set_cons_succ]
          refine takeX 8 rfl (by kernel_rfl) (by kernel_rfl) (by kernel_rfl) (fun _ _ _ h => h) (by rfl) (by assumption) ?_
          try simp only [Act.put, List.setIfInBounds_toArray, List.set_cons_zero, List.set_cons_succ]
          refine takeX 9 rfl (by kernel_rfl) (by kernel_rfl) (by kernel_rfl) (fun _ _ _ h => h) (by rfl) (by assumption) ?_
          try simp only [Act.put, List.setIfInBounds_toArray, List.set_cons_zero, List.set_cons_succ]
          refine takeX 10 rfl (by kernel_rfl) (by kernel_rfl) (by kernel_rfl) (fun _ _ _ h => h) (by rfl) (by assumption) ?_
          try simp only [Act.put, List.setIfInBounds_toArray, List.set_cons_zero, List.set_cons_succ]
          refine takeX 11 rfl (by kernel_rfl) (by kernel_rfl) (by kernel_rfl) (fun _ _ _ h => h) (by rfl) (by assumption) ?_
          try simp only [Act.put, List.setIfInBounds_toArray, List.set_cons_zero, List.set_cons_succ]
          refine takeX 12 rfl (by kernel_rfl) (by kernel_rfl) (by kernel_rfl) (fun _ _ _ h => h) (by rfl) (by assumption) ?_
          try simp only [Act.put, List.setIfInBounds_toArray, List.set_cons_zero, List.set_cons_succ]
          refine takeX 13 rfl (by kernel_rfl) (by kernel_rfl) (by kernel_rfl) (fun _ _ _ h => h) (by rfl) (by assumption) ?_
          try simp only [Act.put, List.setIfInBounds_toArray, List.set_cons_zero, List.set_cons_succ]
          refine takeX 14 rfl (by kernel_rfl) (by kernel_rfl) (by kernel_rfl) (fun _ _ _ h => h) (by rfl) (by assumption) ?_
          try simp only [Act.put, List.setIfInBounds_toArray, List.set_cons_zero, List.set_cons_succ]
          refine takeX 15 rfl (by kernel_rfl) (by kernel_rfl) (by kernel_rfl) (fun _ _ _ h => h) (by rfl) (by assumption) ?_
          try simp only [Act.put, List.setIfInBounds_toArray, List.set_cons_zero, List.set_cons_succ]
          refine takeX 16 rfl (by kernel_rfl) (by kernel_rfl) (by kernel_rfl) (fun _ _ _ h => h) (by rfl) (by assumption) ?_
          try simp only [Act.put, List.setIfInBounds_toArray, List.set_cons_zero, List.set_cons_succ]
          refine takeW 17 (v := ?v4) rfl (by kernel_rfl) (by kernel_rfl) (by kernel_rfl) (fun _ _ _ h => h) (by rfl) (by assumption) ?hy4 ?rest4
          case hy4 => intro w' hSw; (try dsimp only at hSw); go_simp; try with_reducible rfl
          try simp only [Act.put, List.setIfInBounds_toArray, List.set_cons_zero, List.set_cons_succ]
          refine wpAnyH_done (by kernel_rfl) ?_ _
          have hB2 := below_one hB (below_one ((Below.refl _ wr).alloc (Nat.le_refl _) _) (below_drew1 hB1))
          clear hcn hcb hB1 hHeld
          go_wp2
          go_ret
          exact ⟨ret_bool HR.out.symm, hB2⟩
        · have HR := hid (show tkTo ks (n + 1) = true by rw [HS.out, HT.out, HA.out, hg]; rfl)
          go_wp2_with fail
          refine wp_region_held_drew (S := fun w' => w'.cell? ⟨wr.heap.size, 0, none⟩ = some (.string k.who) ∧ w'.cell? ⟨wr.heap.size, 1, none⟩ = some (.string k.to) ∧ w'.cell? ⟨wr.heap.size, 2, none⟩ = some (.int .i64 k.se) ∧ w'.cell? ⟨wr.heap.size, 3, none⟩ = some (.int .i64 k.fr) ∧ w'.cell? ⟨wr.heap.size, 4, none⟩ = some (.int .i64 k.un)) (by kernel_rfl) ?_ (fun hHeld => ?_)
          · go_keep
          refine takeW 0 (v := ?v5) rfl (by kernel_rfl) (by kernel_rfl) (by kernel_rfl) (fun _ _ _ h => h) (by rfl) (by assumption) ?hy5 ?rest5
          case hy5 => intro w' hSw; (try dsimp only at hSw); go_simp; try with_reducible rfl
          try simp only [Act.put, List.setIfInBounds_toArray, List.set_cons_zero, List.set_cons_succ]
          refine takeC 1 (by kernel_rfl) rfl (fun K hK => ?_)
          go_simp
          refine (l3Link_any k _ hs1 hs2).mono ?_; rintro e w1 ⟨he1, hB1⟩; rw [hg] at he1; subst he1; have hcn := fun o => hB1.cell (p := ⟨wr.heap.size, o, none⟩) (by simp); have hcb := fun o => cell_old hB1 (b := b) (i := o) hb
          refine hK.out _ _ ?_ (fun hHeld => ?_)
          · go_keep
          clear hK K
          try simp only [Act.put, List.setIfInBounds_toArray, List.set_cons_zero, List.set_cons_succ]
          refine takeW 2 (v := ?v6) rfl (by kernel_rfl) (by kernel_rfl) (by kernel_rfl) (fun _ _ _ h => h) (by rfl) (by assumption) ?hy6 ?rest6
          case hy6 => intro w' hSw; (try dsimp only at hSw); go_simp; try with_reducible rfl
          try simp only [Act.put, List.setIfInBounds_toArray, List.set_cons_zero, List.set_cons_succ]
          refine takeW 3 (v := ?v7) rfl (by kernel_rfl) (by kernel_rfl) (by kernel_rfl) (fun _ _ _ h => h) (by rfl) (by assumption) ?hy7 ?rest7
          case hy7 => intro w' hSw; (try dsimp only at hSw); go_simp; try with_reducible rfl
          try simp only [Act.put, List.setIfInBounds_toArray, List.set_cons_zero, List.set_cons_succ]
          refine takeW 4 (v := ?v8) rfl (by kernel_rfl) (by kernel_rfl) (by kernel_rfl) (fun _ _ _ h => h) (by rfl) (by assumption) ?hy8 ?rest8
          case hy8 => intro w' hSw; (try dsimp only at hSw); go_simp; try with_reducible rfl
          try simp only [Act.put, List.setIfInBounds_toArray, List.set_cons_zero, List.set_cons_succ]
          refine takeW 5 (v := ?v9) rfl (by kernel_rfl) (by kernel_rfl) (by kernel_rfl) (fun _ _ _ h => h) (by rfl) (by assumption) ?hy9 ?rest9
          case hy9 => intro w' hSw; (try dsimp only at hSw); go_simp; try with_reducible rfl
          try simp only [Act.put, List.setIfInBounds_toArray, List.set_cons_zero, List.set_cons_succ]
          refine takeW 6 (v := ?v10) rfl (by kernel_rfl) (by kernel_rfl) (by kernel_rfl) (fun _ _ _ h => h) (by rfl) (by assumption) ?hy10 ?rest10
          case hy10 => intro w' hSw; (try dsimp only at hSw); go_simp; try with_reducible rfl
          try simp only [Act.put, List.setIfInBounds_toArray, List.set_cons_zero, List.set_cons_succ]
          refine takeX 7 rfl (by kernel_rfl) (by kernel_rfl) (by kernel_rfl) (fun _ _ _ h => h) (by rfl) (by assumption) ?_
          try simp only [Act.put, List.setIfInBounds_toArray, List.set_cons_zero, List.set_cons_succ]
          refine takeX 8 rfl (by kernel_rfl) (by kernel_rfl) (by kernel_rfl) (fun _ _ _ h => h) (by rfl) (by assumption) ?_
          try simp only [Act.put, List.setIfInBounds_toArray, List.set_cons_zero, List.set_cons_succ]
          refine takeX 9 rfl (by kernel_rfl) (by kernel_rfl) (by kernel_rfl) (fun _ _ _ h => h) (by rfl) (by assumption) ?_
          try simp only [Act.put, List.setIfInBounds_toArray, List.set_cons_zero, List.set_cons_succ]
          refine takeX 10 rfl (by kernel_rfl) (by kernel_rfl) (by kernel_rfl) (fun _ _ _ h => h) (by rfl) (by assumption) ?_
          try simp only [Act.put, List.setIfInBounds_toArray, List.set_cons_zero, List.set_cons_succ]
          refine takeX 11 rfl (by kernel_rfl) (by kernel_rfl) (by kernel_rfl) (fun _ _ _ h => h) (by rfl) (by assumption) ?_
          try simp only [Act.put, List.setIfInBounds_toArray, List.set_cons_zero, List.set_cons_succ]
          refine takeX 12 rfl (by kernel_rfl) (by kernel_rfl) (by kernel_rfl) (fun _ _ _ h => h) (by rfl) (by assumption) ?_
          try simp only [Act.put, List.setIfInBounds_toArray, List.set_cons_zero, List.set_cons_succ]
          refine takeX 13 rfl (by kernel_rfl) (by kernel_rfl) (by kernel_rfl) (fun _ _ _ h => h) (by rfl) (by assumption) ?_
          try simp only [Act.put, List.setIfInBounds_toArray, List.set_cons_zero, List.set_cons_succ]
          refine takeX 14 rfl (by kernel_rfl) (by kernel_rfl) (by kernel_rfl) (fun _ _ _ h => h) (by rfl) (by assumption) ?_
          try simp only [Act.put, List.setIfInBounds_toArray, List.set_cons_zero, List.set_cons_succ]
          refine takeX 15 rfl (by kernel_rfl) (by kernel_rfl) (by kernel_rfl) (fun _ _ _ h => h) (by rfl) (by assumption) ?_
          try simp only [Act.put, List.setIfInBounds_toArray, List.set_cons_zero, List.set_cons_succ]
          refine takeW 16 (v := ?v11) rfl (by kernel_rfl) (by kernel_rfl) (by kernel_rfl) (fun _ _ _ h => h) (by rfl) (by assumption) ?hy11 ?rest11
          case hy11 => intro w' hSw; (try dsimp only at hSw); go_simp; try with_reducible rfl
          try simp only [Act.put, List.setIfInBounds_toArray, List.set_cons_zero, List.set_cons_succ]
          refine takeW 17 (v := ?v12) rfl (by kernel_rfl) (by kernel_rfl) (by kernel_rfl) (fun _ _ _ h => h) (by rfl) (by assumption) ?hy12 ?rest12
          case hy12 => intro w' hSw; (try dsimp only at hSw); go_simp; try with_reducible rfl
          try simp only [Act.put, List.setIfInBounds_toArray, List.set_cons_zero, List.set_cons_succ]
          refine wpAnyH_done (by kernel_rfl) ?_ _
          have hB2 := below_one hB (below_one ((Below.refl _ wr).alloc (Nat.le_refl _) _) (below_drew1 hB1))
          clear hcn hcb hB1 hHeld
          go_wp2
          go_roundw
          case rel => first | exact ⟨n + 1, by omega, by go_num, HR.out, hB2⟩ | ((repeat apply Exists.intro); exact ⟨⟨n + 1, by omega, by go_num, HR.out, hB2⟩, rfl⟩)
          case measure => simp [intOf]; omega
      · obtain ⟨m, rfl⟩ : ∃ m, n = m + 1 := ⟨n - 1, by omega⟩
        have hltm : m < ks.length := by omega
        obtain ⟨b', off', he, _, _, _, p1, _, _, _⟩ := (hr.below hB).at hltm
        cases he
        have HA := hid (lkAt_succ hlt)
        generalize ks[m + 1] = k at *
        generalize ks[m] = p at *
        have hs1 : k.who.size ≤ 1048576 := hz.1
        have hs2 : k.to.size ≤ 1048576 := hz.2
        have hw1 : IntKind.i64.wrap (m : Int) = (m : Int) := by rw [IntKind.wrap_i64]; omega
        have hw2 : (m : Int) < (ks.length : Int) := by omega
        cases hg : k.good
        · have HR := hid (HBd.out (by rw [HA.out, hg]; rfl))
          go_wp2_with fail
          refine wp_region_held_drew (S := fun w' => w'.cell? ⟨wr.heap.size, 0, none⟩ = some (.string k.who) ∧ w'.cell? ⟨wr.heap.size, 1, none⟩ = some (.string k.to) ∧ w'.cell? ⟨wr.heap.size, 2, none⟩ = some (.int .i64 k.se) ∧ w'.cell? ⟨wr.heap.size, 3, none⟩ = some (.int .i64 k.fr) ∧ w'.cell? ⟨wr.heap.size, 4, none⟩ = some (.int .i64 k.un) ∧ w'.cell? ⟨b, off + m * 5 + 1, none⟩ = some (.string p.to)) (by kernel_rfl) ?_ (fun hHeld => ?_)
          · go_keep
          refine takeW 0 (v := ?v13) rfl (by kernel_rfl) (by kernel_rfl) (by kernel_rfl) (fun _ _ _ h => h) (by rfl) (by assumption) ?hy13 ?rest13
          case hy13 => intro w' hSw; (try dsimp only at hSw); go_simp; try with_reducible rfl
          try simp only [Act.put, List.setIfInBounds_toArray, List.set_cons_zero, List.set_cons_succ]
          refine takeC 1 (by kernel_rfl) rfl (fun K hK => ?_)
          go_simp
          refine (l3Link_any k _ hs1 hs2).mono ?_; rintro e w1 ⟨he1, hB1⟩; rw [hg] at he1; subst he1; have hcn := fun o => hB1.cell (p := ⟨wr.heap.size, o, none⟩) (by simp); have hcb := fun o => cell_old hB1 (b := b) (i := o) hb
          refine hK.out _ _ ?_ (fun hHeld => ?_)
          · go_keep
          clear hK K
          try simp only [Act.put, List.setIfInBounds_toArray, List.set_cons_zero, List.set_cons_succ]
          refine takeW 2 (v := ?v14) rfl (by kernel_rfl) (by kernel_rfl) (by kernel_rfl) (fun _ _ _ h => h) (by rfl) (by assumption) ?hy14 ?rest14
          case hy14 => intro w' hSw; (try dsimp only at hSw); go_simp; try with_reducible rfl
          try simp only [Act.put, List.setIfInBounds_toArray, List.set_cons_zero, List.set_cons_succ]
          refine takeW 3 (v := ?v15) rfl (by kernel_rfl) (by kernel_rfl) (by kernel_rfl) (fun _ _ _ h => h) (by rfl) (by assumption) ?hy15 ?rest15
          case hy15 => intro w' hSw; (try dsimp only at hSw); go_simp; try with_reducible rfl
          try simp only [Act.put, List.setIfInBounds_toArray, List.set_cons_zero, List.set_cons_succ]
          refine takeX 4 rfl (by kernel_rfl) (by kernel_rfl) (by kernel_rfl) (fun _ _ _ h => h) (by rfl) (by assumption) ?_
          try simp only [Act.put, List.setIfInBounds_toArray, List.set_cons_zero, List.set_cons_succ]
          refine takeX 5 rfl (by kernel_rfl) (by kernel_rfl) (by kernel_rfl) (fun _ _ _ h => h) (by rfl) (by assumption) ?_
          try simp only [Act.put, List.setIfInBounds_toArray, List.set_cons_zero, List.set_cons_succ]
          refine takeX 6 rfl (by kernel_rfl) (by kernel_rfl) (by kernel_rfl) (fun _ _ _ h => h) (by rfl) (by assumption) ?_
          try simp only [Act.put, List.setIfInBounds_toArray, List.set_cons_zero, List.set_cons_succ]
          refine takeX 7 rfl (by kernel_rfl) (by kernel_rfl) (by kernel_rfl) (fun _ _ _ h => h) (by rfl) (by assumption) ?_
          try simp only [Act.put, List.setIfInBounds_toArray, List.set_cons_zero, List.set_cons_succ]
          refine takeX 8 rfl (by kernel_rfl) (by kernel_rfl) (by kernel_rfl) (fun _ _ _ h => h) (by rfl) (by assumption) ?_
          try simp only [Act.put, List.setIfInBounds_toArray, List.set_cons_zero, List.set_cons_succ]
          refine takeX 9 rfl (by kernel_rfl) (by kernel_rfl) (by kernel_rfl) (fun _ _ _ h => h) (by rfl) (by assumption) ?_
          try simp only [Act.put, List.setIfInBounds_toArray, List.set_cons_zero, List.set_cons_succ]
          refine takeX 10 rfl (by kernel_rfl) (by kernel_rfl) (by kernel_rfl) (fun _ _ _ h => h) (by rfl) (by assumption) ?_
          try simp only [Act.put, List.setIfInBounds_toArray, List.set_cons_zero, List.set_cons_succ]
          refine takeX 11 rfl (by kernel_rfl) (by kernel_rfl) (by kernel_rfl) (fun _ _ _ h => h) (by rfl) (by assumption) ?_
          try simp only [Act.put, List.setIfInBounds_toArray, List.set_cons_zero, List.set_cons_succ]
          refine takeX 12 rfl (by kernel_rfl) (by kernel_rfl) (by kernel_rfl) (fun _ _ _ h => h) (by rfl) (by assumption) ?_
          try simp only [Act.put, List.setIfInBounds_toArray, List.set_cons_zero, List.set_cons_succ]
          refine takeX 13 rfl (by kernel_rfl) (by kernel_rfl) (by kernel_rfl) (fun _ _ _ h => h) (by rfl) (by assumption) ?_
          try simp only [Act.put, List.setIfInBounds_toArray, List.set_cons_zero, List.set_cons_succ]
          refine takeX 14 rfl (by kernel_rfl) (by kernel_rfl) (by kernel_rfl) (fun _ _ _ h => h) (by rfl) (by assumption) ?_
          try simp only [Act.put, List.setIfInBounds_toArray, List.set_cons_zero, List.set_cons_succ]
          refine takeX 15 rfl (by kernel_rfl) (by kernel_rfl) (by kernel_rfl) (fun _ _ _ h => h) (by rfl) (by assumption) ?_
          try simp only [Act.put, List.setIfInBounds_toArray, List.set_cons_zero, List.set_cons_succ]
          refine takeX 16 rfl (by kernel_rfl) (by kernel_rfl) (by kernel_rfl) (fun _ _ _ h => h) (by rfl) (by assumption) ?_
          try simp only [Act.put, List.setIfInBounds_toArray, List.set_cons_zero, List.set_cons_succ]
          refine takeW 17 (v := ?v16) rfl (by kernel_rfl) (by kernel_rfl) (by kernel_rfl) (fun _ _ _ h => h) (by rfl) (by assumption) ?hy16 ?rest16
          case hy16 => intro w' hSw; (try dsimp only at hSw); go_simp; try with_reducible rfl
          try simp only [Act.put, List.setIfInBounds_toArray, List.set_cons_zero, List.set_cons_succ]
          refine wpAnyH_done (by kernel_rfl) ?_ _
          have hB2 := below_one hB (below_one ((Below.refl _ wr).alloc (Nat.le_refl _) _) (below_drew1 hB1))
          clear hcn hcb hB1 hHeld
          go_wp2
          go_ret
          exact ⟨ret_bool HR.out.symm, hB2⟩
        · cases he : (p.to.toList == k.who.toList)
          · have HR := hid (HBd.out (by rw [HA.out, hg, he]; rfl))
            go_wp2_with fail
            refine wp_region_held_drew (S := fun w' => w'.cell? ⟨wr.heap.size, 0, none⟩ = some (.string k.who) ∧ w'.cell? ⟨wr.heap.size, 1, none⟩ = some (.string k.to) ∧ w'.cell? ⟨wr.heap.size, 2, none⟩ = some (.int .i64 k.se) ∧ w'.cell? ⟨wr.heap.size, 3, none⟩ = some (.int .i64 k.fr) ∧ w'.cell? ⟨wr.heap.size, 4, none⟩ = some (.int .i64 k.un) ∧ w'.cell? ⟨b, off + m * 5 + 1, none⟩ = some (.string p.to)) (by kernel_rfl) ?_ (fun hHeld => ?_)
            · go_keep
            refine takeW 0 (v := ?v17) rfl (by kernel_rfl) (by kernel_rfl) (by kernel_rfl) (fun _ _ _ h => h) (by rfl) (by assumption) ?hy17 ?rest17
            case hy17 => intro w' hSw; (try dsimp only at hSw); go_simp; try with_reducible rfl
            try simp only [Act.put, List.setIfInBounds_toArray, List.set_cons_zero, List.set_cons_succ]
            refine takeC 1 (by kernel_rfl) rfl (fun K hK => ?_)
            go_simp
            refine (l3Link_any k _ hs1 hs2).mono ?_; rintro e w1 ⟨he1, hB1⟩; rw [hg] at he1; subst he1; have hcn := fun o => hB1.cell (p := ⟨wr.heap.size, o, none⟩) (by simp); have hcb := fun o => cell_old hB1 (b := b) (i := o) hb
            refine hK.out _ _ ?_ (fun hHeld => ?_)
            · go_keep
            clear hK K
            try simp only [Act.put, List.setIfInBounds_toArray, List.set_cons_zero, List.set_cons_succ]
            refine takeW 2 (v := ?v18) rfl (by kernel_rfl) (by kernel_rfl) (by kernel_rfl) (fun _ _ _ h => h) (by rfl) (by assumption) ?hy18 ?rest18
            case hy18 => intro w' hSw; (try dsimp only at hSw); go_simp; try with_reducible rfl
            try simp only [Act.put, List.setIfInBounds_toArray, List.set_cons_zero, List.set_cons_succ]
            refine takeW 3 (v := ?v19) rfl (by kernel_rfl) (by kernel_rfl) (by kernel_rfl) (fun _ _ _ h => h) (by rfl) (by assumption) ?hy19 ?rest19
            case hy19 => intro w' hSw; (try dsimp only at hSw); go_simp; try with_reducible rfl
            try simp only [Act.put, List.setIfInBounds_toArray, List.set_cons_zero, List.set_cons_succ]
            refine takeW 4 (v := ?v20) rfl (by kernel_rfl) (by kernel_rfl) (by kernel_rfl) (fun _ _ _ h => h) (by rfl) (by assumption) ?hy20 ?rest20
            case hy20 => intro w' hSw; (try dsimp only at hSw); go_simp; try with_reducible rfl
            try simp only [Act.put, List.setIfInBounds_toArray, List.set_cons_zero, List.set_cons_succ]
            refine takeW 5 (v := ?v21) rfl (by kernel_rfl) (by kernel_rfl) (by kernel_rfl) (fun _ _ _ h => h) (by rfl) (by assumption) ?hy21 ?rest21
            case hy21 => intro w' hSw; (try dsimp only at hSw); go_simp; try with_reducible rfl
            try simp only [Act.put, List.setIfInBounds_toArray, List.set_cons_zero, List.set_cons_succ]
            refine takeW 6 (v := ?v22) rfl (by kernel_rfl) (by kernel_rfl) (by kernel_rfl) (fun _ _ _ h => h) (by rfl) (by assumption) ?hy22 ?rest22
            case hy22 => intro w' hSw; (try dsimp only at hSw); go_simp; try with_reducible rfl
            try simp only [Act.put, List.setIfInBounds_toArray, List.set_cons_zero, List.set_cons_succ]
            refine takeW 7 (v := ?v23) rfl (by kernel_rfl) (by kernel_rfl) (by kernel_rfl) (fun _ _ _ h => h) (by rfl) (by assumption) ?hy23 ?rest23
            case hy23 => intro w' hSw; (try dsimp only at hSw); go_simp; try with_reducible rfl
            try simp only [Act.put, List.setIfInBounds_toArray, List.set_cons_zero, List.set_cons_succ]
            refine takeW 8 (v := ?v24) rfl (by kernel_rfl) (by kernel_rfl) (by kernel_rfl) (fun _ _ _ h => h) (by rfl) (by assumption) ?hy24 ?rest24
            case hy24 => intro w' hSw; (try dsimp only at hSw); go_simp; try with_reducible rfl
            try simp only [Act.put, List.setIfInBounds_toArray, List.set_cons_zero, List.set_cons_succ]
            refine takeW 9 (v := ?v25) rfl (by kernel_rfl) (by kernel_rfl) (by kernel_rfl) (fun _ _ _ h => h) (by rfl) (by assumption) ?hy25 ?rest25
            case hy25 => intro w' hSw; (try dsimp only at hSw); go_simp; try with_reducible rfl
            try simp only [Act.put, List.setIfInBounds_toArray, List.set_cons_zero, List.set_cons_succ]
            refine takeW 10 (v := ?v26) rfl (by kernel_rfl) (by kernel_rfl) (by kernel_rfl) (fun _ _ _ h => h) (by rfl) (by assumption) ?hy26 ?rest26
            case hy26 => intro w' hSw; (try dsimp only at hSw); go_simp; try with_reducible rfl
            try simp only [Act.put, List.setIfInBounds_toArray, List.set_cons_zero, List.set_cons_succ]
            refine takeW 11 (v := ?v27) rfl (by kernel_rfl) (by kernel_rfl) (by kernel_rfl) (fun _ _ _ h => h) (by rfl) (by assumption) ?hy27 ?rest27
            case hy27 => intro w' hSw; (try dsimp only at hSw); go_simp; try with_reducible rfl
            try simp only [Act.put, List.setIfInBounds_toArray, List.set_cons_zero, List.set_cons_succ]
            refine takeW 12 (v := ?v28) rfl (by kernel_rfl) (by kernel_rfl) (by kernel_rfl) (fun _ _ _ h => h) (by rfl) (by assumption) ?hy28 ?rest28
            case hy28 => intro w' hSw; (try dsimp only at hSw); go_simp; try with_reducible rfl
            try simp only [Act.put, List.setIfInBounds_toArray, List.set_cons_zero, List.set_cons_succ]
            refine takeW 13 (v := ?v29) rfl (by kernel_rfl) (by kernel_rfl) (by kernel_rfl) (fun _ _ _ h => h) (by rfl) (by assumption) ?hy29 ?rest29
            case hy29 => intro w' hSw; (try dsimp only at hSw); go_simp; try with_reducible rfl
            try simp only [Act.put, List.setIfInBounds_toArray, List.set_cons_zero, List.set_cons_succ]
            refine takeW 14 (v := ?v30) rfl (by kernel_rfl) (by kernel_rfl) (by kernel_rfl) (fun _ _ _ h => h) (by rfl) (by assumption) ?hy30 ?rest30
            case hy30 => intro w' hSw; (try dsimp only at hSw); go_simp; try with_reducible rfl
            try simp only [Act.put, List.setIfInBounds_toArray, List.set_cons_zero, List.set_cons_succ]
            refine takeW 15 (v := ?v31) rfl (by kernel_rfl) (by kernel_rfl) (by kernel_rfl) (fun _ _ _ h => h) (by rfl) (by assumption) ?hy31 ?rest31
            case hy31 => intro w' hSw; (try dsimp only at hSw); go_simp; try with_reducible rfl
            try simp only [Act.put, List.setIfInBounds_toArray, List.set_cons_zero, List.set_cons_succ]
            refine takeW 16 (v := ?v32) rfl (by kernel_rfl) (by kernel_rfl) (by kernel_rfl) (fun _ _ _ h => h) (by rfl) (by assumption) ?hy32 ?rest32
            case hy32 => intro w' hSw; (try dsimp only at hSw); go_simp; try with_reducible rfl
            try simp only [Act.put, List.setIfInBounds_toArray, List.set_cons_zero, List.set_cons_succ]
            refine takeW 17 (v := ?v33) rfl (by kernel_rfl) (by kernel_rfl) (by kernel_rfl) (fun _ _ _ h => h) (by rfl) (by assumption) ?hy33 ?rest33
            case hy33 => intro w' hSw; (try dsimp only at hSw); go_simp; try with_reducible rfl
            try simp only [Act.put, List.setIfInBounds_toArray, List.set_cons_zero, List.set_cons_succ]
            refine wpAnyH_done (by kernel_rfl) ?_ _
            have hB2 := below_one hB (below_one ((Below.refl _ wr).alloc (Nat.le_refl _) _) (below_drew1 hB1))
            clear hcn hcb hB1 hHeld
            go_wp2
            go_ret
            exact ⟨ret_bool HR.out.symm, hB2⟩
          · have HR := hid (show tkTo ks (m + 1 + 1) = true by rw [HS.out, HT.out, HA.out, hg, he]; rfl)
            go_wp2_with fail
            refine wp_region_held_drew (S := fun w' => w'.cell? ⟨wr.heap.size, 0, none⟩ = some (.string k.who) ∧ w'.cell? ⟨wr.heap.size, 1, none⟩ = some (.string k.to) ∧ w'.cell? ⟨wr.heap.size, 2, none⟩ = some (.int .i64 k.se) ∧ w'.cell? ⟨wr.heap.size, 3, none⟩ = some (.int .i64 k.fr) ∧ w'.cell? ⟨wr.heap.size, 4, none⟩ = some (.int .i64 k.un) ∧ w'.cell? ⟨b, off + m * 5 + 1, none⟩ = some (.string p.to)) (by kernel_rfl) ?_ (fun hHeld => ?_)
            · go_keep
            refine takeW 0 (v := ?v34) rfl (by kernel_rfl) (by kernel_rfl) (by kernel_rfl) (fun _ _ _ h => h) (by rfl) (by assumption) ?hy34 ?rest34
            case hy34 => intro w' hSw; (try dsimp only at hSw); go_simp; try with_reducible rfl
            try simp only [Act.put, List.setIfInBounds_toArray, List.set_cons_zero, List.set_cons_succ]
            refine takeC 1 (by kernel_rfl) rfl (fun K hK => ?_)
            go_simp
            refine (l3Link_any k _ hs1 hs2).mono ?_; rintro e w1 ⟨he1, hB1⟩; rw [hg] at he1; subst he1; have hcn := fun o => hB1.cell (p := ⟨wr.heap.size, o, none⟩) (by simp); have hcb := fun o => cell_old hB1 (b := b) (i := o) hb
            refine hK.out _ _ ?_ (fun hHeld => ?_)
            · go_keep
            clear hK K
            try simp only [Act.put, List.setIfInBounds_toArray, List.set_cons_zero, List.set_cons_succ]
            refine takeW 2 (v := ?v35) rfl (by kernel_rfl) (by kernel_rfl) (by kernel_rfl) (fun _ _ _ h => h) (by rfl) (by assumption) ?hy35 ?rest35
            case hy35 => intro w' hSw; (try dsimp only at hSw); go_simp; try with_reducible rfl
            try simp only [Act.put, List.setIfInBounds_toArray, List.set_cons_zero, List.set_cons_succ]
            refine takeW 3 (v := ?v36) rfl (by kernel_rfl) (by kernel_rfl) (by kernel_rfl) (fun _ _ _ h => h) (by rfl) (by assumption) ?hy36 ?rest36
            case hy36 => intro w' hSw; (try dsimp only at hSw); go_simp; try with_reducible rfl
            try simp only [Act.put, List.setIfInBounds_toArray, List.set_cons_zero, List.set_cons_succ]
            refine takeW 4 (v := ?v37) rfl (by kernel_rfl) (by kernel_rfl) (by kernel_rfl) (fun _ _ _ h => h) (by rfl) (by assumption) ?hy37 ?rest37
            case hy37 => intro w' hSw; (try dsimp only at hSw); go_simp; try with_reducible rfl
            try simp only [Act.put, List.setIfInBounds_toArray, List.set_cons_zero, List.set_cons_succ]
            refine takeW 5 (v := ?v38) rfl (by kernel_rfl) (by kernel_rfl) (by kernel_rfl) (fun _ _ _ h => h) (by rfl) (by assumption) ?hy38 ?rest38
            case hy38 => intro w' hSw; (try dsimp only at hSw); go_simp; try with_reducible rfl
            try simp only [Act.put, List.setIfInBounds_toArray, List.set_cons_zero, List.set_cons_succ]
            refine takeW 6 (v := ?v39) rfl (by kernel_rfl) (by kernel_rfl) (by kernel_rfl) (fun _ _ _ h => h) (by rfl) (by assumption) ?hy39 ?rest39
            case hy39 => intro w' hSw; (try dsimp only at hSw); go_simp; try with_reducible rfl
            try simp only [Act.put, List.setIfInBounds_toArray, List.set_cons_zero, List.set_cons_succ]
            refine takeW 7 (v := ?v40) rfl (by kernel_rfl) (by kernel_rfl) (by kernel_rfl) (fun _ _ _ h => h) (by rfl) (by assumption) ?hy40 ?rest40
            case hy40 => intro w' hSw; (try dsimp only at hSw); go_simp; try with_reducible rfl
            try simp only [Act.put, List.setIfInBounds_toArray, List.set_cons_zero, List.set_cons_succ]
            refine takeW 8 (v := ?v41) rfl (by kernel_rfl) (by kernel_rfl) (by kernel_rfl) (fun _ _ _ h => h) (by rfl) (by assumption) ?hy41 ?rest41
            case hy41 => intro w' hSw; (try dsimp only at hSw); go_simp; try with_reducible rfl
            try simp only [Act.put, List.setIfInBounds_toArray, List.set_cons_zero, List.set_cons_succ]
            refine takeW 9 (v := ?v42) rfl (by kernel_rfl) (by kernel_rfl) (by kernel_rfl) (fun _ _ _ h => h) (by rfl) (by assumption) ?hy42 ?rest42
            case hy42 => intro w' hSw; (try dsimp only at hSw); go_simp; try with_reducible rfl
            try simp only [Act.put, List.setIfInBounds_toArray, List.set_cons_zero, List.set_cons_succ]
            refine takeW 10 (v := ?v43) rfl (by kernel_rfl) (by kernel_rfl) (by kernel_rfl) (fun _ _ _ h => h) (by rfl) (by assumption) ?hy43 ?rest43
            case hy43 => intro w' hSw; (try dsimp only at hSw); go_simp; try with_reducible rfl
            try simp only [Act.put, List.setIfInBounds_toArray, List.set_cons_zero, List.set_cons_succ]
            refine takeW 11 (v := ?v44) rfl (by kernel_rfl) (by kernel_rfl) (by kernel_rfl) (fun _ _ _ h => h) (by rfl) (by assumption) ?hy44 ?rest44
            case hy44 => intro w' hSw; (try dsimp only at hSw); go_simp; try with_reducible rfl
            try simp only [Act.put, List.setIfInBounds_toArray, List.set_cons_zero, List.set_cons_succ]
            refine takeW 12 (v := ?v45) rfl (by kernel_rfl) (by kernel_rfl) (by kernel_rfl) (fun _ _ _ h => h) (by rfl) (by assumption) ?hy45 ?rest45
            case hy45 => intro w' hSw; (try dsimp only at hSw); go_simp; try with_reducible rfl
            try simp only [Act.put, List.setIfInBounds_toArray, List.set_cons_zero, List.set_cons_succ]
            refine takeW 13 (v := ?v46) rfl (by kernel_rfl) (by kernel_rfl) (by kernel_rfl) (fun _ _ _ h => h) (by rfl) (by assumption) ?hy46 ?rest46
            case hy46 => intro w' hSw; (try dsimp only at hSw); go_simp; try with_reducible rfl
            try simp only [Act.put, List.setIfInBounds_toArray, List.set_cons_zero, List.set_cons_succ]
            refine takeW 14 (v := ?v47) rfl (by kernel_rfl) (by kernel_rfl) (by kernel_rfl) (fun _ _ _ h => h) (by rfl) (by assumption) ?hy47 ?rest47
            case hy47 => intro w' hSw; (try dsimp only at hSw); go_simp; try with_reducible rfl
            try simp only [Act.put, List.setIfInBounds_toArray, List.set_cons_zero, List.set_cons_succ]
            refine takeW 15 (v := ?v48) rfl (by kernel_rfl) (by kernel_rfl) (by kernel_rfl) (fun _ _ _ h => h) (by rfl) (by assumption) ?hy48 ?rest48
            case hy48 => intro w' hSw; (try dsimp only at hSw); go_simp; try with_reducible rfl
            try simp only [Act.put, List.setIfInBounds_toArray, List.set_cons_zero, List.set_cons_succ]
            refine takeW 16 (v := ?v49) rfl (by kernel_rfl) (by kernel_rfl) (by kernel_rfl) (fun _ _ _ h => h) (by rfl) (by assumption) ?hy49 ?rest49
            case hy49 => intro w' hSw; (try dsimp only at hSw); go_simp; try with_reducible rfl
            try simp only [Act.put, List.setIfInBounds_toArray, List.set_cons_zero, List.set_cons_succ]
            refine takeW 17 (v := ?v50) rfl (by kernel_rfl) (by kernel_rfl) (by kernel_rfl) (fun _ _ _ h => h) (by rfl) (by assumption) ?hy50 ?rest50
            case hy50 => intro w' hSw; (try dsimp only at hSw); go_simp; try with_reducible rfl
            try simp only [Act.put, List.setIfInBounds_toArray, List.set_cons_zero, List.set_cons_succ]
            refine wpAnyH_done (by kernel_rfl) ?_ _
            have hB2 := below_one hB (below_one ((Below.refl _ wr).alloc (Nat.le_refl _) _) (below_drew1 hB1))
            clear hcn hcb hB1 hHeld
            go_wp2
            go_roundw
            case rel => first | exact ⟨m + 1 + 1, by omega, by go_num, HR.out, hB2⟩ | ((repeat apply Exists.intro); exact ⟨⟨m + 1 + 1, by omega, by go_num, HR.out, hB2⟩, rfl⟩)
            case measure => simp [intOf]; omega
    · obtain rfl : n = ks.length := by omega
      have HR := hid (show inB 1 6 (ks.length : Int) = tkB ks by
        rw [tk_end HT.out]
        unfold inB
        rw [decide_eq_decide]
        omega)
      go_wp2_with (go_at_call 64; refine (l1In_any _ 1 6 _).mono ?_; rintro e w1 ⟨rfl, rfl⟩)
      go_ret
      exact ⟨ret_bool HR.out, hB⟩

theorem specGoodToken_any (v : Value) (ks : List Lk) (w : World) (hm : ks.length ≤ 1048577) (hf : ∀ k ∈ ks, k.size ≤ 1048576) (hr : LkS w v ks) :
    Calls Tryz.prog 132 #[v] w fun e w' => e = .returned (.bool (tkB ks)) ∧ Below w.heap.size w w' :=
  specGoodToken_fit v ks w hm (fun k hk => by have := hf k hk; unfold Lk.size at this; omega) hr

end Go.Proofs.YtnbojbcljfiamaaGreatDoor

namespace Go.Proofs.YtnbojbcljfiamaaGreatDoor
open Go.RowKit Go.Shelf

set_option maxHeartbeats 4000000 in
theorem implGoodToken_fit (v : Value) (ks : List Lk) (w : World) (hm : ks.length ≤ 1048577) (hf : ∀ k ∈ ks, k.who.size ≤ 1048576 ∧ k.to.size ≤ 1048576) (hr : LkS w v ks) :
    Calls Tryz.prog 113 #[v] w fun e w' => e = .returned (.bool (tkB ks)) ∧ Below w.heap.size w w' := by
  obtain ⟨a, cap, rfl⟩ := hr.len
  by_cases c1 : 1 ≤ ks.length
  · by_cases c2 : ks.length ≤ 6
    · have d1 : decide ((ks.length : Int) < 1) = false := by simp; omega
      have d2 : decide (6 < (ks.length : Int)) = false := by simp; omega
      go_enter Tryz.func113, Tryz.ntmps113
      go_wp2
      go_loopw [16] (fun i wr => ∃ n : Nat, n ≤ ks.length ∧ i = .int .i64 n ∧ tkTo ks n = true ∧ Below w.heap.size w wr) (fun i _ => ks.length - (intOf i).toNat)
      case atStart => exact ⟨0, Nat.zero_le _, rfl, tkTo_zero _, Below.refl _ _⟩
      case round =>
        obtain ⟨n, hn, rfl, ht, hB⟩ := hrel
        have HT := hid ht
        clear ht
        by_cases hlt : n < ks.length
        · obtain ⟨b, off, rfl, hb, hcap, q0, q1, q2, q3, q4⟩ := (hr.below hB).at hlt
          have hz := hf ks[n] (List.getElem_mem hlt)
          have HS := hid (tkTo_succ ks n)
          have HBd := hid (fun h => tk_bad (ks := ks) (n := n) hlt h)
          by_cases hn0 : n = 0
          · have HA := hid (show lkAt ks n = ks[n].good by subst hn0; exact lkAt_zero hlt)
            have dn : decide (0 < n) = false := by simp; omega
            clear hn0
            generalize ks[n] = k at *
            have hs1 : k.who.size ≤ 1048576 := hz.1
            have hs2 : k.to.size ≤ 1048576 := hz.2
            cases hg : k.good
            · have HR := hid (HBd.out (by rw [HA.out, hg]))
              go_wp2_with fail
              refine (hopOf_any k _).mono ?_
              rintro e W ⟨rfl, hW⟩
              have hBW := below_one hB (below_one ((Below.refl _ wr).alloc (Nat.le_refl _) _) hW)
              have hb1 : b < W.heap.size := by have := hW.size; simp at this; omega
              clear hW q0 q1 q2 q3 q4
              go_wp2_with fail
              refine wp_region_held_drew (S := fun w' => w'.cell? ⟨W.heap.size, 0, none⟩ = some (.string k.who) ∧ w'.cell? ⟨W.heap.size, 1, none⟩ = some (.string k.to) ∧ w'.cell? ⟨W.heap.size, 2, none⟩ = some (.int .i64 k.fr) ∧ w'.cell? ⟨W.heap.size, 3, none⟩ = some (.int .i64 k.un) ∧ w'.cell? ⟨W.heap.size, 4, none⟩ = some (.int .i64 k.se)) (by kernel_rfl) ?_ (fun hHeld => ?_)
              · go_keep
              refine takeW 0 (v := ?v1) rfl (by kernel_rfl) (by kernel_rfl) (by kernel_rfl) (fun _ _ _ h => h) (by rfl) (by assumption) ?hy1 ?rest1
              case hy1 => intro w' hSw; (try dsimp only at hSw); go_simp; try with_reducible rfl
              try simp only [Act.put, List.setIfInBounds_toArray, List.set_cons_zero, List.set_cons_succ]
              refine takeC 1 (by kernel_rfl) rfl (fun K hK => ?_)
              go_simp
              refine (hopGood_any k _ hs1 hs2).mono ?_; rintro e w1 ⟨he1, hB1⟩; rw [hg] at he1; subst he1; have hcn := fun o => hB1.cell (p := ⟨W.heap.size, o, none⟩) (by simp); have hcb := fun o => cell_old hB1 (b := b) (i := o) hb1
              refine hK.out _ _ ?_ (fun hHeld => ?_)
              · go_keep
              clear hK K
              try simp only [Act.put, List.setIfInBounds_toArray, List.set_cons_zero, List.set_cons_succ]
              refine takeW 2 (v := ?v2) rfl (by kernel_rfl) (by kernel_rfl) (by kernel_rfl) (fun _ _ _ h => h) (by rfl) (by assumption) ?hy2 ?rest2
              case hy2 => intro w' hSw; (try dsimp only at hSw); go_simp; try with_reducible rfl
              try simp only [Act.put, List.setIfInBounds_toArray, List.set_cons_zero, List.set_cons_succ]
              refine takeW 3 (v := ?v3) rfl (by kernel_rfl) (by kernel_rfl) (by kernel_rfl) (fun _ _ _ h => h) (by rfl) (by assumption) ?hy3 ?rest3
              case hy3 => intro w' hSw; (try dsimp only at hSw); go_simp; try with_reducible rfl
              try simp only [Act.put, List.setIfInBounds_toArray, List.set_cons_zero, List.set_cons_succ]
              refine takeX 4 rfl (by kernel_rfl) (by kernel_rfl) (by kernel_rfl) (fun _ _ _ h => h) (by rfl) (by assumption) ?_
              try simp only [Act.put, List.setIfInBounds_toArray, List.set_cons_zero, List.set_cons_succ]
              refine takeX 5 rfl (by kernel_rfl) (by kernel_rfl) (by kernel_rfl) (fun _ _ _ h => h) (by rfl) (by assumption) ?_
              try simp only [Act.put, List.setIfInBounds_toArray, List.set_cons_zero, List.set_cons_succ]
              refine takeX 6 rfl (by kernel_rfl) (by kernel_rfl) (by kernel_rfl) (fun _ _ _ h => h) (by rfl) (by assumption) ?_
              try simp only [Act.put, List.setIfInBounds_toArray, List.set_cons_zero, List.set_cons_succ]
              refine takeX 7 rfl (by kernel_rfl) (by kernel_rfl) (by kernel_rfl) (fun _ _ _ h => h) (by rfl) (by assumption) ?_
              try simp only [Act.put, List.setIfInBounds_toArray, List.set_cons_zero, List.set_cons_succ]
              refine takeX 8 rfl (by kernel_rfl) (by kernel_rfl) (by kernel_rfl) (fun _ _ _ h => h) (by rfl) (by assumption) ?_
              try simp only [Act.put, List.setIfInBounds_toArray, List.set_cons_zero, List.set_cons_succ]
              refine takeX 9 rfl (by kernel_rfl) (by kernel_rfl) (by kernel_rfl) (fun _ _ _ h => h) (by rfl) (by assumption) ?_
              try simp only [Act.put, List.setIfInBounds_toArray, List.set_cons_zero, List.set_cons_succ]
              refine takeX 10 rfl (by kernel_rfl) (by kernel_rfl) (by kernel_rfl) (fun _ _ _ h => h) (by rfl) (by assumption) ?_
              try simp only [Act.put, List.setIfInBounds_toArray, List.set_cons_zero, List.set_cons_succ]
              refine takeX 11 rfl (by kernel_rfl) (by kernel_rfl) (by kernel_rfl) (fun _ _ _ h => h) (by rfl) (by assumption) ?_
              try simp only [Act.put, List.setIfInBounds_toArray, List.set_cons_zero, List.set_cons_succ]
              refine takeX 12 rfl (by kernel_rfl) (by kernel_rfl) (by kernel_rfl) (fun _ _ _ h => h) (by rfl) (by assumption) ?_
              try simp only [Act.put, List.setIfInBounds_toArray, List.set_cons_zero, List.set_cons_succ]
              refine takeX 13 rfl (by kernel_rfl) (by kernel_rfl) (by kernel_rfl) (fun _ _ _ h => h) (by rfl) (by assumption) ?_
              try simp only [Act.put, List.setIfInBounds_toArray, List.set_cons_zero, List.set_cons_succ]
              refine takeX 14 rfl (by kernel_rfl) (by kernel_rfl) (by kernel_rfl) (fun _ _ _ h => h) (by rfl) (by assumption) ?_
              try simp only [Act.put, List.setIfInBounds_toArray, List.set_cons_zero, List.set_cons_succ]
              refine takeX 15 rfl (by kernel_rfl) (by kernel_rfl) (by kernel_rfl) (fun _ _ _ h => h) (by rfl) (by assumption) ?_
              try simp only [Act.put, List.setIfInBounds_toArray, List.set_cons_zero, List.set_cons_succ]
              refine takeX 16 rfl (by kernel_rfl) (by kernel_rfl) (by kernel_rfl) (fun _ _ _ h => h) (by rfl) (by assumption) ?_
              try simp only [Act.put, List.setIfInBounds_toArray, List.set_cons_zero, List.set_cons_succ]
              refine takeX 17 rfl (by kernel_rfl) (by kernel_rfl) (by kernel_rfl) (fun _ _ _ h => h) (by rfl) (by assumption) ?_
              try simp only [Act.put, List.setIfInBounds_toArray, List.set_cons_zero, List.set_cons_succ]
              refine takeW 18 (v := ?v4) rfl (by kernel_rfl) (by kernel_rfl) (by kernel_rfl) (fun _ _ _ h => h) (by rfl) (by assumption) ?hy4 ?rest4
              case hy4 => intro w' hSw; (try dsimp only at hSw); go_simp; try with_reducible rfl
              try simp only [Act.put, List.setIfInBounds_toArray, List.set_cons_zero, List.set_cons_succ]
              refine wpAnyH_done (by kernel_rfl) ?_ _
              have hB2 := below_one hBW (below_one ((Below.refl _ W).alloc (Nat.le_refl _) _) (below_drew1 hB1))
              clear hcn hcb hB1 hHeld
              go_wp2
              go_ret
              exact ⟨ret_bool HR.out.symm, hB2⟩
            · have HR := hid (show tkTo ks (n + 1) = true by rw [HS.out, HT.out, HA.out, hg]; rfl)
              go_wp2_with fail
              refine (hopOf_any k _).mono ?_
              rintro e W ⟨rfl, hW⟩
              have hBW := below_one hB (below_one ((Below.refl _ wr).alloc (Nat.le_refl _) _) hW)
              have hb1 : b < W.heap.size := by have := hW.size; simp at this; omega
              clear hW q0 q1 q2 q3 q4
              go_wp2_with fail
              refine wp_region_held_drew (S := fun w' => w'.cell? ⟨W.heap.size, 0, none⟩ = some (.string k.who) ∧ w'.cell? ⟨W.heap.size, 1, none⟩ = some (.string k.to) ∧ w'.cell? ⟨W.heap.size, 2, none⟩ = some (.int .i64 k.fr) ∧ w'.cell? ⟨W.heap.size, 3, none⟩ = some (.int .i64 k.un) ∧ w'.cell? ⟨W.heap.size, 4, none⟩ = some (.int .i64 k.se)) (by kernel_rfl) ?_ (fun hHeld => ?_)
              · go_keep
              refine takeW 0 (v := ?v5) rfl (by kernel_rfl) (by kernel_rfl) (by kernel_rfl) (fun _ _ _ h => h) (by rfl) (by assumption) ?hy5 ?rest5
              case hy5 => intro w' hSw; (try dsimp only at hSw); go_simp; try with_reducible rfl
              try simp only [Act.put, List.setIfInBounds_toArray, List.set_cons_zero, List.set_cons_succ]
              refine takeC 1 (by kernel_rfl) rfl (fun K hK => ?_)
              go_simp
              refine (hopGood_any k _ hs1 hs2).mono ?_; rintro e w1 ⟨he1, hB1⟩; rw [hg] at he1; subst he1; have hcn := fun o => hB1.cell (p := ⟨W.heap.size, o, none⟩) (by simp); have hcb := fun o => cell_old hB1 (b := b) (i := o) hb1
              refine hK.out _ _ ?_ (fun hHeld => ?_)
              · go_keep
              clear hK K
              try simp only [Act.put, List.setIfInBounds_toArray, List.set_cons_zero, List.set_cons_succ]
              refine takeW 2 (v := ?v6) rfl (by kernel_rfl) (by kernel_rfl) (by kernel_rfl) (fun _ _ _ h => h) (by rfl) (by assumption) ?hy6 ?rest6
              case hy6 => intro w' hSw; (try dsimp only at hSw); go_simp; try with_reducible rfl
              try simp only [Act.put, List.setIfInBounds_toArray, List.set_cons_zero, List.set_cons_succ]
              refine takeW 3 (v := ?v7) rfl (by kernel_rfl) (by kernel_rfl) (by kernel_rfl) (fun _ _ _ h => h) (by rfl) (by assumption) ?hy7 ?rest7
              case hy7 => intro w' hSw; (try dsimp only at hSw); go_simp; try with_reducible rfl
              try simp only [Act.put, List.setIfInBounds_toArray, List.set_cons_zero, List.set_cons_succ]
              refine takeW 4 (v := ?v8) rfl (by kernel_rfl) (by kernel_rfl) (by kernel_rfl) (fun _ _ _ h => h) (by rfl) (by assumption) ?hy8 ?rest8
              case hy8 => intro w' hSw; (try dsimp only at hSw); go_simp; try with_reducible rfl
              try simp only [Act.put, List.setIfInBounds_toArray, List.set_cons_zero, List.set_cons_succ]
              refine takeW 5 (v := ?v9) rfl (by kernel_rfl) (by kernel_rfl) (by kernel_rfl) (fun _ _ _ h => h) (by rfl) (by assumption) ?hy9 ?rest9
              case hy9 => intro w' hSw; (try dsimp only at hSw); go_simp; try with_reducible rfl
              try simp only [Act.put, List.setIfInBounds_toArray, List.set_cons_zero, List.set_cons_succ]
              refine takeW 6 (v := ?v10) rfl (by kernel_rfl) (by kernel_rfl) (by kernel_rfl) (fun _ _ _ h => h) (by rfl) (by assumption) ?hy10 ?rest10
              case hy10 => intro w' hSw; (try dsimp only at hSw); go_simp; try with_reducible rfl
              try simp only [Act.put, List.setIfInBounds_toArray, List.set_cons_zero, List.set_cons_succ]
              refine takeX 7 rfl (by kernel_rfl) (by kernel_rfl) (by kernel_rfl) (fun _ _ _ h => h) (by rfl) (by assumption) ?_
              try simp only [Act.put, List.setIfInBounds_toArray, List.set_cons_zero, List.set_cons_succ]
              refine takeX 8 rfl (by kernel_rfl) (by kernel_rfl) (by kernel_rfl) (fun _ _ _ h => h) (by rfl) (by assumption) ?_
              try simp only [Act.put, List.setIfInBounds_toArray, List.set_cons_zero, List.set_cons_succ]
              refine takeX 9 rfl (by kernel_rfl) (by kernel_rfl) (by kernel_rfl) (fun _ _ _ h => h) (by rfl) (by assumption) ?_
              try simp only [Act.put, List.setIfInBounds_toArray, List.set_cons_zero, List.set_cons_succ]
              refine takeX 10 rfl (by kernel_rfl) (by kernel_rfl) (by kernel_rfl) (fun _ _ _ h => h) (by rfl) (by assumption) ?_
              try simp only [Act.put, List.setIfInBounds_toArray, List.set_cons_zero, List.set_cons_succ]
              refine takeX 11 rfl (by kernel_rfl) (by kernel_rfl) (by kernel_rfl) (fun _ _ _ h => h) (by rfl) (by assumption) ?_
              try simp only [Act.put, List.setIfInBounds_toArray, List.set_cons_zero, List.set_cons_succ]
              refine takeX 12 rfl (by kernel_rfl) (by kernel_rfl) (by kernel_rfl) (fun _ _ _ h => h) (by rfl) (by assumption) ?_
              try simp only [Act.put, List.setIfInBounds_toArray, List.set_cons_zero, List.set_cons_succ]
              refine takeX 13 rfl (by kernel_rfl) (by kernel_rfl) (by kernel_rfl) (fun _ _ _ h => h) (by rfl) (by assumption) ?_
              try simp only [Act.put, List.setIfInBounds_toArray, List.set_cons_zero, List.set_cons_succ]
              refine takeX 14 rfl (by kernel_rfl) (by kernel_rfl) (by kernel_rfl) (fun _ _ _ h => h) (by rfl) (by assumption) ?_
              try simp only [Act.put, List.setIfInBounds_toArray, List.set_cons_zero, List.set_cons_succ]
              refine takeX 15 rfl (by kernel_rfl) (by kernel_rfl) (by kernel_rfl) (fun _ _ _ h => h) (by rfl) (by assumption) ?_
              try simp only [Act.put, List.setIfInBounds_toArray, List.set_cons_zero, List.set_cons_succ]
              refine takeX 16 rfl (by kernel_rfl) (by kernel_rfl) (by kernel_rfl) (fun _ _ _ h => h) (by rfl) (by assumption) ?_
              try simp only [Act.put, List.setIfInBounds_toArray, List.set_cons_zero, List.set_cons_succ]
              refine takeW 17 (v := ?v11) rfl (by kernel_rfl) (by kernel_rfl) (by kernel_rfl) (fun _ _ _ h => h) (by rfl) (by assumption) ?hy11 ?rest11
              case hy11 => intro w' hSw; (try dsimp only at hSw); go_simp; try with_reducible rfl
              try simp only [Act.put, List.setIfInBounds_toArray, List.set_cons_zero, List.set_cons_succ]
              refine takeW 18 (v := ?v12) rfl (by kernel_rfl) (by kernel_rfl) (by kernel_rfl) (fun _ _ _ h => h) (by rfl) (by assumption) ?hy12 ?rest12
              case hy12 => intro w' hSw; (try dsimp only at hSw); go_simp; try with_reducible rfl
              try simp only [Act.put, List.setIfInBounds_toArray, List.set_cons_zero, List.set_cons_succ]
              refine wpAnyH_done (by kernel_rfl) ?_ _
              have hB2 := below_one hBW (below_one ((Below.refl _ W).alloc (Nat.le_refl _) _) (below_drew1 hB1))
              clear hcn hcb hB1 hHeld
              go_wp2
              go_roundw
              case rel => first | exact ⟨n + 1, by omega, by go_num, HR.out, hB2⟩ | ((repeat apply Exists.intro); exact ⟨⟨n + 1, by omega, by go_num, HR.out, hB2⟩, rfl⟩)
              case measure => simp [intOf]; omega
          · obtain ⟨m, rfl⟩ : ∃ m, n = m + 1 := ⟨n - 1, by omega⟩
            have hltm : m < ks.length := by omega
            obtain ⟨b', off', he, _, _, _, p1, _, _, _⟩ := (hr.below hB).at hltm
            cases he
            have HA := hid (lkAt_succ hlt)
            generalize ks[m + 1] = k at *
            generalize ks[m] = p at *
            have hs1 : k.who.size ≤ 1048576 := hz.1
            have hs2 : k.to.size ≤ 1048576 := hz.2
            have hw1 : IntKind.i64.wrap (m : Int) = (m : Int) := by rw [IntKind.wrap_i64]; omega
            have hw2 : (m : Int) < (ks.length : Int) := by omega
            cases hg : k.good
            · have HR := hid (HBd.out (by rw [HA.out, hg]; rfl))
              go_wp2_with fail
              refine (hopOf_any k _).mono ?_
              rintro e W ⟨rfl, hW⟩
              have hBW := below_one hB (below_one ((Below.refl _ wr).alloc (Nat.le_refl _) _) hW)
              have hb1 : b < W.heap.size := by have := hW.size; simp at this; omega
              have p2 := (hW.cell (p := ⟨b, off + m * 5 + 1, none⟩) (by simp; omega)).trans ((((Below.refl _ wr).alloc (Nat.le_refl _) _).cell (p := ⟨b, off + m * 5 + 1, none⟩) hb).trans p1)
              clear hW q0 q1 q2 q3 q4 p1
              go_wp2_with fail
              refine wp_region_held_drew (S := fun w' => w'.cell? ⟨W.heap.size, 0, none⟩ = some (.string k.who) ∧ w'.cell? ⟨W.heap.size, 1, none⟩ = some (.string k.to) ∧ w'.cell? ⟨W.heap.size, 2, none⟩ = some (.int .i64 k.fr) ∧ w'.cell? ⟨W.heap.size, 3, none⟩ = some (.int .i64 k.un) ∧ w'.cell? ⟨W.heap.size, 4, none⟩ = some (.int .i64 k.se) ∧ w'.cell? ⟨b, off + m * 5 + 1, none⟩ = some (.string p.to)) (by kernel_rfl) ?_ (fun hHeld => ?_)
              · go_keep
              refine takeW 0 (v := ?v13) rfl (by kernel_rfl) (by kernel_rfl) (by kernel_rfl) (fun _ _ _ h => h) (by rfl) (by assumption) ?hy13 ?rest13
              case hy13 => intro w' hSw; (try dsimp only at hSw); go_simp; try with_reducible rfl
              try simp only [Act.put, List.setIfInBounds_toArray, List.set_cons_zero, List.set_cons_succ]
              refine takeC 1 (by kernel_rfl) rfl (fun K hK => ?_)
              go_simp
              refine (hopGood_any k _ hs1 hs2).mono ?_; rintro e w1 ⟨he1, hB1⟩; rw [hg] at he1; subst he1; have hcn := fun o => hB1.cell (p := ⟨W.heap.size, o, none⟩) (by simp); have hcb := fun o => cell_old hB1 (b := b) (i := o) hb1
              refine hK.out _ _ ?_ (fun hHeld => ?_)
              · go_keep
              clear hK K
              try simp only [Act.put, List.setIfInBounds_toArray, List.set_cons_zero, List.set_cons_succ]
              refine takeW 2 (v := ?v14) rfl (by kernel_rfl) (by kernel_rfl) (by kernel_rfl) (fun _ _ _ h => h) (by rfl) (by assumption) ?hy14 ?rest14
              case hy14 => intro w' hSw; (try dsimp only at hSw); go_simp; try with_reducible rfl
              try simp only [Act.put, List.setIfInBounds_toArray, List.set_cons_zero, List.set_cons_succ]
              refine takeW 3 (v := ?v15) rfl (by kernel_rfl) (by kernel_rfl) (by kernel_rfl) (fun _ _ _ h => h) (by rfl) (by assumption) ?hy15 ?rest15
              case hy15 => intro w' hSw; (try dsimp only at hSw); go_simp; try with_reducible rfl
              try simp only [Act.put, List.setIfInBounds_toArray, List.set_cons_zero, List.set_cons_succ]
              refine takeX 4 rfl (by kernel_rfl) (by kernel_rfl) (by kernel_rfl) (fun _ _ _ h => h) (by rfl) (by assumption) ?_
              try simp only [Act.put, List.setIfInBounds_toArray, List.set_cons_zero, List.set_cons_succ]
              refine takeX 5 rfl (by kernel_rfl) (by kernel_rfl) (by kernel_rfl) (fun _ _ _ h => h) (by rfl) (by assumption) ?_
              try simp only [Act.put, List.setIfInBounds_toArray, List.set_cons_zero, List.set_cons_succ]
              refine takeX 6 rfl (by kernel_rfl) (by kernel_rfl) (by kernel_rfl) (fun _ _ _ h => h) (by rfl) (by assumption) ?_
              try simp only [Act.put, List.setIfInBounds_toArray, List.set_cons_zero, List.set_cons_succ]
              refine takeX 7 rfl (by kernel_rfl) (by kernel_rfl) (by kernel_rfl) (fun _ _ _ h => h) (by rfl) (by assumption) ?_
              try simp only [Act.put, List.setIfInBounds_toArray, List.set_cons_zero, List.set_cons_succ]
              refine takeX 8 rfl (by kernel_rfl) (by kernel_rfl) (by kernel_rfl) (fun _ _ _ h => h) (by rfl) (by assumption) ?_
              try simp only [Act.put, List.setIfInBounds_toArray, List.set_cons_zero, List.set_cons_succ]
              refine takeX 9 rfl (by kernel_rfl) (by kernel_rfl) (by kernel_rfl) (fun _ _ _ h => h) (by rfl) (by assumption) ?_
              try simp only [Act.put, List.setIfInBounds_toArray, List.set_cons_zero, List.set_cons_succ]
              refine takeX 10 rfl (by kernel_rfl) (by kernel_rfl) (by kernel_rfl) (fun _ _ _ h => h) (by rfl) (by assumption) ?_
              try simp only [Act.put, List.setIfInBounds_toArray, List.set_cons_zero, List.set_cons_succ]
              refine takeX 11 rfl (by kernel_rfl) (by kernel_rfl) (by kernel_rfl) (fun _ _ _ h => h) (by rfl) (by assumption) ?_
              try simp only [Act.put, List.setIfInBounds_toArray, List.set_cons_zero, List.set_cons_succ]
              refine takeX 12 rfl (by kernel_rfl) (by kernel_rfl) (by kernel_rfl) (fun _ _ _ h => h) (by rfl) (by assumption) ?_
              try simp only [Act.put, List.setIfInBounds_toArray, List.set_cons_zero, List.set_cons_succ]
              refine takeX 13 rfl (by kernel_rfl) (by kernel_rfl) (by kernel_rfl) (fun _ _ _ h => h) (by rfl) (by assumption) ?_
              try simp only [Act.put, List.setIfInBounds_toArray, List.set_cons_zero, List.set_cons_succ]
              refine takeX 14 rfl (by kernel_rfl) (by kernel_rfl) (by kernel_rfl) (fun _ _ _ h => h) (by rfl) (by assumption) ?_
              try simp only [Act.put, List.setIfInBounds_toArray, List.set_cons_zero, List.set_cons_succ]
              refine takeX 15 rfl (by kernel_rfl) (by kernel_rfl) (by kernel_rfl) (fun _ _ _ h => h) (by rfl) (by assumption) ?_
              try simp only [Act.put, List.setIfInBounds_toArray, List.set_cons_zero, List.set_cons_succ]
              refine takeX 16 rfl (by kernel_rfl) (by kernel_rfl) (by kernel_rfl) (fun _ _ _ h => h) (by rfl) (by assumption) ?_
              try simp only [Act.put, List.setIfInBounds_toArray, List.set_cons_zero, List.set_cons_succ]
              refine takeX 17 rfl (by kernel_rfl) (by kernel_rfl) (by kernel_rfl) (fun _ _ _ h => h) (by rfl) (by assumption) ?_
              try simp only [Act.put, List.setIfInBounds_toArray, List.set_cons_zero, List.set_cons_succ]
              refine takeW 18 (v := ?v16) rfl (by kernel_rfl) (by kernel_rfl) (by kernel_rfl) (fun _ _ _ h => h) (by rfl) (by assumption) ?hy16 ?rest16
              case hy16 => intro w' hSw; (try dsimp only at hSw); go_simp; try with_reducible rfl
              try simp only [Act.put, List.setIfInBounds_toArray, List.set_cons_zero, List.set_cons_succ]
              refine wpAnyH_done (by kernel_rfl) ?_ _
              have hB2 := below_one hBW (below_one ((Below.refl _ W).alloc (Nat.le_refl _) _) (below_drew1 hB1))
              clear hcn hcb hB1 hHeld
              go_wp2
              go_ret
              exact ⟨ret_bool HR.out.symm, hB2⟩
            · cases he : (p.to.toList == k.who.toList)
              · have he2 : (k.who.toList == p.to.toList) = false := by rw [← he]; exact Bool.beq_comm
                have HR := hid (HBd.out (by rw [HA.out, hg, he]; rfl))
                go_wp2_with fail
                refine (hopOf_any k _).mono ?_
                rintro e W ⟨rfl, hW⟩
                have hBW := below_one hB (below_one ((Below.refl _ wr).alloc (Nat.le_refl _) _) hW)
                have hb1 : b < W.heap.size := by have := hW.size; simp at this; omega
                have p2 := (hW.cell (p := ⟨b, off + m * 5 + 1, none⟩) (by simp; omega)).trans ((((Below.refl _ wr).alloc (Nat.le_refl _) _).cell (p := ⟨b, off + m * 5 + 1, none⟩) hb).trans p1)
                clear hW q0 q1 q2 q3 q4 p1
                go_wp2_with fail
                refine wp_region_held_drew (S := fun w' => w'.cell? ⟨W.heap.size, 0, none⟩ = some (.string k.who) ∧ w'.cell? ⟨W.heap.size, 1, none⟩ = some (.string k.to) ∧ w'.cell? ⟨W.heap.size, 2, none⟩ = some (.int .i64 k.fr) ∧ w'.cell? ⟨W.heap.size, 3, none⟩ = some (.int .i64 k.un) ∧ w'.cell? ⟨W.heap.size, 4, none⟩ = some (.int .i64 k.se) ∧ w'.cell? ⟨b, off + m * 5 + 1, none⟩ = some (.string p.to)) (by kernel_rfl) ?_ (fun hHeld => ?_)
                · go_keep
                refine takeW 0 (v := ?v17) rfl (by kernel_rfl) (by kernel_rfl) (by kernel_rfl) (fun _ _ _ h => h) (by rfl) (by assumption) ?hy17 ?rest17
                case hy17 => intro w' hSw; (try dsimp only at hSw); go_simp; try with_reducible rfl
                try simp only [Act.put, List.setIfInBounds_toArray, List.set_cons_zero, List.set_cons_succ]
                refine takeC 1 (by kernel_rfl) rfl (fun K hK => ?_)
                go_simp
                refine (hopGood_any k _ hs1 hs2).mono ?_; rintro e w1 ⟨he1, hB1⟩; rw [hg] at he1; subst he1; have hcn := fun o => hB1.cell (p := ⟨W.heap.size, o, none⟩) (by simp); have hcb := fun o => cell_old hB1 (b := b) (i := o) hb1
                refine hK.out _ _ ?_ (fun hHeld => ?_)
                · go_keep
                clear hK K
                try simp only [Act.put, List.setIfInBounds_toArray, List.set_cons_zero, List.set_cons_succ]
                refine takeW 2 (v := ?v18) rfl (by kernel_rfl) (by kernel_rfl) (by kernel_rfl) (fun _ _ _ h => h) (by rfl) (by assumption) ?hy18 ?rest18
                case hy18 => intro w' hSw; (try dsimp only at hSw); go_simp; try with_reducible rfl
                try simp only [Act.put, List.setIfInBounds_toArray, List.set_cons_zero, List.set_cons_succ]
                refine takeW 3 (v := ?v19) rfl (by kernel_rfl) (by kernel_rfl) (by kernel_rfl) (fun _ _ _ h => h) (by rfl) (by assumption) ?hy19 ?rest19
                case hy19 => intro w' hSw; (try dsimp only at hSw); go_simp; try with_reducible rfl
                try simp only [Act.put, List.setIfInBounds_toArray, List.set_cons_zero, List.set_cons_succ]
                refine takeW 4 (v := ?v20) rfl (by kernel_rfl) (by kernel_rfl) (by kernel_rfl) (fun _ _ _ h => h) (by rfl) (by assumption) ?hy20 ?rest20
                case hy20 => intro w' hSw; (try dsimp only at hSw); go_simp; try with_reducible rfl
                try simp only [Act.put, List.setIfInBounds_toArray, List.set_cons_zero, List.set_cons_succ]
                refine takeW 5 (v := ?v21) rfl (by kernel_rfl) (by kernel_rfl) (by kernel_rfl) (fun _ _ _ h => h) (by rfl) (by assumption) ?hy21 ?rest21
                case hy21 => intro w' hSw; (try dsimp only at hSw); go_simp; try with_reducible rfl
                try simp only [Act.put, List.setIfInBounds_toArray, List.set_cons_zero, List.set_cons_succ]
                refine takeW 6 (v := ?v22) rfl (by kernel_rfl) (by kernel_rfl) (by kernel_rfl) (fun _ _ _ h => h) (by rfl) (by assumption) ?hy22 ?rest22
                case hy22 => intro w' hSw; (try dsimp only at hSw); go_simp; try with_reducible rfl
                try simp only [Act.put, List.setIfInBounds_toArray, List.set_cons_zero, List.set_cons_succ]
                refine takeW 7 (v := ?v23) rfl (by kernel_rfl) (by kernel_rfl) (by kernel_rfl) (fun _ _ _ h => h) (by rfl) (by assumption) ?hy23 ?rest23
                case hy23 => intro w' hSw; (try dsimp only at hSw); go_simp; try with_reducible rfl
                try simp only [Act.put, List.setIfInBounds_toArray, List.set_cons_zero, List.set_cons_succ]
                refine takeW 8 (v := ?v24) rfl (by kernel_rfl) (by kernel_rfl) (by kernel_rfl) (fun _ _ _ h => h) (by rfl) (by assumption) ?hy24 ?rest24
                case hy24 => intro w' hSw; (try dsimp only at hSw); go_simp; try with_reducible rfl
                try simp only [Act.put, List.setIfInBounds_toArray, List.set_cons_zero, List.set_cons_succ]
                refine takeW 9 (v := ?v25) rfl (by kernel_rfl) (by kernel_rfl) (by kernel_rfl) (fun _ _ _ h => h) (by rfl) (by assumption) ?hy25 ?rest25
                case hy25 => intro w' hSw; (try dsimp only at hSw); go_simp; try with_reducible rfl
                try simp only [Act.put, List.setIfInBounds_toArray, List.set_cons_zero, List.set_cons_succ]
                refine takeW 10 (v := ?v26) rfl (by kernel_rfl) (by kernel_rfl) (by kernel_rfl) (fun _ _ _ h => h) (by rfl) (by assumption) ?hy26 ?rest26
                case hy26 => intro w' hSw; (try dsimp only at hSw); go_simp; try with_reducible rfl
                try simp only [Act.put, List.setIfInBounds_toArray, List.set_cons_zero, List.set_cons_succ]
                refine takeW 11 (v := ?v27) rfl (by kernel_rfl) (by kernel_rfl) (by kernel_rfl) (fun _ _ _ h => h) (by rfl) (by assumption) ?hy27 ?rest27
                case hy27 => intro w' hSw; (try dsimp only at hSw); go_simp; try with_reducible rfl
                try simp only [Act.put, List.setIfInBounds_toArray, List.set_cons_zero, List.set_cons_succ]
                refine takeW 12 (v := ?v28) rfl (by kernel_rfl) (by kernel_rfl) (by kernel_rfl) (fun _ _ _ h => h) (by rfl) (by assumption) ?hy28 ?rest28
                case hy28 => intro w' hSw; (try dsimp only at hSw); go_simp; try with_reducible rfl
                try simp only [Act.put, List.setIfInBounds_toArray, List.set_cons_zero, List.set_cons_succ]
                refine takeW 13 (v := ?v29) rfl (by kernel_rfl) (by kernel_rfl) (by kernel_rfl) (fun _ _ _ h => h) (by rfl) (by assumption) ?hy29 ?rest29
                case hy29 => intro w' hSw; (try dsimp only at hSw); go_simp; try with_reducible rfl
                try simp only [Act.put, List.setIfInBounds_toArray, List.set_cons_zero, List.set_cons_succ]
                refine takeW 14 (v := ?v30) rfl (by kernel_rfl) (by kernel_rfl) (by kernel_rfl) (fun _ _ _ h => h) (by rfl) (by assumption) ?hy30 ?rest30
                case hy30 => intro w' hSw; (try dsimp only at hSw); go_simp; try with_reducible rfl
                try simp only [Act.put, List.setIfInBounds_toArray, List.set_cons_zero, List.set_cons_succ]
                refine takeW 15 (v := ?v31) rfl (by kernel_rfl) (by kernel_rfl) (by kernel_rfl) (fun _ _ _ h => h) (by rfl) (by assumption) ?hy31 ?rest31
                case hy31 => intro w' hSw; (try dsimp only at hSw); go_simp; try with_reducible rfl
                try simp only [Act.put, List.setIfInBounds_toArray, List.set_cons_zero, List.set_cons_succ]
                refine takeW 16 (v := ?v32) rfl (by kernel_rfl) (by kernel_rfl) (by kernel_rfl) (fun _ _ _ h => h) (by rfl) (by assumption) ?hy32 ?rest32
                case hy32 => intro w' hSw; (try dsimp only at hSw); go_simp; try with_reducible rfl
                try simp only [Act.put, List.setIfInBounds_toArray, List.set_cons_zero, List.set_cons_succ]
                refine takeW 17 (v := ?v33) rfl (by kernel_rfl) (by kernel_rfl) (by kernel_rfl) (fun _ _ _ h => h) (by rfl) (by assumption) ?hy33 ?rest33
                case hy33 => intro w' hSw; (try dsimp only at hSw); go_simp; try with_reducible rfl
                try simp only [Act.put, List.setIfInBounds_toArray, List.set_cons_zero, List.set_cons_succ]
                refine takeW 18 (v := ?v34) rfl (by kernel_rfl) (by kernel_rfl) (by kernel_rfl) (fun _ _ _ h => h) (by rfl) (by assumption) ?hy34 ?rest34
                case hy34 => intro w' hSw; (try dsimp only at hSw); go_simp; try with_reducible rfl
                try simp only [Act.put, List.setIfInBounds_toArray, List.set_cons_zero, List.set_cons_succ]
                refine wpAnyH_done (by kernel_rfl) ?_ _
                have hB2 := below_one hBW (below_one ((Below.refl _ W).alloc (Nat.le_refl _) _) (below_drew1 hB1))
                clear hcn hcb hB1 hHeld
                go_wp2
                go_ret
                exact ⟨ret_bool HR.out.symm, hB2⟩
              · have he2 : (k.who.toList == p.to.toList) = true := by rw [← he]; exact Bool.beq_comm
                have HR := hid (show tkTo ks (m + 1 + 1) = true by rw [HS.out, HT.out, HA.out, hg, he]; rfl)
                go_wp2_with fail
                refine (hopOf_any k _).mono ?_
                rintro e W ⟨rfl, hW⟩
                have hBW := below_one hB (below_one ((Below.refl _ wr).alloc (Nat.le_refl _) _) hW)
                have hb1 : b < W.heap.size := by have := hW.size; simp at this; omega
                have p2 := (hW.cell (p := ⟨b, off + m * 5 + 1, none⟩) (by simp; omega)).trans ((((Below.refl _ wr).alloc (Nat.le_refl _) _).cell (p := ⟨b, off + m * 5 + 1, none⟩) hb).trans p1)
                clear hW q0 q1 q2 q3 q4 p1
                go_wp2_with fail
                refine wp_region_held_drew (S := fun w' => w'.cell? ⟨W.heap.size, 0, none⟩ = some (.string k.who) ∧ w'.cell? ⟨W.heap.size, 1, none⟩ = some (.string k.to) ∧ w'.cell? ⟨W.heap.size, 2, none⟩ = some (.int .i64 k.fr) ∧ w'.cell? ⟨W.heap.size, 3, none⟩ = some (.int .i64 k.un) ∧ w'.cell? ⟨W.heap.size, 4, none⟩ = some (.int .i64 k.se) ∧ w'.cell? ⟨b, off + m * 5 + 1, none⟩ = some (.string p.to)) (by kernel_rfl) ?_ (fun hHeld => ?_)
                · go_keep
                refine takeW 0 (v := ?v35) rfl (by kernel_rfl) (by kernel_rfl) (by kernel_rfl) (fun _ _ _ h => h) (by rfl) (by assumption) ?hy35 ?rest35
                case hy35 => intro w' hSw; (try dsimp only at hSw); go_simp; try with_reducible rfl
                try simp only [Act.put, List.setIfInBounds_toArray, List.set_cons_zero, List.set_cons_succ]
                refine takeC 1 (by kernel_rfl) rfl (fun K hK => ?_)
                go_simp
                refine (hopGood_any k _ hs1 hs2).mono ?_; rintro e w1 ⟨he1, hB1⟩; rw [hg] at he1; subst he1; have hcn := fun o => hB1.cell (p := ⟨W.heap.size, o, none⟩) (by simp); have hcb := fun o => cell_old hB1 (b := b) (i := o) hb1
                refine hK.out _ _ ?_ (fun hHeld => ?_)
                · go_keep
                clear hK K
                try simp only [Act.put, List.setIfInBounds_toArray, List.set_cons_zero, List.set_cons_succ]
                refine takeW 2 (v := ?v36) rfl (by kernel_rfl) (by kernel_rfl) (by kernel_rfl) (fun _ _ _ h => h) (by rfl) (by assumption) ?hy36 ?rest36
                case hy36 => intro w' hSw; (try dsimp only at hSw); go_simp; try with_reducible rfl
                try simp only [Act.put, List.setIfInBounds_toArray, List.set_cons_zero, List.set_cons_succ]
                refine takeW 3 (v := ?v37) rfl (by kernel_rfl) (by kernel_rfl) (by kernel_rfl) (fun _ _ _ h => h) (by rfl) (by assumption) ?hy37 ?rest37
                case hy37 => intro w' hSw; (try dsimp only at hSw); go_simp; try with_reducible rfl
                try simp only [Act.put, List.setIfInBounds_toArray, List.set_cons_zero, List.set_cons_succ]
                refine takeW 4 (v := ?v38) rfl (by kernel_rfl) (by kernel_rfl) (by kernel_rfl) (fun _ _ _ h => h) (by rfl) (by assumption) ?hy38 ?rest38
                case hy38 => intro w' hSw; (try dsimp only at hSw); go_simp; try with_reducible rfl
                try simp only [Act.put, List.setIfInBounds_toArray, List.set_cons_zero, List.set_cons_succ]
                refine takeW 5 (v := ?v39) rfl (by kernel_rfl) (by kernel_rfl) (by kernel_rfl) (fun _ _ _ h => h) (by rfl) (by assumption) ?hy39 ?rest39
                case hy39 => intro w' hSw; (try dsimp only at hSw); go_simp; try with_reducible rfl
                try simp only [Act.put, List.setIfInBounds_toArray, List.set_cons_zero, List.set_cons_succ]
                refine takeW 6 (v := ?v40) rfl (by kernel_rfl) (by kernel_rfl) (by kernel_rfl) (fun _ _ _ h => h) (by rfl) (by assumption) ?hy40 ?rest40
                case hy40 => intro w' hSw; (try dsimp only at hSw); go_simp; try with_reducible rfl
                try simp only [Act.put, List.setIfInBounds_toArray, List.set_cons_zero, List.set_cons_succ]
                refine takeW 7 (v := ?v41) rfl (by kernel_rfl) (by kernel_rfl) (by kernel_rfl) (fun _ _ _ h => h) (by rfl) (by assumption) ?hy41 ?rest41
                case hy41 => intro w' hSw; (try dsimp only at hSw); go_simp; try with_reducible rfl
                try simp only [Act.put, List.setIfInBounds_toArray, List.set_cons_zero, List.set_cons_succ]
                refine takeW 8 (v := ?v42) rfl (by kernel_rfl) (by kernel_rfl) (by kernel_rfl) (fun _ _ _ h => h) (by rfl) (by assumption) ?hy42 ?rest42
                case hy42 => intro w' hSw; (try dsimp only at hSw); go_simp; try with_reducible rfl
                try simp only [Act.put, List.setIfInBounds_toArray, List.set_cons_zero, List.set_cons_succ]
                refine takeW 9 (v := ?v43) rfl (by kernel_rfl) (by kernel_rfl) (by kernel_rfl) (fun _ _ _ h => h) (by rfl) (by assumption) ?hy43 ?rest43
                case hy43 => intro w' hSw; (try dsimp only at hSw); go_simp; try with_reducible rfl
                try simp only [Act.put, List.setIfInBounds_toArray, List.set_cons_zero, List.set_cons_succ]
                refine takeW 10 (v := ?v44) rfl (by kernel_rfl) (by kernel_rfl) (by kernel_rfl) (fun _ _ _ h => h) (by rfl) (by assumption) ?hy44 ?rest44
                case hy44 => intro w' hSw; (try dsimp only at hSw); go_simp; try with_reducible rfl
                try simp only [Act.put, List.setIfInBounds_toArray, List.set_cons_zero, List.set_cons_succ]
                refine takeW 11 (v := ?v45) rfl (by kernel_rfl) (by kernel_rfl) (by kernel_rfl) (fun _ _ _ h => h) (by rfl) (by assumption) ?hy45 ?rest45
                case hy45 => intro w' hSw; (try dsimp only at hSw); go_simp; try with_reducible rfl
                try simp only [Act.put, List.setIfInBounds_toArray, List.set_cons_zero, List.set_cons_succ]
                refine takeW 12 (v := ?v46) rfl (by kernel_rfl) (by kernel_rfl) (by kernel_rfl) (fun _ _ _ h => h) (by rfl) (by assumption) ?hy46 ?rest46
                case hy46 => intro w' hSw; (try dsimp only at hSw); go_simp; try with_reducible rfl
                try simp only [Act.put, List.setIfInBounds_toArray, List.set_cons_zero, List.set_cons_succ]
                refine takeW 13 (v := ?v47) rfl (by kernel_rfl) (by kernel_rfl) (by kernel_rfl) (fun _ _ _ h => h) (by rfl) (by assumption) ?hy47 ?rest47
                case hy47 => intro w' hSw; (try dsimp only at hSw); go_simp; try with_reducible rfl
                try simp only [Act.put, List.setIfInBounds_toArray, List.set_cons_zero, List.set_cons_succ]
                refine takeW 14 (v := ?v48) rfl (by kernel_rfl) (by kernel_rfl) (by kernel_rfl) (fun _ _ _ h => h) (by rfl) (by assumption) ?hy48 ?rest48
                case hy48 => intro w' hSw; (try dsimp only at hSw); go_simp; try with_reducible rfl
                try simp only [Act.put, List.setIfInBounds_toArray, List.set_cons_zero, List.set_cons_succ]
                refine takeW 15 (v := ?v49) rfl (by kernel_rfl) (by kernel_rfl) (by kernel_rfl) (fun _ _ _ h => h) (by rfl) (by assumption) ?hy49 ?rest49
                case hy49 => intro w' hSw; (try dsimp only at hSw); go_simp; try with_reducible rfl
                try simp only [Act.put, List.setIfInBounds_toArray, List.set_cons_zero, List.set_cons_succ]
                refine takeW 16 (v := ?v50) rfl (by kernel_rfl) (by kernel_rfl) (by kernel_rfl) (fun _ _ _ h => h) (by rfl) (by assumption) ?hy50 ?rest50
                case hy50 => intro w' hSw; (try dsimp only at hSw); go_simp; try with_reducible rfl
                try simp only [Act.put, List.setIfInBounds_toArray, List.set_cons_zero, List.set_cons_succ]
                refine takeW 17 (v := ?v51) rfl (by kernel_rfl) (by kernel_rfl) (by kernel_rfl) (fun _ _ _ h => h) (by rfl) (by assumption) ?hy51 ?rest51
                case hy51 => intro w' hSw; (try dsimp only at hSw); go_simp; try with_reducible rfl
                try simp only [Act.put, List.setIfInBounds_toArray, List.set_cons_zero, List.set_cons_succ]
                refine takeW 18 (v := ?v52) rfl (by kernel_rfl) (by kernel_rfl) (by kernel_rfl) (fun _ _ _ h => h) (by rfl) (by assumption) ?hy52 ?rest52
                case hy52 => intro w' hSw; (try dsimp only at hSw); go_simp; try with_reducible rfl
                try simp only [Act.put, List.setIfInBounds_toArray, List.set_cons_zero, List.set_cons_succ]
                refine wpAnyH_done (by kernel_rfl) ?_ _
                have hB2 := below_one hBW (below_one ((Below.refl _ W).alloc (Nat.le_refl _) _) (below_drew1 hB1))
                clear hcn hcb hB1 hHeld
                go_wp2
                go_roundw
                case rel => first | exact ⟨m + 1 + 1, by omega, by go_num, HR.out, hB2⟩ | ((repeat apply Exists.intro); exact ⟨⟨m + 1 + 1, by omega, by go_num, HR.out, hB2⟩, rfl⟩)
                case measure => simp [intOf]; omega
        · obtain rfl : n = ks.length := by omega
          have HR := hid (show tkB ks = true by rw [tk_end HT.out]; exact decide_eq_true ⟨c1, c2⟩)
          go_wp2
          go_ret
          exact ⟨ret_bool HR.out.symm, hB⟩
    · have HR := hid (show tkB ks = false from tk_len (by omega))
      have d1 : decide ((ks.length : Int) < 1) = false := by simp; omega
      have d2 : decide (6 < (ks.length : Int)) = true := by simp; omega
      go_enter Tryz.func113, Tryz.ntmps113
      go_wp2
      go_ret
      exact ⟨ret_bool HR.out.symm, Below.refl _ _⟩
  · have HR := hid (show tkB ks = false from tk_len (by omega))
    have d1 : decide ((ks.length : Int) < 1) = true := by simp; omega
    go_enter Tryz.func113, Tryz.ntmps113
    go_wp2
    go_ret
    exact ⟨ret_bool HR.out.symm, Below.refl _ _⟩

theorem implGoodToken_any (v : Value) (ks : List Lk) (w : World) (hm : ks.length ≤ 1048577) (hf : ∀ k ∈ ks, k.size ≤ 1048576) (hr : LkS w v ks) :
    Calls Tryz.prog 113 #[v] w fun e w' => e = .returned (.bool (tkB ks)) ∧ Below w.heap.size w w' :=
  implGoodToken_fit v ks w hm (fun k hk => by have := hf k hk; unfold Lk.size at this; omega) hr

end Go.Proofs.YtnbojbcljfiamaaGreatDoor

namespace Go.Proofs.YtnbojbcljfiamaaGreatDoor
open Go.RowKit Go.Shelf

/-- The library's table of powers of ten is as its text lays it. -/
def Tab (w : World) : Prop := Lib.TabIs Tryz.prog w "internal/strconv.uint64pow10" .u64 Lib.pow10Tab
theorem Tab.on {w w' : World} (h : Tab w) (hB : Below w.heap.size w w') : Tab w' := Lib.tabBelow_of_tabIs h w' hB
theorem Tab.on' {w w' : World} (h : Tab w) (hB : Below w.heap.size w.drew w') : Tab w' := h.on (below_drew1 hB)

theorem itoa_any (n : Int) (w : World) (h0 : -9223372036854775808 ≤ n) (h1 : n ≤ 9223372036854775807) (ht : Tab w) :
    Calls Tryz.prog 149 #[.int .i64 n] w fun e w' => e = .returned (.string (numT n)) ∧ Below w.heap.size w w' := by
  have h := Any.strconv_Itoa Tryz.lays171 n h0 h1 w ht
  refine h.mono ?_
  rintro e w' ⟨rfl, k, os, rfl⟩
  exact ⟨rfl, Lib.below_grow _ _ (Nat.le_refl _) k os⟩

end Go.Proofs.YtnbojbcljfiamaaGreatDoor

namespace Go.Proofs.YtnbojbcljfiamaaGreatDoor
open Go.RowKit Go.Shelf

theorem text_len (k : Lk) (h : k.good = true) : k.text.size ≤ k.size + 23 := by
  obtain ⟨_, _, h3, h4, h5, _⟩ := (Lk.good_iff k).1 h
  have a1 := (itoa_len6 (show 0 ≤ k.se by omega) (by omega)).2
  have a2 := (itoa_len6 (show 0 ≤ k.fr by omega) (by omega)).2
  have a3 := (itoa_len6 (show 0 ≤ k.un by omega) (by omega)).2
  unfold Lk.text Lk.size
  simp only [ByteArray.size_append, numT_size, show (⟨#[32]⟩ : ByteArray).size = 1 from rfl, show (⟨#[59]⟩ : ByteArray).size = 1 from rfl]
  omega
theorem tkT_size {ks : List Lk} (hg : ∀ k ∈ ks, k.good = true) (hf : ∀ k ∈ ks, k.size ≤ 1048576) : ∀ n, n ≤ ks.length → (tkT (ks.take n)).size ≤ n * 1048600
  | 0, _ => by simp [tkT, tkL]; rfl
  | n + 1, hn => by
    have ih := tkT_size hg hf n (by omega)
    have hm := List.getElem_mem (show n < ks.length by omega)
    have h1 := text_len ks[n] (hg _ hm)
    have h2 := hf _ hm
    rw [tkT_succ (by omega), ByteArray.size_append]
    omega

set_option maxHeartbeats 4000000 in
theorem l3Text_any (v : Value) (ks : List Lk) (w : World) (hm : ks.length ≤ 1048577) (hg : ∀ k ∈ ks, k.good = true) (hf : ∀ k ∈ ks, k.size ≤ 1048576) (hr : LkS w v ks) :
    Calls Tryz.prog 161 #[v] w fun e w' => e = .returned (.string (tkT ks)) ∧ Below w.heap.size w w' := by
  obtain ⟨a, cap, rfl⟩ := hr.len
  have HZ := hid (fun n hn => tkT_size hg hf n hn)
  go_enter Tryz.func161, Tryz.ntmps161
  go_wp2
  go_loopw [3, 8] (fun s i wr => ∃ n : Nat, n ≤ ks.length ∧ s = .string (tkT (ks.take n)) ∧ i = .int .i64 n ∧ Below w.heap.size w wr) (fun _ i _ => ks.length - (intOf i).toNat)
  case atStart => exact ⟨0, Nat.zero_le _, by rw [List.take_zero, tkT_nil], rfl, Below.refl _ _⟩
  case round =>
    obtain ⟨n, hn, rfl, rfl, hB⟩ := hrel
    by_cases hlt : n < ks.length
    · obtain ⟨b, off, rfl, hb, hcap, q0, q1, q2, q3, q4⟩ := (hr.below hB).at hlt
      have hz := hf ks[n] (List.getElem_mem hlt)
      obtain ⟨_, _, b3, b4, b5, _⟩ := (Lk.good_iff ks[n]).1 (hg ks[n] (List.getElem_mem hlt))
      have hs := HZ.out n hn
      have hs2 : n * 1048600 ≤ 2000000000000 := by omega
      have HT := hid (tkT_succ hlt)
      generalize ks[n] = k at *
      generalize tkT (ks.take n) = s at *
      have h1n := fun W => l1Num_any k.se W (by omega) (by omega)
      have h2n := fun W => l1Num_any k.fr W (by omega) (by omega)
      have h3n := fun W => l1Num_any k.un W (by omega) (by omega)
      have z1 := (itoa_len6 (show 0 ≤ k.se by omega) (by omega)).2
      have z2 := (itoa_len6 (show 0 ≤ k.fr by omega) (by omega)).2
      have z3 := (itoa_len6 (show 0 ≤ k.un by omega) (by omega)).2
      rw [← numT_size] at z1 z2 z3
      have HX := hid (show k.text = k.who ++ ⟨#[32]⟩ ++ k.to ++ ⟨#[32]⟩ ++ numT k.se ++ ⟨#[32]⟩ ++ numT k.fr ++ ⟨#[32]⟩ ++ numT k.un ++ ⟨#[59]⟩ from rfl)
      generalize numT k.se = x1 at *
      generalize numT k.fr = x2 at *
      generalize numT k.un = x3 at *
      unfold Lk.size at hz
      have g1 : ¬9223372036854775807 < k.who.size + 1 := by omega
      have g2 : ¬9223372036854775807 < k.who.size + 1 + k.to.size := by omega
      have g3 : ¬9223372036854775807 < k.who.size + 1 + k.to.size + 1 := by omega
      have g4 : ¬9223372036854775807 < k.who.size + 1 + k.to.size + 1 + x1.size := by omega
      have g5 : ¬9223372036854775807 < k.who.size + 1 + k.to.size + 1 + x1.size + 1 := by omega
      have g6 : ¬9223372036854775807 < k.who.size + 1 + k.to.size + 1 + x1.size + 1 + x2.size := by omega
      have g7 : ¬9223372036854775807 < k.who.size + 1 + k.to.size + 1 + x1.size + 1 + x2.size + 1 := by omega
      have g8 : ¬9223372036854775807 < k.who.size + 1 + k.to.size + 1 + x1.size + 1 + x2.size + 1 + x3.size := by omega
      have g9 : ¬9223372036854775807 < k.who.size + 1 + k.to.size + 1 + x1.size + 1 + x2.size + 1 + x3.size + 1 := by omega
      have g10 : ¬9223372036854775807 < s.size + (k.who.size + 1 + k.to.size + 1 + x1.size + 1 + x2.size + 1 + x3.size + 1) := by omega
      have hBa : Below w.heap.size w (wr.alloc (.cells #[.string k.who, .string k.to, .int .i64 k.se, .int .i64 k.fr, .int .i64 k.un] 126)) := hB.alloc hB.size _
      go_wp2_with fail
      refine wp_region_held_drew (S := fun w' => w'.cell? ⟨wr.heap.size, 0, none⟩ = some (.string k.who) ∧ w'.cell? ⟨wr.heap.size, 1, none⟩ = some (.string k.to) ∧ w'.cell? ⟨wr.heap.size, 2, none⟩ = some (.int .i64 k.se) ∧ w'.cell? ⟨wr.heap.size, 3, none⟩ = some (.int .i64 k.fr) ∧ w'.cell? ⟨wr.heap.size, 4, none⟩ = some (.int .i64 k.un)) (by kernel_rfl) ?_ (fun hHeld => ?_)
      · go_keep
      refine takeW 0 (v := ?v1) rfl (by kernel_rfl) (by kernel_rfl) (by kernel_rfl) (fun _ _ _ h => h) (by rfl) (by assumption) ?hy1 ?rest1
      case hy1 => intro w' hSw; (try dsimp only at hSw); go_simp; try with_reducible rfl
      try simp only [Act.put, List.setIfInBounds_toArray, List.set_cons_zero, List.set_cons_succ]
      refine takeW 1 (v := ?v2) rfl (by kernel_rfl) (by kernel_rfl) (by kernel_rfl) (fun _ _ _ h => h) (by rfl) (by assumption) ?hy2 ?rest2
      case hy2 => intro w' hSw; (try dsimp only at hSw); go_simp; try with_reducible rfl
      try simp only [Act.put, List.setIfInBounds_toArray, List.set_cons_zero, List.set_cons_succ]
      refine takeW 2 (v := ?v3) rfl (by kernel_rfl) (by kernel_rfl) (by kernel_rfl) (fun _ _ _ h => h) (by rfl) (by assumption) ?hy3 ?rest3
      case hy3 => intro w' hSw; (try dsimp only at hSw); go_simp; try with_reducible rfl
      try simp only [Act.put, List.setIfInBounds_toArray, List.set_cons_zero, List.set_cons_succ]
      refine takeW 3 (v := ?v4) rfl (by kernel_rfl) (by kernel_rfl) (by kernel_rfl) (fun _ _ _ h => h) (by rfl) (by assumption) ?hy4 ?rest4
      case hy4 => intro w' hSw; (try dsimp only at hSw); go_simp; try with_reducible rfl
      try simp only [Act.put, List.setIfInBounds_toArray, List.set_cons_zero, List.set_cons_succ]
      refine takeW 4 (v := ?v5) rfl (by kernel_rfl) (by kernel_rfl) (by kernel_rfl) (fun _ _ _ h => h) (by rfl) (by assumption) ?hy5 ?rest5
      case hy5 => intro w' hSw; (try dsimp only at hSw); go_simp; try with_reducible rfl
      try simp only [Act.put, List.setIfInBounds_toArray, List.set_cons_zero, List.set_cons_succ]
      refine takeW 5 (v := ?v6) rfl (by kernel_rfl) (by kernel_rfl) (by kernel_rfl) (fun _ _ _ h => h) (by rfl) (by assumption) ?hy6 ?rest6
      case hy6 => intro w' hSw; (try dsimp only at hSw); go_simp; try with_reducible rfl
      try simp only [Act.put, List.setIfInBounds_toArray, List.set_cons_zero, List.set_cons_succ]
      refine takeW 6 (v := ?v7) rfl (by kernel_rfl) (by kernel_rfl) (by kernel_rfl) (fun _ _ _ h => h) (by rfl) (by assumption) ?hy7 ?rest7
      case hy7 => intro w' hSw; (try dsimp only at hSw); go_simp; try with_reducible rfl
      try simp only [Act.put, List.setIfInBounds_toArray, List.set_cons_zero, List.set_cons_succ]
      refine takeW 7 (v := ?v8) rfl (by kernel_rfl) (by kernel_rfl) (by kernel_rfl) (fun _ _ _ h => h) (by rfl) (by assumption) ?hy8 ?rest8
      case hy8 => intro w' hSw; (try dsimp only at hSw); go_simp; try with_reducible rfl
      try simp only [Act.put, List.setIfInBounds_toArray, List.set_cons_zero, List.set_cons_succ]
      refine takeW 8 (v := ?v9) rfl (by kernel_rfl) (by kernel_rfl) (by kernel_rfl) (fun _ _ _ h => h) (by rfl) (by assumption) ?hy9 ?rest9
      case hy9 => intro w' hSw; (try dsimp only at hSw); go_simp; try with_reducible rfl
      try simp only [Act.put, List.setIfInBounds_toArray, List.set_cons_zero, List.set_cons_succ]
      refine takeW 9 (v := ?v10) rfl (by kernel_rfl) (by kernel_rfl) (by kernel_rfl) (fun _ _ _ h => h) (by rfl) (by assumption) ?hy10 ?rest10
      case hy10 => intro w' hSw; (try dsimp only at hSw); go_simp; try with_reducible rfl
      try simp only [Act.put, List.setIfInBounds_toArray, List.set_cons_zero, List.set_cons_succ]
      refine takeW 13 (v := ?v11) rfl (by kernel_rfl) (by kernel_rfl) (by kernel_rfl) (fun _ _ _ h => h) (by rfl) (by assumption) ?hy11 ?rest11
      case hy11 => intro w' hSw; (try dsimp only at hSw); go_simp; try with_reducible rfl
      try simp only [Act.put, List.setIfInBounds_toArray, List.set_cons_zero, List.set_cons_succ]
      refine takeW 14 (v := ?v12) rfl (by kernel_rfl) (by kernel_rfl) (by kernel_rfl) (fun _ _ _ h => h) (by rfl) (by assumption) ?hy12 ?rest12
      case hy12 => intro w' hSw; (try dsimp only at hSw); go_simp; try with_reducible rfl
      try simp only [Act.put, List.setIfInBounds_toArray, List.set_cons_zero, List.set_cons_succ]
      refine takeW 18 (v := ?v13) rfl (by kernel_rfl) (by kernel_rfl) (by kernel_rfl) (fun _ _ _ h => h) (by rfl) (by assumption) ?hy13 ?rest13
      case hy13 => intro w' hSw; (try dsimp only at hSw); go_simp; try with_reducible rfl
      try simp only [Act.put, List.setIfInBounds_toArray, List.set_cons_zero, List.set_cons_succ]
      refine takeW 19 (v := ?v14) rfl (by kernel_rfl) (by kernel_rfl) (by kernel_rfl) (fun _ _ _ h => h) (by rfl) (by assumption) ?hy14 ?rest14
      case hy14 => intro w' hSw; (try dsimp only at hSw); go_simp; try with_reducible rfl
      try simp only [Act.put, List.setIfInBounds_toArray, List.set_cons_zero, List.set_cons_succ]
      refine takeC 10 (by kernel_rfl) rfl (fun K hK => ?_)
      go_simp
      refine (h1n _).mono ?_; rintro e w1 ⟨rfl, hB1⟩; have hc1 := fun o => hB1.cell (p := ⟨wr.heap.size, o, none⟩) (by simp); have hz1 : wr.heap.size < w1.heap.size := by have := hB1.size; simp at this; omega
      refine hK.out _ _ ?_ (fun hHeld => ?_)
      · go_keep
      clear hK K
      try simp only [Act.put, List.setIfInBounds_toArray, List.set_cons_zero, List.set_cons_succ]
      refine takeW 11 (v := ?v15) rfl (by kernel_rfl) (by kernel_rfl) (by kernel_rfl) (fun _ _ _ h => h) (by rfl) (by assumption) ?hy15 ?rest15
      case hy15 => intro w' hSw; (try dsimp only at hSw); go_simp; try with_reducible rfl
      try simp only [Act.put, List.setIfInBounds_toArray, List.set_cons_zero, List.set_cons_succ]
      refine takeW 12 (v := ?v16) rfl (by kernel_rfl) (by kernel_rfl) (by kernel_rfl) (fun _ _ _ h => h) (by rfl) (by assumption) ?hy16 ?rest16
      case hy16 => intro w' hSw; (try dsimp only at hSw); go_simp; try with_reducible rfl
      try simp only [Act.put, List.setIfInBounds_toArray, List.set_cons_zero, List.set_cons_succ]
      refine takeC 15 (by kernel_rfl) rfl (fun K hK => ?_)
      go_simp
      refine (h2n _).mono ?_; rintro e w2 ⟨rfl, hB2⟩; have hc2 := fun o => hB2.cell (p := ⟨wr.heap.size, o, none⟩) hz1; have hz2 : wr.heap.size < w2.heap.size := by have := hB2.size; omega
      refine hK.out _ _ ?_ (fun hHeld => ?_)
      · go_keep
      clear hK K
      try simp only [Act.put, List.setIfInBounds_toArray, List.set_cons_zero, List.set_cons_succ]
      refine takeW 16 (v := ?v17) rfl (by kernel_rfl) (by kernel_rfl) (by kernel_rfl) (fun _ _ _ h => h) (by rfl) (by assumption) ?hy17 ?rest17
      case hy17 => intro w' hSw; (try dsimp only at hSw); go_simp; try with_reducible rfl
      try simp only [Act.put, List.setIfInBounds_toArray, List.set_cons_zero, List.set_cons_succ]
      refine takeW 17 (v := ?v18) rfl (by kernel_rfl) (by kernel_rfl) (by kernel_rfl) (fun _ _ _ h => h) (by rfl) (by assumption) ?hy18 ?rest18
      case hy18 => intro w' hSw; (try dsimp only at hSw); go_simp; try with_reducible rfl
      try simp only [Act.put, List.setIfInBounds_toArray, List.set_cons_zero, List.set_cons_succ]
      refine takeC 20 (by kernel_rfl) rfl (fun K hK => ?_)
      go_simp
      refine (h3n _).mono ?_; rintro e w3 ⟨rfl, hB3⟩; have hc3 := fun o => hB3.cell (p := ⟨wr.heap.size, o, none⟩) hz2; have hz3 : wr.heap.size < w3.heap.size := by have := hB3.size; omega
      refine hK.out _ _ ?_ (fun hHeld => ?_)
      · go_keep
      clear hK K
      try simp only [Act.put, List.setIfInBounds_toArray, List.set_cons_zero, List.set_cons_succ]
      refine takeW 21 (v := ?v19) rfl (by kernel_rfl) (by kernel_rfl) (by kernel_rfl) (fun _ _ _ h => h) (by rfl) (by assumption) ?hy19 ?rest19
      case hy19 => intro w' hSw; (try dsimp only at hSw); go_simp; try with_reducible rfl
      try simp only [Act.put, List.setIfInBounds_toArray, List.set_cons_zero, List.set_cons_succ]
      refine takeW 22 (v := ?v20) rfl (by kernel_rfl) (by kernel_rfl) (by kernel_rfl) (fun _ _ _ h => h) (by rfl) (by assumption) ?hy20 ?rest20
      case hy20 => intro w' hSw; (try dsimp only at hSw); go_simp; try with_reducible rfl
      try simp only [Act.put, List.setIfInBounds_toArray, List.set_cons_zero, List.set_cons_succ]
      refine takeW 23 (v := ?v21) rfl (by kernel_rfl) (by kernel_rfl) (by kernel_rfl) (fun _ _ _ h => h) (by rfl) (by assumption) ?hy21 ?rest21
      case hy21 => intro w' hSw; (try dsimp only at hSw); go_simp; try with_reducible rfl
      try simp only [Act.put, List.setIfInBounds_toArray, List.set_cons_zero, List.set_cons_succ]
      refine takeW 24 (v := ?v22) rfl (by kernel_rfl) (by kernel_rfl) (by kernel_rfl) (fun _ _ _ h => h) (by rfl) (by assumption) ?hy22 ?rest22
      case hy22 => intro w' hSw; (try dsimp only at hSw); go_simp; try with_reducible rfl
      try simp only [Act.put, List.setIfInBounds_toArray, List.set_cons_zero, List.set_cons_succ]
      refine wpAnyH_done (by kernel_rfl) ?_ _
      have hBB := below_one (below_two hBa (below_drew1 hB1) hB2) hB3
      go_wp2
      go_roundw
      case rel => first | exact ⟨n + 1, by omega, by rw [HT.out, HX.out], by go_num, hBB⟩ | ((repeat apply Exists.intro); exact ⟨⟨n + 1, by omega, by rw [HT.out, HX.out], by go_num, hBB⟩, rfl⟩)
      case measure => simp [intOf]; omega
    · obtain rfl : n = ks.length := by omega
      have HE := hid (show tkT (ks.take ks.length) = tkT ks by rw [List.take_length])
      go_wp2
      go_ret
      exact ⟨ret_str HE.out, hB⟩

theorem strs5 (k : Lk) : Lib.join ([k.who, k.to, numT k.se, numT k.fr, numT k.un].map (·.data.toList)) (⟨#[32]⟩ : ByteArray).data.toList = k.body := by
  simp [Lib.join, Lk.body, numT]
/-- The five words of a link put together. -/
theorem join5_any (k : Lk) (g : Nat) (w : World) (hs : k.size ≤ 1048576) (hg : k.good = true) (hlt : g < w.heap.size)
    (h0 : w.cell? ⟨g, 0, none⟩ = some (.string k.who)) (h1 : w.cell? ⟨g, 1, none⟩ = some (.string k.to)) (h2 : w.cell? ⟨g, 2, none⟩ = some (.string (numT k.se))) (h3 : w.cell? ⟨g, 3, none⟩ = some (.string (numT k.fr))) (h4 : w.cell? ⟨g, 4, none⟩ = some (.string (numT k.un))) :
    Calls Tryz.prog 151 #[.slice (some ⟨g, 0, none⟩) 5 5, .string ⟨#[32]⟩] w fun e w' => e = .returned (.string ⟨k.body.toArray⟩) ∧ Below w.heap.size w w' := by
  have hl : k.body.length ≤ 1048600 := by
    have := text_len k hg
    have h : k.text.size = k.body.length + 1 := by
      show k.text.data.size = _
      rw [← Array.length_toList, Lk.text_list]
      simp
    omega
  have h := Any.strings_Join Tryz.lays156 Tryz.Builder_Extra_156 g 0 5 [k.who, k.to, numT k.se, numT k.fr, numT k.un] ⟨#[32]⟩ w (by
    intro j x hx
    match j, hx with
    | 0, hx => simp at hx; subst hx; simpa using h0
    | 1, hx => simp at hx; subst hx; simpa using h1
    | 2, hx => simp at hx; subst hx; simpa using h2
    | 3, hx => simp at hx; subst hx; simpa using h3
    | 4, hx => simp at hx; subst hx; simpa using h4
    | j + 5, hx => simp at hx) hlt (by simp) (by simp) (by rw [strs5]; omega)
  rw [strs5] at h
  exact h

/-- The builder as it is made. -/
theorem built_new3 (w : World) : Lib.IsBuilder 206 5 w.heap.size w.heap.size [] (w.alloc (.cells #[.pointer none, .slice none 0 0] 206)) :=
  .inl ⟨Nat.le_refl _, .slice none 0 0, by show (w.heap.push _)[w.heap.size]? = some _; simp, World.ownsRow_nil _ _ _ _, by simp [Value.ownBlock]⟩
theorem cells_link (k : Lk) (l : List UInt8) : (Lib.byteCells l ++ Lib.strCells ⟨k.body.toArray⟩) ++ [.int .u8 59] = Lib.byteCells (l ++ k.text.data.toList) := by
  rw [Lib.strCells_eq, Lk.text_list, Lib.byteCells_append, Lib.byteCells_append, List.append_assoc]
  rfl
theorem tkL_succ {ks : List Lk} {n : Nat} (h : n < ks.length) : tkL (ks.take (n + 1)) = tkL (ks.take n) ++ ks[n].text.data.toList := by
  unfold tkL
  rw [List.take_succ_eq_append_getElem h, List.flatMap_append]
  simp
theorem tkL_len (ks : List Lk) : (tkL ks).length = (tkT ks).size := by
  unfold tkT
  show _ = (tkL ks).toArray.size
  simp

set_option maxHeartbeats 4000000 in
theorem textOfToken_any (v : Value) (ks : List Lk) (w : World) (hm : ks.length ≤ 1048577) (hg : ∀ k ∈ ks, k.good = true) (hf : ∀ k ∈ ks, k.size ≤ 1048576) (hr : LkS w v ks) (ht : Tab w) :
    Calls Tryz.prog 114 #[v] w fun e w' => e = .returned (.string (tkT ks)) ∧ Below w.heap.size w w' := by
  obtain ⟨a, cap, rfl⟩ := hr.len
  have HZ := hid (fun n hn => tkT_size hg hf n hn)
  have hN := built_new3 w
  have hBn : Below w.heap.size w (w.alloc (.cells #[.pointer none, .slice none 0 0] 206)) := (Below.refl _ w).alloc (Nat.le_refl _) _
  have HTB := hid ht
  clear ht
  go_enter Tryz.func114, Tryz.ntmps114
  go_wp2
  go_loopw [9] (fun i wr => ∃ n : Nat, n ≤ ks.length ∧ i = .int .i64 n ∧ Lib.IsBuilder 206 5 w.heap.size w.heap.size (Lib.byteCells (tkL (ks.take n))) wr ∧ Below w.heap.size w wr) (fun i _ => ks.length - (intOf i).toNat)
  case atStart => exact ⟨0, Nat.zero_le _, rfl, hN, hBn⟩
  case round =>
    obtain ⟨n, hn, rfl, hI, hB⟩ := hrel
    have hs := HZ.out n hn
    rw [← tkL_len] at hs
    have hs2 : n * 1048600 ≤ 2000000000000 := by omega
    by_cases hlt : n < ks.length
    · obtain ⟨b, off, rfl, hb, hcap, q0, q1, q2, q3, q4⟩ := (hr.below hB).at hlt
      have hz := hf ks[n] (List.getElem_mem hlt)
      have hgd := hg ks[n] (List.getElem_mem hlt)
      obtain ⟨_, _, b3, b4, b5, _⟩ := (Lk.good_iff ks[n]).1 hgd
      have HS := hid (tkL_succ hlt)
      have HC := hid (cells_link ks[n] (tkL (ks.take n)))
      have htx := text_len ks[n] hgd
      generalize ks[n] = k at *
      generalize tkL (ks.take n) = l at *
      have h1n := fun W => itoa_any k.se W (by omega) (by omega)
      have h2n := fun W => itoa_any k.fr W (by omega) (by omega)
      have h3n := fun W => itoa_any k.un W (by omega) (by omega)
      have hJ := fun g W => join5_any k g W hz hgd
      have hbl : k.body.length ≤ 1048600 := by
        have h : k.text.size = k.body.length + 1 := by
          show k.text.data.size = _
          rw [← Array.length_toList, Lk.text_list]
          simp
        omega
      generalize numT k.se = x1 at *
      generalize numT k.fr = x2 at *
      generalize numT k.un = x3 at *
      have hBw : Below wr.heap.size wr (wr.alloc (.cells #[.string k.who, .string k.to, .int .i64 k.se, .int .i64 k.fr, .int .i64 k.un] 126)) := (Below.refl _ wr).alloc (Nat.le_refl _) _
      have hBa := below_one hB hBw
      have hIa := isB_below hI hBw
      have htr : Tab (wr.alloc (.cells #[.string k.who, .string k.to, .int .i64 k.se, .int .i64 k.fr, .int .i64 k.un] 126)).drew := HTB.out.on (hBa.drew)
      go_wp2_with fail
      refine wp_region_held_drew (S := fun w' => w'.cell? ⟨wr.heap.size, 0, none⟩ = some (.string k.who) ∧ w'.cell? ⟨wr.heap.size, 1, none⟩ = some (.string k.to) ∧ w'.cell? ⟨wr.heap.size, 2, none⟩ = some (.int .i64 k.se) ∧ w'.cell? ⟨wr.heap.size, 3, none⟩ = some (.int .i64 k.fr) ∧ w'.cell? ⟨wr.heap.size, 4, none⟩ = some (.int .i64 k.un)) (by kernel_rfl) ?_ (fun hHeld => ?_)
      · go_keep
      refine takeW 0 (v := ?v23) rfl (by kernel_rfl) (by kernel_rfl) (by kernel_rfl) (fun _ _ _ h => h) (by rfl) (by assumption) ?hy23 ?rest23
      case hy23 => intro w' hSw; (try dsimp only at hSw); go_simp; try with_reducible rfl
      try simp only [Act.put, List.setIfInBounds_toArray, List.set_cons_zero, List.set_cons_succ]
      refine takeW 1 (v := ?v24) rfl (by kernel_rfl) (by kernel_rfl) (by kernel_rfl) (fun _ _ _ h => h) (by rfl) (by assumption) ?hy24 ?rest24
      case hy24 => intro w' hSw; (try dsimp only at hSw); go_simp; try with_reducible rfl
      try simp only [Act.put, List.setIfInBounds_toArray, List.set_cons_zero, List.set_cons_succ]
      refine takeW 2 (v := ?v25) rfl (by kernel_rfl) (by kernel_rfl) (by kernel_rfl) (fun _ _ _ h => h) (by rfl) (by assumption) ?hy25 ?rest25
      case hy25 => intro w' hSw; (try dsimp only at hSw); go_simp; try with_reducible rfl
      try simp only [Act.put, List.setIfInBounds_toArray, List.set_cons_zero, List.set_cons_succ]
      refine takeW 3 (v := ?v26) rfl (by kernel_rfl) (by kernel_rfl) (by kernel_rfl) (fun _ _ _ h => h) (by rfl) (by assumption) ?hy26 ?rest26
      case hy26 => intro w' hSw; (try dsimp only at hSw); go_simp; try with_reducible rfl
      try simp only [Act.put, List.setIfInBounds_toArray, List.set_cons_zero, List.set_cons_succ]
      refine takeW 4 (v := ?v27) rfl (by kernel_rfl) (by kernel_rfl) (by kernel_rfl) (fun _ _ _ h => h) (by rfl) (by assumption) ?hy27 ?rest27
      case hy27 => intro w' hSw; (try dsimp only at hSw); go_simp; try with_reducible rfl
      try simp only [Act.put, List.setIfInBounds_toArray, List.set_cons_zero, List.set_cons_succ]
      refine takeW 5 (v := ?v28) rfl (by kernel_rfl) (by kernel_rfl) (by kernel_rfl) (fun _ _ _ h => h) (by rfl) (by assumption) ?hy28 ?rest28
      case hy28 => intro w' hSw; (try dsimp only at hSw); go_simp; try with_reducible rfl
      try simp only [Act.put, List.setIfInBounds_toArray, List.set_cons_zero, List.set_cons_succ]
      refine takeW 7 (v := ?v29) rfl (by kernel_rfl) (by kernel_rfl) (by kernel_rfl) (fun _ _ _ h => h) (by rfl) (by assumption) ?hy29 ?rest29
      case hy29 => intro w' hSw; (try dsimp only at hSw); go_simp; try with_reducible rfl
      try simp only [Act.put, List.setIfInBounds_toArray, List.set_cons_zero, List.set_cons_succ]
      refine takeW 8 (v := ?v30) rfl (by kernel_rfl) (by kernel_rfl) (by kernel_rfl) (fun _ _ _ h => h) (by rfl) (by assumption) ?hy30 ?rest30
      case hy30 => intro w' hSw; (try dsimp only at hSw); go_simp; try with_reducible rfl
      try simp only [Act.put, List.setIfInBounds_toArray, List.set_cons_zero, List.set_cons_succ]
      refine takeW 10 (v := ?v31) rfl (by kernel_rfl) (by kernel_rfl) (by kernel_rfl) (fun _ _ _ h => h) (by rfl) (by assumption) ?hy31 ?rest31
      case hy31 => intro w' hSw; (try dsimp only at hSw); go_simp; try with_reducible rfl
      try simp only [Act.put, List.setIfInBounds_toArray, List.set_cons_zero, List.set_cons_succ]
      refine takeW 11 (v := ?v32) rfl (by kernel_rfl) (by kernel_rfl) (by kernel_rfl) (fun _ _ _ h => h) (by rfl) (by assumption) ?hy32 ?rest32
      case hy32 => intro w' hSw; (try dsimp only at hSw); go_simp; try with_reducible rfl
      try simp only [Act.put, List.setIfInBounds_toArray, List.set_cons_zero, List.set_cons_succ]
      refine takeC 6 (by kernel_rfl) rfl (fun K hK => ?_)
      go_simp
      refine (h1n _ htr).mono ?_; rintro e w1 ⟨rfl, hB1⟩; have hc1 := fun o => hB1.cell (p := ⟨wr.heap.size, o, none⟩) (by simp); have hz1 : wr.heap.size < w1.heap.size := by have := hB1.size; simp at this; omega
      refine hK.out _ _ ?_ (fun hHeld => ?_)
      · go_keep
      clear hK K
      try simp only [Act.put, List.setIfInBounds_toArray, List.set_cons_zero, List.set_cons_succ]
      refine takeC 9 (by kernel_rfl) rfl (fun K hK => ?_)
      go_simp
      refine (h2n _ (htr.on hB1)).mono ?_; rintro e w2 ⟨rfl, hB2⟩; have hc2 := fun o => hB2.cell (p := ⟨wr.heap.size, o, none⟩) hz1; have hz2 : wr.heap.size < w2.heap.size := by have := hB2.size; omega
      refine hK.out _ _ ?_ (fun hHeld => ?_)
      · go_keep
      clear hK K
      try simp only [Act.put, List.setIfInBounds_toArray, List.set_cons_zero, List.set_cons_succ]
      refine takeC 12 (by kernel_rfl) rfl (fun K hK => ?_)
      go_simp
      refine (h3n _ ((htr.on hB1).on hB2)).mono ?_; rintro e w3 ⟨rfl, hB3⟩; have hc3 := fun o => hB3.cell (p := ⟨wr.heap.size, o, none⟩) hz2; have hz3 : wr.heap.size < w3.heap.size := by have := hB3.size; omega
      refine hK.out _ _ ?_ (fun hHeld => ?_)
      · go_keep
      clear hK K
      try simp only [Act.put, List.setIfInBounds_toArray, List.set_cons_zero, List.set_cons_succ]
      refine takeC 13 (by kernel_rfl) rfl (fun K hK => ?_)
      go_simp
      skip
      refine hK.out _ _ ?_ (fun hHeld => ?_)
      · go_keep
      clear hK K
      try simp only [Act.put, List.setIfInBounds_toArray, List.set_cons_zero, List.set_cons_succ]
      refine takeW 14 (v := ?v33) rfl (by kernel_rfl) (by kernel_rfl) (by kernel_rfl) (fun _ _ _ h => h) (by rfl) (by assumption) ?hy33 ?rest33
      case hy33 => intro w' hSw; (try dsimp only at hSw); go_simp; try with_reducible rfl
      try simp only [Act.put, List.setIfInBounds_toArray, List.set_cons_zero, List.set_cons_succ]
      refine wpAnyH_done (by kernel_rfl) ?_ _
      have hB01 : Below (wr.alloc (.cells #[.string k.who, .string k.to, .int .i64 k.se, .int .i64 k.fr, .int .i64 k.un] 126)).heap.size (wr.alloc (.cells #[.string k.who, .string k.to, .int .i64 k.se, .int .i64 k.fr, .int .i64 k.un] 126)) w1 := below_drew1 hB1
      have hB123 := below_one (below_one hB01 hB2) hB3
      have hI3 := isB_below hIa hB123
      have hBB3 := below_one hBa hB123
      have hBw4 : Below w3.heap.size w3 (w3.alloc (.cells #[.string k.who, .string k.to, .string x1, .string x2, .string x3] 9)) := (Below.refl _ w3).alloc (Nat.le_refl _) _
      have hI4 := isB_below hI3 hBw4
      have hBB4 := below_one hBB3 hBw4
      have hJ4 := hJ w3.heap.size (w3.alloc (.cells #[.string k.who, .string k.to, .string x1, .string x2, .string x3] 9)) (by simp) (by simp) (by simp) (by simp) (by simp) (by simp)
      clear hB hBw hBa hIa hI hB01 hB1 hB2 hB3 hB123 hI3 hBB3 hBw4 q0 q1 q2 q3 q4 hJ h1n h2n h3n hc1 hc2 hc3 hz1 hz2 hz3
      go_wp2_with fail
      refine hJ4.mono ?_
      rintro e w5 ⟨rfl, hB5⟩
      have hI5 := isB_below hI4 hB5
      have hBB5 := below_one hBB4 hB5
      have hz5 := hBB5.size
      clear hI4 hBB4 hB5 hJ4
      go_wp2_with fail
      refine (writeString_any w.heap.size w.heap.size _ ⟨k.body.toArray⟩ _ hI5 (by rw [Lib.byteCells_length]; show _ + k.body.toArray.size ≤ _; rw [List.size_toArray]; omega) hz5).mono ?_
      rintro e w6 ⟨rfl, hI6, hB6⟩
      have hBB6 := hBB5.trans hB6
      have hz6 := hBB6.size
      clear hI5 hBB5 hz5 hB6
      go_wp2_with fail
      refine (writeByte_any w.heap.size w.heap.size _ 59 _ (.inr hI6) (by rw [List.length_append, Lib.byteCells_length, Lib.strCells_length]; show _ + k.body.toArray.size + 1 ≤ _; rw [List.size_toArray]; omega) hz6).mono ?_
      rintro e w7 ⟨rfl, hI7, hB7⟩
      have hBB7 := hBB6.trans hB7
      rw [HC.out] at hI7
      clear hI6 hBB6 hz6 hB7
      go_wp2
      go_roundw
      case rel => exact ⟨n + 1, by omega, by go_num, by rw [HS.out]; exact .inr hI7, hBB7⟩
      case measure => simp [intOf]; omega
    · obtain rfl : n = ks.length := by omega
      have hzz := hB.size
      have HE := hid (show (⟨(tkL ks).toArray⟩ : ByteArray) = tkT ks from rfl)
      go_wp2_with fail
      refine (bString_any w.heap.size w.heap.size _ _ hI hzz).mono ?_
      rintro e w6 ⟨rfl, hB6⟩
      go_wp2_with fail
      go_ret
      exact ⟨ret_str HE.out, hB.trans hB6⟩

/-- The text of a token, none of what is none. -/
def ttX (ks : List Lk) : ByteArray := if tkB ks = true then tkT ks else ⟨#[]⟩
theorem ttX_no {ks : List Lk} (h : tkB ks = false) : ttX ks = ⟨#[]⟩ := if_neg (by rw [h]; exact Bool.false_ne_true)
theorem ttX_yes {ks : List Lk} (h : tkB ks = true) : ttX ks = tkT ks := if_pos h

end Go.Proofs.YtnbojbcljfiamaaGreatDoor

namespace Go.Proofs.YtnbojbcljfiamaaGreatDoor
open Go.RowKit Go.Shelf

/-- The texts of the first links. -/
def sgTo (ks : List Lk) (n : Nat) : List ByteArray := (List.range n).map (fun i => tkT (ks.take (i + 1)))
theorem sgTo_succ (ks : List Lk) (n : Nat) : sgTo ks (n + 1) = sgTo ks n ++ [tkT (ks.take (n + 1))] := by
  unfold sgTo
  rw [List.range_succ, List.map_append]
  rfl
theorem sgTo_len (ks : List Lk) (n : Nat) : (sgTo ks n).length = n := by simp [sgTo]
/-- What is signed of a token. -/
def sigL (ks : List Lk) : List ByteArray := if tkB ks = true then sgTo ks ks.length else []
theorem sigL_yes {ks : List Lk} (h : tkB ks = true) : sigL ks = sgTo ks ks.length := if_pos h
theorem sigL_no {ks : List Lk} (h : tkB ks = false) : sigL ks = [] := if_neg (by rw [h]; exact Bool.false_ne_true)
theorem sigL_le (ks : List Lk) : (sigL ks).length ≤ ks.length := by
  unfold sigL
  split
  · rw [sgTo_len]
    exact Nat.le_refl _
  · exact Nat.zero_le _
theorem row_base3 {w : World} {base base' : Nat} {e : TypeId} {size n : Nat} {v : Value} {xs : List Value} (hb : base' ≤ base) (h : w.ownsRow base e size v n xs) : w.ownsRow base' e size v n xs := by
  refine ⟨h.1, h.2.imp id ?_⟩
  rintro ⟨g, cap, cur, hv, hg, hrest⟩
  exact ⟨g, cap, cur, hv, Nat.le_trans hb hg, hrest⟩

set_option maxHeartbeats 2000000 in
theorem l3Signed_any (v : Value) (ks : List Lk) (w : World) (hm : ks.length ≤ 1048577) (hgd : ∀ k ∈ ks, k.good = true) (hf : ∀ k ∈ ks, k.size ≤ 1048576) (hr1 : LkS w v ks) :
    Calls Tryz.prog 133 #[v] w fun e w' => ∃ v', e = .returned v' ∧ w'.ownsRow w.heap.size 9 1 v' (sgTo ks ks.length).length (strs (sgTo ks ks.length)) ∧ Below w.heap.size w w' := by
  obtain ⟨a, cap, rfl⟩ := hr1.len
  obtain ⟨i0, hi, hz0, hz1, hz2⟩ := info_parts infoStr
  go_enter Tryz.func133, Tryz.ntmps133
  go_wp2
  go_loopw [3, 7] (fun out i wr => ∃ n : Nat, n ≤ ks.length ∧ i = .int .i64 n ∧ wr.ownsRow w.heap.size 9 1 out (sgTo ks n).length (strs (sgTo ks n)) ∧ Below w.heap.size w wr) (fun _ i _ => ks.length - (intOf i).toNat)
  case atStart => exact ⟨0, Nat.zero_le _, rfl, World.ownsRow_nil _ _ _ _, Below.refl _ _⟩
  case round =>
    obtain ⟨n, hn, rfl, hrow, hB⟩ := hrel
    by_cases hlt : n < ks.length
    · have hrB := hr1.below hB
      obtain ⟨b, off, rfl, hb, hcap, q0, q1, q2, q3, q4⟩ := hrB.at hlt
      have HT := hid (sgTo_succ ks n)
      have hln := sgTo_len ks n
      have hrT := hrB.take (n + 1) cap (by omega) (by omega)
      have hgT : ∀ k ∈ ks.take (n + 1), k.good = true := fun k hk => hgd k (List.mem_of_mem_take hk)
      have hfT : ∀ k ∈ ks.take (n + 1), k.size ≤ 1048576 := fun k hk => hf k (List.mem_of_mem_take hk)
      have hmT : (ks.take (n + 1)).length ≤ 1048577 := by rw [List.length_take]; omega
      have hc1 : (n : Int) + 1 ≤ (cap : Int) := by omega
      clear q0 q1 q2 q3 q4
      go_wp2_with fail
      refine (l3Text_any _ (ks.take (n + 1)) _ hmT hgT hfT hrT).mono ?_
      rintro e w2 ⟨rfl, hB2⟩
      have hrow2 := ownsRow_below hrow hB2
      have hBB := below_one hB hB2
      have hz3 := hBB.size
      generalize tkT (ks.take (n + 1)) = x at *
      clear hrow hB hB2 hrB hrT hgT hfT hmT
      go_wp2_with (at_builtin; refine wpList_append_own _ rfl _ _ 32 rfl w.heap.size 9 i0 (.string ByteArray.empty) 1 16 Tryz.underlying32 hi hz0 hz1 hz2 rfl (by decide) _ _ _ rfl (hrow2.alloc _) ⟨w2.heap.size, 0, none⟩ 1 1 [.string x] rfl rfl (cell_one_new _ _ _) (by simp [Value.oneCell']) (by simp [maxLen]; omega) (by omega) (by simp; omega) ?_; intro v' w3 hown' hgrow _; obtain ⟨g', cap', rfl⟩ := ownsRow_succ hown')
      go_roundw
      case rel =>
        refine ⟨n + 1, by omega, by go_num, ?_, hBB.trans (below_appended hz3 hrow2 hgrow)⟩
        rw [HT.out]
        simpa [strs, hln] using hown'
      case measure => simp [intOf]; omega
    · obtain rfl : n = ks.length := by omega
      go_wp2
      go_ret
      exact ⟨_, rfl, hrow, hB⟩

set_option maxHeartbeats 2000000 in
theorem implSignedOf_any (v : Value) (ks : List Lk) (w : World) (hm : ks.length ≤ 1048577) (hf : ∀ k ∈ ks, k.size ≤ 1048576) (hr : LkS w v ks) (ht : Tab w) :
    Calls Tryz.prog 78 #[v] w fun e w' => ∃ v', e = .returned (.tuple #[v', .bool (tkB ks)]) ∧ w'.ownsRow w.heap.size 9 1 v' (sigL ks).length (strs (sigL ks)) ∧ Below w.heap.size w w' := by
  obtain ⟨a, cap, rfl⟩ := hr.len
  obtain ⟨i0, hi, hz0, hz1, hz2⟩ := info_parts infoStr
  have HTB := hid ht
  clear ht
  cases hg : tkB ks
  · have HC := hid (sigL_no hg)
    go_enter Tryz.func78, Tryz.ntmps78
    go_wp2_with fail
    refine (implGoodToken_any _ ks _ hm hf hr).mono ?_
    rintro e w1 ⟨rfl, hB1⟩
    rw [hg]
    go_wp2_with fail
    go_ret2
    exact ⟨_, rfl, by rw [HC.out]; exact World.ownsRow_nil _ _ _ _, hB1⟩
  · have HC := hid (sigL_yes hg)
    have hgd := tkB_good hg
    go_enter Tryz.func78, Tryz.ntmps78
    go_wp2_with fail
    refine (implGoodToken_any _ ks _ hm hf hr).mono ?_
    rintro e w1 ⟨rfl, hB1⟩
    rw [hg]
    have hr1 := hr.below hB1
    clear hr
    go_wp2_with fail
    go_loopw [4, 11] (fun out i wr => ∃ n : Nat, n ≤ ks.length ∧ i = .int .i64 n ∧ wr.ownsRow w1.heap.size 9 1 out (sgTo ks n).length (strs (sgTo ks n)) ∧ Below w1.heap.size w1 wr) (fun _ i _ => ks.length - (intOf i).toNat)
    case atStart => exact ⟨0, Nat.zero_le _, rfl, World.ownsRow_nil _ _ _ _, Below.refl _ _⟩
    case round =>
      obtain ⟨n, hn, rfl, hrow, hB⟩ := hrel
      by_cases hlt : n < ks.length
      · have hrB := hr1.below hB
        obtain ⟨b, off, rfl, hb, hcap, q0, q1, q2, q3, q4⟩ := hrB.at hlt
        have HT := hid (sgTo_succ ks n)
        have hln := sgTo_len ks n
        have hrT := hrB.take (n + 1) cap (by omega) (by omega)
        have hgT : ∀ k ∈ ks.take (n + 1), k.good = true := fun k hk => hgd k (List.mem_of_mem_take hk)
        have hfT : ∀ k ∈ ks.take (n + 1), k.size ≤ 1048576 := fun k hk => hf k (List.mem_of_mem_take hk)
        have hmT : (ks.take (n + 1)).length ≤ 1048577 := by rw [List.length_take]; omega
        have hc1 : (n : Int) + 1 ≤ (cap : Int) := by omega
        clear q0 q1 q2 q3 q4
        go_wp2_with fail
        refine (textOfToken_any _ (ks.take (n + 1)) _ hmT hgT hfT hrT (HTB.out.on (below_one hB1 hB))).mono ?_
        rintro e w2 ⟨rfl, hB2⟩
        have hrow2 := ownsRow_below hrow hB2
        have hBB := below_one hB hB2
        have hz3 := hBB.size
        generalize tkT (ks.take (n + 1)) = x at *
        clear hrow hB hB2 hrB hrT hgT hfT hmT
        go_wp2_with (at_builtin; refine wpList_append_own _ rfl _ _ 32 rfl w1.heap.size 9 i0 (.string ByteArray.empty) 1 16 Tryz.underlying32 hi hz0 hz1 hz2 rfl (by decide) _ _ _ rfl (hrow2.alloc _) ⟨w2.heap.size, 0, none⟩ 1 1 [.string x] rfl rfl (cell_one_new _ _ _) (by simp [Value.oneCell']) (by simp [maxLen]; omega) (by omega) (by simp; omega) ?_; intro v' w3 hown' hgrow _; obtain ⟨g', cap', rfl⟩ := ownsRow_succ hown')
        go_roundw
        case rel =>
          refine ⟨n + 1, by omega, by go_num, ?_, hBB.trans (below_appended hz3 hrow2 hgrow)⟩
          rw [HT.out]
          simpa [strs, hln] using hown'
        case measure => simp [intOf]; omega
      · obtain rfl : n = ks.length := by omega
        go_wp2
        go_ret2
        exact ⟨_, rfl, by rw [HC.out]; exact row_base3 hB1.size hrow, below_one hB1 hB⟩

end Go.Proofs.YtnbojbcljfiamaaGreatDoor

namespace Go.Proofs.YtnbojbcljfiamaaGreatDoor
open Go.RowKit Go.Shelf

/-- An ask is one of a method and a path. -/
def rqB (a : Ak) : Bool := mthB a.me && gpB a.pa
def clO (a : Ak) (k : Lk) : Ca := ⟨k.who, a.me, a.pa⟩
/-- What is decided of one caller. -/
def clC (rs : List Ru) (a : Ak) (k : Lk) : Int := dC rs (clO a k) (List.range rs.length)
/-- None of the first n callers is denied. -/
def ndTo (rs : List Ru) (a : Ak) (n : Nat) : Bool := (a.tk.take n).all (fun k => !(clC rs a k == 2))
theorem ndTo_zero (rs : List Ru) (a : Ak) : ndTo rs a 0 = true := by simp [ndTo]
theorem ndTo_succ {rs : List Ru} {a : Ak} {n : Nat} (h : n < a.tk.length) : ndTo rs a (n + 1) = (ndTo rs a n && !(clC rs a a.tk[n] == 2)) := by
  unfold ndTo
  rw [List.take_succ_eq_append_getElem h, List.all_append]
  simp
/-- What is decided of the last of the first n callers, nothing yet where there is none. -/
def lsC (rs : List Ru) (a : Ak) (n : Nat) : Int := match n with
  | 0 => 3
  | n + 1 => match a.tk[n]? with
    | some k => clC rs a k
    | none => 3
theorem lsC_succ {rs : List Ru} {a : Ak} {n : Nat} (h : n < a.tk.length) : lsC rs a (n + 1) = clC rs a a.tk[n] := by
  show (match a.tk[n]? with | some k => clC rs a k | none => 3) = _
  rw [List.getElem?_eq_getElem h]
/-- What is decided of all callers. -/
def dcX (rs : List Ru) (a : Ak) : Int := if ndTo rs a a.tk.length = true then lsC rs a a.tk.length else 2
theorem nd_no {rs : List Ru} {a : Ak} {n : Nat} (h : n < a.tk.length) (hd : (clC rs a a.tk[n] == 2) = true) : dcX rs a = 2 := by
  unfold dcX
  have : ndTo rs a a.tk.length = false := by
    unfold ndTo
    rw [List.take_length]
    exact List.all_eq_false.2 ⟨a.tk[n], List.getElem_mem h, by rw [hd]; simp⟩
  rw [this, if_neg (by simp)]
theorem nd_end {rs : List Ru} {a : Ak} (h : ndTo rs a a.tk.length = true) : dcX rs a = lsC rs a a.tk.length := if_pos h
/-- What is told of a good side and an ask of a method and a path. -/
def dkY (s : Sd) (a : Ak) (ss : List ByteArray) (nw : Int) (q : ByteArray) : Int × Int :=
  if (s.fo.num == 0) = true then (4, 0) else if (s.co == 0) = false then (5, 0)
  else if (chkX a.tk (sgTo a.tk a.tk.length) ss nw s.fo.rv q == 0) = false then (6, chkX a.tk (sgTo a.tk a.tk.length) ss nw s.fo.rv q)
  else if (dcX s.fo.pol a == 1) = false then (7, dcX s.fo.pol a) else (0, 0)
def dkX (s : Sd) (a : Ak) (ss : List ByteArray) (nw : Int) (q : ByteArray) : Int × Int := if (sdB s && rqB a) = true then dkY s a ss nw q else (1, 0)
theorem dkX_no {s : Sd} {a : Ak} (ss : List ByteArray) (nw : Int) (q : ByteArray) (h : (sdB s && rqB a) = false) : dkX s a ss nw q = (1, 0) := if_neg (by rw [h]; simp)
theorem dkX_yes {s : Sd} {a : Ak} (ss : List ByteArray) (nw : Int) (q : ByteArray) (h : sdB s = true) (h2 : rqB a = true) : dkX s a ss nw q = dkY s a ss nw q := if_pos (by rw [h, h2]; rfl)
theorem dkY_4 {s : Sd} (a : Ak) (ss : List ByteArray) (nw : Int) (q : ByteArray) (h : (s.fo.num == 0) = true) : dkY s a ss nw q = (4, 0) := if_pos h
theorem dkY_5 {s : Sd} (a : Ak) (ss : List ByteArray) (nw : Int) (q : ByteArray) (h : (s.fo.num == 0) = false) (h2 : (s.co == 0) = false) : dkY s a ss nw q = (5, 0) := by
  unfold dkY; rw [if_neg (by rw [h]; simp), if_pos h2]
theorem dkY_6 {s : Sd} {a : Ak} {ss : List ByteArray} {nw : Int} {q : ByteArray} (h : (s.fo.num == 0) = false) (h2 : (s.co == 0) = true) (h3 : (chkX a.tk (sgTo a.tk a.tk.length) ss nw s.fo.rv q == 0) = false) : dkY s a ss nw q = (6, chkX a.tk (sgTo a.tk a.tk.length) ss nw s.fo.rv q) := by
  unfold dkY; rw [if_neg (by rw [h]; simp), if_neg (by rw [h2]; simp), if_pos h3]
theorem dkY_7 {s : Sd} {a : Ak} {ss : List ByteArray} {nw : Int} {q : ByteArray} (h : (s.fo.num == 0) = false) (h2 : (s.co == 0) = true) (h3 : (chkX a.tk (sgTo a.tk a.tk.length) ss nw s.fo.rv q == 0) = true) (h4 : (dcX s.fo.pol a == 1) = false) : dkY s a ss nw q = (7, dcX s.fo.pol a) := by
  unfold dkY; rw [if_neg (by rw [h]; simp), if_neg (by rw [h2]; simp), if_neg (by rw [h3]; simp), if_pos h4]
theorem dkY_0 {s : Sd} {a : Ak} {ss : List ByteArray} {nw : Int} {q : ByteArray} (h : (s.fo.num == 0) = false) (h2 : (s.co == 0) = true) (h3 : (chkX a.tk (sgTo a.tk a.tk.length) ss nw s.fo.rv q == 0) = true) (h4 : (dcX s.fo.pol a == 1) = true) : dkY s a ss nw q = (0, 0) := by
  unfold dkY; rw [if_neg (by rw [h]; simp), if_neg (by rw [h2]; simp), if_neg (by rw [h3]; simp), if_neg (by rw [h4]; simp)]
theorem chk_tk {ks : List Lk} {sg ss : List ByteArray} {nw : Int} {zs : List Int} {q : ByteArray} (h : (chkX ks sg ss nw zs q == 0) = true) : tkB ks = true := by
  cases hb : tkB ks
  · rw [chkX_no1 sg ss nw zs q hb] at h
    exact absurd h (by decide)
  · rfl
theorem ret2 {x y : Int} {p : Int × Int} (h : p = (x, y)) : Ending.returned (.tuple #[.int .i64 x, .int .i64 y]) = .returned (.tuple #[.int .i64 p.1, .int .i64 p.2]) := by rw [h]

end Go.Proofs.YtnbojbcljfiamaaGreatDoor

namespace Go.Proofs.YtnbojbcljfiamaaGreatDoor
open Go.RowKit Go.Shelf

/-- A rule's patterns match a call. -/
def mcB (r : Ru) (c : Ca) : Bool := (cmB r.method c.method && mtnB r.who c.who) && mtpB r.path c.path
theorem mtn_mn {s t : ByteArray} (h1 : nmB (split s 47) = true) (h2 : gnB (split t 47) = true) : mtnB s t = mnB (split s 47) (split t 47) := by
  have h3 := gn_nm h2
  obtain ⟨x, y, he⟩ := nm_two h1
  obtain ⟨u, v, hf⟩ := nm_two h3
  unfold mtnB cnOk cnB
  rw [h1, h2, h3, he, hf]
  rw [he] at h1
  rw [hf] at h3
  rw [cv_names h1 h3]
  simp [mnB]
theorem spk_eq {r : Ru} {c : Ca} (hr : r.good = true) (hc : c.good = true) : mcB r c = spkB r c := by
  unfold Ru.good at hr
  unfold Ca.good at hc
  simp only [Bool.and_eq_true] at hr hc
  unfold mcB spkB cmB
  rw [mtn_mn hr.1.1 hc.1.1, mt_lm hr.1.2 hc.1.2]
  cases mnB (split r.who 47) (split c.who 47) <;> cases lmB (wL r.path) (wL c.path) <;> cases (starB r.method || eqB r.method c.method) <;> rfl

set_option maxHeartbeats 1000000 in
theorem matchesCall_any (r : Ru) (c : Ca) (w : World) (hr : r.size ≤ 1048576) (hc : c.size ≤ 1048576) :
    Calls Tryz.prog 232 #[r.val, c.val] w fun e w' => e = .returned (.bool (mcB r c)) ∧ Below w.heap.size w w' := by
  have hw1 : r.who.size ≤ 1048576 := by unfold Ru.size at hr; omega
  have hw2 : c.who.size ≤ 1048576 := by unfold Ca.size at hc; omega
  have hp1 : r.path.size ≤ 1048576 := by unfold Ru.size at hr; omega
  have hp2 : c.path.size ≤ 1048576 := by unfold Ca.size at hc; omega
  have hBa : Below w.heap.size w ((w.alloc (.cells #[.bool r.deny, .string r.who, .string r.method, .string r.path] 122)).alloc (.cells #[.string c.who, .string c.method, .string c.path] 130)) := ((Below.refl _ w).alloc (Nat.le_refl _) _).alloc (by simp) _
  have x3 : ((w.alloc (.cells #[.bool r.deny, .string r.who, .string r.method, .string r.path] 122)).alloc (.cells #[.string c.who, .string c.method, .string c.path] 130)).cell? ⟨w.heap.size, 3, none⟩ = some (.string r.path) := by simp
  have y2 : ((w.alloc (.cells #[.bool r.deny, .string r.who, .string r.method, .string r.path] 122)).alloc (.cells #[.string c.who, .string c.method, .string c.path] 130)).cell? ⟨w.heap.size + 1, 2, none⟩ = some (.string c.path) := by simp
  have hz : ((w.alloc (.cells #[.bool r.deny, .string r.who, .string r.method, .string r.path] 122)).alloc (.cells #[.string c.who, .string c.method, .string c.path] 130)).heap.size = w.heap.size + 2 := by simp
  have HZ := hid hz
  clear hz
  cases m1 : cmB r.method c.method
  · have HR := hid (show mcB r c = false by unfold mcB; rw [m1]; rfl)
    go_enter Tryz.func232, Tryz.ntmps232
    go_wp2_with fail
    refine (coversMethod_any _ _ _).mono ?_
    rintro e w1 ⟨rfl, rfl⟩
    rw [m1]
    go_wp2_with fail
    go_ret
    exact ⟨ret_bool HR.out.symm, hBa⟩
  · cases m2 : mtnB r.who c.who
    · have HR := hid (show mcB r c = false by unfold mcB; rw [m1, m2]; rfl)
      go_enter Tryz.func232, Tryz.ntmps232
      go_wp2_with fail
      refine (coversMethod_any _ _ _).mono ?_
      rintro e w1 ⟨rfl, rfl⟩
      rw [m1]
      go_wp2_with fail
      refine (implMatchName_any _ _ _ hw1 hw2).mono ?_
      rintro e w2 ⟨rfl, hB2⟩
      rw [m2]
      have hBB := below_one hBa hB2
      go_wp2_with fail
      go_ret
      exact ⟨ret_bool HR.out.symm, hBB⟩
    · have HR := hid (show mcB r c = mtpB r.path c.path by unfold mcB; rw [m1, m2]; rfl)
      go_enter Tryz.func232, Tryz.ntmps232
      go_wp2_with fail
      refine (coversMethod_any _ _ _).mono ?_
      rintro e w1 ⟨rfl, rfl⟩
      rw [m1]
      go_wp2_with fail
      refine (implMatchName_any _ _ _ hw1 hw2).mono ?_
      rintro e w2 ⟨rfl, hB2⟩
      rw [m2]
      have hBB := below_one hBa hB2
      have q3 := (hB2.cell (p := ⟨w.heap.size, 3, none⟩) (by have := HZ.out; simp only; omega)).trans x3
      have q2 := (hB2.cell (p := ⟨w.heap.size + 1, 2, none⟩) (by have := HZ.out; simp only; omega)).trans y2
      clear hB2 x3 y2
      go_wp2_with fail
      refine (implMatchPath_any _ _ _ hp1 hp2).mono ?_
      rintro e w3 ⟨rfl, hB3⟩
      go_wp2_with fail
      go_ret
      exact ⟨ret_bool HR.out.symm, below_one hBB hB3⟩

theorem methSpeaksA (v : Value) (w : World) : (method 386 234 v "loop.example/g00167/impl.speaksOf").run Tryz.prog w = .ok (243, v) w := by kernel_rfl
theorem methDecidesA (v : Value) (w : World) : (method 386 234 v "loop.example/g00167/impl.decides").run Tryz.prog w = .ok (241, v) w := by kernel_rfl

set_option maxHeartbeats 400000 in
theorem decidesA_any (a b p : ByteArray) (w : World) :
    Calls Tryz.prog 241 #[.agg #[.bool false, .string a, .string b, .string p]] w fun e w' => e = .returned (.int .i64 1) ∧ Below w.heap.size w w' := by
  go_enter Tryz.func241, Tryz.ntmps241
  go_wp2
  go_ret
  exact ⟨rfl, (Below.refl _ w).alloc (Nat.le_refl _) _⟩

set_option maxHeartbeats 400000 in
theorem speaksOfA_any (a b p : ByteArray) (c : Ca) (w : World) (hr : a.size + b.size + p.size ≤ 1048576) (hc : c.size ≤ 1048576) :
    Calls Tryz.prog 243 #[.agg #[.bool false, .string a, .string b, .string p], c.val] w fun e w' => e = .returned (.bool (mcB ⟨false, a, b, p⟩ c)) ∧ Below w.heap.size w w' := by
  have hBa : Below w.heap.size w ((w.alloc (.cells #[.bool false, .string a, .string b, .string p] 234)).alloc (.cells #[.string c.who, .string c.method, .string c.path] 130)) := ((Below.refl _ w).alloc (Nat.le_refl _) _).alloc (by simp) _
  go_enter Tryz.func243, Tryz.ntmps243
  go_wp2_with fail
  refine (matchesCall_any ⟨false, a, b, p⟩ c _ hr hc).mono ?_
  rintro e w1 ⟨rfl, hB1⟩
  go_wp2_with fail
  go_ret
  exact ⟨rfl, below_one hBa hB1⟩

theorem methSpeaksD (v : Value) (w : World) : (method 386 233 v "loop.example/g00167/impl.speaksOf").run Tryz.prog w = .ok (230, v) w := by kernel_rfl
theorem methDecidesD (v : Value) (w : World) : (method 386 233 v "loop.example/g00167/impl.decides").run Tryz.prog w = .ok (228, v) w := by kernel_rfl

set_option maxHeartbeats 400000 in
theorem decidesD_any (a b p : ByteArray) (w : World) :
    Calls Tryz.prog 228 #[.agg #[.bool true, .string a, .string b, .string p]] w fun e w' => e = .returned (.int .i64 2) ∧ Below w.heap.size w w' := by
  go_enter Tryz.func228, Tryz.ntmps228
  go_wp2
  go_ret
  exact ⟨rfl, (Below.refl _ w).alloc (Nat.le_refl _) _⟩

set_option maxHeartbeats 400000 in
theorem speaksOfD_any (a b p : ByteArray) (c : Ca) (w : World) (hr : a.size + b.size + p.size ≤ 1048576) (hc : c.size ≤ 1048576) :
    Calls Tryz.prog 230 #[.agg #[.bool true, .string a, .string b, .string p], c.val] w fun e w' => e = .returned (.bool (mcB ⟨true, a, b, p⟩ c)) ∧ Below w.heap.size w w' := by
  have hBa : Below w.heap.size w ((w.alloc (.cells #[.bool true, .string a, .string b, .string p] 233)).alloc (.cells #[.string c.who, .string c.method, .string c.path] 130)) := ((Below.refl _ w).alloc (Nat.le_refl _) _).alloc (by simp) _
  go_enter Tryz.func230, Tryz.ntmps230
  go_wp2_with fail
  refine (matchesCall_any ⟨true, a, b, p⟩ c _ hr hc).mono ?_
  rintro e w1 ⟨rfl, hB1⟩
  go_wp2_with fail
  go_ret
  exact ⟨rfl, below_one hBa hB1⟩

/-- The first rule that allows, so far. -/
def alI : Option Nat → Int
  | some k => k
  | none => -1
theorem al_no {rs : List Ru} {c : Ca} {of : List Nat} {m : Nat} (h : m < of.length) (hh : hitAt rs c false of[m] = false) : (of.take (m + 1)).find? (hitAt rs c false) = (of.take m).find? (hitAt rs c false) := by
  rw [List.take_succ_eq_append_getElem h, List.find?_append, List.find?_cons, hh]
  simp
theorem al_new {rs : List Ru} {c : Ca} {of : List Nat} {m : Nat} (h : m < of.length) (hn : (of.take m).find? (hitAt rs c false) = none) (hh : hitAt rs c false of[m] = true) : (of.take (m + 1)).find? (hitAt rs c false) = some of[m] := by
  rw [List.take_succ_eq_append_getElem h, List.find?_append, List.find?_cons, hh, hn]
  rfl
theorem al_old {rs : List Ru} {c : Ca} {of : List Nat} {m j : Nat} (h : m < of.length) (hn : (of.take m).find? (hitAt rs c false) = some j) : (of.take (m + 1)).find? (hitAt rs c false) = some j := by
  rw [List.take_succ_eq_append_getElem h, List.find?_append, hn]
  rfl

set_option maxHeartbeats 2000000 in
theorem decideAmong_any (v vo : Value) (rs : List Ru) (of : List Nat) (c : Ca) (base : Nat) (w : World) (_hm : rs.length ≤ 1048577) (hmo : of.length ≤ 1048577) (hfz : ∀ r ∈ rs, r.size ≤ 1048576) (hc : c.size ≤ 1048576) (hgood : ∀ r ∈ rs, r.good = true) (hcg : c.good = true) (hof : ∀ k ∈ of, k < rs.length) (hr : RuS w v rs) (hro : w.ownsRow base 3 1 vo of.length (ints of)) :
    Calls Tryz.prog 120 #[v, vo, c.val] w fun e w' => e = .returned (.tuple #[.int .i64 (decC rs c of), .int .i64 (decK rs c of)]) ∧ Below w.heap.size w w' := by
  obtain ⟨a, cap, rfl⟩ := hr.len
  obtain ⟨ao, capo, rfl⟩ := ownsRow_len hro
  have hA := methSpeaksA
  have hD := methSpeaksD
  have hA' := methDecidesA
  have hD' := methDecidesD
  have hW0 : Below w.heap.size w (w.alloc (.cells #[.string c.who, .string c.method, .string c.path] 130)) := (Below.refl _ w).alloc (Nat.le_refl _) _
  have b0 : (w.alloc (.cells #[.string c.who, .string c.method, .string c.path] 130)).cell? ⟨w.heap.size, 0, none⟩ = some (.string c.who) := by simp
  have b1 : (w.alloc (.cells #[.string c.who, .string c.method, .string c.path] 130)).cell? ⟨w.heap.size, 1, none⟩ = some (.string c.method) := by simp
  have b2 : (w.alloc (.cells #[.string c.who, .string c.method, .string c.path] 130)).cell? ⟨w.heap.size, 2, none⟩ = some (.string c.path) := by simp
  have HW0s := hid (show (w.alloc (.cells #[.string c.who, .string c.method, .string c.path] 130)).heap.size = w.heap.size + 1 by simp)
  have hr0 := hr.below hW0
  have hrow0 := ownsRow_below hro hW0
  go_enter Tryz.func120, Tryz.ntmps120
  go_wp2
  generalize (w.alloc (.cells #[.string c.who, .string c.method, .string c.path] 130)) = W0 at *
  clear hr hro
  go_loopw [8, 14] (fun av i wr => ∃ (m : Nat) (al : Option Nat), m ≤ of.length ∧ av = .int .i64 (alI al) ∧ i = .int .i64 m ∧ noTo rs c true of m = true ∧ (of.take m).find? (hitAt rs c false) = al ∧ Below W0.heap.size W0 wr) (fun _ i _ => of.length - (intOf i).toNat)
  case atStart => exact ⟨0, none, Nat.zero_le _, rfl, rfl, noTo_zero _ _ _ _, by simp, Below.refl _ _⟩
  case round =>
    obtain ⟨m, al, hm1, rfl, rfl, hno, hal, hB⟩ := hrel
    have HN := hid hno
    have HA := hid hal
    clear hno hal
    by_cases hlt : m < of.length
    · have hkk := hof of[m] (List.getElem_mem hlt)
      obtain ⟨go, rfl⟩ := row_some hrow0 hlt
      have ho := (hB.cell (p := ⟨go, m, none⟩) (cell_lt (int_cell hrow0 hlt))).trans (int_cell hrow0 hlt)
      have HS := hid (noTo_succ (rs := rs) (c := c) (d := true) hlt)
      have HF := hid (fun h => find_at (rs := rs) (c := c) (d := true) (k := m) hlt HN.out h)
      have HAn := hid (fun h => al_no (rs := rs) (c := c) hlt h)
      have HAw := hid (fun h h' => al_new (rs := rs) (c := c) hlt h h')
      have HAo := hid (fun (j : Nat) h => al_old (rs := rs) (c := c) (j := j) hlt h)
      generalize of[m] = kk at *
      obtain ⟨b, off, rfl, hb, hcap, q0, q1, q2, q3⟩ := (hr0.below hB).at hkk
      have HKt := hid (hitAt_lt (c := c) (d := true) hkk)
      have HKf := hid (hitAt_lt (c := c) (d := false) hkk)
      have hz := hfz rs[kk] (List.getElem_mem hkk)
      have HM := hid (spk_eq (hgood rs[kk] (List.getElem_mem hkk)) hcg)
      generalize rs[kk] = r at *
      have x0 := (hB.cell (p := ⟨w.heap.size, 0, none⟩) (by rw [HW0s.out]; simp)).trans b0
      have x1 := (hB.cell (p := ⟨w.heap.size, 1, none⟩) (by rw [HW0s.out]; simp)).trans b1
      have x2 := (hB.cell (p := ⟨w.heap.size, 2, none⟩) (by rw [HW0s.out]; simp)).trans b2
      have hzz : w.heap.size < wr.heap.size := by have := hB.size; have := HW0s.out; omega
      obtain ⟨dd, wh, me, pa⟩ := r
      dsimp only at q0 q1 q2 q3
      unfold Ru.size at hz
      dsimp only at hz
      cases dd
      · cases hs' : spkB ⟨false, wh, me, pa⟩ c
        · have HN1 := hid (show noTo rs c true of (m + 1) = true by rw [HS.out, HN.out, HKt.out, hs']; rfl)
          have HA1 := hid (show (of.take (m + 1)).find? (hitAt rs c false) = al from (HAn.out (by rw [HKf.out, hs']; rfl)).trans HA.out)
          have hs := HM.out.trans hs'
          go_wp2_with fail
          refine (voiceOfA_any wh me pa _).mono ?_
          rintro e w1 ⟨rfl, rfl⟩
          have hv : Below wr.heap.size wr (wr.alloc (.cells #[.bool false, .string wh, .string me, .string pa] 122)) := (Below.refl _ wr).alloc (Nat.le_refl _) _
          have z0 := (hv.cell (p := ⟨w.heap.size, 0, none⟩) hzz).trans x0
          have z1 := (hv.cell (p := ⟨w.heap.size, 1, none⟩) hzz).trans x1
          have z2 := (hv.cell (p := ⟨w.heap.size, 2, none⟩) hzz).trans x2
          have hBv := below_one hB hv
          clear hv
          generalize wr.alloc (.cells #[.bool false, .string wh, .string me, .string pa] 122) = w1 at *
          go_wp2_with fail
          refine (speaksOfA_any wh me pa c _ hz hc).mono ?_
          rintro e w2 ⟨rfl, hB2⟩
          rw [hs]
          have hBB2 := below_one hBv hB2
          clear hB2 z0 z1 z2
          go_wp2
          go_roundw
          case rel => exact ⟨m + 1, al, by omega, rfl, by go_num, HN1.out, HA1.out, hBB2⟩
          case measure => simp [intOf]; omega
        · have HN1 := hid (show noTo rs c true of (m + 1) = true by rw [HS.out, HN.out, HKt.out]; rfl)
          have hh := hid (show hitAt rs c false kk = true by rw [HKf.out, hs']; rfl)
          have hs := HM.out.trans hs'
          cases al with
          | none =>
            have HA1 := hid (HAw.out HA.out hh.out)
            unfold alI
            go_wp2_with fail
            refine (voiceOfA_any wh me pa _).mono ?_
            rintro e w1 ⟨rfl, rfl⟩
            have hv : Below wr.heap.size wr (wr.alloc (.cells #[.bool false, .string wh, .string me, .string pa] 122)) := (Below.refl _ wr).alloc (Nat.le_refl _) _
            have z0 := (hv.cell (p := ⟨w.heap.size, 0, none⟩) hzz).trans x0
            have z1 := (hv.cell (p := ⟨w.heap.size, 1, none⟩) hzz).trans x1
            have z2 := (hv.cell (p := ⟨w.heap.size, 2, none⟩) hzz).trans x2
            have hBv := below_one hB hv
            clear hv
            generalize wr.alloc (.cells #[.bool false, .string wh, .string me, .string pa] 122) = w1 at *
            go_wp2_with fail
            refine (speaksOfA_any wh me pa c _ hz hc).mono ?_
            rintro e w2 ⟨rfl, hB2⟩
            rw [hs]
            have hBB2 := below_one hBv hB2
            clear hB2 z0 z1 z2
            go_wp2_with fail
            refine (decidesA_any wh me pa _).mono ?_
            rintro e w3 ⟨rfl, hB3⟩
            have hBB3 := below_one hBB2 hB3
            clear hB3
            go_wp2
            go_roundw
            case rel => exact ⟨m + 1, some kk, by omega, rfl, by go_num, HN1.out, HA1.out, hBB3⟩
            case measure => simp [intOf]; omega
          | some j =>
            have HA1 := hid (HAo.out j HA.out)
            have hd0 : decide ((j : Int) < 0) = false := by simp
            unfold alI
            go_wp2_with fail
            refine (voiceOfA_any wh me pa _).mono ?_
            rintro e w1 ⟨rfl, rfl⟩
            have hv : Below wr.heap.size wr (wr.alloc (.cells #[.bool false, .string wh, .string me, .string pa] 122)) := (Below.refl _ wr).alloc (Nat.le_refl _) _
            have z0 := (hv.cell (p := ⟨w.heap.size, 0, none⟩) hzz).trans x0
            have z1 := (hv.cell (p := ⟨w.heap.size, 1, none⟩) hzz).trans x1
            have z2 := (hv.cell (p := ⟨w.heap.size, 2, none⟩) hzz).trans x2
            have hBv := below_one hB hv
            clear hv
            generalize wr.alloc (.cells #[.bool false, .string wh, .string me, .string pa] 122) = w1 at *
            go_wp2_with fail
            refine (speaksOfA_any wh me pa c _ hz hc).mono ?_
            rintro e w2 ⟨rfl, hB2⟩
            rw [hs]
            have hBB2 := below_one hBv hB2
            clear hB2 z0 z1 z2
            go_wp2_with fail
            refine (decidesA_any wh me pa _).mono ?_
            rintro e w3 ⟨rfl, hB3⟩
            have hBB3 := below_one hBB2 hB3
            clear hB3
            go_wp2
            go_roundw
            case rel => exact ⟨m + 1, some j, by omega, rfl, by go_num, HN1.out, HA1.out, hBB3⟩
            case measure => simp [intOf]; omega
      · cases hs' : spkB ⟨true, wh, me, pa⟩ c
        · have HN1 := hid (show noTo rs c true of (m + 1) = true by rw [HS.out, HN.out, HKt.out, hs']; rfl)
          have HA1 := hid (show (of.take (m + 1)).find? (hitAt rs c false) = al from (HAn.out (by rw [HKf.out, hs']; rfl)).trans HA.out)
          have hs := HM.out.trans hs'
          go_wp2_with fail
          refine (voiceOfD_any wh me pa _).mono ?_
          rintro e w1 ⟨rfl, rfl⟩
          have hv : Below wr.heap.size wr (wr.alloc (.cells #[.bool true, .string wh, .string me, .string pa] 122)) := (Below.refl _ wr).alloc (Nat.le_refl _) _
          have z0 := (hv.cell (p := ⟨w.heap.size, 0, none⟩) hzz).trans x0
          have z1 := (hv.cell (p := ⟨w.heap.size, 1, none⟩) hzz).trans x1
          have z2 := (hv.cell (p := ⟨w.heap.size, 2, none⟩) hzz).trans x2
          have hBv := below_one hB hv
          clear hv
          generalize wr.alloc (.cells #[.bool true, .string wh, .string me, .string pa] 122) = w1 at *
          go_wp2_with fail
          refine (speaksOfD_any wh me pa c _ hz hc).mono ?_
          rintro e w2 ⟨rfl, hB2⟩
          rw [hs]
          have hBB2 := below_one hBv hB2
          clear hB2 z0 z1 z2
          go_wp2
          go_roundw
          case rel => exact ⟨m + 1, al, by omega, rfl, by go_num, HN1.out, HA1.out, hBB2⟩
          case measure => simp [intOf]; omega
        · have HF1 := hid (HF.out (by rw [HKt.out, hs']; rfl))
          have hs := HM.out.trans hs'
          go_wp2_with fail
          refine (voiceOfD_any wh me pa _).mono ?_
          rintro e w1 ⟨rfl, rfl⟩
          have hv : Below wr.heap.size wr (wr.alloc (.cells #[.bool true, .string wh, .string me, .string pa] 122)) := (Below.refl _ wr).alloc (Nat.le_refl _) _
          have z0 := (hv.cell (p := ⟨w.heap.size, 0, none⟩) hzz).trans x0
          have z1 := (hv.cell (p := ⟨w.heap.size, 1, none⟩) hzz).trans x1
          have z2 := (hv.cell (p := ⟨w.heap.size, 2, none⟩) hzz).trans x2
          have hBv := below_one hB hv
          clear hv
          generalize wr.alloc (.cells #[.bool true, .string wh, .string me, .string pa] 122) = w1 at *
          go_wp2_with fail
          refine (speaksOfD_any wh me pa c _ hz hc).mono ?_
          rintro e w2 ⟨rfl, hB2⟩
          rw [hs]
          have hBB2 := below_one hBv hB2
          clear hB2 z0 z1 z2
          go_wp2_with fail
          refine (decidesD_any wh me pa _).mono ?_
          rintro e w3 ⟨rfl, hB3⟩
          have hBB3 := below_one hBB2 hB3
          clear hB3
          go_wp2
          go_ret2
          exact ⟨ret_ints (dec_deny HF1.out), below_one hW0 hBB3⟩
    · obtain rfl : m = of.length := by omega
      have HD := hid (find_none HN.out)
      have HA2 := hid (show of.find? (hitAt rs c false) = al by have := HA.out; rwa [List.take_length] at this)
      cases al with
      | none =>
        unfold alI
        go_wp2
        go_ret2
        exact ⟨ret_ints (dec_none HD.out HA2.out), below_one hW0 hB⟩
      | some j =>
        have hd0 : decide ((j : Int) < 0) = false := by simp
        unfold alI
        go_wp2
        go_ret2
        exact ⟨ret_ints (dec_allow HD.out HA2.out), below_one hW0 hB⟩

end Go.Proofs.YtnbojbcljfiamaaGreatDoor

namespace Go.Proofs.YtnbojbcljfiamaaGreatDoor
open Go.RowKit Go.Shelf

theorem pol_good {rs : List Ru} (h : polB rs = true) : ∀ r ∈ rs, r.good = true := by
  unfold polB at h
  rw [Bool.and_eq_true, List.all_eq_true] at h
  exact h.1

set_option maxHeartbeats 1000000 in
theorem implDecideCall_any (v : Value) (rs : List Ru) (c : Ca) (w : World) (hm : rs.length ≤ 1048577) (hfz : ∀ r ∈ rs, r.size ≤ 1048576) (hc : c.size ≤ 1048576) (hr : RuS w v rs) :
    Calls Tryz.prog 85 #[v, c.val] w fun e w' => e = .returned (.tuple #[.int .i64 (dC rs c (List.range rs.length)), .int .i64 (dK rs c (List.range rs.length)), .bool (dOk rs c)]) ∧ Below w.heap.size w w' := by
  obtain ⟨a, cap, rfl⟩ := hr.len
  have hBa : Below w.heap.size w (w.alloc (.cells #[.string c.who, .string c.method, .string c.path] 130)) := (Below.refl _ w).alloc (Nat.le_refl _) _
  have hr0 := hr.below hBa
  have b0 : (w.alloc (.cells #[.string c.who, .string c.method, .string c.path] 130)).cell? ⟨w.heap.size, 0, none⟩ = some (.string c.who) := by simp
  have b1 : (w.alloc (.cells #[.string c.who, .string c.method, .string c.path] 130)).cell? ⟨w.heap.size, 1, none⟩ = some (.string c.method) := by simp
  have b2 : (w.alloc (.cells #[.string c.who, .string c.method, .string c.path] 130)).cell? ⟨w.heap.size, 2, none⟩ = some (.string c.path) := by simp
  clear hr
  cases h1 : polB rs
  · have ho : dOk rs c = false := by unfold dOk; rw [h1]; rfl
    have HO := hid ho
    have HD := hid (d_no (List.range rs.length) ho)
    clear ho
    go_enter Tryz.func85, Tryz.ntmps85
    go_wp2_with fail
    refine (goodPolicy_any _ rs _ hm hfz hr0).mono ?_
    rintro e w1 ⟨rfl, hB1⟩
    rw [h1]
    go_wp2_with fail
    go_ret3
    exact ⟨ret_dec HD.out.1.symm HD.out.2.symm HO.out.symm, below_one hBa hB1⟩
  · cases h2 : c.good
    · have ho : dOk rs c = false := by unfold dOk; rw [h1, h2]; rfl
      have HO := hid ho
      have HD := hid (d_no (List.range rs.length) ho)
      clear ho
      go_enter Tryz.func85, Tryz.ntmps85
      go_wp2_with fail
      refine (goodPolicy_any _ rs _ hm hfz hr0).mono ?_
      rintro e w1 ⟨rfl, hB1⟩
      rw [h1]
      have c0 := (hB1.cell (p := ⟨w.heap.size, 0, none⟩) (by simp)).trans b0
      have c1 := (hB1.cell (p := ⟨w.heap.size, 1, none⟩) (by simp)).trans b1
      have c2 := (hB1.cell (p := ⟨w.heap.size, 2, none⟩) (by simp)).trans b2
      have hBB1 := below_one hBa hB1
      clear b0 b1 b2 hr0 hB1
      go_wp2_with fail
      refine (implGoodCall_any c _ hc).mono ?_
      rintro e w2 ⟨rfl, hB2⟩
      rw [h2]
      have hBB2 := below_one hBB1 hB2
      clear hBB1 hB2
      go_wp2_with fail
      go_ret3
      exact ⟨ret_dec HD.out.1.symm HD.out.2.symm HO.out.symm, hBB2⟩
    · have ho : dOk rs c = true := by unfold dOk; rw [h1, h2]; rfl
      have HO := hid ho
      have HD := hid (d_yes (List.range rs.length) ho)
      have hgood := pol_good h1
      have hlr : (List.range rs.length).length ≤ 1048577 := by rw [List.length_range]; exact hm
      have hof : ∀ k ∈ List.range rs.length, k < rs.length := fun k hk => List.mem_range.1 hk
      obtain ⟨i0, hi, hz0, hz1', hz2'⟩ := info_parts infoIntP
      clear ho
      go_enter Tryz.func85, Tryz.ntmps85
      go_wp2_with fail
      refine (goodPolicy_any _ rs _ hm hfz hr0).mono ?_
      rintro e w1 ⟨rfl, hB1⟩
      rw [h1]
      have c0 := (hB1.cell (p := ⟨w.heap.size, 0, none⟩) (by simp)).trans b0
      have c1 := (hB1.cell (p := ⟨w.heap.size, 1, none⟩) (by simp)).trans b1
      have c2 := (hB1.cell (p := ⟨w.heap.size, 2, none⟩) (by simp)).trans b2
      have hz1 : w.heap.size < w1.heap.size := by have := hB1.size; simp at this; omega
      have hr1 := hr0.below hB1
      have hBB1 := below_one hBa hB1
      clear b0 b1 b2 hr0 hB1 hBa
      go_wp2_with fail
      refine (implGoodCall_any c _ hc).mono ?_
      rintro e w2 ⟨rfl, hB2⟩
      rw [h2]
      replace c0 := (hB2.cell (p := ⟨w.heap.size, 0, none⟩) hz1).trans c0
      replace c1 := (hB2.cell (p := ⟨w.heap.size, 1, none⟩) hz1).trans c1
      replace c2 := (hB2.cell (p := ⟨w.heap.size, 2, none⟩) hz1).trans c2
      have hr2 := hr1.below hB2
      have hBB2 := below_one hBB1 hB2
      have hz2 : w.heap.size < w2.heap.size := Nat.lt_of_lt_of_le hz1 hB2.size
      clear hr1 hBB1 hB2 hz1
      go_wp2
      go_loopw [7, 21] (fun out i wr => ∃ k : Nat, k ≤ rs.length ∧ i = .int .i64 k ∧ wr.ownsRow w2.heap.size 3 1 out (List.range k).length (ints (List.range k)) ∧ Below w2.heap.size w2 wr) (fun _ i _ => rs.length - (intOf i).toNat)
      case atStart => exact ⟨0, Nat.zero_le _, rfl, World.ownsRow_nil _ _ _ _, Below.refl _ _⟩
      case round =>
        obtain ⟨k, hk, rfl, hrow, hB⟩ := hrel
        have hz := hB.size
        have hl : (List.range k).length = k := List.length_range
        have hl1 : (List.range k).length ≤ k := by omega
        have HL := hid hl
        clear hl
        by_cases hlt : k < rs.length
        · go_wp2_with (at_builtin; refine wpList_append_own _ rfl _ _ 23 rfl w2.heap.size 3 i0 (.int .i64 0) 1 8 Tryz.underlying23 hi hz0 hz1' hz2' rfl (by decide) _ _ _ rfl (hrow.alloc _) ⟨wr.heap.size, 0, none⟩ 1 1 [.int .i64 (k : Int)] rfl rfl (cell_one_new _ _ _) (by simp [Value.oneCell']) (by simp [maxLen]; omega) (by omega) (by simp; omega) ?_; intro v' w1 hown' hgrow _; obtain ⟨g', cap', rfl⟩ := ownsRow_succ hown')
          go_roundw
          case rel =>
            refine ⟨k + 1, by omega, by go_num, ?_, hB.trans (below_appended hz hrow hgrow)⟩
            rw [List.range_succ]
            simpa [ints] using hown'
          case measure => simp [intOf]; omega
        · obtain rfl : k = rs.length := by omega
          have hr3 := hr2.below hB
          have d0 := (hB.cell (p := ⟨w.heap.size, 0, none⟩) hz2).trans c0
          have d1 := (hB.cell (p := ⟨w.heap.size, 1, none⟩) hz2).trans c1
          have d2 := (hB.cell (p := ⟨w.heap.size, 2, none⟩) hz2).trans c2
          have hBB3 := below_one hBB2 hB
          clear hB hl1 hz
          go_wp2_with fail
          refine (decideAmong_any _ _ rs (List.range rs.length) c w2.heap.size _ hm hlr hfz hc hgood h2 hof hr3 hrow).mono ?_
          rintro e w5 ⟨rfl, hB5⟩
          have hBB5 := below_one hBB3 hB5
          clear hB5 hBB3
          go_wp2
          go_ret3
          exact ⟨ret_dec HD.out.1.symm HD.out.2.symm HO.out.symm, hBB5⟩

end Go.Proofs.YtnbojbcljfiamaaGreatDoor
