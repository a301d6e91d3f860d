/-
  Chapter 4: good issuers, by the program.
-/
import Derived.Test.YtallpldgkkpikaaGreatDoorJIssued1
import Derived.Lib.AppendIntMem
import Derived.Shelf.Strconv.Itoa3
import Derived.Test.YtallpldgkkpikaaGreatDoorJIssued0
import Derived.Shelf.Strings.OnBuilder
import Derived.Lay
import Derived.Deep.RegionHeld3
import Derived.WalkLawsBesides
namespace Go.Proofs.YtallpldgkkpikaaGreatDoor
open Go.RowKit Go.Shelf

theorem cell_old {w w1 : World} {o : Obj} (h : Below (w.alloc o).heap.size (w.alloc o).drew w1) {b i : Nat} (hb : b < w.heap.size) : w1.cell? ⟨b, i, none⟩ = w.cell? ⟨b, i, none⟩ :=
  ((below_drew1 h).cell (p := ⟨b, i, none⟩) (by simp; omega)).trans (((Below.refl w.heap.size w).alloc (Nat.le_refl _) o).cell (p := ⟨b, i, none⟩) hb)

set_option maxHeartbeats 2000000 in
theorem specGoodToken_fit (v : Value) (ks : List Lk) (w : World) (hm : ks.length ≤ 1048577) (hf : ∀ k ∈ ks, k.who.size ≤ 1048576 ∧ k.to.size ≤ 1048576) (hr : LkS w v ks) :
    Calls Tryz.prog 72 #[v] w fun e w' => e = .returned (.bool (tkB ks)) ∧ Below w.heap.size w w' := by
  obtain ⟨a, cap, rfl⟩ := hr.len
  go_enter Tryz.func72, Tryz.ntmps72
  go_wp2
  go_loopw [7] (fun i wr => ∃ n : Nat, n ≤ ks.length ∧ i = .int .i64 n ∧ tkTo ks n = true ∧ Below w.heap.size w wr) (fun i _ => ks.length - (intOf i).toNat)
  case atStart => exact ⟨0, Nat.zero_le _, rfl, tkTo_zero _, Below.refl _ _⟩
  case round =>
    obtain ⟨n, hn, rfl, ht, hB⟩ := hrel
    have HT := hid ht
    clear ht
    by_cases hlt : n < ks.length
    · obtain ⟨b, off, rfl, hb, hcap, q0, q1, q2, q3, q4⟩ := (hr.below hB).at hlt
      have hz := hf ks[n] (List.getElem_mem hlt)
      have HS := hid (tkTo_succ ks n)
      have HBd := hid (fun h => tk_bad (ks := ks) (n := n) hlt h)
      by_cases hn0 : n = 0
      · have HA := hid (show lkAt ks n = ks[n].good by subst hn0; exact lkAt_zero hlt)
        have dn : decide (0 < n) = false := by simp; omega
        clear hn0
        generalize ks[n] = k at *
        have hs1 : k.who.size ≤ 1048576 := hz.1
        have hs2 : k.to.size ≤ 1048576 := hz.2
        cases hg : k.good
        · have HR := hid (HBd.out (by rw [HA.out, hg]))
          go_wp2_with fail
          refine wp_region_held_drew (S := fun w' => w'.cell? ⟨wr.heap.size, 0, none⟩ = some (.string k.who) ∧ w'.cell? ⟨wr.heap.size, 1, none⟩ = some (.string k.to) ∧ w'.cell? ⟨wr.heap.size, 2, none⟩ = some (.int .i64 k.se) ∧ w'.cell? ⟨wr.heap.size, 3, none⟩ = some (.int .i64 k.fr) ∧ w'.cell? ⟨wr.heap.size, 4, none⟩ = some (.int .i64 k.un)) (by kernel_rfl) ?_ (fun hHeld => ?_)
          · go_keep
          refine takeW 0 (v := ?v1) rfl (by kernel_rfl) (by kernel_rfl) (by kernel_rfl) (fun _ _ _ h => h) (by rfl) (by assumption) ?hy1 ?rest1
          case hy1 => intro w' hSw; (try dsimp only at hSw); go_simp; try with_reducible rfl
          try simp only [Act.put, List.setIfInBounds_toArray, List.set_cons_zero, List.set_cons_succ]
          refine takeC 1 (by kernel_rfl) rfl (fun K hK => ?_)
          go_simp
          refine (l3Link_any k _ hs1 hs2).mono ?_; rintro e w1 ⟨he1, hB1⟩; rw [hg] at he1; subst he1; have hcn := fun o => hB1.cell (p := ⟨wr.heap.size, o, none⟩) (by simp); have hcb := fun o => cell_old hB1 (b := b) (i := o) hb
          refine hK.out _ _ ?_ (fun hHeld => ?_)
          · go_keep
          clear hK K
          try simp only [Act.put, List.setIfInBounds_toArray, List.set_cons_zero, List.set_cons_succ]
          refine takeW 2 (v := ?v2) rfl (by kernel_rfl) (by kernel_rfl) (by kernel_rfl) (fun _ _ _ h => h) (by rfl) (by assumption) ?hy2 ?rest2
          case hy2 => intro w' hSw; (try dsimp only at hSw); go_simp; try with_reducible rfl
          try simp only [Act.put, List.setIfInBounds_toArray, List.set_cons_zero, List.set_cons_succ]
          refine takeW 3 (v := ?v3) rfl (by kernel_rfl) (by kernel_rfl) (by kernel_rfl) (fun _ _ _ h => h) (by rfl) (by assumption) ?hy3 ?rest3
          case hy3 => intro w' hSw; (try dsimp only at hSw); go_simp; try with_reducible rfl
          try simp only [Act.put, List.setIfInBounds_toArray, List.set_cons_zero, List.set_cons_succ]
          refine takeX 4 rfl (by kernel_rfl) (by kernel_rfl) (by kernel_rfl) (fun _ _ _ h => h) (by rfl) (by assumption) ?_
          try simp only [Act.put, List.setIfInBounds_toArray, List.set_cons_zero, List.set_cons_succ]
          refine takeX 5 rfl (by kernel_rfl) (by kernel_rfl) (by kernel_rfl) (fun _ _ _ h => h) (by rfl) (by assumption) ?_
          try simp only [Act.put, List.setIfInBounds_toArray, List.set_cons_zero, List.set_cons_succ]
          refine takeX 6 rfl (by kernel_rfl) (by kernel_rfl) (by kernel_rfl) (fun _ _ _ h => h) (by rfl) (by assumption) ?_
          try simp only [Act.put, List.setIfInBounds_toArray, List.set_cons_zero, List.set_cons_succ]
          refine takeX 7 rfl (by kernel_rfl) (by kernel_rfl) (by kernel_rfl) (fun _ _ _ h => h) (by rfl) (by assumption) ?_
          try simp only [Act.put, List.setIfInBounds_toArray, List.set_cons_zero, List.set_cons_succ]
          refine takeX 8 rfl (by kernel_rfl) (by kernel_rfl) (by kernel_rfl) (fun _ _ _ h => h) (by rfl) (by assumption) ?_
          try simp only [Act.put, List.setIfInBounds_toArray, List.set_cons_zero, List.set_cons_succ]
          refine takeX 9 rfl (by kernel_rfl) (by kernel_rfl) (by kernel_rfl) (fun _ _ _ h => h) (by rfl) (by assumption) ?_
          try simp only [Act.put, List.setIfInBounds_toArray, List.set_cons_zero, List.set_cons_succ]
          refine takeX 10 rfl (by kernel_rfl) (by kernel_rfl) (by kernel_rfl) (fun _ _ _ h => h) (by rfl) (by assumption) ?_
          try simp only [Act.put, List.setIfInBounds_toArray, List.set_cons_zero, List.set_cons_succ]
          refine takeX 11 rfl (by kernel_rfl) (by kernel_rfl) (by kernel_rfl) (fun _ _ _ h => h) (by rfl) (by assumption) ?_
          try simp only [Act.put, List.setIfInBounds_toArray, List.set_cons_zero, List.set_cons_succ]
          refine takeX 12 rfl (by kernel_rfl) (by kernel_rfl) (by kernel_rfl) (fun _ _ _ h => h) (by rfl) (by assumption) ?_
          try simp only [Act.put, List.setIfInBounds_toArray, List.set_cons_zero, List.set_cons_succ]
          refine takeX 13 rfl (by kernel_rfl) (by kernel_rfl) (by kernel_rfl) (fun _ _ _ h => h) (by rfl) (by assumption) ?_
          try simp only [Act.put, List.setIfInBounds_toArray, List.set_cons_zero, List.set_cons_succ]
          refine takeX 14 rfl (by kernel_rfl) (by kernel_rfl) (by kernel_rfl) (fun _ _ _ h => h) (by rfl) (by assumption) ?_
          try simp only [Act.put, List.setIfInBounds_toArray, List.set_cons_zero, List.set_cons_succ]
          refine takeX 15 rfl (by kernel_rfl) (by kernel_rfl) (by kernel_rfl) (fun _ _ _ h => h) (by rfl) (by assumption) ?_
          try simp only [Act.put, List.setIfInBounds_toArray, List.set_cons_zero, List.set_cons_succ]
          refine takeX 16 rfl (by kernel_rfl) (by kernel_rfl) (by kernel_rfl) (fun _ _ _ h => h) (by rfl) (by assumption) ?_
          try simp only [Act.put, List.setIfInBounds_toArray, List.set_cons_zero, List.set_cons_succ]
          refine takeW 17 (v := ?v4) rfl (by kernel_rfl) (by kernel_rfl) (by kernel_rfl) (fun _ _ _ h => h) (by rfl) (by assumption) ?hy4 ?rest4
          case hy4 => intro w' hSw; (try dsimp only at hSw); go_simp; try with_reducible rfl
          try simp only [Act.put, List.setIfInBounds_toArray, List.set_cons_zero, List.set_cons_succ]
          refine wpAnyH_done (by kernel_rfl) ?_ _
          have hB2 := below_one hB (below_one ((Below.refl _ wr).alloc (Nat.le_refl _) _) (below_drew1 hB1))
          clear hcn hcb hB1 hHeld
          go_wp2
          go_ret
          exact ⟨ret_bool HR.out.symm, hB2⟩
        · have HR := hid (show tkTo ks (n + 1) = true by rw [HS.out, HT.out, HA.out, hg]; rfl)
          go_wp2_with fail
          refine wp_region_held_drew (S := fun w' => w'.cell? ⟨wr.heap.size, 0, none⟩ = some (.string k.who) ∧ w'.cell? ⟨wr.heap.size, 1, none⟩ = some (.string k.to) ∧ w'.cell? ⟨wr.heap.size, 2, none⟩ = some (.int .i64 k.se) ∧ w'.cell? ⟨wr.heap.size, 3, none⟩ = some (.int .i64 k.fr) ∧ w'.cell? ⟨wr.heap.size, 4, none⟩ = some (.int .i64 k.un)) (by kernel_rfl) ?_ (fun hHeld => ?_)
          · go_keep
          refine takeW 0 (v := ?v5) rfl (by kernel_rfl) (by kernel_rfl) (by kernel_rfl) (fun _ _ _ h => h) (by rfl) (by assumption) ?hy5 ?rest5
          case hy5 => intro w' hSw; (try dsimp only at hSw); go_simp; try with_reducible rfl
          try simp only [Act.put, List.setIfInBounds_toArray, List.set_cons_zero, List.set_cons_succ]
          refine takeC 1 (by kernel_rfl) rfl (fun K hK => ?_)
          go_simp
          refine (l3Link_any k _ hs1 hs2).mono ?_; rintro e w1 ⟨he1, hB1⟩; rw [hg] at he1; subst he1; have hcn := fun o => hB1.cell (p := ⟨wr.heap.size, o, none⟩) (by simp); have hcb := fun o => cell_old hB1 (b := b) (i := o) hb
          refine hK.out _ _ ?_ (fun hHeld => ?_)
          · go_keep
          clear hK K
          try simp only [Act.put, List.setIfInBounds_toArray, List.set_cons_zero, List.set_cons_succ]
          refine takeW 2 (v := ?v6) rfl (by kernel_rfl) (by kernel_rfl) (by kernel_rfl) (fun _ _ _ h => h) (by rfl) (by assumption) ?hy6 ?rest6
          case hy6 => intro w' hSw; (try dsimp only at hSw); go_simp; try with_reducible rfl
          try simp only [Act.put, List.setIfInBounds_toArray, List.set_cons_zero, List.set_cons_succ]
          refine takeW 3 (v := ?v7) rfl (by kernel_rfl) (by kernel_rfl) (by kernel_rfl) (fun _ _ _ h => h) (by rfl) (by assumption) ?hy7 ?rest7
          case hy7 => intro w' hSw; (try dsimp only at hSw); go_simp; try with_reducible rfl
          try simp only [Act.put, List.setIfInBounds_toArray, List.set_cons_zero, List.set_cons_succ]
          refine takeW 4 (v := ?v8) rfl (by kernel_rfl) (by kernel_rfl) (by kernel_rfl) (fun _ _ _ h => h) (by rfl) (by assumption) ?hy8 ?rest8
          case hy8 => intro w' hSw; (try dsimp only at hSw); go_simp; try with_reducible rfl
          try simp only [Act.put, List.setIfInBounds_toArray, List.set_cons_zero, List.set_cons_succ]
          refine takeW 5 (v := ?v9) rfl (by kernel_rfl) (by kernel_rfl) (by kernel_rfl) (fun _ _ _ h => h) (by rfl) (by assumption) ?hy9 ?rest9
          case hy9 => intro w' hSw; (try dsimp only at hSw); go_simp; try with_reducible rfl
          try simp only [Act.put, List.setIfInBounds_toArray, List.set_cons_zero, List.set_cons_succ]
          refine takeW 6 (v := ?v10) rfl (by kernel_rfl) (by kernel_rfl) (by kernel_rfl) (fun _ _ _ h => h) (by rfl) (by assumption) ?hy10 ?rest10
          case hy10 => intro w' hSw; (try dsimp only at hSw); go_simp; try with_reducible rfl
          try simp only [Act.put, List.setIfInBounds_toArray, List.set_cons_zero, List.set_cons_succ]
          refine takeX 7 rfl (by kernel_rfl) (by kernel_rfl) (by kernel_rfl) (fun _ _ _ h => h) (by rfl) (by assumption) ?_
          try simp only [Act.put, List.setIfInBounds_toArray, List.set_cons_zero, List.set_cons_succ]
          refine takeX 8 rfl (by kernel_rfl) (by kernel_rfl) (by kernel_rfl) (fun _ _ _ h => h) (by rfl) (by assumption) ?_
          try simp only [Act.put, List.setIfInBounds_toArray, List.set_cons_zero, List.set_cons_succ]
          refine takeX 9 rfl (by kernel_rfl) (by kernel_rfl) (by kernel_rfl) (fun _ _ _ h => h) (by rfl) (by assumption) ?_
          try simp only [Act.put, List.setIfInBounds_toArray, List.set_cons_zero, List.set_cons_succ]
          refine takeX 10 rfl (by kernel_rfl) (by kernel_rfl) (by kernel_rfl) (fun _ _ _ h => h) (by rfl) (by assumption) ?_
          try simp only [Act.put, List.setIfInBounds_toArray, List.set_cons_zero, List.set_cons_succ]
          refine takeX 11 rfl (by kernel_rfl) (by kernel_rfl) (by kernel_rfl) (fun _ _ _ h => h) (by rfl) (by assumption) ?_
          try simp only [Act.put, List.setIfInBounds_toArray, List.set_cons_zero, List.set_cons_succ]
          refine takeX 12 rfl (by kernel_rfl) (by kernel_rfl) (by kernel_rfl) (fun _ _ _ h => h) (by rfl) (by assumption) ?_
          try simp only [Act.put, List.setIfInBounds_toArray, List.set_cons_zero, List.set_cons_succ]
          refine takeX 13 rfl (by kernel_rfl) (by kernel_rfl) (by kernel_rfl) (fun _ _ _ h => h) (by rfl) (by assumption) ?_
          try simp only [Act.put, List.setIfInBounds_toArray, List.set_cons_zero, List.set_cons_succ]
          refine takeX 14 rfl (by kernel_rfl) (by kernel_rfl) (by kernel_rfl) (fun _ _ _ h => h) (by rfl) (by assumption) ?_
          try simp only [Act.put, List.setIfInBounds_toArray, List.set_cons_zero, List.set_cons_succ]
          refine takeX 15 rfl (by kernel_rfl) (by kernel_rfl) (by kernel_rfl) (fun _ _ _ h => h) (by rfl) (by assumption) ?_
          try simp only [Act.put, List.setIfInBounds_toArray, List.set_cons_zero, List.set_cons_succ]
          refine takeW 16 (v := ?v11) rfl (by kernel_rfl) (by kernel_rfl) (by kernel_rfl) (fun _ _ _ h => h) (by rfl) (by assumption) ?hy11 ?rest11
          case hy11 => intro w' hSw; (try dsimp only at hSw); go_simp; try with_reducible rfl
          try simp only [Act.put, List.setIfInBounds_toArray, List.set_cons_zero, List.set_cons_succ]
          refine takeW 17 (v := ?v12) rfl (by kernel_rfl) (by kernel_rfl) (by kernel_rfl) (fun _ _ _ h => h) (by rfl) (by assumption) ?hy12 ?rest12
          case hy12 => intro w' hSw; (try dsimp only at hSw); go_simp; try with_reducible rfl
          try simp only [Act.put, List.setIfInBounds_toArray, List.set_cons_zero, List.set_cons_succ]
          refine wpAnyH_done (by kernel_rfl) ?_ _
          have hB2 := below_one hB (below_one ((Below.refl _ wr).alloc (Nat.le_refl _) _) (below_drew1 hB1))
          clear hcn hcb hB1 hHeld
          go_wp2
          go_roundw
          case rel => first | exact ⟨n + 1, by omega, by go_num, HR.out, hB2⟩ | ((repeat apply Exists.intro); exact ⟨⟨n + 1, by omega, by go_num, HR.out, hB2⟩, rfl⟩)
          case measure => simp [intOf]; omega
      · obtain ⟨m, rfl⟩ : ∃ m, n = m + 1 := ⟨n - 1, by omega⟩
        have hltm : m < ks.length := by omega
        obtain ⟨b', off', he, _, _, _, p1, _, _, _⟩ := (hr.below hB).at hltm
        cases he
        have HA := hid (lkAt_succ hlt)
        generalize ks[m + 1] = k at *
        generalize ks[m] = p at *
        have hs1 : k.who.size ≤ 1048576 := hz.1
        have hs2 : k.to.size ≤ 1048576 := hz.2
        have hw1 : IntKind.i64.wrap (m : Int) = (m : Int) := by rw [IntKind.wrap_i64]; omega
        have hw2 : (m : Int) < (ks.length : Int) := by omega
        cases hg : k.good
        · have HR := hid (HBd.out (by rw [HA.out, hg]; rfl))
          go_wp2_with fail
          refine wp_region_held_drew (S := fun w' => w'.cell? ⟨wr.heap.size, 0, none⟩ = some (.string k.who) ∧ w'.cell? ⟨wr.heap.size, 1, none⟩ = some (.string k.to) ∧ w'.cell? ⟨wr.heap.size, 2, none⟩ = some (.int .i64 k.se) ∧ w'.cell? ⟨wr.heap.size, 3, none⟩ = some (.int .i64 k.fr) ∧ w'.cell? ⟨wr.heap.size, 4, none⟩ = some (.int .i64 k.un) ∧ w'.cell? ⟨b, off + m * 5 + 1, none⟩ = some (.string p.to)) (by kernel_rfl) ?_ (fun hHeld => ?_)
          · go_keep
          refine takeW 0 (v := ?v13) rfl (by kernel_rfl) (by kernel_rfl) (by kernel_rfl) (fun _ _ _ h => h) (by rfl) (by assumption) ?hy13 ?rest13
          case hy13 => intro w' hSw; (try dsimp only at hSw); go_simp; try with_reducible rfl
          try simp only [Act.put, List.setIfInBounds_toArray, List.set_cons_zero, List.set_cons_succ]
          refine takeC 1 (by kernel_rfl) rfl (fun K hK => ?_)
          go_simp
          refine (l3Link_any k _ hs1 hs2).mono ?_; rintro e w1 ⟨he1, hB1⟩; rw [hg] at he1; subst he1; have hcn := fun o => hB1.cell (p := ⟨wr.heap.size, o, none⟩) (by simp); have hcb := fun o => cell_old hB1 (b := b) (i := o) hb
          refine hK.out _ _ ?_ (fun hHeld => ?_)
          · go_keep
          clear hK K
          try simp only [Act.put, List.setIfInBounds_toArray, List.set_cons_zero, List.set_cons_succ]
          refine takeW 2 (v := ?v14) rfl (by kernel_rfl) (by kernel_rfl) (by kernel_rfl) (fun _ _ _ h => h) (by rfl) (by assumption) ?hy14 ?rest14
          case hy14 => intro w' hSw; (try dsimp only at hSw); go_simp; try with_reducible rfl
          try simp only [Act.put, List.setIfInBounds_toArray, List.set_cons_zero, List.set_cons_succ]
          refine takeW 3 (v := ?v15) rfl (by kernel_rfl) (by kernel_rfl) (by kernel_rfl) (fun _ _ _ h => h) (by rfl) (by assumption) ?hy15 ?rest15
          case hy15 => intro w' hSw; (try dsimp only at hSw); go_simp; try with_reducible rfl
          try simp only [Act.put, List.setIfInBounds_toArray, List.set_cons_zero, List.set_cons_succ]
          refine takeX 4 rfl (by kernel_rfl) (by kernel_rfl) (by kernel_rfl) (fun _ _ _ h => h) (by rfl) (by assumption) ?_
          try simp only [Act.put, List.setIfInBounds_toArray, List.set_cons_zero, List.set_cons_succ]
          refine takeX 5 rfl (by kernel_rfl) (by kernel_rfl) (by kernel_rfl) (fun _ _ _ h => h) (by rfl) (by assumption) ?_
          try simp only [Act.put, List.setIfInBounds_toArray, List.set_cons_zero, List.set_cons_succ]
          refine takeX 6 rfl (by kernel_rfl) (by kernel_rfl) (by kernel_rfl) (fun _ _ _ h => h) (by rfl) (by assumption) ?_
          try simp only [Act.put, List.setIfInBounds_toArray, List.set_cons_zero, List.set_cons_succ]
          refine takeX 7 rfl (by kernel_rfl) (by kernel_rfl) (by kernel_rfl) (fun _ _ _ h => h) (by rfl) (by assumption) ?_
          try simp only [Act.put, List.setIfInBounds_toArray, List.set_cons_zero, List.set_cons_succ]
          refine takeX 8 rfl (by kernel_rfl) (by kernel_rfl) (by kernel_rfl) (fun _ _ _ h => h) (by rfl) (by assumption) ?_
          try simp only [Act.put, List.setIfInBounds_toArray, List.set_cons_zero, List.set_cons_succ]
          refine takeX 9 rfl (by kernel_rfl) (by kernel_rfl) (by kernel_rfl) (fun _ _ _ h => h) (by rfl) (by assumption) ?_
          try simp only [Act.put, List.setIfInBounds_toArray, List.set_cons_zero, List.set_cons_succ]
          refine takeX 10 rfl (by kernel_rfl) (by kernel_rfl) (by kernel_rfl) (fun _ _ _ h => h) (by rfl) (by assumption) ?_
          try simp only [Act.put, List.setIfInBounds_toArray, List.set_cons_zero, List.set_cons_succ]
          refine takeX 11 rfl (by kernel_rfl) (by kernel_rfl) (by kernel_rfl) (fun _ _ _ h => h) (by rfl) (by assumption) ?_
          try simp only [Act.put, List.setIfInBounds_toArray, List.set_cons_zero, List.set_cons_succ]
          refine takeX 12 rfl (by kernel_rfl) (by kernel_rfl) (by kernel_rfl) (fun _ _ _ h => h) (by rfl) (by assumption) ?_
          try simp only [Act.put, List.setIfInBounds_toArray, List.set_cons_zero, List.set_cons_succ]
          refine takeX 13 rfl (by kernel_rfl) (by kernel_rfl) (by kernel_rfl) (fun _ _ _ h => h) (by rfl) (by assumption) ?_
          try simp only [Act.put, List.setIfInBounds_toArray, List.set_cons_zero, List.set_cons_succ]
          refine takeX 14 rfl (by kernel_rfl) (by kernel_rfl) (by kernel_rfl) (fun _ _ _ h => h) (by rfl) (by assumption) ?_
          try simp only [Act.put, List.setIfInBounds_toArray, List.set_cons_zero, List.set_cons_succ]
          refine takeX 15 rfl (by kernel_rfl) (by kernel_rfl) (by kernel_rfl) (fun _ _ _ h => h) (by rfl) (by assumption) ?_
          try simp only [Act.put, List.setIfInBounds_toArray, List.set_cons_zero, List.set_cons_succ]
          refine takeX 16 rfl (by kernel_rfl) (by kernel_rfl) (by kernel_rfl) (fun _ _ _ h => h) (by rfl) (by assumption) ?_
          try simp only [Act.put, List.setIfInBounds_toArray, List.set_cons_zero, List.set_cons_succ]
          refine takeW 17 (v := ?v16) rfl (by kernel_rfl) (by kernel_rfl) (by kernel_rfl) (fun _ _ _ h => h) (by rfl) (by assumption) ?hy16 ?rest16
          case hy16 => intro w' hSw; (try dsimp only at hSw); go_simp; try with_reducible rfl
          try simp only [Act.put, List.setIfInBounds_toArray, List.set_cons_zero, List.set_cons_succ]
          refine wpAnyH_done (by kernel_rfl) ?_ _
          have hB2 := below_one hB (below_one ((Below.refl _ wr).alloc (Nat.le_refl _) _) (below_drew1 hB1))
          clear hcn hcb hB1 hHeld
          go_wp2
          go_ret
          exact ⟨ret_bool HR.out.symm, hB2⟩
        · cases he : (p.to.toList == k.who.toList)
          · have HR := hid (HBd.out (by rw [HA.out, hg, he]; rfl))
            go_wp2_with fail
            refine wp_region_held_drew (S := fun w' => w'.cell? ⟨wr.heap.size, 0, none⟩ = some (.string k.who) ∧ w'.cell? ⟨wr.heap.size, 1, none⟩ = some (.string k.to) ∧ w'.cell? ⟨wr.heap.size, 2, none⟩ = some (.int .i64 k.se) ∧ w'.cell? ⟨wr.heap.size, 3, none⟩ = some (.int .i64 k.fr) ∧ w'.cell? ⟨wr.heap.size, 4, none⟩ = some (.int .i64 k.un) ∧ w'.cell? ⟨b, off + m * 5 + 1, none⟩ = some (.string p.to)) (by kernel_rfl) ?_ (fun hHeld => ?_)
            · go_keep
            refine takeW 0 (v := ?v17) rfl (by kernel_rfl) (by kernel_rfl) (by kernel_rfl) (fun _ _ _ h => h) (by rfl) (by assumption) ?hy17 ?rest17
            case hy17 => intro w' hSw; (try dsimp only at hSw); go_simp; try with_reducible rfl
            try simp only [Act.put, List.setIfInBounds_toArray, List.set_cons_zero, List.set_cons_succ]
            refine takeC 1 (by kernel_rfl) rfl (fun K hK => ?_)
            go_simp
            refine (l3Link_any k _ hs1 hs2).mono ?_; rintro e w1 ⟨he1, hB1⟩; rw [hg] at he1; subst he1; have hcn := fun o => hB1.cell (p := ⟨wr.heap.size, o, none⟩) (by simp); have hcb := fun o => cell_old hB1 (b := b) (i := o) hb
            refine hK.out _ _ ?_ (fun hHeld => ?_)
            · go_keep
            clear hK K
            try simp only [Act.put, List.setIfInBounds_toArray, List.set_cons_zero, List.set_cons_succ]
            refine takeW 2 (v := ?v18) rfl (by kernel_rfl) (by kernel_rfl) (by kernel_rfl) (fun _ _ _ h => h) (by rfl) (by assumption) ?hy18 ?rest18
            case hy18 => intro w' hSw; (try dsimp only at hSw); go_simp; try with_reducible rfl
            try simp only [Act.put, List.setIfInBounds_toArray, List.set_cons_zero, List.set_cons_succ]
            refine takeW 3 (v := ?v19) rfl (by kernel_rfl) (by kernel_rfl) (by kernel_rfl) (fun _ _ _ h => h) (by rfl) (by assumption) ?hy19 ?rest19
            case hy19 => intro w' hSw; (try dsimp only at hSw); go_simp; try with_reducible rfl
            try simp only [Act.put, List.setIfInBounds_toArray, List.set_cons_zero, List.set_cons_succ]
            refine takeW 4 (v := ?v20) rfl (by kernel_rfl) (by kernel_rfl) (by kernel_rfl) (fun _ _ _ h => h) (by rfl) (by assumption) ?hy20 ?rest20
            case hy20 => intro w' hSw; (try dsimp only at hSw); go_simp; try with_reducible rfl
            try simp only [Act.put, List.setIfInBounds_toArray, List.set_cons_zero, List.set_cons_succ]
            refine takeW 5 (v := ?v21) rfl (by kernel_rfl) (by kernel_rfl) (by kernel_rfl) (fun _ _ _ h => h) (by rfl) (by assumption) ?hy21 ?rest21
            case hy21 => intro w' hSw; (try dsimp only at hSw); go_simp; try with_reducible rfl
            try simp only [Act.put, List.setIfInBounds_toArray, List.set_cons_zero, List.set_cons_succ]
            refine takeW 6 (v := ?v22) rfl (by kernel_rfl) (by kernel_rfl) (by kernel_rfl) (fun _ _ _ h => h) (by rfl) (by assumption) ?hy22 ?rest22
            case hy22 => intro w' hSw; (try dsimp only at hSw); go_simp; try with_reducible rfl
            try simp only [Act.put, List.setIfInBounds_toArray, List.set_cons_zero, List.set_cons_succ]
            refine takeW 7 (v := ?v23) rfl (by kernel_rfl) (by kernel_rfl) (by kernel_rfl) (fun _ _ _ h => h) (by rfl) (by assumption) ?hy23 ?rest23
            case hy23 => intro w' hSw; (try dsimp only at hSw); go_simp; try with_reducible rfl
            try simp only [Act.put, List.setIfInBounds_toArray, List.set_cons_zero, List.set_cons_succ]
            refine takeW 8 (v := ?v24) rfl (by kernel_rfl) (by kernel_rfl) (by kernel_rfl) (fun _ _ _ h => h) (by rfl) (by assumption) ?hy24 ?rest24
            case hy24 => intro w' hSw; (try dsimp only at hSw); go_simp; try with_reducible rfl
            try simp only [Act.put, List.setIfInBounds_toArray, List.set_cons_zero, List.set_cons_succ]
            refine takeW 9 (v := ?v25) rfl (by kernel_rfl) (by kernel_rfl) (by kernel_rfl) (fun _ _ _ h => h) (by rfl) (by assumption) ?hy25 ?rest25
            case hy25 => intro w' hSw; (try dsimp only at hSw); go_simp; try with_reducible rfl
            try simp only [Act.put, List.setIfInBounds_toArray, List.set_cons_zero, List.set_cons_succ]
            refine takeW 10 (v := ?v26) rfl (by kernel_rfl) (by kernel_rfl) (by kernel_rfl) (fun _ _ _ h => h) (by rfl) (by assumption) ?hy26 ?rest26
            case hy26 => intro w' hSw; (try dsimp only at hSw); go_simp; try with_reducible rfl
            try simp only [Act.put, List.setIfInBounds_toArray, List.set_cons_zero, List.set_cons_succ]
            refine takeW 11 (v := ?v27) rfl (by kernel_rfl) (by kernel_rfl) (by kernel_rfl) (fun _ _ _ h => h) (by rfl) (by assumption) ?hy27 ?rest27
            case hy27 => intro w' hSw; (try dsimp only at hSw); go_simp; try with_reducible rfl
            try simp only [Act.put, List.setIfInBounds_toArray, List.set_cons_zero, List.set_cons_succ]
            refine takeW 12 (v := ?v28) rfl (by kernel_rfl) (by kernel_rfl) (by kernel_rfl) (fun _ _ _ h => h) (by rfl) (by assumption) ?hy28 ?rest28
            case hy28 => intro w' hSw; (try dsimp only at hSw); go_simp; try with_reducible rfl
            try simp only [Act.put, List.setIfInBounds_toArray, List.set_cons_zero, List.set_cons_succ]
            refine takeW 13 (v := ?v29) rfl (by kernel_rfl) (by kernel_rfl) (by kernel_rfl) (fun _ _ _ h => h) (by rfl) (by assumption) ?hy29 ?rest29
            case hy29 => intro w' hSw; (try dsimp only at hSw); go_simp; try with_reducible rfl
            try simp only [Act.put, List.setIfInBounds_toArray, List.set_cons_zero, List.set_cons_succ]
            refine takeW 14 (v := ?v30) rfl (by kernel_rfl) (by kernel_rfl) (by kernel_rfl) (fun _ _ _ h => h) (by rfl) (by assumption) ?hy30 ?rest30
            case hy30 => intro w' hSw; (try dsimp only at hSw); go_simp; try with_reducible rfl
            try simp only [Act.put, List.setIfInBounds_toArray, List.set_cons_zero, List.set_cons_succ]
            refine takeW 15 (v := ?v31) rfl (by kernel_rfl) (by kernel_rfl) (by kernel_rfl) (fun _ _ _ h => h) (by rfl) (by assumption) ?hy31 ?rest31
            case hy31 => intro w' hSw; (try dsimp only at hSw); go_simp; try with_reducible rfl
            try simp only [Act.put, List.setIfInBounds_toArray, List.set_cons_zero, List.set_cons_succ]
            refine takeW 16 (v := ?v32) rfl (by kernel_rfl) (by kernel_rfl) (by kernel_rfl) (fun _ _ _ h => h) (by rfl) (by assumption) ?hy32 ?rest32
            case hy32 => intro w' hSw; (try dsimp only at hSw); go_simp; try with_reducible rfl
            try simp only [Act.put, List.setIfInBounds_toArray, List.set_cons_zero, List.set_cons_succ]
            refine takeW 17 (v := ?v33) rfl (by kernel_rfl) (by kernel_rfl) (by kernel_rfl) (fun _ _ _ h => h) (by rfl) (by assumption) ?hy33 ?rest33
            case hy33 => intro w' hSw; (try dsimp only at hSw); go_simp; try with_reducible rfl
            try simp only [Act.put, List.setIfInBounds_toArray, List.set_cons_zero, List.set_cons_succ]
            refine wpAnyH_done (by kernel_rfl) ?_ _
            have hB2 := below_one hB (below_one ((Below.refl _ wr).alloc (Nat.le_refl _) _) (below_drew1 hB1))
            clear hcn hcb hB1 hHeld
            go_wp2
            go_ret
            exact ⟨ret_bool HR.out.symm, hB2⟩
          · have HR := hid (show tkTo ks (m + 1 + 1) = true by rw [HS.out, HT.out, HA.out, hg, he]; rfl)
            go_wp2_with fail
            refine wp_region_held_drew (S := fun w' => w'.cell? ⟨wr.heap.size, 0, none⟩ = some (.string k.who) ∧ w'.cell? ⟨wr.heap.size, 1, none⟩ = some (.string k.to) ∧ w'.cell? ⟨wr.heap.size, 2, none⟩ = some (.int .i64 k.se) ∧ w'.cell? ⟨wr.heap.size, 3, none⟩ = some (.int .i64 k.fr) ∧ w'.cell? ⟨wr.heap.size, 4, none⟩ = some (.int .i64 k.un) ∧ w'.cell? ⟨b, off + m * 5 + 1, none⟩ = some (.string p.to)) (by kernel_rfl) ?_ (fun hHeld => ?_)
            · go_keep
            refine takeW 0 (v := ?v34) rfl (by kernel_rfl) (by kernel_rfl) (by kernel_rfl) (fun _ _ _ h => h) (by rfl) (by assumption) ?hy34 ?rest34
            case hy34 => intro w' hSw; (try dsimp only at hSw); go_simp; try with_reducible rfl
            try simp only [Act.put, List.setIfInBounds_toArray, List.set_cons_zero, List.set_cons_succ]
            refine takeC 1 (by kernel_rfl) rfl (fun K hK => ?_)
            go_simp
            refine (l3Link_any k _ hs1 hs2).mono ?_; rintro e w1 ⟨he1, hB1⟩; rw [hg] at he1; subst he1; have hcn := fun o => hB1.cell (p := ⟨wr.heap.size, o, none⟩) (by simp); have hcb := fun o => cell_old hB1 (b := b) (i := o) hb
            refine hK.out _ _ ?_ (fun hHeld => ?_)
            · go_keep
            clear hK K
            try simp only [Act.put, List.setIfInBounds_toArray, List.set_cons_zero, List.set_cons_succ]
            refine takeW 2 (v := ?v35) rfl (by kernel_rfl) (by kernel_rfl) (by kernel_rfl) (fun _ _ _ h => h) (by rfl) (by assumption) ?hy35 ?rest35
            case hy35 => intro w' hSw; (try dsimp only at hSw); go_simp; try with_reducible rfl
            try simp only [Act.put, List.setIfInBounds_toArray, List.set_cons_zero, List.set_cons_succ]
            refine takeW 3 (v := ?v36) rfl (by kernel_rfl) (by kernel_rfl) (by kernel_rfl) (fun _ _ _ h => h) (by rfl) (by assumption) ?hy36 ?rest36
            case hy36 => intro w' hSw; (try dsimp only at hSw); go_simp; try with_reducible rfl
            try simp only [Act.put, List.setIfInBounds_toArray, List.set_cons_zero, List.set_cons_succ]
            refine takeW 4 (v := ?v37) rfl (by kernel_rfl) (by kernel_rfl) (by kernel_rfl) (fun _ _ _ h => h) (by rfl) (by assumption) ?hy37 ?rest37
            case hy37 => intro w' hSw; (try dsimp only at hSw); go_simp; try with_reducible rfl
            try simp only [Act.put, List.setIfInBounds_toArray, List.set_cons_zero, List.set_cons_succ]
            refine takeW 5 (v := ?v38) rfl (by kernel_rfl) (by kernel_rfl) (by kernel_rfl) (fun _ _ _ h => h) (by rfl) (by assumption) ?hy38 ?rest38
            case hy38 => intro w' hSw; (try dsimp only at hSw); go_simp; try with_reducible rfl
            try simp only [Act.put, List.setIfInBounds_toArray, List.set_cons_zero, List.set_cons_succ]
            refine takeW 6 (v := ?v39) rfl (by kernel_rfl) (by kernel_rfl) (by kernel_rfl) (fun _ _ _ h => h) (by rfl) (by assumption) ?hy39 ?rest39
            case hy39 => intro w' hSw; (try dsimp only at hSw); go_simp; try with_reducible rfl
            try simp only [Act.put, List.setIfInBounds_toArray, List.set_cons_zero, List.set_cons_succ]
            refine takeW 7 (v := ?v40) rfl (by kernel_rfl) (by kernel_rfl) (by kernel_rfl) (fun _ _ _ h => h) (by rfl) (by assumption) ?hy40 ?rest40
            case hy40 => intro w' hSw; (try dsimp only at hSw); go_simp; try with_reducible rfl
            try simp only [Act.put, List.setIfInBounds_toArray, List.set_cons_zero, List.set_cons_succ]
            refine takeW 8 (v := ?v41) rfl (by kernel_rfl) (by kernel_rfl) (by kernel_rfl) (fun _ _ _ h => h) (by rfl) (by assumption) ?hy41 ?rest41
            case hy41 => intro w' hSw; (try dsimp only at hSw); go_simp; try with_reducible rfl
            try simp only [Act.put, List.setIfInBounds_toArray, List.set_cons_zero, List.set_cons_succ]
            refine takeW 9 (v := ?v42) rfl (by kernel_rfl) (by kernel_rfl) (by kernel_rfl) (fun _ _ _ h => h) (by rfl) (by assumption) ?hy42 ?rest42
            case hy42 => intro w' hSw; (try dsimp only at hSw); go_simp; try with_reducible rfl
            try simp only [Act.put, List.setIfInBounds_toArray, List.set_cons_zero, List.set_cons_succ]
            refine takeW 10 (v := ?v43) rfl (by kernel_rfl) (by kernel_rfl) (by kernel_rfl) (fun _ _ _ h => h) (by rfl) (by assumption) ?hy43 ?rest43
            case hy43 => intro w' hSw; (try dsimp only at hSw); go_simp; try with_reducible rfl
            try simp only [Act.put, List.setIfInBounds_toArray, List.set_cons_zero, List.set_cons_succ]
            refine takeW 11 (v := ?v44) rfl (by kernel_rfl) (by kernel_rfl) (by kernel_rfl) (fun _ _ _ h => h) (by rfl) (by assumption) ?hy44 ?rest44
            case hy44 => intro w' hSw; (try dsimp only at hSw); go_simp; try with_reducible rfl
            try simp only [Act.put, List.setIfInBounds_toArray, List.set_cons_zero, List.set_cons_succ]
            refine takeW 12 (v := ?v45) rfl (by kernel_rfl) (by kernel_rfl) (by kernel_rfl) (fun _ _ _ h => h) (by rfl) (by assumption) ?hy45 ?rest45
            case hy45 => intro w' hSw; (try dsimp only at hSw); go_simp; try with_reducible rfl
            try simp only [Act.put, List.setIfInBounds_toArray, List.set_cons_zero, List.set_cons_succ]
            refine takeW 13 (v := ?v46) rfl (by kernel_rfl) (by kernel_rfl) (by kernel_rfl) (fun _ _ _ h => h) (by rfl) (by assumption) ?hy46 ?rest46
            case hy46 => intro w' hSw; (try dsimp only at hSw); go_simp; try with_reducible rfl
            try simp only [Act.put, List.setIfInBounds_toArray, List.set_cons_zero, List.set_cons_succ]
            refine takeW 14 (v := ?v47) rfl (by kernel_rfl) (by kernel_rfl) (by kernel_rfl) (fun _ _ _ h => h) (by rfl) (by assumption) ?hy47 ?rest47
            case hy47 => intro w' hSw; (try dsimp only at hSw); go_simp; try with_reducible rfl
            try simp only [Act.put, List.setIfInBounds_toArray, List.set_cons_zero, List.set_cons_succ]
            refine takeW 15 (v := ?v48) rfl (by kernel_rfl) (by kernel_rfl) (by kernel_rfl) (fun _ _ _ h => h) (by rfl) (by assumption) ?hy48 ?rest48
            case hy48 => intro w' hSw; (try dsimp only at hSw); go_simp; try with_reducible rfl
            try simp only [Act.put, List.setIfInBounds_toArray, List.set_cons_zero, List.set_cons_succ]
            refine takeW 16 (v := ?v49) rfl (by kernel_rfl) (by kernel_rfl) (by kernel_rfl) (fun _ _ _ h => h) (by rfl) (by assumption) ?hy49 ?rest49
            case hy49 => intro w' hSw; (try dsimp only at hSw); go_simp; try with_reducible rfl
            try simp only [Act.put, List.setIfInBounds_toArray, List.set_cons_zero, List.set_cons_succ]
            refine takeW 17 (v := ?v50) rfl (by kernel_rfl) (by kernel_rfl) (by kernel_rfl) (fun _ _ _ h => h) (by rfl) (by assumption) ?hy50 ?rest50
            case hy50 => intro w' hSw; (try dsimp only at hSw); go_simp; try with_reducible rfl
            try simp only [Act.put, List.setIfInBounds_toArray, List.set_cons_zero, List.set_cons_succ]
            refine wpAnyH_done (by kernel_rfl) ?_ _
            have hB2 := below_one hB (below_one ((Below.refl _ wr).alloc (Nat.le_refl _) _) (below_drew1 hB1))
            clear hcn hcb hB1 hHeld
            go_wp2
            go_roundw
            case rel => first | exact ⟨m + 1 + 1, by omega, by go_num, HR.out, hB2⟩ | ((repeat apply Exists.intro); exact ⟨⟨m + 1 + 1, by omega, by go_num, HR.out, hB2⟩, rfl⟩)
            case measure => simp [intOf]; omega
    · obtain rfl : n = ks.length := by omega
      have HR := hid (show inB 1 6 (ks.length : Int) = tkB ks by
        rw [tk_end HT.out]
        unfold inB
        rw [decide_eq_decide]
        omega)
      go_wp2_with (go_at_call 54; refine (l1In_any _ 1 6 _).mono ?_; rintro e w1 ⟨rfl, rfl⟩)
      go_ret
      exact ⟨ret_bool HR.out, hB⟩

theorem specGoodToken_any (v : Value) (ks : List Lk) (w : World) (hm : ks.length ≤ 1048577) (hf : ∀ k ∈ ks, k.size ≤ 1048576) (hr : LkS w v ks) :
    Calls Tryz.prog 72 #[v] w fun e w' => e = .returned (.bool (tkB ks)) ∧ Below w.heap.size w w' :=
  specGoodToken_fit v ks w hm (fun k hk => by have := hf k hk; unfold Lk.size at this; omega) hr

end Go.Proofs.YtallpldgkkpikaaGreatDoor

namespace Go.Proofs.YtallpldgkkpikaaGreatDoor
open Go.RowKit Go.Shelf

set_option maxHeartbeats 4000000 in
theorem implGoodToken_fit (v : Value) (ks : List Lk) (w : World) (hm : ks.length ≤ 1048577) (hf : ∀ k ∈ ks, k.who.size ≤ 1048576 ∧ k.to.size ≤ 1048576) (hr : LkS w v ks) :
    Calls Tryz.prog 61 #[v] w fun e w' => e = .returned (.bool (tkB ks)) ∧ Below w.heap.size w w' := by
  obtain ⟨a, cap, rfl⟩ := hr.len
  by_cases c1 : 1 ≤ ks.length
  · by_cases c2 : ks.length ≤ 6
    · have d1 : decide ((ks.length : Int) < 1) = false := by simp; omega
      have d2 : decide (6 < (ks.length : Int)) = false := by simp; omega
      go_enter Tryz.func61, Tryz.ntmps61
      go_wp2
      go_loopw [16] (fun i wr => ∃ n : Nat, n ≤ ks.length ∧ i = .int .i64 n ∧ tkTo ks n = true ∧ Below w.heap.size w wr) (fun i _ => ks.length - (intOf i).toNat)
      case atStart => exact ⟨0, Nat.zero_le _, rfl, tkTo_zero _, Below.refl _ _⟩
      case round =>
        obtain ⟨n, hn, rfl, ht, hB⟩ := hrel
        have HT := hid ht
        clear ht
        by_cases hlt : n < ks.length
        · obtain ⟨b, off, rfl, hb, hcap, q0, q1, q2, q3, q4⟩ := (hr.below hB).at hlt
          have hz := hf ks[n] (List.getElem_mem hlt)
          have HS := hid (tkTo_succ ks n)
          have HBd := hid (fun h => tk_bad (ks := ks) (n := n) hlt h)
          by_cases hn0 : n = 0
          · have HA := hid (show lkAt ks n = ks[n].good by subst hn0; exact lkAt_zero hlt)
            have dn : decide (0 < n) = false := by simp; omega
            clear hn0
            generalize ks[n] = k at *
            have hs1 : k.who.size ≤ 1048576 := hz.1
            have hs2 : k.to.size ≤ 1048576 := hz.2
            cases hg : k.good
            · have HR := hid (HBd.out (by rw [HA.out, hg]))
              go_wp2_with fail
              refine (hopOf_any k _).mono ?_
              rintro e W ⟨rfl, hW⟩
              have hBW := below_one hB (below_one ((Below.refl _ wr).alloc (Nat.le_refl _) _) hW)
              have hb1 : b < W.heap.size := by have := hW.size; simp at this; omega
              clear hW q0 q1 q2 q3 q4
              go_wp2_with fail
              refine wp_region_held_drew (S := fun w' => w'.cell? ⟨W.heap.size, 0, none⟩ = some (.string k.who) ∧ w'.cell? ⟨W.heap.size, 1, none⟩ = some (.string k.to) ∧ w'.cell? ⟨W.heap.size, 2, none⟩ = some (.int .i64 k.fr) ∧ w'.cell? ⟨W.heap.size, 3, none⟩ = some (.int .i64 k.un) ∧ w'.cell? ⟨W.heap.size, 4, none⟩ = some (.int .i64 k.se)) (by kernel_rfl) ?_ (fun hHeld => ?_)
              · go_keep
              refine takeW 0 (v := ?v1) rfl (by kernel_rfl) (by kernel_rfl) (by kernel_rfl) (fun _ _ _ h => h) (by rfl) (by assumption) ?hy1 ?rest1
              case hy1 => intro w' hSw; (try dsimp only at hSw); go_simp; try with_reducible rfl
              try simp only [Act.put, List.setIfInBounds_toArray, List.set_cons_zero, List.set_cons_succ]
              refine takeC 1 (by kernel_rfl) rfl (fun K hK => ?_)
              go_simp
              refine (hopGood_any k _ hs1 hs2).mono ?_; rintro e w1 ⟨he1, hB1⟩; rw [hg] at he1; subst he1; have hcn := fun o => hB1.cell (p := ⟨W.heap.size, o, none⟩) (by simp); have hcb := fun o => cell_old hB1 (b := b) (i := o) hb1
              refine hK.out _ _ ?_ (fun hHeld => ?_)
              · go_keep
              clear hK K
              try simp only [Act.put, List.setIfInBounds_toArray, List.set_cons_zero, List.set_cons_succ]
              refine takeW 2 (v := ?v2) rfl (by kernel_rfl) (by kernel_rfl) (by kernel_rfl) (fun _ _ _ h => h) (by rfl) (by assumption) ?hy2 ?rest2
              case hy2 => intro w' hSw; (try dsimp only at hSw); go_simp; try with_reducible rfl
              try simp only [Act.put, List.setIfInBounds_toArray, List.set_cons_zero, List.set_cons_succ]
              refine takeW 3 (v := ?v3) rfl (by kernel_rfl) (by kernel_rfl) (by kernel_rfl) (fun _ _ _ h => h) (by rfl) (by assumption) ?hy3 ?rest3
              case hy3 => intro w' hSw; (try dsimp only at hSw); go_simp; try with_reducible rfl
              try simp only [Act.put, List.setIfInBounds_toArray, List.set_cons_zero, List.set_cons_succ]
              refine takeX 4 rfl (by kernel_rfl) (by kernel_rfl) (by kernel_rfl) (fun _ _ _ h => h) (by rfl) (by assumption) ?_
              try simp only [Act.put, List.setIfInBounds_toArray, List.set_cons_zero, List.set_cons_succ]
              refine takeX 5 rfl (by kernel_rfl) (by kernel_rfl) (by kernel_rfl) (fun _ _ _ h => h) (by rfl) (by assumption) ?_
              try simp only [Act.put, List.setIfInBounds_toArray, List.set_cons_zero, List.set_cons_succ]
              refine takeX 6 rfl (by kernel_rfl) (by kernel_rfl) (by kernel_rfl) (fun _ _ _ h => h) (by rfl) (by assumption) ?_
              try simp only [Act.put, List.setIfInBounds_toArray, List.set_cons_zero, List.set_cons_succ]
              refine takeX 7 rfl (by kernel_rfl) (by kernel_rfl) (by kernel_rfl) (fun _ _ _ h => h) (by rfl) (by assumption) ?_
              try simp only [Act.put, List.setIfInBounds_toArray, List.set_cons_zero, List.set_cons_succ]
              refine takeX 8 rfl (by kernel_rfl) (by kernel_rfl) (by kernel_rfl) (fun _ _ _ h => h) (by rfl) (by assumption) ?_
              try simp only [Act.put, List.setIfInBounds_toArray, List.set_cons_zero, List.set_cons_succ]
              refine takeX 9 rfl (by kernel_rfl) (by kernel_rfl) (by kernel_rfl) (fun _ _ _ h => h) (by rfl) (by assumption) ?_
              try simp only [Act.put, List.setIfInBounds_toArray, List.set_cons_zero, List.set_cons_succ]
              refine takeX 10 rfl (by kernel_rfl) (by kernel_rfl) (by kernel_rfl) (fun _ _ _ h => h) (by rfl) (by assumption) ?_
              try simp only [Act.put, List.setIfInBounds_toArray, List.set_cons_zero, List.set_cons_succ]
              refine takeX 11 rfl (by kernel_rfl) (by kernel_rfl) (by kernel_rfl) (fun _ _ _ h => h) (by rfl) (by assumption) ?_
              try simp only [Act.put, List.setIfInBounds_toArray, List.set_cons_zero, List.set_cons_succ]
              refine takeX 12 rfl (by kernel_rfl) (by kernel_rfl) (by kernel_rfl) (fun _ _ _ h => h) (by rfl) (by assumption) ?_
              try simp only [Act.put, List.setIfInBounds_toArray, List.set_cons_zero, List.set_cons_succ]
              refine takeX 13 rfl (by kernel_rfl) (by kernel_rfl) (by kernel_rfl) (fun _ _ _ h => h) (by rfl) (by assumption) ?_
              try simp only [Act.put, List.setIfInBounds_toArray, List.set_cons_zero, List.set_cons_succ]
              refine takeX 14 rfl (by kernel_rfl) (by kernel_rfl) (by kernel_rfl) (fun _ _ _ h => h) (by rfl) (by assumption) ?_
              try simp only [Act.put, List.setIfInBounds_toArray, List.set_cons_zero, List.set_cons_succ]
              refine takeX 15 rfl (by kernel_rfl) (by kernel_rfl) (by kernel_rfl) (fun _ _ _ h => h) (by rfl) (by assumption) ?_
              try simp only [Act.put, List.setIfInBounds_toArray, List.set_cons_zero, List.set_cons_succ]
              refine takeX 16 rfl (by kernel_rfl) (by kernel_rfl) (by kernel_rfl) (fun _ _ _ h => h) (by rfl) (by assumption) ?_
              try simp only [Act.put, List.setIfInBounds_toArray, List.set_cons_zero, List.set_cons_succ]
              refine takeX 17 rfl (by kernel_rfl) (by kernel_rfl) (by kernel_rfl) (fun _ _ _ h => h) (by rfl) (by assumption) ?_
              try simp only [Act.put, List.setIfInBounds_toArray, List.set_cons_zero, List.set_cons_succ]
              refine takeW 18 (v := ?v4) rfl (by kernel_rfl) (by kernel_rfl) (by kernel_rfl) (fun _ _ _ h => h) (by rfl) (by assumption) ?hy4 ?rest4
              case hy4 => intro w' hSw; (try dsimp only at hSw); go_simp; try with_reducible rfl
              try simp only [Act.put, List.setIfInBounds_toArray, List.set_cons_zero, List.set_cons_succ]
              refine wpAnyH_done (by kernel_rfl) ?_ _
              have hB2 := below_one hBW (below_one ((Below.refl _ W).alloc (Nat.le_refl _) _) (below_drew1 hB1))
              clear hcn hcb hB1 hHeld
              go_wp2
              go_ret
              exact ⟨ret_bool HR.out.symm, hB2⟩
            · have HR := hid (show tkTo ks (n + 1) = true by rw [HS.out, HT.out, HA.out, hg]; rfl)
              go_wp2_with fail
              refine (hopOf_any k _).mono ?_
              rintro e W ⟨rfl, hW⟩
              have hBW := below_one hB (below_one ((Below.refl _ wr).alloc (Nat.le_refl _) _) hW)
              have hb1 : b < W.heap.size := by have := hW.size; simp at this; omega
              clear hW q0 q1 q2 q3 q4
              go_wp2_with fail
              refine wp_region_held_drew (S := fun w' => w'.cell? ⟨W.heap.size, 0, none⟩ = some (.string k.who) ∧ w'.cell? ⟨W.heap.size, 1, none⟩ = some (.string k.to) ∧ w'.cell? ⟨W.heap.size, 2, none⟩ = some (.int .i64 k.fr) ∧ w'.cell? ⟨W.heap.size, 3, none⟩ = some (.int .i64 k.un) ∧ w'.cell? ⟨W.heap.size, 4, none⟩ = some (.int .i64 k.se)) (by kernel_rfl) ?_ (fun hHeld => ?_)
              · go_keep
              refine takeW 0 (v := ?v5) rfl (by kernel_rfl) (by kernel_rfl) (by kernel_rfl) (fun _ _ _ h => h) (by rfl) (by assumption) ?hy5 ?rest5
              case hy5 => intro w' hSw; (try dsimp only at hSw); go_simp; try with_reducible rfl
              try simp only [Act.put, List.setIfInBounds_toArray, List.set_cons_zero, List.set_cons_succ]
              refine takeC 1 (by kernel_rfl) rfl (fun K hK => ?_)
              go_simp
              refine (hopGood_any k _ hs1 hs2).mono ?_; rintro e w1 ⟨he1, hB1⟩; rw [hg] at he1; subst he1; have hcn := fun o => hB1.cell (p := ⟨W.heap.size, o, none⟩) (by simp); have hcb := fun o => cell_old hB1 (b := b) (i := o) hb1
              refine hK.out _ _ ?_ (fun hHeld => ?_)
              · go_keep
              clear hK K
              try simp only [Act.put, List.setIfInBounds_toArray, List.set_cons_zero, List.set_cons_succ]
              refine takeW 2 (v := ?v6) rfl (by kernel_rfl) (by kernel_rfl) (by kernel_rfl) (fun _ _ _ h => h) (by rfl) (by assumption) ?hy6 ?rest6
              case hy6 => intro w' hSw; (try dsimp only at hSw); go_simp; try with_reducible rfl
              try simp only [Act.put, List.setIfInBounds_toArray, List.set_cons_zero, List.set_cons_succ]
              refine takeW 3 (v := ?v7) rfl (by kernel_rfl) (by kernel_rfl) (by kernel_rfl) (fun _ _ _ h => h) (by rfl) (by assumption) ?hy7 ?rest7
              case hy7 => intro w' hSw; (try dsimp only at hSw); go_simp; try with_reducible rfl
              try simp only [Act.put, List.setIfInBounds_toArray, List.set_cons_zero, List.set_cons_succ]
              refine takeW 4 (v := ?v8) rfl (by kernel_rfl) (by kernel_rfl) (by kernel_rfl) (fun _ _ _ h => h) (by rfl) (by assumption) ?hy8 ?rest8
              case hy8 => intro w' hSw; (try dsimp only at hSw); go_simp; try with_reducible rfl
              try simp only [Act.put, List.setIfInBounds_toArray, List.set_cons_zero, List.set_cons_succ]
              refine takeW 5 (v := ?v9) rfl (by kernel_rfl) (by kernel_rfl) (by kernel_rfl) (fun _ _ _ h => h) (by rfl) (by assumption) ?hy9 ?rest9
              case hy9 => intro w' hSw; (try dsimp only at hSw); go_simp; try with_reducible rfl
              try simp only [Act.put, List.setIfInBounds_toArray, List.set_cons_zero, List.set_cons_succ]
              refine takeW 6 (v := ?v10) rfl (by kernel_rfl) (by kernel_rfl) (by kernel_rfl) (fun _ _ _ h => h) (by rfl) (by assumption) ?hy10 ?rest10
              case hy10 => intro w' hSw; (try dsimp only at hSw); go_simp; try with_reducible rfl
              try simp only [Act.put, List.setIfInBounds_toArray, List.set_cons_zero, List.set_cons_succ]
              refine takeX 7 rfl (by kernel_rfl) (by kernel_rfl) (by kernel_rfl) (fun _ _ _ h => h) (by rfl) (by assumption) ?_
              try simp only [Act.put, List.setIfInBounds_toArray, List.set_cons_zero, List.set_cons_succ]
              refine takeX 8 rfl (by kernel_rfl) (by kernel_rfl) (by kernel_rfl) (fun _ _ _ h => h) (by rfl) (by assumption) ?_
              try simp only [Act.put, List.setIfInBounds_toArray, List.set_cons_zero, List.set_cons_succ]
              refine takeX 9 rfl (by kernel_rfl) (by kernel_rfl) (by kernel_rfl) (fun _ _ _ h => h) (by rfl) (by assumption) ?_
              try simp only [Act.put, List.setIfInBounds_toArray, List.set_cons_zero, List.set_cons_succ]
              refine takeX 10 rfl (by kernel_rfl) (by kernel_rfl) (by kernel_rfl) (fun _ _ _ h => h) (by rfl) (by assumption) ?_
              try simp only [Act.put, List.setIfInBounds_toArray, List.set_cons_zero, List.set_cons_succ]
              refine takeX 11 rfl (by kernel_rfl) (by kernel_rfl) (by kernel_rfl) (fun _ _ _ h => h) (by rfl) (by assumption) ?_
              try simp only [Act.put, List.setIfInBounds_toArray, List.set_cons_zero, List.set_cons_succ]
              refine takeX 12 rfl (by kernel_rfl) (by kernel_rfl) (by kernel_rfl) (fun _ _ _ h => h) (by rfl) (by assumption) ?_
              try simp only [Act.put, List.setIfInBounds_toArray, List.set_cons_zero, List.set_cons_succ]
              refine takeX 13 rfl (by kernel_rfl) (by kernel_rfl) (by kernel_rfl) (fun _ _ _ h => h) (by rfl) (by assumption) ?_
              try simp only [Act.put, List.setIfInBounds_toArray, List.set_cons_zero, List.set_cons_succ]
              refine takeX 14 rfl (by kernel_rfl) (by kernel_rfl) (by kernel_rfl) (fun _ _ _ h => h) (by rfl) (by assumption) ?_
              try simp only [Act.put, List.setIfInBounds_toArray, List.set_cons_zero, List.set_cons_succ]
              refine takeX 15 rfl (by kernel_rfl) (by kernel_rfl) (by kernel_rfl) (fun _ _ _ h => h) (by rfl) (by assumption) ?_
              try simp only [Act.put, List.setIfInBounds_toArray, List.set_cons_zero, List.set_cons_succ]
              refine takeX 16 rfl (by kernel_rfl) (by kernel_rfl) (by kernel_rfl) (fun _ _ _ h => h) (by rfl) (by assumption) ?_
              try simp only [Act.put, List.setIfInBounds_toArray, List.set_cons_zero, List.set_cons_succ]
              refine takeW 17 (v := ?v11) rfl (by kernel_rfl) (by kernel_rfl) (by kernel_rfl) (fun _ _ _ h => h) (by rfl) (by assumption) ?hy11 ?rest11
              case hy11 => intro w' hSw; (try dsimp only at hSw); go_simp; try with_reducible rfl
              try simp only [Act.put, List.setIfInBounds_toArray, List.set_cons_zero, List.set_cons_succ]
              refine takeW 18 (v := ?v12) rfl (by kernel_rfl) (by kernel_rfl) (by kernel_rfl) (fun _ _ _ h => h) (by rfl) (by assumption) ?hy12 ?rest12
              case hy12 => intro w' hSw; (try dsimp only at hSw); go_simp; try with_reducible rfl
              try simp only [Act.put, List.setIfInBounds_toArray, List.set_cons_zero, List.set_cons_succ]
              refine wpAnyH_done (by kernel_rfl) ?_ _
              have hB2 := below_one hBW (below_one ((Below.refl _ W).alloc (Nat.le_refl _) _) (below_drew1 hB1))
              clear hcn hcb hB1 hHeld
              go_wp2
              go_roundw
              case rel => first | exact ⟨n + 1, by omega, by go_num, HR.out, hB2⟩ | ((repeat apply Exists.intro); exact ⟨⟨n + 1, by omega, by go_num, HR.out, hB2⟩, rfl⟩)
              case measure => simp [intOf]; omega
          · obtain ⟨m, rfl⟩ : ∃ m, n = m + 1 := ⟨n - 1, by omega⟩
            have hltm : m < ks.length := by omega
            obtain ⟨b', off', he, _, _, _, p1, _, _, _⟩ := (hr.below hB).at hltm
            cases he
            have HA := hid (lkAt_succ hlt)
            generalize ks[m + 1] = k at *
            generalize ks[m] = p at *
            have hs1 : k.who.size ≤ 1048576 := hz.1
            have hs2 : k.to.size ≤ 1048576 := hz.2
            have hw1 : IntKind.i64.wrap (m : Int) = (m : Int) := by rw [IntKind.wrap_i64]; omega
            have hw2 : (m : Int) < (ks.length : Int) := by omega
            cases hg : k.good
            · have HR := hid (HBd.out (by rw [HA.out, hg]; rfl))
              go_wp2_with fail
              refine (hopOf_any k _).mono ?_
              rintro e W ⟨rfl, hW⟩
              have hBW := below_one hB (below_one ((Below.refl _ wr).alloc (Nat.le_refl _) _) hW)
              have hb1 : b < W.heap.size := by have := hW.size; simp at this; omega
              have p2 := (hW.cell (p := ⟨b, off + m * 5 + 1, none⟩) (by simp; omega)).trans ((((Below.refl _ wr).alloc (Nat.le_refl _) _).cell (p := ⟨b, off + m * 5 + 1, none⟩) hb).trans p1)
              clear hW q0 q1 q2 q3 q4 p1
              go_wp2_with fail
              refine wp_region_held_drew (S := fun w' => w'.cell? ⟨W.heap.size, 0, none⟩ = some (.string k.who) ∧ w'.cell? ⟨W.heap.size, 1, none⟩ = some (.string k.to) ∧ w'.cell? ⟨W.heap.size, 2, none⟩ = some (.int .i64 k.fr) ∧ w'.cell? ⟨W.heap.size, 3, none⟩ = some (.int .i64 k.un) ∧ w'.cell? ⟨W.heap.size, 4, none⟩ = some (.int .i64 k.se) ∧ w'.cell? ⟨b, off + m * 5 + 1, none⟩ = some (.string p.to)) (by kernel_rfl) ?_ (fun hHeld => ?_)
              · go_keep
              refine takeW 0 (v := ?v13) rfl (by kernel_rfl) (by kernel_rfl) (by kernel_rfl) (fun _ _ _ h => h) (by rfl) (by assumption) ?hy13 ?rest13
              case hy13 => intro w' hSw; (try dsimp only at hSw); go_simp; try with_reducible rfl
              try simp only [Act.put, List.setIfInBounds_toArray, List.set_cons_zero, List.set_cons_succ]
              refine takeC 1 (by kernel_rfl) rfl (fun K hK => ?_)
              go_simp
              refine (hopGood_any k _ hs1 hs2).mono ?_; rintro e w1 ⟨he1, hB1⟩; rw [hg] at he1; subst he1; have hcn := fun o => hB1.cell (p := ⟨W.heap.size, o, none⟩) (by simp); have hcb := fun o => cell_old hB1 (b := b) (i := o) hb1
              refine hK.out _ _ ?_ (fun hHeld => ?_)
              · go_keep
              clear hK K
              try simp only [Act.put, List.setIfInBounds_toArray, List.set_cons_zero, List.set_cons_succ]
              refine takeW 2 (v := ?v14) rfl (by kernel_rfl) (by kernel_rfl) (by kernel_rfl) (fun _ _ _ h => h) (by rfl) (by assumption) ?hy14 ?rest14
              case hy14 => intro w' hSw; (try dsimp only at hSw); go_simp; try with_reducible rfl
              try simp only [Act.put, List.setIfInBounds_toArray, List.set_cons_zero, List.set_cons_succ]
              refine takeW 3 (v := ?v15) rfl (by kernel_rfl) (by kernel_rfl) (by kernel_rfl) (fun _ _ _ h => h) (by rfl) (by assumption) ?hy15 ?rest15
              case hy15 => intro w' hSw; (try dsimp only at hSw); go_simp; try with_reducible rfl
              try simp only [Act.put, List.setIfInBounds_toArray, List.set_cons_zero, List.set_cons_succ]
              refine takeX 4 rfl (by kernel_rfl) (by kernel_rfl) (by kernel_rfl) (fun _ _ _ h => h) (by rfl) (by assumption) ?_
              try simp only [Act.put, List.setIfInBounds_toArray, List.set_cons_zero, List.set_cons_succ]
              refine takeX 5 rfl (by kernel_rfl) (by kernel_rfl) (by kernel_rfl) (fun _ _ _ h => h) (by rfl) (by assumption) ?_
              try simp only [Act.put, List.setIfInBounds_toArray, List.set_cons_zero, List.set_cons_succ]
              refine takeX 6 rfl (by kernel_rfl) (by kernel_rfl) (by kernel_rfl) (fun _ _ _ h => h) (by rfl) (by assumption) ?_
              try simp only [Act.put, List.setIfInBounds_toArray, List.set_cons_zero, List.set_cons_succ]
              refine takeX 7 rfl (by kernel_rfl) (by kernel_rfl) (by kernel_rfl) (fun _ _ _ h => h) (by rfl) (by assumption) ?_
              try simp only [Act.put, List.setIfInBounds_toArray, List.set_cons_zero, List.set_cons_succ]
              refine takeX 8 rfl (by kernel_rfl) (by kernel_rfl) (by kernel_rfl) (fun _ _ _ h => h) (by rfl) (by assumption) ?_
              try simp only [Act.put, List.setIfInBounds_toArray, List.set_cons_zero, List.set_cons_succ]
              refine takeX 9 rfl (by kernel_rfl) (by kernel_rfl) (by kernel_rfl) (fun _ _ _ h => h) (by rfl) (by assumption) ?_
              try simp only [Act.put, List.setIfInBounds_toArray, List.set_cons_zero, List.set_cons_succ]
              refine takeX 10 rfl (by kernel_rfl) (by kernel_rfl) (by kernel_rfl) (fun _ _ _ h => h) (by rfl) (by assumption) ?_
              try simp only [Act.put, List.setIfInBounds_toArray, List.set_cons_zero, List.set_cons_succ]
              refine takeX 11 rfl (by kernel_rfl) (by kernel_rfl) (by kernel_rfl) (fun _ _ _ h => h) (by rfl) (by assumption) ?_
              try simp only [Act.put, List.setIfInBounds_toArray, List.set_cons_zero, List.set_cons_succ]
              refine takeX 12 rfl (by kernel_rfl) (by kernel_rfl) (by kernel_rfl) (fun _ _ _ h => h) (by rfl) (by assumption) ?_
              try simp only [Act.put, List.setIfInBounds_toArray, List.set_cons_zero, List.set_cons_succ]
              refine takeX 13 rfl (by kernel_rfl) (by kernel_rfl) (by kernel_rfl) (fun _ _ _ h => h) (by rfl) (by assumption) ?_
              try simp only [Act.put, List.setIfInBounds_toArray, List.set_cons_zero, List.set_cons_succ]
              refine takeX 14 rfl (by kernel_rfl) (by kernel_rfl) (by kernel_rfl) (fun _ _ _ h => h) (by rfl) (by assumption) ?_
              try simp only [Act.put, List.setIfInBounds_toArray, List.set_cons_zero, List.set_cons_succ]
              refine takeX 15 rfl (by kernel_rfl) (by kernel_rfl) (by kernel_rfl) (fun _ _ _ h => h) (by rfl) (by assumption) ?_
              try simp only [Act.put, List.setIfInBounds_toArray, List.set_cons_zero, List.set_cons_succ]
              refine takeX 16 rfl (by kernel_rfl) (by kernel_rfl) (by kernel_rfl) (fun _ _ _ h => h) (by rfl) (by assumption) ?_
              try simp only [Act.put, List.setIfInBounds_toArray, List.set_cons_zero, List.set_cons_succ]
              refine takeX 17 rfl (by kernel_rfl) (by kernel_rfl) (by kernel_rfl) (fun _ _ _ h => h) (by rfl) (by assumption) ?_
              try simp only [Act.put, List.setIfInBounds_toArray, List.set_cons_zero, List.set_cons_succ]
              refine takeW 18 (v := ?v16) rfl (by kernel_rfl) (by kernel_rfl) (by kernel_rfl) (fun _ _ _ h => h) (by rfl) (by assumption) ?hy16 ?rest16
              case hy16 => intro w' hSw; (try dsimp only at hSw); go_simp; try with_reducible rfl
              try simp only [Act.put, List.setIfInBounds_toArray, List.set_cons_zero, List.set_cons_succ]
              refine wpAnyH_done (by kernel_rfl) ?_ _
              have hB2 := below_one hBW (below_one ((Below.refl _ W).alloc (Nat.le_refl _) _) (below_drew1 hB1))
              clear hcn hcb hB1 hHeld
              go_wp2
              go_ret
              exact ⟨ret_bool HR.out.symm, hB2⟩
            · cases he : (p.to.toList == k.who.toList)
              · have he2 : (k.who.toList == p.to.toList) = false := by rw [← he]; exact Bool.beq_comm
                have HR := hid (HBd.out (by rw [HA.out, hg, he]; rfl))
                go_wp2_with fail
                refine (hopOf_any k _).mono ?_
                rintro e W ⟨rfl, hW⟩
                have hBW := below_one hB (below_one ((Below.refl _ wr).alloc (Nat.le_refl _) _) hW)
                have hb1 : b < W.heap.size := by have := hW.size; simp at this; omega
                have p2 := (hW.cell (p := ⟨b, off + m * 5 + 1, none⟩) (by simp; omega)).trans ((((Below.refl _ wr).alloc (Nat.le_refl _) _).cell (p := ⟨b, off + m * 5 + 1, none⟩) hb).trans p1)
                clear hW q0 q1 q2 q3 q4 p1
                go_wp2_with fail
                refine wp_region_held_drew (S := fun w' => w'.cell? ⟨W.heap.size, 0, none⟩ = some (.string k.who) ∧ w'.cell? ⟨W.heap.size, 1, none⟩ = some (.string k.to) ∧ w'.cell? ⟨W.heap.size, 2, none⟩ = some (.int .i64 k.fr) ∧ w'.cell? ⟨W.heap.size, 3, none⟩ = some (.int .i64 k.un) ∧ w'.cell? ⟨W.heap.size, 4, none⟩ = some (.int .i64 k.se) ∧ w'.cell? ⟨b, off + m * 5 + 1, none⟩ = some (.string p.to)) (by kernel_rfl) ?_ (fun hHeld => ?_)
                · go_keep
                refine takeW 0 (v := ?v17) rfl (by kernel_rfl) (by kernel_rfl) (by kernel_rfl) (fun _ _ _ h => h) (by rfl) (by assumption) ?hy17 ?rest17
                case hy17 => intro w' hSw; (try dsimp only at hSw); go_simp; try with_reducible rfl
                try simp only [Act.put, List.setIfInBounds_toArray, List.set_cons_zero, List.set_cons_succ]
                refine takeC 1 (by kernel_rfl) rfl (fun K hK => ?_)
                go_simp
                refine (hopGood_any k _ hs1 hs2).mono ?_; rintro e w1 ⟨he1, hB1⟩; rw [hg] at he1; subst he1; have hcn := fun o => hB1.cell (p := ⟨W.heap.size, o, none⟩) (by simp); have hcb := fun o => cell_old hB1 (b := b) (i := o) hb1
                refine hK.out _ _ ?_ (fun hHeld => ?_)
                · go_keep
                clear hK K
                try simp only [Act.put, List.setIfInBounds_toArray, List.set_cons_zero, List.set_cons_succ]
                refine takeW 2 (v := ?v18) rfl (by kernel_rfl) (by kernel_rfl) (by kernel_rfl) (fun _ _ _ h => h) (by rfl) (by assumption) ?hy18 ?rest18
                case hy18 => intro w' hSw; (try dsimp only at hSw); go_simp; try with_reducible rfl
                try simp only [Act.put, List.setIfInBounds_toArray, List.set_cons_zero, List.set_cons_succ]
                refine takeW 3 (v := ?v19) rfl (by kernel_rfl) (by kernel_rfl) (by kernel_rfl) (fun _ _ _ h => h) (by rfl) (by assumption) ?hy19 ?rest19
                case hy19 => intro w' hSw; (try dsimp only at hSw); go_simp; try with_reducible rfl
                try simp only [Act.put, List.setIfInBounds_toArray, List.set_cons_zero, List.set_cons_succ]
                refine takeW 4 (v := ?v20) rfl (by kernel_rfl) (by kernel_rfl) (by kernel_rfl) (fun _ _ _ h => h) (by rfl) (by assumption) ?hy20 ?rest20
                case hy20 => intro w' hSw; (try dsimp only at hSw); go_simp; try with_reducible rfl
                try simp only [Act.put, List.setIfInBounds_toArray, List.set_cons_zero, List.set_cons_succ]
                refine takeW 5 (v := ?v21) rfl (by kernel_rfl) (by kernel_rfl) (by kernel_rfl) (fun _ _ _ h => h) (by rfl) (by assumption) ?hy21 ?rest21
                case hy21 => intro w' hSw; (try dsimp only at hSw); go_simp; try with_reducible rfl
                try simp only [Act.put, List.setIfInBounds_toArray, List.set_cons_zero, List.set_cons_succ]
                refine takeW 6 (v := ?v22) rfl (by kernel_rfl) (by kernel_rfl) (by kernel_rfl) (fun _ _ _ h => h) (by rfl) (by assumption) ?hy22 ?rest22
                case hy22 => intro w' hSw; (try dsimp only at hSw); go_simp; try with_reducible rfl
                try simp only [Act.put, List.setIfInBounds_toArray, List.set_cons_zero, List.set_cons_succ]
                refine takeW 7 (v := ?v23) rfl (by kernel_rfl) (by kernel_rfl) (by kernel_rfl) (fun _ _ _ h => h) (by rfl) (by assumption) ?hy23 ?rest23
                case hy23 => intro w' hSw; (try dsimp only at hSw); go_simp; try with_reducible rfl
                try simp only [Act.put, List.setIfInBounds_toArray, List.set_cons_zero, List.set_cons_succ]
                refine takeW 8 (v := ?v24) rfl (by kernel_rfl) (by kernel_rfl) (by kernel_rfl) (fun _ _ _ h => h) (by rfl) (by assumption) ?hy24 ?rest24
                case hy24 => intro w' hSw; (try dsimp only at hSw); go_simp; try with_reducible rfl
                try simp only [Act.put, List.setIfInBounds_toArray, List.set_cons_zero, List.set_cons_succ]
                refine takeW 9 (v := ?v25) rfl (by kernel_rfl) (by kernel_rfl) (by kernel_rfl) (fun _ _ _ h => h) (by rfl) (by assumption) ?hy25 ?rest25
                case hy25 => intro w' hSw; (try dsimp only at hSw); go_simp; try with_reducible rfl
                try simp only [Act.put, List.setIfInBounds_toArray, List.set_cons_zero, List.set_cons_succ]
                refine takeW 10 (v := ?v26) rfl (by kernel_rfl) (by kernel_rfl) (by kernel_rfl) (fun _ _ _ h => h) (by rfl) (by assumption) ?hy26 ?rest26
                case hy26 => intro w' hSw; (try dsimp only at hSw); go_simp; try with_reducible rfl
                try simp only [Act.put, List.setIfInBounds_toArray, List.set_cons_zero, List.set_cons_succ]
                refine takeW 11 (v := ?v27) rfl (by kernel_rfl) (by kernel_rfl) (by kernel_rfl) (fun _ _ _ h => h) (by rfl) (by assumption) ?hy27 ?rest27
                case hy27 => intro w' hSw; (try dsimp only at hSw); go_simp; try with_reducible rfl
                try simp only [Act.put, List.setIfInBounds_toArray, List.set_cons_zero, List.set_cons_succ]
                refine takeW 12 (v := ?v28) rfl (by kernel_rfl) (by kernel_rfl) (by kernel_rfl) (fun _ _ _ h => h) (by rfl) (by assumption) ?hy28 ?rest28
                case hy28 => intro w' hSw; (try dsimp only at hSw); go_simp; try with_reducible rfl
                try simp only [Act.put, List.setIfInBounds_toArray, List.set_cons_zero, List.set_cons_succ]
                refine takeW 13 (v := ?v29) rfl (by kernel_rfl) (by kernel_rfl) (by kernel_rfl) (fun _ _ _ h => h) (by rfl) (by assumption) ?hy29 ?rest29
                case hy29 => intro w' hSw; (try dsimp only at hSw); go_simp; try with_reducible rfl
                try simp only [Act.put, List.setIfInBounds_toArray, List.set_cons_zero, List.set_cons_succ]
                refine takeW 14 (v := ?v30) rfl (by kernel_rfl) (by kernel_rfl) (by kernel_rfl) (fun _ _ _ h => h) (by rfl) (by assumption) ?hy30 ?rest30
                case hy30 => intro w' hSw; (try dsimp only at hSw); go_simp; try with_reducible rfl
                try simp only [Act.put, List.setIfInBounds_toArray, List.set_cons_zero, List.set_cons_succ]
                refine takeW 15 (v := ?v31) rfl (by kernel_rfl) (by kernel_rfl) (by kernel_rfl) (fun _ _ _ h => h) (by rfl) (by assumption) ?hy31 ?rest31
                case hy31 => intro w' hSw; (try dsimp only at hSw); go_simp; try with_reducible rfl
                try simp only [Act.put, List.setIfInBounds_toArray, List.set_cons_zero, List.set_cons_succ]
                refine takeW 16 (v := ?v32) rfl (by kernel_rfl) (by kernel_rfl) (by kernel_rfl) (fun _ _ _ h => h) (by rfl) (by assumption) ?hy32 ?rest32
                case hy32 => intro w' hSw; (try dsimp only at hSw); go_simp; try with_reducible rfl
                try simp only [Act.put, List.setIfInBounds_toArray, List.set_cons_zero, List.set_cons_succ]
                refine takeW 17 (v := ?v33) rfl (by kernel_rfl) (by kernel_rfl) (by kernel_rfl) (fun _ _ _ h => h) (by rfl) (by assumption) ?hy33 ?rest33
                case hy33 => intro w' hSw; (try dsimp only at hSw); go_simp; try with_reducible rfl
                try simp only [Act.put, List.setIfInBounds_toArray, List.set_cons_zero, List.set_cons_succ]
                refine takeW 18 (v := ?v34) rfl (by kernel_rfl) (by kernel_rfl) (by kernel_rfl) (fun _ _ _ h => h) (by rfl) (by assumption) ?hy34 ?rest34
                case hy34 => intro w' hSw; (try dsimp only at hSw); go_simp; try with_reducible rfl
                try simp only [Act.put, List.setIfInBounds_toArray, List.set_cons_zero, List.set_cons_succ]
                refine wpAnyH_done (by kernel_rfl) ?_ _
                have hB2 := below_one hBW (below_one ((Below.refl _ W).alloc (Nat.le_refl _) _) (below_drew1 hB1))
                clear hcn hcb hB1 hHeld
                go_wp2
                go_ret
                exact ⟨ret_bool HR.out.symm, hB2⟩
              · have he2 : (k.who.toList == p.to.toList) = true := by rw [← he]; exact Bool.beq_comm
                have HR := hid (show tkTo ks (m + 1 + 1) = true by rw [HS.out, HT.out, HA.out, hg, he]; rfl)
                go_wp2_with fail
                refine (hopOf_any k _).mono ?_
                rintro e W ⟨rfl, hW⟩
                have hBW := below_one hB (below_one ((Below.refl _ wr).alloc (Nat.le_refl _) _) hW)
                have hb1 : b < W.heap.size := by have := hW.size; simp at this; omega
                have p2 := (hW.cell (p := ⟨b, off + m * 5 + 1, none⟩) (by simp; omega)).trans ((((Below.refl _ wr).alloc (Nat.le_refl _) _).cell (p := ⟨b, off + m * 5 + 1, none⟩) hb).trans p1)
                clear hW q0 q1 q2 q3 q4 p1
                go_wp2_with fail
                refine wp_region_held_drew (S := fun w' => w'.cell? ⟨W.heap.size, 0, none⟩ = some (.string k.who) ∧ w'.cell? ⟨W.heap.size, 1, none⟩ = some (.string k.to) ∧ w'.cell? ⟨W.heap.size, 2, none⟩ = some (.int .i64 k.fr) ∧ w'.cell? ⟨W.heap.size, 3, none⟩ = some (.int .i64 k.un) ∧ w'.cell? ⟨W.heap.size, 4, none⟩ = some (.int .i64 k.se) ∧ w'.cell? ⟨b, off + m * 5 + 1, none⟩ = some (.string p.to)) (by kernel_rfl) ?_ (fun hHeld => ?_)
                · go_keep
                refine takeW 0 (v := ?v35) rfl (by kernel_rfl) (by kernel_rfl) (by kernel_rfl) (fun _ _ _ h => h) (by rfl) (by assumption) ?hy35 ?rest35
                case hy35 => intro w' hSw; (try dsimp only at hSw); go_simp; try with_reducible rfl
                try simp only [Act.put, List.setIfInBounds_toArray, List.set_cons_zero, List.set_cons_succ]
                refine takeC 1 (by kernel_rfl) rfl (fun K hK => ?_)
                go_simp
                refine (hopGood_any k _ hs1 hs2).mono ?_; rintro e w1 ⟨he1, hB1⟩; rw [hg] at he1; subst he1; have hcn := fun o => hB1.cell (p := ⟨W.heap.size, o, none⟩) (by simp); have hcb := fun o => cell_old hB1 (b := b) (i := o) hb1
                refine hK.out _ _ ?_ (fun hHeld => ?_)
                · go_keep
                clear hK K
                try simp only [Act.put, List.setIfInBounds_toArray, List.set_cons_zero, List.set_cons_succ]
                refine takeW 2 (v := ?v36) rfl (by kernel_rfl) (by kernel_rfl) (by kernel_rfl) (fun _ _ _ h => h) (by rfl) (by assumption) ?hy36 ?rest36
                case hy36 => intro w' hSw; (try dsimp only at hSw); go_simp; try with_reducible rfl
                try simp only [Act.put, List.setIfInBounds_toArray, List.set_cons_zero, List.set_cons_succ]
                refine takeW 3 (v := ?v37) rfl (by kernel_rfl) (by kernel_rfl) (by kernel_rfl) (fun _ _ _ h => h) (by rfl) (by assumption) ?hy37 ?rest37
                case hy37 => intro w' hSw; (try dsimp only at hSw); go_simp; try with_reducible rfl
                try simp only [Act.put, List.setIfInBounds_toArray, List.set_cons_zero, List.set_cons_succ]
                refine takeW 4 (v := ?v38) rfl (by kernel_rfl) (by kernel_rfl) (by kernel_rfl) (fun _ _ _ h => h) (by rfl) (by assumption) ?hy38 ?rest38
                case hy38 => intro w' hSw; (try dsimp only at hSw); go_simp; try with_reducible rfl
                try simp only [Act.put, List.setIfInBounds_toArray, List.set_cons_zero, List.set_cons_succ]
                refine takeW 5 (v := ?v39) rfl (by kernel_rfl) (by kernel_rfl) (by kernel_rfl) (fun _ _ _ h => h) (by rfl) (by assumption) ?hy39 ?rest39
                case hy39 => intro w' hSw; (try dsimp only at hSw); go_simp; try with_reducible rfl
                try simp only [Act.put, List.setIfInBounds_toArray, List.set_cons_zero, List.set_cons_succ]
                refine takeW 6 (v := ?v40) rfl (by kernel_rfl) (by kernel_rfl) (by kernel_rfl) (fun _ _ _ h => h) (by rfl) (by assumption) ?hy40 ?rest40
                case hy40 => intro w' hSw; (try dsimp only at hSw); go_simp; try with_reducible rfl
                try simp only [Act.put, List.setIfInBounds_toArray, List.set_cons_zero, List.set_cons_succ]
                refine takeW 7 (v := ?v41) rfl (by kernel_rfl) (by kernel_rfl) (by kernel_rfl) (fun _ _ _ h => h) (by rfl) (by assumption) ?hy41 ?rest41
                case hy41 => intro w' hSw; (try dsimp only at hSw); go_simp; try with_reducible rfl
                try simp only [Act.put, List.setIfInBounds_toArray, List.set_cons_zero, List.set_cons_succ]
                refine takeW 8 (v := ?v42) rfl (by kernel_rfl) (by kernel_rfl) (by kernel_rfl) (fun _ _ _ h => h) (by rfl) (by assumption) ?hy42 ?rest42
                case hy42 => intro w' hSw; (try dsimp only at hSw); go_simp; try with_reducible rfl
                try simp only [Act.put, List.setIfInBounds_toArray, List.set_cons_zero, List.set_cons_succ]
                refine takeW 9 (v := ?v43) rfl (by kernel_rfl) (by kernel_rfl) (by kernel_rfl) (fun _ _ _ h => h) (by rfl) (by assumption) ?hy43 ?rest43
                case hy43 => intro w' hSw; (try dsimp only at hSw); go_simp; try with_reducible rfl
                try simp only [Act.put, List.setIfInBounds_toArray, List.set_cons_zero, List.set_cons_succ]
                refine takeW 10 (v := ?v44) rfl (by kernel_rfl) (by kernel_rfl) (by kernel_rfl) (fun _ _ _ h => h) (by rfl) (by assumption) ?hy44 ?rest44
                case hy44 => intro w' hSw; (try dsimp only at hSw); go_simp; try with_reducible rfl
                try simp only [Act.put, List.setIfInBounds_toArray, List.set_cons_zero, List.set_cons_succ]
                refine takeW 11 (v := ?v45) rfl (by kernel_rfl) (by kernel_rfl) (by kernel_rfl) (fun _ _ _ h => h) (by rfl) (by assumption) ?hy45 ?rest45
                case hy45 => intro w' hSw; (try dsimp only at hSw); go_simp; try with_reducible rfl
                try simp only [Act.put, List.setIfInBounds_toArray, List.set_cons_zero, List.set_cons_succ]
                refine takeW 12 (v := ?v46) rfl (by kernel_rfl) (by kernel_rfl) (by kernel_rfl) (fun _ _ _ h => h) (by rfl) (by assumption) ?hy46 ?rest46
                case hy46 => intro w' hSw; (try dsimp only at hSw); go_simp; try with_reducible rfl
                try simp only [Act.put, List.setIfInBounds_toArray, List.set_cons_zero, List.set_cons_succ]
                refine takeW 13 (v := ?v47) rfl (by kernel_rfl) (by kernel_rfl) (by kernel_rfl) (fun _ _ _ h => h) (by rfl) (by assumption) ?hy47 ?rest47
                case hy47 => intro w' hSw; (try dsimp only at hSw); go_simp; try with_reducible rfl
                try simp only [Act.put, List.setIfInBounds_toArray, List.set_cons_zero, List.set_cons_succ]
                refine takeW 14 (v := ?v48) rfl (by kernel_rfl) (by kernel_rfl) (by kernel_rfl) (fun _ _ _ h => h) (by rfl) (by assumption) ?hy48 ?rest48
                case hy48 => intro w' hSw; (try dsimp only at hSw); go_simp; try with_reducible rfl
                try simp only [Act.put, List.setIfInBounds_toArray, List.set_cons_zero, List.set_cons_succ]
                refine takeW 15 (v := ?v49) rfl (by kernel_rfl) (by kernel_rfl) (by kernel_rfl) (fun _ _ _ h => h) (by rfl) (by assumption) ?hy49 ?rest49
                case hy49 => intro w' hSw; (try dsimp only at hSw); go_simp; try with_reducible rfl
                try simp only [Act.put, List.setIfInBounds_toArray, List.set_cons_zero, List.set_cons_succ]
                refine takeW 16 (v := ?v50) rfl (by kernel_rfl) (by kernel_rfl) (by kernel_rfl) (fun _ _ _ h => h) (by rfl) (by assumption) ?hy50 ?rest50
                case hy50 => intro w' hSw; (try dsimp only at hSw); go_simp; try with_reducible rfl
                try simp only [Act.put, List.setIfInBounds_toArray, List.set_cons_zero, List.set_cons_succ]
                refine takeW 17 (v := ?v51) rfl (by kernel_rfl) (by kernel_rfl) (by kernel_rfl) (fun _ _ _ h => h) (by rfl) (by assumption) ?hy51 ?rest51
                case hy51 => intro w' hSw; (try dsimp only at hSw); go_simp; try with_reducible rfl
                try simp only [Act.put, List.setIfInBounds_toArray, List.set_cons_zero, List.set_cons_succ]
                refine takeW 18 (v := ?v52) rfl (by kernel_rfl) (by kernel_rfl) (by kernel_rfl) (fun _ _ _ h => h) (by rfl) (by assumption) ?hy52 ?rest52
                case hy52 => intro w' hSw; (try dsimp only at hSw); go_simp; try with_reducible rfl
                try simp only [Act.put, List.setIfInBounds_toArray, List.set_cons_zero, List.set_cons_succ]
                refine wpAnyH_done (by kernel_rfl) ?_ _
                have hB2 := below_one hBW (below_one ((Below.refl _ W).alloc (Nat.le_refl _) _) (below_drew1 hB1))
                clear hcn hcb hB1 hHeld
                go_wp2
                go_roundw
                case rel => first | exact ⟨m + 1 + 1, by omega, by go_num, HR.out, hB2⟩ | ((repeat apply Exists.intro); exact ⟨⟨m + 1 + 1, by omega, by go_num, HR.out, hB2⟩, rfl⟩)
                case measure => simp [intOf]; omega
        · obtain rfl : n = ks.length := by omega
          have HR := hid (show tkB ks = true by rw [tk_end HT.out]; exact decide_eq_true ⟨c1, c2⟩)
          go_wp2
          go_ret
          exact ⟨ret_bool HR.out.symm, hB⟩
    · have HR := hid (show tkB ks = false from tk_len (by omega))
      have d1 : decide ((ks.length : Int) < 1) = false := by simp; omega
      have d2 : decide (6 < (ks.length : Int)) = true := by simp; omega
      go_enter Tryz.func61, Tryz.ntmps61
      go_wp2
      go_ret
      exact ⟨ret_bool HR.out.symm, Below.refl _ _⟩
  · have HR := hid (show tkB ks = false from tk_len (by omega))
    have d1 : decide ((ks.length : Int) < 1) = true := by simp; omega
    go_enter Tryz.func61, Tryz.ntmps61
    go_wp2
    go_ret
    exact ⟨ret_bool HR.out.symm, Below.refl _ _⟩

theorem implGoodToken_any (v : Value) (ks : List Lk) (w : World) (hm : ks.length ≤ 1048577) (hf : ∀ k ∈ ks, k.size ≤ 1048576) (hr : LkS w v ks) :
    Calls Tryz.prog 61 #[v] w fun e w' => e = .returned (.bool (tkB ks)) ∧ Below w.heap.size w w' :=
  implGoodToken_fit v ks w hm (fun k hk => by have := hf k hk; unfold Lk.size at this; omega) hr

end Go.Proofs.YtallpldgkkpikaaGreatDoor

namespace Go.Proofs.YtallpldgkkpikaaGreatDoor
open Go.RowKit Go.Shelf

/-- The library's table of powers of ten is as its text lays it. -/
def Tab (w : World) : Prop := Lib.TabIs Tryz.prog w "internal/strconv.uint64pow10" .u64 Lib.pow10Tab
theorem Tab.on {w w' : World} (h : Tab w) (hB : Below w.heap.size w w') : Tab w' := Lib.tabBelow_of_tabIs h w' hB
theorem Tab.on' {w w' : World} (h : Tab w) (hB : Below w.heap.size w.drew w') : Tab w' := h.on (below_drew1 hB)

theorem itoa_any (n : Int) (w : World) (h0 : -9223372036854775808 ≤ n) (h1 : n ≤ 9223372036854775807) (ht : Tab w) :
    Calls Tryz.prog 75 #[.int .i64 n] w fun e w' => e = .returned (.string (numT n)) ∧ Below w.heap.size w w' := by
  have h := Any.strconv_Itoa Tryz.lays171 n h0 h1 w ht
  refine h.mono ?_
  rintro e w' ⟨rfl, k, os, rfl⟩
  exact ⟨rfl, Lib.below_grow _ _ (Nat.le_refl _) k os⟩

end Go.Proofs.YtallpldgkkpikaaGreatDoor

namespace Go.Proofs.YtallpldgkkpikaaGreatDoor
open Go.RowKit Go.Shelf

theorem text_len (k : Lk) (h : k.good = true) : k.text.size ≤ k.size + 23 := by
  obtain ⟨_, _, h3, h4, h5, _⟩ := (Lk.good_iff k).1 h
  have a1 := (itoa_len6 (show 0 ≤ k.se by omega) (by omega)).2
  have a2 := (itoa_len6 (show 0 ≤ k.fr by omega) (by omega)).2
  have a3 := (itoa_len6 (show 0 ≤ k.un by omega) (by omega)).2
  unfold Lk.text Lk.size
  simp only [ByteArray.size_append, numT_size, show (⟨#[32]⟩ : ByteArray).size = 1 from rfl, show (⟨#[59]⟩ : ByteArray).size = 1 from rfl]
  omega
theorem tkT_size {ks : List Lk} (hg : ∀ k ∈ ks, k.good = true) (hf : ∀ k ∈ ks, k.size ≤ 1048576) : ∀ n, n ≤ ks.length → (tkT (ks.take n)).size ≤ n * 1048600
  | 0, _ => by simp [tkT, tkL]; rfl
  | n + 1, hn => by
    have ih := tkT_size hg hf n (by omega)
    have hm := List.getElem_mem (show n < ks.length by omega)
    have h1 := text_len ks[n] (hg _ hm)
    have h2 := hf _ hm
    rw [tkT_succ (by omega), ByteArray.size_append]
    omega

set_option maxHeartbeats 4000000 in
theorem l3Text_any (v : Value) (ks : List Lk) (w : World) (hm : ks.length ≤ 1048577) (hg : ∀ k ∈ ks, k.good = true) (hf : ∀ k ∈ ks, k.size ≤ 1048576) (hr : LkS w v ks) :
    Calls Tryz.prog 58 #[v] w fun e w' => e = .returned (.string (tkT ks)) ∧ Below w.heap.size w w' := by
  obtain ⟨a, cap, rfl⟩ := hr.len
  have HZ := hid (fun n hn => tkT_size hg hf n hn)
  go_enter Tryz.func58, Tryz.ntmps58
  go_wp2
  go_loopw [3, 8] (fun s i wr => ∃ n : Nat, n ≤ ks.length ∧ s = .string (tkT (ks.take n)) ∧ i = .int .i64 n ∧ Below w.heap.size w wr) (fun _ i _ => ks.length - (intOf i).toNat)
  case atStart => exact ⟨0, Nat.zero_le _, by rw [List.take_zero, tkT_nil], rfl, Below.refl _ _⟩
  case round =>
    obtain ⟨n, hn, rfl, rfl, hB⟩ := hrel
    by_cases hlt : n < ks.length
    · obtain ⟨b, off, rfl, hb, hcap, q0, q1, q2, q3, q4⟩ := (hr.below hB).at hlt
      have hz := hf ks[n] (List.getElem_mem hlt)
      obtain ⟨_, _, b3, b4, b5, _⟩ := (Lk.good_iff ks[n]).1 (hg ks[n] (List.getElem_mem hlt))
      have hs := HZ.out n hn
      have hs2 : n * 1048600 ≤ 2000000000000 := by omega
      have HT := hid (tkT_succ hlt)
      generalize ks[n] = k at *
      generalize tkT (ks.take n) = s at *
      have h1n := fun W => l1Num_any k.se W (by omega) (by omega)
      have h2n := fun W => l1Num_any k.fr W (by omega) (by omega)
      have h3n := fun W => l1Num_any k.un W (by omega) (by omega)
      have z1 := (itoa_len6 (show 0 ≤ k.se by omega) (by omega)).2
      have z2 := (itoa_len6 (show 0 ≤ k.fr by omega) (by omega)).2
      have z3 := (itoa_len6 (show 0 ≤ k.un by omega) (by omega)).2
      rw [← numT_size] at z1 z2 z3
      have HX := hid (show k.text = k.who ++ ⟨#[32]⟩ ++ k.to ++ ⟨#[32]⟩ ++ numT k.se ++ ⟨#[32]⟩ ++ numT k.fr ++ ⟨#[32]⟩ ++ numT k.un ++ ⟨#[59]⟩ from rfl)
      generalize numT k.se = x1 at *
      generalize numT k.fr = x2 at *
      generalize numT k.un = x3 at *
      unfold Lk.size at hz
      have g1 : ¬9223372036854775807 < k.who.size + 1 := by omega
      have g2 : ¬9223372036854775807 < k.who.size + 1 + k.to.size := by omega
      have g3 : ¬9223372036854775807 < k.who.size + 1 + k.to.size + 1 := by omega
      have g4 : ¬9223372036854775807 < k.who.size + 1 + k.to.size + 1 + x1.size := by omega
      have g5 : ¬9223372036854775807 < k.who.size + 1 + k.to.size + 1 + x1.size + 1 := by omega
      have g6 : ¬9223372036854775807 < k.who.size + 1 + k.to.size + 1 + x1.size + 1 + x2.size := by omega
      have g7 : ¬9223372036854775807 < k.who.size + 1 + k.to.size + 1 + x1.size + 1 + x2.size + 1 := by omega
      have g8 : ¬9223372036854775807 < k.who.size + 1 + k.to.size + 1 + x1.size + 1 + x2.size + 1 + x3.size := by omega
      have g9 : ¬9223372036854775807 < k.who.size + 1 + k.to.size + 1 + x1.size + 1 + x2.size + 1 + x3.size + 1 := by omega
      have g10 : ¬9223372036854775807 < s.size + (k.who.size + 1 + k.to.size + 1 + x1.size + 1 + x2.size + 1 + x3.size + 1) := by omega
      have hBa : Below w.heap.size w (wr.alloc (.cells #[.string k.who, .string k.to, .int .i64 k.se, .int .i64 k.fr, .int .i64 k.un] 38)) := hB.alloc hB.size _
      go_wp2_with fail
      refine wp_region_held_drew (S := fun w' => w'.cell? ⟨wr.heap.size, 0, none⟩ = some (.string k.who) ∧ w'.cell? ⟨wr.heap.size, 1, none⟩ = some (.string k.to) ∧ w'.cell? ⟨wr.heap.size, 2, none⟩ = some (.int .i64 k.se) ∧ w'.cell? ⟨wr.heap.size, 3, none⟩ = some (.int .i64 k.fr) ∧ w'.cell? ⟨wr.heap.size, 4, none⟩ = some (.int .i64 k.un)) (by kernel_rfl) ?_ (fun hHeld => ?_)
      · go_keep
      refine takeW 0 (v := ?v1) rfl (by kernel_rfl) (by kernel_rfl) (by kernel_rfl) (fun _ _ _ h => h) (by rfl) (by assumption) ?hy1 ?rest1
      case hy1 => intro w' hSw; (try dsimp only at hSw); go_simp; try with_reducible rfl
      try simp only [Act.put, List.setIfInBounds_toArray, List.set_cons_zero, List.set_cons_succ]
      refine takeW 1 (v := ?v2) rfl (by kernel_rfl) (by kernel_rfl) (by kernel_rfl) (fun _ _ _ h => h) (by rfl) (by assumption) ?hy2 ?rest2
      case hy2 => intro w' hSw; (try dsimp only at hSw); go_simp; try with_reducible rfl
      try simp only [Act.put, List.setIfInBounds_toArray, List.set_cons_zero, List.set_cons_succ]
      refine takeW 2 (v := ?v3) rfl (by kernel_rfl) (by kernel_rfl) (by kernel_rfl) (fun _ _ _ h => h) (by rfl) (by assumption) ?hy3 ?rest3
      case hy3 => intro w' hSw; (try dsimp only at hSw); go_simp; try with_reducible rfl
      try simp only [Act.put, List.setIfInBounds_toArray, List.set_cons_zero, List.set_cons_succ]
      refine takeW 3 (v := ?v4) rfl (by kernel_rfl) (by kernel_rfl) (by kernel_rfl) (fun _ _ _ h => h) (by rfl) (by assumption) ?hy4 ?rest4
      case hy4 => intro w' hSw; (try dsimp only at hSw); go_simp; try with_reducible rfl
      try simp only [Act.put, List.setIfInBounds_toArray, List.set_cons_zero, List.set_cons_succ]
      refine takeW 4 (v := ?v5) rfl (by kernel_rfl) (by kernel_rfl) (by kernel_rfl) (fun _ _ _ h => h) (by rfl) (by assumption) ?hy5 ?rest5
      case hy5 => intro w' hSw; (try dsimp only at hSw); go_simp; try with_reducible rfl
      try simp only [Act.put, List.setIfInBounds_toArray, List.set_cons_zero, List.set_cons_succ]
      refine takeW 5 (v := ?v6) rfl (by kernel_rfl) (by kernel_rfl) (by kernel_rfl) (fun _ _ _ h => h) (by rfl) (by assumption) ?hy6 ?rest6
      case hy6 => intro w' hSw; (try dsimp only at hSw); go_simp; try with_reducible rfl
      try simp only [Act.put, List.setIfInBounds_toArray, List.set_cons_zero, List.set_cons_succ]
      refine takeW 6 (v := ?v7) rfl (by kernel_rfl) (by kernel_rfl) (by kernel_rfl) (fun _ _ _ h => h) (by rfl) (by assumption) ?hy7 ?rest7
      case hy7 => intro w' hSw; (try dsimp only at hSw); go_simp; try with_reducible rfl
      try simp only [Act.put, List.setIfInBounds_toArray, List.set_cons_zero, List.set_cons_succ]
      refine takeW 7 (v := ?v8) rfl (by kernel_rfl) (by kernel_rfl) (by kernel_rfl) (fun _ _ _ h => h) (by rfl) (by assumption) ?hy8 ?rest8
      case hy8 => intro w' hSw; (try dsimp only at hSw); go_simp; try with_reducible rfl
      try simp only [Act.put, List.setIfInBounds_toArray, List.set_cons_zero, List.set_cons_succ]
      refine takeW 8 (v := ?v9) rfl (by kernel_rfl) (by kernel_rfl) (by kernel_rfl) (fun _ _ _ h => h) (by rfl) (by assumption) ?hy9 ?rest9
      case hy9 => intro w' hSw; (try dsimp only at hSw); go_simp; try with_reducible rfl
      try simp only [Act.put, List.setIfInBounds_toArray, List.set_cons_zero, List.set_cons_succ]
      refine takeW 9 (v := ?v10) rfl (by kernel_rfl) (by kernel_rfl) (by kernel_rfl) (fun _ _ _ h => h) (by rfl) (by assumption) ?hy10 ?rest10
      case hy10 => intro w' hSw; (try dsimp only at hSw); go_simp; try with_reducible rfl
      try simp only [Act.put, List.setIfInBounds_toArray, List.set_cons_zero, List.set_cons_succ]
      refine takeW 13 (v := ?v11) rfl (by kernel_rfl) (by kernel_rfl) (by kernel_rfl) (fun _ _ _ h => h) (by rfl) (by assumption) ?hy11 ?rest11
      case hy11 => intro w' hSw; (try dsimp only at hSw); go_simp; try with_reducible rfl
      try simp only [Act.put, List.setIfInBounds_toArray, List.set_cons_zero, List.set_cons_succ]
      refine takeW 14 (v := ?v12) rfl (by kernel_rfl) (by kernel_rfl) (by kernel_rfl) (fun _ _ _ h => h) (by rfl) (by assumption) ?hy12 ?rest12
      case hy12 => intro w' hSw; (try dsimp only at hSw); go_simp; try with_reducible rfl
      try simp only [Act.put, List.setIfInBounds_toArray, List.set_cons_zero, List.set_cons_succ]
      refine takeW 18 (v := ?v13) rfl (by kernel_rfl) (by kernel_rfl) (by kernel_rfl) (fun _ _ _ h => h) (by rfl) (by assumption) ?hy13 ?rest13
      case hy13 => intro w' hSw; (try dsimp only at hSw); go_simp; try with_reducible rfl
      try simp only [Act.put, List.setIfInBounds_toArray, List.set_cons_zero, List.set_cons_succ]
      refine takeW 19 (v := ?v14) rfl (by kernel_rfl) (by kernel_rfl) (by kernel_rfl) (fun _ _ _ h => h) (by rfl) (by assumption) ?hy14 ?rest14
      case hy14 => intro w' hSw; (try dsimp only at hSw); go_simp; try with_reducible rfl
      try simp only [Act.put, List.setIfInBounds_toArray, List.set_cons_zero, List.set_cons_succ]
      refine takeC 10 (by kernel_rfl) rfl (fun K hK => ?_)
      go_simp
      refine (h1n _).mono ?_; rintro e w1 ⟨rfl, hB1⟩; have hc1 := fun o => hB1.cell (p := ⟨wr.heap.size, o, none⟩) (by simp); have hz1 : wr.heap.size < w1.heap.size := by have := hB1.size; simp at this; omega
      refine hK.out _ _ ?_ (fun hHeld => ?_)
      · go_keep
      clear hK K
      try simp only [Act.put, List.setIfInBounds_toArray, List.set_cons_zero, List.set_cons_succ]
      refine takeW 11 (v := ?v15) rfl (by kernel_rfl) (by kernel_rfl) (by kernel_rfl) (fun _ _ _ h => h) (by rfl) (by assumption) ?hy15 ?rest15
      case hy15 => intro w' hSw; (try dsimp only at hSw); go_simp; try with_reducible rfl
      try simp only [Act.put, List.setIfInBounds_toArray, List.set_cons_zero, List.set_cons_succ]
      refine takeW 12 (v := ?v16) rfl (by kernel_rfl) (by kernel_rfl) (by kernel_rfl) (fun _ _ _ h => h) (by rfl) (by assumption) ?hy16 ?rest16
      case hy16 => intro w' hSw; (try dsimp only at hSw); go_simp; try with_reducible rfl
      try simp only [Act.put, List.setIfInBounds_toArray, List.set_cons_zero, List.set_cons_succ]
      refine takeC 15 (by kernel_rfl) rfl (fun K hK => ?_)
      go_simp
      refine (h2n _).mono ?_; rintro e w2 ⟨rfl, hB2⟩; have hc2 := fun o => hB2.cell (p := ⟨wr.heap.size, o, none⟩) hz1; have hz2 : wr.heap.size < w2.heap.size := by have := hB2.size; omega
      refine hK.out _ _ ?_ (fun hHeld => ?_)
      · go_keep
      clear hK K
      try simp only [Act.put, List.setIfInBounds_toArray, List.set_cons_zero, List.set_cons_succ]
      refine takeW 16 (v := ?v17) rfl (by kernel_rfl) (by kernel_rfl) (by kernel_rfl) (fun _ _ _ h => h) (by rfl) (by assumption) ?hy17 ?rest17
      case hy17 => intro w' hSw; (try dsimp only at hSw); go_simp; try with_reducible rfl
      try simp only [Act.put, List.setIfInBounds_toArray, List.set_cons_zero, List.set_cons_succ]
      refine takeW 17 (v := ?v18) rfl (by kernel_rfl) (by kernel_rfl) (by kernel_rfl) (fun _ _ _ h => h) (by rfl) (by assumption) ?hy18 ?rest18
      case hy18 => intro w' hSw; (try dsimp only at hSw); go_simp; try with_reducible rfl
      try simp only [Act.put, List.setIfInBounds_toArray, List.set_cons_zero, List.set_cons_succ]
      refine takeC 20 (by kernel_rfl) rfl (fun K hK => ?_)
      go_simp
      refine (h3n _).mono ?_; rintro e w3 ⟨rfl, hB3⟩; have hc3 := fun o => hB3.cell (p := ⟨wr.heap.size, o, none⟩) hz2; have hz3 : wr.heap.size < w3.heap.size := by have := hB3.size; omega
      refine hK.out _ _ ?_ (fun hHeld => ?_)
      · go_keep
      clear hK K
      try simp only [Act.put, List.setIfInBounds_toArray, List.set_cons_zero, List.set_cons_succ]
      refine takeW 21 (v := ?v19) rfl (by kernel_rfl) (by kernel_rfl) (by kernel_rfl) (fun _ _ _ h => h) (by rfl) (by assumption) ?hy19 ?rest19
      case hy19 => intro w' hSw; (try dsimp only at hSw); go_simp; try with_reducible rfl
      try simp only [Act.put, List.setIfInBounds_toArray, List.set_cons_zero, List.set_cons_succ]
      refine takeW 22 (v := ?v20) rfl (by kernel_rfl) (by kernel_rfl) (by kernel_rfl) (fun _ _ _ h => h) (by rfl) (by assumption) ?hy20 ?rest20
      case hy20 => intro w' hSw; (try dsimp only at hSw); go_simp; try with_reducible rfl
      try simp only [Act.put, List.setIfInBounds_toArray, List.set_cons_zero, List.set_cons_succ]
      refine takeW 23 (v := ?v21) rfl (by kernel_rfl) (by kernel_rfl) (by kernel_rfl) (fun _ _ _ h => h) (by rfl) (by assumption) ?hy21 ?rest21
      case hy21 => intro w' hSw; (try dsimp only at hSw); go_simp; try with_reducible rfl
      try simp only [Act.put, List.setIfInBounds_toArray, List.set_cons_zero, List.set_cons_succ]
      refine takeW 24 (v := ?v22) rfl (by kernel_rfl) (by kernel_rfl) (by kernel_rfl) (fun _ _ _ h => h) (by rfl) (by assumption) ?hy22 ?rest22
      case hy22 => intro w' hSw; (try dsimp only at hSw); go_simp; try with_reducible rfl
      try simp only [Act.put, List.setIfInBounds_toArray, List.set_cons_zero, List.set_cons_succ]
      refine wpAnyH_done (by kernel_rfl) ?_ _
      have hBB := below_one (below_two hBa (below_drew1 hB1) hB2) hB3
      go_wp2
      go_roundw
      case rel => first | exact ⟨n + 1, by omega, by rw [HT.out, HX.out], by go_num, hBB⟩ | ((repeat apply Exists.intro); exact ⟨⟨n + 1, by omega, by rw [HT.out, HX.out], by go_num, hBB⟩, rfl⟩)
      case measure => simp [intOf]; omega
    · obtain rfl : n = ks.length := by omega
      have HE := hid (show tkT (ks.take ks.length) = tkT ks by rw [List.take_length])
      go_wp2
      go_ret
      exact ⟨ret_str HE.out, hB⟩

theorem strs5 (k : Lk) : Lib.join ([k.who, k.to, numT k.se, numT k.fr, numT k.un].map (·.data.toList)) (⟨#[32]⟩ : ByteArray).data.toList = k.body := by
  simp [Lib.join, Lk.body, numT]
/-- The five words of a link put together. -/
theorem join5_any (k : Lk) (g : Nat) (w : World) (hs : k.size ≤ 1048576) (hg : k.good = true) (hlt : g < w.heap.size)
    (h0 : w.cell? ⟨g, 0, none⟩ = some (.string k.who)) (h1 : w.cell? ⟨g, 1, none⟩ = some (.string k.to)) (h2 : w.cell? ⟨g, 2, none⟩ = some (.string (numT k.se))) (h3 : w.cell? ⟨g, 3, none⟩ = some (.string (numT k.fr))) (h4 : w.cell? ⟨g, 4, none⟩ = some (.string (numT k.un))) :
    Calls Tryz.prog 77 #[.slice (some ⟨g, 0, none⟩) 5 5, .string ⟨#[32]⟩] w fun e w' => e = .returned (.string ⟨k.body.toArray⟩) ∧ Below w.heap.size w w' := by
  have hl : k.body.length ≤ 1048600 := by
    have := text_len k hg
    have h : k.text.size = k.body.length + 1 := by
      show k.text.data.size = _
      rw [← Array.length_toList, Lk.text_list]
      simp
    omega
  have h := Any.strings_Join Tryz.lays156 Tryz.Builder_Extra_156 g 0 5 [k.who, k.to, numT k.se, numT k.fr, numT k.un] ⟨#[32]⟩ w (by
    intro j x hx
    match j, hx with
    | 0, hx => simp at hx; subst hx; simpa using h0
    | 1, hx => simp at hx; subst hx; simpa using h1
    | 2, hx => simp at hx; subst hx; simpa using h2
    | 3, hx => simp at hx; subst hx; simpa using h3
    | 4, hx => simp at hx; subst hx; simpa using h4
    | j + 5, hx => simp at hx) hlt (by simp) (by simp) (by rw [strs5]; omega)
  rw [strs5] at h
  exact h

/-- The builder as it is made. -/
theorem built_new3 (w : World) : Lib.IsBuilder 119 5 w.heap.size w.heap.size [] (w.alloc (.cells #[.pointer none, .slice none 0 0] 119)) :=
  .inl ⟨Nat.le_refl _, .slice none 0 0, by show (w.heap.push _)[w.heap.size]? = some _; simp, World.ownsRow_nil _ _ _ _, by simp [Value.ownBlock]⟩
theorem cells_link (k : Lk) (l : List UInt8) : (Lib.byteCells l ++ Lib.strCells ⟨k.body.toArray⟩) ++ [.int .u8 59] = Lib.byteCells (l ++ k.text.data.toList) := by
  rw [Lib.strCells_eq, Lk.text_list, Lib.byteCells_append, Lib.byteCells_append, List.append_assoc]
  rfl
theorem tkL_succ {ks : List Lk} {n : Nat} (h : n < ks.length) : tkL (ks.take (n + 1)) = tkL (ks.take n) ++ ks[n].text.data.toList := by
  unfold tkL
  rw [List.take_succ_eq_append_getElem h, List.flatMap_append]
  simp
theorem tkL_len (ks : List Lk) : (tkL ks).length = (tkT ks).size := by
  unfold tkT
  show _ = (tkL ks).toArray.size
  simp

set_option maxHeartbeats 4000000 in
theorem textOfToken_any (v : Value) (ks : List Lk) (w : World) (hm : ks.length ≤ 1048577) (hg : ∀ k ∈ ks, k.good = true) (hf : ∀ k ∈ ks, k.size ≤ 1048576) (hr : LkS w v ks) (ht : Tab w) :
    Calls Tryz.prog 53 #[v] w fun e w' => e = .returned (.string (tkT ks)) ∧ Below w.heap.size w w' := by
  obtain ⟨a, cap, rfl⟩ := hr.len
  have HZ := hid (fun n hn => tkT_size hg hf n hn)
  have hN := built_new3 w
  have hBn : Below w.heap.size w (w.alloc (.cells #[.pointer none, .slice none 0 0] 119)) := (Below.refl _ w).alloc (Nat.le_refl _) _
  have HTB := hid ht
  clear ht
  go_enter Tryz.func53, Tryz.ntmps53
  go_wp2
  go_loopw [9] (fun i wr => ∃ n : Nat, n ≤ ks.length ∧ i = .int .i64 n ∧ Lib.IsBuilder 119 5 w.heap.size w.heap.size (Lib.byteCells (tkL (ks.take n))) wr ∧ Below w.heap.size w wr) (fun i _ => ks.length - (intOf i).toNat)
  case atStart => exact ⟨0, Nat.zero_le _, rfl, hN, hBn⟩
  case round =>
    obtain ⟨n, hn, rfl, hI, hB⟩ := hrel
    have hs := HZ.out n hn
    rw [← tkL_len] at hs
    have hs2 : n * 1048600 ≤ 2000000000000 := by omega
    by_cases hlt : n < ks.length
    · obtain ⟨b, off, rfl, hb, hcap, q0, q1, q2, q3, q4⟩ := (hr.below hB).at hlt
      have hz := hf ks[n] (List.getElem_mem hlt)
      have hgd := hg ks[n] (List.getElem_mem hlt)
      obtain ⟨_, _, b3, b4, b5, _⟩ := (Lk.good_iff ks[n]).1 hgd
      have HS := hid (tkL_succ hlt)
      have HC := hid (cells_link ks[n] (tkL (ks.take n)))
      have htx := text_len ks[n] hgd
      generalize ks[n] = k at *
      generalize tkL (ks.take n) = l at *
      have h1n := fun W => itoa_any k.se W (by omega) (by omega)
      have h2n := fun W => itoa_any k.fr W (by omega) (by omega)
      have h3n := fun W => itoa_any k.un W (by omega) (by omega)
      have hJ := fun g W => join5_any k g W hz hgd
      have hbl : k.body.length ≤ 1048600 := by
        have h : k.text.size = k.body.length + 1 := by
          show k.text.data.size = _
          rw [← Array.length_toList, Lk.text_list]
          simp
        omega
      generalize numT k.se = x1 at *
      generalize numT k.fr = x2 at *
      generalize numT k.un = x3 at *
      have hBw : Below wr.heap.size wr (wr.alloc (.cells #[.string k.who, .string k.to, .int .i64 k.se, .int .i64 k.fr, .int .i64 k.un] 38)) := (Below.refl _ wr).alloc (Nat.le_refl _) _
      have hBa := below_one hB hBw
      have hIa := isB_below hI hBw
      have htr : Tab (wr.alloc (.cells #[.string k.who, .string k.to, .int .i64 k.se, .int .i64 k.fr, .int .i64 k.un] 38)).drew := HTB.out.on (hBa.drew)
      go_wp2_with fail
      refine wp_region_held_drew (S := fun w' => w'.cell? ⟨wr.heap.size, 0, none⟩ = some (.string k.who) ∧ w'.cell? ⟨wr.heap.size, 1, none⟩ = some (.string k.to) ∧ w'.cell? ⟨wr.heap.size, 2, none⟩ = some (.int .i64 k.se) ∧ w'.cell? ⟨wr.heap.size, 3, none⟩ = some (.int .i64 k.fr) ∧ w'.cell? ⟨wr.heap.size, 4, none⟩ = some (.int .i64 k.un)) (by kernel_rfl) ?_ (fun hHeld => ?_)
      · go_keep
      refine takeW 0 (v := ?v23) rfl (by kernel_rfl) (by kernel_rfl) (by kernel_rfl) (fun _ _ _ h => h) (by rfl) (by assumption) ?hy23 ?rest23
      case hy23 => intro w' hSw; (try dsimp only at hSw); go_simp; try with_reducible rfl
      try simp only [Act.put, List.setIfInBounds_toArray, List.set_cons_zero, List.set_cons_succ]
      refine takeW 1 (v := ?v24) rfl (by kernel_rfl) (by kernel_rfl) (by kernel_rfl) (fun _ _ _ h => h) (by rfl) (by assumption) ?hy24 ?rest24
      case hy24 => intro w' hSw; (try dsimp only at hSw); go_simp; try with_reducible rfl
      try simp only [Act.put, List.setIfInBounds_toArray, List.set_cons_zero, List.set_cons_succ]
      refine takeW 2 (v := ?v25) rfl (by kernel_rfl) (by kernel_rfl) (by kernel_rfl) (fun _ _ _ h => h) (by rfl) (by assumption) ?hy25 ?rest25
      case hy25 => intro w' hSw; (try dsimp only at hSw); go_simp; try with_reducible rfl
      try simp only [Act.put, List.setIfInBounds_toArray, List.set_cons_zero, List.set_cons_succ]
      refine takeW 3 (v := ?v26) rfl (by kernel_rfl) (by kernel_rfl) (by kernel_rfl) (fun _ _ _ h => h) (by rfl) (by assumption) ?hy26 ?rest26
      case hy26 => intro w' hSw; (try dsimp only at hSw); go_simp; try with_reducible rfl
      try simp only [Act.put, List.setIfInBounds_toArray, List.set_cons_zero, List.set_cons_succ]
      refine takeW 4 (v := ?v27) rfl (by kernel_rfl) (by kernel_rfl) (by kernel_rfl) (fun _ _ _ h => h) (by rfl) (by assumption) ?hy27 ?rest27
      case hy27 => intro w' hSw; (try dsimp only at hSw); go_simp; try with_reducible rfl
      try simp only [Act.put, List.setIfInBounds_toArray, List.set_cons_zero, List.set_cons_succ]
      refine takeW 5 (v := ?v28) rfl (by kernel_rfl) (by kernel_rfl) (by kernel_rfl) (fun _ _ _ h => h) (by rfl) (by assumption) ?hy28 ?rest28
      case hy28 => intro w' hSw; (try dsimp only at hSw); go_simp; try with_reducible rfl
      try simp only [Act.put, List.setIfInBounds_toArray, List.set_cons_zero, List.set_cons_succ]
      refine takeW 7 (v := ?v29) rfl (by kernel_rfl) (by kernel_rfl) (by kernel_rfl) (fun _ _ _ h => h) (by rfl) (by assumption) ?hy29 ?rest29
      case hy29 => intro w' hSw; (try dsimp only at hSw); go_simp; try with_reducible rfl
      try simp only [Act.put, List.setIfInBounds_toArray, List.set_cons_zero, List.set_cons_succ]
      refine takeW 8 (v := ?v30) rfl (by kernel_rfl) (by kernel_rfl) (by kernel_rfl) (fun _ _ _ h => h) (by rfl) (by assumption) ?hy30 ?rest30
      case hy30 => intro w' hSw; (try dsimp only at hSw); go_simp; try with_reducible rfl
      try simp only [Act.put, List.setIfInBounds_toArray, List.set_cons_zero, List.set_cons_succ]
      refine takeW 10 (v := ?v31) rfl (by kernel_rfl) (by kernel_rfl) (by kernel_rfl) (fun _ _ _ h => h) (by rfl) (by assumption) ?hy31 ?rest31
      case hy31 => intro w' hSw; (try dsimp only at hSw); go_simp; try with_reducible rfl
      try simp only [Act.put, List.setIfInBounds_toArray, List.set_cons_zero, List.set_cons_succ]
      refine takeW 11 (v := ?v32) rfl (by kernel_rfl) (by kernel_rfl) (by kernel_rfl) (fun _ _ _ h => h) (by rfl) (by assumption) ?hy32 ?rest32
      case hy32 => intro w' hSw; (try dsimp only at hSw); go_simp; try with_reducible rfl
      try simp only [Act.put, List.setIfInBounds_toArray, List.set_cons_zero, List.set_cons_succ]
      refine takeC 6 (by kernel_rfl) rfl (fun K hK => ?_)
      go_simp
      refine (h1n _ htr).mono ?_; rintro e w1 ⟨rfl, hB1⟩; have hc1 := fun o => hB1.cell (p := ⟨wr.heap.size, o, none⟩) (by simp); have hz1 : wr.heap.size < w1.heap.size := by have := hB1.size; simp at this; omega
      refine hK.out _ _ ?_ (fun hHeld => ?_)
      · go_keep
      clear hK K
      try simp only [Act.put, List.setIfInBounds_toArray, List.set_cons_zero, List.set_cons_succ]
      refine takeC 9 (by kernel_rfl) rfl (fun K hK => ?_)
      go_simp
      refine (h2n _ (htr.on hB1)).mono ?_; rintro e w2 ⟨rfl, hB2⟩; have hc2 := fun o => hB2.cell (p := ⟨wr.heap.size, o, none⟩) hz1; have hz2 : wr.heap.size < w2.heap.size := by have := hB2.size; omega
      refine hK.out _ _ ?_ (fun hHeld => ?_)
      · go_keep
      clear hK K
      try simp only [Act.put, List.setIfInBounds_toArray, List.set_cons_zero, List.set_cons_succ]
      refine takeC 12 (by kernel_rfl) rfl (fun K hK => ?_)
      go_simp
      refine (h3n _ ((htr.on hB1).on hB2)).mono ?_; rintro e w3 ⟨rfl, hB3⟩; have hc3 := fun o => hB3.cell (p := ⟨wr.heap.size, o, none⟩) hz2; have hz3 : wr.heap.size < w3.heap.size := by have := hB3.size; omega
      refine hK.out _ _ ?_ (fun hHeld => ?_)
      · go_keep
      clear hK K
      try simp only [Act.put, List.setIfInBounds_toArray, List.set_cons_zero, List.set_cons_succ]
      refine takeC 13 (by kernel_rfl) rfl (fun K hK => ?_)
      go_simp
      skip
      refine hK.out _ _ ?_ (fun hHeld => ?_)
      · go_keep
      clear hK K
      try simp only [Act.put, List.setIfInBounds_toArray, List.set_cons_zero, List.set_cons_succ]
      refine takeW 14 (v := ?v33) rfl (by kernel_rfl) (by kernel_rfl) (by kernel_rfl) (fun _ _ _ h => h) (by rfl) (by assumption) ?hy33 ?rest33
      case hy33 => intro w' hSw; (try dsimp only at hSw); go_simp; try with_reducible rfl
      try simp only [Act.put, List.setIfInBounds_toArray, List.set_cons_zero, List.set_cons_succ]
      refine wpAnyH_done (by kernel_rfl) ?_ _
      have hB01 : Below (wr.alloc (.cells #[.string k.who, .string k.to, .int .i64 k.se, .int .i64 k.fr, .int .i64 k.un] 38)).heap.size (wr.alloc (.cells #[.string k.who, .string k.to, .int .i64 k.se, .int .i64 k.fr, .int .i64 k.un] 38)) w1 := below_drew1 hB1
      have hB123 := below_one (below_one hB01 hB2) hB3
      have hI3 := isB_below hIa hB123
      have hBB3 := below_one hBa hB123
      have hBw4 : Below w3.heap.size w3 (w3.alloc (.cells #[.string k.who, .string k.to, .string x1, .string x2, .string x3] 9)) := (Below.refl _ w3).alloc (Nat.le_refl _) _
      have hI4 := isB_below hI3 hBw4
      have hBB4 := below_one hBB3 hBw4
      have hJ4 := hJ w3.heap.size (w3.alloc (.cells #[.string k.who, .string k.to, .string x1, .string x2, .string x3] 9)) (by simp) (by simp) (by simp) (by simp) (by simp) (by simp)
      clear hB hBw hBa hIa hI hB01 hB1 hB2 hB3 hB123 hI3 hBB3 hBw4 q0 q1 q2 q3 q4 hJ h1n h2n h3n hc1 hc2 hc3 hz1 hz2 hz3
      go_wp2_with fail
      refine hJ4.mono ?_
      rintro e w5 ⟨rfl, hB5⟩
      have hI5 := isB_below hI4 hB5
      have hBB5 := below_one hBB4 hB5
      have hz5 := hBB5.size
      clear hI4 hBB4 hB5 hJ4
      go_wp2_with fail
      refine (writeString_any w.heap.size w.heap.size _ ⟨k.body.toArray⟩ _ hI5 (by rw [Lib.byteCells_length]; show _ + k.body.toArray.size ≤ _; rw [List.size_toArray]; omega) hz5).mono ?_
      rintro e w6 ⟨rfl, hI6, hB6⟩
      have hBB6 := hBB5.trans hB6
      have hz6 := hBB6.size
      clear hI5 hBB5 hz5 hB6
      go_wp2_with fail
      refine (writeByte_any w.heap.size w.heap.size _ 59 _ (.inr hI6) (by rw [List.length_append, Lib.byteCells_length, Lib.strCells_length]; show _ + k.body.toArray.size + 1 ≤ _; rw [List.size_toArray]; omega) hz6).mono ?_
      rintro e w7 ⟨rfl, hI7, hB7⟩
      have hBB7 := hBB6.trans hB7
      rw [HC.out] at hI7
      clear hI6 hBB6 hz6 hB7
      go_wp2
      go_roundw
      case rel => exact ⟨n + 1, by omega, by go_num, by rw [HS.out]; exact .inr hI7, hBB7⟩
      case measure => simp [intOf]; omega
    · obtain rfl : n = ks.length := by omega
      have hzz := hB.size
      have HE := hid (show (⟨(tkL ks).toArray⟩ : ByteArray) = tkT ks from rfl)
      go_wp2_with fail
      refine (bString_any w.heap.size w.heap.size _ _ hI hzz).mono ?_
      rintro e w6 ⟨rfl, hB6⟩
      go_wp2_with fail
      go_ret
      exact ⟨ret_str HE.out, hB.trans hB6⟩

/-- The text of a token, none of what is none. -/
def ttX (ks : List Lk) : ByteArray := if tkB ks = true then tkT ks else ⟨#[]⟩
theorem ttX_no {ks : List Lk} (h : tkB ks = false) : ttX ks = ⟨#[]⟩ := if_neg (by rw [h]; exact Bool.false_ne_true)
theorem ttX_yes {ks : List Lk} (h : tkB ks = true) : ttX ks = tkT ks := if_pos h

end Go.Proofs.YtallpldgkkpikaaGreatDoor

namespace Go.Proofs.YtallpldgkkpikaaGreatDoor
open Go.ChangeShapes Go.WideShapes Go.RowKit Go.Shelf
open Go.Extern.Stop Go.Stop Go.Extern

abbrev fltS7 : List (String × DataW Unit) := [("math/bits.deBruijn32tab", Rows.laid_math_bits_deBruijn32tab), ("math/bits.deBruijn64tab", Rows.laid_math_bits_deBruijn64tab), ("internal/strconv.uint64pow10", Rows.laid_internal_strconv_uint64pow10), ("loop.example/g00167/impl.errNotGood", Rows.laid_loop_example_g00167_impl_errNotGood), ("loop.example/g00167/impl.errTwice", Rows.laid_loop_example_g00167_impl_errTwice), ("loop.example/g00167/impl.errNoWork", Rows.laid_loop_example_g00167_impl_errNoWork), ("loop.example/g00167/impl.errFull", Rows.laid_loop_example_g00167_impl_errFull)]
abbrev fltTL : List (String × DataW Unit) := [("math/bits.deBruijn32tab", Rows.laid_math_bits_deBruijn32tab), ("math/bits.deBruijn64tab", Rows.laid_math_bits_deBruijn64tab), ("internal/strconv.uint64pow10", Rows.laid_internal_strconv_uint64pow10), ("errors.errorType", Rows.laid_errors_errorType), ("loop.example/g00167/impl.errNotGood", Rows.laid_loop_example_g00167_impl_errNotGood), ("loop.example/g00167/impl.errTwice", Rows.laid_loop_example_g00167_impl_errTwice), ("loop.example/g00167/impl.errNoWork", Rows.laid_loop_example_g00167_impl_errNoWork), ("loop.example/g00167/impl.errFull", Rows.laid_loop_example_g00167_impl_errFull)]
theorem fltT_same : (Rows.laid_internal_strconv_uint64pow10 : DataW Unit) = Lib.tabData .u64 Lib.pow10Tab := by kernel_rfl
/-- The table of powers of ten, as the row lists it. -/
theorem fltT_tab {W : World} {rest : List (String × DataW Unit)} (h : laidMet Tryz.prog (("internal/strconv.uint64pow10", Rows.laid_internal_strconv_uint64pow10) :: rest) W) : Tab W :=
  Lib.tabIs_of_head (g := 5) (t := 175) (e := 44) (n := 20) (by kernel_rfl) (by kernel_rfl) Tryz.underlying175 Tryz.underlying44 (by kernel_rfl) (by kernel_rfl) (fltT_same ▸ h)
theorem fltT_of {W : World} (h : laidMetH Tryz.prog fltTL W) : (∃ p0 p1 p2 p3, ErA W p0 p1 p2 p3) ∧ Tab W := by
  have h' : laidMet Tryz.prog fltS7 W ∧ handlesMet Tryz.prog [("errors.errorType", Rows.laid_errors_errorType)] W := h
  have hf : laidMetH Tryz.prog fltL W := ⟨h'.1.tail.tail.tail, h'.2⟩
  exact ⟨era_of hf, fltT_tab h'.1.tail.tail⟩

noncomputable def fltT0 (os : Os) : World :=
  let w0 := World.holding Tryz.prog os ⟨#[], #[], []⟩
  { w0 with heap := w0.heap.modify 4 fun
      | .cells _ t frozen => .cells #[.iface 150 (typ 54)] t frozen
      | o => o }
/-- A world for the witness. -/
noncomputable def fltTWorld (os : Os) : World := (fltT0 os).layVars Tryz.prog fltS7
theorem fltT_met7 (os : Os) (args : Array Value) : laidMet Tryz.prog fltS7 ((fltTWorld os).forCall (fun _ _ => 0) ⟨#[], args, []⟩).memory := by
  have e1 : (fltS7.filter fun x => (fltS7.map (·.1)).contains x.1) = fltS7 := List.filter_eq_self.2 fun x hx => List.contains_iff_mem.2 (List.mem_map.2 ⟨x, hx, rfl⟩)
  have e2 : (fltS7.filter fun x => !(fltS7.map (·.1)).contains x.1) = [] := List.filter_eq_nil_iff.2 fun x hx => by rw [List.contains_iff_mem.2 (List.mem_map.2 ⟨x, hx, rfl⟩)]; simp
  have hf : (fltT0 os).layFits Tryz.prog fltS7 [] = true := by kernel_rfl
  have hi : (fltT0 os).layIfaces Tryz.prog fltS7 (fltTWorld os) = true := by kernel_rfl
  have h : laidMet Tryz.prog fltS7 (fltTWorld os) := laidMet_layVars (w0 := fltT0 os) (fltS7.map (·.1)) [] (by rw [e1]; rfl) (by rw [e1]; exact hf) (by rw [e1]; exact hi) (by rw [e2]; exact LaidIn.none)
  exact h.of_heap (by simp [World.memory, World.forCall, Input.heap])
theorem fltT_met (os : Os) (args : Array Value) : laidMetH Tryz.prog fltTL ((fltTWorld os).forCall (fun _ _ => 0) ⟨#[], args, []⟩).memory :=
  laidMetH_of_parts (fltT_met7 os args) (by kernel_rfl)

end Go.Proofs.YtallpldgkkpikaaGreatDoor

namespace Go.Proofs.YtallpldgkkpikaaGreatDoor
open Go.RowKit Go.Shelf

theorem itself_any (n : Int) (w : World) :
    Calls Tryz.prog 30 #[.int .i64 n] w fun e w' => e = .returned (.int .i64 n) ∧ w' = w := by
  go_enter Tryz.func30, Tryz.ntmps30
  go_wp2
  go_ret
  exact ⟨rfl, rfl⟩

set_option maxHeartbeats 2000000 in
set_option maxRecDepth 100000 in
theorem risingN_any (v : Value) (zs : List Int) (w : World) (hm : zs.length ≤ 1048577) (hr : VS w v (nums zs)) :
    Calls Tryz.prog 29 #[v, .func (.func 30) #[] #[]] w fun e w' => e = .returned (.bool (upN zs)) ∧ Below w.heap.size w w' := by
  obtain ⟨a, cap, rfl⟩ := hr.numLen
  go_enter Tryz.func29, Tryz.ntmps29
  go_wp2
  go_loopw [5] (fun i wr => ∃ m : Nat, (m ≤ zs.length ∨ m = 1) ∧ 1 ≤ m ∧ i = .int .i64 m ∧ (∀ j, j < m → upI zs j = true) ∧ Below w.heap.size w wr) (fun i _ => zs.length - (intOf i).toNat)
  case atStart => exact ⟨1, .inr rfl, Nat.le_refl _, rfl, fun j hj => (by obtain rfl : j = 0 := Nat.lt_one_iff.1 hj; rfl), Below.refl _ _⟩
  case round =>
    obtain ⟨m, hm2, hm1, rfl, hu, hB⟩ := hrel
    have HU := hid hu
    clear hu
    obtain ⟨n, hn⟩ : ∃ n, m = n + 1 := ⟨m - 1, by omega⟩
    by_cases hlt : m < zs.length
    · obtain ⟨b, off, rfl, hb, hcap, q0⟩ := (hr.below hB).num hlt
      obtain ⟨b', off', hbo, _, _, p0⟩ := (hr.below hB).num (i := n) (by omega)
      cases hbo
      have HS := hid (show upI zs m = decide ((zs[n]'(by omega)) < zs[m]) by subst hn; exact upI_succ hlt)
      have HN := hid (fun h => upN_no (zs := zs) (i := m) hlt h)
      have hw1 : IntKind.i64.wrap ((m : Int) - 1) = (n : Int) := by rw [IntKind.wrap_i64]; omega
      have hl1 : (m : Int) < (zs.length : Int) := by omega
      have hl2 : (n : Int) < (zs.length : Int) := by omega
      generalize zs[m] = k at *
      generalize zs[n] = p at *
      clear hn
      by_cases hc : k ≤ p
      · have HR := hid (HN.out (by rw [HS.out]; exact decide_eq_false (by omega)))
        have dc : decide (k ≤ p) = true := decide_eq_true hc
        go_wp2_with fail
        refine wp_region_held_drew (S := fun w' => w'.cell? ⟨b, off + m, none⟩ = some (.int .i64 k) ∧ w'.cell? ⟨b, off + n, none⟩ = some (.int .i64 p)) (by kernel_rfl) ?_ (fun hHeld => ?_)
        · go_keep
        refine takeW 0 (v := ?v25) rfl (by kernel_rfl) (by kernel_rfl) (by kernel_rfl) (fun _ _ _ h => h) (by rfl) (by assumption) ?hy25 ?rest25
        case hy25 => intro w' hSw; (try dsimp only at hSw); go_simp; try with_reducible rfl
        try simp only [Act.put, List.setIfInBounds_toArray, List.set_cons_zero, List.set_cons_succ]
        refine takeW 1 (v := ?v26) rfl (by kernel_rfl) (by kernel_rfl) (by kernel_rfl) (fun _ _ _ h => h) (by rfl) (by assumption) ?hy26 ?rest26
        case hy26 => intro w' hSw; (try dsimp only at hSw); go_simp; try with_reducible rfl
        try simp only [Act.put, List.setIfInBounds_toArray, List.set_cons_zero, List.set_cons_succ]
        refine takeW 2 (v := ?v27) rfl (by kernel_rfl) (by kernel_rfl) (by kernel_rfl) (fun _ _ _ h => h) (by rfl) (by assumption) ?hy27 ?rest27
        case hy27 => intro w' hSw; (try dsimp only at hSw); go_simp; try with_reducible rfl
        try simp only [Act.put, List.setIfInBounds_toArray, List.set_cons_zero, List.set_cons_succ]
        refine takeW 3 (v := ?v28) rfl (by kernel_rfl) (by kernel_rfl) (by kernel_rfl) (fun _ _ _ h => h) (by rfl) (by assumption) ?hy28 ?rest28
        case hy28 => intro w' hSw; (try dsimp only at hSw); go_simp; try with_reducible rfl
        try simp only [Act.put, List.setIfInBounds_toArray, List.set_cons_zero, List.set_cons_succ]
        refine takeW 4 (v := ?v29) rfl (by kernel_rfl) (by kernel_rfl) (by kernel_rfl) (fun _ _ _ h => h) (by rfl) (by assumption) ?hy29 ?rest29
        case hy29 => intro w' hSw; (try dsimp only at hSw); go_simp; try with_reducible rfl
        try simp only [Act.put, List.setIfInBounds_toArray, List.set_cons_zero, List.set_cons_succ]
        refine takeW 6 (v := ?v30) rfl (by kernel_rfl) (by kernel_rfl) (by kernel_rfl) (fun _ _ _ h => h) (by rfl) (by assumption) ?hy30 ?rest30
        case hy30 => intro w' hSw; (try dsimp only at hSw); go_simp; try with_reducible rfl
        try simp only [Act.put, List.setIfInBounds_toArray, List.set_cons_zero, List.set_cons_succ]
        refine takeW 7 (v := ?v31) rfl (by kernel_rfl) (by kernel_rfl) (by kernel_rfl) (fun _ _ _ h => h) (by rfl) (by assumption) ?hy31 ?rest31
        case hy31 => intro w' hSw; (try dsimp only at hSw); go_simp; try with_reducible rfl
        try simp only [Act.put, List.setIfInBounds_toArray, List.set_cons_zero, List.set_cons_succ]
        refine takeW 8 (v := ?v32) rfl (by kernel_rfl) (by kernel_rfl) (by kernel_rfl) (fun _ _ _ h => h) (by rfl) (by assumption) ?hy32 ?rest32
        case hy32 => intro w' hSw; (try dsimp only at hSw); go_simp; try with_reducible rfl
        try simp only [Act.put, List.setIfInBounds_toArray, List.set_cons_zero, List.set_cons_succ]
        refine takeW 9 (v := ?v33) rfl (by kernel_rfl) (by kernel_rfl) (by kernel_rfl) (fun _ _ _ h => h) (by rfl) (by assumption) ?hy33 ?rest33
        case hy33 => intro w' hSw; (try dsimp only at hSw); go_simp; try with_reducible rfl
        try simp only [Act.put, List.setIfInBounds_toArray, List.set_cons_zero, List.set_cons_succ]
        refine takeW 10 (v := ?v34) rfl (by kernel_rfl) (by kernel_rfl) (by kernel_rfl) (fun _ _ _ h => h) (by rfl) (by assumption) ?hy34 ?rest34
        case hy34 => intro w' hSw; (try dsimp only at hSw); go_simp; try with_reducible rfl
        try simp only [Act.put, List.setIfInBounds_toArray, List.set_cons_zero, List.set_cons_succ]
        refine takeW 11 (v := ?v35) rfl (by kernel_rfl) (by kernel_rfl) (by kernel_rfl) (fun _ _ _ h => h) (by rfl) (by assumption) ?hy35 ?rest35
        case hy35 => intro w' hSw; (try dsimp only at hSw); go_simp; try with_reducible rfl
        try simp only [Act.put, List.setIfInBounds_toArray, List.set_cons_zero, List.set_cons_succ]
        refine takeC 5 (by kernel_rfl) rfl (fun K hK => ?_)
        go_simp
        refine (itself_any k _).mono ?_; rintro e w1 ⟨rfl, rfl⟩
        refine hK.out _ _ ?_ (fun hHeld => ?_)
        · go_keep
        clear hK K
        try simp only [Act.put, List.setIfInBounds_toArray, List.set_cons_zero, List.set_cons_succ]
        refine takeC 12 (by kernel_rfl) rfl (fun K hK => ?_)
        go_simp
        refine (itself_any p _).mono ?_; rintro e w2 ⟨rfl, rfl⟩
        refine hK.out _ _ ?_ (fun hHeld => ?_)
        · go_keep
        clear hK K
        try simp only [Act.put, List.setIfInBounds_toArray, List.set_cons_zero, List.set_cons_succ]
        refine takeW 13 (v := ?v36) rfl (by kernel_rfl) (by kernel_rfl) (by kernel_rfl) (fun _ _ _ h => h) (by rfl) (by assumption) ?hy36 ?rest36
        case hy36 => intro w' hSw; (try dsimp only at hSw); go_simp; try with_reducible rfl
        try simp only [Act.put, List.setIfInBounds_toArray, List.set_cons_zero, List.set_cons_succ]
        refine wpAnyH_done (by kernel_rfl) ?_ _
        all_goals go_wp2
        all_goals go_ret
        all_goals exact ⟨ret_bool HR.out.symm, below_one hB (Below.refl _ wr).drew⟩
      · have HR := hid (show ∀ j, j < m + 1 → upI zs j = true from fun j hj => (by
          by_cases e : j = m
          · subst e
            rw [HS.out]
            exact decide_eq_true (by omega)
          · exact HU.out j (by omega)))
        have dc : decide (k ≤ p) = false := decide_eq_false hc
        go_wp2_with fail
        refine wp_region_held_drew (S := fun w' => w'.cell? ⟨b, off + m, none⟩ = some (.int .i64 k) ∧ w'.cell? ⟨b, off + n, none⟩ = some (.int .i64 p)) (by kernel_rfl) ?_ (fun hHeld => ?_)
        · go_keep
        refine takeW 0 (v := ?v37) rfl (by kernel_rfl) (by kernel_rfl) (by kernel_rfl) (fun _ _ _ h => h) (by rfl) (by assumption) ?hy37 ?rest37
        case hy37 => intro w' hSw; (try dsimp only at hSw); go_simp; try with_reducible rfl
        try simp only [Act.put, List.setIfInBounds_toArray, List.set_cons_zero, List.set_cons_succ]
        refine takeW 1 (v := ?v38) rfl (by kernel_rfl) (by kernel_rfl) (by kernel_rfl) (fun _ _ _ h => h) (by rfl) (by assumption) ?hy38 ?rest38
        case hy38 => intro w' hSw; (try dsimp only at hSw); go_simp; try with_reducible rfl
        try simp only [Act.put, List.setIfInBounds_toArray, List.set_cons_zero, List.set_cons_succ]
        refine takeW 2 (v := ?v39) rfl (by kernel_rfl) (by kernel_rfl) (by kernel_rfl) (fun _ _ _ h => h) (by rfl) (by assumption) ?hy39 ?rest39
        case hy39 => intro w' hSw; (try dsimp only at hSw); go_simp; try with_reducible rfl
        try simp only [Act.put, List.setIfInBounds_toArray, List.set_cons_zero, List.set_cons_succ]
        refine takeW 3 (v := ?v40) rfl (by kernel_rfl) (by kernel_rfl) (by kernel_rfl) (fun _ _ _ h => h) (by rfl) (by assumption) ?hy40 ?rest40
        case hy40 => intro w' hSw; (try dsimp only at hSw); go_simp; try with_reducible rfl
        try simp only [Act.put, List.setIfInBounds_toArray, List.set_cons_zero, List.set_cons_succ]
        refine takeW 4 (v := ?v41) rfl (by kernel_rfl) (by kernel_rfl) (by kernel_rfl) (fun _ _ _ h => h) (by rfl) (by assumption) ?hy41 ?rest41
        case hy41 => intro w' hSw; (try dsimp only at hSw); go_simp; try with_reducible rfl
        try simp only [Act.put, List.setIfInBounds_toArray, List.set_cons_zero, List.set_cons_succ]
        refine takeW 6 (v := ?v42) rfl (by kernel_rfl) (by kernel_rfl) (by kernel_rfl) (fun _ _ _ h => h) (by rfl) (by assumption) ?hy42 ?rest42
        case hy42 => intro w' hSw; (try dsimp only at hSw); go_simp; try with_reducible rfl
        try simp only [Act.put, List.setIfInBounds_toArray, List.set_cons_zero, List.set_cons_succ]
        refine takeW 7 (v := ?v43) rfl (by kernel_rfl) (by kernel_rfl) (by kernel_rfl) (fun _ _ _ h => h) (by rfl) (by assumption) ?hy43 ?rest43
        case hy43 => intro w' hSw; (try dsimp only at hSw); go_simp; try with_reducible rfl
        try simp only [Act.put, List.setIfInBounds_toArray, List.set_cons_zero, List.set_cons_succ]
        refine takeW 8 (v := ?v44) rfl (by kernel_rfl) (by kernel_rfl) (by kernel_rfl) (fun _ _ _ h => h) (by rfl) (by assumption) ?hy44 ?rest44
        case hy44 => intro w' hSw; (try dsimp only at hSw); go_simp; try with_reducible rfl
        try simp only [Act.put, List.setIfInBounds_toArray, List.set_cons_zero, List.set_cons_succ]
        refine takeW 9 (v := ?v45) rfl (by kernel_rfl) (by kernel_rfl) (by kernel_rfl) (fun _ _ _ h => h) (by rfl) (by assumption) ?hy45 ?rest45
        case hy45 => intro w' hSw; (try dsimp only at hSw); go_simp; try with_reducible rfl
        try simp only [Act.put, List.setIfInBounds_toArray, List.set_cons_zero, List.set_cons_succ]
        refine takeW 10 (v := ?v46) rfl (by kernel_rfl) (by kernel_rfl) (by kernel_rfl) (fun _ _ _ h => h) (by rfl) (by assumption) ?hy46 ?rest46
        case hy46 => intro w' hSw; (try dsimp only at hSw); go_simp; try with_reducible rfl
        try simp only [Act.put, List.setIfInBounds_toArray, List.set_cons_zero, List.set_cons_succ]
        refine takeW 11 (v := ?v47) rfl (by kernel_rfl) (by kernel_rfl) (by kernel_rfl) (fun _ _ _ h => h) (by rfl) (by assumption) ?hy47 ?rest47
        case hy47 => intro w' hSw; (try dsimp only at hSw); go_simp; try with_reducible rfl
        try simp only [Act.put, List.setIfInBounds_toArray, List.set_cons_zero, List.set_cons_succ]
        refine takeC 5 (by kernel_rfl) rfl (fun K hK => ?_)
        go_simp
        refine (itself_any k _).mono ?_; rintro e w1 ⟨rfl, rfl⟩
        refine hK.out _ _ ?_ (fun hHeld => ?_)
        · go_keep
        clear hK K
        try simp only [Act.put, List.setIfInBounds_toArray, List.set_cons_zero, List.set_cons_succ]
        refine takeC 12 (by kernel_rfl) rfl (fun K hK => ?_)
        go_simp
        refine (itself_any p _).mono ?_; rintro e w2 ⟨rfl, rfl⟩
        refine hK.out _ _ ?_ (fun hHeld => ?_)
        · go_keep
        clear hK K
        try simp only [Act.put, List.setIfInBounds_toArray, List.set_cons_zero, List.set_cons_succ]
        refine takeW 13 (v := ?v48) rfl (by kernel_rfl) (by kernel_rfl) (by kernel_rfl) (fun _ _ _ h => h) (by rfl) (by assumption) ?hy48 ?rest48
        case hy48 => intro w' hSw; (try dsimp only at hSw); go_simp; try with_reducible rfl
        try simp only [Act.put, List.setIfInBounds_toArray, List.set_cons_zero, List.set_cons_succ]
        refine wpAnyH_done (by kernel_rfl) ?_ _
        all_goals go_wp2
        all_goals go_roundw
        all_goals first
          | exact ⟨m + 1, .inl hlt, by omega, by go_num, HR.out, below_one hB (Below.refl _ wr).drew⟩
          | ((repeat apply Exists.intro); exact ⟨⟨m + 1, .inl hlt, by omega, by go_num, HR.out, below_one hB (Below.refl _ wr).drew⟩, rfl⟩)
          | (simp [intOf]; omega)
    · have HR := hid (show upN zs = true from upN_yes fun i hi => HU.out i (by omega))
      have hl1 : ¬ (m : Int) < (zs.length : Int) := by omega
      go_wp2
      go_ret
      exact ⟨ret_bool HR.out.symm, hB⟩

end Go.Proofs.YtallpldgkkpikaaGreatDoor

namespace Go.Proofs.YtallpldgkkpikaaGreatDoor
open Go.RowKit Go.Shelf

theorem nameOfWork_any (k : Wk) (w : World) :
    Calls Tryz.prog 27 #[k.val] w fun e w' => e = .returned (.string k.name) ∧ Below w.heap.size w w' := by
  go_enter Tryz.func27, Tryz.ntmps27
  go_wp2
  go_ret
  exact ⟨rfl, (Below.refl _ w).alloc (Nat.le_refl _) _⟩

set_option maxHeartbeats 2000000 in
set_option maxRecDepth 100000 in
theorem risingW_any (v : Value) (ws : List Wk) (w : World) (hm : ws.length ≤ 1048577) (hr : WkS w v ws) :
    Calls Tryz.prog 28 #[v, .func (.func 27) #[] #[]] w fun e w' => e = .returned (.bool (upW ws)) ∧ Below w.heap.size w w' := by
  obtain ⟨a, cap, rfl⟩ := hr.len
  go_enter Tryz.func28, Tryz.ntmps28
  go_wp2
  go_loopw [5] (fun i wr => ∃ m : Nat, (m ≤ ws.length ∨ m = 1) ∧ 1 ≤ m ∧ i = .int .i64 m ∧ (∀ j, j < m → upB ws j = true) ∧ Below w.heap.size w wr) (fun i _ => ws.length - (intOf i).toNat)
  case atStart => exact ⟨1, .inr rfl, Nat.le_refl _, rfl, fun j hj => (by obtain rfl : j = 0 := Nat.lt_one_iff.1 hj; rfl), Below.refl _ _⟩
  case round =>
    obtain ⟨m, hm2, hm1, rfl, hu, hB⟩ := hrel
    have HU := hid hu
    clear hu
    obtain ⟨n, hn⟩ : ∃ n, m = n + 1 := ⟨m - 1, by omega⟩
    by_cases hlt : m < ws.length
    · obtain ⟨b, off, rfl, hb, hcap, q0, q1, q2⟩ := (hr.below hB).at hlt
      obtain ⟨b', off', hbo, _, _, p0, p1, p2⟩ := (hr.below hB).at (i := n) (by omega)
      cases hbo
      have HS := hid (show upB ws m = blt (ws[n]'(by omega)).name ws[m].name by subst hn; exact upB_succ hlt)
      have HN := hid (fun h => upW_no (ws := ws) (i := m) hlt h)
      have hw1 : IntKind.i64.wrap ((m : Int) - 1) = (n : Int) := by rw [IntKind.wrap_i64]; omega
      have hl1 : (m : Int) < (ws.length : Int) := by omega
      have hl2 : (n : Int) < (ws.length : Int) := by omega
      generalize ws[m] = k at *
      generalize ws[n] = p at *
      clear hn
      have hle := ble_not k.name p.name
      cases hc : blt p.name k.name
      · rw [hc] at hle
        have HR := hid (HN.out (by rw [HS.out, hc]))
        go_wp2_with fail
        refine wp_region_held_drew (S := fun w' => w'.cell? ⟨b, off + m * 3, none⟩ = some (.string k.name) ∧ w'.cell? ⟨b, off + m * 3 + 1, none⟩ = some (.bool k.live) ∧ w'.cell? ⟨b, off + m * 3 + 2, none⟩ = some (.int .i64 k.se) ∧ w'.cell? ⟨b, off + n * 3, none⟩ = some (.string p.name) ∧ w'.cell? ⟨b, off + n * 3 + 1, none⟩ = some (.bool p.live) ∧ w'.cell? ⟨b, off + n * 3 + 2, none⟩ = some (.int .i64 p.se)) (by kernel_rfl) ?_ (fun hHeld => ?_)
        · go_keep
        refine takeW 0 (v := ?v1) rfl (by kernel_rfl) (by kernel_rfl) (by kernel_rfl) (fun _ _ _ h => h) (by rfl) (by assumption) ?hy1 ?rest1
        case hy1 => intro w' hSw; (try dsimp only at hSw); go_simp; try with_reducible rfl
        try simp only [Act.put, List.setIfInBounds_toArray, List.set_cons_zero, List.set_cons_succ]
        refine takeW 1 (v := ?v2) rfl (by kernel_rfl) (by kernel_rfl) (by kernel_rfl) (fun _ _ _ h => h) (by rfl) (by assumption) ?hy2 ?rest2
        case hy2 => intro w' hSw; (try dsimp only at hSw); go_simp; try with_reducible rfl
        try simp only [Act.put, List.setIfInBounds_toArray, List.set_cons_zero, List.set_cons_succ]
        refine takeW 2 (v := ?v3) rfl (by kernel_rfl) (by kernel_rfl) (by kernel_rfl) (fun _ _ _ h => h) (by rfl) (by assumption) ?hy3 ?rest3
        case hy3 => intro w' hSw; (try dsimp only at hSw); go_simp; try with_reducible rfl
        try simp only [Act.put, List.setIfInBounds_toArray, List.set_cons_zero, List.set_cons_succ]
        refine takeW 3 (v := ?v4) rfl (by kernel_rfl) (by kernel_rfl) (by kernel_rfl) (fun _ _ _ h => h) (by rfl) (by assumption) ?hy4 ?rest4
        case hy4 => intro w' hSw; (try dsimp only at hSw); go_simp; try with_reducible rfl
        try simp only [Act.put, List.setIfInBounds_toArray, List.set_cons_zero, List.set_cons_succ]
        refine takeW 4 (v := ?v5) rfl (by kernel_rfl) (by kernel_rfl) (by kernel_rfl) (fun _ _ _ h => h) (by rfl) (by assumption) ?hy5 ?rest5
        case hy5 => intro w' hSw; (try dsimp only at hSw); go_simp; try with_reducible rfl
        try simp only [Act.put, List.setIfInBounds_toArray, List.set_cons_zero, List.set_cons_succ]
        refine takeW 6 (v := ?v6) rfl (by kernel_rfl) (by kernel_rfl) (by kernel_rfl) (fun _ _ _ h => h) (by rfl) (by assumption) ?hy6 ?rest6
        case hy6 => intro w' hSw; (try dsimp only at hSw); go_simp; try with_reducible rfl
        try simp only [Act.put, List.setIfInBounds_toArray, List.set_cons_zero, List.set_cons_succ]
        refine takeW 7 (v := ?v7) rfl (by kernel_rfl) (by kernel_rfl) (by kernel_rfl) (fun _ _ _ h => h) (by rfl) (by assumption) ?hy7 ?rest7
        case hy7 => intro w' hSw; (try dsimp only at hSw); go_simp; try with_reducible rfl
        try simp only [Act.put, List.setIfInBounds_toArray, List.set_cons_zero, List.set_cons_succ]
        refine takeW 8 (v := ?v8) rfl (by kernel_rfl) (by kernel_rfl) (by kernel_rfl) (fun _ _ _ h => h) (by rfl) (by assumption) ?hy8 ?rest8
        case hy8 => intro w' hSw; (try dsimp only at hSw); go_simp; try with_reducible rfl
        try simp only [Act.put, List.setIfInBounds_toArray, List.set_cons_zero, List.set_cons_succ]
        refine takeW 9 (v := ?v9) rfl (by kernel_rfl) (by kernel_rfl) (by kernel_rfl) (fun _ _ _ h => h) (by rfl) (by assumption) ?hy9 ?rest9
        case hy9 => intro w' hSw; (try dsimp only at hSw); go_simp; try with_reducible rfl
        try simp only [Act.put, List.setIfInBounds_toArray, List.set_cons_zero, List.set_cons_succ]
        refine takeW 10 (v := ?v10) rfl (by kernel_rfl) (by kernel_rfl) (by kernel_rfl) (fun _ _ _ h => h) (by rfl) (by assumption) ?hy10 ?rest10
        case hy10 => intro w' hSw; (try dsimp only at hSw); go_simp; try with_reducible rfl
        try simp only [Act.put, List.setIfInBounds_toArray, List.set_cons_zero, List.set_cons_succ]
        refine takeW 11 (v := ?v11) rfl (by kernel_rfl) (by kernel_rfl) (by kernel_rfl) (fun _ _ _ h => h) (by rfl) (by assumption) ?hy11 ?rest11
        case hy11 => intro w' hSw; (try dsimp only at hSw); go_simp; try with_reducible rfl
        try simp only [Act.put, List.setIfInBounds_toArray, List.set_cons_zero, List.set_cons_succ]
        refine takeC 5 (by kernel_rfl) rfl (fun K hK => ?_)
        go_simp
        refine (nameOfWork_any k _).mono ?_; rintro e w1 ⟨rfl, hB1⟩; have hcb := fun o => hB1.cell (p := ⟨b, o, none⟩) (by exact hb); have hb1 : b < w1.heap.size := Nat.lt_of_lt_of_le hb hB1.size
        refine hK.out _ _ ?_ (fun hHeld => ?_)
        · go_keep
        clear hK K
        try simp only [Act.put, List.setIfInBounds_toArray, List.set_cons_zero, List.set_cons_succ]
        refine takeC 12 (by kernel_rfl) rfl (fun K hK => ?_)
        go_simp
        refine (nameOfWork_any p _).mono ?_; rintro e w2 ⟨rfl, hB2⟩; have hcb2 := fun o => hB2.cell (p := ⟨b, o, none⟩) (by exact hb1)
        refine hK.out _ _ ?_ (fun hHeld => ?_)
        · go_keep
        clear hK K
        try simp only [Act.put, List.setIfInBounds_toArray, List.set_cons_zero, List.set_cons_succ]
        refine takeW 13 (v := ?v12) rfl (by kernel_rfl) (by kernel_rfl) (by kernel_rfl) (fun _ _ _ h => h) (by rfl) (by assumption) ?hy12 ?rest12
        case hy12 => intro w' hSw; (try dsimp only at hSw); go_simp; try with_reducible rfl
        try simp only [Act.put, List.setIfInBounds_toArray, List.set_cons_zero, List.set_cons_succ]
        refine wpAnyH_done (by kernel_rfl) ?_ _
        have hBB := below_two hB (below_drew1 hB1) hB2
        clear hcb hcb2 hB1 hB2
        all_goals go_wp2
        all_goals go_ret
        all_goals exact ⟨ret_bool HR.out.symm, hBB⟩
      · rw [hc] at hle
        have HR := hid (show ∀ j, j < m + 1 → upB ws j = true from fun j hj => (by
          by_cases e : j = m
          · subst e
            rw [HS.out, hc]
          · exact HU.out j (by omega)))
        go_wp2_with fail
        refine wp_region_held_drew (S := fun w' => w'.cell? ⟨b, off + m * 3, none⟩ = some (.string k.name) ∧ w'.cell? ⟨b, off + m * 3 + 1, none⟩ = some (.bool k.live) ∧ w'.cell? ⟨b, off + m * 3 + 2, none⟩ = some (.int .i64 k.se) ∧ w'.cell? ⟨b, off + n * 3, none⟩ = some (.string p.name) ∧ w'.cell? ⟨b, off + n * 3 + 1, none⟩ = some (.bool p.live) ∧ w'.cell? ⟨b, off + n * 3 + 2, none⟩ = some (.int .i64 p.se)) (by kernel_rfl) ?_ (fun hHeld => ?_)
        · go_keep
        refine takeW 0 (v := ?v13) rfl (by kernel_rfl) (by kernel_rfl) (by kernel_rfl) (fun _ _ _ h => h) (by rfl) (by assumption) ?hy13 ?rest13
        case hy13 => intro w' hSw; (try dsimp only at hSw); go_simp; try with_reducible rfl
        try simp only [Act.put, List.setIfInBounds_toArray, List.set_cons_zero, List.set_cons_succ]
        refine takeW 1 (v := ?v14) rfl (by kernel_rfl) (by kernel_rfl) (by kernel_rfl) (fun _ _ _ h => h) (by rfl) (by assumption) ?hy14 ?rest14
        case hy14 => intro w' hSw; (try dsimp only at hSw); go_simp; try with_reducible rfl
        try simp only [Act.put, List.setIfInBounds_toArray, List.set_cons_zero, List.set_cons_succ]
        refine takeW 2 (v := ?v15) rfl (by kernel_rfl) (by kernel_rfl) (by kernel_rfl) (fun _ _ _ h => h) (by rfl) (by assumption) ?hy15 ?rest15
        case hy15 => intro w' hSw; (try dsimp only at hSw); go_simp; try with_reducible rfl
        try simp only [Act.put, List.setIfInBounds_toArray, List.set_cons_zero, List.set_cons_succ]
        refine takeW 3 (v := ?v16) rfl (by kernel_rfl) (by kernel_rfl) (by kernel_rfl) (fun _ _ _ h => h) (by rfl) (by assumption) ?hy16 ?rest16
        case hy16 => intro w' hSw; (try dsimp only at hSw); go_simp; try with_reducible rfl
        try simp only [Act.put, List.setIfInBounds_toArray, List.set_cons_zero, List.set_cons_succ]
        refine takeW 4 (v := ?v17) rfl (by kernel_rfl) (by kernel_rfl) (by kernel_rfl) (fun _ _ _ h => h) (by rfl) (by assumption) ?hy17 ?rest17
        case hy17 => intro w' hSw; (try dsimp only at hSw); go_simp; try with_reducible rfl
        try simp only [Act.put, List.setIfInBounds_toArray, List.set_cons_zero, List.set_cons_succ]
        refine takeW 6 (v := ?v18) rfl (by kernel_rfl) (by kernel_rfl) (by kernel_rfl) (fun _ _ _ h => h) (by rfl) (by assumption) ?hy18 ?rest18
        case hy18 => intro w' hSw; (try dsimp only at hSw); go_simp; try with_reducible rfl
        try simp only [Act.put, List.setIfInBounds_toArray, List.set_cons_zero, List.set_cons_succ]
        refine takeW 7 (v := ?v19) rfl (by kernel_rfl) (by kernel_rfl) (by kernel_rfl) (fun _ _ _ h => h) (by rfl) (by assumption) ?hy19 ?rest19
        case hy19 => intro w' hSw; (try dsimp only at hSw); go_simp; try with_reducible rfl
        try simp only [Act.put, List.setIfInBounds_toArray, List.set_cons_zero, List.set_cons_succ]
        refine takeW 8 (v := ?v20) rfl (by kernel_rfl) (by kernel_rfl) (by kernel_rfl) (fun _ _ _ h => h) (by rfl) (by assumption) ?hy20 ?rest20
        case hy20 => intro w' hSw; (try dsimp only at hSw); go_simp; try with_reducible rfl
        try simp only [Act.put, List.setIfInBounds_toArray, List.set_cons_zero, List.set_cons_succ]
        refine takeW 9 (v := ?v21) rfl (by kernel_rfl) (by kernel_rfl) (by kernel_rfl) (fun _ _ _ h => h) (by rfl) (by assumption) ?hy21 ?rest21
        case hy21 => intro w' hSw; (try dsimp only at hSw); go_simp; try with_reducible rfl
        try simp only [Act.put, List.setIfInBounds_toArray, List.set_cons_zero, List.set_cons_succ]
        refine takeW 10 (v := ?v22) rfl (by kernel_rfl) (by kernel_rfl) (by kernel_rfl) (fun _ _ _ h => h) (by rfl) (by assumption) ?hy22 ?rest22
        case hy22 => intro w' hSw; (try dsimp only at hSw); go_simp; try with_reducible rfl
        try simp only [Act.put, List.setIfInBounds_toArray, List.set_cons_zero, List.set_cons_succ]
        refine takeW 11 (v := ?v23) rfl (by kernel_rfl) (by kernel_rfl) (by kernel_rfl) (fun _ _ _ h => h) (by rfl) (by assumption) ?hy23 ?rest23
        case hy23 => intro w' hSw; (try dsimp only at hSw); go_simp; try with_reducible rfl
        try simp only [Act.put, List.setIfInBounds_toArray, List.set_cons_zero, List.set_cons_succ]
        refine takeC 5 (by kernel_rfl) rfl (fun K hK => ?_)
        go_simp
        refine (nameOfWork_any k _).mono ?_; rintro e w1 ⟨rfl, hB1⟩; have hcb := fun o => hB1.cell (p := ⟨b, o, none⟩) (by exact hb); have hb1 : b < w1.heap.size := Nat.lt_of_lt_of_le hb hB1.size
        refine hK.out _ _ ?_ (fun hHeld => ?_)
        · go_keep
        clear hK K
        try simp only [Act.put, List.setIfInBounds_toArray, List.set_cons_zero, List.set_cons_succ]
        refine takeC 12 (by kernel_rfl) rfl (fun K hK => ?_)
        go_simp
        refine (nameOfWork_any p _).mono ?_; rintro e w2 ⟨rfl, hB2⟩; have hcb2 := fun o => hB2.cell (p := ⟨b, o, none⟩) (by exact hb1)
        refine hK.out _ _ ?_ (fun hHeld => ?_)
        · go_keep
        clear hK K
        try simp only [Act.put, List.setIfInBounds_toArray, List.set_cons_zero, List.set_cons_succ]
        refine takeW 13 (v := ?v24) rfl (by kernel_rfl) (by kernel_rfl) (by kernel_rfl) (fun _ _ _ h => h) (by rfl) (by assumption) ?hy24 ?rest24
        case hy24 => intro w' hSw; (try dsimp only at hSw); go_simp; try with_reducible rfl
        try simp only [Act.put, List.setIfInBounds_toArray, List.set_cons_zero, List.set_cons_succ]
        refine wpAnyH_done (by kernel_rfl) ?_ _
        have hBB := below_two hB (below_drew1 hB1) hB2
        clear hcb hcb2 hB1 hB2
        all_goals go_wp2
        all_goals go_roundw
        all_goals first
          | exact ⟨m + 1, .inl hlt, by omega, by go_num, HR.out, hBB⟩
          | ((repeat apply Exists.intro); exact ⟨⟨m + 1, .inl hlt, by omega, by go_num, HR.out, hBB⟩, rfl⟩)
          | (simp [intOf]; omega)
    · have HR := hid (show upW ws = true from upW_yes fun i hi => HU.out i (by omega))
      have hl1 : ¬ (m : Int) < (ws.length : Int) := by omega
      go_wp2
      go_ret
      exact ⟨ret_bool HR.out.symm, hB⟩


end Go.Proofs.YtallpldgkkpikaaGreatDoor

namespace Go.Proofs.YtallpldgkkpikaaGreatDoor
open Go.RowKit Go.Shelf

theorem hd_no {s : Is} (h : 20 < s.ws.length ∨ s.nx < 1 ∨ 100000 < s.nx ∨ 200 < s.sg.length) : isB s = false := by
  apply isB_no1
  cases hh : hdB s
  · rfl
  · exfalso
    unfold hdB at hh
    simp at hh
    omega
theorem hd_yes {s : Is} (h1 : ¬ 20 < s.ws.length) (h2 : ¬ s.nx < 1) (h3 : ¬ 100000 < s.nx) (h4 : ¬ 200 < s.sg.length) : hdB s = true := by
  unfold hdB
  simp
  omega
/-- The names of an issuer's works are texts that the walks take. -/
def Is.named (s : Is) : Prop := ∀ k ∈ s.ws, k.name.size ≤ 1048576
theorem wk_no1 {nx : Int} {k : Wk} (h : gnB (split k.name 47) = false) : wkOk nx k = false := by unfold wkOk nmOk; rw [h]; rfl
theorem wk_no2 {nx : Int} {k : Wk} (h : ¬ (0 ≤ k.se ∧ k.se < nx)) : wkOk nx k = false := by unfold wkOk; rw [decide_eq_false h, Bool.and_false]
theorem wk_yes {nx : Int} {k : Wk} (h : gnB (split k.name 47) = true) (h2 : 0 ≤ k.se ∧ k.se < nx) : wkOk nx k = true := by unfold wkOk nmOk; rw [h, decide_eq_true h2]; rfl
theorem cells3 (w : World) (a b c : Value) (t : TypeId) : (w.alloc (.cells #[a, b, c] t)).cell? ⟨w.heap.size, 0, none⟩ = some a ∧ (w.alloc (.cells #[a, b, c] t)).cell? ⟨w.heap.size, 1, none⟩ = some b ∧ (w.alloc (.cells #[a, b, c] t)).cell? ⟨w.heap.size, 2, none⟩ = some c := by
  refine ⟨?_, ?_, ?_⟩ <;> simp

set_option maxHeartbeats 4000000 in
theorem implGoodIssuer_any (v : Value) (s : Is) (w : World) (hs : s.short) (hn : s.named) (h : IsA w v s) :
    Calls Tryz.prog 9 #[v] w fun e w' => e = .returned (.bool (isB s)) ∧ Below w.heap.size w w' := by
  obtain ⟨vw, vr, vs, rfl, h1, h2, h3⟩ := h.parts
  obtain ⟨l1, l2, l3⟩ := hs
  obtain ⟨aw, cw, rfl⟩ := h1.len
  obtain ⟨ar, cr, rfl⟩ := h2.numLen
  obtain ⟨ag, cg, rfl⟩ := h3.strLen
  have hB0 : Below w.heap.size w (w.alloc (.cells #[.slice aw s.ws.length cw, .int .i64 s.nx, .slice ar s.rv.length cr, .slice ag s.sg.length cg] 27)) := (Below.refl _ w).alloc (Nat.le_refl _) _
  have F := Four.new w (.slice aw s.ws.length cw) (.int .i64 s.nx) (.slice ar s.rv.length cr) (.slice ag s.sg.length cg) 27
  by_cases c1 : s.nx < 1
  · have HR := hid (hd_no (s := s) (by omega))
    go_enter Tryz.func9, Tryz.ntmps9
    go_wp2
    go_ret
    exact ⟨ret_bool HR.out.symm, hB0⟩
  by_cases c2 : 100000 < s.nx
  · have HR := hid (hd_no (s := s) (by omega))
    go_enter Tryz.func9, Tryz.ntmps9
    go_wp2
    go_ret
    exact ⟨ret_bool HR.out.symm, hB0⟩
  by_cases c3 : 20 < s.ws.length
  · have HR := hid (hd_no (s := s) (by omega))
    go_enter Tryz.func9, Tryz.ntmps9
    go_wp2
    go_ret
    exact ⟨ret_bool HR.out.symm, hB0⟩
  by_cases c4 : 200 < s.sg.length
  · have HR := hid (hd_no (s := s) (by omega))
    go_enter Tryz.func9, Tryz.ntmps9
    go_wp2
    go_ret
    exact ⟨ret_bool HR.out.symm, hB0⟩
  have HD := hid (hd_yes c3 c1 c2 c4)
  go_enter Tryz.func9, Tryz.ntmps9
  go_wp2_with fail
  generalize w.alloc (.cells #[.slice aw s.ws.length cw, .int .i64 s.nx, .slice ar s.rv.length cr, .slice ag s.sg.length cg] 27) = W0 at *
  refine (risingW_any _ s.ws _ l1 (h1.below hB0)).mono ?_
  rintro e w1 ⟨rfl, hB1⟩
  replace F := F.below hB1
  have hBB1 := below_one hB0 hB1
  clear hB1 hB0
  obtain ⟨a0, a1, a2, a3⟩ := F.c
  cases hu : upW s.ws
  · have HR := hid (isB_no2 hu)
    go_wp2_with fail
    go_ret
    exact ⟨ret_bool HR.out.symm, hBB1⟩
  have HU := hid hu
  clear hu
  go_wp2_with fail
  refine (risingN_any _ s.rv _ l2 (h2.below hBB1)).mono ?_
  rintro e w2 ⟨rfl, hB2⟩
  replace F := F.below hB2
  have hBB2 := below_one hBB1 hB2
  clear hB2 hBB1 a0 a1 a2 a3
  obtain ⟨a0, a1, a2, a3⟩ := F.c
  cases hv : upN s.rv
  · have HR := hid (isB_no4 hv)
    go_wp2_with fail
    go_ret
    exact ⟨ret_bool HR.out.symm, hBB2⟩
  have HV := hid hv
  clear hv
  go_wp2_with fail
  clear a0 a1 a2 a3
  go_loopw [40] (fun i wr => ∃ n : Nat, n ≤ s.ws.length ∧ i = .int .i64 n ∧ (∀ j (hj : j < s.ws.length), j < n → wkOk s.nx s.ws[j] = true) ∧ Below w2.heap.size w2 wr) (fun i _ => s.ws.length - (intOf i).toNat)
  case atStart => exact ⟨0, Nat.zero_le _, rfl, fun _ _ h => absurd h (Nat.not_lt_zero _), Below.refl _ _⟩
  case round =>
    obtain ⟨n, hnl, rfl, hk, hB⟩ := hrel
    have HK := hid hk
    clear hk
    have hBr := below_one hBB2 hB
    have Fr := F.below hB
    by_cases hlt : n < s.ws.length
    · obtain ⟨b, off, rfl, hb, hcap, q0, q1, q2⟩ := (h1.below hBr).at hlt
      have hz := hn s.ws[n] (List.getElem_mem hlt)
      have HN := hid (fun h => okW_no (nx := s.nx) (ws := s.ws) hlt h)
      have HY := hid (show wkOk s.nx s.ws[n] = true → ∀ j (hj : j < s.ws.length), j < n + 1 → wkOk s.nx s.ws[j] = true from fun hh j hj hjn => (by
        by_cases e : j = n
        · subst e
          exact hh
        · exact HK.out j hj (by omega)))
      generalize s.ws[n] = k at *
      have hBa : Below wr.heap.size wr (wr.alloc (.cells #[.string k.name, .bool k.live, .int .i64 k.se] 64)) := (Below.refl _ wr).alloc (Nat.le_refl _) _
      obtain ⟨x0, x1, x2⟩ := cells3 wr (.string k.name) (.bool k.live) (.int .i64 k.se) 64
      have hzw : wr.heap.size < (wr.alloc (.cells #[.string k.name, .bool k.live, .int .i64 k.se] 64)).heap.size := by simp
      have Fa := Fr.below hBa
      have hBA := below_one hB hBa
      go_wp2_with fail
      generalize wr.alloc (.cells #[.string k.name, .bool k.live, .int .i64 k.se] 64) = Wa at *
      refine (implGoodName_any k.name _ hz).mono ?_
      rintro e w3 ⟨rfl, hB3⟩
      have y2 := (hB3.cell (p := ⟨wr.heap.size, 2, none⟩) hzw).trans x2
      have F3 := Fa.below hB3
      have hBB3 := below_one hBA hB3
      clear x0 x1 x2 q0 q1 q2 hB3 Fa hBa
      obtain ⟨a0, a1, a2, a3⟩ := F3.c
      cases hg : gnB (split k.name 47)
      · have HR := hid (isB_no3 (HN.out (wk_no1 hg)))
        go_wp2_with fail
        go_ret
        exact ⟨ret_bool HR.out.symm, below_one hBB2 hBB3⟩
      · by_cases d1 : k.se < 0
        · have HR := hid (isB_no3 (HN.out (wk_no2 (by omega))))
          go_wp2_with fail
          go_ret
          exact ⟨ret_bool HR.out.symm, below_one hBB2 hBB3⟩
        · by_cases d2 : s.nx ≤ k.se
          · have HR := hid (isB_no3 (HN.out (wk_no2 (by omega))))
            go_wp2_with fail
            go_ret
            exact ⟨ret_bool HR.out.symm, below_one hBB2 hBB3⟩
          · have HR := hid (HY.out (wk_yes hg (by omega)))
            go_wp2_with fail
            go_roundw
            case rel => exact ⟨n + 1, by omega, by go_num, HR.out, hBB3⟩
            case measure => simp [intOf]; omega
    · obtain rfl : n = s.ws.length := by omega
      have HW := hid (show okW s.nx s.ws = true from okW_yes fun i hi => HK.out i hi hi)
      obtain ⟨a0, a1, a2, a3⟩ := Fr.c
      go_wp2_with fail
      clear a0 a2 a3
      go_loopw [64] (fun i wq => ∃ n : Nat, n ≤ s.rv.length ∧ i = .int .i64 n ∧ (∀ j (hj : j < s.rv.length), j < n → 1 ≤ s.rv[j] ∧ s.rv[j] < s.nx) ∧ wq = wr) (fun i _ => s.rv.length - (intOf i).toNat)
      case atStart => exact ⟨0, Nat.zero_le _, rfl, fun _ _ h => absurd h (Nat.not_lt_zero _), rfl⟩
      case round =>
        obtain ⟨n, hnl, rfl, hk, rfl⟩ := hrel
        have HQ := hid hk
        clear hk
        by_cases hlt : n < s.rv.length
        · obtain ⟨b, off, rfl, hb, hcap, q0⟩ := (h2.below hBr).num hlt
          have HN := hid (fun h => okN_no (nx := s.nx) (zs := s.rv) hlt h)
          have HY := hid (show (1 ≤ s.rv[n] ∧ s.rv[n] < s.nx) → ∀ j (hj : j < s.rv.length), j < n + 1 → 1 ≤ s.rv[j] ∧ s.rv[j] < s.nx from fun hh j hj hjn => (by
            by_cases e : j = n
            · subst e
              exact hh
            · exact HQ.out j hj (by omega)))
          generalize s.rv[n] = z at *
          by_cases d1 : z < 1
          · have HR := hid (isB_no5 (HN.out (by omega)))
            go_wp2_with fail
            go_ret
            exact ⟨ret_bool HR.out.symm, hBr⟩
          · by_cases d2 : s.nx ≤ z
            · have HR := hid (isB_no5 (HN.out (by omega)))
              go_wp2_with fail
              go_ret
              exact ⟨ret_bool HR.out.symm, hBr⟩
            · have HR := hid (HY.out (by omega))
              go_wp2_with fail
              go_roundw
              case rel => exact ⟨n + 1, by omega, by go_num, HR.out, by trivial⟩
              case measure => simp [intOf]; omega
        · obtain rfl : n = s.rv.length := by omega
          have HR := hid (isB_yes HD.out HU.out HW.out HV.out (okN_yes fun i hi => HQ.out i hi hi))
          go_wp2_with fail
          go_ret
          exact ⟨ret_bool HR.out.symm, hBr⟩

/-- The forms of an issuer's parts. -/
theorem is_forms {w : World} {v : Value} {s : Is} (h : IsA w v s) : ∃ aw cw ar cr ag cg, v = .agg #[.slice aw s.ws.length cw, .int .i64 s.nx, .slice ar s.rv.length cr, .slice ag s.sg.length cg] := by
  obtain ⟨vw, vr, vs, rfl, h1, h2, h3⟩ := h.parts
  obtain ⟨aw, cw, rfl⟩ := h1.len
  obtain ⟨ar, cr, rfl⟩ := h2.numLen
  obtain ⟨ag, cg, rfl⟩ := h3.strLen
  exact ⟨_, _, _, _, _, _, rfl⟩
theorem is_named {s : Is} (h : s.size ≤ 1048576) : s.named := fun k hk => by
  have := wz_mem hk
  unfold Is.size wzAll at h
  omega
theorem is_short {s : Is} (h : s.size ≤ 1048576) : s.short := by
  unfold Is.size wzAll tzAll at h
  exact ⟨by omega, by omega, by omega⟩

end Go.Proofs.YtallpldgkkpikaaGreatDoor
