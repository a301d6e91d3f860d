/-
  Chapter 2, the program's side: PlainPolicy.
-/
import Derived.Test.YthpckiobfjdckaaGreatPlainS
import Derived.Test.YthpckiobfjdckaaGreatPlainD
import Derived.Test.YthpckiobfjdckaaGreatImplG
namespace Go.Proofs.YthpckiobfjdckaaGreat
open Go.RowKit Go.Shelf Go.Sort

/-- The plain policy. -/
def plX (rs : List Ru) : List Ru := if polB rs = true then plTo rs rs.length else []
theorem plX_no {rs : List Ru} (h : polB rs = false) : plX rs = [] := if_neg (by rw [h]; exact Bool.false_ne_true)
theorem plX_yes {rs : List Ru} (h : polB rs = true) : plX rs = plTo rs rs.length := if_pos h

theorem cloneRules_any (base g n cap : Nat) (news : List Value) (w : World) (hn : n ≤ 1048577) (h1 : ∀ u ∈ news, u.oneCell' = true) (hrow : w.ownsRow base 63 4 (.slice (some ⟨g, 0, none⟩) n cap) n news) :
    Calls Tryz.prog 72 #[.slice (some ⟨g, 0, none⟩) n cap] w fun e w' => ∃ v', e = .returned v' ∧ w'.ownsRow w.heap.size 63 4 v' n news ∧ v' ≠ .slice none 0 0 ∧ Below w.heap.size w w' := by
  obtain ⟨i0, hi, hz0, hz1, hz2⟩ := info_parts infoRule
  exact AnyE.slices_Clone Tryz.cloneRu i0 _ 4 56 hi hz0 hz1 hz2 rfl (by decide) Tryz.sizeOf63 g 0 n cap news w hrow.1 (by unfold maxLen; omega) (by omega)
    (fun j u hu => by
      have hj : j < news.length := (List.getElem?_eq_some_iff.1 hu).1
      rw [Nat.zero_add, hrow.cellAt j (by rw [← hrow.1]; exact hj), hu]) h1
theorem cloneRules_nil (n cap : Nat) (w : World) :
    Calls Tryz.prog 72 #[.slice none n cap] w fun e w' => e = .returned (.slice none 0 0) ∧ w' = w := AnyE.slices_Clone_nil Tryz.cloneRu n cap w
theorem sortRules_nil (p : Option Addr) (cap : Nat) (fv : Value) (w : World) :
    Calls Tryz.prog 73 #[.slice p 0 cap, fv] w fun e w' => e = .returned (.tuple #[]) ∧ w' = w := AnyF.slices_SortFunc_none Tryz.sortRu p cap fv w

set_option maxHeartbeats 1000000 in
theorem compact_nil (w : World) :
    Calls Tryz.prog 77 #[.slice none 0 0] w fun e w' => e = .returned (.slice none 0 0) ∧ w' = w := by
  go_enter Tryz.func77, Tryz.ntmps77
  go_wp2
  go_ret
  exact ⟨rfl, rfl⟩

theorem cells_one {rs : List Ru} : ∀ u ∈ rs.flatMap Ru.cells, u.oneCell' = true := by
  intro u hu
  rw [List.mem_flatMap] at hu
  obtain ⟨r, _, hr⟩ := hu
  simp at hr
  rcases hr with rfl | rfl | rfl | rfl <;> rfl
theorem pol_all {rs : List Ru} (h : polB rs = true) : (∀ r ∈ rs, r.good = true) ∧ rs.length ≤ 30 := by
  unfold polB at h
  rw [Bool.and_eq_true, List.all_eq_true] at h
  exact ⟨h.1, of_decide_eq_true h.2⟩

set_option maxHeartbeats 2000000 in
theorem implPlainPolicy_any (v : Value) (rs : List Ru) (base : Nat) (w : World) (hm : rs.length ≤ 1048577) (hf : ∀ r ∈ rs, r.size ≤ 1048576) (hrow : w.ownsRow base 63 4 v rs.length (rs.flatMap Ru.cells)) :
    Calls Tryz.prog 40 #[v] w fun e w' => ∃ v', e = .returned (.tuple #[v', .bool (polB rs)]) ∧ w'.ownsRow w.heap.size 63 4 v' (plX rs).length ((plX rs).flatMap Ru.cells) ∧ Below w.heap.size w w' := by
  cases hp : polB rs
  · have HX := hid (plX_no hp)
    obtain ⟨a, cap, rfl⟩ := ownsRow_len hrow
    go_enter Tryz.func40, Tryz.ntmps40
    go_wp2_with fail
    refine (goodPolicy_any _ rs _ hm hf (RuS.own hrow)).mono ?_
    rintro e w1 ⟨rfl, hB1⟩
    rw [hp]
    go_wp2_with fail
    go_ret2
    exact ⟨_, rfl, by rw [HX.out]; exact World.ownsRow_nil _ _ _ _, hB1⟩
  · have HX := hid (plX_yes hp)
    have HG := hid (pol_all hp)
    rcases row_form hrow with ⟨rfl, h0⟩ | ⟨g, cap, rfl, hg, hcap⟩
    · obtain rfl : rs = [] := List.eq_nil_of_length_eq_zero h0
      go_enter Tryz.func40, Tryz.ntmps40
      go_wp2_with fail
      refine (goodPolicy_any _ [] _ hm hf (RuS.own hrow)).mono ?_
      rintro e w1 ⟨rfl, hB1⟩
      rw [hp]
      go_wp2_with fail
      refine (cloneRules_nil _ _ _).mono ?_
      rintro e w2 ⟨rfl, rfl⟩
      go_wp2_with fail
      refine (sortRules_nil _ _ _ _).mono ?_
      rintro e w3 ⟨rfl, rfl⟩
      go_wp2_with fail
      refine (compact_nil _).mono ?_
      rintro e w4 ⟨rfl, rfl⟩
      go_wp2_with fail
      go_ret2
      exact ⟨_, rfl, by rw [HX.out]; exact World.ownsRow_nil _ _ _ _, hB1⟩
    · go_enter Tryz.func40, Tryz.ntmps40
      go_wp2_with fail
      refine (goodPolicy_any _ rs _ hm hf (RuS.own hrow)).mono ?_
      rintro e w1 ⟨rfl, hB1⟩
      rw [hp]
      have hrow1 := ownsRow_below hrow hB1
      go_wp2_with fail
      refine (cloneRules_any base g rs.length cap _ _ hm cells_one hrow1).mono ?_
      rintro e w2 ⟨v2, rfl, hrow2, hnn, hB2⟩
      have hBB2 := below_one hB1 hB2
      rcases row_form hrow2 with ⟨h', _⟩ | ⟨g2, cap2, rfl, hg2, hcap2⟩
      · exact absurd h' hnn
      · obtain ⟨l, hl⟩ : ∃ l : List SmR, l.map Subtype.val = rs := ⟨rs.pmap Subtype.mk hf, by simp [List.map_pmap]⟩
        have hll : l.length = rs.length := by rw [← hl, List.length_map]
        have hrow2' : w2.ownsRow w1.heap.size 63 4 (.slice (some ⟨g2, 0, none⟩) l.length cap2) l.length ((l.map Subtype.val).flatMap Ru.cells) := by rw [hl, hll]; exact hrow2
        have hz12 := hB1.size
        go_wp2_with fail
        rw [← hll]
        refine (sortRules_any w1.heap.size g2 cap2 l _ (by omega) hrow2').mono ?_
        rintro e w3 ⟨rfl, ds, hperm, hsort, hrow3, hg3⟩
        have hBB3 : Below w.heap.size w w3 := hBB2.grown hg3 hBB2.size (fun k hk => by cases hk; omega)
        have hdl : (ds.map Subtype.val).length = rs.length := by rw [List.length_map, ← hll]; exact hperm.length_eq
        rw [hll] at hrow3
        have HP := hid (show cpTo (ds.map Subtype.val) rs.length = plTo rs rs.length by
          have := plain_eq (rs := rs) (ds := ds.map Subtype.val) HG.out.1 (by rw [← hl]; exact hperm.map _) (fun i j hi hj => by
            rw [List.getElem_map, List.getElem_map]
            exact hsort i j hi (by rw [List.length_map] at hj; exact hj))
          rw [hdl] at this
          exact this)
        clear hrow hrow1 hrow2 hrow2' hB1 hB2 hsort hperm
        go_wp2_with fail
        refine (compact_any w1.heap.size g2 cap2 rs.length (ds.map Subtype.val) _ hdl (by omega) hrow3).mono ?_
        rintro e w4 ⟨rfl, hrow4, hg4⟩
        rw [HP.out] at hrow4 ⊢
        have hBB4 : Below w.heap.size w w4 := hBB3.grown hg4 hBB3.size (fun k hk => by cases hk; omega)
        go_wp2_with fail
        go_ret2
        exact ⟨_, rfl, by rw [HX.out]; exact Go.Joins.ownsRow_le hrow4 hz12, hBB4⟩

end Go.Proofs.YthpckiobfjdckaaGreat
