/-
  Lists of versions marked by the laws, and held against the marks.
-/
import Derived.Test.YtmmjiocmldnamaaGreatSnK
namespace Go.Proofs.YtmmjiocmldnamaaGreat
open Go.RowKit Go.Shelf

/-- The version that is laid from the number c on. -/
def mkV (c : Nat) (s : Sn) : Sn := ⟨(c : Int), mkL (c + 1) s.pol.length, mkN (c + 1 + 4 * s.pol.length) s.rv.length⟩
def mvTo (ss : List Sn) (j : Nat) : Nat := ((ss.take j).map (fun s => 1 + s.many)).sum
theorem mvTo_zero (ss : List Sn) : mvTo ss 0 = 0 := by simp [mvTo]
theorem mvTo_succ {ss : List Sn} {j : Nat} (h : j < ss.length) : mvTo ss (j + 1) = mvTo ss j + (1 + ss[j].many) := by
  unfold mvTo
  rw [List.take_succ_eq_append_getElem h, List.map_append, List.sum_append]
  simp
theorem mvTo_le (ss : List Sn) (j : Nat) : mvTo ss j ≤ mvTo ss ss.length := by
  unfold mvTo
  rw [List.take_length]
  conv => rhs; rw [← List.take_append_drop j ss, List.map_append, List.sum_append]
  omega
theorem mvTo_size (ss : List Sn) : mvTo ss ss.length ≤ 4 * vzAll ss := by
  have h : ∀ l : List Sn, (l.map (fun s => 1 + s.many)).sum ≤ l.length + 4 * (l.map Sn.size).sum := by
    intro l
    induction l with
    | nil => simp
    | cons s l ih =>
      simp only [List.map_cons, List.sum_cons, List.length_cons]
      have : s.many ≤ 4 * s.size := by unfold Sn.many Sn.size szAll; omega
      omega
  have := h ss
  unfold mvTo vzAll vzTo
  rw [List.take_length]
  omega
/-- The versions of a marked list. -/
def mkVs (c : Nat) (ss : List Sn) : List Sn := (List.range ss.length).map (fun i => match ss[i]? with
  | some s => mkV (c + mvTo ss i) s
  | Option.none => Sn.none)
theorem mkVs_len (c : Nat) (ss : List Sn) : (mkVs c ss).length = ss.length := by simp [mkVs]
theorem mkVs_at {c : Nat} {ss : List Sn} {i : Nat} (h : i < (mkVs c ss).length) : (mkVs c ss)[i] = mkV (c + mvTo ss i) (ss[i]'(by rw [← mkVs_len c ss]; exact h)) := by
  have hi : i < ss.length := by rw [← mkVs_len c ss]; exact h
  simp [mkVs, List.getElem?_eq_getElem hi]
theorem set_next {α : Type} {M L : List α} {j : Nat} (hM : M.length = L.length) (hj : j < L.length) : (M.take j ++ L.drop j).set j (M[j]'(by omega)) = M.take (j + 1) ++ L.drop (j + 1) := by
  rw [List.set_append_right _ _ (by rw [List.length_take]; omega), List.length_take, show j - min j M.length = 0 by omega, List.take_succ_eq_append_getElem (by omega), List.append_assoc]
  congr 1
  rw [List.drop_eq_getElem_cons hj]
  rfl
theorem get_next {α : Type} {M L : List α} {j : Nat} (hM : M.length = L.length) (hj : j < L.length) (h : j < (M.take j ++ L.drop j).length) : (M.take j ++ L.drop j)[j] = L[j] := by
  rw [List.getElem_append_right (by rw [List.length_take]; omega)]
  simp only [List.length_take]
  rw [List.getElem_drop]
  congr 1
  omega
theorem SsK.setNum {w : World} {base top g cap n : Nat} {ss : List Sn} {xs : List Value} {vp vr : Nat → Value} (h : SsK w base top (.slice (some ⟨g, 0, none⟩) n cap) n ss n xs vp vr) (hl : ss.length = n) {j : Nat} (hj : j < ss.length) (z : Int) :
    SsK (w.setCell ⟨g, j * 3, none⟩ (.int .i64 z)) base top (.slice (some ⟨g, 0, none⟩) n cap) n (ss.set j ⟨z, ss[j].pol, ss[j].rv⟩) n (xs.set (j * 3) (.int .i64 z)) vp vr := by
  have hlen : xs.length = n * 3 := h.row.1
  have hnb : ∀ {e : TypeId} {s m : Nat} {v : Value} {x : List Value}, w.ownsRow base e s v m x → e ≠ 48 → v.ownBlock ≠ some g := fun hr hne e => row_apart hr h.row hne g e rfl
  refine ⟨(h.row.stored (j * 3) _).1, h.rlt, ?_, ?_, ?_, fun i hi => h.plt i (by simpa using hi), fun i hi => h.nlt i (by simpa using hi), fun i k hi hk => h.pap i k (by simpa using hi) (by simpa using hk), fun i k hi hk => h.nap i k (by simpa using hi) (by simpa using hk)⟩
  · intro i hi hik
    have hi' : i < ss.length := by simpa using hi
    obtain ⟨c0, c1, c2⟩ := h.cs i hi' hik
    by_cases e : j = i
    · subst e
      rw [List.getElem_set_self]
      exact ⟨by rw [List.getElem?_set_self (by omega)], by rw [List.getElem?_set_ne (by omega)]; exact c1, by rw [List.getElem?_set_ne (by omega)]; exact c2⟩
    · rw [List.getElem_set_ne e]
      exact ⟨by rw [List.getElem?_set_ne (by omega)]; exact c0, by rw [List.getElem?_set_ne (by omega)]; exact c1, by rw [List.getElem?_set_ne (by omega)]; exact c2⟩
  · intro i hi hik
    have hi' : i < ss.length := by simpa using hi
    have := ownsRow_setCell_other (h.pol i hi' hik) (a := ⟨g, j * 3, none⟩) (hnb (h.pol i hi' hik) tyR) (.int .i64 z)
    by_cases e : j = i
    · subst e
      rw [List.getElem_set_self]
      exact this
    · rw [List.getElem_set_ne e]
      exact this
  · intro i hi hik
    have hi' : i < ss.length := by simpa using hi
    have := ownsRow_setCell_other (h.num i hi' hik) (a := ⟨g, j * 3, none⟩) (hnb (h.num i hi' hik) tyN) (.int .i64 z)
    by_cases e : j = i
    · subst e
      rw [List.getElem_set_self]
      exact this
    · rw [List.getElem_set_ne e]
      exact this
theorem SsK.setPol {w w1 : World} {base top n : Nat} {v : Value} {ss : List Sn} {xs : List Value} {vp vr : Nat → Value} (h : SsK w base top v n ss n xs vp vr) (hl : ss.length = n) {j : Nat} (hj : j < ss.length) {rs : List Ru} (hg : w.grownBy w1 (vp j).ownBlock) (hp : w1.ownsRow base 71 4 (vp j) rs.length (rs.flatMap Ru.cells)) :
    SsK w1 base top v n (ss.set j ⟨ss[j].num, rs, ss[j].rv⟩) n xs vp vr := by
  have hpj := h.pol j hj (by omega)
  refine ⟨kept_apart h.row hg (fun k h1 h2 => row_apart hpj h.row tyR k h2 h1), h.rlt, ?_, ?_, ?_, fun i hi => h.plt i (by simpa using hi), fun i hi => h.nlt i (by simpa using hi), fun i k hi hk => h.pap i k (by simpa using hi) (by simpa using hk), fun i k hi hk => h.nap i k (by simpa using hi) (by simpa using hk)⟩
  · intro i hi hik
    have hi' : i < ss.length := by simpa using hi
    by_cases e : j = i
    · subst e
      rw [List.getElem_set_self]
      exact h.cs j hi' hik
    · rw [List.getElem_set_ne e]
      exact h.cs i hi' hik
  · intro i hi hik
    have hi' : i < ss.length := by simpa using hi
    by_cases e : j = i
    · subst e
      rw [List.getElem_set_self]
      exact hp
    · rw [List.getElem_set_ne e]
      exact kept_apart (h.pol i hi' hik) hg (fun k h1 h2 => h.pap i j hi' hj hik (by omega) (by omega) k h1 h2)
  · intro i hi hik
    have hi' : i < ss.length := by simpa using hi
    have := kept_apart (h.num i hi' hik) hg (fun k h1 h2 => row_apart hpj (h.num i hi' hik) tyRN k h2 h1)
    by_cases e : j = i
    · subst e
      rw [List.getElem_set_self]
      exact this
    · rw [List.getElem_set_ne e]
      exact this
theorem SsK.setRv {w w1 : World} {base top n : Nat} {v : Value} {ss : List Sn} {xs : List Value} {vp vr : Nat → Value} (h : SsK w base top v n ss n xs vp vr) (hl : ss.length = n) {j : Nat} (hj : j < ss.length) {zs : List Int} (hg : w.grownBy w1 (vr j).ownBlock) (hp : w1.ownsRow base 3 1 (vr j) zs.length (nums zs)) :
    SsK w1 base top v n (ss.set j ⟨ss[j].num, ss[j].pol, zs⟩) n xs vp vr := by
  have hpj := h.num j hj (by omega)
  refine ⟨kept_apart h.row hg (fun k h1 h2 => row_apart hpj h.row tyN k h2 h1), h.rlt, ?_, ?_, ?_, fun i hi => h.plt i (by simpa using hi), fun i hi => h.nlt i (by simpa using hi), fun i k hi hk => h.pap i k (by simpa using hi) (by simpa using hk), fun i k hi hk => h.nap i k (by simpa using hi) (by simpa using hk)⟩
  · intro i hi hik
    have hi' : i < ss.length := by simpa using hi
    by_cases e : j = i
    · subst e
      rw [List.getElem_set_self]
      exact h.cs j hi' hik
    · rw [List.getElem_set_ne e]
      exact h.cs i hi' hik
  · intro i hi hik
    have hi' : i < ss.length := by simpa using hi
    have := kept_apart (h.pol i hi' hik) hg (fun k h1 h2 => row_apart (h.pol i hi' hik) hpj tyRN k h1 h2)
    by_cases e : j = i
    · subst e
      rw [List.getElem_set_self]
      exact this
    · rw [List.getElem_set_ne e]
      exact this
  · intro i hi hik
    have hi' : i < ss.length := by simpa using hi
    by_cases e : j = i
    · subst e
      rw [List.getElem_set_self]
      exact hp
    · rw [List.getElem_set_ne e]
      exact kept_apart (h.num i hi' hik) hg (fun k h1 h2 => h.nap i j hi' hj hik (by omega) (by omega) k h1 h2)

set_option maxHeartbeats 4000000 in
theorem markSnapshotS_any (v : Value) (ss : List Sn) (c0 base top : Nat) (w : World) (hm : shortS ss) (hk : c0 + mvTo ss ss.length ≤ 8000000) (h : SsO w base top v ss) :
    Calls Tryz.prog 16 #[v, .int .i64 c0] w fun e w' => e = .returned (.int .i64 ((c0 + mvTo ss ss.length : Nat) : Int)) ∧ SsO w' base top v (mkVs c0 ss) ∧ Mid base top w w' := by
  obtain ⟨xs, vp, vr, h⟩ := h
  have hm1 := hm.1
  rcases row_form h.row with ⟨rfl, h0⟩ | ⟨g, cap, rfl, hg, hcap⟩
  · obtain rfl : ss = [] := List.eq_nil_of_length_eq_zero h0
    go_enter Tryz.func16, Tryz.ntmps16
    go_wp2
    refine wp_loop_rounds 1 ?_
    rw [rounds_succ]
    go_wp2
    go_ret
    exact ⟨rfl, SsO.none _ _ _, Mid.of_below (Below.refl _ _)⟩
  · have hgt := h.rlt g rfl
    have hML := mkVs_len c0 ss
    go_enter Tryz.func16, Tryz.ntmps16
    go_wp2
    go_loopw [1, 5] (fun kv i wr => ∃ (j c : Nat), j ≤ ss.length ∧ Hid (c = c0 + mvTo ss j) ∧ kv = .int .i64 c ∧ i = .int .i64 j ∧ ∃ xs vp vr, SsK wr base top (.slice (some ⟨g, 0, none⟩) ss.length cap) ss.length ((mkVs c0 ss).take j ++ ss.drop j) ss.length xs vp vr ∧ Mid base top w wr) (fun _ i _ => ss.length - (intOf i).toNat)
    case atStart => exact ⟨0, c0, Nat.zero_le _, hid (by rw [mvTo_zero]; rfl), rfl, rfl, xs, vp, vr, h, Mid.of_below (Below.refl _ _)⟩
    case round =>
      obtain ⟨j, c, hj, HC, rfl, rfl, xs, vp, vr, hK, hM⟩ := hrel
      have hc9 : c ≤ 8000000 := by have := HC.out; have := mvTo_le ss j; omega
      by_cases hlt : j < ss.length
      · obtain ⟨M, HM⟩ : ∃ M, Hid (M = (mkVs c0 ss).take j ++ ss.drop j) := ⟨_, hid rfl⟩
        rw [← HM.out] at hK
        have hMl : M.length = ss.length := by rw [HM.out, List.length_append, List.length_take, List.length_drop]; omega
        have HG := hid (show M[j]'(by omega) = ss[j] by simp only [HM.out]; exact get_next hML hlt (by rw [← HM.out]; omega))
        have HN := hid (show M.set j (mkV c ss[j]) = (mkVs c0 ss).take (j + 1) ++ ss.drop (j + 1) by
          have hjm : j < (mkVs c0 ss).length := by omega
          have e : (mkVs c0 ss)[j] = mkV c ss[j] := by rw [mkVs_at, ← HC.out]
          rw [← e, HM.out]
          exact set_next hML hlt)
        have HS := hid (mvTo_succ hlt)
        have HT := hid (mvTo_le ss (j + 1))
        have hsh := hm.2 ss[j] (List.getElem_mem hlt)
        generalize ss[j] = s at *
        have hml : j < M.length := by omega
        have hmn : s.many = 4 * s.pol.length + s.rv.length := rfl
        have hcb : c + 1 + 4 * s.pol.length + s.rv.length ≤ 8000000 := by have := HC.out; have := HS.out; have := HT.out; omega
        clear h
        obtain ⟨xa, ya, za, hvp⟩ := row_slice (hK.pol j hml (by omega))
        obtain ⟨xb, yb, zb, hvr⟩ := row_slice (hK.num j hml (by omega))
        have K1 : SsK (wr.setCell ⟨g, j * 3, none⟩ (.int .i64 (c : Int))) base top (.slice (some ⟨g, 0, none⟩) ss.length cap) ss.length (M.set j ⟨(c : Int), s.pol, s.rv⟩) ss.length (xs.set (j * 3) (.int .i64 (c : Int))) vp vr := by
          have := hK.setNum hMl hml (c : Int)
          rw [HG.out] at this
          exact this
        have hjs : j < (M.set j ⟨(c : Int), s.pol, s.rv⟩).length := by rw [List.length_set]; exact hml
        have s0 := hK.row.cellAt (j * 3) (by have := hK.row.1; omega)
        rw [List.getElem?_eq_getElem (by have := hK.row.1; omega)] at s0
        have t0 := hK.row.frozenAt (j * 3)
        have M1 := hM.set (p := ⟨g, j * 3, none⟩) hg hgt (.int .i64 (c : Int))
        have s1 := (K1.row.cellAt (j * 3 + 1) (by omega)).trans (K1.cs j hjs hlt).2.1
        have s2 := (K1.row.cellAt (j * 3 + 2) (by omega)).trans (K1.cs j hjs hlt).2.2
        have o1 := K1.pol j hjs hlt
        have o2 := K1.num j hjs hlt
        have l1 := K1.plt j hjs hlt
        have l2 := K1.nlt j hjs hlt
        rw [List.getElem_set_self] at o1 o2
        rw [hvp] at s1 o1 l1
        rw [hvr] at s2 o2 l2
        obtain ⟨c1, HC1⟩ : ∃ c1, Hid (c1 = c + 1) := ⟨_, hid rfl⟩
        obtain ⟨c2, HC2⟩ : ∃ c2, Hid (c2 = c1 + 4 * s.pol.length) := ⟨_, hid rfl⟩
        obtain ⟨c3, HC3⟩ : ∃ c3, Hid (c3 = c2 + s.rv.length) := ⟨_, hid rfl⟩
        have HW := hid (show IntKind.i64.wrap ((c : Int) + 1) = (c1 : Int) by rw [IntKind.wrap_i64]; have := HC1.out; omega)
        have hw1 := HW.out
        go_wp2_with fail
        clear s0 t0 hK hM
        generalize wr.setCell ⟨g, j * 3, none⟩ (.int .i64 (c : Int)) = W1 at *
        refine (markRuleS_to (.slice xa ya za) s.pol.length c1 base _ _ (by have := hsh.1; omega) (by have := HC1.out; omega) o1).mono ?_
        rintro e w2 ⟨rfl, r1, g1⟩
        rw [← HC2.out]
        have K2 : SsK w2 base top (.slice (some ⟨g, 0, none⟩) ss.length cap) ss.length (M.set j ⟨(c : Int), mkL c1 s.pol.length, s.rv⟩) ss.length (xs.set (j * 3) (.int .i64 (c : Int))) vp vr := by
          have := K1.setPol (rs := mkL c1 s.pol.length) (by rw [List.length_set]; exact hMl) hjs (by rw [hvp]; exact g1) (by rw [hvp, mkL_len]; exact r1)
          rw [List.getElem_set_self, List.set_set] at this
          exact this
        have M2 := M1.trans (Mid.of_grown g1 (fun k hk => ⟨(o1.lt k hk).1, l1 k hk⟩))
        have hjs2 : j < (M.set j ⟨(c : Int), mkL c1 s.pol.length, s.rv⟩).length := by rw [List.length_set]; exact hml
        have s3 := (K2.row.cellAt (j * 3 + 2) (by omega)).trans (K2.cs j hjs2 hlt).2.2
        have o3 := K2.num j hjs2 hlt
        rw [List.getElem_set_self] at o3
        rw [hvr] at s3 o3
        clear s1 s2 o1 o2 K1 M1 r1 g1 l1
        go_wp2_with fail
        refine (markIntS_to (.slice xb yb zb) s.rv.length c2 base _ _ (by have := hsh.2.1; omega) (by have := HC1.out; have := HC2.out; omega) o3).mono ?_
        rintro e w3 ⟨rfl, r2, g2⟩
        rw [← HC3.out]
        have K3 : SsK w3 base top (.slice (some ⟨g, 0, none⟩) ss.length cap) ss.length (M.set j ⟨(c : Int), mkL c1 s.pol.length, mkN c2 s.rv.length⟩) ss.length (xs.set (j * 3) (.int .i64 (c : Int))) vp vr := by
          have := K2.setRv (zs := mkN c2 s.rv.length) (by rw [List.length_set]; exact hMl) hjs2 (by rw [hvr]; exact g2) (by rw [hvr, mkN_len]; exact r2)
          rw [List.getElem_set_self, List.set_set] at this
          exact this
        have M3 := M2.trans (Mid.of_grown g2 (fun k hk => ⟨(o3.lt k hk).1, l2 k hk⟩))
        have HV := hid (show (⟨(c : Int), mkL c1 s.pol.length, mkN c2 s.rv.length⟩ : Sn) = mkV c s by unfold mkV; rw [HC2.out, HC1.out])
        have hc3 : c3 ≤ 8000000 := by have := HC1.out; have := HC2.out; have := HC3.out; omega
        clear s3 o3 K2 M2 r2 g2 l2
        go_wp2_with fail
        go_roundw
        case rel =>
          refine ⟨j + 1, c3, by omega, hid (by have := HC.out; have := HS.out; have := HC1.out; have := HC2.out; have := HC3.out; omega), rfl, by go_num, xs.set (j * 3) (.int .i64 (c : Int)), vp, vr, ?_, M3⟩
          rw [← HN.out, ← HV.out]
          exact K3
        case measure => simp [intOf]; omega
      · obtain rfl : j = ss.length := by omega
        rw [List.take_of_length_le (by omega), List.drop_length, List.append_nil] at hK
        go_wp2
        go_ret
        exact ⟨ret_int (by rw [HC.out]), ⟨xs, vp, vr, by rw [hML]; exact hK⟩, hM⟩

set_option maxHeartbeats 4000000 in
theorem heldSnapshotS_any (v : Value) (ss : List Sn) (c0 : Nat) (w : World) (hm : shortS ss) (hk : c0 + mvTo ss ss.length ≤ 8000000) (hr : SsA w v (mkVs c0 ss)) :
    Calls Tryz.prog 19 #[v, .int .i64 c0] w fun e w' => e = .returned (.int .i64 ((c0 + mvTo ss ss.length : Nat) : Int)) ∧ Below w.heap.size w w' := by
  obtain ⟨a, cap, rfl⟩ := hr.len
  have hm1 := hm.1
  have hML := mkVs_len c0 ss
  rw [hML] at hr ⊢
  go_enter Tryz.func19, Tryz.ntmps19
  go_wp2
  go_loopw [1, 5] (fun kv i wr => ∃ (j c : Nat), j ≤ ss.length ∧ Hid (c = c0 + mvTo ss j) ∧ kv = .int .i64 c ∧ i = .int .i64 j ∧ Below w.heap.size w wr) (fun _ i _ => ss.length - (intOf i).toNat)
  case atStart => exact ⟨0, c0, Nat.zero_le _, hid (by rw [mvTo_zero]; rfl), rfl, rfl, Below.refl _ _⟩
  case round =>
    obtain ⟨j, c, hj, HC, rfl, rfl, hB⟩ := hrel
    have hc9 : c ≤ 8000000 := by have := HC.out; have := mvTo_le ss j; omega
    by_cases hlt : j < ss.length
    · obtain ⟨b, off, xp, cp, xr, cr, rfl, hb, hcap, q0, q1, q2, y1, y2⟩ := (hr.below hB).at (i := j) (by omega)
      have HS := hid (mvTo_succ hlt)
      have HT := hid (mvTo_le ss (j + 1))
      have hsh := hm.2 ss[j] (List.getElem_mem hlt)
      rw [mkVs_at, ← HC.out] at q0 q1 q2 y1 y2
      generalize ss[j] = s at *
      have hmn : s.many = 4 * s.pol.length + s.rv.length := rfl
      have hcb : c + 1 + 4 * s.pol.length + s.rv.length ≤ 8000000 := by have := HC.out; have := HS.out; have := HT.out; omega
      obtain ⟨c1, HC1⟩ : ∃ c1, Hid (c1 = c + 1) := ⟨_, hid rfl⟩
      obtain ⟨c2, HC2⟩ : ∃ c2, Hid (c2 = c1 + 4 * s.pol.length) := ⟨_, hid rfl⟩
      obtain ⟨c3, HC3⟩ : ∃ c3, Hid (c3 = c2 + s.rv.length) := ⟨_, hid rfl⟩
      have z1 : RuS wr (.slice xp (mkL c1 s.pol.length).length cp) (mkL c1 s.pol.length) := by rw [HC1.out]; exact y1
      have z2 : VS wr (.slice xr (mkN c2 s.rv.length).length cr) (nums (mkN c2 s.rv.length)) := by rw [HC2.out, HC1.out]; exact y2
      have p0 : wr.cell? ⟨b, off + j * 3, none⟩ = some (.int .i64 (c : Int)) := q0
      have p1 : wr.cell? ⟨b, off + j * 3 + 1, none⟩ = some (.slice xp (mkL c1 s.pol.length).length cp) := by rw [HC1.out]; exact q1
      have p2 : wr.cell? ⟨b, off + j * 3 + 2, none⟩ = some (.slice xr (mkN c2 s.rv.length).length cr) := by rw [HC2.out, HC1.out]; exact q2
      rw [mkL_len] at z1 p1
      rw [mkN_len] at z2 p2
      clear q0 q1 q2 y1 y2 hr
      have hw1 : IntKind.i64.wrap ((c : Int) + 1) = (c1 : Int) := by rw [IntKind.wrap_i64]; have := HC1.out; omega
      have e0 : ((c : Int) != (c : Int)) = false := by simp
      go_wp2_with fail
      refine (heldRuleS_to _ s.pol.length c1 _ (by have := hsh.1; omega) (by have := HC1.out; omega) z1).mono ?_
      rintro e w2 ⟨rfl, hB2⟩
      rw [← HC2.out]
      have p2' := (hB2.cell (p := ⟨b, off + j * 3 + 2, none⟩) hb).trans p2
      have z2' := z2.below hB2
      have hBB2 := below_one hB hB2
      have d1 : decide ((c2 : Int) < 0) = false := by simp
      clear p0 p1 p2 z1 z2
      go_wp2_with fail
      refine (heldIntS_to _ s.rv.length c2 _ (by have := hsh.2.1; omega) (by have := HC1.out; have := HC2.out; omega) z2').mono ?_
      rintro e w3 ⟨rfl, hB3⟩
      rw [← HC3.out]
      have hBB3 := below_one hBB2 hB3
      have d2 : decide ((c3 : Int) < 0) = false := by simp
      have hc3 : c3 ≤ 8000000 := by have := HC1.out; have := HC2.out; have := HC3.out; omega
      clear p2' z2'
      go_wp2_with fail
      go_roundw
      case rel => exact ⟨j + 1, c3, by omega, hid (by have := HC.out; have := HS.out; have := HC1.out; have := HC2.out; have := HC3.out; omega), rfl, by go_num, hBB3⟩
      case measure => simp [intOf]; omega
    · obtain rfl : j = ss.length := by omega
      go_wp2
      go_ret
      exact ⟨ret_int (by rw [HC.out]), hB⟩

end Go.Proofs.YtmmjiocmldnamaaGreat
