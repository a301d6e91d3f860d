/-
  Lists of versions marked by the laws, and held against the marks.
-/
import Derived.Test.YthpckiobfjdckaaGreatSnK
namespace Go.Proofs.YthpckiobfjdckaaGreat
open Go.RowKit Go.Shelf

/-- The version that is laid from the number c on. -/
def mkV (c : Nat) (s : Sn) : Sn := ⟨(c : Int), mkL (c + 1) s.pol.length, mkN (c + 1 + 4 * s.pol.length) s.rv.length⟩
def mvTo (ss : List Sn) (j : Nat) : Nat := ((ss.take j).map (fun s => 1 + s.many)).sum
theorem mvTo_zero (ss : List Sn) : mvTo ss 0 = 0 := by simp [mvTo]
theorem mvTo_succ {ss : List Sn} {j : Nat} (h : j < ss.length) : mvTo ss (j + 1) = mvTo ss j + (1 + ss[j].many) := by
  unfold mvTo
  rw [List.take_succ_eq_append_getElem h, List.map_append, List.sum_append]
  simp
theorem mvTo_le (ss : List Sn) (j : Nat) : mvTo ss j ≤ mvTo ss ss.length := by
  unfold mvTo
  rw [List.take_length]
  conv => rhs; rw [← List.take_append_drop j ss, List.map_append, List.sum_append]
  omega
theorem mvTo_size (ss : List Sn) : mvTo ss ss.length ≤ 4 * vzAll ss := by
  have h : ∀ l : List Sn, (l.map (fun s => 1 + s.many)).sum ≤ l.length + 4 * (l.map Sn.size).sum := by
    intro l
    induction l with
    | nil => simp
    | cons s l ih =>
      simp only [List.map_cons, List.sum_cons, List.length_cons]
      have : s.many ≤ 4 * s.size := by unfold Sn.many Sn.size szAll; omega
      omega
  have := h ss
  unfold mvTo vzAll vzTo
  rw [List.take_length]
  omega
/-- The versions of a marked list. -/
def mkVs (c : Nat) (ss : List Sn) : List Sn := (List.range ss.length).map (fun i => match ss[i]? with
  | some s => mkV (c + mvTo ss i) s
  | Option.none => Sn.none)
theorem mkVs_len (c : Nat) (ss : List Sn) : (mkVs c ss).length = ss.length := by simp [mkVs]
theorem mkVs_at {c : Nat} {ss : List Sn} {i : Nat} (h : i < (mkVs c ss).length) : (mkVs c ss)[i] = mkV (c + mvTo ss i) (ss[i]'(by rw [← mkVs_len c ss]; exact h)) := by
  have hi : i < ss.length := by rw [← mkVs_len c ss]; exact h
  simp [mkVs, List.getElem?_eq_getElem hi]
theorem set_next {α : Type} {M L : List α} {j : Nat} (hM : M.length = L.length) (hj : j < L.length) : (M.take j ++ L.drop j).set j (M[j]'(by omega)) = M.take (j + 1) ++ L.drop (j + 1) := by
  rw [List.set_append_right _ _ (by rw [List.length_take]; omega), List.length_take, show j - min j M.length = 0 by omega, List.take_succ_eq_append_getElem (by omega), List.append_assoc]
  congr 1
  rw [List.drop_eq_getElem_cons hj]
  rfl
theorem get_next {α : Type} {M L : List α} {j : Nat} (hM : M.length = L.length) (hj : j < L.length) (h : j < (M.take j ++ L.drop j).length) : (M.take j ++ L.drop j)[j] = L[j] := by
  rw [List.getElem_append_right (by rw [List.length_take]; omega)]
  simp only [List.length_take]
  rw [List.getElem_drop]
  congr 1
  omega
theorem SsK.setNum {w : World} {base top g cap n : Nat} {ss : List Sn} {xs : List Value} {vp vr : Nat → Value} (h : SsK w base top (.slice (some ⟨g, 0, none⟩) n cap) n ss n xs vp vr) (hl : ss.length = n) {j : Nat} (hj : j < ss.length) (z : Int) :
    SsK (w.setCell ⟨g, j * 3, none⟩ (.int .i64 z)) base top (.slice (some ⟨g, 0, none⟩) n cap) n (ss.set j ⟨z, ss[j].pol, ss[j].rv⟩) n (xs.set (j * 3) (.int .i64 z)) vp vr := by
  have hlen : xs.length = n * 3 := h.row.1
  have hnb : ∀ {e : TypeId} {s m : Nat} {v : Value} {x : List Value}, w.ownsRow base e s v m x → e ≠ 32 → v.ownBlock ≠ some g := fun hr hne e => row_apart hr h.row hne g e rfl
  refine ⟨(h.row.stored (j * 3) _).1, h.rlt, ?_, ?_, ?_, fun i hi => h.plt i (by simpa using hi), fun i hi => h.nlt i (by simpa using hi), fun i k hi hk => h.pap i k (by simpa using hi) (by simpa using hk), fun i k hi hk => h.nap i k (by simpa using hi) (by simpa using hk)⟩
  · intro i hi hik
    have hi' : i < ss.length := by simpa using hi
    obtain ⟨c0, c1, c2⟩ := h.cs i hi' hik
    by_cases e : j = i
    · subst e
      rw [List.getElem_set_self]
      exact ⟨by rw [List.getElem?_set_self (by omega)], by rw [List.getElem?_set_ne (by omega)]; exact c1, by rw [List.getElem?_set_ne (by omega)]; exact c2⟩
    · rw [List.getElem_set_ne e]
      exact ⟨by rw [List.getElem?_set_ne (by omega)]; exact c0, by rw [List.getElem?_set_ne (by omega)]; exact c1, by rw [List.getElem?_set_ne (by omega)]; exact c2⟩
  · intro i hi hik
    have hi' : i < ss.length := by simpa using hi
    have := ownsRow_setCell_other (h.pol i hi' hik) (a := ⟨g, j * 3, none⟩) (hnb (h.pol i hi' hik) tyR) (.int .i64 z)
    by_cases e : j = i
    · subst e
      rw [List.getElem_set_self]
      exact this
    · rw [List.getElem_set_ne e]
      exact this
  · intro i hi hik
    have hi' : i < ss.length := by simpa using hi
    have := ownsRow_setCell_other (h.num i hi' hik) (a := ⟨g, j * 3, none⟩) (hnb (h.num i hi' hik) tyN) (.int .i64 z)
    by_cases e : j = i
    · subst e
      rw [List.getElem_set_self]
      exact this
    · rw [List.getElem_set_ne e]
      exact this
theorem SsK.setPol {w w1 : World} {base top n : Nat} {v : Value} {ss : List Sn} {xs : List Value} {vp vr : Nat → Value} (h : SsK w base top v n ss n xs vp vr) (hl : ss.length = n) {j : Nat} (hj : j < ss.length) {rs : List Ru} (hg : w.grownBy w1 (vp j).ownBlock) (hp : w1.ownsRow base 63 4 (vp j) rs.length (rs.flatMap Ru.cells)) :
    SsK w1 base top v n (ss.set j ⟨ss[j].num, rs, ss[j].rv⟩) n xs vp vr := by
  have hpj := h.pol j hj (by omega)
  refine ⟨kept_apart h.row hg (fun k h1 h2 => row_apart hpj h.row tyR k h2 h1), h.rlt, ?_, ?_, ?_, fun i hi => h.plt i (by simpa using hi), fun i hi => h.nlt i (by simpa using hi), fun i k hi hk => h.pap i k (by simpa using hi) (by simpa using hk), fun i k hi hk => h.nap i k (by simpa using hi) (by simpa using hk)⟩
  · intro i hi hik
    have hi' : i < ss.length := by simpa using hi
    by_cases e : j = i
    · subst e
      rw [List.getElem_set_self]
      exact h.cs j hi' hik
    · rw [List.getElem_set_ne e]
      exact h.cs i hi' hik
  · intro i hi hik
    have hi' : i < ss.length := by simpa using hi
    by_cases e : j = i
    · subst e
      rw [List.getElem_set_self]
      exact hp
    · rw [List.getElem_set_ne e]
      exact kept_apart (h.pol i hi' hik) hg (fun k h1 h2 => h.pap i j hi' hj hik (by omega) (by omega) k h1 h2)
  · intro i hi hik
    have hi' : i < ss.length := by simpa using hi
    have := kept_apart (h.num i hi' hik) hg (fun k h1 h2 => row_apart hpj (h.num i hi' hik) tyRN k h2 h1)
    by_cases e : j = i
    · subst e
      rw [List.getElem_set_self]
      exact this
    · rw [List.getElem_set_ne e]
      exact this
theorem SsK.setRv {w w1 : World} {base top n : Nat} {v : Value} {ss : List Sn} {xs : List Value} {vp vr : Nat → Value} (h : SsK w base top v n ss n xs vp vr) (hl : ss.length = n) {j : Nat} (hj : j < ss.length) {zs : List Int} (hg : w.grownBy w1 (vr j).ownBlock) (hp : w1.ownsRow base 3 1 (vr j) zs.length (nums zs)) :
    SsK w1 base top v n (ss.set j ⟨ss[j].num, ss[j].pol, zs⟩) n xs vp vr := by
  have hpj := h.num j hj (by omega)
  refine ⟨kept_apart h.row hg (fun k h1 h2 => row_apart hpj h.row tyN k h2 h1), h.rlt, ?_, ?_, ?_, fun i hi => h.plt i (by simpa using hi), fun i hi => h.nlt i (by simpa using hi), fun i k hi hk => h.pap i k (by simpa using hi) (by simpa using hk), fun i k hi hk => h.nap i k (by simpa using hi) (by simpa using hk)⟩
  · intro i hi hik
    have hi' : i < ss.length := by simpa using hi
    by_cases e : j = i
    · subst e
      rw [List.getElem_set_self]
      exact h.cs j hi' hik
    · rw [List.getElem_set_ne e]
      exact h.cs i hi' hik
  · intro i hi hik
    have hi' : i < ss.length := by simpa using hi
    have := kept_apart (h.pol i hi' hik) hg (fun k h1 h2 => row_apart (h.pol i hi' hik) hpj tyRN k h1 h2)
    by_cases e : j = i
    · subst e
      rw [List.getElem_set_self]
      exact this
    · rw [List.getElem_set_ne e]
      exact this
  · intro i hi hik
    have hi' : i < ss.length := by simpa using hi
    by_cases e : j = i
    · subst e
      rw [List.getElem_set_self]
      exact hp
    · rw [List.getElem_set_ne e]
      exact kept_apart (h.num i hi' hik) hg (fun k h1 h2 => h.nap i j hi' hj hik (by omega) (by omega) k h1 h2)

end Go.Proofs.YthpckiobfjdckaaGreat
