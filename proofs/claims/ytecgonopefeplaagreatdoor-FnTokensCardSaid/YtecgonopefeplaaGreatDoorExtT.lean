/-
  Chapter 3: a token's next link: its pieces, by the program.
-/
import Derived.Shelf.SlicesE.Clone
import Derived.Test.YtecgonopefeplaaGreatDoorTokJ
import Derived.Test.YtecgonopefeplaaGreatDoorShelf
namespace Go.Proofs.YtecgonopefeplaaGreatDoor
open Go.RowKit Go.Shelf

/-- The lesser of two. -/
def mnI (a b : Int) : Int := min a b
theorem mnI_lt {a b : Int} (h : b < a) : mnI a b = b := by unfold mnI; omega
theorem mnI_ge {a b : Int} (h : ¬ b < a) : mnI a b = a := by unfold mnI; omega
/-- The link that comes next. -/
def ext1 (k : Lk) (to : ByteArray) (se nw li : Int) : Lk := ⟨k.to, to, se, nw, mnI (nw + li) k.un⟩
def extB (ks : List Lk) (to : ByteArray) (se nw li : Int) : Bool := match ks[ks.length - 1]? with
  | some k => tkB ks && (tmB nw && (tmB li && tkB (ks ++ [ext1 k to se nw li])))
  | none => false
def extL (ks : List Lk) (to : ByteArray) (se nw li : Int) : List Lk := match ks[ks.length - 1]? with
  | some k => if extB ks to se nw li = true then ks ++ [ext1 k to se nw li] else []
  | none => []
theorem extL_le (ks : List Lk) (to : ByteArray) (se nw li : Int) : (extL ks to se nw li).length ≤ ks.length + 1 := by
  unfold extL
  split
  · split
    · simp
    · exact Nat.zero_le _
  · exact Nat.zero_le _
theorem ext_no {ks : List Lk} {to : ByteArray} {se nw li : Int} (h : extB ks to se nw li = false) : extL ks to se nw li = [] := by
  unfold extL
  split
  · rw [if_neg (by rw [h]; exact Bool.false_ne_true)]
  · rfl
theorem ext_at {ks : List Lk} {m : Nat} (hm : m < ks.length) (hl : m = ks.length - 1) (to : ByteArray) (se nw li : Int) : extB ks to se nw li = (tkB ks && (tmB nw && (tmB li && tkB (ks ++ [ext1 ks[m] to se nw li])))) := by
  unfold extB
  rw [← hl, List.getElem?_eq_getElem hm]
theorem ext_yes {ks : List Lk} {m : Nat} (hm : m < ks.length) (hl : m = ks.length - 1) {to : ByteArray} {se nw li : Int} (h : extB ks to se nw li = true) : extL ks to se nw li = ks ++ [ext1 ks[m] to se nw li] := by
  unfold extL
  rw [← hl, List.getElem?_eq_getElem hm]
  simp only
  rw [if_pos h]
theorem ext_tk {ks : List Lk} {to : ByteArray} {se nw li : Int} (h : tkB ks = false) : extB ks to se nw li = false := by
  unfold extB
  split
  · rw [h]
    rfl
  · rfl
theorem ext_nw {ks : List Lk} {to : ByteArray} {se nw li : Int} (h : tmB nw = false) : extB ks to se nw li = false := by
  unfold extB
  split
  · rw [h, Bool.false_and, Bool.and_false]
  · rfl
theorem ext_li {ks : List Lk} {to : ByteArray} {se nw li : Int} (h : tmB li = false) : extB ks to se nw li = false := by
  unfold extB
  split
  · rw [h, Bool.false_and, Bool.and_false, Bool.and_false]
  · rfl
theorem last_good {ks : List Lk} {k : Lk} (h : tkB (ks ++ [k]) = true) : k.good = true := tkB_good h k (by simp)
theorem ext_to {ks : List Lk} {to : ByteArray} {se nw li : Int} (h : gnB (split to 47) = false) : extB ks to se nw li = false := by
  unfold extB
  split
  · rename_i k _
    cases ht : tkB (ks ++ [ext1 k to se nw li])
    · rw [Bool.and_false, Bool.and_false, Bool.and_false]
    · have := ((Lk.good_iff _).1 (last_good ht)).2.1
      unfold nmOk ext1 at this
      simp only at this
      rw [h] at this
      cases this
  · rfl
theorem ext_se {ks : List Lk} {to : ByteArray} {se nw li : Int} (h : seB se = false) : extB ks to se nw li = false := by
  unfold extB
  split
  · rename_i k _
    cases ht : tkB (ks ++ [ext1 k to se nw li])
    · rw [Bool.and_false, Bool.and_false, Bool.and_false]
    · have := ((Lk.good_iff _).1 (last_good ht)).2.2.1
      unfold seB at h
      simp only [ext1] at this
      exact absurd this (of_decide_eq_false h)
  · rfl
theorem lks_cells {w : World} {b off n c : Nat} {ks : List Lk} (h : LkS w (.slice (some ⟨b, off, none⟩) n c) ks) : ∀ j u, (ks.flatMap Lk.cells)[j]? = some u → w.cell? ((⟨b, off, none⟩ : Addr).add j) = some u := by
  intro j u hu
  have hj : j < (ks.flatMap Lk.cells).length := (List.getElem?_eq_some_iff.1 hu).1
  rw [lflat_len] at hj
  have hi : j / 5 < ks.length := by omega
  obtain ⟨b', off', he, _, _, q0, q1, q2, q3, q4⟩ := h.at hi
  cases he
  have hr : j = j / 5 * 5 + j % 5 := by omega
  have hm : j % 5 < 5 := Nat.mod_lt _ (by decide)
  rw [hr, lflat_at ks (j / 5) (j % 5) hi hm] at hu
  rw [Addr.add_lit]
  have hx : off + j = off + j / 5 * 5 + j % 5 := by omega
  rw [hx]
  obtain h0 | h0 | h0 | h0 | h0 : j % 5 = 0 ∨ j % 5 = 1 ∨ j % 5 = 2 ∨ j % 5 = 3 ∨ j % 5 = 4 := by omega
  all_goals rw [h0] at hu ⊢
  all_goals simp at hu
  all_goals subst hu
  all_goals first | exact q0 | exact q1 | exact q2 | exact q3 | exact q4
theorem cells_one3 {ks : List Lk} : ∀ u ∈ ks.flatMap Lk.cells, u.oneCell' = true := by
  intro u hu
  rw [List.mem_flatMap] at hu
  obtain ⟨r, _, hr⟩ := hu
  simp at hr
  rcases hr with rfl | rfl | rfl | rfl | rfl <;> rfl

end Go.Proofs.YtecgonopefeplaaGreatDoor
