/-
  Chapter 3: a token's next link: its pieces, by the program.
-/
import Derived.Shelf.SlicesE.Clone
import Derived.Test.YtecgonopefeplafTokJ
import Derived.Test.YtecgonopefeplafShelf
namespace Go.Proofs.Ytecgonopefeplaf
open Go.RowKit Go.Shelf

/-- The lesser of two. -/
def mnI (a b : Int) : Int := min a b
theorem mnI_lt {a b : Int} (h : b < a) : mnI a b = b := by unfold mnI; omega
theorem mnI_ge {a b : Int} (h : ¬ b < a) : mnI a b = a := by unfold mnI; omega
/-- The link that comes next. -/
def ext1 (k : Lk) (to : ByteArray) (se nw li : Int) : Lk := ⟨k.to, to, se, nw, mnI (nw + li) k.un⟩
def extB (ks : List Lk) (to : ByteArray) (se nw li : Int) : Bool := match ks[ks.length - 1]? with
  | some k => tkB ks && (tmB nw && (tmB li && tkB (ks ++ [ext1 k to se nw li])))
  | none => false
def extL (ks : List Lk) (to : ByteArray) (se nw li : Int) : List Lk := match ks[ks.length - 1]? with
  | some k => if extB ks to se nw li = true then ks ++ [ext1 k to se nw li] else []
  | none => []
theorem ans_len (ks : List Lk) (to : ByteArray) (se nw li : Int) : (extL ks to se nw li).length ≤ ks.length + 1 := by
  unfold extL
  split
  · split
    · simp
    · exact Nat.zero_le _
  · exact Nat.zero_le _
theorem ext_no {ks : List Lk} {to : ByteArray} {se nw li : Int} (h : extB ks to se nw li = false) : extL ks to se nw li = [] := by
  unfold extL
  split
  · rw [if_neg (by rw [h]; exact Bool.false_ne_true)]
  · rfl
theorem ext_at {ks : List Lk} {m : Nat} (hm : m < ks.length) (hl : m = ks.length - 1) (to : ByteArray) (se nw li : Int) : extB ks to se nw li = (tkB ks && (tmB nw && (tmB li && tkB (ks ++ [ext1 ks[m] to se nw li])))) := by
  unfold extB
  rw [← hl, List.getElem?_eq_getElem hm]
theorem ext_yes {ks : List Lk} {m : Nat} (hm : m < ks.length) (hl : m = ks.length - 1) {to : ByteArray} {se nw li : Int} (h : extB ks to se nw li = true) : extL ks to se nw li = ks ++ [ext1 ks[m] to se nw li] := by
  unfold extL
  rw [← hl, List.getElem?_eq_getElem hm]
  simp only
  rw [if_pos h]
theorem ext_tk {ks : List Lk} {to : ByteArray} {se nw li : Int} (h : tkB ks = false) : extB ks to se nw li = false := by
  unfold extB
  split
  · rw [h]
    rfl
  · rfl
theorem ext_nw {ks : List Lk} {to : ByteArray} {se nw li : Int} (h : tmB nw = false) : extB ks to se nw li = false := by
  unfold extB
  split
  · rw [h, Bool.false_and, Bool.and_false]
  · rfl
theorem ext_li {ks : List Lk} {to : ByteArray} {se nw li : Int} (h : tmB li = false) : extB ks to se nw li = false := by
  unfold extB
  split
  · rw [h, Bool.false_and, Bool.and_false, Bool.and_false]
  · rfl
theorem last_good {ks : List Lk} {k : Lk} (h : tkB (ks ++ [k]) = true) : k.good = true := tkB_good h k (by simp)
theorem ext_to {ks : List Lk} {to : ByteArray} {se nw li : Int} (h : gnB (split to 47) = false) : extB ks to se nw li = false := by
  unfold extB
  split
  · rename_i k _
    cases ht : tkB (ks ++ [ext1 k to se nw li])
    · rw [Bool.and_false, Bool.and_false, Bool.and_false]
    · have := ((Lk.good_iff _).1 (last_good ht)).2.1
      unfold nmOk ext1 at this
      simp only at this
      rw [h] at this
      cases this
  · rfl
theorem ext_se {ks : List Lk} {to : ByteArray} {se nw li : Int} (h : seB se = false) : extB ks to se nw li = false := by
  unfold extB
  split
  · rename_i k _
    cases ht : tkB (ks ++ [ext1 k to se nw li])
    · rw [Bool.and_false, Bool.and_false, Bool.and_false]
    · have := ((Lk.good_iff _).1 (last_good ht)).2.2.1
      unfold seB at h
      simp only [ext1] at this
      exact absurd this (of_decide_eq_false h)
  · rfl
theorem lks_cells {w : World} {b off n c : Nat} {ks : List Lk} (h : LkS w (.slice (some ⟨b, off, none⟩) n c) ks) : ∀ j u, (ks.flatMap Lk.cells)[j]? = some u → w.cell? ((⟨b, off, none⟩ : Addr).add j) = some u := by
  intro j u hu
  have hj : j < (ks.flatMap Lk.cells).length := (List.getElem?_eq_some_iff.1 hu).1
  rw [lflat_len] at hj
  have hi : j / 5 < ks.length := by omega
  obtain ⟨b', off', he, _, _, q0, q1, q2, q3, q4⟩ := h.at hi
  cases he
  have hr : j = j / 5 * 5 + j % 5 := by omega
  have hm : j % 5 < 5 := Nat.mod_lt _ (by decide)
  rw [hr, lflat_at ks (j / 5) (j % 5) hi hm] at hu
  rw [Addr.add_lit]
  have hx : off + j = off + j / 5 * 5 + j % 5 := by omega
  rw [hx]
  obtain h0 | h0 | h0 | h0 | h0 : j % 5 = 0 ∨ j % 5 = 1 ∨ j % 5 = 2 ∨ j % 5 = 3 ∨ j % 5 = 4 := by omega
  all_goals rw [h0] at hu ⊢
  all_goals simp at hu
  all_goals subst hu
  all_goals first | exact q0 | exact q1 | exact q2 | exact q3 | exact q4
theorem cells_one3 {ks : List Lk} : ∀ u ∈ ks.flatMap Lk.cells, u.oneCell' = true := by
  intro u hu
  rw [List.mem_flatMap] at hu
  obtain ⟨r, _, hr⟩ := hu
  simp at hr
  rcases hr with rfl | rfl | rfl | rfl | rfl <;> rfl

set_option maxHeartbeats 1000000 in
theorem onTo_any (a b to : ByteArray) (w : World) :
    Calls Try.prog 40 #[.agg #[.string a, .string b], .string to] w fun e w' => e = .returned (.agg #[.string b, .string to]) ∧ Below w.heap.size w w' := by
  go_enter Try.func40, Try.ntmps40
  go_wp2
  exact bodyPost_ret (v := .agg #[.string b, .string to]) (by simp [results, Try.results40, go_sem]) rfl ⟨rfl, ((Below.refl _ w).alloc (Nat.le_refl _) _).alloc (by simp) _⟩

set_option maxHeartbeats 1000000 in
theorem onFrom_any (f u nw li : Int) (w : World) (h1 : tmB nw = true) (h2 : tmB li = true) :
    Calls Try.prog 41 #[.agg #[.int .i64 f, .int .i64 u], .int .i64 nw, .int .i64 li] w fun e w' => e = .returned (.agg #[.int .i64 nw, .int .i64 (mnI (nw + li) u)]) ∧ Below w.heap.size w w' := by
  have b1 := of_decide_eq_true h1
  have b2 := of_decide_eq_true h2
  have hw : IntKind.i64.wrap (nw + li) = nw + li := by rw [IntKind.wrap_i64]; omega
  go_enter Try.func41, Try.ntmps41
  go_wp2
  refine bodyPost_ret (v := .agg #[.int .i64 nw, .int .i64 (mnI (nw + li) u)]) (by simp [results, Try.results41, go_sem, mnI, *]) rfl ⟨rfl, ((Below.refl _ w).alloc (Nat.le_refl _) _).alloc (by simp) _⟩

theorem cloneLinks_any (b off n cap : Nat) (ks : List Lk) (w : World) (hn : ks.length ≤ 1048577) (hr : LkS w (.slice (some ⟨b, off, none⟩) n cap) ks) (hnl : n = ks.length) :
    Calls Try.prog 42 #[.slice (some ⟨b, off, none⟩) n cap] w fun e w' => ∃ v', e = .returned v' ∧ w'.ownsRow w.heap.size 57 5 v' ks.length (ks.flatMap Lk.cells) ∧ v' ≠ .slice none 0 0 ∧ Below w.heap.size w w' := by
  obtain ⟨i0, hi, hz0, hz1, hz2⟩ := info_parts infoLink
  subst hnl
  exact AnyE.slices_Clone Try.cloneLk i0 _ 5 56 hi hz0 hz1 hz2 rfl (by decide) Try.sizeOf57 b off ks.length cap (ks.flatMap Lk.cells) w (by rw [lflat_len]) (by unfold maxLen; omega) (by omega)
    (fun j u hu => by have := lks_cells hr j u hu; rw [Addr.add_lit] at this; exact this) cells_one3

end Go.Proofs.Ytecgonopefeplaf
