/-
  Versions: when one is good, and a list of them; without the model.
-/
import Derived.Test.YthpckiobfjdckaaGreatPlainI
import Derived.Test.YthpckiobfjdckaaGreatSrtM
namespace Go.Proofs.YthpckiobfjdckaaGreat

/-- A version, and a difference. -/
structure Sn where
  num : Int
  pol : List Ru
  rv : List Int
structure Df where
  fr : Int
  tt : Int
  dr : List Ru
  ad : List Ru
  rv : List Int
theorem insU_length (r : Ru) : ∀ l : List Ru, (insU r l).length ≤ l.length + 1
  | [] => by simp [insU]
  | x :: xs => by
    have := insU_length r xs
    unfold insU
    split
    · simp; omega
    · split <;> simp
def Sn.none : Sn := ⟨0, [], []⟩
def Df.none : Df := ⟨0, 0, [], [], []⟩
def numB (n : Int) : Bool := decide (1 ≤ n ∧ n ≤ 100000)
def fewB (zs : List Int) : Bool := decide (zs.length ≤ 200) && okN 100001 zs
/-- A version is good. -/
def snB (s : Sn) : Bool := numB s.num && (polB s.pol && (sameS (plX s.pol) s.pol && (fewB s.rv && upN s.rv)))
theorem snB_no1 {s : Sn} (h : numB s.num = false) : snB s = false := by unfold snB; rw [h]; rfl
theorem snB_no2 {s : Sn} (h : polB s.pol = false) : snB s = false := by unfold snB; rw [h]; simp
theorem snB_no3 {s : Sn} (h : sameS (plX s.pol) s.pol = false) : snB s = false := by unfold snB; rw [h]; simp
theorem snB_no4 {s : Sn} (h : fewB s.rv = false) : snB s = false := by unfold snB; rw [h]; simp
theorem snB_no5 {s : Sn} (h : upN s.rv = false) : snB s = false := by unfold snB; rw [h]; simp
theorem snB_yes {s : Sn} (h1 : numB s.num = true) (h2 : polB s.pol = true) (h3 : sameS (plX s.pol) s.pol = true) (h4 : fewB s.rv = true) (h5 : upN s.rv = true) : snB s = true := by
  unfold snB; rw [h1, h2, h3, h4, h5]; rfl
theorem snB_parts {s : Sn} (h : snB s = true) : numB s.num = true ∧ polB s.pol = true ∧ sameS (plX s.pol) s.pol = true ∧ fewB s.rv = true ∧ upN s.rv = true := by
  unfold snB at h
  simpa [Bool.and_eq_true] using h
theorem snB_num {s : Sn} (h : snB s = true) : 1 ≤ s.num ∧ s.num ≤ 100000 := of_decide_eq_true (snB_parts h).1
theorem fewB_len {zs : List Int} (h : fewB zs = true) : zs.length ≤ 200 := by
  unfold fewB at h
  rw [Bool.and_eq_true] at h
  exact of_decide_eq_true h.1
theorem fewB_ok {zs : List Int} (h : fewB zs = true) : okN 100001 zs = true := by
  unfold fewB at h
  rw [Bool.and_eq_true] at h
  exact h.2
theorem fewB_no1 {zs : List Int} (h : ¬ zs.length ≤ 200) : fewB zs = false := by unfold fewB; rw [decide_eq_false h]; rfl
theorem fewB_no2 {zs : List Int} (h : okN 100001 zs = false) : fewB zs = false := by unfold fewB; rw [h]; simp
theorem fewB_yes {zs : List Int} (h1 : zs.length ≤ 200) (h2 : okN 100001 zs = true) : fewB zs = true := by unfold fewB; rw [decide_eq_true h1, h2]; rfl

theorem plX_len {rs : List Ru} (h : rs.length ≤ 1048577) : (plX rs).length ≤ 1048577 := by
  unfold plX
  split
  · have hl : ∀ k, k ≤ rs.length → (plTo rs k).length ≤ k := fun k => by
      induction k with
      | zero => intro _; simp [plTo]
      | succ k ih =>
        intro hk
        rw [plTo_succ (by omega)]
        have := insU_length (rs[k]'(by omega)) (plTo rs k)
        have := ih (by omega)
        omega
    exact Nat.le_trans (hl _ (Nat.le_refl _)) h
  · exact Nat.zero_le _

/-- Whether the one at i has the number behind the one ahead of it. -/
def nexB (ss : List Sn) (i : Nat) : Bool := match i with
  | 0 => true
  | i + 1 => match ss[i]?, ss[i + 1]? with
    | some a, some b => b.num == a.num + 1
    | _, _ => true
theorem nexB_succ {ss : List Sn} {i : Nat} (h : i + 1 < ss.length) : nexB ss (i + 1) = (ss[i + 1].num == ss[i].num + 1) := by
  simp only [nexB]
  rw [List.getElem?_eq_getElem h, List.getElem?_eq_getElem (by omega)]
def gdB (ss : List Sn) (i : Nat) : Bool := match ss[i]? with
  | some s => snB s
  | Option.none => true
theorem gdB_at {ss : List Sn} {i : Nat} (h : i < ss.length) : gdB ss i = snB ss[i] := by
  unfold gdB
  rw [List.getElem?_eq_getElem h]
def allB (ss : List Sn) : Bool := (List.range ss.length).all (fun i => gdB ss i && nexB ss i)
/-- A list of versions is good. -/
def lsB (ss : List Sn) : Bool := decide (ss.length ≤ 20) && allB ss
theorem lsB_no1 {ss : List Sn} (h : ¬ ss.length ≤ 20) : lsB ss = false := by unfold lsB; rw [decide_eq_false h]; rfl
theorem lsB_no2 {ss : List Sn} {i : Nat} (h : i < ss.length) (hb : gdB ss i = false) : lsB ss = false := by
  unfold lsB allB
  rw [Bool.and_eq_false_iff]
  exact .inr (List.all_eq_false.2 ⟨i, List.mem_range.2 h, by rw [hb]; simp⟩)
theorem lsB_no3 {ss : List Sn} {i : Nat} (h : i < ss.length) (hb : nexB ss i = false) : lsB ss = false := by
  unfold lsB allB
  rw [Bool.and_eq_false_iff]
  exact .inr (List.all_eq_false.2 ⟨i, List.mem_range.2 h, by rw [hb]; simp⟩)
theorem lsB_yes {ss : List Sn} (h1 : ss.length ≤ 20) (h : ∀ i, i < ss.length → gdB ss i = true ∧ nexB ss i = true) : lsB ss = true := by
  unfold lsB allB
  rw [decide_eq_true h1, Bool.true_and]
  exact List.all_eq_true.2 fun i hi => by have := h i (List.mem_range.1 hi); rw [this.1, this.2]; rfl
theorem lsB_all {ss : List Sn} (h : lsB ss = true) : ss.length ≤ 20 ∧ ∀ i, i < ss.length → gdB ss i = true ∧ nexB ss i = true := by
  unfold lsB allB at h
  rw [Bool.and_eq_true, List.all_eq_true] at h
  refine ⟨of_decide_eq_true h.1, fun i hi => ?_⟩
  have := h.2 i (List.mem_range.2 hi)
  rw [Bool.and_eq_true] at this
  exact this
theorem lsB_mem {ss : List Sn} (h : lsB ss = true) : ∀ s ∈ ss, snB s = true := fun s hs => by
  obtain ⟨i, hi, rfl⟩ := List.getElem_of_mem hs
  have := ((lsB_all h).2 i hi).1
  rwa [gdB_at hi] at this
/-- The numbers of a list of versions. -/
def vN (ss : List Sn) : List Int := ss.map Sn.num
theorem vN_len (ss : List Sn) : (vN ss).length = ss.length := List.length_map _
theorem vN_at {ss : List Sn} {i : Nat} (h : i < (vN ss).length) : (vN ss)[i] = (ss[i]'(by rw [← vN_len ss]; exact h)).num := by simp [vN]
theorem lsB_up {ss : List Sn} (h : lsB ss = true) : upN (vN ss) = true := by
  refine upN_yes fun i hi => ?_
  rw [vN_len] at hi
  cases i with
  | zero => rfl
  | succ i =>
    rw [upI_succ (by rw [vN_len]; exact hi), vN_at, vN_at]
    have := ((lsB_all h).2 (i + 1) hi).2
    rw [nexB_succ hi] at this
    have := eq_of_beq this
    exact decide_eq_true (by omega)
/-- Among rising numbers a number stands where it is. -/
theorem up_at {zs : List Int} {n : Int} {k : Nat} (hu : upN zs = true) (hk : k < zs.length) (he : zs[k] = n) : atN zs n = k ∧ hasN zs n = true := by
  have h1 : atN zs n = k := by
    rcases Nat.lt_trichotomy (atN zs n) k with h | h | h
    · have h2 := atN_at (zs := zs) (n := n) (k := atN zs n) (by omega) rfl
      have h3 := up_lt hu _ _ h hk
      omega
    · exact h
    · have := atN_lt (zs := zs) (n := n) hk h
      omega
  refine ⟨h1, ?_⟩
  rw [hasN_at (by rw [h1]; exact hk)]
  simp only [h1, he, beq_self_eq_true]
theorem up_none {zs : List Int} {n : Int} (hu : upN zs = true) (h : ∀ k (hk : k < zs.length), zs[k] ≠ n) : hasN zs n = false := by
  rw [← isI_hasN hu]
  unfold isI
  rw [List.any_eq_false]
  intro x hx he
  obtain ⟨i, hi, rfl⟩ := List.getElem_of_mem hx
  exact h i hi (eq_of_beq he)
theorem hasN_lt {zs : List Int} {n : Int} (h : hasN zs n = true) : atN zs n < zs.length := by
  rcases Nat.lt_or_ge (atN zs n) zs.length with h1 | h1
  · exact h1
  · rw [hasN_end (by omega)] at h
    cases h
/-- Whether a list is good and has a number. -/
def thB (ss : List Sn) (n : Int) : Bool := lsB ss && hasN (vN ss) n
/-- What SnapshotAt and CompactTo tell. -/
def saX (ss : List Sn) (n : Int) : Sn := if thB ss n = true then (ss[atN (vN ss) n]?).getD Sn.none else Sn.none
def ctX (ss : List Sn) (n : Int) : List Sn := if thB ss n = true then ss.drop (atN (vN ss) n) else []
theorem saX_no {ss : List Sn} {n : Int} (h : thB ss n = false) : saX ss n = Sn.none := if_neg (by rw [h]; exact Bool.false_ne_true)
theorem ctX_no {ss : List Sn} {n : Int} (h : thB ss n = false) : ctX ss n = [] := if_neg (by rw [h]; exact Bool.false_ne_true)
theorem saX_yes {ss : List Sn} {n : Int} {k : Nat} (h : thB ss n = true) (hk : k < ss.length) (he : atN (vN ss) n = k) : saX ss n = ss[k] := by
  unfold saX
  rw [if_pos h, he, List.getElem?_eq_getElem hk]
  rfl
theorem ctX_yes {ss : List Sn} {n : Int} {k : Nat} (h : thB ss n = true) (he : atN (vN ss) n = k) : ctX ss n = ss.drop k := by
  unfold ctX
  rw [if_pos h, he]
/-- The number behind the last one's. -/
def nxN (ss : List Sn) : Int := match ss.getLast? with
  | some s => s.num + 1
  | Option.none => 1
/-- What PutSnapshot tells. -/
def nwS (ss : List Sn) (rs : List Ru) (zs : List Int) : Sn := ⟨nxN ss, plX rs, srN zs⟩
def puB (ss : List Sn) (rs : List Ru) (zs : List Int) : Bool := (lsB ss && (polB rs && fewB zs)) && snB (nwS ss rs zs)
def puX (ss : List Sn) (rs : List Ru) (zs : List Int) : List Sn := if puB ss rs zs = true then (ss ++ [nwS ss rs zs]).drop (ss.length + 1 - 20) else []

/-- Rules and numbers that others have not. -/
def hasR (b : List Ru) (r : Ru) : Bool := b.any (fun y => r.same y)
def woR (a b : List Ru) : List Ru := a.filter (fun r => !(hasR b r))
def woRT (a b : List Ru) (k : Nat) : List Ru := (a.take k).filter (fun r => !(hasR b r))
def woN (a b : List Int) : List Int := a.filter (fun z => !(isI b z))
def woNT (a b : List Int) (k : Nat) : List Int := (a.take k).filter (fun z => !(isI b z))
theorem woRT_zero (a b : List Ru) : woRT a b 0 = [] := by simp [woRT]
theorem woNT_zero (a b : List Int) : woNT a b 0 = [] := by simp [woNT]
theorem woRT_end (a b : List Ru) : woRT a b a.length = woR a b := by unfold woRT woR; rw [List.take_length]
theorem woNT_end (a b : List Int) : woNT a b a.length = woN a b := by unfold woNT woN; rw [List.take_length]
theorem woRT_yes {a b : List Ru} {k : Nat} (h : k < a.length) (hb : hasR b a[k] = true) : woRT a b (k + 1) = woRT a b k := by
  unfold woRT
  rw [List.take_succ_eq_append_getElem h, List.filter_append]
  simp [hb]
theorem woRT_no {a b : List Ru} {k : Nat} (h : k < a.length) (hb : hasR b a[k] = false) : woRT a b (k + 1) = woRT a b k ++ [a[k]] := by
  unfold woRT
  rw [List.take_succ_eq_append_getElem h, List.filter_append]
  simp [hb]
theorem woNT_yes {a b : List Int} {k : Nat} (h : k < a.length) (hb : isI b a[k] = true) : woNT a b (k + 1) = woNT a b k := by
  unfold woNT
  rw [List.take_succ_eq_append_getElem h, List.filter_append]
  simp [hb]
theorem woNT_no {a b : List Int} {k : Nat} (h : k < a.length) (hb : isI b a[k] = false) : woNT a b (k + 1) = woNT a b k ++ [a[k]] := by
  unfold woNT
  rw [List.take_succ_eq_append_getElem h, List.filter_append]
  simp [hb]
theorem woRT_len (a b : List Ru) (k : Nat) : (woRT a b k).length ≤ k := Nat.le_trans (List.length_filter_le _ _) (by rw [List.length_take]; omega)
theorem woNT_len (a b : List Int) (k : Nat) : (woNT a b k).length ≤ k := Nat.le_trans (List.length_filter_le _ _) (by rw [List.length_take]; omega)
theorem woR_len (a b : List Ru) : (woR a b).length ≤ a.length := List.length_filter_le _ _
theorem woN_len (a b : List Int) : (woN a b).length ≤ a.length := List.length_filter_le _ _
theorem woR_mem {a b : List Ru} {r : Ru} (h : r ∈ woR a b) : r ∈ a := (List.mem_filter.1 h).1
/-- What DiffOf tells. -/
def dfB (a b : Sn) : Bool := (snB a && (snB b && decide (a.num < b.num))) && (woN a.rv b.rv).isEmpty
def dfX (a b : Sn) : Df := if dfB a b = true then ⟨a.num, b.num, woR a.pol b.pol, woR b.pol a.pol, woN b.rv a.rv⟩ else Df.none
theorem dfX_no {a b : Sn} (h : dfB a b = false) : dfX a b = Df.none := if_neg (by rw [h]; exact Bool.false_ne_true)
theorem dfX_yes {a b : Sn} (h : dfB a b = true) : dfX a b = ⟨a.num, b.num, woR a.pol b.pol, woR b.pol a.pol, woN b.rv a.rv⟩ := if_pos h

end Go.Proofs.YthpckiobfjdckaaGreat
