/-
  Issuers: when one is good, where a work stands in it; without the model.
-/
import Derived.Test.YtfchmhcnejifhaaDoorTokM
import Derived.Test.YtfchmhcnejifhaaDoorChkM
import Derived.Test.YtfchmhcnejifhaaDoorSrtM
namespace Go.Proofs.YtfchmhcnejifhaaDoor

/-! The order of bytes. -/
theorem blo_irrefl : ∀ a : List UInt8, Op.bytesLess a a = false
  | [] => rfl
  | x :: a => by
    unfold Op.bytesLess
    simp [blo_irrefl a]
theorem blo_trans : ∀ a b c : List UInt8, Op.bytesLess a b = true → Op.bytesLess b c = true → Op.bytesLess a c = true
  | _, _, [], _, h2 => by simp [Op.bytesLess] at h2
  | _, [], _ :: _, h1, _ => by simp [Op.bytesLess] at h1
  | [], _ :: _, _ :: _, _, _ => rfl
  | x :: a, y :: b, z :: c, h1, h2 => by
    unfold Op.bytesLess at h1 h2 ⊢
    simp only [Bool.or_eq_true, decide_eq_true_eq, Bool.and_eq_true, beq_iff_eq] at h1 h2 ⊢
    rcases h1 with h1 | ⟨rfl, h1⟩
    · rcases h2 with h2 | ⟨rfl, h2⟩
      · exact .inl (UInt8.lt_trans h1 h2)
      · exact .inl h1
    · rcases h2 with h2 | ⟨rfl, h2⟩
      · exact .inl h2
      · exact .inr ⟨rfl, blo_trans a b c h1 h2⟩
theorem blo_total : ∀ a b : List UInt8, Op.bytesLess a b = false → Op.bytesLess b a = false → a = b
  | [], [], _, _ => rfl
  | [], _ :: _, h, _ => by simp [Op.bytesLess] at h
  | _ :: _, [], _, h => by simp [Op.bytesLess] at h
  | x :: a, y :: b, h1, h2 => by
    unfold Op.bytesLess at h1 h2
    simp only [Bool.or_eq_false_iff, decide_eq_false_iff_not, Bool.and_eq_false_iff, beq_eq_false_iff_ne] at h1 h2
    have e : x = y := UInt8.le_antisymm (UInt8.not_lt.1 h2.1) (UInt8.not_lt.1 h1.1)
    subst e
    have h3 : Op.bytesLess a b = false := by
      rcases h1.2 with h | h
      · exact absurd rfl h
      · exact h
    have h4 : Op.bytesLess b a = false := by
      rcases h2.2 with h | h
      · exact absurd rfl h
      · exact h
    rw [blo_total a b h3 h4]
theorem blo_asym {a b : List UInt8} (h : Op.bytesLess a b = true) : Op.bytesLess b a = false := by
  cases h2 : Op.bytesLess b a
  · rfl
  · have := blo_trans a b a h h2
    rw [blo_irrefl] at this
    cases this

/-- A work, and an issuer. -/
structure Wk where
  name : ByteArray
  live : Bool
  se : Int
structure Is where
  ws : List Wk
  nx : Int
  rv : List Int
  sg : List ByteArray
def Is.none : Is := ⟨[], 0, [], []⟩
def blt (a b : ByteArray) : Bool := Op.bytesLess a.toList b.toList
theorem ble_not (a b : ByteArray) : (Op.bytesLess a.toList b.toList || a.toList == b.toList) = !(blt b a) := by
  unfold blt
  cases h : Op.bytesLess b.toList a.toList
  · cases h2 : Op.bytesLess a.toList b.toList
    · have := blo_total _ _ h2 h
      rw [this]
      simp
    · rfl
  · have h2 := blo_asym h
    rw [h2]
    have : (a.toList == b.toList) = false := by
      rw [beq_eq_false_iff_ne]
      intro e
      rw [e, blo_irrefl] at h
      cases h
    rw [this]
    rfl

def wkOk (nx : Int) (x : Wk) : Bool := nmOk x.name && decide (0 ≤ x.se ∧ x.se < nx)
def upB (ws : List Wk) (i : Nat) : Bool := match i with
  | 0 => true
  | i + 1 => match ws[i]?, ws[i + 1]? with
    | some a, some b => blt a.name b.name
    | _, _ => true
theorem upB_succ {ws : List Wk} {i : Nat} (h : i + 1 < ws.length) : upB ws (i + 1) = blt ws[i].name ws[i + 1].name := by
  simp only [upB]
  rw [List.getElem?_eq_getElem h, List.getElem?_eq_getElem (by omega)]
def upW (ws : List Wk) : Bool := (List.range ws.length).all (upB ws)
def okW (nx : Int) (ws : List Wk) : Bool := ws.all (wkOk nx)
def hdB (s : Is) : Bool := decide (s.ws.length ≤ 20) && (decide (1 ≤ s.nx ∧ s.nx ≤ 100000) && decide (s.sg.length ≤ 200))
/-- An issuer is good. -/
def isB (s : Is) : Bool := hdB s && (upW s.ws && (okW s.nx s.ws && (upN s.rv && okN s.nx s.rv)))
theorem upW_no {ws : List Wk} {i : Nat} (h : i < ws.length) (hb : upB ws i = false) : upW ws = false :=
  List.all_eq_false.2 ⟨i, List.mem_range.2 h, by rw [hb]; simp⟩
theorem upW_yes {ws : List Wk} (h : ∀ i, i < ws.length → upB ws i = true) : upW ws = true :=
  List.all_eq_true.2 fun i hi => h i (List.mem_range.1 hi)
theorem okW_no {nx : Int} {ws : List Wk} {i : Nat} (h : i < ws.length) (hb : wkOk nx ws[i] = false) : okW nx ws = false :=
  List.all_eq_false.2 ⟨_, List.getElem_mem h, by rw [hb]; simp⟩
theorem okW_yes {nx : Int} {ws : List Wk} (h : ∀ i (hi : i < ws.length), wkOk nx ws[i] = true) : okW nx ws = true :=
  List.all_eq_true.2 fun x hx => by
    obtain ⟨i, hi, rfl⟩ := List.getElem_of_mem hx
    exact h i hi
theorem isB_parts {s : Is} (h : isB s = true) : hdB s = true ∧ upW s.ws = true ∧ okW s.nx s.ws = true ∧ upN s.rv = true ∧ okN s.nx s.rv = true := by
  unfold isB at h
  simpa [Bool.and_eq_true] using h
theorem isB_hd {s : Is} (h : isB s = true) : s.ws.length ≤ 20 ∧ 1 ≤ s.nx ∧ s.nx ≤ 100000 ∧ s.sg.length ≤ 200 := by
  have := (isB_parts h).1
  unfold hdB at this
  simp at this
  omega
theorem isB_no1 {s : Is} (h : hdB s = false) : isB s = false := by unfold isB; rw [h]; rfl
theorem isB_no2 {s : Is} (h : upW s.ws = false) : isB s = false := by unfold isB; rw [h]; simp
theorem isB_no3 {s : Is} (h : okW s.nx s.ws = false) : isB s = false := by unfold isB; rw [h]; simp
theorem isB_no4 {s : Is} (h : upN s.rv = false) : isB s = false := by unfold isB; rw [h]; simp
theorem isB_no5 {s : Is} (h : okN s.nx s.rv = false) : isB s = false := by unfold isB; rw [h]; simp
theorem isB_yes {s : Is} (h1 : hdB s = true) (h2 : upW s.ws = true) (h3 : okW s.nx s.ws = true) (h4 : upN s.rv = true) (h5 : okN s.nx s.rv = true) : isB s = true := by
  unfold isB; rw [h1, h2, h3, h4, h5]; rfl

/-- Where a work stands or would stand. -/
def atW : List Wk → ByteArray → Nat
  | [], _ => 0
  | x :: r, n => if blt x.name n = true then atW r n + 1 else 0
theorem atW_le : ∀ (ws : List Wk) (n : ByteArray), atW ws n ≤ ws.length
  | [], _ => Nat.le_refl _
  | x :: r, n => by
    have := atW_le r n
    unfold atW
    split <;> simp <;> omega
theorem atW_lt : ∀ {ws : List Wk} {n : ByteArray} {k : Nat} (h : k < ws.length), k < atW ws n → blt ws[k].name n = true
  | [], _, _, h, _ => by simp at h
  | x :: r, n, k, h, hk => by
    unfold atW at hk
    split at hk
    · rename_i hx
      cases k with
      | zero => exact hx
      | succ k => exact atW_lt (ws := r) (by simpa using h) (by omega)
    · omega
theorem atW_at : ∀ {ws : List Wk} {n : ByteArray} {k : Nat} (h : k < ws.length), k = atW ws n → blt ws[k].name n = false
  | [], _, _, h, _ => by simp at h
  | x :: r, n, k, h, hk => by
    unfold atW at hk
    split at hk
    · subst hk
      exact atW_at (ws := r) (by simpa using h) rfl
    · rename_i hx
      subst hk
      simpa using hx
def hasW (ws : List Wk) (n : ByteArray) : Bool := match ws[atW ws n]? with
  | some x => x.name.toList == n.toList
  | Option.none => false
def livW (ws : List Wk) (n : ByteArray) : Bool := match ws[atW ws n]? with
  | some x => (x.name.toList == n.toList) && x.live
  | Option.none => false
theorem hasW_at {ws : List Wk} {n : ByteArray} (h : atW ws n < ws.length) : hasW ws n = (ws[atW ws n].name.toList == n.toList) := by
  unfold hasW
  rw [List.getElem?_eq_getElem h]
theorem hasW_end {ws : List Wk} {n : ByteArray} (h : ¬ atW ws n < ws.length) : hasW ws n = false := by
  unfold hasW
  rw [List.getElem?_eq_none (by omega)]
theorem hasW_lt {ws : List Wk} {n : ByteArray} (h : hasW ws n = true) : atW ws n < ws.length := by
  rcases Nat.lt_or_ge (atW ws n) ws.length with h1 | h1
  · exact h1
  · rw [hasW_end (by omega)] at h
    cases h
theorem livW_at {ws : List Wk} {n : ByteArray} (h : atW ws n < ws.length) : livW ws n = (hasW ws n && ws[atW ws n].live) := by
  rw [hasW_at h]
  unfold livW
  rw [List.getElem?_eq_getElem h]
theorem livW_no {ws : List Wk} {n : ByteArray} (h : hasW ws n = false) : livW ws n = false := by
  rcases Nat.lt_or_ge (atW ws n) ws.length with h1 | h1
  · rw [livW_at h1, h]; rfl
  · unfold livW
    rw [List.getElem?_eq_none (by omega)]
theorem livW_has {ws : List Wk} {n : ByteArray} (h : livW ws n = true) : hasW ws n = true := by
  cases h1 : hasW ws n
  · rw [livW_no h1] at h; cases h
  · rfl
theorem hasW_name {ws : List Wk} {n : ByteArray} (h : hasW ws n = true) (h1 : atW ws n < ws.length) : ws[atW ws n].name = n := by
  rw [hasW_at h1] at h
  have := eq_of_beq h
  rw [toList_data, toList_data] at this
  exact bytes_same this
/-- What EnrolWork tells. -/
def enX (s : Is) (n : ByteArray) : Is × Int :=
  if (isB s && nmOk n) = false then (Is.none, 1)
  else if livW s.ws n = true then (s, 2)
  else if hasW s.ws n = true then (⟨s.ws.set (atW s.ws n) ⟨n, true, 0⟩, s.nx, s.rv, s.sg⟩, 0)
  else if s.ws.length = 20 then (s, 4)
  else (⟨s.ws.take (atW s.ws n) ++ ⟨n, true, 0⟩ :: s.ws.drop (atW s.ws n), s.nx, s.rv, s.sg⟩, 0)
def seSet (ws : List Wk) (a : Nat) (z : Int) : List Wk := match ws[a]? with
  | some x => ws.set a ⟨x.name, x.live, z⟩
  | Option.none => ws
def liSet (ws : List Wk) (a : Nat) (b : Bool) : List Wk := match ws[a]? with
  | some x => ws.set a ⟨x.name, b, x.se⟩
  | Option.none => ws
theorem seSet_at {ws : List Wk} {a : Nat} {z : Int} (h : a < ws.length) : seSet ws a z = ws.set a ⟨ws[a].name, ws[a].live, z⟩ := by
  unfold seSet
  rw [List.getElem?_eq_getElem h]
theorem liSet_at {ws : List Wk} {a : Nat} {b : Bool} (h : a < ws.length) : liSet ws a b = ws.set a ⟨ws[a].name, b, ws[a].se⟩ := by
  unfold liSet
  rw [List.getElem?_eq_getElem h]
/-- A token is signed and counted to a work. -/
def sgX (s : Is) (ks : List Lk) (who : ByteArray) : Is := ⟨seSet s.ws (atW s.ws who) s.nx, s.nx + 1, s.rv, s.sg ++ [tkT ks]⟩
def fullB (s : Is) : Bool := (s.nx == 100000) || decide (s.sg.length = 200)
/-- What RevokeWork tells. -/
def insN (zs : List Int) (z : Int) : List Int := zs.take (atN zs z) ++ z :: zs.drop (atN zs z)
def rvN (zs : List Int) (z : Int) : List Int := if (z != 0 && !(hasN zs z)) = true then insN zs z else zs
def rkX (s : Is) (n : ByteArray) : Is × Int × Int :=
  if (isB s && nmOk n) = false then (Is.none, 0, 1)
  else if livW s.ws n = false then (s, (s.rv.length : Int), 3)
  else match s.ws[atW s.ws n]? with
    | some x => (⟨liSet s.ws (atW s.ws n) false, s.nx, rvN s.rv x.se, s.sg⟩, ((rvN s.rv x.se).length : Int), 0)
    | Option.none => (s, 0, 0)
/-- What SerialsOf tells. -/
def seX (s : Is) (n : ByteArray) : Int × Bool :=
  if isB s = false then (0, false)
  else match s.ws[atW s.ws n]? with
    | some x => if hasW s.ws n = true then (x.se, true) else (0, false)
    | Option.none => (0, false)

end Go.Proofs.YtfchmhcnejifhaaDoor
