/-
  Chapter 3: good links and good tokens, by the specification.
-/
import Derived.Test.YtallpldgkkpikaaGreatDoorJIssued0
import Derived.Deep.RegionHeld3
import Derived.WalkKit
import Derived.ProofKit
import Derived.OpenShut
import Derived.Lib.SmallJoins
import Derived.Deep.Slices
import Derived.LaidEql
import Derived.Stop.Asserts
import Derived.RowKitTokens
import Derived.Shelf.SlicesE.Clone
import Derived.Test.YtallpldgkkpikaaGreatDoorRows
import Derived.LaidHandle
import Derived.LaidLaws
import Derived.Stop.Joined
import Derived.Stop.JoinedAt
import Derived.Stop.LaidErr
import Derived.Stop.LaidTwo
import Derived.Stop.Texts
import Derived.Lib.ItoaNum
import Derived.Lib.Builder
import Derived.Shelf.Strings.Builder1
namespace Go.Proofs.YtallpldgkkpikaaGreatDoor

/-- A text is among some. -/
def hasTo (ss : List ByteArray) (s : ByteArray) (n : Nat) : Bool := (ss.take n).any (fun x => x.toList == s.toList)
def hasT (ss : List ByteArray) (s : ByteArray) : Bool := ss.any (fun x => x.toList == s.toList)
theorem hasTo_zero (ss : List ByteArray) (s : ByteArray) : hasTo ss s 0 = false := by simp [hasTo]
theorem hasTo_succ {ss : List ByteArray} {s : ByteArray} {n : Nat} (h : n < ss.length) : hasTo ss s (n + 1) = (hasTo ss s n || (ss[n].toList == s.toList)) := by
  unfold hasTo
  rw [List.take_succ_eq_append_getElem h, List.any_append]
  simp
theorem hasT_yes {ss : List ByteArray} {s : ByteArray} {n : Nat} (h : n < ss.length) (he : (ss[n].toList == s.toList) = true) : hasT ss s = true :=
  List.any_eq_true.2 ⟨ss[n], List.getElem_mem h, he⟩
theorem hasT_end (ss : List ByteArray) (s : ByteArray) : hasTo ss s ss.length = hasT ss s := by
  unfold hasTo hasT
  rw [List.take_length]
/-- All of some texts are among others. -/
def allTo3 (ss ts : List ByteArray) (n : Nat) : Bool := (ts.take n).all (hasT ss)
def allT (ss ts : List ByteArray) : Bool := ts.all (hasT ss)
theorem allTo3_zero (ss ts : List ByteArray) : allTo3 ss ts 0 = true := by simp [allTo3]
theorem allTo3_succ {ss ts : List ByteArray} {n : Nat} (h : n < ts.length) : allTo3 ss ts (n + 1) = (allTo3 ss ts n && hasT ss ts[n]) := by
  unfold allTo3
  rw [List.take_succ_eq_append_getElem h, List.all_append]
  simp
theorem allT_no {ss ts : List ByteArray} {n : Nat} (h : n < ts.length) (he : hasT ss ts[n] = false) : allT ss ts = false :=
  List.all_eq_false.2 ⟨ts[n], List.getElem_mem h, by rw [he]; exact Bool.false_ne_true⟩
theorem allT_end (ss ts : List ByteArray) : allTo3 ss ts ts.length = allT ss ts := by
  unfold allTo3 allT
  rw [List.take_length]
/-- A time lies within all links' times. -/
def tmIn (k : Lk) (nw : Int) : Bool := decide (k.fr ≤ nw ∧ nw ≤ k.un)
def inTo (ks : List Lk) (nw : Int) (n : Nat) : Bool := (ks.take n).all (fun k => tmIn k nw)
def inT (ks : List Lk) (nw : Int) : Bool := ks.all (fun k => tmIn k nw)
theorem inTo_zero (ks : List Lk) (nw : Int) : inTo ks nw 0 = true := by simp [inTo]
theorem inTo_succ {ks : List Lk} {nw : Int} {n : Nat} (h : n < ks.length) : inTo ks nw (n + 1) = (inTo ks nw n && tmIn ks[n] nw) := by
  unfold inTo
  rw [List.take_succ_eq_append_getElem h, List.all_append]
  simp
theorem inT_no {ks : List Lk} {nw : Int} {n : Nat} (h : n < ks.length) (he : tmIn ks[n] nw = false) : inT ks nw = false :=
  List.all_eq_false.2 ⟨ks[n], List.getElem_mem h, by rw [he]; exact Bool.false_ne_true⟩
theorem inT_end (ks : List Lk) (nw : Int) : inTo ks nw ks.length = inT ks nw := by
  unfold inTo inT
  rw [List.take_length]
/-- A serial is revoked. -/
def rvTo (ks : List Lk) (zs : List Int) (n : Nat) : Bool := (ks.take n).any (fun k => isI zs k.se)
def rvB (ks : List Lk) (zs : List Int) : Bool := ks.any (fun k => isI zs k.se)
theorem rvTo_zero (ks : List Lk) (zs : List Int) : rvTo ks zs 0 = false := by simp [rvTo]
theorem rvTo_succ {ks : List Lk} {zs : List Int} {n : Nat} (h : n < ks.length) : rvTo ks zs (n + 1) = (rvTo ks zs n || isI zs ks[n].se) := by
  unfold rvTo
  rw [List.take_succ_eq_append_getElem h, List.any_append]
  simp
theorem rvB_yes {ks : List Lk} {zs : List Int} {n : Nat} (h : n < ks.length) (he : isI zs ks[n].se = true) : rvB ks zs = true :=
  List.any_eq_true.2 ⟨ks[n], List.getElem_mem h, he⟩
theorem rvB_end (ks : List Lk) (zs : List Int) : rvTo ks zs ks.length = rvB ks zs := by
  unfold rvTo rvB
  rw [List.take_length]
/-- It leads where it should. -/
def toOk (ks : List Lk) (at_ : ByteArray) : Bool := match ks[ks.length - 1]? with
  | some k => k.to.toList == at_.toList
  | none => false
theorem toOk_at {ks : List Lk} {at_ : ByteArray} {m : Nat} (h : m < ks.length) (hm : m = ks.length - 1) : toOk ks at_ = (ks[m].to.toList == at_.toList) := by
  unfold toOk
  rw [← hm, List.getElem?_eq_getElem h]

/-- What comes first of what CheckToken tells, of a token that is good. -/
def chk1 (ks : List Lk) (sg ss : List ByteArray) (nw : Int) (zs : List Int) (at_ : ByteArray) : Int :=
  if allT ss sg = false then 2 else if inT ks nw = false then 3 else if rvB ks zs = true then 4 else if toOk ks at_ = false then 5 else 0
def argB (nw : Int) (at_ : ByteArray) (ss : List ByteArray) (zs : List Int) : Bool := tmB nw && (gnB (split at_ 47) && (decide (ss.length ≤ 200) && decide (zs.length ≤ 200)))
def chkX (ks : List Lk) (sg ss : List ByteArray) (nw : Int) (zs : List Int) (at_ : ByteArray) : Int :=
  if (tkB ks && argB nw at_ ss zs) = true then chk1 ks sg ss nw zs at_ else 1
theorem chkX_no1 {ks : List Lk} (sg ss : List ByteArray) (nw : Int) (zs : List Int) (at_ : ByteArray) (h : tkB ks = false) : chkX ks sg ss nw zs at_ = 1 := by
  unfold chkX
  rw [h, if_neg (by simp)]
theorem chkX_no2 (ks : List Lk) (sg : List ByteArray) {ss : List ByteArray} {nw : Int} {zs : List Int} {at_ : ByteArray} (h : argB nw at_ ss zs = false) : chkX ks sg ss nw zs at_ = 1 := by
  unfold chkX
  rw [h, if_neg (by simp)]
theorem chkX_yes {ks : List Lk} (sg : List ByteArray) {ss : List ByteArray} {nw : Int} {zs : List Int} {at_ : ByteArray} (h : tkB ks = true) (h2 : argB nw at_ ss zs = true) : chkX ks sg ss nw zs at_ = chk1 ks sg ss nw zs at_ := by
  unfold chkX
  rw [h, h2, if_pos (by rfl)]

/-! The window of times. -/
def mxF (ks : List Lk) (n : Nat) : Nat := (ks.take n).foldl (fun a k => max a k.fr.toNat) 0
def mnU (ks : List Lk) (n : Nat) : Nat := (ks.take n).foldl (fun a k => min a k.un.toNat) 100000
theorem mxF_zero (ks : List Lk) : mxF ks 0 = 0 := by simp [mxF]
theorem mnU_zero (ks : List Lk) : mnU ks 0 = 100000 := by simp [mnU]
theorem mxF_succ {ks : List Lk} {n : Nat} (h : n < ks.length) : mxF ks (n + 1) = max (mxF ks n) ks[n].fr.toNat := by
  unfold mxF
  rw [List.take_succ_eq_append_getElem h, List.foldl_append]
  rfl
theorem mnU_succ {ks : List Lk} {n : Nat} (h : n < ks.length) : mnU ks (n + 1) = min (mnU ks n) ks[n].un.toNat := by
  unfold mnU
  rw [List.take_succ_eq_append_getElem h, List.foldl_append]
  rfl
theorem win_le {ks : List Lk} (hg : ∀ k ∈ ks, k.good = true) : ∀ n, n ≤ ks.length → mxF ks n ≤ 100000 ∧ mnU ks n ≤ 100000
  | 0, _ => by rw [mxF_zero, mnU_zero]; omega
  | n + 1, h => by
    obtain ⟨h1, h2⟩ := win_le hg n (by omega)
    obtain ⟨_, _, _, b4, b5, _⟩ := (Lk.good_iff _).1 (hg _ (List.getElem_mem (show n < ks.length by omega)))
    rw [mxF_succ (by omega), mnU_succ (by omega)]
    omega
theorem win_in {ks : List Lk} (hg : ∀ k ∈ ks, k.good = true) {nw : Nat} (h : nw ≤ 100000) : ∀ n, n ≤ ks.length → inTo ks nw n = decide (mxF ks n ≤ nw ∧ nw ≤ mnU ks n)
  | 0, _ => by rw [inTo_zero, mxF_zero, mnU_zero]; simp; omega
  | n + 1, hn => by
    have ih := win_in hg h n (by omega)
    obtain ⟨_, _, _, b4, b5, _⟩ := (Lk.good_iff _).1 (hg _ (List.getElem_mem (show n < ks.length by omega)))
    rw [inTo_succ (by omega), ih, mxF_succ (by omega), mnU_succ (by omega)]
    unfold tmIn
    rw [← Bool.decide_and, decide_eq_decide]
    omega

end Go.Proofs.YtallpldgkkpikaaGreatDoor

namespace Go.Proofs.YtallpldgkkpikaaGreatDoor

/-! The order of bytes. -/
theorem blo_irrefl : ∀ a : List UInt8, Op.bytesLess a a = false
  | [] => rfl
  | x :: a => by
    unfold Op.bytesLess
    simp [blo_irrefl a]
theorem blo_trans : ∀ a b c : List UInt8, Op.bytesLess a b = true → Op.bytesLess b c = true → Op.bytesLess a c = true
  | _, _, [], _, h2 => by simp [Op.bytesLess] at h2
  | _, [], _ :: _, h1, _ => by simp [Op.bytesLess] at h1
  | [], _ :: _, _ :: _, _, _ => rfl
  | x :: a, y :: b, z :: c, h1, h2 => by
    unfold Op.bytesLess at h1 h2 ⊢
    simp only [Bool.or_eq_true, decide_eq_true_eq, Bool.and_eq_true, beq_iff_eq] at h1 h2 ⊢
    rcases h1 with h1 | ⟨rfl, h1⟩
    · rcases h2 with h2 | ⟨rfl, h2⟩
      · exact .inl (UInt8.lt_trans h1 h2)
      · exact .inl h1
    · rcases h2 with h2 | ⟨rfl, h2⟩
      · exact .inl h2
      · exact .inr ⟨rfl, blo_trans a b c h1 h2⟩
theorem blo_total : ∀ a b : List UInt8, Op.bytesLess a b = false → Op.bytesLess b a = false → a = b
  | [], [], _, _ => rfl
  | [], _ :: _, h, _ => by simp [Op.bytesLess] at h
  | _ :: _, [], _, h => by simp [Op.bytesLess] at h
  | x :: a, y :: b, h1, h2 => by
    unfold Op.bytesLess at h1 h2
    simp only [Bool.or_eq_false_iff, decide_eq_false_iff_not, Bool.and_eq_false_iff, beq_eq_false_iff_ne] at h1 h2
    have e : x = y := UInt8.le_antisymm (UInt8.not_lt.1 h2.1) (UInt8.not_lt.1 h1.1)
    subst e
    have h3 : Op.bytesLess a b = false := by
      rcases h1.2 with h | h
      · exact absurd rfl h
      · exact h
    have h4 : Op.bytesLess b a = false := by
      rcases h2.2 with h | h
      · exact absurd rfl h
      · exact h
    rw [blo_total a b h3 h4]
theorem blo_asym {a b : List UInt8} (h : Op.bytesLess a b = true) : Op.bytesLess b a = false := by
  cases h2 : Op.bytesLess b a
  · rfl
  · have := blo_trans a b a h h2
    rw [blo_irrefl] at this
    cases this

/-- A work, and an issuer. -/
structure Wk where
  name : ByteArray
  live : Bool
  se : Int
structure Is where
  ws : List Wk
  nx : Int
  rv : List Int
  sg : List ByteArray
def Is.none : Is := ⟨[], 0, [], []⟩
def blt (a b : ByteArray) : Bool := Op.bytesLess a.toList b.toList
theorem ble_not (a b : ByteArray) : (Op.bytesLess a.toList b.toList || a.toList == b.toList) = !(blt b a) := by
  unfold blt
  cases h : Op.bytesLess b.toList a.toList
  · cases h2 : Op.bytesLess a.toList b.toList
    · have := blo_total _ _ h2 h
      rw [this]
      simp
    · rfl
  · have h2 := blo_asym h
    rw [h2]
    have : (a.toList == b.toList) = false := by
      rw [beq_eq_false_iff_ne]
      intro e
      rw [e, blo_irrefl] at h
      cases h
    rw [this]
    rfl

def wkOk (nx : Int) (x : Wk) : Bool := nmOk x.name && decide (0 ≤ x.se ∧ x.se < nx)
def upB (ws : List Wk) (i : Nat) : Bool := match i with
  | 0 => true
  | i + 1 => match ws[i]?, ws[i + 1]? with
    | some a, some b => blt a.name b.name
    | _, _ => true
theorem upB_succ {ws : List Wk} {i : Nat} (h : i + 1 < ws.length) : upB ws (i + 1) = blt ws[i].name ws[i + 1].name := by
  simp only [upB]
  rw [List.getElem?_eq_getElem h, List.getElem?_eq_getElem (by omega)]
def upW (ws : List Wk) : Bool := (List.range ws.length).all (upB ws)
def okW (nx : Int) (ws : List Wk) : Bool := ws.all (wkOk nx)
def hdB (s : Is) : Bool := decide (s.ws.length ≤ 20) && (decide (1 ≤ s.nx ∧ s.nx ≤ 100000) && decide (s.sg.length ≤ 200))
/-- An issuer is good. -/
def isB (s : Is) : Bool := hdB s && (upW s.ws && (okW s.nx s.ws && (upN s.rv && okN s.nx s.rv)))
theorem upW_no {ws : List Wk} {i : Nat} (h : i < ws.length) (hb : upB ws i = false) : upW ws = false :=
  List.all_eq_false.2 ⟨i, List.mem_range.2 h, by rw [hb]; simp⟩
theorem upW_yes {ws : List Wk} (h : ∀ i, i < ws.length → upB ws i = true) : upW ws = true :=
  List.all_eq_true.2 fun i hi => h i (List.mem_range.1 hi)
theorem okW_no {nx : Int} {ws : List Wk} {i : Nat} (h : i < ws.length) (hb : wkOk nx ws[i] = false) : okW nx ws = false :=
  List.all_eq_false.2 ⟨_, List.getElem_mem h, by rw [hb]; simp⟩
theorem okW_yes {nx : Int} {ws : List Wk} (h : ∀ i (hi : i < ws.length), wkOk nx ws[i] = true) : okW nx ws = true :=
  List.all_eq_true.2 fun x hx => by
    obtain ⟨i, hi, rfl⟩ := List.getElem_of_mem hx
    exact h i hi
theorem isB_parts {s : Is} (h : isB s = true) : hdB s = true ∧ upW s.ws = true ∧ okW s.nx s.ws = true ∧ upN s.rv = true ∧ okN s.nx s.rv = true := by
  unfold isB at h
  simpa [Bool.and_eq_true] using h
theorem isB_hd {s : Is} (h : isB s = true) : s.ws.length ≤ 20 ∧ 1 ≤ s.nx ∧ s.nx ≤ 100000 ∧ s.sg.length ≤ 200 := by
  have := (isB_parts h).1
  unfold hdB at this
  simp at this
  omega
theorem isB_no1 {s : Is} (h : hdB s = false) : isB s = false := by unfold isB; rw [h]; rfl
theorem isB_no2 {s : Is} (h : upW s.ws = false) : isB s = false := by unfold isB; rw [h]; simp
theorem isB_no3 {s : Is} (h : okW s.nx s.ws = false) : isB s = false := by unfold isB; rw [h]; simp
theorem isB_no4 {s : Is} (h : upN s.rv = false) : isB s = false := by unfold isB; rw [h]; simp
theorem isB_no5 {s : Is} (h : okN s.nx s.rv = false) : isB s = false := by unfold isB; rw [h]; simp
theorem isB_yes {s : Is} (h1 : hdB s = true) (h2 : upW s.ws = true) (h3 : okW s.nx s.ws = true) (h4 : upN s.rv = true) (h5 : okN s.nx s.rv = true) : isB s = true := by
  unfold isB; rw [h1, h2, h3, h4, h5]; rfl

/-- Where a work stands or would stand. -/
def atW : List Wk → ByteArray → Nat
  | [], _ => 0
  | x :: r, n => if blt x.name n = true then atW r n + 1 else 0
theorem atW_le : ∀ (ws : List Wk) (n : ByteArray), atW ws n ≤ ws.length
  | [], _ => Nat.le_refl _
  | x :: r, n => by
    have := atW_le r n
    unfold atW
    split <;> simp <;> omega
theorem atW_lt : ∀ {ws : List Wk} {n : ByteArray} {k : Nat} (h : k < ws.length), k < atW ws n → blt ws[k].name n = true
  | [], _, _, h, _ => by simp at h
  | x :: r, n, k, h, hk => by
    unfold atW at hk
    split at hk
    · rename_i hx
      cases k with
      | zero => exact hx
      | succ k => exact atW_lt (ws := r) (by simpa using h) (by omega)
    · omega
theorem atW_at : ∀ {ws : List Wk} {n : ByteArray} {k : Nat} (h : k < ws.length), k = atW ws n → blt ws[k].name n = false
  | [], _, _, h, _ => by simp at h
  | x :: r, n, k, h, hk => by
    unfold atW at hk
    split at hk
    · subst hk
      exact atW_at (ws := r) (by simpa using h) rfl
    · rename_i hx
      subst hk
      simpa using hx
def hasW (ws : List Wk) (n : ByteArray) : Bool := match ws[atW ws n]? with
  | some x => x.name.toList == n.toList
  | Option.none => false
def livW (ws : List Wk) (n : ByteArray) : Bool := match ws[atW ws n]? with
  | some x => (x.name.toList == n.toList) && x.live
  | Option.none => false
theorem hasW_at {ws : List Wk} {n : ByteArray} (h : atW ws n < ws.length) : hasW ws n = (ws[atW ws n].name.toList == n.toList) := by
  unfold hasW
  rw [List.getElem?_eq_getElem h]
theorem hasW_end {ws : List Wk} {n : ByteArray} (h : ¬ atW ws n < ws.length) : hasW ws n = false := by
  unfold hasW
  rw [List.getElem?_eq_none (by omega)]
theorem hasW_lt {ws : List Wk} {n : ByteArray} (h : hasW ws n = true) : atW ws n < ws.length := by
  rcases Nat.lt_or_ge (atW ws n) ws.length with h1 | h1
  · exact h1
  · rw [hasW_end (by omega)] at h
    cases h
theorem livW_at {ws : List Wk} {n : ByteArray} (h : atW ws n < ws.length) : livW ws n = (hasW ws n && ws[atW ws n].live) := by
  rw [hasW_at h]
  unfold livW
  rw [List.getElem?_eq_getElem h]
theorem livW_no {ws : List Wk} {n : ByteArray} (h : hasW ws n = false) : livW ws n = false := by
  rcases Nat.lt_or_ge (atW ws n) ws.length with h1 | h1
  · rw [livW_at h1, h]; rfl
  · unfold livW
    rw [List.getElem?_eq_none (by omega)]
theorem livW_has {ws : List Wk} {n : ByteArray} (h : livW ws n = true) : hasW ws n = true := by
  cases h1 : hasW ws n
  · rw [livW_no h1] at h; cases h
  · rfl
theorem hasW_name {ws : List Wk} {n : ByteArray} (h : hasW ws n = true) (h1 : atW ws n < ws.length) : ws[atW ws n].name = n := by
  rw [hasW_at h1] at h
  have := eq_of_beq h
  rw [toList_data, toList_data] at this
  exact bytes_same this
/-- What EnrolWork tells. -/
def enX (s : Is) (n : ByteArray) : Is × Int :=
  if (isB s && nmOk n) = false then (Is.none, 1)
  else if livW s.ws n = true then (s, 2)
  else if hasW s.ws n = true then (⟨s.ws.set (atW s.ws n) ⟨n, true, 0⟩, s.nx, s.rv, s.sg⟩, 0)
  else if s.ws.length = 20 then (s, 4)
  else (⟨s.ws.take (atW s.ws n) ++ ⟨n, true, 0⟩ :: s.ws.drop (atW s.ws n), s.nx, s.rv, s.sg⟩, 0)
def seSet (ws : List Wk) (a : Nat) (z : Int) : List Wk := match ws[a]? with
  | some x => ws.set a ⟨x.name, x.live, z⟩
  | Option.none => ws
def liSet (ws : List Wk) (a : Nat) (b : Bool) : List Wk := match ws[a]? with
  | some x => ws.set a ⟨x.name, b, x.se⟩
  | Option.none => ws
theorem seSet_at {ws : List Wk} {a : Nat} {z : Int} (h : a < ws.length) : seSet ws a z = ws.set a ⟨ws[a].name, ws[a].live, z⟩ := by
  unfold seSet
  rw [List.getElem?_eq_getElem h]
theorem liSet_at {ws : List Wk} {a : Nat} {b : Bool} (h : a < ws.length) : liSet ws a b = ws.set a ⟨ws[a].name, b, ws[a].se⟩ := by
  unfold liSet
  rw [List.getElem?_eq_getElem h]
/-- A token is signed and counted to a work. -/
def sgX (s : Is) (ks : List Lk) (who : ByteArray) : Is := ⟨seSet s.ws (atW s.ws who) s.nx, s.nx + 1, s.rv, s.sg ++ [tkT ks]⟩
def fullB (s : Is) : Bool := (s.nx == 100000) || decide (s.sg.length = 200)
/-- What RevokeWork tells. -/
def insN (zs : List Int) (z : Int) : List Int := zs.take (atN zs z) ++ z :: zs.drop (atN zs z)
def rvN (zs : List Int) (z : Int) : List Int := if (z != 0 && !(hasN zs z)) = true then insN zs z else zs
def rkX (s : Is) (n : ByteArray) : Is × Int × Int :=
  if (isB s && nmOk n) = false then (Is.none, 0, 1)
  else if livW s.ws n = false then (s, (s.rv.length : Int), 3)
  else match s.ws[atW s.ws n]? with
    | some x => (⟨liSet s.ws (atW s.ws n) false, s.nx, rvN s.rv x.se, s.sg⟩, ((rvN s.rv x.se).length : Int), 0)
    | Option.none => (s, 0, 0)
/-- What SerialsOf tells. -/
def seX (s : Is) (n : ByteArray) : Int × Bool :=
  if isB s = false then (0, false)
  else match s.ws[atW s.ws n]? with
    | some x => if hasW s.ws n = true then (x.se, true) else (0, false)
    | Option.none => (0, false)

end Go.Proofs.YtallpldgkkpikaaGreatDoor

namespace Go.Proofs.YtallpldgkkpikaaGreatDoor
open Go.RowKit Go.Shelf

def left1 (n : Int) (a : Nat) : Int := if (a : Int) ≤ n then n - a else -1

open Go.Deep Go.ChangeShapes Go.WideShapes Go.Joins in
theorem openStR {H : Type} {enc : TypeId × Value → H} {W : World} {c0 : Value} {d : DataW H × List MemPlace} {fuel : Nat} (hf : DataW.trod enc Tryz.prog W 0 (fun _ => true) true fuel 25 [c0] = some d) :
    ∃ (a : Option Addr) (n c : Nat) (ss : List ByteArray), c0 = .slice a n c ∧ VS W (.slice a n c) (strs ss) ∧ ss.length = n ∧ n ≤ maxLen ∧ ∀ s ∈ ss, s.size ≤ maxLen := by
  have hs : ∃ a n c, c0 = .slice a n c := by
    rcases open_slice Tryz.underlying25 hf with ⟨hcs, _⟩ | ⟨x, n, c, m, k, D, Pl, hcs, _⟩
    · simp at hcs; exact ⟨_, _, _, hcs⟩
    · simp at hcs; exact ⟨_, _, _, hcs⟩
  obtain ⟨a, n, c, rfl⟩ := hs
  obtain ⟨ss, h⟩ := openStS (a := a) (n := n) (c := c) (d := d.1) (p := d.2) ⟨fuel, hf⟩
  exact ⟨a, n, c, ss, rfl, h⟩
open Go.Deep Go.ChangeShapes Go.WideShapes Go.Joins in
theorem openInR {H : Type} {enc : TypeId × Value → H} {W : World} {c0 : Value} {d : DataW H × List MemPlace} {fuel : Nat} (hf : DataW.trod enc Tryz.prog W 0 (fun _ => true) true fuel 24 [c0] = some d) :
    ∃ (a : Option Addr) (n c : Nat) (zs : List Int), c0 = .slice a n c ∧ VS W (.slice a n c) (nums zs) ∧ zs.length = n ∧ n ≤ maxLen := by
  have hs : ∃ a n c, c0 = .slice a n c := by
    rcases open_slice Tryz.underlying24 hf with ⟨hcs, _⟩ | ⟨x, n, c, m, k, D, Pl, hcs, _⟩
    · simp at hcs; exact ⟨_, _, _, hcs⟩
    · simp at hcs; exact ⟨_, _, _, hcs⟩
  obtain ⟨a, n, c, rfl⟩ := hs
  obtain ⟨zs, h⟩ := openInS (a := a) (n := n) (c := c) (d := d.1) (p := d.2) ⟨fuel, hf⟩
  exact ⟨a, n, c, zs, rfl, h⟩

theorem take_set3 {α : Type} (xs : List α) (k : Nat) (a b c : α) (h : k * 3 + 3 ≤ xs.length) : (((xs.set (k * 3) a).set (k * 3 + 1) b).set (k * 3 + 2) c).take ((k + 1) * 3) = xs.take (k * 3) ++ [a, b, c] := by
  apply List.ext_getElem?
  intro i
  rw [List.getElem?_take]
  by_cases h1 : i < k * 3
  · rw [if_pos (by omega), List.getElem?_append_left (by rw [List.length_take]; omega), List.getElem?_take, if_pos h1]
    rw [List.getElem?_set_ne (by omega), List.getElem?_set_ne (by omega), List.getElem?_set_ne (by omega)]
  · by_cases h2 : i < (k + 1) * 3
    · rw [if_pos h2, List.getElem?_append_right (by rw [List.length_take]; omega)]
      have hl : (xs.take (k * 3)).length = k * 3 := by rw [List.length_take]; omega
      rw [hl]
      obtain h | h | h : i = k * 3 ∨ i = k * 3 + 1 ∨ i = k * 3 + 2 := by omega
      all_goals subst h
      · rw [List.getElem?_set_ne (by omega), List.getElem?_set_ne (by omega), List.getElem?_set_self (by omega)]
        simp
      · rw [List.getElem?_set_ne (by omega), List.getElem?_set_self (by simp; omega)]
        simp
      · rw [List.getElem?_set_self (by simp; omega)]
        simp
    · rw [if_neg h2, List.getElem?_eq_none (by rw [List.length_append, List.length_take]; simp; omega)]

/-- Four cells that are a block of their own. -/
def Four (w : World) (t : TypeId) (k : Nat) (a b c d : Value) : Prop := w.ownsRow k t 4 (.slice (some ⟨k, 0, none⟩) 1 1) 1 [a, b, c, d]
theorem Four.at (w : World) (a b c d : Value) (t : TypeId) {k : Nat} (hk : k = w.heap.size) : Four (w.alloc (.cells #[a, b, c, d] t)) t k a b c d := by
  subst hk
  exact ⟨rfl, .inr ⟨w.heap.size, 1, #[a, b, c, d], rfl, Nat.le_refl _, by show (w.heap.push _)[w.heap.size]? = _; rw [Array.getElem?_push_size], Nat.le_refl _, by unfold maxLen; omega, rfl, rfl⟩⟩
theorem Four.new (w : World) (a b c d : Value) (t : TypeId) : Four (w.alloc (.cells #[a, b, c, d] t)) t w.heap.size a b c d := Four.at w a b c d t rfl
theorem Four.below {w w' : World} {t : TypeId} {k : Nat} {a b c d : Value} (h : Four w t k a b c d) (hB : Below w.heap.size w w') : Four w' t k a b c d := ownsRow_below h hB
theorem Four.c {w : World} {t : TypeId} {k : Nat} {a b c d : Value} (h : Four w t k a b c d) : w.cell? ⟨k, 0, none⟩ = some a ∧ w.cell? ⟨k, 1, none⟩ = some b ∧ w.cell? ⟨k, 2, none⟩ = some c ∧ w.cell? ⟨k, 3, none⟩ = some d :=
  ⟨World.ownsRow.cellAt h 0 (by omega), World.ownsRow.cellAt h 1 (by omega), World.ownsRow.cellAt h 2 (by omega), World.ownsRow.cellAt h 3 (by omega)⟩
theorem Four.f {w : World} {t : TypeId} {k : Nat} {a b c d : Value} (h : Four w t k a b c d) (j : Nat) : w.frozen? ⟨k, j, none⟩ = false := World.ownsRow.frozenAt h j
theorem Four.s0 {w : World} {t : TypeId} {k : Nat} {a b c d : Value} (h : Four w t k a b c d) (x : Value) : Four (w.setCell ⟨k, 0, none⟩ x) t k x b c d := (World.ownsRow.stored h 0 x).1
theorem Four.s1 {w : World} {t : TypeId} {k : Nat} {a b c d : Value} (h : Four w t k a b c d) (x : Value) : Four (w.setCell ⟨k, 1, none⟩ x) t k a x c d := (World.ownsRow.stored h 1 x).1
theorem Four.s2 {w : World} {t : TypeId} {k : Nat} {a b c d : Value} (h : Four w t k a b c d) (x : Value) : Four (w.setCell ⟨k, 2, none⟩ x) t k a b x d := (World.ownsRow.stored h 2 x).1
theorem Four.s3 {w : World} {t : TypeId} {k : Nat} {a b c d : Value} (h : Four w t k a b c d) (x : Value) : Four (w.setCell ⟨k, 3, none⟩ x) t k a b c x := (World.ownsRow.stored h 3 x).1
theorem Four.other {w : World} {t : TypeId} {k : Nat} {a b c d : Value} (h : Four w t k a b c d) {k' : Nat} (hk : k ≠ k') (j : Nat) (x : Value) : Four (w.setCell ⟨k', j, none⟩ x) t k a b c d := ownsRow_setCell_other h (by simpa [Value.ownBlock] using hk) x
theorem Four.lt {w : World} {t : TypeId} {k : Nat} {a b c d : Value} (h : Four w t k a b c d) : k < w.heap.size := (World.ownsRow.lt h k rfl).2

theorem row_slice {w : World} {base : Nat} {e : TypeId} {size n : Nat} {v : Value} {xs : List Value} (h : w.ownsRow base e size v n xs) : ∃ a m c, v = .slice a m c := by
  rcases h.2 with ⟨h, _⟩ | ⟨g, cap, cur, hv, _⟩
  · exact ⟨_, _, _, h⟩
  · exact ⟨_, _, _, hv⟩

theorem row_four {w : World} {base : Nat} {e : TypeId} {size n : Nat} {v : Value} {xs : List Value} (h : w.ownsRow base e size v n xs) {k : Nat} (hk : k < base) (x0 x1 x2 x3 : Value) : ((((w.setCell ⟨k, 0, none⟩ x0).setCell ⟨k, 1, none⟩ x1).setCell ⟨k, 2, none⟩ x2).setCell ⟨k, 3, none⟩ x3).ownsRow base e size v n xs :=
  ownsRow_setCell_below (ownsRow_setCell_below (ownsRow_setCell_below (ownsRow_setCell_below h (a := ⟨k, 0, none⟩) hk x0) (a := ⟨k, 1, none⟩) hk x1) (a := ⟨k, 2, none⟩) hk x2) (a := ⟨k, 3, none⟩) hk x3
theorem below_four {n k : Nat} {w W : World} (h : Below n w W) (hk : n ≤ k) (x0 x1 x2 x3 : Value) : Below n w ((((W.setCell ⟨k, 0, none⟩ x0).setCell ⟨k, 1, none⟩ x1).setCell ⟨k, 2, none⟩ x2).setCell ⟨k, 3, none⟩ x3) :=
  (((h.setCell (p := ⟨k, 0, none⟩) hk x0).setCell (p := ⟨k, 1, none⟩) hk x1).setCell (p := ⟨k, 2, none⟩) hk x2).setCell (p := ⟨k, 3, none⟩) hk x3

def mkN (k n : Nat) : List Int := (List.range n).map (fun i => ((k + i : Nat) : Int))
theorem mkN_len (k n : Nat) : (mkN k n).length = n := by simp [mkN]
theorem mkN_succ (k n : Nat) : mkN k (n + 1) = mkN k n ++ [((k + n : Nat) : Int)] := by
  unfold mkN
  rw [List.range_succ, List.map_append]
  rfl
theorem mkN_at {k n i : Nat} (h : i < (mkN k n).length) : (mkN k n)[i] = ((k + i : Nat) : Int) := by simp [mkN]

/-- Only blocks from lo on, below hi, and new ones have turned. -/
structure Mid (lo hi : Nat) (w w' : World) : Prop where
  os : w'.os = w.os
  tape : w'.tape = w.tape
  output : w'.output = w.output
  size : w.heap.size ≤ w'.heap.size
  block : ∀ k, k < w.heap.size → (k < lo ∨ hi ≤ k) → w'.heap[k]? = w.heap[k]?
theorem Mid.trans {lo hi : Nat} {w w1 w2 : World} (h : Mid lo hi w w1) (h2 : Mid lo hi w1 w2) : Mid lo hi w w2 :=
  ⟨h2.os.trans h.os, h2.tape.trans h.tape, h2.output.trans h.output, Nat.le_trans h.size h2.size, fun k hk hn => (h2.block k (Nat.lt_of_lt_of_le hk h.size) hn).trans (h.block k hk hn)⟩
theorem Mid.of_below {lo hi : Nat} {w w1 : World} (h : Below w.heap.size w w1) : Mid lo hi w w1 :=
  ⟨h.os, h.tape, h.output, h.size, fun k hk _ => h.block k hk⟩
theorem Mid.of_grown {lo hi : Nat} {w w1 : World} {r : Option Nat} (h : w.grownBy w1 r) (hr : ∀ k, r = some k → lo ≤ k ∧ k < hi) : Mid lo hi w w1 :=
  ⟨h.os, h.tape, h.output, h.size, fun k hk hn => h.block k hk (fun e => by have := hr k e.symm; omega)⟩
theorem Mid.below {lo hi n : Nat} {w w1 : World} (h : Mid lo hi w w1) (hn : n ≤ lo) (hs : n ≤ w.heap.size) : Below n w w1 :=
  ⟨h.os, h.tape, h.output, h.size, fun k hk => h.block k (by omega) (.inl (by omega))⟩
theorem Mid.row {lo hi : Nat} {w w1 : World} (h : Mid lo hi w w1) {base : Nat} {e : TypeId} {size n : Nat} {v : Value} {xs : List Value} (hr : w.ownsRow base e size v n xs) (ho : ∀ k, v.ownBlock = some k → k < lo ∨ hi ≤ k) : w1.ownsRow base e size v n xs := by
  refine ⟨hr.1, ?_⟩
  rcases hr.2 with hv | ⟨g, cap, cur, rfl, hg, hb, h4⟩
  · exact .inl hv
  · exact .inr ⟨g, cap, cur, rfl, hg, (h.block g (Array.getElem?_eq_some_iff.1 hb).1 (ho g rfl)).trans hb, h4⟩

theorem Mid.four {lo hi : Nat} {w w1 : World} (h : Mid lo hi w w1) {t : TypeId} {k : Nat} {a b c d : Value} (hr : Four w t k a b c d) (ho : k < lo ∨ hi ≤ k) : Four w1 t k a b c d :=
  h.row hr (fun j hj => by simp [Value.ownBlock] at hj; omega)

theorem Mid.app {lo hi : Nat} {w w1 w2 : World} {r : Option Nat} (h : Mid lo hi w w1) (hg : w1.grownBy w2 r) (hr : ∀ k, r = some k → w.heap.size ≤ k) : Mid lo hi w w2 :=
  ⟨hg.os.trans h.os, hg.tape.trans h.tape, hg.output.trans h.output, Nat.le_trans h.size hg.size, fun k hk hn => (hg.block k (Nat.lt_of_lt_of_le hk h.size) (fun e => by have := hr k e.symm; omega)).trans (h.block k hk hn)⟩
theorem Mid.set {lo hi : Nat} {w w1 : World} (h : Mid lo hi w w1) {p : Addr} (hp : lo ≤ p.block) (hp2 : p.block < hi) (u : Value) : Mid lo hi w (w1.setCell p u) :=
  ⟨h.os, h.tape, h.output, by rw [World.size_setCell]; exact h.size, fun k hk hn => (Below.heap_setCell w1 p u k (by omega)).trans (h.block k hk hn)⟩
theorem row_kind {w : World} {B : Nat} {e : TypeId} {size : Nat} {v : Value} {n : Nat} {xs : List Value} (h : w.ownsRow B e size v n xs) : ∀ g, v.ownBlock = some g → ∃ c, w.heap[g]? = some (.cells c e (0, 0)) := by
  intro g hg
  rcases h.2 with ⟨rfl, _⟩ | ⟨g', cap, cur, rfl, _, hgg, _⟩
  · simp [Value.ownBlock] at hg
  · simp [Value.ownBlock] at hg
    subst hg
    exact ⟨cur, hgg⟩
/-- Rows of different kinds lie apart. -/
theorem row_apart {w : World} {b1 b2 : Nat} {e1 e2 : TypeId} {s1 s2 n1 n2 : Nat} {v1 v2 : Value} {x1 x2 : List Value} (h1 : w.ownsRow b1 e1 s1 v1 n1 x1) (h2 : w.ownsRow b2 e2 s2 v2 n2 x2) (hne : e1 ≠ e2) : ∀ k, v1.ownBlock = some k → v2.ownBlock = some k → False := fun k hk1 hk2 => by
  obtain ⟨c1, g1⟩ := row_kind h1 k hk1
  obtain ⟨c2, g2⟩ := row_kind h2 k hk2
  rw [g1] at g2
  injection g2 with g2
  injection g2 with _ g2 _
  exact hne g2

end Go.Proofs.YtallpldgkkpikaaGreatDoor

namespace Go.Proofs.YtallpldgkkpikaaGreatDoor
open Go.RowKit Go.Shelf

abbrev Wk.val (k : Wk) : Value := .agg #[.string k.name, .bool k.live, .int .i64 k.se]
def Wk.fits (k : Wk) : Prop := k.name.size ≤ maxLen
/-- A work lies in memory. -/
def WkAt (w : World) (b o : Nat) (k : Wk) : Prop := w.cell? ⟨b, o, none⟩ = some (.string k.name) ∧ w.cell? ⟨b, o + 1, none⟩ = some (.bool k.live) ∧ w.cell? ⟨b, o + 2, none⟩ = some (.int .i64 k.se)
/-- A slice reads as this list of works. -/
def WkS (w : World) (v : Value) (ks : List Wk) : Prop :=
  (∃ a cap, v = .slice a 0 cap ∧ ks = []) ∨
  ∃ b off cap, v = .slice (some ⟨b, off, none⟩) ks.length cap ∧ b < w.heap.size ∧ ks.length ≤ cap ∧ ∀ i (h : i < ks.length), WkAt w b (off + i * 3) ks[i]
theorem WkAt.below {w w' : World} {b o : Nat} {k : Wk} (h : WkAt w b o k) (hb : b < w.heap.size) (hB : Below w.heap.size w w') : WkAt w' b o k :=
  ⟨(hB.cell (p := ⟨b, o, none⟩) hb).trans h.1, (hB.cell (p := ⟨b, o + 1, none⟩) hb).trans h.2.1, (hB.cell (p := ⟨b, o + 2, none⟩) hb).trans h.2.2⟩
theorem WkS.below {w w' : World} {v : Value} {ks : List Wk} (h : WkS w v ks) (hB : Below w.heap.size w w') : WkS w' v ks := by
  rcases h with h | ⟨b, off, cap, hv, hb, hl, hc⟩
  · exact .inl h
  · exact .inr ⟨b, off, cap, hv, Nat.lt_of_lt_of_le hb hB.size, hl, fun k hk => (hc k hk).below hb hB⟩
theorem WkS.len {w : World} {v : Value} {ks : List Wk} (h : WkS w v ks) : ∃ a cap, v = .slice a ks.length cap := by
  rcases h with ⟨a, cap, hv, rfl⟩ | ⟨b, off, cap, hv, _⟩
  · exact ⟨a, cap, hv⟩
  · exact ⟨_, cap, hv⟩
theorem WkS.at {w : World} {a : Option Addr} {n cap : Nat} {ks : List Wk} (h : WkS w (.slice a n cap) ks) {i : Nat} (hi : i < ks.length) : ∃ b off, a = some ⟨b, off, none⟩ ∧ b < w.heap.size ∧ n ≤ cap ∧ WkAt w b (off + i * 3) ks[i] := by
  rcases h with ⟨_, _, _, rfl⟩ | ⟨b, off, cap, hv, hb, hl, hc⟩
  · simp at hi
  · cases hv
    exact ⟨b, off, rfl, hb, hl, hc i hi⟩

/-- An issuer in memory: its lists read as these. -/
structure IsA (w : World) (v : Value) (s : Is) : Prop where
  mk ::
  parts : ∃ vw vr vs, v = .agg #[vw, .int .i64 s.nx, vr, vs] ∧ WkS w vw s.ws ∧ VS w vr (nums s.rv) ∧ VS w vs (strs s.sg)
theorem IsA.below {w w' : World} {v : Value} {s : Is} (h : IsA w v s) (hB : Below w.heap.size w w') : IsA w' v s := by
  obtain ⟨vw, vr, vs, rfl, h1, h2, h3⟩ := h.parts
  exact ⟨_, _, _, rfl, h1.below hB, h2.below hB, h3.below hB⟩
def Is.fits (s : Is) : Prop := s.ws.length ≤ maxLen ∧ (∀ k ∈ s.ws, k.fits) ∧ s.rv.length ≤ maxLen ∧ s.sg.length ≤ maxLen ∧ ∀ x ∈ s.sg, x.size ≤ maxLen

def wzTo (ks : List Wk) (n : Nat) : Nat := ((ks.take n).map (fun k => k.name.size)).sum
def wzAll (ks : List Wk) : Nat := ks.length + wzTo ks ks.length
theorem wzTo_zero (ks : List Wk) : wzTo ks 0 = 0 := by simp [wzTo]
theorem wzTo_succ {ks : List Wk} {n : Nat} (h : n < ks.length) : wzTo ks (n + 1) = wzTo ks n + ks[n].name.size := by
  unfold wzTo
  rw [List.take_succ_eq_append_getElem h, List.map_append, List.sum_append]
  simp
theorem wzTo_le (ks : List Wk) (n : Nat) : wzTo ks n ≤ wzTo ks ks.length := by
  unfold wzTo
  rw [List.take_length]
  conv => rhs; rw [← List.take_append_drop n ks, List.map_append, List.sum_append]
  omega
theorem wz_mem {ks : List Wk} {k : Wk} (h : k ∈ ks) : k.name.size ≤ wzTo ks ks.length := by
  unfold wzTo
  rw [List.take_length]
  exact sum_mem (List.mem_map.2 ⟨k, h, rfl⟩)
def leftW (n : Int) (ks : List Wk) : Int := if (wzAll ks : Int) ≤ n then n - wzAll ks else -1
/-- What the laws count of an issuer. -/
def Is.size (s : Is) : Nat := wzAll s.ws + s.rv.length + tzAll s.sg
def leftI (n : Int) (s : Is) : Int := if (s.size : Int) ≤ n then n - s.size else -1

abbrev Wk.cells (k : Wk) : List Value := [.string k.name, .bool k.live, .int .i64 k.se]
theorem wflat_len (ks : List Wk) : (ks.flatMap Wk.cells).length = ks.length * 3 := by
  induction ks with
  | nil => rfl
  | cons r rs ih => rw [List.flatMap_cons, List.length_append, ih]; simp; omega
theorem wflat_at (rs : List Wk) : ∀ (k j : Nat) (h : k < rs.length), j < 3 → (rs.flatMap Wk.cells)[k * 3 + j]? = rs[k].cells[j]? := by
  induction rs with
  | nil => intro k j h; simp at h
  | cons r rs ih =>
    intro k j h hj
    rw [List.flatMap_cons]
    cases k with
    | zero => rw [List.getElem?_append_left (by simp; omega)]; simp
    | succ k =>
      rw [List.getElem?_append_right (by simp; omega)]
      have := ih k j (by simpa using h) hj
      rw [show (k + 1) * 3 + j - r.cells.length = k * 3 + j by simp; omega]
      simpa using this
/-- A slice of works of one's own reads as its list. -/
theorem WkS.own {w : World} {base : Nat} {v : Value} {rs : List Wk} (h : w.ownsRow base 64 3 v rs.length (rs.flatMap Wk.cells)) : WkS w v rs := by
  rcases h.2 with ⟨rfl, h0⟩ | ⟨g, cap, cur, rfl, hg, hb, hle, _⟩
  · exact .inl ⟨none, 0, rfl, List.eq_nil_of_length_eq_zero h0⟩
  · refine .inr ⟨g, 0, cap, rfl, (Array.getElem?_eq_some_iff.1 hb).1, hle, fun k hk => ?_⟩
    have hc : ∀ j, j < 3 → w.cell? ⟨g, k * 3 + j, none⟩ = rs[k].cells[j]? := fun j hj => by rw [h.cellAt (k * 3 + j) (by omega), wflat_at rs k j hk hj]
    have h0 := hc 0 (by omega)
    have h1 := hc 1 (by omega)
    have h2 := hc 2 (by omega)
    simp only [Nat.add_zero, List.getElem?_cons_zero, List.getElem?_cons_succ] at h0 h1 h2
    exact ⟨by rw [Nat.zero_add]; exact h0, by rw [Nat.zero_add]; exact h1, by rw [Nat.zero_add]; exact h2⟩
theorem infoWork : (Tryz.prog.info? 64).map (fun i => (i.zero, i.size, i.bytes)) = some (some (.agg #[.string ByteArray.empty, .bool false, .int .i64 0]), 3, 32) := by kernel_rfl

end Go.Proofs.YtallpldgkkpikaaGreatDoor

namespace Go.Proofs.YtallpldgkkpikaaGreatDoor
open Go.RowKit Go.Shelf

/-- No list of an issuer is longer than the laws take. -/
def Is.short (s : Is) : Prop := s.ws.length ≤ 1048577 ∧ s.rv.length ≤ 1048577 ∧ s.sg.length ≤ 1048577

/-- An issuer of one's own: its lists lie in blocks from base on, below top. -/
def IsO (w : World) (base top : Nat) (v : Value) (s : Is) : Prop :=
  ∃ vw vr vs, v = .agg #[vw, .int .i64 s.nx, vr, vs] ∧ w.ownsRow base 64 3 vw s.ws.length (s.ws.flatMap Wk.cells) ∧ w.ownsRow base 3 1 vr s.rv.length (nums s.rv) ∧ w.ownsRow base 9 1 vs s.sg.length (strs s.sg) ∧ (∀ k, vw.ownBlock = some k → k < top) ∧ (∀ k, vr.ownBlock = some k → k < top) ∧ ∀ k, vs.ownBlock = some k → k < top
theorem IsO.a {w : World} {base top : Nat} {v : Value} {s : Is} (h : IsO w base top v s) : IsA w v s := by
  obtain ⟨vw, vr, vs, rfl, h1, h2, h3, _⟩ := h
  exact ⟨vw, vr, vs, rfl, WkS.own h1, VS.ownN h2, VS.ownS h3⟩
theorem IsO.below {w w' : World} {base top : Nat} {v : Value} {s : Is} (h : IsO w base top v s) (hB : Below w.heap.size w w') : IsO w' base top v s := by
  obtain ⟨vw, vr, vs, rfl, h1, h2, h3, t1, t2, t3⟩ := h
  exact ⟨vw, vr, vs, rfl, ownsRow_below h1 hB, ownsRow_below h2 hB, ownsRow_below h3 hB, t1, t2, t3⟩
theorem IsO.of {w : World} {base : Nat} {vw vr vs : Value} {s : Is} (h1 : w.ownsRow base 64 3 vw s.ws.length (s.ws.flatMap Wk.cells)) (h2 : w.ownsRow base 3 1 vr s.rv.length (nums s.rv)) (h3 : w.ownsRow base 9 1 vs s.sg.length (strs s.sg)) : IsO w base w.heap.size (.agg #[vw, .int .i64 s.nx, vr, vs]) s :=
  ⟨vw, vr, vs, rfl, h1, h2, h3, fun k hk => (h1.lt k hk).2, fun k hk => (h2.lt k hk).2, fun k hk => (h3.lt k hk).2⟩
theorem IsO.mono {w : World} {base base' top top' : Nat} {v : Value} {s : Is} (h : IsO w base top v s) (hb : base' ≤ base) (ht : top ≤ top') : IsO w base' top' v s := by
  obtain ⟨vw, vr, vs, rfl, h1, h2, h3, t1, t2, t3⟩ := h
  exact ⟨vw, vr, vs, rfl, Go.Joins.ownsRow_le h1 hb, Go.Joins.ownsRow_le h2 hb, Go.Joins.ownsRow_le h3 hb, fun k hk => Nat.lt_of_lt_of_le (t1 k hk) ht, fun k hk => Nat.lt_of_lt_of_le (t2 k hk) ht, fun k hk => Nat.lt_of_lt_of_le (t3 k hk) ht⟩

end Go.Proofs.YtallpldgkkpikaaGreatDoor

namespace Go.Proofs.YtallpldgkkpikaaGreatDoor
open Go.RowKit Go.Extern.Stop Go.Stop Go.Extern

/-- A sentinel's value, and a refusal that holds it. -/
abbrev eV (a : Addr) : Value := .iface 182 (.pointer (some a))
abbrev rV (a : Addr) : Value := .iface 105 (.agg #[eV a])

theorem Tryz.isTypeOf (v : Value) (w : World) : (Extern.ReflectliteType.typeOf #[.iface 182 v]).run Tryz.prog w = .ok (.iface 150 (.agg #[.pointer (some ⟨9, 182, none⟩)])) w := by kernel_rfl
/-- The model's entry for a function of the library's. -/
def extE (f : Func) : Array Value → Sem Value := (Extern.find f).getD (fun _ => pure .nilIface)
theorem Tryz.isComparable (w : World) : (extE Tryz.f147 #[.agg #[.pointer (some ⟨9, 182, none⟩)]]).run Tryz.prog w = .ok (.bool true) w := by kernel_rfl
theorem Tryz.isMethodComparable (v : Value) (w : World) : (Go.method 312 150 v "Comparable").run Tryz.prog w = .ok (147, v) w := by kernel_rfl
theorem Tryz.isComp : (Tryz.prog.info? 182).map (·.comparable) = some true := by kernel_rfl
theorem Tryz.isSize : (Tryz.prog.info? 200).map (·.size) = some 1 := by kernel_rfl
theorem Tryz.noIsE (v : Value) (xT : TypeId) (w : World) : (Instr.typeAssert (.iface 182 v) xT 162 true).run Tryz.prog w = .ok (.tuple #[.nilIface, .bool false]) w := run_typeAssert_lacksB Tryz.underlying162 (by kernel_rfl) (by kernel_rfl) v xT w
theorem Tryz.noUnwrapE (v : Value) (xT : TypeId) (w : World) : (Instr.typeAssert (.iface 182 v) xT 157 true).run Tryz.prog w = .ok (.tuple #[.nilIface, .bool false]) w := run_typeAssert_lacksB Tryz.underlying157 (by kernel_rfl) (by kernel_rfl) v xT w
theorem Tryz.noUnwrapsE (v : Value) (xT : TypeId) (w : World) : (Instr.typeAssert (.iface 182 v) xT 159 true).run Tryz.prog w = .ok (.tuple #[.nilIface, .bool false]) w := run_typeAssert_lacksB Tryz.underlying159 (by kernel_rfl) (by kernel_rfl) v xT w
theorem Tryz.noIsR (v : Value) (xT : TypeId) (w : World) : (Instr.typeAssert (.iface 105 v) xT 162 true).run Tryz.prog w = .ok (.tuple #[.nilIface, .bool false]) w := run_typeAssert_lacksB Tryz.underlying162 (by kernel_rfl) (by kernel_rfl) v xT w
theorem Tryz.hasUnwrapR (v : Value) (xT : TypeId) (w : World) : (Instr.typeAssert (.iface 105 v) xT 157 true).run Tryz.prog w = .ok (.tuple #[.iface 105 v, .bool true]) w := run_typeAssert_hasB Tryz.underlying157 (by kernel_rfl) v xT w
theorem Tryz.methodUnwrap (v : Value) (w : World) : (Go.method 312 105 v "Unwrap").run Tryz.prog w = .ok (140, v) w := by kernel_rfl

theorem unwrap_any (x : Value) (w : World) :
    Calls Tryz.prog 140 #[.agg #[x]] w fun e w' => e = .returned x ∧ w' = w.alloc (.cells #[x] 105) := by
  go_enter Tryz.func140, Tryz.ntmps140
  go_wp2
  go_ret
  exact ⟨rfl, rfl⟩

/-- A sentinel is itself. -/
theorem is_same (a : Addr) (w : World) :
    Calls Tryz.prog 69 #[eV a, eV a] w fun e w' => e = .returned (.bool true) ∧ w' = w := by
  obtain ⟨i, hi, hcmp⟩ := Option.map_eq_some_iff.1 Tryz.isComp
  obtain ⟨j, hj, hjs⟩ := Option.map_eq_some_iff.1 Tryz.isSize
  have h8 := @run_callFunc_extern Tryz.prog 92 _ Extern.ReflectliteType.typeOf Tryz.func92 (by kernel_rfl) (by kernel_rfl) (by kernel_rfl) (by kernel_rfl)
  have h32 := @run_callFunc_extern Tryz.prog 147 _ (extE Tryz.f147) Tryz.func147 (by kernel_rfl) (by kernel_rfl) (by kernel_rfl) (by kernel_rfl)
  have tT := Tryz.isTypeOf
  have cT := Tryz.isComparable
  have mR := Tryz.isMethodComparable
  have heq := run_eql_iface_ptr_same (P := Tryz.prog) w a Tryz.underlying54 Tryz.underlying182 hi hcmp hj
  go_enter Tryz.func69, Tryz.ntmps69
  go_wp2
  refine wp_loop_rounds 1 ?_
  rw [rounds_succ]
  go_wp2
  go_ret
  exact ⟨rfl, rfl⟩

/-- A sentinel is no other. -/
theorem is_other (a b : Addr) (ca cb : Array Value) (ta tb : TypeId) (w : World) (hne : a ≠ b) (ha : w.heap[a.block]? = some (.cells ca ta (0, 0))) (hb : w.heap[b.block]? = some (.cells cb tb (0, 0))) :
    Calls Tryz.prog 69 #[eV a, eV b] w fun e w' => e = .returned (.bool false) ∧ w' = w := by
  obtain ⟨i, hi, hcmp⟩ := Option.map_eq_some_iff.1 Tryz.isComp
  obtain ⟨j, hj, hjs⟩ := Option.map_eq_some_iff.1 Tryz.isSize
  have h8 := @run_callFunc_extern Tryz.prog 92 _ Extern.ReflectliteType.typeOf Tryz.func92 (by kernel_rfl) (by kernel_rfl) (by kernel_rfl) (by kernel_rfl)
  have h32 := @run_callFunc_extern Tryz.prog 147 _ (extE Tryz.f147) Tryz.func147 (by kernel_rfl) (by kernel_rfl) (by kernel_rfl) (by kernel_rfl)
  have tT := Tryz.isTypeOf
  have cT := Tryz.isComparable
  have mR := Tryz.isMethodComparable
  have nE := Tryz.noIsE
  have uE := Tryz.noUnwrapE
  have vE := Tryz.noUnwrapsE
  have heq := run_eql_iface_ptr_other (P := Tryz.prog) w Tryz.underlying54 Tryz.underlying182 hi hcmp hj (by rw [hjs]; decide) hne ha hb
  go_enter Tryz.func69, Tryz.ntmps69
  go_wp2
  refine wp_loop_rounds 1 ?_
  rw [rounds_succ]
  go_wp2
  go_ret
  exact ⟨rfl, rfl⟩

/-- A refusal is what it holds. -/
theorem is_ref_same (b : Addr) (w : World) :
    Calls Tryz.prog 69 #[rV b, eV b] w fun e w' => e = .returned (.bool true) ∧ w' = w.alloc (.cells #[eV b] 105) := by
  obtain ⟨i, hi, hcmp⟩ := Option.map_eq_some_iff.1 Tryz.isComp
  obtain ⟨j, hj, hjs⟩ := Option.map_eq_some_iff.1 Tryz.isSize
  have h8 := @run_callFunc_extern Tryz.prog 92 _ Extern.ReflectliteType.typeOf Tryz.func92 (by kernel_rfl) (by kernel_rfl) (by kernel_rfl) (by kernel_rfl)
  have h32 := @run_callFunc_extern Tryz.prog 147 _ (extE Tryz.f147) Tryz.func147 (by kernel_rfl) (by kernel_rfl) (by kernel_rfl) (by kernel_rfl)
  have tT := Tryz.isTypeOf
  have cT := Tryz.isComparable
  have mR := Tryz.isMethodComparable
  have nR := Tryz.noIsR
  have uR := Tryz.hasUnwrapR
  have mU := Tryz.methodUnwrap
  have heq := run_eql_iface_ptr_same (P := Tryz.prog) (w.alloc (.cells #[eV b] 105)) b Tryz.underlying54 Tryz.underlying182 hi hcmp hj
  have hty := run_eql_iface_types (P := Tryz.prog) 105 182 (.agg #[eV b]) (.pointer (some b)) Tryz.underlying54 (by decide) w
  go_enter Tryz.func69, Tryz.ntmps69
  go_wp2
  refine wp_loop_rounds 2 ?_
  rw [rounds_succ]
  go_wp2_with (go_at_call 140; refine (unwrap_any _ _).mono ?_; rintro e w1 ⟨rfl, rfl⟩)
  rw [rounds_succ]
  go_wp2
  go_ret
  exact ⟨rfl, rfl⟩

/-- A refusal is no other than what it holds. -/
theorem is_ref_other (a b : Addr) (ca cb : Array Value) (ta tb : TypeId) (w : World) (hne : a ≠ b) (ha : w.heap[a.block]? = some (.cells ca ta (0, 0))) (hb : w.heap[b.block]? = some (.cells cb tb (0, 0))) :
    Calls Tryz.prog 69 #[rV a, eV b] w fun e w' => e = .returned (.bool false) ∧ w' = w.alloc (.cells #[eV a] 105) := by
  obtain ⟨i, hi, hcmp⟩ := Option.map_eq_some_iff.1 Tryz.isComp
  obtain ⟨j, hj, hjs⟩ := Option.map_eq_some_iff.1 Tryz.isSize
  have h8 := @run_callFunc_extern Tryz.prog 92 _ Extern.ReflectliteType.typeOf Tryz.func92 (by kernel_rfl) (by kernel_rfl) (by kernel_rfl) (by kernel_rfl)
  have h32 := @run_callFunc_extern Tryz.prog 147 _ (extE Tryz.f147) Tryz.func147 (by kernel_rfl) (by kernel_rfl) (by kernel_rfl) (by kernel_rfl)
  have tT := Tryz.isTypeOf
  have cT := Tryz.isComparable
  have mR := Tryz.isMethodComparable
  have nR := Tryz.noIsR
  have uR := Tryz.hasUnwrapR
  have mU := Tryz.methodUnwrap
  have nE := Tryz.noIsE
  have uE := Tryz.noUnwrapE
  have vE := Tryz.noUnwrapsE
  have hB : Below w.heap.size w (w.alloc (.cells #[eV a] 105)) := (Below.refl _ w).alloc (Nat.le_refl _) _
  have heq := run_eql_iface_ptr_other (P := Tryz.prog) (w.alloc (.cells #[eV a] 105)) Tryz.underlying54 Tryz.underlying182 hi hcmp hj (by rw [hjs]; decide) hne ((hB.block _ (Array.getElem?_eq_some_iff.1 ha).1).trans ha) ((hB.block _ (Array.getElem?_eq_some_iff.1 hb).1).trans hb)
  have hty := run_eql_iface_types (P := Tryz.prog) 105 182 (.agg #[eV a]) (.pointer (some b)) Tryz.underlying54 (by decide) w
  go_enter Tryz.func69, Tryz.ntmps69
  go_wp2
  refine wp_loop_rounds 2 ?_
  rw [rounds_succ]
  go_wp2_with (go_at_call 140; refine (unwrap_any _ _).mono ?_; rintro e w1 ⟨rfl, rfl⟩)
  rw [rounds_succ]
  go_wp2
  go_ret
  exact ⟨rfl, rfl⟩

end Go.Proofs.YtallpldgkkpikaaGreatDoor

namespace Go.Proofs.YtallpldgkkpikaaGreatDoor
open Go.RowKit Go.Extern.Stop Go.Stop Go.Extern

/-- The value that reflectlite makes of a pointer to a refusal. -/
abbrev tgV (a : Addr) : Value := .agg #[.pointer (some ⟨9, 107, none⟩), .pointer (some a), .int .u64 150]
abbrev typ (t : TypeId) : Value := .agg #[.pointer (some ⟨9, t, none⟩)]
theorem Tryz.asValueOf (t : Addr) (w : World) : (ReflectliteValue.unpack (.iface 107 (.pointer (some t)))).run Tryz.prog w = .ok (tgV ⟨w.heap.size, 0, none⟩) (w.alloc (.cells #[.pointer (some t)] 107)) := by kernel_rfl
theorem Tryz.asType (a : Addr) (w : World) : (extE Tryz.f89 #[tgV a]).run Tryz.prog w = .ok (.iface 150 (typ 107)) w := by kernel_rfl
theorem Tryz.asMethodKind (h : Value) (w : World) : (Go.method 312 150 (.agg #[h]) "Kind").run Tryz.prog w = .ok (136, h) w := by kernel_rfl
theorem Tryz.asMethodElem (h : Value) (w : World) : (Go.method 312 150 (.agg #[h]) "Elem").run Tryz.prog w = .ok (148, .agg #[h]) w := by kernel_rfl
theorem Tryz.asMethodImplements (h : Value) (w : World) : (Go.method 312 150 (.agg #[h]) "Implements").run Tryz.prog w = .ok (149, .agg #[h]) w := by kernel_rfl
theorem Tryz.asMethodAssignable (h : Value) (w : World) : (Go.method 312 150 (.agg #[h]) "AssignableTo").run Tryz.prog w = .ok (146, .agg #[h]) w := by kernel_rfl
theorem Tryz.asKindP (w : World) : (extE Tryz.f136 #[.pointer (some ⟨9, 107, none⟩)]).run Tryz.prog w = .ok (.int .u8 22) w := by kernel_rfl
theorem Tryz.asKindR (w : World) : (extE Tryz.f136 #[.pointer (some ⟨9, 105, none⟩)]).run Tryz.prog w = .ok (.int .u8 25) w := by kernel_rfl
theorem Tryz.asElem (w : World) : (extE Tryz.f148 #[typ 107]).run Tryz.prog w = .ok (.iface 150 (typ 105)) w := by kernel_rfl
theorem Tryz.asImplements (w : World) : (extE Tryz.f149 #[typ 105, .iface 150 (typ 54)]).run Tryz.prog w = .ok (.bool true) w := by kernel_rfl
theorem Tryz.asTypeOfR (v : Value) (w : World) : (extE Tryz.f92 #[.iface 105 v]).run Tryz.prog w = .ok (.iface 150 (typ 105)) w := by kernel_rfl
theorem Tryz.asTypeOfE (v : Value) (w : World) : (extE Tryz.f92 #[.iface 182 v]).run Tryz.prog w = .ok (.iface 150 (typ 182)) w := by kernel_rfl
theorem Tryz.asAssignR (w : World) : (extE Tryz.f146 #[typ 105, .iface 150 (typ 105)]).run Tryz.prog w = .ok (.bool true) w := by kernel_rfl
theorem Tryz.asAssignE (w : World) : (extE Tryz.f146 #[typ 182, .iface 150 (typ 105)]).run Tryz.prog w = .ok (.bool false) w := by kernel_rfl
theorem Tryz.asValueOfR (x : Value) (w : World) : (ReflectliteValue.unpack (.iface 105 (.agg #[x]))).run Tryz.prog w = .ok (.agg #[.pointer (some ⟨9, 105, none⟩), .pointer (some ⟨w.heap.size, 0, none⟩), .int .u64 153]) (w.alloc (.cells #[x] 105)) := by kernel_rfl
theorem Tryz.noAsE (v : Value) (xT : TypeId) (w : World) : (Instr.typeAssert (.iface 182 v) xT 154 true).run Tryz.prog w = .ok (.tuple #[.nilIface, .bool false]) w := run_typeAssert_lacksB Tryz.underlying154 (by kernel_rfl) (by kernel_rfl) v xT w

theorem rl_method (z : Sem Value) (f : TypeId → Addr → Nat → Nat → Sem Value) (v : Value) :
    ReflectliteValue.method z f #[v] = (ReflectliteValue.parts v >>= fun o => match o with | none => z | some (t, a, fl) => f t a fl (fl % 32)) := rfl
theorem Tryz.asParts (a : Addr) (w : World) : (ReflectliteValue.parts (tgV a)).run Tryz.prog w = .ok (some (107, a, 150)) w := by kernel_rfl
theorem Tryz.asIsNil (a p : Addr) (W : World) (ha : W.cell? a = some (.pointer (some p))) :
    (ReflectliteValue.method (ReflectliteValue.valueError "reflectlite.Value.IsNil" 0) ReflectliteValue.isNil #[tgV a]).run Tryz.prog W = .ok (.bool false) W := by
  rw [rl_method]
  simp only [Sem.run_bind, Tryz.asParts, Result.andThen]
  simp [ReflectliteValue.isNil, loadVar, isAgg, underlying, Tryz.underlying107, ha, Result.andThen]
theorem Tryz.asElemOf (w : World) : (Rtype.elem? 107).run Tryz.prog w = .ok (some 105) w := by kernel_rfl
theorem Tryz.asMk (p : Addr) (w : World) : (ReflectliteValue.mk 105 p ReflectliteValue.flagAddr).run Tryz.prog w = .ok (.agg #[.pointer (some ⟨9, 105, none⟩), .pointer (some p), .int .u64 409]) w := by kernel_rfl
theorem Tryz.asElemV (a p : Addr) (W : World) (ha : W.cell? a = some (.pointer (some p))) :
    (ReflectliteValue.method (ReflectliteValue.valueError "reflectlite.Value.Elem" 0) ReflectliteValue.elem #[tgV a]).run Tryz.prog W
      = .ok (.agg #[.pointer (some ⟨9, 105, none⟩), .pointer (some p), .int .u64 409]) W := by
  rw [rl_method]
  simp only [Sem.run_bind, Tryz.asParts, Result.andThen]
  simp [ReflectliteValue.elem, loadVar, isAgg, underlying, Tryz.underlying107, ha, Result.andThen, Tryz.asElemOf, Tryz.asMk]
theorem Tryz.asPartsA (a : Addr) (w : World) : (ReflectliteValue.parts (.agg #[.pointer (some ⟨9, 105, none⟩), .pointer (some a), .int .u64 409])).run Tryz.prog w = .ok (some (105, a, 409)) w := by kernel_rfl
theorem Tryz.asPartsB (a : Addr) (w : World) : (ReflectliteValue.parts (.agg #[.pointer (some ⟨9, 105, none⟩), .pointer (some a), .int .u64 153])).run Tryz.prog w = .ok (some (105, a, 153)) w := by kernel_rfl
theorem Tryz.asDirect (w : World) : (Rtype.directlyAssignable 105 105).run Tryz.prog w = .ok true w := by kernel_rfl
theorem Tryz.asSize (w : World) : (sizeOf 105).run Tryz.prog w = .ok 1 w := by kernel_rfl
theorem Tryz.asSet (ta b : Addr) (x old : Value) (W : World) (hx : x.oneCell' = true) (hb : W.cell? b = some x) (ht : W.cell? ta = some old) (hf : W.frozen? ta = false) :
    (ReflectliteValue.set #[.agg #[.pointer (some ⟨9, 105, none⟩), .pointer (some ta), .int .u64 409], .agg #[.pointer (some ⟨9, 105, none⟩), .pointer (some b), .int .u64 153]]).run Tryz.prog W
      = .ok (.tuple #[]) (W.setCell ta x) := by
  have hA := Tryz.asPartsA ta W
  have hB := Tryz.asPartsB b W
  generalize (.agg #[.pointer (some ⟨9, 105, none⟩), .pointer (some ta), .int .u64 409] : Value) = v at *
  generalize (.agg #[.pointer (some ⟨9, 105, none⟩), .pointer (some b), .int .u64 153] : Value) = u at *
  change Sem.run Tryz.prog (ReflectliteValue.parts v >>= _) W = _
  rw [Sem.run_bind, hA]
  simp only [Result.andThen]
  change Sem.run Tryz.prog (ReflectliteValue.parts u >>= _) W = _
  rw [Sem.run_bind, hB]
  simp [ReflectliteValue.flagAddr, loadVar, isAgg, underlying, Tryz.underlying105, Result.andThen, Tryz.asDirect, storeVar, Value.cells]
  rw [show (1 : Nat) = [x].length from rfl, run_loadCells_list W b [x] (fun j y hj => by
    obtain rfl : j = 0 := by have := (List.getElem?_eq_some_iff.1 hj).1; simpa using this
    simp at hj
    subst hj
    simpa [Addr.add] using hb)]
  simp [storeCells]
  rw [show ta.add 0 = ta from rfl, run_store Tryz.prog W ta x _ (by cases x <;> first | rfl | cases hx)]
  simp [ht, hf]

end Go.Proofs.YtallpldgkkpikaaGreatDoor

namespace Go.Proofs.YtallpldgkkpikaaGreatDoor
open Go.RowKit Go.Extern.Stop Go.Stop Go.Extern

theorem blk_lt {w : World} {a : Addr} {v : Value} (h : w.cell? a = some v) : a.block < w.heap.size := by
  rcases Nat.lt_or_ge a.block w.heap.size with h1 | h1
  · exact h1
  · simp only [World.cell?, Array.getElem?_eq_none h1] at h
    cases h
theorem grown_set {w W : World} (hB : Below w.heap.size w W) (t : Addr) (x : Value) : w.grownBy (W.setCell t x) (some t.block) :=
  ⟨hB.os, hB.tape, hB.output, by simpa [World.setCell] using hB.size, fun k hk hne => (Below.heap_setCell W t x k (fun e => hne (by rw [e]))).trans (hB.block k hk)⟩

set_option maxHeartbeats 4000000 in
/-- A sentinel is no refusal. -/
theorem as_miss (a t : Addr) (w : World) (hg : w.cell? ⟨4, 0, none⟩ = some (.iface 150 (typ 54))) :
    Calls Tryz.prog 65 #[eV a, .iface 107 (.pointer (some t))] w fun e w' => e = .returned (.bool false) ∧ Below w.heap.size w w' := by
  have h6 := @run_callFunc_extern Tryz.prog 88 _ (fun args => ReflectliteValue.unpack (args.getD 0 (.tuple #[]))) Tryz.func88 (by kernel_rfl) (by kernel_rfl) (by kernel_rfl) (by kernel_rfl)
  have h7 := @run_callFunc_extern Tryz.prog 89 _ (extE Tryz.f89) Tryz.func89 (by kernel_rfl) (by kernel_rfl) (by kernel_rfl) (by kernel_rfl)
  have h8 := @run_callFunc_extern Tryz.prog 90 _ (ReflectliteValue.method (ReflectliteValue.valueError "reflectlite.Value.IsNil" 0) ReflectliteValue.isNil) Tryz.func90 (by kernel_rfl) (by kernel_rfl) (by kernel_rfl) (by kernel_rfl)
  have h27 := @run_callFunc_extern Tryz.prog 136 _ (extE Tryz.f136) Tryz.func136 (by kernel_rfl) (by kernel_rfl) (by kernel_rfl) (by kernel_rfl)
  have h37 := @run_callFunc_extern Tryz.prog 148 _ (extE Tryz.f148) Tryz.func148 (by kernel_rfl) (by kernel_rfl) (by kernel_rfl) (by kernel_rfl)
  have h38 := @run_callFunc_extern Tryz.prog 149 _ (extE Tryz.f149) Tryz.func149 (by kernel_rfl) (by kernel_rfl) (by kernel_rfl) (by kernel_rfl)
  have h10 := @run_callFunc_extern Tryz.prog 92 _ (extE Tryz.f92) Tryz.func92 (by kernel_rfl) (by kernel_rfl) (by kernel_rfl) (by kernel_rfl)
  have h35 := @run_callFunc_extern Tryz.prog 146 _ (extE Tryz.f146) Tryz.func146 (by kernel_rfl) (by kernel_rfl) (by kernel_rfl) (by kernel_rfl)
  have f6 := Tryz.asValueOf
  have f7 := Tryz.asType
  have mK := Tryz.asMethodKind
  have mE := Tryz.asMethodElem
  have mI := Tryz.asMethodImplements
  have mA := Tryz.asMethodAssignable
  have kP := Tryz.asKindP
  have kR := Tryz.asKindR
  have eP := Tryz.asElem
  have iR := Tryz.asImplements
  have tE := Tryz.asTypeOfE
  have aE := Tryz.asAssignE
  have nA := Tryz.noAsE
  have uE := Tryz.noUnwrapE
  have vE := Tryz.noUnwrapsE
  have n8 := Tryz.asIsNil ⟨w.heap.size, 0, none⟩ t ((w.alloc (.cells #[.pointer (some t)] 107)).alloc (.cells #[.pointer (some ⟨9, 107, none⟩), .pointer (some ⟨w.heap.size, 0, none⟩), .int .u64 150] 134)) (by simp)
  have hlt : 4 < w.heap.size := blk_lt hg
  have hg2 : ((w.alloc (.cells #[.pointer (some t)] 107)).alloc (.cells #[.pointer (some ⟨9, 107, none⟩), .pointer (some ⟨w.heap.size, 0, none⟩), .int .u64 150] 134)).cell? ⟨4, 0, none⟩ = some (.iface 150 (typ 54)) := by
    rw [World.cell?_alloc_lt _ _ ⟨4, 0, none⟩ (by simp; omega), World.cell?_alloc_lt _ _ ⟨4, 0, none⟩ hlt]; exact hg
  go_enter Tryz.func65, Tryz.ntmps65
  go_wp2
  refine wp_loop_rounds 1 ?_
  rw [rounds_succ]
  go_wp2
  go_ret
  exact ⟨rfl, (((Below.refl _ w).alloc (Nat.le_refl _) _).alloc (by simp) _).alloc (by simp; omega) _⟩

set_option maxHeartbeats 4000000 in
/-- A refusal is one, and is laid where it is asked for. -/
theorem as_hit (a t : Addr) (old : Value) (w : World) (hg : w.cell? ⟨4, 0, none⟩ = some (.iface 150 (typ 54))) (ht0 : w.cell? t = some old) (hf0 : w.frozen? t = false) :
    Calls Tryz.prog 65 #[rV a, .iface 107 (.pointer (some t))] w fun e w' => e = .returned (.bool true) ∧ w.grownBy w' (some t.block) := by
  have h6 := @run_callFunc_extern Tryz.prog 88 _ (fun args => ReflectliteValue.unpack (args.getD 0 (.tuple #[]))) Tryz.func88 (by kernel_rfl) (by kernel_rfl) (by kernel_rfl) (by kernel_rfl)
  have h7 := @run_callFunc_extern Tryz.prog 89 _ (extE Tryz.f89) Tryz.func89 (by kernel_rfl) (by kernel_rfl) (by kernel_rfl) (by kernel_rfl)
  have h8 := @run_callFunc_extern Tryz.prog 90 _ (ReflectliteValue.method (ReflectliteValue.valueError "reflectlite.Value.IsNil" 0) ReflectliteValue.isNil) Tryz.func90 (by kernel_rfl) (by kernel_rfl) (by kernel_rfl) (by kernel_rfl)
  have h27 := @run_callFunc_extern Tryz.prog 136 _ (extE Tryz.f136) Tryz.func136 (by kernel_rfl) (by kernel_rfl) (by kernel_rfl) (by kernel_rfl)
  have h37 := @run_callFunc_extern Tryz.prog 148 _ (extE Tryz.f148) Tryz.func148 (by kernel_rfl) (by kernel_rfl) (by kernel_rfl) (by kernel_rfl)
  have h38 := @run_callFunc_extern Tryz.prog 149 _ (extE Tryz.f149) Tryz.func149 (by kernel_rfl) (by kernel_rfl) (by kernel_rfl) (by kernel_rfl)
  have h10 := @run_callFunc_extern Tryz.prog 92 _ (extE Tryz.f92) Tryz.func92 (by kernel_rfl) (by kernel_rfl) (by kernel_rfl) (by kernel_rfl)
  have h35 := @run_callFunc_extern Tryz.prog 146 _ (extE Tryz.f146) Tryz.func146 (by kernel_rfl) (by kernel_rfl) (by kernel_rfl) (by kernel_rfl)
  have f6 := Tryz.asValueOf
  have f7 := Tryz.asType
  have mK := Tryz.asMethodKind
  have mE := Tryz.asMethodElem
  have mI := Tryz.asMethodImplements
  have mA := Tryz.asMethodAssignable
  have kP := Tryz.asKindP
  have kR := Tryz.asKindR
  have eP := Tryz.asElem
  have iR := Tryz.asImplements
  have h11 := @run_callFunc_extern Tryz.prog 104 _ (ReflectliteValue.method (ReflectliteValue.valueError "reflectlite.Value.Elem" 0) ReflectliteValue.elem) Tryz.func104 (by kernel_rfl) (by kernel_rfl) (by kernel_rfl) (by kernel_rfl)
  have h12 := @run_callFunc_extern Tryz.prog 105 _ ReflectliteValue.set Tryz.func105 (by kernel_rfl) (by kernel_rfl) (by kernel_rfl) (by kernel_rfl)
  have tR := Tryz.asTypeOfR
  have aR := Tryz.asAssignR
  have vR := Tryz.asValueOfR
  have htl : t.block < w.heap.size := blk_lt ht0
  have n8 := Tryz.asIsNil ⟨w.heap.size, 0, none⟩ t ((w.alloc (.cells #[.pointer (some t)] 107)).alloc (.cells #[.pointer (some ⟨9, 107, none⟩), .pointer (some ⟨w.heap.size, 0, none⟩), .int .u64 150] 134)) (by simp)
  have hlt : 4 < w.heap.size := blk_lt hg
  have hg2 : ((w.alloc (.cells #[.pointer (some t)] 107)).alloc (.cells #[.pointer (some ⟨9, 107, none⟩), .pointer (some ⟨w.heap.size, 0, none⟩), .int .u64 150] 134)).cell? ⟨4, 0, none⟩ = some (.iface 150 (typ 54)) := by
    rw [World.cell?_alloc_lt _ _ ⟨4, 0, none⟩ (by simp; omega), World.cell?_alloc_lt _ _ ⟨4, 0, none⟩ hlt]; exact hg
  have el := Tryz.asElemV ⟨w.heap.size, 0, none⟩ t (((w.alloc (.cells #[.pointer (some t)] 107)).alloc (.cells #[.pointer (some ⟨9, 107, none⟩), .pointer (some ⟨w.heap.size, 0, none⟩), .int .u64 150] 134)).alloc (.cells #[.pointer (some ⟨9, 107, none⟩), .pointer (some ⟨w.heap.size, 0, none⟩), .int .u64 150] 134)) (by rw [World.cell?_alloc_lt _ _ ⟨w.heap.size, 0, none⟩ (by simp; omega)]; simp)
  have st := Tryz.asSet t ⟨w.heap.size + 1 + 1 + 1, 0, none⟩ (eV a) old ((((w.alloc (.cells #[.pointer (some t)] 107)).alloc (.cells #[.pointer (some ⟨9, 107, none⟩), .pointer (some ⟨w.heap.size, 0, none⟩), .int .u64 150] 134)).alloc (.cells #[.pointer (some ⟨9, 107, none⟩), .pointer (some ⟨w.heap.size, 0, none⟩), .int .u64 150] 134)).alloc (.cells #[eV a] 105)) rfl
    (by rw [World.cell?_alloc_at _ _ _ _ (by simp)]; rfl)
    (by rw [World.cell?_alloc_lt _ _ t (by simp; omega), World.cell?_alloc_lt _ _ t (by simp; omega), World.cell?_alloc_lt _ _ t (by simp; omega), World.cell?_alloc_lt _ _ t htl]; exact ht0)
    (by rw [World.frozen?_alloc_old _ _ t (by simp; omega), World.frozen?_alloc_old _ _ t (by simp; omega), World.frozen?_alloc_old _ _ t (by simp; omega), World.frozen?_alloc_old _ _ t (Nat.ne_of_lt htl)]; exact hf0)
  go_enter Tryz.func65, Tryz.ntmps65
  go_wp2
  refine wp_loop_rounds 1 ?_
  rw [rounds_succ]
  go_wp2
  go_ret
  refine ⟨rfl, ?_⟩
  have hB : Below w.heap.size w ((((w.alloc (.cells #[.pointer (some t)] 107)).alloc (.cells #[.pointer (some ⟨9, 107, none⟩), .pointer (some ⟨w.heap.size, 0, none⟩), .int .u64 150] 134)).alloc (.cells #[.pointer (some ⟨9, 107, none⟩), .pointer (some ⟨w.heap.size, 0, none⟩), .int .u64 150] 134)).alloc (.cells #[eV a] 105)) := ((((Below.refl _ w).alloc (Nat.le_refl _) _).alloc (by simp) _).alloc (by simp; omega) _).alloc (by simp; omega) _
  exact grown_set hB t _

end Go.Proofs.YtallpldgkkpikaaGreatDoor

namespace Go.Proofs.YtallpldgkkpikaaGreatDoor
open Go.RowKit Go.Shelf

/-- The work that is laid at i, from the number k on. -/
def mkW (k i : Nat) : Wk := ⟨mkT (k + 3 * i), (((k + 3 * i : Nat) : Int) + 1) % 3 == 0, ((k + 3 * i : Nat) : Int) + 2⟩
def mkWs (k n : Nat) : List Wk := (List.range n).map (mkW k)
theorem mkWs_len (k n : Nat) : (mkWs k n).length = n := by simp [mkWs]
theorem mkWs_succ (k n : Nat) : mkWs k (n + 1) = mkWs k n ++ [mkW k n] := by
  unfold mkWs
  rw [List.range_succ, List.map_append]
  rfl
theorem mkWs_at {k n i : Nat} (h : i < (mkWs k n).length) : (mkWs k n)[i] = mkW k i := by simp [mkWs]

end Go.Proofs.YtallpldgkkpikaaGreatDoor

namespace Go.Proofs.YtallpldgkkpikaaGreatDoor
open Go.RowKit Go.Shelf

theorem Mid.iso {lo hi : Nat} {w w1 : World} (h : Mid lo hi w w1) {base top : Nat} {v : Value} {s : Is} (hr : IsO w base top v s) (ho : hi ≤ base ∨ top ≤ lo) : IsO w1 base top v s := by
  obtain ⟨vw, vr, vs, rfl, h1, h2, h3, t1, t2, t3⟩ := hr
  exact ⟨vw, vr, vs, rfl, h.row h1 (fun k hk => by have := h1.lt k hk; have := t1 k hk; omega), h.row h2 (fun k hk => by have := h2.lt k hk; have := t2 k hk; omega), h.row h3 (fun k hk => by have := h3.lt k hk; have := t3 k hk; omega), t1, t2, t3⟩
/-- What lies in an issuer that was marked. -/
def mkIs (k : Nat) (s : Is) : Is := ⟨mkWs k s.ws.length, s.nx, mkN (k + 3 * s.ws.length) s.rv.length, mkS (k + 3 * s.ws.length + s.rv.length) s.sg.length⟩
def Is.many (s : Is) : Nat := 3 * s.ws.length + s.rv.length + s.sg.length

end Go.Proofs.YtallpldgkkpikaaGreatDoor

namespace Go.Proofs.YtallpldgkkpikaaGreatDoor
open Go.RowKit Go.Shelf

theorem cloneW_any (v : Value) (base n : Nat) (xs : List Value) (w : World) (hn : n ≤ 1048577) (h1 : ∀ u ∈ xs, u.oneCell' = true) (h : w.ownsRow base 64 3 v n xs) :
    Calls Tryz.prog 66 #[v] w fun e w' => ∃ v', e = .returned v' ∧ w'.ownsRow w.heap.size 64 3 v' n xs ∧ Below w.heap.size w w' := by
  obtain ⟨i0, hi, hz0, hz1, hz2⟩ := info_parts infoWork
  rcases row_form h with ⟨rfl, rfl⟩ | ⟨g, cap, rfl, _, _⟩
  · refine (AnyE.slices_Clone_nil Tryz.cloneWk 0 0 w).mono ?_
    rintro e w1 ⟨rfl, rfl⟩
    have hx : xs = [] := List.eq_nil_of_length_eq_zero (by have := h.1; omega)
    subst hx
    exact ⟨_, rfl, World.ownsRow_nil _ _ _ _, Below.refl _ _⟩
  · refine (AnyE.slices_Clone Tryz.cloneWk i0 _ 3 32 hi hz0 hz1 hz2 rfl (by decide) Tryz.sizeOf64 g 0 n cap xs w h.1 (by unfold maxLen; omega) (by omega) (fun j u hu => by have := h.cells (g := g) rfl j u hu; rw [Addr.add_lit] at this; exact this) h1).mono ?_
    rintro e w1 ⟨v', rfl, hr, _, hB⟩
    exact ⟨v', rfl, hr, hB⟩

theorem cloneN_any (v : Value) (base n : Nat) (xs : List Value) (w : World) (hn : n ≤ 1048577) (h1 : ∀ u ∈ xs, u.oneCell' = true) (h : w.ownsRow base 3 1 v n xs) :
    Calls Tryz.prog 67 #[v] w fun e w' => ∃ v', e = .returned v' ∧ w'.ownsRow w.heap.size 3 1 v' n xs ∧ Below w.heap.size w w' := by
  obtain ⟨i0, hi, hz0, hz1, hz2⟩ := info_parts infoInt
  rcases row_form h with ⟨rfl, rfl⟩ | ⟨g, cap, rfl, _, _⟩
  · refine (AnyE.slices_Clone_nil Tryz.cloneIn 0 0 w).mono ?_
    rintro e w1 ⟨rfl, rfl⟩
    have hx : xs = [] := List.eq_nil_of_length_eq_zero (by have := h.1; omega)
    subst hx
    exact ⟨_, rfl, World.ownsRow_nil _ _ _ _, Below.refl _ _⟩
  · refine (AnyE.slices_Clone Tryz.cloneIn i0 _ 1 8 hi hz0 hz1 hz2 rfl (by decide) Tryz.sizeOf3 g 0 n cap xs w h.1 (by unfold maxLen; omega) (by omega) (fun j u hu => by have := h.cells (g := g) rfl j u hu; rw [Addr.add_lit] at this; exact this) h1).mono ?_
    rintro e w1 ⟨v', rfl, hr, _, hB⟩
    exact ⟨v', rfl, hr, hB⟩

theorem cloneS_any (v : Value) (base n : Nat) (xs : List Value) (w : World) (hn : n ≤ 1048577) (h1 : ∀ u ∈ xs, u.oneCell' = true) (h : w.ownsRow base 9 1 v n xs) :
    Calls Tryz.prog 68 #[v] w fun e w' => ∃ v', e = .returned v' ∧ w'.ownsRow w.heap.size 9 1 v' n xs ∧ Below w.heap.size w w' := by
  obtain ⟨i0, hi, hz0, hz1, hz2⟩ := info_parts infoString
  rcases row_form h with ⟨rfl, rfl⟩ | ⟨g, cap, rfl, _, _⟩
  · refine (AnyE.slices_Clone_nil Tryz.cloneSt 0 0 w).mono ?_
    rintro e w1 ⟨rfl, rfl⟩
    have hx : xs = [] := List.eq_nil_of_length_eq_zero (by have := h.1; omega)
    subst hx
    exact ⟨_, rfl, World.ownsRow_nil _ _ _ _, Below.refl _ _⟩
  · refine (AnyE.slices_Clone Tryz.cloneSt i0 _ 1 16 hi hz0 hz1 hz2 rfl (by decide) Tryz.sizeOf9 g 0 n cap xs w h.1 (by unfold maxLen; omega) (by omega) (fun j u hu => by have := h.cells (g := g) rfl j u hu; rw [Addr.add_lit] at this; exact this) h1).mono ?_
    rintro e w1 ⟨v', rfl, hr, _, hB⟩
    exact ⟨v', rfl, hr, hB⟩

/-- The program's four faults and the type of all faults lie where they were laid. -/
structure ErA (w : World) (p0 p1 p2 p3 : Addr) : Prop where
  g0 : w.cell? ⟨0, 0, none⟩ = some (eV p0)
  g1 : w.cell? ⟨2, 0, none⟩ = some (eV p1)
  g2 : w.cell? ⟨3, 0, none⟩ = some (eV p2)
  g3 : w.cell? ⟨1, 0, none⟩ = some (eV p3)
  gt : w.cell? ⟨4, 0, none⟩ = some (.iface 150 (typ 54))
  b0 : ∃ c t, w.heap[p0.block]? = some (.cells c t (0, 0))
  b1 : ∃ c t, w.heap[p1.block]? = some (.cells c t (0, 0))
  b2 : ∃ c t, w.heap[p2.block]? = some (.cells c t (0, 0))
  b3 : ∃ c t, w.heap[p3.block]? = some (.cells c t (0, 0))
  n01 : p0 ≠ p1
  n02 : p0 ≠ p2
  n03 : p0 ≠ p3
  n12 : p1 ≠ p2
  n13 : p1 ≠ p3
  n23 : p2 ≠ p3
theorem blk_keep {w w' : World} (hB : Below w.heap.size w w') {k : Nat} (h : ∃ c t, w.heap[k]? = some (.cells c t (0, 0))) : ∃ c t, w'.heap[k]? = some (.cells c t (0, 0)) := by
  obtain ⟨c, t, h⟩ := h
  exact ⟨c, t, (hB.block _ (Array.getElem?_eq_some_iff.1 h).1).trans h⟩
theorem ErA.below {w w' : World} {p0 p1 p2 p3 : Addr} (h : ErA w p0 p1 p2 p3) (hB : Below w.heap.size w w') : ErA w' p0 p1 p2 p3 :=
  ⟨(hB.cell (blk_lt h.g0)).trans h.g0, (hB.cell (blk_lt h.g1)).trans h.g1, (hB.cell (blk_lt h.g2)).trans h.g2, (hB.cell (blk_lt h.g3)).trans h.g3, (hB.cell (blk_lt h.gt)).trans h.gt,
   blk_keep hB h.b0, blk_keep hB h.b1, blk_keep hB h.b2, blk_keep hB h.b3, h.n01, h.n02, h.n03, h.n12, h.n13, h.n23⟩
/-- What a function of the program's tells of a fault. -/
inductive Er where
  | nil | bad | twice | noWork | full
abbrev Er.val (p0 p1 p2 p3 : Addr) : Er → Value
  | .nil => .nilIface
  | .bad => eV p0
  | .twice => rV p1
  | .full => rV p2
  | .noWork => rV p3
def Er.code : Er → Int
  | .nil => 0
  | .bad => 1
  | .twice => 2
  | .noWork => 3
  | .full => 4
/-- errors.Is at a refusal, whatever it holds. -/
theorem is_ref (a b : Addr) (w : World) (hne : a ≠ b) (ha : ∃ c t, w.heap[a.block]? = some (.cells c t (0, 0))) (hb : ∃ c t, w.heap[b.block]? = some (.cells c t (0, 0))) :
    Calls Tryz.prog 69 #[rV a, eV b] w fun e w' => e = .returned (.bool false) ∧ Below w.heap.size w w' := by
  obtain ⟨ca, ta, ha⟩ := ha
  obtain ⟨cb, tb, hb⟩ := hb
  refine (is_ref_other a b ca cb ta tb w hne ha hb).mono ?_
  rintro e w' ⟨rfl, rfl⟩
  exact ⟨rfl, (Below.refl _ w).alloc (Nat.le_refl _) _⟩
theorem is_refS (b : Addr) (w : World) :
    Calls Tryz.prog 69 #[rV b, eV b] w fun e w' => e = .returned (.bool true) ∧ Below w.heap.size w w' := by
  refine (is_ref_same b w).mono ?_
  rintro e w' ⟨rfl, rfl⟩
  exact ⟨rfl, (Below.refl _ w).alloc (Nat.le_refl _) _⟩

set_option maxHeartbeats 2000000 in
theorem codeOf_any (x : Er) (p0 p1 p2 p3 : Addr) (w : World) (hx : x ≠ .nil) (hE : ErA w p0 p1 p2 p3) :
    Calls Tryz.prog 40 #[x.val p0 p1 p2 p3] w fun e w' => e = .returned (.int .i64 x.code) ∧ Below w.heap.size w w' := by
  cases x with
  | nil => exact absurd rfl hx
  | bad =>
    have g0 := hE.g0
    go_enter Tryz.func40, Tryz.ntmps40
    go_wp2_with fail
    refine (is_same p0 _).mono ?_
    rintro e w1 ⟨rfl, rfl⟩
    go_wp2_with fail
    go_ret
    exact ⟨rfl, Below.refl _ _⟩
  | twice =>
    have g0 := hE.g0
    go_enter Tryz.func40, Tryz.ntmps40
    go_wp2_with fail
    refine (is_ref p1 p0 _ hE.n01.symm hE.b1 hE.b0).mono ?_
    rintro e w1 ⟨rfl, hB1⟩
    have E1 := hE.below hB1
    have g1 := E1.g1
    go_wp2_with fail
    refine (is_refS p1 _).mono ?_
    rintro e w2 ⟨rfl, hB2⟩
    go_wp2_with fail
    go_ret
    exact ⟨rfl, below_one hB1 hB2⟩
  | noWork =>
    have g0 := hE.g0
    go_enter Tryz.func40, Tryz.ntmps40
    go_wp2_with fail
    refine (is_ref p3 p0 _ hE.n03.symm hE.b3 hE.b0).mono ?_
    rintro e w1 ⟨rfl, hB1⟩
    have E1 := hE.below hB1
    have g1 := E1.g1
    go_wp2_with fail
    refine (is_ref p3 p1 _ E1.n13.symm E1.b3 E1.b1).mono ?_
    rintro e w2 ⟨rfl, hB2⟩
    have E2 := E1.below hB2
    have g3 := E2.g3
    go_wp2_with fail
    refine (is_refS p3 _).mono ?_
    rintro e w3 ⟨rfl, hB3⟩
    go_wp2_with fail
    go_ret
    exact ⟨rfl, below_two hB1 hB2 hB3⟩
  | full =>
    have g0 := hE.g0
    go_enter Tryz.func40, Tryz.ntmps40
    go_wp2_with fail
    refine (is_ref p2 p0 _ hE.n02.symm hE.b2 hE.b0).mono ?_
    rintro e w1 ⟨rfl, hB1⟩
    have E1 := hE.below hB1
    have g1 := E1.g1
    go_wp2_with fail
    refine (is_ref p2 p1 _ E1.n12.symm E1.b2 E1.b1).mono ?_
    rintro e w2 ⟨rfl, hB2⟩
    have E2 := E1.below hB2
    have g3 := E2.g3
    go_wp2_with fail
    refine (is_ref p2 p3 _ E2.n23 E2.b2 E2.b3).mono ?_
    rintro e w3 ⟨rfl, hB3⟩
    have E3 := E2.below hB3
    have g2 := E3.g2
    go_wp2_with fail
    refine (is_refS p2 _).mono ?_
    rintro e w4 ⟨rfl, hB4⟩
    go_wp2_with fail
    go_ret
    exact ⟨rfl, below_one (below_two hB1 hB2 hB3) hB4⟩

end Go.Proofs.YtallpldgkkpikaaGreatDoor

namespace Go.Proofs.YtallpldgkkpikaaGreatDoor
open Go.ChangeShapes Go.WideShapes Go.RowKit Go.Shelf
open Go.Extern.Stop Go.Stop Go.Extern

theorem flt_own : ownKnob Tryz.prog.godebug = none := by kernel_rfl
theorem flt_gT : Tryz.prog.globalNamed "errors.errorType" = some 4 := by kernel_rfl
theorem flt_rt : (Tryz.prog.cutTypes.find? (·.1 == "internal/reflectlite.rtype")).map (·.2) = some 150 := by kernel_rfl
theorem flt_row : ((List.range 212).filter fun t => Tryz.prog.rowNamed t [101, 114, 114, 111, 114]) = [54] := by kernel_rfl
theorem flt_size : Tryz.prog.types.size = 212 := by kernel_rfl
theorem flt_star : "*" ++ "errors.errorString" = "*errors.errorString" := by decide
theorem flt_ptr (u : TypeId) (h : Tryz.prog.typeName? 3 u = some "*errors.errorString") : u = 182 :=
  typeName_ptr_named (nm := "errors.errorString") (by rw [flt_star]; kernel_rfl) (by kernel_rfl) (by decide) u (by rw [flt_star]; exact h)
theorem flt_cE : Tryz.prog.cellsOf 200 = 1 := by kernel_rfl
theorem flt_cS : Tryz.prog.cellsOf 9 = 1 := by kernel_rfl
theorem flt_g0 : Tryz.prog.globalNamed "loop.example/g00167/impl.errNotGood" = some 0 := by kernel_rfl
theorem flt_t0 : (Tryz.prog.globals[0]?).map (·.type) = some 54 := by kernel_rfl
theorem flt_g1 : Tryz.prog.globalNamed "loop.example/g00167/impl.errTwice" = some 2 := by kernel_rfl
theorem flt_t1 : (Tryz.prog.globals[2]?).map (·.type) = some 54 := by kernel_rfl
theorem flt_g2 : Tryz.prog.globalNamed "loop.example/g00167/impl.errNoWork" = some 1 := by kernel_rfl
theorem flt_t2 : (Tryz.prog.globals[1]?).map (·.type) = some 54 := by kernel_rfl
theorem flt_g3 : Tryz.prog.globalNamed "loop.example/g00167/impl.errFull" = some 3 := by kernel_rfl
theorem flt_t3 : (Tryz.prog.globals[3]?).map (·.type) = some 54 := by kernel_rfl
abbrev fltL : List (String × DataW Unit) := [("errors.errorType", Rows.laid_errors_errorType), ("loop.example/g00167/impl.errNotGood", Rows.laid_loop_example_g00167_impl_errNotGood), ("loop.example/g00167/impl.errTwice", Rows.laid_loop_example_g00167_impl_errTwice), ("loop.example/g00167/impl.errNoWork", Rows.laid_loop_example_g00167_impl_errNoWork), ("loop.example/g00167/impl.errFull", Rows.laid_loop_example_g00167_impl_errFull)]

/-- The type's handle, as the row lists it. -/
theorem flt_handle {W : World} (h : laidMetH Tryz.prog fltL W) : W.cell? ⟨4, 0, none⟩ = some (.iface 150 (typ 54)) := by
  have h' : laidMet Tryz.prog [("loop.example/g00167/impl.errNotGood", Rows.laid_loop_example_g00167_impl_errNotGood), ("loop.example/g00167/impl.errTwice", Rows.laid_loop_example_g00167_impl_errTwice), ("loop.example/g00167/impl.errNoWork", Rows.laid_loop_example_g00167_impl_errNoWork), ("loop.example/g00167/impl.errFull", Rows.laid_loop_example_g00167_impl_errFull)] W ∧ handlesMet Tryz.prog [("errors.errorType", Rows.laid_errors_errorType)] W := h
  obtain ⟨name, u, ty, e1, e2, e3, e4, e5⟩ := h'.2 _ (List.mem_singleton.2 rfl)
  have en : name = [101, 114, 114, 111, 114] := (Option.some.inj e1).symm
  subst en
  obtain rfl := Option.some.inj (flt_rt.symm.trans e2)
  have hm : ty ∈ (List.range 212).filter fun t => Tryz.prog.rowNamed t [101, 114, 114, 111, 114] := List.mem_filter.2 ⟨List.mem_range.2 (by rw [← flt_size]; exact e3), e4⟩
  rw [flt_row] at hm
  obtain rfl := List.mem_singleton.1 hm
  have hh : typeHandle Tryz.prog 54 = .pointer (some ⟨9, 54, none⟩) := by kernel_rfl
  rw [hh] at e5
  simpa using World.var?_cell flt_gT e5 0
theorem flt_ne {W : World} {a b : Addr} {s t : ByteArray} (ha : W.cell? a = some (.string s)) (hb : W.cell? b = some (.string t)) (h : s.data.toList ≠ t.data.toList) : a ≠ b := fun e => by
  subst e
  rw [ha] at hb
  cases hb
  exact h rfl
/-- Where the faults lie. -/
theorem era_of {W : World} (h : laidMetH Tryz.prog fltL W) : ∃ p0 p1 p2 p3, ErA W p0 p1 p2 p3 := by
  have hT := flt_handle h
  have h' : laidMet Tryz.prog [("loop.example/g00167/impl.errNotGood", Rows.laid_loop_example_g00167_impl_errNotGood), ("loop.example/g00167/impl.errTwice", Rows.laid_loop_example_g00167_impl_errTwice), ("loop.example/g00167/impl.errNoWork", Rows.laid_loop_example_g00167_impl_errNoWork), ("loop.example/g00167/impl.errFull", Rows.laid_loop_example_g00167_impl_errFull)] W ∧ handlesMet Tryz.prog [("errors.errorType", Rows.laid_errors_errorType)] W := h
  obtain ⟨a0, a1, s0, s1, c0, c1, t0, t1, hv0, hv1, hc0, hs0, _, hc1, hs1, _, hne, hb0, hb1⟩ := laid_sentinels2 h'.1 flt_g0 flt_t0 flt_g1 flt_t1 Tryz.underlying54 flt_ptr Tryz.underlying182 Tryz.underlying200 rfl rfl Tryz.underlying9 flt_cE flt_cS
  obtain ⟨a2, a3, s2, s3, c2, c3, t2, t3, hv2, hv3, hc2, hs2, _, hc3, hs3, _, hne', hb2, hb3⟩ := laid_sentinels2 h'.1.tail.tail flt_g2 flt_t2 flt_g3 flt_t3 Tryz.underlying54 flt_ptr Tryz.underlying182 Tryz.underlying200 rfl rfl Tryz.underlying9 flt_cE flt_cS
  refine ⟨a0, a1, a3, a2, ⟨by simpa using World.var?_cell flt_g0 hv0 0, by simpa using World.var?_cell flt_g1 hv1 0, by simpa using World.var?_cell flt_g3 hv3 0, by simpa using World.var?_cell flt_g2 hv2 0, hT, ⟨_, _, hb0⟩, ⟨_, _, hb1⟩, ⟨_, _, hb3⟩, ⟨_, _, hb2⟩, hne, ?_, ?_, ?_, ?_, hne'.symm⟩⟩
  · exact flt_ne hc0 hc3 (by rw [hs0, hs3]; decide)
  · exact flt_ne hc0 hc2 (by rw [hs0, hs2]; decide)
  · exact flt_ne hc1 hc3 (by rw [hs1, hs3]; decide)
  · exact flt_ne hc1 hc2 (by rw [hs1, hs2]; decide)

noncomputable def fltLow : Nat := (World.holding Tryz.prog default ⟨#[], #[], []⟩).heap.size
abbrev fltS0 : ByteArray := { data := #[119, 104, 97, 116, 32, 119, 97, 115, 32, 104, 97, 110, 100, 101, 100, 32, 105, 110, 32, 105, 115, 32, 110, 111, 116, 32, 103, 111, 111, 100] }
abbrev fltS1 : ByteArray := { data := #[116, 104, 101, 32, 119, 111, 114, 107, 32, 105, 115, 32, 116, 104, 101, 114, 101, 32, 97, 110, 100, 32, 108, 105, 118, 101] }
abbrev fltS2 : ByteArray := { data := #[110, 111, 32, 115, 117, 99, 104, 32, 119, 111, 114, 107, 32, 105, 115, 32, 108, 105, 118, 101] }
abbrev fltS3 : ByteArray := { data := #[110, 111, 32, 109, 111, 114, 101, 32, 102, 105, 116] }
/-- A world for the witness. -/
noncomputable def fltWorld (os : Os) : World :=
  let w0 := World.holding Tryz.prog os ⟨#[.cells #[.string fltS0] 200, .cells #[.string fltS1] 200, .cells #[.string fltS2] 200, .cells #[.string fltS3] 200], #[], []⟩
  { w0 with heap := (((((w0.heap.modify 0 fun
      | .cells _ t frozen => .cells #[eV ⟨fltLow, 0, none⟩] t frozen
      | o => o).modify 2 fun
      | .cells _ t frozen => .cells #[eV ⟨fltLow + 1, 0, none⟩] t frozen
      | o => o).modify 1 fun
      | .cells _ t frozen => .cells #[eV ⟨fltLow + 2, 0, none⟩] t frozen
      | o => o).modify 3 fun
      | .cells _ t frozen => .cells #[eV ⟨fltLow + 3, 0, none⟩] t frozen
      | o => o).modify 4 fun
      | .cells _ t frozen => .cells #[.iface 150 (typ 54)] t frozen
      | o => o) }
theorem flt_met (os : Os) (args : Array Value) : laidMetH Tryz.prog fltL ((fltWorld os).forCall (fun _ _ => 0) ⟨#[], args, []⟩).memory :=
  laidMetH_of_parts (laidMet_of_run (ps := [.cell 0 0, .cell (fltLow) 0, .cell 2 0, .cell (fltLow + 1) 0, .cell 1 0, .cell (fltLow + 2) 0, .cell 3 0, .cell (fltLow + 3) 0]) 8 (by kernel_rfl) (by kernel_rfl) (by kernel_rfl)) (by kernel_rfl)

end Go.Proofs.YtallpldgkkpikaaGreatDoor

namespace Go.Proofs.YtallpldgkkpikaaGreatDoor
open Go.RowKit Go.Shelf

theorem dd_big {u : Nat} (h : ¬ u < 10) : (⟨(Lib.decDigits u).toArray⟩ : ByteArray) = ⟨(Lib.decDigits (u / 10)).toArray⟩ ++ ⟨#[UInt8.ofNat (48 + u % 10)]⟩ := by
  apply bytes_same
  rw [Lib.decDigits, dif_neg h]
  simp
theorem dd_one {u : Nat} (h : u < 10) : (⟨(Lib.decDigits u).toArray⟩ : ByteArray) = ⟨#[UInt8.ofNat (48 + u % 10)]⟩ := by
  apply bytes_same
  rw [Lib.decDigits_one h, Nat.mod_eq_of_lt h]
theorem dd_size (u : Nat) (h : u ≤ 1000000) : (⟨(Lib.decDigits u).toArray⟩ : ByteArray).size ≤ 7 := by
  show (Lib.decDigits u).toArray.size ≤ 7
  rw [List.size_toArray, Lib.decDigits_length]
  rcases Nat.lt_or_ge u 1000000 with h1 | h1
  · have := (dd_len6 h1).2
    rw [Lib.decDigits_length] at this
    omega
  · have : u = 1000000 := by omega
    subst this
    have := Lib.nDigits_unique 6 1000000 (by decide) (by decide)
    omega

theorem conv_any (b m : Nat) (W : World) (h : W.cell? ⟨b, 0, none⟩ = some (.int .u8 (48 + (m : Int) % 10))) : (convert 22 9 (.slice (some ⟨b, 0, none⟩) 1 1)).run Tryz.prog W = .ok (.string ⟨#[UInt8.ofNat (48 + m % 10)]⟩) W := by
  refine run_convert_bytes_back (P := Tryz.prog) _ 22 9 5 ⟨b, 0, none⟩ 1 [UInt8.ofNat (48 + m % 10)] Tryz.underlying22 Tryz.underlying5 Tryz.underlying9 ?_
  intro j hj
  match j, hj with
  | 0, _ =>
    simp [Addr.add, h]
    omega

set_option maxHeartbeats 4000000 in
set_option maxRecDepth 100000 in
theorem l1Num_nat : ∀ (u : Nat) (w : World), u ≤ 1000000 →
    Calls Tryz.prog 80 #[.int .i64 (u : Int)] w fun e w' => e = .returned (.string ⟨(Lib.decDigits u).toArray⟩) ∧ Below w.heap.size w w' := by
  intro u
  induction u using Nat.strongRecOn with
  | _ u ih =>
    intro w hu
    by_cases h : u < 10
    · have hc := digit_conv w u
      have h1 : (u : Int) % 10 = u := by omega
      rw [h1] at hc
      have HR := hid (dd_one h)
      generalize UInt8.ofNat (48 + u % 10) = d at *
      go_enter Tryz.func80, Tryz.ntmps80
      go_wp2
      go_ret
      exact ⟨ret_str HR.out.symm, (Below.refl _ w).alloc (Nat.le_refl _) _⟩
    · have HR := hid (dd_big h)
      have hih : ∀ (z : Int) (W : World), z = ((u / 10 : Nat) : Int) → Calls Tryz.prog 80 #[.int .i64 z] W fun e w' => e = .returned (.string ⟨(Lib.decDigits (u / 10)).toArray⟩) ∧ Below W.heap.size W w' := fun z W hz => by
        subst hz
        exact ih (u / 10) (by omega) W (by omega)
      have hcv := fun b W h => conv_any b u W h
      have hsz := dd_size (u / 10) (by omega)
      generalize (⟨(Lib.decDigits (u / 10)).toArray⟩ : ByteArray) = x at *
      generalize UInt8.ofNat (48 + u % 10) = d at *
      clear ih
      have g1 : ¬9223372036854775807 < x.size + 1 := by omega
      have e1 : IntKind.i64.wrap ((u : Int) / 10) = (u : Int) / 10 := by rw [IntKind.wrap_i64]; omega
      have e2 : (u : Int).tmod 10 = (u : Int) % 10 := Int.tmod_eq_emod_of_nonneg (by omega)
      have e3 : IntKind.i64.wrap (48 + (u : Int) % 10) = 48 + (u : Int) % 10 := by rw [IntKind.wrap_i64]; omega
      have e4 : IntKind.u8.wrap (48 + (u : Int) % 10) = 48 + (u : Int) % 10 := by rw [IntKind.wrap_u8]; omega
      go_enter Tryz.func80, Tryz.ntmps80
      go_wp2_with fail
      go_region_with (go_at_call 80; refine (hih _ _ (by omega)).mono ?_; rintro e w1 ⟨rfl, hB1⟩; have hq := hB1.cell (p := ⟨w.heap.size, 0, none⟩))
      all_goals go_wp2
      all_goals go_ret
      all_goals refine ⟨ret_str HR.out.symm, ?_⟩
      all_goals first
        | exact ((Below.refl _ w).trans (below_drew1 hB1)).alloc (below_drew1 hB1).size _
        | exact below_one ((Below.refl _ w).alloc (Nat.le_refl _) _) (below_drew1 hB1)
        | exact below_one ((Below.refl _ w).alloc (Nat.le_refl _) _) hB1

theorem l1Num_any (n : Int) (w : World) (h0 : 0 ≤ n) (h : n ≤ 1000000) :
    Calls Tryz.prog 80 #[.int .i64 n] w fun e w' => e = .returned (.string (numT n)) ∧ Below w.heap.size w w' := by
  obtain ⟨u, rfl⟩ := Int.eq_ofNat_of_zero_le h0
  have e : numT (u : Int) = ⟨(Lib.decDigits u).toArray⟩ := by
    unfold numT
    rw [itoa_pos h0]
    rfl
  rw [e]
  exact l1Num_nat u w (by omega)

end Go.Proofs.YtallpldgkkpikaaGreatDoor

namespace Go.Proofs.YtallpldgkkpikaaGreatDoor
open Go.RowKit Go.Shelf

theorem bInfo : (Tryz.prog.info? 119).map (fun i => i.size) = some 2 := by kernel_rfl
theorem bLies : liesAt Tryz.prog Tryz.prog.depth 119 (2 / Tryz.prog.cellsOf 119) 0 119 1 = true := by kernel_rfl
theorem byteInfo : (Tryz.prog.info? 5).map (fun i => (i.zero, i.size, i.bytes)) = some (some (.int .u8 0), 1, 1) := by kernel_rfl

set_option maxHeartbeats 1000000 in
set_option maxRecDepth 100000 in
theorem copyCheck_any (B b : Nat) (bs : List Value) (w : World) (h : Lib.IsBuilder 119 5 B b bs w) :
    Calls Tryz.prog 99 #[.pointer (some ⟨b, 0, none⟩)] w fun e w' => e = .returned (.tuple #[]) ∧ Lib.BuilderAt 119 5 B b (.pointer (some ⟨b, 0, none⟩)) bs w' ∧ Below B w w' := by
  obtain ⟨j, hj, hjs⟩ := Option.map_eq_some_iff.1 bInfo
  rcases h with h | h
  · have h0 := h.cell0
    have hsh := h.shape
    have hfz := h.frozen0
    go_enter Tryz.func99, Tryz.ntmps99
    go_wp2
    rw [Lib.run_to_unsafe w ⟨b, 0, none⟩ Tryz.underlying117 Tryz.underlying131 hj (by rw [hjs]; decide) hsh (Nat.zero_lt_succ 1)]
    simp only [Result.andThen]
    rw [Oper.upon_value]
    go_wp2
    rw [run_callFunc_extern Tryz.func108 (by kernel_rfl) (by kernel_rfl) (by kernel_rfl) (e := Extern.AbiNoEscape.same) (by kernel_rfl), Lib.run_noEscape]
    simp only [Result.andThen]
    rw [Oper.upon_value]
    go_wp2
    rw [Lib.run_from_unsafe w ⟨b, 0, none⟩ Tryz.underlying131 Tryz.underlying117 hj hsh bLies]
    simp only [Result.andThen]
    rw [Oper.upon_value]
    go_wp2
    go_end0
    exact ⟨rfl, h.used _, (Below.refl B w).setCell (p := ⟨b, 0, none⟩) h.1 _⟩
  · have h0 := h.cell0
    go_enter Tryz.func99, Tryz.ntmps99
    go_wp2
    rw [Lib.run_neq_ptr_same w _ Tryz.underlying117 hj]
    go_wp2
    go_end0
    exact ⟨rfl, h, Below.refl B _⟩

theorem built_lt {w : World} {b : Nat} {o : Obj} (h : w.heap[b]? = some o) : b < w.heap.size := by
  rcases Nat.lt_or_ge b w.heap.size with h' | h'
  · exact h'
  · rw [Array.getElem?_eq_none h'] at h
    cases h

set_option maxHeartbeats 2000000 in
set_option maxRecDepth 100000 in
theorem writeByte_any (B b : Nat) (bs : List Value) (c : Int) (w : World) (h : Lib.IsBuilder 119 5 B b bs w) (hlen : bs.length + 1 ≤ 140737488355328) (hBw : B ≤ w.heap.size) :
    Calls Tryz.prog 78 #[.pointer (some ⟨b, 0, none⟩), .int .u8 c] w fun e w' => e = .returned .nilIface ∧ Lib.BuilderAt 119 5 B b (.pointer (some ⟨b, 0, none⟩)) (bs ++ [.int .u8 c]) w' ∧ Below B w w' := by
  obtain ⟨i0, hi, hz0, hz1, hz2⟩ := info_parts byteInfo
  go_enter Tryz.func78, Tryz.ntmps78
  go_wp2_with fail
  refine (copyCheck_any B b bs _ h).mono ?_
  rintro e w1 ⟨rfl, ⟨hB, v, hbk, hown, hne⟩, hb1⟩
  have c0 : w1.cell? ⟨b, 0, none⟩ = some (.pointer (some ⟨b, 0, none⟩)) := by rw [Lib.cell_of_heap hbk]; rfl
  have c1 : w1.cell? ⟨b, 1, none⟩ = some v := by rw [Lib.cell_of_heap hbk]; rfl
  have hlt := built_lt hbk
  have hsz := hb1.size
  go_wp2_with (at_builtin; refine wpList_append_own _ rfl _ _ 22 rfl B 5 i0 (.int .u8 0) 1 1 Tryz.underlying22 hi hz0 hz1 hz2 rfl (by decide) _ _ _ rfl (hown.alloc _) ⟨w1.heap.size, 0, none⟩ 1 1 [.int .u8 c] rfl rfl (cell_one_new _ _ _) (by simp [Value.oneCell']) (by unfold maxLen; omega) (by omega) (by simp; omega) ?_)
  intro v' w2 hown' hgrow _
  have hb2 : w2.heap[b]? = some (.cells #[.pointer (some ⟨b, 0, none⟩), v] 119 (0, 0)) := by
    rw [hgrow.block b (by simp; omega) (fun e => hne e.symm), Lib.alloc_old w1 _ b hlt]
    exact hbk
  have d0 : w2.cell? ⟨b, 0, none⟩ = some (.pointer (some ⟨b, 0, none⟩)) := by rw [Lib.cell_of_heap hb2]; rfl
  have d1 : w2.cell? ⟨b, 1, none⟩ = some v := by rw [Lib.cell_of_heap hb2]; rfl
  have f1 : w2.frozen? ⟨b, 1, none⟩ = false := Lib.frozen_of_heap hb2 1
  obtain ⟨g, cap, rfl⟩ := ownsRow_succ hown'
  go_wp2
  go_ret
  refine ⟨rfl, ?_, ?_⟩
  · exact Lib.BuilderAt.put (T := 119) (e := 5) hB hb2 (bs' := bs ++ [.int .u8 c]) (by simpa using hown') (by decide)
  · exact ((hb1.alloc (by omega) _).grown hgrow (by simp; omega) (fun k hk => (hown.lt k hk).1)).setCell (p := ⟨b, 1, none⟩) hB _

set_option maxHeartbeats 2000000 in
set_option maxRecDepth 100000 in
theorem writeString_any (B b : Nat) (bs : List Value) (s : ByteArray) (w : World) (h : Lib.IsBuilder 119 5 B b bs w) (hlen : bs.length + s.size ≤ 140737488355328) (hBw : B ≤ w.heap.size) :
    Calls Tryz.prog 76 #[.pointer (some ⟨b, 0, none⟩), .string s] w fun e w' => e = .returned (.tuple #[.int .i64 s.size, .nilIface]) ∧ Lib.BuilderAt 119 5 B b (.pointer (some ⟨b, 0, none⟩)) (bs ++ Lib.strCells s) w' ∧ Below B w w' := by
  obtain ⟨i0, hi, hz0, hz1, hz2⟩ := info_parts byteInfo
  go_enter Tryz.func76, Tryz.ntmps76
  go_wp2_with fail
  refine (copyCheck_any B b bs _ h).mono ?_
  rintro e w1 ⟨rfl, ⟨hB, v, hbk, hown, hne⟩, hb1⟩
  have c0 : w1.cell? ⟨b, 0, none⟩ = some (.pointer (some ⟨b, 0, none⟩)) := by rw [Lib.cell_of_heap hbk]; rfl
  have c1 : w1.cell? ⟨b, 1, none⟩ = some v := by rw [Lib.cell_of_heap hbk]; rfl
  have hlt := built_lt hbk
  have hsz := hb1.size
  go_wp2_with (at_builtin; refine Lib.wpList_append_own_string _ rfl _ _ 22 9 rfl B 5 i0 Tryz.underlying22 Tryz.underlying9 hi hz0 hz1 hz2 _ _ _ rfl hown s rfl (by unfold maxLen; omega) (by omega) (by omega) ?_)
  intro v' w2 hown' hgrow _
  have hb2 : w2.heap[b]? = some (.cells #[.pointer (some ⟨b, 0, none⟩), v] 119 (0, 0)) := by
    rw [hgrow.block b hlt (fun e => hne e.symm)]
    exact hbk
  have d0 : w2.cell? ⟨b, 0, none⟩ = some (.pointer (some ⟨b, 0, none⟩)) := by rw [Lib.cell_of_heap hb2]; rfl
  have d1 : w2.cell? ⟨b, 1, none⟩ = some v := by rw [Lib.cell_of_heap hb2]; rfl
  have f1 : w2.frozen? ⟨b, 1, none⟩ = false := Lib.frozen_of_heap hb2 1
  obtain ⟨ao, n', cap, rfl⟩ : ∃ ao n' cap, v' = .slice ao n' cap := by
    rcases hown'.2 with ⟨hv, _⟩ | ⟨g, cap, cur, hv, _⟩
    · exact ⟨_, _, _, hv⟩
    · exact ⟨_, _, _, hv⟩
  go_wp2
  go_ret2
  refine ⟨rfl, ?_, ?_⟩
  · exact Lib.BuilderAt.put (T := 119) (e := 5) hB hb2 (bs' := bs ++ Lib.strCells s) (by simpa [Lib.strCells_length] using hown') (by decide)
  · exact (hb1.grown hgrow (by omega) (fun k hk => (hown.lt k hk).1)).setCell (p := ⟨b, 1, none⟩) hB _

theorem bString_any (B b : Nat) (l : List UInt8) (w : World) (h : Lib.IsBuilder 119 5 B b (Lib.byteCells l) w) (hBw : B ≤ w.heap.size) :
    Calls Tryz.prog 79 #[.pointer (some ⟨b, 0, none⟩)] w fun e w' => e = .returned (.string ⟨l.toArray⟩) ∧ Below B w w' := Any.Builder_String_any Tryz.lays169 Tryz.Builder_Extra_169 B b l w h hBw

/-- A builder stays one behind a call that makes memory alone. -/
theorem built_below {T e : TypeId} {B b : Nat} {p : Value} {bs : List Value} {w w' : World} (h : Lib.BuilderAt T e B b p bs w) (hB : Below w.heap.size w w') : Lib.BuilderAt T e B b p bs w' := by
  obtain ⟨h1, v, hbk, hown, hne⟩ := h
  exact ⟨h1, v, (hB.block b (built_lt hbk)).trans hbk, ownsRow_below hown hB, hne⟩
theorem isB_below {T e : TypeId} {B b : Nat} {bs : List Value} {w w' : World} (h : Lib.IsBuilder T e B b bs w) (hB : Below w.heap.size w w') : Lib.IsBuilder T e B b bs w' := by
  rcases h with h | h
  · exact .inl (built_below h hB)
  · exact .inr (built_below h hB)

end Go.Proofs.YtallpldgkkpikaaGreatDoor

namespace Go.Proofs.YtallpldgkkpikaaGreatDoor
open Go.RowKit Go.Shelf

theorem at_drop {ops : Array Oper} {i : Nat} {o : Oper} (h : (ops.toList.drop i).head? = some o) : ops[i]? = some o := by
  rw [List.head?_drop] at h
  simpa using h
theorem takeW {P : Program} {ops : Array Oper} {Q : Exit → Act → World → Prop} {md : Region.Mode} {S : World → Prop} (i : Nat) {oi : Oper} {v : Value} {fuel : Nat} {listed : Array Bool} {a : Act} {w : World} (hi : (ops.toList.drop i).head? = some oi)
    (hs : Region.noSelect ops = true) (hf : Region.free md ops listed i = true) (hr : (Region.ready md ops listed).contains i = true)
    (hQ : ∀ c a w, Q (.panic c) (a.put oi.dst v) w → Q (.panic c) a w) (hw : Region.wanted oi (yielded ops a.tmps) = true) (hS : S w) (hy : ∀ w, S w → (execOp a.eval oi).run P w = .ok (.value v) w)
    (h : wpAnyH P md ops Q S fuel (listed.setIfInBounds i true) (a.put oi.dst v) w) : wpAnyH P md ops Q S (fuel + 1) listed a w :=
  wpAnyH_take (at_drop hi) hs hf hr hQ (Or.inl ⟨hw, hy⟩) hS h
theorem takeX {P : Program} {ops : Array Oper} {Q : Exit → Act → World → Prop} {md : Region.Mode} {S : World → Prop} (i : Nat) {oi : Oper} {fuel : Nat} {listed : Array Bool} {a : Act} {w : World} (hi : (ops.toList.drop i).head? = some oi)
    (hs : Region.noSelect ops = true) (hf : Region.free md ops listed i = true) (hr : (Region.ready md ops listed).contains i = true)
    (hQ : ∀ c a w, Q (.panic c) (a.put oi.dst undef) w → Q (.panic c) a w) (hw : Region.wanted oi (yielded ops a.tmps) = false) (hS : S w)
    (h : wpAnyH P md ops Q S fuel (listed.setIfInBounds i true) (a.put oi.dst undef) w) : wpAnyH P md ops Q S (fuel + 1) listed a w :=
  wpAnyH_take (at_drop hi) hs hf hr hQ (Or.inr ⟨hw, rfl⟩) hS h
theorem takeC {P : Program} {ops : Array Oper} {Q : Exit → Act → World → Prop} {md : Region.Mode} {S : World → Prop} (i : Nat) {oi : Oper} {fuel : Nat} {listed : Array Bool} {a : Act} {w : World} (hr : Region.ready md ops listed = [i]) (hi : (ops.toList.drop i).head? = some oi)
    (h : ∀ K' : Act → World → Prop, Shut (∀ a w, S w → (S w → wpAnyH P md ops Q S fuel (listed.setIfInBounds i true) a w) → K' a w) → if Region.wanted oi (yielded ops a.tmps) = true then Oper.wp P oi a w K' Q else K' (a.put oi.dst undef) w) : wpAnyH P md ops Q S (fuel + 1) listed a w :=
  wpAnyH_ready hr (by simp) (AllReadyH.cons (at_drop hi) h AllReadyH.nil)
/-- Two operations, either of which may come first. -/
theorem takeC2 {P : Program} {ops : Array Oper} {Q : Exit → Act → World → Prop} {md : Region.Mode} {S : World → Prop} (i j : Nat) {oi oj : Oper} {fuel : Nat} {listed : Array Bool} {a : Act} {w : World} (hr : Region.ready md ops listed = [i, j]) (hi : (ops.toList.drop i).head? = some oi) (hj : (ops.toList.drop j).head? = some oj)
    (h : ∀ K' : Act → World → Prop, Shut (∀ a w, S w → (S w → wpAnyH P md ops Q S fuel (listed.setIfInBounds i true) a w) → K' a w) → if Region.wanted oi (yielded ops a.tmps) = true then Oper.wp P oi a w K' Q else K' (a.put oi.dst undef) w)
    (h' : ∀ K' : Act → World → Prop, Shut (∀ a w, S w → (S w → wpAnyH P md ops Q S fuel (listed.setIfInBounds j true) a w) → K' a w) → if Region.wanted oj (yielded ops a.tmps) = true then Oper.wp P oj a w K' Q else K' (a.put oj.dst undef) w) : wpAnyH P md ops Q S (fuel + 1) listed a w :=
  wpAnyH_ready hr (by simp) (AllReadyH.cons (at_drop hi) h (AllReadyH.cons (at_drop hj) h' AllReadyH.nil))

def inB (lo hi n : Int) : Bool := decide (lo ≤ n ∧ n ≤ hi)

theorem l1In_any (n lo hi : Int) (w : World) :
    Calls Tryz.prog 54 #[.int .i64 n, .int .i64 lo, .int .i64 hi] w fun e w' => e = .returned (.bool (inB lo hi n)) ∧ w' = w := by
  by_cases c1 : lo ≤ n
  · by_cases c2 : n ≤ hi
    · have HR := hid (show inB lo hi n = true from decide_eq_true ⟨c1, c2⟩)
      go_enter Tryz.func54, Tryz.ntmps54
      go_wp2
      go_ret
      exact ⟨ret_bool HR.out.symm, rfl⟩
    · have HR := hid (show inB lo hi n = false from decide_eq_false (fun h => c2 h.2))
      go_enter Tryz.func54, Tryz.ntmps54
      go_wp2
      go_ret
      exact ⟨ret_bool HR.out.symm, rfl⟩
  · have HR := hid (show inB lo hi n = false from decide_eq_false (fun h => c1 h.1))
    go_enter Tryz.func54, Tryz.ntmps54
    go_wp2
    go_ret
    exact ⟨ret_bool HR.out.symm, rfl⟩

end Go.Proofs.YtallpldgkkpikaaGreatDoor

namespace Go.Proofs.YtallpldgkkpikaaGreatDoor
open Go.RowKit Go.Shelf

abbrev Lk.val (k : Lk) : Value := .agg #[.string k.who, .string k.to, .int .i64 k.se, .int .i64 k.fr, .int .i64 k.un]
/-- Its texts are no longer than a text may be. -/
def Lk.fits (k : Lk) : Prop := k.who.size ≤ maxLen ∧ k.to.size ≤ maxLen
/-- A link lies in memory. -/
def LkAt (w : World) (b o : Nat) (k : Lk) : Prop := w.cell? ⟨b, o, none⟩ = some (.string k.who) ∧ w.cell? ⟨b, o + 1, none⟩ = some (.string k.to) ∧ w.cell? ⟨b, o + 2, none⟩ = some (.int .i64 k.se) ∧ w.cell? ⟨b, o + 3, none⟩ = some (.int .i64 k.fr) ∧ w.cell? ⟨b, o + 4, none⟩ = some (.int .i64 k.un)
/-- A slice reads as this list of links. -/
def LkS (w : World) (v : Value) (ks : List Lk) : Prop :=
  (∃ a cap, v = .slice a 0 cap ∧ ks = []) ∨
  ∃ b off cap, v = .slice (some ⟨b, off, none⟩) ks.length cap ∧ b < w.heap.size ∧ ks.length ≤ cap ∧ ∀ i (h : i < ks.length), LkAt w b (off + i * 5) ks[i]
theorem LkAt.below {w w' : World} {b o : Nat} {k : Lk} (h : LkAt w b o k) (hb : b < w.heap.size) (hB : Below w.heap.size w w') : LkAt w' b o k :=
  ⟨(hB.cell (p := ⟨b, o, none⟩) hb).trans h.1, (hB.cell (p := ⟨b, o + 1, none⟩) hb).trans h.2.1, (hB.cell (p := ⟨b, o + 2, none⟩) hb).trans h.2.2.1, (hB.cell (p := ⟨b, o + 3, none⟩) hb).trans h.2.2.2.1, (hB.cell (p := ⟨b, o + 4, none⟩) hb).trans h.2.2.2.2⟩
theorem LkS.below {w w' : World} {v : Value} {ks : List Lk} (h : LkS w v ks) (hB : Below w.heap.size w w') : LkS w' v ks := by
  rcases h with h | ⟨b, off, cap, hv, hb, hl, hc⟩
  · exact .inl h
  · exact .inr ⟨b, off, cap, hv, Nat.lt_of_lt_of_le hb hB.size, hl, fun k hk => (hc k hk).below hb hB⟩
theorem LkS.len {w : World} {v : Value} {ks : List Lk} (h : LkS w v ks) : ∃ a cap, v = .slice a ks.length cap := by
  rcases h with ⟨a, cap, hv, rfl⟩ | ⟨b, off, cap, hv, _⟩
  · exact ⟨a, cap, hv⟩
  · exact ⟨_, cap, hv⟩
theorem LkS.at {w : World} {a : Option Addr} {n cap : Nat} {ks : List Lk} (h : LkS w (.slice a n cap) ks) {i : Nat} (hi : i < ks.length) : ∃ b off, a = some ⟨b, off, none⟩ ∧ b < w.heap.size ∧ n ≤ cap ∧ LkAt w b (off + i * 5) ks[i] := by
  rcases h with ⟨_, _, _, rfl⟩ | ⟨b, off, cap, hv, hb, hl, hc⟩
  · simp at hi
  · cases hv
    exact ⟨b, off, rfl, hb, hl, hc i hi⟩
/-- The first ones of a list. -/
theorem LkS.take {w : World} {b off n cap : Nat} {ks : List Lk} (h : LkS w (.slice (some ⟨b, off, none⟩) n cap) ks) (m c : Nat) (hm : m ≤ ks.length) (hc : m ≤ c) : LkS w (.slice (some ⟨b, off, none⟩) m c) (ks.take m) := by
  rcases h with ⟨_, _, hv, rfl⟩ | ⟨b', off', cap', hv, hb, hl, hat⟩
  · exact .inl ⟨_, _, by simp at hm; subst hm; rfl, by simp⟩
  · cases hv
    refine .inr ⟨b, off, c, by rw [List.length_take, Nat.min_eq_left hm], hb, by rw [List.length_take]; omega, fun i hi => ?_⟩
    rw [List.length_take] at hi
    rw [List.getElem_take]
    exact hat i (by omega)

def lzTo (ks : List Lk) (n : Nat) : Nat := ((ks.take n).map Lk.size).sum
def lzAll (ks : List Lk) : Nat := ks.length + lzTo ks ks.length
theorem lzTo_zero (ks : List Lk) : lzTo ks 0 = 0 := by simp [lzTo]
theorem lzTo_succ {ks : List Lk} {n : Nat} (h : n < ks.length) : lzTo ks (n + 1) = lzTo ks n + ks[n].size := by
  unfold lzTo
  rw [List.take_succ_eq_append_getElem h, List.map_append, List.sum_append]
  simp
theorem lzTo_le (ks : List Lk) (n : Nat) : lzTo ks n ≤ lzTo ks ks.length := by
  unfold lzTo
  rw [List.take_length]
  conv => rhs; rw [← List.take_append_drop n ks, List.map_append, List.sum_append]
  omega
theorem lz_mem {ks : List Lk} {k : Lk} (h : k ∈ ks) : k.size ≤ lzTo ks ks.length := by
  unfold lzTo
  rw [List.take_length]
  exact sum_mem (List.mem_map.2 ⟨k, h, rfl⟩)
/-- What is left of a budget behind a link, and behind a list. -/
def left2 (n : Int) (a b : Nat) : Int := if (a : Int) + b ≤ n then n - a - b else -1
def leftL (n : Int) (ks : List Lk) : Int := if (lzAll ks : Int) ≤ n then n - lzAll ks else -1

abbrev Lk.cells (k : Lk) : List Value := [.string k.who, .string k.to, .int .i64 k.se, .int .i64 k.fr, .int .i64 k.un]
theorem lflat_len (ks : List Lk) : (ks.flatMap Lk.cells).length = ks.length * 5 := by
  induction ks with
  | nil => rfl
  | cons r rs ih => rw [List.flatMap_cons, List.length_append, ih]; simp; omega
theorem lflat_at (rs : List Lk) : ∀ (k j : Nat) (h : k < rs.length), j < 5 → (rs.flatMap Lk.cells)[k * 5 + j]? = rs[k].cells[j]? := by
  induction rs with
  | nil => intro k j h; simp at h
  | cons r rs ih =>
    intro k j h hj
    rw [List.flatMap_cons]
    cases k with
    | zero => rw [List.getElem?_append_left (by simp; omega)]; simp
    | succ k =>
      rw [List.getElem?_append_right (by simp; omega)]
      have := ih k j (by simpa using h) hj
      rw [show (k + 1) * 5 + j - r.cells.length = k * 5 + j by simp; omega]
      simpa using this
/-- A slice of links of one's own reads as its list. -/
theorem LkS.own {w : World} {base : Nat} {v : Value} {rs : List Lk} (h : w.ownsRow base 38 5 v rs.length (rs.flatMap Lk.cells)) : LkS w v rs := by
  rcases h.2 with ⟨rfl, h0⟩ | ⟨g, cap, cur, rfl, hg, hb, hle, _⟩
  · exact .inl ⟨none, 0, rfl, List.eq_nil_of_length_eq_zero h0⟩
  · refine .inr ⟨g, 0, cap, rfl, (Array.getElem?_eq_some_iff.1 hb).1, hle, fun k hk => ?_⟩
    have hc : ∀ j, j < 5 → w.cell? ⟨g, k * 5 + j, none⟩ = rs[k].cells[j]? := fun j hj => by rw [h.cellAt (k * 5 + j) (by omega), lflat_at rs k j hk hj]
    have h0 := hc 0 (by omega)
    have h1 := hc 1 (by omega)
    have h2 := hc 2 (by omega)
    have h3 := hc 3 (by omega)
    have h4 := hc 4 (by omega)
    simp only [Nat.add_zero, List.getElem?_cons_zero, List.getElem?_cons_succ] at h0 h1 h2 h3 h4
    exact ⟨by rw [Nat.zero_add]; exact h0, by rw [Nat.zero_add]; exact h1, by rw [Nat.zero_add]; exact h2, by rw [Nat.zero_add]; exact h3, by rw [Nat.zero_add]; exact h4⟩
theorem take_set5 {α : Type} (xs : List α) (k : Nat) (a b c d e : α) (h : k * 5 + 5 ≤ xs.length) : (((((xs.set (k * 5) a).set (k * 5 + 1) b).set (k * 5 + 2) c).set (k * 5 + 3) d).set (k * 5 + 4) e).take ((k + 1) * 5) = xs.take (k * 5) ++ [a, b, c, d, e] := by
  apply List.ext_getElem?
  intro i
  rw [List.getElem?_take]
  by_cases h1 : i < k * 5
  · rw [if_pos (by omega), List.getElem?_append_left (by rw [List.length_take]; omega), List.getElem?_take, if_pos h1]
    rw [List.getElem?_set_ne (by omega), List.getElem?_set_ne (by omega), List.getElem?_set_ne (by omega), List.getElem?_set_ne (by omega), List.getElem?_set_ne (by omega)]
  · by_cases h2 : i < (k + 1) * 5
    · rw [if_pos h2, List.getElem?_append_right (by rw [List.length_take]; omega)]
      have hl : (xs.take (k * 5)).length = k * 5 := by rw [List.length_take]; omega
      rw [hl]
      obtain h | h | h | h | h : i = k * 5 ∨ i = k * 5 + 1 ∨ i = k * 5 + 2 ∨ i = k * 5 + 3 ∨ i = k * 5 + 4 := by omega
      all_goals subst h
      · rw [List.getElem?_set_ne (by omega), List.getElem?_set_ne (by omega), List.getElem?_set_ne (by omega), List.getElem?_set_ne (by omega), List.getElem?_set_self (by omega)]
        simp
      · rw [List.getElem?_set_ne (by omega), List.getElem?_set_ne (by omega), List.getElem?_set_ne (by omega), List.getElem?_set_self (by simp; omega)]
        simp
      · rw [List.getElem?_set_ne (by omega), List.getElem?_set_ne (by omega), List.getElem?_set_self (by simp; omega)]
        simp
      · rw [List.getElem?_set_ne (by omega), List.getElem?_set_self (by simp; omega)]
        simp
      · rw [List.getElem?_set_self (by simp; omega)]
        simp
    · rw [if_neg h2, List.getElem?_eq_none (by rw [List.length_append, List.length_take]; simp; omega)]
theorem infoLink : (Tryz.prog.info? 38).map (fun i => (i.zero, i.size, i.bytes)) = some (some (.agg #[.string ByteArray.empty, .string ByteArray.empty, .int .i64 0, .int .i64 0, .int .i64 0]), 5, 56) := by kernel_rfl

end Go.Proofs.YtallpldgkkpikaaGreatDoor

namespace Go.Proofs.YtallpldgkkpikaaGreatDoor
open Go.RowKit Go.Shelf

/-- A row of texts, cell by cell. -/
theorem row_cell {w : World} {base g cap : Nat} {xs : List ByteArray} (hrow : w.ownsRow base 9 1 (.slice (some ⟨g, 0, none⟩) xs.length cap) xs.length (xs.map Value.string)) (k : Nat) (h : k < xs.length) : w.cell? ⟨g, k, none⟩ = some (.string xs[k]) := by
  rw [hrow.cellAt k (by omega)]
  simp [h]

set_option maxHeartbeats 400000 in
theorem allPlain_any (v : Value) (xs : List ByteArray) (base : Nat) (w : World) (hl : xs.length ≤ 1048577) (hrow : w.ownsRow base 9 1 v xs.length (xs.map Value.string)) :
    Calls Tryz.prog 60 #[v] w fun e w' => e = .returned (.bool (xs.all wordB)) ∧ w' = w := by
  obtain ⟨a, cap, rfl⟩ := ownsRow_len hrow
  go_enter Tryz.func60, Tryz.ntmps60
  go_wp2
  go_loop [7] (fun i => ∃ k : Nat, k ≤ xs.length ∧ i = .int .i64 k ∧ allTo xs k = true) (fun i => xs.length - (intOf i).toNat)
  case atStart => exact ⟨0, Nat.zero_le _, rfl, allTo_zero xs⟩
  case round =>
    obtain ⟨k, hk, rfl, hw⟩ := hrel
    have HW : Hid (allTo xs k = true) := hw
    clear hw
    by_cases hlt : k < xs.length
    · obtain ⟨g, rfl⟩ : ∃ g, a = some ⟨g, 0, none⟩ := by
        rcases hrow.2 with ⟨_, h0⟩ | ⟨g, _, _, hv, _⟩
        · omega
        · cases hv; exact ⟨g, rfl⟩
      have hc := row_cell hrow k hlt
      by_cases hb : wordB xs[k] = true
      · go_wp2_with (go_at_call 83; refine (plainWord_any _ _).mono ?_; rintro e w' ⟨rfl, rfl⟩)
        exact ⟨⟨k + 1, by omega, by go_num, by rw [allTo_succ xs k hlt, HW.out, hb]; rfl⟩, by simp [intOf]; omega⟩
      · have hb' : wordB xs[k] = false := by simpa using hb
        have HB : Hid (xs.all wordB = false) := all_bad xs k hlt hb'
        clear hb
        go_wp2_with (go_at_call 83; refine (plainWord_any _ _).mono ?_; rintro e w' ⟨rfl, rfl⟩)
        go_ret
        exact ⟨ret_bool HB.out.symm, rfl⟩
    · obtain rfl : k = xs.length := by omega
      go_wp2
      go_ret
      exact ⟨ret_bool (by rw [← allTo_end, HW.out]), rfl⟩

theorem gnB_two (x y : ByteArray) : gnB [x, y] = (wordB x && wordB y) := by simp [gnB]
theorem gnB_no {l : List ByteArray} (h : ¬ l.length = 2) : gnB l = false := by simp [gnB, h]
theorem gnB_nm (l : List ByteArray) (h : nmB l = true) : gnB l = l.all wordB := by
  rw [nmB_eq] at h
  simp at h
  simp [gnB, h.1]
theorem gnB_not (l : List ByteArray) (h : nmB l = false) : gnB l = false := by
  rw [nmB_eq] at h
  cases e : gnB l with
  | false => rfl
  | true =>
    simp [gnB] at e
    have : l.all wsB = true := by
      rw [List.all_eq_true]
      intro x hx
      simp [wsB, e.2 x hx]
    rw [this] at h
    simp [e.1] at h
theorem two_of {l : List ByteArray} (h : l.length = 2) : ∃ x y, l = [x, y] := by
  match l, h with
  | [x, y], _ => exact ⟨x, y, rfl⟩

/-- A row of two texts. -/
theorem row_two {w : World} {base : Nat} {v : Value} {x y : ByteArray} (hrow : w.ownsRow base 9 1 v [x, y].length ([x, y].map Value.string)) : ∃ g cap, v = .slice (some ⟨g, 0, none⟩) 2 cap ∧ w.cell? ⟨g, 0, none⟩ = some (.string x) ∧ w.cell? ⟨g, 1, none⟩ = some (.string y) := by
  obtain ⟨g, cap, rfl⟩ := ownsRow_succ hrow
  exact ⟨g, cap, rfl, row_cell (xs := [x, y]) hrow 0 (by simp), row_cell (xs := [x, y]) hrow 1 (by simp)⟩

set_option maxHeartbeats 1000000 in
theorem specGoodName_any (s : ByteArray) (w : World) (hs : s.size ≤ 1048576) :
    Calls Tryz.prog 20 #[.string s] w fun e w' => e = .returned (.bool (gnB (split s 47))) ∧ Below w.heap.size w w' := by
  by_cases h2 : (split s 47).length = 2
  · obtain ⟨x, y, he⟩ := two_of h2
    have hx : x.size ≤ 1048576 := Nat.le_trans (split_size s 47 x (by rw [he]; simp)) hs
    have hy : y.size ≤ 1048576 := Nat.le_trans (split_size s 47 y (by rw [he]; simp)) hs
    have HE : Hid (split s 47 = [x, y]) := he
    clear he h2
    by_cases hb : wordB x = true
    · have HG : Hid (gnB (split s 47) = wordB y) := by rw [HE.out, gnB_two, hb]; rfl
      go_enter Tryz.func20, Tryz.ntmps20
      go_wp2_with (first | (go_at_call 55; refine (l1Split_any s 47 47 rfl _ hs).mono ?_; rintro e w1 ⟨v, rfl, hrow, hB⟩; rw [HE.out] at hrow; obtain ⟨g, cap, rfl, hc0, hc1⟩ := row_two hrow) | (go_at_call 56; refine (l1Word_any _ _ (by first | exact hx | exact hy)).mono ?_; rintro e w' ⟨rfl, rfl⟩))
      go_ret
      exact ⟨ret_bool HG.out.symm, hB⟩
    · have hb' : wordB x = false := by simpa using hb
      have HG : Hid (gnB (split s 47) = false) := by rw [HE.out, gnB_two, hb']; rfl
      clear hb
      go_enter Tryz.func20, Tryz.ntmps20
      go_wp2_with (first | (go_at_call 55; refine (l1Split_any s 47 47 rfl _ hs).mono ?_; rintro e w1 ⟨v, rfl, hrow, hB⟩; rw [HE.out] at hrow; obtain ⟨g, cap, rfl, hc0, hc1⟩ := row_two hrow) | (go_at_call 56; refine (l1Word_any _ _ (by first | exact hx | exact hy)).mono ?_; rintro e w' ⟨rfl, rfl⟩))
      go_ret
      exact ⟨ret_bool HG.out.symm, hB⟩
  · have HG : Hid (gnB (split s 47) = false) := gnB_no h2
    have e1 : (((split s 47).length : Int) == 2) = false := by simp; omega
    clear h2
    go_enter Tryz.func20, Tryz.ntmps20
    go_wp2_with (go_at_call 55; refine (l1Split_any s 47 47 rfl _ hs).mono ?_; rintro e w1 ⟨v, rfl, hrow, hB⟩; obtain ⟨a, cap, rfl⟩ := ownsRow_len hrow)
    go_ret
    exact ⟨ret_bool HG.out.symm, hB⟩

set_option maxHeartbeats 1000000 in
theorem implGoodName_any (s : ByteArray) (w : World) (hs : s.size ≤ 1048576) :
    Calls Tryz.prog 31 #[.string s] w fun e w' => e = .returned (.bool (gnB (split s 47))) ∧ Below w.heap.size w w' := by
  have hl : (split s 47).length ≤ 1048577 := Nat.le_trans (split_len s 47) (by omega)
  by_cases hn : nmB (split s 47) = true
  · have HG : Hid (gnB (split s 47) = (nmL (split s 47)).all wordB) := by rw [nmL_yes hn]; exact gnB_nm _ hn
    have hl2 : (nmL (split s 47)).length ≤ 1048577 := by rw [nmL_yes hn]; exact hl
    clear hl
    go_enter Tryz.func31, Tryz.ntmps31
    go_wp2_with (first | (go_at_call 59; refine (wordsOfName_any s _ hs).mono ?_; rintro e w1 ⟨v, rfl, hrow, hB⟩) | (go_at_call 60; refine (allPlain_any _ _ _ _ hl2 hrow).mono ?_; rintro e w' ⟨rfl, rfl⟩))
    go_ret
    exact ⟨ret_bool HG.out.symm, hB⟩
  · have hn' : nmB (split s 47) = false := by simpa using hn
    have HG : Hid (gnB (split s 47) = false) := gnB_not _ hn'
    clear hn
    go_enter Tryz.func31, Tryz.ntmps31
    go_wp2_with (go_at_call 59; refine (wordsOfName_any s _ hs).mono ?_; rintro e w1 ⟨v, rfl, hrow, hB⟩)
    go_ret
    exact ⟨ret_bool HG.out.symm, hB⟩

end Go.Proofs.YtallpldgkkpikaaGreatDoor

namespace Go.Proofs.YtallpldgkkpikaaGreatDoor
open Go.RowKit Go.Shelf

theorem goodTime_any (n : Int) (w : World) :
    Calls Tryz.prog 33 #[.int .i64 n] w fun e w' => e = .returned (.bool (tmB n)) ∧ w' = w := by
  by_cases c1 : 0 ≤ n
  · by_cases c2 : n ≤ 100000
    · have HR := hid (show tmB n = true from decide_eq_true ⟨c1, c2⟩)
      go_enter Tryz.func33, Tryz.ntmps33
      go_wp2
      go_ret
      exact ⟨ret_bool HR.out.symm, rfl⟩
    · have HR := hid (show tmB n = false from decide_eq_false (fun h => c2 h.2))
      go_enter Tryz.func33, Tryz.ntmps33
      go_wp2
      go_ret
      exact ⟨ret_bool HR.out.symm, rfl⟩
  · have HR := hid (show tmB n = false from decide_eq_false (fun h => c1 h.1))
    go_enter Tryz.func33, Tryz.ntmps33
    go_wp2
    go_ret
    exact ⟨ret_bool HR.out.symm, rfl⟩

theorem goodSerial_any (n : Int) (w : World) :
    Calls Tryz.prog 103 #[.int .i64 n] w fun e w' => e = .returned (.bool (seB n)) ∧ w' = w := by
  by_cases c1 : 1 ≤ n
  · by_cases c2 : n ≤ 100000
    · have HR := hid (show seB n = true from decide_eq_true ⟨c1, c2⟩)
      go_enter Tryz.func103, Tryz.ntmps103
      go_wp2
      go_ret
      exact ⟨ret_bool HR.out.symm, rfl⟩
    · have HR := hid (show seB n = false from decide_eq_false (fun h => c2 h.2))
      go_enter Tryz.func103, Tryz.ntmps103
      go_wp2
      go_ret
      exact ⟨ret_bool HR.out.symm, rfl⟩
  · have HR := hid (show seB n = false from decide_eq_false (fun h => c1 h.1))
    go_enter Tryz.func103, Tryz.ntmps103
    go_wp2
    go_ret
    exact ⟨ret_bool HR.out.symm, rfl⟩

/-- A link as a hop. -/
abbrev Lk.hop (k : Lk) : Value := .agg #[.string k.who, .string k.to, .int .i64 k.fr, .int .i64 k.un, .int .i64 k.se]

set_option maxHeartbeats 1000000 in
theorem hopOf_any (k : Lk) (w : World) :
    Calls Tryz.prog 84 #[k.val] w fun e w' => e = .returned k.hop ∧ Below w.heap.size w w' := by
  go_enter Tryz.func84, Tryz.ntmps84
  go_wp2
  exact bodyPost_ret (v := k.hop) (by simp [results, Tryz.results84, go_sem]) rfl ⟨rfl, ((Below.refl _ w).alloc (Nat.le_refl _) _).alloc (by simp) _⟩

set_option maxHeartbeats 1000000 in
theorem link_any (k : Lk) (w : World) :
    Calls Tryz.prog 52 #[k.hop] w fun e w' => e = .returned k.val ∧ Below w.heap.size w w' := by
  go_enter Tryz.func52, Tryz.ntmps52
  go_wp2
  exact bodyPost_ret (v := k.val) (by simp [results, Tryz.results52, go_sem]) rfl ⟨rfl, ((Below.refl _ w).alloc (Nat.le_refl _) _).alloc (by simp) _⟩

set_option maxHeartbeats 1000000 in
theorem named_any (a b : ByteArray) (w : World) (hs : a.size ≤ 1048576) (ht : b.size ≤ 1048576) :
    Calls Tryz.prog 49 #[.agg #[.string a, .string b]] w fun e w' => e = .returned (.bool (nmOk a && nmOk b)) ∧ Below w.heap.size w w' := by
  cases h1 : gnB (split a 47)
  · have HR := hid (show (nmOk a && nmOk b) = false by unfold nmOk; rw [h1]; rfl)
    go_enter Tryz.func49, Tryz.ntmps49
    go_wp2_with (first | (go_at_call 31; first | (have hz1 := hz; refine (implGoodName_any b _ ht).mono ?_; rintro e w2 ⟨rfl, hB2⟩) | (refine (implGoodName_any a _ hs).mono ?_; rintro e w1 ⟨rfl, hB1⟩; obtain ⟨hc1, hf1⟩ := bcell hB1; have hz : w.heap.size < w1.heap.size := (by have := hB1.size; simp at this; omega))))
    go_ret
    exact ⟨ret_bool HR.out.symm, below_one ((Below.refl _ w).alloc (Nat.le_refl _) _) hB1⟩
  · cases h2 : gnB (split b 47)
    · have HR := hid (show (nmOk a && nmOk b) = false by unfold nmOk; rw [h1, h2]; rfl)
      go_enter Tryz.func49, Tryz.ntmps49
      go_wp2_with (first | (go_at_call 31; first | (have hz1 := hz; refine (implGoodName_any b _ ht).mono ?_; rintro e w2 ⟨rfl, hB2⟩) | (refine (implGoodName_any a _ hs).mono ?_; rintro e w1 ⟨rfl, hB1⟩; obtain ⟨hc1, hf1⟩ := bcell hB1; have hz : w.heap.size < w1.heap.size := (by have := hB1.size; simp at this; omega))))
      go_ret
      exact ⟨ret_bool HR.out.symm, below_two ((Below.refl _ w).alloc (Nat.le_refl _) _) hB1 hB2⟩
    · have HR := hid (show (nmOk a && nmOk b) = true by unfold nmOk; rw [h1, h2]; rfl)
      go_enter Tryz.func49, Tryz.ntmps49
      go_wp2_with (first | (go_at_call 31; first | (have hz1 := hz; refine (implGoodName_any b _ ht).mono ?_; rintro e w2 ⟨rfl, hB2⟩) | (refine (implGoodName_any a _ hs).mono ?_; rintro e w1 ⟨rfl, hB1⟩; obtain ⟨hc1, hf1⟩ := bcell hB1; have hz : w.heap.size < w1.heap.size := (by have := hB1.size; simp at this; omega))))
      go_ret
      exact ⟨ret_bool HR.out.symm, below_two ((Below.refl _ w).alloc (Nat.le_refl _) _) hB1 hB2⟩

def timB (a b : Int) : Bool := tmB a && (tmB b && decide (a ≤ b))

set_option maxHeartbeats 1000000 in
theorem timed_any (a b : Int) (w : World) :
    Calls Tryz.prog 102 #[.agg #[.int .i64 a, .int .i64 b]] w fun e w' => e = .returned (.bool (timB a b)) ∧ Below w.heap.size w w' := by
  cases h1 : tmB a
  · have HR := hid (show timB a b = false by unfold timB; rw [h1]; rfl)
    go_enter Tryz.func102, Tryz.ntmps102
    go_wp2_with (go_at_call 33; refine (goodTime_any _ _).mono ?_; rintro e w1 ⟨rfl, rfl⟩)
    go_ret
    exact ⟨ret_bool HR.out.symm, (Below.refl _ w).alloc (Nat.le_refl _) _⟩
  · cases h2 : tmB b
    · have HR := hid (show timB a b = false by unfold timB; rw [h1, h2]; rfl)
      go_enter Tryz.func102, Tryz.ntmps102
      go_wp2_with (go_at_call 33; refine (goodTime_any _ _).mono ?_; rintro e w1 ⟨rfl, rfl⟩)
      go_ret
      exact ⟨ret_bool HR.out.symm, (Below.refl _ w).alloc (Nat.le_refl _) _⟩
    · cases h3 : decide (a ≤ b)
      · have HR := hid (show timB a b = false by unfold timB; rw [h1, h2, h3]; rfl)
        go_enter Tryz.func102, Tryz.ntmps102
        go_wp2_with (go_at_call 33; refine (goodTime_any _ _).mono ?_; rintro e w1 ⟨rfl, rfl⟩)
        go_ret
        exact ⟨ret_bool HR.out.symm, (Below.refl _ w).alloc (Nat.le_refl _) _⟩
      · have HR := hid (show timB a b = true by unfold timB; rw [h1, h2, h3]; rfl)
        go_enter Tryz.func102, Tryz.ntmps102
        go_wp2_with (go_at_call 33; refine (goodTime_any _ _).mono ?_; rintro e w1 ⟨rfl, rfl⟩)
        go_ret
        exact ⟨ret_bool HR.out.symm, (Below.refl _ w).alloc (Nat.le_refl _) _⟩

theorem good_parts (k : Lk) : k.good = ((nmOk k.who && nmOk k.to) && (timB k.fr k.un && seB k.se)) := by
  unfold Lk.good timB
  cases nmOk k.who <;> cases nmOk k.to <;> cases seB k.se <;> cases tmB k.fr <;> cases tmB k.un <;> cases decide (k.fr ≤ k.un) <;> rfl

set_option maxHeartbeats 1000000 in
theorem hopGood_any (k : Lk) (w : World) (hs : k.who.size ≤ 1048576) (ht : k.to.size ≤ 1048576) :
    Calls Tryz.prog 85 #[k.hop] w fun e w' => e = .returned (.bool k.good) ∧ Below w.heap.size w w' := by
  have HP := hid (good_parts k)
  cases h1 : (nmOk k.who && nmOk k.to)
  · have HR := hid (show k.good = false by rw [HP.out, h1]; rfl)
    go_enter Tryz.func85, Tryz.ntmps85
    go_wp2_with (first | (go_at_call 49; refine (named_any k.who k.to _ hs ht).mono ?_; rintro e w1 ⟨rfl, hB1⟩; obtain ⟨hc1, hf1⟩ := bcell hB1; have hz : w.heap.size < w1.heap.size := (by have := hB1.size; simp at this; omega)) | (go_at_call 102; refine (timed_any k.fr k.un _).mono ?_; rintro e w2 ⟨rfl, hB2⟩; obtain ⟨hc2, hf2⟩ := bcell hB2; have hz2 := Nat.lt_of_lt_of_le hz hB2.size) | (go_at_call 103; refine (goodSerial_any _ _).mono ?_; rintro e w3 ⟨rfl, rfl⟩))
    go_ret
    exact ⟨ret_bool HR.out.symm, below_one ((Below.refl _ w).alloc (Nat.le_refl _) _) hB1⟩
  · cases h2 : timB k.fr k.un
    · have HR := hid (show k.good = false by rw [HP.out, h1, h2]; rfl)
      go_enter Tryz.func85, Tryz.ntmps85
      go_wp2_with (first | (go_at_call 49; refine (named_any k.who k.to _ hs ht).mono ?_; rintro e w1 ⟨rfl, hB1⟩; obtain ⟨hc1, hf1⟩ := bcell hB1; have hz : w.heap.size < w1.heap.size := (by have := hB1.size; simp at this; omega)) | (go_at_call 102; refine (timed_any k.fr k.un _).mono ?_; rintro e w2 ⟨rfl, hB2⟩; obtain ⟨hc2, hf2⟩ := bcell hB2; have hz2 := Nat.lt_of_lt_of_le hz hB2.size) | (go_at_call 103; refine (goodSerial_any _ _).mono ?_; rintro e w3 ⟨rfl, rfl⟩))
      go_ret
      exact ⟨ret_bool HR.out.symm, below_two ((Below.refl _ w).alloc (Nat.le_refl _) _) hB1 hB2⟩
    · have HR := hid (show k.good = seB k.se by rw [HP.out, h1, h2]; rfl)
      go_enter Tryz.func85, Tryz.ntmps85
      go_wp2_with (first | (go_at_call 49; refine (named_any k.who k.to _ hs ht).mono ?_; rintro e w1 ⟨rfl, hB1⟩; obtain ⟨hc1, hf1⟩ := bcell hB1; have hz : w.heap.size < w1.heap.size := (by have := hB1.size; simp at this; omega)) | (go_at_call 102; refine (timed_any k.fr k.un _).mono ?_; rintro e w2 ⟨rfl, hB2⟩; obtain ⟨hc2, hf2⟩ := bcell hB2; have hz2 := Nat.lt_of_lt_of_le hz hB2.size) | (go_at_call 103; refine (goodSerial_any _ _).mono ?_; rintro e w3 ⟨rfl, rfl⟩))
      go_ret
      exact ⟨ret_bool HR.out.symm, below_two ((Below.refl _ w).alloc (Nat.le_refl _) _) hB1 hB2⟩

end Go.Proofs.YtallpldgkkpikaaGreatDoor

namespace Go.Proofs.YtallpldgkkpikaaGreatDoor
open Go.RowKit Go.Shelf

theorem l3Time_any (n : Int) (w : World) :
    Calls Tryz.prog 21 #[.int .i64 n] w fun e w' => e = .returned (.bool (tmB n)) ∧ w' = w := by
  go_enter Tryz.func21, Tryz.ntmps21
  go_wp2_with (go_at_call 54; refine (l1In_any n 0 100000 _).mono ?_; rintro e w1 ⟨rfl, rfl⟩)
  go_ret
  exact ⟨ret_bool (show inB 0 100000 n = tmB n from rfl), rfl⟩

theorem l3Serial_any (n : Int) (w : World) :
    Calls Tryz.prog 96 #[.int .i64 n] w fun e w' => e = .returned (.bool (seB n)) ∧ w' = w := by
  go_enter Tryz.func96, Tryz.ntmps96
  go_wp2_with (go_at_call 54; refine (l1In_any n 1 100000 _).mono ?_; rintro e w1 ⟨rfl, rfl⟩)
  go_ret
  exact ⟨ret_bool (show inB 1 100000 n = seB n from rfl), rfl⟩

set_option maxHeartbeats 1000000 in
theorem l3Link_any (k : Lk) (w : World) (hs : k.who.size ≤ 1048576) (ht : k.to.size ≤ 1048576) :
    Calls Tryz.prog 95 #[k.val] w fun e w' => e = .returned (.bool k.good) ∧ Below w.heap.size w w' := by
  cases h1 : gnB (split k.who 47)
  · have HR := hid (show k.good = false by unfold Lk.good nmOk; rw [h1]; rfl)
    go_enter Tryz.func95, Tryz.ntmps95
    go_wp2_with (first | (go_at_call 20; first | (have hz1 := hz; refine (specGoodName_any k.to _ ht).mono ?_; rintro e w2 ⟨rfl, hB2⟩; obtain ⟨hc2, hf2⟩ := bcell hB2; have hz2 := Nat.lt_of_lt_of_le hz hB2.size) | (refine (specGoodName_any k.who _ hs).mono ?_; rintro e w1 ⟨rfl, hB1⟩; obtain ⟨hc1, hf1⟩ := bcell hB1; have hz : w.heap.size < w1.heap.size := (by have := hB1.size; simp at this; omega))) | (go_at_call 96; refine (l3Serial_any _ _).mono ?_; rintro e w3 ⟨rfl, rfl⟩) | (go_at_call 21; refine (l3Time_any _ _).mono ?_; rintro e w3 ⟨rfl, rfl⟩))
    go_ret
    exact ⟨ret_bool HR.out.symm, below_one ((Below.refl _ w).alloc (Nat.le_refl _) _) hB1⟩
  · cases h2 : gnB (split k.to 47)
    · have HR := hid (show k.good = false by unfold Lk.good nmOk; rw [h1, h2]; rfl)
      go_enter Tryz.func95, Tryz.ntmps95
      go_wp2_with (first | (go_at_call 20; first | (have hz1 := hz; refine (specGoodName_any k.to _ ht).mono ?_; rintro e w2 ⟨rfl, hB2⟩; obtain ⟨hc2, hf2⟩ := bcell hB2; have hz2 := Nat.lt_of_lt_of_le hz hB2.size) | (refine (specGoodName_any k.who _ hs).mono ?_; rintro e w1 ⟨rfl, hB1⟩; obtain ⟨hc1, hf1⟩ := bcell hB1; have hz : w.heap.size < w1.heap.size := (by have := hB1.size; simp at this; omega))) | (go_at_call 96; refine (l3Serial_any _ _).mono ?_; rintro e w3 ⟨rfl, rfl⟩) | (go_at_call 21; refine (l3Time_any _ _).mono ?_; rintro e w3 ⟨rfl, rfl⟩))
      go_ret
      exact ⟨ret_bool HR.out.symm, below_two ((Below.refl _ w).alloc (Nat.le_refl _) _) hB1 hB2⟩
    · cases h3 : seB k.se
      · have HR := hid (show k.good = false by unfold Lk.good nmOk; rw [h1, h2, h3]; rfl)
        go_enter Tryz.func95, Tryz.ntmps95
        go_wp2_with (first | (go_at_call 20; first | (have hz1 := hz; refine (specGoodName_any k.to _ ht).mono ?_; rintro e w2 ⟨rfl, hB2⟩; obtain ⟨hc2, hf2⟩ := bcell hB2; have hz2 := Nat.lt_of_lt_of_le hz hB2.size) | (refine (specGoodName_any k.who _ hs).mono ?_; rintro e w1 ⟨rfl, hB1⟩; obtain ⟨hc1, hf1⟩ := bcell hB1; have hz : w.heap.size < w1.heap.size := (by have := hB1.size; simp at this; omega))) | (go_at_call 96; refine (l3Serial_any _ _).mono ?_; rintro e w3 ⟨rfl, rfl⟩) | (go_at_call 21; refine (l3Time_any _ _).mono ?_; rintro e w3 ⟨rfl, rfl⟩))
        go_ret
        exact ⟨ret_bool HR.out.symm, below_two ((Below.refl _ w).alloc (Nat.le_refl _) _) hB1 hB2⟩
      · cases h4 : tmB k.fr
        · have HR := hid (show k.good = false by unfold Lk.good nmOk; rw [h1, h2, h3, h4]; rfl)
          go_enter Tryz.func95, Tryz.ntmps95
          go_wp2_with (first | (go_at_call 20; first | (have hz1 := hz; refine (specGoodName_any k.to _ ht).mono ?_; rintro e w2 ⟨rfl, hB2⟩; obtain ⟨hc2, hf2⟩ := bcell hB2; have hz2 := Nat.lt_of_lt_of_le hz hB2.size) | (refine (specGoodName_any k.who _ hs).mono ?_; rintro e w1 ⟨rfl, hB1⟩; obtain ⟨hc1, hf1⟩ := bcell hB1; have hz : w.heap.size < w1.heap.size := (by have := hB1.size; simp at this; omega))) | (go_at_call 96; refine (l3Serial_any _ _).mono ?_; rintro e w3 ⟨rfl, rfl⟩) | (go_at_call 21; refine (l3Time_any _ _).mono ?_; rintro e w3 ⟨rfl, rfl⟩))
          go_ret
          exact ⟨ret_bool HR.out.symm, below_two ((Below.refl _ w).alloc (Nat.le_refl _) _) hB1 hB2⟩
        · cases h5 : tmB k.un
          · have HR := hid (show k.good = false by unfold Lk.good nmOk; rw [h1, h2, h3, h4, h5]; rfl)
            go_enter Tryz.func95, Tryz.ntmps95
            go_wp2_with (first | (go_at_call 20; first | (have hz1 := hz; refine (specGoodName_any k.to _ ht).mono ?_; rintro e w2 ⟨rfl, hB2⟩; obtain ⟨hc2, hf2⟩ := bcell hB2; have hz2 := Nat.lt_of_lt_of_le hz hB2.size) | (refine (specGoodName_any k.who _ hs).mono ?_; rintro e w1 ⟨rfl, hB1⟩; obtain ⟨hc1, hf1⟩ := bcell hB1; have hz : w.heap.size < w1.heap.size := (by have := hB1.size; simp at this; omega))) | (go_at_call 96; refine (l3Serial_any _ _).mono ?_; rintro e w3 ⟨rfl, rfl⟩) | (go_at_call 21; refine (l3Time_any _ _).mono ?_; rintro e w3 ⟨rfl, rfl⟩))
            go_ret
            exact ⟨ret_bool HR.out.symm, below_two ((Below.refl _ w).alloc (Nat.le_refl _) _) hB1 hB2⟩
          · cases h6 : decide (k.fr ≤ k.un)
            · have HR := hid (show k.good = false by unfold Lk.good nmOk; rw [h1, h2, h3, h4, h5, h6]; rfl)
              go_enter Tryz.func95, Tryz.ntmps95
              go_wp2_with (first | (go_at_call 20; first | (have hz1 := hz; refine (specGoodName_any k.to _ ht).mono ?_; rintro e w2 ⟨rfl, hB2⟩; obtain ⟨hc2, hf2⟩ := bcell hB2; have hz2 := Nat.lt_of_lt_of_le hz hB2.size) | (refine (specGoodName_any k.who _ hs).mono ?_; rintro e w1 ⟨rfl, hB1⟩; obtain ⟨hc1, hf1⟩ := bcell hB1; have hz : w.heap.size < w1.heap.size := (by have := hB1.size; simp at this; omega))) | (go_at_call 96; refine (l3Serial_any _ _).mono ?_; rintro e w3 ⟨rfl, rfl⟩) | (go_at_call 21; refine (l3Time_any _ _).mono ?_; rintro e w3 ⟨rfl, rfl⟩))
              go_ret
              exact ⟨ret_bool HR.out.symm, below_two ((Below.refl _ w).alloc (Nat.le_refl _) _) hB1 hB2⟩
            · have HR := hid (show k.good = true by unfold Lk.good nmOk; rw [h1, h2, h3, h4, h5, h6]; rfl)
              go_enter Tryz.func95, Tryz.ntmps95
              go_wp2_with (first | (go_at_call 20; first | (have hz1 := hz; refine (specGoodName_any k.to _ ht).mono ?_; rintro e w2 ⟨rfl, hB2⟩; obtain ⟨hc2, hf2⟩ := bcell hB2; have hz2 := Nat.lt_of_lt_of_le hz hB2.size) | (refine (specGoodName_any k.who _ hs).mono ?_; rintro e w1 ⟨rfl, hB1⟩; obtain ⟨hc1, hf1⟩ := bcell hB1; have hz : w.heap.size < w1.heap.size := (by have := hB1.size; simp at this; omega))) | (go_at_call 96; refine (l3Serial_any _ _).mono ?_; rintro e w3 ⟨rfl, rfl⟩) | (go_at_call 21; refine (l3Time_any _ _).mono ?_; rintro e w3 ⟨rfl, rfl⟩))
              go_ret
              exact ⟨ret_bool HR.out.symm, below_two ((Below.refl _ w).alloc (Nat.le_refl _) _) hB1 hB2⟩

end Go.Proofs.YtallpldgkkpikaaGreatDoor
