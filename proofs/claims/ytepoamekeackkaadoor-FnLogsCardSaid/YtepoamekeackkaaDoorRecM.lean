/-
  Chapter 7: sums, notes, logs: what is good, and where the first broken record stands.
-/
import Derived.Lib.ItoaNum
import Derived.Test.YtepoamekeackkaaDoorSep
import Derived.Test.YtepoamekeackkaaDoorTokM
namespace Go.Proofs.YtepoamekeackkaaDoor
open Go.RowKit

/-- A record. -/
structure Rc where
  num : Int
  note : ByteArray
  su : Nat

def smS (h : Nat) (b : UInt8) : Nat := (h ^^^ b.toNat) * 16777619 % 4294967296
/-- The sum of some bytes behind a sum. -/
def smL (h : Nat) (l : List UInt8) : Nat := l.foldl smS h
theorem smS_lt (h : Nat) (b : UInt8) : smS h b < 4294967296 := Nat.mod_lt _ (by decide)
theorem smL_lt {h : Nat} (l : List UInt8) (hh : h < 4294967296) : smL h l < 4294967296 := by
  induction l generalizing h with
  | nil => exact hh
  | cons b l ih =>
    rw [show smL h (b :: l) = smL (smS h b) l from rfl]
    exact ih (smS_lt h b)
theorem smL_snoc (h : Nat) (l : List UInt8) (b : UInt8) : smL h (l ++ [b]) = smS (smL h l) b := by
  unfold smL
  rw [List.foldl_append, List.foldl_cons, List.foldl_nil]

/-- A byte that is plain; a note that is good. -/
def plB (b : UInt8) : Bool := decide (32 ≤ b.toNat) && decide (b.toNat ≤ 126)
def ntB (s : ByteArray) : Bool := decide (s.size ≤ 80) && s.data.toList.all plB
/-- A log, as said. -/
def lgB (l : List Rc) : Bool := decide (l.length ≤ 60) && l.all (fun r => ntB r.note)
/-- The text that a record's sum speaks of. -/
def rcT (n : Nat) (note : ByteArray) : ByteArray := numT (n : Int) ++ ⟨#[32]⟩ ++ note
/-- The record that a note makes behind n others, the last sum being h. -/
def rcN (h n : Nat) (note : ByteArray) : Rc := ⟨((n + 1 : Nat) : Int), note, smL h (rcT (n + 1) note).data.toList⟩
/-- The sum ahead of the place i. -/
def pvS (l : List Rc) (i : Nat) : Nat := if i = 0 then 2166136261 else match l[i - 1]? with | some r => r.su | none => 0
def Rc.same (r s : Rc) : Bool := ((r.num == s.num) && (r.note.toList == s.note.toList)) && ((r.su : Int) == (s.su : Int))
theorem Rc.same_eq {r s : Rc} (h : r.same s = true) : r = s := by
  unfold Rc.same at h
  simp only [Bool.and_eq_true, beq_iff_eq, toList_data] at h
  obtain ⟨⟨h1, h2⟩, h3⟩ := h
  obtain ⟨a, b, c⟩ := r
  obtain ⟨a', b', c'⟩ := s
  simp only at h1 h2 h3
  rw [bytes_same h2, h1, Int.ofNat_inj.1 h3]
theorem Rc.same_refl (r : Rc) : r.same r = true := by simp [Rc.same]
/-- The record at i is the one that its note makes there. -/
def okA (l : List Rc) (i : Nat) : Bool := match l[i]? with | some r => r.same (rcN (pvS l i) i r.note) | none => true
theorem okA_at {l : List Rc} {i : Nat} (h : i < l.length) : okA l i = l[i].same (rcN (pvS l i) i l[i].note) := by
  unfold okA
  rw [List.getElem?_eq_getElem h]
/-- Where the first broken record stands. -/
def brX (l : List Rc) : Option Nat := (List.range l.length).find? (fun i => !okA l i)
theorem brX_at {l : List Rc} {k : Nat} (hk : k < l.length) (h : ∀ j, j < k → okA l j = true) (hb : okA l k = false) : brX l = some k := by
  unfold brX
  rw [List.find?_eq_some_iff_getElem]
  refine ⟨by rw [hb]; rfl, k, by simpa using hk, by simp, fun j hj => ?_⟩
  simp [h j hj]
theorem brX_none {l : List Rc} (h : ∀ j, j < l.length → okA l j = true) : brX l = none := by
  unfold brX
  rw [List.find?_eq_none]
  intro j hj
  simp [h j (List.mem_range.1 hj)]
theorem brX_lt {l : List Rc} {k : Nat} (h : brX l = some k) : k < l.length := by
  unfold brX at h
  have := List.mem_of_find?_eq_some h
  exact List.mem_range.1 this
theorem brX_all {l : List Rc} (h : brX l = none) : ∀ j, j < l.length → okA l j = true := by
  intro j hj
  unfold brX at h
  rw [List.find?_eq_none] at h
  have := h j (List.mem_range.2 hj)
  simpa using this
/-- A good log. -/
def glB (l : List Rc) : Bool := lgB l && (brX l).isNone
/-- What FirstBroken tells. -/
def fbN (l : List Rc) : Nat := if lgB l then (brX l).getD 0 else 0
def fbB (l : List Rc) : Bool := lgB l && (brX l).isSome
/-- A log with a note behind. -/
def puR (l : List Rc) (note : ByteArray) : List Rc := l ++ [rcN (pvS l l.length) l.length note]
def apB (l : List Rc) (note : ByteArray) : Bool := (glB l && ntB note) && !(l.length == 60)
def apR (l : List Rc) (note : ByteArray) : List Rc := if apB l note then puR l note else []

end Go.Proofs.YtepoamekeackkaaDoor
