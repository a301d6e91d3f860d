/-
  Sides in memory: how one that comes in is read, what the laws measure, hand on, hold and mark.
-/
import Derived.Deep.RegionHeld3
import Derived.Test.YtjnajdilllkpcaaGreatJTaken0
import Derived.Lib.Bytealg
import Derived.WalkKit
import Derived.ProofKit
import Derived.OpenShut
import Derived.Lib.SmallJoins
import Derived.Deep.Slices
import Derived.Deep.QuietTactic
import Derived.BigQuiet
import Derived.Deep.RegionWith
import Derived.WalkSmall
import Derived.Lib.SliceRun
import Derived.Lib.SlicesCompact
namespace Go.Proofs.YtjnajdilllkpcaaGreat
open Go.RowKit Go.Shelf

theorem cgood_eq (c : Ca) : c.good = ((mthB c.method && gnB (split c.who 47)) && gpB c.path) := by
  unfold Ca.good
  cases gnB (split c.who 47) <;> cases gpB c.path <;> cases mthB c.method <;> rfl

abbrev Ru.obj (r : Ru) : Obj := .cells #[.bool r.deny, .string r.who, .string r.method, .string r.path] 31

set_option maxHeartbeats 400000 in
theorem voiceOfA_any (a b c : ByteArray) (w : World) :
    Calls Tryz.prog 91 #[.agg #[.bool false, .string a, .string b, .string c]] w fun e w' => e = .returned (.iface 139 (.agg #[.bool false, .string a, .string b, .string c])) ∧ w' = w.alloc (.cells #[.bool false, .string a, .string b, .string c] 31) := by
  go_enter Tryz.func91, Tryz.ntmps91
  go_wp2
  go_ret
  exact ⟨rfl, rfl⟩

set_option maxHeartbeats 400000 in
theorem voiceOfD_any (a b c : ByteArray) (w : World) :
    Calls Tryz.prog 91 #[.agg #[.bool true, .string a, .string b, .string c]] w fun e w' => e = .returned (.iface 138 (.agg #[.bool true, .string a, .string b, .string c])) ∧ w' = w.alloc (.cells #[.bool true, .string a, .string b, .string c] 31) := by
  go_enter Tryz.func91, Tryz.ntmps91
  go_wp2
  go_ret
  exact ⟨rfl, rfl⟩

theorem methVerbA (v : Value) (w : World) : (method 275 139 v "loop.example/g00167/impl.verb").run Tryz.prog w = .ok (152, v) w := by kernel_rfl

set_option maxHeartbeats 400000 in
/-- (Asked by function 77 alone.) -/
theorem verbA_any (a b c : ByteArray) (w : World) :
    Calls Tryz.prog 152 #[.agg #[.bool false, .string a, .string b, .string c]] w fun e w' => e = .returned (.string ⟨#[97, 108, 108, 111, 119]⟩) ∧ w' = w.alloc (.cells #[.bool false, .string a, .string b, .string c] 139) := by
  go_enter Tryz.func152, Tryz.ntmps152
  go_wp2
  go_ret
  exact ⟨rfl, rfl⟩

theorem methVerbD (v : Value) (w : World) : (method 275 138 v "loop.example/g00167/impl.verb").run Tryz.prog w = .ok (148, v) w := by kernel_rfl

set_option maxHeartbeats 400000 in
/-- (Asked by function 77 alone.) -/
theorem verbD_any (a b c : ByteArray) (w : World) :
    Calls Tryz.prog 148 #[.agg #[.bool true, .string a, .string b, .string c]] w fun e w' => e = .returned (.string ⟨#[100, 101, 110, 121]⟩) ∧ w' = w.alloc (.cells #[.bool true, .string a, .string b, .string c] 138) := by
  go_enter Tryz.func148, Tryz.ntmps148
  go_wp2
  go_ret
  exact ⟨rfl, rfl⟩

set_option maxHeartbeats 1000000 in
theorem textOfRuleA_any (a b c : ByteArray) (w : World) (hs : a.size + b.size + c.size ≤ 1048576) :
    Calls Tryz.prog 77 #[.agg #[.bool false, .string a, .string b, .string c]] w fun e w' => e = .returned (.string (Ru.text ⟨false, a, b, c⟩)) ∧ Below w.heap.size w w' ∧ w.drawn ≤ w'.drawn := by
  have q0 : (w.alloc (.cells #[.bool false, .string a, .string b, .string c] 31)).cell? ⟨w.heap.size, 0, none⟩ = some (.bool false) := by simp
  have q1 : (w.alloc (.cells #[.bool false, .string a, .string b, .string c] 31)).cell? ⟨w.heap.size, 1, none⟩ = some (.string a) := by simp
  have q2 : (w.alloc (.cells #[.bool false, .string a, .string b, .string c] 31)).cell? ⟨w.heap.size, 2, none⟩ = some (.string b) := by simp
  have q3 : (w.alloc (.cells #[.bool false, .string a, .string b, .string c] 31)).cell? ⟨w.heap.size, 3, none⟩ = some (.string c) := by simp
  have hB : Below w.heap.size w (w.alloc (.cells #[.bool false, .string a, .string b, .string c] 31)) := (Below.refl _ w).alloc (Nat.le_refl _) _
  have hD := hid (show (w.alloc (.cells #[.bool false, .string a, .string b, .string c] 31)).drawn = w.drawn from rfl)
  have HT := hid (show (⟨#[97, 108, 108, 111, 119]⟩ : ByteArray) ++ ⟨#[32]⟩ ++ a ++ ⟨#[32]⟩ ++ b ++ ⟨#[32]⟩ ++ c = Ru.text ⟨false, a, b, c⟩ by
    unfold Ru.text
    rw [show (⟨#[97, 108, 108, 111, 119]⟩ : ByteArray) ++ ⟨#[32]⟩ = ⟨#[97, 108, 108, 111, 119, 32]⟩ from rfl]
    rfl)
  have hm := methVerbA
  have g1 : ¬9223372036854775807 < 6 + a.size := by omega
  have g2 : ¬9223372036854775807 < 6 + a.size + 1 := by omega
  have g3 : ¬9223372036854775807 < 6 + a.size + 1 + b.size := by omega
  have g4 : ¬9223372036854775807 < 6 + a.size + 1 + b.size + 1 := by omega
  have g5 : ¬9223372036854775807 < 6 + a.size + 1 + b.size + 1 + c.size := by omega
  go_enter Tryz.func77, Tryz.ntmps77
  go_wp2_with fail
  generalize (w.alloc (.cells #[.bool false, .string a, .string b, .string c] 31)) = W at *
  go_region_held3 (fun w' => w'.cell? ⟨w.heap.size, 0, none⟩ = some (.bool false) ∧ w'.cell? ⟨w.heap.size, 1, none⟩ = some (.string a) ∧ w'.cell? ⟨w.heap.size, 2, none⟩ = some (.string b) ∧ w'.cell? ⟨w.heap.size, 3, none⟩ = some (.string c)) (go_keep) (first | (go_at_call 91; refine (voiceOfA_any a b c _).mono ?_; rintro e w1 ⟨rfl, rfl⟩) | (go_at_call 152; refine (verbA_any a b c _).mono ?_; rintro e w1 ⟨rfl, rfl⟩))
  all_goals go_wp2
  all_goals go_ret
  all_goals exact ⟨ret_str HT.out, ((hB.alloc hB.size _).alloc (by have := hB.size; simp; omega) _).drew, by have h := hD.out; show w.drawn ≤ W.drawn + 1; omega⟩

set_option maxHeartbeats 1000000 in
theorem textOfRuleD_any (a b c : ByteArray) (w : World) (hs : a.size + b.size + c.size ≤ 1048576) :
    Calls Tryz.prog 77 #[.agg #[.bool true, .string a, .string b, .string c]] w fun e w' => e = .returned (.string (Ru.text ⟨true, a, b, c⟩)) ∧ Below w.heap.size w w' ∧ w.drawn ≤ w'.drawn := by
  have q0 : (w.alloc (.cells #[.bool true, .string a, .string b, .string c] 31)).cell? ⟨w.heap.size, 0, none⟩ = some (.bool true) := by simp
  have q1 : (w.alloc (.cells #[.bool true, .string a, .string b, .string c] 31)).cell? ⟨w.heap.size, 1, none⟩ = some (.string a) := by simp
  have q2 : (w.alloc (.cells #[.bool true, .string a, .string b, .string c] 31)).cell? ⟨w.heap.size, 2, none⟩ = some (.string b) := by simp
  have q3 : (w.alloc (.cells #[.bool true, .string a, .string b, .string c] 31)).cell? ⟨w.heap.size, 3, none⟩ = some (.string c) := by simp
  have hB : Below w.heap.size w (w.alloc (.cells #[.bool true, .string a, .string b, .string c] 31)) := (Below.refl _ w).alloc (Nat.le_refl _) _
  have hD := hid (show (w.alloc (.cells #[.bool true, .string a, .string b, .string c] 31)).drawn = w.drawn from rfl)
  have HT := hid (show (⟨#[100, 101, 110, 121]⟩ : ByteArray) ++ ⟨#[32]⟩ ++ a ++ ⟨#[32]⟩ ++ b ++ ⟨#[32]⟩ ++ c = Ru.text ⟨true, a, b, c⟩ by
    unfold Ru.text
    rw [show (⟨#[100, 101, 110, 121]⟩ : ByteArray) ++ ⟨#[32]⟩ = ⟨#[100, 101, 110, 121, 32]⟩ from rfl]
    rfl)
  have hm := methVerbD
  have g1 : ¬9223372036854775807 < 5 + a.size := by omega
  have g2 : ¬9223372036854775807 < 5 + a.size + 1 := by omega
  have g3 : ¬9223372036854775807 < 5 + a.size + 1 + b.size := by omega
  have g4 : ¬9223372036854775807 < 5 + a.size + 1 + b.size + 1 := by omega
  have g5 : ¬9223372036854775807 < 5 + a.size + 1 + b.size + 1 + c.size := by omega
  go_enter Tryz.func77, Tryz.ntmps77
  go_wp2_with fail
  generalize (w.alloc (.cells #[.bool true, .string a, .string b, .string c] 31)) = W at *
  go_region_held3 (fun w' => w'.cell? ⟨w.heap.size, 0, none⟩ = some (.bool true) ∧ w'.cell? ⟨w.heap.size, 1, none⟩ = some (.string a) ∧ w'.cell? ⟨w.heap.size, 2, none⟩ = some (.string b) ∧ w'.cell? ⟨w.heap.size, 3, none⟩ = some (.string c)) (go_keep) (first | (go_at_call 91; refine (voiceOfD_any a b c _).mono ?_; rintro e w1 ⟨rfl, rfl⟩) | (go_at_call 148; refine (verbD_any a b c _).mono ?_; rintro e w1 ⟨rfl, rfl⟩))
  all_goals go_wp2
  all_goals go_ret
  all_goals exact ⟨ret_str HT.out, ((hB.alloc hB.size _).alloc (by have := hB.size; simp; omega) _).drew, by have h := hD.out; show w.drawn ≤ W.drawn + 1; omega⟩

theorem textOfRule_any (r : Ru) (w : World) (hs : r.size ≤ 1048576) :
    Calls Tryz.prog 77 #[r.val] w fun e w' => e = .returned (.string r.text) ∧ Below w.heap.size w w' ∧ w.drawn ≤ w'.drawn := by
  obtain ⟨d, a, b, c⟩ := r
  cases d
  · exact textOfRuleA_any a b c w hs
  · exact textOfRuleD_any a b c w hs

end Go.Proofs.YtjnajdilllkpcaaGreat

namespace Go.Proofs.YtjnajdilllkpcaaGreat

/-- Where the byte stands first. -/
def fI (s : ByteArray) (b : UInt8) : Option Nat := s.data.toList.findIdx? (fun x => x == b)
theorem fI_lt {s : ByteArray} {b : UInt8} {i : Nat} (h : fI s b = some i) : i < s.size := by
  unfold fI at h
  have := List.findIdx?_eq_some_iff_getElem.1 h
  obtain ⟨h1, _⟩ := this
  simpa using h1
theorem fI_at {s : ByteArray} {b : UInt8} {i : Nat} (h : fI s b = some i) : s[i]'(fI_lt h) = b := by
  have := List.findIdx?_eq_some_iff_getElem.1 h
  obtain ⟨h1, h2, _⟩ := this
  simp at h2
  exact h2
theorem fI_ahead {s : ByteArray} {b : UInt8} {i : Nat} (h : fI s b = some i) (j : Nat) (hj : j < i) (hs : j < s.size) : s[j] ≠ b := by
  have := List.findIdx?_eq_some_iff_getElem.1 h
  obtain ⟨h1, _, h3⟩ := this
  have := h3 j hj
  simp at this
  exact this
theorem fI_none {s : ByteArray} {b : UInt8} (h : fI s b = none) (j : Nat) (hs : j < s.size) : s[j] ≠ b := by
  unfold fI at h
  rw [List.findIdx?_eq_none_iff] at h
  intro e
  have := h s[j] (by
    have : s.data.toList[j]'(by simpa using hs) = s[j] := by simp; rfl
    rw [← this]
    exact List.getElem_mem _)
  rw [e] at this
  simp at this
theorem idx_fI : ∀ (l : List UInt8) (b : UInt8), Lib.indexByte l b = match l.findIdx? (fun x => x == b) with
    | some i => (i : Int)
    | none => -1
  | [], _ => rfl
  | x :: l, b => by
    have ih := idx_fI l b
    unfold Lib.indexByte
    rw [List.findIdx?_cons]
    by_cases hx : (x == b) = true
    · simp [hx]
    · rw [if_neg hx, if_neg hx]
      cases h : l.findIdx? (fun x => x == b) with
      | none => rw [h] at ih; rw [ih]; rfl
      | some i =>
        rw [h] at ih
        rw [ih]
        have : ((i : Int) == -1) = false := by
          rw [beq_eq_false_iff_ne]
          omega
        simp [this]
theorem index_some {s : ByteArray} {b : UInt8} {i : Nat} (h : fI s b = some i) : Lib.indexByte s.data.toList b = i := by
  unfold fI at h
  rw [idx_fI, h]
theorem index_none {s : ByteArray} {b : UInt8} (h : fI s b = none) : Lib.indexByte s.data.toList b = -1 := by
  unfold fI at h
  rw [idx_fI, h]
theorem sp_none (s : ByteArray) (b : UInt8) : ∀ i, i ≤ s.size → (∀ j (_ : j < i) (hs : j < s.size), s[j] ≠ b) → spP s b i = ([], 0)
  | 0, _, _ => rfl
  | i + 1, hi, h => by
    rw [sp_miss s b i (by omega) (h i (by omega) (by omega))]
    exact sp_none s b i (by omega) (fun j hj hs => h j (by omega) hs)
theorem split_none {s : ByteArray} {b : UInt8} (h : fI s b = none) : split s b = [s] := by
  have := sp_none s b s.size (Nat.le_refl _) (fun j _ hs => fI_none h j hs)
  rw [split_end]
  unfold spL spA
  rw [this]
  simp
theorem sp_shift {s : ByteArray} {b : UInt8} {i : Nat} (h : fI s b = some i) : ∀ k, k ≤ (s.extract (i + 1) s.size).size + 1 →
    spP s b (i + 1 + k) = (s.extract 0 i :: (spP (s.extract (i + 1) s.size) b k).1, i + 1 + (spP (s.extract (i + 1) s.size) b k).2)
  | 0, _ => by
    have h0 := sp_none s b i (Nat.le_of_lt (fI_lt h)) (fun j hj hs => fI_ahead h j hj hs)
    have hl := spL_hit s b i (fI_lt h) (fI_at h)
    have ha := spA_hit s b i (fI_lt h) (fI_at h)
    unfold spL spA at hl ha
    rw [h0] at hl
    refine Prod.ext ?_ ?_
    · rw [Nat.add_zero, hl]; rfl
    · rw [Nat.add_zero, ha]; rfl
  | k + 1, hk => by
    have ih := sp_shift h k (by omega)
    have hlt := fI_lt h
    have hsz : (s.extract (i + 1) s.size).size = s.size - (i + 1) := by rw [ByteArray.size_extract]; omega
    have hc : (i + 1 + k = s.size ∨ s.data.toList[i + 1 + k]? = some b) ↔ (k = (s.extract (i + 1) s.size).size ∨ (s.extract (i + 1) s.size).data.toList[k]? = some b) := by
      have e : (s.extract (i + 1) s.size).data.toList[k]? = s.data.toList[i + 1 + k]? := by
        rw [ByteArray.data_extract, Array.toList_extract, List.extract_eq_take_drop, List.getElem?_take]
        rw [hsz] at hk
        by_cases hks : k < s.size - (i + 1)
        · rw [if_pos hks, List.getElem?_drop]
        · rw [if_neg hks, List.getElem?_eq_none (by simp; omega)]
      rw [e, hsz]
      constructor
      · rintro (e | e)
        · exact .inl (by omega)
        · exact .inr e
      · rintro (e | e)
        · exact .inl (by omega)
        · exact .inr e
    rw [show i + 1 + (k + 1) = (i + 1 + k) + 1 from rfl, spP, spP]
    by_cases hh : k = (s.extract (i + 1) s.size).size ∨ (s.extract (i + 1) s.size).data.toList[k]? = some b
    · rw [if_pos hh, if_pos (hc.2 hh), ih]
      refine Prod.ext ?_ rfl
      have hx : s.extract (i + 1 + (spP (s.extract (i + 1) s.size) b k).2) (i + 1 + k) = (s.extract (i + 1) s.size).extract (spP (s.extract (i + 1) s.size) b k).2 k := by
        rw [ByteArray.extract_extract]
        congr 1
        omega
      simp only [hx, List.cons_append]
    · rw [if_neg hh, if_neg (fun h' => hh (hc.1 h')), ih]
theorem split_some {s : ByteArray} {b : UInt8} {i : Nat} (h : fI s b = some i) : split s b = s.extract 0 i :: split (s.extract (i + 1) s.size) b := by
  have hlt := fI_lt h
  have hsz : (s.extract (i + 1) s.size).size = s.size - (i + 1) := by rw [ByteArray.size_extract]; omega
  have := sp_shift h ((s.extract (i + 1) s.size).size + 1) (Nat.le_refl _)
  rw [show i + 1 + ((s.extract (i + 1) s.size).size + 1) = s.size + 1 by omega] at this
  unfold split spL
  rw [this]
/-- The part ahead, the part behind, and whether the byte is there. -/
def cutA (s : ByteArray) (b : UInt8) : ByteArray := match fI s b with
  | some i => s.extract 0 i
  | none => s
def cutB (s : ByteArray) (b : UInt8) : ByteArray := match fI s b with
  | some i => s.extract (i + 1) s.size
  | none => ⟨#[]⟩
def cutF (s : ByteArray) (b : UInt8) : Bool := (fI s b).isSome
theorem cut_some {s : ByteArray} {b : UInt8} {i : Nat} (h : fI s b = some i) : cutA s b = s.extract 0 i ∧ cutB s b = s.extract (i + 1) s.size ∧ cutF s b = true := by
  unfold cutA cutB cutF
  rw [h]
  exact ⟨rfl, rfl, rfl⟩
theorem cut_none {s : ByteArray} {b : UInt8} (h : fI s b = none) : cutA s b = s ∧ cutB s b = ⟨#[]⟩ ∧ cutF s b = false := by
  unfold cutA cutB cutF
  rw [h]
  exact ⟨rfl, rfl, rfl⟩
theorem split_head (s : ByteArray) (b : UInt8) : ∃ r, split s b = cutA s b :: r := by
  cases h : fI s b with
  | none => exact ⟨[], by rw [split_none h, (cut_none h).1]⟩
  | some i => exact ⟨_, by rw [split_some h, (cut_some h).1]⟩
theorem data_parts (s : ByteArray) (i : Nat) (h : i < s.size) : s.data.toList = (s.extract 0 i).data.toList ++ s[i] :: (s.extract (i + 1) s.size).data.toList := by
  have h0 : i < s.data.toList.length := by simpa using h
  have h1 : (s.extract 0 i).data.toList = s.data.toList.take i := by
    rw [ByteArray.data_extract, Array.toList_extract, List.extract_eq_take_drop]
    simp
  have h2 : (s.extract (i + 1) s.size).data.toList = s.data.toList.drop (i + 1) := by
    rw [ByteArray.data_extract, Array.toList_extract, List.extract_eq_take_drop]
    rw [List.take_of_length_le (by simp)]
  have h3 : s[i] = s.data.toList[i] := by simp; rfl
  rw [h1, h2, h3, ← List.drop_eq_getElem_cons h0, List.take_append_drop]

end Go.Proofs.YtjnajdilllkpcaaGreat

namespace Go.Proofs.YtjnajdilllkpcaaGreat
open Go.ChangeShapes Go.WideShapes Go.ChangeAt Go.RowKit Go.Joins Go.Deep

/-- Its texts are no longer than a text may be. -/
def Ru.fits (r : Ru) : Prop := r.who.size ≤ maxLen ∧ r.method.size ≤ maxLen ∧ r.path.size ≤ maxLen
def Ca.fits (r : Ca) : Prop := r.who.size ≤ maxLen ∧ r.method.size ≤ maxLen ∧ r.path.size ≤ maxLen

end Go.Proofs.YtjnajdilllkpcaaGreat

namespace Go.Proofs.YtjnajdilllkpcaaGreat
open Go.RowKit Go.Shelf

/-- A rule lies in memory. -/
def RuAt (w : World) (b o : Nat) (r : Ru) : Prop := w.cell? ⟨b, o, none⟩ = some (.bool r.deny) ∧ w.cell? ⟨b, o + 1, none⟩ = some (.string r.who) ∧ w.cell? ⟨b, o + 2, none⟩ = some (.string r.method) ∧ w.cell? ⟨b, o + 3, none⟩ = some (.string r.path)
/-- A slice reads as this list of rules. -/
def RuS (w : World) (v : Value) (rs : List Ru) : Prop :=
  (∃ a cap, v = .slice a 0 cap ∧ rs = []) ∨
  ∃ b off cap, v = .slice (some ⟨b, off, none⟩) rs.length cap ∧ b < w.heap.size ∧ rs.length ≤ cap ∧ ∀ k (h : k < rs.length), RuAt w b (off + k * 4) rs[k]
theorem RuAt.below {w w' : World} {b o : Nat} {r : Ru} (h : RuAt w b o r) (hb : b < w.heap.size) (hB : Below w.heap.size w w') : RuAt w' b o r :=
  ⟨(hB.cell (p := ⟨b, o, none⟩) hb).trans h.1, (hB.cell (p := ⟨b, o + 1, none⟩) hb).trans h.2.1, (hB.cell (p := ⟨b, o + 2, none⟩) hb).trans h.2.2.1, (hB.cell (p := ⟨b, o + 3, none⟩) hb).trans h.2.2.2⟩
theorem RuS.below {w w' : World} {v : Value} {rs : List Ru} (h : RuS w v rs) (hB : Below w.heap.size w w') : RuS w' v rs := by
  rcases h with h | ⟨b, off, cap, hv, hb, hl, hc⟩
  · exact .inl h
  · exact .inr ⟨b, off, cap, hv, Nat.lt_of_lt_of_le hb hB.size, hl, fun k hk => (hc k hk).below hb hB⟩
theorem RuS.len {w : World} {v : Value} {rs : List Ru} (h : RuS w v rs) : ∃ a cap, v = .slice a rs.length cap := by
  rcases h with ⟨a, cap, hv, rfl⟩ | ⟨b, off, cap, hv, _⟩
  · exact ⟨a, cap, hv⟩
  · exact ⟨_, cap, hv⟩
theorem RuS.at {w : World} {a : Option Addr} {n cap : Nat} {rs : List Ru} (h : RuS w (.slice a n cap) rs) {k : Nat} (hk : k < rs.length) : ∃ b off, a = some ⟨b, off, none⟩ ∧ b < w.heap.size ∧ n ≤ cap ∧ RuAt w b (off + k * 4) rs[k] := by
  rcases h with ⟨_, _, _, rfl⟩ | ⟨b, off, cap, hv, hb, hl, hc⟩
  · simp at hk
  · cases hv
    exact ⟨b, off, rfl, hb, hl, hc k hk⟩

def szTo (rs : List Ru) (k : Nat) : Nat := ((rs.take k).map Ru.size).sum
def szAll (rs : List Ru) : Nat := rs.length + szTo rs rs.length
theorem szTo_zero (rs : List Ru) : szTo rs 0 = 0 := by simp [szTo]
theorem szTo_succ {rs : List Ru} {k : Nat} (h : k < rs.length) : szTo rs (k + 1) = szTo rs k + rs[k].size := by
  unfold szTo
  rw [List.take_succ_eq_append_getElem h, List.map_append, List.sum_append]
  simp
theorem szTo_le (rs : List Ru) (k : Nat) : szTo rs k ≤ szTo rs rs.length := by
  unfold szTo
  rw [List.take_length]
  conv => rhs; rw [← List.take_append_drop k rs, List.map_append, List.sum_append]
  omega
theorem sz_mem {rs : List Ru} {r : Ru} (h : r ∈ rs) : r.size ≤ szTo rs rs.length := by
  unfold szTo
  rw [List.take_length]
  exact sum_mem (List.mem_map.2 ⟨r, h, rfl⟩)
/-- What is left of a budget behind a list. -/
def leftS (n : Int) (rs : List Ru) : Int := if (szAll rs : Int) ≤ n then n - szAll rs else -1

abbrev Ru.cells (r : Ru) : List Value := [.bool r.deny, .string r.who, .string r.method, .string r.path]
theorem flat_len (rs : List Ru) : (rs.flatMap Ru.cells).length = rs.length * 4 := by
  induction rs with
  | nil => rfl
  | cons r rs ih => rw [List.flatMap_cons, List.length_append, ih]; simp; omega
theorem flat_at (rs : List Ru) : ∀ (k j : Nat) (h : k < rs.length), j < 4 → (rs.flatMap Ru.cells)[k * 4 + j]? = rs[k].cells[j]? := by
  induction rs with
  | nil => intro k j h; simp at h
  | cons r rs ih =>
    intro k j h hj
    rw [List.flatMap_cons]
    cases k with
    | zero => rw [List.getElem?_append_left (by simp; omega)]; simp
    | succ k =>
      rw [List.getElem?_append_right (by simp; omega)]
      have := ih k j (by simpa using h) hj
      rw [show (k + 1) * 4 + j - r.cells.length = k * 4 + j by simp; omega]
      simpa using this
/-- A slice of rules of one's own reads as its list. -/
theorem RuS.own {w : World} {base : Nat} {v : Value} {rs : List Ru} (h : w.ownsRow base 31 4 v rs.length (rs.flatMap Ru.cells)) : RuS w v rs := by
  rcases h.2 with ⟨rfl, h0⟩ | ⟨g, cap, cur, rfl, hg, hb, hle, _⟩
  · exact .inl ⟨none, 0, rfl, List.eq_nil_of_length_eq_zero h0⟩
  · refine .inr ⟨g, 0, cap, rfl, (Array.getElem?_eq_some_iff.1 hb).1, hle, fun k hk => ?_⟩
    have hc : ∀ j, j < 4 → w.cell? ⟨g, k * 4 + j, none⟩ = rs[k].cells[j]? := fun j hj => by rw [h.cellAt (k * 4 + j) (by omega), flat_at rs k j hk hj]
    have h0 := hc 0 (by omega)
    have h1 := hc 1 (by omega)
    have h2 := hc 2 (by omega)
    have h3 := hc 3 (by omega)
    simp only [Nat.add_zero, List.getElem?_cons_zero, List.getElem?_cons_succ] at h0 h1 h2 h3
    exact ⟨by rw [Nat.zero_add]; exact h0, by rw [Nat.zero_add]; exact h1, by rw [Nat.zero_add]; exact h2, by rw [Nat.zero_add]; exact h3⟩
theorem take_set4 {α : Type} (xs : List α) (k : Nat) (a b c d : α) (h : k * 4 + 4 ≤ xs.length) : ((((xs.set (k * 4) a).set (k * 4 + 1) b).set (k * 4 + 2) c).set (k * 4 + 3) d).take ((k + 1) * 4) = xs.take (k * 4) ++ [a, b, c, d] := by
  apply List.ext_getElem?
  intro i
  rw [List.getElem?_take]
  by_cases h1 : i < k * 4
  · rw [if_pos (by omega), List.getElem?_append_left (by rw [List.length_take]; omega), List.getElem?_take, if_pos h1]
    rw [List.getElem?_set_ne (by omega), List.getElem?_set_ne (by omega), List.getElem?_set_ne (by omega), List.getElem?_set_ne (by omega)]
  · by_cases h2 : i < (k + 1) * 4
    · rw [if_pos h2, List.getElem?_append_right (by rw [List.length_take]; omega)]
      have hl : (xs.take (k * 4)).length = k * 4 := by rw [List.length_take]; omega
      rw [hl]
      obtain h | h | h | h : i = k * 4 ∨ i = k * 4 + 1 ∨ i = k * 4 + 2 ∨ i = k * 4 + 3 := by omega
      all_goals subst h
      · rw [List.getElem?_set_ne (by omega), List.getElem?_set_ne (by omega), List.getElem?_set_ne (by omega), List.getElem?_set_self (by omega)]
        simp
      · rw [List.getElem?_set_ne (by omega), List.getElem?_set_ne (by omega), List.getElem?_set_self (by simp; omega)]
        simp
      · rw [List.getElem?_set_ne (by omega), List.getElem?_set_self (by simp; omega)]
        simp
      · rw [List.getElem?_set_self (by simp; omega)]
        simp
    · rw [if_neg h2, List.getElem?_eq_none (by rw [List.length_append, List.length_take]; simp; omega)]
theorem infoRule : (Tryz.prog.info? 31).map (fun i => (i.zero, i.size, i.bytes)) = some (some (.agg #[.bool false, .string ByteArray.empty, .string ByteArray.empty, .string ByteArray.empty]), 4, 56) := by kernel_rfl

end Go.Proofs.YtjnajdilllkpcaaGreat

namespace Go.Proofs.YtjnajdilllkpcaaGreat
open Go.RowKit Go.Shelf

theorem cell_lt {w : World} {g o : Nat} {v : Value} (h : w.cell? ⟨g, o, none⟩ = some v) : g < w.heap.size := by
  simp only [World.cell?] at h
  by_cases hl : g < w.heap.size
  · exact hl
  · rw [Array.getElem?_eq_none (by omega)] at h
    cases h
def eqB (x y : ByteArray) : Bool := x.toList == y.toList
/-- The piece x stands for y. -/
def stB (x y : ByteArray) : Bool := starB x || eqB x y
def mnB (l m : List ByteArray) : Bool := match l, m with
  | [x, y], [u, v] => stB x u && stB y v
  | _, _ => false

end Go.Proofs.YtjnajdilllkpcaaGreat

namespace Go.Proofs.YtjnajdilllkpcaaGreat
open Go.RowKit Go.Shelf

def Ru.same (r s : Ru) : Bool := ((r.deny == s.deny && eqB r.who s.who) && eqB r.method s.method) && eqB r.path s.path
theorem Ru.same_refl (r : Ru) : r.same r = true := by simp [Ru.same, eqB]


def sameTo (rs ss : List Ru) (k : Nat) : Bool := ((rs.zip ss).take k).all (fun q => q.1.same q.2)
def sameS (rs ss : List Ru) : Bool := decide (rs.length = ss.length) && (rs.zip ss).all (fun q => q.1.same q.2)
theorem sameTo_zero (rs ss : List Ru) : sameTo rs ss 0 = true := by simp [sameTo]
theorem sameTo_succ {rs ss : List Ru} {k : Nat} (h : k < rs.length) (h' : k < ss.length) : sameTo rs ss (k + 1) = (sameTo rs ss k && rs[k].same ss[k]) := by
  unfold sameTo
  rw [List.take_succ_eq_append_getElem (by rw [List.length_zip]; omega), List.all_append]
  simp
theorem same_bad {rs ss : List Ru} {k : Nat} (hb : sameTo rs ss (k + 1) = false) : sameS rs ss = false := by
  unfold sameTo at hb
  rw [List.all_eq_false] at hb
  obtain ⟨x, hx, hn⟩ := hb
  unfold sameS
  rw [Bool.and_eq_false_iff]
  exact .inr (List.all_eq_false.2 ⟨x, List.mem_of_mem_take hx, hn⟩)
theorem same_end {rs ss : List Ru} (h : rs.length = ss.length) : sameTo rs ss rs.length = sameS rs ss := by
  unfold sameTo sameS
  rw [List.take_of_length_le (by rw [List.length_zip]; omega), decide_eq_true h, Bool.true_and]
theorem sameS_refl (rs : List Ru) : sameS rs rs = true := by
  unfold sameS
  rw [decide_eq_true rfl, Bool.true_and, List.all_eq_true]
  intro x hx
  have := List.of_mem_zip hx
  obtain ⟨i, hi, he⟩ := List.getElem_of_mem hx
  rw [List.getElem_zip] at he
  rw [← he]
  exact Ru.same_refl _

end Go.Proofs.YtjnajdilllkpcaaGreat

namespace Go.Proofs.YtjnajdilllkpcaaGreat

/-! The order of bytes. -/
theorem bl_cmp : ∀ a b : List UInt8, decide (Lib.compareBytes a b < 0) = Op.bytesLess a b
  | [], [] => rfl
  | [], _ :: _ => rfl
  | _ :: _, [] => rfl
  | x :: a, y :: b => by
    have ih := bl_cmp a b
    unfold Lib.compareBytes Op.bytesLess
    by_cases h1 : x < y
    · simp [h1]
    · by_cases h2 : y < x
      · have h3 : (x == y) = false := by
          rw [beq_eq_false_iff_ne]
          intro e
          subst e
          exact h1 h2
        simp [h1, h2, h3]
      · have h3 : x = y := UInt8.le_antisymm (UInt8.not_lt.1 h2) (UInt8.not_lt.1 h1)
        subst h3
        simp only [h1, if_false, ih]
        simp
theorem bl_irrefl : ∀ a : List UInt8, Op.bytesLess a a = false
  | [] => rfl
  | x :: a => by
    unfold Op.bytesLess
    simp [bl_irrefl a]
theorem bl_trans : ∀ a b c : List UInt8, Op.bytesLess a b = true → Op.bytesLess b c = true → Op.bytesLess a c = true
  | _, _, [], _, h2 => by simp [Op.bytesLess] at h2
  | _, [], _ :: _, h1, _ => by simp [Op.bytesLess] at h1
  | [], _ :: _, _ :: _, _, _ => rfl
  | x :: a, y :: b, z :: c, h1, h2 => by
    unfold Op.bytesLess at h1 h2 ⊢
    simp only [Bool.or_eq_true, decide_eq_true_eq, Bool.and_eq_true, beq_iff_eq] at h1 h2 ⊢
    rcases h1 with h1 | ⟨rfl, h1⟩
    · rcases h2 with h2 | ⟨rfl, h2⟩
      · exact .inl (UInt8.lt_trans h1 h2)
      · exact .inl h1
    · rcases h2 with h2 | ⟨rfl, h2⟩
      · exact .inl h2
      · exact .inr ⟨rfl, bl_trans a b c h1 h2⟩
theorem bl_total : ∀ a b : List UInt8, Op.bytesLess a b = false → Op.bytesLess b a = false → a = b
  | [], [], _, _ => rfl
  | [], _ :: _, h, _ => by simp [Op.bytesLess] at h
  | _ :: _, [], _, h => by simp [Op.bytesLess] at h
  | x :: a, y :: b, h1, h2 => by
    unfold Op.bytesLess at h1 h2
    simp only [Bool.or_eq_false_iff, decide_eq_false_iff_not, Bool.and_eq_false_iff, beq_eq_false_iff_ne] at h1 h2
    have e : x = y := UInt8.le_antisymm (UInt8.not_lt.1 h2.1) (UInt8.not_lt.1 h1.1)
    subst e
    have h3 : Op.bytesLess a b = false := by
      rcases h1.2 with h | h
      · exact absurd rfl h
      · exact h
    have h4 : Op.bytesLess b a = false := by
      rcases h2.2 with h | h
      · exact absurd rfl h
      · exact h
    rw [bl_total a b h3 h4]
theorem bl_asym {a b : List UInt8} (h : Op.bytesLess a b = true) : Op.bytesLess b a = false := by
  cases h2 : Op.bytesLess b a
  · rfl
  · have := bl_trans a b a h h2
    rw [bl_irrefl] at this
    cases this
theorem bl_ntrans {a b c : List UInt8} (h1 : Op.bytesLess a b = false) (h2 : Op.bytesLess b c = false) : Op.bytesLess a c = false := by
  cases h3 : Op.bytesLess a c
  · rfl
  · cases h4 : Op.bytesLess b a
    · have e := bl_total a b h1 h4
      subst e
      rw [h2] at h3
      cases h3
    · have := bl_trans b a c h4 h3
      rw [h2] at this
      cases this
/-- a ≤ b < c. -/
theorem bl_le_lt {a b c : List UInt8} (h1 : Op.bytesLess b a = false) (h2 : Op.bytesLess b c = true) : Op.bytesLess a c = true := by
  cases h3 : Op.bytesLess a c
  · have := bl_ntrans h1 h3
    rw [h2] at this
    cases this
  · rfl

/-! No blank in the parts of a good rule; texts tell good rules apart. -/
def nosp (s : ByteArray) : Prop := (32 : UInt8) ∉ s.data.toList
theorem nosp_ws {x : ByteArray} (h : wsB x = true) : nosp x := by
  unfold nosp
  unfold wsB at h
  rw [Bool.or_eq_true] at h
  rcases h with h | h
  · have h1 : x.data.toList = [42] := by simpa [starB, toList_data] using h
    rw [h1]
    decide
  · unfold wordB wordTo at h
    rw [Bool.and_eq_true] at h
    intro hm
    have h2 := h.1
    rw [List.take_of_length_le (by simp)] at h2
    have := List.all_eq_true.1 h2 32 hm
    revert this
    decide
theorem nosp_star2 {x : ByteArray} (h : star2B x = true) : nosp x := by
  have h1 : x.data.toList = [42, 42] := by simpa [star2B, toList_data] using h
  unfold nosp
  rw [h1]
  decide
theorem nosp_split : ∀ (n : Nat) (s : ByteArray), s.size ≤ n → (∀ x ∈ split s 47, nosp x) → nosp s := by
  intro n
  induction n with
  | zero =>
    intro s hs h
    have : s.data.toList = [] := List.eq_nil_of_length_eq_zero (by rw [show s.data.toList.length = s.size by simp]; omega)
    unfold nosp
    rw [this]
    exact List.not_mem_nil
  | succ n ih =>
    intro s hs h
    cases hf : fI s 47 with
    | none =>
      rw [split_none hf] at h
      exact h s (by simp)
    | some i =>
      rw [split_some hf] at h
      have hlt := fI_lt hf
      have h1 := h _ (List.mem_cons_self)
      have h2 := ih (s.extract (i + 1) s.size) (by rw [ByteArray.size_extract]; omega) (fun x hx => h x (List.mem_cons_of_mem _ hx))
      unfold nosp at *
      rw [data_parts s i hlt, fI_at hf, List.mem_append, List.mem_cons]
      rintro (h3 | h3 | h3)
      · exact h1 h3
      · revert h3
        decide
      · exact h2 h3
theorem nosp_pt : ∀ l : List ByteArray, ptOk l = true → ∀ x ∈ l, nosp x
  | [], _, x, hx => by cases hx
  | y :: r, h, x, hx => by
    unfold ptOk at h
    split at h
    · rename_i h2
      have hr : r = [] := by simpa using h
      subst hr
      rw [List.mem_singleton] at hx
      subst hx
      exact nosp_star2 h2
    · rw [Bool.and_eq_true] at h
      rw [List.mem_cons] at hx
      rcases hx with rfl | hx
      · exact nosp_ws h.1
      · exact nosp_pt r h.2 x hx
theorem nosp_path {s : ByteArray} (h : ptBs s = true) : nosp s := by
  cases h0 : slashB s
  · cases h1 : headB s
    · have hp : pathPs s = none := by
        unfold pathPs
        rw [h0, h1]
        rfl
      unfold ptBs at h
      rw [hp] at h
      cases h
    · unfold ptBs at h
      rw [pathPs_head h0 h1] at h
      simp only [ptB_eq, Bool.and_eq_true] at h
      have h2 := nosp_split _ (s.extract 1 s.size) (Nat.le_refl _) (nosp_pt _ h.1)
      have hs : 0 < s.size := by
        rcases Nat.eq_zero_or_pos s.size with hz | hz
        · have : s.data.toList = [] := List.eq_nil_of_length_eq_zero (by rw [show s.data.toList.length = s.size by simp]; omega)
          unfold headB at h1
          rw [this] at h1
          cases h1
        · exact hz
      have hd := data_parts s 0 hs
      have h4 : (s.extract 0 0).data.toList = [] := by
        rw [ByteArray.data_extract, Array.toList_extract, List.extract_eq_take_drop]
        simp
      rw [h4, List.nil_append] at hd
      unfold headB at h1
      rw [hd] at h1
      have h5 : s[0] = 47 := by simpa using h1
      unfold nosp at *
      rw [hd, h5, List.mem_cons]
      rintro (h6 | h6)
      · revert h6
        decide
      · exact h2 h6
  · have h1 : s.data.toList = [47] := by simpa [slashB, toList_data] using h0
    unfold nosp
    rw [h1]
    decide
theorem nosp_name {s : ByteArray} (h : nmB (split s 47) = true) : nosp s := by
  rw [nmB_eq, Bool.and_eq_true, List.all_eq_true] at h
  exact nosp_split _ s (Nat.le_refl _) (fun x hx => nosp_ws (h.2 x hx))
theorem nosp_method {s : ByteArray} (h : (mthB s || starB s) = true) : nosp s := by
  unfold mthB getB putB starB at h
  rw [toList_data] at h
  simp only [Bool.or_eq_true, beq_iff_eq] at h
  unfold nosp
  rcases h with (h | h) | h
  all_goals rw [h]; decide
theorem cut_blank : ∀ a a' b b' : List UInt8, (32 : UInt8) ∉ a → (32 : UInt8) ∉ a' → a ++ 32 :: b = a' ++ 32 :: b' → a = a' ∧ b = b'
  | [], [], b, b', _, _, h => by simpa using h
  | [], y :: a', b, b', _, h2, h => by
    simp only [List.nil_append, List.cons_append, List.cons.injEq] at h
    exact absurd (by rw [h.1]; exact List.mem_cons_self) h2
  | x :: a, [], b, b', h1, _, h => by
    simp only [List.nil_append, List.cons_append, List.cons.injEq] at h
    exact absurd (by rw [h.1]; exact List.mem_cons_self) h1
  | x :: a, y :: a', b, b', h1, h2, h => by
    simp only [List.cons_append, List.cons.injEq] at h
    obtain ⟨e1, e2⟩ := cut_blank a a' b b' (fun hm => h1 (List.mem_cons_of_mem _ hm)) (fun hm => h2 (List.mem_cons_of_mem _ hm)) h.2
    exact ⟨by rw [h.1, e1], e2⟩
theorem text_list (r : Ru) : r.text.data.toList = (if r.deny = true then [100, 101, 110, 121] else [97, 108, 108, 111, 119]) ++ 32 :: (r.who.data.toList ++ 32 :: (r.method.data.toList ++ 32 :: r.path.data.toList)) := by
  unfold Ru.text
  cases r.deny <;> simp [ByteArray.data_append]
theorem bytes_eq {a b : ByteArray} (h : a.data.toList = b.data.toList) : a = b := by
  apply ByteArray.ext
  exact Array.toList_inj.1 h
theorem text_inj {r s : Ru} (hr : r.good = true) (hs : s.good = true) (h : r.text.data.toList = s.text.data.toList) : r = s := by
  unfold Ru.good at hr hs
  simp only [Bool.and_eq_true] at hr hs
  rw [text_list, text_list] at h
  obtain ⟨h1, h2⟩ := cut_blank _ _ _ _ (by cases r.deny <;> decide) (by cases s.deny <;> decide) h
  obtain ⟨h3, h4⟩ := cut_blank _ _ _ _ (nosp_name hr.1.1) (nosp_name hs.1.1) h2
  obtain ⟨h5, h6⟩ := cut_blank _ _ _ _ (nosp_method hr.2) (nosp_method hs.2) h4
  have hd : r.deny = s.deny := by
    cases h7 : r.deny <;> cases h8 : s.deny <;> first | rfl | (rw [h7, h8] at h1; simp at h1)
  obtain ⟨d, a, b, c⟩ := r
  obtain ⟨d', a', b', c'⟩ := s
  simp only at h3 h5 h6 hd
  rw [bytes_eq h3, bytes_eq h5, bytes_eq h6, hd]


/-! Lists in the order of texts. -/
def ltR (x y : Ru) : Bool := Op.bytesLess x.text.data.toList y.text.data.toList
def SS (l : List Ru) : Prop := l.Pairwise (fun x y => ltR x y = true)
theorem same_eq {x y : Ru} (h : x.same y = true) : x = y := by
  unfold Ru.same eqB at h
  simp only [Bool.and_eq_true, beq_iff_eq, toList_data] at h
  obtain ⟨d, a, b, c⟩ := x
  obtain ⟨d', a', b', c'⟩ := y
  simp only at h
  rw [h.1.1.1, bytes_eq h.1.1.2, bytes_eq h.1.2, bytes_eq h.2]
theorem ss_unique : ∀ l l' : List Ru, SS l → SS l' → (∀ y, y ∈ l ↔ y ∈ l') → l = l'
  | [], [], _, _, _ => rfl
  | [], y :: _, _, _, h => by have := (h y).2 List.mem_cons_self; cases this
  | x :: _, [], _, _, h => by have := (h x).1 List.mem_cons_self; cases this
  | x :: xs, y :: ys, h1, h2, h => by
    unfold SS at h1 h2
    rw [List.pairwise_cons] at h1 h2
    have hxy : x = y := by
      have a1 := (h x).1 List.mem_cons_self
      have a2 := (h y).2 List.mem_cons_self
      rw [List.mem_cons] at a1 a2
      rcases a1 with a1 | a1
      · exact a1
      · rcases a2 with a2 | a2
        · exact a2.symm
        · have b1 := h2.1 x a1
          have b2 := h1.1 y a2
          unfold ltR at b1 b2
          rw [bl_asym b2] at b1
          cases b1
    subst hxy
    have ht : ∀ z, z ∈ xs ↔ z ∈ ys := fun z => by
      constructor
      · intro hz
        have := (h z).1 (List.mem_cons_of_mem _ hz)
        rw [List.mem_cons] at this
        rcases this with rfl | this
        · have := h1.1 z hz
          unfold ltR at this
          rw [bl_irrefl] at this
          cases this
        · exact this
      · intro hz
        have := (h z).2 (List.mem_cons_of_mem _ hz)
        rw [List.mem_cons] at this
        rcases this with rfl | this
        · have := h2.1 z hz
          unfold ltR at this
          rw [bl_irrefl] at this
          cases this
        · exact this
    rw [ss_unique xs ys h1.2 h2.2 ht]
/-- A rule laid in where it belongs, once. -/
def insU (r : Ru) : List Ru → List Ru
  | [] => [r]
  | x :: xs => if ltR x r = true then x :: insU r xs else if x.same r = true then x :: xs else r :: x :: xs
theorem insU_mem (r : Ru) : ∀ (l : List Ru) (y : Ru), y ∈ insU r l ↔ y = r ∨ y ∈ l
  | [], y => by simp [insU]
  | x :: xs, y => by
    unfold insU
    split
    · rw [List.mem_cons, insU_mem r xs y, List.mem_cons]
      constructor
      · rintro (h | h | h)
        · exact .inr (.inl h)
        · exact .inl h
        · exact .inr (.inr h)
      · rintro (h | h | h)
        · exact .inr (.inl h)
        · exact .inl h
        · exact .inr (.inr h)
    · split
      · rename_i h2
        have := same_eq h2
        subst this
        simp
      · simp
theorem insU_ss {r : Ru} (hr : r.good = true) : ∀ l : List Ru, (∀ x ∈ l, x.good = true) → SS l → SS (insU r l)
  | [], _, _ => by simp [insU, SS]
  | x :: xs, hg, h => by
    unfold SS at h
    rw [List.pairwise_cons] at h
    unfold insU
    split
    · rename_i h1
      unfold SS
      rw [List.pairwise_cons]
      refine ⟨fun y hy => ?_, insU_ss hr xs (fun z hz => hg z (List.mem_cons_of_mem _ hz)) h.2⟩
      rw [insU_mem] at hy
      rcases hy with rfl | hy
      · exact h1
      · exact h.1 y hy
    · rename_i h1
      split
      · unfold SS
        rw [List.pairwise_cons]
        exact h
      · rename_i h2
        have hrx : ltR r x = true := by
          cases h3 : ltR r x
          · unfold ltR at h1 h3
            have h4 : Op.bytesLess x.text.data.toList r.text.data.toList = false := by simpa using h1
            have := text_inj (hg x List.mem_cons_self) hr (bl_total _ _ h4 h3)
            subst this
            exact absurd (Ru.same_refl x) h2
          · rfl
        unfold SS
        rw [List.pairwise_cons, List.pairwise_cons]
        refine ⟨fun y hy => ?_, h⟩
        rw [List.mem_cons] at hy
        rcases hy with rfl | hy
        · exact hrx
        · exact bl_trans _ _ _ hrx (h.1 y hy)
def plTo (rs : List Ru) (k : Nat) : List Ru := (rs.take k).foldl (fun o r => insU r o) []
theorem plTo_succ {rs : List Ru} {k : Nat} (h : k < rs.length) : plTo rs (k + 1) = insU rs[k] (plTo rs k) := by
  unfold plTo
  rw [List.take_succ_eq_append_getElem h, List.foldl_append]
  rfl
theorem plTo_mem {rs : List Ru} : ∀ k, k ≤ rs.length → ∀ y, y ∈ plTo rs k ↔ y ∈ rs.take k
  | 0, _, y => by simp [plTo]
  | k + 1, hk, y => by
    rw [plTo_succ (by omega), insU_mem, plTo_mem k (by omega) y, List.take_succ_eq_append_getElem (by omega), List.mem_append, List.mem_singleton]
    exact Or.comm
theorem plTo_ss {rs : List Ru} (hg : ∀ r ∈ rs, r.good = true) : ∀ k, k ≤ rs.length → SS (plTo rs k)
  | 0, _ => by simp [plTo, SS]
  | k + 1, hk => by
    rw [plTo_succ (by omega)]
    exact insU_ss (hg _ (List.getElem_mem _)) _ (fun x hx => hg x (List.mem_of_mem_take ((plTo_mem k (by omega) x).1 hx))) (plTo_ss hg k (by omega))
/-- What stays of a list when of neighbours alike the first stays. -/
def kpB (rs : List Ru) (i : Nat) : Bool := match i, rs[i]?, rs[i - 1]? with
  | 0, _, _ => true
  | _ + 1, some x, some y => !(x.same y)
  | _ + 1, _, _ => true
def cpTo (rs : List Ru) : Nat → List Ru
  | 0 => []
  | m + 1 => if kpB rs m = true then cpTo rs m ++ rs[m]?.toList else cpTo rs m
theorem kpB_succ {rs : List Ru} {i : Nat} (h : i + 1 < rs.length) : kpB rs (i + 1) = !(rs[i + 1].same rs[i]) := by
  unfold kpB
  simp only [Nat.add_sub_cancel]
  rw [List.getElem?_eq_getElem h, List.getElem?_eq_getElem (by omega)]
theorem cpTo_yes {rs : List Ru} {m : Nat} (h : m < rs.length) (hk : kpB rs m = true) : cpTo rs (m + 1) = cpTo rs m ++ [rs[m]] := by
  rw [cpTo, if_pos hk, List.getElem?_eq_getElem h]
  rfl
theorem cpTo_no {rs : List Ru} {m : Nat} (hk : kpB rs m = false) : cpTo rs (m + 1) = cpTo rs m := by
  rw [cpTo, if_neg (by rw [hk]; exact Bool.false_ne_true)]
theorem cpTo_len (rs : List Ru) : ∀ m, (cpTo rs m).length ≤ m
  | 0 => Nat.le_refl _
  | m + 1 => by
    have ih := cpTo_len rs m
    rw [cpTo]
    split
    · rw [List.length_append]
      cases rs[m]? <;> simp <;> omega
    · omega
theorem cpTo_all {rs : List Ru} : ∀ m, m ≤ rs.length → (∀ i, i < m → kpB rs i = true) → cpTo rs m = rs.take m
  | 0, _, _ => by simp [cpTo]
  | m + 1, hm, h => by
    rw [cpTo_yes (by omega) (h m (by omega)), cpTo_all m (by omega) (fun i hi => h i (by omega)), List.take_succ_eq_append_getElem (by omega)]
theorem cpTo_ss {ds : List Ru} (hg : ∀ r ∈ ds, r.good = true) (hs : ∀ i j (hi : i < j) (hj : j < ds.length), ltR ds[j] ds[i] = false) : ∀ m, m ≤ ds.length → SS (cpTo ds m) ∧ ∀ y, y ∈ cpTo ds m ↔ y ∈ ds.take m
  | 0, _ => by simp [cpTo, SS]
  | m + 1, hm => by
    obtain ⟨h1, h2⟩ := cpTo_ss hg hs m (by omega)
    cases hk : kpB ds m
    · rw [cpTo_no hk]
      refine ⟨h1, fun y => ?_⟩
      rw [h2, List.take_succ_eq_append_getElem (by omega), List.mem_append, List.mem_singleton]
      constructor
      · exact .inl
      · rintro (h | rfl)
        · exact h
        · cases m with
          | zero => simp [kpB] at hk
          | succ i =>
            rw [kpB_succ (by omega)] at hk
            have := same_eq (by simpa using hk)
            rw [this, List.mem_take_iff_getElem]
            exact ⟨i, by omega, rfl⟩
    · rw [cpTo_yes (by omega) hk]
      refine ⟨?_, fun y => by rw [List.mem_append, h2, List.take_succ_eq_append_getElem (by omega), List.mem_append]⟩
      unfold SS at *
      rw [List.pairwise_append]
      refine ⟨h1, by simp, fun x hx y hy => ?_⟩
      rw [List.mem_singleton] at hy
      subst hy
      have hx' := (h2 x).1 hx
      rw [List.mem_take_iff_getElem] at hx'
      obtain ⟨i, hi, rfl⟩ := hx'
      cases m with
      | zero => omega
      | succ p =>
        rw [kpB_succ (by omega)] at hk
        have hlt : ltR ds[p] ds[p + 1] = true := by
          cases h3 : ltR ds[p] ds[p + 1]
          · have h4 := hs p (p + 1) (by omega) (by omega)
            unfold ltR at h3 h4
            have := text_inj (hg _ (List.getElem_mem _)) (hg _ (List.getElem_mem _)) (bl_total _ _ h3 h4)
            rw [this, Ru.same_refl] at hk
            cases hk
          · rfl
        by_cases hip : i = p
        · subst hip
          exact hlt
        · exact bl_le_lt (hs i p (by omega) (by omega)) hlt
/-- A sorted copy, neighbours alike taken away, is what the specification lays. -/
theorem plain_eq {rs ds : List Ru} (hg : ∀ r ∈ rs, r.good = true) (hp : ds.Perm rs) (hs : ∀ i j (hi : i < j) (hj : j < ds.length), ltR ds[j] ds[i] = false) : cpTo ds ds.length = plTo rs rs.length := by
  have h1 := cpTo_ss (fun r hr => hg r (hp.mem_iff.1 hr)) hs ds.length (Nat.le_refl _)
  refine ss_unique _ _ h1.1 (plTo_ss hg _ (Nat.le_refl _)) (fun y => ?_)
  rw [h1.2, plTo_mem _ (Nat.le_refl _), List.take_length, List.take_length, hp.mem_iff]

end Go.Proofs.YtjnajdilllkpcaaGreat

namespace Go.Proofs.YtjnajdilllkpcaaGreat
open Go.RowKit Go.Shelf

/-- The rule that is laid at i, from the number k on. -/
def mkR (k i : Nat) : Ru := ⟨((k + 4 * i : Nat) : Int) % 3 == 0, mkT (k + 4 * i + 1), mkT (k + 4 * i + 2), mkT (k + 4 * i + 3)⟩
def mkL (k n : Nat) : List Ru := (List.range n).map (mkR k)
theorem mkL_len (k n : Nat) : (mkL k n).length = n := by simp [mkL]
theorem mkL_succ (k n : Nat) : mkL k (n + 1) = mkL k n ++ [mkR k n] := by
  unfold mkL
  rw [List.range_succ, List.map_append]
  rfl
theorem mkL_at {k n i : Nat} (h : i < (mkL k n).length) : (mkL k n)[i] = mkR k i := by simp [mkL]



end Go.Proofs.YtjnajdilllkpcaaGreat

namespace Go.Proofs.YtjnajdilllkpcaaGreat
open Go.RowKit Go.Shelf Go.Sort

theorem stringsCompare_any (a b : ByteArray) (w : World) :
    Calls Tryz.prog 76 #[.string a, .string b] w fun e w' => e = .returned (.int .i64 (Lib.compareBytes a.data.toList b.data.toList)) ∧ w' = w := Any.strings_Compare Tryz.lays106 a b w

set_option maxHeartbeats 2000000 in
set_option maxRecDepth 100000 in
theorem plainCmp_any (x y : Ru) (w : World) (hx : x.size ≤ 1048576) (hy : y.size ≤ 1048576) :
    Calls Tryz.prog 75 #[x.val, y.val] w fun e w' => e = .returned (.int .i64 (Lib.compareBytes x.text.data.toList y.text.data.toList)) ∧ Below w.heap.size w w' ∧ w.drawn ≤ w'.drawn := by
  have x0 : ((w.alloc (.cells #[.bool x.deny, .string x.who, .string x.method, .string x.path] 31)).alloc (.cells #[.bool y.deny, .string y.who, .string y.method, .string y.path] 31)).cell? ⟨w.heap.size, 0, none⟩ = some (.bool x.deny) := by simp
  have x1 : ((w.alloc (.cells #[.bool x.deny, .string x.who, .string x.method, .string x.path] 31)).alloc (.cells #[.bool y.deny, .string y.who, .string y.method, .string y.path] 31)).cell? ⟨w.heap.size, 1, none⟩ = some (.string x.who) := by simp
  have x2 : ((w.alloc (.cells #[.bool x.deny, .string x.who, .string x.method, .string x.path] 31)).alloc (.cells #[.bool y.deny, .string y.who, .string y.method, .string y.path] 31)).cell? ⟨w.heap.size, 2, none⟩ = some (.string x.method) := by simp
  have x3 : ((w.alloc (.cells #[.bool x.deny, .string x.who, .string x.method, .string x.path] 31)).alloc (.cells #[.bool y.deny, .string y.who, .string y.method, .string y.path] 31)).cell? ⟨w.heap.size, 3, none⟩ = some (.string x.path) := by simp
  have y0 : ((w.alloc (.cells #[.bool x.deny, .string x.who, .string x.method, .string x.path] 31)).alloc (.cells #[.bool y.deny, .string y.who, .string y.method, .string y.path] 31)).cell? ⟨w.heap.size + 1, 0, none⟩ = some (.bool y.deny) := by simp
  have y1 : ((w.alloc (.cells #[.bool x.deny, .string x.who, .string x.method, .string x.path] 31)).alloc (.cells #[.bool y.deny, .string y.who, .string y.method, .string y.path] 31)).cell? ⟨w.heap.size + 1, 1, none⟩ = some (.string y.who) := by simp
  have y2 : ((w.alloc (.cells #[.bool x.deny, .string x.who, .string x.method, .string x.path] 31)).alloc (.cells #[.bool y.deny, .string y.who, .string y.method, .string y.path] 31)).cell? ⟨w.heap.size + 1, 2, none⟩ = some (.string y.method) := by simp
  have y3 : ((w.alloc (.cells #[.bool x.deny, .string x.who, .string x.method, .string x.path] 31)).alloc (.cells #[.bool y.deny, .string y.who, .string y.method, .string y.path] 31)).cell? ⟨w.heap.size + 1, 3, none⟩ = some (.string y.path) := by simp
  have hBa : Below w.heap.size w ((w.alloc (.cells #[.bool x.deny, .string x.who, .string x.method, .string x.path] 31)).alloc (.cells #[.bool y.deny, .string y.who, .string y.method, .string y.path] 31)) := ((Below.refl _ w).alloc (Nat.le_refl _) _).alloc (by simp) _
  have HD := hid (show ((w.alloc (.cells #[.bool x.deny, .string x.who, .string x.method, .string x.path] 31)).alloc (.cells #[.bool y.deny, .string y.who, .string y.method, .string y.path] 31)).drawn = w.drawn from rfl)
  have hzx : w.heap.size < ((w.alloc (.cells #[.bool x.deny, .string x.who, .string x.method, .string x.path] 31)).alloc (.cells #[.bool y.deny, .string y.who, .string y.method, .string y.path] 31)).heap.size := by simp; omega
  have hzy : w.heap.size + 1 < ((w.alloc (.cells #[.bool x.deny, .string x.who, .string x.method, .string x.path] 31)).alloc (.cells #[.bool y.deny, .string y.who, .string y.method, .string y.path] 31)).heap.size := by simp
  have hM1 : True := trivial
  go_enter Tryz.func75, Tryz.ntmps75
  go_wp2_with fail
  generalize ((w.alloc (.cells #[.bool x.deny, .string x.who, .string x.method, .string x.path] 31)).alloc (.cells #[.bool y.deny, .string y.who, .string y.method, .string y.path] 31)) = W at *
  go_region_held3 (fun w' => w'.cell? ⟨w.heap.size, 0, none⟩ = some (.bool x.deny) ∧ w'.cell? ⟨w.heap.size, 1, none⟩ = some (.string x.who) ∧ w'.cell? ⟨w.heap.size, 2, none⟩ = some (.string x.method) ∧ w'.cell? ⟨w.heap.size, 3, none⟩ = some (.string x.path) ∧ w'.cell? ⟨w.heap.size + 1, 0, none⟩ = some (.bool y.deny) ∧ w'.cell? ⟨w.heap.size + 1, 1, none⟩ = some (.string y.who) ∧ w'.cell? ⟨w.heap.size + 1, 2, none⟩ = some (.string y.method) ∧ w'.cell? ⟨w.heap.size + 1, 3, none⟩ = some (.string y.path)) (go_keep) (first | (go_at_call 77; clear hM1; refine (textOfRule_any x _ hx).mono ?_; rintro e w1 ⟨rfl, hB1, hd1⟩; have x0_1 := (hB1.cell (p := ⟨w.heap.size, 0, none⟩) (by exact hzx)).trans (by exact x0); have x1_1 := (hB1.cell (p := ⟨w.heap.size, 1, none⟩) (by exact hzx)).trans (by exact x1); have x2_1 := (hB1.cell (p := ⟨w.heap.size, 2, none⟩) (by exact hzx)).trans (by exact x2); have x3_1 := (hB1.cell (p := ⟨w.heap.size, 3, none⟩) (by exact hzx)).trans (by exact x3); have y0_1 := (hB1.cell (p := ⟨w.heap.size + 1, 0, none⟩) (by exact hzy)).trans (by exact y0); have y1_1 := (hB1.cell (p := ⟨w.heap.size + 1, 1, none⟩) (by exact hzy)).trans (by exact y1); have y2_1 := (hB1.cell (p := ⟨w.heap.size + 1, 2, none⟩) (by exact hzy)).trans (by exact y2); have y3_1 := (hB1.cell (p := ⟨w.heap.size + 1, 3, none⟩) (by exact hzy)).trans (by exact y3); have hzx1 := Nat.lt_of_lt_of_le hzx hB1.size; have hzy1 := Nat.lt_of_lt_of_le hzy hB1.size) | (go_at_call 77; refine (textOfRule_any y _ hy).mono ?_; rintro e w2 ⟨rfl, hB2, hd2⟩; have x0_2 := (hB2.cell (p := ⟨w.heap.size, 0, none⟩) (by exact hzx1)).trans (by exact x0_1); have x1_2 := (hB2.cell (p := ⟨w.heap.size, 1, none⟩) (by exact hzx1)).trans (by exact x1_1); have x2_2 := (hB2.cell (p := ⟨w.heap.size, 2, none⟩) (by exact hzx1)).trans (by exact x2_1); have x3_2 := (hB2.cell (p := ⟨w.heap.size, 3, none⟩) (by exact hzx1)).trans (by exact x3_1); have y0_2 := (hB2.cell (p := ⟨w.heap.size + 1, 0, none⟩) (by exact hzy1)).trans (by exact y0_1); have y1_2 := (hB2.cell (p := ⟨w.heap.size + 1, 1, none⟩) (by exact hzy1)).trans (by exact y1_1); have y2_2 := (hB2.cell (p := ⟨w.heap.size + 1, 2, none⟩) (by exact hzy1)).trans (by exact y2_1); have y3_2 := (hB2.cell (p := ⟨w.heap.size + 1, 3, none⟩) (by exact hzy1)).trans (by exact y3_1)) | (go_at_call 76; refine (stringsCompare_any x.text y.text _).mono ?_; rintro e w3 ⟨rfl, rfl⟩))
  all_goals go_wp2
  all_goals go_ret
  all_goals exact ⟨rfl, below_one (below_one hBa (below_drew1 hB1)) hB2, by have h0 := HD.out; have h1 : W.drawn + 1 ≤ w1.drawn := hd1; omega⟩

/-- Memory that was only made, and draws: in the sort's words. -/
theorem grow_of {W w' : World} (hB : Below W.heap.size W w') (hd : W.drawn ≤ w'.drawn) : ∃ q os', w' = grow (W.drewN q) os' := by
  refine ⟨w'.drawn - W.drawn, w'.heap.extract W.heap.size w'.heap.size, ?_⟩
  have hh : w'.heap = W.heap ++ w'.heap.extract W.heap.size w'.heap.size := by
    apply Array.ext_getElem?
    intro k
    by_cases hk : k < W.heap.size
    · rw [Array.getElem?_append_left hk, hB.block k hk]
    · rw [Array.getElem?_append_right (by omega), Array.getElem?_extract]
      by_cases h2 : k < w'.heap.size
      · rw [if_pos (by omega)]
        congr 1
        omega
      · rw [if_neg (by omega), Array.getElem?_eq_none (by omega)]
  have h1 := hB.os
  have h2 := hB.tape
  have h3 := hB.output
  obtain ⟨hp, tp, dr, os, out⟩ := w'
  obtain ⟨hp0, tp0, dr0, os0, out0⟩ := W
  simp only at h1 h2 h3 hd hh
  simp only [grow, World.drewN]
  rw [← hh, h1, h2, h3, Nat.add_sub_cancel' hd]

/-- A rule whose text can be laid. -/
abbrev SmR := {r : Ru // r.size ≤ 1048576}
instance : Inhabited SmR := ⟨⟨⟨false, ⟨#[]⟩, ⟨#[]⟩, ⟨#[]⟩⟩, by decide⟩⟩
def encR (x : SmR) : List Value := x.1.cells
def cmpR (x y : SmR) : Int := Lib.compareBytes x.1.text.data.toList y.1.text.data.toList
theorem ltOf_cmpR (x y : SmR) : ltOf cmpR x y = ltR x.1 y.1 := by
  unfold ltOf cmpR ltR
  exact bl_cmp _ _
theorem swoR : SWO (ltOf cmpR) where
  irrefl := fun x => by rw [ltOf_cmpR]; exact bl_irrefl _
  trans := fun x y z h1 h2 => by rw [ltOf_cmpR] at *; exact bl_trans _ _ _ h1 h2
  ntrans := fun x y z h1 h2 => by rw [ltOf_cmpR] at *; exact bl_ntrans h1 h2
theorem cmpLaysR (blk off size : Nat) (w : World) : CmpLays Tryz.prog 75 #[] encR 4 cmpR blk off size w := by
  intro m os dk _ x y
  refine (plainCmp_any x.1 y.1 _ x.2 y.2).mono ?_
  rintro e w' ⟨rfl, hB, hd⟩
  exact ⟨rfl, grow_of hB hd⟩
theorem flat_get (l : List SmR) (t : Nat) (h : t < l.length * 4) : some (flatK encR 4 l.toArray)[t]! = ((l.map Subtype.val).flatMap Ru.cells)[t]? := by
  have h1 : t / 4 < l.length := by omega
  rw [get_flatK encR 4 _ t (by simpa using h)]
  have h2 := flat_at (l.map Subtype.val) (t / 4) (t % 4) (by simpa using h1) (by omega)
  rw [show t / 4 * 4 + t % 4 = t by omega] at h2
  rw [h2]
  have h3 : l.toArray[t / 4]! = l[t / 4] := by rw [getElem!_pos _ _ (by simpa using h1)]; simp
  rw [h3]
  simp only [List.getElem_map, encR]
  have h4 : t % 4 < 4 := by omega
  rw [getElem!_pos _ _ (by simpa using h4), List.getElem?_eq_getElem (by simpa using h4)]

theorem eg1 : ∀ args w, (callFunc 75 args).run Tryz.prog w = .ok (.enter 75 args) w := enters_of Tryz.func75 (by kernel_rfl) rfl

set_option maxHeartbeats 1000000 in
theorem sortRules_any (base g cap : Nat) (l : List SmR) (w : World) (hn : l.length ≤ 1048577) (hrow : w.ownsRow base 31 4 (.slice (some ⟨g, 0, none⟩) l.length cap) l.length ((l.map Subtype.val).flatMap Ru.cells)) :
    Calls Tryz.prog 74 #[.slice (some ⟨g, 0, none⟩) l.length cap, .func (.func 75) #[] #[]] w fun e w' => e = .returned (.tuple #[]) ∧ ∃ ds : List SmR, ds.Perm l ∧ (∀ i j (_ : i < j) (hj : j < ds.length), ltR ds[j].1 ds[i].1 = false) ∧ w'.ownsRow base 31 4 (.slice (some ⟨g, 0, none⟩) l.length cap) l.length ((ds.map Subtype.val).flatMap Ru.cells) ∧ w.grownBy w' (some g) := by
  rcases hrow.2 with ⟨h, _⟩ | ⟨g', cap', cur, h, hbase, hb, h1, h2, h3, h4⟩
  · cases h
  · simp only [Value.slice.injEq, Option.some.injEq, Addr.mk.injEq, and_true, true_and] at h
    obtain ⟨rfl, rfl⟩ := h
    have hH : HoldsK encR 4 w g 0 l.toArray := by
      intro j hj
      have hj' : j < l.length * 4 := by simpa using hj
      refine ⟨?_, by simp [World.frozen?, hb]⟩
      have := hrow.cellAt j (by omega)
      rw [Nat.zero_add, this, ← flat_get l j hj']
      rfl
    have hlt : g < w.heap.size := (Array.getElem?_eq_some_iff.1 hb).1
    have hcon := AnyQ.slices_SortFunc Tryz.sortRu 4 Tryz.isAgg31 Tryz.sizeOf31 encR (fun _ => rfl) (fun x v hv => by simp [encR] at hv; rcases hv with rfl | rfl | rfl | rfl <;> rfl) cmpR swoR 75 #[] g 0 cap l.toArray w eg1 (cmpLaysR g 0 _ w) hH hlt (by simp; omega)
    refine Calls.mono hcon ?_
    rintro e w' ⟨rfl, d', n, os, hp, hs, rfl⟩
    have hsz : d'.size = l.length := by simpa using hp.1
    have hperm : d'.toList.Perm l := by
      have := hp.2.2
      rw [show (d'.extract 0 l.toArray.size) = d' by rw [show l.toArray.size = d'.size by simp [hsz]]; simp] at this
      simpa using this
    refine ⟨rfl, d'.toList, hperm, ?_, ?_, ?_⟩
    · intro i j hi hj
      have hj' : j < d'.size := by simpa using hj
      have := hs i j (Nat.zero_le _) hi (by simp; omega)
      rw [ltOf_cmpR, getElem!_pos d' j hj', getElem!_pos d' i (by omega)] at this
      simpa using this
    · have hl' : d'.toList.length = l.length := by simpa using hsz
      refine ⟨by rw [flat_len]; simp [hsz], .inr ⟨g, cap, putCells id 0 (flatK encR 4 d') cur, rfl, hbase, ?_, h1, h2, by simp [putCells, h3], ?_⟩⟩
      · show (grow (putRow id (Sort.ahead w n) g 0 (flatK encR 4 d')) os).heap[g]? = _
        rw [heap_grow_old _ _ (by simpa using hlt)]
        simp [putRow, mapBlock, Sort.ahead, Array.getElem?_modify, hb, onCells]
      · apply List.ext_getElem?
        intro j
        by_cases hj : j < l.length * 4
        · have hjc : j < cur.size := by omega
          rw [List.getElem?_take_of_lt hj, Array.getElem?_toList, ← flat_get d'.toList j (by omega)]
          simp [putCells, hjc, hsz, hj]
        · rw [List.getElem?_take_eq_none (by omega), List.getElem?_eq_none (by rw [flat_len]; simp [hsz]; omega)]
    · refine ⟨rfl, rfl, rfl, ?_, fun k hk hne => ?_⟩
      · show w.heap.size ≤ (grow (putRow id (Sort.ahead w n) g 0 (flatK encR 4 d')) os).heap.size
        simp [putRow, mapBlock, Sort.ahead]
      · show (grow (putRow id (Sort.ahead w n) g 0 (flatK encR 4 d')) os).heap[k]? = _
        rw [heap_grow_old _ _ (by simpa using hk)]
        have : g ≠ k := fun e => hne (by rw [e])
        simp [putRow, mapBlock, Sort.ahead, Array.getElem?_modify, this]

end Go.Proofs.YtjnajdilllkpcaaGreat

namespace Go.Proofs.YtjnajdilllkpcaaGreat
open Go.RowKit Go.Shelf

theorem eql_ru (o r : Ru) (w : World) : (binOp .eql 31 o.val r.val).run Tryz.prog w = .ok (.bool (o.same r)) w := by
  rw [run_eql_struct]
  simp [go_sem, Tryz.underlying31]
  unfold Ru.same eqB
  repeat' split
  all_goals simp_all
theorem neq_ru (o r : Ru) (w : World) : (binOp .neq 31 o.val r.val).run Tryz.prog w = .ok (.bool (!(o.same r))) w := by
  rw [run_neq_struct]
  simp [go_sem, Tryz.underlying31]
  unfold Ru.same eqB
  repeat' split
  all_goals simp_all
/-- The cells of the rule at k. -/
theorem row_ru {w : World} {base g cap n : Nat} {rs : List Ru} (hrow : w.ownsRow base 31 4 (.slice (some ⟨g, 0, none⟩) n cap) n (rs.flatMap Ru.cells)) {k : Nat} (h : k < n) (hn : rs.length = n) (r : Ru) (hr : rs[k]'(by omega) = r) :
    w.cell? ⟨g, k * 4, none⟩ = some (.bool r.deny) ∧ w.cell? ⟨g, k * 4 + 1, none⟩ = some (.string r.who) ∧ w.cell? ⟨g, k * 4 + 2, none⟩ = some (.string r.method) ∧ w.cell? ⟨g, k * 4 + 3, none⟩ = some (.string r.path) := by
  subst hr
  have hc : ∀ j, j < 4 → w.cell? ⟨g, k * 4 + j, none⟩ = (rs[k]'(by omega)).cells[j]? := fun j hj => by rw [hrow.cellAt (k * 4 + j) (by omega), flat_at rs k j (by omega) hj]
  have h0 := hc 0 (by omega)
  have h1 := hc 1 (by omega)
  have h2 := hc 2 (by omega)
  have h3 := hc 3 (by omega)
  simp only [Nat.add_zero, List.getElem?_cons_zero, List.getElem?_cons_succ] at h0 h1 h2 h3
  exact ⟨h0, h1, h2, h3⟩
theorem flat_set (ys : List Ru) (k : Nat) (r : Ru) (_h : k < ys.length) : ((((ys.flatMap Ru.cells).set (k * 4) (.bool r.deny)).set (k * 4 + 1) (.string r.who)).set (k * 4 + 2) (.string r.method)).set (k * 4 + 3) (.string r.path) = (ys.set k r).flatMap Ru.cells := by
  apply List.ext_getElem?
  intro i
  have hl := flat_len ys
  by_cases hi : i < ys.length * 4
  · have e : i = i / 4 * 4 + i % 4 := by omega
    have h1 : i / 4 < ys.length := by omega
    by_cases hk : i / 4 = k
    · have h2 := flat_at (ys.set k r) (i / 4) (i % 4) (by simpa using h1) (by omega)
      rw [← e] at h2
      rw [h2, List.getElem_set, if_pos hk.symm]
      obtain h | h | h | h : i % 4 = 0 ∨ i % 4 = 1 ∨ i % 4 = 2 ∨ i % 4 = 3 := by omega
      · have ei : i = k * 4 := by omega
        rw [h, ei, List.getElem?_set_ne (by omega), List.getElem?_set_ne (by omega), List.getElem?_set_ne (by omega), List.getElem?_set_self (by omega)]
        rfl
      · have ei : i = k * 4 + 1 := by omega
        rw [h, ei, List.getElem?_set_ne (by omega), List.getElem?_set_ne (by omega), List.getElem?_set_self (by simp only [List.length_set]; omega)]
        rfl
      · have ei : i = k * 4 + 2 := by omega
        rw [h, ei, List.getElem?_set_ne (by omega), List.getElem?_set_self (by simp only [List.length_set]; omega)]
        rfl
      · have ei : i = k * 4 + 3 := by omega
        rw [h, ei, List.getElem?_set_self (by simp only [List.length_set]; omega)]
        rfl
    · have h2 := flat_at (ys.set k r) (i / 4) (i % 4) (by simpa using h1) (by omega)
      have h3 := flat_at ys (i / 4) (i % 4) h1 (by omega)
      rw [← e] at h2 h3
      rw [h2, List.getElem_set, if_neg (fun h => hk h.symm), ← h3, List.getElem?_set_ne (by omega), List.getElem?_set_ne (by omega), List.getElem?_set_ne (by omega), List.getElem?_set_ne (by omega)]
  · rw [List.getElem?_eq_none (by simp only [List.length_set]; omega), List.getElem?_eq_none (by rw [flat_len, List.length_set]; omega)]
/-- A row's first elements. -/
theorem row_short {w : World} {base g cap n k : Nat} {e : TypeId} {size : Nat} {xs : List Value} (h : w.ownsRow base e size (.slice (some ⟨g, 0, none⟩) n cap) n xs) (hk : k ≤ n) : w.ownsRow base e size (.slice (some ⟨g, 0, none⟩) k cap) k (xs.take (k * size)) := by
  have hm : k * size ≤ n * size := Nat.mul_le_mul_right _ hk
  rcases h.2 with ⟨h', _⟩ | ⟨g', cap', cur, h', hb, hg, hn, hc, hs, ht⟩
  · cases h'
  · simp only [Value.slice.injEq, Option.some.injEq, Addr.mk.injEq, and_true, true_and] at h'
    obtain ⟨rfl, rfl⟩ := h'
    refine ⟨by rw [List.length_take, h.1]; omega, .inr ⟨g, cap, cur, rfl, hb, hg, by omega, hc, hs, ?_⟩⟩
    rw [← ht, List.take_take, Nat.min_eq_left hm]
/-- Cells laid behind the first ones. -/
theorem row_behind {base g cap n k : Nat} {e : TypeId} {size : Nat} : ∀ (vs : List Value) (o : Nat) (w : World) (xs : List Value), k * size ≤ o → w.ownsRow base e size (.slice (some ⟨g, 0, none⟩) n cap) n xs →
    ∃ xs', (w.setCells g o vs).ownsRow base e size (.slice (some ⟨g, 0, none⟩) n cap) n xs' ∧ xs'.take (k * size) = xs.take (k * size) ∧ w.grownBy (w.setCells g o vs) (some g)
  | [], o, w, xs, _, h => ⟨xs, h, rfl, grown_self _ _⟩
  | v :: vs, o, w, xs, ho, h => by
    obtain ⟨h1, h2⟩ := h.stored o v
    obtain ⟨xs', a1, a2, a3⟩ := row_behind vs (o + 1) _ _ (Nat.le_succ_of_le ho) h1
    refine ⟨xs', a1, ?_, grown_two h2 a3⟩
    rw [a2, List.take_set_of_le ho]


abbrev zeroRu : Value := .agg #[.bool false, .string ⟨#[]⟩, .string ⟨#[]⟩, .string ⟨#[]⟩]
theorem clear_ru {w : World} {base g cap n : Nat} {ys : List Value} (hrow : w.ownsRow base 31 4 (.slice (some ⟨g, 0, none⟩) n cap) n ys) (k c : Nat) (hk : k < n) :
    ∀ ty, (Builtin.clear_ #[23] ty #[.slice (some ⟨g, k * 4, none⟩) (n - k) c]).run Tryz.prog w = .ok (.tuple #[]) (w.setCells g (k * 4) (Builtin.zeroCells zeroRu.cells (n - k)).toList) := by
  intro ty
  have hl : (Builtin.zeroCells zeroRu.cells (n - k)).toList.length = (n - k) * 4 := by simp [Builtin.zeroCells, Value.cells]
  have hst := run_storeCells_cells (P := Tryz.prog) g (k * 4) (Builtin.zeroCells zeroRu.cells (n - k)).toList 0 w
    (fun j hj => by
      rw [hl] at hj
      rw [Nat.add_zero, hrow.cellAt (k * 4 + j) (by omega), List.getElem?_eq_getElem (by rw [hrow.1]; omega)]
      rfl)
    (fun j _ => by rw [Nat.add_zero]; exact hrow.frozenAt _)
    (fun v hv => by
      simp only [Builtin.zeroCells, Value.cells, Array.toList_map, List.mem_map] at hv
      obtain ⟨i, _, rfl⟩ := hv
      have h4 : i % 4 = 0 ∨ i % 4 = 1 ∨ i % 4 = 2 ∨ i % 4 = 3 := by omega
      show ((#[.bool false, .string ⟨#[]⟩, .string ⟨#[]⟩, .string ⟨#[]⟩] : Array Value)[i % 4]!).oneCell' = true
      rcases h4 with h | h | h | h <;> rw [h] <;> rfl)
  simp only [Nat.add_zero] at hst
  have hv : ∀ w, (zeroValue 31).run Tryz.prog w = .ok zeroRu w := fun w => by kernel_rfl
  obtain ⟨m, hm⟩ : ∃ m, n - k = m + 1 := ⟨n - k - 1, by omega⟩
  rw [hm] at hst ⊢
  simp [Builtin.clear_, run_underlying Tryz.underlying23, hv, hst]

end Go.Proofs.YtjnajdilllkpcaaGreat

namespace Go.Proofs.YtjnajdilllkpcaaGreat
open Go.RowKit Go.Shelf

theorem row_draws {w : World} {base : Nat} {e : TypeId} {size n : Nat} {v : Value} {xs : List Value} (h : w.ownsRow base e size v n xs) (q : Nat) : (w.drewN q).ownsRow base e size v n xs := h
theorem grown_draws {w W : World} {r : Option Nat} (h : w.grownBy W r) (q : Nat) : w.grownBy (W.drewN q) r := ⟨h.os, h.tape, h.output, h.size, h.block⟩
theorem ret_slc {a : Option Addr} {n m cap : Nat} (h : n = m) : Ending.returned (.slice a n cap) = .returned (.slice a m cap) := by rw [h]
theorem flat_take : ∀ (ys : List Ru) (k : Nat), (ys.flatMap Ru.cells).take (k * 4) = (ys.take k).flatMap Ru.cells
  | [], k => by simp
  | y :: ys, 0 => by simp
  | y :: ys, k + 1 => by
    rw [List.flatMap_cons, List.take_succ_cons, List.flatMap_cons, ← flat_take ys k, show (k + 1) * 4 = k * 4 + 4 by omega]
    rfl
theorem kp_one {rs : List Ru} {j : Nat} (h : j < 0 + 1) : kpB rs j = true := by
  obtain rfl : j = 0 := by omega
  rfl
theorem kp_false {rs : List Ru} {i : Nat} (h : i + 1 < rs.length) (hs : rs[i + 1].same rs[i] = true) : kpB rs (i + 1) = false := by rw [kpB_succ h, hs]; rfl
theorem kp_true {rs : List Ru} {i : Nat} (h : i + 1 < rs.length) (hs : rs[i + 1].same rs[i] = false) : kpB rs (i + 1) = true := by rw [kpB_succ h, hs]; rfl

set_option maxHeartbeats 4000000 in
set_option maxRecDepth 100000 in
theorem compact_any (base g cap n : Nat) (rs : List Ru) (w : World) (hl : rs.length = n) (hn : n ≤ 1048577) (hrow : w.ownsRow base 31 4 (.slice (some ⟨g, 0, none⟩) n cap) n (rs.flatMap Ru.cells)) :
    Calls Tryz.prog 78 #[.slice (some ⟨g, 0, none⟩) n cap] w fun e w' => e = .returned (.slice (some ⟨g, 0, none⟩) (cpTo rs n).length cap) ∧ w'.ownsRow base 31 4 (.slice (some ⟨g, 0, none⟩) (cpTo rs n).length cap) (cpTo rs n).length ((cpTo rs n).flatMap Ru.cells) ∧ w.grownBy w' (some g) := by
  by_cases h2 : n < 2
  · have hc : cpTo rs n = rs := by
      rw [cpTo_all n (by omega) (fun i hi => kp_one (by omega)), List.take_of_length_le (by omega)]
    rw [hc, hl]
    go_enter Tryz.func78, Tryz.ntmps78
    go_wp2
    go_ret
    exact ⟨rfl, hrow, grown_self _ _⟩
  · have d2 : decide ((n : Int) < 2) = false := by simp; omega
    have hcap : n ≤ cap := by
      rcases row_form hrow with ⟨h, _⟩ | ⟨_, _, h, _, h'⟩
      · cases h
      · cases h
        exact h'
    go_enter Tryz.func78, Tryz.ntmps78
    go_wp2
    go_loopw [3] (fun i wr => ∃ p : Nat, p + 1 ≤ n ∧ i = .int .i64 ((p + 1 : Nat) : Int) ∧ (∀ j, j < p + 1 → kpB rs j = true) ∧ wr.ownsRow base 31 4 (.slice (some ⟨g, 0, none⟩) n cap) n (rs.flatMap Ru.cells) ∧ w.grownBy wr (some g)) (fun i _ => n - (intOf i).toNat)
    case atStart => exact ⟨0, by omega, rfl, fun j hj => kp_one hj, hrow, grown_self _ _⟩
    case round =>
      obtain ⟨p, hp, rfl, hkp, hrow, hg⟩ := hrel
      have HKP := hid hkp
      clear hkp
      by_cases hlt : p + 1 < n
      · obtain ⟨x0, x1, x2, x3⟩ := row_ru hrow hlt hl _ rfl
        obtain ⟨y0, y1, y2, y3⟩ := row_ru hrow (show p < n by omega) hl _ rfl
        have HS := hid (fun (h : (rs[p + 1]'(by omega)).same (rs[p]'(by omega)) = true) => kp_false (rs := rs) (i := p) (by omega) h)
        have HT := hid (fun (h : (rs[p + 1]'(by omega)).same (rs[p]'(by omega)) = false) => kp_true (rs := rs) (i := p) (by omega) h)
        generalize rs[p + 1] = x at *
        generalize rs[p] = y at *
        have dlt : decide ((p : Int) + 1 < (n : Int)) = true := by simp; omega
        have hse := eql_ru x y
        cases hsm : x.same y
        · rw [hsm] at hse
          have HK1 := hid (HT.out hsm)
          go_wp2_with fail
          go_quiet (fail)
          go_wp2
          refine ⟨⟨p + 1, by omega, by go_num, ?_, row_draws hrow _, grown_draws hg _⟩, by simp [intOf]; omega⟩
          intro j hj
          by_cases hjp : j = p + 1
          · subst hjp
            exact HK1.out
          · exact HKP.out j (by omega)
        · rw [hsm] at hse
          have hc0 : cpTo rs (p + 1 + 0 + 1) = rs.take (p + 1) := by
            rw [Nat.add_zero, cpTo_no (HS.out hsm), cpTo_all (p + 1) (by omega) HKP.out]
          have HC0 := hid hc0
          clear hc0
          go_wp2_with fail
          go_quiet (fail)
          go_wp2
          replace hrow := row_draws hrow nq
          replace hg := grown_draws hg nq
          clear x0 x1 x2 x3 y0 y1 y2 y3
          generalize wr.drewN nq = W1 at *
          go_loopw [3, 5] (fun kv i wq => ∃ (kk q : Nat) (ys : List Ru), kv = .int .i64 kk ∧ i = .int .i64 ((q + 1 : Nat) : Int) ∧ p + 1 + q + 1 ≤ n ∧ kk ≤ p + 1 + q ∧ ys.length = n ∧ (cpTo rs (p + 1 + q + 1)).length = kk ∧ ys.take kk = cpTo rs (p + 1 + q + 1) ∧ (∀ j, kk ≤ j → ys[j]? = rs[j]?) ∧ wq.ownsRow base 31 4 (.slice (some ⟨g, 0, none⟩) n cap) n (ys.flatMap Ru.cells) ∧ w.grownBy wq (some g)) (fun _ i _ => n - (intOf i).toNat)
          case atStart => exact ⟨p + 1, 0, rs, rfl, rfl, by omega, by omega, hl, by rw [HC0.out, List.length_take]; omega, HC0.out.symm, fun _ _ => rfl, hrow, hg⟩
          case round =>
            obtain ⟨kk, q, ys, rfl, rfl, hq, hkk, hyl, hcl, hct, hyr, hrowq, hgq⟩ := hrel
            have HCL := hid hcl
            have HCT := hid hct
            have HYR := hid hyr
            clear hcl hct hyr hrow hg
            by_cases hlq : p + 1 + q + 1 < n
            · have e1 : ys[p + 1 + q + 1]'(by omega) = rs[p + 1 + q + 1]'(by omega) := by
                have := HYR.out (p + 1 + q + 1) (by omega)
                rw [List.getElem?_eq_getElem (by omega), List.getElem?_eq_getElem (by omega)] at this
                exact Option.some.inj this
              have e2 : ys[p + 1 + q]'(by omega) = rs[p + 1 + q]'(by omega) := by
                have := HYR.out (p + 1 + q) (by omega)
                rw [List.getElem?_eq_getElem (by omega), List.getElem?_eq_getElem (by omega)] at this
                exact Option.some.inj this
              obtain ⟨x0, x1, x2, x3⟩ := row_ru hrowq hlq hyl _ e1
              obtain ⟨y0, y1, y2, y3⟩ := row_ru hrowq (show p + 1 + q < n by omega) hyl _ e2
              rw [show (p + 1 + q + 1) * 4 = (p + 1) * 4 + (q + 1) * 4 by omega] at x0 x1 x2 x3
              rw [show (p + 1 + q) * 4 = (p + 1) * 4 + q * 4 by omega] at y0 y1 y2 y3
              have HQ := hid (fun (h : (rs[p + 1 + q + 1]'(by omega)).same (rs[p + 1 + q]'(by omega)) = true) => cpTo_no (kp_false (rs := rs) (i := p + 1 + q) (by omega) h))
              have HW := hid (fun (h : (rs[p + 1 + q + 1]'(by omega)).same (rs[p + 1 + q]'(by omega)) = false) => cpTo_yes (m := p + 1 + q + 1) (by omega) (kp_true (rs := rs) (i := p + 1 + q) (by omega) h))
              clear e1 e2
              generalize rs[p + 1 + q + 1] = x at *
              generalize rs[p + 1 + q] = y at *
              have hne := neq_ru x y
              cases hsn : x.same y
              · rw [hsn] at hne
                have HN := hid (HW.out hsn)
                go_wp2_with fail
                go_quiet (fail)
                replace hrowq := row_draws hrowq nq
                replace hgq := grown_draws hgq nq
                replace x0 : (wr.drewN nq).cell? _ = _ := x0
                replace x1 : (wr.drewN nq).cell? _ = _ := x1
                replace x2 : (wr.drewN nq).cell? _ = _ := x2
                replace x3 : (wr.drewN nq).cell? _ = _ := x3
                clear y0 y1 y2 y3
                generalize wr.drewN nq = W2 at *
                have hlen : (ys.flatMap Ru.cells).length = n * 4 := hrowq.1
                have s0 := hrowq.cellAt (kk * 4) (by omega)
                have s1 := hrowq.cellAt (kk * 4 + 1) (by omega)
                have s2 := hrowq.cellAt (kk * 4 + 2) (by omega)
                have s3 := hrowq.cellAt (kk * 4 + 3) (by omega)
                rw [List.getElem?_eq_getElem (by omega)] at s0 s1 s2 s3
                have t0 := hrowq.frozenAt (kk * 4)
                have t1 := hrowq.frozenAt (kk * 4 + 1)
                have t2 := hrowq.frozenAt (kk * 4 + 2)
                have t3 := hrowq.frozenAt (kk * 4 + 3)
                generalize (ys.flatMap Ru.cells)[kk * 4] = z0 at s0
                generalize (ys.flatMap Ru.cells)[kk * 4 + 1] = z1 at s1
                generalize (ys.flatMap Ru.cells)[kk * 4 + 2] = z2 at s2
                generalize (ys.flatMap Ru.cells)[kk * 4 + 3] = z3 at s3
                have P0 := hrowq.stored (kk * 4) (.bool x.deny)
                have P1 := P0.1.stored (kk * 4 + 1) (.string x.who)
                have P2 := P1.1.stored (kk * 4 + 2) (.string x.method)
                have P3 := P2.1.stored (kk * 4 + 3) (.string x.path)
                have HG := hid (grown_two (grown_two (grown_two (grown_two hgq P0.2) P1.2) P2.2) P3.2)
                have HR := hid (by have := P3.1; rw [flat_set ys kk x (by omega)] at this; exact this)
                clear P0 P1 P2 P3
                go_wp2
                go_roundw
                case rel =>
                  refine ⟨kk + 1, q + 1, ys.set kk x, by go_num, by go_num, by omega, by omega, by rw [List.length_set]; exact hyl, ?_, ?_, ?_, HR.out, HG.out⟩
                  · rw [show p + 1 + (q + 1) + 1 = p + 1 + q + 1 + 1 by omega, HN.out, List.length_append, HCL.out]
                    rfl
                  · rw [show p + 1 + (q + 1) + 1 = p + 1 + q + 1 + 1 by omega, HN.out, ← HCT.out, List.take_succ_eq_append_getElem (by rw [List.length_set]; omega), List.take_set_of_le (Nat.le_refl _), List.getElem_set_self]
                  · intro j hj
                    rw [List.getElem?_set_ne (by omega)]
                    exact HYR.out j (by omega)
                case measure => simp [intOf]; omega
              · rw [hsn] at hne
                have HN := hid (HQ.out hsn)
                go_wp2_with fail
                go_quiet (fail)
                go_wp2
                go_roundw
                case rel => exact ⟨kk, q + 1, ys, rfl, by go_num, by omega, by omega, hyl, by rw [show p + 1 + (q + 1) + 1 = p + 1 + q + 1 + 1 by omega, HN.out]; exact HCL.out, by rw [show p + 1 + (q + 1) + 1 = p + 1 + q + 1 + 1 by omega, HN.out]; exact HCT.out, HYR.out, row_draws hrowq _, grown_draws hgq _⟩
                case measure => simp [intOf]; omega
            · have hkn : kk < n := by omega
              have hclr := clear_ru hrowq kk (cap - kk) hkn
              obtain ⟨xs', r1, r2, r3⟩ := row_behind (k := kk) (Builtin.zeroCells zeroRu.cells (n - kk)).toList (kk * 4) wr _ (Nat.le_refl _) hrowq
              have HF := hid (show (cpTo rs n).length = kk ∧ (cpTo rs n).flatMap Ru.cells = xs'.take (kk * 4) by
                have e : p + 1 + q + 1 = n := by omega
                have h1 := HCL.out
                have h2' := HCT.out
                rw [e] at h1 h2'
                refine ⟨h1, ?_⟩
                rw [r2, ← h2', flat_take])
              go_wp2
              go_ret
              exact ⟨ret_slc HF.out.1.symm, by rw [HF.out.1, HF.out.2]; exact row_short r1 (by omega), grown_two hgq r3⟩
      · obtain rfl : p + 1 = n := by omega
        have HF := hid (show cpTo rs (p + 1) = rs by rw [cpTo_all (p + 1) (by omega) HKP.out, List.take_of_length_le (by omega)])
        go_wp2
        go_ret
        exact ⟨ret_slc (by rw [HF.out, hl]), by rw [HF.out, hl]; exact hrow, hg⟩

end Go.Proofs.YtjnajdilllkpcaaGreat

namespace Go.Proofs.YtjnajdilllkpcaaGreat
open Go.RowKit Go.Shelf

def goodTo (rs : List Ru) (k : Nat) : Bool := (rs.take k).all Ru.good
/-- A list of rules is a policy. -/
def polB (rs : List Ru) : Bool := rs.all Ru.good && decide (rs.length ≤ 30)
theorem goodTo_zero (rs : List Ru) : goodTo rs 0 = true := by simp [goodTo]
theorem goodTo_succ {rs : List Ru} {k : Nat} (h : k < rs.length) : goodTo rs (k + 1) = (goodTo rs k && rs[k].good) := by
  unfold goodTo
  rw [List.take_succ_eq_append_getElem h, List.all_append]
  simp
theorem good_bad {rs : List Ru} {k : Nat} (h : k < rs.length) (hb : rs[k].good = false) : polB rs = false := by
  unfold polB
  rw [Bool.and_eq_false_iff]
  exact .inl (List.all_eq_false.2 ⟨rs[k], List.getElem_mem h, by simp [hb]⟩)
theorem good_end {rs : List Ru} (h : goodTo rs rs.length = true) : polB rs = decide (rs.length ≤ 30) := by
  unfold goodTo at h
  rw [List.take_length] at h
  unfold polB
  rw [h, Bool.true_and]

set_option maxHeartbeats 1000000 in
theorem l2Good_any (v : Value) (rs : List Ru) (w : World) (hm : rs.length ≤ 1048577) (hf : ∀ r ∈ rs, r.size ≤ 1048576) (hr : RuS w v rs) :
    Calls Tryz.prog 55 #[v] w fun e w' => e = .returned (.bool (polB rs)) ∧ Below w.heap.size w w' := by
  obtain ⟨a, cap, rfl⟩ := hr.len
  go_enter Tryz.func55, Tryz.ntmps55
  go_wp2
  go_loopw [7] (fun i wr => ∃ k : Nat, k ≤ rs.length ∧ i = .int .i64 k ∧ goodTo rs k = true ∧ Below w.heap.size w wr) (fun i _ => rs.length - (intOf i).toNat)
  case atStart => exact ⟨0, Nat.zero_le _, rfl, goodTo_zero _, Below.refl _ _⟩
  case round =>
    obtain ⟨k, hk, rfl, hs, hB⟩ := hrel
    have HS := hid hs
    clear hs
    by_cases hlt : k < rs.length
    · obtain ⟨b, off, rfl, hb, hcap, q0, q1, q2, q3⟩ := (hr.below hB).at hlt
      have hz := hf rs[k] (List.getElem_mem hlt)
      have HT := hid (goodTo_succ hlt)
      have HQ := hid (fun h => good_bad hlt h)
      generalize rs[k] = r at *
      have hw : r.who.size ≤ 1048576 := by unfold Ru.size at hz; omega
      have hp : r.path.size ≤ 1048576 := by unfold Ru.size at hz; omega
      have hBa : Below w.heap.size w (wr.alloc (.cells #[.bool r.deny, .string r.who, .string r.method, .string r.path] 31)) := hB.alloc hB.size _
      cases hg : r.good
      · have HR := hid (HQ.out hg)
        go_wp2_with (go_at_call 39; refine (specGoodRule_any r _ hw hp).mono ?_; rintro e w1 ⟨rfl, hB1⟩)
        go_ret
        exact ⟨ret_bool HR.out.symm, below_one hBa hB1⟩
      · have HR := hid (show goodTo rs (k + 1) = true by rw [HT.out, HS.out, hg]; rfl)
        go_wp2_with (go_at_call 39; refine (specGoodRule_any r _ hw hp).mono ?_; rintro e w1 ⟨rfl, hB1⟩)
        go_roundw
        case rel => exact ⟨k + 1, by omega, by go_num, HR.out, below_one hBa hB1⟩
        case measure => simp [intOf]; omega
    · obtain rfl : k = rs.length := by omega
      have HR := hid (good_end HS.out)
      go_wp2
      go_ret
      exact ⟨ret_bool (by rw [HR.out]; exact decide_eq_decide.2 (by omega)), hB⟩

end Go.Proofs.YtjnajdilllkpcaaGreat

namespace Go.Proofs.YtjnajdilllkpcaaGreat
open Go.RowKit Go.Shelf

set_option maxHeartbeats 1000000 in
theorem goodPolicy_any (v : Value) (rs : List Ru) (w : World) (hm : rs.length ≤ 1048577) (hf : ∀ r ∈ rs, r.size ≤ 1048576) (hr : RuS w v rs) :
    Calls Tryz.prog 73 #[v] w fun e w' => e = .returned (.bool (polB rs)) ∧ Below w.heap.size w w' := by
  obtain ⟨a, cap, rfl⟩ := hr.len
  by_cases h30 : 30 < rs.length
  · have HR := hid (show polB rs = false by unfold polB; rw [decide_eq_false (by omega), Bool.and_false])
    go_enter Tryz.func73, Tryz.ntmps73
    go_wp2
    go_ret
    exact ⟨ret_bool HR.out.symm, Below.refl _ _⟩
  · go_enter Tryz.func73, Tryz.ntmps73
    go_wp2
    go_loopw [10] (fun i wr => ∃ k : Nat, k ≤ rs.length ∧ i = .int .i64 k ∧ goodTo rs k = true ∧ Below w.heap.size w wr) (fun i _ => rs.length - (intOf i).toNat)
    case atStart => exact ⟨0, Nat.zero_le _, rfl, goodTo_zero _, Below.refl _ _⟩
    case round =>
      obtain ⟨k, hk, rfl, hs, hB⟩ := hrel
      have HS := hid hs
      clear hs
      by_cases hlt : k < rs.length
      · obtain ⟨b, off, rfl, hb, hcap, q0, q1, q2, q3⟩ := (hr.below hB).at hlt
        have hz := hf rs[k] (List.getElem_mem hlt)
        have HT := hid (goodTo_succ hlt)
        have HQ := hid (fun h => good_bad hlt h)
        generalize rs[k] = r at *
        have hBa : Below w.heap.size w (wr.alloc (.cells #[.bool r.deny, .string r.who, .string r.method, .string r.path] 31)) := hB.alloc hB.size _
        cases hg : r.good
        · have HR := hid (HQ.out hg)
          go_wp2_with (go_at_call 46; refine (implGoodRule_any r _ hz).mono ?_; rintro e w1 ⟨rfl, hB1⟩)
          go_ret
          exact ⟨ret_bool HR.out.symm, below_one hBa hB1⟩
        · have HR := hid (show goodTo rs (k + 1) = true by rw [HT.out, HS.out, hg]; rfl)
          go_wp2_with (go_at_call 46; refine (implGoodRule_any r _ hz).mono ?_; rintro e w1 ⟨rfl, hB1⟩)
          go_roundw
          case rel => exact ⟨k + 1, by omega, by go_num, HR.out, below_one hBa hB1⟩
          case measure => simp [intOf]; omega
      · obtain rfl : k = rs.length := by omega
        have HR := hid (show polB rs = true by rw [good_end HS.out]; exact decide_eq_true (by omega))
        go_wp2
        go_ret
        exact ⟨ret_bool HR.out.symm, hB⟩

/-- A method of a rule takes this one in. -/
def cmB (a b : ByteArray) : Bool := starB a || eqB a b

end Go.Proofs.YtjnajdilllkpcaaGreat

namespace Go.Proofs.YtjnajdilllkpcaaGreat
open Go.RowKit Go.Shelf Go.Sort

/-- The plain policy. -/
def plX (rs : List Ru) : List Ru := if polB rs = true then plTo rs rs.length else []
theorem plX_no {rs : List Ru} (h : polB rs = false) : plX rs = [] := if_neg (by rw [h]; exact Bool.false_ne_true)
theorem plX_yes {rs : List Ru} (h : polB rs = true) : plX rs = plTo rs rs.length := if_pos h

theorem cloneRules_any (base g n cap : Nat) (news : List Value) (w : World) (hn : n ≤ 1048577) (h1 : ∀ u ∈ news, u.oneCell' = true) (hrow : w.ownsRow base 31 4 (.slice (some ⟨g, 0, none⟩) n cap) n news) :
    Calls Tryz.prog 43 #[.slice (some ⟨g, 0, none⟩) n cap] w fun e w' => ∃ v', e = .returned v' ∧ w'.ownsRow w.heap.size 31 4 v' n news ∧ v' ≠ .slice none 0 0 ∧ Below w.heap.size w w' := by
  obtain ⟨i0, hi, hz0, hz1, hz2⟩ := info_parts infoRule
  exact AnyE.slices_Clone Tryz.cloneRu i0 _ 4 56 hi hz0 hz1 hz2 rfl (by decide) Tryz.sizeOf31 g 0 n cap news w hrow.1 (by unfold maxLen; omega) (by omega)
    (fun j u hu => by
      have hj : j < news.length := (List.getElem?_eq_some_iff.1 hu).1
      rw [Nat.zero_add, hrow.cellAt j (by rw [← hrow.1]; exact hj), hu]) h1
theorem cloneRules_nil (n cap : Nat) (w : World) :
    Calls Tryz.prog 43 #[.slice none n cap] w fun e w' => e = .returned (.slice none 0 0) ∧ w' = w := AnyE.slices_Clone_nil Tryz.cloneRu n cap w
theorem sortRules_nil (p : Option Addr) (cap : Nat) (fv : Value) (w : World) :
    Calls Tryz.prog 74 #[.slice p 0 cap, fv] w fun e w' => e = .returned (.tuple #[]) ∧ w' = w := AnyF.slices_SortFunc_none Tryz.sortRu p cap fv w

set_option maxHeartbeats 1000000 in
theorem compact_nil (w : World) :
    Calls Tryz.prog 78 #[.slice none 0 0] w fun e w' => e = .returned (.slice none 0 0) ∧ w' = w := by
  go_enter Tryz.func78, Tryz.ntmps78
  go_wp2
  go_ret
  exact ⟨rfl, rfl⟩

theorem cells_one {rs : List Ru} : ∀ u ∈ rs.flatMap Ru.cells, u.oneCell' = true := by
  intro u hu
  rw [List.mem_flatMap] at hu
  obtain ⟨r, _, hr⟩ := hu
  simp at hr
  rcases hr with rfl | rfl | rfl | rfl <;> rfl
theorem pol_all {rs : List Ru} (h : polB rs = true) : (∀ r ∈ rs, r.good = true) ∧ rs.length ≤ 30 := by
  unfold polB at h
  rw [Bool.and_eq_true, List.all_eq_true] at h
  exact ⟨h.1, of_decide_eq_true h.2⟩

set_option maxHeartbeats 2000000 in
theorem implPlainPolicy_any (v : Value) (rs : List Ru) (base : Nat) (w : World) (hm : rs.length ≤ 1048577) (hf : ∀ r ∈ rs, r.size ≤ 1048576) (hrow : w.ownsRow base 31 4 v rs.length (rs.flatMap Ru.cells)) :
    Calls Tryz.prog 53 #[v] w fun e w' => ∃ v', e = .returned (.tuple #[v', .bool (polB rs)]) ∧ w'.ownsRow w.heap.size 31 4 v' (plX rs).length ((plX rs).flatMap Ru.cells) ∧ Below w.heap.size w w' := by
  cases hp : polB rs
  · have HX := hid (plX_no hp)
    obtain ⟨a, cap, rfl⟩ := ownsRow_len hrow
    go_enter Tryz.func53, Tryz.ntmps53
    go_wp2_with fail
    refine (goodPolicy_any _ rs _ hm hf (RuS.own hrow)).mono ?_
    rintro e w1 ⟨rfl, hB1⟩
    rw [hp]
    go_wp2_with fail
    go_ret2
    exact ⟨_, rfl, by rw [HX.out]; exact World.ownsRow_nil _ _ _ _, hB1⟩
  · have HX := hid (plX_yes hp)
    have HG := hid (pol_all hp)
    rcases row_form hrow with ⟨rfl, h0⟩ | ⟨g, cap, rfl, hg, hcap⟩
    · obtain rfl : rs = [] := List.eq_nil_of_length_eq_zero h0
      go_enter Tryz.func53, Tryz.ntmps53
      go_wp2_with fail
      refine (goodPolicy_any _ [] _ hm hf (RuS.own hrow)).mono ?_
      rintro e w1 ⟨rfl, hB1⟩
      rw [hp]
      go_wp2_with fail
      refine (cloneRules_nil _ _ _).mono ?_
      rintro e w2 ⟨rfl, rfl⟩
      go_wp2_with fail
      refine (sortRules_nil _ _ _ _).mono ?_
      rintro e w3 ⟨rfl, rfl⟩
      go_wp2_with fail
      refine (compact_nil _).mono ?_
      rintro e w4 ⟨rfl, rfl⟩
      go_wp2_with fail
      go_ret2
      exact ⟨_, rfl, by rw [HX.out]; exact World.ownsRow_nil _ _ _ _, hB1⟩
    · go_enter Tryz.func53, Tryz.ntmps53
      go_wp2_with fail
      refine (goodPolicy_any _ rs _ hm hf (RuS.own hrow)).mono ?_
      rintro e w1 ⟨rfl, hB1⟩
      rw [hp]
      have hrow1 := ownsRow_below hrow hB1
      go_wp2_with fail
      refine (cloneRules_any base g rs.length cap _ _ hm cells_one hrow1).mono ?_
      rintro e w2 ⟨v2, rfl, hrow2, hnn, hB2⟩
      have hBB2 := below_one hB1 hB2
      rcases row_form hrow2 with ⟨h', _⟩ | ⟨g2, cap2, rfl, hg2, hcap2⟩
      · exact absurd h' hnn
      · obtain ⟨l, hl⟩ : ∃ l : List SmR, l.map Subtype.val = rs := ⟨rs.pmap Subtype.mk hf, by simp [List.map_pmap]⟩
        have hll : l.length = rs.length := by rw [← hl, List.length_map]
        have hrow2' : w2.ownsRow w1.heap.size 31 4 (.slice (some ⟨g2, 0, none⟩) l.length cap2) l.length ((l.map Subtype.val).flatMap Ru.cells) := by rw [hl, hll]; exact hrow2
        have hz12 := hB1.size
        go_wp2_with fail
        rw [← hll]
        refine (sortRules_any w1.heap.size g2 cap2 l _ (by omega) hrow2').mono ?_
        rintro e w3 ⟨rfl, ds, hperm, hsort, hrow3, hg3⟩
        have hBB3 : Below w.heap.size w w3 := hBB2.grown hg3 hBB2.size (fun k hk => by cases hk; omega)
        have hdl : (ds.map Subtype.val).length = rs.length := by rw [List.length_map, ← hll]; exact hperm.length_eq
        rw [hll] at hrow3
        have HP := hid (show cpTo (ds.map Subtype.val) rs.length = plTo rs rs.length by
          have := plain_eq (rs := rs) (ds := ds.map Subtype.val) HG.out.1 (by rw [← hl]; exact hperm.map _) (fun i j hi hj => by
            rw [List.getElem_map, List.getElem_map]
            exact hsort i j hi (by rw [List.length_map] at hj; exact hj))
          rw [hdl] at this
          exact this)
        clear hrow hrow1 hrow2 hrow2' hB1 hB2 hsort hperm
        go_wp2_with fail
        refine (compact_any w1.heap.size g2 cap2 rs.length (ds.map Subtype.val) _ hdl (by omega) hrow3).mono ?_
        rintro e w4 ⟨rfl, hrow4, hg4⟩
        rw [HP.out] at hrow4 ⊢
        have hBB4 : Below w.heap.size w w4 := hBB3.grown hg4 hBB3.size (fun k hk => by cases hk; omega)
        go_wp2_with fail
        go_ret2
        exact ⟨_, rfl, by rw [HX.out]; exact Go.Joins.ownsRow_le hrow4 hz12, hBB4⟩

end Go.Proofs.YtjnajdilllkpcaaGreat

namespace Go.Proofs.YtjnajdilllkpcaaGreat

/-! Numbers that rise. -/
def upI (zs : List Int) (i : Nat) : Bool := match i with
  | 0 => true
  | i + 1 => match zs[i]?, zs[i + 1]? with
    | some a, some b => decide (a < b)
    | _, _ => true
theorem upI_succ {zs : List Int} {i : Nat} (h : i + 1 < zs.length) : upI zs (i + 1) = decide (zs[i] < zs[i + 1]) := by
  simp only [upI]
  rw [List.getElem?_eq_getElem h, List.getElem?_eq_getElem (by omega)]
def upN (zs : List Int) : Bool := (List.range zs.length).all (upI zs)
def okN (nx : Int) (zs : List Int) : Bool := zs.all (fun n => decide (1 ≤ n ∧ n < nx))
theorem upN_no {zs : List Int} {i : Nat} (h : i < zs.length) (hb : upI zs i = false) : upN zs = false :=
  List.all_eq_false.2 ⟨i, List.mem_range.2 h, by rw [hb]; simp⟩
theorem upN_yes {zs : List Int} (h : ∀ i, i < zs.length → upI zs i = true) : upN zs = true :=
  List.all_eq_true.2 fun i hi => h i (List.mem_range.1 hi)
theorem okN_no {nx : Int} {zs : List Int} {i : Nat} (h : i < zs.length) (hb : ¬ (1 ≤ zs[i] ∧ zs[i] < nx)) : okN nx zs = false :=
  List.all_eq_false.2 ⟨_, List.getElem_mem h, by simp; omega⟩
theorem okN_yes {nx : Int} {zs : List Int} (h : ∀ i (hi : i < zs.length), 1 ≤ zs[i] ∧ zs[i] < nx) : okN nx zs = true :=
  List.all_eq_true.2 fun x hx => by
    obtain ⟨i, hi, rfl⟩ := List.getElem_of_mem hx
    exact decide_eq_true (h i hi)
def atN : List Int → Int → Nat
  | [], _ => 0
  | x :: r, n => if x < n then atN r n + 1 else 0
theorem atN_le : ∀ (zs : List Int) (n : Int), atN zs n ≤ zs.length
  | [], _ => Nat.le_refl _
  | x :: r, n => by
    have := atN_le r n
    unfold atN
    split <;> simp <;> omega
theorem atN_lt : ∀ {zs : List Int} {n : Int} {k : Nat} (h : k < zs.length), k < atN zs n → zs[k] < n
  | [], _, _, h, _ => by simp at h
  | x :: r, n, k, h, hk => by
    unfold atN at hk
    split at hk
    · rename_i hx
      cases k with
      | zero => exact hx
      | succ k => exact atN_lt (zs := r) (by simpa using h) (by omega)
    · omega
theorem atN_at : ∀ {zs : List Int} {n : Int} {k : Nat} (h : k < zs.length), k = atN zs n → ¬ zs[k] < n
  | [], _, _, h, _ => by simp at h
  | x :: r, n, k, h, hk => by
    unfold atN at hk
    split at hk
    · subst hk
      exact atN_at (zs := r) (by simpa using h) rfl
    · rename_i hx
      subst hk
      simpa using hx
def hasN (zs : List Int) (n : Int) : Bool := match zs[atN zs n]? with
  | some x => x == n
  | Option.none => false
theorem hasN_at {zs : List Int} {n : Int} (h : atN zs n < zs.length) : hasN zs n = (zs[atN zs n] == n) := by
  unfold hasN
  rw [List.getElem?_eq_getElem h]
theorem hasN_end {zs : List Int} {n : Int} (h : ¬ atN zs n < zs.length) : hasN zs n = false := by
  unfold hasN
  rw [List.getElem?_eq_none (by omega)]
/-- Numbers that rise: one is among them just where it would stand. -/
theorem up_lt {zs : List Int} (h : upN zs = true) : ∀ i j (_ : i < j) (hj : j < zs.length), zs[i] < zs[j] := by
  intro i j hij
  induction j with
  | zero => omega
  | succ j ih =>
    intro hj
    have h1 : upI zs (j + 1) = true := List.all_eq_true.1 h _ (List.mem_range.2 hj)
    rw [upI_succ hj] at h1
    have h1 := of_decide_eq_true h1
    rcases Nat.lt_or_ge i j with h2 | h2
    · have := ih h2 (by omega)
      omega
    · obtain rfl : i = j := by omega
      exact h1

/-- A number is among some. -/
def isTo (zs : List Int) (z : Int) (n : Nat) : Bool := (zs.take n).any (fun x => x == z)
def isI (zs : List Int) (z : Int) : Bool := zs.any (fun x => x == z)
theorem isTo_zero (zs : List Int) (z : Int) : isTo zs z 0 = false := by simp [isTo]
theorem isTo_succ {zs : List Int} {z : Int} {n : Nat} (h : n < zs.length) : isTo zs z (n + 1) = (isTo zs z n || (zs[n] == z)) := by
  unfold isTo
  rw [List.take_succ_eq_append_getElem h, List.any_append]
  simp
theorem isI_yes {zs : List Int} {z : Int} {n : Nat} (h : n < zs.length) (he : (zs[n] == z) = true) : isI zs z = true :=
  List.any_eq_true.2 ⟨zs[n], List.getElem_mem h, he⟩
theorem isI_end (zs : List Int) (z : Int) : isTo zs z zs.length = isI zs z := by
  unfold isTo isI
  rw [List.take_length]
theorem isI_hasN {zs : List Int} (h : upN zs = true) (n : Int) : isI zs n = hasN zs n := by
  rcases Nat.lt_or_ge (atN zs n) zs.length with h1 | h1
  · rw [hasN_at h1]
    cases h2 : (zs[atN zs n] == n)
    · unfold isI
      rw [List.any_eq_false]
      intro x hx he
      obtain ⟨i, hi, rfl⟩ := List.getElem_of_mem hx
      have he := eq_of_beq he
      rcases Nat.lt_trichotomy i (atN zs n) with h3 | h3 | h3
      · have := atN_lt hi h3
        omega
      · subst h3
        rw [he] at h2
        simp at h2
      · have h4 := up_lt h _ _ h3 hi
        have h5 := atN_at h1 rfl
        omega
    · unfold isI
      rw [List.any_eq_true]
      exact ⟨_, List.getElem_mem h1, h2⟩
  · rw [hasN_end (by omega)]
    unfold isI
    rw [List.any_eq_false]
    intro x hx he
    obtain ⟨i, hi, rfl⟩ := List.getElem_of_mem hx
    have := atN_lt (n := n) hi (by omega)
    have he := eq_of_beq he
    omega

/-- A number put among rising ones. -/
def insZ (z : Int) : List Int → List Int
  | [] => [z]
  | x :: r => if x < z then x :: insZ z r else if x = z then x :: r else z :: x :: r
def SZ (l : List Int) : Prop := l.Pairwise (fun x y => x < y)
theorem insZ_mem (z : Int) : ∀ (l : List Int) (y : Int), y ∈ insZ z l ↔ y = z ∨ y ∈ l
  | [], y => by simp [insZ]
  | x :: xs, y => by
    unfold insZ
    split
    · rw [List.mem_cons, insZ_mem z xs y, List.mem_cons]
      constructor
      · rintro (h | h | h)
        · exact .inr (.inl h)
        · exact .inl h
        · exact .inr (.inr h)
      · rintro (h | h | h)
        · exact .inr (.inl h)
        · exact .inl h
        · exact .inr (.inr h)
    · split
      · rename_i h
        subst h
        simp
      · simp
theorem insZ_sz {z : Int} : ∀ l : List Int, SZ l → SZ (insZ z l)
  | [], _ => by simp [insZ, SZ]
  | x :: xs, h => by
    unfold SZ at h
    rw [List.pairwise_cons] at h
    unfold insZ
    split
    · rename_i hx
      unfold SZ
      rw [List.pairwise_cons]
      refine ⟨fun y hy => ?_, insZ_sz xs h.2⟩
      rcases (insZ_mem z xs y).1 hy with rfl | hy
      · exact hx
      · exact h.1 y hy
    · split
      · unfold SZ
        rw [List.pairwise_cons]
        exact h
      · unfold SZ
        rw [List.pairwise_cons, List.pairwise_cons]
        refine ⟨fun y hy => ?_, h⟩
        rw [List.mem_cons] at hy
        rcases hy with rfl | hy
        · omega
        · have := h.1 y hy
          omega
theorem insZ_len (z : Int) : ∀ l : List Int, (insZ z l).length ≤ l.length + 1
  | [] => by simp [insZ]
  | x :: xs => by
    have := insZ_len z xs
    unfold insZ
    split
    · simp; omega
    · split <;> simp
theorem sz_unique : ∀ l l' : List Int, SZ l → SZ l' → (∀ y, y ∈ l ↔ y ∈ l') → l = l'
  | [], [], _, _, _ => rfl
  | [], y :: _, _, _, h => by have := (h y).2 List.mem_cons_self; cases this
  | x :: _, [], _, _, h => by have := (h x).1 List.mem_cons_self; cases this
  | x :: xs, y :: ys, h1, h2, h => by
    unfold SZ at h1 h2
    rw [List.pairwise_cons] at h1 h2
    have hxy : x = y := by
      have a1 := (h x).1 List.mem_cons_self
      have a2 := (h y).2 List.mem_cons_self
      rw [List.mem_cons] at a1 a2
      rcases a1 with a1 | a1
      · exact a1
      · rcases a2 with a2 | a2
        · exact a2.symm
        · have b1 := h2.1 x a1
          have b2 := h1.1 y a2
          omega
    subst hxy
    have ht : ∀ z, z ∈ xs ↔ z ∈ ys := fun z => by
      constructor
      · intro hz
        have := (h z).1 (List.mem_cons_of_mem _ hz)
        rw [List.mem_cons] at this
        rcases this with rfl | this
        · have := h1.1 z hz
          omega
        · exact this
      · intro hz
        have := (h z).2 (List.mem_cons_of_mem _ hz)
        rw [List.mem_cons] at this
        rcases this with rfl | this
        · have := h2.1 z hz
          omega
        · exact this
    rw [sz_unique xs ys h1.2 h2.2 ht]
/-- The numbers of a list rising, each once. -/
def srT (zs : List Int) (k : Nat) : List Int := (zs.take k).foldl (fun o z => insZ z o) []
def srN (zs : List Int) : List Int := srT zs zs.length
theorem srT_zero (zs : List Int) : srT zs 0 = [] := by simp [srT]
theorem srT_succ {zs : List Int} {k : Nat} (h : k < zs.length) : srT zs (k + 1) = insZ zs[k] (srT zs k) := by
  unfold srT
  rw [List.take_succ_eq_append_getElem h, List.foldl_append]
  rfl
theorem srT_mem {zs : List Int} : ∀ k, k ≤ zs.length → ∀ y, y ∈ srT zs k ↔ y ∈ zs.take k
  | 0, _, y => by simp [srT]
  | k + 1, h, y => by
    rw [srT_succ (by omega), insZ_mem, srT_mem k (by omega) y, List.take_succ_eq_append_getElem (by omega), List.mem_append, List.mem_singleton]
    exact Or.comm
theorem srT_sz {zs : List Int} : ∀ k, k ≤ zs.length → SZ (srT zs k)
  | 0, _ => by simp [srT, SZ]
  | k + 1, h => by rw [srT_succ (by omega)]; exact insZ_sz _ (srT_sz k (by omega))
theorem srT_len {zs : List Int} : ∀ k, k ≤ zs.length → (srT zs k).length ≤ k
  | 0, _ => by simp [srT]
  | k + 1, h => by
    rw [srT_succ (by omega)]
    have := insZ_len (zs[k]'(by omega)) (srT zs k)
    have := srT_len (zs := zs) k (by omega)
    omega
theorem srN_mem {zs : List Int} (y : Int) : y ∈ srN zs ↔ y ∈ zs := by
  unfold srN
  rw [srT_mem _ (Nat.le_refl _), List.take_length]
theorem srN_sz (zs : List Int) : SZ (srN zs) := srT_sz _ (Nat.le_refl _)
theorem srN_len (zs : List Int) : (srN zs).length ≤ zs.length := srT_len _ (Nat.le_refl _)
/-- Where a number stands among rising ones, and what putting it there makes. -/
theorem insZ_at {z : Int} : ∀ (l : List Int) (m : Nat), m ≤ l.length → (∀ j (h : j < l.length), j < m → l[j] < z) → (∀ h : m < l.length, ¬ l[m] < z) →
    insZ z l = if h : m < l.length then (if l[m] = z then l else l.take m ++ z :: l.drop m) else l ++ [z]
  | [], m, hm, _, _ => by
    obtain rfl : m = 0 := by simpa using hm
    simp [insZ]
  | x :: xs, 0, _, _, h2 => by
    have this : ¬ x < z := h2 (by simp)
    unfold insZ
    rw [if_neg this]
    simp
  | x :: xs, m + 1, hm, h1, h2 => by
    have hx : x < z := h1 0 (by simp) (by omega)
    have ih := insZ_at (z := z) xs m (by simpa using hm) (fun j hj hjm => h1 (j + 1) (by simpa using hj) (by omega)) (fun hj => h2 (by simpa using hj))
    unfold insZ
    rw [if_pos hx, ih]
    by_cases hlt : m < xs.length
    · rw [dif_pos hlt, dif_pos (by simpa using hlt)]
      simp only [List.getElem_cons_succ]
      split <;> simp
    · rw [dif_neg hlt, dif_neg (by simpa using hlt)]
      simp
theorem insZ_keep {z : Int} {l : List Int} {m : Nat} (hm : m < l.length) (h1 : ∀ j (h : j < l.length), j < m → l[j] < z) (he : l[m] = z) : insZ z l = l := by
  rw [insZ_at l m (by omega) h1 (fun _ => by omega), dif_pos hm, if_pos he]
theorem insZ_new {z : Int} {l : List Int} {m : Nat} (hm : m < l.length) (h1 : ∀ j (h : j < l.length), j < m → l[j] < z) (h2 : ¬ l[m] < z) (he : l[m] ≠ z) : insZ z l = l.take m ++ z :: l.drop m := by
  rw [insZ_at l m (by omega) h1 (fun _ => h2), dif_pos hm, if_neg he]
theorem insZ_end {z : Int} {l : List Int} (h1 : ∀ j (h : j < l.length), j < l.length → l[j] < z) : insZ z l = l ++ [z] := by
  rw [insZ_at l l.length (by omega) h1 (fun h => by omega), dif_neg (by omega)]
/-- Numbers that rise are sorted, each once. -/
theorem sz_up {zs : List Int} : SZ zs ↔ upN zs = true := by
  constructor
  · intro h
    refine upN_yes fun i hi => ?_
    cases i with
    | zero => rfl
    | succ i =>
      rw [upI_succ hi]
      exact decide_eq_true (List.pairwise_iff_getElem.1 h i (i + 1) (by omega) hi (by omega))
  · intro h
    exact List.pairwise_iff_getElem.2 fun i j hi hj hij => up_lt h i j hij hj
theorem srN_up (zs : List Int) : upN (srN zs) = true := sz_up.1 (srN_sz zs)
theorem srN_self {zs : List Int} (h : upN zs = true) : srN zs = zs := sz_unique _ _ (srN_sz zs) (sz_up.2 h) (fun _ => srN_mem _)
/-- Sorted, and runs of one number taken together: the numbers rising, each once. -/
theorem compact_sz {ds : List Int} (hs : ds.Pairwise (fun x y => x ≤ y)) : ∀ m, m ≤ ds.length → SZ (Lib.compactUpTo ds.toArray m) ∧ ∀ y, y ∈ Lib.compactUpTo ds.toArray m ↔ y ∈ ds.take m
  | 0, _ => by simp [Lib.compactUpTo, SZ]
  | m + 1, hm => by
    obtain ⟨i1, i2⟩ := compact_sz hs m (by omega)
    have hget : ds.toArray[m]! = ds[m]'(by omega) := by simp [getElem!_def, List.getElem?_eq_getElem (show m < ds.length by omega)]
    have hle : ∀ y ∈ ds.take m, y ≤ ds[m]'(by omega) := by
      intro y hy
      obtain ⟨j, hj, rfl⟩ := List.getElem_of_mem hy
      rw [List.length_take] at hj
      rw [List.getElem_take]
      exact List.pairwise_iff_getElem.1 hs j m (by omega) (by omega) (by omega)
    rw [Lib.compactUpTo_succ, List.take_succ_eq_append_getElem (by omega), hget]
    by_cases hk : Lib.keeps ds.toArray m = true
    · rw [if_pos hk]
      have hlt : ∀ y ∈ ds.take m, y < ds[m]'(by omega) := by
        intro y hy
        have h1 := hle y hy
        cases m with
        | zero => simp at hy
        | succ m =>
          have hne : ds[m + 1]'(by omega) ≠ ds[m]'(by omega) := by
            intro he
            have : Lib.keeps ds.toArray (m + 1) = false := by
              unfold Lib.keeps
              simp [getElem!_def, List.getElem?_eq_getElem (show m < ds.length by omega), List.getElem?_eq_getElem (show m + 1 < ds.length by omega), he]
            rw [this] at hk
            cases hk
          have h2 : ds[m]'(by omega) ≤ ds[m + 1]'(by omega) := List.pairwise_iff_getElem.1 hs m (m + 1) (by omega) (by omega) (by omega)
          obtain ⟨j, hj, rfl⟩ := List.getElem_of_mem hy
          rw [List.length_take] at hj
          rw [List.getElem_take]
          rcases Nat.lt_or_ge j m with h3 | h3
          · have := List.pairwise_iff_getElem.1 hs j m (by omega) (by omega) h3
            omega
          · have : j = m := by omega
            subst this
            omega
      refine ⟨?_, fun y => ?_⟩
      · unfold SZ
        rw [List.pairwise_append]
        exact ⟨i1, by simp, fun a ha b hb => by rw [List.mem_singleton] at hb; subst hb; exact hlt a ((i2 a).1 ha)⟩
      · rw [List.mem_append, List.mem_append, i2]
    · rw [if_neg hk, List.append_nil]
      refine ⟨i1, fun y => ?_⟩
      rw [i2, List.mem_append, List.mem_singleton]
      constructor
      · exact .inl
      · rintro (h | rfl)
        · exact h
        · cases m with
          | zero => simp [Lib.keeps] at hk
          | succ m =>
            have he : ds[m + 1]'(by omega) = ds[m]'(by omega) := by
              unfold Lib.keeps at hk
              simpa [getElem!_def, List.getElem?_eq_getElem (show m < ds.length by omega), List.getElem?_eq_getElem (show m + 1 < ds.length by omega)] using hk
            rw [he]
            exact List.mem_take_iff_getElem.2 ⟨m, by omega, rfl⟩
theorem compact_sorted (zs : List Int) : Lib.compact (zs.mergeSort fun x y => decide (x ≤ y)) = srN zs := by
  have hs : (zs.mergeSort fun x y => decide (x ≤ y)).Pairwise (fun x y => x ≤ y) :=
    (List.pairwise_mergeSort (le := fun x y => decide (x ≤ y)) (fun a b c h1 h2 => by simp at *; omega) (fun a b => by simp; omega) zs).imp (fun h => by simpa using h)
  obtain ⟨h1, h2⟩ := compact_sz hs _ (Nat.le_refl _)
  refine sz_unique _ _ h1 (srN_sz zs) fun y => ?_
  rw [show Lib.compact _ = Lib.compactUpTo _ _ from rfl, h2, List.take_length, srN_mem]
  exact List.mem_mergeSort

end Go.Proofs.YtjnajdilllkpcaaGreat

namespace Go.Proofs.YtjnajdilllkpcaaGreat

/-- A version, and a difference. -/
structure Sn where
  num : Int
  pol : List Ru
  rv : List Int
structure Df where
  fr : Int
  tt : Int
  dr : List Ru
  ad : List Ru
  rv : List Int
theorem insU_length (r : Ru) : ∀ l : List Ru, (insU r l).length ≤ l.length + 1
  | [] => by simp [insU]
  | x :: xs => by
    have := insU_length r xs
    unfold insU
    split
    · simp; omega
    · split <;> simp
def Sn.none : Sn := ⟨0, [], []⟩
def Df.none : Df := ⟨0, 0, [], [], []⟩
def numB (n : Int) : Bool := decide (1 ≤ n ∧ n ≤ 100000)
def fewB (zs : List Int) : Bool := decide (zs.length ≤ 200) && okN 100001 zs
/-- A version is good. -/
def snB (s : Sn) : Bool := numB s.num && (polB s.pol && (sameS (plX s.pol) s.pol && (fewB s.rv && upN s.rv)))
theorem snB_no1 {s : Sn} (h : numB s.num = false) : snB s = false := by unfold snB; rw [h]; rfl
theorem snB_no2 {s : Sn} (h : polB s.pol = false) : snB s = false := by unfold snB; rw [h]; simp
theorem snB_no3 {s : Sn} (h : sameS (plX s.pol) s.pol = false) : snB s = false := by unfold snB; rw [h]; simp
theorem snB_no4 {s : Sn} (h : fewB s.rv = false) : snB s = false := by unfold snB; rw [h]; simp
theorem snB_no5 {s : Sn} (h : upN s.rv = false) : snB s = false := by unfold snB; rw [h]; simp
theorem snB_yes {s : Sn} (h1 : numB s.num = true) (h2 : polB s.pol = true) (h3 : sameS (plX s.pol) s.pol = true) (h4 : fewB s.rv = true) (h5 : upN s.rv = true) : snB s = true := by
  unfold snB; rw [h1, h2, h3, h4, h5]; rfl
theorem snB_parts {s : Sn} (h : snB s = true) : numB s.num = true ∧ polB s.pol = true ∧ sameS (plX s.pol) s.pol = true ∧ fewB s.rv = true ∧ upN s.rv = true := by
  unfold snB at h
  simpa [Bool.and_eq_true] using h
theorem snB_num {s : Sn} (h : snB s = true) : 1 ≤ s.num ∧ s.num ≤ 100000 := of_decide_eq_true (snB_parts h).1
theorem fewB_len {zs : List Int} (h : fewB zs = true) : zs.length ≤ 200 := by
  unfold fewB at h
  rw [Bool.and_eq_true] at h
  exact of_decide_eq_true h.1
theorem fewB_ok {zs : List Int} (h : fewB zs = true) : okN 100001 zs = true := by
  unfold fewB at h
  rw [Bool.and_eq_true] at h
  exact h.2
theorem fewB_no1 {zs : List Int} (h : ¬ zs.length ≤ 200) : fewB zs = false := by unfold fewB; rw [decide_eq_false h]; rfl
theorem fewB_no2 {zs : List Int} (h : okN 100001 zs = false) : fewB zs = false := by unfold fewB; rw [h]; simp
theorem fewB_yes {zs : List Int} (h1 : zs.length ≤ 200) (h2 : okN 100001 zs = true) : fewB zs = true := by unfold fewB; rw [decide_eq_true h1, h2]; rfl

theorem plX_len {rs : List Ru} (h : rs.length ≤ 1048577) : (plX rs).length ≤ 1048577 := by
  unfold plX
  split
  · have hl : ∀ k, k ≤ rs.length → (plTo rs k).length ≤ k := fun k => by
      induction k with
      | zero => intro _; simp [plTo]
      | succ k ih =>
        intro hk
        rw [plTo_succ (by omega)]
        have := insU_length (rs[k]'(by omega)) (plTo rs k)
        have := ih (by omega)
        omega
    exact Nat.le_trans (hl _ (Nat.le_refl _)) h
  · exact Nat.zero_le _

/-- Whether the one at i has the number behind the one ahead of it. -/
def nexB (ss : List Sn) (i : Nat) : Bool := match i with
  | 0 => true
  | i + 1 => match ss[i]?, ss[i + 1]? with
    | some a, some b => b.num == a.num + 1
    | _, _ => true
theorem nexB_succ {ss : List Sn} {i : Nat} (h : i + 1 < ss.length) : nexB ss (i + 1) = (ss[i + 1].num == ss[i].num + 1) := by
  simp only [nexB]
  rw [List.getElem?_eq_getElem h, List.getElem?_eq_getElem (by omega)]
def gdB (ss : List Sn) (i : Nat) : Bool := match ss[i]? with
  | some s => snB s
  | Option.none => true
theorem gdB_at {ss : List Sn} {i : Nat} (h : i < ss.length) : gdB ss i = snB ss[i] := by
  unfold gdB
  rw [List.getElem?_eq_getElem h]
def allB (ss : List Sn) : Bool := (List.range ss.length).all (fun i => gdB ss i && nexB ss i)
/-- A list of versions is good. -/
def lsB (ss : List Sn) : Bool := decide (ss.length ≤ 20) && allB ss
theorem lsB_no1 {ss : List Sn} (h : ¬ ss.length ≤ 20) : lsB ss = false := by unfold lsB; rw [decide_eq_false h]; rfl
theorem lsB_no2 {ss : List Sn} {i : Nat} (h : i < ss.length) (hb : gdB ss i = false) : lsB ss = false := by
  unfold lsB allB
  rw [Bool.and_eq_false_iff]
  exact .inr (List.all_eq_false.2 ⟨i, List.mem_range.2 h, by rw [hb]; simp⟩)
theorem lsB_no3 {ss : List Sn} {i : Nat} (h : i < ss.length) (hb : nexB ss i = false) : lsB ss = false := by
  unfold lsB allB
  rw [Bool.and_eq_false_iff]
  exact .inr (List.all_eq_false.2 ⟨i, List.mem_range.2 h, by rw [hb]; simp⟩)
theorem lsB_yes {ss : List Sn} (h1 : ss.length ≤ 20) (h : ∀ i, i < ss.length → gdB ss i = true ∧ nexB ss i = true) : lsB ss = true := by
  unfold lsB allB
  rw [decide_eq_true h1, Bool.true_and]
  exact List.all_eq_true.2 fun i hi => by have := h i (List.mem_range.1 hi); rw [this.1, this.2]; rfl
theorem lsB_all {ss : List Sn} (h : lsB ss = true) : ss.length ≤ 20 ∧ ∀ i, i < ss.length → gdB ss i = true ∧ nexB ss i = true := by
  unfold lsB allB at h
  rw [Bool.and_eq_true, List.all_eq_true] at h
  refine ⟨of_decide_eq_true h.1, fun i hi => ?_⟩
  have := h.2 i (List.mem_range.2 hi)
  rw [Bool.and_eq_true] at this
  exact this
theorem lsB_mem {ss : List Sn} (h : lsB ss = true) : ∀ s ∈ ss, snB s = true := fun s hs => by
  obtain ⟨i, hi, rfl⟩ := List.getElem_of_mem hs
  have := ((lsB_all h).2 i hi).1
  rwa [gdB_at hi] at this
/-- The numbers of a list of versions. -/
def vN (ss : List Sn) : List Int := ss.map Sn.num
theorem vN_len (ss : List Sn) : (vN ss).length = ss.length := List.length_map _
theorem vN_at {ss : List Sn} {i : Nat} (h : i < (vN ss).length) : (vN ss)[i] = (ss[i]'(by rw [← vN_len ss]; exact h)).num := by simp [vN]
theorem lsB_up {ss : List Sn} (h : lsB ss = true) : upN (vN ss) = true := by
  refine upN_yes fun i hi => ?_
  rw [vN_len] at hi
  cases i with
  | zero => rfl
  | succ i =>
    rw [upI_succ (by rw [vN_len]; exact hi), vN_at, vN_at]
    have := ((lsB_all h).2 (i + 1) hi).2
    rw [nexB_succ hi] at this
    have := eq_of_beq this
    exact decide_eq_true (by omega)
/-- Among rising numbers a number stands where it is. -/
theorem up_at {zs : List Int} {n : Int} {k : Nat} (hu : upN zs = true) (hk : k < zs.length) (he : zs[k] = n) : atN zs n = k ∧ hasN zs n = true := by
  have h1 : atN zs n = k := by
    rcases Nat.lt_trichotomy (atN zs n) k with h | h | h
    · have h2 := atN_at (zs := zs) (n := n) (k := atN zs n) (by omega) rfl
      have h3 := up_lt hu _ _ h hk
      omega
    · exact h
    · have := atN_lt (zs := zs) (n := n) hk h
      omega
  refine ⟨h1, ?_⟩
  rw [hasN_at (by rw [h1]; exact hk)]
  simp only [h1, he, beq_self_eq_true]
theorem up_none {zs : List Int} {n : Int} (hu : upN zs = true) (h : ∀ k (hk : k < zs.length), zs[k] ≠ n) : hasN zs n = false := by
  rw [← isI_hasN hu]
  unfold isI
  rw [List.any_eq_false]
  intro x hx he
  obtain ⟨i, hi, rfl⟩ := List.getElem_of_mem hx
  exact h i hi (eq_of_beq he)
theorem hasN_lt {zs : List Int} {n : Int} (h : hasN zs n = true) : atN zs n < zs.length := by
  rcases Nat.lt_or_ge (atN zs n) zs.length with h1 | h1
  · exact h1
  · rw [hasN_end (by omega)] at h
    cases h
/-- Whether a list is good and has a number. -/
def thB (ss : List Sn) (n : Int) : Bool := lsB ss && hasN (vN ss) n
/-- What SnapshotAt and CompactTo tell. -/
def saX (ss : List Sn) (n : Int) : Sn := if thB ss n = true then (ss[atN (vN ss) n]?).getD Sn.none else Sn.none
def ctX (ss : List Sn) (n : Int) : List Sn := if thB ss n = true then ss.drop (atN (vN ss) n) else []
theorem saX_no {ss : List Sn} {n : Int} (h : thB ss n = false) : saX ss n = Sn.none := if_neg (by rw [h]; exact Bool.false_ne_true)
theorem ctX_no {ss : List Sn} {n : Int} (h : thB ss n = false) : ctX ss n = [] := if_neg (by rw [h]; exact Bool.false_ne_true)
theorem saX_yes {ss : List Sn} {n : Int} {k : Nat} (h : thB ss n = true) (hk : k < ss.length) (he : atN (vN ss) n = k) : saX ss n = ss[k] := by
  unfold saX
  rw [if_pos h, he, List.getElem?_eq_getElem hk]
  rfl
theorem ctX_yes {ss : List Sn} {n : Int} {k : Nat} (h : thB ss n = true) (he : atN (vN ss) n = k) : ctX ss n = ss.drop k := by
  unfold ctX
  rw [if_pos h, he]
/-- The number behind the last one's. -/
def nxN (ss : List Sn) : Int := match ss.getLast? with
  | some s => s.num + 1
  | Option.none => 1
/-- What PutSnapshot tells. -/
def nwS (ss : List Sn) (rs : List Ru) (zs : List Int) : Sn := ⟨nxN ss, plX rs, srN zs⟩
def puB (ss : List Sn) (rs : List Ru) (zs : List Int) : Bool := (lsB ss && (polB rs && fewB zs)) && snB (nwS ss rs zs)
def puX (ss : List Sn) (rs : List Ru) (zs : List Int) : List Sn := if puB ss rs zs = true then (ss ++ [nwS ss rs zs]).drop (ss.length + 1 - 20) else []

/-- Rules and numbers that others have not. -/
def hasR (b : List Ru) (r : Ru) : Bool := b.any (fun y => r.same y)
def woR (a b : List Ru) : List Ru := a.filter (fun r => !(hasR b r))
def woRT (a b : List Ru) (k : Nat) : List Ru := (a.take k).filter (fun r => !(hasR b r))
def woN (a b : List Int) : List Int := a.filter (fun z => !(isI b z))
def woNT (a b : List Int) (k : Nat) : List Int := (a.take k).filter (fun z => !(isI b z))
theorem woRT_zero (a b : List Ru) : woRT a b 0 = [] := by simp [woRT]
theorem woNT_zero (a b : List Int) : woNT a b 0 = [] := by simp [woNT]
theorem woRT_end (a b : List Ru) : woRT a b a.length = woR a b := by unfold woRT woR; rw [List.take_length]
theorem woNT_end (a b : List Int) : woNT a b a.length = woN a b := by unfold woNT woN; rw [List.take_length]
theorem woRT_yes {a b : List Ru} {k : Nat} (h : k < a.length) (hb : hasR b a[k] = true) : woRT a b (k + 1) = woRT a b k := by
  unfold woRT
  rw [List.take_succ_eq_append_getElem h, List.filter_append]
  simp [hb]
theorem woRT_no {a b : List Ru} {k : Nat} (h : k < a.length) (hb : hasR b a[k] = false) : woRT a b (k + 1) = woRT a b k ++ [a[k]] := by
  unfold woRT
  rw [List.take_succ_eq_append_getElem h, List.filter_append]
  simp [hb]
theorem woNT_yes {a b : List Int} {k : Nat} (h : k < a.length) (hb : isI b a[k] = true) : woNT a b (k + 1) = woNT a b k := by
  unfold woNT
  rw [List.take_succ_eq_append_getElem h, List.filter_append]
  simp [hb]
theorem woNT_no {a b : List Int} {k : Nat} (h : k < a.length) (hb : isI b a[k] = false) : woNT a b (k + 1) = woNT a b k ++ [a[k]] := by
  unfold woNT
  rw [List.take_succ_eq_append_getElem h, List.filter_append]
  simp [hb]
theorem woRT_len (a b : List Ru) (k : Nat) : (woRT a b k).length ≤ k := Nat.le_trans (List.length_filter_le _ _) (by rw [List.length_take]; omega)
theorem woNT_len (a b : List Int) (k : Nat) : (woNT a b k).length ≤ k := Nat.le_trans (List.length_filter_le _ _) (by rw [List.length_take]; omega)
theorem woR_len (a b : List Ru) : (woR a b).length ≤ a.length := List.length_filter_le _ _
theorem woN_len (a b : List Int) : (woN a b).length ≤ a.length := List.length_filter_le _ _
theorem woR_mem {a b : List Ru} {r : Ru} (h : r ∈ woR a b) : r ∈ a := (List.mem_filter.1 h).1
/-- What DiffOf tells. -/
def dfB (a b : Sn) : Bool := (snB a && (snB b && decide (a.num < b.num))) && (woN a.rv b.rv).isEmpty
def dfX (a b : Sn) : Df := if dfB a b = true then ⟨a.num, b.num, woR a.pol b.pol, woR b.pol a.pol, woN b.rv a.rv⟩ else Df.none
theorem dfX_no {a b : Sn} (h : dfB a b = false) : dfX a b = Df.none := if_neg (by rw [h]; exact Bool.false_ne_true)
theorem dfX_yes {a b : Sn} (h : dfB a b = true) : dfX a b = ⟨a.num, b.num, woR a.pol b.pol, woR b.pol a.pol, woN b.rv a.rv⟩ := if_pos h

end Go.Proofs.YtjnajdilllkpcaaGreat

namespace Go.Proofs.YtjnajdilllkpcaaGreat
open Go.RowKit Go.Shelf

end Go.Proofs.YtjnajdilllkpcaaGreat

namespace Go.Proofs.YtjnajdilllkpcaaGreat
open Go.RowKit Go.Shelf

/-- Lists that can be read, by an address or none at all. -/
def RuR (w : World) (v : Value) (rs : List Ru) : Prop :=
  (v = .slice none 0 0 ∧ rs = []) ∨ ∃ b off cap, v = .slice (some ⟨b, off, none⟩) rs.length cap ∧ b < w.heap.size ∧ rs.length ≤ cap ∧ ∀ k (h : k < rs.length), RuAt w b (off + k * 4) rs[k]
def NuR (w : World) (v : Value) (zs : List Int) : Prop :=
  (v = .slice none 0 0 ∧ zs = []) ∨ ∃ b off cap, v = .slice (some ⟨b, off, none⟩) zs.length cap ∧ b < w.heap.size ∧ zs.length ≤ cap ∧ ∀ k (h : k < zs.length), w.cell? ⟨b, off + k, none⟩ = some (.int .i64 zs[k])
theorem RuR.s {w : World} {v : Value} {rs : List Ru} (h : RuR w v rs) : RuS w v rs := by
  rcases h with ⟨rfl, rfl⟩ | h
  · exact .inl ⟨_, _, rfl, rfl⟩
  · exact .inr h
theorem NuR.s {w : World} {v : Value} {zs : List Int} (h : NuR w v zs) : VS w v (nums zs) := by
  rcases h with ⟨rfl, rfl⟩ | ⟨b, off, cap, rfl, hb, hl, hc⟩
  · exact .inl ⟨_, _, rfl, rfl⟩
  · refine .inr ⟨b, off, cap, by rw [nums_len], hb, by rw [nums_len]; exact hl, fun k hk => ?_⟩
    rw [nums_len] at hk
    rw [hc k hk]
    simp [nums]
theorem RuR.below {w w' : World} {v : Value} {rs : List Ru} (h : RuR w v rs) (hB : Below w.heap.size w w') : RuR w' v rs := by
  rcases h with h | ⟨b, off, cap, hv, hb, hl, hc⟩
  · exact .inl h
  · exact .inr ⟨b, off, cap, hv, Nat.lt_of_lt_of_le hb hB.size, hl, fun k hk => (hc k hk).below hb hB⟩
theorem NuR.below {w w' : World} {v : Value} {zs : List Int} (h : NuR w v zs) (hB : Below w.heap.size w w') : NuR w' v zs := by
  rcases h with h | ⟨b, off, cap, hv, hb, hl, hc⟩
  · exact .inl h
  · exact .inr ⟨b, off, cap, hv, Nat.lt_of_lt_of_le hb hB.size, hl, fun k hk => (hB.cell (p := ⟨b, off + k, none⟩) hb).trans (hc k hk)⟩
theorem RuR.len {w : World} {v : Value} {rs : List Ru} (h : RuR w v rs) : ∃ a cap, v = .slice a rs.length cap := h.s.len
theorem NuR.len {w : World} {v : Value} {zs : List Int} (h : NuR w v zs) : ∃ a cap, v = .slice a zs.length cap := h.s.numLen
theorem RuR.own {w : World} {base : Nat} {v : Value} {rs : List Ru} (h : w.ownsRow base 31 4 v rs.length (rs.flatMap Ru.cells)) : RuR w v rs := by
  have hs := RuS.own h
  rcases row_form h with ⟨rfl, h0⟩ | ⟨g, cap, rfl, _, hc⟩
  · exact .inl ⟨rfl, List.eq_nil_of_length_eq_zero h0⟩
  · refine .inr ⟨g, 0, cap, rfl, (h.lt g rfl).2, hc, fun k hk => ?_⟩
    obtain ⟨b, off, hbo, _, _, hat⟩ := hs.at hk
    cases hbo
    exact hat
theorem NuR.own {w : World} {base : Nat} {v : Value} {zs : List Int} (h : w.ownsRow base 3 1 v zs.length (nums zs)) : NuR w v zs := by
  rcases row_form h with ⟨rfl, h0⟩ | ⟨g, cap, rfl, _, hc⟩
  · exact .inl ⟨rfl, List.eq_nil_of_length_eq_zero h0⟩
  · refine .inr ⟨g, 0, cap, rfl, (h.lt g rfl).2, hc, fun k hk => ?_⟩
    rw [Nat.zero_add, h.cellAt k (by omega)]
    simp [nums, hk]
/-- All cells of a list of rules, one behind the other. -/
theorem RuR.flat {w : World} {b off : Nat} {rs : List Ru} (hc : ∀ k (h : k < rs.length), RuAt w b (off + k * 4) rs[k]) : ∀ j u, (rs.flatMap Ru.cells)[j]? = some u → w.cell? ⟨b, off + j, none⟩ = some u := by
  intro j u hu
  have hj : j < rs.length * 4 := by rw [← flat_len]; exact (List.getElem?_eq_some_iff.1 hu).1
  have hk : j / 4 < rs.length := by omega
  have hm : j % 4 < 4 := Nat.mod_lt _ (by omega)
  have e : j = j / 4 * 4 + j % 4 := by omega
  rw [e, flat_at rs _ _ hk hm] at hu
  obtain ⟨h0, h1, h2, h3⟩ := hc (j / 4) hk
  rw [show off + j = off + j / 4 * 4 + j % 4 by omega]
  obtain h | h | h | h : j % 4 = 0 ∨ j % 4 = 1 ∨ j % 4 = 2 ∨ j % 4 = 3 := by omega
  all_goals rw [h] at hu ⊢
  · simp at hu; rw [← hu]; exact h0
  · simp at hu; rw [← hu]; exact h1
  · simp at hu; rw [← hu]; exact h2
  · simp at hu; rw [← hu]; exact h3

/-- A version in memory. -/
def SnA (w : World) (v : Value) (s : Sn) : Prop := ∃ vp vr, v = .agg #[.int .i64 s.num, vp, vr] ∧ RuS w vp s.pol ∧ VS w vr (nums s.rv)
def SnR (w : World) (v : Value) (s : Sn) : Prop := ∃ vp vr, v = .agg #[.int .i64 s.num, vp, vr] ∧ RuR w vp s.pol ∧ NuR w vr s.rv
/-- .. of one's own: its lists lie in blocks from base on, below top. -/
def SnO (w : World) (base top : Nat) (v : Value) (s : Sn) : Prop :=
  ∃ vp vr, v = .agg #[.int .i64 s.num, vp, vr] ∧ w.ownsRow base 31 4 vp s.pol.length (s.pol.flatMap Ru.cells) ∧ w.ownsRow base 3 1 vr s.rv.length (nums s.rv) ∧ (∀ k, vp.ownBlock = some k → k < top) ∧ ∀ k, vr.ownBlock = some k → k < top
theorem SnA.below {w w' : World} {v : Value} {s : Sn} (h : SnA w v s) (hB : Below w.heap.size w w') : SnA w' v s := by
  obtain ⟨vp, vr, rfl, h1, h2⟩ := h
  exact ⟨_, _, rfl, h1.below hB, h2.below hB⟩
theorem SnR.below {w w' : World} {v : Value} {s : Sn} (h : SnR w v s) (hB : Below w.heap.size w w') : SnR w' v s := by
  obtain ⟨vp, vr, rfl, h1, h2⟩ := h
  exact ⟨_, _, rfl, h1.below hB, h2.below hB⟩
theorem SnO.below {w w' : World} {base top : Nat} {v : Value} {s : Sn} (h : SnO w base top v s) (hB : Below w.heap.size w w') : SnO w' base top v s := by
  obtain ⟨vp, vr, rfl, h1, h2, t1, t2⟩ := h
  exact ⟨vp, vr, rfl, ownsRow_below h1 hB, ownsRow_below h2 hB, t1, t2⟩
theorem SnR.a {w : World} {v : Value} {s : Sn} (h : SnR w v s) : SnA w v s := by
  obtain ⟨vp, vr, rfl, h1, h2⟩ := h
  exact ⟨_, _, rfl, h1.s, h2.s⟩
theorem SnO.r {w : World} {base top : Nat} {v : Value} {s : Sn} (h : SnO w base top v s) : SnR w v s := by
  obtain ⟨vp, vr, rfl, h1, h2, _⟩ := h
  exact ⟨_, _, rfl, RuR.own h1, NuR.own h2⟩
theorem SnO.a {w : World} {base top : Nat} {v : Value} {s : Sn} (h : SnO w base top v s) : SnA w v s := h.r.a
theorem SnO.of {w : World} {base : Nat} {vp vr : Value} {s : Sn} (h1 : w.ownsRow base 31 4 vp s.pol.length (s.pol.flatMap Ru.cells)) (h2 : w.ownsRow base 3 1 vr s.rv.length (nums s.rv)) : SnO w base w.heap.size (.agg #[.int .i64 s.num, vp, vr]) s :=
  ⟨vp, vr, rfl, h1, h2, fun k hk => (h1.lt k hk).2, fun k hk => (h2.lt k hk).2⟩
theorem SnO.mono {w : World} {base base' top top' : Nat} {v : Value} {s : Sn} (h : SnO w base top v s) (hb : base' ≤ base) (ht : top ≤ top') : SnO w base' top' v s := by
  obtain ⟨vp, vr, rfl, h1, h2, t1, t2⟩ := h
  exact ⟨vp, vr, rfl, Go.Joins.ownsRow_le h1 hb, Go.Joins.ownsRow_le h2 hb, fun k hk => Nat.lt_of_lt_of_le (t1 k hk) ht, fun k hk => Nat.lt_of_lt_of_le (t2 k hk) ht⟩
theorem Mid.sno {lo hi : Nat} {w w1 : World} (h : Mid lo hi w w1) {base top : Nat} {v : Value} {s : Sn} (hr : SnO w base top v s) (ho : hi ≤ base ∨ top ≤ lo) : SnO w1 base top v s := by
  obtain ⟨vp, vr, rfl, h1, h2, t1, t2⟩ := hr
  exact ⟨vp, vr, rfl, h.row h1 (fun k hk => by have := h1.lt k hk; have := t1 k hk; omega), h.row h2 (fun k hk => by have := h2.lt k hk; have := t2 k hk; omega), t1, t2⟩
def Sn.fits (s : Sn) : Prop := s.pol.length ≤ maxLen ∧ (∀ r ∈ s.pol, r.fits) ∧ s.rv.length ≤ maxLen
/-- What the laws count of a version. -/
def Sn.size (s : Sn) : Nat := szAll s.pol + s.rv.length
def leftV (n : Int) (s : Sn) : Int := if (s.size : Int) ≤ n then n - s.size else -1
/-- No list of it is longer than the laws take, and no rule greater. -/
def Sn.short (s : Sn) : Prop := s.pol.length ≤ 1048576 ∧ s.rv.length ≤ 1048576 ∧ ∀ r ∈ s.pol, r.size ≤ 1048576
theorem Sn.short_of {s : Sn} (h : s.size ≤ 1048576) : s.short := by
  unfold Sn.size szAll at h
  exact ⟨by omega, by omega, fun r hr => by have := sz_mem hr; omega⟩
theorem sn_forms {w : World} {v : Value} {s : Sn} (h : SnA w v s) : ∃ ap cp ar cr, v = .agg #[.int .i64 s.num, .slice ap s.pol.length cp, .slice ar s.rv.length cr] := by
  obtain ⟨vp, vr, rfl, h1, h2⟩ := h
  obtain ⟨ap, cp, rfl⟩ := h1.len
  obtain ⟨ar, cr, rfl⟩ := h2.numLen
  exact ⟨_, _, _, _, rfl⟩

/-- What lies in a version that was marked. -/
def mkSn (k : Nat) (s : Sn) : Sn := ⟨s.num, mkL k s.pol.length, mkN (k + 4 * s.pol.length) s.rv.length⟩
def Sn.many (s : Sn) : Nat := 4 * s.pol.length + s.rv.length

end Go.Proofs.YtjnajdilllkpcaaGreat

namespace Go.Proofs.YtjnajdilllkpcaaGreat
open Go.RowKit Go.Shelf

abbrev bls (bs : List Bool) : List Value := bs.map Value.bool
theorem bls_len (bs : List Bool) : (bls bs).length = bs.length := List.length_map _
theorem VS.bol {w : World} {a : Option Addr} {n cap : Nat} {bs : List Bool} (h : VS w (.slice a n cap) (bls bs)) {i : Nat} (hi : i < bs.length) : ∃ b off, a = some ⟨b, off, none⟩ ∧ b < w.heap.size ∧ n ≤ cap ∧ w.cell? ⟨b, off + i, none⟩ = some (.bool bs[i]) := by
  obtain ⟨b, off, h1, h2, h3, h4⟩ := h.at (i := i) (by rw [bls_len]; exact hi)
  exact ⟨b, off, h1, h2, h3, by rw [h4, List.getElem_map]⟩
theorem VS.bolLen {w : World} {v : Value} {bs : List Bool} (h : VS w v (bls bs)) : ∃ a cap, v = .slice a bs.length cap := by
  have := h.len
  rwa [bls_len] at this
theorem infoBool : (Tryz.prog.info? 4).map (fun i => (i.zero, i.size, i.bytes)) = some (some (.bool false), 1, 1) := by kernel_rfl
/-- A list of yes and no that can be read, by an address or none at all. -/
def BoR (w : World) (v : Value) (bs : List Bool) : Prop :=
  (v = .slice none 0 0 ∧ bs = []) ∨ ∃ b off cap, v = .slice (some ⟨b, off, none⟩) bs.length cap ∧ b < w.heap.size ∧ bs.length ≤ cap ∧ ∀ k (h : k < bs.length), w.cell? ⟨b, off + k, none⟩ = some (.bool bs[k])
theorem BoR.s {w : World} {v : Value} {bs : List Bool} (h : BoR w v bs) : VS w v (bls bs) := by
  rcases h with ⟨rfl, rfl⟩ | ⟨b, off, cap, rfl, hb, hl, hc⟩
  · exact .inl ⟨_, _, rfl, rfl⟩
  · refine .inr ⟨b, off, cap, by rw [bls_len], hb, by rw [bls_len]; exact hl, fun k hk => ?_⟩
    rw [bls_len] at hk
    rw [hc k hk]
    simp [bls]
theorem BoR.below {w w' : World} {v : Value} {bs : List Bool} (h : BoR w v bs) (hB : Below w.heap.size w w') : BoR w' v bs := by
  rcases h with h | ⟨b, off, cap, hv, hb, hl, hc⟩
  · exact .inl h
  · exact .inr ⟨b, off, cap, hv, Nat.lt_of_lt_of_le hb hB.size, hl, fun k hk => (hB.cell (p := ⟨b, off + k, none⟩) hb).trans (hc k hk)⟩
theorem BoR.own {w : World} {base : Nat} {v : Value} {bs : List Bool} (h : w.ownsRow base 4 1 v bs.length (bls bs)) : BoR w v bs := by
  rcases row_form h with ⟨rfl, h0⟩ | ⟨g, cap, rfl, _, hc⟩
  · exact .inl ⟨rfl, List.eq_nil_of_length_eq_zero h0⟩
  · refine .inr ⟨g, 0, cap, rfl, (h.lt g rfl).2, hc, fun k hk => ?_⟩
    rw [Nat.zero_add, h.cellAt k (by omega)]
    simp [bls, hk]


set_option maxRecDepth 100000 in
open Go.Deep Go.ChangeShapes Go.WideShapes Go.Joins in
/-- A list of numbers that comes in. -/
theorem openBoS {H : Type} {enc : TypeId × Value → H} {W : World} {a : Option Addr} {n c : Nat} {d : DataW H} {p : List MemPlace} (h : DataW.Trod enc Tryz.prog W 0 (fun _ => true) true 27 (.slice a n c) d p) :
    ∃ zs : List Bool, VS W (.slice a n c) (bls zs) ∧ zs.length = n ∧ n ≤ maxLen := by
  obtain ⟨fuel, hf⟩ := h
  have c2 : Tryz.prog.cellsOf 4 = 1 := by kernel_rfl
  rcases open_slice Tryz.underlying27 hf with ⟨hcs, _⟩ | ⟨x, len, cap, m, k, D, Pl, hcs, _, hl, hm, hmm, _, hx⟩
  · simp [Value.cells] at hcs
    obtain ⟨rfl, rfl, rfl⟩ := hcs
    exact ⟨[], .inl ⟨_, _, rfl, rfl⟩, rfl, Nat.zero_le _⟩
  · simp [Value.cells] at hcs
    obtain ⟨rfl, rfl, rfl⟩ := hcs
    have hlm : n ≤ m := by rw [hmm]; simpa using hl
    have each : ∀ i, i < n → ∃ r : Bool, W.cell? (x.add i) = some (.bool r) := by
      intro i hi
      obtain ⟨cs', h1, h2⟩ := hx i (by omega)
      rw [c2, Nat.mul_one] at h1
      obtain ⟨_, hlen, hcell⟩ := World.cells?_some h1
      obtain ⟨x0, f0, _⟩ := DataW.trod_bool Tryz.underlying4 h2
      subst f0
      have e0 := hcell 0 (by omega)
      rw [add_add] at e0
      exact ⟨x0, by simpa using e0⟩
    have hin : Inhabited Bool := ⟨false⟩
    obtain ⟨q, hq⟩ := choose_lt each
    by_cases h0 : n = 0
    · subst h0
      exact ⟨[], .inl ⟨_, _, rfl, rfl⟩, rfl, Nat.zero_le _⟩
    · obtain ⟨b, off, spot⟩ := x
      have hs : spot = none := by simpa [Addr.add] using World.cell?_spot (hq 0 (by omega))
      subst hs
      have hlt : b < W.heap.size := by
        have := hq 0 (by omega)
        rw [Addr.add_lit] at this
        by_cases hb : b < W.heap.size
        · exact hb
        · simp only [World.cell?] at this
          rw [Array.getElem?_eq_none (by omega)] at this
          cases this
      refine ⟨(List.range n).map q, .inr ⟨b, off, c, by simp [bls], hlt, by simpa [bls] using hl, fun k hk => ?_⟩, by simp, by omega⟩
      have hk' : k < n := by simpa [bls] using hk
      have := hq k hk'
      simp only [Addr.add_lit] at this
      simpa [bls] using this

open Go.Deep Go.ChangeShapes Go.WideShapes Go.Joins in
theorem openBoR {H : Type} {enc : TypeId × Value → H} {W : World} {c0 : Value} {d : DataW H × List MemPlace} {fuel : Nat} (hf : DataW.trod enc Tryz.prog W 0 (fun _ => true) true fuel 27 [c0] = some d) :
    ∃ (a : Option Addr) (n c : Nat) (zs : List Bool), c0 = .slice a n c ∧ VS W (.slice a n c) (bls zs) ∧ zs.length = n ∧ n ≤ maxLen := by
  have hs : ∃ a n c, c0 = .slice a n c := by
    rcases open_slice Tryz.underlying27 hf with ⟨hcs, _⟩ | ⟨x, n, c, m, k, D, Pl, hcs, _⟩
    · simp at hcs; exact ⟨_, _, _, hcs⟩
    · simp at hcs; exact ⟨_, _, _, hcs⟩
  obtain ⟨a, n, c, rfl⟩ := hs
  obtain ⟨zs, h⟩ := openBoS (a := a) (n := n) (c := c) (d := d.1) (p := d.2) ⟨fuel, hf⟩
  exact ⟨a, n, c, zs, rfl, h⟩

def mkY (k n : Nat) : List Bool := (List.range n).map (fun i => ((k + i : Nat) : Int) % 3 == 0)
theorem mkY_len (k n : Nat) : (mkY k n).length = n := by simp [mkY]
theorem mkY_succ (k n : Nat) : mkY k (n + 1) = mkY k n ++ [((k + n : Nat) : Int) % 3 == 0] := by
  unfold mkY
  rw [List.range_succ, List.map_append]
  rfl
theorem mkY_at {k n i : Nat} (h : i < (mkY k n).length) : (mkY k n)[i] = (((k + i : Nat) : Int) % 3 == 0) := by simp [mkY]

end Go.Proofs.YtjnajdilllkpcaaGreat

namespace Go.Proofs.YtjnajdilllkpcaaGreat
open Go.RowKit Go.Shelf

/-- 6 cells that are a block of their own. -/
def Six (w : World) (t : TypeId) (k : Nat) (a b c d e f : Value) : Prop := w.ownsRow k t 6 (.slice (some ⟨k, 0, none⟩) 1 1) 1 [a, b, c, d, e, f]
theorem Six.at (w : World) (a b c d e f : Value) (t : TypeId) {k : Nat} (hk : k = w.heap.size) : Six (w.alloc (.cells #[a, b, c, d, e, f] t)) t k a b c d e f := by
  subst hk
  exact ⟨rfl, .inr ⟨w.heap.size, 1, #[a, b, c, d, e, f], rfl, Nat.le_refl _, by show (w.heap.push _)[w.heap.size]? = _; rw [Array.getElem?_push_size], Nat.le_refl _, by unfold maxLen; omega, rfl, rfl⟩⟩
theorem Six.new (w : World) (a b c d e f : Value) (t : TypeId) : Six (w.alloc (.cells #[a, b, c, d, e, f] t)) t w.heap.size a b c d e f := Six.at w a b c d e f t rfl
theorem Six.below {w' : World} {w : World} {t : TypeId} {k : Nat} {a b c d e f : Value} (h : Six w t k a b c d e f) (hB : Below w.heap.size w w') : Six w' t k a b c d e f := ownsRow_below h hB
theorem Six.c {w : World} {t : TypeId} {k : Nat} {a b c d e f : Value} (h : Six w t k a b c d e f) : w.cell? ⟨k, 0, none⟩ = some a ∧ w.cell? ⟨k, 1, none⟩ = some b ∧ w.cell? ⟨k, 2, none⟩ = some c ∧ w.cell? ⟨k, 3, none⟩ = some d ∧ w.cell? ⟨k, 4, none⟩ = some e ∧ w.cell? ⟨k, 5, none⟩ = some f :=
  ⟨World.ownsRow.cellAt h 0 (by omega), World.ownsRow.cellAt h 1 (by omega), World.ownsRow.cellAt h 2 (by omega), World.ownsRow.cellAt h 3 (by omega), World.ownsRow.cellAt h 4 (by omega), World.ownsRow.cellAt h 5 (by omega)⟩
theorem Six.f {w : World} {t : TypeId} {k : Nat} {a b c d e f : Value} (h : Six w t k a b c d e f) (j : Nat) : w.frozen? ⟨k, j, none⟩ = false := World.ownsRow.frozenAt h j
theorem Six.s0 {w : World} {t : TypeId} {k : Nat} {a b c d e f : Value} (h : Six w t k a b c d e f) (x : Value) : Six (w.setCell ⟨k, 0, none⟩ x) t k x b c d e f := (World.ownsRow.stored h 0 x).1
theorem Six.s1 {w : World} {t : TypeId} {k : Nat} {a b c d e f : Value} (h : Six w t k a b c d e f) (x : Value) : Six (w.setCell ⟨k, 1, none⟩ x) t k a x c d e f := (World.ownsRow.stored h 1 x).1
theorem Six.s2 {w : World} {t : TypeId} {k : Nat} {a b c d e f : Value} (h : Six w t k a b c d e f) (x : Value) : Six (w.setCell ⟨k, 2, none⟩ x) t k a b x d e f := (World.ownsRow.stored h 2 x).1
theorem Six.s3 {w : World} {t : TypeId} {k : Nat} {a b c d e f : Value} (h : Six w t k a b c d e f) (x : Value) : Six (w.setCell ⟨k, 3, none⟩ x) t k a b c x e f := (World.ownsRow.stored h 3 x).1
theorem Six.s4 {w : World} {t : TypeId} {k : Nat} {a b c d e f : Value} (h : Six w t k a b c d e f) (x : Value) : Six (w.setCell ⟨k, 4, none⟩ x) t k a b c d x f := (World.ownsRow.stored h 4 x).1
theorem Six.s5 {w : World} {t : TypeId} {k : Nat} {a b c d e f : Value} (h : Six w t k a b c d e f) (x : Value) : Six (w.setCell ⟨k, 5, none⟩ x) t k a b c d e x := (World.ownsRow.stored h 5 x).1
theorem Six.other {w : World} {t : TypeId} {k : Nat} {a b c d e f : Value} (h : Six w t k a b c d e f) {k' : Nat} (hk : k ≠ k') (j : Nat) (x : Value) : Six (w.setCell ⟨k', j, none⟩ x) t k a b c d e f := ownsRow_setCell_other h (by simpa [Value.ownBlock] using hk) x
theorem Six.lt {w : World} {t : TypeId} {k : Nat} {a b c d e f : Value} (h : Six w t k a b c d e f) : k < w.heap.size := (World.ownsRow.lt h k rfl).2
theorem Mid.six {lo hi : Nat} {w1 : World} {w : World} {t : TypeId} {k : Nat} {a b c d e f : Value} (h : Mid lo hi w w1) (hr : Six w t k a b c d e f) (ho : k < lo ∨ hi ≤ k) : Six w1 t k a b c d e f :=
  h.row hr (fun j hj => by simp [Value.ownBlock] at hj; omega)
theorem row_six {w : World} {base : Nat} {e : TypeId} {size n : Nat} {v : Value} {xs : List Value} (h : w.ownsRow base e size v n xs) {k : Nat} (hk : k < base) (x0 x1 x2 x3 x4 x5 : Value) : ((((((w.setCell ⟨k, 0, none⟩ x0).setCell ⟨k, 1, none⟩ x1).setCell ⟨k, 2, none⟩ x2).setCell ⟨k, 3, none⟩ x3).setCell ⟨k, 4, none⟩ x4).setCell ⟨k, 5, none⟩ x5).ownsRow base e size v n xs :=
  (ownsRow_setCell_below (ownsRow_setCell_below (ownsRow_setCell_below (ownsRow_setCell_below (ownsRow_setCell_below (ownsRow_setCell_below h (a := ⟨k, 0, none⟩) hk x0) (a := ⟨k, 1, none⟩) hk x1) (a := ⟨k, 2, none⟩) hk x2) (a := ⟨k, 3, none⟩) hk x3) (a := ⟨k, 4, none⟩) hk x4) (a := ⟨k, 5, none⟩) hk x5)
theorem below_six {n k : Nat} {w W : World} (h : Below n w W) (hk : n ≤ k) (x0 x1 x2 x3 x4 x5 : Value) : Below n w ((((((W.setCell ⟨k, 0, none⟩ x0).setCell ⟨k, 1, none⟩ x1).setCell ⟨k, 2, none⟩ x2).setCell ⟨k, 3, none⟩ x3).setCell ⟨k, 4, none⟩ x4).setCell ⟨k, 5, none⟩ x5) :=
  ((((((h.setCell (p := ⟨k, 0, none⟩) hk x0).setCell (p := ⟨k, 1, none⟩) hk x1).setCell (p := ⟨k, 2, none⟩) hk x2).setCell (p := ⟨k, 3, none⟩) hk x3).setCell (p := ⟨k, 4, none⟩) hk x4).setCell (p := ⟨k, 5, none⟩) hk x5)

/-- 7 cells that are a block of their own. -/
def Seven (w : World) (t : TypeId) (k : Nat) (a b c d e f g : Value) : Prop := w.ownsRow k t 7 (.slice (some ⟨k, 0, none⟩) 1 1) 1 [a, b, c, d, e, f, g]
theorem Seven.at (w : World) (a b c d e f g : Value) (t : TypeId) {k : Nat} (hk : k = w.heap.size) : Seven (w.alloc (.cells #[a, b, c, d, e, f, g] t)) t k a b c d e f g := by
  subst hk
  exact ⟨rfl, .inr ⟨w.heap.size, 1, #[a, b, c, d, e, f, g], rfl, Nat.le_refl _, by show (w.heap.push _)[w.heap.size]? = _; rw [Array.getElem?_push_size], Nat.le_refl _, by unfold maxLen; omega, rfl, rfl⟩⟩
theorem Seven.new (w : World) (a b c d e f g : Value) (t : TypeId) : Seven (w.alloc (.cells #[a, b, c, d, e, f, g] t)) t w.heap.size a b c d e f g := Seven.at w a b c d e f g t rfl
theorem Seven.below {w' : World} {w : World} {t : TypeId} {k : Nat} {a b c d e f g : Value} (h : Seven w t k a b c d e f g) (hB : Below w.heap.size w w') : Seven w' t k a b c d e f g := ownsRow_below h hB
theorem Seven.c {w : World} {t : TypeId} {k : Nat} {a b c d e f g : Value} (h : Seven w t k a b c d e f g) : w.cell? ⟨k, 0, none⟩ = some a ∧ w.cell? ⟨k, 1, none⟩ = some b ∧ w.cell? ⟨k, 2, none⟩ = some c ∧ w.cell? ⟨k, 3, none⟩ = some d ∧ w.cell? ⟨k, 4, none⟩ = some e ∧ w.cell? ⟨k, 5, none⟩ = some f ∧ w.cell? ⟨k, 6, none⟩ = some g :=
  ⟨World.ownsRow.cellAt h 0 (by omega), World.ownsRow.cellAt h 1 (by omega), World.ownsRow.cellAt h 2 (by omega), World.ownsRow.cellAt h 3 (by omega), World.ownsRow.cellAt h 4 (by omega), World.ownsRow.cellAt h 5 (by omega), World.ownsRow.cellAt h 6 (by omega)⟩
theorem Seven.f {w : World} {t : TypeId} {k : Nat} {a b c d e f g : Value} (h : Seven w t k a b c d e f g) (j : Nat) : w.frozen? ⟨k, j, none⟩ = false := World.ownsRow.frozenAt h j
theorem Seven.s0 {w : World} {t : TypeId} {k : Nat} {a b c d e f g : Value} (h : Seven w t k a b c d e f g) (x : Value) : Seven (w.setCell ⟨k, 0, none⟩ x) t k x b c d e f g := (World.ownsRow.stored h 0 x).1
theorem Seven.s1 {w : World} {t : TypeId} {k : Nat} {a b c d e f g : Value} (h : Seven w t k a b c d e f g) (x : Value) : Seven (w.setCell ⟨k, 1, none⟩ x) t k a x c d e f g := (World.ownsRow.stored h 1 x).1
theorem Seven.s2 {w : World} {t : TypeId} {k : Nat} {a b c d e f g : Value} (h : Seven w t k a b c d e f g) (x : Value) : Seven (w.setCell ⟨k, 2, none⟩ x) t k a b x d e f g := (World.ownsRow.stored h 2 x).1
theorem Seven.s3 {w : World} {t : TypeId} {k : Nat} {a b c d e f g : Value} (h : Seven w t k a b c d e f g) (x : Value) : Seven (w.setCell ⟨k, 3, none⟩ x) t k a b c x e f g := (World.ownsRow.stored h 3 x).1
theorem Seven.s4 {w : World} {t : TypeId} {k : Nat} {a b c d e f g : Value} (h : Seven w t k a b c d e f g) (x : Value) : Seven (w.setCell ⟨k, 4, none⟩ x) t k a b c d x f g := (World.ownsRow.stored h 4 x).1
theorem Seven.s5 {w : World} {t : TypeId} {k : Nat} {a b c d e f g : Value} (h : Seven w t k a b c d e f g) (x : Value) : Seven (w.setCell ⟨k, 5, none⟩ x) t k a b c d e x g := (World.ownsRow.stored h 5 x).1
theorem Seven.s6 {w : World} {t : TypeId} {k : Nat} {a b c d e f g : Value} (h : Seven w t k a b c d e f g) (x : Value) : Seven (w.setCell ⟨k, 6, none⟩ x) t k a b c d e f x := (World.ownsRow.stored h 6 x).1
theorem Seven.other {w : World} {t : TypeId} {k : Nat} {a b c d e f g : Value} (h : Seven w t k a b c d e f g) {k' : Nat} (hk : k ≠ k') (j : Nat) (x : Value) : Seven (w.setCell ⟨k', j, none⟩ x) t k a b c d e f g := ownsRow_setCell_other h (by simpa [Value.ownBlock] using hk) x
theorem Seven.lt {w : World} {t : TypeId} {k : Nat} {a b c d e f g : Value} (h : Seven w t k a b c d e f g) : k < w.heap.size := (World.ownsRow.lt h k rfl).2
theorem Mid.seven {lo hi : Nat} {w1 : World} {w : World} {t : TypeId} {k : Nat} {a b c d e f g : Value} (h : Mid lo hi w w1) (hr : Seven w t k a b c d e f g) (ho : k < lo ∨ hi ≤ k) : Seven w1 t k a b c d e f g :=
  h.row hr (fun j hj => by simp [Value.ownBlock] at hj; omega)
theorem row_seven {w : World} {base : Nat} {e : TypeId} {size n : Nat} {v : Value} {xs : List Value} (h : w.ownsRow base e size v n xs) {k : Nat} (hk : k < base) (x0 x1 x2 x3 x4 x5 x6 : Value) : (((((((w.setCell ⟨k, 0, none⟩ x0).setCell ⟨k, 1, none⟩ x1).setCell ⟨k, 2, none⟩ x2).setCell ⟨k, 3, none⟩ x3).setCell ⟨k, 4, none⟩ x4).setCell ⟨k, 5, none⟩ x5).setCell ⟨k, 6, none⟩ x6).ownsRow base e size v n xs :=
  (ownsRow_setCell_below (ownsRow_setCell_below (ownsRow_setCell_below (ownsRow_setCell_below (ownsRow_setCell_below (ownsRow_setCell_below (ownsRow_setCell_below h (a := ⟨k, 0, none⟩) hk x0) (a := ⟨k, 1, none⟩) hk x1) (a := ⟨k, 2, none⟩) hk x2) (a := ⟨k, 3, none⟩) hk x3) (a := ⟨k, 4, none⟩) hk x4) (a := ⟨k, 5, none⟩) hk x5) (a := ⟨k, 6, none⟩) hk x6)
theorem below_seven {n k : Nat} {w W : World} (h : Below n w W) (hk : n ≤ k) (x0 x1 x2 x3 x4 x5 x6 : Value) : Below n w (((((((W.setCell ⟨k, 0, none⟩ x0).setCell ⟨k, 1, none⟩ x1).setCell ⟨k, 2, none⟩ x2).setCell ⟨k, 3, none⟩ x3).setCell ⟨k, 4, none⟩ x4).setCell ⟨k, 5, none⟩ x5).setCell ⟨k, 6, none⟩ x6) :=
  (((((((h.setCell (p := ⟨k, 0, none⟩) hk x0).setCell (p := ⟨k, 1, none⟩) hk x1).setCell (p := ⟨k, 2, none⟩) hk x2).setCell (p := ⟨k, 3, none⟩) hk x3).setCell (p := ⟨k, 4, none⟩) hk x4).setCell (p := ⟨k, 5, none⟩) hk x5).setCell (p := ⟨k, 6, none⟩) hk x6)

end Go.Proofs.YtjnajdilllkpcaaGreat

namespace Go.Proofs.YtjnajdilllkpcaaGreat
open Go.RowKit Go.Shelf

/-- A side. -/
structure Sd where
  fo : Sn
  co : Int
  ru : List Ru
  ha : List Bool
  se : List Int
def Sd.none : Sd := ⟨Sn.none, 0, [], [], []⟩
def SdA (w : World) (v : Value) (s : Sd) : Prop := ∃ vp vr vu vh vs, v = .agg #[.int .i64 s.fo.num, vp, vr, .int .i64 s.co, vu, vh, vs] ∧ RuS w vp s.fo.pol ∧ VS w vr (nums s.fo.rv) ∧ RuS w vu s.ru ∧ VS w vh (bls s.ha) ∧ VS w vs (nums s.se)
def SdR (w : World) (v : Value) (s : Sd) : Prop := ∃ vp vr vu vh vs, v = .agg #[.int .i64 s.fo.num, vp, vr, .int .i64 s.co, vu, vh, vs] ∧ RuR w vp s.fo.pol ∧ NuR w vr s.fo.rv ∧ RuR w vu s.ru ∧ BoR w vh s.ha ∧ NuR w vs s.se
/-- .. of one's own: the version's lists lie in blocks from base on, below m, the others from m on, below top. -/
def SdO (w : World) (base top : Nat) (v : Value) (s : Sd) : Prop :=
  ∃ m vp vr vu vh vs, v = .agg #[.int .i64 s.fo.num, vp, vr, .int .i64 s.co, vu, vh, vs] ∧ base ≤ m ∧ m ≤ top ∧ SnO w base m (.agg #[.int .i64 s.fo.num, vp, vr]) s.fo ∧ w.ownsRow m 31 4 vu s.ru.length (s.ru.flatMap Ru.cells) ∧ w.ownsRow m 4 1 vh s.ha.length (bls s.ha) ∧ w.ownsRow m 3 1 vs s.se.length (nums s.se) ∧ (∀ k, vu.ownBlock = some k → k < top) ∧ (∀ k, vh.ownBlock = some k → k < top) ∧ ∀ k, vs.ownBlock = some k → k < top
theorem SdA.below {w w' : World} {v : Value} {s : Sd} (h : SdA w v s) (hB : Below w.heap.size w w') : SdA w' v s := by
  obtain ⟨vp, vr, vu, vh, vs, rfl, h1, h2, h3, h4, h5⟩ := h
  exact ⟨_, _, _, _, _, rfl, h1.below hB, h2.below hB, h3.below hB, h4.below hB, h5.below hB⟩
theorem SdR.below {w w' : World} {v : Value} {s : Sd} (h : SdR w v s) (hB : Below w.heap.size w w') : SdR w' v s := by
  obtain ⟨vp, vr, vu, vh, vs, rfl, h1, h2, h3, h4, h5⟩ := h
  exact ⟨_, _, _, _, _, rfl, h1.below hB, h2.below hB, h3.below hB, h4.below hB, h5.below hB⟩
theorem SdO.below {w w' : World} {base top : Nat} {v : Value} {s : Sd} (h : SdO w base top v s) (hB : Below w.heap.size w w') : SdO w' base top v s := by
  obtain ⟨m, vp, vr, vu, vh, vs, rfl, hm, ht, h1, h3, h4, h5, t⟩ := h
  exact ⟨m, vp, vr, vu, vh, vs, rfl, hm, ht, h1.below hB, ownsRow_below h3 hB, ownsRow_below h4 hB, ownsRow_below h5 hB, t⟩
theorem SdR.a {w : World} {v : Value} {s : Sd} (h : SdR w v s) : SdA w v s := by
  obtain ⟨vp, vr, vu, vh, vs, rfl, h1, h2, h3, h4, h5⟩ := h
  exact ⟨_, _, _, _, _, rfl, h1.s, h2.s, h3.s, h4.s, h5.s⟩
theorem SdO.r {w : World} {base top : Nat} {v : Value} {s : Sd} (h : SdO w base top v s) : SdR w v s := by
  obtain ⟨m, vp, vr, vu, vh, vs, rfl, hm, ht, ⟨vp', vr', e, h1, h2, _, _⟩, h3, h4, h5, t⟩ := h
  cases e
  exact ⟨_, _, _, _, _, rfl, RuR.own h1, NuR.own h2, RuR.own h3, BoR.own h4, NuR.own h5⟩
theorem SdO.a {w : World} {base top : Nat} {v : Value} {s : Sd} (h : SdO w base top v s) : SdA w v s := h.r.a
theorem SdR.fo {w : World} {vp vr vu vh vs : Value} {s : Sd} (h : SdR w (.agg #[.int .i64 s.fo.num, vp, vr, .int .i64 s.co, vu, vh, vs]) s) : SnR w (.agg #[.int .i64 s.fo.num, vp, vr]) s.fo := by
  obtain ⟨_, _, _, _, _, e, h1, h2, _⟩ := h
  cases e
  exact ⟨_, _, rfl, h1, h2⟩
theorem SdO.mono {w : World} {base base' top top' : Nat} {v : Value} {s : Sd} (h : SdO w base top v s) (hb : base' ≤ base) (ht : top ≤ top') : SdO w base' top' v s := by
  obtain ⟨m, vp, vr, vu, vh, vs, rfl, hm, hmt, h1, h3, h4, h5, t1, t2, t3⟩ := h
  exact ⟨m, vp, vr, vu, vh, vs, rfl, by omega, by omega, h1.mono hb (Nat.le_refl _), h3, h4, h5, fun k hk => Nat.lt_of_lt_of_le (t1 k hk) ht, fun k hk => Nat.lt_of_lt_of_le (t2 k hk) ht, fun k hk => Nat.lt_of_lt_of_le (t3 k hk) ht⟩
theorem Mid.sdo {lo hi : Nat} {w w1 : World} (h : Mid lo hi w w1) {base top : Nat} {v : Value} {s : Sd} (hr : SdO w base top v s) (ho : hi ≤ base ∨ top ≤ lo) : SdO w1 base top v s := by
  obtain ⟨m, vp, vr, vu, vh, vs, rfl, hm, hmt, h1, h3, h4, h5, t1, t2, t3⟩ := hr
  exact ⟨m, vp, vr, vu, vh, vs, rfl, hm, hmt, h.sno h1 (by omega), h.row h3 (fun k hk => by have := h3.lt k hk; have := t1 k hk; omega), h.row h4 (fun k hk => by have := h4.lt k hk; have := t2 k hk; omega), h.row h5 (fun k hk => by have := h5.lt k hk; have := t3 k hk; omega), t1, t2, t3⟩
theorem SdO.none (w : World) (base top : Nat) (h : base ≤ top) : SdO w base top (.agg #[.int .i64 0, .slice none 0 0, .slice none 0 0, .int .i64 0, .slice none 0 0, .slice none 0 0, .slice none 0 0]) Sd.none :=
  ⟨base, _, _, _, _, _, rfl, Nat.le_refl _, h, ⟨_, _, rfl, World.ownsRow_nil _ _ _ _, World.ownsRow_nil _ _ _ _, fun _ h => by simp [Value.ownBlock] at h, fun _ h => by simp [Value.ownBlock] at h⟩, World.ownsRow_nil _ _ _ _, World.ownsRow_nil _ _ _ _, World.ownsRow_nil _ _ _ _, fun _ h => by simp [Value.ownBlock] at h, fun _ h => by simp [Value.ownBlock] at h, fun _ h => by simp [Value.ownBlock] at h⟩
def Sd.fits (s : Sd) : Prop := s.fo.fits ∧ s.ru.length ≤ maxLen ∧ (∀ r ∈ s.ru, r.fits) ∧ s.ha.length ≤ maxLen ∧ s.se.length ≤ maxLen
def Sd.size (s : Sd) : Nat := s.fo.size + szAll s.ru + s.ha.length + s.se.length
def leftSd (n : Int) (s : Sd) : Int := if (s.size : Int) ≤ n then n - s.size else -1
def Sd.short (s : Sd) : Prop := s.fo.short ∧ s.ru.length ≤ 1048576 ∧ s.ha.length ≤ 1048576 ∧ s.se.length ≤ 1048576 ∧ ∀ r ∈ s.ru, r.size ≤ 1048576
theorem Sd.short_of {s : Sd} (h : s.size ≤ 1048576) : s.short := by
  unfold Sd.size szAll at h
  exact ⟨Sn.short_of (by omega), by omega, by omega, by omega, fun r hr => by have := sz_mem hr; omega⟩
theorem sd_forms {w : World} {v : Value} {s : Sd} (h : SdA w v s) : ∃ ap cp ar cr au cu ah ch as' cs, v = .agg #[.int .i64 s.fo.num, .slice ap s.fo.pol.length cp, .slice ar s.fo.rv.length cr, .int .i64 s.co, .slice au s.ru.length cu, .slice ah s.ha.length ch, .slice as' s.se.length cs] := by
  obtain ⟨vp, vr, vu, vh, vs, rfl, h1, h2, h3, h4, h5⟩ := h
  obtain ⟨a1, c1, rfl⟩ := h1.len
  obtain ⟨a2, c2, rfl⟩ := h2.numLen
  obtain ⟨a3, c3, rfl⟩ := h3.len
  obtain ⟨a4, c4, rfl⟩ := h4.bolLen
  obtain ⟨a5, c5, rfl⟩ := h5.numLen
  exact ⟨_, _, _, _, _, _, _, _, _, _, rfl⟩

/-- What lies in a side that was marked. -/
def mkSd (k : Nat) (s : Sd) : Sd := ⟨mkSn k s.fo, s.co, mkL (k + s.fo.many) s.ru.length, mkY (k + s.fo.many + 4 * s.ru.length) s.ha.length, mkN (k + s.fo.many + 4 * s.ru.length + s.ha.length) s.se.length⟩
def Sd.many (s : Sd) : Nat := s.fo.many + 4 * s.ru.length + s.ha.length + s.se.length

end Go.Proofs.YtjnajdilllkpcaaGreat
