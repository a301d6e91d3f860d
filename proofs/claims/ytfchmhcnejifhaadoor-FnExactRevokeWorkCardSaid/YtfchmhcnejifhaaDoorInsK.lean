/-
  The operation copy at elements of several cells; a row with some put in.
-/
import Derived.Laws.CopyRow
import Derived.Laws.IdiomCopy
import Derived.Lib.Overlaps
import Derived.Lib.AppendZerosOnto
import Derived.Shelf.Spec.SlicesInsert
import Derived.Test.YtfchmhcnejifhaaDoorWorkE
namespace Go.Proofs.YtfchmhcnejifhaaDoor
open Go.RowKit Go.Shelf Go.Lib

theorem run_copy_k {P : Program} (w : World) (dT sT ty elem : TypeId) (size g o dLen dCap : Nat) (a : Addr) (sLen sCap : Nat) (cur : Array Value) (t : TypeId) (cs : List Value)
    (hu : P.underlying dT = some (.slice elem)) (hs : (P.info? elem).map (·.size) = some size)
    (hg : w.heap[g]? = some (.cells cur t (0, 0))) (hn : cs.length = Nat.min sLen dLen * size)
    (hsrc : ∀ j v, cs[j]? = some v → w.cell? (a.add j) = some v) (hfit : o + cs.length ≤ cur.size) (h1 : ∀ v ∈ cs, v.oneCell' = true) :
    (Builtin.copy_ #[dT, sT] ty #[.slice (some ⟨g, o, none⟩) dLen dCap, .slice (some a) sLen sCap]).run P w =
      .ok (goInt (Nat.min sLen dLen)) (w.setRow g (cur.toList.take o ++ cs ++ cur.toList.drop (o + cs.length)).toArray) := by
  have hl := run_loadCells_list (P := P) w a cs hsrc
  have hst := run_storeCells_at P g o t cs 0 cur w hg (by simpa using hfit) h1
  cases hq : P.info? elem with
  | none => simp [hq] at hs
  | some i =>
    have hi : i.size = size := by simpa [hq] using hs
    simp [Builtin.copy_, run_underlying hu, Builtin.lenOf, Builtin.firstCells, sizeOf, typeInfo, hq, hi, ← hn, hl, hst]
/-- Two copies that put something in. -/
theorem put_in {α : Type} (cur xs ks : List α) (p q m : Nat) (hq : ks.length = q) (hp : p ≤ m) (hm : cur.take m = xs) (hl : m + q ≤ cur.length) :
    (((cur.take (p + q) ++ xs.drop p ++ cur.drop (p + q + (xs.drop p).length)).take p ++ ks ++ (cur.take (p + q) ++ xs.drop p ++ cur.drop (p + q + (xs.drop p).length)).drop (p + q)).take (m + q)) = xs.take p ++ ks ++ xs.drop p := by
  have hx : xs.length = m := by rw [← hm, List.length_take]; omega
  have hd : (xs.drop p).length = m - p := by rw [List.length_drop, hx]
  have e1 : (cur.take (p + q) ++ xs.drop p ++ cur.drop (p + q + (xs.drop p).length)).take p = xs.take p := by
    rw [List.append_assoc, List.take_append_of_le_length (by rw [List.length_take]; omega), List.take_take, ← hm, List.take_take]
    congr 1
    omega
  have e2 : (cur.take (p + q) ++ xs.drop p ++ cur.drop (p + q + (xs.drop p).length)).drop (p + q) = xs.drop p ++ cur.drop (p + q + (xs.drop p).length) := by
    rw [List.append_assoc, List.drop_append_of_le_length (by rw [List.length_take]; omega), List.drop_of_length_le (by rw [List.length_take]; omega), List.nil_append]
  rw [e1, e2, ← List.append_assoc, List.take_append_of_le_length (by simp [hx, hq]; omega), List.take_of_length_le (by simp [hx, hq]; omega)]
/-- Two copies into a new row. -/
theorem put_new {α : Type} (R A ks D : List α) (p q : Nat) (hA : A.length = p) (hq : ks.length = q) (hR : R.take p = A) :
    (((R.take p ++ ks ++ R.drop (p + q)).take (p + q) ++ D ++ (R.take p ++ ks ++ R.drop (p + q)).drop (p + q + D.length)).take (p + q + D.length)) = A ++ ks ++ D := by
  rw [hR]
  have e1 : (A ++ ks ++ R.drop (p + q)).take (p + q) = A ++ ks := by
    rw [List.take_append_of_le_length (by simp [hA, hq]), List.take_of_length_le (by simp [hA, hq])]
  rw [e1, List.take_append_of_le_length (by simp [hA, hq]; omega), List.take_of_length_le (by simp [hA, hq]; omega)]

end Go.Proofs.YtfchmhcnejifhaaDoor
