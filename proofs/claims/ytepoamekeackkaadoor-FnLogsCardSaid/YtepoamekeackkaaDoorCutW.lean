/-
  The library's Cut at one byte.
-/
import Derived.Deep.QuietTactic
import Derived.BigQuiet
import Derived.Test.YtepoamekeackkaaDoorCutM
import Derived.Test.YtepoamekeackkaaDoorLeaf
namespace Go.Proofs.YtepoamekeackkaaDoor
open Go.RowKit Go.Shelf

set_option maxHeartbeats 1000000 in
set_option maxRecDepth 100000 in
theorem libIndexByte_any (s : ByteArray) (c : Int) (w : World) :
    Calls Tryd.prog 80 #[.string s, .int .u8 c] w fun e w' => e = .returned (.int .i64 (Lib.indexByte s.data.toList c.toNat.toUInt8)) ∧ w' = w := by
  go_enter Tryd.func80, Tryd.ntmps80
  go_wp2
  rw [run_callFunc_extern Tryd.func93 (by kernel_rfl) (by kernel_rfl) (by kernel_rfl) (e := Extern.BytealgIndexByte.indexByte) (by kernel_rfl), Lib.run_indexByteString]
  simp only [Result.andThen]
  rw [Oper.upon_value]
  go_wp2
  go_ret
  exact ⟨rfl, rfl⟩

theorem ret_i64 {a b : Int} (h : a = b) : Ending.returned (.int .i64 a) = .returned (.int .i64 b) := by rw [h]

set_option maxHeartbeats 1000000 in
set_option maxRecDepth 100000 in
theorem libIndex_any (s : ByteArray) (c : UInt8) (w : World) :
    Calls Tryd.prog 69 #[.string s, .string ⟨#[c]⟩] w fun e w' => e = .returned (.int .i64 (Lib.indexByte s.data.toList c)) ∧ w' = w := by
  have hsz : (⟨#[c]⟩ : ByteArray).size = 1 := rfl
  have hl : (⟨#[c]⟩ : ByteArray).toList = [c] := by rw [toList_data]
  have hc : (⟨#[c]⟩ : ByteArray)[0]? = some c := rfl
  have hk : (c.toNat : Int).toNat.toUInt8 = c := by simp
  cases e1 : ([c] == s.toList)
  · have HR := hid hk
    clear hk
    go_enter Tryd.func69, Tryd.ntmps69
    go_wp2_with fail
    refine (libIndexByte_any _ _ _).mono ?_
    rintro e w1 ⟨rfl, rfl⟩
    go_wp2_with fail
    go_ret
    exact ⟨ret_i64 (by first | rfl | rw [HR.out]), rfl⟩
  · have HR := hid (show Lib.indexByte s.data.toList c = 0 by
      have h1 : s.data.toList = [c] := by rw [← toList_data]; exact (eq_of_beq e1).symm
      rw [h1]
      simp [Lib.indexByte])
    go_enter Tryd.func69, Tryd.ntmps69
    go_wp2_with fail
    go_ret
    exact ⟨ret_i64 HR.out.symm, rfl⟩

theorem ret_cut {a b c d : ByteArray} {x y : Bool} (h : a = c) (h' : b = d) (h2 : x = y) : Ending.returned (.tuple #[.string a, .string b, .bool x]) = .returned (.tuple #[.string c, .string d, .bool y]) := by rw [h, h', h2]

set_option maxHeartbeats 1000000 in
theorem libCut_any (s : ByteArray) (c : UInt8) (w : World) (hs : s.size ≤ 1048576) :
    Calls Tryd.prog 54 #[.string s, .string ⟨#[c]⟩] w fun e w' => e = .returned (.tuple #[.string (cutA s c), .string (cutB s c), .bool (cutF s c)]) ∧ ∃ n, w' = w.drewN n := by
  have hsz : (⟨#[c]⟩ : ByteArray).size = 1 := rfl
  cases h : fI s c with
  | none =>
    have HC := hid (cut_none h)
    have hI := index_none h
    clear h
    go_enter Tryd.func54, Tryd.ntmps54
    go_wp2_with fail
    refine (libIndex_any s c _).mono ?_
    rintro e w1 ⟨rfl, rfl⟩
    rw [hI]
    go_wp2_with fail
    go_ret3
    exact ⟨ret_cut HC.out.1.symm HC.out.2.1.symm HC.out.2.2.symm, 0, rfl⟩
  | some i =>
    have HC := hid (cut_some h)
    have hI := index_some h
    have hlt := fI_lt h
    clear h
    have h1 : (0 : Int) ≤ i := by omega
    have h2 : (i : Int) ≤ s.size := by omega
    have h3 : (0 : Int) ≤ (i : Int) + 1 := by omega
    have h4 : (i : Int) + 1 ≤ s.size := by omega
    go_enter Tryd.func54, Tryd.ntmps54
    go_wp2_with fail
    refine (libIndex_any s c _).mono ?_
    rintro e w1 ⟨rfl, rfl⟩
    rw [hI]
    go_wp2_with fail
    go_quiet (fail)
    go_wp2
    go_ret3
    exact ⟨ret_cut HC.out.1.symm HC.out.2.1.symm HC.out.2.2.symm, nq, rfl⟩

set_option maxHeartbeats 1000000 in
theorem stringsCut_any (s : ByteArray) (c : UInt8) (w : World) (hs : s.size ≤ 1048576) :
    Calls Tryd.prog 36 #[.string s, .string ⟨#[c]⟩] w fun e w' => e = .returned (.tuple #[.string (cutA s c), .string (cutB s c), .bool (cutF s c)]) ∧ ∃ n, w' = w.drewN n := by
  go_enter Tryd.func36, Tryd.ntmps36
  go_wp2_with fail
  refine (libCut_any s c _ hs).mono ?_
  rintro e w1 ⟨rfl, n, rfl⟩
  go_wp2_with fail
  go_ret3
  exact ⟨rfl, n, rfl⟩

end Go.Proofs.YtepoamekeackkaaDoor
