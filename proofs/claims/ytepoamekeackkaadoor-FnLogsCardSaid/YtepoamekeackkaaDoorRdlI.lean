/-
  Chapter 7: ReadLog, by the program.
-/
import Derived.Shelf.Strings.Split
import Derived.Test.YtepoamekeackkaaDoorCutW
import Derived.Test.YtepoamekeackkaaDoorRdlM
import Derived.Test.YtepoamekeackkaaDoorLogU
import Derived.Test.YtepoamekeackkaaDoorPutR
namespace Go.Proofs.YtepoamekeackkaaDoor
open Go.RowKit Go.Shelf

theorem strInfo7 : (Tryd.prog.info? 9).map (fun i => (i.zero, i.size, i.bytes)) = some (some (.string ByteArray.empty), 1, 16) := by kernel_rfl
theorem spB_size (sep : ByteArray) : ∀ (k : Nat) (x : ByteArray), ∀ y ∈ Lib.splitB sep 0 k x, y.size ≤ x.size
  | 0, x, y, hy => by
    rw [Lib.splitB_zero, List.mem_singleton] at hy
    subst hy
    exact Nat.le_refl _
  | k + 1, x, y, hy => by
    rw [Lib.splitB] at hy
    split at hy
    · rw [List.mem_singleton] at hy
      subst hy
      exact Nat.le_refl _
    · rw [List.mem_cons] at hy
      rcases hy with rfl | hy
      · rw [ByteArray.size_extract]
        omega
      · have := spB_size sep k _ y hy
        rw [ByteArray.size_extract] at this
        omega
theorem spB_ne (sep : ByteArray) (k : Nat) (x : ByteArray) : Lib.splitB sep 0 k x ≠ [] := by
  cases k with
  | zero => rw [Lib.splitB_zero]; simp
  | succ k =>
    rw [Lib.splitB]
    split <;> simp
theorem spB_len (sep : ByteArray) : ∀ (k : Nat) (x : ByteArray), (Lib.splitB sep 0 k x).length ≤ k + 1
  | 0, x => by rw [Lib.splitB_zero]; simp
  | k + 1, x => by
    rw [Lib.splitB]
    split
    · simp
    · have := spB_len sep k (x.extract ((Lib.indexB x sep).toNat + sep.size) x.size)
      simp
      omega
theorem noL_size (x : ByteArray) : (noL x).size ≤ x.size := by
  unfold noL
  rw [List.getLast?_eq_some_getLast (spB_ne _ _ _)]
  exact spB_size _ _ _ _ (List.getLast_mem _)
theorem cutA_size (s : ByteArray) (b : UInt8) : (cutA s b).size ≤ s.size := by
  cases hf : fI s b with
  | none => rw [(cut_none hf).1]; exact Nat.le_refl _
  | some i => rw [(cut_some hf).1, ByteArray.size_extract]; omega
theorem cutB_size (s : ByteArray) (b : UInt8) : (cutB s b).size ≤ s.size := by
  cases hf : fI s b with
  | none => rw [(cut_none hf).2.1]; exact Nat.zero_le _
  | some i => rw [(cut_some hf).2.1, ByteArray.size_extract]; omega

set_option maxRecDepth 100000 in
set_option maxHeartbeats 1000000 in
theorem noteOfLine_any (x : ByteArray) (m : Int) (w : World) (hs : x.size ≤ 1048576) (hm : w.cell? ⟨0, 0, none⟩ = some (.int .i64 m)) :
    Calls Tryd.prog 37 #[.string x] w fun e w' => e = .returned (.string (noL x)) ∧ Below w.heap.size w w' := by
  have h : Calls Tryd.prog 55 #[.string x, .string ⟨#[32]⟩, .int .i64 3] w fun e w' => e = .returned (.slice (some ⟨w.heap.size, 0, none⟩) (Lib.splitB ⟨#[32]⟩ 0 (min 3 (x.size + 1) - 1) x).length (min 3 (x.size + 1))) ∧ w' = w.alloc (.cells (Lib.cellsOf (Lib.splitB ⟨#[32]⟩ 0 (min 3 (x.size + 1) - 1) x) (min 3 (x.size + 1))) 9) := Any.strings_SplitN Tryd.lays147 strInfo7 x ⟨#[32]⟩ 3 m w (by omega) hm (Nat.le_refl _) (by omega) (by omega)
  have hlen := spB_len ⟨#[32]⟩ (min 3 (x.size + 1) - 1) x
  have hne := spB_ne ⟨#[32]⟩ (min 3 (x.size + 1) - 1) x
  have HN := hid (show noL x = (Lib.splitB ⟨#[32]⟩ 0 (min 3 (x.size + 1) - 1) x).getLast hne by unfold noL; rw [List.getLast?_eq_some_getLast hne]; rfl)
  generalize hP : Lib.splitB ⟨#[32]⟩ 0 (min 3 (x.size + 1) - 1) x = P at *
  have hc3 : min 3 (x.size + 1) ≤ 3 := Nat.min_le_left _ _
  have hc1 : 1 ≤ min 3 (x.size + 1) := by omega
  generalize min 3 (x.size + 1) = c at *
  obtain ⟨q, hq⟩ : ∃ q, P.length = q + 1 := ⟨P.length - 1, by have := List.length_pos_iff.2 hne; omega⟩
  have HL := hid (List.getLast_eq_getElem hne)
  have hB : Below w.heap.size w (w.alloc (.cells (Lib.cellsOf P c) 9)) := (Below.refl _ w).alloc (Nat.le_refl _) _
  have hc : (w.alloc (.cells (Lib.cellsOf P c) 9)).cell? ⟨w.heap.size, q, none⟩ = some (.string (noL x)) := by
    rw [HN.out, HL.out, Lib.cell_of_heap (show (w.alloc (.cells (Lib.cellsOf P c) 9)).heap[w.heap.size]? = some (.cells (Lib.cellsOf P c) 9) by show (w.heap.push _)[w.heap.size]? = _; rw [Array.getElem?_push_size])]
    unfold Lib.cellsOf
    simp [hq]
    rw [List.getElem?_append_left (by simp; omega), List.getElem?_map, List.getElem?_eq_getElem (by omega)]
    simp
  rw [hq] at h
  clear HN HL hP hne
  generalize w.alloc (.cells (Lib.cellsOf P c) 9) = w1 at *
  generalize noL x = X at *
  have hqi : q ≤ 2 := by omega
  go_enter Tryd.func37, Tryd.ntmps37
  go_wp2_with fail
  refine h.mono ?_
  rintro e w2 ⟨rfl, hw2⟩
  rw [hw2]
  clear hw2
  go_wp2_with fail
  go_ret
  exact ⟨rfl, hB⟩

end Go.Proofs.YtepoamekeackkaaDoor
