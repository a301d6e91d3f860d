/-
  Chapter 7: LogText, by the specification and by the program.
-/
import Derived.Test.YtepoamekeackkabDoorLogT
namespace Go.Proofs.YtepoamekeackkabDoor
open Go.RowKit Go.Shelf

theorem gl_lg {l : List Rc} (h : glB l = true) : lgB l = true := by
  unfold glB at h
  simp only [Bool.and_eq_true] at h
  exact h.1
theorem gl_at {l : List Rc} (h : glB l = true) {k : Nat} (hk : k < l.length) : l[k] = rcN (pvS l k) k l[k].note := by
  unfold glB at h
  simp only [Bool.and_eq_true, Option.isNone_iff_eq_none] at h
  have := brX_all h.2 k hk
  rw [okA_at hk] at this
  exact Rc.same_eq this
theorem lg_note {l : List Rc} (h : lgB l = true) {r : Rc} (hr : r ∈ l) : r.note.size ≤ 80 := by
  unfold lgB at h
  simp only [Bool.and_eq_true, List.all_eq_true] at h
  have := h.2 r hr
  unfold ntB at this
  simp only [Bool.and_eq_true, decide_eq_true_eq] at this
  exact this.1
theorem gl_wr {l : List Rc} (h : glB l = true) (hu : ∀ r ∈ l, r.su < 4294967296) : ∀ r ∈ l, r.wr := by
  intro r hr
  have h60 := lg_len (gl_lg h)
  have h80 := lg_note (gl_lg h) hr
  obtain ⟨k, hk, rfl⟩ := List.getElem_of_mem hr
  have hn : l[k].num = ((k + 1 : Nat) : Int) := by
    have := congrArg Rc.num (gl_at h hk)
    exact this
  exact ⟨by omega, by omega, by omega, hu _ hr⟩
/-- What LogText tells. -/
def lxT (l : List Rc) : ByteArray := if glB l then ltT l else ⟨#[]⟩

/-- The builder as it is made. -/
theorem built_new7 (w : World) : Lib.IsBuilder 63 5 w.heap.size w.heap.size [] (w.alloc (.cells #[.pointer none, .slice none 0 0] 63)) :=
  .inl ⟨Nat.le_refl _, .slice none 0 0, by show (w.heap.push _)[w.heap.size]? = some _; simp, World.ownsRow_nil _ _ _ _, by simp [Value.ownBlock]⟩
theorem cells_rl (r : Rc) (l : List UInt8) : (Lib.byteCells l ++ Lib.strCells (rlT r)) ++ [.int .u8 10] = Lib.byteCells (l ++ ((rlT r).data.toList ++ [10])) := by
  rw [Lib.strCells_eq, Lib.byteCells_append, Lib.byteCells_append, List.append_assoc]
  rfl
def ltL (l : List Rc) (k : Nat) : List UInt8 := (ltT (l.take k)).data.toList
theorem ltL_zero (l : List Rc) : ltL l 0 = [] := rfl
theorem ltL_succ {l : List Rc} {k : Nat} (h : k < l.length) : ltL l (k + 1) = ltL l k ++ ((rlT l[k]).data.toList ++ [10]) := by
  unfold ltL
  rw [ltT_succ h]
  simp
theorem ltL_len {l : List Rc} (hg : ∀ r ∈ l, r.wr) (k : Nat) (hk : k ≤ l.length) : (ltL l k).length ≤ k * 1048600 := ltT_size hg k hk
theorem ltL_end (l : List Rc) : (⟨(ltL l l.length).toArray⟩ : ByteArray) = ltT l := by
  apply bytes_same
  unfold ltL
  rw [List.take_length]

end Go.Proofs.YtepoamekeackkabDoor
