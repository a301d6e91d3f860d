/-
  Chapter 7: LogText, by the specification and by the program.
-/
import Derived.Test.YtepoamekeackkaaDoorLogT
namespace Go.Proofs.YtepoamekeackkaaDoor
open Go.RowKit Go.Shelf

theorem gl_lg {l : List Rc} (h : glB l = true) : lgB l = true := by
  unfold glB at h
  simp only [Bool.and_eq_true] at h
  exact h.1
theorem gl_at {l : List Rc} (h : glB l = true) {k : Nat} (hk : k < l.length) : l[k] = rcN (pvS l k) k l[k].note := by
  unfold glB at h
  simp only [Bool.and_eq_true, Option.isNone_iff_eq_none] at h
  have := brX_all h.2 k hk
  rw [okA_at hk] at this
  exact Rc.same_eq this
theorem lg_note {l : List Rc} (h : lgB l = true) {r : Rc} (hr : r ∈ l) : r.note.size ≤ 80 := by
  unfold lgB at h
  simp only [Bool.and_eq_true, List.all_eq_true] at h
  have := h.2 r hr
  unfold ntB at this
  simp only [Bool.and_eq_true, decide_eq_true_eq] at this
  exact this.1
theorem gl_wr {l : List Rc} (h : glB l = true) (hu : ∀ r ∈ l, r.su < 4294967296) : ∀ r ∈ l, r.wr := by
  intro r hr
  have h60 := lg_len (gl_lg h)
  have h80 := lg_note (gl_lg h) hr
  obtain ⟨k, hk, rfl⟩ := List.getElem_of_mem hr
  have hn : l[k].num = ((k + 1 : Nat) : Int) := by
    have := congrArg Rc.num (gl_at h hk)
    exact this
  exact ⟨by omega, by omega, by omega, hu _ hr⟩
/-- What LogText tells. -/
def lxT (l : List Rc) : ByteArray := if glB l then ltT l else ⟨#[]⟩

set_option maxHeartbeats 1000000 in
theorem specLogText_any (v : Value) (l : List Rc) (w : World) (hm : l.length ≤ 1048577) (hf : ∀ r ∈ l, r.note.size ≤ 1048576) (hu : ∀ r ∈ l, r.su < 4294967296) (hr : RcS w v l) :
    Calls Tryd.prog 23 #[v] w fun e w' => e = .returned (.tuple #[.string (lxT l), .bool (glB l)]) ∧ Below w.heap.size w w' := by
  cases hg : glB l
  · have HX := hid (show lxT l = ⟨#[]⟩ by unfold lxT; rw [hg]; rfl)
    go_enter Tryd.func23, Tryd.ntmps23
    go_wp2_with fail
    refine (specGoodLog_any v l _ hm hf hu hr).mono ?_
    rintro e w1 ⟨rfl, hB1⟩
    rw [hg]
    clear hg
    go_wp2_with fail
    go_ret2
    exact ⟨ret_strb HX.out.symm rfl, hB1⟩
  · have HX := hid (show lxT l = ltT l by unfold lxT; rw [hg]; rfl)
    have hw := gl_wr hg hu
    have hl := lg_len (gl_lg hg)
    go_enter Tryd.func23, Tryd.ntmps23
    go_wp2_with fail
    refine (specGoodLog_any v l _ hm hf hu hr).mono ?_
    rintro e w1 ⟨rfl, hB1⟩
    rw [hg]
    clear hg
    go_wp2_with fail
    refine (l7Text_any v l _ hl hw (hr.below hB1)).mono ?_
    rintro e w2 ⟨rfl, hB2⟩
    have hB3 := below_one hB1 hB2
    clear hr
    go_wp2_with fail
    go_ret2
    exact ⟨ret_strb HX.out.symm rfl, hB3⟩

/-- The builder as it is made. -/
theorem built_new7 (w : World) : Lib.IsBuilder 60 5 w.heap.size w.heap.size [] (w.alloc (.cells #[.pointer none, .slice none 0 0] 60)) :=
  .inl ⟨Nat.le_refl _, .slice none 0 0, by show (w.heap.push _)[w.heap.size]? = some _; simp, World.ownsRow_nil _ _ _ _, by simp [Value.ownBlock]⟩
theorem cells_rl (r : Rc) (l : List UInt8) : (Lib.byteCells l ++ Lib.strCells (rlT r)) ++ [.int .u8 10] = Lib.byteCells (l ++ ((rlT r).data.toList ++ [10])) := by
  rw [Lib.strCells_eq, Lib.byteCells_append, Lib.byteCells_append, List.append_assoc]
  rfl
def ltL (l : List Rc) (k : Nat) : List UInt8 := (ltT (l.take k)).data.toList
theorem ltL_zero (l : List Rc) : ltL l 0 = [] := rfl
theorem ltL_succ {l : List Rc} {k : Nat} (h : k < l.length) : ltL l (k + 1) = ltL l k ++ ((rlT l[k]).data.toList ++ [10]) := by
  unfold ltL
  rw [ltT_succ h]
  simp
theorem ltL_len {l : List Rc} (hg : ∀ r ∈ l, r.wr) (k : Nat) (hk : k ≤ l.length) : (ltL l k).length ≤ k * 1048600 := ltT_size hg k hk
theorem ltL_end (l : List Rc) : (⟨(ltL l l.length).toArray⟩ : ByteArray) = ltT l := by
  apply bytes_same
  unfold ltL
  rw [List.take_length]

set_option maxHeartbeats 2000000 in
theorem implLogText_any (v : Value) (l : List Rc) (w : World) (ht : Tab w ∧ Tab2 w) (hm : l.length ≤ 1048577) (hf : ∀ r ∈ l, r.note.size ≤ 1048576) (hu : ∀ r ∈ l, r.su < 4294967296) (hr : RcS w v l) :
    Calls Tryd.prog 11 #[v] w fun e w' => e = .returned (.tuple #[.string (lxT l), .bool (glB l)]) ∧ Below w.heap.size w w' := by
  have HT := hid ht.1
  have HT2 := hid ht.2
  clear ht
  obtain ⟨a, cap, rfl⟩ := hr.len
  cases hg : glB l
  · have HX := hid (show lxT l = ⟨#[]⟩ by unfold lxT; rw [hg]; rfl)
    go_enter Tryd.func11, Tryd.ntmps11
    go_wp2_with fail
    refine (implGoodLog_any _ l _ HT.out hm hf hu hr).mono ?_
    rintro e w1 ⟨rfl, hB1⟩
    rw [hg]
    clear hg
    go_wp2_with fail
    go_ret2
    exact ⟨ret_strb HX.out.symm rfl, hB1⟩
  · have HX := hid (show lxT l = ltT l by unfold lxT; rw [hg]; rfl)
    have hw := gl_wr hg hu
    have hl60 := lg_len (gl_lg hg)
    have HP := hid (fun k h => ltL_len hw k h)
    go_enter Tryd.func11, Tryd.ntmps11
    go_wp2_with fail
    refine (implGoodLog_any _ l _ HT.out hm hf hu hr).mono ?_
    rintro e w1 ⟨rfl, hB1⟩
    rw [hg]
    clear hg
    have hr1 := hr.below hB1
    have hN := built_new7 w1
    have hBn : Below w1.heap.size w1 (w1.alloc (.cells #[.pointer none, .slice none 0 0] 60)) := (Below.refl _ w1).alloc (Nat.le_refl _) _
    clear hr
    go_wp2
    go_loopw [12] (fun i wr => ∃ k : Nat, k ≤ l.length ∧ i = .int .i64 k ∧ Lib.IsBuilder 60 5 w1.heap.size w1.heap.size (Lib.byteCells (ltL l k)) wr ∧ Below w1.heap.size w1 wr) (fun i _ => l.length - (intOf i).toNat)
    case atStart => exact ⟨0, Nat.zero_le _, rfl, by rw [ltL_zero]; exact hN, hBn⟩
    case round =>
      obtain ⟨k, hk, rfl, hI, hB⟩ := hrel
      have hl := HP.out k hk
      by_cases hlt : k < l.length
      · obtain ⟨b, off, rfl, hb, hcap, q0, q1, q2⟩ := (hr1.below hB).at hlt
        have hwr := hw l[k] (List.getElem_mem hlt)
        have HS := hid (ltL_succ hlt)
        have hts := rlT_size hwr.1 hwr.2.1
        have hnz := hwr.2.2.1
        have HC := hid (cells_rl l[k] (ltL l k))
        generalize l[k] = r at *
        generalize ltL l k = L at *
        have hBw : Below wr.heap.size wr (wr.alloc (.cells #[.int .i64 r.num, .string r.note, .int .u32 (r.su : Int)] 34)) := (Below.refl _ wr).alloc (Nat.le_refl _) _
        have hBa := below_one hB hBw
        have hIa := isB_below hI hBw
        have hBt := below_one hB1 hBa
        go_wp2_with fail
        refine (textOfRecord_any r _ (HT.out.on hBt) (HT2.out.on hBt) hwr).mono ?_
        rintro e w2 ⟨rfl, hB2⟩
        have hI2 := isB_below hIa hB2
        have hBB2 := below_one hBa hB2
        have hz2 := hBB2.size
        clear hB hBw hBa hIa hI hB2 q0 q1 q2 hBt
        go_wp2_with fail
        refine (writeString_any w1.heap.size w1.heap.size _ (rlT r) _ hI2 (by rw [Lib.byteCells_length]; omega) hz2).mono ?_
        rintro e w3 ⟨rfl, hI3, hB3⟩
        have hBB3 := hBB2.trans hB3
        have hz3 := hBB3.size
        clear hI2 hBB2 hz2 hB3
        go_wp2_with fail
        refine (writeByte_any w1.heap.size w1.heap.size _ 10 _ (.inr hI3) (by rw [List.length_append, Lib.byteCells_length, Lib.strCells_length]; omega) hz3).mono ?_
        rintro e w4 ⟨rfl, hI4, hB4⟩
        have hBB4 := hBB3.trans hB4
        rw [HC.out] at hI4
        clear hI3 hBB3 hz3 hB4
        go_wp2
        go_roundw
        case rel => exact ⟨k + 1, by omega, by go_num, by rw [HS.out]; exact .inr hI4, hBB4⟩
        case measure => simp [intOf]; omega
      · obtain rfl : k = l.length := by omega
        have hzz := hB.size
        have HE := hid (ltL_end l)
        go_wp2_with fail
        refine (bString_any w1.heap.size w1.heap.size _ _ hI hzz).mono ?_
        rintro e w6 ⟨rfl, hB6⟩
        rw [HE.out]
        go_wp2_with fail
        go_ret2
        exact ⟨ret_strb HX.out.symm rfl, below_one hB1 (hB.trans hB6)⟩

end Go.Proofs.YtepoamekeackkaaDoor
