/-
  Chapter 7: a changed letter of a note is told where it is.
-/
import Derived.Test.YtepoamekeackkaaDoorRdlM
namespace Go.Proofs.YtepoamekeackkaaDoor
open Go.RowKit

theorem mul_back (a : Nat) (h : a < 4294967296) : a * 16777619 % 4294967296 * 899433627 % 4294967296 = a := by
  rw [Nat.mul_mod, Nat.mod_mod, ← Nat.mul_mod]
  omega
theorem xor_back {a a' b : Nat} (h : a ^^^ b = a' ^^^ b) : a = a' := by
  have := congrArg (fun z => z ^^^ b) h
  simpa [Nat.xor_assoc] using this
theorem xor_back' {a b b' : Nat} (h : a ^^^ b = a ^^^ b') : b = b' := xor_back (by rw [Nat.xor_comm, h, Nat.xor_comm] : b ^^^ a = b' ^^^ a)
theorem xor_lt32 {h : Nat} (hh : h < 4294967296) (b : UInt8) : h ^^^ b.toNat < 4294967296 := Nat.xor_lt_two_pow (n := 32) hh (by have := b.toNat_lt; omega)
theorem smS_eq {h h' : Nat} {b b' : UInt8} (hh : h < 4294967296) (hh' : h' < 4294967296) (e : smS h b = smS h' b') : h ^^^ b.toNat = h' ^^^ b'.toNat := by
  unfold smS at e
  have := congrArg (fun z => z * 899433627 % 4294967296) e
  rw [mul_back _ (xor_lt32 hh b), mul_back _ (xor_lt32 hh' b')] at this
  exact this
theorem smL_inj : ∀ (l : List UInt8) {h h' : Nat}, h < 4294967296 → h' < 4294967296 → smL h l = smL h' l → h = h'
  | [], _, _, _, _, e => e
  | b :: l, h, h', hh, hh', e => by
    have e2 : smL (smS h b) l = smL (smS h' b) l := e
    exact xor_back (smS_eq hh hh' (smL_inj l (smS_lt _ _) (smS_lt _ _) e2))
theorem smL_app (h : Nat) (a c : List UInt8) : smL h (a ++ c) = smL (smL h a) c := by
  unfold smL
  rw [List.foldl_append]
theorem smL_change {a c : List UInt8} {b b' : UInt8} {h : Nat} (hh : h < 4294967296) (e : smL h (a ++ b :: c) = smL h (a ++ b' :: c)) : b = b' := by
  rw [smL_app, smL_app] at e
  have hl := smL_lt a hh
  have e2 : smL (smS (smL h a) b) c = smL (smS (smL h a) b') c := e
  have := xor_back' (smS_eq hl hl (smL_inj c (smS_lt _ _) (smS_lt _ _) e2))
  exact UInt8.toNat_inj.1 this

/-- The log with another note at k. -/
def bdL (x : List Rc) (k : Nat) (n' : ByteArray) : List Rc := match x[k]? with
  | some r => x.set k ⟨r.num, n', r.su⟩
  | none => x
theorem bdL_eq {x : List Rc} {k : Nat} (hk : k < x.length) (n' : ByteArray) : bdL x k n' = x.set k ⟨x[k].num, n', x[k].su⟩ := by
  unfold bdL
  rw [List.getElem?_eq_getElem hk]
theorem bdL_len (x : List Rc) (k : Nat) (n' : ByteArray) : (bdL x k n').length = x.length := by
  unfold bdL
  split
  · rw [List.length_set]
  · rfl
theorem bd_pv {x : List Rc} {k j : Nat} (hk : k < x.length) (n' : ByteArray) (hj : j ≤ k) : pvS (bdL x k n') j = pvS x j := by
  rw [bdL_eq hk]
  unfold pvS
  cases j with
  | zero => rfl
  | succ j => rw [if_neg (by omega), if_neg (by omega), Nat.add_sub_cancel, List.getElem?_set_ne (by omega)]
theorem bad_tells {x : List Rc} (h : glB x = true) {k : Nat} (hk : k < x.length) {n' : ByteArray} (hn : ntB n' = true) (hne : smL (pvS x k) (rcT (k + 1) n').data.toList ≠ smL (pvS x k) (rcT (k + 1) x[k].note).data.toList) :
    brX (bdL x k n') = some k ∧ lgB (bdL x k n') = true := by
  have hkb : k < (bdL x k n').length := by rw [bdL_len]; exact hk
  refine ⟨brX_at hkb (fun j hj => ?_) ?_, ?_⟩
  · have h1 := gl_ok h (show j < x.length by omega)
    unfold okA at h1 ⊢
    rw [bd_pv hk n' (by omega)]
    rw [bdL_eq hk, List.getElem?_set_ne (by omega)]
    exact h1
  · rw [okA_at hkb, bd_pv hk n' (Nat.le_refl _)]
    have e : (bdL x k n')[k] = ⟨x[k].num, n', x[k].su⟩ := by
      have := bdL_eq hk n'
      simp only [this, List.getElem_set_self]
    rw [e]
    have hs := gl_same h hk
    have hsu : x[k].su = smL (pvS x k) (rcT (k + 1) x[k].note).data.toList := congrArg Rc.su hs
    unfold Rc.same
    have : (((x[k].su : Nat) : Int) == ((rcN (pvS x k) k n').su : Int)) = false := by
      rw [beq_eq_false_iff_ne]
      intro e2
      have e3 := Int.ofNat_inj.1 e2
      rw [hsu] at e3
      exact hne e3.symm
    simp only at this ⊢
    rw [this, Bool.and_false]
  · unfold lgB
    rw [bdL_len, decide_eq_true (gl_log h).1, Bool.true_and, List.all_eq_true]
    intro r hr
    rw [bdL_eq hk] at hr
    rcases List.mem_or_eq_of_mem_set hr with hr | rfl
    · exact (gl_log h).2 r hr
    · exact hn
/-- A note with another letter at i. -/
def chN (s : ByteArray) (i : Nat) (c : UInt8) : ByteArray := ⟨(s.data.toList.set i c).toArray⟩
theorem chN_size (s : ByteArray) (i : Nat) (c : UInt8) : (chN s i c).size = s.size := by
  show (s.data.toList.set i c).toArray.size = _
  rw [List.size_toArray, List.length_set]
  simp
theorem ch_good {s : ByteArray} (h : ntB s = true) (i : Nat) {c : UInt8} (hc : plB c = true) : ntB (chN s i c) = true := by
  unfold ntB at h ⊢
  simp only [Bool.and_eq_true, decide_eq_true_eq, List.all_eq_true] at h ⊢
  refine ⟨by rw [chN_size]; exact h.1, ?_⟩
  intro b hb
  have hb' : b ∈ s.data.toList.set i c := by simpa [chN] using hb
  rcases List.mem_or_eq_of_mem_set hb' with hb' | rfl
  · exact h.2 b hb'
  · exact hc
theorem ch_sum {s : ByteArray} {i : Nat} (hi : i < s.size) {c : UInt8} (hc : c ≠ s[i]) {h : Nat} (hh : h < 4294967296) (n : Nat) : smL h (rcT n (chN s i c)).data.toList ≠ smL h (rcT n s).data.toList := by
  intro e
  have hl : i < s.data.toList.length := by simpa using hi
  have e1 : (rcT n (chN s i c)).data.toList = ((numT (n : Int)).data.toList ++ 32 :: s.data.toList.take i) ++ c :: s.data.toList.drop (i + 1) := by
    simp [rcT, chN, List.set_eq_take_append_cons_drop]
    intro h
    omega
  have e2 : (rcT n s).data.toList = ((numT (n : Int)).data.toList ++ 32 :: s.data.toList.take i) ++ s.data.toList[i] :: s.data.toList.drop (i + 1) := by
    have : s.data.toList.take i ++ s.data.toList[i] :: s.data.toList.drop (i + 1) = s.data.toList := by
      rw [← List.drop_eq_getElem_cons hl, List.take_append_drop]
    simp only [rcT, ByteArray.data_append, Array.toList_append, List.append_assoc, List.cons_append, this]
    rfl
  rw [e1, e2] at e
  have := smL_change hh e
  apply hc
  rw [this]
  simp
  rfl
/-- What FnLogs asks at last. -/
theorem lgs_last {x : List Rc} (h : glB x = true) {k : Nat} (hk : k < x.length) {i : Nat} (hi : i < x[k].note.size) {c : UInt8} (hc : plB c = true) (hne : c ≠ x[k].note[i]) :
    fbN (bdL x k (chN x[k].note i c)) = k ∧ fbB (bdL x k (chN x[k].note i c)) = true ∧ glB (bdL x k (chN x[k].note i c)) = false := by
  have hsu := gl_su h
  have hpv : pvS x k < 4294967296 := by
    unfold pvS
    split
    · omega
    · split
      · rename_i r hr
        exact hsu r (List.mem_of_getElem? hr)
      · omega
  obtain ⟨h1, h2⟩ := bad_tells h hk (ch_good ((gl_log h).2 _ (List.getElem_mem hk)) i hc) (ch_sum hi hne hpv (k + 1))
  refine ⟨?_, ?_, ?_⟩
  · unfold fbN
    rw [h1, h2]
    rfl
  · unfold fbB
    rw [h1, h2]
    rfl
  · unfold glB
    rw [h1, h2]
    rfl

end Go.Proofs.YtepoamekeackkaaDoor
