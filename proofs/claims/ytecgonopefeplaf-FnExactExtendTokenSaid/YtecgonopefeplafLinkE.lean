/-
  Links and lists of links held against each other by the laws.
-/
import Derived.Test.YtecgonopefeplafLinkV
namespace Go.Proofs.Ytecgonopefeplaf
open Go.RowKit Go.Shelf

def Lk.same (r s : Lk) : Bool := (((((r.who.toList == s.who.toList) && (r.to.toList == s.to.toList)) && (r.se == s.se)) && (r.fr == s.fr)) && (r.un == s.un))
theorem Lk.same_refl (r : Lk) : r.same r = true := by simp [Lk.same]
theorem Lk.same_eq {r s : Lk} (h : r.same s = true) : r = s := by
  unfold Lk.same at h
  simp only [Bool.and_eq_true, beq_iff_eq, toList_data] at h
  obtain ⟨⟨⟨⟨h1, h2⟩, h3⟩, h4⟩, h5⟩ := h
  obtain ⟨a, b, c, d, e⟩ := r
  obtain ⟨a', b', c', d', e'⟩ := s
  simp only at h1 h2 h3 h4 h5
  rw [bytes_same h1, bytes_same h2, h3, h4, h5]

set_option maxHeartbeats 1000000 in
theorem eqLink_any (r s : Lk) (w : World) :
    Calls Try.prog 34 #[r.val, s.val] w fun e w' => e = .returned (.bool (r.same s)) ∧ Below w.heap.size w w' := by
  cases b0 : (r.who.toList == s.who.toList)
  · have e0 : (r.who.toList == s.who.toList) = false := b0
    have HR := hid (show r.same s = false by unfold Lk.same; rw [b0]; rfl)
    clear b0
    go_enter Try.func34, Try.ntmps34
    go_wp2
    go_ret
    exact ⟨ret_bool HR.out.symm, ((Below.refl _ w).alloc (Nat.le_refl _) _).alloc (by simp) _⟩
  · have e0 : (r.who.toList == s.who.toList) = true := b0
    cases b1 : (r.to.toList == s.to.toList)
    · have e1 : (r.to.toList == s.to.toList) = false := b1
      have HR := hid (show r.same s = false by unfold Lk.same; rw [b0, b1]; rfl)
      clear b0 b1
      go_enter Try.func34, Try.ntmps34
      go_wp2
      go_ret
      exact ⟨ret_bool HR.out.symm, ((Below.refl _ w).alloc (Nat.le_refl _) _).alloc (by simp) _⟩
    · have e1 : (r.to.toList == s.to.toList) = true := b1
      cases b2 : (r.se == s.se)
      · have e2 : (r.se != s.se) = true := by rw [bne, b2]; rfl
        have HR := hid (show r.same s = false by unfold Lk.same; rw [b0, b1, b2]; rfl)
        clear b0 b1 b2
        go_enter Try.func34, Try.ntmps34
        go_wp2
        go_ret
        exact ⟨ret_bool HR.out.symm, ((Below.refl _ w).alloc (Nat.le_refl _) _).alloc (by simp) _⟩
      · have e2 : (r.se != s.se) = false := by rw [bne, b2]; rfl
        cases b3 : (r.fr == s.fr)
        · have e3 : (r.fr != s.fr) = true := by rw [bne, b3]; rfl
          have HR := hid (show r.same s = false by unfold Lk.same; rw [b0, b1, b2, b3]; rfl)
          clear b0 b1 b2 b3
          go_enter Try.func34, Try.ntmps34
          go_wp2
          go_ret
          exact ⟨ret_bool HR.out.symm, ((Below.refl _ w).alloc (Nat.le_refl _) _).alloc (by simp) _⟩
        · have e3 : (r.fr != s.fr) = false := by rw [bne, b3]; rfl
          cases b4 : (r.un == s.un)
          · have e4 : (r.un != s.un) = true := by rw [bne, b4]; rfl
            have HR := hid (show r.same s = false by unfold Lk.same; rw [b0, b1, b2, b3, b4]; rfl)
            clear b0 b1 b2 b3 b4
            go_enter Try.func34, Try.ntmps34
            go_wp2
            go_ret
            exact ⟨ret_bool HR.out.symm, ((Below.refl _ w).alloc (Nat.le_refl _) _).alloc (by simp) _⟩
          · have e4 : (r.un != s.un) = false := by rw [bne, b4]; rfl
            have HR := hid (show r.same s = true by unfold Lk.same; rw [b0, b1, b2, b3, b4]; rfl)
            clear b0 b1 b2 b3 b4
            go_enter Try.func34, Try.ntmps34
            go_wp2
            go_ret
            exact ⟨ret_bool HR.out.symm, ((Below.refl _ w).alloc (Nat.le_refl _) _).alloc (by simp) _⟩

def lsTo (rs ss : List Lk) (k : Nat) : Bool := ((rs.zip ss).take k).all (fun q => q.1.same q.2)
def lsS (rs ss : List Lk) : Bool := decide (rs.length = ss.length) && (rs.zip ss).all (fun q => q.1.same q.2)
theorem lsTo_zero (rs ss : List Lk) : lsTo rs ss 0 = true := by simp [lsTo]
theorem lsTo_succ {rs ss : List Lk} {k : Nat} (h : k < rs.length) (h' : k < ss.length) : lsTo rs ss (k + 1) = (lsTo rs ss k && rs[k].same ss[k]) := by
  unfold lsTo
  rw [List.take_succ_eq_append_getElem (by rw [List.length_zip]; omega), List.all_append]
  simp
theorem ls_bad {rs ss : List Lk} {k : Nat} (hb : lsTo rs ss (k + 1) = false) : lsS rs ss = false := by
  unfold lsTo at hb
  rw [List.all_eq_false] at hb
  obtain ⟨x, hx, hn⟩ := hb
  unfold lsS
  rw [Bool.and_eq_false_iff]
  exact .inr (List.all_eq_false.2 ⟨x, List.mem_of_mem_take hx, hn⟩)
theorem ls_end {rs ss : List Lk} (h : rs.length = ss.length) : lsTo rs ss rs.length = lsS rs ss := by
  unfold lsTo lsS
  rw [List.take_of_length_le (by rw [List.length_zip]; omega), decide_eq_true h, Bool.true_and]
theorem lsS_refl (rs : List Lk) : lsS rs rs = true := by
  unfold lsS
  rw [decide_eq_true rfl, Bool.true_and, List.all_eq_true]
  intro x hx
  obtain ⟨i, hi, he⟩ := List.getElem_of_mem hx
  rw [List.getElem_zip] at he
  rw [← he]
  exact Lk.same_refl _

set_option maxHeartbeats 2000000 in
theorem eqLinkS_any (v v' : Value) (rs ss : List Lk) (w : World) (_hm : rs.length ≤ 1048577) (hm' : ss.length ≤ 1048577) (hr : LkS w v rs) (hr' : LkS w v' ss) :
    Calls Try.prog 15 #[v, v'] w fun e w' => e = .returned (.bool (lsS rs ss)) ∧ Below w.heap.size w w' := by
  obtain ⟨a, cap, rfl⟩ := hr.len
  obtain ⟨a', cap', rfl⟩ := hr'.len
  by_cases hl : rs.length = ss.length
  · have e0 : ((rs.length : Int) != (ss.length : Int)) = false := by simp; omega
    have hl1 : rs.length ≤ ss.length := by omega
    have HL := hid hl
    clear hl
    go_enter Try.func15, Try.ntmps15
    go_wp2
    go_loopw [5] (fun i wr => ∃ k : Nat, k ≤ rs.length ∧ i = .int .i64 k ∧ lsTo rs ss k = true ∧ Below w.heap.size w wr) (fun i _ => rs.length - (intOf i).toNat)
    case atStart => exact ⟨0, Nat.zero_le _, rfl, lsTo_zero _ _, Below.refl _ _⟩
    case round =>
      obtain ⟨k, hk, rfl, hs, hB⟩ := hrel
      have HS := hid hs
      clear hs
      by_cases hlt : k < rs.length
      · have hlt' : k < ss.length := by omega
        obtain ⟨b, off, rfl, hb, hcap, q0, q1, q2, q3, q4⟩ := (hr.below hB).at hlt
        obtain ⟨b', off', rfl, hb', hcap', p0, p1, p2, p3, p4⟩ := (hr'.below hB).at hlt'
        have HT := hid (lsTo_succ hlt hlt')
        generalize rs[k] = r at *
        generalize ss[k] = s at *
        cases hq : r.same s
        · have HR := hid (show lsS rs ss = false from ls_bad (by rw [HT.out, hq, Bool.and_false]))
          go_wp2_with fail
          go_region_with (go_at_call 34; refine (eqLink_any r s _).mono ?_; rintro e w1 ⟨rfl, hB1⟩)
          all_goals go_wp2
          all_goals go_ret
          all_goals exact ⟨ret_bool HR.out.symm, below_one hB (below_drew1 hB1)⟩
        · have HR := hid (show lsTo rs ss (k + 1) = true by rw [HT.out, HS.out, hq]; rfl)
          go_wp2_with fail
          go_region_with (go_at_call 34; refine (eqLink_any r s _).mono ?_; rintro e w1 ⟨rfl, hB1⟩)
          all_goals go_wp2
          all_goals go_roundw
          all_goals first
            | exact ⟨k + 1, by omega, by go_num, HR.out, below_one hB (below_drew1 hB1)⟩
            | (simp [intOf]; omega)
      · obtain rfl : k = rs.length := by omega
        have HR := hid (show lsS rs ss = true by rw [← ls_end HL.out]; exact HS.out)
        go_wp2
        go_ret
        exact ⟨ret_bool HR.out.symm, hB⟩
  · have e0 : ((rs.length : Int) != (ss.length : Int)) = true := by simp; omega
    have HR := hid (show lsS rs ss = false by unfold lsS; rw [decide_eq_false hl]; rfl)
    clear hl
    go_enter Try.func15, Try.ntmps15
    go_wp2
    go_ret
    exact ⟨ret_bool HR.out.symm, Below.refl _ _⟩

end Go.Proofs.Ytecgonopefeplaf
