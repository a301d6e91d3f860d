/-
  Chapter 3: ExtendToken as a whole, by the specification.
-/
import Derived.Test.YtecgonopefeplaaGreatDoorExtS
namespace Go.Proofs.YtecgonopefeplaaGreatDoor
open Go.RowKit Go.Shelf

theorem ret_xb {v : Value} {b c : Bool} (h : b = c) : Ending.returned (.tuple #[v, .bool b]) = .returned (.tuple #[v, .bool c]) := by rw [h]
theorem ext_fit {ks : List Lk} {k : Lk} {to : ByteArray} {se nw li : Int} (hf : ∀ k ∈ ks, k.size ≤ 1048576) (hk : k ∈ ks) (hto : to.size ≤ 1048576) : ∀ x ∈ ks ++ [ext1 k to se nw li], x.who.size ≤ 1048576 ∧ x.to.size ≤ 1048576 := by
  intro x hx
  have h1 := hf k hk
  rcases List.mem_append.1 hx with h | h
  · have := hf x h
    unfold Lk.size at this
    omega
  · rw [List.mem_singleton.1 h]
    unfold ext1
    unfold Lk.size at h1
    simp only
    omega

set_option maxHeartbeats 2000000 in
theorem specExtendToken_any (v : Value) (ks : List Lk) (to : ByteArray) (se nw li : Int) (w : World) (hm : ks.length ≤ 1048577) (hf : ∀ k ∈ ks, k.size ≤ 1048576) (hto : to.size ≤ 1048576) (hr : LkS w v ks) :
    Calls Tryz.prog 46 #[v, .string to, .int .i64 se, .int .i64 nw, .int .i64 li] w fun e w' => ∃ v', e = .returned (.tuple #[v', .bool (extB ks to se nw li)]) ∧ w'.ownsRow w.heap.size 35 5 v' (extL ks to se nw li).length ((extL ks to se nw li).flatMap Lk.cells) ∧ Below w.heap.size w w' := by
  obtain ⟨a, cap, rfl⟩ := hr.len
  cases h1 : tkB ks
  · have hno := ext_tk (ks := ks) (to := to) (se := se) (nw := nw) (li := li) h1
    have HB := hid hno
    have HX := hid (ext_no hno)
    clear hno
    go_enter Tryz.func46, Tryz.ntmps46
    go_wp2_with fail
    refine (specGoodToken_any _ ks _ hm hf hr).mono ?_
    rintro e w1 ⟨rfl, hB1⟩
    rw [h1]
    go_wp2_with fail
    go_ret2
    exact ⟨_, ret_xb HB.out.symm, by rw [HX.out]; exact World.ownsRow_nil _ _ _ _, hB1⟩
  · cases h2 : gnB (split to 47)
    · have hno := ext_to (ks := ks) (to := to) (se := se) (nw := nw) (li := li) h2
      have HB := hid hno
      have HX := hid (ext_no hno)
      clear hno
      go_enter Tryz.func46, Tryz.ntmps46
      go_wp2_with fail
      refine (specGoodToken_any _ ks _ hm hf hr).mono ?_
      rintro e w1 ⟨rfl, hB1⟩
      rw [h1]
      go_wp2_with (first | (go_at_call 54; refine (specGoodName_any to _ hto).mono ?_; rintro e w2 ⟨rfl, hB2⟩) | (go_at_call 55; refine (l3Serial_any _ _).mono ?_; rintro e wx ⟨rfl, rfl⟩) | (go_at_call 56; refine (l3Time_any _ _).mono ?_; rintro e wx ⟨rfl, rfl⟩))
      go_ret2
      exact ⟨_, ret_xb HB.out.symm, by rw [HX.out]; exact World.ownsRow_nil _ _ _ _, below_one hB1 hB2⟩
    · cases h3 : seB se
      · have hno := ext_se (ks := ks) (to := to) (se := se) (nw := nw) (li := li) h3
        have HB := hid hno
        have HX := hid (ext_no hno)
        clear hno
        go_enter Tryz.func46, Tryz.ntmps46
        go_wp2_with fail
        refine (specGoodToken_any _ ks _ hm hf hr).mono ?_
        rintro e w1 ⟨rfl, hB1⟩
        rw [h1]
        go_wp2_with (first | (go_at_call 54; refine (specGoodName_any to _ hto).mono ?_; rintro e w2 ⟨rfl, hB2⟩) | (go_at_call 55; refine (l3Serial_any _ _).mono ?_; rintro e wx ⟨rfl, rfl⟩) | (go_at_call 56; refine (l3Time_any _ _).mono ?_; rintro e wx ⟨rfl, rfl⟩))
        go_ret2
        exact ⟨_, ret_xb HB.out.symm, by rw [HX.out]; exact World.ownsRow_nil _ _ _ _, below_one hB1 hB2⟩
      · cases h4 : tmB nw
        · have hno := ext_nw (ks := ks) (to := to) (se := se) (nw := nw) (li := li) h4
          have HB := hid hno
          have HX := hid (ext_no hno)
          clear hno
          go_enter Tryz.func46, Tryz.ntmps46
          go_wp2_with fail
          refine (specGoodToken_any _ ks _ hm hf hr).mono ?_
          rintro e w1 ⟨rfl, hB1⟩
          rw [h1]
          go_wp2_with (first | (go_at_call 54; refine (specGoodName_any to _ hto).mono ?_; rintro e w2 ⟨rfl, hB2⟩) | (go_at_call 55; refine (l3Serial_any _ _).mono ?_; rintro e wx ⟨rfl, rfl⟩) | (go_at_call 56; refine (l3Time_any _ _).mono ?_; rintro e wx ⟨rfl, rfl⟩))
          go_ret2
          exact ⟨_, ret_xb HB.out.symm, by rw [HX.out]; exact World.ownsRow_nil _ _ _ _, below_one hB1 hB2⟩
        · cases h5 : tmB li
          · have hno := ext_li (ks := ks) (to := to) (se := se) (nw := nw) (li := li) h5
            have HB := hid hno
            have HX := hid (ext_no hno)
            clear hno
            go_enter Tryz.func46, Tryz.ntmps46
            go_wp2_with fail
            refine (specGoodToken_any _ ks _ hm hf hr).mono ?_
            rintro e w1 ⟨rfl, hB1⟩
            rw [h1]
            go_wp2_with (first | (go_at_call 54; refine (specGoodName_any to _ hto).mono ?_; rintro e w2 ⟨rfl, hB2⟩) | (go_at_call 55; refine (l3Serial_any _ _).mono ?_; rintro e wx ⟨rfl, rfl⟩) | (go_at_call 56; refine (l3Time_any _ _).mono ?_; rintro e wx ⟨rfl, rfl⟩))
            go_ret2
            exact ⟨_, ret_xb HB.out.symm, by rw [HX.out]; exact World.ownsRow_nil _ _ _ _, below_one hB1 hB2⟩
          · obtain ⟨m, hmm⟩ : ∃ m, m = ks.length - 1 := ⟨_, rfl⟩
            have hl := tkB_len h1
            have hml : m < ks.length := by omega
            have HA := hid (ext_at hml hmm to se nw li)
            have HY := hid (fun h => ext_yes hml hmm (to := to) (se := se) (nw := nw) (li := li) h)
            have hfit := ext_fit (se := se) (nw := nw) (li := li) hf (List.getElem_mem hml) hto
            have hE := fun W hW => l3Extend_any (.slice a ks.length cap) ks to se nw li m W hl.2 hml hmm h4 h5 hW
            have hll : (ks ++ [ext1 ks[m] to se nw li]).length ≤ 1048577 := by simp; omega
            generalize hg : ext1 ks[m] to se nw li = x at *
            clear hg hmm
            generalize ks ++ [x] = ys at *
            cases h6 : tkB ys
            · have hno : extB ks to se nw li = false := by rw [HA.out, h1, h4, h5, h6]; rfl
              have HB := hid hno
              have HX := hid (ext_no hno)
              clear hno
              go_enter Tryz.func46, Tryz.ntmps46
              go_wp2_with fail
              refine (specGoodToken_any _ ks _ hm hf hr).mono ?_
              rintro e w1 ⟨rfl, hB1⟩
              rw [h1]
              go_wp2_with (first | (go_at_call 54; refine (specGoodName_any to _ hto).mono ?_; rintro e w2 ⟨rfl, hB2⟩) | (go_at_call 55; refine (l3Serial_any _ _).mono ?_; rintro e wx ⟨rfl, rfl⟩) | (go_at_call 56; refine (l3Time_any _ _).mono ?_; rintro e wx ⟨rfl, rfl⟩))
              have hB12 := below_one hB1 hB2
              refine (hE _ (hr.below hB12)).mono ?_
              rintro e w3 ⟨v3, rfl, hrow, hB3'⟩
              have hB3 := below_one hB12 hB3'
              have hz12 := hB12.size
              obtain ⟨a3, cap3, rfl⟩ := ownsRow_len hrow
              go_wp2_with fail
              refine (specGoodToken_fit _ ys _ hll hfit (LkS.own hrow)).mono ?_
              rintro e w4 ⟨rfl, hB4⟩
              rw [h6]
              go_wp2_with fail
              go_ret2
              exact ⟨_, ret_xb HB.out.symm, by rw [HX.out]; exact World.ownsRow_nil _ _ _ _, below_one hB3 hB4⟩
            · have hy : extB ks to se nw li = true := by rw [HA.out, h1, h4, h5, h6]; rfl
              have HB := hid hy
              have HX := hid (HY.out hy)
              clear hy
              go_enter Tryz.func46, Tryz.ntmps46
              go_wp2_with fail
              refine (specGoodToken_any _ ks _ hm hf hr).mono ?_
              rintro e w1 ⟨rfl, hB1⟩
              rw [h1]
              go_wp2_with (first | (go_at_call 54; refine (specGoodName_any to _ hto).mono ?_; rintro e w2 ⟨rfl, hB2⟩) | (go_at_call 55; refine (l3Serial_any _ _).mono ?_; rintro e wx ⟨rfl, rfl⟩) | (go_at_call 56; refine (l3Time_any _ _).mono ?_; rintro e wx ⟨rfl, rfl⟩))
              have hB12 := below_one hB1 hB2
              refine (hE _ (hr.below hB12)).mono ?_
              rintro e w3 ⟨v3, rfl, hrow, hB3'⟩
              have hB3 := below_one hB12 hB3'
              have hz12 := hB12.size
              obtain ⟨a3, cap3, rfl⟩ := ownsRow_len hrow
              go_wp2_with fail
              refine (specGoodToken_fit _ ys _ hll hfit (LkS.own hrow)).mono ?_
              rintro e w4 ⟨rfl, hB4⟩
              rw [h6]
              go_wp2_with fail
              go_ret2
              exact ⟨_, ret_xb HB.out.symm, by rw [HX.out]; exact Go.Joins.ownsRow_le (ownsRow_below hrow hB4) hz12, below_one hB3 hB4⟩

end Go.Proofs.YtecgonopefeplaaGreatDoor
