/-
  The library's table of powers of ten, and strconv.Itoa under it.
-/
import Derived.Deep.RegionHeld3
import Derived.Test.YtnbojbcljfiamaaGreatDoorJDecideAsk4
import Derived.Laws.FloatArith
import Derived.Test.YtnbojbcljfiamaaGreatDoorJDecideAsk0
import Derived.Test.YtnbojbcljfiamaaGreatDoorJDecideAsk2
import Derived.Lib.ItoaNum
import Derived.Lib.Builder
import Derived.Shelf.Strings.Builder1
import Derived.Test.YtnbojbcljfiamaaGreatDoorJDecideAsk1
import Derived.Test.YtnbojbcljfiamaaGreatDoorJDecideAsk3
import Derived.Lib.AppendIntMem
import Derived.Shelf.Strconv.Itoa3
namespace Go.Proofs.YtnbojbcljfiamaaGreatDoor
open Go.RowKit Go.Shelf

/-- The rule at k is of this kind and speaks of the call. -/
def hitAt (rs : List Ru) (c : Ca) (d : Bool) (k : Nat) : Bool := match rs[k]? with
  | some r => (r.deny == d) && spkB r c
  | none => false
theorem hitAt_lt {rs : List Ru} {c : Ca} {d : Bool} {k : Nat} (h : k < rs.length) : hitAt rs c d k = ((rs[k].deny == d) && spkB rs[k] c) := by
  unfold hitAt
  rw [List.getElem?_eq_getElem h]
def noTo (rs : List Ru) (c : Ca) (d : Bool) (of : List Nat) (m : Nat) : Bool := (of.take m).all (fun k => !hitAt rs c d k)
theorem noTo_zero (rs : List Ru) (c : Ca) (d : Bool) (of : List Nat) : noTo rs c d of 0 = true := by simp [noTo]
theorem noTo_succ {rs : List Ru} {c : Ca} {d : Bool} {of : List Nat} {m : Nat} (h : m < of.length) : noTo rs c d of (m + 1) = (noTo rs c d of m && !hitAt rs c d of[m]) := by
  unfold noTo
  rw [List.take_succ_eq_append_getElem h, List.all_append]
  simp
theorem find_at {rs : List Ru} {c : Ca} {d : Bool} {of : List Nat} {k : Nat} (h : k < of.length) (hn : noTo rs c d of k = true) (hh : hitAt rs c d of[k] = true) : of.find? (hitAt rs c d) = some of[k] := by
  unfold noTo at hn
  have e : of = of.take k ++ of[k] :: of.drop (k + 1) := by rw [← List.drop_eq_getElem_cons h, List.take_append_drop]
  have hf : (of.take k).find? (hitAt rs c d) = none := by
    rw [List.find?_eq_none]
    intro x hx
    have := List.all_eq_true.1 hn x hx
    simpa using this
  conv => lhs; rw [e]
  rw [List.find?_append, hf, Option.none_or, List.find?_cons, hh]
theorem find_none {rs : List Ru} {c : Ca} {d : Bool} {of : List Nat} (hn : noTo rs c d of of.length = true) : of.find? (hitAt rs c d) = none := by
  unfold noTo at hn
  rw [List.take_length] at hn
  rw [List.find?_eq_none]
  intro x hx
  have := List.all_eq_true.1 hn x hx
  simpa using this
/-- What is decided, among the rules of some numbers: the code and the place. -/
def decC (rs : List Ru) (c : Ca) (of : List Nat) : Int := match of.find? (hitAt rs c true) with
  | some _ => 2
  | none => match of.find? (hitAt rs c false) with
    | some _ => 1
    | none => 3
def decK (rs : List Ru) (c : Ca) (of : List Nat) : Int := match of.find? (hitAt rs c true) with
  | some k => k
  | none => match of.find? (hitAt rs c false) with
    | some k => k
    | none => -1
theorem dec_deny {rs : List Ru} {c : Ca} {of : List Nat} {k : Nat} (h : of.find? (hitAt rs c true) = some k) : (2 : Int) = decC rs c of ∧ (k : Int) = decK rs c of := by
  unfold decC decK
  rw [h]
  exact ⟨rfl, rfl⟩
theorem dec_allow {rs : List Ru} {c : Ca} {of : List Nat} {k : Nat} (h0 : of.find? (hitAt rs c true) = none) (h : of.find? (hitAt rs c false) = some k) : (1 : Int) = decC rs c of ∧ (k : Int) = decK rs c of := by
  unfold decC decK
  rw [h0, h]
  exact ⟨rfl, rfl⟩
theorem dec_none {rs : List Ru} {c : Ca} {of : List Nat} (h0 : of.find? (hitAt rs c true) = none) (h : of.find? (hitAt rs c false) = none) : (3 : Int) = decC rs c of ∧ (-1 : Int) = decK rs c of := by
  unfold decC decK
  rw [h0, h]
  exact ⟨rfl, rfl⟩
theorem ret_ints {a b c d : Int} (h : a = b ∧ c = d) : Ending.returned (.tuple #[.int .i64 a, .int .i64 c]) = .returned (.tuple #[.int .i64 b, .int .i64 d]) := by rw [h.1, h.2]
theorem int_cell {w : World} {base g cap : Nat} {of : List Nat} (hrow : w.ownsRow base 3 1 (.slice (some ⟨g, 0, none⟩) of.length cap) of.length (ints of)) {m : Nat} (h : m < of.length) : w.cell? ⟨g, m, none⟩ = some (.int .i64 (of[m] : Int)) := by
  rw [hrow.cellAt m (by omega)]
  simp [ints, h]

set_option maxHeartbeats 2000000 in
theorem l2Decide_any (v vo : Value) (rs : List Ru) (of : List Nat) (c : Ca) (base : Nat) (w : World) (_hm : rs.length ≤ 1048577) (hmo : of.length ≤ 1048577) (hfz : ∀ r ∈ rs, r.size ≤ 1048576) (hc : c.size ≤ 1048576) (hgood : ∀ r ∈ rs, nmB (split r.who 47) = true) (hcn : nmB (split c.who 47) = true) (hof : ∀ k ∈ of, k < rs.length) (hr : RuS w v rs) (hro : w.ownsRow base 3 1 vo of.length (ints of)) :
    Calls Tryz.prog 106 #[v, vo, c.val] w fun e w' => e = .returned (.tuple #[.int .i64 (decC rs c of), .int .i64 (decK rs c of)]) ∧ Below w.heap.size w w' := by
  obtain ⟨a, cap, rfl⟩ := hr.len
  obtain ⟨ao, capo, rfl⟩ := ownsRow_len hro
  go_enter Tryz.func106, Tryz.ntmps106
  go_wp2
  have hW0 : Below w.heap.size w ((w.alloc (.cells #[.string c.who, .string c.method, .string c.path] 130)).alloc (.cells #[.bool true, .bool false] 4)) := ((Below.refl _ w).alloc (Nat.le_refl _) _).alloc (by simp) _
  have b0 : ((w.alloc (.cells #[.string c.who, .string c.method, .string c.path] 130)).alloc (.cells #[.bool true, .bool false] 4)).cell? ⟨w.heap.size, 0, none⟩ = some (.string c.who) := by simp
  have b1 : ((w.alloc (.cells #[.string c.who, .string c.method, .string c.path] 130)).alloc (.cells #[.bool true, .bool false] 4)).cell? ⟨w.heap.size, 1, none⟩ = some (.string c.method) := by simp
  have b2 : ((w.alloc (.cells #[.string c.who, .string c.method, .string c.path] 130)).alloc (.cells #[.bool true, .bool false] 4)).cell? ⟨w.heap.size, 2, none⟩ = some (.string c.path) := by simp
  have t0 : ((w.alloc (.cells #[.string c.who, .string c.method, .string c.path] 130)).alloc (.cells #[.bool true, .bool false] 4)).cell? ⟨w.heap.size + 1, 0, none⟩ = some (.bool true) := by simp
  have t1 : ((w.alloc (.cells #[.string c.who, .string c.method, .string c.path] 130)).alloc (.cells #[.bool true, .bool false] 4)).cell? ⟨w.heap.size + 1, 1, none⟩ = some (.bool false) := by simp
  have hW0s : ((w.alloc (.cells #[.string c.who, .string c.method, .string c.path] 130)).alloc (.cells #[.bool true, .bool false] 4)).heap.size = w.heap.size + 1 + 1 := by simp
  have hr0 := hr.below hW0
  have hrow0 := ownsRow_below hro hW0
  generalize (w.alloc (.cells #[.string c.who, .string c.method, .string c.path] 130)).alloc (.cells #[.bool true, .bool false] 4) = W0 at *
  have HW0s := hid hW0s
  clear hW0s hr hro
  go_loopw [14] (fun i wr => ∃ j : Nat, j ≤ 2 ∧ i = .int .i64 j ∧ (1 ≤ j → noTo rs c true of of.length = true) ∧ (2 ≤ j → noTo rs c false of of.length = true) ∧ Below W0.heap.size W0 wr) (fun i _ => 2 - (intOf i).toNat)
  case atStart => exact ⟨0, by omega, rfl, fun h => by omega, fun h => by omega, Below.refl _ _⟩
  case round =>
    obtain ⟨j, hj, rfl, hn1, hn2, hB⟩ := hrel
    have y0 := (hB.cell (p := ⟨w.heap.size + 1, 0, none⟩) (by rw [HW0s.out]; simp)).trans t0
    have y1 := (hB.cell (p := ⟨w.heap.size + 1, 1, none⟩) (by rw [HW0s.out]; simp)).trans t1
    have HN1 := hid hn1
    have HN2 := hid hn2
    clear hn1 hn2
    by_cases j0 : j = 0
    · subst j0
      go_wp2
      go_loopw [20] (fun i wr => ∃ m : Nat, m ≤ of.length ∧ i = .int .i64 m ∧ noTo rs c true of m = true ∧ Below W0.heap.size W0 wr) (fun i _ => of.length - (intOf i).toNat)
      case atStart => exact ⟨0, Nat.zero_le _, rfl, noTo_zero _ _ _ _, hB⟩
      case round =>
        obtain ⟨m, hm1, rfl, hno, hB⟩ := hrel
        have HN := hid hno
        clear hno
        by_cases hlt : m < of.length
        · have hkk := hof of[m] (List.getElem_mem hlt)
          obtain ⟨go, rfl⟩ := row_some hrow0 hlt
          have ho := (hB.cell (p := ⟨go, m, none⟩) (cell_lt (int_cell hrow0 hlt))).trans (int_cell hrow0 hlt)
          have HS := hid (noTo_succ (rs := rs) (c := c) (d := true) hlt)
          have HF := hid (fun h => find_at (rs := rs) (c := c) (d := true) (k := m) hlt HN.out h)
          generalize of[m] = kk at *
          obtain ⟨b, off, rfl, hb, hcap, q0, q1, q2, q3⟩ := (hr0.below hB).at hkk
          have HK := hid (hitAt_lt (c := c) (d := true) hkk)
          have hz := hfz rs[kk] (List.getElem_mem hkk)
          have hn := hgood rs[kk] (List.getElem_mem hkk)
          generalize rs[kk] = r at *
          have x0 := (hB.cell (p := ⟨w.heap.size, 0, none⟩) (by rw [HW0s.out]; simp; omega)).trans b0
          have x1 := (hB.cell (p := ⟨w.heap.size, 1, none⟩) (by rw [HW0s.out]; simp; omega)).trans b1
          have x2 := (hB.cell (p := ⟨w.heap.size, 2, none⟩) (by rw [HW0s.out]; simp; omega)).trans b2
          obtain ⟨dd, wh, me, pa⟩ := r
          dsimp only at q0 q1 q2 q3 hn
          have hzz : w.heap.size < wr.heap.size := by have := hB.size; have := HW0s.out; omega
          cases dd
          ·
            have HR := hid (show noTo rs c true of (m + 1) = true by rw [HS.out, HN.out, HK.out]; rfl)
            go_wp2_with fail
            go_quiet (fail)
            go_wp2
            go_roundw
            case rel => first | exact ⟨m + 1, by omega, by go_num, HR.out, below_drewN hB _⟩ | ((repeat apply Exists.intro); exact ⟨⟨m + 1, by omega, by go_num, HR.out, below_drewN hB _⟩, rfl⟩)
            case measure => simp [intOf]; omega
          ·
            cases hs : spkB ⟨true, wh, me, pa⟩ c
            · have HR := hid (show noTo rs c true of (m + 1) = true by rw [HS.out, HN.out, HK.out, hs]; rfl)
              go_wp2_with fail
              go_region_held3 (fun w' => w'.cell? ⟨b, off + kk * 4, none⟩ = some (.bool true) ∧ w'.cell? ⟨b, off + kk * 4 + 1, none⟩ = some (.string wh) ∧ w'.cell? ⟨b, off + kk * 4 + 2, none⟩ = some (.string me) ∧ w'.cell? ⟨b, off + kk * 4 + 3, none⟩ = some (.string pa) ∧ w'.cell? ⟨w.heap.size, 0, none⟩ = some (.string c.who) ∧ w'.cell? ⟨w.heap.size, 1, none⟩ = some (.string c.method) ∧ w'.cell? ⟨w.heap.size, 2, none⟩ = some (.string c.path)) (go_keep) (first | (go_at_call 136; refine (l2Speaks_any ⟨true, wh, me, pa⟩ c _ hz hc hn hcn).mono ?_; rintro e w1 ⟨rfl, hB1⟩; have hcb := fun o => hB1.cell (p := ⟨b, o, none⟩) hb; have hcw := fun o => hB1.cell (p := ⟨w.heap.size, o, none⟩) hzz))
              all_goals clear hcb hcw
              all_goals go_wp2
              all_goals go_roundw
              all_goals first
                | exact ⟨m + 1, by omega, by go_num, HR.out, below_one hB (below_drew1 hB1)⟩
                | ((repeat apply Exists.intro); exact ⟨⟨m + 1, by omega, by go_num, HR.out, below_one hB (below_drew1 hB1)⟩, rfl⟩)
                | (simp [intOf]; omega)
            · have HR := hid (HF.out (by rw [HK.out, hs]; rfl))
              go_wp2_with fail
              go_region_held3 (fun w' => w'.cell? ⟨b, off + kk * 4, none⟩ = some (.bool true) ∧ w'.cell? ⟨b, off + kk * 4 + 1, none⟩ = some (.string wh) ∧ w'.cell? ⟨b, off + kk * 4 + 2, none⟩ = some (.string me) ∧ w'.cell? ⟨b, off + kk * 4 + 3, none⟩ = some (.string pa) ∧ w'.cell? ⟨w.heap.size, 0, none⟩ = some (.string c.who) ∧ w'.cell? ⟨w.heap.size, 1, none⟩ = some (.string c.method) ∧ w'.cell? ⟨w.heap.size, 2, none⟩ = some (.string c.path)) (go_keep) (first | (go_at_call 136; refine (l2Speaks_any ⟨true, wh, me, pa⟩ c _ hz hc hn hcn).mono ?_; rintro e w1 ⟨rfl, hB1⟩; have hcb := fun o => hB1.cell (p := ⟨b, o, none⟩) hb; have hcw := fun o => hB1.cell (p := ⟨w.heap.size, o, none⟩) hzz))
              all_goals clear hcb hcw
              all_goals go_wp2
              all_goals go_ret2
              all_goals exact ⟨ret_ints (dec_deny HR.out), below_one hW0 (below_one hB (below_drew1 hB1))⟩
        · obtain rfl : m = of.length := by omega
          have HD := hid HN.out
          go_wp2
          go_roundw
          case rel => exact ⟨1, by omega, rfl, fun _ => HD.out, fun h => by omega, hB⟩
          case measure => simp [intOf]
    · by_cases j1 : j = 1
      · subst j1
        have HO := hid (HN1.out (by omega))
        have HD := hid (find_none HO.out)
        go_wp2
        go_loopw [20] (fun i wr => ∃ m : Nat, m ≤ of.length ∧ i = .int .i64 m ∧ noTo rs c false of m = true ∧ Below W0.heap.size W0 wr) (fun i _ => of.length - (intOf i).toNat)
        case atStart => exact ⟨0, Nat.zero_le _, rfl, noTo_zero _ _ _ _, hB⟩
        case round =>
          obtain ⟨m, hm1, rfl, hno, hB⟩ := hrel
          have HN := hid hno
          clear hno
          by_cases hlt : m < of.length
          · have hkk := hof of[m] (List.getElem_mem hlt)
            obtain ⟨go, rfl⟩ := row_some hrow0 hlt
            have ho := (hB.cell (p := ⟨go, m, none⟩) (cell_lt (int_cell hrow0 hlt))).trans (int_cell hrow0 hlt)
            have HS := hid (noTo_succ (rs := rs) (c := c) (d := false) hlt)
            have HF := hid (fun h => find_at (rs := rs) (c := c) (d := false) (k := m) hlt HN.out h)
            generalize of[m] = kk at *
            obtain ⟨b, off, rfl, hb, hcap, q0, q1, q2, q3⟩ := (hr0.below hB).at hkk
            have HK := hid (hitAt_lt (c := c) (d := false) hkk)
            have hz := hfz rs[kk] (List.getElem_mem hkk)
            have hn := hgood rs[kk] (List.getElem_mem hkk)
            generalize rs[kk] = r at *
            have x0 := (hB.cell (p := ⟨w.heap.size, 0, none⟩) (by rw [HW0s.out]; simp; omega)).trans b0
            have x1 := (hB.cell (p := ⟨w.heap.size, 1, none⟩) (by rw [HW0s.out]; simp; omega)).trans b1
            have x2 := (hB.cell (p := ⟨w.heap.size, 2, none⟩) (by rw [HW0s.out]; simp; omega)).trans b2
            obtain ⟨dd, wh, me, pa⟩ := r
            dsimp only at q0 q1 q2 q3 hn
            have hzz : w.heap.size < wr.heap.size := by have := hB.size; have := HW0s.out; omega
            cases dd
            ·
              cases hs : spkB ⟨false, wh, me, pa⟩ c
              · have HR := hid (show noTo rs c false of (m + 1) = true by rw [HS.out, HN.out, HK.out, hs]; rfl)
                go_wp2_with fail
                go_region_held3 (fun w' => w'.cell? ⟨b, off + kk * 4, none⟩ = some (.bool false) ∧ w'.cell? ⟨b, off + kk * 4 + 1, none⟩ = some (.string wh) ∧ w'.cell? ⟨b, off + kk * 4 + 2, none⟩ = some (.string me) ∧ w'.cell? ⟨b, off + kk * 4 + 3, none⟩ = some (.string pa) ∧ w'.cell? ⟨w.heap.size, 0, none⟩ = some (.string c.who) ∧ w'.cell? ⟨w.heap.size, 1, none⟩ = some (.string c.method) ∧ w'.cell? ⟨w.heap.size, 2, none⟩ = some (.string c.path)) (go_keep) (first | (go_at_call 136; refine (l2Speaks_any ⟨false, wh, me, pa⟩ c _ hz hc hn hcn).mono ?_; rintro e w1 ⟨rfl, hB1⟩; have hcb := fun o => hB1.cell (p := ⟨b, o, none⟩) hb; have hcw := fun o => hB1.cell (p := ⟨w.heap.size, o, none⟩) hzz))
                all_goals clear hcb hcw
                all_goals go_wp2
                all_goals go_roundw
                all_goals first
                  | exact ⟨m + 1, by omega, by go_num, HR.out, below_one hB (below_drew1 hB1)⟩
                  | ((repeat apply Exists.intro); exact ⟨⟨m + 1, by omega, by go_num, HR.out, below_one hB (below_drew1 hB1)⟩, rfl⟩)
                  | (simp [intOf]; omega)
              · have HR := hid (HF.out (by rw [HK.out, hs]; rfl))
                go_wp2_with fail
                go_region_held3 (fun w' => w'.cell? ⟨b, off + kk * 4, none⟩ = some (.bool false) ∧ w'.cell? ⟨b, off + kk * 4 + 1, none⟩ = some (.string wh) ∧ w'.cell? ⟨b, off + kk * 4 + 2, none⟩ = some (.string me) ∧ w'.cell? ⟨b, off + kk * 4 + 3, none⟩ = some (.string pa) ∧ w'.cell? ⟨w.heap.size, 0, none⟩ = some (.string c.who) ∧ w'.cell? ⟨w.heap.size, 1, none⟩ = some (.string c.method) ∧ w'.cell? ⟨w.heap.size, 2, none⟩ = some (.string c.path)) (go_keep) (first | (go_at_call 136; refine (l2Speaks_any ⟨false, wh, me, pa⟩ c _ hz hc hn hcn).mono ?_; rintro e w1 ⟨rfl, hB1⟩; have hcb := fun o => hB1.cell (p := ⟨b, o, none⟩) hb; have hcw := fun o => hB1.cell (p := ⟨w.heap.size, o, none⟩) hzz))
                all_goals clear hcb hcw
                all_goals go_wp2
                all_goals go_ret2
                all_goals exact ⟨ret_ints (dec_allow HD.out HR.out), below_one hW0 (below_one hB (below_drew1 hB1))⟩
            ·
              have HR := hid (show noTo rs c false of (m + 1) = true by rw [HS.out, HN.out, HK.out]; rfl)
              go_wp2_with fail
              go_quiet (fail)
              go_wp2
              go_roundw
              case rel => first | exact ⟨m + 1, by omega, by go_num, HR.out, below_drewN hB _⟩ | ((repeat apply Exists.intro); exact ⟨⟨m + 1, by omega, by go_num, HR.out, below_drewN hB _⟩, rfl⟩)
              case measure => simp [intOf]; omega
          · obtain rfl : m = of.length := by omega
            have HD2 := hid HN.out
            go_wp2
            go_roundw
            case rel => exact ⟨2, by omega, rfl, fun _ => HO.out, fun _ => HD2.out, hB⟩
            case measure => simp [intOf]
      · obtain rfl : j = 2 := by omega
        have HO := hid (HN1.out (by omega))
        have HQ := hid (HN2.out (by omega))
        go_wp2
        go_ret2
        exact ⟨ret_ints (dec_none (find_none HO.out) (find_none HQ.out)), below_one hW0 hB⟩

end Go.Proofs.YtnbojbcljfiamaaGreatDoor

namespace Go.Proofs.YtnbojbcljfiamaaGreatDoor
open Go.RowKit Go.Shelf

theorem range_len {W : World} {base : Nat} {e : TypeId} {size n : Nat} {v : Value} {xs : List Value} (h : W.ownsRow base e size v (List.range n).length xs) : ∃ a cap, v = .slice a n cap := by
  obtain ⟨a, cap, hv⟩ := ownsRow_len h
  rw [List.length_range] at hv
  exact ⟨a, cap, hv⟩
theorem pol_nm {rs : List Ru} (h : polB rs = true) : ∀ r ∈ rs, nmB (split r.who 47) = true := by
  unfold polB at h
  rw [Bool.and_eq_true, List.all_eq_true] at h
  intro r hr
  have := h.1 r hr
  unfold Ru.good at this
  simp only [Bool.and_eq_true] at this
  exact this.1.1
theorem call_nm {c : Ca} (h : c.good = true) : nmB (split c.who 47) = true := by
  unfold Ca.good at h
  simp only [Bool.and_eq_true] at h
  exact gn_nm h.1.1
/-- A policy and a good call. -/
def dOk (rs : List Ru) (c : Ca) : Bool := polB rs && c.good
def dC (rs : List Ru) (c : Ca) (of : List Nat) : Int := if dOk rs c = true then decC rs c of else 0
def dK (rs : List Ru) (c : Ca) (of : List Nat) : Int := if dOk rs c = true then decK rs c of else 0
theorem d_no {rs : List Ru} {c : Ca} (of : List Nat) (h : dOk rs c = false) : dC rs c of = 0 ∧ dK rs c of = 0 := ⟨if_neg (by rw [h]; exact Bool.false_ne_true), if_neg (by rw [h]; exact Bool.false_ne_true)⟩
theorem d_yes {rs : List Ru} {c : Ca} (of : List Nat) (h : dOk rs c = true) : dC rs c of = decC rs c of ∧ dK rs c of = decK rs c of := ⟨if_pos h, if_pos h⟩
theorem ret_dec {a b c d : Int} {x y : Bool} (h : a = b) (h' : c = d) (h2 : x = y) : Ending.returned (.tuple #[.int .i64 a, .int .i64 c, .bool x]) = .returned (.tuple #[.int .i64 b, .int .i64 d, .bool y]) := by rw [h, h', h2]

set_option maxHeartbeats 1000000 in
theorem specDecideCall_any (v : Value) (rs : List Ru) (c : Ca) (w : World) (hm : rs.length ≤ 1048577) (hfz : ∀ r ∈ rs, r.size ≤ 1048576) (hc : c.size ≤ 1048576) (hr : RuS w v rs) :
    Calls Tryz.prog 70 #[v, c.val] w fun e w' => e = .returned (.tuple #[.int .i64 (dC rs c (List.range rs.length)), .int .i64 (dK rs c (List.range rs.length)), .bool (dOk rs c)]) ∧ Below w.heap.size w w' := by
  obtain ⟨a, cap, rfl⟩ := hr.len
  have hw : c.who.size ≤ 1048576 := by unfold Ca.size at hc; omega
  have hp : c.path.size ≤ 1048576 := by unfold Ca.size at hc; omega
  have hBa : Below w.heap.size w (w.alloc (.cells #[.string c.who, .string c.method, .string c.path] 130)) := (Below.refl _ w).alloc (Nat.le_refl _) _
  have hr0 := hr.below hBa
  have b0 : (w.alloc (.cells #[.string c.who, .string c.method, .string c.path] 130)).cell? ⟨w.heap.size, 0, none⟩ = some (.string c.who) := by simp
  have b1 : (w.alloc (.cells #[.string c.who, .string c.method, .string c.path] 130)).cell? ⟨w.heap.size, 1, none⟩ = some (.string c.method) := by simp
  have b2 : (w.alloc (.cells #[.string c.who, .string c.method, .string c.path] 130)).cell? ⟨w.heap.size, 2, none⟩ = some (.string c.path) := by simp
  clear hr
  cases h1 : polB rs
  · have ho : dOk rs c = false := by unfold dOk; rw [h1]; rfl
    have HO := hid ho
    have HD := hid (d_no (List.range rs.length) ho)
    clear ho
    go_enter Tryz.func70, Tryz.ntmps70
    go_wp2_with fail
    refine (l2Good_any _ rs _ hm hfz hr0).mono ?_
    rintro e w1 ⟨rfl, hB1⟩
    go_wp2_with fail
    go_ret3
    exact ⟨ret_dec HD.out.1.symm HD.out.2.symm HO.out.symm, below_one hBa hB1⟩
  · cases h2 : c.good
    · have ho : dOk rs c = false := by unfold dOk; rw [h1, h2]; rfl
      have HO := hid ho
      have HD := hid (d_no (List.range rs.length) ho)
      clear ho
      go_enter Tryz.func70, Tryz.ntmps70
      go_wp2_with fail
      refine (l2Good_any _ rs _ hm hfz hr0).mono ?_
      rintro e w1 ⟨rfl, hB1⟩
      have c0 := (hB1.cell (p := ⟨w.heap.size, 0, none⟩) (by simp)).trans b0
      have c1 := (hB1.cell (p := ⟨w.heap.size, 1, none⟩) (by simp)).trans b1
      have c2 := (hB1.cell (p := ⟨w.heap.size, 2, none⟩) (by simp)).trans b2
      have hz1 : w.heap.size < w1.heap.size := by have := hB1.size; simp at this; omega
      have hr1 := hr0.below hB1
      have hBB1 := below_one hBa hB1
      clear b0 b1 b2 hr0 hB1
      go_wp2_with fail
      refine (specGoodCall_any c _ hw hp).mono ?_
      rintro e w2 ⟨rfl, hB2⟩
      replace c0 := (hB2.cell (p := ⟨w.heap.size, 0, none⟩) hz1).trans c0
      replace c1 := (hB2.cell (p := ⟨w.heap.size, 1, none⟩) hz1).trans c1
      replace c2 := (hB2.cell (p := ⟨w.heap.size, 2, none⟩) hz1).trans c2
      have hr2 := hr1.below hB2
      have hBB2 := below_one hBB1 hB2
      have hz2 : w.heap.size < w2.heap.size := Nat.lt_of_lt_of_le hz1 hB2.size
      clear hr1 hBB1 hB2 hz1
      go_wp2_with fail
      go_ret3
      exact ⟨ret_dec HD.out.1.symm HD.out.2.symm HO.out.symm, hBB2⟩
    · have ho : dOk rs c = true := by unfold dOk; rw [h1, h2]; rfl
      have HO := hid ho
      have HD := hid (d_yes (List.range rs.length) ho)
      have hgood := pol_nm h1
      have hcn := call_nm h2
      have hlr : (List.range rs.length).length ≤ 1048577 := by rw [List.length_range]; exact hm
      have hof : ∀ k ∈ List.range rs.length, k < rs.length := fun k hk => List.mem_range.1 hk
      clear ho
      go_enter Tryz.func70, Tryz.ntmps70
      go_wp2_with fail
      refine (l2Good_any _ rs _ hm hfz hr0).mono ?_
      rintro e w1 ⟨rfl, hB1⟩
      have c0 := (hB1.cell (p := ⟨w.heap.size, 0, none⟩) (by simp)).trans b0
      have c1 := (hB1.cell (p := ⟨w.heap.size, 1, none⟩) (by simp)).trans b1
      have c2 := (hB1.cell (p := ⟨w.heap.size, 2, none⟩) (by simp)).trans b2
      have hz1 : w.heap.size < w1.heap.size := by have := hB1.size; simp at this; omega
      have hr1 := hr0.below hB1
      have hBB1 := below_one hBa hB1
      clear b0 b1 b2 hr0 hB1
      go_wp2_with fail
      refine (specGoodCall_any c _ hw hp).mono ?_
      rintro e w2 ⟨rfl, hB2⟩
      replace c0 := (hB2.cell (p := ⟨w.heap.size, 0, none⟩) hz1).trans c0
      replace c1 := (hB2.cell (p := ⟨w.heap.size, 1, none⟩) hz1).trans c1
      replace c2 := (hB2.cell (p := ⟨w.heap.size, 2, none⟩) hz1).trans c2
      have hr2 := hr1.below hB2
      have hBB2 := below_one hBB1 hB2
      have hz2 : w.heap.size < w2.heap.size := Nat.lt_of_lt_of_le hz1 hB2.size
      clear hr1 hBB1 hB2 hz1
      go_wp2_with fail
      have hr2d : RuS w2.drew (.slice a rs.length cap) rs := hr2
      have hBd : Below w.heap.size w w2.drew := hBB2.drew
      go_region_held3 (fun w' => RuS w' (.slice a rs.length cap) rs ∧ Below w.heap.size w w' ∧ w.heap.size < w'.heap.size ∧ w'.cell? ⟨w.heap.size, 0, none⟩ = some (.string c.who) ∧ w'.cell? ⟨w.heap.size, 1, none⟩ = some (.string c.method) ∧ w'.cell? ⟨w.heap.size, 2, none⟩ = some (.string c.path)) (go_keep) (first | (go_at_call 107; refine (l2All_any _ rs _ hm (by exact hr2)).mono ?_; rintro e w3 ⟨v3, rfl, hrow3, hB3⟩; obtain ⟨a3, cap3, rfl⟩ := range_len hrow3; have hr3 : RuS w3 (.slice a rs.length cap) rs := RuS.below (by exact hr2) hB3; have hBB3 : Below w.heap.size w w3 := below_one hBB2 (below_drew1 hB3); have hz3 : w.heap.size < w3.heap.size := Nat.lt_of_lt_of_le hz2 hB3.size; have c03 : w3.cell? ⟨w.heap.size, 0, none⟩ = some (.string c.who) := (hB3.cell (p := ⟨w.heap.size, 0, none⟩) hz2).trans c0; have c13 : w3.cell? ⟨w.heap.size, 1, none⟩ = some (.string c.method) := (hB3.cell (p := ⟨w.heap.size, 1, none⟩) hz2).trans c1; have c23 : w3.cell? ⟨w.heap.size, 2, none⟩ = some (.string c.path) := (hB3.cell (p := ⟨w.heap.size, 2, none⟩) hz2).trans c2) | (go_at_call 106; refine (l2Decide_any _ _ rs (List.range rs.length) c _ _ hm hlr hfz hc hgood hcn hof (by exact hr3) (by exact hrow3)).mono ?_; rintro e w4 ⟨rfl, hB4⟩; have hr4 : RuS w4 (.slice a rs.length cap) rs := RuS.below (by exact hr3) hB4; have hBB4 : Below w.heap.size w w4 := below_one hBB3 hB4; have hz4 : w.heap.size < w4.heap.size := Nat.lt_of_lt_of_le hz3 hB4.size; have c04 : w4.cell? ⟨w.heap.size, 0, none⟩ = some (.string c.who) := (hB4.cell (p := ⟨w.heap.size, 0, none⟩) hz3).trans c03; have c14 : w4.cell? ⟨w.heap.size, 1, none⟩ = some (.string c.method) := (hB4.cell (p := ⟨w.heap.size, 1, none⟩) hz3).trans c13; have c24 : w4.cell? ⟨w.heap.size, 2, none⟩ = some (.string c.path) := (hB4.cell (p := ⟨w.heap.size, 2, none⟩) hz3).trans c23))
      all_goals go_wp2
      all_goals go_ret3
      all_goals exact ⟨ret_dec HD.out.1.symm HD.out.2.symm HO.out.symm, hBB4⟩

end Go.Proofs.YtnbojbcljfiamaaGreatDoor

namespace Go.Proofs.YtnbojbcljfiamaaGreatDoor

/-- A small whole number as a float's bits. -/
def fN (n : Nat) : Nat := floatOfInt .f64 (n : Int)
theorem shl_pow (n k : Nat) : n <<< k = n * 2 ^ k := Nat.shiftLeft_eq n k
theorem kept_eq (n : Nat) : Ieee.Toward.even.cut false n 0 = n := by
  unfold Ieee.Toward.cut
  have h : n % 1 = 0 := Nat.mod_one n
  simp [h]
theorem fN_pos {n : Nat} (h0 : 0 < n) (h : n ≤ 1000000) : fN n = (n.log2 + 1022) * 2 ^ 52 + n * 2 ^ (52 - n.log2) ∧ n.log2 ≤ 20 ∧ 2 ^ 52 ≤ n * 2 ^ (52 - n.log2) ∧ n * 2 ^ (52 - n.log2) < 2 ^ 53 := by
  have hl : n.log2 < 20 := (Nat.log2_lt (by omega)).2 (by omega)
  have a1 : 2 ^ n.log2 ≤ n := Nat.log2_self_le (by omega)
  have a2 : n < 2 ^ (n.log2 + 1) := Nat.lt_log2_self
  have b1 : 2 ^ 52 ≤ n * 2 ^ (52 - n.log2) := by
    have : 2 ^ n.log2 * 2 ^ (52 - n.log2) ≤ n * 2 ^ (52 - n.log2) := Nat.mul_le_mul_right _ a1
    rwa [← Nat.pow_add, show n.log2 + (52 - n.log2) = 52 by omega] at this
  have b2 : n * 2 ^ (52 - n.log2) < 2 ^ 53 := by
    have : n * 2 ^ (52 - n.log2) < 2 ^ (n.log2 + 1) * 2 ^ (52 - n.log2) := Nat.mul_lt_mul_of_pos_right a2 (Nat.two_pow_pos _)
    rwa [← Nat.pow_add, show n.log2 + 1 + (52 - n.log2) = 53 by omega] at this
  refine ⟨?_, by omega, b1, b2⟩
  unfold fN floatOfInt FloatKind.nearest FloatKind.encode Ieee.Format.write
  have hn : decide ((n : Int) < 0) = false := by simp
  simp only [hn, Int.natAbs_natCast]
  unfold Ieee.Format.nearest
  rw [if_neg (by omega)]
  have hlast : max (0 + (n.log2 : Int) - (FloatKind.f64.format.fractionBits : Int)) FloatKind.f64.format.leastPlace = (n.log2 : Int) - 52 := by
    have e1 : (FloatKind.f64.format.fractionBits : Int) = 52 := rfl
    have e2 : FloatKind.f64.format.leastPlace = -1074 := by decide
    rw [e1, e2]
    omega
  simp only [hlast]
  have e3 : (0 - ((n.log2 : Int) - 52)).toNat = 52 - n.log2 := by omega
  have e4 : ((n.log2 : Int) - 52 - 0).toNat = 0 := by omega
  rw [e3, e4, kept_eq, shl_pow]
  have e2 : FloatKind.f64.format.leastPlace = -1074 := by decide
  have e5 : FloatKind.f64.format.binade = 2 ^ 52 := by decide
  have e6 : FloatKind.f64.format.infRung = 2047 * 2 ^ 52 := by decide
  rw [e2, e5, e6, show ((n.log2 : Int) - 52 - -1074).toNat = n.log2 + 1022 by omega]
  unfold Ieee.Format.word
  rw [if_neg (by decide), Nat.min_eq_left]
  omega
theorem read_fN {n : Nat} (h0 : 0 < n) (h : n ≤ 1000000) : FloatKind.f64.format.read (fN n) = .number false (n * 2 ^ (52 - n.log2)) ((n.log2 : Int) - 52) := by
  obtain ⟨e, hl, b1, b2⟩ := fN_pos h0 h
  rw [e]
  generalize hk : n * 2 ^ (52 - n.log2) = k at *
  generalize n.log2 = L at *
  have e2 : FloatKind.f64.format.leastPlace = -1074 := by decide
  have e5 : FloatKind.f64.format.binade = 2 ^ 52 := by decide
  have e6 : FloatKind.f64.format.infRung = 2047 * 2 ^ 52 := by decide
  have e7 : FloatKind.f64.format.signWeight = 2 ^ 63 := by decide
  unfold Ieee.Format.read
  rw [e2, e5, e6, e7]
  have d1 : ((L + 1022) * 2 ^ 52 + k) / 2 ^ 63 = 0 := Nat.div_eq_of_lt (by omega)
  have d2 : ((L + 1022) * 2 ^ 52 + k) % 2 ^ 63 = (L + 1022) * 2 ^ 52 + k := Nat.mod_eq_of_lt (by omega)
  have d3 : ((L + 1022) * 2 ^ 52 + k) % 2 ^ 52 = k - 2 ^ 52 := by omega
  have d4 : ((L + 1022) * 2 ^ 52 + k) / 2 ^ 52 = L + 1023 := by omega
  simp only [d1, d2, d3, d4]
  rw [if_neg (by omega), if_pos (by omega)]
  have d5 : 2 ^ 52 + (k - 2 ^ 52) = k := by omega
  have d6 : (-1074 : Int) + ((L + 1023 - 1 : Nat) : Int) = (L : Int) - 52 := by omega
  rw [d5, d6]
  rfl
theorem read_fN0 : FloatKind.f64.format.read (fN 0) = .number false 0 (-1074) := by decide
theorem z_mul (p : Nat) : 0 = 0 * 2 ^ p := (Nat.zero_mul _).symm
theorem read_any (n : Nat) (h : n ≤ 1000000) : ∃ (k : Nat) (p : Nat), FloatKind.f64.format.read (fN n) = .number false k (-(p : Int)) ∧ k = n * 2 ^ p := by
  by_cases h0 : 0 < n
  · have hl : n.log2 < 20 := (Nat.log2_lt (by omega)).2 (by omega)
    refine ⟨_, 52 - n.log2, ?_, rfl⟩
    rw [read_fN h0 h]
    congr 1
    omega
  · have : n = 0 := by omega
    subst this
    exact ⟨0, 1074, read_fN0, z_mul 1074⟩
theorem cmp_mul (a b p : Nat) : compare ((a * 2 ^ p : Nat) : Int) ((b * 2 ^ p : Nat) : Int) = compare a b := by
  have hp : 0 < 2 ^ p := Nat.two_pow_pos p
  have hA : ∀ x y : Nat, ((x * 2 ^ p : Nat) : Int) < ((y * 2 ^ p : Nat) : Int) ↔ x < y := fun x y => by
    rw [Int.ofNat_lt]
    exact Nat.mul_lt_mul_right hp
  rcases Nat.lt_trichotomy a b with h | h | h
  · rw [Nat.compare_eq_lt.2 h]
    simp only [compare, compareOfLessAndEq]
    rw [if_pos ((hA a b).2 h)]
  · subst h
    rw [Nat.compare_eq_eq.2 rfl]
    simp [compare, compareOfLessAndEq]
  · rw [Nat.compare_eq_gt.2 h]
    simp only [compare, compareOfLessAndEq]
    rw [if_neg (by rw [hA]; omega), if_neg (by intro e; have := (hA b a).2 h; omega)]
theorem order_fN (a b : Nat) (ha : a ≤ 1000000) (hb : b ≤ 1000000) : FloatKind.f64.format.order (fN a) (fN b) = some (compare a b) := by
  obtain ⟨k, p, e, rfl⟩ := read_any a ha
  obtain ⟨l, q, e', rfl⟩ := read_any b hb
  unfold Ieee.Format.order
  rw [e, e']
  unfold Ieee.Datum.order
  simp only [Ieee.signed]
  have h1 : ∃ m : Nat, min (-(p : Int)) (-(q : Int)) = -(m : Int) ∧ p ≤ m ∧ q ≤ m := by
    refine ⟨max p q, by omega, by omega, by omega⟩
  obtain ⟨m, hm, h2, h3⟩ := h1
  rw [hm, show (-(p : Int) - -(m : Int)).toNat = m - p by omega, show (-(q : Int) - -(m : Int)).toNat = m - q by omega, shl_pow, shl_pow, Nat.mul_assoc, ← Nat.pow_add, Nat.mul_assoc, ← Nat.pow_add, show p + (m - p) = m by omega, show q + (m - q) = m by omega]
  simp only [if_neg (by decide : ¬ (false = true))]
  rw [cmp_mul]
theorem neg_fN (a : Nat) (ha : a ≤ 1000000) : (FloatKind.f64.decode (fN a)).neg = false := by
  obtain ⟨k, p, e, _⟩ := read_any a ha
  unfold FloatKind.decode
  rw [e]
  rfl

end Go.Proofs.YtnbojbcljfiamaaGreatDoor

namespace Go.Proofs.YtnbojbcljfiamaaGreatDoor

/-- A text is among some. -/
def hasTo (ss : List ByteArray) (s : ByteArray) (n : Nat) : Bool := (ss.take n).any (fun x => x.toList == s.toList)
def hasT (ss : List ByteArray) (s : ByteArray) : Bool := ss.any (fun x => x.toList == s.toList)
theorem hasTo_zero (ss : List ByteArray) (s : ByteArray) : hasTo ss s 0 = false := by simp [hasTo]
theorem hasTo_succ {ss : List ByteArray} {s : ByteArray} {n : Nat} (h : n < ss.length) : hasTo ss s (n + 1) = (hasTo ss s n || (ss[n].toList == s.toList)) := by
  unfold hasTo
  rw [List.take_succ_eq_append_getElem h, List.any_append]
  simp
theorem hasT_yes {ss : List ByteArray} {s : ByteArray} {n : Nat} (h : n < ss.length) (he : (ss[n].toList == s.toList) = true) : hasT ss s = true :=
  List.any_eq_true.2 ⟨ss[n], List.getElem_mem h, he⟩
theorem hasT_end (ss : List ByteArray) (s : ByteArray) : hasTo ss s ss.length = hasT ss s := by
  unfold hasTo hasT
  rw [List.take_length]
/-- All of some texts are among others. -/
def allTo3 (ss ts : List ByteArray) (n : Nat) : Bool := (ts.take n).all (hasT ss)
def allT (ss ts : List ByteArray) : Bool := ts.all (hasT ss)
theorem allTo3_zero (ss ts : List ByteArray) : allTo3 ss ts 0 = true := by simp [allTo3]
theorem allTo3_succ {ss ts : List ByteArray} {n : Nat} (h : n < ts.length) : allTo3 ss ts (n + 1) = (allTo3 ss ts n && hasT ss ts[n]) := by
  unfold allTo3
  rw [List.take_succ_eq_append_getElem h, List.all_append]
  simp
theorem allT_no {ss ts : List ByteArray} {n : Nat} (h : n < ts.length) (he : hasT ss ts[n] = false) : allT ss ts = false :=
  List.all_eq_false.2 ⟨ts[n], List.getElem_mem h, by rw [he]; exact Bool.false_ne_true⟩
theorem allT_end (ss ts : List ByteArray) : allTo3 ss ts ts.length = allT ss ts := by
  unfold allTo3 allT
  rw [List.take_length]
/-- A time lies within all links' times. -/
def tmIn (k : Lk) (nw : Int) : Bool := decide (k.fr ≤ nw ∧ nw ≤ k.un)
def inTo (ks : List Lk) (nw : Int) (n : Nat) : Bool := (ks.take n).all (fun k => tmIn k nw)
def inT (ks : List Lk) (nw : Int) : Bool := ks.all (fun k => tmIn k nw)
theorem inTo_zero (ks : List Lk) (nw : Int) : inTo ks nw 0 = true := by simp [inTo]
theorem inTo_succ {ks : List Lk} {nw : Int} {n : Nat} (h : n < ks.length) : inTo ks nw (n + 1) = (inTo ks nw n && tmIn ks[n] nw) := by
  unfold inTo
  rw [List.take_succ_eq_append_getElem h, List.all_append]
  simp
theorem inT_no {ks : List Lk} {nw : Int} {n : Nat} (h : n < ks.length) (he : tmIn ks[n] nw = false) : inT ks nw = false :=
  List.all_eq_false.2 ⟨ks[n], List.getElem_mem h, by rw [he]; exact Bool.false_ne_true⟩
theorem inT_end (ks : List Lk) (nw : Int) : inTo ks nw ks.length = inT ks nw := by
  unfold inTo inT
  rw [List.take_length]
/-- A serial is revoked. -/
def rvTo (ks : List Lk) (zs : List Int) (n : Nat) : Bool := (ks.take n).any (fun k => isI zs k.se)
def rvB (ks : List Lk) (zs : List Int) : Bool := ks.any (fun k => isI zs k.se)
theorem rvTo_zero (ks : List Lk) (zs : List Int) : rvTo ks zs 0 = false := by simp [rvTo]
theorem rvTo_succ {ks : List Lk} {zs : List Int} {n : Nat} (h : n < ks.length) : rvTo ks zs (n + 1) = (rvTo ks zs n || isI zs ks[n].se) := by
  unfold rvTo
  rw [List.take_succ_eq_append_getElem h, List.any_append]
  simp
theorem rvB_yes {ks : List Lk} {zs : List Int} {n : Nat} (h : n < ks.length) (he : isI zs ks[n].se = true) : rvB ks zs = true :=
  List.any_eq_true.2 ⟨ks[n], List.getElem_mem h, he⟩
theorem rvB_end (ks : List Lk) (zs : List Int) : rvTo ks zs ks.length = rvB ks zs := by
  unfold rvTo rvB
  rw [List.take_length]
/-- It leads where it should. -/
def toOk (ks : List Lk) (at_ : ByteArray) : Bool := match ks[ks.length - 1]? with
  | some k => k.to.toList == at_.toList
  | none => false
theorem toOk_at {ks : List Lk} {at_ : ByteArray} {m : Nat} (h : m < ks.length) (hm : m = ks.length - 1) : toOk ks at_ = (ks[m].to.toList == at_.toList) := by
  unfold toOk
  rw [← hm, List.getElem?_eq_getElem h]

/-- What comes first of what CheckToken tells, of a token that is good. -/
def chk1 (ks : List Lk) (sg ss : List ByteArray) (nw : Int) (zs : List Int) (at_ : ByteArray) : Int :=
  if allT ss sg = false then 2 else if inT ks nw = false then 3 else if rvB ks zs = true then 4 else if toOk ks at_ = false then 5 else 0
def argB (nw : Int) (at_ : ByteArray) (ss : List ByteArray) (zs : List Int) : Bool := tmB nw && (gnB (split at_ 47) && (decide (ss.length ≤ 200) && decide (zs.length ≤ 200)))
def chkX (ks : List Lk) (sg ss : List ByteArray) (nw : Int) (zs : List Int) (at_ : ByteArray) : Int :=
  if (tkB ks && argB nw at_ ss zs) = true then chk1 ks sg ss nw zs at_ else 1
theorem chkX_no1 {ks : List Lk} (sg ss : List ByteArray) (nw : Int) (zs : List Int) (at_ : ByteArray) (h : tkB ks = false) : chkX ks sg ss nw zs at_ = 1 := by
  unfold chkX
  rw [h, if_neg (by simp)]
theorem chkX_no2 (ks : List Lk) (sg : List ByteArray) {ss : List ByteArray} {nw : Int} {zs : List Int} {at_ : ByteArray} (h : argB nw at_ ss zs = false) : chkX ks sg ss nw zs at_ = 1 := by
  unfold chkX
  rw [h, if_neg (by simp)]
theorem chkX_yes {ks : List Lk} (sg : List ByteArray) {ss : List ByteArray} {nw : Int} {zs : List Int} {at_ : ByteArray} (h : tkB ks = true) (h2 : argB nw at_ ss zs = true) : chkX ks sg ss nw zs at_ = chk1 ks sg ss nw zs at_ := by
  unfold chkX
  rw [h, h2, if_pos (by rfl)]

/-! The window of times. -/
def mxF (ks : List Lk) (n : Nat) : Nat := (ks.take n).foldl (fun a k => max a k.fr.toNat) 0
def mnU (ks : List Lk) (n : Nat) : Nat := (ks.take n).foldl (fun a k => min a k.un.toNat) 100000
theorem mxF_zero (ks : List Lk) : mxF ks 0 = 0 := by simp [mxF]
theorem mnU_zero (ks : List Lk) : mnU ks 0 = 100000 := by simp [mnU]
theorem mxF_succ {ks : List Lk} {n : Nat} (h : n < ks.length) : mxF ks (n + 1) = max (mxF ks n) ks[n].fr.toNat := by
  unfold mxF
  rw [List.take_succ_eq_append_getElem h, List.foldl_append]
  rfl
theorem mnU_succ {ks : List Lk} {n : Nat} (h : n < ks.length) : mnU ks (n + 1) = min (mnU ks n) ks[n].un.toNat := by
  unfold mnU
  rw [List.take_succ_eq_append_getElem h, List.foldl_append]
  rfl
theorem win_le {ks : List Lk} (hg : ∀ k ∈ ks, k.good = true) : ∀ n, n ≤ ks.length → mxF ks n ≤ 100000 ∧ mnU ks n ≤ 100000
  | 0, _ => by rw [mxF_zero, mnU_zero]; omega
  | n + 1, h => by
    obtain ⟨h1, h2⟩ := win_le hg n (by omega)
    obtain ⟨_, _, _, b4, b5, _⟩ := (Lk.good_iff _).1 (hg _ (List.getElem_mem (show n < ks.length by omega)))
    rw [mxF_succ (by omega), mnU_succ (by omega)]
    omega
theorem win_in {ks : List Lk} (hg : ∀ k ∈ ks, k.good = true) {nw : Nat} (h : nw ≤ 100000) : ∀ n, n ≤ ks.length → inTo ks nw n = decide (mxF ks n ≤ nw ∧ nw ≤ mnU ks n)
  | 0, _ => by rw [inTo_zero, mxF_zero, mnU_zero]; simp; omega
  | n + 1, hn => by
    have ih := win_in hg h n (by omega)
    obtain ⟨_, _, _, b4, b5, _⟩ := (Lk.good_iff _).1 (hg _ (List.getElem_mem (show n < ks.length by omega)))
    rw [inTo_succ (by omega), ih, mxF_succ (by omega), mnU_succ (by omega)]
    unfold tmIn
    rw [← Bool.decide_and, decide_eq_decide]
    omega

end Go.Proofs.YtnbojbcljfiamaaGreatDoor

namespace Go.Proofs.YtnbojbcljfiamaaGreatDoor
open Go.RowKit Go.Shelf

theorem dd_big {u : Nat} (h : ¬ u < 10) : (⟨(Lib.decDigits u).toArray⟩ : ByteArray) = ⟨(Lib.decDigits (u / 10)).toArray⟩ ++ ⟨#[UInt8.ofNat (48 + u % 10)]⟩ := by
  apply bytes_same
  rw [Lib.decDigits, dif_neg h]
  simp
theorem dd_one {u : Nat} (h : u < 10) : (⟨(Lib.decDigits u).toArray⟩ : ByteArray) = ⟨#[UInt8.ofNat (48 + u % 10)]⟩ := by
  apply bytes_same
  rw [Lib.decDigits_one h, Nat.mod_eq_of_lt h]
theorem dd_size (u : Nat) (h : u ≤ 1000000) : (⟨(Lib.decDigits u).toArray⟩ : ByteArray).size ≤ 7 := by
  show (Lib.decDigits u).toArray.size ≤ 7
  rw [List.size_toArray, Lib.decDigits_length]
  rcases Nat.lt_or_ge u 1000000 with h1 | h1
  · have := (dd_len6 h1).2
    rw [Lib.decDigits_length] at this
    omega
  · have : u = 1000000 := by omega
    subst this
    have := Lib.nDigits_unique 6 1000000 (by decide) (by decide)
    omega

theorem conv_any (b m : Nat) (W : World) (h : W.cell? ⟨b, 0, none⟩ = some (.int .u8 (48 + (m : Int) % 10))) : (convert 204 9 (.slice (some ⟨b, 0, none⟩) 1 1)).run Tryz.prog W = .ok (.string ⟨#[UInt8.ofNat (48 + m % 10)]⟩) W := by
  refine run_convert_bytes_back (P := Tryz.prog) _ 204 9 5 ⟨b, 0, none⟩ 1 [UInt8.ofNat (48 + m % 10)] Tryz.underlying204 Tryz.underlying5 Tryz.underlying9 ?_
  intro j hj
  match j, hj with
  | 0, _ =>
    simp [Addr.add, h]
    omega

set_option maxHeartbeats 4000000 in
set_option maxRecDepth 100000 in
theorem l1Num_nat : ∀ (u : Nat) (w : World), u ≤ 1000000 →
    Calls Tryz.prog 176 #[.int .i64 (u : Int)] w fun e w' => e = .returned (.string ⟨(Lib.decDigits u).toArray⟩) ∧ Below w.heap.size w w' := by
  intro u
  induction u using Nat.strongRecOn with
  | _ u ih =>
    intro w hu
    by_cases h : u < 10
    · have hc := digit_conv w u
      have h1 : (u : Int) % 10 = u := by omega
      rw [h1] at hc
      have HR := hid (dd_one h)
      generalize UInt8.ofNat (48 + u % 10) = d at *
      go_enter Tryz.func176, Tryz.ntmps176
      go_wp2
      go_ret
      exact ⟨ret_str HR.out.symm, (Below.refl _ w).alloc (Nat.le_refl _) _⟩
    · have HR := hid (dd_big h)
      have hih : ∀ (z : Int) (W : World), z = ((u / 10 : Nat) : Int) → Calls Tryz.prog 176 #[.int .i64 z] W fun e w' => e = .returned (.string ⟨(Lib.decDigits (u / 10)).toArray⟩) ∧ Below W.heap.size W w' := fun z W hz => by
        subst hz
        exact ih (u / 10) (by omega) W (by omega)
      have hcv := fun b W h => conv_any b u W h
      have hsz := dd_size (u / 10) (by omega)
      generalize (⟨(Lib.decDigits (u / 10)).toArray⟩ : ByteArray) = x at *
      generalize UInt8.ofNat (48 + u % 10) = d at *
      clear ih
      have g1 : ¬9223372036854775807 < x.size + 1 := by omega
      have e1 : IntKind.i64.wrap ((u : Int) / 10) = (u : Int) / 10 := by rw [IntKind.wrap_i64]; omega
      have e2 : (u : Int).tmod 10 = (u : Int) % 10 := Int.tmod_eq_emod_of_nonneg (by omega)
      have e3 : IntKind.i64.wrap (48 + (u : Int) % 10) = 48 + (u : Int) % 10 := by rw [IntKind.wrap_i64]; omega
      have e4 : IntKind.u8.wrap (48 + (u : Int) % 10) = 48 + (u : Int) % 10 := by rw [IntKind.wrap_u8]; omega
      go_enter Tryz.func176, Tryz.ntmps176
      go_wp2_with fail
      go_region_with (go_at_call 176; refine (hih _ _ (by omega)).mono ?_; rintro e w1 ⟨rfl, hB1⟩; have hq := hB1.cell (p := ⟨w.heap.size, 0, none⟩))
      all_goals go_wp2
      all_goals go_ret
      all_goals refine ⟨ret_str HR.out.symm, ?_⟩
      all_goals first
        | exact ((Below.refl _ w).trans (below_drew1 hB1)).alloc (below_drew1 hB1).size _
        | exact below_one ((Below.refl _ w).alloc (Nat.le_refl _) _) (below_drew1 hB1)
        | exact below_one ((Below.refl _ w).alloc (Nat.le_refl _) _) hB1

theorem l1Num_any (n : Int) (w : World) (h0 : 0 ≤ n) (h : n ≤ 1000000) :
    Calls Tryz.prog 176 #[.int .i64 n] w fun e w' => e = .returned (.string (numT n)) ∧ Below w.heap.size w w' := by
  obtain ⟨u, rfl⟩ := Int.eq_ofNat_of_zero_le h0
  have e : numT (u : Int) = ⟨(Lib.decDigits u).toArray⟩ := by
    unfold numT
    rw [itoa_pos h0]
    rfl
  rw [e]
  exact l1Num_nat u w (by omega)

end Go.Proofs.YtnbojbcljfiamaaGreatDoor

namespace Go.Proofs.YtnbojbcljfiamaaGreatDoor
open Go.RowKit Go.Shelf

theorem bInfo : (Tryz.prog.info? 206).map (fun i => i.size) = some 2 := by kernel_rfl
theorem bLies : liesAt Tryz.prog Tryz.prog.depth 206 (2 / Tryz.prog.cellsOf 206) 0 206 1 = true := by kernel_rfl
theorem byteInfo : (Tryz.prog.info? 5).map (fun i => (i.zero, i.size, i.bytes)) = some (some (.int .u8 0), 1, 1) := by kernel_rfl

set_option maxHeartbeats 1000000 in
set_option maxRecDepth 100000 in
theorem copyCheck_any (B b : Nat) (bs : List Value) (w : World) (h : Lib.IsBuilder 206 5 B b bs w) :
    Calls Tryz.prog 174 #[.pointer (some ⟨b, 0, none⟩)] w fun e w' => e = .returned (.tuple #[]) ∧ Lib.BuilderAt 206 5 B b (.pointer (some ⟨b, 0, none⟩)) bs w' ∧ Below B w w' := by
  obtain ⟨j, hj, hjs⟩ := Option.map_eq_some_iff.1 bInfo
  rcases h with h | h
  · have h0 := h.cell0
    have hsh := h.shape
    have hfz := h.frozen0
    go_enter Tryz.func174, Tryz.ntmps174
    go_wp2
    rw [Lib.run_to_unsafe w ⟨b, 0, none⟩ Tryz.underlying203 Tryz.underlying240 hj (by rw [hjs]; decide) hsh (Nat.zero_lt_succ 1)]
    simp only [Result.andThen]
    rw [Oper.upon_value]
    go_wp2
    rw [run_callFunc_extern Tryz.func182 (by kernel_rfl) (by kernel_rfl) (by kernel_rfl) (e := Extern.AbiNoEscape.same) (by kernel_rfl), Lib.run_noEscape]
    simp only [Result.andThen]
    rw [Oper.upon_value]
    go_wp2
    rw [Lib.run_from_unsafe w ⟨b, 0, none⟩ Tryz.underlying240 Tryz.underlying203 hj hsh bLies]
    simp only [Result.andThen]
    rw [Oper.upon_value]
    go_wp2
    go_end0
    exact ⟨rfl, h.used _, (Below.refl B w).setCell (p := ⟨b, 0, none⟩) h.1 _⟩
  · have h0 := h.cell0
    go_enter Tryz.func174, Tryz.ntmps174
    go_wp2
    rw [Lib.run_neq_ptr_same w _ Tryz.underlying203 hj]
    go_wp2
    go_end0
    exact ⟨rfl, h, Below.refl B _⟩

theorem built_lt {w : World} {b : Nat} {o : Obj} (h : w.heap[b]? = some o) : b < w.heap.size := by
  rcases Nat.lt_or_ge b w.heap.size with h' | h'
  · exact h'
  · rw [Array.getElem?_eq_none h'] at h
    cases h

set_option maxHeartbeats 2000000 in
set_option maxRecDepth 100000 in
theorem writeByte_any (B b : Nat) (bs : List Value) (c : Int) (w : World) (h : Lib.IsBuilder 206 5 B b bs w) (hlen : bs.length + 1 ≤ 140737488355328) (hBw : B ≤ w.heap.size) :
    Calls Tryz.prog 152 #[.pointer (some ⟨b, 0, none⟩), .int .u8 c] w fun e w' => e = .returned .nilIface ∧ Lib.BuilderAt 206 5 B b (.pointer (some ⟨b, 0, none⟩)) (bs ++ [.int .u8 c]) w' ∧ Below B w w' := by
  obtain ⟨i0, hi, hz0, hz1, hz2⟩ := info_parts byteInfo
  go_enter Tryz.func152, Tryz.ntmps152
  go_wp2_with fail
  refine (copyCheck_any B b bs _ h).mono ?_
  rintro e w1 ⟨rfl, ⟨hB, v, hbk, hown, hne⟩, hb1⟩
  have c0 : w1.cell? ⟨b, 0, none⟩ = some (.pointer (some ⟨b, 0, none⟩)) := by rw [Lib.cell_of_heap hbk]; rfl
  have c1 : w1.cell? ⟨b, 1, none⟩ = some v := by rw [Lib.cell_of_heap hbk]; rfl
  have hlt := built_lt hbk
  have hsz := hb1.size
  go_wp2_with (at_builtin; refine wpList_append_own _ rfl _ _ 204 rfl B 5 i0 (.int .u8 0) 1 1 Tryz.underlying204 hi hz0 hz1 hz2 rfl (by decide) _ _ _ rfl (hown.alloc _) ⟨w1.heap.size, 0, none⟩ 1 1 [.int .u8 c] rfl rfl (cell_one_new _ _ _) (by simp [Value.oneCell']) (by unfold maxLen; omega) (by omega) (by simp; omega) ?_)
  intro v' w2 hown' hgrow _
  have hb2 : w2.heap[b]? = some (.cells #[.pointer (some ⟨b, 0, none⟩), v] 206 (0, 0)) := by
    rw [hgrow.block b (by simp; omega) (fun e => hne e.symm), Lib.alloc_old w1 _ b hlt]
    exact hbk
  have d0 : w2.cell? ⟨b, 0, none⟩ = some (.pointer (some ⟨b, 0, none⟩)) := by rw [Lib.cell_of_heap hb2]; rfl
  have d1 : w2.cell? ⟨b, 1, none⟩ = some v := by rw [Lib.cell_of_heap hb2]; rfl
  have f1 : w2.frozen? ⟨b, 1, none⟩ = false := Lib.frozen_of_heap hb2 1
  obtain ⟨g, cap, rfl⟩ := ownsRow_succ hown'
  go_wp2
  go_ret
  refine ⟨rfl, ?_, ?_⟩
  · exact Lib.BuilderAt.put (T := 206) (e := 5) hB hb2 (bs' := bs ++ [.int .u8 c]) (by simpa using hown') (by decide)
  · exact ((hb1.alloc (by omega) _).grown hgrow (by simp; omega) (fun k hk => (hown.lt k hk).1)).setCell (p := ⟨b, 1, none⟩) hB _

set_option maxHeartbeats 2000000 in
set_option maxRecDepth 100000 in
theorem writeString_any (B b : Nat) (bs : List Value) (s : ByteArray) (w : World) (h : Lib.IsBuilder 206 5 B b bs w) (hlen : bs.length + s.size ≤ 140737488355328) (hBw : B ≤ w.heap.size) :
    Calls Tryz.prog 150 #[.pointer (some ⟨b, 0, none⟩), .string s] w fun e w' => e = .returned (.tuple #[.int .i64 s.size, .nilIface]) ∧ Lib.BuilderAt 206 5 B b (.pointer (some ⟨b, 0, none⟩)) (bs ++ Lib.strCells s) w' ∧ Below B w w' := by
  obtain ⟨i0, hi, hz0, hz1, hz2⟩ := info_parts byteInfo
  go_enter Tryz.func150, Tryz.ntmps150
  go_wp2_with fail
  refine (copyCheck_any B b bs _ h).mono ?_
  rintro e w1 ⟨rfl, ⟨hB, v, hbk, hown, hne⟩, hb1⟩
  have c0 : w1.cell? ⟨b, 0, none⟩ = some (.pointer (some ⟨b, 0, none⟩)) := by rw [Lib.cell_of_heap hbk]; rfl
  have c1 : w1.cell? ⟨b, 1, none⟩ = some v := by rw [Lib.cell_of_heap hbk]; rfl
  have hlt := built_lt hbk
  have hsz := hb1.size
  go_wp2_with (at_builtin; refine Lib.wpList_append_own_string _ rfl _ _ 204 9 rfl B 5 i0 Tryz.underlying204 Tryz.underlying9 hi hz0 hz1 hz2 _ _ _ rfl hown s rfl (by unfold maxLen; omega) (by omega) (by omega) ?_)
  intro v' w2 hown' hgrow _
  have hb2 : w2.heap[b]? = some (.cells #[.pointer (some ⟨b, 0, none⟩), v] 206 (0, 0)) := by
    rw [hgrow.block b hlt (fun e => hne e.symm)]
    exact hbk
  have d0 : w2.cell? ⟨b, 0, none⟩ = some (.pointer (some ⟨b, 0, none⟩)) := by rw [Lib.cell_of_heap hb2]; rfl
  have d1 : w2.cell? ⟨b, 1, none⟩ = some v := by rw [Lib.cell_of_heap hb2]; rfl
  have f1 : w2.frozen? ⟨b, 1, none⟩ = false := Lib.frozen_of_heap hb2 1
  obtain ⟨ao, n', cap, rfl⟩ : ∃ ao n' cap, v' = .slice ao n' cap := by
    rcases hown'.2 with ⟨hv, _⟩ | ⟨g, cap, cur, hv, _⟩
    · exact ⟨_, _, _, hv⟩
    · exact ⟨_, _, _, hv⟩
  go_wp2
  go_ret2
  refine ⟨rfl, ?_, ?_⟩
  · exact Lib.BuilderAt.put (T := 206) (e := 5) hB hb2 (bs' := bs ++ Lib.strCells s) (by simpa [Lib.strCells_length] using hown') (by decide)
  · exact (hb1.grown hgrow (by omega) (fun k hk => (hown.lt k hk).1)).setCell (p := ⟨b, 1, none⟩) hB _

theorem bString_any (B b : Nat) (l : List UInt8) (w : World) (h : Lib.IsBuilder 206 5 B b (Lib.byteCells l) w) (hBw : B ≤ w.heap.size) :
    Calls Tryz.prog 153 #[.pointer (some ⟨b, 0, none⟩)] w fun e w' => e = .returned (.string ⟨l.toArray⟩) ∧ Below B w w' := Any.Builder_String_any Tryz.lays169 Tryz.Builder_Extra_169 B b l w h hBw

/-- A builder stays one behind a call that makes memory alone. -/
theorem built_below {T e : TypeId} {B b : Nat} {p : Value} {bs : List Value} {w w' : World} (h : Lib.BuilderAt T e B b p bs w) (hB : Below w.heap.size w w') : Lib.BuilderAt T e B b p bs w' := by
  obtain ⟨h1, v, hbk, hown, hne⟩ := h
  exact ⟨h1, v, (hB.block b (built_lt hbk)).trans hbk, ownsRow_below hown hB, hne⟩
theorem isB_below {T e : TypeId} {B b : Nat} {bs : List Value} {w w' : World} (h : Lib.IsBuilder T e B b bs w) (hB : Below w.heap.size w w') : Lib.IsBuilder T e B b bs w' := by
  rcases h with h | h
  · exact .inl (built_below h hB)
  · exact .inr (built_below h hB)

end Go.Proofs.YtnbojbcljfiamaaGreatDoor

namespace Go.Proofs.YtnbojbcljfiamaaGreatDoor
open Go.RowKit Go.Shelf

theorem goodTime_any (n : Int) (w : World) :
    Calls Tryz.prog 79 #[.int .i64 n] w fun e w' => e = .returned (.bool (tmB n)) ∧ w' = w := by
  by_cases c1 : 0 ≤ n
  · by_cases c2 : n ≤ 100000
    · have HR := hid (show tmB n = true from decide_eq_true ⟨c1, c2⟩)
      go_enter Tryz.func79, Tryz.ntmps79
      go_wp2
      go_ret
      exact ⟨ret_bool HR.out.symm, rfl⟩
    · have HR := hid (show tmB n = false from decide_eq_false (fun h => c2 h.2))
      go_enter Tryz.func79, Tryz.ntmps79
      go_wp2
      go_ret
      exact ⟨ret_bool HR.out.symm, rfl⟩
  · have HR := hid (show tmB n = false from decide_eq_false (fun h => c1 h.1))
    go_enter Tryz.func79, Tryz.ntmps79
    go_wp2
    go_ret
    exact ⟨ret_bool HR.out.symm, rfl⟩

theorem goodSerial_any (n : Int) (w : World) :
    Calls Tryz.prog 110 #[.int .i64 n] w fun e w' => e = .returned (.bool (seB n)) ∧ w' = w := by
  by_cases c1 : 1 ≤ n
  · by_cases c2 : n ≤ 100000
    · have HR := hid (show seB n = true from decide_eq_true ⟨c1, c2⟩)
      go_enter Tryz.func110, Tryz.ntmps110
      go_wp2
      go_ret
      exact ⟨ret_bool HR.out.symm, rfl⟩
    · have HR := hid (show seB n = false from decide_eq_false (fun h => c2 h.2))
      go_enter Tryz.func110, Tryz.ntmps110
      go_wp2
      go_ret
      exact ⟨ret_bool HR.out.symm, rfl⟩
  · have HR := hid (show seB n = false from decide_eq_false (fun h => c1 h.1))
    go_enter Tryz.func110, Tryz.ntmps110
    go_wp2
    go_ret
    exact ⟨ret_bool HR.out.symm, rfl⟩

/-- A link as a hop. -/
abbrev Lk.hop (k : Lk) : Value := .agg #[.string k.who, .string k.to, .int .i64 k.fr, .int .i64 k.un, .int .i64 k.se]

set_option maxHeartbeats 1000000 in
theorem hopOf_any (k : Lk) (w : World) :
    Calls Tryz.prog 147 #[k.val] w fun e w' => e = .returned k.hop ∧ Below w.heap.size w w' := by
  go_enter Tryz.func147, Tryz.ntmps147
  go_wp2
  exact bodyPost_ret (v := k.hop) (by simp [results, Tryz.results147, go_sem]) rfl ⟨rfl, ((Below.refl _ w).alloc (Nat.le_refl _) _).alloc (by simp) _⟩

set_option maxHeartbeats 1000000 in
theorem named_any (a b : ByteArray) (w : World) (hs : a.size ≤ 1048576) (ht : b.size ≤ 1048576) :
    Calls Tryz.prog 171 #[.agg #[.string a, .string b]] w fun e w' => e = .returned (.bool (nmOk a && nmOk b)) ∧ Below w.heap.size w w' := by
  cases h1 : gnB (split a 47)
  · have HR := hid (show (nmOk a && nmOk b) = false by unfold nmOk; rw [h1]; rfl)
    go_enter Tryz.func171, Tryz.ntmps171
    go_wp2_with (first | (go_at_call 80; first | (have hz1 := hz; refine (implGoodName_any b _ ht).mono ?_; rintro e w2 ⟨rfl, hB2⟩) | (refine (implGoodName_any a _ hs).mono ?_; rintro e w1 ⟨rfl, hB1⟩; obtain ⟨hc1, hf1⟩ := bcell hB1; have hz : w.heap.size < w1.heap.size := (by have := hB1.size; simp at this; omega))))
    go_ret
    exact ⟨ret_bool HR.out.symm, below_one ((Below.refl _ w).alloc (Nat.le_refl _) _) hB1⟩
  · cases h2 : gnB (split b 47)
    · have HR := hid (show (nmOk a && nmOk b) = false by unfold nmOk; rw [h1, h2]; rfl)
      go_enter Tryz.func171, Tryz.ntmps171
      go_wp2_with (first | (go_at_call 80; first | (have hz1 := hz; refine (implGoodName_any b _ ht).mono ?_; rintro e w2 ⟨rfl, hB2⟩) | (refine (implGoodName_any a _ hs).mono ?_; rintro e w1 ⟨rfl, hB1⟩; obtain ⟨hc1, hf1⟩ := bcell hB1; have hz : w.heap.size < w1.heap.size := (by have := hB1.size; simp at this; omega))))
      go_ret
      exact ⟨ret_bool HR.out.symm, below_two ((Below.refl _ w).alloc (Nat.le_refl _) _) hB1 hB2⟩
    · have HR := hid (show (nmOk a && nmOk b) = true by unfold nmOk; rw [h1, h2]; rfl)
      go_enter Tryz.func171, Tryz.ntmps171
      go_wp2_with (first | (go_at_call 80; first | (have hz1 := hz; refine (implGoodName_any b _ ht).mono ?_; rintro e w2 ⟨rfl, hB2⟩) | (refine (implGoodName_any a _ hs).mono ?_; rintro e w1 ⟨rfl, hB1⟩; obtain ⟨hc1, hf1⟩ := bcell hB1; have hz : w.heap.size < w1.heap.size := (by have := hB1.size; simp at this; omega))))
      go_ret
      exact ⟨ret_bool HR.out.symm, below_two ((Below.refl _ w).alloc (Nat.le_refl _) _) hB1 hB2⟩

def timB (a b : Int) : Bool := tmB a && (tmB b && decide (a ≤ b))

set_option maxHeartbeats 1000000 in
theorem timed_any (a b : Int) (w : World) :
    Calls Tryz.prog 172 #[.agg #[.int .i64 a, .int .i64 b]] w fun e w' => e = .returned (.bool (timB a b)) ∧ Below w.heap.size w w' := by
  cases h1 : tmB a
  · have HR := hid (show timB a b = false by unfold timB; rw [h1]; rfl)
    go_enter Tryz.func172, Tryz.ntmps172
    go_wp2_with (go_at_call 79; refine (goodTime_any _ _).mono ?_; rintro e w1 ⟨rfl, rfl⟩)
    go_ret
    exact ⟨ret_bool HR.out.symm, (Below.refl _ w).alloc (Nat.le_refl _) _⟩
  · cases h2 : tmB b
    · have HR := hid (show timB a b = false by unfold timB; rw [h1, h2]; rfl)
      go_enter Tryz.func172, Tryz.ntmps172
      go_wp2_with (go_at_call 79; refine (goodTime_any _ _).mono ?_; rintro e w1 ⟨rfl, rfl⟩)
      go_ret
      exact ⟨ret_bool HR.out.symm, (Below.refl _ w).alloc (Nat.le_refl _) _⟩
    · cases h3 : decide (a ≤ b)
      · have HR := hid (show timB a b = false by unfold timB; rw [h1, h2, h3]; rfl)
        go_enter Tryz.func172, Tryz.ntmps172
        go_wp2_with (go_at_call 79; refine (goodTime_any _ _).mono ?_; rintro e w1 ⟨rfl, rfl⟩)
        go_ret
        exact ⟨ret_bool HR.out.symm, (Below.refl _ w).alloc (Nat.le_refl _) _⟩
      · have HR := hid (show timB a b = true by unfold timB; rw [h1, h2, h3]; rfl)
        go_enter Tryz.func172, Tryz.ntmps172
        go_wp2_with (go_at_call 79; refine (goodTime_any _ _).mono ?_; rintro e w1 ⟨rfl, rfl⟩)
        go_ret
        exact ⟨ret_bool HR.out.symm, (Below.refl _ w).alloc (Nat.le_refl _) _⟩

theorem good_parts (k : Lk) : k.good = ((nmOk k.who && nmOk k.to) && (timB k.fr k.un && seB k.se)) := by
  unfold Lk.good timB
  cases nmOk k.who <;> cases nmOk k.to <;> cases seB k.se <;> cases tmB k.fr <;> cases tmB k.un <;> cases decide (k.fr ≤ k.un) <;> rfl

set_option maxHeartbeats 1000000 in
theorem hopGood_any (k : Lk) (w : World) (hs : k.who.size ≤ 1048576) (ht : k.to.size ≤ 1048576) :
    Calls Tryz.prog 148 #[k.hop] w fun e w' => e = .returned (.bool k.good) ∧ Below w.heap.size w w' := by
  have HP := hid (good_parts k)
  cases h1 : (nmOk k.who && nmOk k.to)
  · have HR := hid (show k.good = false by rw [HP.out, h1]; rfl)
    go_enter Tryz.func148, Tryz.ntmps148
    go_wp2_with (first | (go_at_call 171; refine (named_any k.who k.to _ hs ht).mono ?_; rintro e w1 ⟨rfl, hB1⟩; obtain ⟨hc1, hf1⟩ := bcell hB1; have hz : w.heap.size < w1.heap.size := (by have := hB1.size; simp at this; omega)) | (go_at_call 172; refine (timed_any k.fr k.un _).mono ?_; rintro e w2 ⟨rfl, hB2⟩; obtain ⟨hc2, hf2⟩ := bcell hB2; have hz2 := Nat.lt_of_lt_of_le hz hB2.size) | (go_at_call 110; refine (goodSerial_any _ _).mono ?_; rintro e w3 ⟨rfl, rfl⟩))
    go_ret
    exact ⟨ret_bool HR.out.symm, below_one ((Below.refl _ w).alloc (Nat.le_refl _) _) hB1⟩
  · cases h2 : timB k.fr k.un
    · have HR := hid (show k.good = false by rw [HP.out, h1, h2]; rfl)
      go_enter Tryz.func148, Tryz.ntmps148
      go_wp2_with (first | (go_at_call 171; refine (named_any k.who k.to _ hs ht).mono ?_; rintro e w1 ⟨rfl, hB1⟩; obtain ⟨hc1, hf1⟩ := bcell hB1; have hz : w.heap.size < w1.heap.size := (by have := hB1.size; simp at this; omega)) | (go_at_call 172; refine (timed_any k.fr k.un _).mono ?_; rintro e w2 ⟨rfl, hB2⟩; obtain ⟨hc2, hf2⟩ := bcell hB2; have hz2 := Nat.lt_of_lt_of_le hz hB2.size) | (go_at_call 110; refine (goodSerial_any _ _).mono ?_; rintro e w3 ⟨rfl, rfl⟩))
      go_ret
      exact ⟨ret_bool HR.out.symm, below_two ((Below.refl _ w).alloc (Nat.le_refl _) _) hB1 hB2⟩
    · have HR := hid (show k.good = seB k.se by rw [HP.out, h1, h2]; rfl)
      go_enter Tryz.func148, Tryz.ntmps148
      go_wp2_with (first | (go_at_call 171; refine (named_any k.who k.to _ hs ht).mono ?_; rintro e w1 ⟨rfl, hB1⟩; obtain ⟨hc1, hf1⟩ := bcell hB1; have hz : w.heap.size < w1.heap.size := (by have := hB1.size; simp at this; omega)) | (go_at_call 172; refine (timed_any k.fr k.un _).mono ?_; rintro e w2 ⟨rfl, hB2⟩; obtain ⟨hc2, hf2⟩ := bcell hB2; have hz2 := Nat.lt_of_lt_of_le hz hB2.size) | (go_at_call 110; refine (goodSerial_any _ _).mono ?_; rintro e w3 ⟨rfl, rfl⟩))
      go_ret
      exact ⟨ret_bool HR.out.symm, below_two ((Below.refl _ w).alloc (Nat.le_refl _) _) hB1 hB2⟩

end Go.Proofs.YtnbojbcljfiamaaGreatDoor

namespace Go.Proofs.YtnbojbcljfiamaaGreatDoor
open Go.RowKit Go.Shelf

theorem l3Time_any (n : Int) (w : World) :
    Calls Tryz.prog 102 #[.int .i64 n] w fun e w' => e = .returned (.bool (tmB n)) ∧ w' = w := by
  go_enter Tryz.func102, Tryz.ntmps102
  go_wp2_with (go_at_call 64; refine (l1In_any n 0 100000 _).mono ?_; rintro e w1 ⟨rfl, rfl⟩)
  go_ret
  exact ⟨ret_bool (show inB 0 100000 n = tmB n from rfl), rfl⟩

theorem l3Serial_any (n : Int) (w : World) :
    Calls Tryz.prog 66 #[.int .i64 n] w fun e w' => e = .returned (.bool (seB n)) ∧ w' = w := by
  go_enter Tryz.func66, Tryz.ntmps66
  go_wp2_with (go_at_call 64; refine (l1In_any n 1 100000 _).mono ?_; rintro e w1 ⟨rfl, rfl⟩)
  go_ret
  exact ⟨ret_bool (show inB 1 100000 n = seB n from rfl), rfl⟩

set_option maxHeartbeats 1000000 in
theorem l3Link_any (k : Lk) (w : World) (hs : k.who.size ≤ 1048576) (ht : k.to.size ≤ 1048576) :
    Calls Tryz.prog 160 #[k.val] w fun e w' => e = .returned (.bool k.good) ∧ Below w.heap.size w w' := by
  cases h1 : gnB (split k.who 47)
  · have HR := hid (show k.good = false by unfold Lk.good nmOk; rw [h1]; rfl)
    go_enter Tryz.func160, Tryz.ntmps160
    go_wp2_with (first | (go_at_call 103; first | (have hz1 := hz; refine (specGoodName_any k.to _ ht).mono ?_; rintro e w2 ⟨rfl, hB2⟩; obtain ⟨hc2, hf2⟩ := bcell hB2; have hz2 := Nat.lt_of_lt_of_le hz hB2.size) | (refine (specGoodName_any k.who _ hs).mono ?_; rintro e w1 ⟨rfl, hB1⟩; obtain ⟨hc1, hf1⟩ := bcell hB1; have hz : w.heap.size < w1.heap.size := (by have := hB1.size; simp at this; omega))) | (go_at_call 66; refine (l3Serial_any _ _).mono ?_; rintro e w3 ⟨rfl, rfl⟩) | (go_at_call 102; refine (l3Time_any _ _).mono ?_; rintro e w3 ⟨rfl, rfl⟩))
    go_ret
    exact ⟨ret_bool HR.out.symm, below_one ((Below.refl _ w).alloc (Nat.le_refl _) _) hB1⟩
  · cases h2 : gnB (split k.to 47)
    · have HR := hid (show k.good = false by unfold Lk.good nmOk; rw [h1, h2]; rfl)
      go_enter Tryz.func160, Tryz.ntmps160
      go_wp2_with (first | (go_at_call 103; first | (have hz1 := hz; refine (specGoodName_any k.to _ ht).mono ?_; rintro e w2 ⟨rfl, hB2⟩; obtain ⟨hc2, hf2⟩ := bcell hB2; have hz2 := Nat.lt_of_lt_of_le hz hB2.size) | (refine (specGoodName_any k.who _ hs).mono ?_; rintro e w1 ⟨rfl, hB1⟩; obtain ⟨hc1, hf1⟩ := bcell hB1; have hz : w.heap.size < w1.heap.size := (by have := hB1.size; simp at this; omega))) | (go_at_call 66; refine (l3Serial_any _ _).mono ?_; rintro e w3 ⟨rfl, rfl⟩) | (go_at_call 102; refine (l3Time_any _ _).mono ?_; rintro e w3 ⟨rfl, rfl⟩))
      go_ret
      exact ⟨ret_bool HR.out.symm, below_two ((Below.refl _ w).alloc (Nat.le_refl _) _) hB1 hB2⟩
    · cases h3 : seB k.se
      · have HR := hid (show k.good = false by unfold Lk.good nmOk; rw [h1, h2, h3]; rfl)
        go_enter Tryz.func160, Tryz.ntmps160
        go_wp2_with (first | (go_at_call 103; first | (have hz1 := hz; refine (specGoodName_any k.to _ ht).mono ?_; rintro e w2 ⟨rfl, hB2⟩; obtain ⟨hc2, hf2⟩ := bcell hB2; have hz2 := Nat.lt_of_lt_of_le hz hB2.size) | (refine (specGoodName_any k.who _ hs).mono ?_; rintro e w1 ⟨rfl, hB1⟩; obtain ⟨hc1, hf1⟩ := bcell hB1; have hz : w.heap.size < w1.heap.size := (by have := hB1.size; simp at this; omega))) | (go_at_call 66; refine (l3Serial_any _ _).mono ?_; rintro e w3 ⟨rfl, rfl⟩) | (go_at_call 102; refine (l3Time_any _ _).mono ?_; rintro e w3 ⟨rfl, rfl⟩))
        go_ret
        exact ⟨ret_bool HR.out.symm, below_two ((Below.refl _ w).alloc (Nat.le_refl _) _) hB1 hB2⟩
      · cases h4 : tmB k.fr
        · have HR := hid (show k.good = false by unfold Lk.good nmOk; rw [h1, h2, h3, h4]; rfl)
          go_enter Tryz.func160, Tryz.ntmps160
          go_wp2_with (first | (go_at_call 103; first | (have hz1 := hz; refine (specGoodName_any k.to _ ht).mono ?_; rintro e w2 ⟨rfl, hB2⟩; obtain ⟨hc2, hf2⟩ := bcell hB2; have hz2 := Nat.lt_of_lt_of_le hz hB2.size) | (refine (specGoodName_any k.who _ hs).mono ?_; rintro e w1 ⟨rfl, hB1⟩; obtain ⟨hc1, hf1⟩ := bcell hB1; have hz : w.heap.size < w1.heap.size := (by have := hB1.size; simp at this; omega))) | (go_at_call 66; refine (l3Serial_any _ _).mono ?_; rintro e w3 ⟨rfl, rfl⟩) | (go_at_call 102; refine (l3Time_any _ _).mono ?_; rintro e w3 ⟨rfl, rfl⟩))
          go_ret
          exact ⟨ret_bool HR.out.symm, below_two ((Below.refl _ w).alloc (Nat.le_refl _) _) hB1 hB2⟩
        · cases h5 : tmB k.un
          · have HR := hid (show k.good = false by unfold Lk.good nmOk; rw [h1, h2, h3, h4, h5]; rfl)
            go_enter Tryz.func160, Tryz.ntmps160
            go_wp2_with (first | (go_at_call 103; first | (have hz1 := hz; refine (specGoodName_any k.to _ ht).mono ?_; rintro e w2 ⟨rfl, hB2⟩; obtain ⟨hc2, hf2⟩ := bcell hB2; have hz2 := Nat.lt_of_lt_of_le hz hB2.size) | (refine (specGoodName_any k.who _ hs).mono ?_; rintro e w1 ⟨rfl, hB1⟩; obtain ⟨hc1, hf1⟩ := bcell hB1; have hz : w.heap.size < w1.heap.size := (by have := hB1.size; simp at this; omega))) | (go_at_call 66; refine (l3Serial_any _ _).mono ?_; rintro e w3 ⟨rfl, rfl⟩) | (go_at_call 102; refine (l3Time_any _ _).mono ?_; rintro e w3 ⟨rfl, rfl⟩))
            go_ret
            exact ⟨ret_bool HR.out.symm, below_two ((Below.refl _ w).alloc (Nat.le_refl _) _) hB1 hB2⟩
          · cases h6 : decide (k.fr ≤ k.un)
            · have HR := hid (show k.good = false by unfold Lk.good nmOk; rw [h1, h2, h3, h4, h5, h6]; rfl)
              go_enter Tryz.func160, Tryz.ntmps160
              go_wp2_with (first | (go_at_call 103; first | (have hz1 := hz; refine (specGoodName_any k.to _ ht).mono ?_; rintro e w2 ⟨rfl, hB2⟩; obtain ⟨hc2, hf2⟩ := bcell hB2; have hz2 := Nat.lt_of_lt_of_le hz hB2.size) | (refine (specGoodName_any k.who _ hs).mono ?_; rintro e w1 ⟨rfl, hB1⟩; obtain ⟨hc1, hf1⟩ := bcell hB1; have hz : w.heap.size < w1.heap.size := (by have := hB1.size; simp at this; omega))) | (go_at_call 66; refine (l3Serial_any _ _).mono ?_; rintro e w3 ⟨rfl, rfl⟩) | (go_at_call 102; refine (l3Time_any _ _).mono ?_; rintro e w3 ⟨rfl, rfl⟩))
              go_ret
              exact ⟨ret_bool HR.out.symm, below_two ((Below.refl _ w).alloc (Nat.le_refl _) _) hB1 hB2⟩
            · have HR := hid (show k.good = true by unfold Lk.good nmOk; rw [h1, h2, h3, h4, h5, h6]; rfl)
              go_enter Tryz.func160, Tryz.ntmps160
              go_wp2_with (first | (go_at_call 103; first | (have hz1 := hz; refine (specGoodName_any k.to _ ht).mono ?_; rintro e w2 ⟨rfl, hB2⟩; obtain ⟨hc2, hf2⟩ := bcell hB2; have hz2 := Nat.lt_of_lt_of_le hz hB2.size) | (refine (specGoodName_any k.who _ hs).mono ?_; rintro e w1 ⟨rfl, hB1⟩; obtain ⟨hc1, hf1⟩ := bcell hB1; have hz : w.heap.size < w1.heap.size := (by have := hB1.size; simp at this; omega))) | (go_at_call 66; refine (l3Serial_any _ _).mono ?_; rintro e w3 ⟨rfl, rfl⟩) | (go_at_call 102; refine (l3Time_any _ _).mono ?_; rintro e w3 ⟨rfl, rfl⟩))
              go_ret
              exact ⟨ret_bool HR.out.symm, below_two ((Below.refl _ w).alloc (Nat.le_refl _) _) hB1 hB2⟩

end Go.Proofs.YtnbojbcljfiamaaGreatDoor

namespace Go.Proofs.YtnbojbcljfiamaaGreatDoor
open Go.RowKit Go.Shelf

theorem cell_old {w w1 : World} {o : Obj} (h : Below (w.alloc o).heap.size (w.alloc o).drew w1) {b i : Nat} (hb : b < w.heap.size) : w1.cell? ⟨b, i, none⟩ = w.cell? ⟨b, i, none⟩ :=
  ((below_drew1 h).cell (p := ⟨b, i, none⟩) (by simp; omega)).trans (((Below.refl w.heap.size w).alloc (Nat.le_refl _) o).cell (p := ⟨b, i, none⟩) hb)

set_option maxHeartbeats 2000000 in
theorem specGoodToken_fit (v : Value) (ks : List Lk) (w : World) (hm : ks.length ≤ 1048577) (hf : ∀ k ∈ ks, k.who.size ≤ 1048576 ∧ k.to.size ≤ 1048576) (hr : LkS w v ks) :
    Calls Tryz.prog 132 #[v] w fun e w' => e = .returned (.bool (tkB ks)) ∧ Below w.heap.size w w' := by
  obtain ⟨a, cap, rfl⟩ := hr.len
  go_enter Tryz.func132, Tryz.ntmps132
  go_wp2
  go_loopw [7] (fun i wr => ∃ n : Nat, n ≤ ks.length ∧ i = .int .i64 n ∧ tkTo ks n = true ∧ Below w.heap.size w wr) (fun i _ => ks.length - (intOf i).toNat)
  case atStart => exact ⟨0, Nat.zero_le _, rfl, tkTo_zero _, Below.refl _ _⟩
  case round =>
    obtain ⟨n, hn, rfl, ht, hB⟩ := hrel
    have HT := hid ht
    clear ht
    by_cases hlt : n < ks.length
    · obtain ⟨b, off, rfl, hb, hcap, q0, q1, q2, q3, q4⟩ := (hr.below hB).at hlt
      have hz := hf ks[n] (List.getElem_mem hlt)
      have HS := hid (tkTo_succ ks n)
      have HBd := hid (fun h => tk_bad (ks := ks) (n := n) hlt h)
      by_cases hn0 : n = 0
      · have HA := hid (show lkAt ks n = ks[n].good by subst hn0; exact lkAt_zero hlt)
        have dn : decide (0 < n) = false := by simp; omega
        clear hn0
        generalize ks[n] = k at *
        have hs1 : k.who.size ≤ 1048576 := hz.1
        have hs2 : k.to.size ≤ 1048576 := hz.2
        cases hg : k.good
        · have HR := hid (HBd.out (by rw [HA.out, hg]))
          go_wp2_with fail
          refine wp_region_held_drew (S := fun w' => w'.cell? ⟨wr.heap.size, 0, none⟩ = some (.string k.who) ∧ w'.cell? ⟨wr.heap.size, 1, none⟩ = some (.string k.to) ∧ w'.cell? ⟨wr.heap.size, 2, none⟩ = some (.int .i64 k.se) ∧ w'.cell? ⟨wr.heap.size, 3, none⟩ = some (.int .i64 k.fr) ∧ w'.cell? ⟨wr.heap.size, 4, none⟩ = some (.int .i64 k.un)) (by kernel_rfl) ?_ (fun hHeld => ?_)
          · go_keep
          refine takeW 0 (v := ?v1) rfl (by kernel_rfl) (by kernel_rfl) (by kernel_rfl) (fun _ _ _ h => h) (by rfl) (by assumption) ?hy1 ?rest1
          case hy1 => intro w' hSw; (try dsimp only at hSw); go_simp; try with_reducible rfl
          try simp only [Act.put, List.setIfInBounds_toArray, List.set_cons_zero, List.set_cons_succ]
          refine takeC 1 (by kernel_rfl) rfl (fun K hK => ?_)
          go_simp
          refine (l3Link_any k _ hs1 hs2).mono ?_; rintro e w1 ⟨he1, hB1⟩; rw [hg] at he1; subst he1; have hcn := fun o => hB1.cell (p := ⟨wr.heap.size, o, none⟩) (by simp); have hcb := fun o => cell_old hB1 (b := b) (i := o) hb
          refine hK.out _ _ ?_ (fun hHeld => ?_)
          · go_keep
          clear hK K
          try simp only [Act.put, List.setIfInBounds_toArray, List.set_cons_zero, List.set_cons_succ]
          refine takeW 2 (v := ?v2) rfl (by kernel_rfl) (by kernel_rfl) (by kernel_rfl) (fun _ _ _ h => h) (by rfl) (by assumption) ?hy2 ?rest2
          case hy2 => intro w' hSw; (try dsimp only at hSw); go_simp; try with_reducible rfl
          try simp only [Act.put, List.setIfInBounds_toArray, List.set_cons_zero, List.set_cons_succ]
          refine takeW 3 (v := ?v3) rfl (by kernel_rfl) (by kernel_rfl) (by kernel_rfl) (fun _ _ _ h => h) (by rfl) (by assumption) ?hy3 ?rest3
          case hy3 => intro w' hSw; (try dsimp only at hSw); go_simp; try with_reducible rfl
          try simp only [Act.put, List.setIfInBounds_toArray, List.set_cons_zero, List.set_cons_succ]
          refine takeX 4 rfl (by kernel_rfl) (by kernel_rfl) (by kernel_rfl) (fun _ _ _ h => h) (by rfl) (by assumption) ?_
          try simp only [Act.put, List.setIfInBounds_toArray, List.set_cons_zero, List.set_cons_succ]
          refine takeX 5 rfl (by kernel_rfl) (by kernel_rfl) (by kernel_rfl) (fun _ _ _ h => h) (by rfl) (by assumption) ?_
          try simp only [Act.put, List.setIfInBounds_toArray, List.set_cons_zero, List.set_cons_succ]
          refine takeX 6 rfl (by kernel_rfl) (by kernel_rfl) (by kernel_rfl) (fun _ _ _ h => h) (by rfl) (by assumption) ?_
          try simp only [Act.put, List.setIfInBounds_toArray, List.set_cons_zero, List.set_cons_succ]
          refine takeX 7 rfl (by kernel_rfl) (by kernel_rfl) (by kernel_rfl) (fun _ _ _ h => h) (by rfl) (by assumption) ?_
          try simp only [Act.put, List.setIfInBounds_toArray, List.set_cons_zero, List.set_cons_succ]
          refine takeX 8 rfl (by kernel_rfl) (by kernel_rfl) (by kernel_rfl) (fun _ _ _ h => h) (by rfl) (by assumption) ?_
          try simp only [Act.put, List.setIfInBounds_toArray, List.set_cons_zero, List.set_cons_succ]
          refine takeX 9 rfl (by kernel_rfl) (by kernel_rfl) (by kernel_rfl) (fun _ _ _ h => h) (by rfl) (by assumption) ?_
          try simp only [Act.put, List.setIfInBounds_toArray, List.set_cons_zero, List.set_cons_succ]
          refine takeX 10 rfl (by kernel_rfl) (by kernel_rfl) (by kernel_rfl) (fun _ _ _ h => h) (by rfl) (by assumption) ?_
          try simp only [Act.put, List.setIfInBounds_toArray, List.set_cons_zero, List.set_cons_succ]
          refine takeX 11 rfl (by kernel_rfl) (by kernel_rfl) (by kernel_rfl) (fun _ _ _ h => h) (by rfl) (by assumption) ?_
          try simp only [Act.put, List.setIfInBounds_toArray, List.set_cons_zero, List.set_cons_succ]
          refine takeX 12 rfl (by kernel_rfl) (by kernel_rfl) (by kernel_rfl) (fun _ _ _ h => h) (by rfl) (by assumption) ?_
          try simp only [Act.put, List.setIfInBounds_toArray, List.set_cons_zero, List.set_cons_succ]
          refine takeX 13 rfl (by kernel_rfl) (by kernel_rfl) (by kernel_rfl) (fun _ _ _ h => h) (by rfl) (by assumption) ?_
          try simp only [Act.put, List.setIfInBounds_toArray, List.set_cons_zero, List.set_cons_succ]
          refine takeX 14 rfl (by kernel_rfl) (by kernel_rfl) (by kernel_rfl) (fun _ _ _ h => h) (by rfl) (by assumption) ?_
          try simp only [Act.put, List.setIfInBounds_toArray, List.set_cons_zero, List.set_cons_succ]
          refine takeX 15 rfl (by kernel_rfl) (by kernel_rfl) (by kernel_rfl) (fun _ _ _ h => h) (by rfl) (by assumption) ?_
          try simp only [Act.put, List.setIfInBounds_toArray, List.set_cons_zero, List.set_cons_succ]
          refine takeX 16 rfl (by kernel_rfl) (by kernel_rfl) (by kernel_rfl) (fun _ _ _ h => h) (by rfl) (by assumption) ?_
          try simp only [Act.put, List.setIfInBounds_toArray, List.set_cons_zero, List.set_cons_succ]
          refine takeW 17 (v := ?v4) rfl (by kernel_rfl) (by kernel_rfl) (by kernel_rfl) (fun _ _ _ h => h) (by rfl) (by assumption) ?hy4 ?rest4
          case hy4 => intro w' hSw; (try dsimp only at hSw); go_simp; try with_reducible rfl
          try simp only [Act.put, List.setIfInBounds_toArray, List.set_cons_zero, List.set_cons_succ]
          refine wpAnyH_done (by kernel_rfl) ?_ _
          have hB2 := below_one hB (below_one ((Below.refl _ wr).alloc (Nat.le_refl _) _) (below_drew1 hB1))
          clear hcn hcb hB1 hHeld
          go_wp2
          go_ret
          exact ⟨ret_bool HR.out.symm, hB2⟩
        · have HR := hid (show tkTo ks (n + 1) = true by rw [HS.out, HT.out, HA.out, hg]; rfl)
          go_wp2_with fail
          refine wp_region_held_drew (S := fun w' => w'.cell? ⟨wr.heap.size, 0, none⟩ = some (.string k.who) ∧ w'.cell? ⟨wr.heap.size, 1, none⟩ = some (.string k.to) ∧ w'.cell? ⟨wr.heap.size, 2, none⟩ = some (.int .i64 k.se) ∧ w'.cell? ⟨wr.heap.size, 3, none⟩ = some (.int .i64 k.fr) ∧ w'.cell? ⟨wr.heap.size, 4, none⟩ = some (.int .i64 k.un)) (by kernel_rfl) ?_ (fun hHeld => ?_)
          · go_keep
          refine takeW 0 (v := ?v5) rfl (by kernel_rfl) (by kernel_rfl) (by kernel_rfl) (fun _ _ _ h => h) (by rfl) (by assumption) ?hy5 ?rest5
          case hy5 => intro w' hSw; (try dsimp only at hSw); go_simp; try with_reducible rfl
          try simp only [Act.put, List.setIfInBounds_toArray, List.set_cons_zero, List.set_cons_succ]
          refine takeC 1 (by kernel_rfl) rfl (fun K hK => ?_)
          go_simp
          refine (l3Link_any k _ hs1 hs2).mono ?_; rintro e w1 ⟨he1, hB1⟩; rw [hg] at he1; subst he1; have hcn := fun o => hB1.cell (p := ⟨wr.heap.size, o, none⟩) (by simp); have hcb := fun o => cell_old hB1 (b := b) (i := o) hb
          refine hK.out _ _ ?_ (fun hHeld => ?_)
          · go_keep
          clear hK K
          try simp only [Act.put, List.setIfInBounds_toArray, List.set_cons_zero, List.set_cons_succ]
          refine takeW 2 (v := ?v6) rfl (by kernel_rfl) (by kernel_rfl) (by kernel_rfl) (fun _ _ _ h => h) (by rfl) (by assumption) ?hy6 ?rest6
          case hy6 => intro w' hSw; (try dsimp only at hSw); go_simp; try with_reducible rfl
          try simp only [Act.put, List.setIfInBounds_toArray, List.set_cons_zero, List.set_cons_succ]
          refine takeW 3 (v := ?v7) rfl (by kernel_rfl) (by kernel_rfl) (by kernel_rfl) (fun _ _ _ h => h) (by rfl) (by assumption) ?hy7 ?rest7
          case hy7 => intro w' hSw; (try dsimp only at hSw); go_simp; try with_reducible rfl
          try simp only [Act.put, List.setIfInBounds_toArray, List.set_cons_zero, List.set_cons_succ]
          refine takeW 4 (v := ?v8) rfl (by kernel_rfl) (by kernel_rfl) (by kernel_rfl) (fun _ _ _ h => h) (by rfl) (by assumption) ?hy8 ?rest8
          case hy8 => intro w' hSw; (try dsimp only at hSw); go_simp; try with_reducible rfl
          try simp only [Act.put, List.setIfInBounds_toArray, List.set_cons_zero, List.set_cons_succ]
          refine takeW 5 (v := ?v9) rfl (by kernel_rfl) (by kernel_rfl) (by kernel_rfl) (fun _ _ _ h => h) (by rfl) (by assumption) ?hy9 ?rest9
          case hy9 => intro w' hSw; (try dsimp only at hSw); go_simp; try with_reducible rfl
          try simp only [Act.put, List.setIfInBounds_toArray, List.set_cons_zero, List.set_cons_succ]
          refine takeW 6 (v := ?v10) rfl (by kernel_rfl) (by kernel_rfl) (by kernel_rfl) (fun _ _ _ h => h) (by rfl) (by assumption) ?hy10 ?rest10
          case hy10 => intro w' hSw; (try dsimp only at hSw); go_simp; try with_reducible rfl
          try simp only [Act.put, List.setIfInBounds_toArray, List.set_cons_zero, List.set_cons_succ]
          refine takeX 7 rfl (by kernel_rfl) (by kernel_rfl) (by kernel_rfl) (fun _ _ _ h => h) (by rfl) (by assumption) ?_
          try simp only [Act.put, List.setIfInBounds_toArray, List.set_cons_zero, List.set_cons_succ]
          refine takeX 8 rfl (by kernel_rfl) (by kernel_rfl) (by kernel_rfl) (fun _ _ _ h => h) (by rfl) (by assumption) ?_
          try simp only [Act.put, List.setIfInBounds_toArray, List.set_cons_zero, List.set_cons_succ]
          refine takeX 9 rfl (by kernel_rfl) (by kernel_rfl) (by kernel_rfl) (fun _ _ _ h => h) (by rfl) (by assumption) ?_
          try simp only [Act.put, List.setIfInBounds_toArray, List.set_cons_zero, List.set_cons_succ]
          refine takeX 10 rfl (by kernel_rfl) (by kernel_rfl) (by kernel_rfl) (fun _ _ _ h => h) (by rfl) (by assumption) ?_
          try simp only [Act.put, List.setIfInBounds_toArray, List.set_cons_zero, List.set_cons_succ]
          refine takeX 11 rfl (by kernel_rfl) (by kernel_rfl) (by kernel_rfl) (fun _ _ _ h => h) (by rfl) (by assumption) ?_
          try simp only [Act.put, List.setIfInBounds_toArray, List.set_cons_zero, List.set_cons_succ]
          refine takeX 12 rfl (by kernel_rfl) (by kernel_rfl) (by kernel_rfl) (fun _ _ _ h => h) (by rfl) (by assumption) ?_
          try simp only [Act.put, List.setIfInBounds_toArray, List.set_cons_zero, List.set_cons_succ]
          refine takeX 13 rfl (by kernel_rfl) (by kernel_rfl) (by kernel_rfl) (fun _ _ _ h => h) (by rfl) (by assumption) ?_
          try simp only [Act.put, List.setIfInBounds_toArray, List.set_cons_zero, List.set_cons_succ]
          refine takeX 14 rfl (by kernel_rfl) (by kernel_rfl) (by kernel_rfl) (fun _ _ _ h => h) (by rfl) (by assumption) ?_
          try simp only [Act.put, List.setIfInBounds_toArray, List.set_cons_zero, List.set_cons_succ]
          refine takeX 15 rfl (by kernel_rfl) (by kernel_rfl) (by kernel_rfl) (fun _ _ _ h => h) (by rfl) (by assumption) ?_
          try simp only [Act.put, List.setIfInBounds_toArray, List.set_cons_zero, List.set_cons_succ]
          refine takeW 16 (v := ?v11) rfl (by kernel_rfl) (by kernel_rfl) (by kernel_rfl) (fun _ _ _ h => h) (by rfl) (by assumption) ?hy11 ?rest11
          case hy11 => intro w' hSw; (try dsimp only at hSw); go_simp; try with_reducible rfl
          try simp only [Act.put, List.setIfInBounds_toArray, List.set_cons_zero, List.set_cons_succ]
          refine takeW 17 (v := ?v12) rfl (by kernel_rfl) (by kernel_rfl) (by kernel_rfl) (fun _ _ _ h => h) (by rfl) (by assumption) ?hy12 ?rest12
          case hy12 => intro w' hSw; (try dsimp only at hSw); go_simp; try with_reducible rfl
          try simp only [Act.put, List.setIfInBounds_toArray, List.set_cons_zero, List.set_cons_succ]
          refine wpAnyH_done (by kernel_rfl) ?_ _
          have hB2 := below_one hB (below_one ((Below.refl _ wr).alloc (Nat.le_refl _) _) (below_drew1 hB1))
          clear hcn hcb hB1 hHeld
          go_wp2
          go_roundw
          case rel => first | exact ⟨n + 1, by omega, by go_num, HR.out, hB2⟩ | ((repeat apply Exists.intro); exact ⟨⟨n + 1, by omega, by go_num, HR.out, hB2⟩, rfl⟩)
          case measure => simp [intOf]; omega
      · obtain ⟨m, rfl⟩ : ∃ m, n = m + 1 := ⟨n - 1, by omega⟩
        have hltm : m < ks.length := by omega
        obtain ⟨b', off', he, _, _, _, p1, _, _, _⟩ := (hr.below hB).at hltm
        cases he
        have HA := hid (lkAt_succ hlt)
        generalize ks[m + 1] = k at *
        generalize ks[m] = p at *
        have hs1 : k.who.size ≤ 1048576 := hz.1
        have hs2 : k.to.size ≤ 1048576 := hz.2
        have hw1 : IntKind.i64.wrap (m : Int) = (m : Int) := by rw [IntKind.wrap_i64]; omega
        have hw2 : (m : Int) < (ks.length : Int) := by omega
        cases hg : k.good
        · have HR := hid (HBd.out (by rw [HA.out, hg]; rfl))
          go_wp2_with fail
          refine wp_region_held_drew (S := fun w' => w'.cell? ⟨wr.heap.size, 0, none⟩ = some (.string k.who) ∧ w'.cell? ⟨wr.heap.size, 1, none⟩ = some (.string k.to) ∧ w'.cell? ⟨wr.heap.size, 2, none⟩ = some (.int .i64 k.se) ∧ w'.cell? ⟨wr.heap.size, 3, none⟩ = some (.int .i64 k.fr) ∧ w'.cell? ⟨wr.heap.size, 4, none⟩ = some (.int .i64 k.un) ∧ w'.cell? ⟨b, off + m * 5 + 1, none⟩ = some (.string p.to)) (by kernel_rfl) ?_ (fun hHeld => ?_)
          · go_keep
          refine takeW 0 (v := ?v13) rfl (by kernel_rfl) (by kernel_rfl) (by kernel_rfl) (fun _ _ _ h => h) (by rfl) (by assumption) ?hy13 ?rest13
          case hy13 => intro w' hSw; (try dsimp only at hSw); go_simp; try with_reducible rfl
          try simp only [Act.put, List.setIfInBounds_toArray, List.set_cons_zero, List.set_cons_succ]
          refine takeC 1 (by kernel_rfl) rfl (fun K hK => ?_)
          go_simp
          refine (l3Link_any k _ hs1 hs2).mono ?_; rintro e w1 ⟨he1, hB1⟩; rw [hg] at he1; subst he1; have hcn := fun o => hB1.cell (p := ⟨wr.heap.size, o, none⟩) (by simp); have hcb := fun o => cell_old hB1 (b := b) (i := o) hb
          refine hK.out _ _ ?_ (fun hHeld => ?_)
          · go_keep
          clear hK K
          try simp only [Act.put, List.setIfInBounds_toArray, List.set_cons_zero, List.set_cons_succ]
          refine takeW 2 (v := ?v14) rfl (by kernel_rfl) (by kernel_rfl) (by kernel_rfl) (fun _ _ _ h => h) (by rfl) (by assumption) ?hy14 ?rest14
          case hy14 => intro w' hSw; (try dsimp only at hSw); go_simp; try with_reducible rfl
          try simp only [Act.put, List.setIfInBounds_toArray, List.set_cons_zero, List.set_cons_succ]
          refine takeW 3 (v := ?v15) rfl (by kernel_rfl) (by kernel_rfl) (by kernel_rfl) (fun _ _ _ h => h) (by rfl) (by assumption) ?hy15 ?rest15
          case hy15 => intro w' hSw; (try dsimp only at hSw); go_simp; try with_reducible rfl
          try simp only [Act.put, List.setIfInBounds_toArray, List.set_cons_zero, List.set_cons_succ]
          refine takeX 4 rfl (by kernel_rfl) (by kernel_rfl) (by kernel_rfl) (fun _ _ _ h => h) (by rfl) (by assumption) ?_
          try simp only [Act.put, List.setIfInBounds_toArray, List.set_cons_zero, List.set_cons_succ]
          refine takeX 5 rfl (by kernel_rfl) (by kernel_rfl) (by kernel_rfl) (fun _ _ _ h => h) (by rfl) (by assumption) ?_
          try simp only [Act.put, List.setIfInBounds_toArray, List.set_cons_zero, List.set_cons_succ]
          refine takeX 6 rfl (by kernel_rfl) (by kernel_rfl) (by kernel_rfl) (fun _ _ _ h => h) (by rfl) (by assumption) ?_
          try simp only [Act.put, List.setIfInBounds_toArray, List.set_cons_zero, List.set_cons_succ]
          refine takeX 7 rfl (by kernel_rfl) (by kernel_rfl) (by kernel_rfl) (fun _ _ _ h => h) (by rfl) (by assumption) ?_
          try simp only [Act.put, List.setIfInBounds_toArray, List.set_cons_zero, List.set_cons_succ]
          refine takeX 8 rfl (by kernel_rfl) (by kernel_rfl) (by kernel_rfl) (fun _ _ _ h => h) (by rfl) (by assumption) ?_
          try simp only [Act.put, List.setIfInBounds_toArray, List.set_cons_zero, List.set_cons_succ]
          refine takeX 9 rfl (by kernel_rfl) (by kernel_rfl) (by kernel_rfl) (fun _ _ _ h => h) (by rfl) (by assumption) ?_
          try simp only [Act.put, List.setIfInBounds_toArray, List.set_cons_zero, List.set_cons_succ]
          refine takeX 10 rfl (by kernel_rfl) (by kernel_rfl) (by kernel_rfl) (fun _ _ _ h => h) (by rfl) (by assumption) ?_
          try simp only [Act.put, List.setIfInBounds_toArray, List.set_cons_zero, List.set_cons_succ]
          refine takeX 11 rfl (by kernel_rfl) (by kernel_rfl) (by kernel_rfl) (fun _ _ _ h => h) (by rfl) (by assumption) ?_
          try simp only [Act.put, List.setIfInBounds_toArray, List.set_cons_zero, List.set_cons_succ]
          refine takeX 12 rfl (by kernel_rfl) (by kernel_rfl) (by kernel_rfl) (fun _ _ _ h => h) (by rfl) (by assumption) ?_
          try simp only [Act.put, List.setIfInBounds_toArray, List.set_cons_zero, List.set_cons_succ]
          refine takeX 13 rfl (by kernel_rfl) (by kernel_rfl) (by kernel_rfl) (fun _ _ _ h => h) (by rfl) (by assumption) ?_
          try simp only [Act.put, List.setIfInBounds_toArray, List.set_cons_zero, List.set_cons_succ]
          refine takeX 14 rfl (by kernel_rfl) (by kernel_rfl) (by kernel_rfl) (fun _ _ _ h => h) (by rfl) (by assumption) ?_
          try simp only [Act.put, List.setIfInBounds_toArray, List.set_cons_zero, List.set_cons_succ]
          refine takeX 15 rfl (by kernel_rfl) (by kernel_rfl) (by kernel_rfl) (fun _ _ _ h => h) (by rfl) (by assumption) ?_
          try simp only [Act.put, List.setIfInBounds_toArray, List.set_cons_zero, List.set_cons_succ]
          refine takeX 16 rfl (by kernel_rfl) (by kernel_rfl) (by kernel_rfl) (fun _ _ _ h => h) (by rfl) (by assumption) ?_
          try simp only [Act.put, List.setIfInBounds_toArray, List.set_cons_zero, List.set_cons_succ]
          refine takeW 17 (v := ?v16) rfl (by kernel_rfl) (by kernel_rfl) (by kernel_rfl) (fun _ _ _ h => h) (by rfl) (by assumption) ?hy16 ?rest16
          case hy16 => intro w' hSw; (try dsimp only at hSw); go_simp; try with_reducible rfl
          try simp only [Act.put, List.setIfInBounds_toArray, List.set_cons_zero, List.set_cons_succ]
          refine wpAnyH_done (by kernel_rfl) ?_ _
          have hB2 := below_one hB (below_one ((Below.refl _ wr).alloc (Nat.le_refl _) _) (below_drew1 hB1))
          clear hcn hcb hB1 hHeld
          go_wp2
          go_ret
          exact ⟨ret_bool HR.out.symm, hB2⟩
        · cases he : (p.to.toList == k.who.toList)
          · have HR := hid (HBd.out (by rw [HA.out, hg, he]; rfl))
            go_wp2_with fail
            refine wp_region_held_drew (S := fun w' => w'.cell? ⟨wr.heap.size, 0, none⟩ = some (.string k.who) ∧ w'.cell? ⟨wr.heap.size, 1, none⟩ = some (.string k.to) ∧ w'.cell? ⟨wr.heap.size, 2, none⟩ = some (.int .i64 k.se) ∧ w'.cell? ⟨wr.heap.size, 3, none⟩ = some (.int .i64 k.fr) ∧ w'.cell? ⟨wr.heap.size, 4, none⟩ = some (.int .i64 k.un) ∧ w'.cell? ⟨b, off + m * 5 + 1, none⟩ = some (.string p.to)) (by kernel_rfl) ?_ (fun hHeld => ?_)
            · go_keep
            refine takeW 0 (v := ?v17) rfl (by kernel_rfl) (by kernel_rfl) (by kernel_rfl) (fun _ _ _ h => h) (by rfl) (by assumption) ?hy17 ?rest17
            case hy17 => intro w' hSw; (try dsimp only at hSw); go_simp; try with_reducible rfl
            try simp only [Act.put, List.setIfInBounds_toArray, List.set_cons_zero, List.set_cons_succ]
            refine takeC 1 (by kernel_rfl) rfl (fun K hK => ?_)
            go_simp
            refine (l3Link_any k _ hs1 hs2).mono ?_; rintro e w1 ⟨he1, hB1⟩; rw [hg] at he1; subst he1; have hcn := fun o => hB1.cell (p := ⟨wr.heap.size, o, none⟩) (by simp); have hcb := fun o => cell_old hB1 (b := b) (i := o) hb
            refine hK.out _ _ ?_ (fun hHeld => ?_)
            · go_keep
            clear hK K
            try simp only [Act.put, List.setIfInBounds_toArray, List.set_cons_zero, List.set_cons_succ]
            refine takeW 2 (v := ?v18) rfl (by kernel_rfl) (by kernel_rfl) (by kernel_rfl) (fun _ _ _ h => h) (by rfl) (by assumption) ?hy18 ?rest18
            case hy18 => intro w' hSw; (try dsimp only at hSw); go_simp; try with_reducible rfl
            try simp only [Act.put, List.setIfInBounds_toArray, List.set_cons_zero, List.set_cons_succ]
            refine takeW 3 (v := ?v19) rfl (by kernel_rfl) (by kernel_rfl) (by kernel_rfl) (fun _ _ _ h => h) (by rfl) (by assumption) ?hy19 ?rest19
            case hy19 => intro w' hSw; (try dsimp only at hSw); go_simp; try with_reducible rfl
            try simp only [Act.put, List.setIfInBounds_toArray, List.set_cons_zero, List.set_cons_succ]
            refine takeW 4 (v := ?v20) rfl (by kernel_rfl) (by kernel_rfl) (by kernel_rfl) (fun _ _ _ h => h) (by rfl) (by assumption) ?hy20 ?rest20
            case hy20 => intro w' hSw; (try dsimp only at hSw); go_simp; try with_reducible rfl
            try simp only [Act.put, List.setIfInBounds_toArray, List.set_cons_zero, List.set_cons_succ]
            refine takeW 5 (v := ?v21) rfl (by kernel_rfl) (by kernel_rfl) (by kernel_rfl) (fun _ _ _ h => h) (by rfl) (by assumption) ?hy21 ?rest21
            case hy21 => intro w' hSw; (try dsimp only at hSw); go_simp; try with_reducible rfl
            try simp only [Act.put, List.setIfInBounds_toArray, List.set_cons_zero, List.set_cons_succ]
            refine takeW 6 (v := ?v22) rfl (by kernel_rfl) (by kernel_rfl) (by kernel_rfl) (fun _ _ _ h => h) (by rfl) (by assumption) ?hy22 ?rest22
            case hy22 => intro w' hSw; (try dsimp only at hSw); go_simp; try with_reducible rfl
            try simp only [Act.put, List.setIfInBounds_toArray, List.set_cons_zero, List.set_cons_succ]
            refine takeW 7 (v := ?v23) rfl (by kernel_rfl) (by kernel_rfl) (by kernel_rfl) (fun _ _ _ h => h) (by rfl) (by assumption) ?hy23 ?rest23
            case hy23 => intro w' hSw; (try dsimp only at hSw); go_simp; try with_reducible rfl
            try simp only [Act.put, List.setIfInBounds_toArray, List.set_cons_zero, List.set_cons_succ]
            refine takeW 8 (v := ?v24) rfl (by kernel_rfl) (by kernel_rfl) (by kernel_rfl) (fun _ _ _ h => h) (by rfl) (by assumption) ?hy24 ?rest24
            case hy24 => intro w' hSw; (try dsimp only at hSw); go_simp; try with_reducible rfl
            try simp only [Act.put, List.setIfInBounds_toArray, List.set_cons_zero, List.set_cons_succ]
            refine takeW 9 (v := ?v25) rfl (by kernel_rfl) (by kernel_rfl) (by kernel_rfl) (fun _ _ _ h => h) (by rfl) (by assumption) ?hy25 ?rest25
            case hy25 => intro w' hSw; (try dsimp only at hSw); go_simp; try with_reducible rfl
            try simp only [Act.put, List.setIfInBounds_toArray, List.set_cons_zero, List.set_cons_succ]
            refine takeW 10 (v := ?v26) rfl (by kernel_rfl) (by kernel_rfl) (by kernel_rfl) (fun _ _ _ h => h) (by rfl) (by assumption) ?hy26 ?rest26
            case hy26 => intro w' hSw; (try dsimp only at hSw); go_simp; try with_reducible rfl
            try simp only [Act.put, List.setIfInBounds_toArray, List.set_cons_zero, List.set_cons_succ]
            refine takeW 11 (v := ?v27) rfl (by kernel_rfl) (by kernel_rfl) (by kernel_rfl) (fun _ _ _ h => h) (by rfl) (by assumption) ?hy27 ?rest27
            case hy27 => intro w' hSw; (try dsimp only at hSw); go_simp; try with_reducible rfl
            try simp only [Act.put, List.setIfInBounds_toArray, List.set_cons_zero, List.set_cons_succ]
            refine takeW 12 (v := ?v28) rfl (by kernel_rfl) (by kernel_rfl) (by kernel_rfl) (fun _ _ _ h => h) (by rfl) (by assumption) ?hy28 ?rest28
            case hy28 => intro w' hSw; (try dsimp only at hSw); go_simp; try with_reducible rfl
            try simp only [Act.put, List.setIfInBounds_toArray, List.set_cons_zero, List.set_cons_succ]
            refine takeW 13 (v := ?v29) rfl (by kernel_rfl) (by kernel_rfl) (by kernel_rfl) (fun _ _ _ h => h) (by rfl) (by assumption) ?hy29 ?rest29
            case hy29 => intro w' hSw; (try dsimp only at hSw); go_simp; try with_reducible rfl
            try simp only [Act.put, List.setIfInBounds_toArray, List.set_cons_zero, List.set_cons_succ]
            refine takeW 14 (v := ?v30) rfl (by kernel_rfl) (by kernel_rfl) (by kernel_rfl) (fun _ _ _ h => h) (by rfl) (by assumption) ?hy30 ?rest30
            case hy30 => intro w' hSw; (try dsimp only at hSw); go_simp; try with_reducible rfl
            try simp only [Act.put, List.setIfInBounds_toArray, List.set_cons_zero, List.set_cons_succ]
            refine takeW 15 (v := ?v31) rfl (by kernel_rfl) (by kernel_rfl) (by kernel_rfl) (fun _ _ _ h => h) (by rfl) (by assumption) ?hy31 ?rest31
            case hy31 => intro w' hSw; (try dsimp only at hSw); go_simp; try with_reducible rfl
            try simp only [Act.put, List.setIfInBounds_toArray, List.set_cons_zero, List.set_cons_succ]
            refine takeW 16 (v := ?v32) rfl (by kernel_rfl) (by kernel_rfl) (by kernel_rfl) (fun _ _ _ h => h) (by rfl) (by assumption) ?hy32 ?rest32
            case hy32 => intro w' hSw; (try dsimp only at hSw); go_simp; try with_reducible rfl
            try simp only [Act.put, List.setIfInBounds_toArray, List.set_cons_zero, List.set_cons_succ]
            refine takeW 17 (v := ?v33) rfl (by kernel_rfl) (by kernel_rfl) (by kernel_rfl) (fun _ _ _ h => h) (by rfl) (by assumption) ?hy33 ?rest33
            case hy33 => intro w' hSw; (try dsimp only at hSw); go_simp; try with_reducible rfl
            try simp only [Act.put, List.setIfInBounds_toArray, List.set_cons_zero, List.set_cons_succ]
            refine wpAnyH_done (by kernel_rfl) ?_ _
            have hB2 := below_one hB (below_one ((Below.refl _ wr).alloc (Nat.le_refl _) _) (below_drew1 hB1))
            clear hcn hcb hB1 hHeld
            go_wp2
            go_ret
            exact ⟨ret_bool HR.out.symm, hB2⟩
          · have HR := hid (show tkTo ks (m + 1 + 1) = true by rw [HS.out, HT.out, HA.out, hg, he]; rfl)
            go_wp2_with fail
            refine wp_region_held_drew (S := fun w' => w'.cell? ⟨wr.heap.size, 0, none⟩ = some (.string k.who) ∧ w'.cell? ⟨wr.heap.size, 1, none⟩ = some (.string k.to) ∧ w'.cell? ⟨wr.heap.size, 2, none⟩ = some (.int .i64 k.se) ∧ w'.cell? ⟨wr.heap.size, 3, none⟩ = some (.int .i64 k.fr) ∧ w'.cell? ⟨wr.heap.size, 4, none⟩ = some (.int .i64 k.un) ∧ w'.cell? ⟨b, off + m * 5 + 1, none⟩ = some (.string p.to)) (by kernel_rfl) ?_ (fun hHeld => ?_)
            · go_keep
            refine takeW 0 (v := ?v34) rfl (by kernel_rfl) (by kernel_rfl) (by kernel_rfl) (fun _ _ _ h => h) (by rfl) (by assumption) ?hy34 ?rest34
            case hy34 => intro w' hSw; (try dsimp only at hSw); go_simp; try with_reducible rfl
            try simp only [Act.put, List.setIfInBounds_toArray, List.set_cons_zero, List.set_cons_succ]
            refine takeC 1 (by kernel_rfl) rfl (fun K hK => ?_)
            go_simp
            refine (l3Link_any k _ hs1 hs2).mono ?_; rintro e w1 ⟨he1, hB1⟩; rw [hg] at he1; subst he1; have hcn := fun o => hB1.cell (p := ⟨wr.heap.size, o, none⟩) (by simp); have hcb := fun o => cell_old hB1 (b := b) (i := o) hb
            refine hK.out _ _ ?_ (fun hHeld => ?_)
            · go_keep
            clear hK K
            try simp only [Act.put, List.setIfInBounds_toArray, List.set_cons_zero, List.set_cons_succ]
            refine takeW 2 (v := ?v35) rfl (by kernel_rfl) (by kernel_rfl) (by kernel_rfl) (fun _ _ _ h => h) (by rfl) (by assumption) ?hy35 ?rest35
            case hy35 => intro w' hSw; (try dsimp only at hSw); go_simp; try with_reducible rfl
            try simp only [Act.put, List.setIfInBounds_toArray, List.set_cons_zero, List.set_cons_succ]
            refine takeW 3 (v := ?v36) rfl (by kernel_rfl) (by kernel_rfl) (by kernel_rfl) (fun _ _ _ h => h) (by rfl) (by assumption) ?hy36 ?rest36
            case hy36 => intro w' hSw; (try dsimp only at hSw); go_simp; try with_reducible rfl
            try simp only [Act.put, List.setIfInBounds_toArray, List.set_cons_zero, List.set_cons_succ]
            refine takeW 4 (v := ?v37) rfl (by kernel_rfl) (by kernel_rfl) (by kernel_rfl) (fun _ _ _ h => h) (by rfl) (by assumption) ?hy37 ?rest37
            case hy37 => intro w' hSw; (try dsimp only at hSw); go_simp; try with_reducible rfl
            try simp only [Act.put, List.setIfInBounds_toArray, List.set_cons_zero, List.set_cons_succ]
            refine takeW 5 (v := ?v38) rfl (by kernel_rfl) (by kernel_rfl) (by kernel_rfl) (fun _ _ _ h => h) (by rfl) (by assumption) ?hy38 ?rest38
            case hy38 => intro w' hSw; (try dsimp only at hSw); go_simp; try with_reducible rfl
            try simp only [Act.put, List.setIfInBounds_toArray, List.set_cons_zero, List.set_cons_succ]
            refine takeW 6 (v := ?v39) rfl (by kernel_rfl) (by kernel_rfl) (by kernel_rfl) (fun _ _ _ h => h) (by rfl) (by assumption) ?hy39 ?rest39
            case hy39 => intro w' hSw; (try dsimp only at hSw); go_simp; try with_reducible rfl
            try simp only [Act.put, List.setIfInBounds_toArray, List.set_cons_zero, List.set_cons_succ]
            refine takeW 7 (v := ?v40) rfl (by kernel_rfl) (by kernel_rfl) (by kernel_rfl) (fun _ _ _ h => h) (by rfl) (by assumption) ?hy40 ?rest40
            case hy40 => intro w' hSw; (try dsimp only at hSw); go_simp; try with_reducible rfl
            try simp only [Act.put, List.setIfInBounds_toArray, List.set_cons_zero, List.set_cons_succ]
            refine takeW 8 (v := ?v41) rfl (by kernel_rfl) (by kernel_rfl) (by kernel_rfl) (fun _ _ _ h => h) (by rfl) (by assumption) ?hy41 ?rest41
            case hy41 => intro w' hSw; (try dsimp only at hSw); go_simp; try with_reducible rfl
            try simp only [Act.put, List.setIfInBounds_toArray, List.set_cons_zero, List.set_cons_succ]
            refine takeW 9 (v := ?v42) rfl (by kernel_rfl) (by kernel_rfl) (by kernel_rfl) (fun _ _ _ h => h) (by rfl) (by assumption) ?hy42 ?rest42
            case hy42 => intro w' hSw; (try dsimp only at hSw); go_simp; try with_reducible rfl
            try simp only [Act.put, List.setIfInBounds_toArray, List.set_cons_zero, List.set_cons_succ]
            refine takeW 10 (v := ?v43) rfl (by kernel_rfl) (by kernel_rfl) (by kernel_rfl) (fun _ _ _ h => h) (by rfl) (by assumption) ?hy43 ?rest43
            case hy43 => intro w' hSw; (try dsimp only at hSw); go_simp; try with_reducible rfl
            try simp only [Act.put, List.setIfInBounds_toArray, List.set_cons_zero, List.set_cons_succ]
            refine takeW 11 (v := ?v44) rfl (by kernel_rfl) (by kernel_rfl) (by kernel_rfl) (fun _ _ _ h => h) (by rfl) (by assumption) ?hy44 ?rest44
            case hy44 => intro w' hSw; (try dsimp only at hSw); go_simp; try with_reducible rfl
            try simp only [Act.put, List.setIfInBounds_toArray, List.set_cons_zero, List.set_cons_succ]
            refine takeW 12 (v := ?v45) rfl (by kernel_rfl) (by kernel_rfl) (by kernel_rfl) (fun _ _ _ h => h) (by rfl) (by assumption) ?hy45 ?rest45
            case hy45 => intro w' hSw; (try dsimp only at hSw); go_simp; try with_reducible rfl
            try simp only [Act.put, List.setIfInBounds_toArray, List.set_cons_zero, List.set_cons_succ]
            refine takeW 13 (v := ?v46) rfl (by kernel_rfl) (by kernel_rfl) (by kernel_rfl) (fun _ _ _ h => h) (by rfl) (by assumption) ?hy46 ?rest46
            case hy46 => intro w' hSw; (try dsimp only at hSw); go_simp; try with_reducible rfl
            try simp only [Act.put, List.setIfInBounds_toArray, List.set_cons_zero, List.set_cons_succ]
            refine takeW 14 (v := ?v47) rfl (by kernel_rfl) (by kernel_rfl) (by kernel_rfl) (fun _ _ _ h => h) (by rfl) (by assumption) ?hy47 ?rest47
            case hy47 => intro w' hSw; (try dsimp only at hSw); go_simp; try with_reducible rfl
            try simp only [Act.put, List.setIfInBounds_toArray, List.set_cons_zero, List.set_cons_succ]
            refine takeW 15 (v := ?v48) rfl (by kernel_rfl) (by kernel_rfl) (by kernel_rfl) (fun _ _ _ h => h) (by rfl) (by assumption) ?hy48 ?rest48
            case hy48 => intro w' hSw; (try dsimp only at hSw); go_simp; try with_reducible rfl
            try simp only [Act.put, List.setIfInBounds_toArray, List.set_cons_zero, List.set_cons_succ]
            refine takeW 16 (v := ?v49) rfl (by kernel_rfl) (by kernel_rfl) (by kernel_rfl) (fun _ _ _ h => h) (by rfl) (by assumption) ?hy49 ?rest49
            case hy49 => intro w' hSw; (try dsimp only at hSw); go_simp; try with_reducible rfl
            try simp only [Act.put, List.setIfInBounds_toArray, List.set_cons_zero, List.set_cons_succ]
            refine takeW 17 (v := ?v50) rfl (by kernel_rfl) (by kernel_rfl) (by kernel_rfl) (fun _ _ _ h => h) (by rfl) (by assumption) ?hy50 ?rest50
            case hy50 => intro w' hSw; (try dsimp only at hSw); go_simp; try with_reducible rfl
            try simp only [Act.put, List.setIfInBounds_toArray, List.set_cons_zero, List.set_cons_succ]
            refine wpAnyH_done (by kernel_rfl) ?_ _
            have hB2 := below_one hB (below_one ((Below.refl _ wr).alloc (Nat.le_refl _) _) (below_drew1 hB1))
            clear hcn hcb hB1 hHeld
            go_wp2
            go_roundw
            case rel => first | exact ⟨m + 1 + 1, by omega, by go_num, HR.out, hB2⟩ | ((repeat apply Exists.intro); exact ⟨⟨m + 1 + 1, by omega, by go_num, HR.out, hB2⟩, rfl⟩)
            case measure => simp [intOf]; omega
    · obtain rfl : n = ks.length := by omega
      have HR := hid (show inB 1 6 (ks.length : Int) = tkB ks by
        rw [tk_end HT.out]
        unfold inB
        rw [decide_eq_decide]
        omega)
      go_wp2_with (go_at_call 64; refine (l1In_any _ 1 6 _).mono ?_; rintro e w1 ⟨rfl, rfl⟩)
      go_ret
      exact ⟨ret_bool HR.out, hB⟩

theorem specGoodToken_any (v : Value) (ks : List Lk) (w : World) (hm : ks.length ≤ 1048577) (hf : ∀ k ∈ ks, k.size ≤ 1048576) (hr : LkS w v ks) :
    Calls Tryz.prog 132 #[v] w fun e w' => e = .returned (.bool (tkB ks)) ∧ Below w.heap.size w w' :=
  specGoodToken_fit v ks w hm (fun k hk => by have := hf k hk; unfold Lk.size at this; omega) hr

end Go.Proofs.YtnbojbcljfiamaaGreatDoor

namespace Go.Proofs.YtnbojbcljfiamaaGreatDoor
open Go.RowKit Go.Shelf

set_option maxHeartbeats 4000000 in
theorem implGoodToken_fit (v : Value) (ks : List Lk) (w : World) (hm : ks.length ≤ 1048577) (hf : ∀ k ∈ ks, k.who.size ≤ 1048576 ∧ k.to.size ≤ 1048576) (hr : LkS w v ks) :
    Calls Tryz.prog 113 #[v] w fun e w' => e = .returned (.bool (tkB ks)) ∧ Below w.heap.size w w' := by
  obtain ⟨a, cap, rfl⟩ := hr.len
  by_cases c1 : 1 ≤ ks.length
  · by_cases c2 : ks.length ≤ 6
    · have d1 : decide ((ks.length : Int) < 1) = false := by simp; omega
      have d2 : decide (6 < (ks.length : Int)) = false := by simp; omega
      go_enter Tryz.func113, Tryz.ntmps113
      go_wp2
      go_loopw [16] (fun i wr => ∃ n : Nat, n ≤ ks.length ∧ i = .int .i64 n ∧ tkTo ks n = true ∧ Below w.heap.size w wr) (fun i _ => ks.length - (intOf i).toNat)
      case atStart => exact ⟨0, Nat.zero_le _, rfl, tkTo_zero _, Below.refl _ _⟩
      case round =>
        obtain ⟨n, hn, rfl, ht, hB⟩ := hrel
        have HT := hid ht
        clear ht
        by_cases hlt : n < ks.length
        · obtain ⟨b, off, rfl, hb, hcap, q0, q1, q2, q3, q4⟩ := (hr.below hB).at hlt
          have hz := hf ks[n] (List.getElem_mem hlt)
          have HS := hid (tkTo_succ ks n)
          have HBd := hid (fun h => tk_bad (ks := ks) (n := n) hlt h)
          by_cases hn0 : n = 0
          · have HA := hid (show lkAt ks n = ks[n].good by subst hn0; exact lkAt_zero hlt)
            have dn : decide (0 < n) = false := by simp; omega
            clear hn0
            generalize ks[n] = k at *
            have hs1 : k.who.size ≤ 1048576 := hz.1
            have hs2 : k.to.size ≤ 1048576 := hz.2
            cases hg : k.good
            · have HR := hid (HBd.out (by rw [HA.out, hg]))
              go_wp2_with fail
              refine (hopOf_any k _).mono ?_
              rintro e W ⟨rfl, hW⟩
              have hBW := below_one hB (below_one ((Below.refl _ wr).alloc (Nat.le_refl _) _) hW)
              have hb1 : b < W.heap.size := by have := hW.size; simp at this; omega
              clear hW q0 q1 q2 q3 q4
              go_wp2_with fail
              refine wp_region_held_drew (S := fun w' => w'.cell? ⟨W.heap.size, 0, none⟩ = some (.string k.who) ∧ w'.cell? ⟨W.heap.size, 1, none⟩ = some (.string k.to) ∧ w'.cell? ⟨W.heap.size, 2, none⟩ = some (.int .i64 k.fr) ∧ w'.cell? ⟨W.heap.size, 3, none⟩ = some (.int .i64 k.un) ∧ w'.cell? ⟨W.heap.size, 4, none⟩ = some (.int .i64 k.se)) (by kernel_rfl) ?_ (fun hHeld => ?_)
              · go_keep
              refine takeW 0 (v := ?v1) rfl (by kernel_rfl) (by kernel_rfl) (by kernel_rfl) (fun _ _ _ h => h) (by rfl) (by assumption) ?hy1 ?rest1
              case hy1 => intro w' hSw; (try dsimp only at hSw); go_simp; try with_reducible rfl
              try simp only [Act.put, List.setIfInBounds_toArray, List.set_cons_zero, List.set_cons_succ]
              refine takeC 1 (by kernel_rfl) rfl (fun K hK => ?_)
              go_simp
              refine (hopGood_any k _ hs1 hs2).mono ?_; rintro e w1 ⟨he1, hB1⟩; rw [hg] at he1; subst he1; have hcn := fun o => hB1.cell (p := ⟨W.heap.size, o, none⟩) (by simp); have hcb := fun o => cell_old hB1 (b := b) (i := o) hb1
              refine hK.out _ _ ?_ (fun hHeld => ?_)
              · go_keep
              clear hK K
              try simp only [Act.put, List.setIfInBounds_toArray, List.set_cons_zero, List.set_cons_succ]
              refine takeW 2 (v := ?v2) rfl (by kernel_rfl) (by kernel_rfl) (by kernel_rfl) (fun _ _ _ h => h) (by rfl) (by assumption) ?hy2 ?rest2
              case hy2 => intro w' hSw; (try dsimp only at hSw); go_simp; try with_reducible rfl
              try simp only [Act.put, List.setIfInBounds_toArray, List.set_cons_zero, List.set_cons_succ]
              refine takeW 3 (v := ?v3) rfl (by kernel_rfl) (by kernel_rfl) (by kernel_rfl) (fun _ _ _ h => h) (by rfl) (by assumption) ?hy3 ?rest3
              case hy3 => intro w' hSw; (try dsimp only at hSw); go_simp; try with_reducible rfl
              try simp only [Act.put, List.setIfInBounds_toArray, List.set_cons_zero, List.set_cons_succ]
              refine takeX 4 rfl (by kernel_rfl) (by kernel_rfl) (by kernel_rfl) (fun _ _ _ h => h) (by rfl) (by assumption) ?_
              try simp only [Act.put, List.setIfInBounds_toArray, List.set_cons_zero, List.set_cons_succ]
              refine takeX 5 rfl (by kernel_rfl) (by kernel_rfl) (by kernel_rfl) (fun _ _ _ h => h) (by rfl) (by assumption) ?_
              try simp only [Act.put, List.setIfInBounds_toArray, List.set_cons_zero, List.set_cons_succ]
              refine takeX 6 rfl (by kernel_rfl) (by kernel_rfl) (by kernel_rfl) (fun _ _ _ h => h) (by rfl) (by assumption) ?_
              try simp only [Act.put, List.setIfInBounds_toArray, List.set_cons_zero, List.set_cons_succ]
              refine takeX 7 rfl (by kernel_rfl) (by kernel_rfl) (by kernel_rfl) (fun _ _ _ h => h) (by rfl) (by assumption) ?_
              try simp only [Act.put, List.setIfInBounds_toArray, List.set_cons_zero, List.set_cons_succ]
              refine takeX 8 rfl (by kernel_rfl) (by kernel_rfl) (by kernel_rfl) (fun _ _ _ h => h) (by rfl) (by assumption) ?_
              try simp only [Act.put, List.setIfInBounds_toArray, List.set_cons_zero, List.set_cons_succ]
              refine takeX 9 rfl (by kernel_rfl) (by kernel_rfl) (by kernel_rfl) (fun _ _ _ h => h) (by rfl) (by assumption) ?_
              try simp only [Act.put, List.setIfInBounds_toArray, List.set_cons_zero, List.set_cons_succ]
              refine takeX 10 rfl (by kernel_rfl) (by kernel_rfl) (by kernel_rfl) (fun _ _ _ h => h) (by rfl) (by assumption) ?_
              try simp only [Act.put, List.setIfInBounds_toArray, List.set_cons_zero, List.set_cons_succ]
              refine takeX 11 rfl (by kernel_rfl) (by kernel_rfl) (by kernel_rfl) (fun _ _ _ h => h) (by rfl) (by assumption) ?_
              try simp only [Act.put, List.setIfInBounds_toArray, List.set_cons_zero, List.set_cons_succ]
              refine takeX 12 rfl (by kernel_rfl) (by kernel_rfl) (by kernel_rfl) (fun _ _ _ h => h) (by rfl) (by assumption) ?_
              try simp only [Act.put, List.setIfInBounds_toArray, List.set_cons_zero, List.set_cons_succ]
              refine takeX 13 rfl (by kernel_rfl) (by kernel_rfl) (by kernel_rfl) (fun _ _ _ h => h) (by rfl) (by assumption) ?_
              try simp only [Act.put, List.setIfInBounds_toArray, List.set_cons_zero, List.set_cons_succ]
              refine takeX 14 rfl (by kernel_rfl) (by kernel_rfl) (by kernel_rfl) (fun _ _ _ h => h) (by rfl) (by assumption) ?_
              try simp only [Act.put, List.setIfInBounds_toArray, List.set_cons_zero, List.set_cons_succ]
              refine takeX 15 rfl (by kernel_rfl) (by kernel_rfl) (by kernel_rfl) (fun _ _ _ h => h) (by rfl) (by assumption) ?_
              try simp only [Act.put, List.setIfInBounds_toArray, List.set_cons_zero, List.set_cons_succ]
              refine takeX 16 rfl (by kernel_rfl) (by kernel_rfl) (by kernel_rfl) (fun _ _ _ h => h) (by rfl) (by assumption) ?_
              try simp only [Act.put, List.setIfInBounds_toArray, List.set_cons_zero, List.set_cons_succ]
              refine takeX 17 rfl (by kernel_rfl) (by kernel_rfl) (by kernel_rfl) (fun _ _ _ h => h) (by rfl) (by assumption) ?_
              try simp only [Act.put, List.setIfInBounds_toArray, List.set_cons_zero, List.set_cons_succ]
              refine takeW 18 (v := ?v4) rfl (by kernel_rfl) (by kernel_rfl) (by kernel_rfl) (fun _ _ _ h => h) (by rfl) (by assumption) ?hy4 ?rest4
              case hy4 => intro w' hSw; (try dsimp only at hSw); go_simp; try with_reducible rfl
              try simp only [Act.put, List.setIfInBounds_toArray, List.set_cons_zero, List.set_cons_succ]
              refine wpAnyH_done (by kernel_rfl) ?_ _
              have hB2 := below_one hBW (below_one ((Below.refl _ W).alloc (Nat.le_refl _) _) (below_drew1 hB1))
              clear hcn hcb hB1 hHeld
              go_wp2
              go_ret
              exact ⟨ret_bool HR.out.symm, hB2⟩
            · have HR := hid (show tkTo ks (n + 1) = true by rw [HS.out, HT.out, HA.out, hg]; rfl)
              go_wp2_with fail
              refine (hopOf_any k _).mono ?_
              rintro e W ⟨rfl, hW⟩
              have hBW := below_one hB (below_one ((Below.refl _ wr).alloc (Nat.le_refl _) _) hW)
              have hb1 : b < W.heap.size := by have := hW.size; simp at this; omega
              clear hW q0 q1 q2 q3 q4
              go_wp2_with fail
              refine wp_region_held_drew (S := fun w' => w'.cell? ⟨W.heap.size, 0, none⟩ = some (.string k.who) ∧ w'.cell? ⟨W.heap.size, 1, none⟩ = some (.string k.to) ∧ w'.cell? ⟨W.heap.size, 2, none⟩ = some (.int .i64 k.fr) ∧ w'.cell? ⟨W.heap.size, 3, none⟩ = some (.int .i64 k.un) ∧ w'.cell? ⟨W.heap.size, 4, none⟩ = some (.int .i64 k.se)) (by kernel_rfl) ?_ (fun hHeld => ?_)
              · go_keep
              refine takeW 0 (v := ?v5) rfl (by kernel_rfl) (by kernel_rfl) (by kernel_rfl) (fun _ _ _ h => h) (by rfl) (by assumption) ?hy5 ?rest5
              case hy5 => intro w' hSw; (try dsimp only at hSw); go_simp; try with_reducible rfl
              try simp only [Act.put, List.setIfInBounds_toArray, List.set_cons_zero, List.set_cons_succ]
              refine takeC 1 (by kernel_rfl) rfl (fun K hK => ?_)
              go_simp
              refine (hopGood_any k _ hs1 hs2).mono ?_; rintro e w1 ⟨he1, hB1⟩; rw [hg] at he1; subst he1; have hcn := fun o => hB1.cell (p := ⟨W.heap.size, o, none⟩) (by simp); have hcb := fun o => cell_old hB1 (b := b) (i := o) hb1
              refine hK.out _ _ ?_ (fun hHeld => ?_)
              · go_keep
              clear hK K
              try simp only [Act.put, List.setIfInBounds_toArray, List.set_cons_zero, List.set_cons_succ]
              refine takeW 2 (v := ?v6) rfl (by kernel_rfl) (by kernel_rfl) (by kernel_rfl) (fun _ _ _ h => h) (by rfl) (by assumption) ?hy6 ?rest6
              case hy6 => intro w' hSw; (try dsimp only at hSw); go_simp; try with_reducible rfl
              try simp only [Act.put, List.setIfInBounds_toArray, List.set_cons_zero, List.set_cons_succ]
              refine takeW 3 (v := ?v7) rfl (by kernel_rfl) (by kernel_rfl) (by kernel_rfl) (fun _ _ _ h => h) (by rfl) (by assumption) ?hy7 ?rest7
              case hy7 => intro w' hSw; (try dsimp only at hSw); go_simp; try with_reducible rfl
              try simp only [Act.put, List.setIfInBounds_toArray, List.set_cons_zero, List.set_cons_succ]
              refine takeW 4 (v := ?v8) rfl (by kernel_rfl) (by kernel_rfl) (by kernel_rfl) (fun _ _ _ h => h) (by rfl) (by assumption) ?hy8 ?rest8
              case hy8 => intro w' hSw; (try dsimp only at hSw); go_simp; try with_reducible rfl
              try simp only [Act.put, List.setIfInBounds_toArray, List.set_cons_zero, List.set_cons_succ]
              refine takeW 5 (v := ?v9) rfl (by kernel_rfl) (by kernel_rfl) (by kernel_rfl) (fun _ _ _ h => h) (by rfl) (by assumption) ?hy9 ?rest9
              case hy9 => intro w' hSw; (try dsimp only at hSw); go_simp; try with_reducible rfl
              try simp only [Act.put, List.setIfInBounds_toArray, List.set_cons_zero, List.set_cons_succ]
              refine takeW 6 (v := ?v10) rfl (by kernel_rfl) (by kernel_rfl) (by kernel_rfl) (fun _ _ _ h => h) (by rfl) (by assumption) ?hy10 ?rest10
              case hy10 => intro w' hSw; (try dsimp only at hSw); go_simp; try with_reducible rfl
              try simp only [Act.put, List.setIfInBounds_toArray, List.set_cons_zero, List.set_cons_succ]
              refine takeX 7 rfl (by kernel_rfl) (by kernel_rfl) (by kernel_rfl) (fun _ _ _ h => h) (by rfl) (by assumption) ?_
              try simp only [Act.put, List.setIfInBounds_toArray, List.set_cons_zero, List.set_cons_succ]
              refine takeX 8 rfl (by kernel_rfl) (by kernel_rfl) (by kernel_rfl) (fun _ _ _ h => h) (by rfl) (by assumption) ?_
              try simp only [Act.put, List.setIfInBounds_toArray, List.set_cons_zero, List.set_cons_succ]
              refine takeX 9 rfl (by kernel_rfl) (by kernel_rfl) (by kernel_rfl) (fun _ _ _ h => h) (by rfl) (by assumption) ?_
              try simp only [Act.put, List.setIfInBounds_toArray, List.set_cons_zero, List.set_cons_succ]
              refine takeX 10 rfl (by kernel_rfl) (by kernel_rfl) (by kernel_rfl) (fun _ _ _ h => h) (by rfl) (by assumption) ?_
              try simp only [Act.put, List.setIfInBounds_toArray, List.set_cons_zero, List.set_cons_succ]
              refine takeX 11 rfl (by kernel_rfl) (by kernel_rfl) (by kernel_rfl) (fun _ _ _ h => h) (by rfl) (by assumption) ?_
              try simp only [Act.put, List.setIfInBounds_toArray, List.set_cons_zero, List.set_cons_succ]
              refine takeX 12 rfl (by kernel_rfl) (by kernel_rfl) (by kernel_rfl) (fun _ _ _ h => h) (by rfl) (by assumption) ?_
              try simp only [Act.put, List.setIfInBounds_toArray, List.set_cons_zero, List.set_cons_succ]
              refine takeX 13 rfl (by kernel_rfl) (by kernel_rfl) (by kernel_rfl) (fun _ _ _ h => h) (by rfl) (by assumption) ?_
              try simp only [Act.put, List.setIfInBounds_toArray, List.set_cons_zero, List.set_cons_succ]
              refine takeX 14 rfl (by kernel_rfl) (by kernel_rfl) (by kernel_rfl) (fun _ _ _ h => h) (by rfl) (by assumption) ?_
              try simp only [Act.put, List.setIfInBounds_toArray, List.set_cons_zero, List.set_cons_succ]
              refine takeX 15 rfl (by kernel_rfl) (by kernel_rfl) (by kernel_rfl) (fun _ _ _ h => h) (by rfl) (by assumption) ?_
              try simp only [Act.put, List.setIfInBounds_toArray, List.set_cons_zero, List.set_cons_succ]
              refine takeX 16 rfl (by kernel_rfl) (by kernel_rfl) (by kernel_rfl) (fun _ _ _ h => h) (by rfl) (by assumption) ?_
              try simp only [Act.put, List.setIfInBounds_toArray, List.set_cons_zero, List.set_cons_succ]
              refine takeW 17 (v := ?v11) rfl (by kernel_rfl) (by kernel_rfl) (by kernel_rfl) (fun _ _ _ h => h) (by rfl) (by assumption) ?hy11 ?rest11
              case hy11 => intro w' hSw; (try dsimp only at hSw); go_simp; try with_reducible rfl
              try simp only [Act.put, List.setIfInBounds_toArray, List.set_cons_zero, List.set_cons_succ]
              refine takeW 18 (v := ?v12) rfl (by kernel_rfl) (by kernel_rfl) (by kernel_rfl) (fun _ _ _ h => h) (by rfl) (by assumption) ?hy12 ?rest12
              case hy12 => intro w' hSw; (try dsimp only at hSw); go_simp; try with_reducible rfl
              try simp only [Act.put, List.setIfInBounds_toArray, List.set_cons_zero, List.set_cons_succ]
              refine wpAnyH_done (by kernel_rfl) ?_ _
              have hB2 := below_one hBW (below_one ((Below.refl _ W).alloc (Nat.le_refl _) _) (below_drew1 hB1))
              clear hcn hcb hB1 hHeld
              go_wp2
              go_roundw
              case rel => first | exact ⟨n + 1, by omega, by go_num, HR.out, hB2⟩ | ((repeat apply Exists.intro); exact ⟨⟨n + 1, by omega, by go_num, HR.out, hB2⟩, rfl⟩)
              case measure => simp [intOf]; omega
          · obtain ⟨m, rfl⟩ : ∃ m, n = m + 1 := ⟨n - 1, by omega⟩
            have hltm : m < ks.length := by omega
            obtain ⟨b', off', he, _, _, _, p1, _, _, _⟩ := (hr.below hB).at hltm
            cases he
            have HA := hid (lkAt_succ hlt)
            generalize ks[m + 1] = k at *
            generalize ks[m] = p at *
            have hs1 : k.who.size ≤ 1048576 := hz.1
            have hs2 : k.to.size ≤ 1048576 := hz.2
            have hw1 : IntKind.i64.wrap (m : Int) = (m : Int) := by rw [IntKind.wrap_i64]; omega
            have hw2 : (m : Int) < (ks.length : Int) := by omega
            cases hg : k.good
            · have HR := hid (HBd.out (by rw [HA.out, hg]; rfl))
              go_wp2_with fail
              refine (hopOf_any k _).mono ?_
              rintro e W ⟨rfl, hW⟩
              have hBW := below_one hB (below_one ((Below.refl _ wr).alloc (Nat.le_refl _) _) hW)
              have hb1 : b < W.heap.size := by have := hW.size; simp at this; omega
              have p2 := (hW.cell (p := ⟨b, off + m * 5 + 1, none⟩) (by simp; omega)).trans ((((Below.refl _ wr).alloc (Nat.le_refl _) _).cell (p := ⟨b, off + m * 5 + 1, none⟩) hb).trans p1)
              clear hW q0 q1 q2 q3 q4 p1
              go_wp2_with fail
              refine wp_region_held_drew (S := fun w' => w'.cell? ⟨W.heap.size, 0, none⟩ = some (.string k.who) ∧ w'.cell? ⟨W.heap.size, 1, none⟩ = some (.string k.to) ∧ w'.cell? ⟨W.heap.size, 2, none⟩ = some (.int .i64 k.fr) ∧ w'.cell? ⟨W.heap.size, 3, none⟩ = some (.int .i64 k.un) ∧ w'.cell? ⟨W.heap.size, 4, none⟩ = some (.int .i64 k.se) ∧ w'.cell? ⟨b, off + m * 5 + 1, none⟩ = some (.string p.to)) (by kernel_rfl) ?_ (fun hHeld => ?_)
              · go_keep
              refine takeW 0 (v := ?v13) rfl (by kernel_rfl) (by kernel_rfl) (by kernel_rfl) (fun _ _ _ h => h) (by rfl) (by assumption) ?hy13 ?rest13
              case hy13 => intro w' hSw; (try dsimp only at hSw); go_simp; try with_reducible rfl
              try simp only [Act.put, List.setIfInBounds_toArray, List.set_cons_zero, List.set_cons_succ]
              refine takeC 1 (by kernel_rfl) rfl (fun K hK => ?_)
              go_simp
              refine (hopGood_any k _ hs1 hs2).mono ?_; rintro e w1 ⟨he1, hB1⟩; rw [hg] at he1; subst he1; have hcn := fun o => hB1.cell (p := ⟨W.heap.size, o, none⟩) (by simp); have hcb := fun o => cell_old hB1 (b := b) (i := o) hb1
              refine hK.out _ _ ?_ (fun hHeld => ?_)
              · go_keep
              clear hK K
              try simp only [Act.put, List.setIfInBounds_toArray, List.set_cons_zero, List.set_cons_succ]
              refine takeW 2 (v := ?v14) rfl (by kernel_rfl) (by kernel_rfl) (by kernel_rfl) (fun _ _ _ h => h) (by rfl) (by assumption) ?hy14 ?rest14
              case hy14 => intro w' hSw; (try dsimp only at hSw); go_simp; try with_reducible rfl
              try simp only [Act.put, List.setIfInBounds_toArray, List.set_cons_zero, List.set_cons_succ]
              refine takeW 3 (v := ?v15) rfl (by kernel_rfl) (by kernel_rfl) (by kernel_rfl) (fun _ _ _ h => h) (by rfl) (by assumption) ?hy15 ?rest15
              case hy15 => intro w' hSw; (try dsimp only at hSw); go_simp; try with_reducible rfl
              try simp only [Act.put, List.setIfInBounds_toArray, List.set_cons_zero, List.set_cons_succ]
              refine takeX 4 rfl (by kernel_rfl) (by kernel_rfl) (by kernel_rfl) (fun _ _ _ h => h) (by rfl) (by assumption) ?_
              try simp only [Act.put, List.setIfInBounds_toArray, List.set_cons_zero, List.set_cons_succ]
              refine takeX 5 rfl (by kernel_rfl) (by kernel_rfl) (by kernel_rfl) (fun _ _ _ h => h) (by rfl) (by assumption) ?_
              try simp only [Act.put, List.setIfInBounds_toArray, List.set_cons_zero, List.set_cons_succ]
              refine takeX 6 rfl (by kernel_rfl) (by kernel_rfl) (by kernel_rfl) (fun _ _ _ h => h) (by rfl) (by assumption) ?_
              try simp only [Act.put, List.setIfInBounds_toArray, List.set_cons_zero, List.set_cons_succ]
              refine takeX 7 rfl (by kernel_rfl) (by kernel_rfl) (by kernel_rfl) (fun _ _ _ h => h) (by rfl) (by assumption) ?_
              try simp only [Act.put, List.setIfInBounds_toArray, List.set_cons_zero, List.set_cons_succ]
              refine takeX 8 rfl (by kernel_rfl) (by kernel_rfl) (by kernel_rfl) (fun _ _ _ h => h) (by rfl) (by assumption) ?_
              try simp only [Act.put, List.setIfInBounds_toArray, List.set_cons_zero, List.set_cons_succ]
              refine takeX 9 rfl (by kernel_rfl) (by kernel_rfl) (by kernel_rfl) (fun _ _ _ h => h) (by rfl) (by assumption) ?_
              try simp only [Act.put, List.setIfInBounds_toArray, List.set_cons_zero, List.set_cons_succ]
              refine takeX 10 rfl (by kernel_rfl) (by kernel_rfl) (by kernel_rfl) (fun _ _ _ h => h) (by rfl) (by assumption) ?_
              try simp only [Act.put, List.setIfInBounds_toArray, List.set_cons_zero, List.set_cons_succ]
              refine takeX 11 rfl (by kernel_rfl) (by kernel_rfl) (by kernel_rfl) (fun _ _ _ h => h) (by rfl) (by assumption) ?_
              try simp only [Act.put, List.setIfInBounds_toArray, List.set_cons_zero, List.set_cons_succ]
              refine takeX 12 rfl (by kernel_rfl) (by kernel_rfl) (by kernel_rfl) (fun _ _ _ h => h) (by rfl) (by assumption) ?_
              try simp only [Act.put, List.setIfInBounds_toArray, List.set_cons_zero, List.set_cons_succ]
              refine takeX 13 rfl (by kernel_rfl) (by kernel_rfl) (by kernel_rfl) (fun _ _ _ h => h) (by rfl) (by assumption) ?_
              try simp only [Act.put, List.setIfInBounds_toArray, List.set_cons_zero, List.set_cons_succ]
              refine takeX 14 rfl (by kernel_rfl) (by kernel_rfl) (by kernel_rfl) (fun _ _ _ h => h) (by rfl) (by assumption) ?_
              try simp only [Act.put, List.setIfInBounds_toArray, List.set_cons_zero, List.set_cons_succ]
              refine takeX 15 rfl (by kernel_rfl) (by kernel_rfl) (by kernel_rfl) (fun _ _ _ h => h) (by rfl) (by assumption) ?_
              try simp only [Act.put, List.setIfInBounds_toArray, List.set_cons_zero, List.set_cons_succ]
              refine takeX 16 rfl (by kernel_rfl) (by kernel_rfl) (by kernel_rfl) (fun _ _ _ h => h) (by rfl) (by assumption) ?_
              try simp only [Act.put, List.setIfInBounds_toArray, List.set_cons_zero, List.set_cons_succ]
              refine takeX 17 rfl (by kernel_rfl) (by kernel_rfl) (by kernel_rfl) (fun _ _ _ h => h) (by rfl) (by assumption) ?_
              try simp only [Act.put, List.setIfInBounds_toArray, List.set_cons_zero, List.set_cons_succ]
              refine takeW 18 (v := ?v16) rfl (by kernel_rfl) (by kernel_rfl) (by kernel_rfl) (fun _ _ _ h => h) (by rfl) (by assumption) ?hy16 ?rest16
              case hy16 => intro w' hSw; (try dsimp only at hSw); go_simp; try with_reducible rfl
              try simp only [Act.put, List.setIfInBounds_toArray, List.set_cons_zero, List.set_cons_succ]
              refine wpAnyH_done (by kernel_rfl) ?_ _
              have hB2 := below_one hBW (below_one ((Below.refl _ W).alloc (Nat.le_refl _) _) (below_drew1 hB1))
              clear hcn hcb hB1 hHeld
              go_wp2
              go_ret
              exact ⟨ret_bool HR.out.symm, hB2⟩
            · cases he : (p.to.toList == k.who.toList)
              · have he2 : (k.who.toList == p.to.toList) = false := by rw [← he]; exact Bool.beq_comm
                have HR := hid (HBd.out (by rw [HA.out, hg, he]; rfl))
                go_wp2_with fail
                refine (hopOf_any k _).mono ?_
                rintro e W ⟨rfl, hW⟩
                have hBW := below_one hB (below_one ((Below.refl _ wr).alloc (Nat.le_refl _) _) hW)
                have hb1 : b < W.heap.size := by have := hW.size; simp at this; omega
                have p2 := (hW.cell (p := ⟨b, off + m * 5 + 1, none⟩) (by simp; omega)).trans ((((Below.refl _ wr).alloc (Nat.le_refl _) _).cell (p := ⟨b, off + m * 5 + 1, none⟩) hb).trans p1)
                clear hW q0 q1 q2 q3 q4 p1
                go_wp2_with fail
                refine wp_region_held_drew (S := fun w' => w'.cell? ⟨W.heap.size, 0, none⟩ = some (.string k.who) ∧ w'.cell? ⟨W.heap.size, 1, none⟩ = some (.string k.to) ∧ w'.cell? ⟨W.heap.size, 2, none⟩ = some (.int .i64 k.fr) ∧ w'.cell? ⟨W.heap.size, 3, none⟩ = some (.int .i64 k.un) ∧ w'.cell? ⟨W.heap.size, 4, none⟩ = some (.int .i64 k.se) ∧ w'.cell? ⟨b, off + m * 5 + 1, none⟩ = some (.string p.to)) (by kernel_rfl) ?_ (fun hHeld => ?_)
                · go_keep
                refine takeW 0 (v := ?v17) rfl (by kernel_rfl) (by kernel_rfl) (by kernel_rfl) (fun _ _ _ h => h) (by rfl) (by assumption) ?hy17 ?rest17
                case hy17 => intro w' hSw; (try dsimp only at hSw); go_simp; try with_reducible rfl
                try simp only [Act.put, List.setIfInBounds_toArray, List.set_cons_zero, List.set_cons_succ]
                refine takeC 1 (by kernel_rfl) rfl (fun K hK => ?_)
                go_simp
                refine (hopGood_any k _ hs1 hs2).mono ?_; rintro e w1 ⟨he1, hB1⟩; rw [hg] at he1; subst he1; have hcn := fun o => hB1.cell (p := ⟨W.heap.size, o, none⟩) (by simp); have hcb := fun o => cell_old hB1 (b := b) (i := o) hb1
                refine hK.out _ _ ?_ (fun hHeld => ?_)
                · go_keep
                clear hK K
                try simp only [Act.put, List.setIfInBounds_toArray, List.set_cons_zero, List.set_cons_succ]
                refine takeW 2 (v := ?v18) rfl (by kernel_rfl) (by kernel_rfl) (by kernel_rfl) (fun _ _ _ h => h) (by rfl) (by assumption) ?hy18 ?rest18
                case hy18 => intro w' hSw; (try dsimp only at hSw); go_simp; try with_reducible rfl
                try simp only [Act.put, List.setIfInBounds_toArray, List.set_cons_zero, List.set_cons_succ]
                refine takeW 3 (v := ?v19) rfl (by kernel_rfl) (by kernel_rfl) (by kernel_rfl) (fun _ _ _ h => h) (by rfl) (by assumption) ?hy19 ?rest19
                case hy19 => intro w' hSw; (try dsimp only at hSw); go_simp; try with_reducible rfl
                try simp only [Act.put, List.setIfInBounds_toArray, List.set_cons_zero, List.set_cons_succ]
                refine takeW 4 (v := ?v20) rfl (by kernel_rfl) (by kernel_rfl) (by kernel_rfl) (fun _ _ _ h => h) (by rfl) (by assumption) ?hy20 ?rest20
                case hy20 => intro w' hSw; (try dsimp only at hSw); go_simp; try with_reducible rfl
                try simp only [Act.put, List.setIfInBounds_toArray, List.set_cons_zero, List.set_cons_succ]
                refine takeW 5 (v := ?v21) rfl (by kernel_rfl) (by kernel_rfl) (by kernel_rfl) (fun _ _ _ h => h) (by rfl) (by assumption) ?hy21 ?rest21
                case hy21 => intro w' hSw; (try dsimp only at hSw); go_simp; try with_reducible rfl
                try simp only [Act.put, List.setIfInBounds_toArray, List.set_cons_zero, List.set_cons_succ]
                refine takeW 6 (v := ?v22) rfl (by kernel_rfl) (by kernel_rfl) (by kernel_rfl) (fun _ _ _ h => h) (by rfl) (by assumption) ?hy22 ?rest22
                case hy22 => intro w' hSw; (try dsimp only at hSw); go_simp; try with_reducible rfl
                try simp only [Act.put, List.setIfInBounds_toArray, List.set_cons_zero, List.set_cons_succ]
                refine takeW 7 (v := ?v23) rfl (by kernel_rfl) (by kernel_rfl) (by kernel_rfl) (fun _ _ _ h => h) (by rfl) (by assumption) ?hy23 ?rest23
                case hy23 => intro w' hSw; (try dsimp only at hSw); go_simp; try with_reducible rfl
                try simp only [Act.put, List.setIfInBounds_toArray, List.set_cons_zero, List.set_cons_succ]
                refine takeW 8 (v := ?v24) rfl (by kernel_rfl) (by kernel_rfl) (by kernel_rfl) (fun _ _ _ h => h) (by rfl) (by assumption) ?hy24 ?rest24
                case hy24 => intro w' hSw; (try dsimp only at hSw); go_simp; try with_reducible rfl
                try simp only [Act.put, List.setIfInBounds_toArray, List.set_cons_zero, List.set_cons_succ]
                refine takeW 9 (v := ?v25) rfl (by kernel_rfl) (by kernel_rfl) (by kernel_rfl) (fun _ _ _ h => h) (by rfl) (by assumption) ?hy25 ?rest25
                case hy25 => intro w' hSw; (try dsimp only at hSw); go_simp; try with_reducible rfl
                try simp only [Act.put, List.setIfInBounds_toArray, List.set_cons_zero, List.set_cons_succ]
                refine takeW 10 (v := ?v26) rfl (by kernel_rfl) (by kernel_rfl) (by kernel_rfl) (fun _ _ _ h => h) (by rfl) (by assumption) ?hy26 ?rest26
                case hy26 => intro w' hSw; (try dsimp only at hSw); go_simp; try with_reducible rfl
                try simp only [Act.put, List.setIfInBounds_toArray, List.set_cons_zero, List.set_cons_succ]
                refine takeW 11 (v := ?v27) rfl (by kernel_rfl) (by kernel_rfl) (by kernel_rfl) (fun _ _ _ h => h) (by rfl) (by assumption) ?hy27 ?rest27
                case hy27 => intro w' hSw; (try dsimp only at hSw); go_simp; try with_reducible rfl
                try simp only [Act.put, List.setIfInBounds_toArray, List.set_cons_zero, List.set_cons_succ]
                refine takeW 12 (v := ?v28) rfl (by kernel_rfl) (by kernel_rfl) (by kernel_rfl) (fun _ _ _ h => h) (by rfl) (by assumption) ?hy28 ?rest28
                case hy28 => intro w' hSw; (try dsimp only at hSw); go_simp; try with_reducible rfl
                try simp only [Act.put, List.setIfInBounds_toArray, List.set_cons_zero, List.set_cons_succ]
                refine takeW 13 (v := ?v29) rfl (by kernel_rfl) (by kernel_rfl) (by kernel_rfl) (fun _ _ _ h => h) (by rfl) (by assumption) ?hy29 ?rest29
                case hy29 => intro w' hSw; (try dsimp only at hSw); go_simp; try with_reducible rfl
                try simp only [Act.put, List.setIfInBounds_toArray, List.set_cons_zero, List.set_cons_succ]
                refine takeW 14 (v := ?v30) rfl (by kernel_rfl) (by kernel_rfl) (by kernel_rfl) (fun _ _ _ h => h) (by rfl) (by assumption) ?hy30 ?rest30
                case hy30 => intro w' hSw; (try dsimp only at hSw); go_simp; try with_reducible rfl
                try simp only [Act.put, List.setIfInBounds_toArray, List.set_cons_zero, List.set_cons_succ]
                refine takeW 15 (v := ?v31) rfl (by kernel_rfl) (by kernel_rfl) (by kernel_rfl) (fun _ _ _ h => h) (by rfl) (by assumption) ?hy31 ?rest31
                case hy31 => intro w' hSw; (try dsimp only at hSw); go_simp; try with_reducible rfl
                try simp only [Act.put, List.setIfInBounds_toArray, List.set_cons_zero, List.set_cons_succ]
                refine takeW 16 (v := ?v32) rfl (by kernel_rfl) (by kernel_rfl) (by kernel_rfl) (fun _ _ _ h => h) (by rfl) (by assumption) ?hy32 ?rest32
                case hy32 => intro w' hSw; (try dsimp only at hSw); go_simp; try with_reducible rfl
                try simp only [Act.put, List.setIfInBounds_toArray, List.set_cons_zero, List.set_cons_succ]
                refine takeW 17 (v := ?v33) rfl (by kernel_rfl) (by kernel_rfl) (by kernel_rfl) (fun _ _ _ h => h) (by rfl) (by assumption) ?hy33 ?rest33
                case hy33 => intro w' hSw; (try dsimp only at hSw); go_simp; try with_reducible rfl
                try simp only [Act.put, List.setIfInBounds_toArray, List.set_cons_zero, List.set_cons_succ]
                refine takeW 18 (v := ?v34) rfl (by kernel_rfl) (by kernel_rfl) (by kernel_rfl) (fun _ _ _ h => h) (by rfl) (by assumption) ?hy34 ?rest34
                case hy34 => intro w' hSw; (try dsimp only at hSw); go_simp; try with_reducible rfl
                try simp only [Act.put, List.setIfInBounds_toArray, List.set_cons_zero, List.set_cons_succ]
                refine wpAnyH_done (by kernel_rfl) ?_ _
                have hB2 := below_one hBW (below_one ((Below.refl _ W).alloc (Nat.le_refl _) _) (below_drew1 hB1))
                clear hcn hcb hB1 hHeld
                go_wp2
                go_ret
                exact ⟨ret_bool HR.out.symm, hB2⟩
              · have he2 : (k.who.toList == p.to.toList) = true := by rw [← he]; exact Bool.beq_comm
                have HR := hid (show tkTo ks (m + 1 + 1) = true by rw [HS.out, HT.out, HA.out, hg, he]; rfl)
                go_wp2_with fail
                refine (hopOf_any k _).mono ?_
                rintro e W ⟨rfl, hW⟩
                have hBW := below_one hB (below_one ((Below.refl _ wr).alloc (Nat.le_refl _) _) hW)
                have hb1 : b < W.heap.size := by have := hW.size; simp at this; omega
                have p2 := (hW.cell (p := ⟨b, off + m * 5 + 1, none⟩) (by simp; omega)).trans ((((Below.refl _ wr).alloc (Nat.le_refl _) _).cell (p := ⟨b, off + m * 5 + 1, none⟩) hb).trans p1)
                clear hW q0 q1 q2 q3 q4 p1
                go_wp2_with fail
                refine wp_region_held_drew (S := fun w' => w'.cell? ⟨W.heap.size, 0, none⟩ = some (.string k.who) ∧ w'.cell? ⟨W.heap.size, 1, none⟩ = some (.string k.to) ∧ w'.cell? ⟨W.heap.size, 2, none⟩ = some (.int .i64 k.fr) ∧ w'.cell? ⟨W.heap.size, 3, none⟩ = some (.int .i64 k.un) ∧ w'.cell? ⟨W.heap.size, 4, none⟩ = some (.int .i64 k.se) ∧ w'.cell? ⟨b, off + m * 5 + 1, none⟩ = some (.string p.to)) (by kernel_rfl) ?_ (fun hHeld => ?_)
                · go_keep
                refine takeW 0 (v := ?v35) rfl (by kernel_rfl) (by kernel_rfl) (by kernel_rfl) (fun _ _ _ h => h) (by rfl) (by assumption) ?hy35 ?rest35
                case hy35 => intro w' hSw; (try dsimp only at hSw); go_simp; try with_reducible rfl
                try simp only [Act.put, List.setIfInBounds_toArray, List.set_cons_zero, List.set_cons_succ]
                refine takeC 1 (by kernel_rfl) rfl (fun K hK => ?_)
                go_simp
                refine (hopGood_any k _ hs1 hs2).mono ?_; rintro e w1 ⟨he1, hB1⟩; rw [hg] at he1; subst he1; have hcn := fun o => hB1.cell (p := ⟨W.heap.size, o, none⟩) (by simp); have hcb := fun o => cell_old hB1 (b := b) (i := o) hb1
                refine hK.out _ _ ?_ (fun hHeld => ?_)
                · go_keep
                clear hK K
                try simp only [Act.put, List.setIfInBounds_toArray, List.set_cons_zero, List.set_cons_succ]
                refine takeW 2 (v := ?v36) rfl (by kernel_rfl) (by kernel_rfl) (by kernel_rfl) (fun _ _ _ h => h) (by rfl) (by assumption) ?hy36 ?rest36
                case hy36 => intro w' hSw; (try dsimp only at hSw); go_simp; try with_reducible rfl
                try simp only [Act.put, List.setIfInBounds_toArray, List.set_cons_zero, List.set_cons_succ]
                refine takeW 3 (v := ?v37) rfl (by kernel_rfl) (by kernel_rfl) (by kernel_rfl) (fun _ _ _ h => h) (by rfl) (by assumption) ?hy37 ?rest37
                case hy37 => intro w' hSw; (try dsimp only at hSw); go_simp; try with_reducible rfl
                try simp only [Act.put, List.setIfInBounds_toArray, List.set_cons_zero, List.set_cons_succ]
                refine takeW 4 (v := ?v38) rfl (by kernel_rfl) (by kernel_rfl) (by kernel_rfl) (fun _ _ _ h => h) (by rfl) (by assumption) ?hy38 ?rest38
                case hy38 => intro w' hSw; (try dsimp only at hSw); go_simp; try with_reducible rfl
                try simp only [Act.put, List.setIfInBounds_toArray, List.set_cons_zero, List.set_cons_succ]
                refine takeW 5 (v := ?v39) rfl (by kernel_rfl) (by kernel_rfl) (by kernel_rfl) (fun _ _ _ h => h) (by rfl) (by assumption) ?hy39 ?rest39
                case hy39 => intro w' hSw; (try dsimp only at hSw); go_simp; try with_reducible rfl
                try simp only [Act.put, List.setIfInBounds_toArray, List.set_cons_zero, List.set_cons_succ]
                refine takeW 6 (v := ?v40) rfl (by kernel_rfl) (by kernel_rfl) (by kernel_rfl) (fun _ _ _ h => h) (by rfl) (by assumption) ?hy40 ?rest40
                case hy40 => intro w' hSw; (try dsimp only at hSw); go_simp; try with_reducible rfl
                try simp only [Act.put, List.setIfInBounds_toArray, List.set_cons_zero, List.set_cons_succ]
                refine takeW 7 (v := ?v41) rfl (by kernel_rfl) (by kernel_rfl) (by kernel_rfl) (fun _ _ _ h => h) (by rfl) (by assumption) ?hy41 ?rest41
                case hy41 => intro w' hSw; (try dsimp only at hSw); go_simp; try with_reducible rfl
                try simp only [Act.put, List.setIfInBounds_toArray, List.set_cons_zero, List.set_cons_succ]
                refine takeW 8 (v := ?v42) rfl (by kernel_rfl) (by kernel_rfl) (by kernel_rfl) (fun _ _ _ h => h) (by rfl) (by assumption) ?hy42 ?rest42
                case hy42 => intro w' hSw; (try dsimp only at hSw); go_simp; try with_reducible rfl
                try simp only [Act.put, List.setIfInBounds_toArray, List.set_cons_zero, List.set_cons_succ]
                refine takeW 9 (v := ?v43) rfl (by kernel_rfl) (by kernel_rfl) (by kernel_rfl) (fun _ _ _ h => h) (by rfl) (by assumption) ?hy43 ?rest43
                case hy43 => intro w' hSw; (try dsimp only at hSw); go_simp; try with_reducible rfl
                try simp only [Act.put, List.setIfInBounds_toArray, List.set_cons_zero, List.set_cons_succ]
                refine takeW 10 (v := ?v44) rfl (by kernel_rfl) (by kernel_rfl) (by kernel_rfl) (fun _ _ _ h => h) (by rfl) (by assumption) ?hy44 ?rest44
                case hy44 => intro w' hSw; (try dsimp only at hSw); go_simp; try with_reducible rfl
                try simp only [Act.put, List.setIfInBounds_toArray, List.set_cons_zero, List.set_cons_succ]
                refine takeW 11 (v := ?v45) rfl (by kernel_rfl) (by kernel_rfl) (by kernel_rfl) (fun _ _ _ h => h) (by rfl) (by assumption) ?hy45 ?rest45
                case hy45 => intro w' hSw; (try dsimp only at hSw); go_simp; try with_reducible rfl
                try simp only [Act.put, List.setIfInBounds_toArray, List.set_cons_zero, List.set_cons_succ]
                refine takeW 12 (v := ?v46) rfl (by kernel_rfl) (by kernel_rfl) (by kernel_rfl) (fun _ _ _ h => h) (by rfl) (by assumption) ?hy46 ?rest46
                case hy46 => intro w' hSw; (try dsimp only at hSw); go_simp; try with_reducible rfl
                try simp only [Act.put, List.setIfInBounds_toArray, List.set_cons_zero, List.set_cons_succ]
                refine takeW 13 (v := ?v47) rfl (by kernel_rfl) (by kernel_rfl) (by kernel_rfl) (fun _ _ _ h => h) (by rfl) (by assumption) ?hy47 ?rest47
                case hy47 => intro w' hSw; (try dsimp only at hSw); go_simp; try with_reducible rfl
                try simp only [Act.put, List.setIfInBounds_toArray, List.set_cons_zero, List.set_cons_succ]
                refine takeW 14 (v := ?v48) rfl (by kernel_rfl) (by kernel_rfl) (by kernel_rfl) (fun _ _ _ h => h) (by rfl) (by assumption) ?hy48 ?rest48
                case hy48 => intro w' hSw; (try dsimp only at hSw); go_simp; try with_reducible rfl
                try simp only [Act.put, List.setIfInBounds_toArray, List.set_cons_zero, List.set_cons_succ]
                refine takeW 15 (v := ?v49) rfl (by kernel_rfl) (by kernel_rfl) (by kernel_rfl) (fun _ _ _ h => h) (by rfl) (by assumption) ?hy49 ?rest49
                case hy49 => intro w' hSw; (try dsimp only at hSw); go_simp; try with_reducible rfl
                try simp only [Act.put, List.setIfInBounds_toArray, List.set_cons_zero, List.set_cons_succ]
                refine takeW 16 (v := ?v50) rfl (by kernel_rfl) (by kernel_rfl) (by kernel_rfl) (fun _ _ _ h => h) (by rfl) (by assumption) ?hy50 ?rest50
                case hy50 => intro w' hSw; (try dsimp only at hSw); go_simp; try with_reducible rfl
                try simp only [Act.put, List.setIfInBounds_toArray, List.set_cons_zero, List.set_cons_succ]
                refine takeW 17 (v := ?v51) rfl (by kernel_rfl) (by kernel_rfl) (by kernel_rfl) (fun _ _ _ h => h) (by rfl) (by assumption) ?hy51 ?rest51
                case hy51 => intro w' hSw; (try dsimp only at hSw); go_simp; try with_reducible rfl
                try simp only [Act.put, List.setIfInBounds_toArray, List.set_cons_zero, List.set_cons_succ]
                refine takeW 18 (v := ?v52) rfl (by kernel_rfl) (by kernel_rfl) (by kernel_rfl) (fun _ _ _ h => h) (by rfl) (by assumption) ?hy52 ?rest52
                case hy52 => intro w' hSw; (try dsimp only at hSw); go_simp; try with_reducible rfl
                try simp only [Act.put, List.setIfInBounds_toArray, List.set_cons_zero, List.set_cons_succ]
                refine wpAnyH_done (by kernel_rfl) ?_ _
                have hB2 := below_one hBW (below_one ((Below.refl _ W).alloc (Nat.le_refl _) _) (below_drew1 hB1))
                clear hcn hcb hB1 hHeld
                go_wp2
                go_roundw
                case rel => first | exact ⟨m + 1 + 1, by omega, by go_num, HR.out, hB2⟩ | ((repeat apply Exists.intro); exact ⟨⟨m + 1 + 1, by omega, by go_num, HR.out, hB2⟩, rfl⟩)
                case measure => simp [intOf]; omega
        · obtain rfl : n = ks.length := by omega
          have HR := hid (show tkB ks = true by rw [tk_end HT.out]; exact decide_eq_true ⟨c1, c2⟩)
          go_wp2
          go_ret
          exact ⟨ret_bool HR.out.symm, hB⟩
    · have HR := hid (show tkB ks = false from tk_len (by omega))
      have d1 : decide ((ks.length : Int) < 1) = false := by simp; omega
      have d2 : decide (6 < (ks.length : Int)) = true := by simp; omega
      go_enter Tryz.func113, Tryz.ntmps113
      go_wp2
      go_ret
      exact ⟨ret_bool HR.out.symm, Below.refl _ _⟩
  · have HR := hid (show tkB ks = false from tk_len (by omega))
    have d1 : decide ((ks.length : Int) < 1) = true := by simp; omega
    go_enter Tryz.func113, Tryz.ntmps113
    go_wp2
    go_ret
    exact ⟨ret_bool HR.out.symm, Below.refl _ _⟩

theorem implGoodToken_any (v : Value) (ks : List Lk) (w : World) (hm : ks.length ≤ 1048577) (hf : ∀ k ∈ ks, k.size ≤ 1048576) (hr : LkS w v ks) :
    Calls Tryz.prog 113 #[v] w fun e w' => e = .returned (.bool (tkB ks)) ∧ Below w.heap.size w w' :=
  implGoodToken_fit v ks w hm (fun k hk => by have := hf k hk; unfold Lk.size at this; omega) hr

end Go.Proofs.YtnbojbcljfiamaaGreatDoor

namespace Go.Proofs.YtnbojbcljfiamaaGreatDoor
open Go.RowKit Go.Shelf

/-- The library's table of powers of ten is as its text lays it. -/
def Tab (w : World) : Prop := Lib.TabIs Tryz.prog w "internal/strconv.uint64pow10" .u64 Lib.pow10Tab
theorem Tab.on {w w' : World} (h : Tab w) (hB : Below w.heap.size w w') : Tab w' := Lib.tabBelow_of_tabIs h w' hB
theorem Tab.on' {w w' : World} (h : Tab w) (hB : Below w.heap.size w.drew w') : Tab w' := h.on (below_drew1 hB)

theorem itoa_any (n : Int) (w : World) (h0 : -9223372036854775808 ≤ n) (h1 : n ≤ 9223372036854775807) (ht : Tab w) :
    Calls Tryz.prog 149 #[.int .i64 n] w fun e w' => e = .returned (.string (numT n)) ∧ Below w.heap.size w w' := by
  have h := Any.strconv_Itoa Tryz.lays171 n h0 h1 w ht
  refine h.mono ?_
  rintro e w' ⟨rfl, k, os, rfl⟩
  exact ⟨rfl, Lib.below_grow _ _ (Nat.le_refl _) k os⟩

end Go.Proofs.YtnbojbcljfiamaaGreatDoor
