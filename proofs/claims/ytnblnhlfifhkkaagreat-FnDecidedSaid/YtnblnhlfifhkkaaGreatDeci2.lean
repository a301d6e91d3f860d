/-
  Chapter 2's deciding by the specification: the first rule that denies and speaks, else the first that allows and does.
-/
import Derived.Deep.RegionHeld3
import Derived.Test.YtnblnhlfifhkkaaGreatDeci
namespace Go.Proofs.YtnblnhlfifhkkaaGreat
open Go.RowKit Go.Shelf

/-- The rule at k is of this kind and speaks of the call. -/
def hitAt (rs : List Ru) (c : Ca) (d : Bool) (k : Nat) : Bool := match rs[k]? with
  | some r => (r.deny == d) && spkB r c
  | none => false
theorem hitAt_lt {rs : List Ru} {c : Ca} {d : Bool} {k : Nat} (h : k < rs.length) : hitAt rs c d k = ((rs[k].deny == d) && spkB rs[k] c) := by
  unfold hitAt
  rw [List.getElem?_eq_getElem h]
def noTo (rs : List Ru) (c : Ca) (d : Bool) (of : List Nat) (m : Nat) : Bool := (of.take m).all (fun k => !hitAt rs c d k)
theorem noTo_zero (rs : List Ru) (c : Ca) (d : Bool) (of : List Nat) : noTo rs c d of 0 = true := by simp [noTo]
theorem noTo_succ {rs : List Ru} {c : Ca} {d : Bool} {of : List Nat} {m : Nat} (h : m < of.length) : noTo rs c d of (m + 1) = (noTo rs c d of m && !hitAt rs c d of[m]) := by
  unfold noTo
  rw [List.take_succ_eq_append_getElem h, List.all_append]
  simp
theorem find_at {rs : List Ru} {c : Ca} {d : Bool} {of : List Nat} {k : Nat} (h : k < of.length) (hn : noTo rs c d of k = true) (hh : hitAt rs c d of[k] = true) : of.find? (hitAt rs c d) = some of[k] := by
  unfold noTo at hn
  have e : of = of.take k ++ of[k] :: of.drop (k + 1) := by rw [← List.drop_eq_getElem_cons h, List.take_append_drop]
  have hf : (of.take k).find? (hitAt rs c d) = none := by
    rw [List.find?_eq_none]
    intro x hx
    have := List.all_eq_true.1 hn x hx
    simpa using this
  conv => lhs; rw [e]
  rw [List.find?_append, hf, Option.none_or, List.find?_cons, hh]
theorem find_none {rs : List Ru} {c : Ca} {d : Bool} {of : List Nat} (hn : noTo rs c d of of.length = true) : of.find? (hitAt rs c d) = none := by
  unfold noTo at hn
  rw [List.take_length] at hn
  rw [List.find?_eq_none]
  intro x hx
  have := List.all_eq_true.1 hn x hx
  simpa using this
/-- What is decided, among the rules of some numbers: the code and the place. -/
def decC (rs : List Ru) (c : Ca) (of : List Nat) : Int := match of.find? (hitAt rs c true) with
  | some _ => 2
  | none => match of.find? (hitAt rs c false) with
    | some _ => 1
    | none => 3
def decK (rs : List Ru) (c : Ca) (of : List Nat) : Int := match of.find? (hitAt rs c true) with
  | some k => k
  | none => match of.find? (hitAt rs c false) with
    | some k => k
    | none => -1
theorem dec_deny {rs : List Ru} {c : Ca} {of : List Nat} {k : Nat} (h : of.find? (hitAt rs c true) = some k) : (2 : Int) = decC rs c of ∧ (k : Int) = decK rs c of := by
  unfold decC decK
  rw [h]
  exact ⟨rfl, rfl⟩
theorem dec_allow {rs : List Ru} {c : Ca} {of : List Nat} {k : Nat} (h0 : of.find? (hitAt rs c true) = none) (h : of.find? (hitAt rs c false) = some k) : (1 : Int) = decC rs c of ∧ (k : Int) = decK rs c of := by
  unfold decC decK
  rw [h0, h]
  exact ⟨rfl, rfl⟩
theorem dec_none {rs : List Ru} {c : Ca} {of : List Nat} (h0 : of.find? (hitAt rs c true) = none) (h : of.find? (hitAt rs c false) = none) : (3 : Int) = decC rs c of ∧ (-1 : Int) = decK rs c of := by
  unfold decC decK
  rw [h0, h]
  exact ⟨rfl, rfl⟩
theorem ret_ints {a b c d : Int} (h : a = b ∧ c = d) : Ending.returned (.tuple #[.int .i64 a, .int .i64 c]) = .returned (.tuple #[.int .i64 b, .int .i64 d]) := by rw [h.1, h.2]
theorem int_cell {w : World} {base g cap : Nat} {of : List Nat} (hrow : w.ownsRow base 3 1 (.slice (some ⟨g, 0, none⟩) of.length cap) of.length (ints of)) {m : Nat} (h : m < of.length) : w.cell? ⟨g, m, none⟩ = some (.int .i64 (of[m] : Int)) := by
  rw [hrow.cellAt m (by omega)]
  simp [ints, h]

set_option maxHeartbeats 2000000 in
theorem l2Decide_any (v vo : Value) (rs : List Ru) (of : List Nat) (c : Ca) (base : Nat) (w : World) (_hm : rs.length ≤ 1048577) (hmo : of.length ≤ 1048577) (hfz : ∀ r ∈ rs, r.size ≤ 1048576) (hc : c.size ≤ 1048576) (hgood : ∀ r ∈ rs, nmB (split r.who 47) = true) (hcn : nmB (split c.who 47) = true) (hof : ∀ k ∈ of, k < rs.length) (hr : RuS w v rs) (hro : w.ownsRow base 3 1 vo of.length (ints of)) :
    Calls Tryz.prog 17 #[v, vo, c.val] w fun e w' => e = .returned (.tuple #[.int .i64 (decC rs c of), .int .i64 (decK rs c of)]) ∧ Below w.heap.size w w' := by
  obtain ⟨a, cap, rfl⟩ := hr.len
  obtain ⟨ao, capo, rfl⟩ := ownsRow_len hro
  go_enter Tryz.func17, Tryz.ntmps17
  go_wp2
  have hW0 : Below w.heap.size w ((w.alloc (.cells #[.string c.who, .string c.method, .string c.path] 25)).alloc (.cells #[.bool true, .bool false] 4)) := ((Below.refl _ w).alloc (Nat.le_refl _) _).alloc (by simp) _
  have b0 : ((w.alloc (.cells #[.string c.who, .string c.method, .string c.path] 25)).alloc (.cells #[.bool true, .bool false] 4)).cell? ⟨w.heap.size, 0, none⟩ = some (.string c.who) := by simp
  have b1 : ((w.alloc (.cells #[.string c.who, .string c.method, .string c.path] 25)).alloc (.cells #[.bool true, .bool false] 4)).cell? ⟨w.heap.size, 1, none⟩ = some (.string c.method) := by simp
  have b2 : ((w.alloc (.cells #[.string c.who, .string c.method, .string c.path] 25)).alloc (.cells #[.bool true, .bool false] 4)).cell? ⟨w.heap.size, 2, none⟩ = some (.string c.path) := by simp
  have t0 : ((w.alloc (.cells #[.string c.who, .string c.method, .string c.path] 25)).alloc (.cells #[.bool true, .bool false] 4)).cell? ⟨w.heap.size + 1, 0, none⟩ = some (.bool true) := by simp
  have t1 : ((w.alloc (.cells #[.string c.who, .string c.method, .string c.path] 25)).alloc (.cells #[.bool true, .bool false] 4)).cell? ⟨w.heap.size + 1, 1, none⟩ = some (.bool false) := by simp
  have hW0s : ((w.alloc (.cells #[.string c.who, .string c.method, .string c.path] 25)).alloc (.cells #[.bool true, .bool false] 4)).heap.size = w.heap.size + 1 + 1 := by simp
  have hr0 := hr.below hW0
  have hrow0 := ownsRow_below hro hW0
  generalize (w.alloc (.cells #[.string c.who, .string c.method, .string c.path] 25)).alloc (.cells #[.bool true, .bool false] 4) = W0 at *
  have HW0s := hid hW0s
  clear hW0s hr hro
  go_loopw [14] (fun i wr => ∃ j : Nat, j ≤ 2 ∧ i = .int .i64 j ∧ (1 ≤ j → noTo rs c true of of.length = true) ∧ (2 ≤ j → noTo rs c false of of.length = true) ∧ Below W0.heap.size W0 wr) (fun i _ => 2 - (intOf i).toNat)
  case atStart => exact ⟨0, by omega, rfl, fun h => by omega, fun h => by omega, Below.refl _ _⟩
  case round =>
    obtain ⟨j, hj, rfl, hn1, hn2, hB⟩ := hrel
    have y0 := (hB.cell (p := ⟨w.heap.size + 1, 0, none⟩) (by rw [HW0s.out]; simp)).trans t0
    have y1 := (hB.cell (p := ⟨w.heap.size + 1, 1, none⟩) (by rw [HW0s.out]; simp)).trans t1
    have HN1 := hid hn1
    have HN2 := hid hn2
    clear hn1 hn2
    by_cases j0 : j = 0
    · subst j0
      go_wp2
      go_loopw [20] (fun i wr => ∃ m : Nat, m ≤ of.length ∧ i = .int .i64 m ∧ noTo rs c true of m = true ∧ Below W0.heap.size W0 wr) (fun i _ => of.length - (intOf i).toNat)
      case atStart => exact ⟨0, Nat.zero_le _, rfl, noTo_zero _ _ _ _, hB⟩
      case round =>
        obtain ⟨m, hm1, rfl, hno, hB⟩ := hrel
        have HN := hid hno
        clear hno
        by_cases hlt : m < of.length
        · have hkk := hof of[m] (List.getElem_mem hlt)
          obtain ⟨go, rfl⟩ := row_some hrow0 hlt
          have ho := (hB.cell (p := ⟨go, m, none⟩) (cell_lt (int_cell hrow0 hlt))).trans (int_cell hrow0 hlt)
          have HS := hid (noTo_succ (rs := rs) (c := c) (d := true) hlt)
          have HF := hid (fun h => find_at (rs := rs) (c := c) (d := true) (k := m) hlt HN.out h)
          generalize of[m] = kk at *
          obtain ⟨b, off, rfl, hb, hcap, q0, q1, q2, q3⟩ := (hr0.below hB).at hkk
          have HK := hid (hitAt_lt (c := c) (d := true) hkk)
          have hz := hfz rs[kk] (List.getElem_mem hkk)
          have hn := hgood rs[kk] (List.getElem_mem hkk)
          generalize rs[kk] = r at *
          have x0 := (hB.cell (p := ⟨w.heap.size, 0, none⟩) (by rw [HW0s.out]; simp; omega)).trans b0
          have x1 := (hB.cell (p := ⟨w.heap.size, 1, none⟩) (by rw [HW0s.out]; simp; omega)).trans b1
          have x2 := (hB.cell (p := ⟨w.heap.size, 2, none⟩) (by rw [HW0s.out]; simp; omega)).trans b2
          obtain ⟨dd, wh, me, pa⟩ := r
          dsimp only at q0 q1 q2 q3 hn
          have hzz : w.heap.size < wr.heap.size := by have := hB.size; have := HW0s.out; omega
          cases dd
          ·
            have HR := hid (show noTo rs c true of (m + 1) = true by rw [HS.out, HN.out, HK.out]; rfl)
            go_wp2_with fail
            go_quiet (fail)
            go_wp2
            go_roundw
            case rel => first | exact ⟨m + 1, by omega, by go_num, HR.out, below_drewN hB _⟩ | ((repeat apply Exists.intro); exact ⟨⟨m + 1, by omega, by go_num, HR.out, below_drewN hB _⟩, rfl⟩)
            case measure => simp [intOf]; omega
          ·
            cases hs : spkB ⟨true, wh, me, pa⟩ c
            · have HR := hid (show noTo rs c true of (m + 1) = true by rw [HS.out, HN.out, HK.out, hs]; rfl)
              go_wp2_with fail
              go_region_held3 (fun w' => w'.cell? ⟨b, off + kk * 4, none⟩ = some (.bool true) ∧ w'.cell? ⟨b, off + kk * 4 + 1, none⟩ = some (.string wh) ∧ w'.cell? ⟨b, off + kk * 4 + 2, none⟩ = some (.string me) ∧ w'.cell? ⟨b, off + kk * 4 + 3, none⟩ = some (.string pa) ∧ w'.cell? ⟨w.heap.size, 0, none⟩ = some (.string c.who) ∧ w'.cell? ⟨w.heap.size, 1, none⟩ = some (.string c.method) ∧ w'.cell? ⟨w.heap.size, 2, none⟩ = some (.string c.path)) (go_keep) (first | (go_at_call 42; refine (l2Speaks_any ⟨true, wh, me, pa⟩ c _ hz hc hn hcn).mono ?_; rintro e w1 ⟨rfl, hB1⟩; have hcb := fun o => hB1.cell (p := ⟨b, o, none⟩) hb; have hcw := fun o => hB1.cell (p := ⟨w.heap.size, o, none⟩) hzz))
              all_goals clear hcb hcw
              all_goals go_wp2
              all_goals go_roundw
              all_goals first
                | exact ⟨m + 1, by omega, by go_num, HR.out, below_one hB (below_drew1 hB1)⟩
                | ((repeat apply Exists.intro); exact ⟨⟨m + 1, by omega, by go_num, HR.out, below_one hB (below_drew1 hB1)⟩, rfl⟩)
                | (simp [intOf]; omega)
            · have HR := hid (HF.out (by rw [HK.out, hs]; rfl))
              go_wp2_with fail
              go_region_held3 (fun w' => w'.cell? ⟨b, off + kk * 4, none⟩ = some (.bool true) ∧ w'.cell? ⟨b, off + kk * 4 + 1, none⟩ = some (.string wh) ∧ w'.cell? ⟨b, off + kk * 4 + 2, none⟩ = some (.string me) ∧ w'.cell? ⟨b, off + kk * 4 + 3, none⟩ = some (.string pa) ∧ w'.cell? ⟨w.heap.size, 0, none⟩ = some (.string c.who) ∧ w'.cell? ⟨w.heap.size, 1, none⟩ = some (.string c.method) ∧ w'.cell? ⟨w.heap.size, 2, none⟩ = some (.string c.path)) (go_keep) (first | (go_at_call 42; refine (l2Speaks_any ⟨true, wh, me, pa⟩ c _ hz hc hn hcn).mono ?_; rintro e w1 ⟨rfl, hB1⟩; have hcb := fun o => hB1.cell (p := ⟨b, o, none⟩) hb; have hcw := fun o => hB1.cell (p := ⟨w.heap.size, o, none⟩) hzz))
              all_goals clear hcb hcw
              all_goals go_wp2
              all_goals go_ret2
              all_goals exact ⟨ret_ints (dec_deny HR.out), below_one hW0 (below_one hB (below_drew1 hB1))⟩
        · obtain rfl : m = of.length := by omega
          have HD := hid HN.out
          go_wp2
          go_roundw
          case rel => exact ⟨1, by omega, rfl, fun _ => HD.out, fun h => by omega, hB⟩
          case measure => simp [intOf]
    · by_cases j1 : j = 1
      · subst j1
        have HO := hid (HN1.out (by omega))
        have HD := hid (find_none HO.out)
        go_wp2
        go_loopw [20] (fun i wr => ∃ m : Nat, m ≤ of.length ∧ i = .int .i64 m ∧ noTo rs c false of m = true ∧ Below W0.heap.size W0 wr) (fun i _ => of.length - (intOf i).toNat)
        case atStart => exact ⟨0, Nat.zero_le _, rfl, noTo_zero _ _ _ _, hB⟩
        case round =>
          obtain ⟨m, hm1, rfl, hno, hB⟩ := hrel
          have HN := hid hno
          clear hno
          by_cases hlt : m < of.length
          · have hkk := hof of[m] (List.getElem_mem hlt)
            obtain ⟨go, rfl⟩ := row_some hrow0 hlt
            have ho := (hB.cell (p := ⟨go, m, none⟩) (cell_lt (int_cell hrow0 hlt))).trans (int_cell hrow0 hlt)
            have HS := hid (noTo_succ (rs := rs) (c := c) (d := false) hlt)
            have HF := hid (fun h => find_at (rs := rs) (c := c) (d := false) (k := m) hlt HN.out h)
            generalize of[m] = kk at *
            obtain ⟨b, off, rfl, hb, hcap, q0, q1, q2, q3⟩ := (hr0.below hB).at hkk
            have HK := hid (hitAt_lt (c := c) (d := false) hkk)
            have hz := hfz rs[kk] (List.getElem_mem hkk)
            have hn := hgood rs[kk] (List.getElem_mem hkk)
            generalize rs[kk] = r at *
            have x0 := (hB.cell (p := ⟨w.heap.size, 0, none⟩) (by rw [HW0s.out]; simp; omega)).trans b0
            have x1 := (hB.cell (p := ⟨w.heap.size, 1, none⟩) (by rw [HW0s.out]; simp; omega)).trans b1
            have x2 := (hB.cell (p := ⟨w.heap.size, 2, none⟩) (by rw [HW0s.out]; simp; omega)).trans b2
            obtain ⟨dd, wh, me, pa⟩ := r
            dsimp only at q0 q1 q2 q3 hn
            have hzz : w.heap.size < wr.heap.size := by have := hB.size; have := HW0s.out; omega
            cases dd
            ·
              cases hs : spkB ⟨false, wh, me, pa⟩ c
              · have HR := hid (show noTo rs c false of (m + 1) = true by rw [HS.out, HN.out, HK.out, hs]; rfl)
                go_wp2_with fail
                go_region_held3 (fun w' => w'.cell? ⟨b, off + kk * 4, none⟩ = some (.bool false) ∧ w'.cell? ⟨b, off + kk * 4 + 1, none⟩ = some (.string wh) ∧ w'.cell? ⟨b, off + kk * 4 + 2, none⟩ = some (.string me) ∧ w'.cell? ⟨b, off + kk * 4 + 3, none⟩ = some (.string pa) ∧ w'.cell? ⟨w.heap.size, 0, none⟩ = some (.string c.who) ∧ w'.cell? ⟨w.heap.size, 1, none⟩ = some (.string c.method) ∧ w'.cell? ⟨w.heap.size, 2, none⟩ = some (.string c.path)) (go_keep) (first | (go_at_call 42; refine (l2Speaks_any ⟨false, wh, me, pa⟩ c _ hz hc hn hcn).mono ?_; rintro e w1 ⟨rfl, hB1⟩; have hcb := fun o => hB1.cell (p := ⟨b, o, none⟩) hb; have hcw := fun o => hB1.cell (p := ⟨w.heap.size, o, none⟩) hzz))
                all_goals clear hcb hcw
                all_goals go_wp2
                all_goals go_roundw
                all_goals first
                  | exact ⟨m + 1, by omega, by go_num, HR.out, below_one hB (below_drew1 hB1)⟩
                  | ((repeat apply Exists.intro); exact ⟨⟨m + 1, by omega, by go_num, HR.out, below_one hB (below_drew1 hB1)⟩, rfl⟩)
                  | (simp [intOf]; omega)
              · have HR := hid (HF.out (by rw [HK.out, hs]; rfl))
                go_wp2_with fail
                go_region_held3 (fun w' => w'.cell? ⟨b, off + kk * 4, none⟩ = some (.bool false) ∧ w'.cell? ⟨b, off + kk * 4 + 1, none⟩ = some (.string wh) ∧ w'.cell? ⟨b, off + kk * 4 + 2, none⟩ = some (.string me) ∧ w'.cell? ⟨b, off + kk * 4 + 3, none⟩ = some (.string pa) ∧ w'.cell? ⟨w.heap.size, 0, none⟩ = some (.string c.who) ∧ w'.cell? ⟨w.heap.size, 1, none⟩ = some (.string c.method) ∧ w'.cell? ⟨w.heap.size, 2, none⟩ = some (.string c.path)) (go_keep) (first | (go_at_call 42; refine (l2Speaks_any ⟨false, wh, me, pa⟩ c _ hz hc hn hcn).mono ?_; rintro e w1 ⟨rfl, hB1⟩; have hcb := fun o => hB1.cell (p := ⟨b, o, none⟩) hb; have hcw := fun o => hB1.cell (p := ⟨w.heap.size, o, none⟩) hzz))
                all_goals clear hcb hcw
                all_goals go_wp2
                all_goals go_ret2
                all_goals exact ⟨ret_ints (dec_allow HD.out HR.out), below_one hW0 (below_one hB (below_drew1 hB1))⟩
            ·
              have HR := hid (show noTo rs c false of (m + 1) = true by rw [HS.out, HN.out, HK.out]; rfl)
              go_wp2_with fail
              go_quiet (fail)
              go_wp2
              go_roundw
              case rel => first | exact ⟨m + 1, by omega, by go_num, HR.out, below_drewN hB _⟩ | ((repeat apply Exists.intro); exact ⟨⟨m + 1, by omega, by go_num, HR.out, below_drewN hB _⟩, rfl⟩)
              case measure => simp [intOf]; omega
          · obtain rfl : m = of.length := by omega
            have HD2 := hid HN.out
            go_wp2
            go_roundw
            case rel => exact ⟨2, by omega, rfl, fun _ => HO.out, fun _ => HD2.out, hB⟩
            case measure => simp [intOf]
      · obtain rfl : j = 2 := by omega
        have HO := hid (HN1.out (by omega))
        have HQ := hid (HN2.out (by omega))
        go_wp2
        go_ret2
        exact ⟨ret_ints (dec_none (find_none HO.out) (find_none HQ.out)), below_one hW0 hB⟩

end Go.Proofs.YtnblnhlfifhkkaaGreat
