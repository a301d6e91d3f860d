/-
  Chapter 2, the program's side: NeverCounts.
-/
import Derived.Deep.RegionHeld3
import Derived.Test.YtnblnhlfifhkkaaGreatImplG
import Derived.Test.YtnblnhlfifhkkaaGreatNever
namespace Go.Proofs.YtnblnhlfifhkkaaGreat
open Go.RowKit Go.Shelf

theorem neq_rule (o r : Ru) (w : World) : (binOp .neq 52 o.val r.val).run Tryz.prog w = .ok (.bool (!(o.same r))) w := by
  rw [run_neq_struct]
  simp [go_sem, Tryz.underlying52]
  unfold Ru.same eqB
  repeat' split
  all_goals simp_all

/-- One rule's patterns and methods cover another's. -/
def crB (o r : Ru) : Bool := (cnB o.who r.who && cpB o.path r.path) && cmB o.method r.method
def silB (o r : Ru) : Bool := (o.deny || !r.deny) && crB o r
theorem sil_eq {o r : Ru} (ho : o.good = true) (hr : r.good = true) : silB o r = covB o r := by
  unfold Ru.good at ho hr
  simp only [Bool.and_eq_true] at ho hr
  have h1 : cnB o.who r.who = mnB (split o.who 47) (split r.who 47) := by
    obtain ⟨x, y, he⟩ := nm_two ho.1.1
    obtain ⟨u, v, hf⟩ := nm_two hr.1.1
    have a1 := ho.1.1
    have a2 := hr.1.1
    unfold cnB
    rw [a1, a2, he, hf]
    rw [he] at a1
    rw [hf] at a2
    rw [cv_names a1 a2]
    simp [mnB]
  unfold silB crB covB cmB
  rw [h1, cp_lc ho.1.2 hr.1.2]
  cases mnB (split o.who 47) (split r.who 47) <;> cases lcB 6 (wL o.path) (wL r.path) <;> cases (starB o.method || eqB o.method r.method) <;> cases (o.deny || !r.deny) <;> rfl
theorem another_eq {m k : Nat} {s : Bool} (h : m = k → s = true) : (!(decide (m = k) || (decide (k < m) && s))) = (decide (m < k) || !s) := by
  by_cases h1 : m < k
  · simp [h1, Nat.ne_of_lt h1, Nat.not_lt_of_lt h1]
  · by_cases h2 : m = k
    · subst h2
      simp [h rfl]
    · have h3 : k < m := by omega
      simp [h1, h2, h3]

set_option maxHeartbeats 1000000 in
theorem coversRule_any (o r : Ru) (w : World) (ho : o.size ≤ 1048576) (hr : r.size ≤ 1048576) :
    Calls Tryz.prog 113 #[o.val, r.val] w fun e w' => e = .returned (.bool (crB o r)) ∧ Below w.heap.size w w' := by
  have hw1 : o.who.size ≤ 1048576 := by unfold Ru.size at ho; omega
  have hw2 : r.who.size ≤ 1048576 := by unfold Ru.size at hr; omega
  have hp1 : o.path.size ≤ 1048576 := by unfold Ru.size at ho; omega
  have hp2 : r.path.size ≤ 1048576 := by unfold Ru.size at hr; omega
  have hBa : Below w.heap.size w ((w.alloc (.cells #[.bool o.deny, .string o.who, .string o.method, .string o.path] 52)).alloc (.cells #[.bool r.deny, .string r.who, .string r.method, .string r.path] 52)) := ((Below.refl _ w).alloc (Nat.le_refl _) _).alloc (by simp) _
  have x2 : ((w.alloc (.cells #[.bool o.deny, .string o.who, .string o.method, .string o.path] 52)).alloc (.cells #[.bool r.deny, .string r.who, .string r.method, .string r.path] 52)).cell? ⟨w.heap.size, 2, none⟩ = some (.string o.method) := by simp
  have x3 : ((w.alloc (.cells #[.bool o.deny, .string o.who, .string o.method, .string o.path] 52)).alloc (.cells #[.bool r.deny, .string r.who, .string r.method, .string r.path] 52)).cell? ⟨w.heap.size, 3, none⟩ = some (.string o.path) := by simp
  have y2 : ((w.alloc (.cells #[.bool o.deny, .string o.who, .string o.method, .string o.path] 52)).alloc (.cells #[.bool r.deny, .string r.who, .string r.method, .string r.path] 52)).cell? ⟨w.heap.size + 1, 2, none⟩ = some (.string r.method) := by simp
  have y3 : ((w.alloc (.cells #[.bool o.deny, .string o.who, .string o.method, .string o.path] 52)).alloc (.cells #[.bool r.deny, .string r.who, .string r.method, .string r.path] 52)).cell? ⟨w.heap.size + 1, 3, none⟩ = some (.string r.path) := by simp
  have HZ := hid (show ((w.alloc (.cells #[.bool o.deny, .string o.who, .string o.method, .string o.path] 52)).alloc (.cells #[.bool r.deny, .string r.who, .string r.method, .string r.path] 52)).heap.size = w.heap.size + 2 by simp)
  cases m1 : cnB o.who r.who
  · cases m2 : cpB o.path r.path
    ·
      have HR := hid (show crB o r = false by unfold crB; rw [m1, m2]; rfl)
      go_enter Tryz.func113, Tryz.ntmps113
      go_wp2_with fail
      refine (implCoversName_any _ _ _ hw1 hw2).mono ?_
      rintro e w1 ⟨rfl, hB1⟩
      rw [m1]
      have hBB := below_one hBa hB1
      have hz : w.heap.size + 1 < w1.heap.size := by have := hB1.size; have := HZ.out; omega
      have hz' : w.heap.size < w1.heap.size := by omega
      replace x2 := (hB1.cell (p := ⟨w.heap.size, 2, none⟩) (by have := HZ.out; simp only; omega)).trans x2
      replace x3 := (hB1.cell (p := ⟨w.heap.size, 3, none⟩) (by have := HZ.out; simp only; omega)).trans x3
      replace y2 := (hB1.cell (p := ⟨w.heap.size + 1, 2, none⟩) (by have := HZ.out; simp only; omega)).trans y2
      replace y3 := (hB1.cell (p := ⟨w.heap.size + 1, 3, none⟩) (by have := HZ.out; simp only; omega)).trans y3
      clear hB1 hBa
      go_wp2_with fail
      refine (implCoversPath_any _ _ _ hp1 hp2).mono ?_
      rintro e w2 ⟨rfl, hB2⟩
      rw [m2]
      have hBB2 := below_one hBB hB2
      replace x2 := (hB2.cell (p := ⟨w.heap.size, 2, none⟩) hz').trans x2
      replace y2 := (hB2.cell (p := ⟨w.heap.size + 1, 2, none⟩) hz).trans y2
      clear hB2 hBB x3 y3
      go_wp2_with fail
      go_ret
      exact ⟨ret_bool HR.out.symm, hBB2⟩
    ·
      have HR := hid (show crB o r = false by unfold crB; rw [m1, m2]; rfl)
      go_enter Tryz.func113, Tryz.ntmps113
      go_wp2_with fail
      refine (implCoversName_any _ _ _ hw1 hw2).mono ?_
      rintro e w1 ⟨rfl, hB1⟩
      rw [m1]
      have hBB := below_one hBa hB1
      have hz : w.heap.size + 1 < w1.heap.size := by have := hB1.size; have := HZ.out; omega
      have hz' : w.heap.size < w1.heap.size := by omega
      replace x2 := (hB1.cell (p := ⟨w.heap.size, 2, none⟩) (by have := HZ.out; simp only; omega)).trans x2
      replace x3 := (hB1.cell (p := ⟨w.heap.size, 3, none⟩) (by have := HZ.out; simp only; omega)).trans x3
      replace y2 := (hB1.cell (p := ⟨w.heap.size + 1, 2, none⟩) (by have := HZ.out; simp only; omega)).trans y2
      replace y3 := (hB1.cell (p := ⟨w.heap.size + 1, 3, none⟩) (by have := HZ.out; simp only; omega)).trans y3
      clear hB1 hBa
      go_wp2_with fail
      refine (implCoversPath_any _ _ _ hp1 hp2).mono ?_
      rintro e w2 ⟨rfl, hB2⟩
      rw [m2]
      have hBB2 := below_one hBB hB2
      replace x2 := (hB2.cell (p := ⟨w.heap.size, 2, none⟩) hz').trans x2
      replace y2 := (hB2.cell (p := ⟨w.heap.size + 1, 2, none⟩) hz).trans y2
      clear hB2 hBB x3 y3
      go_wp2_with fail
      go_ret
      exact ⟨ret_bool HR.out.symm, hBB2⟩
  · cases m2 : cpB o.path r.path
    ·
      have HR := hid (show crB o r = false by unfold crB; rw [m1, m2]; rfl)
      go_enter Tryz.func113, Tryz.ntmps113
      go_wp2_with fail
      refine (implCoversName_any _ _ _ hw1 hw2).mono ?_
      rintro e w1 ⟨rfl, hB1⟩
      rw [m1]
      have hBB := below_one hBa hB1
      have hz : w.heap.size + 1 < w1.heap.size := by have := hB1.size; have := HZ.out; omega
      have hz' : w.heap.size < w1.heap.size := by omega
      replace x2 := (hB1.cell (p := ⟨w.heap.size, 2, none⟩) (by have := HZ.out; simp only; omega)).trans x2
      replace x3 := (hB1.cell (p := ⟨w.heap.size, 3, none⟩) (by have := HZ.out; simp only; omega)).trans x3
      replace y2 := (hB1.cell (p := ⟨w.heap.size + 1, 2, none⟩) (by have := HZ.out; simp only; omega)).trans y2
      replace y3 := (hB1.cell (p := ⟨w.heap.size + 1, 3, none⟩) (by have := HZ.out; simp only; omega)).trans y3
      clear hB1 hBa
      go_wp2_with fail
      refine (implCoversPath_any _ _ _ hp1 hp2).mono ?_
      rintro e w2 ⟨rfl, hB2⟩
      rw [m2]
      have hBB2 := below_one hBB hB2
      replace x2 := (hB2.cell (p := ⟨w.heap.size, 2, none⟩) hz').trans x2
      replace y2 := (hB2.cell (p := ⟨w.heap.size + 1, 2, none⟩) hz).trans y2
      clear hB2 hBB x3 y3
      go_wp2_with fail
      go_ret
      exact ⟨ret_bool HR.out.symm, hBB2⟩
    ·
      have HR := hid (show crB o r = cmB o.method r.method by unfold crB; rw [m1, m2]; rfl)
      go_enter Tryz.func113, Tryz.ntmps113
      go_wp2_with fail
      refine (implCoversName_any _ _ _ hw1 hw2).mono ?_
      rintro e w1 ⟨rfl, hB1⟩
      rw [m1]
      have hBB := below_one hBa hB1
      have hz : w.heap.size + 1 < w1.heap.size := by have := hB1.size; have := HZ.out; omega
      have hz' : w.heap.size < w1.heap.size := by omega
      replace x2 := (hB1.cell (p := ⟨w.heap.size, 2, none⟩) (by have := HZ.out; simp only; omega)).trans x2
      replace x3 := (hB1.cell (p := ⟨w.heap.size, 3, none⟩) (by have := HZ.out; simp only; omega)).trans x3
      replace y2 := (hB1.cell (p := ⟨w.heap.size + 1, 2, none⟩) (by have := HZ.out; simp only; omega)).trans y2
      replace y3 := (hB1.cell (p := ⟨w.heap.size + 1, 3, none⟩) (by have := HZ.out; simp only; omega)).trans y3
      clear hB1 hBa
      go_wp2_with fail
      refine (implCoversPath_any _ _ _ hp1 hp2).mono ?_
      rintro e w2 ⟨rfl, hB2⟩
      rw [m2]
      have hBB2 := below_one hBB hB2
      replace x2 := (hB2.cell (p := ⟨w.heap.size, 2, none⟩) hz').trans x2
      replace y2 := (hB2.cell (p := ⟨w.heap.size + 1, 2, none⟩) hz).trans y2
      clear hB2 hBB x3 y3
      go_wp2_with fail
      refine (coversMethod_any _ _ _).mono ?_
      rintro e w3 ⟨rfl, rfl⟩
      go_wp2_with fail
      go_ret
      exact ⟨ret_bool HR.out.symm, hBB2⟩


theorem methSilA (v : Value) (w : World) : (method 229 77 v "loop.example/g00167/impl.silences").run Tryz.prog w = .ok (124, v) w := by kernel_rfl
theorem nilSilA (v : Value) (w : World) : (nilAhead 229 77 v "loop.example/g00167/impl.silences").run Tryz.prog w = .ok (some false) w := by kernel_rfl

set_option maxHeartbeats 1000000 in
theorem silencesA_any (ow om op : ByteArray) (rd : Bool) (rw rm rp : ByteArray) (w : World) (ho : ow.size + om.size + op.size ≤ 1048576) (hr : rw.size + rm.size + rp.size ≤ 1048576) :
    Calls Tryz.prog 124 #[.agg #[.bool false, .string ow, .string om, .string op], .agg #[.bool rd, .string rw, .string rm, .string rp]] w fun e w' => e = .returned (.bool (silB ⟨false, ow, om, op⟩ ⟨rd, rw, rm, rp⟩)) ∧ Below w.heap.size w w' := by
  have hBa : Below w.heap.size w ((w.alloc (.cells #[.bool false, .string ow, .string om, .string op] 77)).alloc (.cells #[.bool rd, .string rw, .string rm, .string rp] 52)) := ((Below.refl _ w).alloc (Nat.le_refl _) _).alloc (by simp) _
  cases rd
  · have HR := hid (show silB ⟨false, ow, om, op⟩ ⟨false, rw, rm, rp⟩ = crB ⟨false, ow, om, op⟩ ⟨false, rw, rm, rp⟩ from rfl)
    go_enter Tryz.func124, Tryz.ntmps124
    go_wp2_with fail
    refine (coversRule_any ⟨false, ow, om, op⟩ ⟨false, rw, rm, rp⟩ _ ho hr).mono ?_
    rintro e w1 ⟨rfl, hB1⟩
    go_wp2_with fail
    go_ret
    exact ⟨ret_bool HR.out.symm, below_one hBa hB1⟩
  · have HR := hid (show silB ⟨false, ow, om, op⟩ ⟨true, rw, rm, rp⟩ = false from rfl)
    go_enter Tryz.func124, Tryz.ntmps124
    go_wp2
    go_ret
    exact ⟨ret_bool HR.out.symm, hBa⟩

theorem methSilD (v : Value) (w : World) : (method 229 76 v "loop.example/g00167/impl.silences").run Tryz.prog w = .ok (110, v) w := by kernel_rfl
theorem nilSilD (v : Value) (w : World) : (nilAhead 229 76 v "loop.example/g00167/impl.silences").run Tryz.prog w = .ok (some false) w := by kernel_rfl

set_option maxHeartbeats 1000000 in
theorem silencesD_any (ow om op : ByteArray) (rd : Bool) (rw rm rp : ByteArray) (w : World) (ho : ow.size + om.size + op.size ≤ 1048576) (hr : rw.size + rm.size + rp.size ≤ 1048576) :
    Calls Tryz.prog 110 #[.agg #[.bool true, .string ow, .string om, .string op], .agg #[.bool rd, .string rw, .string rm, .string rp]] w fun e w' => e = .returned (.bool (silB ⟨true, ow, om, op⟩ ⟨rd, rw, rm, rp⟩)) ∧ Below w.heap.size w w' := by
  have hBa : Below w.heap.size w ((w.alloc (.cells #[.bool true, .string ow, .string om, .string op] 76)).alloc (.cells #[.bool rd, .string rw, .string rm, .string rp] 52)) := ((Below.refl _ w).alloc (Nat.le_refl _) _).alloc (by simp) _
  have HR := hid (show silB ⟨true, ow, om, op⟩ ⟨rd, rw, rm, rp⟩ = crB ⟨true, ow, om, op⟩ ⟨rd, rw, rm, rp⟩ from rfl)
  go_enter Tryz.func110, Tryz.ntmps110
  go_wp2_with fail
  refine (coversRule_any ⟨true, ow, om, op⟩ ⟨rd, rw, rm, rp⟩ _ ho hr).mono ?_
  rintro e w1 ⟨rfl, hB1⟩
  go_wp2_with fail
  go_ret
  exact ⟨ret_bool HR.out.symm, below_one hBa hB1⟩

set_option maxHeartbeats 4000000 in
theorem implNeverCounts_any (v : Value) (rs : List Ru) (k : Int) (w : World) (hm : rs.length ≤ 1048577) (hfz : ∀ r ∈ rs, r.size ≤ 1048576) (hr : RuS w v rs) :
    Calls Tryz.prog 9 #[v, .int .i64 k] w fun e w' => e = .returned (.tuple #[.bool (ncB rs k), .bool (ncOk rs k)]) ∧ Below w.heap.size w w' := by
  obtain ⟨a, cap, rfl⟩ := hr.len
  cases h1 : polB rs
  · have HO := hid (show ncOk rs k = false by unfold ncOk; rw [h1]; rfl)
    have HR := hid (show ncB rs k = false by unfold ncB; rw [HO.out]; rfl)
    go_enter Tryz.func9, Tryz.ntmps9
    go_wp2_with fail
    refine (goodPolicy_any _ rs _ hm hfz hr).mono ?_
    rintro e w1 ⟨rfl, hB1⟩
    rw [h1]
    go_wp2_with fail
    go_ret2
    exact ⟨ret_bools HR.out.symm HO.out.symm, hB1⟩
  · by_cases h2 : k < 0
    · have HO := hid (show ncOk rs k = false by unfold ncOk inB; rw [decide_eq_false (by omega : ¬ 0 ≤ k)]; simp)
      have HR := hid (show ncB rs k = false by unfold ncB; rw [HO.out]; rfl)
      go_enter Tryz.func9, Tryz.ntmps9
      go_wp2_with fail
      refine (goodPolicy_any _ rs _ hm hfz hr).mono ?_
      rintro e w1 ⟨rfl, hB1⟩
      rw [h1]
      go_wp2_with fail
      go_ret2
      exact ⟨ret_bools HR.out.symm HO.out.symm, hB1⟩
    · by_cases h3 : (rs.length : Int) ≤ k
      · have HO := hid (show ncOk rs k = false by unfold ncOk inB; rw [decide_eq_false (by omega : ¬ k ≤ (rs.length : Int) - 1)]; simp)
        have HR := hid (show ncB rs k = false by unfold ncB; rw [HO.out]; rfl)
        go_enter Tryz.func9, Tryz.ntmps9
        go_wp2_with fail
        refine (goodPolicy_any _ rs _ hm hfz hr).mono ?_
        rintro e w1 ⟨rfl, hB1⟩
        rw [h1]
        go_wp2_with fail
        go_ret2
        exact ⟨ret_bools HR.out.symm HO.out.symm, hB1⟩
      · obtain ⟨kn, rfl⟩ := Int.eq_ofNat_of_zero_le (show 0 ≤ k by omega)
        have hk : kn < rs.length := by omega
        have k1 : decide ((kn : Int) < 0) = false := by simp
        have k2 : decide (rs.length ≤ kn) = false := by simp; omega
        have HOK := hid (show ncOk rs kn = true by unfold ncOk inB; rw [h1, decide_eq_true (by omega : (0 : Int) ≤ kn), decide_eq_true (by omega : (kn : Int) ≤ (rs.length : Int) - 1)]; rfl)
        have hgood := fun (r : Ru) (h : r ∈ rs) => (show r.good = true by
          have h1' := h1
          unfold polB at h1'
          rw [Bool.and_eq_true, List.all_eq_true] at h1'
          exact h1'.1 r h)
        go_enter Tryz.func9, Tryz.ntmps9
        go_wp2_with fail
        refine (goodPolicy_any _ rs _ hm hfz hr).mono ?_
        rintro e w1 ⟨rfl, hB1⟩
        rw [h1]
        replace hr := hr.below hB1
        obtain ⟨b, off, rfl, hb, hcap, q0, q1, q2, q3⟩ := hr.at hk
        have hzr := hfz rs[kn] (List.getElem_mem hk)
        have hgr := hgood rs[kn] (List.getElem_mem hk)
        have HA := hid (fun (i : Nat) (hi : i < rs.length) => (show ncAt rs kn i = ((decide (i < kn) || !(rs[i].same rs[kn])) && silB rs[i] rs[kn]) by
          rw [ncAt_lt hi hk, another_eq (fun h => by subst h; exact Ru.same_refl _), sil_eq (hgood rs[i] (List.getElem_mem hi)) hgr]))
        generalize rs[kn] = r at *
        obtain ⟨rd, rw', rm, rp⟩ := r
        dsimp only at q0 q1 q2 q3
        unfold Ru.size at hzr
        dsimp only at hzr
        clear hgr hgood h1
        have hcA := methSilA
        have hcD := methSilD
        have hnA := nilSilA
        have hnD := nilSilD
        go_wp2
        go_loopw [24] (fun i wr => ∃ m : Nat, m ≤ rs.length ∧ i = .int .i64 m ∧ ncTo rs kn m = false ∧ Below w1.heap.size w1 wr) (fun i _ => rs.length - (intOf i).toNat)
        case atStart => exact ⟨0, Nat.zero_le _, rfl, ncTo_zero _ _, Below.refl _ _⟩
        case round =>
          obtain ⟨m, hm', rfl, hno, hB⟩ := hrel
          have HNO := hid hno
          clear hno
          by_cases hlt : m < rs.length
          · have HK := hid (HA.out m hlt)
            obtain ⟨b', off', he', hb', hcap', y0, y1, y2, y3⟩ := (hr.below hB).at hlt
            cases he'
            have hzo := hfz rs[m] (List.getElem_mem hlt)
            have HH := hid (fun h => nc_hit (k := kn) hlt h)
            generalize rs[m] = o at *
            obtain ⟨od, ow, om, op⟩ := o
            dsimp only at y0 y1 y2 y3
            unfold Ru.size at hzo
            dsimp only at hzo
            have p0 := (hB.cell (p := ⟨b, off + kn * 4, none⟩) hb).trans q0
            have p1 := (hB.cell (p := ⟨b, off + kn * 4 + 1, none⟩) hb).trans q1
            have p2 := (hB.cell (p := ⟨b, off + kn * 4 + 2, none⟩) hb).trans q2
            have p3 := (hB.cell (p := ⟨b, off + kn * 4 + 3, none⟩) hb).trans q3
            have hbw : b < wr.heap.size := Nat.lt_of_lt_of_le hb hB.size
            cases od
            ·
              have hBa : Below w1.heap.size w1 (wr.alloc (.cells #[.bool false, .string ow, .string om, .string op] 52)) := hB.alloc hB.size _
              have hBw : Below wr.heap.size wr (wr.alloc (.cells #[.bool false, .string ow, .string om, .string op] 52)) := (Below.refl _ wr).alloc (Nat.le_refl _) _
              have x0 : (wr.alloc (.cells #[.bool false, .string ow, .string om, .string op] 52)).cell? ⟨wr.heap.size, 0, none⟩ = some (.bool false) := by simp
              have x1 : (wr.alloc (.cells #[.bool false, .string ow, .string om, .string op] 52)).cell? ⟨wr.heap.size, 1, none⟩ = some (.string ow) := by simp
              have x2 : (wr.alloc (.cells #[.bool false, .string ow, .string om, .string op] 52)).cell? ⟨wr.heap.size, 2, none⟩ = some (.string om) := by simp
              have x3 : (wr.alloc (.cells #[.bool false, .string ow, .string om, .string op] 52)).cell? ⟨wr.heap.size, 3, none⟩ = some (.string op) := by simp
              have hzW : wr.heap.size < (wr.alloc (.cells #[.bool false, .string ow, .string om, .string op] 52)).heap.size := by simp
              by_cases hmk : m < kn
              · have dk : decide ((m : Int) < (kn : Int)) = true := by simp; omega
                cases hs : silB ⟨false, ow, om, op⟩ ⟨rd, rw', rm, rp⟩
                · have HR := hid (show ncTo rs kn (m + 1) = false by rw [ncTo_succ, HNO.out, HK.out, decide_eq_true hmk, hs]; simp)
                  go_wp2_with fail
                  replace p0 := (hBw.cell (p := ⟨b, off + kn * 4, none⟩) hbw).trans p0
                  replace p1 := (hBw.cell (p := ⟨b, off + kn * 4 + 1, none⟩) hbw).trans p1
                  replace p2 := (hBw.cell (p := ⟨b, off + kn * 4 + 2, none⟩) hbw).trans p2
                  replace p3 := (hBw.cell (p := ⟨b, off + kn * 4 + 3, none⟩) hbw).trans p3
                  clear y0 y1 y2 y3 hBw
                  generalize wr.alloc (.cells #[.bool false, .string ow, .string om, .string op] 52) = W at *
                  go_quiet (fail)
                  go_wp2_with fail
                  replace hBa : Below w1.heap.size w1 (W.drewN nq) := below_drewN hBa _
                  replace x0 : (W.drewN nq).cell? _ = _ := x0
                  replace x1 : (W.drewN nq).cell? _ = _ := x1
                  replace x2 : (W.drewN nq).cell? _ = _ := x2
                  replace x3 : (W.drewN nq).cell? _ = _ := x3
                  replace p0 : (W.drewN nq).cell? _ = _ := p0
                  replace p1 : (W.drewN nq).cell? _ = _ := p1
                  replace p2 : (W.drewN nq).cell? _ = _ := p2
                  replace p3 : (W.drewN nq).cell? _ = _ := p3
                  replace hzW : wr.heap.size < (W.drewN nq).heap.size := hzW
                  have hbW : b < (W.drewN nq).heap.size := Nat.lt_trans hbw hzW
                  generalize W.drewN nq = W2 at *
                  go_region_held3 (fun w' => w'.cell? ⟨wr.heap.size, 0, none⟩ = some (.bool false) ∧ w'.cell? ⟨wr.heap.size, 1, none⟩ = some (.string ow) ∧ w'.cell? ⟨wr.heap.size, 2, none⟩ = some (.string om) ∧ w'.cell? ⟨wr.heap.size, 3, none⟩ = some (.string op) ∧ w'.cell? ⟨b, off + kn * 4, none⟩ = some (.bool rd) ∧ w'.cell? ⟨b, off + kn * 4 + 1, none⟩ = some (.string rw') ∧ w'.cell? ⟨b, off + kn * 4 + 2, none⟩ = some (.string rm) ∧ w'.cell? ⟨b, off + kn * 4 + 3, none⟩ = some (.string rp)) (go_keep) (first | (go_at_call 27; refine (voiceOfA_any ow om op _).mono ?_; rintro e w3 ⟨rfl, rfl⟩) | (go_at_call 124; refine (silencesA_any ow om op rd rw' rm rp _ hzo hzr).mono ?_; rintro e w5 ⟨rfl, hB5⟩; rw [hs]; have hcb := fun o => hB5.cell (p := ⟨b, o, none⟩) (by simp; omega); have hcw := fun o => hB5.cell (p := ⟨wr.heap.size, o, none⟩) (by simp; omega); have hBB5 := below_one ((hBa.alloc hBa.size _).drew) hB5; clear hB5))
                  all_goals clear hcb hcw
                  all_goals go_wp2
                  all_goals go_roundw
                  all_goals first
                    | exact ⟨m + 1, by omega, by go_num, HR.out, hBB5⟩
                    | ((repeat apply Exists.intro); exact ⟨⟨m + 1, by omega, by go_num, HR.out, hBB5⟩, rfl⟩)
                    | (simp [intOf]; omega)
                · have HR := hid (show ncB rs kn = true by unfold ncB; rw [HOK.out]; exact HH.out (by rw [HK.out, decide_eq_true hmk, hs]; rfl))
                  go_wp2_with fail
                  replace p0 := (hBw.cell (p := ⟨b, off + kn * 4, none⟩) hbw).trans p0
                  replace p1 := (hBw.cell (p := ⟨b, off + kn * 4 + 1, none⟩) hbw).trans p1
                  replace p2 := (hBw.cell (p := ⟨b, off + kn * 4 + 2, none⟩) hbw).trans p2
                  replace p3 := (hBw.cell (p := ⟨b, off + kn * 4 + 3, none⟩) hbw).trans p3
                  clear y0 y1 y2 y3 hBw
                  generalize wr.alloc (.cells #[.bool false, .string ow, .string om, .string op] 52) = W at *
                  go_quiet (fail)
                  go_wp2_with fail
                  replace hBa : Below w1.heap.size w1 (W.drewN nq) := below_drewN hBa _
                  replace x0 : (W.drewN nq).cell? _ = _ := x0
                  replace x1 : (W.drewN nq).cell? _ = _ := x1
                  replace x2 : (W.drewN nq).cell? _ = _ := x2
                  replace x3 : (W.drewN nq).cell? _ = _ := x3
                  replace p0 : (W.drewN nq).cell? _ = _ := p0
                  replace p1 : (W.drewN nq).cell? _ = _ := p1
                  replace p2 : (W.drewN nq).cell? _ = _ := p2
                  replace p3 : (W.drewN nq).cell? _ = _ := p3
                  replace hzW : wr.heap.size < (W.drewN nq).heap.size := hzW
                  have hbW : b < (W.drewN nq).heap.size := Nat.lt_trans hbw hzW
                  generalize W.drewN nq = W2 at *
                  go_region_held3 (fun w' => w'.cell? ⟨wr.heap.size, 0, none⟩ = some (.bool false) ∧ w'.cell? ⟨wr.heap.size, 1, none⟩ = some (.string ow) ∧ w'.cell? ⟨wr.heap.size, 2, none⟩ = some (.string om) ∧ w'.cell? ⟨wr.heap.size, 3, none⟩ = some (.string op) ∧ w'.cell? ⟨b, off + kn * 4, none⟩ = some (.bool rd) ∧ w'.cell? ⟨b, off + kn * 4 + 1, none⟩ = some (.string rw') ∧ w'.cell? ⟨b, off + kn * 4 + 2, none⟩ = some (.string rm) ∧ w'.cell? ⟨b, off + kn * 4 + 3, none⟩ = some (.string rp)) (go_keep) (first | (go_at_call 27; refine (voiceOfA_any ow om op _).mono ?_; rintro e w3 ⟨rfl, rfl⟩) | (go_at_call 124; refine (silencesA_any ow om op rd rw' rm rp _ hzo hzr).mono ?_; rintro e w5 ⟨rfl, hB5⟩; rw [hs]; have hcb := fun o => hB5.cell (p := ⟨b, o, none⟩) (by simp; omega); have hcw := fun o => hB5.cell (p := ⟨wr.heap.size, o, none⟩) (by simp; omega); have hBB5 := below_one ((hBa.alloc hBa.size _).drew) hB5; clear hB5))
                  all_goals clear hcb hcw
                  all_goals go_wp2
                  all_goals go_ret2
                  all_goals exact ⟨ret_bools HR.out.symm HOK.out.symm, below_one hB1 hBB5⟩
              · have dk : decide ((m : Int) < (kn : Int)) = false := by simp; omega
                have hne := neq_rule ⟨false, ow, om, op⟩ ⟨rd, rw', rm, rp⟩
                cases hsm : Ru.same ⟨false, ow, om, op⟩ ⟨rd, rw', rm, rp⟩
                ·
                  rw [hsm] at hne
                  cases hs : silB ⟨false, ow, om, op⟩ ⟨rd, rw', rm, rp⟩
                  · have HR := hid (show ncTo rs kn (m + 1) = false by rw [ncTo_succ, HNO.out, HK.out, hsm, decide_eq_false hmk, hs]; simp)
                    go_wp2_with fail
                    replace p0 := (hBw.cell (p := ⟨b, off + kn * 4, none⟩) hbw).trans p0
                    replace p1 := (hBw.cell (p := ⟨b, off + kn * 4 + 1, none⟩) hbw).trans p1
                    replace p2 := (hBw.cell (p := ⟨b, off + kn * 4 + 2, none⟩) hbw).trans p2
                    replace p3 := (hBw.cell (p := ⟨b, off + kn * 4 + 3, none⟩) hbw).trans p3
                    clear y0 y1 y2 y3 hBw
                    generalize wr.alloc (.cells #[.bool false, .string ow, .string om, .string op] 52) = W at *
                    go_quiet (fail)
                    go_wp2_with fail
                    replace hBa : Below w1.heap.size w1 (W.drewN nq) := below_drewN hBa _
                    replace x0 : (W.drewN nq).cell? _ = _ := x0
                    replace x1 : (W.drewN nq).cell? _ = _ := x1
                    replace x2 : (W.drewN nq).cell? _ = _ := x2
                    replace x3 : (W.drewN nq).cell? _ = _ := x3
                    replace p0 : (W.drewN nq).cell? _ = _ := p0
                    replace p1 : (W.drewN nq).cell? _ = _ := p1
                    replace p2 : (W.drewN nq).cell? _ = _ := p2
                    replace p3 : (W.drewN nq).cell? _ = _ := p3
                    replace hzW : wr.heap.size < (W.drewN nq).heap.size := hzW
                    have hbW : b < (W.drewN nq).heap.size := Nat.lt_trans hbw hzW
                    generalize W.drewN nq = W2 at *
                    go_region_held3 (fun w' => w'.cell? ⟨wr.heap.size, 0, none⟩ = some (.bool false) ∧ w'.cell? ⟨wr.heap.size, 1, none⟩ = some (.string ow) ∧ w'.cell? ⟨wr.heap.size, 2, none⟩ = some (.string om) ∧ w'.cell? ⟨wr.heap.size, 3, none⟩ = some (.string op) ∧ w'.cell? ⟨b, off + kn * 4, none⟩ = some (.bool rd) ∧ w'.cell? ⟨b, off + kn * 4 + 1, none⟩ = some (.string rw') ∧ w'.cell? ⟨b, off + kn * 4 + 2, none⟩ = some (.string rm) ∧ w'.cell? ⟨b, off + kn * 4 + 3, none⟩ = some (.string rp)) (go_keep) (first | (go_at_call 27; refine (voiceOfA_any ow om op _).mono ?_; rintro e w3 ⟨rfl, rfl⟩) | (go_at_call 124; refine (silencesA_any ow om op rd rw' rm rp _ hzo hzr).mono ?_; rintro e w5 ⟨rfl, hB5⟩; rw [hs]; have hcb := fun o => hB5.cell (p := ⟨b, o, none⟩) (by simp; omega); have hcw := fun o => hB5.cell (p := ⟨wr.heap.size, o, none⟩) (by simp; omega); have hBB5 := below_one ((hBa.alloc hBa.size _).drew) hB5; clear hB5))
                    all_goals clear hcb hcw
                    all_goals go_wp2
                    all_goals go_roundw
                    all_goals first
                      | exact ⟨m + 1, by omega, by go_num, HR.out, hBB5⟩
                      | ((repeat apply Exists.intro); exact ⟨⟨m + 1, by omega, by go_num, HR.out, hBB5⟩, rfl⟩)
                      | (simp [intOf]; omega)
                  · have HR := hid (show ncB rs kn = true by unfold ncB; rw [HOK.out]; exact HH.out (by rw [HK.out, hsm, decide_eq_false hmk, hs]; rfl))
                    go_wp2_with fail
                    replace p0 := (hBw.cell (p := ⟨b, off + kn * 4, none⟩) hbw).trans p0
                    replace p1 := (hBw.cell (p := ⟨b, off + kn * 4 + 1, none⟩) hbw).trans p1
                    replace p2 := (hBw.cell (p := ⟨b, off + kn * 4 + 2, none⟩) hbw).trans p2
                    replace p3 := (hBw.cell (p := ⟨b, off + kn * 4 + 3, none⟩) hbw).trans p3
                    clear y0 y1 y2 y3 hBw
                    generalize wr.alloc (.cells #[.bool false, .string ow, .string om, .string op] 52) = W at *
                    go_quiet (fail)
                    go_wp2_with fail
                    replace hBa : Below w1.heap.size w1 (W.drewN nq) := below_drewN hBa _
                    replace x0 : (W.drewN nq).cell? _ = _ := x0
                    replace x1 : (W.drewN nq).cell? _ = _ := x1
                    replace x2 : (W.drewN nq).cell? _ = _ := x2
                    replace x3 : (W.drewN nq).cell? _ = _ := x3
                    replace p0 : (W.drewN nq).cell? _ = _ := p0
                    replace p1 : (W.drewN nq).cell? _ = _ := p1
                    replace p2 : (W.drewN nq).cell? _ = _ := p2
                    replace p3 : (W.drewN nq).cell? _ = _ := p3
                    replace hzW : wr.heap.size < (W.drewN nq).heap.size := hzW
                    have hbW : b < (W.drewN nq).heap.size := Nat.lt_trans hbw hzW
                    generalize W.drewN nq = W2 at *
                    go_region_held3 (fun w' => w'.cell? ⟨wr.heap.size, 0, none⟩ = some (.bool false) ∧ w'.cell? ⟨wr.heap.size, 1, none⟩ = some (.string ow) ∧ w'.cell? ⟨wr.heap.size, 2, none⟩ = some (.string om) ∧ w'.cell? ⟨wr.heap.size, 3, none⟩ = some (.string op) ∧ w'.cell? ⟨b, off + kn * 4, none⟩ = some (.bool rd) ∧ w'.cell? ⟨b, off + kn * 4 + 1, none⟩ = some (.string rw') ∧ w'.cell? ⟨b, off + kn * 4 + 2, none⟩ = some (.string rm) ∧ w'.cell? ⟨b, off + kn * 4 + 3, none⟩ = some (.string rp)) (go_keep) (first | (go_at_call 27; refine (voiceOfA_any ow om op _).mono ?_; rintro e w3 ⟨rfl, rfl⟩) | (go_at_call 124; refine (silencesA_any ow om op rd rw' rm rp _ hzo hzr).mono ?_; rintro e w5 ⟨rfl, hB5⟩; rw [hs]; have hcb := fun o => hB5.cell (p := ⟨b, o, none⟩) (by simp; omega); have hcw := fun o => hB5.cell (p := ⟨wr.heap.size, o, none⟩) (by simp; omega); have hBB5 := below_one ((hBa.alloc hBa.size _).drew) hB5; clear hB5))
                    all_goals clear hcb hcw
                    all_goals go_wp2
                    all_goals go_ret2
                    all_goals exact ⟨ret_bools HR.out.symm HOK.out.symm, below_one hB1 hBB5⟩
                ·
                  rw [hsm] at hne
                  have HR := hid (show ncTo rs kn (m + 1) = false by rw [ncTo_succ, HNO.out, HK.out, hsm, decide_eq_false hmk]; rfl)
                  go_wp2_with fail
                  replace p0 := (hBw.cell (p := ⟨b, off + kn * 4, none⟩) hbw).trans p0
                  replace p1 := (hBw.cell (p := ⟨b, off + kn * 4 + 1, none⟩) hbw).trans p1
                  replace p2 := (hBw.cell (p := ⟨b, off + kn * 4 + 2, none⟩) hbw).trans p2
                  replace p3 := (hBw.cell (p := ⟨b, off + kn * 4 + 3, none⟩) hbw).trans p3
                  clear y0 y1 y2 y3 hBw
                  generalize wr.alloc (.cells #[.bool false, .string ow, .string om, .string op] 52) = W at *
                  go_quiet (fail)
                  go_wp2_with fail
                  replace hBa : Below w1.heap.size w1 (W.drewN nq) := below_drewN hBa _
                  generalize W.drewN nq = W2 at *
                  go_quiet (fail)
                  go_wp2
                  go_roundw
                  case rel => first | exact ⟨m + 1, by omega, by go_num, HR.out, below_drewN hBa _⟩ | ((repeat apply Exists.intro); exact ⟨⟨m + 1, by omega, by go_num, HR.out, below_drewN hBa _⟩, rfl⟩)
                  case measure => simp [intOf]; omega
            ·
              have hBa : Below w1.heap.size w1 (wr.alloc (.cells #[.bool true, .string ow, .string om, .string op] 52)) := hB.alloc hB.size _
              have hBw : Below wr.heap.size wr (wr.alloc (.cells #[.bool true, .string ow, .string om, .string op] 52)) := (Below.refl _ wr).alloc (Nat.le_refl _) _
              have x0 : (wr.alloc (.cells #[.bool true, .string ow, .string om, .string op] 52)).cell? ⟨wr.heap.size, 0, none⟩ = some (.bool true) := by simp
              have x1 : (wr.alloc (.cells #[.bool true, .string ow, .string om, .string op] 52)).cell? ⟨wr.heap.size, 1, none⟩ = some (.string ow) := by simp
              have x2 : (wr.alloc (.cells #[.bool true, .string ow, .string om, .string op] 52)).cell? ⟨wr.heap.size, 2, none⟩ = some (.string om) := by simp
              have x3 : (wr.alloc (.cells #[.bool true, .string ow, .string om, .string op] 52)).cell? ⟨wr.heap.size, 3, none⟩ = some (.string op) := by simp
              have hzW : wr.heap.size < (wr.alloc (.cells #[.bool true, .string ow, .string om, .string op] 52)).heap.size := by simp
              by_cases hmk : m < kn
              · have dk : decide ((m : Int) < (kn : Int)) = true := by simp; omega
                cases hs : silB ⟨true, ow, om, op⟩ ⟨rd, rw', rm, rp⟩
                · have HR := hid (show ncTo rs kn (m + 1) = false by rw [ncTo_succ, HNO.out, HK.out, decide_eq_true hmk, hs]; simp)
                  go_wp2_with fail
                  replace p0 := (hBw.cell (p := ⟨b, off + kn * 4, none⟩) hbw).trans p0
                  replace p1 := (hBw.cell (p := ⟨b, off + kn * 4 + 1, none⟩) hbw).trans p1
                  replace p2 := (hBw.cell (p := ⟨b, off + kn * 4 + 2, none⟩) hbw).trans p2
                  replace p3 := (hBw.cell (p := ⟨b, off + kn * 4 + 3, none⟩) hbw).trans p3
                  clear y0 y1 y2 y3 hBw
                  generalize wr.alloc (.cells #[.bool true, .string ow, .string om, .string op] 52) = W at *
                  go_quiet (fail)
                  go_wp2_with fail
                  replace hBa : Below w1.heap.size w1 (W.drewN nq) := below_drewN hBa _
                  replace x0 : (W.drewN nq).cell? _ = _ := x0
                  replace x1 : (W.drewN nq).cell? _ = _ := x1
                  replace x2 : (W.drewN nq).cell? _ = _ := x2
                  replace x3 : (W.drewN nq).cell? _ = _ := x3
                  replace p0 : (W.drewN nq).cell? _ = _ := p0
                  replace p1 : (W.drewN nq).cell? _ = _ := p1
                  replace p2 : (W.drewN nq).cell? _ = _ := p2
                  replace p3 : (W.drewN nq).cell? _ = _ := p3
                  replace hzW : wr.heap.size < (W.drewN nq).heap.size := hzW
                  have hbW : b < (W.drewN nq).heap.size := Nat.lt_trans hbw hzW
                  generalize W.drewN nq = W2 at *
                  go_region_held3 (fun w' => w'.cell? ⟨wr.heap.size, 0, none⟩ = some (.bool true) ∧ w'.cell? ⟨wr.heap.size, 1, none⟩ = some (.string ow) ∧ w'.cell? ⟨wr.heap.size, 2, none⟩ = some (.string om) ∧ w'.cell? ⟨wr.heap.size, 3, none⟩ = some (.string op) ∧ w'.cell? ⟨b, off + kn * 4, none⟩ = some (.bool rd) ∧ w'.cell? ⟨b, off + kn * 4 + 1, none⟩ = some (.string rw') ∧ w'.cell? ⟨b, off + kn * 4 + 2, none⟩ = some (.string rm) ∧ w'.cell? ⟨b, off + kn * 4 + 3, none⟩ = some (.string rp)) (go_keep) (first | (go_at_call 27; refine (voiceOfD_any ow om op _).mono ?_; rintro e w3 ⟨rfl, rfl⟩) | (go_at_call 110; refine (silencesD_any ow om op rd rw' rm rp _ hzo hzr).mono ?_; rintro e w5 ⟨rfl, hB5⟩; rw [hs]; have hcb := fun o => hB5.cell (p := ⟨b, o, none⟩) (by simp; omega); have hcw := fun o => hB5.cell (p := ⟨wr.heap.size, o, none⟩) (by simp; omega); have hBB5 := below_one ((hBa.alloc hBa.size _).drew) hB5; clear hB5))
                  all_goals clear hcb hcw
                  all_goals go_wp2
                  all_goals go_roundw
                  all_goals first
                    | exact ⟨m + 1, by omega, by go_num, HR.out, hBB5⟩
                    | ((repeat apply Exists.intro); exact ⟨⟨m + 1, by omega, by go_num, HR.out, hBB5⟩, rfl⟩)
                    | (simp [intOf]; omega)
                · have HR := hid (show ncB rs kn = true by unfold ncB; rw [HOK.out]; exact HH.out (by rw [HK.out, decide_eq_true hmk, hs]; rfl))
                  go_wp2_with fail
                  replace p0 := (hBw.cell (p := ⟨b, off + kn * 4, none⟩) hbw).trans p0
                  replace p1 := (hBw.cell (p := ⟨b, off + kn * 4 + 1, none⟩) hbw).trans p1
                  replace p2 := (hBw.cell (p := ⟨b, off + kn * 4 + 2, none⟩) hbw).trans p2
                  replace p3 := (hBw.cell (p := ⟨b, off + kn * 4 + 3, none⟩) hbw).trans p3
                  clear y0 y1 y2 y3 hBw
                  generalize wr.alloc (.cells #[.bool true, .string ow, .string om, .string op] 52) = W at *
                  go_quiet (fail)
                  go_wp2_with fail
                  replace hBa : Below w1.heap.size w1 (W.drewN nq) := below_drewN hBa _
                  replace x0 : (W.drewN nq).cell? _ = _ := x0
                  replace x1 : (W.drewN nq).cell? _ = _ := x1
                  replace x2 : (W.drewN nq).cell? _ = _ := x2
                  replace x3 : (W.drewN nq).cell? _ = _ := x3
                  replace p0 : (W.drewN nq).cell? _ = _ := p0
                  replace p1 : (W.drewN nq).cell? _ = _ := p1
                  replace p2 : (W.drewN nq).cell? _ = _ := p2
                  replace p3 : (W.drewN nq).cell? _ = _ := p3
                  replace hzW : wr.heap.size < (W.drewN nq).heap.size := hzW
                  have hbW : b < (W.drewN nq).heap.size := Nat.lt_trans hbw hzW
                  generalize W.drewN nq = W2 at *
                  go_region_held3 (fun w' => w'.cell? ⟨wr.heap.size, 0, none⟩ = some (.bool true) ∧ w'.cell? ⟨wr.heap.size, 1, none⟩ = some (.string ow) ∧ w'.cell? ⟨wr.heap.size, 2, none⟩ = some (.string om) ∧ w'.cell? ⟨wr.heap.size, 3, none⟩ = some (.string op) ∧ w'.cell? ⟨b, off + kn * 4, none⟩ = some (.bool rd) ∧ w'.cell? ⟨b, off + kn * 4 + 1, none⟩ = some (.string rw') ∧ w'.cell? ⟨b, off + kn * 4 + 2, none⟩ = some (.string rm) ∧ w'.cell? ⟨b, off + kn * 4 + 3, none⟩ = some (.string rp)) (go_keep) (first | (go_at_call 27; refine (voiceOfD_any ow om op _).mono ?_; rintro e w3 ⟨rfl, rfl⟩) | (go_at_call 110; refine (silencesD_any ow om op rd rw' rm rp _ hzo hzr).mono ?_; rintro e w5 ⟨rfl, hB5⟩; rw [hs]; have hcb := fun o => hB5.cell (p := ⟨b, o, none⟩) (by simp; omega); have hcw := fun o => hB5.cell (p := ⟨wr.heap.size, o, none⟩) (by simp; omega); have hBB5 := below_one ((hBa.alloc hBa.size _).drew) hB5; clear hB5))
                  all_goals clear hcb hcw
                  all_goals go_wp2
                  all_goals go_ret2
                  all_goals exact ⟨ret_bools HR.out.symm HOK.out.symm, below_one hB1 hBB5⟩
              · have dk : decide ((m : Int) < (kn : Int)) = false := by simp; omega
                have hne := neq_rule ⟨true, ow, om, op⟩ ⟨rd, rw', rm, rp⟩
                cases hsm : Ru.same ⟨true, ow, om, op⟩ ⟨rd, rw', rm, rp⟩
                ·
                  rw [hsm] at hne
                  cases hs : silB ⟨true, ow, om, op⟩ ⟨rd, rw', rm, rp⟩
                  · have HR := hid (show ncTo rs kn (m + 1) = false by rw [ncTo_succ, HNO.out, HK.out, hsm, decide_eq_false hmk, hs]; simp)
                    go_wp2_with fail
                    replace p0 := (hBw.cell (p := ⟨b, off + kn * 4, none⟩) hbw).trans p0
                    replace p1 := (hBw.cell (p := ⟨b, off + kn * 4 + 1, none⟩) hbw).trans p1
                    replace p2 := (hBw.cell (p := ⟨b, off + kn * 4 + 2, none⟩) hbw).trans p2
                    replace p3 := (hBw.cell (p := ⟨b, off + kn * 4 + 3, none⟩) hbw).trans p3
                    clear y0 y1 y2 y3 hBw
                    generalize wr.alloc (.cells #[.bool true, .string ow, .string om, .string op] 52) = W at *
                    go_quiet (fail)
                    go_wp2_with fail
                    replace hBa : Below w1.heap.size w1 (W.drewN nq) := below_drewN hBa _
                    replace x0 : (W.drewN nq).cell? _ = _ := x0
                    replace x1 : (W.drewN nq).cell? _ = _ := x1
                    replace x2 : (W.drewN nq).cell? _ = _ := x2
                    replace x3 : (W.drewN nq).cell? _ = _ := x3
                    replace p0 : (W.drewN nq).cell? _ = _ := p0
                    replace p1 : (W.drewN nq).cell? _ = _ := p1
                    replace p2 : (W.drewN nq).cell? _ = _ := p2
                    replace p3 : (W.drewN nq).cell? _ = _ := p3
                    replace hzW : wr.heap.size < (W.drewN nq).heap.size := hzW
                    have hbW : b < (W.drewN nq).heap.size := Nat.lt_trans hbw hzW
                    generalize W.drewN nq = W2 at *
                    go_region_held3 (fun w' => w'.cell? ⟨wr.heap.size, 0, none⟩ = some (.bool true) ∧ w'.cell? ⟨wr.heap.size, 1, none⟩ = some (.string ow) ∧ w'.cell? ⟨wr.heap.size, 2, none⟩ = some (.string om) ∧ w'.cell? ⟨wr.heap.size, 3, none⟩ = some (.string op) ∧ w'.cell? ⟨b, off + kn * 4, none⟩ = some (.bool rd) ∧ w'.cell? ⟨b, off + kn * 4 + 1, none⟩ = some (.string rw') ∧ w'.cell? ⟨b, off + kn * 4 + 2, none⟩ = some (.string rm) ∧ w'.cell? ⟨b, off + kn * 4 + 3, none⟩ = some (.string rp)) (go_keep) (first | (go_at_call 27; refine (voiceOfD_any ow om op _).mono ?_; rintro e w3 ⟨rfl, rfl⟩) | (go_at_call 110; refine (silencesD_any ow om op rd rw' rm rp _ hzo hzr).mono ?_; rintro e w5 ⟨rfl, hB5⟩; rw [hs]; have hcb := fun o => hB5.cell (p := ⟨b, o, none⟩) (by simp; omega); have hcw := fun o => hB5.cell (p := ⟨wr.heap.size, o, none⟩) (by simp; omega); have hBB5 := below_one ((hBa.alloc hBa.size _).drew) hB5; clear hB5))
                    all_goals clear hcb hcw
                    all_goals go_wp2
                    all_goals go_roundw
                    all_goals first
                      | exact ⟨m + 1, by omega, by go_num, HR.out, hBB5⟩
                      | ((repeat apply Exists.intro); exact ⟨⟨m + 1, by omega, by go_num, HR.out, hBB5⟩, rfl⟩)
                      | (simp [intOf]; omega)
                  · have HR := hid (show ncB rs kn = true by unfold ncB; rw [HOK.out]; exact HH.out (by rw [HK.out, hsm, decide_eq_false hmk, hs]; rfl))
                    go_wp2_with fail
                    replace p0 := (hBw.cell (p := ⟨b, off + kn * 4, none⟩) hbw).trans p0
                    replace p1 := (hBw.cell (p := ⟨b, off + kn * 4 + 1, none⟩) hbw).trans p1
                    replace p2 := (hBw.cell (p := ⟨b, off + kn * 4 + 2, none⟩) hbw).trans p2
                    replace p3 := (hBw.cell (p := ⟨b, off + kn * 4 + 3, none⟩) hbw).trans p3
                    clear y0 y1 y2 y3 hBw
                    generalize wr.alloc (.cells #[.bool true, .string ow, .string om, .string op] 52) = W at *
                    go_quiet (fail)
                    go_wp2_with fail
                    replace hBa : Below w1.heap.size w1 (W.drewN nq) := below_drewN hBa _
                    replace x0 : (W.drewN nq).cell? _ = _ := x0
                    replace x1 : (W.drewN nq).cell? _ = _ := x1
                    replace x2 : (W.drewN nq).cell? _ = _ := x2
                    replace x3 : (W.drewN nq).cell? _ = _ := x3
                    replace p0 : (W.drewN nq).cell? _ = _ := p0
                    replace p1 : (W.drewN nq).cell? _ = _ := p1
                    replace p2 : (W.drewN nq).cell? _ = _ := p2
                    replace p3 : (W.drewN nq).cell? _ = _ := p3
                    replace hzW : wr.heap.size < (W.drewN nq).heap.size := hzW
                    have hbW : b < (W.drewN nq).heap.size := Nat.lt_trans hbw hzW
                    generalize W.drewN nq = W2 at *
                    go_region_held3 (fun w' => w'.cell? ⟨wr.heap.size, 0, none⟩ = some (.bool true) ∧ w'.cell? ⟨wr.heap.size, 1, none⟩ = some (.string ow) ∧ w'.cell? ⟨wr.heap.size, 2, none⟩ = some (.string om) ∧ w'.cell? ⟨wr.heap.size, 3, none⟩ = some (.string op) ∧ w'.cell? ⟨b, off + kn * 4, none⟩ = some (.bool rd) ∧ w'.cell? ⟨b, off + kn * 4 + 1, none⟩ = some (.string rw') ∧ w'.cell? ⟨b, off + kn * 4 + 2, none⟩ = some (.string rm) ∧ w'.cell? ⟨b, off + kn * 4 + 3, none⟩ = some (.string rp)) (go_keep) (first | (go_at_call 27; refine (voiceOfD_any ow om op _).mono ?_; rintro e w3 ⟨rfl, rfl⟩) | (go_at_call 110; refine (silencesD_any ow om op rd rw' rm rp _ hzo hzr).mono ?_; rintro e w5 ⟨rfl, hB5⟩; rw [hs]; have hcb := fun o => hB5.cell (p := ⟨b, o, none⟩) (by simp; omega); have hcw := fun o => hB5.cell (p := ⟨wr.heap.size, o, none⟩) (by simp; omega); have hBB5 := below_one ((hBa.alloc hBa.size _).drew) hB5; clear hB5))
                    all_goals clear hcb hcw
                    all_goals go_wp2
                    all_goals go_ret2
                    all_goals exact ⟨ret_bools HR.out.symm HOK.out.symm, below_one hB1 hBB5⟩
                ·
                  rw [hsm] at hne
                  have HR := hid (show ncTo rs kn (m + 1) = false by rw [ncTo_succ, HNO.out, HK.out, hsm, decide_eq_false hmk]; rfl)
                  go_wp2_with fail
                  replace p0 := (hBw.cell (p := ⟨b, off + kn * 4, none⟩) hbw).trans p0
                  replace p1 := (hBw.cell (p := ⟨b, off + kn * 4 + 1, none⟩) hbw).trans p1
                  replace p2 := (hBw.cell (p := ⟨b, off + kn * 4 + 2, none⟩) hbw).trans p2
                  replace p3 := (hBw.cell (p := ⟨b, off + kn * 4 + 3, none⟩) hbw).trans p3
                  clear y0 y1 y2 y3 hBw
                  generalize wr.alloc (.cells #[.bool true, .string ow, .string om, .string op] 52) = W at *
                  go_quiet (fail)
                  go_wp2_with fail
                  replace hBa : Below w1.heap.size w1 (W.drewN nq) := below_drewN hBa _
                  generalize W.drewN nq = W2 at *
                  go_quiet (fail)
                  go_wp2
                  go_roundw
                  case rel => first | exact ⟨m + 1, by omega, by go_num, HR.out, below_drewN hBa _⟩ | ((repeat apply Exists.intro); exact ⟨⟨m + 1, by omega, by go_num, HR.out, below_drewN hBa _⟩, rfl⟩)
                  case measure => simp [intOf]; omega
          · obtain rfl : m = rs.length := by omega
            have HR := hid (show ncB rs kn = false by unfold ncB; rw [HOK.out]; exact HNO.out)
            go_wp2
            go_ret2
            exact ⟨ret_bools HR.out.symm HOK.out.symm, below_one hB1 hB⟩


end Go.Proofs.YtnblnhlfifhkkaaGreat
