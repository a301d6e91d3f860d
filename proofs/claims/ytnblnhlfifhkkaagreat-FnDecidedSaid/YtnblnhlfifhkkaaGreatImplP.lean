/-
  Chapter 2, the program's side: what a rule speaks of, and what is decided.
-/
import Derived.Test.YtnblnhlfifhkkaaGreatImplG
import Derived.Test.YtnblnhlfifhkkaaGreatDeci3
namespace Go.Proofs.YtnblnhlfifhkkaaGreat
open Go.RowKit Go.Shelf

/-- A rule's patterns match a call. -/
def mcB (r : Ru) (c : Ca) : Bool := (cmB r.method c.method && mtnB r.who c.who) && mtpB r.path c.path
theorem mtn_mn {s t : ByteArray} (h1 : nmB (split s 47) = true) (h2 : gnB (split t 47) = true) : mtnB s t = mnB (split s 47) (split t 47) := by
  have h3 := gn_nm h2
  obtain ⟨x, y, he⟩ := nm_two h1
  obtain ⟨u, v, hf⟩ := nm_two h3
  unfold mtnB cnOk cnB
  rw [h1, h2, h3, he, hf]
  rw [he] at h1
  rw [hf] at h3
  rw [cv_names h1 h3]
  simp [mnB]
theorem spk_eq {r : Ru} {c : Ca} (hr : r.good = true) (hc : c.good = true) : mcB r c = spkB r c := by
  unfold Ru.good at hr
  unfold Ca.good at hc
  simp only [Bool.and_eq_true] at hr hc
  unfold mcB spkB cmB
  rw [mtn_mn hr.1.1 hc.1.1, mt_lm hr.1.2 hc.1.2]
  cases mnB (split r.who 47) (split c.who 47) <;> cases lmB (wL r.path) (wL c.path) <;> cases (starB r.method || eqB r.method c.method) <;> rfl

set_option maxHeartbeats 1000000 in
theorem matchesCall_any (r : Ru) (c : Ca) (w : World) (hr : r.size ≤ 1048576) (hc : c.size ≤ 1048576) :
    Calls Tryz.prog 114 #[r.val, c.val] w fun e w' => e = .returned (.bool (mcB r c)) ∧ Below w.heap.size w w' := by
  have hw1 : r.who.size ≤ 1048576 := by unfold Ru.size at hr; omega
  have hw2 : c.who.size ≤ 1048576 := by unfold Ca.size at hc; omega
  have hp1 : r.path.size ≤ 1048576 := by unfold Ru.size at hr; omega
  have hp2 : c.path.size ≤ 1048576 := by unfold Ca.size at hc; omega
  have hBa : Below w.heap.size w ((w.alloc (.cells #[.bool r.deny, .string r.who, .string r.method, .string r.path] 52)).alloc (.cells #[.string c.who, .string c.method, .string c.path] 25)) := ((Below.refl _ w).alloc (Nat.le_refl _) _).alloc (by simp) _
  have x3 : ((w.alloc (.cells #[.bool r.deny, .string r.who, .string r.method, .string r.path] 52)).alloc (.cells #[.string c.who, .string c.method, .string c.path] 25)).cell? ⟨w.heap.size, 3, none⟩ = some (.string r.path) := by simp
  have y2 : ((w.alloc (.cells #[.bool r.deny, .string r.who, .string r.method, .string r.path] 52)).alloc (.cells #[.string c.who, .string c.method, .string c.path] 25)).cell? ⟨w.heap.size + 1, 2, none⟩ = some (.string c.path) := by simp
  have hz : ((w.alloc (.cells #[.bool r.deny, .string r.who, .string r.method, .string r.path] 52)).alloc (.cells #[.string c.who, .string c.method, .string c.path] 25)).heap.size = w.heap.size + 2 := by simp
  have HZ := hid hz
  clear hz
  cases m1 : cmB r.method c.method
  · have HR := hid (show mcB r c = false by unfold mcB; rw [m1]; rfl)
    go_enter Tryz.func114, Tryz.ntmps114
    go_wp2_with fail
    refine (coversMethod_any _ _ _).mono ?_
    rintro e w1 ⟨rfl, rfl⟩
    rw [m1]
    go_wp2_with fail
    go_ret
    exact ⟨ret_bool HR.out.symm, hBa⟩
  · cases m2 : mtnB r.who c.who
    · have HR := hid (show mcB r c = false by unfold mcB; rw [m1, m2]; rfl)
      go_enter Tryz.func114, Tryz.ntmps114
      go_wp2_with fail
      refine (coversMethod_any _ _ _).mono ?_
      rintro e w1 ⟨rfl, rfl⟩
      rw [m1]
      go_wp2_with fail
      refine (implMatchName_any _ _ _ hw1 hw2).mono ?_
      rintro e w2 ⟨rfl, hB2⟩
      rw [m2]
      have hBB := below_one hBa hB2
      go_wp2_with fail
      go_ret
      exact ⟨ret_bool HR.out.symm, hBB⟩
    · have HR := hid (show mcB r c = mtpB r.path c.path by unfold mcB; rw [m1, m2]; rfl)
      go_enter Tryz.func114, Tryz.ntmps114
      go_wp2_with fail
      refine (coversMethod_any _ _ _).mono ?_
      rintro e w1 ⟨rfl, rfl⟩
      rw [m1]
      go_wp2_with fail
      refine (implMatchName_any _ _ _ hw1 hw2).mono ?_
      rintro e w2 ⟨rfl, hB2⟩
      rw [m2]
      have hBB := below_one hBa hB2
      have q3 := (hB2.cell (p := ⟨w.heap.size, 3, none⟩) (by have := HZ.out; simp only; omega)).trans x3
      have q2 := (hB2.cell (p := ⟨w.heap.size + 1, 2, none⟩) (by have := HZ.out; simp only; omega)).trans y2
      clear hB2 x3 y2
      go_wp2_with fail
      refine (implMatchPath_any _ _ _ hp1 hp2).mono ?_
      rintro e w3 ⟨rfl, hB3⟩
      go_wp2_with fail
      go_ret
      exact ⟨ret_bool HR.out.symm, below_one hBB hB3⟩

theorem methSpeaksA (v : Value) (w : World) : (method 229 77 v "loop.example/g00167/impl.speaksOf").run Tryz.prog w = .ok (125, v) w := by kernel_rfl
theorem methDecidesA (v : Value) (w : World) : (method 229 77 v "loop.example/g00167/impl.decides").run Tryz.prog w = .ok (123, v) w := by kernel_rfl

set_option maxHeartbeats 400000 in
theorem decidesA_any (a b p : ByteArray) (w : World) :
    Calls Tryz.prog 123 #[.agg #[.bool false, .string a, .string b, .string p]] w fun e w' => e = .returned (.int .i64 1) ∧ Below w.heap.size w w' := by
  go_enter Tryz.func123, Tryz.ntmps123
  go_wp2
  go_ret
  exact ⟨rfl, (Below.refl _ w).alloc (Nat.le_refl _) _⟩

set_option maxHeartbeats 400000 in
theorem speaksOfA_any (a b p : ByteArray) (c : Ca) (w : World) (hr : a.size + b.size + p.size ≤ 1048576) (hc : c.size ≤ 1048576) :
    Calls Tryz.prog 125 #[.agg #[.bool false, .string a, .string b, .string p], c.val] w fun e w' => e = .returned (.bool (mcB ⟨false, a, b, p⟩ c)) ∧ Below w.heap.size w w' := by
  have hBa : Below w.heap.size w ((w.alloc (.cells #[.bool false, .string a, .string b, .string p] 77)).alloc (.cells #[.string c.who, .string c.method, .string c.path] 25)) := ((Below.refl _ w).alloc (Nat.le_refl _) _).alloc (by simp) _
  go_enter Tryz.func125, Tryz.ntmps125
  go_wp2_with fail
  refine (matchesCall_any ⟨false, a, b, p⟩ c _ hr hc).mono ?_
  rintro e w1 ⟨rfl, hB1⟩
  go_wp2_with fail
  go_ret
  exact ⟨rfl, below_one hBa hB1⟩

theorem methSpeaksD (v : Value) (w : World) : (method 229 76 v "loop.example/g00167/impl.speaksOf").run Tryz.prog w = .ok (111, v) w := by kernel_rfl
theorem methDecidesD (v : Value) (w : World) : (method 229 76 v "loop.example/g00167/impl.decides").run Tryz.prog w = .ok (109, v) w := by kernel_rfl

set_option maxHeartbeats 400000 in
theorem decidesD_any (a b p : ByteArray) (w : World) :
    Calls Tryz.prog 109 #[.agg #[.bool true, .string a, .string b, .string p]] w fun e w' => e = .returned (.int .i64 2) ∧ Below w.heap.size w w' := by
  go_enter Tryz.func109, Tryz.ntmps109
  go_wp2
  go_ret
  exact ⟨rfl, (Below.refl _ w).alloc (Nat.le_refl _) _⟩

set_option maxHeartbeats 400000 in
theorem speaksOfD_any (a b p : ByteArray) (c : Ca) (w : World) (hr : a.size + b.size + p.size ≤ 1048576) (hc : c.size ≤ 1048576) :
    Calls Tryz.prog 111 #[.agg #[.bool true, .string a, .string b, .string p], c.val] w fun e w' => e = .returned (.bool (mcB ⟨true, a, b, p⟩ c)) ∧ Below w.heap.size w w' := by
  have hBa : Below w.heap.size w ((w.alloc (.cells #[.bool true, .string a, .string b, .string p] 76)).alloc (.cells #[.string c.who, .string c.method, .string c.path] 25)) := ((Below.refl _ w).alloc (Nat.le_refl _) _).alloc (by simp) _
  go_enter Tryz.func111, Tryz.ntmps111
  go_wp2_with fail
  refine (matchesCall_any ⟨true, a, b, p⟩ c _ hr hc).mono ?_
  rintro e w1 ⟨rfl, hB1⟩
  go_wp2_with fail
  go_ret
  exact ⟨rfl, below_one hBa hB1⟩

/-- The first rule that allows, so far. -/
def alI : Option Nat → Int
  | some k => k
  | none => -1
theorem al_no {rs : List Ru} {c : Ca} {of : List Nat} {m : Nat} (h : m < of.length) (hh : hitAt rs c false of[m] = false) : (of.take (m + 1)).find? (hitAt rs c false) = (of.take m).find? (hitAt rs c false) := by
  rw [List.take_succ_eq_append_getElem h, List.find?_append, List.find?_cons, hh]
  simp
theorem al_new {rs : List Ru} {c : Ca} {of : List Nat} {m : Nat} (h : m < of.length) (hn : (of.take m).find? (hitAt rs c false) = none) (hh : hitAt rs c false of[m] = true) : (of.take (m + 1)).find? (hitAt rs c false) = some of[m] := by
  rw [List.take_succ_eq_append_getElem h, List.find?_append, List.find?_cons, hh, hn]
  rfl
theorem al_old {rs : List Ru} {c : Ca} {of : List Nat} {m j : Nat} (h : m < of.length) (hn : (of.take m).find? (hitAt rs c false) = some j) : (of.take (m + 1)).find? (hitAt rs c false) = some j := by
  rw [List.take_succ_eq_append_getElem h, List.find?_append, hn]
  rfl

set_option maxHeartbeats 2000000 in
theorem decideAmong_any (v vo : Value) (rs : List Ru) (of : List Nat) (c : Ca) (base : Nat) (w : World) (_hm : rs.length ≤ 1048577) (hmo : of.length ≤ 1048577) (hfz : ∀ r ∈ rs, r.size ≤ 1048576) (hc : c.size ≤ 1048576) (hgood : ∀ r ∈ rs, r.good = true) (hcg : c.good = true) (hof : ∀ k ∈ of, k < rs.length) (hr : RuS w v rs) (hro : w.ownsRow base 3 1 vo of.length (ints of)) :
    Calls Tryz.prog 14 #[v, vo, c.val] w fun e w' => e = .returned (.tuple #[.int .i64 (decC rs c of), .int .i64 (decK rs c of)]) ∧ Below w.heap.size w w' := by
  obtain ⟨a, cap, rfl⟩ := hr.len
  obtain ⟨ao, capo, rfl⟩ := ownsRow_len hro
  have hA := methSpeaksA
  have hD := methSpeaksD
  have hA' := methDecidesA
  have hD' := methDecidesD
  have hW0 : Below w.heap.size w (w.alloc (.cells #[.string c.who, .string c.method, .string c.path] 25)) := (Below.refl _ w).alloc (Nat.le_refl _) _
  have b0 : (w.alloc (.cells #[.string c.who, .string c.method, .string c.path] 25)).cell? ⟨w.heap.size, 0, none⟩ = some (.string c.who) := by simp
  have b1 : (w.alloc (.cells #[.string c.who, .string c.method, .string c.path] 25)).cell? ⟨w.heap.size, 1, none⟩ = some (.string c.method) := by simp
  have b2 : (w.alloc (.cells #[.string c.who, .string c.method, .string c.path] 25)).cell? ⟨w.heap.size, 2, none⟩ = some (.string c.path) := by simp
  have HW0s := hid (show (w.alloc (.cells #[.string c.who, .string c.method, .string c.path] 25)).heap.size = w.heap.size + 1 by simp)
  have hr0 := hr.below hW0
  have hrow0 := ownsRow_below hro hW0
  go_enter Tryz.func14, Tryz.ntmps14
  go_wp2
  generalize (w.alloc (.cells #[.string c.who, .string c.method, .string c.path] 25)) = W0 at *
  clear hr hro
  go_loopw [8, 14] (fun av i wr => ∃ (m : Nat) (al : Option Nat), m ≤ of.length ∧ av = .int .i64 (alI al) ∧ i = .int .i64 m ∧ noTo rs c true of m = true ∧ (of.take m).find? (hitAt rs c false) = al ∧ Below W0.heap.size W0 wr) (fun _ i _ => of.length - (intOf i).toNat)
  case atStart => exact ⟨0, none, Nat.zero_le _, rfl, rfl, noTo_zero _ _ _ _, by simp, Below.refl _ _⟩
  case round =>
    obtain ⟨m, al, hm1, rfl, rfl, hno, hal, hB⟩ := hrel
    have HN := hid hno
    have HA := hid hal
    clear hno hal
    by_cases hlt : m < of.length
    · have hkk := hof of[m] (List.getElem_mem hlt)
      obtain ⟨go, rfl⟩ := row_some hrow0 hlt
      have ho := (hB.cell (p := ⟨go, m, none⟩) (cell_lt (int_cell hrow0 hlt))).trans (int_cell hrow0 hlt)
      have HS := hid (noTo_succ (rs := rs) (c := c) (d := true) hlt)
      have HF := hid (fun h => find_at (rs := rs) (c := c) (d := true) (k := m) hlt HN.out h)
      have HAn := hid (fun h => al_no (rs := rs) (c := c) hlt h)
      have HAw := hid (fun h h' => al_new (rs := rs) (c := c) hlt h h')
      have HAo := hid (fun (j : Nat) h => al_old (rs := rs) (c := c) (j := j) hlt h)
      generalize of[m] = kk at *
      obtain ⟨b, off, rfl, hb, hcap, q0, q1, q2, q3⟩ := (hr0.below hB).at hkk
      have HKt := hid (hitAt_lt (c := c) (d := true) hkk)
      have HKf := hid (hitAt_lt (c := c) (d := false) hkk)
      have hz := hfz rs[kk] (List.getElem_mem hkk)
      have HM := hid (spk_eq (hgood rs[kk] (List.getElem_mem hkk)) hcg)
      generalize rs[kk] = r at *
      have x0 := (hB.cell (p := ⟨w.heap.size, 0, none⟩) (by rw [HW0s.out]; simp)).trans b0
      have x1 := (hB.cell (p := ⟨w.heap.size, 1, none⟩) (by rw [HW0s.out]; simp)).trans b1
      have x2 := (hB.cell (p := ⟨w.heap.size, 2, none⟩) (by rw [HW0s.out]; simp)).trans b2
      have hzz : w.heap.size < wr.heap.size := by have := hB.size; have := HW0s.out; omega
      obtain ⟨dd, wh, me, pa⟩ := r
      dsimp only at q0 q1 q2 q3
      unfold Ru.size at hz
      dsimp only at hz
      cases dd
      · cases hs' : spkB ⟨false, wh, me, pa⟩ c
        · have HN1 := hid (show noTo rs c true of (m + 1) = true by rw [HS.out, HN.out, HKt.out, hs']; rfl)
          have HA1 := hid (show (of.take (m + 1)).find? (hitAt rs c false) = al from (HAn.out (by rw [HKf.out, hs']; rfl)).trans HA.out)
          have hs := HM.out.trans hs'
          go_wp2_with fail
          refine (voiceOfA_any wh me pa _).mono ?_
          rintro e w1 ⟨rfl, rfl⟩
          have hv : Below wr.heap.size wr (wr.alloc (.cells #[.bool false, .string wh, .string me, .string pa] 52)) := (Below.refl _ wr).alloc (Nat.le_refl _) _
          have z0 := (hv.cell (p := ⟨w.heap.size, 0, none⟩) hzz).trans x0
          have z1 := (hv.cell (p := ⟨w.heap.size, 1, none⟩) hzz).trans x1
          have z2 := (hv.cell (p := ⟨w.heap.size, 2, none⟩) hzz).trans x2
          have hBv := below_one hB hv
          clear hv
          generalize wr.alloc (.cells #[.bool false, .string wh, .string me, .string pa] 52) = w1 at *
          go_wp2_with fail
          refine (speaksOfA_any wh me pa c _ hz hc).mono ?_
          rintro e w2 ⟨rfl, hB2⟩
          rw [hs]
          have hBB2 := below_one hBv hB2
          clear hB2 z0 z1 z2
          go_wp2
          go_roundw
          case rel => exact ⟨m + 1, al, by omega, rfl, by go_num, HN1.out, HA1.out, hBB2⟩
          case measure => simp [intOf]; omega
        · have HN1 := hid (show noTo rs c true of (m + 1) = true by rw [HS.out, HN.out, HKt.out]; rfl)
          have hh := hid (show hitAt rs c false kk = true by rw [HKf.out, hs']; rfl)
          have hs := HM.out.trans hs'
          cases al with
          | none =>
            have HA1 := hid (HAw.out HA.out hh.out)
            unfold alI
            go_wp2_with fail
            refine (voiceOfA_any wh me pa _).mono ?_
            rintro e w1 ⟨rfl, rfl⟩
            have hv : Below wr.heap.size wr (wr.alloc (.cells #[.bool false, .string wh, .string me, .string pa] 52)) := (Below.refl _ wr).alloc (Nat.le_refl _) _
            have z0 := (hv.cell (p := ⟨w.heap.size, 0, none⟩) hzz).trans x0
            have z1 := (hv.cell (p := ⟨w.heap.size, 1, none⟩) hzz).trans x1
            have z2 := (hv.cell (p := ⟨w.heap.size, 2, none⟩) hzz).trans x2
            have hBv := below_one hB hv
            clear hv
            generalize wr.alloc (.cells #[.bool false, .string wh, .string me, .string pa] 52) = w1 at *
            go_wp2_with fail
            refine (speaksOfA_any wh me pa c _ hz hc).mono ?_
            rintro e w2 ⟨rfl, hB2⟩
            rw [hs]
            have hBB2 := below_one hBv hB2
            clear hB2 z0 z1 z2
            go_wp2_with fail
            refine (decidesA_any wh me pa _).mono ?_
            rintro e w3 ⟨rfl, hB3⟩
            have hBB3 := below_one hBB2 hB3
            clear hB3
            go_wp2
            go_roundw
            case rel => exact ⟨m + 1, some kk, by omega, rfl, by go_num, HN1.out, HA1.out, hBB3⟩
            case measure => simp [intOf]; omega
          | some j =>
            have HA1 := hid (HAo.out j HA.out)
            have hd0 : decide ((j : Int) < 0) = false := by simp
            unfold alI
            go_wp2_with fail
            refine (voiceOfA_any wh me pa _).mono ?_
            rintro e w1 ⟨rfl, rfl⟩
            have hv : Below wr.heap.size wr (wr.alloc (.cells #[.bool false, .string wh, .string me, .string pa] 52)) := (Below.refl _ wr).alloc (Nat.le_refl _) _
            have z0 := (hv.cell (p := ⟨w.heap.size, 0, none⟩) hzz).trans x0
            have z1 := (hv.cell (p := ⟨w.heap.size, 1, none⟩) hzz).trans x1
            have z2 := (hv.cell (p := ⟨w.heap.size, 2, none⟩) hzz).trans x2
            have hBv := below_one hB hv
            clear hv
            generalize wr.alloc (.cells #[.bool false, .string wh, .string me, .string pa] 52) = w1 at *
            go_wp2_with fail
            refine (speaksOfA_any wh me pa c _ hz hc).mono ?_
            rintro e w2 ⟨rfl, hB2⟩
            rw [hs]
            have hBB2 := below_one hBv hB2
            clear hB2 z0 z1 z2
            go_wp2_with fail
            refine (decidesA_any wh me pa _).mono ?_
            rintro e w3 ⟨rfl, hB3⟩
            have hBB3 := below_one hBB2 hB3
            clear hB3
            go_wp2
            go_roundw
            case rel => exact ⟨m + 1, some j, by omega, rfl, by go_num, HN1.out, HA1.out, hBB3⟩
            case measure => simp [intOf]; omega
      · cases hs' : spkB ⟨true, wh, me, pa⟩ c
        · have HN1 := hid (show noTo rs c true of (m + 1) = true by rw [HS.out, HN.out, HKt.out, hs']; rfl)
          have HA1 := hid (show (of.take (m + 1)).find? (hitAt rs c false) = al from (HAn.out (by rw [HKf.out, hs']; rfl)).trans HA.out)
          have hs := HM.out.trans hs'
          go_wp2_with fail
          refine (voiceOfD_any wh me pa _).mono ?_
          rintro e w1 ⟨rfl, rfl⟩
          have hv : Below wr.heap.size wr (wr.alloc (.cells #[.bool true, .string wh, .string me, .string pa] 52)) := (Below.refl _ wr).alloc (Nat.le_refl _) _
          have z0 := (hv.cell (p := ⟨w.heap.size, 0, none⟩) hzz).trans x0
          have z1 := (hv.cell (p := ⟨w.heap.size, 1, none⟩) hzz).trans x1
          have z2 := (hv.cell (p := ⟨w.heap.size, 2, none⟩) hzz).trans x2
          have hBv := below_one hB hv
          clear hv
          generalize wr.alloc (.cells #[.bool true, .string wh, .string me, .string pa] 52) = w1 at *
          go_wp2_with fail
          refine (speaksOfD_any wh me pa c _ hz hc).mono ?_
          rintro e w2 ⟨rfl, hB2⟩
          rw [hs]
          have hBB2 := below_one hBv hB2
          clear hB2 z0 z1 z2
          go_wp2
          go_roundw
          case rel => exact ⟨m + 1, al, by omega, rfl, by go_num, HN1.out, HA1.out, hBB2⟩
          case measure => simp [intOf]; omega
        · have HF1 := hid (HF.out (by rw [HKt.out, hs']; rfl))
          have hs := HM.out.trans hs'
          go_wp2_with fail
          refine (voiceOfD_any wh me pa _).mono ?_
          rintro e w1 ⟨rfl, rfl⟩
          have hv : Below wr.heap.size wr (wr.alloc (.cells #[.bool true, .string wh, .string me, .string pa] 52)) := (Below.refl _ wr).alloc (Nat.le_refl _) _
          have z0 := (hv.cell (p := ⟨w.heap.size, 0, none⟩) hzz).trans x0
          have z1 := (hv.cell (p := ⟨w.heap.size, 1, none⟩) hzz).trans x1
          have z2 := (hv.cell (p := ⟨w.heap.size, 2, none⟩) hzz).trans x2
          have hBv := below_one hB hv
          clear hv
          generalize wr.alloc (.cells #[.bool true, .string wh, .string me, .string pa] 52) = w1 at *
          go_wp2_with fail
          refine (speaksOfD_any wh me pa c _ hz hc).mono ?_
          rintro e w2 ⟨rfl, hB2⟩
          rw [hs]
          have hBB2 := below_one hBv hB2
          clear hB2 z0 z1 z2
          go_wp2_with fail
          refine (decidesD_any wh me pa _).mono ?_
          rintro e w3 ⟨rfl, hB3⟩
          have hBB3 := below_one hBB2 hB3
          clear hB3
          go_wp2
          go_ret2
          exact ⟨ret_ints (dec_deny HF1.out), below_one hW0 hBB3⟩
    · obtain rfl : m = of.length := by omega
      have HD := hid (find_none HN.out)
      have HA2 := hid (show of.find? (hitAt rs c false) = al by have := HA.out; rwa [List.take_length] at this)
      cases al with
      | none =>
        unfold alI
        go_wp2
        go_ret2
        exact ⟨ret_ints (dec_none HD.out HA2.out), below_one hW0 hB⟩
      | some j =>
        have hd0 : decide ((j : Int) < 0) = false := by simp
        unfold alI
        go_wp2
        go_ret2
        exact ⟨ret_ints (dec_allow HD.out HA2.out), below_one hW0 hB⟩

end Go.Proofs.YtnblnhlfifhkkaaGreat
