/-
  Chapter 2's NeverCounts by the specification.
-/
import Derived.Test.YtnblnhlfifhkkafPoli
import Derived.Test.YtnblnhlfifhkkafCovP
namespace Go.Proofs.Ytnblnhlfifhkkaf
open Go.RowKit Go.Shelf

def inB (n lo hi : Int) : Bool := decide (lo ≤ n) && decide (n ≤ hi)

set_option maxHeartbeats 400000 in
theorem l1In_any (n lo hi : Int) (w : World) :
    Calls Try.prog 28 #[.int .i64 n, .int .i64 lo, .int .i64 hi] w fun e w' => e = .returned (.bool (inB n lo hi)) ∧ w' = w := by
  by_cases h : lo ≤ n
  · have HR := hid (show inB n lo hi = decide (n ≤ hi) by unfold inB; rw [decide_eq_true h]; rfl)
    go_enter Try.func28, Try.ntmps28
    go_wp2
    go_ret
    exact ⟨ret_bool HR.out.symm, rfl⟩
  · have HR := hid (show inB n lo hi = false by unfold inB; rw [decide_eq_false h]; rfl)
    go_enter Try.func28, Try.ntmps28
    go_wp2
    go_ret
    exact ⟨ret_bool HR.out.symm, rfl⟩

/-- One rule covers another. -/
def covB (o r : Ru) : Bool := ((mnB (split o.who 47) (split r.who 47) && lcB 6 (wL o.path) (wL r.path)) && (starB o.method || eqB o.method r.method)) && (o.deny || !r.deny)
/-- The rule at i takes the place of the one at k. -/
def ncAt (rs : List Ru) (k i : Nat) : Bool := match rs[i]?, rs[k]? with
  | some o, some r => (!(decide (i = k) || (decide (k < i) && o.same r))) && covB o r
  | _, _ => false
def ncTo (rs : List Ru) (k m : Nat) : Bool := (List.range m).any (ncAt rs k)

theorem pol_nm' {rs : List Ru} (h : polB rs = true) : ∀ r ∈ rs, nmB (split r.who 47) = true := by
  unfold polB at h
  rw [Bool.and_eq_true, List.all_eq_true] at h
  intro r hr
  have := h.1 r hr
  unfold Ru.good at this
  simp only [Bool.and_eq_true] at this
  exact this.1.1
def ncOk (rs : List Ru) (k : Int) : Bool := polB rs && inB k 0 ((rs.length : Int) - 1)
def ncB (rs : List Ru) (k : Int) : Bool := ncOk rs k && ncTo rs k.toNat rs.length
theorem ncTo_zero (rs : List Ru) (k : Nat) : ncTo rs k 0 = false := by simp [ncTo]
theorem ncTo_succ (rs : List Ru) (k m : Nat) : ncTo rs k (m + 1) = (ncTo rs k m || ncAt rs k m) := by
  unfold ncTo
  rw [List.range_succ, List.any_append]
  simp
theorem ncAt_lt {rs : List Ru} {k i : Nat} (hi : i < rs.length) (hk : k < rs.length) : ncAt rs k i = ((!(decide (i = k) || (decide (k < i) && rs[i].same rs[k]))) && covB rs[i] rs[k]) := by
  unfold ncAt
  rw [List.getElem?_eq_getElem hi, List.getElem?_eq_getElem hk]
theorem nc_hit {rs : List Ru} {k i : Nat} (hi : i < rs.length) (h : ncAt rs k i = true) : ncTo rs k rs.length = true := by
  unfold ncTo
  rw [List.any_eq_true]
  exact ⟨i, List.mem_range.2 hi, h⟩

theorem eq_rule (o r : Ru) (w : World) : (binOp .eql 50 o.val r.val).run Try.prog w = .ok (.bool (o.same r)) w := by
  rw [run_eql_struct]
  simp [go_sem, Try.underlying50]
  unfold Ru.same eqB
  repeat' split
  all_goals simp_all

set_option maxHeartbeats 4000000 in
theorem specNeverCounts_any (v : Value) (rs : List Ru) (k : Int) (w : World) (hm : rs.length ≤ 1048577) (hfz : ∀ r ∈ rs, r.size ≤ 1048576) (hr : RuS w v rs) :
    Calls Try.prog 9 #[v, .int .i64 k] w fun e w' => e = .returned (.tuple #[.bool (ncB rs k), .bool (ncOk rs k)]) ∧ Below w.heap.size w w' := by
  obtain ⟨a, cap, rfl⟩ := hr.len
  cases h1 : polB rs
  · have HO := hid (show ncOk rs k = false by unfold ncOk; rw [h1]; rfl)
    have HR := hid (show ncB rs k = false by unfold ncB; rw [HO.out]; rfl)
    go_enter Try.func9, Try.ntmps9
    go_wp2_with fail
    refine (l2Good_any _ rs _ hm hfz hr).mono ?_
    rintro e w1 ⟨rfl, hB1⟩
    go_wp2_with fail
    go_ret2
    exact ⟨ret_bools HR.out.symm HO.out.symm, hB1⟩
  · cases h2 : inB k 0 ((rs.length : Int) - 1)
    · have HO := hid (show ncOk rs k = false by unfold ncOk; rw [h1, h2]; rfl)
      have HR := hid (show ncB rs k = false by unfold ncB; rw [HO.out]; rfl)
      go_enter Try.func9, Try.ntmps9
      go_wp2_with fail
      refine (l2Good_any _ rs _ hm hfz hr).mono ?_
      rintro e w1 ⟨rfl, hB1⟩
      go_wp2_with fail
      refine (l1In_any _ _ _ _).mono ?_
      rintro e w2 ⟨rfl, rfl⟩
      go_wp2_with fail
      go_ret2
      exact ⟨ret_bools HR.out.symm HO.out.symm, hB1⟩
    · have hin : 0 ≤ k ∧ k ≤ (rs.length : Int) - 1 := by
        unfold inB at h2
        simpa using h2
      obtain ⟨kn, rfl⟩ := Int.eq_ofNat_of_zero_le hin.1
      have hk : kn < rs.length := by omega
      have HOK := hid (show ncOk rs kn = true by unfold ncOk; rw [h1, h2]; rfl)
      have hgood := pol_nm' h1
      clear hin
      go_enter Try.func9, Try.ntmps9
      go_wp2_with fail
      refine (l2Good_any _ rs _ hm hfz hr).mono ?_
      rintro e w1 ⟨rfl, hB1⟩
      replace hr := hr.below hB1
      go_wp2_with fail
      refine (l1In_any _ _ _ _).mono ?_
      rintro e w2 ⟨rfl, rfl⟩
      obtain ⟨b, off, rfl, hb, hcap, q0, q1, q2, q3⟩ := hr.at hk
      have hwr : rs[kn].who.size ≤ 1048576 := by have := hfz rs[kn] (List.getElem_mem hk); unfold Ru.size at this; omega
      have hpr : rs[kn].path.size ≤ 1048576 := by have := hfz rs[kn] (List.getElem_mem hk); unfold Ru.size at this; omega
      obtain ⟨u, v, hf⟩ := nm_two (hgood rs[kn] (List.getElem_mem hk))
      have HA := hid (fun (i : Nat) (hi : i < rs.length) => ncAt_lt hi hk)
      generalize rs[kn] = r at *
      obtain ⟨rd, rwh, rme, rpa⟩ := r
      dsimp only at q0 q1 q2 q3 hwr hpr hf
      have HF := hid hf
      clear hf
      go_wp2_with fail
      have hW0 : Below w.heap.size w (w2.alloc (.cells #[.bool rd, .string rwh, .string rme, .string rpa] 50)) := hB1.alloc hB1.size _
      have b0 : (w2.alloc (.cells #[.bool rd, .string rwh, .string rme, .string rpa] 50)).cell? ⟨w2.heap.size, 0, none⟩ = some (.bool rd) := by simp
      have b1 : (w2.alloc (.cells #[.bool rd, .string rwh, .string rme, .string rpa] 50)).cell? ⟨w2.heap.size, 1, none⟩ = some (.string rwh) := by simp
      have b2 : (w2.alloc (.cells #[.bool rd, .string rwh, .string rme, .string rpa] 50)).cell? ⟨w2.heap.size, 2, none⟩ = some (.string rme) := by simp
      have b3 : (w2.alloc (.cells #[.bool rd, .string rwh, .string rme, .string rpa] 50)).cell? ⟨w2.heap.size, 3, none⟩ = some (.string rpa) := by simp
      have hs0 : w2.heap.size < (w2.alloc (.cells #[.bool rd, .string rwh, .string rme, .string rpa] 50)).heap.size := by simp
      have hr0 := hr.below ((Below.refl _ w2).alloc (Nat.le_refl _) (.cells #[.bool rd, .string rwh, .string rme, .string rpa] 50))
      clear q0 q1 q2 q3 hr hB1
      generalize w2.alloc (.cells #[.bool rd, .string rwh, .string rme, .string rpa] 50) = W0 at *
      go_loopw [26] (fun i wr => ∃ m : Nat, m ≤ rs.length ∧ i = .int .i64 m ∧ ncTo rs kn m = false ∧ Below W0.heap.size W0 wr) (fun i _ => rs.length - (intOf i).toNat)
      case atStart => exact ⟨0, Nat.zero_le _, rfl, ncTo_zero _ _, Below.refl _ _⟩
      case round =>
        obtain ⟨m, hm', rfl, hno, hB⟩ := hrel
        have HNO := hid hno
        clear hno
        by_cases hlt : m < rs.length
        · have HK := hid (HA.out m hlt)
          obtain ⟨b', off', he', hb', hcap', y0, y1, y2, y3⟩ := (hr0.below hB).at hlt
          cases he'
          have hwo : rs[m].who.size ≤ 1048576 := by have := hfz rs[m] (List.getElem_mem hlt); unfold Ru.size at this; omega
          have hpo : rs[m].path.size ≤ 1048576 := by have := hfz rs[m] (List.getElem_mem hlt); unfold Ru.size at this; omega
          obtain ⟨x, y, he⟩ := nm_two (hgood rs[m] (List.getElem_mem hlt))
          generalize rs[m] = o at *
          obtain ⟨od, owh, ome, opa⟩ := o
          dsimp only at y0 y1 y2 y3 hwo hpo he
          have HM := hid (show mnB (split owh 47) (split rwh 47) = (stB x u && stB y v) by rw [he, HF.out]; rfl)
          have HE := hid he
          clear he
          have x0 := (hB.cell (p := ⟨w2.heap.size, 0, none⟩) hs0).trans b0
          have x1 := (hB.cell (p := ⟨w2.heap.size, 1, none⟩) hs0).trans b1
          have x2 := (hB.cell (p := ⟨w2.heap.size, 2, none⟩) hs0).trans b2
          have x3 := (hB.cell (p := ⟨w2.heap.size, 3, none⟩) hs0).trans b3
          have hz : w2.heap.size < wr.heap.size := Nat.lt_of_lt_of_le hs0 hB.size
          have hse := eq_rule ⟨od, owh, ome, opa⟩ ⟨rd, rwh, rme, rpa⟩
          have hBo : Below W0.heap.size W0 (wr.alloc (.cells #[.bool od, .string owh, .string ome, .string opa] 50)) := hB.alloc hB.size _
          by_cases hmk : m = kn
          · have e1 : ((m : Int) == (kn : Int)) = true := by simp; omega
            have HR := hid (show ncTo rs kn (m + 1) = false by rw [ncTo_succ, HNO.out, HK.out, decide_eq_true hmk]; rfl)
            clear hmk
            go_wp2_with fail
            go_roundw
            case rel => exact ⟨m + 1, by omega, by go_num, HR.out, hBo⟩
            case measure => simp [intOf]; omega
          · have e1 : ((m : Int) == (kn : Int)) = false := by simp; omega
            by_cases hgt : kn < m
            · have e2 : decide ((kn : Int) < (m : Int)) = true := by simp; omega
              cases hss : Ru.same ⟨od, owh, ome, opa⟩ ⟨rd, rwh, rme, rpa⟩
              · have skip : (decide (m = kn) || (decide (kn < m) && Ru.same ⟨od, owh, ome, opa⟩ ⟨rd, rwh, rme, rpa⟩)) = false := by rw [decide_eq_false hmk, hss]; simp
                have SK := hid skip
                clear hmk skip
                cases m1 : (stB x u && stB y v)
                · have cv : covB ⟨od, owh, ome, opa⟩ ⟨rd, rwh, rme, rpa⟩ = false := by unfold covB; rw [HM.out, m1]; rfl
                  have HR := hid (show ncTo rs kn (m + 1) = false by rw [ncTo_succ, HNO.out, HK.out, cv]; simp)
                  go_wp2_with (first | (go_at_call 29; refine (l1MatchName_any owh rwh _ hwo hwr x y u v HE.out HF.out).mono ?_; rintro e w3 ⟨rfl, hB3⟩; rw [m1]; obtain ⟨hc3, hf3⟩ := bcell hB3; have hz3 : wr.heap.size < w3.heap.size := (by have := hB3.size; simp at this; omega); have hz4 : w2.heap.size < w3.heap.size := (by omega)) | (go_at_call 30; refine (l1Covers_any opa rpa _ hpo hpr).mono ?_; rintro e w4 ⟨rfl, hB4⟩; rw [m2]; obtain ⟨hc4, hf4⟩ := bcell hB4))
                  go_roundw
                  case rel => exact ⟨m + 1, by omega, by go_num, HR.out, below_one hBo hB3⟩
                  case measure => simp [intOf]; omega
                · cases m2 : lcB 6 (wL opa) (wL rpa)
                  · have cv : covB ⟨od, owh, ome, opa⟩ ⟨rd, rwh, rme, rpa⟩ = false := by unfold covB; rw [HM.out, m1, m2]; rfl
                    have HR := hid (show ncTo rs kn (m + 1) = false by rw [ncTo_succ, HNO.out, HK.out, cv]; simp)
                    go_wp2_with (first | (go_at_call 29; refine (l1MatchName_any owh rwh _ hwo hwr x y u v HE.out HF.out).mono ?_; rintro e w3 ⟨rfl, hB3⟩; rw [m1]; obtain ⟨hc3, hf3⟩ := bcell hB3; have hz3 : wr.heap.size < w3.heap.size := (by have := hB3.size; simp at this; omega); have hz4 : w2.heap.size < w3.heap.size := (by omega)) | (go_at_call 30; refine (l1Covers_any opa rpa _ hpo hpr).mono ?_; rintro e w4 ⟨rfl, hB4⟩; rw [m2]; obtain ⟨hc4, hf4⟩ := bcell hB4))
                    go_roundw
                    case rel => exact ⟨m + 1, by omega, by go_num, HR.out, below_two hBo hB3 hB4⟩
                    case measure => simp [intOf]; omega
                  · cases m3 : starB ome
                    · have e3 : (ome.toList == [42]) = false := m3
                      cases m4 : eqB ome rme
                      · have e4 : (ome.toList == rme.toList) = false := m4
                        have cv : covB ⟨od, owh, ome, opa⟩ ⟨rd, rwh, rme, rpa⟩ = false := by unfold covB; rw [HM.out, m1, m2, m3, m4]; rfl
                        clear m3 m4
                        have HR := hid (show ncTo rs kn (m + 1) = false by rw [ncTo_succ, HNO.out, HK.out, cv]; simp)
                        go_wp2_with (first | (go_at_call 29; refine (l1MatchName_any owh rwh _ hwo hwr x y u v HE.out HF.out).mono ?_; rintro e w3 ⟨rfl, hB3⟩; rw [m1]; obtain ⟨hc3, hf3⟩ := bcell hB3; have hz3 : wr.heap.size < w3.heap.size := (by have := hB3.size; simp at this; omega); have hz4 : w2.heap.size < w3.heap.size := (by omega)) | (go_at_call 30; refine (l1Covers_any opa rpa _ hpo hpr).mono ?_; rintro e w4 ⟨rfl, hB4⟩; rw [m2]; obtain ⟨hc4, hf4⟩ := bcell hB4))
                        go_roundw
                        case rel => exact ⟨m + 1, by omega, by go_num, HR.out, below_two hBo hB3 hB4⟩
                        case measure => simp [intOf]; omega
                      · have e4 : (ome.toList == rme.toList) = true := m4
                        cases od
                        · cases rd
                          · have cv : covB ⟨false, owh, ome, opa⟩ ⟨false, rwh, rme, rpa⟩ = true := by unfold covB; rw [HM.out, m1, m2, m3, m4]; rfl
                            clear m3 m4
                            have HR := hid (show ncB rs kn = true by unfold ncB; rw [HOK.out, Int.toNat_natCast]; exact nc_hit hlt (by rw [HK.out, cv, SK.out]; rfl))
                            go_wp2_with (first | (go_at_call 29; refine (l1MatchName_any owh rwh _ hwo hwr x y u v HE.out HF.out).mono ?_; rintro e w3 ⟨rfl, hB3⟩; rw [m1]; obtain ⟨hc3, hf3⟩ := bcell hB3; have hz3 : wr.heap.size < w3.heap.size := (by have := hB3.size; simp at this; omega); have hz4 : w2.heap.size < w3.heap.size := (by omega)) | (go_at_call 30; refine (l1Covers_any opa rpa _ hpo hpr).mono ?_; rintro e w4 ⟨rfl, hB4⟩; rw [m2]; obtain ⟨hc4, hf4⟩ := bcell hB4))
                            go_ret2
                            exact ⟨ret_bools HR.out.symm HOK.out.symm, below_one hW0 (below_two hBo hB3 hB4)⟩
                          · have cv : covB ⟨false, owh, ome, opa⟩ ⟨true, rwh, rme, rpa⟩ = false := by unfold covB; rw [HM.out, m1, m2, m3, m4]; rfl
                            clear m3 m4
                            have HR := hid (show ncTo rs kn (m + 1) = false by rw [ncTo_succ, HNO.out, HK.out, cv]; simp)
                            go_wp2_with (first | (go_at_call 29; refine (l1MatchName_any owh rwh _ hwo hwr x y u v HE.out HF.out).mono ?_; rintro e w3 ⟨rfl, hB3⟩; rw [m1]; obtain ⟨hc3, hf3⟩ := bcell hB3; have hz3 : wr.heap.size < w3.heap.size := (by have := hB3.size; simp at this; omega); have hz4 : w2.heap.size < w3.heap.size := (by omega)) | (go_at_call 30; refine (l1Covers_any opa rpa _ hpo hpr).mono ?_; rintro e w4 ⟨rfl, hB4⟩; rw [m2]; obtain ⟨hc4, hf4⟩ := bcell hB4))
                            go_roundw
                            case rel => exact ⟨m + 1, by omega, by go_num, HR.out, below_two hBo hB3 hB4⟩
                            case measure => simp [intOf]; omega
                        · have cv : covB ⟨true, owh, ome, opa⟩ ⟨rd, rwh, rme, rpa⟩ = true := by unfold covB; rw [HM.out, m1, m2, m3, m4]; rfl
                          clear m3 m4
                          have HR := hid (show ncB rs kn = true by unfold ncB; rw [HOK.out, Int.toNat_natCast]; exact nc_hit hlt (by rw [HK.out, cv, SK.out]; rfl))
                          go_wp2_with (first | (go_at_call 29; refine (l1MatchName_any owh rwh _ hwo hwr x y u v HE.out HF.out).mono ?_; rintro e w3 ⟨rfl, hB3⟩; rw [m1]; obtain ⟨hc3, hf3⟩ := bcell hB3; have hz3 : wr.heap.size < w3.heap.size := (by have := hB3.size; simp at this; omega); have hz4 : w2.heap.size < w3.heap.size := (by omega)) | (go_at_call 30; refine (l1Covers_any opa rpa _ hpo hpr).mono ?_; rintro e w4 ⟨rfl, hB4⟩; rw [m2]; obtain ⟨hc4, hf4⟩ := bcell hB4))
                          go_ret2
                          exact ⟨ret_bools HR.out.symm HOK.out.symm, below_one hW0 (below_two hBo hB3 hB4)⟩
                    · have e3 : (ome.toList == [42]) = true := m3
                      cases od
                      · cases rd
                        · have cv : covB ⟨false, owh, ome, opa⟩ ⟨false, rwh, rme, rpa⟩ = true := by unfold covB; rw [HM.out, m1, m2, m3]; rfl
                          clear m3
                          have HR := hid (show ncB rs kn = true by unfold ncB; rw [HOK.out, Int.toNat_natCast]; exact nc_hit hlt (by rw [HK.out, cv, SK.out]; rfl))
                          go_wp2_with (first | (go_at_call 29; refine (l1MatchName_any owh rwh _ hwo hwr x y u v HE.out HF.out).mono ?_; rintro e w3 ⟨rfl, hB3⟩; rw [m1]; obtain ⟨hc3, hf3⟩ := bcell hB3; have hz3 : wr.heap.size < w3.heap.size := (by have := hB3.size; simp at this; omega); have hz4 : w2.heap.size < w3.heap.size := (by omega)) | (go_at_call 30; refine (l1Covers_any opa rpa _ hpo hpr).mono ?_; rintro e w4 ⟨rfl, hB4⟩; rw [m2]; obtain ⟨hc4, hf4⟩ := bcell hB4))
                          go_ret2
                          exact ⟨ret_bools HR.out.symm HOK.out.symm, below_one hW0 (below_two hBo hB3 hB4)⟩
                        · have cv : covB ⟨false, owh, ome, opa⟩ ⟨true, rwh, rme, rpa⟩ = false := by unfold covB; rw [HM.out, m1, m2, m3]; rfl
                          clear m3
                          have HR := hid (show ncTo rs kn (m + 1) = false by rw [ncTo_succ, HNO.out, HK.out, cv]; simp)
                          go_wp2_with (first | (go_at_call 29; refine (l1MatchName_any owh rwh _ hwo hwr x y u v HE.out HF.out).mono ?_; rintro e w3 ⟨rfl, hB3⟩; rw [m1]; obtain ⟨hc3, hf3⟩ := bcell hB3; have hz3 : wr.heap.size < w3.heap.size := (by have := hB3.size; simp at this; omega); have hz4 : w2.heap.size < w3.heap.size := (by omega)) | (go_at_call 30; refine (l1Covers_any opa rpa _ hpo hpr).mono ?_; rintro e w4 ⟨rfl, hB4⟩; rw [m2]; obtain ⟨hc4, hf4⟩ := bcell hB4))
                          go_roundw
                          case rel => exact ⟨m + 1, by omega, by go_num, HR.out, below_two hBo hB3 hB4⟩
                          case measure => simp [intOf]; omega
                      · have cv : covB ⟨true, owh, ome, opa⟩ ⟨rd, rwh, rme, rpa⟩ = true := by unfold covB; rw [HM.out, m1, m2, m3]; rfl
                        clear m3
                        have HR := hid (show ncB rs kn = true by unfold ncB; rw [HOK.out, Int.toNat_natCast]; exact nc_hit hlt (by rw [HK.out, cv, SK.out]; rfl))
                        go_wp2_with (first | (go_at_call 29; refine (l1MatchName_any owh rwh _ hwo hwr x y u v HE.out HF.out).mono ?_; rintro e w3 ⟨rfl, hB3⟩; rw [m1]; obtain ⟨hc3, hf3⟩ := bcell hB3; have hz3 : wr.heap.size < w3.heap.size := (by have := hB3.size; simp at this; omega); have hz4 : w2.heap.size < w3.heap.size := (by omega)) | (go_at_call 30; refine (l1Covers_any opa rpa _ hpo hpr).mono ?_; rintro e w4 ⟨rfl, hB4⟩; rw [m2]; obtain ⟨hc4, hf4⟩ := bcell hB4))
                        go_ret2
                        exact ⟨ret_bools HR.out.symm HOK.out.symm, below_one hW0 (below_two hBo hB3 hB4)⟩
              · have HR := hid (show ncTo rs kn (m + 1) = false by rw [ncTo_succ, HNO.out, HK.out, decide_eq_true hgt, hss]; simp)
                clear hmk
                go_wp2_with fail
                go_roundw
                case rel => exact ⟨m + 1, by omega, by go_num, HR.out, hBo⟩
                case measure => simp [intOf]; omega
            · have e2 : decide ((kn : Int) < (m : Int)) = false := by simp; omega
              have SK := hid (show (decide (m = kn) || (decide (kn < m) && Ru.same ⟨od, owh, ome, opa⟩ ⟨rd, rwh, rme, rpa⟩)) = false by rw [decide_eq_false hmk, decide_eq_false hgt]; rfl)
              clear hmk
              cases m1 : (stB x u && stB y v)
              · have cv : covB ⟨od, owh, ome, opa⟩ ⟨rd, rwh, rme, rpa⟩ = false := by unfold covB; rw [HM.out, m1]; rfl
                have HR := hid (show ncTo rs kn (m + 1) = false by rw [ncTo_succ, HNO.out, HK.out, cv]; simp)
                go_wp2_with (first | (go_at_call 29; refine (l1MatchName_any owh rwh _ hwo hwr x y u v HE.out HF.out).mono ?_; rintro e w3 ⟨rfl, hB3⟩; rw [m1]; obtain ⟨hc3, hf3⟩ := bcell hB3; have hz3 : wr.heap.size < w3.heap.size := (by have := hB3.size; simp at this; omega); have hz4 : w2.heap.size < w3.heap.size := (by omega)) | (go_at_call 30; refine (l1Covers_any opa rpa _ hpo hpr).mono ?_; rintro e w4 ⟨rfl, hB4⟩; rw [m2]; obtain ⟨hc4, hf4⟩ := bcell hB4))
                go_roundw
                case rel => exact ⟨m + 1, by omega, by go_num, HR.out, below_one hBo hB3⟩
                case measure => simp [intOf]; omega
              · cases m2 : lcB 6 (wL opa) (wL rpa)
                · have cv : covB ⟨od, owh, ome, opa⟩ ⟨rd, rwh, rme, rpa⟩ = false := by unfold covB; rw [HM.out, m1, m2]; rfl
                  have HR := hid (show ncTo rs kn (m + 1) = false by rw [ncTo_succ, HNO.out, HK.out, cv]; simp)
                  go_wp2_with (first | (go_at_call 29; refine (l1MatchName_any owh rwh _ hwo hwr x y u v HE.out HF.out).mono ?_; rintro e w3 ⟨rfl, hB3⟩; rw [m1]; obtain ⟨hc3, hf3⟩ := bcell hB3; have hz3 : wr.heap.size < w3.heap.size := (by have := hB3.size; simp at this; omega); have hz4 : w2.heap.size < w3.heap.size := (by omega)) | (go_at_call 30; refine (l1Covers_any opa rpa _ hpo hpr).mono ?_; rintro e w4 ⟨rfl, hB4⟩; rw [m2]; obtain ⟨hc4, hf4⟩ := bcell hB4))
                  go_roundw
                  case rel => exact ⟨m + 1, by omega, by go_num, HR.out, below_two hBo hB3 hB4⟩
                  case measure => simp [intOf]; omega
                · cases m3 : starB ome
                  · have e3 : (ome.toList == [42]) = false := m3
                    cases m4 : eqB ome rme
                    · have e4 : (ome.toList == rme.toList) = false := m4
                      have cv : covB ⟨od, owh, ome, opa⟩ ⟨rd, rwh, rme, rpa⟩ = false := by unfold covB; rw [HM.out, m1, m2, m3, m4]; rfl
                      clear m3 m4
                      have HR := hid (show ncTo rs kn (m + 1) = false by rw [ncTo_succ, HNO.out, HK.out, cv]; simp)
                      go_wp2_with (first | (go_at_call 29; refine (l1MatchName_any owh rwh _ hwo hwr x y u v HE.out HF.out).mono ?_; rintro e w3 ⟨rfl, hB3⟩; rw [m1]; obtain ⟨hc3, hf3⟩ := bcell hB3; have hz3 : wr.heap.size < w3.heap.size := (by have := hB3.size; simp at this; omega); have hz4 : w2.heap.size < w3.heap.size := (by omega)) | (go_at_call 30; refine (l1Covers_any opa rpa _ hpo hpr).mono ?_; rintro e w4 ⟨rfl, hB4⟩; rw [m2]; obtain ⟨hc4, hf4⟩ := bcell hB4))
                      go_roundw
                      case rel => exact ⟨m + 1, by omega, by go_num, HR.out, below_two hBo hB3 hB4⟩
                      case measure => simp [intOf]; omega
                    · have e4 : (ome.toList == rme.toList) = true := m4
                      cases od
                      · cases rd
                        · have cv : covB ⟨false, owh, ome, opa⟩ ⟨false, rwh, rme, rpa⟩ = true := by unfold covB; rw [HM.out, m1, m2, m3, m4]; rfl
                          clear m3 m4
                          have HR := hid (show ncB rs kn = true by unfold ncB; rw [HOK.out, Int.toNat_natCast]; exact nc_hit hlt (by rw [HK.out, cv, SK.out]; rfl))
                          go_wp2_with (first | (go_at_call 29; refine (l1MatchName_any owh rwh _ hwo hwr x y u v HE.out HF.out).mono ?_; rintro e w3 ⟨rfl, hB3⟩; rw [m1]; obtain ⟨hc3, hf3⟩ := bcell hB3; have hz3 : wr.heap.size < w3.heap.size := (by have := hB3.size; simp at this; omega); have hz4 : w2.heap.size < w3.heap.size := (by omega)) | (go_at_call 30; refine (l1Covers_any opa rpa _ hpo hpr).mono ?_; rintro e w4 ⟨rfl, hB4⟩; rw [m2]; obtain ⟨hc4, hf4⟩ := bcell hB4))
                          go_ret2
                          exact ⟨ret_bools HR.out.symm HOK.out.symm, below_one hW0 (below_two hBo hB3 hB4)⟩
                        · have cv : covB ⟨false, owh, ome, opa⟩ ⟨true, rwh, rme, rpa⟩ = false := by unfold covB; rw [HM.out, m1, m2, m3, m4]; rfl
                          clear m3 m4
                          have HR := hid (show ncTo rs kn (m + 1) = false by rw [ncTo_succ, HNO.out, HK.out, cv]; simp)
                          go_wp2_with (first | (go_at_call 29; refine (l1MatchName_any owh rwh _ hwo hwr x y u v HE.out HF.out).mono ?_; rintro e w3 ⟨rfl, hB3⟩; rw [m1]; obtain ⟨hc3, hf3⟩ := bcell hB3; have hz3 : wr.heap.size < w3.heap.size := (by have := hB3.size; simp at this; omega); have hz4 : w2.heap.size < w3.heap.size := (by omega)) | (go_at_call 30; refine (l1Covers_any opa rpa _ hpo hpr).mono ?_; rintro e w4 ⟨rfl, hB4⟩; rw [m2]; obtain ⟨hc4, hf4⟩ := bcell hB4))
                          go_roundw
                          case rel => exact ⟨m + 1, by omega, by go_num, HR.out, below_two hBo hB3 hB4⟩
                          case measure => simp [intOf]; omega
                      · have cv : covB ⟨true, owh, ome, opa⟩ ⟨rd, rwh, rme, rpa⟩ = true := by unfold covB; rw [HM.out, m1, m2, m3, m4]; rfl
                        clear m3 m4
                        have HR := hid (show ncB rs kn = true by unfold ncB; rw [HOK.out, Int.toNat_natCast]; exact nc_hit hlt (by rw [HK.out, cv, SK.out]; rfl))
                        go_wp2_with (first | (go_at_call 29; refine (l1MatchName_any owh rwh _ hwo hwr x y u v HE.out HF.out).mono ?_; rintro e w3 ⟨rfl, hB3⟩; rw [m1]; obtain ⟨hc3, hf3⟩ := bcell hB3; have hz3 : wr.heap.size < w3.heap.size := (by have := hB3.size; simp at this; omega); have hz4 : w2.heap.size < w3.heap.size := (by omega)) | (go_at_call 30; refine (l1Covers_any opa rpa _ hpo hpr).mono ?_; rintro e w4 ⟨rfl, hB4⟩; rw [m2]; obtain ⟨hc4, hf4⟩ := bcell hB4))
                        go_ret2
                        exact ⟨ret_bools HR.out.symm HOK.out.symm, below_one hW0 (below_two hBo hB3 hB4)⟩
                  · have e3 : (ome.toList == [42]) = true := m3
                    cases od
                    · cases rd
                      · have cv : covB ⟨false, owh, ome, opa⟩ ⟨false, rwh, rme, rpa⟩ = true := by unfold covB; rw [HM.out, m1, m2, m3]; rfl
                        clear m3
                        have HR := hid (show ncB rs kn = true by unfold ncB; rw [HOK.out, Int.toNat_natCast]; exact nc_hit hlt (by rw [HK.out, cv, SK.out]; rfl))
                        go_wp2_with (first | (go_at_call 29; refine (l1MatchName_any owh rwh _ hwo hwr x y u v HE.out HF.out).mono ?_; rintro e w3 ⟨rfl, hB3⟩; rw [m1]; obtain ⟨hc3, hf3⟩ := bcell hB3; have hz3 : wr.heap.size < w3.heap.size := (by have := hB3.size; simp at this; omega); have hz4 : w2.heap.size < w3.heap.size := (by omega)) | (go_at_call 30; refine (l1Covers_any opa rpa _ hpo hpr).mono ?_; rintro e w4 ⟨rfl, hB4⟩; rw [m2]; obtain ⟨hc4, hf4⟩ := bcell hB4))
                        go_ret2
                        exact ⟨ret_bools HR.out.symm HOK.out.symm, below_one hW0 (below_two hBo hB3 hB4)⟩
                      · have cv : covB ⟨false, owh, ome, opa⟩ ⟨true, rwh, rme, rpa⟩ = false := by unfold covB; rw [HM.out, m1, m2, m3]; rfl
                        clear m3
                        have HR := hid (show ncTo rs kn (m + 1) = false by rw [ncTo_succ, HNO.out, HK.out, cv]; simp)
                        go_wp2_with (first | (go_at_call 29; refine (l1MatchName_any owh rwh _ hwo hwr x y u v HE.out HF.out).mono ?_; rintro e w3 ⟨rfl, hB3⟩; rw [m1]; obtain ⟨hc3, hf3⟩ := bcell hB3; have hz3 : wr.heap.size < w3.heap.size := (by have := hB3.size; simp at this; omega); have hz4 : w2.heap.size < w3.heap.size := (by omega)) | (go_at_call 30; refine (l1Covers_any opa rpa _ hpo hpr).mono ?_; rintro e w4 ⟨rfl, hB4⟩; rw [m2]; obtain ⟨hc4, hf4⟩ := bcell hB4))
                        go_roundw
                        case rel => exact ⟨m + 1, by omega, by go_num, HR.out, below_two hBo hB3 hB4⟩
                        case measure => simp [intOf]; omega
                    · have cv : covB ⟨true, owh, ome, opa⟩ ⟨rd, rwh, rme, rpa⟩ = true := by unfold covB; rw [HM.out, m1, m2, m3]; rfl
                      clear m3
                      have HR := hid (show ncB rs kn = true by unfold ncB; rw [HOK.out, Int.toNat_natCast]; exact nc_hit hlt (by rw [HK.out, cv, SK.out]; rfl))
                      go_wp2_with (first | (go_at_call 29; refine (l1MatchName_any owh rwh _ hwo hwr x y u v HE.out HF.out).mono ?_; rintro e w3 ⟨rfl, hB3⟩; rw [m1]; obtain ⟨hc3, hf3⟩ := bcell hB3; have hz3 : wr.heap.size < w3.heap.size := (by have := hB3.size; simp at this; omega); have hz4 : w2.heap.size < w3.heap.size := (by omega)) | (go_at_call 30; refine (l1Covers_any opa rpa _ hpo hpr).mono ?_; rintro e w4 ⟨rfl, hB4⟩; rw [m2]; obtain ⟨hc4, hf4⟩ := bcell hB4))
                      go_ret2
                      exact ⟨ret_bools HR.out.symm HOK.out.symm, below_one hW0 (below_two hBo hB3 hB4)⟩
        · have HR := hid (show ncB rs kn = false by
            have : m = rs.length := by omega
            subst this
            unfold ncB
            rw [HOK.out, Int.toNat_natCast, HNO.out]
            rfl)
          go_wp2
          go_ret2
          exact ⟨ret_bools HR.out.symm HOK.out.symm, below_one hW0 hB⟩

end Go.Proofs.Ytnblnhlfifhkkaf
