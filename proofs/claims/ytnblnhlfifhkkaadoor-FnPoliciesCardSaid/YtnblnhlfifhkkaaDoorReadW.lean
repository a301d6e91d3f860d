/-
  Chapter 2: a rule read from its text, by the program and by the specification.
-/
import Derived.Deep.RegionHeld3
import Derived.Maps.OwnSet
import Derived.Shelf.Strings.Split
import Derived.Test.YtnblnhlfifhkkaaDoorShelf
import Derived.Test.YtnblnhlfifhkkaaDoorReadM
import Derived.Test.YtnblnhlfifhkkaaDoorImplR
import Derived.Test.YtnblnhlfifhkkaaDoorRuleE
namespace Go.Proofs.YtnblnhlfifhkkaaDoor
open Go.RowKit Go.Shelf Go.WideMaps Go.Maps

theorem strInfo : (Tryd.prog.info? 9).map (fun i => (i.zero, i.size, i.bytes)) = some (some (.string ByteArray.empty), 1, 16) := by kernel_rfl
theorem stringsSplit_any (s : ByteArray) (m : Int) (w : World) (hs : s.size ≤ 1048576) (hm : w.cell? ⟨0, 0, none⟩ = some (.int .i64 m)) :
    Calls Tryd.prog 35 #[.string s, .string ⟨#[32]⟩] w fun e w' => e = .returned (.slice (some ⟨w.heap.size, 0, none⟩) (split s 32).length (split s 32).length) ∧ w' = w.alloc (.cells ((split s 32).map Value.string).toArray 9) := by
  have h1 : 1 ≤ (⟨#[32]⟩ : ByteArray).size := Nat.le_refl _
  have h := Any.strings_Split Tryd.lays146 strInfo s ⟨#[32]⟩ m w (by omega) hm h1
  have hl := Lib.splitB_all ⟨#[32]⟩ h1 0 _ s rfl
  rw [split_lib 32 _ s (Nat.le_refl _)] at h hl
  rw [← hl] at h
  exact h

/-- The verbs, as the program's map holds them. -/
abbrev two1 : DataW Unit := .lit (.int .i64 2)
def vD : DataW Unit := ((DataW.map []).put (.string [97, 108, 108, 111, 119]) one1).put (.string [100, 101, 110, 121]) two1
def vbI (s : ByteArray) : Int := if dnB s = true then 2 else if alB s = true then 1 else 0
theorem vD_at (s : ByteArray) : vD.atKey (.string s.data.toList) (.lit (.int .i64 0)) = .lit (.int .i64 (vbI s)) ∧ Maps.has vD (.string s.data.toList) = (alB s || dnB s) := by
  unfold vD vbI alB dnB
  rw [toList_data]
  by_cases h2 : s.data.toList = [100, 101, 110, 121]
  · rw [h2]
    refine ⟨?_, ?_⟩
    · rw [atKey_put_same (isMap_empty.put _ _) (key_str _)]
      rfl
    · rw [has_put_same (isMap_empty.put _ _) (key_str _)]
      rfl
  · rw [atKey_put_other (ne_str h2), has_put_other (ne_str h2)]
    have e2 : (s.data.toList == [100, 101, 110, 121]) = false := by rw [beq_eq_false_iff_ne]; exact h2
    rw [e2]
    by_cases h1 : s.data.toList = [97, 108, 108, 111, 119]
    · rw [h1]
      refine ⟨?_, ?_⟩
      · rw [atKey_put_same isMap_empty (key_str _)]
        rfl
      · rw [has_put_same isMap_empty (key_str _)]
        rfl
    · rw [atKey_put_other (ne_str h1), has_put_other (ne_str h1)]
      have e1 : (s.data.toList == [97, 108, 108, 111, 119]) = false := by rw [beq_eq_false_iff_ne]; exact h1
      rw [e1]
      exact ⟨rfl, rfl⟩

set_option maxRecDepth 10000 in
theorem verbs_map (W : World) : ∃ w1 w2 : World,
    (Instr.mapUpdate 71 (.map (some W.heap.size)) (.string ⟨#[97, 108, 108, 111, 119]⟩) (.int .i64 1)).run Tryd.prog (W.alloc (.map #[] 0)) = .ok () w1 ∧
    (Instr.mapUpdate 71 (.map (some W.heap.size)) (.string ⟨#[100, 101, 110, 121]⟩) (.int .i64 2)).run Tryd.prog w1 = .ok () w2 ∧
    (∀ s : ByteArray, s.size ≤ maxLen → (Instr.lookup 71 (.map (some W.heap.size)) (.string s) true).run Tryd.prog w2 = .ok (.tuple #[.int .i64 (vbI s), .bool (alB s || dnB s)]) w2) ∧
    Below W.heap.size W w2 := by
  have hk : ∀ s : ByteArray, s.size ≤ maxLen → keyOf Tryd.prog 9 (.string s) = some (.string s.data.toList) := fun s h => keyOf_string_mk Tryd.underlying9 h
  have hv : plainElem (H := Unit) Tryd.prog 3 (.int .i64 1) = some (one1, []) := plainElem_int Tryd.underlying3 (by decide)
  have hv2 : plainElem (H := Unit) Tryd.prog 3 (.int .i64 2) = some (two1, []) := plainElem_int Tryd.underlying3 (by decide)
  have h0 := World.ownsMap_made W Tryd.prog 9 (plainElem (H := Unit) Tryd.prog 3)
  obtain ⟨w1, e1, o1, g1⟩ := h0.update lawStr Tryd.underlying71 (by decide) (hk ⟨#[97, 108, 108, 111, 119]⟩ (by decide)) hv
  obtain ⟨w2, e2, o2, g2⟩ := o1.update lawStr Tryd.underlying71 (by decide) (hk ⟨#[100, 101, 110, 121]⟩ (by decide)) hv2
  have b0 : Below W.heap.size W (W.alloc (.map #[] 0)) := (Below.refl _ W).alloc (Nat.le_refl _) _
  have b1 := b0.grown g1 b0.size (fun j hj => by cases hj; exact Nat.le_refl _)
  have b2 := b1.grown g2 b1.size (fun j hj => by cases hj; exact Nat.le_refl _)
  refine ⟨w1, w2, e1, e2, fun s hs => ?_, b2⟩
  obtain ⟨h1, h2⟩ := vD_at s
  have hw0 : (Lit.int .i64 0).wf = true := by decide
  obtain ⟨v, ps, hrun, hRv⟩ := o2.look_ok lawStr Tryd.underlying71 (zeroInt _) (plainElem_int Tryd.underlying3 hw0) (hk s hs)
  obtain ⟨c, rfl, hc, _⟩ := plainElem_int_inv Tryd.underlying3 hRv
  simp only [Prod.mk.injEq] at hc
  have h3 : vD.atKey (.string s.data.toList) (.lit (.int .i64 0)) = .lit (.int .i64 c) := hc.1
  rw [h1] at h3
  injection h3 with h4
  injection h4 with _ h5
  rw [hrun, ← h5]
  have h6 : Maps.has vD (.string s.data.toList) = (alB s || dnB s) := h2
  rw [← h6]
  rfl

theorem ret_rb {r : Value} {b c : Bool} (h : b = c) : Ending.returned (.tuple #[r, .bool b]) = .returned (.tuple #[r, .bool c]) := by rw [h]
theorem vb_two (s : ByteArray) : (vbI s == 2) = dnB s := by
  unfold vbI
  cases dnB s
  · cases alB s <;> rfl
  · rfl
abbrev zRu : Ru := ⟨false, ⟨#[]⟩, ⟨#[]⟩, ⟨#[]⟩⟩
theorem ml_lt {w : World} {m : Int} (h : w.cell? ⟨0, 0, none⟩ = some (.int .i64 m)) : 0 < w.heap.size := by
  rcases Nat.lt_or_ge 0 w.heap.size with h' | h'
  · exact h'
  · simp only [World.cell?] at h
    rw [Array.getElem?_eq_none (by omega)] at h
    cases h

set_option maxHeartbeats 2000000 in
set_option maxRecDepth 100000 in
theorem ruleOfText_any (s : ByteArray) (m : Int) (w : World) (hs : s.size ≤ 1500) (hm : w.cell? ⟨0, 0, none⟩ = some (.int .i64 m)) :
    Calls Tryd.prog 20 #[.string s] w fun e w' => ∃ r : Ru, e = .returned (.tuple #[r.val, .bool (ruOk s)]) ∧ (ruOk s = true → r = ruOf s) ∧ Below w.heap.size w w' := by
  have h0 := ml_lt hm
  have hm1 : (w.alloc (.cells #[.bool false, .string ⟨#[]⟩, .string ⟨#[]⟩, .string ⟨#[]⟩] 43)).cell? ⟨0, 0, none⟩ = some (.int .i64 m) := (((Below.refl _ w).alloc (Nat.le_refl _) _).cell (p := ⟨0, 0, none⟩) h0).trans hm
  by_cases hl : (split s 32).length = 4
  · obtain ⟨a, b, c, d, he⟩ := four hl
    have HE := hid (ru_four he)
    have hza : a.size ≤ maxLen := by have := split_size s 32 a (by rw [he]; simp); unfold maxLen; omega
    have hzr : Ru.size ⟨dnB a, b, c, d⟩ ≤ 1048576 := by
      have h1 := split_size s 32 b (by rw [he]; simp)
      have h2 := split_size s 32 c (by rw [he]; simp)
      have h3 := split_size s 32 d (by rw [he]; simp)
      unfold Ru.size
      simp only
      omega
    have hS : Calls Tryd.prog 35 #[.string s, .string ⟨#[32]⟩] (w.alloc (.cells #[.bool false, .string ⟨#[]⟩, .string ⟨#[]⟩, .string ⟨#[]⟩] 43)) fun e w' => e = .returned (.slice (some ⟨w.heap.size + 1, 0, none⟩) 4 4) ∧ w' = ((w.alloc (.cells #[.bool false, .string ⟨#[]⟩, .string ⟨#[]⟩, .string ⟨#[]⟩] 43)).alloc (.cells #[.string a, .string b, .string c, .string d] 9)) := by
      have h := stringsSplit_any s m _ (by omega) hm1
      rw [he] at h
      simpa using h
    obtain ⟨w1, w2, e1, e2, hlk, hB⟩ := verbs_map ((w.alloc (.cells #[.bool false, .string ⟨#[]⟩, .string ⟨#[]⟩, .string ⟨#[]⟩] 43)).alloc (.cells #[.string a, .string b, .string c, .string d] 9))
    have hz : ((w.alloc (.cells #[.bool false, .string ⟨#[]⟩, .string ⟨#[]⟩, .string ⟨#[]⟩] 43)).alloc (.cells #[.string a, .string b, .string c, .string d] 9)).heap.size = w.heap.size + 2 := by simp
    rw [hz] at e1 e2 hlk hB
    replace hlk := hlk a hza
    have q0 : w2.cell? ⟨w.heap.size + 1, 0, none⟩ = some (.string a) := (hB.cell (p := ⟨w.heap.size + 1, 0, none⟩) (by simp)).trans (by simp)
    have q1 : w2.cell? ⟨w.heap.size + 1, 1, none⟩ = some (.string b) := (hB.cell (p := ⟨w.heap.size + 1, 1, none⟩) (by simp)).trans (by simp)
    have q2 : w2.cell? ⟨w.heap.size + 1, 2, none⟩ = some (.string c) := (hB.cell (p := ⟨w.heap.size + 1, 2, none⟩) (by simp)).trans (by simp)
    have q3 : w2.cell? ⟨w.heap.size + 1, 3, none⟩ = some (.string d) := (hB.cell (p := ⟨w.heap.size + 1, 3, none⟩) (by simp)).trans (by simp)
    have z0 : w2.cell? ⟨w.heap.size, 0, none⟩ = some (.bool false) := (hB.cell (p := ⟨w.heap.size, 0, none⟩) (by simp)).trans (by simp)
    have f0 : w2.frozen? ⟨w.heap.size, 0, none⟩ = false := (hB.frozen (p := ⟨w.heap.size, 0, none⟩) (by simp)).trans (by simp)
    have z1 : w2.cell? ⟨w.heap.size, 1, none⟩ = some (.string ⟨#[]⟩) := (hB.cell (p := ⟨w.heap.size, 1, none⟩) (by simp)).trans (by simp)
    have f1 : w2.frozen? ⟨w.heap.size, 1, none⟩ = false := (hB.frozen (p := ⟨w.heap.size, 1, none⟩) (by simp)).trans (by simp)
    have z2 : w2.cell? ⟨w.heap.size, 2, none⟩ = some (.string ⟨#[]⟩) := (hB.cell (p := ⟨w.heap.size, 2, none⟩) (by simp)).trans (by simp)
    have f2 : w2.frozen? ⟨w.heap.size, 2, none⟩ = false := (hB.frozen (p := ⟨w.heap.size, 2, none⟩) (by simp)).trans (by simp)
    have z3 : w2.cell? ⟨w.heap.size, 3, none⟩ = some (.string ⟨#[]⟩) := (hB.cell (p := ⟨w.heap.size, 3, none⟩) (by simp)).trans (by simp)
    have f3 : w2.frozen? ⟨w.heap.size, 3, none⟩ = false := (hB.frozen (p := ⟨w.heap.size, 3, none⟩) (by simp)).trans (by simp)
    have hzw : w.heap.size + 2 ≤ w2.heap.size := by have := hB.size; simp at this; omega
    have hB0 : Below w.heap.size w w2 := (((Below.refl _ w).alloc (Nat.le_refl _) _).alloc (by simp) _).trans (hB.mono (by omega))
    have hv2 := vb_two a
    have hmm := @run_makeMap Tryd.prog
    clear hB hz hm1 hl
    have hBr : Below w2.heap.size w2 (w2.alloc (.cells #[.bool (dnB a), .string b, .string c, .string d] 43)) := (Below.refl _ w2).alloc (Nat.le_refl _) _
    have y0 := (hBr.cell (p := ⟨w.heap.size, 0, none⟩) (by simp only; omega)).trans z0
    have g0 := (hBr.frozen (p := ⟨w.heap.size, 0, none⟩) (by simp only; omega)).trans f0
    have y1 := (hBr.cell (p := ⟨w.heap.size, 1, none⟩) (by simp only; omega)).trans z1
    have g1 := (hBr.frozen (p := ⟨w.heap.size, 1, none⟩) (by simp only; omega)).trans f1
    have y2 := (hBr.cell (p := ⟨w.heap.size, 2, none⟩) (by simp only; omega)).trans z2
    have g2 := (hBr.frozen (p := ⟨w.heap.size, 2, none⟩) (by simp only; omega)).trans f2
    have y3 := (hBr.cell (p := ⟨w.heap.size, 3, none⟩) (by simp only; omega)).trans z3
    have g3 := (hBr.frozen (p := ⟨w.heap.size, 3, none⟩) (by simp only; omega)).trans f3
    have hBr0 := below_one hB0 hBr
    have n1 := World.new_ne w2 _ q1
    have n2 := World.new_ne w2 _ q2
    have n3 := World.new_ne w2 _ q3
    cases hok : (alB a || dnB a)
    · rw [hok] at hlk
      have HN := hid (show ruOk s = false by rw [HE.out.2, hok]; rfl)
      go_enter Tryd.func20, Tryd.ntmps20
      go_wp2_with fail
      refine hS.mono ?_
      rintro e w3 ⟨rfl, rfl⟩
      go_wp2_with fail
      go_region_held3 (fun w' => w'.cell? ⟨w.heap.size + 1, 1, none⟩ = some (.string b) ∧ w'.cell? ⟨w.heap.size + 1, 2, none⟩ = some (.string c) ∧ w'.cell? ⟨w.heap.size + 1, 3, none⟩ = some (.string d)) (go_keep) (first | fail)
      all_goals go_wp2
      all_goals exact bodyPost_ret (v := .tuple #[zRu.val, .bool false]) (by simp [results, Tryd.results20, go_sem, *]) rfl ⟨zRu, ret_rb HN.out.symm, (fun h => by rw [HN.out] at h; cases h), (((((hBr0.drew).setCell (p := ⟨w.heap.size, 0, none⟩) (Nat.le_refl _) _).setCell (p := ⟨w.heap.size, 1, none⟩) (Nat.le_refl _) _).setCell (p := ⟨w.heap.size, 2, none⟩) (Nat.le_refl _) _).setCell (p := ⟨w.heap.size, 3, none⟩) (Nat.le_refl _) _)⟩
    · rw [hok] at hlk
      have HN := hid (show ruOk s = Ru.good ⟨dnB a, b, c, d⟩ by rw [HE.out.2, hok]; rfl)
      have HO := hid HE.out.1
      have hzb : w2.heap.size < (w2.alloc (.cells #[.bool (dnB a), .string b, .string c, .string d] 43)).heap.size := by simp
      have x0 : (w2.alloc (.cells #[.bool (dnB a), .string b, .string c, .string d] 43)).cell? ⟨w2.heap.size, 0, none⟩ = some (.bool (dnB a)) := by simp
      have x1 : (w2.alloc (.cells #[.bool (dnB a), .string b, .string c, .string d] 43)).cell? ⟨w2.heap.size, 1, none⟩ = some (.string b) := by simp
      have x2 : (w2.alloc (.cells #[.bool (dnB a), .string b, .string c, .string d] 43)).cell? ⟨w2.heap.size, 2, none⟩ = some (.string c) := by simp
      have x3 : (w2.alloc (.cells #[.bool (dnB a), .string b, .string c, .string d] 43)).cell? ⟨w2.heap.size, 3, none⟩ = some (.string d) := by simp
      go_enter Tryd.func20, Tryd.ntmps20
      go_wp2_with fail
      refine hS.mono ?_
      rintro e w3 ⟨rfl, rfl⟩
      go_wp2_with fail
      go_region_held3 (fun w' => w'.cell? ⟨w.heap.size + 1, 1, none⟩ = some (.string b) ∧ w'.cell? ⟨w.heap.size + 1, 2, none⟩ = some (.string c) ∧ w'.cell? ⟨w.heap.size + 1, 3, none⟩ = some (.string d)) (go_keep) (first | fail)
      go_wp2_with fail
      refine (implGoodRule_any ⟨dnB a, b, c, d⟩ _ hzr).mono ?_
      rintro e w5 ⟨rfl, hB5⟩
      replace hB5 : Below (w2.alloc (.cells #[.bool (dnB a), .string b, .string c, .string d] 43)).heap.size (w2.alloc (.cells #[.bool (dnB a), .string b, .string c, .string d] 43)) w5 := below_drew1 (W := w2.alloc (.cells #[.bool (dnB a), .string b, .string c, .string d] 43)) hB5
      have u0 := (hB5.cell (p := ⟨w.heap.size, 0, none⟩) (by simp only; omega)).trans y0
      have v0 := (hB5.frozen (p := ⟨w.heap.size, 0, none⟩) (by simp only; omega)).trans g0
      have t0 := (hB5.cell (p := ⟨w2.heap.size, 0, none⟩) hzb).trans x0
      have u1 := (hB5.cell (p := ⟨w.heap.size, 1, none⟩) (by simp only; omega)).trans y1
      have v1 := (hB5.frozen (p := ⟨w.heap.size, 1, none⟩) (by simp only; omega)).trans g1
      have t1 := (hB5.cell (p := ⟨w2.heap.size, 1, none⟩) hzb).trans x1
      have u2 := (hB5.cell (p := ⟨w.heap.size, 2, none⟩) (by simp only; omega)).trans y2
      have v2 := (hB5.frozen (p := ⟨w.heap.size, 2, none⟩) (by simp only; omega)).trans g2
      have t2 := (hB5.cell (p := ⟨w2.heap.size, 2, none⟩) hzb).trans x2
      have u3 := (hB5.cell (p := ⟨w.heap.size, 3, none⟩) (by simp only; omega)).trans y3
      have v3 := (hB5.frozen (p := ⟨w.heap.size, 3, none⟩) (by simp only; omega)).trans g3
      have t3 := (hB5.cell (p := ⟨w2.heap.size, 3, none⟩) hzb).trans x3
      have hBB5 := below_one hBr0 hB5
      clear x0 x1 x2 x3 y0 y1 y2 y3 g0 g1 g2 g3 z0 z1 z2 z3 f0 f1 f2 f3 q0 q1 q2 q3 hB5 hBr n1 n2 n3
      cases hg : Ru.good ⟨dnB a, b, c, d⟩
      · have HG := hid (HN.out.trans hg)
        go_wp2
        exact bodyPost_ret (v := .tuple #[zRu.val, .bool false]) (by simp [results, Tryd.results20, go_sem, *]) rfl ⟨zRu, ret_rb HG.out.symm, (fun h => by rw [HG.out] at h; cases h), ((((hBB5.setCell (p := ⟨w.heap.size, 0, none⟩) (Nat.le_refl _) _).setCell (p := ⟨w.heap.size, 1, none⟩) (Nat.le_refl _) _).setCell (p := ⟨w.heap.size, 2, none⟩) (Nat.le_refl _) _).setCell (p := ⟨w.heap.size, 3, none⟩) (Nat.le_refl _) _)⟩
      · have HG := hid (HN.out.trans hg)
        go_wp2
        exact bodyPost_ret (v := .tuple #[Ru.val ⟨dnB a, b, c, d⟩, .bool true]) (by simp [results, Tryd.results20, go_sem, *]) rfl ⟨⟨dnB a, b, c, d⟩, ret_rb HG.out.symm, (fun _ => HO.out.symm), ((((hBB5.setCell (p := ⟨w.heap.size, 0, none⟩) (Nat.le_refl _) _).setCell (p := ⟨w.heap.size, 1, none⟩) (Nat.le_refl _) _).setCell (p := ⟨w.heap.size, 2, none⟩) (Nat.le_refl _) _).setCell (p := ⟨w.heap.size, 3, none⟩) (Nat.le_refl _) _)⟩
  · have HN := hid (ru_other hl)
    have hn : (((split s 32).length : Int) != 4) = true := by simp; omega
    go_enter Tryd.func20, Tryd.ntmps20
    go_wp2_with fail
    refine (stringsSplit_any s m _ (by omega) hm1).mono ?_
    rintro e w1 ⟨rfl, rfl⟩
    go_wp2
    exact bodyPost_ret (v := .tuple #[zRu.val, .bool false]) (by simp [results, Tryd.results20, go_sem]) rfl ⟨zRu, ret_rb HN.out.symm, (fun h => by rw [HN.out] at h; cases h), ((Below.refl _ w).alloc (Nat.le_refl _) _).alloc (by simp) _⟩

end Go.Proofs.YtnblnhlfifhkkaaDoor
