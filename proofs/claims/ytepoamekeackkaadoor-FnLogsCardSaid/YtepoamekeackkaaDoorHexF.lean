/-
  Hex digits by the library (strconv.FormatUint with base 16).
-/
import Derived.Laws.BitsAllLaws
import Derived.Lib.LaidTab
import Derived.Test.YtepoamekeackkaaDoorLstN
import Derived.Test.YtepoamekeackkaaDoorHexT
namespace Go.Proofs.YtepoamekeackkaaDoor
open Go.RowKit Go.Shelf

/-- The library's table of places of bits: where 16 leads. -/
def Tab2 (w : World) : Prop := w.cell? ⟨3, 15, none⟩ = some (.int .u8 4)

theorem Tab2.on {w w' : World} (h : Tab2 w) (hB : Below w.heap.size w w') : Tab2 w' := by
  refine (hB.cell (p := ⟨3, 15, none⟩) ?_).trans h
  by_cases hb : 3 < w.heap.size
  · exact hb
  · unfold Tab2 at h
    simp only [World.cell?] at h
    rw [Array.getElem?_eq_none (by omega)] at h
    cases h

set_option maxHeartbeats 1000000 in
theorem tz16 (w : World) (ht : Tab2 w) :
    Calls Tryd.prog 91 #[.int .u64 16] w fun e w' => e = .returned (.int .i64 4) ∧ w' = w := by
  unfold Tab2 at ht
  have e1 : bits .and .u64 16 (IntKind.u64.wrap (-16)) = 16 := by decide +kernel
  have e2 : IntKind.u64.wrap (16 * 285870213051353865) = 4573923408821661840 := by decide +kernel
  have e3 : IntKind.u64.wrap 4573923408821661840 = 4573923408821661840 := by decide +kernel
  go_enter Tryd.func91, Tryd.ntmps91
  go_wp2
  go_ret
  exact ⟨rfl, rfl⟩

set_option maxHeartbeats 1000000 in
theorem pow2_16 (w : World) :
    Calls Tryd.prog 90 #[.int .i64 16] w fun e w' => e = .returned (.bool true) ∧ w' = w := by
  go_enter Tryd.func90, Tryd.ntmps90
  go_wp2
  go_ret
  exact ⟨rfl, rfl⟩

theorem and_15' (m : Nat) (h : m < 18446744073709551616) : bits .and .u64 (m : Int) 15 = ((m % 16 : Nat) : Int) := by
  have := u64_and_nat m 15 h (by omega)
  rw [show ((15 : Nat) : Int) = 15 from rfl] at this
  rw [this, show (15 : Nat) = 2 ^ 4 - 1 from rfl, Nat.and_two_pow_sub_one_eq_mod]
theorem hex_at (d : Nat) (h : d < 16) : (⟨#[48, 49, 50, 51, 52, 53, 54, 55, 56, 57, 97, 98, 99, 100, 101, 102, 103, 104, 105, 106, 107, 108, 109, 110, 111, 112, 113, 114, 115, 116, 117, 118, 119, 120, 121, 122]⟩ : ByteArray)[d]? = some (hexD d) := by
  have : ∀ k : Fin 16, (⟨#[48, 49, 50, 51, 52, 53, 54, 55, 56, 57, 97, 98, 99, 100, 101, 102, 103, 104, 105, 106, 107, 108, 109, 110, 111, 112, 113, 114, 115, 116, 117, 118, 119, 120, 121, 122]⟩ : ByteArray)[k.val]? = some (hexD k.val) := by decide
  exact this ⟨d, h⟩
theorem hex_at' (d : Nat) (h : d < 16) (h' : d < (⟨#[48, 49, 50, 51, 52, 53, 54, 55, 56, 57, 97, 98, 99, 100, 101, 102, 103, 104, 105, 106, 107, 108, 109, 110, 111, 112, 113, 114, 115, 116, 117, 118, 119, 120, 121, 122]⟩ : ByteArray).size) : (⟨#[48, 49, 50, 51, 52, 53, 54, 55, 56, 57, 97, 98, 99, 100, 101, 102, 103, 104, 105, 106, 107, 108, 109, 110, 111, 112, 113, 114, 115, 116, 117, 118, 119, 120, 121, 122]⟩ : ByteArray)[d] = hexD d := by
  have := hex_at d h
  rw [getElem?_pos _ d h'] at this
  exact Option.some.inj this
theorem drop_set_at {α : Type} {xs : List α} {q : Nat} (v : α) (h : q < xs.length) : (xs.set q v).drop q = v :: xs.drop (q + 1) := by
  rw [List.drop_eq_getElem_cons (by simpa using h), List.getElem_set_self, List.drop_set_of_lt (by omega)]
theorem hxL_step {k m : Nat} (h : 16 ≤ m) : hxL (k + 1) m = hxL k (m / 16) ++ [hexD (m % 16)] := by rw [hxL, if_neg (by omega)]
theorem hxL_last {k m : Nat} (h : m < 16) : hxL k m = [hexD m] := by
  cases k with
  | zero => rfl
  | succ k => rw [hxL, if_pos h]

theorem zero_row (w : World) : (w.alloc (.cells Tryd.zeroCells114 114)).ownsRow w.heap.size 114 1 (.slice (some ⟨w.heap.size, 0, none⟩) 65 65) 65 Tryd.zeroCells114.toList := by
  have hz : Tryd.zeroCells114.size = 65 := by kernel_rfl
  exact ⟨by rw [Array.length_toList, hz], .inr ⟨w.heap.size, 65, Tryd.zeroCells114, rfl, Nat.le_refl _, by show (w.heap.push _)[w.heap.size]? = _; rw [Array.getElem?_push_size], Nat.le_refl _, by unfold maxLen; omega, by rw [hz], by rw [List.take_of_length_le (by rw [Array.length_toList, hz]; omega)]⟩⟩

set_option maxHeartbeats 2000000 in
set_option maxRecDepth 100000 in
theorem formatBits_16 (n : Nat) (w : World) (hn : n < 4294967296) (ht : Tab2 w) :
    Calls Tryd.prog 75 #[.slice none 0 0, .int .u64 (n : Int), .int .i64 16, .bool false, .bool false] w fun e w' => e = .returned (.tuple #[.slice none 0 0, .string ⟨(hxL 7 n).toArray⟩]) ∧ Below w.heap.size w w' := by
  have hz := zero_row w
  have hBa : Below w.heap.size w (w.alloc (.cells Tryd.zeroCells114 114)) := (Below.refl _ w).alloc (Nat.le_refl _) _
  have hxz : Tryd.zeroCells114.toList.drop 65 = Lib.byteCells [] := by rw [List.drop_of_length_le (by rw [hz.1]; omega)]; rfl
  generalize Tryd.zeroCells114.toList = xz at *
  go_enter Tryd.func75, Tryd.ntmps75
  go_wp2_with fail
  refine (pow2_16 _).mono ?_
  rintro e w1 ⟨rfl, hw1⟩
  rw [hw1]
  clear hw1
  go_wp2_with fail
  refine (tz16 _ (ht.on hBa)).mono ?_
  rintro e w1 ⟨rfl, hw1⟩
  rw [hw1]
  clear hw1
  go_wp2_with fail
  go_loopw [1, 13] (fun u i wr => ∃ (j q m : Nat) (D : List UInt8) (xs : List Value), j ≤ 7 ∧ q + j = 64 ∧ m < 16 ^ (8 - j) ∧ u = .int .u64 (m : Int) ∧ i = .int .i64 ((q : Int) + 1) ∧ hxL 7 n = hxL (7 - j) m ++ D ∧ wr.ownsRow w.heap.size 114 1 (.slice (some ⟨w.heap.size, 0, none⟩) 65 65) 65 xs ∧ xs.drop (q + 1) = Lib.byteCells D ∧ Below w.heap.size w wr) (fun u _ _ => (intOf u).toNat)
  case atStart => exact ⟨0, 64, n, [], xz, by omega, by omega, by simpa using hn, rfl, rfl, by simp, hz, hxz, hBa⟩
  case round =>
    obtain ⟨j, q, m, D, xs, hj, hq, hm, rfl, rfl, hx, hrow, hD, hB⟩ := hrel
    have HX := hid hx
    have HD := hid hD
    clear hx hD
    have hm32 : m < 4294967296 := Nat.lt_of_lt_of_le hm (by rw [show 4294967296 = 16 ^ 8 from rfl]; exact Nat.pow_le_pow_right (by omega) (by omega))
    have hxl : xs.length = 65 := by have := hrow.1; omega
    have s0 := hrow.cellAt q (by omega)
    rw [List.getElem?_eq_getElem (by omega)] at s0
    have t0 := hrow.frozenAt q
    by_cases h16 : 16 ≤ m
    · have h16' : (16 : Int) ≤ (m : Int) := by omega
      have hj7 : j < 7 := by
        rcases Nat.lt_or_ge j 7 with h | h
        · exact h
        · obtain rfl : j = 7 := by omega
          simp at hm
          omega
      have hm' : m / 16 < 16 ^ (8 - (j + 1)) := by
        rw [show 8 - j = (8 - (j + 1)) + 1 by omega, Nat.pow_succ] at hm
        omega
      have HS := hid (show hxL (7 - j) m = hxL (7 - (j + 1)) (m / 16) ++ [hexD (m % 16)] by rw [show 7 - j = 7 - (j + 1) + 1 by omega]; exact hxL_step h16)
      have e1 := and_15' m (by omega)
      have hd : m % 16 < 16 := Nat.mod_lt _ (by omega)
      generalize m % 16 = d at *
      obtain ⟨q', rfl⟩ : ∃ q', q = q' + 1 := ⟨q - 1, by omega⟩
      go_wp2_with fail
      rw [hex_at' d hd]
      refine ⟨⟨j + 1, q', m / 16, hexD d :: D, _, by omega, by omega, hm', rfl, by go_num, ?_, (hrow.stored (q' + 1) _).1, ?_, hB.setCell (p := ⟨w.heap.size, _, none⟩) (Nat.le_refl _) _⟩, ?_⟩
      · rw [HX.out, HS.out]; simp
      · rw [drop_set_at _ (by omega), HD.out]; rfl
      · simp [intOf]; omega
    · have h16' : ¬ (16 : Int) ≤ (m : Int) := by omega
      have hD16 : m < 16 := by omega
      have HS := hid (show hxL 7 n = hexD m :: D by rw [HX.out, hxL_last hD16]; rfl)
      have hsl : ∀ W, (Instr.sliceAt 114 (.pointer (some ⟨w.heap.size, 0, none⟩)) (some (.int .i64 (q : Int))) none none).run Tryd.prog W = .ok (.slice (some ⟨w.heap.size, q, none⟩) (j + 1) (j + 1)) W := fun W => by
        have hal : Tryd.prog.arrayLen 114 = 65 := by simp [Program.arrayLen, Tryd.underlying114]
        rw [run_sliceAt_array_l W 114 ⟨w.heap.size, 0, none⟩ (by simp [Program.arrayLen, Program.elem, Tryd.underlying114]) .i64 (q : Int) (by omega) (by rw [hal]; omega)]
        go_simp
        omega
      have hst := hrow.stored q (.int .u8 ((hexD m).toNat : Int))
      have hdl : D.length = j := by
        have h1 := congrArg List.length HD.out
        rw [List.length_drop, hxl, Lib.byteCells_length] at h1
        omega
      have hcv : (convert 22 9 (.slice (some ⟨w.heap.size, q, none⟩) (j + 1) (j + 1))).run Tryd.prog (wr.setCell ⟨w.heap.size, q, none⟩ (.int .u8 ((hexD m).toNat : Int))) = .ok (.string ⟨(hexD m :: D).toArray⟩) (wr.setCell ⟨w.heap.size, q, none⟩ (.int .u8 ((hexD m).toNat : Int))) := by
        have hl : (hexD m :: D).length = j + 1 := by rw [List.length_cons, hdl]
        rw [← hl]
        refine run_convert_bytes_back (P := Tryd.prog) _ 22 9 5 ⟨w.heap.size, q, none⟩ _ (hexD m :: D) Tryd.underlying22 Tryd.underlying5 Tryd.underlying9 ?_
        intro t ht'
        have hc := hst.1.cellAt (q + t) (by omega)
        rw [Addr.add_lit, hc]
        have h2 : (xs.set q (.int .u8 ((hexD m).toNat : Int))).drop q = Lib.byteCells (hexD m :: D) := by
          rw [drop_set_at _ (by omega), HD.out]
          rfl
        have h3 := congrArg (fun l => l[t]?) h2
        simp only [List.getElem?_drop] at h3
        rw [h3]
        unfold Lib.byteCells
        rw [List.getElem?_map, List.getElem?_eq_getElem ht']
        rfl
      clear hst
      go_wp2_with fail
      rw [hex_at' m hD16, hcv]
      simp only [Result.andThen]
      rw [Oper.upon_value]
      go_wp2_with fail
      go_ret2
      exact ⟨by rw [HS.out]; rfl, hB.setCell (p := ⟨w.heap.size, _, none⟩) (Nat.le_refl _) _⟩

set_option maxHeartbeats 1000000 in
theorem formatUint_16 (n : Nat) (w : World) (hn : n < 4294967296) (ht : Tab2 w) :
    Calls Tryd.prog 52 #[.int .u64 (n : Int), .int .i64 16] w fun e w' => e = .returned (.string ⟨(hxL 7 n).toArray⟩) ∧ Below w.heap.size w w' := by
  go_enter Tryd.func52, Tryd.ntmps52
  go_wp2_with (first | (go_at_call 64; go_in) | (go_at_call 75; refine (formatBits_16 n _ hn ht).mono ?_; rintro e w1 ⟨rfl, hB1⟩))
  go_ret
  exact ⟨rfl, hB1⟩

set_option maxHeartbeats 1000000 in
theorem hasPre_any (s : ByteArray) (b : Bool) (w : World) (h1 : 1 ≤ s.size) (hb : ((s.extract 0 1).toList == [48]) = b) :
    Calls Tryd.prog 66 #[.string s, .string ⟨#[48]⟩] w fun e w' => e = .returned (.bool b) ∧ w' = w := by
  have hs : (⟨#[48]⟩ : ByteArray).size = 1 := rfl
  have hl : (⟨#[48]⟩ : ByteArray).toList = [48] := by rw [toList_data]
  have h1' : (1 : Int) ≤ (s.size : Int) := by omega
  go_enter Tryd.func66, Tryd.ntmps66
  go_wp2
  go_ret
  exact ⟨rfl, rfl⟩

set_option maxHeartbeats 2000000 in
set_option maxRecDepth 100000 in
theorem repeat_0 (k : Nat) (w : World) (hk : k ≤ 7) :
    Calls Tryd.prog 53 #[.string ⟨#[48]⟩, .int .i64 (k : Int)] w fun e w' => e = .returned (.string ⟨(List.replicate k (48 : UInt8)).toArray⟩) ∧ w' = w := by
  have hs : (⟨#[48]⟩ : ByteArray).size = 1 := rfl
  have a0 : bits .and .u64 0 4294967295 = 0 := by decide +kernel
  have a1 : bits .and .u64 1 4294967295 = 1 := by decide +kernel
  have a2 : bits .and .u64 2 4294967295 = 2 := by decide +kernel
  have a3 : bits .and .u64 3 4294967295 = 3 := by decide +kernel
  have a4 : bits .and .u64 4 4294967295 = 4 := by decide +kernel
  have a5 : bits .and .u64 5 4294967295 = 5 := by decide +kernel
  have a6 : bits .and .u64 6 4294967295 = 6 := by decide +kernel
  have a7 : bits .and .u64 7 4294967295 = 7 := by decide +kernel
  obtain h | h | h : k = 0 ∨ k = 1 ∨ 2 ≤ k := by omega
  · subst h
    go_enter Tryd.func53, Tryd.ntmps53
    go_wp2
    go_ret
    exact ⟨rfl, rfl⟩
  · subst h
    go_enter Tryd.func53, Tryd.ntmps53
    go_wp2
    go_ret
    exact ⟨rfl, rfl⟩
  · obtain h | h | h | h | h | h : k = 2 ∨ k = 3 ∨ k = 4 ∨ k = 5 ∨ k = 6 ∨ k = 7 := by omega
    all_goals subst h
    all_goals go_enter Tryd.func53, Tryd.ntmps53
    all_goals go_wp2_with (first | (go_at_call 65; go_in) | (go_at_call 77; go_in) | (go_at_call 66; refine (hasPre_any _ false _ (by decide) (by decide +kernel)).mono ?_; rintro e w1 ⟨rfl, hw⟩; rw [hw]; clear hw) | (go_at_call 66; refine (hasPre_any _ true _ (by decide) (by decide +kernel)).mono ?_; rintro e w1 ⟨rfl, hw⟩; rw [hw]; clear hw))
    all_goals go_ret
    all_goals exact ⟨ret_str (by decide +kernel), rfl⟩

end Go.Proofs.YtepoamekeackkaaDoor
