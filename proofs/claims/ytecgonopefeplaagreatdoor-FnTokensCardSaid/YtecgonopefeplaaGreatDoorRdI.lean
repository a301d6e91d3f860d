/-
  Chapter 3: a number and a link read from their texts, by the program.
-/
import Derived.Shelf.Strings.Split
import Derived.Test.YtecgonopefeplaaGreatDoorRdN
namespace Go.Proofs.YtecgonopefeplaaGreatDoor
open Go.RowKit Go.Shelf

/-- The library's two faults are some values. -/
def Errs (w : World) : Prop := (∃ tp p, w.var? Tryz.prog "strconv.ErrSyntax" = some #[.iface tp p]) ∧ ∃ tp p, w.var? Tryz.prog "strconv.ErrRange" = some #[.iface tp p]
theorem var_on {P : Program} {w w' : World} {name : String} {cs : Array Value} (h : w.var? P name = some cs) (hb : Below w.heap.size w w') : w'.var? P name = some cs := by
  unfold World.var? at *
  cases hg : P.globalNamed name with
  | none => simp [hg] at h
  | some g =>
    simp only [hg, Option.bind_some] at h ⊢
    have hlt : g < w.heap.size := by
      rcases Nat.lt_or_ge g w.heap.size with h' | h'
      · exact h'
      · rw [Array.getElem?_eq_none h'] at h; simp at h
    rw [hb.block g hlt]
    exact h
theorem Errs.on {w w' : World} (h : Errs w) (hb : Below w.heap.size w w') : Errs w' := by
  obtain ⟨⟨tp, p, h1⟩, tq, q, h2⟩ := h
  exact ⟨⟨tp, p, var_on h1 hb⟩, tq, q, var_on h2 hb⟩

/-- A text read as a number: the number, or a fault. -/
theorem atoi_any (s : ByteArray) (w : World) (hs : s.size ≤ 1048576) (hE : Errs w) :
    Calls Tryz.prog 59 #[.string s] w fun e w' => (∃ n, Lib.atoiAll s.data.toList = .ok n ∧ -9223372036854775808 ≤ n ∧ n ≤ 9223372036854775807 ∧ e = .returned (.tuple #[.int .i64 n, .nilIface]) ∧ Below w.heap.size w w') ∨ (numI s = none ∧ ∃ n t p, e = .returned (.tuple #[.int .i64 n, .iface t p]) ∧ Below w.heap.size w w') := by
  obtain ⟨⟨tp, p, h1⟩, tq, q, h2⟩ := hE
  cases h : Lib.atoiAll s.data.toList with
  | ok n =>
    obtain ⟨b0, b1⟩ := Lib.atoiAll_bounds h
    refine (Any.strconv_Atoi_ok Tryz.lays172 s (by omega) n h w).mono ?_
    rintro e w' ⟨rfl, hw⟩
    refine .inl ⟨n, rfl, by omega, by omega, rfl, ?_⟩
    rcases hw with rfl | ⟨t, rfl⟩
    · exact Below.refl _ _
    · exact Lib.bytesWorld_below _ _ _
  | «syntax» =>
    have hn : numI s = none := by unfold numI; rw [h]
    refine (Any.strconv_Atoi_syntax_var Tryz.lays172 s (by omega) h tp p w h1).mono ?_
    rintro e w' ⟨N, rfl, _, _, hB⟩
    exact .inr ⟨hn, _, _, _, rfl, hB⟩
  | range =>
    have hn : numI s = none := by unfold numI; rw [h]
    refine (Any.strconv_Atoi_range_var Tryz.lays172 s (by omega) h tq q w h2).mono ?_
    rintro e w' ⟨N, rfl, _, _, hB⟩
    exact .inr ⟨hn, _, _, _, rfl, hB⟩

def numV (s : ByteArray) : Int := (numI s).getD 0
def numB (s : ByteArray) : Bool := (numI s).isSome
theorem num_none {s : ByteArray} (h : numI s = none) : numV s = 0 ∧ numB s = false := by unfold numV numB; rw [h]; exact ⟨rfl, rfl⟩
theorem num_some {s : ByteArray} {n : Int} (h : numI s = some n) : numV s = n ∧ numB s = true := by unfold numV numB; rw [h]; exact ⟨rfl, rfl⟩
theorem ret_ib {a b : Int} {c d : Bool} (h : a = b) (h' : c = d) : Ending.returned (.tuple #[.int .i64 a, .bool c]) = .returned (.tuple #[.int .i64 b, .bool d]) := by rw [h, h']

set_option maxHeartbeats 1000000 in
theorem numberOfText_any (s : ByteArray) (w : World) (hs : s.size ≤ 1048576) (hE : Errs w) (ht : Tab w) :
    Calls Tryz.prog 39 #[.string s] w fun e w' => e = .returned (.tuple #[.int .i64 (numV s), .bool (numB s)]) ∧ Below w.heap.size w w' := by
  have HTB := hid ht
  have hA := atoi_any s w hs hE
  clear ht hE
  go_enter Tryz.func39, Tryz.ntmps39
  go_wp2_with fail
  refine hA.mono ?_
  rintro e w1 (⟨n, ha, b0, b1, rfl, hB1⟩ | ⟨hn, n, t, p, rfl, hB1⟩)
  · cases he : ((numT n).toList == s.toList)
    · have HN := hid (num_none (s := s) (by
        unfold numI
        rw [ha]
        have : (Lib.itoa n == s.data.toList) = false := by rw [toList_data, toList_data] at he; exact he
        simp only [this]
        rfl))
      go_wp2_with fail
      refine (itoa_any n _ b0 b1 (HTB.out.on hB1)).mono ?_
      rintro e w2 ⟨rfl, hB2⟩
      go_wp2_with fail
      go_ret2
      exact ⟨ret_ib HN.out.1.symm HN.out.2.symm, below_one hB1 hB2⟩
    · have HN := hid (num_some (s := s) (n := n) (by
        unfold numI
        rw [ha]
        have : (Lib.itoa n == s.data.toList) = true := by rw [toList_data, toList_data] at he; exact he
        simp only [this]
        rfl))
      go_wp2_with fail
      refine (itoa_any n _ b0 b1 (HTB.out.on hB1)).mono ?_
      rintro e w2 ⟨rfl, hB2⟩
      go_wp2_with fail
      go_ret2
      exact ⟨ret_ib HN.out.1.symm HN.out.2.symm, below_one hB1 hB2⟩
  · have HN := hid (num_none hn)
    go_wp2_with fail
    go_ret2
    exact ⟨ret_ib HN.out.1.symm HN.out.2.symm, hB1⟩

theorem infoStr3 : (Tryz.prog.info? 9).map (fun i => (i.zero, i.size, i.bytes)) = some (some (.string ByteArray.empty), 1, 16) := by kernel_rfl
theorem split32_any (s : ByteArray) (m : Int) (w : World) (hs : s.size ≤ 1048576) (hm : w.cell? ⟨0, 0, none⟩ = some (.int .i64 m)) :
    Calls Tryz.prog 38 #[.string s, .string ⟨#[32]⟩] w fun e w' => e = .returned (.slice (some ⟨w.heap.size, 0, none⟩) (split s 32).length (split s 32).length) ∧ w' = w.alloc (.cells ((split s 32).map Value.string).toArray 9) := by
  have h1 : 1 ≤ (⟨#[32]⟩ : ByteArray).size := Nat.le_refl _
  have h := Any.strings_Split Tryz.lays146 infoStr3 s ⟨#[32]⟩ m w (by omega) hm h1
  have hl := Lib.splitB_all ⟨#[32]⟩ h1 0 _ s rfl
  rw [split_lib 32 _ s (Nat.le_refl _)] at h hl
  rw [← hl] at h
  exact h
theorem rd_num {s a b c d e : ByteArray} (h : split s 32 = [a, b, c, d, e]) (h1 : numB c = true) (h2 : numB d = true) (h3 : numB e = true) : rdLk numI s = some ⟨a, b, numV c, numV d, numV e⟩ := by
  rw [rdLk_five h]
  unfold numB at h1 h2 h3
  obtain ⟨x, hx⟩ := Option.isSome_iff_exists.1 h1
  obtain ⟨y, hy⟩ := Option.isSome_iff_exists.1 h2
  obtain ⟨z, hz⟩ := Option.isSome_iff_exists.1 h3
  unfold numV
  rw [hx, hy, hz]
  rfl
theorem rd_nonum {s a b c d e : ByteArray} (h : split s 32 = [a, b, c, d, e]) (hn : numB c = false ∨ numB d = false ∨ numB e = false) : rdLk numI s = none := by
  rw [rdLk_five h]
  unfold numB at hn
  rcases hn with h1 | h1 | h1
  · have : numI c = none := by simpa using h1
    rw [this]
  · have : numI d = none := by simpa using h1
    rw [this]
    cases numI c <;> rfl
  · have : numI e = none := by simpa using h1
    rw [this]
    cases numI c <;> cases numI d <;> rfl
abbrev zLk : Lk := ⟨⟨#[]⟩, ⟨#[]⟩, 0, 0, 0⟩
theorem ml_lt3 {w : World} {m : Int} (h : w.cell? ⟨0, 0, none⟩ = some (.int .i64 m)) : 0 < w.heap.size := by
  by_cases h' : 0 < w.heap.size
  · exact h'
  · simp only [World.cell?] at h
    rw [Array.getElem?_eq_none (by omega)] at h
    cases h

end Go.Proofs.YtecgonopefeplaaGreatDoor
