/-
  The faults and the type of all faults, as the rows list them.
-/
import Derived.Test.YtfchmhcnejifhaaDoorRows
import Derived.Test.YtfchmhcnejifhaaDoorCloI
import Derived.LaidHandle
import Derived.LaidLaws
import Derived.Stop.Joined
import Derived.Stop.JoinedAt
import Derived.Stop.LaidErr
import Derived.Stop.LaidTwo
import Derived.Stop.Texts
namespace Go.Proofs.YtfchmhcnejifhaaDoor
open Go.ChangeShapes Go.WideShapes Go.RowKit Go.Shelf
open Go.Extern.Stop Go.Stop Go.Extern

theorem flt_own : ownKnob Tryd.prog.godebug = none := by kernel_rfl
theorem flt_gT : Tryd.prog.globalNamed "errors.errorType" = some 4 := by kernel_rfl
theorem flt_rt : (Tryd.prog.cutTypes.find? (·.1 == "internal/reflectlite.rtype")).map (·.2) = some 109 := by kernel_rfl
theorem flt_row : ((List.range 160).filter fun t => Tryd.prog.rowNamed t [101, 114, 114, 111, 114]) = [53] := by kernel_rfl
theorem flt_size : Tryd.prog.types.size = 160 := by kernel_rfl
theorem flt_star : "*" ++ "errors.errorString" = "*errors.errorString" := by decide
theorem flt_ptr (u : TypeId) (h : Tryd.prog.typeName? 3 u = some "*errors.errorString") : u = 126 :=
  typeName_ptr_named (nm := "errors.errorString") (by rw [flt_star]; kernel_rfl) (by kernel_rfl) (by decide) u (by rw [flt_star]; exact h)
theorem flt_cE : Tryd.prog.cellsOf 148 = 1 := by kernel_rfl
theorem flt_cS : Tryd.prog.cellsOf 9 = 1 := by kernel_rfl
theorem flt_g0 : Tryd.prog.globalNamed "loop.example/g00167/impl.errNotGood" = some 0 := by kernel_rfl
theorem flt_t0 : (Tryd.prog.globals[0]?).map (·.type) = some 53 := by kernel_rfl
theorem flt_g1 : Tryd.prog.globalNamed "loop.example/g00167/impl.errTwice" = some 1 := by kernel_rfl
theorem flt_t1 : (Tryd.prog.globals[1]?).map (·.type) = some 53 := by kernel_rfl
theorem flt_g2 : Tryd.prog.globalNamed "loop.example/g00167/impl.errNoWork" = some 3 := by kernel_rfl
theorem flt_t2 : (Tryd.prog.globals[3]?).map (·.type) = some 53 := by kernel_rfl
theorem flt_g3 : Tryd.prog.globalNamed "loop.example/g00167/impl.errFull" = some 2 := by kernel_rfl
theorem flt_t3 : (Tryd.prog.globals[2]?).map (·.type) = some 53 := by kernel_rfl
abbrev fltL : List (String × DataW Unit) := [("errors.errorType", Rows.laid_errors_errorType), ("loop.example/g00167/impl.errNotGood", Rows.laid_loop_example_g00167_impl_errNotGood), ("loop.example/g00167/impl.errTwice", Rows.laid_loop_example_g00167_impl_errTwice), ("loop.example/g00167/impl.errNoWork", Rows.laid_loop_example_g00167_impl_errNoWork), ("loop.example/g00167/impl.errFull", Rows.laid_loop_example_g00167_impl_errFull)]

/-- The type's handle, as the row lists it. -/
theorem flt_handle {W : World} (h : laidMetH Tryd.prog fltL W) : W.cell? ⟨4, 0, none⟩ = some (.iface 109 (typ 53)) := by
  have h' : laidMet Tryd.prog [("loop.example/g00167/impl.errNotGood", Rows.laid_loop_example_g00167_impl_errNotGood), ("loop.example/g00167/impl.errTwice", Rows.laid_loop_example_g00167_impl_errTwice), ("loop.example/g00167/impl.errNoWork", Rows.laid_loop_example_g00167_impl_errNoWork), ("loop.example/g00167/impl.errFull", Rows.laid_loop_example_g00167_impl_errFull)] W ∧ handlesMet Tryd.prog [("errors.errorType", Rows.laid_errors_errorType)] W := h
  obtain ⟨name, u, ty, e1, e2, e3, e4, e5⟩ := h'.2 _ (List.mem_singleton.2 rfl)
  have en : name = [101, 114, 114, 111, 114] := (Option.some.inj e1).symm
  subst en
  obtain rfl := Option.some.inj (flt_rt.symm.trans e2)
  have hm : ty ∈ (List.range 160).filter fun t => Tryd.prog.rowNamed t [101, 114, 114, 111, 114] := List.mem_filter.2 ⟨List.mem_range.2 (by rw [← flt_size]; exact e3), e4⟩
  rw [flt_row] at hm
  obtain rfl := List.mem_singleton.1 hm
  have hh : typeHandle Tryd.prog 53 = .pointer (some ⟨5, 53, none⟩) := by kernel_rfl
  rw [hh] at e5
  simpa using World.var?_cell flt_gT e5 0
theorem flt_ne {W : World} {a b : Addr} {s t : ByteArray} (ha : W.cell? a = some (.string s)) (hb : W.cell? b = some (.string t)) (h : s.data.toList ≠ t.data.toList) : a ≠ b := fun e => by
  subst e
  rw [ha] at hb
  cases hb
  exact h rfl
/-- Where the faults lie. -/
theorem era_of {W : World} (h : laidMetH Tryd.prog fltL W) : ∃ p0 p1 p2 p3, ErA W p0 p1 p2 p3 := by
  have hT := flt_handle h
  have h' : laidMet Tryd.prog [("loop.example/g00167/impl.errNotGood", Rows.laid_loop_example_g00167_impl_errNotGood), ("loop.example/g00167/impl.errTwice", Rows.laid_loop_example_g00167_impl_errTwice), ("loop.example/g00167/impl.errNoWork", Rows.laid_loop_example_g00167_impl_errNoWork), ("loop.example/g00167/impl.errFull", Rows.laid_loop_example_g00167_impl_errFull)] W ∧ handlesMet Tryd.prog [("errors.errorType", Rows.laid_errors_errorType)] W := h
  obtain ⟨a0, a1, s0, s1, c0, c1, t0, t1, hv0, hv1, hc0, hs0, _, hc1, hs1, _, hne, hb0, hb1⟩ := laid_sentinels2 h'.1 flt_g0 flt_t0 flt_g1 flt_t1 Tryd.underlying53 flt_ptr Tryd.underlying126 Tryd.underlying148 rfl rfl Tryd.underlying9 flt_cE flt_cS
  obtain ⟨a2, a3, s2, s3, c2, c3, t2, t3, hv2, hv3, hc2, hs2, _, hc3, hs3, _, hne', hb2, hb3⟩ := laid_sentinels2 h'.1.tail.tail flt_g2 flt_t2 flt_g3 flt_t3 Tryd.underlying53 flt_ptr Tryd.underlying126 Tryd.underlying148 rfl rfl Tryd.underlying9 flt_cE flt_cS
  refine ⟨a0, a1, a3, a2, ⟨by simpa using World.var?_cell flt_g0 hv0 0, by simpa using World.var?_cell flt_g1 hv1 0, by simpa using World.var?_cell flt_g3 hv3 0, by simpa using World.var?_cell flt_g2 hv2 0, hT, ⟨_, _, hb0⟩, ⟨_, _, hb1⟩, ⟨_, _, hb3⟩, ⟨_, _, hb2⟩, hne, ?_, ?_, ?_, ?_, hne'.symm⟩⟩
  · exact flt_ne hc0 hc3 (by rw [hs0, hs3]; decide)
  · exact flt_ne hc0 hc2 (by rw [hs0, hs2]; decide)
  · exact flt_ne hc1 hc3 (by rw [hs1, hs3]; decide)
  · exact flt_ne hc1 hc2 (by rw [hs1, hs2]; decide)

noncomputable def fltLow : Nat := (World.holding Tryd.prog default ⟨#[], #[], []⟩).heap.size
abbrev fltS0 : ByteArray := { data := #[119, 104, 97, 116, 32, 119, 97, 115, 32, 104, 97, 110, 100, 101, 100, 32, 105, 110, 32, 105, 115, 32, 110, 111, 116, 32, 103, 111, 111, 100] }
abbrev fltS1 : ByteArray := { data := #[116, 104, 101, 32, 119, 111, 114, 107, 32, 105, 115, 32, 116, 104, 101, 114, 101, 32, 97, 110, 100, 32, 108, 105, 118, 101] }
abbrev fltS2 : ByteArray := { data := #[110, 111, 32, 115, 117, 99, 104, 32, 119, 111, 114, 107, 32, 105, 115, 32, 108, 105, 118, 101] }
abbrev fltS3 : ByteArray := { data := #[110, 111, 32, 109, 111, 114, 101, 32, 102, 105, 116] }
/-- A world for the witness. -/
noncomputable def fltWorld (os : Os) : World :=
  let w0 := World.holding Tryd.prog os ⟨#[.cells #[.string fltS0] 148, .cells #[.string fltS1] 148, .cells #[.string fltS2] 148, .cells #[.string fltS3] 148], #[], []⟩
  { w0 with heap := (((((w0.heap.modify 0 fun
      | .cells _ t frozen => .cells #[eV ⟨fltLow, 0, none⟩] t frozen
      | o => o).modify 1 fun
      | .cells _ t frozen => .cells #[eV ⟨fltLow + 1, 0, none⟩] t frozen
      | o => o).modify 3 fun
      | .cells _ t frozen => .cells #[eV ⟨fltLow + 2, 0, none⟩] t frozen
      | o => o).modify 2 fun
      | .cells _ t frozen => .cells #[eV ⟨fltLow + 3, 0, none⟩] t frozen
      | o => o).modify 4 fun
      | .cells _ t frozen => .cells #[.iface 109 (typ 53)] t frozen
      | o => o) }
theorem flt_met (os : Os) (args : Array Value) : laidMetH Tryd.prog fltL ((fltWorld os).forCall (fun _ _ => 0) ⟨#[], args, []⟩).memory :=
  laidMetH_of_parts (laidMet_of_run (ps := [.cell 0 0, .cell (fltLow) 0, .cell 1 0, .cell (fltLow + 1) 0, .cell 3 0, .cell (fltLow + 2) 0, .cell 2 0, .cell (fltLow + 3) 0]) 8 (by kernel_rfl) (by kernel_rfl) (by kernel_rfl)) (by kernel_rfl)

end Go.Proofs.YtfchmhcnejifhaaDoor
