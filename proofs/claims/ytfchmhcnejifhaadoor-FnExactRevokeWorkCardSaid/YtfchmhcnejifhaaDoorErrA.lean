/-
  Chapter 4: faults by their kind: errors.As, for a refusal, at a sentinel and at a refusal.
-/
import Derived.Test.YtfchmhcnejifhaaDoorErrI
namespace Go.Proofs.YtfchmhcnejifhaaDoor
open Go.RowKit Go.Extern.Stop Go.Stop Go.Extern

/-- The value that reflectlite makes of a pointer to a refusal. -/
abbrev tgV (a : Addr) : Value := .agg #[.pointer (some ⟨5, 77, none⟩), .pointer (some a), .int .u64 150]
abbrev typ (t : TypeId) : Value := .agg #[.pointer (some ⟨5, t, none⟩)]
theorem Tryd.asValueOf (t : Addr) (w : World) : (ReflectliteValue.unpack (.iface 77 (.pointer (some t)))).run Tryd.prog w = .ok (tgV ⟨w.heap.size, 0, none⟩) (w.alloc (.cells #[.pointer (some t)] 77)) := by kernel_rfl
theorem Tryd.asType (a : Addr) (w : World) : (extE Tryd.f68 #[tgV a]).run Tryd.prog w = .ok (.iface 109 (typ 77)) w := by kernel_rfl
theorem Tryd.asMethodKind (h : Value) (w : World) : (Go.method 260 109 (.agg #[h]) "Kind").run Tryd.prog w = .ok (97, h) w := by kernel_rfl
theorem Tryd.asMethodElem (h : Value) (w : World) : (Go.method 260 109 (.agg #[h]) "Elem").run Tryd.prog w = .ok (108, .agg #[h]) w := by kernel_rfl
theorem Tryd.asMethodImplements (h : Value) (w : World) : (Go.method 260 109 (.agg #[h]) "Implements").run Tryd.prog w = .ok (109, .agg #[h]) w := by kernel_rfl
theorem Tryd.asMethodAssignable (h : Value) (w : World) : (Go.method 260 109 (.agg #[h]) "AssignableTo").run Tryd.prog w = .ok (106, .agg #[h]) w := by kernel_rfl
theorem Tryd.asKindP (w : World) : (extE Tryd.f97 #[.pointer (some ⟨5, 77, none⟩)]).run Tryd.prog w = .ok (.int .u8 22) w := by kernel_rfl
theorem Tryd.asKindR (w : World) : (extE Tryd.f97 #[.pointer (some ⟨5, 75, none⟩)]).run Tryd.prog w = .ok (.int .u8 25) w := by kernel_rfl
theorem Tryd.asElem (w : World) : (extE Tryd.f108 #[typ 77]).run Tryd.prog w = .ok (.iface 109 (typ 75)) w := by kernel_rfl
theorem Tryd.asImplements (w : World) : (extE Tryd.f109 #[typ 75, .iface 109 (typ 53)]).run Tryd.prog w = .ok (.bool true) w := by kernel_rfl
theorem Tryd.asTypeOfR (v : Value) (w : World) : (extE Tryd.f71 #[.iface 75 v]).run Tryd.prog w = .ok (.iface 109 (typ 75)) w := by kernel_rfl
theorem Tryd.asTypeOfE (v : Value) (w : World) : (extE Tryd.f71 #[.iface 126 v]).run Tryd.prog w = .ok (.iface 109 (typ 126)) w := by kernel_rfl
theorem Tryd.asAssignR (w : World) : (extE Tryd.f106 #[typ 75, .iface 109 (typ 75)]).run Tryd.prog w = .ok (.bool true) w := by kernel_rfl
theorem Tryd.asAssignE (w : World) : (extE Tryd.f106 #[typ 126, .iface 109 (typ 75)]).run Tryd.prog w = .ok (.bool false) w := by kernel_rfl
theorem Tryd.asValueOfR (x : Value) (w : World) : (ReflectliteValue.unpack (.iface 75 (.agg #[x]))).run Tryd.prog w = .ok (.agg #[.pointer (some ⟨5, 75, none⟩), .pointer (some ⟨w.heap.size, 0, none⟩), .int .u64 153]) (w.alloc (.cells #[x] 75)) := by kernel_rfl
theorem Tryd.noAsE (v : Value) (xT : TypeId) (w : World) : (Instr.typeAssert (.iface 126 v) xT 113 true).run Tryd.prog w = .ok (.tuple #[.nilIface, .bool false]) w := run_typeAssert_lacksB Tryd.underlying113 (by kernel_rfl) (by kernel_rfl) v xT w

theorem rl_method (z : Sem Value) (f : TypeId → Addr → Nat → Nat → Sem Value) (v : Value) :
    ReflectliteValue.method z f #[v] = (ReflectliteValue.parts v >>= fun o => match o with | none => z | some (t, a, fl) => f t a fl (fl % 32)) := rfl
theorem Tryd.asParts (a : Addr) (w : World) : (ReflectliteValue.parts (tgV a)).run Tryd.prog w = .ok (some (77, a, 150)) w := by kernel_rfl
theorem Tryd.asIsNil (a p : Addr) (W : World) (ha : W.cell? a = some (.pointer (some p))) :
    (ReflectliteValue.method (ReflectliteValue.valueError "reflectlite.Value.IsNil" 0) ReflectliteValue.isNil #[tgV a]).run Tryd.prog W = .ok (.bool false) W := by
  rw [rl_method]
  simp only [Sem.run_bind, Tryd.asParts, Result.andThen]
  simp [ReflectliteValue.isNil, loadVar, isAgg, underlying, Tryd.underlying77, ha, Result.andThen]
theorem Tryd.asElemOf (w : World) : (Rtype.elem? 77).run Tryd.prog w = .ok (some 75) w := by kernel_rfl
theorem Tryd.asMk (p : Addr) (w : World) : (ReflectliteValue.mk 75 p ReflectliteValue.flagAddr).run Tryd.prog w = .ok (.agg #[.pointer (some ⟨5, 75, none⟩), .pointer (some p), .int .u64 409]) w := by kernel_rfl
theorem Tryd.asElemV (a p : Addr) (W : World) (ha : W.cell? a = some (.pointer (some p))) :
    (ReflectliteValue.method (ReflectliteValue.valueError "reflectlite.Value.Elem" 0) ReflectliteValue.elem #[tgV a]).run Tryd.prog W
      = .ok (.agg #[.pointer (some ⟨5, 75, none⟩), .pointer (some p), .int .u64 409]) W := by
  rw [rl_method]
  simp only [Sem.run_bind, Tryd.asParts, Result.andThen]
  simp [ReflectliteValue.elem, loadVar, isAgg, underlying, Tryd.underlying77, ha, Result.andThen, Tryd.asElemOf, Tryd.asMk]
theorem Tryd.asPartsA (a : Addr) (w : World) : (ReflectliteValue.parts (.agg #[.pointer (some ⟨5, 75, none⟩), .pointer (some a), .int .u64 409])).run Tryd.prog w = .ok (some (75, a, 409)) w := by kernel_rfl
theorem Tryd.asPartsB (a : Addr) (w : World) : (ReflectliteValue.parts (.agg #[.pointer (some ⟨5, 75, none⟩), .pointer (some a), .int .u64 153])).run Tryd.prog w = .ok (some (75, a, 153)) w := by kernel_rfl
theorem Tryd.asDirect (w : World) : (Rtype.directlyAssignable 75 75).run Tryd.prog w = .ok true w := by kernel_rfl
theorem Tryd.asSize (w : World) : (sizeOf 75).run Tryd.prog w = .ok 1 w := by kernel_rfl
theorem Tryd.asSet (ta b : Addr) (x old : Value) (W : World) (hx : x.oneCell' = true) (hb : W.cell? b = some x) (ht : W.cell? ta = some old) (hf : W.frozen? ta = false) :
    (ReflectliteValue.set #[.agg #[.pointer (some ⟨5, 75, none⟩), .pointer (some ta), .int .u64 409], .agg #[.pointer (some ⟨5, 75, none⟩), .pointer (some b), .int .u64 153]]).run Tryd.prog W
      = .ok (.tuple #[]) (W.setCell ta x) := by
  have hA := Tryd.asPartsA ta W
  have hB := Tryd.asPartsB b W
  generalize (.agg #[.pointer (some ⟨5, 75, none⟩), .pointer (some ta), .int .u64 409] : Value) = v at *
  generalize (.agg #[.pointer (some ⟨5, 75, none⟩), .pointer (some b), .int .u64 153] : Value) = u at *
  change Sem.run Tryd.prog (ReflectliteValue.parts v >>= _) W = _
  rw [Sem.run_bind, hA]
  simp only [Result.andThen]
  change Sem.run Tryd.prog (ReflectliteValue.parts u >>= _) W = _
  rw [Sem.run_bind, hB]
  simp [ReflectliteValue.flagAddr, loadVar, isAgg, underlying, Tryd.underlying75, Result.andThen, Tryd.asDirect, storeVar, Value.cells]
  rw [show (1 : Nat) = [x].length from rfl, run_loadCells_list W b [x] (fun j y hj => by
    obtain rfl : j = 0 := by have := (List.getElem?_eq_some_iff.1 hj).1; simpa using this
    simp at hj
    subst hj
    simpa [Addr.add] using hb)]
  simp [storeCells]
  rw [show ta.add 0 = ta from rfl, run_store Tryd.prog W ta x _ (by cases x <;> first | rfl | cases hx)]
  simp [ht, hf]

end Go.Proofs.YtfchmhcnejifhaaDoor
