/-
  How a slice of bytes that comes in is read.
-/
import Derived.WalkKit
import Derived.ProofKit
import Derived.OpenShut
import Derived.ChangeSlices
import Derived.SizedLaws
import Derived.Test.YtepoamekeackkaaDoorCur
namespace Go.Proofs.YtepoamekeackkaaDoor
open Go.ChangeShapes Go.WideShapes Go.ChangeAt Go.RowKit

theorem u8_wf {x : Int} (h : (Lit.int .u8 x).wf = true) : ∃ k : Nat, k < 256 ∧ x = k := by
  have e1 : IntKind.u8.min = 0 := by decide
  have e2 : IntKind.u8.max = 255 := by decide
  simp [Lit.wf, e1, e2] at h
  exact ⟨x.toNat, by omega, by omega⟩

set_option maxRecDepth 100000 in
theorem openBy {H : Type} {enc : TypeId × Value → H} {W : World} {base : Nat} {v : Value} {d : DataW H} {p : List MemPlace} (hv : Value.okWide Tryd.prog W .any base 22 v) (h : DataW.Trod enc Tryd.prog W 0 (fun _ => true) true 22 v d p) :
    ∃ a n c, v = .slice a n c ∧ n ≤ c ∧ n ≤ maxLen ∧ (n ≤ 1048576 → ByS W a n) ∧ (∀ q, a = some q → q.block < W.heap.size) ∧ ((d = .nil ∧ n = 0) ∨ ∃ el sp, d = .slice el sp ∧ el.length + sp.length = c) := by
  obtain ⟨a, n, c, rfl⟩ := okWide_slice Tryd.underlying22 hv
  obtain ⟨fuel, hf⟩ := h
  rcases open_ints Tryd.underlying22 Tryd.underlying5 (by kernel_rfl) hf with ⟨hcs, hd⟩ | ⟨x, len, cap, zs, hcs, _, hl, hm, hz, hd, hcell, hwf⟩
  · simp [Value.cells] at hcs
    obtain ⟨rfl, rfl, rfl⟩ := hcs
    exact ⟨none, 0, 0, rfl, Nat.le_refl _, Nat.zero_le _, fun _ => ⟨by omega, fun i hi => by omega⟩, fun q hq => (by cases hq), .inl ⟨by simpa using (Prod.mk.inj hd).1, rfl⟩⟩
  · simp [Value.cells] at hcs
    obtain ⟨rfl, rfl, rfl⟩ := hcs
    have hzs : zs.length = c := hz
    have hhas : W.has Tryd.prog .any base x 5 c := by
      simp only [Value.okWide, Tryd.underlying22, Cell.okWide, Cell.ok] at hv
      exact hv.2.2
    obtain ⟨_, hs, row, cells, hsh, _⟩ := hhas
    obtain ⟨blk, off, spot⟩ := x
    obtain rfl : spot = none := hs
    refine ⟨_, n, c, rfl, hl, by omega, fun hn => ⟨hn, fun i hi => ?_⟩, fun q hq => ?_, .inr ⟨_, _, (Prod.mk.inj hd).1, by simp [lits]; omega⟩⟩
    · have h1 := hcell i (by omega)
      rw [Addr.add_lit] at h1
      obtain ⟨k, hk, hx⟩ := u8_wf (hwf (zs.getD i 0) (by rw [List.getD_eq_getElem?_getD, List.getElem?_eq_getElem (by omega)]; exact List.getElem_mem _))
      rw [hx] at h1
      exact ⟨blk, off, k, rfl, hk, h1⟩
    · cases hq
      by_cases hb : blk < W.heap.size
      · exact hb
      · simp only [World.shape?] at hsh
        rw [Array.getElem?_eq_none (by omega)] at hsh
        cases hsh

set_option maxRecDepth 100000 in
/-- No slice of bytes is longer than the machine's memory. -/
theorem reachBy {H : Type} {ts : List TypeId} {ds : List (DataW H)} {j n c : Nat} {d : DataW H} (h : (DataW.weightsEach Tryd.prog ts ds).all (· ≤ reachBytes) = true) (ht : ts[j]? = some 22) (hd : ds[j]? = some d) (hle : n ≤ c) (hs : (d = .nil ∧ n = 0) ∨ ∃ el sp, d = .slice el sp ∧ el.length + sp.length = c) : n ≤ 140737488351232 := by
  rcases hs with ⟨_, rfl⟩ | ⟨el, sp, rfl, hc⟩
  · omega
  · have h1 := sized_slice h ht hd Tryd.underlying22
    have h2 : Tryd.prog.bytesOf 5 = 1 := by kernel_rfl
    rw [h2] at h1
    unfold reachBytes at h1
    omega

end Go.Proofs.YtepoamekeackkaaDoor
