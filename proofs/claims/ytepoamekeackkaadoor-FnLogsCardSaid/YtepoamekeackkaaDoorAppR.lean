/-
  An append of a list that can only be read onto a row of one's own; an empty row of one's own.
-/
import Derived.Laws.AppendOwn
import Derived.Laws.AppendOwnNone
import Derived.WalkKit
import Derived.Test.YtepoamekeackkaaDoorGen
namespace Go.Proofs.YtepoamekeackkaaDoor
open Go.RowKit Go.Shelf

/-- append(v, u...): a row of one's own, and one that can be read. -/
theorem wpList_append_rd {P : Program} {w : World} {ops : Array Oper} {rest : List Oper} {o : Oper} {a : Act} {Q : Exit → Act → World → Prop} (hgd : o.guard = none) (s x : Operand) (t : TypeId)
    (ho : o.op = .call { callee := .builtin .append, args := #[s, x], argTypes := #[t, t] })
    (base : Nat) (e : TypeId) (i : TypeInfo) (z : Value) (size bytes : Nat) (ht : P.underlying t = some (.slice e)) (hi : P.info? e = some i) (hz : i.zero = some z)
    (hsize : i.size = size) (hby : i.bytes = bytes) (hzs : z.cells.size = size) (hsz : 0 < size)
    (v u : Value) (n m : Nat) (xs ys : List Value) (hs : a.eval s = v) (hown : w.ownsRow base e size v n xs) (hx : a.eval x = u)
    (hsrc : (u = .slice none 0 0 ∧ m = 0 ∧ ys = []) ∨ ∃ b off cap, u = .slice (some ⟨b, off, none⟩) m cap ∧ ys.length = m * size ∧ ∀ j y, ys[j]? = some y → w.cell? ⟨b, off + j, none⟩ = some y) (h1 : ∀ y ∈ ys, y.oneCell' = true)
    (h63 : n + m ≤ maxLen) (hbytes : (n + m) * bytes ≤ 140737488355328) (hbase : base ≤ w.heap.size)
    (h : ∀ v' w', w'.ownsRow base e size v' (n + m) (xs ++ ys) → w.grownBy w' v.ownBlock → wpList P ops Q rest (a.put o.dst v') w') : wpList P ops Q (o :: rest) a w := by
  rcases hsrc with ⟨rfl, rfl, rfl⟩ | ⟨b, off, cap, rfl, hl, hc⟩
  · exact wpList_append_own_none hgd s x t ho base e i size ht hi v n xs hs hown hx (h v w (by simpa using hown) (grown_self _ _))
  · exact wpList_append_own _ hgd s x t ho base e i z size bytes ht hi hz hsize hby hzs hsz v n xs hs hown ⟨b, off, none⟩ m cap ys hx hl (fun j y hj => by rw [Addr.add_lit]; exact hc j y hj) h1 h63 hbytes hbase (fun v' w' h1 h2 _ => h v' w' h1 h2)
theorem row_void0 (w : World) (e : TypeId) (size n : Nat) {base : Nat} (hn : n = w.heap.size) (hb : base ≤ w.heap.size) : (w.alloc (.cells #[] e)).ownsRow base e size (.slice (some ⟨n, 0, none⟩) 0 0) 0 [] := by
  subst hn
  exact ⟨by simp, .inr ⟨w.heap.size, 0, #[], rfl, hb, by show (w.heap.push _)[w.heap.size]? = _; rw [Array.getElem?_push_size], Nat.le_refl _, by unfold maxLen; omega, by simp, by simp⟩⟩
/-- What was there stays behind an append onto a row of one's own. -/
theorem below_app {w W w2 : World} {n : Nat} {base : Nat} {e : TypeId} {size m : Nat} {v : Value} {xs : List Value} (h : Below n w W) (hown : W.ownsRow base e size v m xs) (hg : W.grownBy w2 v.ownBlock) (hb : n ≤ base) (hn : n ≤ W.heap.size) : Below n w w2 :=
  h.grown hg hn (fun k hk => Nat.le_trans hb (hown.lt k hk).1)

end Go.Proofs.YtepoamekeackkaaDoor
