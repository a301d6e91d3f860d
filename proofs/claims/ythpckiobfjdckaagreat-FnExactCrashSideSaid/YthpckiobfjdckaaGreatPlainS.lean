/-
  The program's sort of rules by their texts: what it compares, the copy, and the sort.
-/
import Derived.Test.YthpckiobfjdckaaGreatShelf
import Derived.Test.YthpckiobfjdckaaGreatImplT
import Derived.Test.YthpckiobfjdckaaGreatPlainM
import Derived.Test.YthpckiobfjdckaaGreatMarkS
namespace Go.Proofs.YthpckiobfjdckaaGreat
open Go.RowKit Go.Shelf Go.Sort

theorem stringsCompare_any (a b : ByteArray) (w : World) :
    Calls Tryz.prog 75 #[.string a, .string b] w fun e w' => e = .returned (.int .i64 (Lib.compareBytes a.data.toList b.data.toList)) ∧ w' = w := Any.strings_Compare Tryz.lays106 a b w

set_option maxHeartbeats 2000000 in
set_option maxRecDepth 100000 in
theorem plainCmp_any (x y : Ru) (w : World) (hx : x.size ≤ 1048576) (hy : y.size ≤ 1048576) :
    Calls Tryz.prog 74 #[x.val, y.val] w fun e w' => e = .returned (.int .i64 (Lib.compareBytes x.text.data.toList y.text.data.toList)) ∧ Below w.heap.size w w' ∧ w.drawn ≤ w'.drawn := by
  have x0 : ((w.alloc (.cells #[.bool x.deny, .string x.who, .string x.method, .string x.path] 63)).alloc (.cells #[.bool y.deny, .string y.who, .string y.method, .string y.path] 63)).cell? ⟨w.heap.size, 0, none⟩ = some (.bool x.deny) := by simp
  have x1 : ((w.alloc (.cells #[.bool x.deny, .string x.who, .string x.method, .string x.path] 63)).alloc (.cells #[.bool y.deny, .string y.who, .string y.method, .string y.path] 63)).cell? ⟨w.heap.size, 1, none⟩ = some (.string x.who) := by simp
  have x2 : ((w.alloc (.cells #[.bool x.deny, .string x.who, .string x.method, .string x.path] 63)).alloc (.cells #[.bool y.deny, .string y.who, .string y.method, .string y.path] 63)).cell? ⟨w.heap.size, 2, none⟩ = some (.string x.method) := by simp
  have x3 : ((w.alloc (.cells #[.bool x.deny, .string x.who, .string x.method, .string x.path] 63)).alloc (.cells #[.bool y.deny, .string y.who, .string y.method, .string y.path] 63)).cell? ⟨w.heap.size, 3, none⟩ = some (.string x.path) := by simp
  have y0 : ((w.alloc (.cells #[.bool x.deny, .string x.who, .string x.method, .string x.path] 63)).alloc (.cells #[.bool y.deny, .string y.who, .string y.method, .string y.path] 63)).cell? ⟨w.heap.size + 1, 0, none⟩ = some (.bool y.deny) := by simp
  have y1 : ((w.alloc (.cells #[.bool x.deny, .string x.who, .string x.method, .string x.path] 63)).alloc (.cells #[.bool y.deny, .string y.who, .string y.method, .string y.path] 63)).cell? ⟨w.heap.size + 1, 1, none⟩ = some (.string y.who) := by simp
  have y2 : ((w.alloc (.cells #[.bool x.deny, .string x.who, .string x.method, .string x.path] 63)).alloc (.cells #[.bool y.deny, .string y.who, .string y.method, .string y.path] 63)).cell? ⟨w.heap.size + 1, 2, none⟩ = some (.string y.method) := by simp
  have y3 : ((w.alloc (.cells #[.bool x.deny, .string x.who, .string x.method, .string x.path] 63)).alloc (.cells #[.bool y.deny, .string y.who, .string y.method, .string y.path] 63)).cell? ⟨w.heap.size + 1, 3, none⟩ = some (.string y.path) := by simp
  have hBa : Below w.heap.size w ((w.alloc (.cells #[.bool x.deny, .string x.who, .string x.method, .string x.path] 63)).alloc (.cells #[.bool y.deny, .string y.who, .string y.method, .string y.path] 63)) := ((Below.refl _ w).alloc (Nat.le_refl _) _).alloc (by simp) _
  have HD := hid (show ((w.alloc (.cells #[.bool x.deny, .string x.who, .string x.method, .string x.path] 63)).alloc (.cells #[.bool y.deny, .string y.who, .string y.method, .string y.path] 63)).drawn = w.drawn from rfl)
  have hzx : w.heap.size < ((w.alloc (.cells #[.bool x.deny, .string x.who, .string x.method, .string x.path] 63)).alloc (.cells #[.bool y.deny, .string y.who, .string y.method, .string y.path] 63)).heap.size := by simp; omega
  have hzy : w.heap.size + 1 < ((w.alloc (.cells #[.bool x.deny, .string x.who, .string x.method, .string x.path] 63)).alloc (.cells #[.bool y.deny, .string y.who, .string y.method, .string y.path] 63)).heap.size := by simp
  have hM1 : True := trivial
  go_enter Tryz.func74, Tryz.ntmps74
  go_wp2_with fail
  generalize ((w.alloc (.cells #[.bool x.deny, .string x.who, .string x.method, .string x.path] 63)).alloc (.cells #[.bool y.deny, .string y.who, .string y.method, .string y.path] 63)) = W at *
  go_region_held3 (fun w' => w'.cell? ⟨w.heap.size, 0, none⟩ = some (.bool x.deny) ∧ w'.cell? ⟨w.heap.size, 1, none⟩ = some (.string x.who) ∧ w'.cell? ⟨w.heap.size, 2, none⟩ = some (.string x.method) ∧ w'.cell? ⟨w.heap.size, 3, none⟩ = some (.string x.path) ∧ w'.cell? ⟨w.heap.size + 1, 0, none⟩ = some (.bool y.deny) ∧ w'.cell? ⟨w.heap.size + 1, 1, none⟩ = some (.string y.who) ∧ w'.cell? ⟨w.heap.size + 1, 2, none⟩ = some (.string y.method) ∧ w'.cell? ⟨w.heap.size + 1, 3, none⟩ = some (.string y.path)) (go_keep) (first | (go_at_call 76; clear hM1; refine (textOfRule_any x _ hx).mono ?_; rintro e w1 ⟨rfl, hB1, hd1⟩; have x0_1 := (hB1.cell (p := ⟨w.heap.size, 0, none⟩) (by exact hzx)).trans (by exact x0); have x1_1 := (hB1.cell (p := ⟨w.heap.size, 1, none⟩) (by exact hzx)).trans (by exact x1); have x2_1 := (hB1.cell (p := ⟨w.heap.size, 2, none⟩) (by exact hzx)).trans (by exact x2); have x3_1 := (hB1.cell (p := ⟨w.heap.size, 3, none⟩) (by exact hzx)).trans (by exact x3); have y0_1 := (hB1.cell (p := ⟨w.heap.size + 1, 0, none⟩) (by exact hzy)).trans (by exact y0); have y1_1 := (hB1.cell (p := ⟨w.heap.size + 1, 1, none⟩) (by exact hzy)).trans (by exact y1); have y2_1 := (hB1.cell (p := ⟨w.heap.size + 1, 2, none⟩) (by exact hzy)).trans (by exact y2); have y3_1 := (hB1.cell (p := ⟨w.heap.size + 1, 3, none⟩) (by exact hzy)).trans (by exact y3); have hzx1 := Nat.lt_of_lt_of_le hzx hB1.size; have hzy1 := Nat.lt_of_lt_of_le hzy hB1.size) | (go_at_call 76; refine (textOfRule_any y _ hy).mono ?_; rintro e w2 ⟨rfl, hB2, hd2⟩; have x0_2 := (hB2.cell (p := ⟨w.heap.size, 0, none⟩) (by exact hzx1)).trans (by exact x0_1); have x1_2 := (hB2.cell (p := ⟨w.heap.size, 1, none⟩) (by exact hzx1)).trans (by exact x1_1); have x2_2 := (hB2.cell (p := ⟨w.heap.size, 2, none⟩) (by exact hzx1)).trans (by exact x2_1); have x3_2 := (hB2.cell (p := ⟨w.heap.size, 3, none⟩) (by exact hzx1)).trans (by exact x3_1); have y0_2 := (hB2.cell (p := ⟨w.heap.size + 1, 0, none⟩) (by exact hzy1)).trans (by exact y0_1); have y1_2 := (hB2.cell (p := ⟨w.heap.size + 1, 1, none⟩) (by exact hzy1)).trans (by exact y1_1); have y2_2 := (hB2.cell (p := ⟨w.heap.size + 1, 2, none⟩) (by exact hzy1)).trans (by exact y2_1); have y3_2 := (hB2.cell (p := ⟨w.heap.size + 1, 3, none⟩) (by exact hzy1)).trans (by exact y3_1)) | (go_at_call 75; refine (stringsCompare_any x.text y.text _).mono ?_; rintro e w3 ⟨rfl, rfl⟩))
  all_goals go_wp2
  all_goals go_ret
  all_goals exact ⟨rfl, below_one (below_one hBa (below_drew1 hB1)) hB2, by have h0 := HD.out; have h1 : W.drawn + 1 ≤ w1.drawn := hd1; omega⟩

/-- Memory that was only made, and draws: in the sort's words. -/
theorem grow_of {W w' : World} (hB : Below W.heap.size W w') (hd : W.drawn ≤ w'.drawn) : ∃ q os', w' = grow (W.drewN q) os' := by
  refine ⟨w'.drawn - W.drawn, w'.heap.extract W.heap.size w'.heap.size, ?_⟩
  have hh : w'.heap = W.heap ++ w'.heap.extract W.heap.size w'.heap.size := by
    apply Array.ext_getElem?
    intro k
    by_cases hk : k < W.heap.size
    · rw [Array.getElem?_append_left hk, hB.block k hk]
    · rw [Array.getElem?_append_right (by omega), Array.getElem?_extract]
      by_cases h2 : k < w'.heap.size
      · rw [if_pos (by omega)]
        congr 1
        omega
      · rw [if_neg (by omega), Array.getElem?_eq_none (by omega)]
  have h1 := hB.os
  have h2 := hB.tape
  have h3 := hB.output
  obtain ⟨hp, tp, dr, os, out⟩ := w'
  obtain ⟨hp0, tp0, dr0, os0, out0⟩ := W
  simp only at h1 h2 h3 hd hh
  simp only [grow, World.drewN]
  rw [← hh, h1, h2, h3, Nat.add_sub_cancel' hd]

/-- A rule whose text can be laid. -/
abbrev SmR := {r : Ru // r.size ≤ 1048576}
instance : Inhabited SmR := ⟨⟨⟨false, ⟨#[]⟩, ⟨#[]⟩, ⟨#[]⟩⟩, by decide⟩⟩
def encR (x : SmR) : List Value := x.1.cells
def cmpR (x y : SmR) : Int := Lib.compareBytes x.1.text.data.toList y.1.text.data.toList
theorem ltOf_cmpR (x y : SmR) : ltOf cmpR x y = ltR x.1 y.1 := by
  unfold ltOf cmpR ltR
  exact bl_cmp _ _
theorem swoR : SWO (ltOf cmpR) where
  irrefl := fun x => by rw [ltOf_cmpR]; exact bl_irrefl _
  trans := fun x y z h1 h2 => by rw [ltOf_cmpR] at *; exact bl_trans _ _ _ h1 h2
  ntrans := fun x y z h1 h2 => by rw [ltOf_cmpR] at *; exact bl_ntrans h1 h2
theorem cmpLaysR (blk off size : Nat) (w : World) : CmpLays Tryz.prog 74 #[] encR 4 cmpR blk off size w := by
  intro m os dk _ x y
  refine (plainCmp_any x.1 y.1 _ x.2 y.2).mono ?_
  rintro e w' ⟨rfl, hB, hd⟩
  exact ⟨rfl, grow_of hB hd⟩
theorem flat_get (l : List SmR) (t : Nat) (h : t < l.length * 4) : some (flatK encR 4 l.toArray)[t]! = ((l.map Subtype.val).flatMap Ru.cells)[t]? := by
  have h1 : t / 4 < l.length := by omega
  rw [get_flatK encR 4 _ t (by simpa using h)]
  have h2 := flat_at (l.map Subtype.val) (t / 4) (t % 4) (by simpa using h1) (by omega)
  rw [show t / 4 * 4 + t % 4 = t by omega] at h2
  rw [h2]
  have h3 : l.toArray[t / 4]! = l[t / 4] := by rw [getElem!_pos _ _ (by simpa using h1)]; simp
  rw [h3]
  simp only [List.getElem_map, encR]
  have h4 : t % 4 < 4 := by omega
  rw [getElem!_pos _ _ (by simpa using h4), List.getElem?_eq_getElem (by simpa using h4)]

theorem eg1 : ∀ args w, (callFunc 74 args).run Tryz.prog w = .ok (.enter 74 args) w := enters_of Tryz.func74 (by kernel_rfl) rfl

set_option maxHeartbeats 1000000 in
theorem sortRules_any (base g cap : Nat) (l : List SmR) (w : World) (hn : l.length ≤ 1048577) (hrow : w.ownsRow base 63 4 (.slice (some ⟨g, 0, none⟩) l.length cap) l.length ((l.map Subtype.val).flatMap Ru.cells)) :
    Calls Tryz.prog 73 #[.slice (some ⟨g, 0, none⟩) l.length cap, .func (.func 74) #[] #[]] w fun e w' => e = .returned (.tuple #[]) ∧ ∃ ds : List SmR, ds.Perm l ∧ (∀ i j (_ : i < j) (hj : j < ds.length), ltR ds[j].1 ds[i].1 = false) ∧ w'.ownsRow base 63 4 (.slice (some ⟨g, 0, none⟩) l.length cap) l.length ((ds.map Subtype.val).flatMap Ru.cells) ∧ w.grownBy w' (some g) := by
  rcases hrow.2 with ⟨h, _⟩ | ⟨g', cap', cur, h, hbase, hb, h1, h2, h3, h4⟩
  · cases h
  · simp only [Value.slice.injEq, Option.some.injEq, Addr.mk.injEq, and_true, true_and] at h
    obtain ⟨rfl, rfl⟩ := h
    have hH : HoldsK encR 4 w g 0 l.toArray := by
      intro j hj
      have hj' : j < l.length * 4 := by simpa using hj
      refine ⟨?_, by simp [World.frozen?, hb]⟩
      have := hrow.cellAt j (by omega)
      rw [Nat.zero_add, this, ← flat_get l j hj']
      rfl
    have hlt : g < w.heap.size := (Array.getElem?_eq_some_iff.1 hb).1
    have hcon := AnyQ.slices_SortFunc Tryz.sortRu 4 Tryz.isAgg63 Tryz.sizeOf63 encR (fun _ => rfl) (fun x v hv => by simp [encR] at hv; rcases hv with rfl | rfl | rfl | rfl <;> rfl) cmpR swoR 74 #[] g 0 cap l.toArray w eg1 (cmpLaysR g 0 _ w) hH hlt (by simp; omega)
    refine Calls.mono hcon ?_
    rintro e w' ⟨rfl, d', n, os, hp, hs, rfl⟩
    have hsz : d'.size = l.length := by simpa using hp.1
    have hperm : d'.toList.Perm l := by
      have := hp.2.2
      rw [show (d'.extract 0 l.toArray.size) = d' by rw [show l.toArray.size = d'.size by simp [hsz]]; simp] at this
      simpa using this
    refine ⟨rfl, d'.toList, hperm, ?_, ?_, ?_⟩
    · intro i j hi hj
      have hj' : j < d'.size := by simpa using hj
      have := hs i j (Nat.zero_le _) hi (by simp; omega)
      rw [ltOf_cmpR, getElem!_pos d' j hj', getElem!_pos d' i (by omega)] at this
      simpa using this
    · have hl' : d'.toList.length = l.length := by simpa using hsz
      refine ⟨by rw [flat_len]; simp [hsz], .inr ⟨g, cap, putCells id 0 (flatK encR 4 d') cur, rfl, hbase, ?_, h1, h2, by simp [putCells, h3], ?_⟩⟩
      · show (grow (putRow id (Sort.ahead w n) g 0 (flatK encR 4 d')) os).heap[g]? = _
        rw [heap_grow_old _ _ (by simpa using hlt)]
        simp [putRow, mapBlock, Sort.ahead, Array.getElem?_modify, hb, onCells]
      · apply List.ext_getElem?
        intro j
        by_cases hj : j < l.length * 4
        · have hjc : j < cur.size := by omega
          rw [List.getElem?_take_of_lt hj, Array.getElem?_toList, ← flat_get d'.toList j (by omega)]
          simp [putCells, hjc, hsz, hj]
        · rw [List.getElem?_take_eq_none (by omega), List.getElem?_eq_none (by rw [flat_len]; simp [hsz]; omega)]
    · refine ⟨rfl, rfl, rfl, ?_, fun k hk hne => ?_⟩
      · show w.heap.size ≤ (grow (putRow id (Sort.ahead w n) g 0 (flatK encR 4 d')) os).heap.size
        simp [putRow, mapBlock, Sort.ahead]
      · show (grow (putRow id (Sort.ahead w n) g 0 (flatK encR 4 d')) os).heap[k]? = _
        rw [heap_grow_old _ _ (by simpa using hk)]
        have : g ≠ k := fun e => hne (by rw [e])
        simp [putRow, mapBlock, Sort.ahead, Array.getElem?_modify, this]

end Go.Proofs.YthpckiobfjdckaaGreat
