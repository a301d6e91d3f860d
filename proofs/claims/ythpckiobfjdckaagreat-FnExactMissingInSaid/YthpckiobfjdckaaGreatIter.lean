/-
  Chapter 1's iterator over the pieces of a text, and what is collected by it: the words of a name or of a path (or of their patterns).
-/
import Derived.Test.YthpckiobfjdckaaGreatLeaf
import Derived.Test.YthpckiobfjdckaaGreatMathB
namespace Go.Proofs.YthpckiobfjdckaaGreat
open Go.RowKit Go.Shelf
attribute [local go_sem] Oper.semAt_some

/-- What a round keeps for the iterator: its captured text's box. -/
def KeepsAt (B : Nat) (W W' : World) : Prop := W'.heap[B]? = W.heap[B]?
theorem keepsAt_t {Bn : Nat} {A B C : World} (h : KeepsAt Bn A B) (k : KeepsAt Bn B C) : KeepsAt Bn A C := Eq.trans k h

set_option maxHeartbeats 1000000 in
theorem pieces_in (F : Fence) (n : Nat) (hf : F.fn 143) (hro : F.round = none) (s : ByteArray) (w : World) :
    CallsIn F n Tryz.prog 143 #[.string s] w fun e w' => e = .returned (.func (.func 147) #[] #[.pointer (some ⟨w.heap.size, 0, none⟩)]) ∧ w' = w.alloc (.cells #[.string s] 9) := by
  refine callsIn_of_wp Tryz.func143 rfl hf ?_ hro
  simp only [Tryz.ntmps143, List.size_toArray, List.length_cons, List.length_nil, Nat.reduceAdd, Nat.reduceSub, Array.replicate_succ, Array.replicate_zero, List.push_toArray, List.append_toArray, List.nil_append, List.cons_append]
  gi_wp2
  go_ret
  exact ⟨rfl, rfl⟩

set_option maxRecDepth 100000 in
set_option maxHeartbeats 1000000 in
theorem pieces1_in (F : Fence) (n : Nat) (hf : F.fn 147) (hro : F.round = none) (hn : 1 ≤ n) (l Bn : Nat) (s : ByteArray) (hs : s.size ≤ 1048576) (J Jx : List ByteArray → World → Prop)
    (hY : ∀ pre x W, J pre W → pre.length < (split s 47).length → YieldAt F (n - 1) Tryz.prog l #[.string x] W fun e W' =>
      (e = .returned (.bool true) ∧ J (pre ++ [x]) W' ∧ KeepsAt Bn W W') ∨ (e = .returned (.bool false) ∧ Jx (pre ++ [x]) W'))
    (W : World) (hBn : Boxed W Bn 9 (.string s)) (h0 : J [] W) :
    CallsIn F n Tryz.prog 147 #[.func (.yield l) #[] #[], .pointer (some ⟨Bn, 0, none⟩)] W fun e W' => (∃ v, e = .returned v) ∧
      ((∃ ys, ys = split s 47 ∧ J ys W') ∨ (∃ pre, pre <+: split s 47 ∧ Jx pre W')) := by
  refine callsIn_of_wp Tryz.func147 rfl hf ?_ hro
  simp only [Tryz.ntmps147, List.size_toArray, List.length_cons, List.length_nil, Nat.reduceAdd, Nat.reduceSub, Array.replicate_succ, Array.replicate_zero, List.push_toArray, List.append_toArray, List.nil_append, List.cons_append]
  gi_wp2
  gi_loopw [3, 4] (fun fr i wr => ∃ k : Nat, k ≤ s.size ∧ i = .int .i64 k ∧ fr = .int .i64 (spA s 47 k) ∧ J (spL s 47 k) wr ∧ Boxed wr Bn 9 (.string s)) (fun _ i _ => s.size - (intOf i).toNat)
  case atStart => exact ⟨0, Nat.zero_le _, rfl, rfl, h0, hBn⟩
  case round =>
    obtain ⟨k, hk, rfl, rfl, hJ, hbox⟩ := hrel
    have hcell := hbox.cell
    have hA := spA_le s 47 k
    by_cases hlt : k < s.size
    · by_cases hc : (s[k].toNat : Int) = 47
      · have e2 : ((s[k].toNat : Int) != 47) = false := by simp [hc]
        have HC : Hid (s[k] = 47) := byte_eq (b := 47) hc
        clear hc
        obtain ⟨fn, tmps, assign, body, hy, hR⟩ := hY _ (s.extract (spA s 47 k) k) wr hJ (spL_lt_hit s 47 k hlt HC.out)
        gi_wp2
        refine hR.mono ?_
        rintro e W3 (⟨rfl, hJ3, hk3⟩ | ⟨rfl, hJx3⟩)
        · gi_wp2
          go_roundw
          case rel =>
            refine ⟨k + 1, by omega, by go_num, ?_, ?_, Eq.trans hk3 hbox⟩
            · rw [spA_hit s 47 k hlt HC.out]; go_num
            · rw [spL_hit s 47 k hlt HC.out]; exact hJ3
          case measure => simp [intOf]; omega
        · gi_wp2
          refine bodyPost_ret (results_none rfl _ _ _) rfl ?_
          exact ⟨⟨_, rfl⟩, .inr ⟨_, by rw [← spL_hit s 47 k hlt HC.out]; exact spL_split s 47 (k + 1) (by omega), hJx3⟩⟩
      · have e2 : ((s[k].toNat : Int) != 47) = true := by simpa using hc
        have HC : Hid (s[k] ≠ 47) := byte_ne (b := 47) hc
        clear hc
        gi_wp2
        go_roundw
        case rel =>
          refine ⟨k + 1, by omega, by go_num, ?_, ?_, hbox⟩
          · rw [spA_miss s 47 k hlt HC.out]
          · rw [spL_miss s 47 k hlt HC.out]; exact hJ
        case measure => simp [intOf]; omega
    · obtain rfl : k = s.size := by omega
      obtain ⟨fn, tmps, assign, body, hy, hR⟩ := hY _ (s.extract (spA s 47 s.size) s.size) wr hJ (spL_lt_end s 47)
      gi_wp2
      refine hR.mono ?_
      rintro e W3 (⟨rfl, hJ3, hk3⟩ | ⟨rfl, hJx3⟩)
      · gi_wp2
        go_end0
        exact ⟨⟨_, rfl⟩, .inl ⟨_, rfl, by rw [split_end]; exact hJ3⟩⟩
      · gi_wp2
        go_end0
        exact ⟨⟨_, rfl⟩, .inr ⟨_, by rw [split_end]; exact List.prefix_refl _, hJx3⟩⟩

theorem pieces_stops (F : Fence) (n : Nat) (hf : F.fn 147) (hro : F.round = none) (hn : 1 ≤ n) (Bn : Nat) (s : ByteArray) (hs : s.size ≤ 1048576) (w : World) (hc : Boxed w Bn 9 (.string s)) :
    SeqStopsK F n Tryz.prog 147 #[.pointer (some ⟨Bn, 0, none⟩)] (fun x : ByteArray => #[Value.string x]) (KeepsAt Bn) (fun ys => ys = split s 47) (fun pre => pre <+: split s 47) (split s 47).length w := fun l J Jx W hW _ _ hY h0 =>
  pieces1_in F n hf hro hn l Bn s hs J Jx hY W ((hW.block Bn hc.lt).trans hc) h0

set_option maxHeartbeats 400000 in
theorem wordOrStar_any (s : ByteArray) (w : World) :
    Calls Tryz.prog 144 #[.string s] w fun e w' => e = .returned (.bool (wsB s)) ∧ w' = w := by
  by_cases h : starB s = true
  · have h1 : (s.toList == [42]) = true := h
    have HW : Hid (wsB s = true) := by unfold wsB; rw [h]; rfl
    clear h
    go_enter Tryz.func144, Tryz.ntmps144
    go_wp2
    go_ret
    exact ⟨ret_bool HW.out.symm, rfl⟩
  · have h1 : (s.toList == [42]) = false := by simpa [starB] using h
    have HW : Hid (wsB s = wordB s) := by unfold wsB; simp at h; rw [h]; rfl
    clear h
    go_enter Tryz.func144, Tryz.ntmps144
    go_wp2_with (go_at_call 148; refine (plainWord_any _ _).mono ?_; rintro e w' ⟨rfl, rfl⟩)
    go_ret
    exact ⟨ret_bool HW.out.symm, rfl⟩

/-- What owns a row of n is a slice of length n. -/
theorem ownsRow_len {W : World} {base : Nat} {e : TypeId} {size : Nat} {v : Value} {k : Nat} {xs : List Value} (h : W.ownsRow base e size v k xs) : ∃ a cap, v = .slice a k cap := by
  rcases h.2 with ⟨rfl, rfl⟩ | ⟨g, cap, _, rfl, _⟩
  · exact ⟨none, 0, rfl⟩
  · exact ⟨_, cap, rfl⟩
/-- What owns a row owns it where nothing old has turned. -/
theorem ownsRow_below {w w' : World} {base : Nat} {e : TypeId} {size : Nat} {v : Value} {k : Nat} {xs : List Value} (h : w.ownsRow base e size v k xs) (hB : Below w.heap.size w w') : w'.ownsRow base e size v k xs := by
  refine ⟨h.1, ?_⟩
  rcases h.2 with h0 | ⟨g, cap, cur, hv, hg, hb, r⟩
  · exact .inl h0
  · exact .inr ⟨g, cap, cur, hv, hg, (hB.block g (Array.getElem?_eq_some_iff.1 hb).1).trans hb, r⟩
theorem ownsRow_base {W : World} {base base' : Nat} {e : TypeId} {size : Nat} {v : Value} {k : Nat} {xs : List Value} (h : W.ownsRow base e size v k xs) (hb : base' ≤ base) : W.ownsRow base' e size v k xs := by
  refine ⟨h.1, ?_⟩
  rcases h.2 with h0 | ⟨g, cap, cur, hv, hg, r⟩
  · exact .inl h0
  · exact .inr ⟨g, cap, cur, hv, Nat.le_trans hb hg, r⟩
theorem ownsRow_low {W : World} {base : Nat} {e : TypeId} {size : Nat} {v : Value} {k B : Nat} {xs : List Value} (h : W.ownsRow base e size v k xs) (hB : B < base) : some B ≠ v.ownBlock := by
  rcases h.2 with ⟨rfl, _⟩ | ⟨g, cap, cur, rfl, hg, _⟩
  · simp [Value.ownBlock]
  · simp [Value.ownBlock]; omega
/-- 'out = append(out, x)': out's box lies at B below the row: behind the store. -/
theorem boxed_appended {W w1 : World} {n₁ B : Nat} {t e : TypeId} {size : Nat} {v v' : Value} {k m : Nat} {xs ys : List Value} {tmp : Obj}
    (hv : Boxed W B t v) (hB : B < n₁) (hn₁ : n₁ ≤ W.heap.size) (hrow : W.ownsRow n₁ e size v k xs) (hown' : w1.ownsRow n₁ e size v' m ys) (hgrow : (W.alloc tmp).grownBy w1 v.ownBlock) :
    Boxed w1 B t v ∧ Boxed (w1.setCell ⟨B, 0, none⟩ v') B t v' ∧ (w1.setCell ⟨B, 0, none⟩ v').ownsRow n₁ e size v' m ys ∧ KeepsOthers W (w1.setCell ⟨B, 0, none⟩ v') ∧ Below B W (w1.setCell ⟨B, 0, none⟩ v') ∧
      (∀ j, j < n₁ → j ≠ B → (w1.setCell ⟨B, 0, none⟩ v').heap[j]? = W.heap[j]?) := by
  have hv1 : Boxed w1 B t v := (hv.alloc tmp).kept hgrow (ownsRow_low hrow hB)
  have hbl := below_appended hn₁ hrow hgrow
  refine ⟨hv1, hv1.set v', hown'.kept (grownBy_setCell' w1 B v') (.inr (ownsRow_low hown' hB).symm), ?_, ?_, ?_⟩
  · refine ((KeepsOthers.alloc W tmp).trans (KeepsOthers.of_grownBy hgrow fun j o ej hj => ?_)).trans (KeepsOthers.setCell _ _ _)
    rcases (hrow.alloc tmp).2 with ⟨rfl, _⟩ | ⟨g, cap, cur, rfl, _, hgb, _⟩
    · simp [Value.ownBlock] at ej
    · obtain rfl : g = j := by simpa [Value.ownBlock] using ej
      rw [hgb] at hj; cases hj; rfl
  · exact (hbl.mono (Nat.le_of_lt hB)).setCell (p := ⟨B, 0, none⟩) (Nat.le_refl _) v'
  · intro j hj hne
    exact (Below.heap_setCell _ _ _ j hne).trans (hbl.block j hj)

set_option maxRecDepth 100000 in
set_option maxHeartbeats 2000000 in
theorem wordsOfName_any (s : ByteArray) (w : World) (hs : s.size ≤ 1048576) :
    Calls Tryz.prog 132 #[.string s] w fun e W' => ∃ v, e = .returned (.tuple #[v, .bool (nmB (split s 47))]) ∧ W'.ownsRow w.heap.size 9 1 v (nmL (split s 47)).length ((nmL (split s 47)).map Value.string) ∧ Below w.heap.size w W' := by
  obtain ⟨i0, hi, hz0, hz1, hz2⟩ := info_parts infoStr
  refine (callsIn_wide (n := 3)).1 ?_
  refine callsIn_of_wp_marks Tryz.func132 rfl trivial ?_ rfl
  simp only [Tryz.ntmps132, List.size_toArray, List.length_cons, List.length_nil, Nat.reduceAdd, Nat.reduceSub, Array.replicate_succ, Array.replicate_zero, List.push_toArray, List.append_toArray, List.nil_append, List.cons_append]
  gi_wp2_with (refine ⟨trivial, ?_⟩; gi_at_call 143; refine (pieces_in Fence.wide _ trivial rfl _ _).mono ?_; rintro e w' ⟨rfl, rfl⟩)
  have b0 := Boxed.new w 139 (.slice none 0 0)
  have b1 := Boxed.new (w.alloc (.cells #[.slice none 0 0] 139)) 4 (.bool false)
  have b2 := Boxed.new ((w.alloc (.cells #[.slice none 0 0] 139)).alloc (.cells #[.bool false] 4)) 139 (.slice none 0 0)
  have b3 := Boxed.new (((w.alloc (.cells #[.slice none 0 0] 139)).alloc (.cells #[.bool false] 4)).alloc (.cells #[.slice none 0 0] 139)) 9 (.string s)
  simp only [World.size_alloc] at b1 b2 b3
  have hB0 : Below w.heap.size w ((((w.alloc (.cells #[.slice none 0 0] 139)).alloc (.cells #[.bool false] 4)).alloc (.cells #[.slice none 0 0] 139)).alloc (.cells #[.string s] 9)) := ((((Below.refl _ w).alloc (Nat.le_refl _) _).alloc (by simp) _).alloc (by simp; omega) _).alloc (by simp; omega) _
  refine wpIn_rangeFunc_ownG rfl (by omega) (gf := 147) (lb := #[.pointer (some ⟨w.heap.size + 1 + 1 + 1, 0, none⟩)]) rfl trivial (enters_of Tryz.func147 (by kernel_rfl) rfl)
    (pieces_stops Fence.wide _ trivial rfl (by omega) (w.heap.size + 1 + 1 + 1) s hs _ b3) keepsAt_t (fun W l o o' hl h _ _ => World.putObj_heap_other (by simp at hl; omega)) (Below.refl _ _) (fun _ => rfl)
    (fun pre W => (∃ v, Boxed W (w.heap.size + 1 + 1) 139 v ∧ W.ownsRow (w.heap.size + 1 + 1 + 1 + 1) 9 1 v pre.length (pre.map Value.string) ∧ True) ∧ (Boxed W w.heap.size 139 (.slice none 0 0) ∧ Boxed W (w.heap.size + 1) 4 (.bool false) ∧ Boxed W (w.heap.size + 1 + 1 + 1) 9 (.string s)) ∧ (nmSt pre = some pre.length) ∧ Below w.heap.size w W)
    (fun c pre W => (c = .ret ∧ nmSt pre = none) ∧ (Boxed W w.heap.size 139 (.slice none 0 0) ∧ Boxed W (w.heap.size + 1) 4 (.bool false)) ∧ Below w.heap.size w W)
    (OwnFrom.and (Own.from (holdsRow_own (w.heap.size + 1 + 1 + 1 + 1) (w.heap.size + 1 + 1) 139 9 1 (fun pre : List ByteArray => pre.length) (fun pre => pre.map Value.string) (fun _ _ => True)) _) (OwnFrom.and (OwnFrom.and (Own.from (boxed_own _ _ (fun _ => _)) _) (OwnFrom.and (Own.from (boxed_own _ _ (fun _ => _)) _) (Own.from (boxed_own _ _ (fun _ => _)) _))) (OwnFrom.and (ownFrom_pure _ _) (ownFrom_below (Nat.le_refl _) (by simp; omega)))))
    (fun c => OwnFrom.and (ownFrom_pure _ _) (OwnFrom.and (OwnFrom.and (Own.from (boxed_own _ _ (fun _ => _)) _) (Own.from (boxed_own _ _ (fun _ => _)) _)) (ownFrom_below (Nat.le_refl _) (by simp; omega))))
    ⟨⟨_, b2.alloc _, World.ownsRow_nil _ _ _ _, trivial⟩, ⟨((b0.alloc _).alloc _).alloc _, (b1.alloc _).alloc _, b3⟩, nmSt_nil, hB0⟩
    (fun x => { tmps := #[.string s, undef, .pointer (some ⟨w.heap.size, 0, none⟩), .pointer (some ⟨w.heap.size + 1, 0, none⟩), .pointer (some ⟨w.heap.size + 1 + 1, 0, none⟩), .string x, .string s, .func (.func 147) #[] #[.pointer (some ⟨w.heap.size + 1 + 1 + 1, 0, none⟩)], .string x, undef, undef, undef, undef, undef, undef, undef, undef, undef, undef, undef, undef, undef, undef, undef, undef], defers := [] }) ?assign ?body ?done ?stop
  case assign =>
    intro l x W K hK
    gi_wp2
    exact hK
  case body =>
    rintro l pre x W ⟨⟨v, hv, hrow, _⟩, ⟨r0, r1, rs⟩, hst, hB⟩ hlt
    obtain ⟨a, cap, rfl⟩ := ownsRow_len hrow
    have hle := nmSt_le hst
    have HST : Hid (nmSt pre = some pre.length) := hst
    have hcv := hv.cell
    have hc0 := r0.cell
    have hc1 := r1.cell
    have hf0 := r0.frozen
    have hf1 := r1.frozen
    have hsz := hB.size
    have hlt1 := rs.lt
    clear hst
    by_cases h2 : pre.length = 2
    · have e1 : ((pre.length : Int) == 2) = true := by simp; omega
      have HN : Hid (nmSt (pre ++ [x]) = none) := nmSt_full x HST.out h2
      clear h2
      gi_wp2
      refine ⟨trivial, ?_⟩
      gi_wp2
      exact ⟨((KeepsOthers.setCell _ _ _).trans (KeepsOthers.setCell _ _ _)).from _, ⟨rfl, HN.out⟩, ⟨(r0.set _).other (by omega) _, (r1.other (by omega) _).set _⟩, (hB.setCell (p := ⟨w.heap.size, 0, none⟩) (Nat.le_refl _) _).setCell (p := ⟨w.heap.size + 1, 0, none⟩) (by simp) _⟩
    · have e1 : ((pre.length : Int) == 2) = false := by simp; omega
      by_cases hx : wsB x = true
      · have HN : Hid (nmSt (pre ++ [x]) = some (pre ++ [x]).length) := nmSt_good x HST.out h2 hx
        clear h2
        gi_wp2_with (first | (refine ⟨trivial, ?_⟩; gi_at_call 144; refine (CallsIn.inRound l (callsIn_wide.2 (wordOrStar_any x _))).mono ?_; rintro e w' ⟨rfl, rfl⟩) | (gi_at_builtin; refine wpListIn_append_own _ rfl _ _ 139 rfl (w.heap.size + 1 + 1 + 1 + 1) 9 i0 (.string ByteArray.empty) 1 16 Tryz.underlying139 hi hz0 hz1 hz2 rfl (by decide) _ _ _ rfl (hrow.alloc _) ⟨_, 0, none⟩ 1 1 [.string x] rfl rfl (cell_one_new _ _ _) (by simp [Value.oneCell']) (by simp [maxLen]; omega) (by omega) (by simp; omega) ?_; intro v' w1 hown' hgrow _; obtain ⟨g', cap', rfl⟩ := ownsRow_succ hown'; obtain ⟨hv1, hv2, hr2, hk2, hb2, ho2⟩ := boxed_appended hv (by omega) (by omega) hrow hown' hgrow; have hcv1 := hv1.cell; have hfv1 := hv1.frozen))
        refine ⟨hk2.from _, ho2 _ (by omega) (by omega), ⟨_, hv2, by simpa using hr2, trivial⟩, ⟨?_, ?_, ?_⟩, HN.out, hB.trans (hb2.mono (by omega))⟩
        · exact (ho2 _ (by omega) (by omega)).trans r0
        · exact (ho2 _ (by omega) (by omega)).trans r1
        · exact (ho2 _ (by omega) (by omega)).trans rs
      · have hx' : wsB x = false := by simpa using hx
        have HN : Hid (nmSt (pre ++ [x]) = none) := nmSt_bad x HST.out hx'
        clear h2 hx
        gi_wp2_with (refine ⟨trivial, ?_⟩; gi_at_call 144; refine (CallsIn.inRound l (callsIn_wide.2 (wordOrStar_any x _))).mono ?_; rintro e w' ⟨rfl, rfl⟩)
        exact ⟨((KeepsOthers.setCell _ _ _).trans (KeepsOthers.setCell _ _ _)).from _, ⟨rfl, HN.out⟩, ⟨(r0.set _).other (by omega) _, (r1.other (by omega) _).set _⟩, (hB.setCell (p := ⟨w.heap.size, 0, none⟩) (Nat.le_refl _) _).setCell (p := ⟨w.heap.size + 1, 0, none⟩) (by simp) _⟩
  case done =>
    rintro D ys W hD hys ⟨⟨v, hv, hrow, _⟩, ⟨r0, r1, rs⟩, hst, hB⟩ hK
    subst hys
    obtain ⟨a, cap, rfl⟩ := ownsRow_len hrow
    have HNB : Hid (nmB (split s 47) = decide ((split s 47).length = 2)) := nmB_some hst
    have hcv := hv.cell
    have hc0 := r0.cell
    have hc1 := r1.cell
    have hf0 := r0.frozen
    have hf1 := r1.frozen
    clear hst
    by_cases h2 : (split s 47).length = 2
    · have e1 : (((split s 47).length : Int) != 2) = false := by simp; omega
      have HN : Hid (nmB (split s 47) = true) := by rw [HNB.out]; exact decide_eq_true h2
      clear h2
      gi_wp2
      have hKX : ((W.setCell ⟨w.heap.size, 0, none⟩ (.slice a (split s 47).length cap)).setCell ⟨w.heap.size + 1, 0, none⟩ (.bool true)).heap[D]? = some (.deferred (some [])) := (KeepsOthers.setCell _ _ _).same D _ ((KeepsOthers.setCell _ _ _).same D _ hK rfl) rfl
      have hc5 := cell_kept ((r0.set (.slice a (split s 47).length cap)).other (B' := w.heap.size + 1) (by omega) (.bool true)).cell (grownBy_putObj' _ D (.deferred none)) (fun r e => by cases e; exact ⟨_, hKX, rfl⟩)
      have hc6 := cell_kept ((r1.other (B' := w.heap.size) (by omega) (.slice a (split s 47).length cap)).set (.bool true)).cell (grownBy_putObj' _ D (.deferred none)) (fun r e => by cases e; exact ⟨_, hKX, rfl⟩)
      refine ⟨by simp, .inl ⟨_, _, rfl, run_takeDeferred hKX, ?_⟩⟩
      refine ⟨.tuple #[(.slice a (split s 47).length cap), .bool true], ?_, (.slice a (split s 47).length cap), by rw [HN.out], ?_, (((hB.setCell (p := ⟨w.heap.size, 0, none⟩) (Nat.le_refl _) _).setCell (p := ⟨w.heap.size + 1, 0, none⟩) (by simp) _).trans (belowK_b (w := w) (Nat.le_refl _) _ D _ _ (by simp at hD; omega) hKX rfl rfl))⟩
      · simp [results, Tryz.f132, go_sem, hc5, hc6]
      · rw [nmL_yes HN.out]; exact ownsRow_putObj (((ownsRow_base hrow (by omega)).kept (grownBy_setCell' _ _ _) (.inr (ownsRow_low hrow (by omega)).symm)).kept (grownBy_setCell' _ _ _) (.inr (ownsRow_low hrow (by omega)).symm)) _ hKX rfl
    · have e1 : (((split s 47).length : Int) != 2) = true := by simp; omega
      have HN : Hid (nmB (split s 47) = false) := by rw [HNB.out]; exact decide_eq_false h2
      clear h2
      gi_wp2
      have hKX : ((W.setCell ⟨w.heap.size, 0, none⟩ (.slice none 0 0)).setCell ⟨w.heap.size + 1, 0, none⟩ (.bool false)).heap[D]? = some (.deferred (some [])) := (KeepsOthers.setCell _ _ _).same D _ ((KeepsOthers.setCell _ _ _).same D _ hK rfl) rfl
      have hc5 := cell_kept ((r0.set (.slice none 0 0)).other (B' := w.heap.size + 1) (by omega) (.bool false)).cell (grownBy_putObj' _ D (.deferred none)) (fun r e => by cases e; exact ⟨_, hKX, rfl⟩)
      have hc6 := cell_kept ((r1.other (B' := w.heap.size) (by omega) (.slice none 0 0)).set (.bool false)).cell (grownBy_putObj' _ D (.deferred none)) (fun r e => by cases e; exact ⟨_, hKX, rfl⟩)
      refine ⟨by simp, .inl ⟨_, _, rfl, run_takeDeferred hKX, ?_⟩⟩
      refine ⟨.tuple #[(.slice none 0 0), .bool false], ?_, (.slice none 0 0), by rw [HN.out], ?_, (((hB.setCell (p := ⟨w.heap.size, 0, none⟩) (Nat.le_refl _) _).setCell (p := ⟨w.heap.size + 1, 0, none⟩) (by simp) _).trans (belowK_b (w := w) (Nat.le_refl _) _ D _ _ (by simp at hD; omega) hKX rfl rfl))⟩
      · simp [results, Tryz.f132, go_sem, hc5, hc6]
      · rw [nmL_no HN.out]; exact World.ownsRow_nil _ _ _ _
  case stop =>
    rintro D c pre W hD hpre ⟨⟨rfl, hst⟩, ⟨r0, r1⟩, hB⟩ hK
    have HN : Hid (nmB (split s 47) = false) := nmB_none (nmSt_pre hpre hst)
    clear hst
    gi_wp2
    have hKX : (W).heap[D]? = some (.deferred (some [])) := hK
    have hc5 := cell_kept (r0).cell (grownBy_putObj' _ D (.deferred none)) (fun r e => by cases e; exact ⟨_, hKX, rfl⟩)
    have hc6 := cell_kept (r1).cell (grownBy_putObj' _ D (.deferred none)) (fun r e => by cases e; exact ⟨_, hKX, rfl⟩)
    refine ⟨by simp, .inl ⟨_, _, rfl, run_takeDeferred hKX, ?_⟩⟩
    refine ⟨.tuple #[(.slice none 0 0), .bool false], ?_, (.slice none 0 0), by rw [HN.out], ?_, hB.trans (belowK_b (w := w) (Nat.le_refl _) W D _ _ (by simp at hD; omega) hKX rfl rfl)⟩
    · simp [results, Tryz.f132, go_sem, hc5, hc6]
    · rw [nmL_no HN.out]; exact World.ownsRow_nil _ _ _ _

end Go.Proofs.YthpckiobfjdckaaGreat
