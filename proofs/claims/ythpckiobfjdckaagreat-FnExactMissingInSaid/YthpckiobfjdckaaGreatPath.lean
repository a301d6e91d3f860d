/-
  Chapter 1's words of a path or a path pattern, by the iterator.
-/
import Derived.Test.YthpckiobfjdckaaGreatIter
namespace Go.Proofs.YthpckiobfjdckaaGreat
open Go.RowKit Go.Shelf
attribute [local go_sem] Oper.semAt_some

theorem cell_one_at (w : World) (x : Value) (t : TypeId) (n : Nat) (hn : n = w.heap.size) : ∀ j u, [x][j]? = some u → (w.alloc (.cells #[x] t)).cell? ((⟨n, 0, none⟩ : Addr).add j) = some u := by
  subst hn
  exact cell_one_new w x t

set_option maxRecDepth 100000 in
set_option maxHeartbeats 1000000 in
theorem wordsOfPath_slash (s : ByteArray) (w : World) (h : slashB s = true) :
    Calls Tryz.prog 133 #[.string s] w fun e W' => ∃ v, e = .returned (.tuple #[v, .bool (ptBs s)]) ∧ W'.ownsRow w.heap.size 9 1 v (ptLs s).length ((ptLs s).map Value.string) ∧ Below w.heap.size w W' := by
  have h1 : (s.toList == [47]) = true := h
  have hb : ptBs s = true := by rw [ptBs_some (pathPs_slash h)]; rfl
  have HL := hid (ptLs_yes hb (pathPs_slash h))
  have HB := hid hb
  clear hb h
  refine (callsIn_wide (n := 3)).1 ?_
  refine callsIn_of_wp_marks Tryz.func133 rfl trivial ?_ rfl
  simp only [Tryz.ntmps133, List.size_toArray, List.length_cons, List.length_nil, Nat.reduceAdd, Nat.reduceSub, Array.replicate_succ, Array.replicate_zero, List.push_toArray, List.append_toArray, List.nil_append, List.cons_append]
  gi_wp2
  refine ⟨.tuple #[.slice none 0 0, .bool true], ?_, .slice none 0 0, by rw [HB.out], ?_, ((Below.refl _ w).alloc (Nat.le_refl _) _).alloc (by simp) _⟩
  · simp [results, Tryz.f133, go_sem]
  · rw [HL.out]; exact World.ownsRow_nil _ _ _ _

set_option maxRecDepth 100000 in
set_option maxHeartbeats 1000000 in
theorem wordsOfPath_empty (s : ByteArray) (w : World) (h0 : s.size = 0) :
    Calls Tryz.prog 133 #[.string s] w fun e W' => ∃ v, e = .returned (.tuple #[v, .bool (ptBs s)]) ∧ W'.ownsRow w.heap.size 9 1 v (ptLs s).length ((ptLs s).map Value.string) ∧ Below w.heap.size w W' := by
  have h2 : s.toList.isEmpty = true := by rw [size_toList]; simp [h0]
  have h : slashB s = false := by
    have : s.toList = [] := List.isEmpty_iff.1 h2
    unfold slashB
    rw [this]
    rfl
  have h1 : (s.toList == [47]) = false := h
  have hb := ptBs_none (pathPs_none h (headB_empty h0))
  have HL := hid (ptLs_no hb)
  have HB := hid hb
  clear hb h h0
  refine (callsIn_wide (n := 3)).1 ?_
  refine callsIn_of_wp_marks Tryz.func133 rfl trivial ?_ rfl
  simp only [Tryz.ntmps133, List.size_toArray, List.length_cons, List.length_nil, Nat.reduceAdd, Nat.reduceSub, Array.replicate_succ, Array.replicate_zero, List.push_toArray, List.append_toArray, List.nil_append, List.cons_append]
  gi_wp2
  refine ⟨.tuple #[.slice none 0 0, .bool false], ?_, .slice none 0 0, by rw [HB.out], ?_, ((Below.refl _ w).alloc (Nat.le_refl _) _).alloc (by simp) _⟩
  · simp [results, Tryz.f133, go_sem]
  · rw [HL.out]; exact World.ownsRow_nil _ _ _ _

set_option maxRecDepth 100000 in
set_option maxHeartbeats 1000000 in
theorem wordsOfPath_other (s : ByteArray) (w : World) (h : slashB s = false) (h0 : 0 < s.size) (hb : s[0] ≠ 47) :
    Calls Tryz.prog 133 #[.string s] w fun e W' => ∃ v, e = .returned (.tuple #[v, .bool (ptBs s)]) ∧ W'.ownsRow w.heap.size 9 1 v (ptLs s).length ((ptLs s).map Value.string) ∧ Below w.heap.size w W' := by
  have h1 : (s.toList == [47]) = false := h
  have h2 : s.toList.isEmpty = false := by rw [size_toList]; exact decide_eq_false (by omega)
  have h3 : ((s[0].toNat : Int) != 47) = true := by
    rw [bne_iff_ne]
    exact fun e => hb (byte_eq (b := 47) e)
  have hb := ptBs_none (pathPs_none h (headB_not h0 hb))
  have HL := hid (ptLs_no hb)
  have HB := hid hb
  clear hb h
  refine (callsIn_wide (n := 3)).1 ?_
  refine callsIn_of_wp_marks Tryz.func133 rfl trivial ?_ rfl
  simp only [Tryz.ntmps133, List.size_toArray, List.length_cons, List.length_nil, Nat.reduceAdd, Nat.reduceSub, Array.replicate_succ, Array.replicate_zero, List.push_toArray, List.append_toArray, List.nil_append, List.cons_append]
  gi_wp2
  refine ⟨.tuple #[.slice none 0 0, .bool false], ?_, .slice none 0 0, by rw [HB.out], ?_, ((Below.refl _ w).alloc (Nat.le_refl _) _).alloc (by simp) _⟩
  · simp [results, Tryz.f133, go_sem]
  · rw [HL.out]; exact World.ownsRow_nil _ _ _ _

set_option maxRecDepth 100000 in
set_option maxHeartbeats 2000000 in
theorem wordsOfPath_head (s : ByteArray) (w : World) (hs : s.size ≤ 1048576) (h : slashB s = false) (h0 : 0 < s.size) (hb : s[0] = 47) :
    Calls Tryz.prog 133 #[.string s] w fun e W' => ∃ v, e = .returned (.tuple #[v, .bool (ptBs s)]) ∧ W'.ownsRow w.heap.size 9 1 v (ptLs s).length ((ptLs s).map Value.string) ∧ Below w.heap.size w W' := by
  obtain ⟨i0, hi, hz0, hz1, hz2⟩ := info_parts infoStr
  have h1 : (s.toList == [47]) = false := h
  have h2 : s.toList.isEmpty = false := by rw [size_toList]; exact decide_eq_false (by omega)
  have h3 : ((s[0].toNat : Int) != 47) = false := by simp [hb]
  have HP := hid (pathPs_head h (headB_at h0 hb))
  have ht : (s.extract 1 s.size).size ≤ 1048576 := Nat.le_trans (rest_size s) hs
  clear h hb
  refine (callsIn_wide (n := 3)).1 ?_
  refine callsIn_of_wp_marks Tryz.func133 rfl trivial ?_ rfl
  simp only [Tryz.ntmps133, List.size_toArray, List.length_cons, List.length_nil, Nat.reduceAdd, Nat.reduceSub, Array.replicate_succ, Array.replicate_zero, List.push_toArray, List.append_toArray, List.nil_append, List.cons_append]
  gi_wp2_with (refine ⟨trivial, ?_⟩; gi_at_call 143; refine (pieces_in Fence.wide _ trivial rfl _ _).mono ?_; rintro e w' ⟨rfl, rfl⟩)
  have b0 := Boxed.new w 139 (.slice none 0 0)
  have b1 := Boxed.new (w.alloc (.cells #[.slice none 0 0] 139)) 4 (.bool false)
  have b2 := Boxed.new ((w.alloc (.cells #[.slice none 0 0] 139)).alloc (.cells #[.bool false] 4)) 139 (.slice none 0 0)
  have b3 := Boxed.new (((w.alloc (.cells #[.slice none 0 0] 139)).alloc (.cells #[.bool false] 4)).alloc (.cells #[.slice none 0 0] 139)) 4 (.bool false)
  have b4 := Boxed.new ((((w.alloc (.cells #[.slice none 0 0] 139)).alloc (.cells #[.bool false] 4)).alloc (.cells #[.slice none 0 0] 139)).alloc (.cells #[.bool false] 4)) 9 (.string (s.extract 1 s.size))
  simp only [World.size_alloc] at b1 b2 b3 b4
  have hB0 : Below w.heap.size w (((((w.alloc (.cells #[.slice none 0 0] 139)).alloc (.cells #[.bool false] 4)).alloc (.cells #[.slice none 0 0] 139)).alloc (.cells #[.bool false] 4)).alloc (.cells #[.string (s.extract 1 s.size)] 9)) := (((((Below.refl _ w).alloc (Nat.le_refl _) _).alloc (by simp) _).alloc (by simp; omega) _).alloc (by simp; omega) _).alloc (by simp; omega) _
  refine wpIn_rangeFunc_ownG rfl (by omega) (gf := 147) (lb := #[.pointer (some ⟨w.heap.size + 1 + 1 + 1 + 1, 0, none⟩)]) rfl trivial (enters_of Tryz.func147 (by kernel_rfl) rfl)
    (pieces_stops Fence.wide _ trivial rfl (by omega) (w.heap.size + 1 + 1 + 1 + 1) (s.extract 1 s.size) ht _ b4) keepsAt_t (fun W l o o' hl h _ _ => World.putObj_heap_other (by simp at hl; omega)) (Below.refl _ _) (fun _ => rfl)
    (fun pre W => (∃ v, Boxed W (w.heap.size + 1 + 1) 139 v ∧ W.ownsRow (w.heap.size + 1 + 1 + 1 + 1 + 1) 9 1 v pre.length (pre.map Value.string) ∧ True) ∧ (Boxed W (w.heap.size) 139 (.slice none 0 0) ∧ Boxed W (w.heap.size + 1) 4 (.bool false) ∧ Boxed W (w.heap.size + 1 + 1 + 1) 4 (.bool (endB pre)) ∧ Boxed W (w.heap.size + 1 + 1 + 1 + 1) 9 (.string (s.extract 1 s.size))) ∧ (ptSt pre = some (pre.length, endB pre)) ∧ Below w.heap.size w W)
    (fun c pre W => (c = .ret ∧ ptSt pre = none) ∧ (Boxed W (w.heap.size) 139 (.slice none 0 0) ∧ Boxed W (w.heap.size + 1) 4 (.bool false)) ∧ Below w.heap.size w W)
    (OwnFrom.and (Own.from (holdsRow_own (w.heap.size + 1 + 1 + 1 + 1 + 1) (w.heap.size + 1 + 1) 139 9 1 (fun pre : List ByteArray => pre.length) (fun pre => pre.map Value.string) (fun _ _ => True)) _) (OwnFrom.and (OwnFrom.and (Own.from (boxed_own _ _ (fun _ => _)) _) (OwnFrom.and (Own.from (boxed_own _ _ (fun _ => _)) _) (OwnFrom.and (Own.from (boxed_own _ _ (fun pre : List ByteArray => .bool (endB pre))) _) (Own.from (boxed_own _ _ (fun _ => _)) _)))) (OwnFrom.and (ownFrom_pure _ _) (ownFrom_below (Nat.le_refl _) (by simp; omega)))))
    (fun c => OwnFrom.and (ownFrom_pure _ _) (OwnFrom.and (OwnFrom.and (Own.from (boxed_own _ _ (fun _ => _)) _) (Own.from (boxed_own _ _ (fun _ => _)) _)) (ownFrom_below (Nat.le_refl _) (by simp; omega))))
    ⟨⟨_, (b2.alloc _).alloc _, World.ownsRow_nil _ _ _ _, trivial⟩, ⟨(((b0.alloc _).alloc _).alloc _).alloc _, ((b1.alloc _).alloc _).alloc _, b3.alloc _, b4⟩, ptSt_nil, hB0⟩
    (fun x => { tmps := #[.string s, undef, .pointer (some ⟨w.heap.size, 0, none⟩), .pointer (some ⟨w.heap.size + 1, 0, none⟩), .pointer (some ⟨w.heap.size + 1 + 1, 0, none⟩), .pointer (some ⟨w.heap.size + 1 + 1 + 1, 0, none⟩), .string x, .string s, .bool false, .string s, .bool false, .bool false, .string s, .int .u8 (s[0].toNat : Int), .bool false, .bool false, .string s, .string (s.extract 1 s.size), .func (.func 147) #[] #[.pointer (some ⟨w.heap.size + 1 + 1 + 1 + 1, 0, none⟩)], .string x, undef, undef, undef, undef, undef, undef, undef, undef, undef, undef, undef, undef, undef, undef, undef, undef, undef, undef, undef, undef], defers := [] }) ?assign ?body ?done ?stop
  case assign =>
    intro l x W K hK
    gi_wp2
    exact hK
  case body =>
    rintro l pre x W ⟨⟨v, hv, hrow, _⟩, ⟨r0, r1, re, rs⟩, hst, hB⟩ hlt
    obtain ⟨a, cap, rfl⟩ := ownsRow_len hrow
    have hle := pt_le hst
    have HST := hid hst
    have hcv := hv.cell
    have hc0 := r0.cell
    have hc1 := r1.cell
    have hce := re.cell
    have hf0 := r0.frozen
    have hf1 := r1.frozen
    have hfe := re.frozen
    have hsz := hB.size
    have hlt1 := rs.lt
    clear hst b0 b1 b2 b3 b4 hB0 h1 h2 h3
    cases he : endB pre
    · by_cases h6 : pre.length = 6
      · have e1 : ((pre.length : Int) == 6) = true := by simp; omega
        have HN := hid (pt_full x HST.out h6)
        clear h6
        gi_wp2
        exact ⟨((KeepsOthers.setCell _ _ _).trans (KeepsOthers.setCell _ _ _)).from _, ⟨rfl, HN.out⟩, ⟨(r0.set _).other (by omega) _, (r1.other (by omega) _).set _⟩, (hB.setCell (p := ⟨w.heap.size, 0, none⟩) (Nat.le_refl _) _).setCell (p := ⟨w.heap.size + 1, 0, none⟩) (by simp) _⟩
      · have e1 : ((pre.length : Int) == 6) = false := by simp; omega
        cases h2 : star2B x
        · have e2 : (x.toList == [42, 42]) = false := h2
          cases hx : wsB x
          · have HN := hid (pt_bad x HST.out h2 hx)
            clear h6 h2
            gi_wp2_with (refine ⟨trivial, ?_⟩; gi_at_call 144; refine (CallsIn.inRound l (callsIn_wide.2 (wordOrStar_any x _))).mono ?_; rintro e w' ⟨rfl, rfl⟩)
            exact ⟨(((KeepsOthers.setCell _ _ _).trans (KeepsOthers.setCell _ _ _)).trans (KeepsOthers.setCell _ _ _)).from _, ⟨rfl, HN.out⟩, ⟨((r0.other (by omega) _).set _).other (by omega) _, ((r1.other (by omega) _).other (by omega) _).set _⟩, ((hB.setCell (p := ⟨w.heap.size + 1 + 1 + 1, 0, none⟩) (by simp; omega) _).setCell (p := ⟨w.heap.size, 0, none⟩) (Nat.le_refl _) _).setCell (p := ⟨w.heap.size + 1, 0, none⟩) (by simp) _⟩
          · have HN := hid (pt_on x HST.out he h6 h2 hx)
            clear h6 h2
            have hv' := hv.other (B' := w.heap.size + 1 + 1 + 1) (by omega) (.bool false)
            have hrow' := hrow.kept (grownBy_setCell' W (w.heap.size + 1 + 1 + 1) (.bool false)) (.inr (ownsRow_low hrow (by omega)).symm)
            have hsz' : w.heap.size + 1 + 1 + 1 + 1 + 1 ≤ (W.setCell ⟨w.heap.size + 1 + 1 + 1, 0, none⟩ (.bool false)).heap.size := by simp; omega
            have HE := hid (endB_of HN.out)
            gi_wp2_with (first | (refine ⟨trivial, ?_⟩; gi_at_call 144; refine (CallsIn.inRound l (callsIn_wide.2 (wordOrStar_any x _))).mono ?_; rintro e w' ⟨rfl, rfl⟩) | (gi_at_builtin; refine wpListIn_append_own _ rfl _ _ 139 rfl (w.heap.size + 1 + 1 + 1 + 1 + 1) 9 i0 (.string ByteArray.empty) 1 16 Tryz.underlying139 hi hz0 hz1 hz2 rfl (by decide) _ _ _ rfl (hrow'.alloc _) ⟨_, 0, none⟩ 1 1 [.string x] rfl rfl (cell_one_at _ _ _ _ (by simp)) (by simp [Value.oneCell']) (by simp [maxLen]; omega) (by omega) (by simp; omega) ?_; intro v' w1 hown' hgrow _; obtain ⟨g', cap', rfl⟩ := ownsRow_succ hown'; obtain ⟨hv1, hv2, hr2, hk2, hb2, ho2⟩ := boxed_appended hv' (by omega) hsz' hrow' hown' hgrow; have hcv1 := hv1.cell; have hfv1 := hv1.frozen))
            refine ⟨((KeepsOthers.setCell _ _ _).trans hk2).from _, (ho2 _ (by omega) (by omega)).trans (Below.heap_setCell _ _ _ _ (by simp)), ⟨_, hv2, by simpa using hr2, trivial⟩, ⟨?_, ?_, ?_, ?_⟩, by rw [HE.out]; exact HN.out, (hB.setCell (p := ⟨w.heap.size + 1 + 1 + 1, 0, none⟩) (by simp; omega) _).trans (hb2.mono (by omega))⟩
            · exact (ho2 _ (by omega) (by omega)).trans (r0.other (by omega) _)
            · exact (ho2 _ (by omega) (by omega)).trans (r1.other (by omega) _)
            · rw [HE.out]; exact (ho2 _ (by omega) (by omega)).trans (re.set _)
            · exact (ho2 _ (by omega) (by omega)).trans (rs.other (by omega) _)
        · have e2 : (x.toList == [42, 42]) = true := h2
          have HN := hid (pt_end x HST.out he h6 h2)
          clear h6 h2
          have hv' := hv.other (B' := w.heap.size + 1 + 1 + 1) (by omega) (.bool true)
          have hrow' := hrow.kept (grownBy_setCell' W (w.heap.size + 1 + 1 + 1) (.bool true)) (.inr (ownsRow_low hrow (by omega)).symm)
          have hsz' : w.heap.size + 1 + 1 + 1 + 1 + 1 ≤ (W.setCell ⟨w.heap.size + 1 + 1 + 1, 0, none⟩ (.bool true)).heap.size := by simp; omega
          have HE := hid (endB_of HN.out)
          gi_wp2_with fail
          refine ⟨trivial, ?_⟩
          gi_wp2_with (gi_at_builtin; refine wpListIn_append_own _ rfl _ _ 139 rfl (w.heap.size + 1 + 1 + 1 + 1 + 1) 9 i0 (.string ByteArray.empty) 1 16 Tryz.underlying139 hi hz0 hz1 hz2 rfl (by decide) _ _ _ rfl (hrow'.alloc _) ⟨_, 0, none⟩ 1 1 [.string x] rfl rfl (cell_one_at _ _ _ _ (by simp)) (by simp [Value.oneCell']) (by simp [maxLen]; omega) (by omega) (by simp; omega) ?_; intro v' w1 hown' hgrow _; obtain ⟨g', cap', rfl⟩ := ownsRow_succ hown'; obtain ⟨hv1, hv2, hr2, hk2, hb2, ho2⟩ := boxed_appended hv' (by omega) hsz' hrow' hown' hgrow; have hcv1 := hv1.cell; have hfv1 := hv1.frozen)
          refine ⟨((KeepsOthers.setCell _ _ _).trans hk2).from _, (ho2 _ (by omega) (by omega)).trans (Below.heap_setCell _ _ _ _ (by simp)), ⟨_, hv2, by simpa using hr2, trivial⟩, ⟨?_, ?_, ?_, ?_⟩, by rw [HE.out]; exact HN.out, (hB.setCell (p := ⟨w.heap.size + 1 + 1 + 1, 0, none⟩) (by simp; omega) _).trans (hb2.mono (by omega))⟩
          · exact (ho2 _ (by omega) (by omega)).trans (r0.other (by omega) _)
          · exact (ho2 _ (by omega) (by omega)).trans (r1.other (by omega) _)
          · rw [HE.out]; exact (ho2 _ (by omega) (by omega)).trans (re.set _)
          · exact (ho2 _ (by omega) (by omega)).trans (rs.other (by omega) _)
    · have HN := hid (pt_ended x HST.out he)
      gi_wp2
      exact ⟨((KeepsOthers.setCell _ _ _).trans (KeepsOthers.setCell _ _ _)).from _, ⟨rfl, HN.out⟩, ⟨(r0.set _).other (by omega) _, (r1.other (by omega) _).set _⟩, (hB.setCell (p := ⟨w.heap.size, 0, none⟩) (Nat.le_refl _) _).setCell (p := ⟨w.heap.size + 1, 0, none⟩) (by simp) _⟩
  case done =>
    rintro D ys W hD hys ⟨⟨v, hv, hrow, _⟩, ⟨r0, r1, re, rs⟩, hst, hB⟩ hK
    subst hys
    obtain ⟨a, cap, rfl⟩ := ownsRow_len hrow
    have hn : ptBs s = true := by rw [ptBs_some HP.out]; exact ptB_some hst
    have HL := hid (ptLs_yes hn HP.out)
    have HN := hid hn
    have hcv := hv.cell
    have hc0 := r0.cell
    have hc1 := r1.cell
    have hf0 := r0.frozen
    have hf1 := r1.frozen
    clear hst hn b0 b1 b2 b3 b4 hB0 h1 h2 h3
    gi_wp2
    have hKX : ((W.setCell ⟨w.heap.size, 0, none⟩ (.slice a (split (s.extract 1 s.size) 47).length cap)).setCell ⟨w.heap.size + 1, 0, none⟩ (.bool true)).heap[D]? = some (.deferred (some [])) := (KeepsOthers.setCell _ _ _).same D _ ((KeepsOthers.setCell _ _ _).same D _ hK rfl) rfl
    have hc5 := cell_kept ((r0.set (.slice a (split (s.extract 1 s.size) 47).length cap)).other (B' := w.heap.size + 1) (by omega) (.bool true)).cell (grownBy_putObj' _ D (.deferred none)) (fun r e => by cases e; exact ⟨_, hKX, rfl⟩)
    have hc6 := cell_kept ((r1.other (B' := w.heap.size) (by omega) (.slice a (split (s.extract 1 s.size) 47).length cap)).set (.bool true)).cell (grownBy_putObj' _ D (.deferred none)) (fun r e => by cases e; exact ⟨_, hKX, rfl⟩)
    refine ⟨by simp, .inl ⟨_, _, rfl, run_takeDeferred hKX, ?_⟩⟩
    refine ⟨.tuple #[(.slice a (split (s.extract 1 s.size) 47).length cap), .bool true], ?_, (.slice a (split (s.extract 1 s.size) 47).length cap), by rw [HN.out], ?_, (((hB.setCell (p := ⟨w.heap.size, 0, none⟩) (Nat.le_refl _) _).setCell (p := ⟨w.heap.size + 1, 0, none⟩) (by simp) _).trans (belowK_b (w := w) (Nat.le_refl _) _ D _ _ (by simp at hD; omega) hKX rfl rfl))⟩
    · simp [results, Tryz.f133, go_sem, hc5, hc6]
    · rw [HL.out]; exact ownsRow_putObj (((ownsRow_base hrow (by omega)).kept (grownBy_setCell' _ _ _) (.inr (ownsRow_low hrow (by omega)).symm)).kept (grownBy_setCell' _ _ _) (.inr (ownsRow_low hrow (by omega)).symm)) _ hKX rfl
  case stop =>
    rintro D c pre W hD hpre ⟨⟨rfl, hst⟩, ⟨r0, r1⟩, hB⟩ hK
    have hn : ptBs s = false := by rw [ptBs_some HP.out]; exact ptB_none (ptSt_pre hpre hst)
    have HL := hid (ptLs_no hn)
    have HN := hid hn
    clear hst hn b0 b1 b2 b3 b4 hB0 h1 h2 h3
    gi_wp2
    have hKX : (W).heap[D]? = some (.deferred (some [])) := hK
    have hc5 := cell_kept (r0).cell (grownBy_putObj' _ D (.deferred none)) (fun r e => by cases e; exact ⟨_, hKX, rfl⟩)
    have hc6 := cell_kept (r1).cell (grownBy_putObj' _ D (.deferred none)) (fun r e => by cases e; exact ⟨_, hKX, rfl⟩)
    refine ⟨by simp, .inl ⟨_, _, rfl, run_takeDeferred hKX, ?_⟩⟩
    refine ⟨.tuple #[(.slice none 0 0), .bool false], ?_, (.slice none 0 0), by rw [HN.out], ?_, hB.trans (belowK_b (w := w) (Nat.le_refl _) W D _ _ (by simp at hD; omega) hKX rfl rfl)⟩
    · simp [results, Tryz.f133, go_sem, hc5, hc6]
    · rw [HL.out]; exact World.ownsRow_nil _ _ _ _

theorem wordsOfPath_any (s : ByteArray) (w : World) (hs : s.size ≤ 1048576) :
    Calls Tryz.prog 133 #[.string s] w fun e W' => ∃ v, e = .returned (.tuple #[v, .bool (ptBs s)]) ∧ W'.ownsRow w.heap.size 9 1 v (ptLs s).length ((ptLs s).map Value.string) ∧ Below w.heap.size w W' := by
  by_cases h : slashB s = true
  · exact wordsOfPath_slash s w h
  · have h' : slashB s = false := by simpa using h
    by_cases h0 : s.size = 0
    · exact wordsOfPath_empty s w h0
    · have h1 : 0 < s.size := by omega
      by_cases hb : s[0] = 47
      · exact wordsOfPath_head s w hs h' h1 hb
      · exact wordsOfPath_other s w h' h1 hb

end Go.Proofs.YthpckiobfjdckaaGreat
