/-
  The law FnLogs, walked.
-/
import Derived.Deep.QuietTactic
import Derived.BigQuiet
import Derived.Test.YtepoamekeackkaaDoorLgsM
import Derived.Test.YtepoamekeackkaaDoorCurG
import Derived.Test.YtepoamekeackkaaDoorSameL
import Derived.Test.YtepoamekeackkaaDoorRdlJ
namespace Go.Proofs.YtepoamekeackkaaDoor
open Go.RowKit Go.Shelf

theorem lt_short {l : List Rc} (h : glB l = true) : ∀ k, k ≤ l.length → (ltT (l.take k)).size ≤ k * 98
  | 0, _ => by simp [ltT]; rfl
  | k + 1, hk => by
    have ih := lt_short h k (by omega)
    have hr := List.getElem_mem (show k < l.length by omega)
    have hn := gl_num h _ hr
    have h8 := lg_note (gl_lg h) hr
    have := rlT_size (r := l[k]) hn.1 (by omega)
    rw [ltT_succ (by omega), ByteArray.size_append, ByteArray.size_append, show (⟨#[10]⟩ : ByteArray).size = 1 from rfl]
    omega
theorem lt_bound {l : List Rc} (h : glB l = true) : (ltT l).size ≤ 1048576 := by
  have := lt_short h l.length (Nat.le_refl _)
  rw [List.take_length] at this
  have := (gl_log h).1
  omega
theorem rcr_set {w : World} {v : Value} {l : List Rc} (h : RcR w v l) (g o : Nat) (u : Value) (hg : ∀ k, v.ownBlock = some k → k ≠ g) : RcR (w.setCell ⟨g, o, none⟩ u) v l := by
  rcases h with h | ⟨b, off, cap, hv, hb, hl, hc⟩
  · exact .inl h
  · refine .inr ⟨b, off, cap, hv, by simpa using hb, hl, fun k hk => ?_⟩
    have hne : b ≠ g := hg b (by rw [hv]; rfl)
    obtain ⟨h0, h1, h2⟩ := hc k hk
    exact ⟨(World.cell?_setCell_other _ _ _ _ (fun e => hne (congrArg Addr.block e).symm)).trans h0, (World.cell?_setCell_other _ _ _ _ (fun e => hne (congrArg Addr.block e).symm)).trans h1, (World.cell?_setCell_other _ _ _ _ (fun e => hne (congrArg Addr.block e).symm)).trans h2⟩
theorem neq_self (r : Rc) (w : World) : (binOp .neq 34 r.val r.val).run Tryd.prog w = .ok (.bool false) w := by rw [neq_rc, Rc.same_refl]; rfl

theorem toBytes (w : World) (s : ByteArray) : ∃ cap w', (convert 9 22 (.string s)).run Tryd.prog w = .ok (.slice (some ⟨w.heap.size, 0, none⟩) s.size cap) w' ∧ Below w.heap.size w w' ∧ w.heap.size < w'.heap.size ∧ (∀ j (hj : j < s.size), w'.cell? ⟨w.heap.size, j, none⟩ = some (.int .u8 (s[j].toNat : Int))) ∧ ∀ j (_ : j < s.size), w'.frozen? ⟨w.heap.size, j, none⟩ = false := by
  have h := run_bytes_of_string (P := Tryd.prog) w 9 22 5 s Tryd.underlying9 Tryd.underlying22 Tryd.underlying5
  have hb := bytesRow_at s (grownCap w s.size 0 5)
  have hsz : s.size ≤ (bytesRow s (grownCap w s.size 0 5)).size := by
    unfold bytesRow
    rw [Array.size_append, Array.size_map]
    exact Nat.le_add_right _ _
  generalize grownCap w s.size 0 5 = cap at *
  generalize bytesRow s cap = C at *
  have hh : (w.drew.alloc (.cells C 5 (C.size, C.size + 1))).heap[w.heap.size]? = some (.cells C 5 (C.size, C.size + 1)) := by
    show (w.heap.push _)[w.heap.size]? = _
    rw [Array.getElem?_push_size]
  refine ⟨cap, _, h, ((Below.refl _ w).drew).alloc (Nat.le_refl _) _, by show w.heap.size < (w.heap.push _).size; rw [Array.size_push]; omega, fun j hj => ?_, fun j hj => ?_⟩
  · simp only [World.cell?, hh]
    exact hb j hj
  · simp only [World.frozen?, hh]
    simp
    omega

set_option maxHeartbeats 8000000 in
set_option maxRecDepth 100000 in
theorem logsWalk (a a' : Option Addr) (n c n' c' : Nat) (w : World) (m0 : Int) (hle : n ≤ c) (hle' : n' ≤ c') (hs : n + n' ≤ 1048576) (hB : ByS w a n) (hB' : ByS w a' n') (hap : ∀ p, a = some p → p.block < w.heap.size) (hmx : w.cell? ⟨0, 0, none⟩ = some (.int .i64 m0)) (ht : Tab w ∧ Tab2 w) :
    Calls Tryd.prog 3 #[.slice a n c, .slice a' n' c'] w fun e w' => e = .returned (.bool true) ∧ Below w.heap.size w w' := by
  obtain ⟨i0, hi, hz0, hz1, hz2⟩ := info_parts infoRecord
  have hlt0 : 0 < w.heap.size := by
    by_cases hb : 0 < w.heap.size
    · exact hb
    · simp only [World.cell?] at hmx
      rw [Array.getElem?_eq_none (by omega)] at hmx
      cases hmx
  have HT := hid (fun W (hW : Below w.heap.size w W) => show Tab W ∧ Tab2 W from ⟨ht.1.on hW, ht.2.on hW⟩)
  have HM := hid (fun W (hW : Below w.heap.size w W) => show W.cell? ⟨0, 0, none⟩ = some (.int .i64 m0) from (hW.cell (p := ⟨0, 0, none⟩) hlt0).trans hmx)
  have HBY := hid (fun W (hW : Below w.heap.size w W) => hB.below hW)
  have HBY' := hid (fun W (hW : Below w.heap.size w W) => hB'.below hW)
  have hd := drawAN_any a n c w hle hB hap
  clear ht hmx hlt0 hB hB' hap
  go_enter Tryd.func3, Tryd.ntmps3
  go_wp2_with fail
  refine hd.mono ?_
  rintro e w1 ⟨v1, l, nt, rfl, hlen, hsm, hnt, hr, hB1⟩
  clear hd
  have hf : ∀ r ∈ l, r.note.size ≤ 1048576 := fun r h => by have := (hsm r h).1; omega
  have hu : ∀ r ∈ l, r.su < 4294967296 := fun r h => (hsm r h).2
  obtain ⟨al, cl, rfl⟩ := hr.len
  go_wp2_with fail
  refine (implAppendNote_any _ l nt _ (HT.out _ hB1).1 (by omega) (by omega) hf hu hr).mono ?_
  rintro e w2 ⟨v2, rfl, hX, hB2⟩
  have hr2 := hr.below hB2
  have hBB2 := below_one hB1 hB2
  have hXlt := hX.lt
  obtain ⟨a2, c2, rfl⟩ := ownsRow_len hX
  go_wp2_with fail
  refine (specAppendNote_any _ l nt _ (by omega) (by omega) hf hu hr2).mono ?_
  rintro e w3 ⟨v3, rfl, hS, hB3⟩
  have hr3 := hr2.below hB3
  have hX3 := ownsRow_below hX hB3
  have hBB3 := below_one hBB2 hB3
  obtain ⟨a3, c3, rfl⟩ := ownsRow_len hS
  clear hX hr hr2 hS hB3
  have e1 : (apB l nt != apB l nt) = false := by simp
  cases hA : apB l nt
  · have hAR : apR l nt = [] := by unfold apR; rw [hA]; rfl
    rw [hAR]
    go_wp2
    go_ret
    exact ⟨rfl, hBB3⟩
  · have hAR : apR l nt = puR l nt := by unfold apR; rw [hA]; rfl
    have hap := hA
    unfold apB at hap
    simp only [Bool.and_eq_true, Bool.not_eq_true', beq_eq_false_iff_ne] at hap
    have h59 : l.length < 60 := by have := (gl_log hap.1.1).1; have := hap.2; omega
    have hgx := gl_put hap.1.1 hap.1.2 h59
    have hlx := puR_len l nt
    have HXL := hid (show ∀ j (hj : j < l.length) (hj' : j < (puR l nt).length), (puR l nt)[j] = l[j] from fun j hj hj' => by
      simp [puR, List.getElem_append_left hj])
    have HXN := hid (show ∀ (hj' : l.length < (puR l nt).length), (puR l nt)[l.length].note = nt from fun hj' => by simp [puR, rcN])
    rw [hAR] at hX3 hXlt ⊢
    clear hAR hap hA e1
    generalize puR l nt = x at *
    have HLX := hid hlx
    clear hlx
    have hx60 := (gl_log hgx).1
    have hxu := gl_su hgx
    have hxf : ∀ r ∈ x, r.note.size ≤ 1048576 := fun r h => by have := lg_note (gl_lg hgx) h; omega
    have hX3r : RcR w3 (.slice a2 x.length c2) x := RcR.own hX3
    have hxpos : 0 < x.length := by have := HLX.out; omega
    clear hX3
    -- the text
    have HTX := hid (show lxT x = ltT x by unfold lxT; rw [hgx]; rfl)
    have hsT := lt_bound hgx
    have HRX := hid (rdX_back hgx)
    go_wp2_with fail
    refine (implLogText_any _ x _ (HT.out _ hBB3) (by omega) hxf hxu hX3r.s).mono ?_
    rintro e w4 ⟨rfl, hB4⟩
    rw [HTX.out, hgx]
    have hX4 := hX3r.below hB4
    have hr4 := hr3.below hB4
    have hBB4 := below_one hBB3 hB4
    clear hX3r hr3 hB4
    go_wp2_with fail
    refine (implReadLog_any (ltT x) m0 _ (HT.out _ hBB4) (HM.out _ hBB4) hsT).mono ?_
    rintro e w5 ⟨v5, rfl, hM, hB5⟩
    rw [HRX.out] at hM ⊢
    replace hM : w5.ownsRow w4.heap.size 34 3 v5 x.length (x.flatMap Rc.cells) := hM
    have hX5 := hX4.below hB5
    have hr5 := hr4.below hB5
    have hBB5 := below_one hBB4 hB5
    obtain ⟨a5, c5, rfl⟩ := ownsRow_len hM
    have hM5 : RcR w5 (.slice a5 x.length c5) x := RcR.own hM
    have eS : (some x).isSome = true := rfl
    clear hX4 hr4 hB5 hM
    go_wp2_with fail
    refine (implGoodLog_any _ x _ (HT.out _ hBB5).1 (by omega) hxf hxu hX5.s).mono ?_
    rintro e w6 ⟨rfl, hB6⟩
    rw [hgx]
    have hX6 := hX5.below hB6
    have hr6 := hr5.below hB6
    have hM6 := hM5.below hB6
    have hBB6 := below_one hBB5 hB6
    clear hX5 hr5 hM5 hB6
    have e2 : ((x.length : Int) != (x.length : Int)) = false := by simp
    have e3 : ((x.length : Int) != (l.length : Int) + 1) = false := by have := HLX.out; simp; omega
    have e4 : (nt.toList == nt.toList) = true := by simp
    have hll : l.length < x.length := by have := HLX.out; omega
    obtain ⟨bx, ox, hax, hbx, hcx, p0, p1, p2⟩ := hX6.s.at hll
    rw [HXN.out hll] at p1
    subst hax
    clear p0 p2
    go_wp2_with fail
    clear p1
    go_loopw [101] (fun i wr => ∃ k : Nat, k ≤ x.length ∧ i = .int .i64 k ∧ Below w6.heap.size w6 wr) (fun i _ => x.length - (intOf i).toNat)
    case atStart => exact ⟨0, Nat.zero_le _, rfl, Below.refl _ _⟩
    case round =>
      obtain ⟨k, hk, rfl, hB7⟩ := hrel
      by_cases hlt : k < x.length
      · obtain ⟨b1, o1, hq1, hb1, hc1, y0, y1, y2⟩ := (hX6.below hB7).s.at hlt
        cases hq1
        obtain ⟨b2, o2, hq2, hb2, hc2, z0, z1, z2⟩ := (hM6.below hB7).s.at hlt
        subst hq2
        by_cases hkl : k < l.length
        · obtain ⟨b3, o3, hq3, hb3, hc3, u0, u1, u2⟩ := (hr6.below hB7).s.at hkl
          subst hq3
          rw [← HXL.out k hkl hlt] at u0 u1 u2
          have hkd : decide ((k : Int) < (l.length : Int)) = true := by simp; omega
          have hse := neq_self x[k]
          generalize x[k] = r at *
          go_wp2_with fail
          go_quiet (fail)
          go_wp2
          go_roundw
          case rel => exact ⟨k + 1, by omega, by go_num, below_drewN hB7 _⟩
          case measure => simp [intOf]; omega
        · have hkd : decide ((k : Int) < (l.length : Int)) = false := by simp; omega
          have hse := neq_self x[k]
          generalize x[k] = r at *
          go_wp2_with fail
          go_quiet (fail)
          go_wp2
          go_roundw
          case rel => exact ⟨k + 1, by omega, by go_num, below_drewN hB7 _⟩
          case measure => simp [intOf]; omega
      · obtain rfl : k = x.length := by omega
        clear hM6 hr6 HXL HXN HTX HRX
        have hX7 := hX6.below hB7
        have hBB7 := below_one hBB6 hB7
        clear hX6 hB7
        go_wp2_with fail
        refine (numberOf_any a' n' c' _ hle' (HBY'.out _ hBB7)).mono ?_
        rintro e w8 ⟨z1, hz1', rfl, hB8⟩
        have hX8 := hX7.below hB8
        have hBB8 := below_one hBB7 hB8
        have hz8 := hBB8.size
        clear hX7 hBB7 hB8
        have hkk : z1 % x.length < x.length := Nat.mod_lt _ hxpos
        have er1 : (z1 : Int).tmod (x.length : Int) = ((z1 % x.length : Nat) : Int) := by rw [Int.tmod_eq_emod_of_nonneg (by omega)]; rfl
        have er2 : ¬ (x.length : Int) = 0 := by omega
        generalize z1 % x.length = kk at *
        obtain ⟨b8, o8, hq8, hb8, hc8, y0, y1, y2⟩ := hX8.s.at hkk
        cases hq8
        obtain ⟨cap9, w9, hcv, hB9, hlt9, hcb9, hfb9⟩ := toBytes w8 x[kk].note
        have h80 := lg_note (gl_lg hgx) (List.getElem_mem hkk)
        have hX9 := hX8.below hB9
        have hBB9 := below_one hBB8 hB9
        have hgX : ∀ k, (Value.slice (some ⟨bx, ox, none⟩) x.length c2).ownBlock = some k → k ≠ w8.heap.size := by
          intro k hk'
          have hk2 : some bx = some k := hk'
          have hk3 := Option.some.inj hk2
          omega
        have er3 : IntKind.i64.wrap ((kk : Nat) : Int) = (kk : Int) := by rw [IntKind.wrap_i64]; omega
        clear y0 y2 hX8
        by_cases hn0 : x[kk].note.size = 0
        · have en : ((x[kk].note.size : Int) == 0) = true := by rw [hn0]; rfl
          go_wp2
          go_ret
          exact ⟨rfl, hBB9⟩
        · have en : ((x[kk].note.size : Int) == 0) = false := by rw [beq_eq_false_iff_ne]; omega
          go_wp2_with fail
          refine (numberOf_any a n c _ hle (HBY.out _ hBB9)).mono ?_
          rintro e w10 ⟨z2, hz2', rfl, hB10⟩
          have hX10 := hX9.below hB10
          have hBB10 := below_one hBB9 hB10
          have hz10 := hB10.size
          have hcb : ∀ j (hj : j < x[kk].note.size), w10.cell? ⟨w8.heap.size, j, none⟩ = some (.int .u8 (x[kk].note[j].toNat : Int)) := fun j hj => (hB10.cell (p := ⟨w8.heap.size, j, none⟩) hlt9).trans (hcb9 j hj)
          have hfb : ∀ j (hj : j < x[kk].note.size), w10.frozen? ⟨w8.heap.size, j, none⟩ = false := fun j hj => (hB10.frozen (p := ⟨w8.heap.size, j, none⟩) hlt9).trans (hfb9 j hj)
          clear hX9 hBB9 hB10 hcb9 hfb9 hB9 hcv y1
          have hii : z2 % x[kk].note.size < x[kk].note.size := Nat.mod_lt _ (by omega)
          have er4 : (z2 : Int).tmod (x[kk].note.size : Int) = ((z2 % x[kk].note.size : Nat) : Int) := by rw [Int.tmod_eq_emod_of_nonneg (by omega)]; rfl
          have er5 : ¬ (x[kk].note.size : Int) = 0 := by omega
          generalize z2 % x[kk].note.size = ii at *
          by_cases hcx : x[kk].note[ii] = 120
          · have ec : ((x[kk].note[ii].toNat : Int) == 120) = true := by rw [hcx]; rfl
            have hcne : (121 : UInt8) ≠ x[kk].note[ii] := by rw [hcx]; decide
            have hcl := chN_size x[kk].note ii 121
            obtain ⟨hf1, hf2, hf3⟩ := lgs_last hgx hkk hii (c := 121) (by decide) hcne
            have h80 := lg_note (gl_lg hgx) (List.getElem_mem hkk)
            have hi5 := hcb ii hii
            have hfz5 := hfb ii hii
            have hst : ∀ j (hj : j < (x[kk].note.data.toList.set ii 121).length), (w10.setCell ⟨w8.heap.size, ii, none⟩ (.int .u8 121)).cell? ⟨w8.heap.size, j, none⟩ = some (.int .u8 (((x[kk].note.data.toList.set ii 121)[j]).toNat : Int)) := by
              intro j hj
              have hj' : j < x[kk].note.size := by rw [List.length_set] at hj; simpa using hj
              by_cases hji : j = ii
              · subst hji
                rw [List.getElem_set_self]
                exact World.cell?_setCell_same' _ _ _ (by rw [hcb j hj']; rfl)
              · rw [List.getElem_set_ne (by omega), World.cell?_setCell_other _ _ _ _ (fun e => by have := congrArg Addr.off e; simp at this; omega), hcb j hj']
                rfl
            have hBst : Below w.heap.size w (w10.setCell ⟨w8.heap.size, ii, none⟩ (.int .u8 121)) := hBB10.setCell (p := ⟨w8.heap.size, ii, none⟩) hz8 _
            have hX11 := rcr_set hX10 w8.heap.size ii (.int .u8 121) hgX
            have hBv : Below (w10.setCell ⟨w8.heap.size, ii, none⟩ (.int .u8 121)).heap.size (w10.setCell ⟨w8.heap.size, ii, none⟩ (.int .u8 121)) ((w10.setCell ⟨w8.heap.size, ii, none⟩ (.int .u8 121)).alloc (.cells #[] 34)) := (Below.refl _ _).alloc (Nat.le_refl _) _
            have hsrc := (hX11.below hBv).src
            have hvoid := row_void0 (w10.setCell ⟨w8.heap.size, ii, none⟩ (.int .u8 121)) 34 3 w10.heap.size (base := w10.heap.size) (by simp) (by simp)
            have HBV := hid hBv
            clear hBv hX11 hcb hfb hX10
            go_wp2_with (at_builtin; refine wpList_append_rd rfl _ _ 23 rfl w10.heap.size 34 i0 _ 3 32 Tryd.underlying23 hi hz0 hz1 hz2 rfl (by decide) _ _ 0 x.length [] _ rfl hvoid rfl hsrc rc_ones (by unfold maxLen; omega) (by omega) (by simp) ?_; intro v12 w12 hown12 hg12)
            rw [Nat.zero_add, List.nil_append] at hown12
            have hB12 : Below w10.heap.size (w10.setCell ⟨w8.heap.size, ii, none⟩ (.int .u8 121)) w12 := below_app (HBV.out.mono (by simp)) hvoid hg12 (Nat.le_refl _) (by simp)
            have hBB12 : Below w.heap.size w w12 := hBst.trans (hB12.mono (by omega))
            have hcv2 : (convert 22 9 (.slice (some ⟨w8.heap.size, 0, none⟩) x[kk].note.size cap9)).run Tryd.prog w12 = .ok (.string (chN x[kk].note ii 121)) w12 := by
              have hl : (x[kk].note.data.toList.set ii 121).length = x[kk].note.size := by rw [List.length_set]; simp
              rw [← hl]
              refine run_convert_bytes_back (P := Tryd.prog) _ 22 9 5 ⟨w8.heap.size, 0, none⟩ _ _ Tryd.underlying22 Tryd.underlying5 Tryd.underlying9 ?_
              intro j hj
              rw [Addr.add_lit, Nat.zero_add, hB12.cell (p := ⟨w8.heap.size, j, none⟩) (by simp only; omega)]
              exact hst j hj
            rcases row_form hown12 with ⟨_, h0⟩ | ⟨gb, cpb, rfl, hgb, hcpb⟩
            · omega
            have hcell := hown12.cellAt (kk * 3 + 1) (by omega)
            rw [rcflat_at x kk 1 hkk (by omega)] at hcell
            simp only [List.getElem?_cons_zero, List.getElem?_cons_succ] at hcell
            have hfz := hown12.frozenAt (kk * 3 + 1)
            have hrow13 := (hown12.stored (kk * 3 + 1) (.string (chN x[kk].note ii 121))).1
            rw [rcflat_set x kk 1 _ ⟨x[kk].num, chN x[kk].note ii 121, x[kk].su⟩ hkk (by omega) (by simp), ← bdL_eq hkk] at hrow13
            have hBB13 : Below w.heap.size w (w12.setCell ⟨gb, kk * 3 + 1, none⟩ (.string (chN x[kk].note ii 121))) := hBB12.setCell (p := ⟨gb, kk * 3 + 1, none⟩) (by simp only; omega) _
            have hbl := bdL_len x kk (chN x[kk].note ii 121)
            have hbu : ∀ r ∈ bdL x kk (chN x[kk].note ii 121), r.su < 4294967296 ∧ r.note.size ≤ 1048576 := by
              intro r hr
              rw [bdL_eq hkk] at hr
              rcases List.mem_or_eq_of_mem_set hr with hr | rfl
              · exact ⟨hxu r hr, hxf r hr⟩
              · exact ⟨show x[kk].su < 4294967296 from hxu x[kk] (List.getElem_mem hkk), by rw [hcl]; omega⟩
            have hR13 : RcS (w12.setCell ⟨gb, kk * 3 + 1, none⟩ (.string (chN x[kk].note ii 121))) (.slice (some ⟨gb, 0, none⟩) x.length cpb) (bdL x kk (chN x[kk].note ii 121)) := RcS.own (by rw [hbl]; exact hrow13)
            have HF := hid (And.intro hf1 (And.intro hf2 hf3))
            have HBL := hid hbl
            clear hf1 hf2 hf3 hrow13 hown12 hg12 hB12 hst hsrc hvoid hBst hbl
            generalize chN x[kk].note ii 121 = N' at *
            generalize bdL x kk N' = bad at *
            go_wp2_with fail
            rw [hcv2]
            simp only [Result.andThen]
            rw [Oper.upon_value]
            go_wp2_with fail
            refine (implFirstBroken_any _ bad _ (HT.out _ hBB13).1 (by rw [HBL.out]; omega) (fun r h => (hbu r h).2) (fun r h => (hbu r h).1) hR13).mono ?_
            rintro e w14 ⟨rfl, hB14⟩
            rw [HF.out.1, HF.out.2.1]
            have hR14 := hR13.below hB14
            have hBB14 := below_one hBB13 hB14
            have e5 : ((kk : Int) == (kk : Int)) = true := by simp
            clear hR13 hB14 hcell hfz hcv2
            go_wp2_with fail
            refine (implGoodLog_any _ bad _ (HT.out _ hBB14).1 (by rw [HBL.out]; omega) (fun r h => (hbu r h).2) (fun r h => (hbu r h).1) hR14).mono ?_
            rintro e w15 ⟨rfl, hB15⟩
            rw [HF.out.2.2]
            have hBB15 := below_one hBB14 hB15
            go_wp2_with fail
            go_ret
            exact ⟨rfl, hBB15⟩
          · have ec : ((x[kk].note[ii].toNat : Int) == 120) = false := by
              rw [beq_eq_false_iff_ne]
              intro h
              exact hcx (UInt8.toNat_inj.1 (by have : x[kk].note[ii].toNat = 120 := by omega
                                               rw [this]; rfl))
            have hcne : (120 : UInt8) ≠ x[kk].note[ii] := fun h => hcx h.symm
            have hcl := chN_size x[kk].note ii 120
            obtain ⟨hf1, hf2, hf3⟩ := lgs_last hgx hkk hii (c := 120) (by decide) hcne
            have h80 := lg_note (gl_lg hgx) (List.getElem_mem hkk)
            have hi5 := hcb ii hii
            have hfz5 := hfb ii hii
            have hst : ∀ j (hj : j < (x[kk].note.data.toList.set ii 120).length), (w10.setCell ⟨w8.heap.size, ii, none⟩ (.int .u8 120)).cell? ⟨w8.heap.size, j, none⟩ = some (.int .u8 (((x[kk].note.data.toList.set ii 120)[j]).toNat : Int)) := by
              intro j hj
              have hj' : j < x[kk].note.size := by rw [List.length_set] at hj; simpa using hj
              by_cases hji : j = ii
              · subst hji
                rw [List.getElem_set_self]
                exact World.cell?_setCell_same' _ _ _ (by rw [hcb j hj']; rfl)
              · rw [List.getElem_set_ne (by omega), World.cell?_setCell_other _ _ _ _ (fun e => by have := congrArg Addr.off e; simp at this; omega), hcb j hj']
                rfl
            have hBst : Below w.heap.size w (w10.setCell ⟨w8.heap.size, ii, none⟩ (.int .u8 120)) := hBB10.setCell (p := ⟨w8.heap.size, ii, none⟩) hz8 _
            have hX11 := rcr_set hX10 w8.heap.size ii (.int .u8 120) hgX
            have hBv : Below (w10.setCell ⟨w8.heap.size, ii, none⟩ (.int .u8 120)).heap.size (w10.setCell ⟨w8.heap.size, ii, none⟩ (.int .u8 120)) ((w10.setCell ⟨w8.heap.size, ii, none⟩ (.int .u8 120)).alloc (.cells #[] 34)) := (Below.refl _ _).alloc (Nat.le_refl _) _
            have hsrc := (hX11.below hBv).src
            have hvoid := row_void0 (w10.setCell ⟨w8.heap.size, ii, none⟩ (.int .u8 120)) 34 3 w10.heap.size (base := w10.heap.size) (by simp) (by simp)
            have HBV := hid hBv
            clear hBv hX11 hcb hfb hX10
            go_wp2_with (at_builtin; refine wpList_append_rd rfl _ _ 23 rfl w10.heap.size 34 i0 _ 3 32 Tryd.underlying23 hi hz0 hz1 hz2 rfl (by decide) _ _ 0 x.length [] _ rfl hvoid rfl hsrc rc_ones (by unfold maxLen; omega) (by omega) (by simp) ?_; intro v12 w12 hown12 hg12)
            rw [Nat.zero_add, List.nil_append] at hown12
            have hB12 : Below w10.heap.size (w10.setCell ⟨w8.heap.size, ii, none⟩ (.int .u8 120)) w12 := below_app (HBV.out.mono (by simp)) hvoid hg12 (Nat.le_refl _) (by simp)
            have hBB12 : Below w.heap.size w w12 := hBst.trans (hB12.mono (by omega))
            have hcv2 : (convert 22 9 (.slice (some ⟨w8.heap.size, 0, none⟩) x[kk].note.size cap9)).run Tryd.prog w12 = .ok (.string (chN x[kk].note ii 120)) w12 := by
              have hl : (x[kk].note.data.toList.set ii 120).length = x[kk].note.size := by rw [List.length_set]; simp
              rw [← hl]
              refine run_convert_bytes_back (P := Tryd.prog) _ 22 9 5 ⟨w8.heap.size, 0, none⟩ _ _ Tryd.underlying22 Tryd.underlying5 Tryd.underlying9 ?_
              intro j hj
              rw [Addr.add_lit, Nat.zero_add, hB12.cell (p := ⟨w8.heap.size, j, none⟩) (by simp only; omega)]
              exact hst j hj
            rcases row_form hown12 with ⟨_, h0⟩ | ⟨gb, cpb, rfl, hgb, hcpb⟩
            · omega
            have hcell := hown12.cellAt (kk * 3 + 1) (by omega)
            rw [rcflat_at x kk 1 hkk (by omega)] at hcell
            simp only [List.getElem?_cons_zero, List.getElem?_cons_succ] at hcell
            have hfz := hown12.frozenAt (kk * 3 + 1)
            have hrow13 := (hown12.stored (kk * 3 + 1) (.string (chN x[kk].note ii 120))).1
            rw [rcflat_set x kk 1 _ ⟨x[kk].num, chN x[kk].note ii 120, x[kk].su⟩ hkk (by omega) (by simp), ← bdL_eq hkk] at hrow13
            have hBB13 : Below w.heap.size w (w12.setCell ⟨gb, kk * 3 + 1, none⟩ (.string (chN x[kk].note ii 120))) := hBB12.setCell (p := ⟨gb, kk * 3 + 1, none⟩) (by simp only; omega) _
            have hbl := bdL_len x kk (chN x[kk].note ii 120)
            have hbu : ∀ r ∈ bdL x kk (chN x[kk].note ii 120), r.su < 4294967296 ∧ r.note.size ≤ 1048576 := by
              intro r hr
              rw [bdL_eq hkk] at hr
              rcases List.mem_or_eq_of_mem_set hr with hr | rfl
              · exact ⟨hxu r hr, hxf r hr⟩
              · exact ⟨show x[kk].su < 4294967296 from hxu x[kk] (List.getElem_mem hkk), by rw [hcl]; omega⟩
            have hR13 : RcS (w12.setCell ⟨gb, kk * 3 + 1, none⟩ (.string (chN x[kk].note ii 120))) (.slice (some ⟨gb, 0, none⟩) x.length cpb) (bdL x kk (chN x[kk].note ii 120)) := RcS.own (by rw [hbl]; exact hrow13)
            have HF := hid (And.intro hf1 (And.intro hf2 hf3))
            have HBL := hid hbl
            clear hf1 hf2 hf3 hrow13 hown12 hg12 hB12 hst hsrc hvoid hBst hbl
            generalize chN x[kk].note ii 120 = N' at *
            generalize bdL x kk N' = bad at *
            go_wp2_with fail
            rw [hcv2]
            simp only [Result.andThen]
            rw [Oper.upon_value]
            go_wp2_with fail
            refine (implFirstBroken_any _ bad _ (HT.out _ hBB13).1 (by rw [HBL.out]; omega) (fun r h => (hbu r h).2) (fun r h => (hbu r h).1) hR13).mono ?_
            rintro e w14 ⟨rfl, hB14⟩
            rw [HF.out.1, HF.out.2.1]
            have hR14 := hR13.below hB14
            have hBB14 := below_one hBB13 hB14
            have e5 : ((kk : Int) == (kk : Int)) = true := by simp
            clear hR13 hB14 hcell hfz hcv2
            go_wp2_with fail
            refine (implGoodLog_any _ bad _ (HT.out _ hBB14).1 (by rw [HBL.out]; omega) (fun r h => (hbu r h).2) (fun r h => (hbu r h).1) hR14).mono ?_
            rintro e w15 ⟨rfl, hB15⟩
            rw [HF.out.2.2]
            have hBB15 := below_one hBB14 hB15
            go_wp2_with fail
            go_ret
            exact ⟨rfl, hBB15⟩

end Go.Proofs.YtepoamekeackkaaDoor
