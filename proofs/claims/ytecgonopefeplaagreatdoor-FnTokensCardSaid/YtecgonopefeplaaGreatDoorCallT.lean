/-
  Chapter 3: CallersOf, by the specification and by the program.
-/
import Derived.Test.YtecgonopefeplaaGreatDoorTokJ
import Derived.Test.YtecgonopefeplaaGreatDoorListV
namespace Go.Proofs.YtecgonopefeplaaGreatDoor
open Go.RowKit Go.Shelf

theorem cell_one_nx (w : World) (x : Value) (t : TypeId) (n : Nat) (hn : n = w.heap.size) : ∀ j u, [x][j]? = some u → (w.alloc (.cells #[x] t)).cell? ((⟨n, 0, none⟩ : Addr).add j) = some u := by
  subst hn
  exact cell_one_new w x t
theorem row_base {w : World} {base base' : Nat} {e : TypeId} {size n : Nat} {v : Value} {xs : List Value} (hb : base' ≤ base) (h : w.ownsRow base e size v n xs) : w.ownsRow base' e size v n xs := by
  refine ⟨h.1, h.2.imp id ?_⟩
  rintro ⟨g, cap, cur, hv, hg, hrest⟩
  exact ⟨g, cap, cur, hv, Nat.le_trans hb hg, hrest⟩
/-- The callers of a token. -/
def calL (ks : List Lk) : List ByteArray := if tkB ks = true then ks.map Lk.who else []
theorem calL_yes {ks : List Lk} (h : tkB ks = true) : calL ks = ks.map Lk.who := if_pos h
theorem calL_no {ks : List Lk} (h : tkB ks = false) : calL ks = [] := if_neg (by rw [h]; exact Bool.false_ne_true)
theorem calL_le (ks : List Lk) : (calL ks).length ≤ ks.length := by
  unfold calL
  split
  · simp
  · exact Nat.zero_le _

set_option maxHeartbeats 2000000 in
theorem implCallersOf_any (v : Value) (ks : List Lk) (w : World) (hm : ks.length ≤ 1048577) (hf : ∀ k ∈ ks, k.size ≤ 1048576) (hr : LkS w v ks) :
    Calls Tryz.prog 9 #[v] w fun e w' => ∃ v', e = .returned (.tuple #[v', .bool (tkB ks)]) ∧ w'.ownsRow w.heap.size 9 1 v' (calL ks).length (strs (calL ks)) ∧ Below w.heap.size w w' := by
  obtain ⟨a, cap, rfl⟩ := hr.len
  obtain ⟨i0, hi, hz0, hz1, hz2⟩ := info_parts infoStr
  cases hg : tkB ks
  · have HC := hid (calL_no hg)
    go_enter Tryz.func9, Tryz.ntmps9
    go_wp2_with fail
    refine (implGoodToken_any _ ks _ hm hf hr).mono ?_
    rintro e w1 ⟨rfl, hB1⟩
    rw [hg]
    go_wp2_with fail
    go_ret2
    exact ⟨_, rfl, by rw [HC.out]; exact World.ownsRow_nil _ _ _ _, hB1⟩
  · have HC := hid (calL_yes hg)
    have hl := tkB_len hg
    go_enter Tryz.func9, Tryz.ntmps9
    go_wp2_with fail
    refine (implGoodToken_any _ ks _ hm hf hr).mono ?_
    rintro e w1 ⟨rfl, hB1⟩
    rw [hg]
    have hr1 := hr.below hB1
    clear hr
    go_wp2_with fail
    go_loopw [4, 12] (fun out i wr => ∃ n : Nat, n ≤ ks.length ∧ i = .int .i64 n ∧ wr.ownsRow w1.heap.size 9 1 out ((ks.take n).map Lk.who).length (strs ((ks.take n).map Lk.who)) ∧ Below w1.heap.size w1 wr) (fun _ i _ => ks.length - (intOf i).toNat)
    case atStart => exact ⟨0, Nat.zero_le _, rfl, World.ownsRow_nil _ _ _ _, Below.refl _ _⟩
    case round =>
      obtain ⟨n, hn, rfl, hrow, hB⟩ := hrel
      by_cases hlt : n < ks.length
      · obtain ⟨b, off, rfl, hb, hcap, q0, q1, q2, q3, q4⟩ := (hr1.below hB).at hlt
        have HT := hid (List.take_succ_eq_append_getElem hlt)
        have hln : ((ks.take n).map Lk.who).length = n := by simp; omega
        generalize ks[n] = k at *
        have hrowa := hrow.alloc (.cells #[.string k.who, .string k.to, .int .i64 k.se, .int .i64 k.fr, .int .i64 k.un] 35)
        have hBa : Below w1.heap.size w1 (wr.alloc (.cells #[.string k.who, .string k.to, .int .i64 k.se, .int .i64 k.fr, .int .i64 k.un] 35)) := hB.alloc hB.size _
        have hco := cell_one_nx (wr.alloc (.cells #[.string k.who, .string k.to, .int .i64 k.se, .int .i64 k.fr, .int .i64 k.un] 35)) (.string k.who) 9 (wr.heap.size + 1) (by simp)
        have hz3 := hB.size
        go_wp2_with (at_builtin; refine wpList_append_own _ rfl _ _ 29 rfl w1.heap.size 9 i0 (.string ByteArray.empty) 1 16 Tryz.underlying29 hi hz0 hz1 hz2 rfl (by decide) _ _ _ rfl (hrowa.alloc _) ⟨wr.heap.size + 1, 0, none⟩ 1 1 [.string k.who] rfl rfl hco (by simp [Value.oneCell']) (by simp [maxLen]; omega) (by omega) (by simp; omega) ?_; intro v' w2 hown' hgrow _; obtain ⟨g', cap', rfl⟩ := ownsRow_succ hown')
        go_roundw
        case rel =>
          refine ⟨n + 1, by omega, by go_num, ?_, hBa.trans (below_appended (by simp; omega) hrowa hgrow)⟩
          rw [HT.out]
          have hmin : min n ks.length = n := by omega
          simpa [strs, hmin] using hown'
        case measure => simp [intOf]; omega
      · obtain rfl : n = ks.length := by omega
        have HF := hid (show (ks.take ks.length).map Lk.who = calL ks by rw [List.take_length, HC.out])
        go_wp2
        go_ret2
        exact ⟨_, rfl, by rw [← HF.out]; exact row_base hB1.size hrow, below_one hB1 hB⟩

end Go.Proofs.YtecgonopefeplaaGreatDoor
