/-
  What CheckToken tells of a drawn token: signed whole, signed but for the first link, revoked, elsewhere: without the model.
-/
import Derived.Test.YtecgonopefeplaaGreatDoorCurT
import Derived.Test.YtecgonopefeplaaGreatDoorSignT
import Derived.Test.YtecgonopefeplaaGreatDoorChkM
import Derived.Test.YtecgonopefeplaaGreatDoorCallT
namespace Go.Proofs.YtecgonopefeplaaGreatDoor

/-- A place that no drawn token leads to. -/
abbrev nnA : ByteArray := ⟨#[110, 111, 110, 101, 47, 97, 116]⟩
theorem nnA_ok : gnB (split nnA 47) = true := by decide +kernel
theorem tk_short {ks : List Lk} (h : tkB ks = true) (hd : ∀ k ∈ ks, k.drawn) : ∀ n, n ≤ ks.length → (tkT (ks.take n)).size ≤ n * 300
  | 0, _ => by simp [tkT, tkL]; rfl
  | n + 1, hn => by
    have ih := tk_short h hd n (by omega)
    have hm := List.getElem_mem (show n < ks.length by omega)
    have h1 := text_len ks[n] (tkB_good h _ hm)
    obtain ⟨h2, h3, _⟩ := hd _ hm
    unfold Lk.size at h1
    rw [tkT_succ (by omega), ByteArray.size_append]
    omega
theorem tt_short {ks : List Lk} (h : tkB ks = true) (hd : ∀ k ∈ ks, k.drawn) : (tkT ks).size ≤ 1048576 := by
  have h1 := tk_short h hd ks.length (Nat.le_refl _)
  have h2 := tkB_len h
  rw [List.take_length] at h1
  omega
theorem text_pos (k : Lk) : 0 < k.text.size := by
  unfold Lk.text
  simp only [ByteArray.size_append, show (⟨#[59]⟩ : ByteArray).size = 1 from rfl]
  omega
theorem tk_grows {ks : List Lk} : ∀ n, n + 2 ≤ ks.length → (tkT (ks.take 1)).size < (tkT (ks.take (n + 2))).size
  | 0, h => by
    have := text_pos ks[1]
    rw [tkT_succ (n := 1) (by omega), ByteArray.size_append]
    omega
  | n + 1, h => by
    have ih := tk_grows (ks := ks) n (by omega)
    rw [tkT_succ (n := n + 2) (by omega), ByteArray.size_append]
    omega
theorem all_self (ss : List ByteArray) : allT ss ss = true :=
  List.all_eq_true.2 fun s hs => List.any_eq_true.2 ⟨s, hs, beq_self_eq_true _⟩
theorem sg_at {ks : List Lk} {n i : Nat} (h : i < (sgTo ks n).length) : (sgTo ks n)[i] = tkT (ks.take (i + 1)) := by
  simp [sgTo]
theorem all_tail {ks : List Lk} (h : 0 < ks.length) : allT ((sgTo ks ks.length).drop 1) (sgTo ks ks.length) = false := by
  have hl := sgTo_len ks ks.length
  refine allT_no (n := 0) (by omega) ?_
  refine List.any_eq_false.2 fun x hx => ?_
  obtain ⟨i, hi, rfl⟩ := List.getElem_of_mem hx
  rw [List.length_drop] at hi
  rw [List.getElem_drop, sg_at, sg_at]
  have hg := tk_grows (ks := ks) i (by omega)
  intro he
  have he2 : (tkT (ks.take (1 + i + 1))).toList = (tkT (ks.take (0 + 1))).toList := by simpa using he
  rw [toList_data, toList_data] at he2
  have he3 := bytes_same he2
  rw [show 1 + i + 1 = i + 2 by omega, show 0 + 1 = 1 from rfl] at he3
  rw [he3] at hg
  omega
theorem rv_none (ks : List Lk) : rvB ks [] = false := List.any_eq_false.2 fun k _ => by simp [isI]
theorem last_name {ks : List Lk} (h : tkB ks = true) {m : Nat} (hm : m < ks.length) : gnB (split ks[m].to 47) = true := ((Lk.good_iff _).1 (tkB_good h _ (List.getElem_mem hm))).2.1
theorem arg_ok {ks : List Lk} (h : tkB ks = true) {nw : Nat} (hn : nw ≤ 99) {at_ : ByteArray} (ha : gnB (split at_ 47) = true) {ss : List ByteArray} (hs : ss.length ≤ ks.length) {zs : List Int} (hz : zs.length ≤ 1) : argB nw at_ ss zs = true := by
  have hl := tkB_len h
  unfold argB tmB
  rw [ha, decide_eq_true (show (0 : Int) ≤ nw ∧ (nw : Int) ≤ 100000 by omega), decide_eq_true (show ss.length ≤ 200 by omega), decide_eq_true (show zs.length ≤ 200 by omega)]
  rfl
/-- What the law asks of the whole token. -/
def shTo (ks : List Lk) (nw : Int) (n : Nat) : Int := if inTo ks nw n = true then 0 else 3
theorem shTo_zero (ks : List Lk) (nw : Int) : shTo ks nw 0 = 0 := by unfold shTo; rw [inTo_zero, if_pos rfl]
theorem shTo_in {ks : List Lk} {nw : Int} {n : Nat} (h : n < ks.length) (ht : tmIn ks[n] nw = true) : shTo ks nw (n + 1) = shTo ks nw n := by
  unfold shTo
  rw [inTo_succ h, ht, Bool.and_true]
theorem shTo_out {ks : List Lk} {nw : Int} {n : Nat} (h : n < ks.length) (ht : tmIn ks[n] nw = false) : shTo ks nw (n + 1) = 3 := by
  unfold shTo
  rw [inTo_succ h, ht, Bool.and_false, if_neg (by decide)]
theorem chk_whole {ks : List Lk} (h : tkB ks = true) {nw : Nat} (hn : nw ≤ 99) {m : Nat} (hm : m < ks.length) (hl : m = ks.length - 1) : chkX ks (sgTo ks ks.length) (sgTo ks ks.length) nw [] ks[m].to = shTo ks nw ks.length := by
  rw [chkX_yes _ h (arg_ok h hn (last_name h hm) (by rw [sgTo_len]; omega) (by simp))]
  unfold chk1 shTo
  rw [inT_end, all_self, if_neg (by decide), rv_none, toOk_at hm hl]
  cases inT ks nw <;> simp
theorem chk_tail {ks : List Lk} (h : tkB ks = true) {nw : Nat} (hn : nw ≤ 99) {m : Nat} (hm : m < ks.length) : chkX ks (sgTo ks ks.length) ((sgTo ks ks.length).drop 1) nw [] ks[m].to = 2 := by
  rw [chkX_yes _ h (arg_ok h hn (last_name h hm) (by rw [List.length_drop, sgTo_len]; omega) (by simp))]
  unfold chk1
  rw [all_tail (by omega), if_pos rfl]
theorem chk_rev {ks : List Lk} (h : tkB ks = true) {nw : Nat} (hn : nw ≤ 99) {m : Nat} (hm : m < ks.length) (hi : shTo ks nw ks.length = 0) : chkX ks (sgTo ks ks.length) (sgTo ks ks.length) nw [ks[m].se] ks[m].to = 4 := by
  rw [chkX_yes _ h (arg_ok h hn (last_name h hm) (by rw [sgTo_len]; omega) (by simp))]
  unfold shTo at hi
  rw [inT_end] at hi
  unfold chk1
  have h1 : inT ks nw = true := by
    cases hx : inT ks nw with
    | true => rfl
    | false => rw [hx, if_neg (by decide)] at hi; omega
  rw [all_self, if_neg (by decide), h1, if_neg (by decide), rvB_yes hm (by simp [isI]), if_pos rfl]
theorem chk_else {ks : List Lk} (h : tkB ks = true) (hd : ∀ k ∈ ks, k.drawn) {nw : Nat} (hn : nw ≤ 99) {m : Nat} (hm : m < ks.length) (hl : m = ks.length - 1) (hi : shTo ks nw ks.length = 0) : chkX ks (sgTo ks ks.length) (sgTo ks ks.length) nw [] nnA = 5 := by
  rw [chkX_yes _ h (arg_ok h hn nnA_ok (by rw [sgTo_len]; omega) (by simp))]
  unfold shTo at hi
  rw [inT_end] at hi
  unfold chk1
  have h1 : inT ks nw = true := by
    cases hx : inT ks nw with
    | true => rfl
    | false => rw [hx, if_neg (by decide)] at hi; omega
  have h2 : toOk ks nnA = false := by
    rw [toOk_at hm hl, beq_eq_false_iff_ne]
    intro he
    rw [toList_data, toList_data] at he
    have := (hd _ (List.getElem_mem hm)).2.2
    unfold noN at this
    rw [he] at this
    exact this rfl
  rw [all_self, if_neg (by decide), h1, if_neg (by decide), rv_none, if_neg (by decide), h2, if_pos rfl]
theorem sig_len {ks : List Lk} (h : tkB ks = true) : (sigL ks).length = ks.length := by rw [sigL_yes h, sgTo_len]
theorem cal_len {ks : List Lk} (h : tkB ks = true) : (calL ks).length = ks.length := by rw [calL_yes h, List.length_map]

end Go.Proofs.YtecgonopefeplaaGreatDoor
