/-
  Chapter 3: what CheckToken asks: without the model.
-/
import Derived.Test.YtfchmhcnejifhaaDoorTokM
import Derived.Test.YtfchmhcnejifhaaDoorFloM
import Derived.Test.YtfchmhcnejifhaaDoorSrtM
namespace Go.Proofs.YtfchmhcnejifhaaDoor

/-- A text is among some. -/
def hasTo (ss : List ByteArray) (s : ByteArray) (n : Nat) : Bool := (ss.take n).any (fun x => x.toList == s.toList)
def hasT (ss : List ByteArray) (s : ByteArray) : Bool := ss.any (fun x => x.toList == s.toList)
theorem hasTo_zero (ss : List ByteArray) (s : ByteArray) : hasTo ss s 0 = false := by simp [hasTo]
theorem hasTo_succ {ss : List ByteArray} {s : ByteArray} {n : Nat} (h : n < ss.length) : hasTo ss s (n + 1) = (hasTo ss s n || (ss[n].toList == s.toList)) := by
  unfold hasTo
  rw [List.take_succ_eq_append_getElem h, List.any_append]
  simp
theorem hasT_yes {ss : List ByteArray} {s : ByteArray} {n : Nat} (h : n < ss.length) (he : (ss[n].toList == s.toList) = true) : hasT ss s = true :=
  List.any_eq_true.2 ⟨ss[n], List.getElem_mem h, he⟩
theorem hasT_end (ss : List ByteArray) (s : ByteArray) : hasTo ss s ss.length = hasT ss s := by
  unfold hasTo hasT
  rw [List.take_length]
/-- All of some texts are among others. -/
def allTo3 (ss ts : List ByteArray) (n : Nat) : Bool := (ts.take n).all (hasT ss)
def allT (ss ts : List ByteArray) : Bool := ts.all (hasT ss)
theorem allTo3_zero (ss ts : List ByteArray) : allTo3 ss ts 0 = true := by simp [allTo3]
theorem allTo3_succ {ss ts : List ByteArray} {n : Nat} (h : n < ts.length) : allTo3 ss ts (n + 1) = (allTo3 ss ts n && hasT ss ts[n]) := by
  unfold allTo3
  rw [List.take_succ_eq_append_getElem h, List.all_append]
  simp
theorem allT_no {ss ts : List ByteArray} {n : Nat} (h : n < ts.length) (he : hasT ss ts[n] = false) : allT ss ts = false :=
  List.all_eq_false.2 ⟨ts[n], List.getElem_mem h, by rw [he]; exact Bool.false_ne_true⟩
theorem allT_end (ss ts : List ByteArray) : allTo3 ss ts ts.length = allT ss ts := by
  unfold allTo3 allT
  rw [List.take_length]
/-- A time lies within all links' times. -/
def tmIn (k : Lk) (nw : Int) : Bool := decide (k.fr ≤ nw ∧ nw ≤ k.un)
def inTo (ks : List Lk) (nw : Int) (n : Nat) : Bool := (ks.take n).all (fun k => tmIn k nw)
def inT (ks : List Lk) (nw : Int) : Bool := ks.all (fun k => tmIn k nw)
theorem inTo_zero (ks : List Lk) (nw : Int) : inTo ks nw 0 = true := by simp [inTo]
theorem inTo_succ {ks : List Lk} {nw : Int} {n : Nat} (h : n < ks.length) : inTo ks nw (n + 1) = (inTo ks nw n && tmIn ks[n] nw) := by
  unfold inTo
  rw [List.take_succ_eq_append_getElem h, List.all_append]
  simp
theorem inT_no {ks : List Lk} {nw : Int} {n : Nat} (h : n < ks.length) (he : tmIn ks[n] nw = false) : inT ks nw = false :=
  List.all_eq_false.2 ⟨ks[n], List.getElem_mem h, by rw [he]; exact Bool.false_ne_true⟩
theorem inT_end (ks : List Lk) (nw : Int) : inTo ks nw ks.length = inT ks nw := by
  unfold inTo inT
  rw [List.take_length]
/-- A serial is revoked. -/
def rvTo (ks : List Lk) (zs : List Int) (n : Nat) : Bool := (ks.take n).any (fun k => isI zs k.se)
def rvB (ks : List Lk) (zs : List Int) : Bool := ks.any (fun k => isI zs k.se)
theorem rvTo_zero (ks : List Lk) (zs : List Int) : rvTo ks zs 0 = false := by simp [rvTo]
theorem rvTo_succ {ks : List Lk} {zs : List Int} {n : Nat} (h : n < ks.length) : rvTo ks zs (n + 1) = (rvTo ks zs n || isI zs ks[n].se) := by
  unfold rvTo
  rw [List.take_succ_eq_append_getElem h, List.any_append]
  simp
theorem rvB_yes {ks : List Lk} {zs : List Int} {n : Nat} (h : n < ks.length) (he : isI zs ks[n].se = true) : rvB ks zs = true :=
  List.any_eq_true.2 ⟨ks[n], List.getElem_mem h, he⟩
theorem rvB_end (ks : List Lk) (zs : List Int) : rvTo ks zs ks.length = rvB ks zs := by
  unfold rvTo rvB
  rw [List.take_length]
/-- It leads where it should. -/
def toOk (ks : List Lk) (at_ : ByteArray) : Bool := match ks[ks.length - 1]? with
  | some k => k.to.toList == at_.toList
  | none => false
theorem toOk_at {ks : List Lk} {at_ : ByteArray} {m : Nat} (h : m < ks.length) (hm : m = ks.length - 1) : toOk ks at_ = (ks[m].to.toList == at_.toList) := by
  unfold toOk
  rw [← hm, List.getElem?_eq_getElem h]

/-- What comes first of what CheckToken tells, of a token that is good. -/
def chk1 (ks : List Lk) (sg ss : List ByteArray) (nw : Int) (zs : List Int) (at_ : ByteArray) : Int :=
  if allT ss sg = false then 2 else if inT ks nw = false then 3 else if rvB ks zs = true then 4 else if toOk ks at_ = false then 5 else 0
def argB (nw : Int) (at_ : ByteArray) (ss : List ByteArray) (zs : List Int) : Bool := tmB nw && (gnB (split at_ 47) && (decide (ss.length ≤ 200) && decide (zs.length ≤ 200)))
def chkX (ks : List Lk) (sg ss : List ByteArray) (nw : Int) (zs : List Int) (at_ : ByteArray) : Int :=
  if (tkB ks && argB nw at_ ss zs) = true then chk1 ks sg ss nw zs at_ else 1
theorem chkX_no1 {ks : List Lk} (sg ss : List ByteArray) (nw : Int) (zs : List Int) (at_ : ByteArray) (h : tkB ks = false) : chkX ks sg ss nw zs at_ = 1 := by
  unfold chkX
  rw [h, if_neg (by simp)]
theorem chkX_no2 (ks : List Lk) (sg : List ByteArray) {ss : List ByteArray} {nw : Int} {zs : List Int} {at_ : ByteArray} (h : argB nw at_ ss zs = false) : chkX ks sg ss nw zs at_ = 1 := by
  unfold chkX
  rw [h, if_neg (by simp)]
theorem chkX_yes {ks : List Lk} (sg : List ByteArray) {ss : List ByteArray} {nw : Int} {zs : List Int} {at_ : ByteArray} (h : tkB ks = true) (h2 : argB nw at_ ss zs = true) : chkX ks sg ss nw zs at_ = chk1 ks sg ss nw zs at_ := by
  unfold chkX
  rw [h, h2, if_pos (by rfl)]

/-! The window of times. -/
def mxF (ks : List Lk) (n : Nat) : Nat := (ks.take n).foldl (fun a k => max a k.fr.toNat) 0
def mnU (ks : List Lk) (n : Nat) : Nat := (ks.take n).foldl (fun a k => min a k.un.toNat) 100000
theorem mxF_zero (ks : List Lk) : mxF ks 0 = 0 := by simp [mxF]
theorem mnU_zero (ks : List Lk) : mnU ks 0 = 100000 := by simp [mnU]
theorem mxF_succ {ks : List Lk} {n : Nat} (h : n < ks.length) : mxF ks (n + 1) = max (mxF ks n) ks[n].fr.toNat := by
  unfold mxF
  rw [List.take_succ_eq_append_getElem h, List.foldl_append]
  rfl
theorem mnU_succ {ks : List Lk} {n : Nat} (h : n < ks.length) : mnU ks (n + 1) = min (mnU ks n) ks[n].un.toNat := by
  unfold mnU
  rw [List.take_succ_eq_append_getElem h, List.foldl_append]
  rfl
theorem win_le {ks : List Lk} (hg : ∀ k ∈ ks, k.good = true) : ∀ n, n ≤ ks.length → mxF ks n ≤ 100000 ∧ mnU ks n ≤ 100000
  | 0, _ => by rw [mxF_zero, mnU_zero]; omega
  | n + 1, h => by
    obtain ⟨h1, h2⟩ := win_le hg n (by omega)
    obtain ⟨_, _, _, b4, b5, _⟩ := (Lk.good_iff _).1 (hg _ (List.getElem_mem (show n < ks.length by omega)))
    rw [mxF_succ (by omega), mnU_succ (by omega)]
    omega
theorem win_in {ks : List Lk} (hg : ∀ k ∈ ks, k.good = true) {nw : Nat} (h : nw ≤ 100000) : ∀ n, n ≤ ks.length → inTo ks nw n = decide (mxF ks n ≤ nw ∧ nw ≤ mnU ks n)
  | 0, _ => by rw [inTo_zero, mxF_zero, mnU_zero]; simp; omega
  | n + 1, hn => by
    have ih := win_in hg h n (by omega)
    obtain ⟨_, _, _, b4, b5, _⟩ := (Lk.good_iff _).1 (hg _ (List.getElem_mem (show n < ks.length by omega)))
    rw [inTo_succ (by omega), ih, mxF_succ (by omega), mnU_succ (by omega)]
    unfold tmIn
    rw [← Bool.decide_and, decide_eq_decide]
    omega

end Go.Proofs.YtfchmhcnejifhaaDoor
