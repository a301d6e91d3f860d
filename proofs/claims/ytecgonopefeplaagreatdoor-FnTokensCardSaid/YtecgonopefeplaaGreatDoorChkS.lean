/-
  Chapter 3: CheckToken, by the specification.
-/
import Derived.Test.YtecgonopefeplaaGreatDoorChkI
namespace Go.Proofs.YtecgonopefeplaaGreatDoor
open Go.RowKit Go.Shelf

/-- What is told of a token, good or not. -/
def chk0 (ks : List Lk) (ss : List ByteArray) (nw : Int) (zs : List Int) (at_ : ByteArray) : Int := if tkB ks = true then chk1 ks (sgTo ks ks.length) ss nw zs at_ else 1
theorem chk0_no {ks : List Lk} (ss : List ByteArray) (nw : Int) (zs : List Int) (at_ : ByteArray) (h : tkB ks = false) : chk0 ks ss nw zs at_ = 1 := if_neg (by rw [h]; exact Bool.false_ne_true)
theorem chk0_2 {ks : List Lk} {ss : List ByteArray} (nw : Int) (zs : List Int) (at_ : ByteArray) (h : tkB ks = true) (h2 : allT ss (sgTo ks ks.length) = false) : chk0 ks ss nw zs at_ = 2 := by
  unfold chk0 chk1
  rw [if_pos h, if_pos h2]
theorem chk0_3 {ks : List Lk} {ss : List ByteArray} {nw : Int} (zs : List Int) (at_ : ByteArray) (h : tkB ks = true) (h2 : allT ss (sgTo ks ks.length) = true) (h3 : inT ks nw = false) : chk0 ks ss nw zs at_ = 3 := by
  unfold chk0 chk1
  rw [if_pos h, if_neg (by rw [h2]; decide), if_pos h3]
theorem chk0_4 {ks : List Lk} {ss : List ByteArray} {nw : Int} {zs : List Int} (at_ : ByteArray) (h : tkB ks = true) (h2 : allT ss (sgTo ks ks.length) = true) (h3 : inT ks nw = true) (h4 : rvB ks zs = true) : chk0 ks ss nw zs at_ = 4 := by
  unfold chk0 chk1
  rw [if_pos h, if_neg (by rw [h2]; decide), if_neg (by rw [h3]; decide), if_pos h4]
theorem chk0_5 {ks : List Lk} {ss : List ByteArray} {nw : Int} {zs : List Int} {at_ : ByteArray} (h : tkB ks = true) (h2 : allT ss (sgTo ks ks.length) = true) (h3 : inT ks nw = true) (h4 : rvB ks zs = false) (h5 : toOk ks at_ = false) : chk0 ks ss nw zs at_ = 5 := by
  unfold chk0 chk1
  rw [if_pos h, if_neg (by rw [h2]; decide), if_neg (by rw [h3]; decide), if_neg (by rw [h4]; decide), if_pos h5]
theorem chk0_0 {ks : List Lk} {ss : List ByteArray} {nw : Int} {zs : List Int} {at_ : ByteArray} (h : tkB ks = true) (h2 : allT ss (sgTo ks ks.length) = true) (h3 : inT ks nw = true) (h4 : rvB ks zs = false) (h5 : toOk ks at_ = true) : chk0 ks ss nw zs at_ = 0 := by
  unfold chk0 chk1
  rw [if_pos h, if_neg (by rw [h2]; decide), if_neg (by rw [h3]; decide), if_neg (by rw [h4]; decide), if_neg (by rw [h5]; decide)]

theorem chkX_0 (ks : List Lk) (ss : List ByteArray) {nw : Int} {zs : List Int} {at_ : ByteArray} (h : argB nw at_ ss zs = true) : chkX ks (sgTo ks ks.length) ss nw zs at_ = chk0 ks ss nw zs at_ := by
  unfold chkX chk0
  rw [h, Bool.and_true]

end Go.Proofs.YtecgonopefeplaaGreatDoor
